/- The model's rounds of adding a count: plain facts; counts in memory. l3Add of the model. l3Sum of the model. Merged and Flushed of the model. -/
import Derived.Test.YtbjejnkeekndbaaProg
import Derived.Test.YtbjejnkeekndbaaKa
import Derived.Test.YtbjejnkeekndbaaKc
import Derived.Test.YtbjejnkeekndbaaKe
import Derived.Test.YtbjejnkeekndbaaKh
import Derived.Laws.StructEq
namespace Go.Proofs.Ytbjejnkeekndbaa
open Go.RowKit

/-- One round of l3Add: what is told so far, and whether the count is in it. -/
def addStep (c : Ct) (s : List Ct × Bool) (x : Ct) : List Ct × Bool :=
  if s.2 = true then (s.1 ++ [x], true) else if owLt x.o c.o = true then (s.1 ++ [x], false) else
  if owEq x.o c.o = true then (if x.n + c.n ≠ 0 then (s.1 ++ [⟨c.o, x.n + c.n⟩], true) else (s.1, true)) else (s.1 ++ [c] ++ [x], true)

def addEnd (c : Ct) (s : List Ct × Bool) : List Ct := if s.2 = true then s.1 else s.1 ++ [c]

theorem add_done (c : Ct) : ∀ (l out : List Ct), l.foldl (addStep c) (out, true) = (out ++ l, true)
  | [], out => by simp
  | x :: r, out => by
    rw [List.foldl_cons, show addStep c (out, true) x = (out ++ [x], true) by simp [addStep], add_done c r]
    simp

theorem add_fold (c : Ct) : ∀ (l out : List Ct), addEnd c (l.foldl (addStep c) (out, false)) = out ++ addC l c
  | [], out => by simp [addEnd, addC]
  | x :: r, out => by
    rw [List.foldl_cons]
    unfold addC
    by_cases h1 : owLt x.o c.o = true
    · rw [show addStep c (out, false) x = (out ++ [x], false) by simp [addStep, h1], add_fold c r, if_pos h1]
      simp
    · by_cases h2 : owEq x.o c.o = true
      · by_cases h3 : x.n + c.n ≠ 0
        · rw [show addStep c (out, false) x = (out ++ [⟨c.o, x.n + c.n⟩], true) by simp [addStep, h1, h2, h3], add_done, if_neg h1, if_pos h2, if_pos h3]
          simp [addEnd]
        · rw [show addStep c (out, false) x = (out, true) by simp [addStep, h1, h2, h3], add_done, if_neg h1, if_pos h2, if_neg h3]
          simp [addEnd]
      · rw [show addStep c (out, false) x = (out ++ [c] ++ [x], true) by simp [addStep, h1, h2], add_done, if_neg h1, if_neg h2]
        simp [addEnd]

theorem add_len (c : Ct) (s : List Ct × Bool) (x : Ct) : (addStep c s x).1.length + (if s.2 = true then 1 else 0) ≤ s.1.length + 1 + (if (addStep c s x).2 = true then 1 else 0) := by
  obtain ⟨o, d⟩ := s
  unfold addStep
  cases d <;> simp
  split
  · simp
  · split
    · split <;> simp <;> omega
    · simp

theorem ccs_len (p : Ct) : p.cs.length = 4 := rfl
theorem ccs_one (l : List Ct) : ∀ u ∈ l.flatMap Ct.cs, u.oneCell' = true := by
  intro u hu
  obtain ⟨p, _, hp⟩ := List.mem_flatMap.1 hu
  simp [Ct.cs] at hp
  rcases hp with rfl | rfl | rfl | rfl <;> rfl

theorem sl_oneC {w : World} {b : Nat} {p : Ct} (h0 : w.cell? ⟨b, 0, none⟩ = some (.int .i64 p.o.a)) (h1 : w.cell? ⟨b, 1, none⟩ = some (.int .i64 p.o.v)) (h2 : w.cell? ⟨b, 2, none⟩ = some (.string p.o.f)) (h3 : w.cell? ⟨b, 3, none⟩ = some (.int .i64 p.n)) : CtsAt w (some ⟨b, 0, none⟩) 1 [p] := by
  refine ⟨rfl, fun i x hx => ⟨b, 0, rfl, fun j v hv => ?_⟩⟩
  have hi : i = 0 := by have := (List.getElem?_eq_some_iff.1 hx).1; simp at this; exact this
  subst hi
  simp at hx
  subst hx
  match j, hv with
  | 0, hv => obtain rfl := Option.some.inj hv; exact h0
  | 1, hv => obtain rfl := Option.some.inj hv; exact h1
  | 2, hv => obtain rfl := Option.some.inj hv; exact h2
  | 3, hv => obtain rfl := Option.some.inj hv; exact h3
  | j + 4, hv => simp [Ct.cs] at hv
theorem sl_newC (w : World) (p : Ct) (t : TypeId) (b : Nat) (hb : b = w.heap.size) : CtsAt (w.alloc (.cells #[.int .i64 p.o.a, .int .i64 p.o.v, .string p.o.f, .int .i64 p.n] t)) (some ⟨b, 0, none⟩) 1 [p] := by
  subst hb; exact sl_oneC (by simp) (by simp) (by simp) (by simp)

theorem infoC : (Try.prog.info? 66).map (fun i => (i.zero, i.size, i.bytes)) = some (some (.agg #[.int .i64 0, .int .i64 0, .string .empty, .int .i64 0]), 4, 40) := by kernel_rfl
end Go.Proofs.Ytbjejnkeekndbaa
namespace Go.Proofs.Ytbjejnkeekndbaa
open Go.RowKit Go.BigFrame

theorem eqlO (p q : Ow) (w : World) : (binOp .eql 64 (.agg #[.int .i64 p.a, .int .i64 p.v, .string p.f]) (.agg #[.int .i64 q.a, .int .i64 q.v, .string q.f])).run Try.prog w = .ok (.bool (owEq p q)) w := by
  have u2 := Try.underlying2
  have u9 := Try.underlying9
  have a2 := Try.isAgg2
  have a9 := Try.isAgg9
  have z2 := Try.sizeOf2
  have z9 := Try.sizeOf9
  have hS : Try.prog.underlying 64 = some (.struct (Try.prog.fieldsOf 64)) := by kernel_rfl
  have hp : Try.prog.stoodInHeld 64 = false := by kernel_rfl
  rw [run_eql_struct, show (10000 : Nat) = 9999 + 1 from rfl, run_equalIn_agg w 9999 64 _ _ hS hp]
  simp only [Program.fieldsOf, Try.underlying64]
  go_simp
  unfold owEq
  by_cases h1 : p.a = q.a <;> by_cases h2 : p.v = q.v <;> by_cases h3 : p.f.toList = q.f.toList <;> simp [h1, h2, h3]

/-- The first k rounds. -/
def addK (c : Ct) (l : List Ct) (k : Nat) : List Ct × Bool := (l.take k).foldl (addStep c) ([], false)
theorem addK_succ {c : Ct} {l : List Ct} {k : Nat} {p : Ct} (h : l[k]? = some p) : addK c l (k + 1) = addStep c (addK c l k) p := by
  have hk := (List.getElem?_eq_some_iff.1 h).1
  unfold addK
  rw [List.take_add_one, h]
  simp
theorem addK_all {c : Ct} {l : List Ct} {n : Nat} (h : l.length = n) : addEnd c (addK c l n) = addC l c := by
  unfold addK
  rw [List.take_of_length_le (Nat.le_of_eq h), add_fold]
  rfl

set_option maxHeartbeats 2000000 in
set_option maxRecDepth 100000 in
theorem spec_l3Add (a : Option Addr) (n cap : Nat) (l : List Ct) (c : Ct) (w : World) (h : CtsAt w a n l) (hn : n ≤ 4194304) (hb : ∀ x ∈ l, -1000000000 ≤ x.n ∧ x.n ≤ 1000000000) (hc : -1000000000 ≤ c.n ∧ c.n ≤ 1000000000) :
    Calls Try.prog 144 #[.slice a n cap, .agg #[.int .i64 c.o.a, .int .i64 c.o.v, .string c.o.f, .int .i64 c.n]] w fun e w' => (∃ a' n' cap', e = .returned (.slice a' n' cap') ∧ n' ≤ n + 1 ∧ ResAt Ct.cs 4 66 w' w.heap.size a' n' cap' (addC l c)) ∧ Below w.heap.size w w' := by
  have hlen : Hid (l.length = n) := h.len
  obtain ⟨i0, hi, hz0, hz1, hz2⟩ := info_parts infoC
  go_enter Try.func144, Try.ntmps144
  go_wp2_with fail
  go_loopw [5, 6, 7] (fun out dn ix wr => ∃ (k : Nat) (a2 : Option Addr) (n2 cap2 : Nat), k ≤ n ∧ ix = .int .i64 k ∧ dn = .bool (addK c l k).2 ∧ out = .slice a2 n2 cap2 ∧ n2 ≤ k + (if (addK c l k).2 = true then 1 else 0) ∧ ResAt Ct.cs 4 66 wr (w.heap.size + 1) a2 n2 cap2 (addK c l k).1 ∧ CtsAt wr (some ⟨w.heap.size, 0, none⟩) 1 [c] ∧ w.heap.size + 1 ≤ wr.heap.size ∧ Below w.heap.size w wr) (fun _ _ ix _ => n - (intOf ix).toNat)
  case atStart => exact ⟨0, _, 0, 0, Nat.zero_le _, rfl, rfl, rfl, Nat.zero_le _, res_empty (Blk.new' _ _ _ _ (by simp)) (by simp), (sl_newC _ c _ _ rfl).alloc _, by simp, by go_grown⟩
  case round =>
    obtain ⟨k, a2, n2, cap2, hk, rfl, rfl, rfl, hn2, R2, C2, hw2, hB⟩ := hrel
    have hsz := hB.size
    obtain ⟨_, _, c', hcb, hc', z0, z1, z2, z3⟩ := cts_at C2 (k := 0) (by omega)
    cases hcb
    simp at hc'
    subst hc'
    simp only [Nat.zero_mul, Nat.add_zero, Nat.zero_add] at z0 z1 z2 z3
    by_cases hlt : k < n
    · obtain ⟨b, o, p, rfl, hp, c0, c1, c2, c3⟩ := cts_at (h.below hB) hlt
      have hst : Hid (addK c l (k + 1) = addStep c (addK c l k) p) := addK_succ hp
      obtain ⟨hb1, hb2⟩ := hb p (List.mem_of_getElem? hp)
      have hlb : b < wr.heap.size := World.block_lt_of_cell? wr _ c0
      have hbw : b < w.heap.size := by
        obtain ⟨b', o', p', hbo, _, d0, _⟩ := cts_at h hlt
        obtain ⟨rfl, rfl⟩ : b = b' ∧ o = o' := by simpa using hbo
        exact World.block_lt_of_cell? w _ d0
      clear hp hb
      generalize addK c l k = G at *
      obtain ⟨gk, d⟩ := G
      simp only at *
      have hk1 : (k : Int) < n := by omega
      have hk2 : (0 : Int) ≤ k := by omega
      cases d
      · have hn3 : n2 ≤ k := by simpa using hn2
        clear hn2
        cases hl : owLt p.o c.o
        · have heq := eqlO p.o c.o
          cases hee : owEq p.o c.o
          · have he : Hid (addStep c (gk, false) p = (gk ++ [c] ++ [p], true)) := by show _ = _; simp [addStep, hl, hee]
            rw [hee] at heq
            go_wp2_with fail
            have g0 := gcell c0
            have g1 := gcell c1
            have g2 := gcell c2
            have g3 := gcell c3
            have k0 := gcell z0
            have k1 := gcell z1
            have k2 := gcell z2
            have k3 := gcell z3
            have hne := grw_ne wr
            refine wp_region_grow (by kernel_rfl) (by kernel_rfl) ?_
            repeat (go_big_quiet_step (first | (go_at_call 149; have qq := fun w => spec_OwnerAhead p.o c.o w; rw [hl] at qq; exact grow_of (qq _))))
            refine wpQuiet_nil ?_
            intro wq hx
            have hq := grw_out hx
            clear hx g0 g1 g2 g3 k0 k1 k2 k3 hne
            have hqs := hq.size
            replace R2 := R2.below hq
            replace hB := chain hB hq
            replace z0 := bcell hq z0
            replace z1 := bcell hq z1
            replace z2 := bcell hq z2
            replace z3 := bcell hq z3
            replace c0 := bcell hq c0
            replace c1 := bcell hq c1
            replace c2 := bcell hq c2
            replace c3 := bcell hq c3
            replace hw2 := Nat.le_trans hw2 hqs
            replace hlb := Nat.lt_of_lt_of_le hlb hqs
            replace hsz := Nat.le_trans hsz hqs
            clear hq hqs
            clear C2
            go_wp2_with fail
            have g0 := gcell c0
            have g1 := gcell c1
            have g2 := gcell c2
            have g3 := gcell c3
            have k0 := gcell z0
            have k1 := gcell z1
            have k2 := gcell z2
            have k3 := gcell z3
            have hne := grw_ne wq
            refine wp_region_grow (by kernel_rfl) (by kernel_rfl) ?_
            repeat (go_big_quiet_step (first | (go_at_call 149; have qq := fun w => spec_OwnerAhead p.o c.o w; rw [hl] at qq; exact grow_of (qq _))))
            refine wpQuiet_nil ?_
            intro wq hx
            have hq := grw_out hx
            clear hx g0 g1 g2 g3 k0 k1 k2 k3 hne
            have hqs := hq.size
            replace R2 := R2.below hq
            replace hB := chain hB hq
            replace z0 := bcell hq z0
            replace z1 := bcell hq z1
            replace z2 := bcell hq z2
            replace z3 := bcell hq z3
            replace c0 := bcell hq c0
            replace c1 := bcell hq c1
            replace c2 := bcell hq c2
            replace c3 := bcell hq c3
            replace hw2 := Nat.le_trans hw2 hqs
            replace hlb := Nat.lt_of_lt_of_le hlb hqs
            replace hsz := Nat.le_trans hsz hqs
            clear hq hqs
            go_wp2_with (first | (at_builtin; refine wpList_app rfl (fun K hK => wp_app _ _ 58 rfl (w.heap.size + 1) 66 i0 (.agg #[.int .i64 0, .int .i64 0, .string .empty, .int .i64 0]) 40 Try.underlying58 hi hz0 hz1 hz2 rfl (by decide) ccs_len ccs_one a2 n2 cap2 gk rfl (R2.alloc _) _ 1 1 [c] rfl (sl_newC _ c _ _ (by simp)) (fun ad h => (by cases h; rfl)) (fun h => (by cases h)) (n2 + 1) rfl (by unfold maxLen; omega) (by omega) (by simp; omega) (fun a3 cap3 w3 R3 hg3 => hK _ _ ?_)); have hB3 : Below w.heap.size w w3 := Below.grown (hB.alloc hsz _) hg3 (by simp; omega) (own_ge fun ad had => (by have := (R2.block ad had).1; omega)); have y0 := hg3.cell (acell _ z0) (own_ne' (fun ad had => (R2.block ad had).1) (Nat.lt_succ_self _)); have y1 := hg3.cell (acell _ z1) (own_ne' (fun ad had => (R2.block ad had).1) (Nat.lt_succ_self _)); have y2 := hg3.cell (acell _ z2) (own_ne' (fun ad had => (R2.block ad had).1) (Nat.lt_succ_self _)); have y3 := hg3.cell (acell _ z3) (own_ne' (fun ad had => (R2.block ad had).1) (Nat.lt_succ_self _)); have hs3 : w.heap.size + 1 ≤ w3.heap.size := World.block_lt_of_cell? w3 _ y0; have d0 := hg3.cell (acell _ c0) (own_ne' (fun ad had => (R2.block ad had).1) (Nat.lt_succ_of_lt hbw)); have d1 := hg3.cell (acell _ c1) (own_ne' (fun ad had => (R2.block ad had).1) (Nat.lt_succ_of_lt hbw)); have d2 := hg3.cell (acell _ c2) (own_ne' (fun ad had => (R2.block ad had).1) (Nat.lt_succ_of_lt hbw)); have d3 := hg3.cell (acell _ c3) (own_ne' (fun ad had => (R2.block ad had).1) (Nat.lt_succ_of_lt hbw)); have hsz3 := hB3.size) | (at_builtin; refine wpList_app rfl (fun K hK => wp_app _ _ 58 rfl (w.heap.size + 1) 66 i0 (.agg #[.int .i64 0, .int .i64 0, .string .empty, .int .i64 0]) 40 Try.underlying58 hi hz0 hz1 hz2 rfl (by decide) ccs_len ccs_one a3 (n2 + 1) cap3 (gk ++ [c]) rfl (R3.alloc _) _ 1 1 [p] rfl (sl_newC _ p _ _ (by simp)) (fun ad h => (by cases h; rfl)) (fun h => (by cases h)) (n2 + 2) rfl (by unfold maxLen; omega) (by omega) (by simp; omega) (fun a4 cap4 w4 R4 hg4 => hK _ _ ?_))))
            have hB4 : Below w.heap.size w w4 := Below.grown (hB3.alloc hsz3 _) hg4 (by simp; omega) (own_ge fun ad had => (by have := (R3.block ad had).1; omega))
            have x0 := hg4.cell (acell _ y0) (own_ne' (fun ad had => (R3.block ad had).1) (Nat.lt_succ_self _))
            have x1 := hg4.cell (acell _ y1) (own_ne' (fun ad had => (R3.block ad had).1) (Nat.lt_succ_self _))
            have x2 := hg4.cell (acell _ y2) (own_ne' (fun ad had => (R3.block ad had).1) (Nat.lt_succ_self _))
            have x3 := hg4.cell (acell _ y3) (own_ne' (fun ad had => (R3.block ad had).1) (Nat.lt_succ_self _))
            have hs4 : w.heap.size + 1 ≤ w4.heap.size := World.block_lt_of_cell? w4 _ x0
            go_wp2
            go_roundw
            case rel => exact ⟨k + 1, a4, n2 + 2, cap4, by omega, by go_num, by rw [hst.out, he.out], rfl, by rw [hst.out, he.out]; simp; omega, by rw [hst.out, he.out]; exact R4, sl_oneC x0 x1 x2 x3, hs4, hB4⟩
            case measure => simp [intOf]; omega
          · rw [hee] at heq
            by_cases hs0 : p.n + c.n = 0
            · have he : Hid (addStep c (gk, false) p = (gk, true)) := by show _ = _; simp [addStep, hl, hee, hs0]
              go_wp2_with fail
              have g0 := gcell c0
              have g1 := gcell c1
              have g2 := gcell c2
              have g3 := gcell c3
              have k0 := gcell z0
              have k1 := gcell z1
              have k2 := gcell z2
              have k3 := gcell z3
              have hne := grw_ne wr
              refine wp_region_grow (by kernel_rfl) (by kernel_rfl) ?_
              repeat (go_big_quiet_step (first | (go_at_call 149; have qq := fun w => spec_OwnerAhead p.o c.o w; rw [hl] at qq; exact grow_of (qq _))))
              refine wpQuiet_nil ?_
              intro wq hx
              have hq := grw_out hx
              clear hx g0 g1 g2 g3 k0 k1 k2 k3 hne
              have hqs := hq.size
              replace R2 := R2.below hq
              replace hB := chain hB hq
              replace z0 := bcell hq z0
              replace z1 := bcell hq z1
              replace z2 := bcell hq z2
              replace z3 := bcell hq z3
              replace c0 := bcell hq c0
              replace c1 := bcell hq c1
              replace c2 := bcell hq c2
              replace c3 := bcell hq c3
              replace hw2 := Nat.le_trans hw2 hqs
              replace hlb := Nat.lt_of_lt_of_le hlb hqs
              replace hsz := Nat.le_trans hsz hqs
              clear hq hqs
              clear C2
              go_wp2_with fail
              have g0 := gcell c0
              have g1 := gcell c1
              have g2 := gcell c2
              have g3 := gcell c3
              have k0 := gcell z0
              have k1 := gcell z1
              have k2 := gcell z2
              have k3 := gcell z3
              have hne := grw_ne wq
              refine wp_region_grow (by kernel_rfl) (by kernel_rfl) ?_
              repeat (go_big_quiet_step (first | (go_at_call 149; have qq := fun w => spec_OwnerAhead p.o c.o w; rw [hl] at qq; exact grow_of (qq _))))
              refine wpQuiet_nil ?_
              intro wq hx
              have hq := grw_out hx
              clear hx g0 g1 g2 g3 k0 k1 k2 k3 hne
              have hqs := hq.size
              replace R2 := R2.below hq
              replace hB := chain hB hq
              replace z0 := bcell hq z0
              replace z1 := bcell hq z1
              replace z2 := bcell hq z2
              replace z3 := bcell hq z3
              replace c0 := bcell hq c0
              replace c1 := bcell hq c1
              replace c2 := bcell hq c2
              replace c3 := bcell hq c3
              replace hw2 := Nat.le_trans hw2 hqs
              replace hlb := Nat.lt_of_lt_of_le hlb hqs
              replace hsz := Nat.le_trans hsz hqs
              clear hq hqs
              go_wp2_with fail
              have g0 := gcell c0
              have g1 := gcell c1
              have g2 := gcell c2
              have g3 := gcell c3
              have k0 := gcell z0
              have k1 := gcell z1
              have k2 := gcell z2
              have k3 := gcell z3
              have hne := grw_ne wq
              refine wp_region_grow (by kernel_rfl) (by kernel_rfl) ?_
              repeat (go_big_quiet_step (first | (go_at_call 149; have qq := fun w => spec_OwnerAhead p.o c.o w; rw [hl] at qq; exact grow_of (qq _))))
              refine wpQuiet_nil ?_
              intro wq hx
              have hq := grw_out hx
              clear hx g0 g1 g2 g3 k0 k1 k2 k3 hne
              have hqs := hq.size
              replace R2 := R2.below hq
              replace hB := chain hB hq
              replace z0 := bcell hq z0
              replace z1 := bcell hq z1
              replace z2 := bcell hq z2
              replace z3 := bcell hq z3
              replace c0 := bcell hq c0
              replace c1 := bcell hq c1
              replace c2 := bcell hq c2
              replace c3 := bcell hq c3
              replace hw2 := Nat.le_trans hw2 hqs
              replace hlb := Nat.lt_of_lt_of_le hlb hqs
              replace hsz := Nat.le_trans hsz hqs
              clear hq hqs
              go_wp2
              go_roundw
              case rel => exact ⟨k + 1, a2, n2, cap2, by omega, by go_num, by rw [hst.out, he.out], rfl, by rw [hst.out, he.out]; simp; omega, by rw [hst.out, he.out]; exact R2, sl_oneC z0 z1 z2 z3, hw2, hB⟩
              case measure => simp [intOf]; omega
            · have he : Hid (addStep c (gk, false) p = (gk ++ [⟨c.o, p.n + c.n⟩], true)) := by show _ = _; simp [addStep, hl, hee, hs0]
              go_wp2_with fail
              have g0 := gcell c0
              have g1 := gcell c1
              have g2 := gcell c2
              have g3 := gcell c3
              have k0 := gcell z0
              have k1 := gcell z1
              have k2 := gcell z2
              have k3 := gcell z3
              have hne := grw_ne wr
              refine wp_region_grow (by kernel_rfl) (by kernel_rfl) ?_
              repeat (go_big_quiet_step (first | (go_at_call 149; have qq := fun w => spec_OwnerAhead p.o c.o w; rw [hl] at qq; exact grow_of (qq _))))
              refine wpQuiet_nil ?_
              intro wq hx
              have hq := grw_out hx
              clear hx g0 g1 g2 g3 k0 k1 k2 k3 hne
              have hqs := hq.size
              replace R2 := R2.below hq
              replace hB := chain hB hq
              replace z0 := bcell hq z0
              replace z1 := bcell hq z1
              replace z2 := bcell hq z2
              replace z3 := bcell hq z3
              replace c0 := bcell hq c0
              replace c1 := bcell hq c1
              replace c2 := bcell hq c2
              replace c3 := bcell hq c3
              replace hw2 := Nat.le_trans hw2 hqs
              replace hlb := Nat.lt_of_lt_of_le hlb hqs
              replace hsz := Nat.le_trans hsz hqs
              clear hq hqs
              clear C2
              go_wp2_with fail
              have g0 := gcell c0
              have g1 := gcell c1
              have g2 := gcell c2
              have g3 := gcell c3
              have k0 := gcell z0
              have k1 := gcell z1
              have k2 := gcell z2
              have k3 := gcell z3
              have hne := grw_ne wq
              refine wp_region_grow (by kernel_rfl) (by kernel_rfl) ?_
              repeat (go_big_quiet_step (first | (go_at_call 149; have qq := fun w => spec_OwnerAhead p.o c.o w; rw [hl] at qq; exact grow_of (qq _))))
              refine wpQuiet_nil ?_
              intro wq hx
              have hq := grw_out hx
              clear hx g0 g1 g2 g3 k0 k1 k2 k3 hne
              have hqs := hq.size
              replace R2 := R2.below hq
              replace hB := chain hB hq
              replace z0 := bcell hq z0
              replace z1 := bcell hq z1
              replace z2 := bcell hq z2
              replace z3 := bcell hq z3
              replace c0 := bcell hq c0
              replace c1 := bcell hq c1
              replace c2 := bcell hq c2
              replace c3 := bcell hq c3
              replace hw2 := Nat.le_trans hw2 hqs
              replace hlb := Nat.lt_of_lt_of_le hlb hqs
              replace hsz := Nat.le_trans hsz hqs
              clear hq hqs
              go_wp2_with fail
              have g0 := gcell c0
              have g1 := gcell c1
              have g2 := gcell c2
              have g3 := gcell c3
              have k0 := gcell z0
              have k1 := gcell z1
              have k2 := gcell z2
              have k3 := gcell z3
              have hne := grw_ne wq
              refine wp_region_grow (by kernel_rfl) (by kernel_rfl) ?_
              repeat (go_big_quiet_step (first | (go_at_call 149; have qq := fun w => spec_OwnerAhead p.o c.o w; rw [hl] at qq; exact grow_of (qq _))))
              refine wpQuiet_nil ?_
              intro wq hx
              have hq := grw_out hx
              clear hx g0 g1 g2 g3 k0 k1 k2 k3 hne
              have hqs := hq.size
              replace R2 := R2.below hq
              replace hB := chain hB hq
              replace z0 := bcell hq z0
              replace z1 := bcell hq z1
              replace z2 := bcell hq z2
              replace z3 := bcell hq z3
              replace c0 := bcell hq c0
              replace c1 := bcell hq c1
              replace c2 := bcell hq c2
              replace c3 := bcell hq c3
              replace hw2 := Nat.le_trans hw2 hqs
              replace hlb := Nat.lt_of_lt_of_le hlb hqs
              replace hsz := Nat.le_trans hsz hqs
              clear hq hqs
              have hwr : Hid (IntKind.i64.wrap (p.n + c.n) = p.n + c.n) := by show _ = _; rw [IntKind.wrap_i64]; omega
              go_wp2_with fail
              go_region_held3 (fun u => u.cell? ⟨w.heap.size, 0, none⟩ = some (.int .i64 c.o.a) ∧ u.cell? ⟨w.heap.size, 1, none⟩ = some (.int .i64 c.o.v) ∧ u.cell? ⟨w.heap.size, 2, none⟩ = some (.string c.o.f) ∧ u.cell? ⟨w.heap.size, 3, none⟩ = some (.int .i64 c.n) ∧ u.cell? ⟨b, o + k * 4 + 3, none⟩ = some (.int .i64 p.n)) (go_keep) (first | (refine step_app rfl (wp_app _ _ 58 rfl (w.heap.size + 1) 66 i0 (.agg #[.int .i64 0, .int .i64 0, .string .empty, .int .i64 0]) 40 Try.underlying58 hi hz0 hz1 hz2 rfl (by decide) ccs_len ccs_one a2 n2 cap2 gk rfl (R2.below (by go_grown)) _ 1 1 [(⟨c.o, IntKind.i64.wrap (p.n + c.n)⟩ : Ct)] rfl (by first | exact sl_newC _ (⟨c.o, IntKind.i64.wrap (p.n + c.n)⟩ : Ct) _ _ (by first | rfl | simp) | exact (sl_newC _ (⟨c.o, IntKind.i64.wrap (p.n + c.n)⟩ : Ct) _ _ (by first | rfl | simp)).drew) (fun ad h => (by cases h; rfl)) (fun h => (by cases h)) (n2 + 1) rfl (by unfold maxLen; omega) (by omega) (by first | omega | (simp; omega) | (show w.heap.size + 1 ≤ (World.alloc _ _).heap.size; simp; omega)) ?_); intro a3 cap3 w3 R3 hg3; have y0 := hg3.cell (a := ⟨w.heap.size, 0, none⟩) (by first | exact acell _ z0 | exact acell _ (acell _ z0)) (own_ne' (fun ad had => (R2.block ad had).1) (Nat.lt_succ_self _)); have y1 := hg3.cell (a := ⟨w.heap.size, 1, none⟩) (by first | exact acell _ z1 | exact acell _ (acell _ z1)) (own_ne' (fun ad had => (R2.block ad had).1) (Nat.lt_succ_self _)); have y2 := hg3.cell (a := ⟨w.heap.size, 2, none⟩) (by first | exact acell _ z2 | exact acell _ (acell _ z2)) (own_ne' (fun ad had => (R2.block ad had).1) (Nat.lt_succ_self _)); have y3 := hg3.cell (a := ⟨w.heap.size, 3, none⟩) (by first | exact acell _ z3 | exact acell _ (acell _ z3)) (own_ne' (fun ad had => (R2.block ad had).1) (Nat.lt_succ_self _)); have yb := hg3.cell (a := ⟨b, o + k * 4 + 3, none⟩) (by first | exact acell _ c3 | exact acell _ (acell _ c3)) (own_ne' (fun ad had => (R2.block ad had).1) (Nat.lt_succ_of_lt hbw))))
              have hB3 : Below w.heap.size w w3 := Below.grown (chain hB (by go_grown)) hg3 (by first | omega | (simp; omega)) (own_ge fun ad had => (by have := (R2.block ad had).1; omega))
              have hs3 : w.heap.size + 1 ≤ w3.heap.size := World.block_lt_of_cell? w3 _ y0
              rw [hwr.out] at R3
              go_wp2
              go_roundw
              case rel => exact ⟨k + 1, a3, n2 + 1, cap3, by omega, by go_num, by rw [hst.out, he.out], rfl, by rw [hst.out, he.out]; simp; omega, by rw [hst.out, he.out]; exact R3, sl_oneC y0 y1 y2 y3, hs3, hB3⟩
              case measure => simp [intOf]; omega
        · have he : Hid (addStep c (gk, false) p = (gk ++ [p], false)) := by show _ = _; simp [addStep, hl]
          go_wp2_with fail
          have g0 := gcell c0
          have g1 := gcell c1
          have g2 := gcell c2
          have g3 := gcell c3
          have k0 := gcell z0
          have k1 := gcell z1
          have k2 := gcell z2
          have k3 := gcell z3
          have hne := grw_ne wr
          refine wp_region_grow (by kernel_rfl) (by kernel_rfl) ?_
          repeat (go_big_quiet_step (first | (go_at_call 149; have qq := fun w => spec_OwnerAhead p.o c.o w; rw [hl] at qq; exact grow_of (qq _))))
          refine wpQuiet_nil ?_
          intro wq hx
          have hq := grw_out hx
          clear hx g0 g1 g2 g3 k0 k1 k2 k3 hne
          have hqs := hq.size
          replace R2 := R2.below hq
          replace hB := chain hB hq
          replace z0 := bcell hq z0
          replace z1 := bcell hq z1
          replace z2 := bcell hq z2
          replace z3 := bcell hq z3
          replace c0 := bcell hq c0
          replace c1 := bcell hq c1
          replace c2 := bcell hq c2
          replace c3 := bcell hq c3
          replace hw2 := Nat.le_trans hw2 hqs
          replace hlb := Nat.lt_of_lt_of_le hlb hqs
          replace hsz := Nat.le_trans hsz hqs
          clear hq hqs
          clear C2
          go_wp2_with (at_builtin; refine wpList_app rfl (fun K hK => wp_app _ _ 58 rfl (w.heap.size + 1) 66 i0 (.agg #[.int .i64 0, .int .i64 0, .string .empty, .int .i64 0]) 40 Try.underlying58 hi hz0 hz1 hz2 rfl (by decide) ccs_len ccs_one a2 n2 cap2 gk rfl (R2.alloc _) _ 1 1 [p] rfl (sl_newC _ p _ _ (by simp)) (fun ad h => (by cases h; rfl)) (fun h => (by cases h)) (n2 + 1) rfl (by unfold maxLen; omega) (by omega) (by simp; omega) (fun a3 cap3 w3 R3 hg3 => hK _ _ ?_)))
          have hB3 : Below w.heap.size w w3 := Below.grown (hB.alloc hsz _) hg3 (by simp; omega) (own_ge fun ad had => (by have := (R2.block ad had).1; omega))
          have y0 := hg3.cell (acell _ z0) (own_ne' (fun ad had => (R2.block ad had).1) (Nat.lt_succ_self _))
          have y1 := hg3.cell (acell _ z1) (own_ne' (fun ad had => (R2.block ad had).1) (Nat.lt_succ_self _))
          have y2 := hg3.cell (acell _ z2) (own_ne' (fun ad had => (R2.block ad had).1) (Nat.lt_succ_self _))
          have y3 := hg3.cell (acell _ z3) (own_ne' (fun ad had => (R2.block ad had).1) (Nat.lt_succ_self _))
          have hs3 : w.heap.size + 1 ≤ w3.heap.size := World.block_lt_of_cell? w3 _ y0
          go_wp2
          go_roundw
          case rel => exact ⟨k + 1, a3, n2 + 1, cap3, by omega, by go_num, by rw [hst.out, he.out], rfl, by rw [hst.out, he.out]; simp; omega, by rw [hst.out, he.out]; exact R3, sl_oneC y0 y1 y2 y3, hs3, hB3⟩
          case measure => simp [intOf]; omega
      · have he : Hid (addStep c (gk, true) p = (gk ++ [p], true)) := by show _ = _; simp [addStep]
        have hn3 : n2 ≤ k + 1 := by simpa using hn2
        clear hn2
        go_wp2_with fail
        go_quiet (fail)
        have hq := drewNB wr nq
        have hqs := hq.size
        replace R2 := R2.below hq
        replace hB := chain hB hq
        replace z0 := bcell hq z0
        replace z1 := bcell hq z1
        replace z2 := bcell hq z2
        replace z3 := bcell hq z3
        replace c0 := bcell hq c0
        replace c1 := bcell hq c1
        replace c2 := bcell hq c2
        replace c3 := bcell hq c3
        replace hw2 := Nat.le_trans hw2 hqs
        replace hlb := Nat.lt_of_lt_of_le hlb hqs
        replace hsz := Nat.le_trans hsz hqs
        clear hq hqs C2
        generalize wr.drewN nq = wq at *
        go_wp2_with (at_builtin; refine wpList_app rfl (fun K hK => wp_app _ _ 58 rfl (w.heap.size + 1) 66 i0 (.agg #[.int .i64 0, .int .i64 0, .string .empty, .int .i64 0]) 40 Try.underlying58 hi hz0 hz1 hz2 rfl (by decide) ccs_len ccs_one a2 n2 cap2 gk rfl (R2.alloc _) _ 1 1 [p] rfl (sl_newC _ p _ _ (by simp)) (fun ad h => (by cases h; rfl)) (fun h => (by cases h)) (n2 + 1) rfl (by unfold maxLen; omega) (by omega) (by simp; omega) (fun a3 cap3 w3 R3 hg3 => hK _ _ ?_)))
        have hB3 : Below w.heap.size w w3 := Below.grown (hB.alloc hsz _) hg3 (by simp; omega) (own_ge fun ad had => (by have := (R2.block ad had).1; omega))
        have y0 := hg3.cell (acell _ z0) (own_ne' (fun ad had => (R2.block ad had).1) (Nat.lt_succ_self _))
        have y1 := hg3.cell (acell _ z1) (own_ne' (fun ad had => (R2.block ad had).1) (Nat.lt_succ_self _))
        have y2 := hg3.cell (acell _ z2) (own_ne' (fun ad had => (R2.block ad had).1) (Nat.lt_succ_self _))
        have y3 := hg3.cell (acell _ z3) (own_ne' (fun ad had => (R2.block ad had).1) (Nat.lt_succ_self _))
        have hs3 : w.heap.size + 1 ≤ w3.heap.size := World.block_lt_of_cell? w3 _ y0
        go_wp2
        go_roundw
        case rel => exact ⟨k + 1, a3, n2 + 1, cap3, by omega, by go_num, by rw [hst.out, he.out], rfl, by rw [hst.out, he.out]; simp; omega, by rw [hst.out, he.out]; exact R3, sl_oneC y0 y1 y2 y3, hs3, hB3⟩
        case measure => simp [intOf]; omega
    · obtain rfl : k = n := by omega
      have hst : Hid (addEnd c (addK c l k) = addC l c) := addK_all hlen.out
      generalize addK c l k = G at *
      obtain ⟨gk, d⟩ := G
      simp only at *
      cases d
      · have he : Hid (addEnd c (gk, false) = gk ++ [c]) := by show _ = _; simp [addEnd]
        have hn3 : n2 ≤ k := by simpa using hn2
        clear hn2 C2
        go_wp2_with (at_builtin; refine wpList_app rfl (fun K hK => wp_app _ _ 58 rfl (w.heap.size + 1) 66 i0 (.agg #[.int .i64 0, .int .i64 0, .string .empty, .int .i64 0]) 40 Try.underlying58 hi hz0 hz1 hz2 rfl (by decide) ccs_len ccs_one a2 n2 cap2 gk rfl (R2.alloc _) _ 1 1 [c] rfl (sl_newC _ c _ _ (by simp)) (fun ad h => (by cases h; rfl)) (fun h => (by cases h)) (n2 + 1) rfl (by unfold maxLen; omega) (by omega) (by simp; omega) (fun a3 cap3 w3 R3 hg3 => hK _ _ ?_)))
        have hB3 : Below w.heap.size w w3 := Below.grown (hB.alloc hsz _) hg3 (by simp; omega) (own_ge fun ad had => (by have := (R2.block ad had).1; omega))
        go_wp2
        go_returns
        exact ⟨⟨a3, n2 + 1, cap3, rfl, by omega, by rw [← hst.out, he.out]; exact R3.mono (by omega)⟩, hB3⟩
      · have he : Hid (addEnd c (gk, true) = gk) := by show _ = _; simp [addEnd]
        have hn3 : n2 ≤ k + 1 := by simpa using hn2
        clear hn2
        go_wp2
        go_returns
        exact ⟨⟨a2, n2, cap2, rfl, by omega, by rw [← hst.out, he.out]; exact R2.mono (by omega)⟩, hB⟩
end Go.Proofs.Ytbjejnkeekndbaa
namespace Go.Proofs.Ytbjejnkeekndbaa
open Go.RowKit Go.BigFrame

theorem bound_addC {B : Int} (hB : 0 ≤ B) {c : Ct} (h1 : -1000 ≤ c.n) (h2 : c.n ≤ 1000) : ∀ {l : List Ct}, (∀ x ∈ l, -B ≤ x.n ∧ x.n ≤ B) → ∀ x ∈ addC l c, -(B + 1000) ≤ x.n ∧ x.n ≤ B + 1000
  | [], _ => by intro x hx; simp [addC] at hx; subst hx; omega
  | y :: r, h => by
    have hy := h y (by simp)
    have hr : ∀ x ∈ r, -B ≤ x.n ∧ x.n ≤ B := fun x hx => h x (by simp [hx])
    have hr' : ∀ x ∈ r, -(B + 1000) ≤ x.n ∧ x.n ≤ B + 1000 := fun x hx => by have := hr x hx; omega
    unfold addC
    split
    · intro x hx
      rcases List.mem_cons.1 hx with rfl | hx
      · omega
      · exact bound_addC hB h1 h2 hr x hx
    · split
      · split
        · intro x hx
          rcases List.mem_cons.1 hx with rfl | hx
          · simp only; omega
          · exact hr' x hx
        · exact hr'
      · intro x hx
        rcases List.mem_cons.1 hx with rfl | hx
        · omega
        · rcases List.mem_cons.1 hx with rfl | hx
          · omega
          · exact hr' x hx

/-- The first k of them added. -/
def sumK (l more : List Ct) (k : Nat) : List Ct := (more.take k).foldl addC l
theorem sumK_succ {l more : List Ct} {k : Nat} {p : Ct} (h : more[k]? = some p) : sumK l more (k + 1) = addC (sumK l more k) p := by
  unfold sumK
  rw [List.take_add_one, h]
  simp
theorem sumK_all {l more : List Ct} {n : Nat} (h : more.length = n) : sumK l more n = sumC l more := by
  unfold sumK sumC
  rw [List.take_of_length_le (Nat.le_of_eq h)]

set_option maxHeartbeats 2000000 in
set_option maxRecDepth 100000 in
theorem spec_l3Sum (a : Option Addr) (n cap : Nat) (l : List Ct) (a' : Option Addr) (n' cap' : Nat) (more : List Ct) (w : World) (h : CtsAt w a n l) (ha1 : ∀ ad, a = some ad → ad.spot = none) (ha2 : a = none → cap = 0) (h' : CtsAt w a' n' more) (hn : n ≤ 200) (hn' : n' ≤ 200) (hb : ∀ x ∈ l, -1000 ≤ x.n ∧ x.n ≤ 1000) (hb' : ∀ x ∈ more, -1000 ≤ x.n ∧ x.n ≤ 1000) :
    Calls Try.prog 110 #[.slice a n cap, .slice a' n' cap'] w fun e w' => (∃ a2 n2 cap2, e = .returned (.slice a2 n2 cap2) ∧ n2 ≤ n + n' ∧ ResAt Ct.cs 4 66 w' w.heap.size a2 n2 cap2 (sumC l more)) ∧ Below w.heap.size w w' := by
  have hlen : Hid (l.length = n) := h.len
  have hlen' : Hid (more.length = n') := h'.len
  obtain ⟨i0, hi, hz0, hz1, hz2⟩ := info_parts infoC
  go_enter Try.func110, Try.ntmps110
  go_wp2_with (at_builtin; refine wpList_app rfl (fun K hK => wp_app _ _ 58 rfl w.heap.size 66 i0 (.agg #[.int .i64 0, .int .i64 0, .string .empty, .int .i64 0]) 40 Try.underlying58 hi hz0 hz1 hz2 rfl (by decide) ccs_len ccs_one _ 0 0 [] rfl (res_empty (Blk.new' _ _ _ _ (by simp)) (by simp)) a n cap l rfl (h.alloc _) ha1 ha2 n (Nat.zero_add _) (by unfold maxLen; omega) (by omega) (by simp) (fun a1 cap1 w1 hr1 hg1 => hK _ _ ?_)))
  have hB1 : Below w.heap.size w w1 := Below.grown (by go_grown) hg1 (by simp) (fun k e => by simp [Value.ownBlock] at e; omega)
  rw [List.nil_append] at hr1
  go_loopw [5, 6] (fun out ix wr => ∃ (k : Nat) (a2 : Option Addr) (n2 cap2 : Nat), k ≤ n' ∧ ix = .int .i64 k ∧ out = .slice a2 n2 cap2 ∧ n2 ≤ n + k ∧ ResAt Ct.cs 4 66 wr w.heap.size a2 n2 cap2 (sumK l more k) ∧ (∀ x ∈ sumK l more k, -(1000 + 1000 * (k : Int)) ≤ x.n ∧ x.n ≤ 1000 + 1000 * (k : Int)) ∧ Below w.heap.size w wr) (fun _ ix _ => n' - (intOf ix).toNat)
  case atStart => exact ⟨0, _, n, cap1, Nat.zero_le _, rfl, rfl, by omega, hr1, by simpa [sumK] using hb, hB1⟩
  case round =>
    obtain ⟨k, a2, n2, cap2, hk, rfl, rfl, hn2, R2, hbk, hB⟩ := hrel
    have hsz := hB.size
    by_cases hlt : k < n'
    · obtain ⟨b, o, p, rfl, hp, c0, c1, c2, c3⟩ := cts_at (h'.below hB) hlt
      have hst : Hid (sumK l more (k + 1) = addC (sumK l more k) p) := sumK_succ hp
      obtain ⟨hb1, hb2⟩ := hb' p (List.mem_of_getElem? hp)
      have hbn := bound_addC (B := 1000 + 1000 * (k : Int)) (by omega) hb1 hb2 hbk
      have hbk' : ∀ x ∈ sumK l more k, -1000000000 ≤ x.n ∧ x.n ≤ 1000000000 := fun x hx => by have := hbk x hx; omega
      clear hp
      generalize sumK l more k = G at *
      have hk1 : (k : Int) < n' := by omega
      have hk2 : (0 : Int) ≤ k := by omega
      go_wp2_with fail
      refine (spec_l3Add a2 n2 cap2 G p wr R2.sl (by omega) hbk' ⟨by omega, by omega⟩).mono ?_
      rintro e w3 ⟨⟨a3, n3, cap3, rfl, hn3, R3⟩, hB3⟩
      have hB4 := chain hB hB3
      go_wp2
      go_roundw
      case rel => exact ⟨k + 1, a3, n3, cap3, by omega, by go_num, rfl, by omega, by rw [hst.out]; exact R3.mono hsz, by rw [hst.out]; intro x hx; have := hbn x hx; omega, hB4⟩
      case measure => simp [intOf]; omega
    · obtain rfl : k = n' := by omega
      have hst : Hid (sumK l more k = sumC l more) := sumK_all hlen'.out
      go_wp2
      go_returns
      exact ⟨⟨a2, n2, cap2, rfl, hn2, by rw [← hst.out]; exact R2⟩, hB⟩
end Go.Proofs.Ytbjejnkeekndbaa
namespace Go.Proofs.Ytbjejnkeekndbaa
open Go.RowKit Go.BigFrame

def mergedL (l : List Ct) : List Ct := if lateOkB l = true then sumC [] l else []
def flushedO (refs late : List Ct) : Option (List Ct) := if refsOkB refs = true ∧ lateOkB late = true then (if refsOkB (sumC refs late) = true then some (sumC refs late) else none) else none

theorem late_bound {l : List Ct} (h : lateOkB l = true) : l.length ≤ 200 ∧ ∀ x ∈ l, -1000 ≤ x.n ∧ x.n ≤ 1000 := by
  simp only [lateOkB, Bool.and_eq_true, decide_eq_true_eq, List.all_eq_true] at h
  refine ⟨h.1, fun x hx => ?_⟩
  have := h.2 x hx
  simp only [lateB, Bool.and_eq_true, decide_eq_true_eq] at this
  exact ⟨this.1.1.2, this.1.2⟩

theorem str_addC {c : Ct} (hc : c.o.f.size ≤ 9223372036854775807) : ∀ {l : List Ct}, StrC l → StrC (addC l c)
  | [], _ => by intro x hx; simp [addC] at hx; subst hx; exact hc
  | y :: r, h => by
    have hy := h y (by simp)
    have hr : StrC r := fun x hx => h x (by simp [hx])
    unfold addC
    split
    · intro x hx
      rcases List.mem_cons.1 hx with rfl | hx
      · exact hy
      · exact str_addC hc hr x hx
    · split
      · split
        · intro x hx
          rcases List.mem_cons.1 hx with rfl | hx
          · exact hc
          · exact hr x hx
        · exact hr
      · intro x hx
        rcases List.mem_cons.1 hx with rfl | hx
        · exact hc
        · exact h x hx
theorem str_sumC : ∀ {more l : List Ct}, StrC l → StrC more → StrC (sumC l more)
  | [], l, h, _ => h
  | c :: r, l, h, hm => str_sumC (more := r) (l := addC l c) (str_addC (hm c (by simp)) h) (fun x hx => hm x (by simp [hx]))

set_option maxHeartbeats 2000000 in
set_option maxRecDepth 100000 in
theorem spec_Merged (a : Option Addr) (n cap : Nat) (l : List Ct) (w : World) (h : CtsAt w a n l) (hstr : StrC l) (hn : n ≤ 4194304) :
    Calls Try.prog 51 #[.slice a n cap] w fun e w' => (∃ a2 n2 cap2, e = .returned (.slice a2 n2 cap2) ∧ ResAt Ct.cs 4 66 w' w.heap.size a2 n2 cap2 (mergedL l)) ∧ Below w.heap.size w w' := by
  have hlen : Hid (l.length = n) := h.len
  cases hok : lateOkB l
  · have hf : mergedL l = [] := by simp [mergedL, hok]
    rw [hf]
    go_enter Try.func51, Try.ntmps51
    go_wp2_with fail
    refine (spec_LateOk a n cap l _ h hstr hn).mono ?_
    rintro e w1 ⟨rfl, hB1⟩
    rw [hok]
    have hs1 := hB1.size
    go_wp2
    go_returns
    go_light
    exact ⟨⟨_, 0, 0, rfl, res_empty (Blk.new' _ _ _ _ (by simp)) (by simpa using hs1)⟩, hB1.alloc hs1 _⟩
  · have hf : mergedL l = sumC [] l := by simp [mergedL, hok]
    obtain ⟨hl, hb⟩ := late_bound hok
    have hl' : n ≤ 200 := by rw [← hlen.out]; exact hl
    rw [hf]
    go_enter Try.func51, Try.ntmps51
    go_wp2_with fail
    refine (spec_LateOk a n cap l _ h hstr hn).mono ?_
    rintro e w1 ⟨rfl, hB1⟩
    rw [hok]
    go_wp2_with fail
    refine (spec_l3Sum none 0 0 [] a n cap l w1 ⟨rfl, fun i x hx => by simp at hx⟩ (fun ad h => by cases h) (fun _ => rfl) (h.below hB1) (by omega) hl' (by simp) hb).mono ?_
    rintro e w2 ⟨⟨a2, n2, cap2, rfl, hn2, R2⟩, hB2⟩
    have hB3 := chain hB1 hB2
    have R3 := R2.mono hB1.size
    go_wp2
    go_returns
    exact ⟨⟨a2, n2, cap2, rfl, R3⟩, hB3⟩

theorem rgo_all : ∀ {l : List Ct} {q : Option Ct}, rgo q l = true → ∀ x ∈ l, refB x = true
  | [], _, _ => by simp
  | c :: r, q, h => by
    have h2 : refB c = true ∧ rgo (some c) r = true := by
      cases q
      · simpa only [rgo, Bool.and_eq_true] using h
      · simp only [rgo, Bool.and_eq_true] at h; exact ⟨h.1.1, h.2⟩
    intro x hx
    rcases List.mem_cons.1 hx with rfl | hx
    · exact h2.1
    · exact rgo_all h2.2 x hx
theorem refs_bound {l : List Ct} (h : refsOkB l = true) : l.length ≤ 200 ∧ ∀ x ∈ l, 1 ≤ x.n ∧ x.n ≤ 1000 := by
  simp only [refsOkB, Bool.and_eq_true, decide_eq_true_eq] at h
  refine ⟨h.1, fun x hx => ?_⟩
  have := rgo_all h.2 x hx
  simp only [refB, Bool.and_eq_true, decide_eq_true_eq] at this
  exact ⟨this.1.2, this.2⟩

def RetCts (B : Nat) (e : Ending) (w' : World) : Option (List Ct) → Prop
  | none => e = .returned (.tuple #[.slice none 0 0, .bool false])
  | some L => ∃ a n cap, e = .returned (.tuple #[.slice a n cap, .bool true]) ∧ ResAt Ct.cs 4 66 w' B a n cap L

set_option maxHeartbeats 2000000 in
set_option maxRecDepth 100000 in
theorem spec_Flushed (a : Option Addr) (n cap : Nat) (l : List Ct) (a' : Option Addr) (n' cap' : Nat) (more : List Ct) (w : World) (h : CtsAt w a n l) (ha1 : ∀ ad, a = some ad → ad.spot = none) (ha2 : a = none → cap = 0) (h' : CtsAt w a' n' more) (hstr : StrC l) (hstr' : StrC more) (hn : n ≤ 4194304) (hn' : n' ≤ 4194304) :
    Calls Try.prog 57 #[.slice a n cap, .slice a' n' cap'] w fun e w' => RetCts w.heap.size e w' (flushedO l more) ∧ Below w.heap.size w w' := by
  have hlen : Hid (l.length = n) := h.len
  have hlen' : Hid (more.length = n') := h'.len
  cases hok : refsOkB l
  · have hf : flushedO l more = none := by simp [flushedO, hok]
    rw [hf]
    go_enter Try.func57, Try.ntmps57
    go_wp2_with fail
    refine (spec_RefsOk a n cap l _ h hstr hn).mono ?_
    rintro e w1 ⟨rfl, hB1⟩
    rw [hok]
    go_wp2
    go_returns
    go_light
    exact ⟨rfl, hB1⟩
  · cases hok' : lateOkB more
    · have hf : flushedO l more = none := by simp [flushedO, hok']
      rw [hf]
      go_enter Try.func57, Try.ntmps57
      go_wp2_with fail
      refine (spec_RefsOk a n cap l _ h hstr hn).mono ?_
      rintro e w1 ⟨rfl, hB1⟩
      rw [hok]
      go_wp2_with fail
      refine (spec_LateOk a' n' cap' more _ (h'.below hB1) hstr' hn').mono ?_
      rintro e w2 ⟨rfl, hB2⟩
      rw [hok']
      have hB3 := chain hB1 hB2
      go_wp2
      go_returns
      go_light
      exact ⟨rfl, hB3⟩
    · obtain ⟨hl, hb⟩ := refs_bound hok
      obtain ⟨hl2, hb2⟩ := late_bound hok'
      have hl' : n ≤ 200 := by rw [← hlen.out]; exact hl
      have hl2' : n' ≤ 200 := by rw [← hlen'.out]; exact hl2
      have hss := str_sumC hstr hstr'
      cases hok3 : refsOkB (sumC l more)
      · have hf : flushedO l more = none := by simp [flushedO, hok, hok', hok3]
        rw [hf]
        clear hf
        go_enter Try.func57, Try.ntmps57
        go_wp2_with fail
        refine (spec_RefsOk a n cap l _ h hstr hn).mono ?_
        rintro e w1 ⟨rfl, hB1⟩
        rw [hok]
        go_wp2_with fail
        refine (spec_LateOk a' n' cap' more _ (h'.below hB1) hstr' hn').mono ?_
        rintro e w2 ⟨rfl, hB2⟩
        rw [hok']
        have hB3 := chain hB1 hB2
        go_wp2_with fail
        refine (spec_l3Sum a n cap l a' n' cap' more w2 (h.below hB3) ha1 ha2 (h'.below hB3) hl' hl2' (fun x hx => by have := hb x hx; omega) hb2).mono ?_
        rintro e w4 ⟨⟨a2, n2, cap2, rfl, hn2, R2⟩, hB4⟩
        have hB5 := chain hB3 hB4
        replace R2 := R2.mono hB3.size
        go_wp2_with fail
        refine (spec_RefsOk a2 n2 cap2 (sumC l more) _ R2.sl hss (by omega)).mono ?_
        rintro e w6 ⟨rfl, hB6⟩
        rw [hok3]
        have hB7 := chain hB5 hB6
        replace R2 := R2.below hB6
        go_wp2
        go_returns
        go_light
        exact ⟨rfl, hB7⟩
      · have hf : flushedO l more = some (sumC l more) := by simp [flushedO, hok, hok', hok3]
        rw [hf]
        clear hf
        go_enter Try.func57, Try.ntmps57
        go_wp2_with fail
        refine (spec_RefsOk a n cap l _ h hstr hn).mono ?_
        rintro e w1 ⟨rfl, hB1⟩
        rw [hok]
        go_wp2_with fail
        refine (spec_LateOk a' n' cap' more _ (h'.below hB1) hstr' hn').mono ?_
        rintro e w2 ⟨rfl, hB2⟩
        rw [hok']
        have hB3 := chain hB1 hB2
        go_wp2_with fail
        refine (spec_l3Sum a n cap l a' n' cap' more w2 (h.below hB3) ha1 ha2 (h'.below hB3) hl' hl2' (fun x hx => by have := hb x hx; omega) hb2).mono ?_
        rintro e w4 ⟨⟨a2, n2, cap2, rfl, hn2, R2⟩, hB4⟩
        have hB5 := chain hB3 hB4
        replace R2 := R2.mono hB3.size
        go_wp2_with fail
        refine (spec_RefsOk a2 n2 cap2 (sumC l more) _ R2.sl hss (by omega)).mono ?_
        rintro e w6 ⟨rfl, hB6⟩
        rw [hok3]
        have hB7 := chain hB5 hB6
        replace R2 := R2.below hB6
        go_wp2
        go_returns
        go_light
        exact ⟨⟨a2, n2, cap2, rfl, R2⟩, hB7⟩
end Go.Proofs.Ytbjejnkeekndbaa
