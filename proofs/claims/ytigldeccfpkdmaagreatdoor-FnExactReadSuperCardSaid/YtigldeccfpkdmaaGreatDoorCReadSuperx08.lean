/- l3Add of the model. -/
import Derived.Test.YtigldeccfpkdmaaGreatDoorProg
import Derived.Laws.StructEq
import Derived.Test.YtigldeccfpkdmaaGreatDoorCReadSuperx06
import Derived.Test.YtigldeccfpkdmaaGreatDoorCReadSuperx07
namespace Go.Proofs.YtigldeccfpkdmaaGreatDoor
open Go.RowKit Go.BigFrame
theorem eqlO (p q : Ow) (w : World) : (binOp .eql 132 (.agg #[.int .i64 p.a, .int .i64 p.v, .string p.f]) (.agg #[.int .i64 q.a, .int .i64 q.v, .string q.f])).run Tryz.prog w = .ok (.bool (owEq p q)) w := by
  have u2 := Tryz.underlying2
  have u9 := Tryz.underlying9
  have a2 := Tryz.isAgg2
  have a9 := Tryz.isAgg9
  have z2 := Tryz.sizeOf2
  have z9 := Tryz.sizeOf9
  have hS : Tryz.prog.underlying 132 = some (.struct (Tryz.prog.fieldsOf 132)) := by kernel_rfl
  have hp : Tryz.prog.stoodInHeld 132 = false := by kernel_rfl
  rw [run_eql_struct, show (10000 : Nat) = 9999 + 1 from rfl, run_equalIn_agg w 9999 132 _ _ hS hp]
  simp only [Program.fieldsOf, Tryz.underlying132]
  go_simp
  unfold owEq
  by_cases h1 : p.a = q.a <;> by_cases h2 : p.v = q.v <;> by_cases h3 : p.f.toList = q.f.toList <;> simp [h1, h2, h3]
/-- The first k rounds. -/
def addK (c : Ct) (l : List Ct) (k : Nat) : List Ct × Bool := (l.take k).foldl (addStep c) ([], false)
theorem addK_succ {c : Ct} {l : List Ct} {k : Nat} {p : Ct} (h : l[k]? = some p) : addK c l (k + 1) = addStep c (addK c l k) p := by
  have hk := (List.getElem?_eq_some_iff.1 h).1
  unfold addK
  rw [List.take_add_one, h]
  simp
theorem addK_all {c : Ct} {l : List Ct} {n : Nat} (h : l.length = n) : addEnd c (addK c l n) = addC l c := by
  unfold addK
  rw [List.take_of_length_le (Nat.le_of_eq h), add_fold]
  rfl
set_option maxHeartbeats 2000000 in
set_option maxRecDepth 100000 in
theorem spec_l3Add (a : Option Addr) (n cap : Nat) (l : List Ct) (c : Ct) (w : World) (h : CtsAt w a n l) (hn : n ≤ 4194304) (hb : ∀ x ∈ l, -1000000000000000 ≤ x.n ∧ x.n ≤ 1000000000000000) (hc : -1000000000000000 ≤ c.n ∧ c.n ≤ 1000000000000000) :
    Calls Tryz.prog 184 #[.slice a n cap, .agg #[.int .i64 c.o.a, .int .i64 c.o.v, .string c.o.f, .int .i64 c.n]] w fun e w' => (∃ a' n' cap', e = .returned (.slice a' n' cap') ∧ n' ≤ n + 1 ∧ ResAt Ct.cs 4 134 w' w.heap.size a' n' cap' (addC l c)) ∧ Below w.heap.size w w' := by
  have hlen : Hid (l.length = n) := h.len
  obtain ⟨i0, hi, hz0, hz1, hz2⟩ := info_parts infoC
  go_enter Tryz.func184, Tryz.ntmps184
  go_wp2_with fail
  go_loopw [5, 6, 7] (fun out dn ix wr => ∃ (k : Nat) (a2 : Option Addr) (n2 cap2 : Nat), k ≤ n ∧ ix = .int .i64 k ∧ dn = .bool (addK c l k).2 ∧ out = .slice a2 n2 cap2 ∧ n2 ≤ k + (if (addK c l k).2 = true then 1 else 0) ∧ ResAt Ct.cs 4 134 wr (w.heap.size + 1) a2 n2 cap2 (addK c l k).1 ∧ CtsAt wr (some ⟨w.heap.size, 0, none⟩) 1 [c] ∧ w.heap.size + 1 ≤ wr.heap.size ∧ Below w.heap.size w wr) (fun _ _ ix _ => n - (intOf ix).toNat)
  case atStart => exact ⟨0, _, 0, 0, Nat.zero_le _, rfl, rfl, rfl, Nat.zero_le _, res_empty (Blk.new' _ _ _ _ (by simp)) (by simp), (sl_newC _ c _ _ rfl).alloc _, by simp, by go_grown⟩
  case round =>
    obtain ⟨k, a2, n2, cap2, hk, rfl, rfl, rfl, hn2, R2, C2, hw2, hB⟩ := hrel
    have hsz := hB.size
    obtain ⟨_, _, c', hcb, hc', z0, z1, z2, z3⟩ := cts_at C2 (k := 0) (by omega)
    cases hcb
    simp at hc'
    subst hc'
    simp only [Nat.zero_mul, Nat.add_zero, Nat.zero_add] at z0 z1 z2 z3
    by_cases hlt : k < n
    · obtain ⟨b, o, p, rfl, hp, c0, c1, c2, c3⟩ := cts_at (h.below hB) hlt
      have hst : Hid (addK c l (k + 1) = addStep c (addK c l k) p) := addK_succ hp
      obtain ⟨hb1, hb2⟩ := hb p (List.mem_of_getElem? hp)
      have hlb : b < wr.heap.size := World.block_lt_of_cell? wr _ c0
      have hbw : b < w.heap.size := by
        obtain ⟨b', o', p', hbo, _, d0, _⟩ := cts_at h hlt
        obtain ⟨rfl, rfl⟩ : b = b' ∧ o = o' := by simpa using hbo
        exact World.block_lt_of_cell? w _ d0
      clear hp hb
      generalize addK c l k = G at *
      obtain ⟨gk, d⟩ := G
      simp only at *
      have hk1 : (k : Int) < n := by omega
      have hk2 : (0 : Int) ≤ k := by omega
      cases d
      · have hn3 : n2 ≤ k := by simpa using hn2
        clear hn2
        cases hl : owLt p.o c.o
        · have heq := eqlO p.o c.o
          cases hee : owEq p.o c.o
          · have he : Hid (addStep c (gk, false) p = (gk ++ [c] ++ [p], true)) := by show _ = _; simp [addStep, hl, hee]
            rw [hee] at heq
            go_wp2_with fail
            have g0 := gcell c0
            have g1 := gcell c1
            have g2 := gcell c2
            have g3 := gcell c3
            have k0 := gcell z0
            have k1 := gcell z1
            have k2 := gcell z2
            have k3 := gcell z3
            have hne := grw_ne wr
            refine wp_region_grow (by kernel_rfl) (by kernel_rfl) ?_
            repeat (go_big_quiet_step (first | (go_at_call 214; have qq := fun w => spec_OwnerAhead p.o c.o w; rw [hl] at qq; exact grow_of (qq _))))
            refine wpQuiet_nil ?_
            intro wq hx
            have hq := grw_out hx
            clear hx g0 g1 g2 g3 k0 k1 k2 k3 hne
            have hqs := hq.size
            replace R2 := R2.below hq
            replace hB := chain hB hq
            replace z0 := bcell hq z0
            replace z1 := bcell hq z1
            replace z2 := bcell hq z2
            replace z3 := bcell hq z3
            replace c0 := bcell hq c0
            replace c1 := bcell hq c1
            replace c2 := bcell hq c2
            replace c3 := bcell hq c3
            replace hw2 := Nat.le_trans hw2 hqs
            replace hlb := Nat.lt_of_lt_of_le hlb hqs
            replace hsz := Nat.le_trans hsz hqs
            clear hq hqs
            clear C2
            go_wp2_with fail
            have g0 := gcell c0
            have g1 := gcell c1
            have g2 := gcell c2
            have g3 := gcell c3
            have k0 := gcell z0
            have k1 := gcell z1
            have k2 := gcell z2
            have k3 := gcell z3
            have hne := grw_ne wq
            refine wp_region_grow (by kernel_rfl) (by kernel_rfl) ?_
            repeat (go_big_quiet_step (first | (go_at_call 214; have qq := fun w => spec_OwnerAhead p.o c.o w; rw [hl] at qq; exact grow_of (qq _))))
            refine wpQuiet_nil ?_
            intro wq hx
            have hq := grw_out hx
            clear hx g0 g1 g2 g3 k0 k1 k2 k3 hne
            have hqs := hq.size
            replace R2 := R2.below hq
            replace hB := chain hB hq
            replace z0 := bcell hq z0
            replace z1 := bcell hq z1
            replace z2 := bcell hq z2
            replace z3 := bcell hq z3
            replace c0 := bcell hq c0
            replace c1 := bcell hq c1
            replace c2 := bcell hq c2
            replace c3 := bcell hq c3
            replace hw2 := Nat.le_trans hw2 hqs
            replace hlb := Nat.lt_of_lt_of_le hlb hqs
            replace hsz := Nat.le_trans hsz hqs
            clear hq hqs
            go_wp2_with (first | (at_builtin; refine wpList_app rfl (fun K hK => wp_app _ _ 24 rfl (w.heap.size + 1) 134 i0 (.agg #[.int .i64 0, .int .i64 0, .string .empty, .int .i64 0]) 40 Tryz.underlying24 hi hz0 hz1 hz2 rfl (by decide) ccs_len ccs_one a2 n2 cap2 gk rfl (R2.alloc _) _ 1 1 [c] rfl (sl_newC _ c _ _ (by simp)) (fun ad h => (by cases h; rfl)) (fun h => (by cases h)) (n2 + 1) rfl (by unfold maxLen; omega) (by omega) (by simp; omega) (fun a3 cap3 w3 R3 hg3 => hK _ _ ?_)); have hB3 : Below w.heap.size w w3 := Below.grown (hB.alloc hsz _) hg3 (by simp; omega) (own_ge fun ad had => (by have := (R2.block ad had).1; omega)); have y0 := hg3.cell (acell _ z0) (own_ne' (fun ad had => (R2.block ad had).1) (Nat.lt_succ_self _)); have y1 := hg3.cell (acell _ z1) (own_ne' (fun ad had => (R2.block ad had).1) (Nat.lt_succ_self _)); have y2 := hg3.cell (acell _ z2) (own_ne' (fun ad had => (R2.block ad had).1) (Nat.lt_succ_self _)); have y3 := hg3.cell (acell _ z3) (own_ne' (fun ad had => (R2.block ad had).1) (Nat.lt_succ_self _)); have hs3 : w.heap.size + 1 ≤ w3.heap.size := World.block_lt_of_cell? w3 _ y0; have d0 := hg3.cell (acell _ c0) (own_ne' (fun ad had => (R2.block ad had).1) (Nat.lt_succ_of_lt hbw)); have d1 := hg3.cell (acell _ c1) (own_ne' (fun ad had => (R2.block ad had).1) (Nat.lt_succ_of_lt hbw)); have d2 := hg3.cell (acell _ c2) (own_ne' (fun ad had => (R2.block ad had).1) (Nat.lt_succ_of_lt hbw)); have d3 := hg3.cell (acell _ c3) (own_ne' (fun ad had => (R2.block ad had).1) (Nat.lt_succ_of_lt hbw)); have hsz3 := hB3.size) | (at_builtin; refine wpList_app rfl (fun K hK => wp_app _ _ 24 rfl (w.heap.size + 1) 134 i0 (.agg #[.int .i64 0, .int .i64 0, .string .empty, .int .i64 0]) 40 Tryz.underlying24 hi hz0 hz1 hz2 rfl (by decide) ccs_len ccs_one a3 (n2 + 1) cap3 (gk ++ [c]) rfl (R3.alloc _) _ 1 1 [p] rfl (sl_newC _ p _ _ (by simp)) (fun ad h => (by cases h; rfl)) (fun h => (by cases h)) (n2 + 2) rfl (by unfold maxLen; omega) (by omega) (by simp; omega) (fun a4 cap4 w4 R4 hg4 => hK _ _ ?_))))
            have hB4 : Below w.heap.size w w4 := Below.grown (hB3.alloc hsz3 _) hg4 (by simp; omega) (own_ge fun ad had => (by have := (R3.block ad had).1; omega))
            have x0 := hg4.cell (acell _ y0) (own_ne' (fun ad had => (R3.block ad had).1) (Nat.lt_succ_self _))
            have x1 := hg4.cell (acell _ y1) (own_ne' (fun ad had => (R3.block ad had).1) (Nat.lt_succ_self _))
            have x2 := hg4.cell (acell _ y2) (own_ne' (fun ad had => (R3.block ad had).1) (Nat.lt_succ_self _))
            have x3 := hg4.cell (acell _ y3) (own_ne' (fun ad had => (R3.block ad had).1) (Nat.lt_succ_self _))
            have hs4 : w.heap.size + 1 ≤ w4.heap.size := World.block_lt_of_cell? w4 _ x0
            go_wp2
            go_roundw
            case rel => exact ⟨k + 1, a4, n2 + 2, cap4, by omega, by go_num, by rw [hst.out, he.out], rfl, by rw [hst.out, he.out]; simp; omega, by rw [hst.out, he.out]; exact R4, sl_oneC x0 x1 x2 x3, hs4, hB4⟩
            case measure => simp [intOf]; omega
          · rw [hee] at heq
            by_cases hs0 : p.n + c.n = 0
            · have he : Hid (addStep c (gk, false) p = (gk, true)) := by show _ = _; simp [addStep, hl, hee, hs0]
              go_wp2_with fail
              have g0 := gcell c0
              have g1 := gcell c1
              have g2 := gcell c2
              have g3 := gcell c3
              have k0 := gcell z0
              have k1 := gcell z1
              have k2 := gcell z2
              have k3 := gcell z3
              have hne := grw_ne wr
              refine wp_region_grow (by kernel_rfl) (by kernel_rfl) ?_
              repeat (go_big_quiet_step (first | (go_at_call 214; have qq := fun w => spec_OwnerAhead p.o c.o w; rw [hl] at qq; exact grow_of (qq _))))
              refine wpQuiet_nil ?_
              intro wq hx
              have hq := grw_out hx
              clear hx g0 g1 g2 g3 k0 k1 k2 k3 hne
              have hqs := hq.size
              replace R2 := R2.below hq
              replace hB := chain hB hq
              replace z0 := bcell hq z0
              replace z1 := bcell hq z1
              replace z2 := bcell hq z2
              replace z3 := bcell hq z3
              replace c0 := bcell hq c0
              replace c1 := bcell hq c1
              replace c2 := bcell hq c2
              replace c3 := bcell hq c3
              replace hw2 := Nat.le_trans hw2 hqs
              replace hlb := Nat.lt_of_lt_of_le hlb hqs
              replace hsz := Nat.le_trans hsz hqs
              clear hq hqs
              clear C2
              go_wp2_with fail
              have g0 := gcell c0
              have g1 := gcell c1
              have g2 := gcell c2
              have g3 := gcell c3
              have k0 := gcell z0
              have k1 := gcell z1
              have k2 := gcell z2
              have k3 := gcell z3
              have hne := grw_ne wq
              refine wp_region_grow (by kernel_rfl) (by kernel_rfl) ?_
              repeat (go_big_quiet_step (first | (go_at_call 214; have qq := fun w => spec_OwnerAhead p.o c.o w; rw [hl] at qq; exact grow_of (qq _))))
              refine wpQuiet_nil ?_
              intro wq hx
              have hq := grw_out hx
              clear hx g0 g1 g2 g3 k0 k1 k2 k3 hne
              have hqs := hq.size
              replace R2 := R2.below hq
              replace hB := chain hB hq
              replace z0 := bcell hq z0
              replace z1 := bcell hq z1
              replace z2 := bcell hq z2
              replace z3 := bcell hq z3
              replace c0 := bcell hq c0
              replace c1 := bcell hq c1
              replace c2 := bcell hq c2
              replace c3 := bcell hq c3
              replace hw2 := Nat.le_trans hw2 hqs
              replace hlb := Nat.lt_of_lt_of_le hlb hqs
              replace hsz := Nat.le_trans hsz hqs
              clear hq hqs
              go_wp2_with fail
              have g0 := gcell c0
              have g1 := gcell c1
              have g2 := gcell c2
              have g3 := gcell c3
              have k0 := gcell z0
              have k1 := gcell z1
              have k2 := gcell z2
              have k3 := gcell z3
              have hne := grw_ne wq
              refine wp_region_grow (by kernel_rfl) (by kernel_rfl) ?_
              repeat (go_big_quiet_step (first | (go_at_call 214; have qq := fun w => spec_OwnerAhead p.o c.o w; rw [hl] at qq; exact grow_of (qq _))))
              refine wpQuiet_nil ?_
              intro wq hx
              have hq := grw_out hx
              clear hx g0 g1 g2 g3 k0 k1 k2 k3 hne
              have hqs := hq.size
              replace R2 := R2.below hq
              replace hB := chain hB hq
              replace z0 := bcell hq z0
              replace z1 := bcell hq z1
              replace z2 := bcell hq z2
              replace z3 := bcell hq z3
              replace c0 := bcell hq c0
              replace c1 := bcell hq c1
              replace c2 := bcell hq c2
              replace c3 := bcell hq c3
              replace hw2 := Nat.le_trans hw2 hqs
              replace hlb := Nat.lt_of_lt_of_le hlb hqs
              replace hsz := Nat.le_trans hsz hqs
              clear hq hqs
              go_wp2
              go_roundw
              case rel => exact ⟨k + 1, a2, n2, cap2, by omega, by go_num, by rw [hst.out, he.out], rfl, by rw [hst.out, he.out]; simp; omega, by rw [hst.out, he.out]; exact R2, sl_oneC z0 z1 z2 z3, hw2, hB⟩
              case measure => simp [intOf]; omega
            · have he : Hid (addStep c (gk, false) p = (gk ++ [⟨c.o, p.n + c.n⟩], true)) := by show _ = _; simp [addStep, hl, hee, hs0]
              go_wp2_with fail
              have g0 := gcell c0
              have g1 := gcell c1
              have g2 := gcell c2
              have g3 := gcell c3
              have k0 := gcell z0
              have k1 := gcell z1
              have k2 := gcell z2
              have k3 := gcell z3
              have hne := grw_ne wr
              refine wp_region_grow (by kernel_rfl) (by kernel_rfl) ?_
              repeat (go_big_quiet_step (first | (go_at_call 214; have qq := fun w => spec_OwnerAhead p.o c.o w; rw [hl] at qq; exact grow_of (qq _))))
              refine wpQuiet_nil ?_
              intro wq hx
              have hq := grw_out hx
              clear hx g0 g1 g2 g3 k0 k1 k2 k3 hne
              have hqs := hq.size
              replace R2 := R2.below hq
              replace hB := chain hB hq
              replace z0 := bcell hq z0
              replace z1 := bcell hq z1
              replace z2 := bcell hq z2
              replace z3 := bcell hq z3
              replace c0 := bcell hq c0
              replace c1 := bcell hq c1
              replace c2 := bcell hq c2
              replace c3 := bcell hq c3
              replace hw2 := Nat.le_trans hw2 hqs
              replace hlb := Nat.lt_of_lt_of_le hlb hqs
              replace hsz := Nat.le_trans hsz hqs
              clear hq hqs
              clear C2
              go_wp2_with fail
              have g0 := gcell c0
              have g1 := gcell c1
              have g2 := gcell c2
              have g3 := gcell c3
              have k0 := gcell z0
              have k1 := gcell z1
              have k2 := gcell z2
              have k3 := gcell z3
              have hne := grw_ne wq
              refine wp_region_grow (by kernel_rfl) (by kernel_rfl) ?_
              repeat (go_big_quiet_step (first | (go_at_call 214; have qq := fun w => spec_OwnerAhead p.o c.o w; rw [hl] at qq; exact grow_of (qq _))))
              refine wpQuiet_nil ?_
              intro wq hx
              have hq := grw_out hx
              clear hx g0 g1 g2 g3 k0 k1 k2 k3 hne
              have hqs := hq.size
              replace R2 := R2.below hq
              replace hB := chain hB hq
              replace z0 := bcell hq z0
              replace z1 := bcell hq z1
              replace z2 := bcell hq z2
              replace z3 := bcell hq z3
              replace c0 := bcell hq c0
              replace c1 := bcell hq c1
              replace c2 := bcell hq c2
              replace c3 := bcell hq c3
              replace hw2 := Nat.le_trans hw2 hqs
              replace hlb := Nat.lt_of_lt_of_le hlb hqs
              replace hsz := Nat.le_trans hsz hqs
              clear hq hqs
              go_wp2_with fail
              have g0 := gcell c0
              have g1 := gcell c1
              have g2 := gcell c2
              have g3 := gcell c3
              have k0 := gcell z0
              have k1 := gcell z1
              have k2 := gcell z2
              have k3 := gcell z3
              have hne := grw_ne wq
              refine wp_region_grow (by kernel_rfl) (by kernel_rfl) ?_
              repeat (go_big_quiet_step (first | (go_at_call 214; have qq := fun w => spec_OwnerAhead p.o c.o w; rw [hl] at qq; exact grow_of (qq _))))
              refine wpQuiet_nil ?_
              intro wq hx
              have hq := grw_out hx
              clear hx g0 g1 g2 g3 k0 k1 k2 k3 hne
              have hqs := hq.size
              replace R2 := R2.below hq
              replace hB := chain hB hq
              replace z0 := bcell hq z0
              replace z1 := bcell hq z1
              replace z2 := bcell hq z2
              replace z3 := bcell hq z3
              replace c0 := bcell hq c0
              replace c1 := bcell hq c1
              replace c2 := bcell hq c2
              replace c3 := bcell hq c3
              replace hw2 := Nat.le_trans hw2 hqs
              replace hlb := Nat.lt_of_lt_of_le hlb hqs
              replace hsz := Nat.le_trans hsz hqs
              clear hq hqs
              have hwr : Hid (IntKind.i64.wrap (p.n + c.n) = p.n + c.n) := by show _ = _; rw [IntKind.wrap_i64]; omega
              go_wp2_with fail
              go_region_held3 (fun u => u.cell? ⟨w.heap.size, 0, none⟩ = some (.int .i64 c.o.a) ∧ u.cell? ⟨w.heap.size, 1, none⟩ = some (.int .i64 c.o.v) ∧ u.cell? ⟨w.heap.size, 2, none⟩ = some (.string c.o.f) ∧ u.cell? ⟨w.heap.size, 3, none⟩ = some (.int .i64 c.n) ∧ u.cell? ⟨b, o + k * 4 + 3, none⟩ = some (.int .i64 p.n)) (go_keep) (first | (refine step_app rfl (wp_app _ _ 24 rfl (w.heap.size + 1) 134 i0 (.agg #[.int .i64 0, .int .i64 0, .string .empty, .int .i64 0]) 40 Tryz.underlying24 hi hz0 hz1 hz2 rfl (by decide) ccs_len ccs_one a2 n2 cap2 gk rfl (R2.below (by go_grown)) _ 1 1 [(⟨c.o, IntKind.i64.wrap (p.n + c.n)⟩ : Ct)] rfl (by first | exact sl_newC _ (⟨c.o, IntKind.i64.wrap (p.n + c.n)⟩ : Ct) _ _ (by first | rfl | simp) | exact (sl_newC _ (⟨c.o, IntKind.i64.wrap (p.n + c.n)⟩ : Ct) _ _ (by first | rfl | simp)).drew) (fun ad h => (by cases h; rfl)) (fun h => (by cases h)) (n2 + 1) rfl (by unfold maxLen; omega) (by omega) (by first | omega | (simp; omega) | (show w.heap.size + 1 ≤ (World.alloc _ _).heap.size; simp; omega)) ?_); intro a3 cap3 w3 R3 hg3; have y0 := hg3.cell (a := ⟨w.heap.size, 0, none⟩) (by first | exact acell _ z0 | exact acell _ (acell _ z0)) (own_ne' (fun ad had => (R2.block ad had).1) (Nat.lt_succ_self _)); have y1 := hg3.cell (a := ⟨w.heap.size, 1, none⟩) (by first | exact acell _ z1 | exact acell _ (acell _ z1)) (own_ne' (fun ad had => (R2.block ad had).1) (Nat.lt_succ_self _)); have y2 := hg3.cell (a := ⟨w.heap.size, 2, none⟩) (by first | exact acell _ z2 | exact acell _ (acell _ z2)) (own_ne' (fun ad had => (R2.block ad had).1) (Nat.lt_succ_self _)); have y3 := hg3.cell (a := ⟨w.heap.size, 3, none⟩) (by first | exact acell _ z3 | exact acell _ (acell _ z3)) (own_ne' (fun ad had => (R2.block ad had).1) (Nat.lt_succ_self _)); have yb := hg3.cell (a := ⟨b, o + k * 4 + 3, none⟩) (by first | exact acell _ c3 | exact acell _ (acell _ c3)) (own_ne' (fun ad had => (R2.block ad had).1) (Nat.lt_succ_of_lt hbw))))
              have hB3 : Below w.heap.size w w3 := Below.grown (chain hB (by go_grown)) hg3 (by first | omega | (simp; omega)) (own_ge fun ad had => (by have := (R2.block ad had).1; omega))
              have hs3 : w.heap.size + 1 ≤ w3.heap.size := World.block_lt_of_cell? w3 _ y0
              rw [hwr.out] at R3
              go_wp2
              go_roundw
              case rel => exact ⟨k + 1, a3, n2 + 1, cap3, by omega, by go_num, by rw [hst.out, he.out], rfl, by rw [hst.out, he.out]; simp; omega, by rw [hst.out, he.out]; exact R3, sl_oneC y0 y1 y2 y3, hs3, hB3⟩
              case measure => simp [intOf]; omega
        · have he : Hid (addStep c (gk, false) p = (gk ++ [p], false)) := by show _ = _; simp [addStep, hl]
          go_wp2_with fail
          have g0 := gcell c0
          have g1 := gcell c1
          have g2 := gcell c2
          have g3 := gcell c3
          have k0 := gcell z0
          have k1 := gcell z1
          have k2 := gcell z2
          have k3 := gcell z3
          have hne := grw_ne wr
          refine wp_region_grow (by kernel_rfl) (by kernel_rfl) ?_
          repeat (go_big_quiet_step (first | (go_at_call 214; have qq := fun w => spec_OwnerAhead p.o c.o w; rw [hl] at qq; exact grow_of (qq _))))
          refine wpQuiet_nil ?_
          intro wq hx
          have hq := grw_out hx
          clear hx g0 g1 g2 g3 k0 k1 k2 k3 hne
          have hqs := hq.size
          replace R2 := R2.below hq
          replace hB := chain hB hq
          replace z0 := bcell hq z0
          replace z1 := bcell hq z1
          replace z2 := bcell hq z2
          replace z3 := bcell hq z3
          replace c0 := bcell hq c0
          replace c1 := bcell hq c1
          replace c2 := bcell hq c2
          replace c3 := bcell hq c3
          replace hw2 := Nat.le_trans hw2 hqs
          replace hlb := Nat.lt_of_lt_of_le hlb hqs
          replace hsz := Nat.le_trans hsz hqs
          clear hq hqs
          clear C2
          go_wp2_with (at_builtin; refine wpList_app rfl (fun K hK => wp_app _ _ 24 rfl (w.heap.size + 1) 134 i0 (.agg #[.int .i64 0, .int .i64 0, .string .empty, .int .i64 0]) 40 Tryz.underlying24 hi hz0 hz1 hz2 rfl (by decide) ccs_len ccs_one a2 n2 cap2 gk rfl (R2.alloc _) _ 1 1 [p] rfl (sl_newC _ p _ _ (by simp)) (fun ad h => (by cases h; rfl)) (fun h => (by cases h)) (n2 + 1) rfl (by unfold maxLen; omega) (by omega) (by simp; omega) (fun a3 cap3 w3 R3 hg3 => hK _ _ ?_)))
          have hB3 : Below w.heap.size w w3 := Below.grown (hB.alloc hsz _) hg3 (by simp; omega) (own_ge fun ad had => (by have := (R2.block ad had).1; omega))
          have y0 := hg3.cell (acell _ z0) (own_ne' (fun ad had => (R2.block ad had).1) (Nat.lt_succ_self _))
          have y1 := hg3.cell (acell _ z1) (own_ne' (fun ad had => (R2.block ad had).1) (Nat.lt_succ_self _))
          have y2 := hg3.cell (acell _ z2) (own_ne' (fun ad had => (R2.block ad had).1) (Nat.lt_succ_self _))
          have y3 := hg3.cell (acell _ z3) (own_ne' (fun ad had => (R2.block ad had).1) (Nat.lt_succ_self _))
          have hs3 : w.heap.size + 1 ≤ w3.heap.size := World.block_lt_of_cell? w3 _ y0
          go_wp2
          go_roundw
          case rel => exact ⟨k + 1, a3, n2 + 1, cap3, by omega, by go_num, by rw [hst.out, he.out], rfl, by rw [hst.out, he.out]; simp; omega, by rw [hst.out, he.out]; exact R3, sl_oneC y0 y1 y2 y3, hs3, hB3⟩
          case measure => simp [intOf]; omega
      · have he : Hid (addStep c (gk, true) p = (gk ++ [p], true)) := by show _ = _; simp [addStep]
        have hn3 : n2 ≤ k + 1 := by simpa using hn2
        clear hn2
        go_wp2_with fail
        go_quiet (fail)
        have hq := drewNB wr nq
        have hqs := hq.size
        replace R2 := R2.below hq
        replace hB := chain hB hq
        replace z0 := bcell hq z0
        replace z1 := bcell hq z1
        replace z2 := bcell hq z2
        replace z3 := bcell hq z3
        replace c0 := bcell hq c0
        replace c1 := bcell hq c1
        replace c2 := bcell hq c2
        replace c3 := bcell hq c3
        replace hw2 := Nat.le_trans hw2 hqs
        replace hlb := Nat.lt_of_lt_of_le hlb hqs
        replace hsz := Nat.le_trans hsz hqs
        clear hq hqs C2
        generalize wr.drewN nq = wq at *
        go_wp2_with (at_builtin; refine wpList_app rfl (fun K hK => wp_app _ _ 24 rfl (w.heap.size + 1) 134 i0 (.agg #[.int .i64 0, .int .i64 0, .string .empty, .int .i64 0]) 40 Tryz.underlying24 hi hz0 hz1 hz2 rfl (by decide) ccs_len ccs_one a2 n2 cap2 gk rfl (R2.alloc _) _ 1 1 [p] rfl (sl_newC _ p _ _ (by simp)) (fun ad h => (by cases h; rfl)) (fun h => (by cases h)) (n2 + 1) rfl (by unfold maxLen; omega) (by omega) (by simp; omega) (fun a3 cap3 w3 R3 hg3 => hK _ _ ?_)))
        have hB3 : Below w.heap.size w w3 := Below.grown (hB.alloc hsz _) hg3 (by simp; omega) (own_ge fun ad had => (by have := (R2.block ad had).1; omega))
        have y0 := hg3.cell (acell _ z0) (own_ne' (fun ad had => (R2.block ad had).1) (Nat.lt_succ_self _))
        have y1 := hg3.cell (acell _ z1) (own_ne' (fun ad had => (R2.block ad had).1) (Nat.lt_succ_self _))
        have y2 := hg3.cell (acell _ z2) (own_ne' (fun ad had => (R2.block ad had).1) (Nat.lt_succ_self _))
        have y3 := hg3.cell (acell _ z3) (own_ne' (fun ad had => (R2.block ad had).1) (Nat.lt_succ_self _))
        have hs3 : w.heap.size + 1 ≤ w3.heap.size := World.block_lt_of_cell? w3 _ y0
        go_wp2
        go_roundw
        case rel => exact ⟨k + 1, a3, n2 + 1, cap3, by omega, by go_num, by rw [hst.out, he.out], rfl, by rw [hst.out, he.out]; simp; omega, by rw [hst.out, he.out]; exact R3, sl_oneC y0 y1 y2 y3, hs3, hB3⟩
        case measure => simp [intOf]; omega
    · obtain rfl : k = n := by omega
      have hst : Hid (addEnd c (addK c l k) = addC l c) := addK_all hlen.out
      generalize addK c l k = G at *
      obtain ⟨gk, d⟩ := G
      simp only at *
      cases d
      · have he : Hid (addEnd c (gk, false) = gk ++ [c]) := by show _ = _; simp [addEnd]
        have hn3 : n2 ≤ k := by simpa using hn2
        clear hn2 C2
        go_wp2_with (at_builtin; refine wpList_app rfl (fun K hK => wp_app _ _ 24 rfl (w.heap.size + 1) 134 i0 (.agg #[.int .i64 0, .int .i64 0, .string .empty, .int .i64 0]) 40 Tryz.underlying24 hi hz0 hz1 hz2 rfl (by decide) ccs_len ccs_one a2 n2 cap2 gk rfl (R2.alloc _) _ 1 1 [c] rfl (sl_newC _ c _ _ (by simp)) (fun ad h => (by cases h; rfl)) (fun h => (by cases h)) (n2 + 1) rfl (by unfold maxLen; omega) (by omega) (by simp; omega) (fun a3 cap3 w3 R3 hg3 => hK _ _ ?_)))
        have hB3 : Below w.heap.size w w3 := Below.grown (hB.alloc hsz _) hg3 (by simp; omega) (own_ge fun ad had => (by have := (R2.block ad had).1; omega))
        go_wp2
        go_returns
        exact ⟨⟨a3, n2 + 1, cap3, rfl, by omega, by rw [← hst.out, he.out]; exact R3.mono (by omega)⟩, hB3⟩
      · have he : Hid (addEnd c (gk, true) = gk) := by show _ = _; simp [addEnd]
        have hn3 : n2 ≤ k + 1 := by simpa using hn2
        clear hn2
        go_wp2
        go_returns
        exact ⟨⟨a2, n2, cap2, rfl, by omega, by rw [← hst.out, he.out]; exact R2.mono (by omega)⟩, hB⟩
end Go.Proofs.YtigldeccfpkdmaaGreatDoor
