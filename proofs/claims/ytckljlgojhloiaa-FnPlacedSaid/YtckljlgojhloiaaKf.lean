/- Where an extent is lifted: what the program leaves is what the model leaves. Lifted of the model. withExtent of the program. Where an extent is placed: plain facts. Owners and counts as plain data: their order, the lists that are added up, and that two lists in order with the same sums are one. Placed of the model. -/
import Derived.Test.YtckljlgojhloiaaKc
import Derived.Test.YtckljlgojhloiaaProg
import Derived.Test.YtckljlgojhloiaaKe
import Derived.Test.YtckljlgojhloiaaKa
import Derived.Laws.Cover1
namespace Go.Proofs.Ytckljlgojhloiaa
open Go.RowKit Go.BigFrame

theorem dataOkB_pos {d : ByteArray} (h : dataOkB d = true) : 1 ≤ d.size := by simp [dataOkB] at h; omega

theorem xgo_lift_none {size : Int} : ∀ {l : List Ex} {next addr : Int}, xgo size next l = true → addr < next → liftL addr l = l
  | [], _, _, _, _ => rfl
  | e :: r, next, addr, h, ha => by
    simp only [xgo, Bool.and_eq_true, decide_eq_true_eq] at h
    obtain ⟨⟨⟨h1, h2⟩, h3⟩, h4⟩ := h
    have hr := xgo_lift_none h4 (show addr < e.a + e.d.size by omega)
    have hne : (e.a == addr) = false := beq_eq_false_iff_ne.2 (by omega)
    simp only [liftL, List.filter_cons, hne, Bool.not_false, if_true] at hr ⊢
    rw [hr]

theorem lift_at {size addr : Int} : ∀ {l : List Ex} {next : Int} (k : Nat), xgo size next l = true →
    (atG addr k l = -1 ∧ liftL addr l = l) ∨ ∃ j, j < l.length ∧ atG addr k l = ((k + j : Nat) : Int) ∧ liftL addr l = l.take j ++ l.drop (j + 1)
  | [], _, _, _ => .inl ⟨rfl, rfl⟩
  | e :: r, next, k, h => by
    simp only [xgo, Bool.and_eq_true, decide_eq_true_eq] at h
    obtain ⟨⟨⟨h1, h2⟩, h3⟩, h4⟩ := h
    have hp := dataOkB_pos h1
    cases he : (e.a == addr)
    · rcases lift_at (addr := addr) (k + 1) h4 with ⟨q1, q2⟩ | ⟨j, hj, q1, q2⟩
      · refine .inl ⟨by simp [atG, he, q1], ?_⟩
        simp only [liftL, List.filter_cons, he, Bool.not_false, if_true] at q2 ⊢
        rw [q2]
      · refine .inr ⟨j + 1, by simp; omega, ?_, ?_⟩
        · simp only [atG, he, Bool.false_eq_true, if_false, q1]; congr 1; omega
        · simp only [liftL, List.filter_cons, he, Bool.not_false, if_true, List.take_succ_cons, List.drop_succ_cons, List.cons_append] at q2 ⊢
          rw [q2]
    · refine .inr ⟨0, by simp, by simp [atG, he], ?_⟩
      have hlt := xgo_lift_none h4 (show addr < e.a + e.d.size by have := eq_of_beq he; omega)
      simp only [liftL, List.filter_cons, he, Bool.not_true, Bool.false_eq_true, if_false, List.take_zero, List.nil_append, List.drop_succ_cons, List.drop_zero] at hlt ⊢
      exact hlt

/-- The model's Lifted, as a plain function. -/
def liftedM (size : Int) (l : List Ex) (addr : Int) : Option (List Ex) :=
  if spaceOkB size l = true ∧ 0 ≤ atG addr 0 l then some (l.take (atG addr 0 l).toNat ++ l.drop ((atG addr 0 l).toNat + 1)) else none

theorem liftedM_eq (size : Int) (l : List Ex) (addr : Int) : liftedM size l addr = liftedO size l addr := by
  unfold liftedM liftedO
  cases hok : spaceOkB size l
  · simp
  · have hx : xgo size 1 l = true := by simp only [spaceOkB, Bool.and_eq_true] at hok; exact hok.2
    rcases lift_at (addr := addr) 0 hx with ⟨q1, q2⟩ | ⟨j, hj, q1, q2⟩
    · rw [q1, q2]; simp
    · rw [q1, q2]
      have : (l.take j ++ l.drop (j + 1)).length ≠ l.length := by rw [List.length_append, List.length_take, List.length_drop]; omega
      rw [if_pos ⟨rfl, by omega⟩, if_pos ⟨rfl, this⟩]
      simp

theorem SlAt.take {α : Type} {cs : α → List Value} {sz : Nat} {w : World} {a : Option Addr} {n : Nat} {l : List α} (h : SlAt cs sz w a n l) {j : Nat} (hj : j ≤ n) : SlAt cs sz w a j (l.take j) :=
  ⟨by rw [List.length_take, h.len]; omega, fun i x hx => by
    rw [List.getElem?_take] at hx
    split at hx
    · exact h.cell i x hx
    · cases hx⟩
theorem SlAt.drop {α : Type} {cs : α → List Value} {sz : Nat} {w : World} {b o : Nat} {n : Nat} {l : List α} (h : SlAt cs sz w (some ⟨b, o, none⟩) n l) (j : Nat) : SlAt cs sz w (some ⟨b, o + j * sz, none⟩) (n - j) (l.drop j) :=
  ⟨by rw [List.length_drop, h.len], fun i x hx => by
    rw [List.getElem?_drop] at hx
    obtain ⟨b', o', he, hc⟩ := h.cell _ _ hx
    simp at he
    obtain ⟨rfl, rfl⟩ := he
    refine ⟨b, _, rfl, fun u v hv => ?_⟩
    have := hc u v hv
    rw [Nat.add_mul] at this
    rw [← this]
    congr 2
    omega⟩
end Go.Proofs.Ytckljlgojhloiaa
namespace Go.Proofs.Ytckljlgojhloiaa
open Go.RowKit Go.BigFrame

set_option maxHeartbeats 2000000 in
set_option maxRecDepth 100000 in
theorem spec_Lifted (size : Int) (a : Option Addr) (n cap : Nat) (l : List Ex) (addr : Int) (w : World) (h : ExsAt w a n l) (hstr : Strs l) (hn : n ≤ 4194304) (hcap : n ≤ cap) (hc2 : cap ≤ 8388608) :
    Calls Try.prog 18 #[.int .i64 size, .slice a n cap, .int .i64 addr] w fun e w' => RetExs w.heap.size e w' (liftedO size l addr) ∧ Below w.heap.size w w' := by
  have hlen : Hid (l.length = n) := h.len
  rw [← liftedM_eq]
  cases hok : spaceOkB size l
  · have hf : liftedM size l addr = none := by simp [liftedM, hok]
    rw [hf]
    generalize atG addr 0 l = at1
    go_enter Try.func18, Try.ntmps18
    go_wp2_with fail
    refine (spec_l1At a n cap l addr _ h hn).mono ?_
    rintro e w1 ⟨rfl, rfl⟩
    go_wp2_with fail
    refine (spec_SpaceOk size a n cap l _ h hstr hn).mono ?_
    rintro e w1 ⟨rfl, rfl⟩
    rw [hok]
    go_wp2
    go_returns
    exact ⟨rfl, Below.refl _ _⟩
  · have hx : xgo size 1 l = true := by simp only [spaceOkB, Bool.and_eq_true] at hok; exact hok.2
    rcases lift_at (addr := addr) 0 hx with ⟨q1, q2⟩ | ⟨j, hj, q1, q2⟩
    · have hf : liftedM size l addr = none := by simp [liftedM, q1]
      rw [hf]
      go_enter Try.func18, Try.ntmps18
      go_wp2_with fail
      refine (spec_l1At a n cap l addr _ h hn).mono ?_
      rintro e w1 ⟨rfl, rfl⟩
      rw [q1]
      go_wp2_with fail
      refine (spec_SpaceOk size a n cap l _ h hstr hn).mono ?_
      rintro e w1 ⟨rfl, rfl⟩
      rw [hok]
      go_wp2
      go_returns
      exact ⟨rfl, Below.refl _ _⟩
    · rw [Nat.zero_add] at q1
      have hf : liftedM size l addr = some (l.take j ++ l.drop (j + 1)) := by simp [liftedM, q1, hok]
      rw [hf]
      have hjn : j < n := by rw [← hlen.out]; exact hj
      obtain ⟨b, o, p, rfl, hp, c0, c1⟩ := exs_at h hjn
      have S1 : ExsAt w (some ⟨b, o, none⟩) j (l.take j) := h.take (by omega)
      have S2 : ExsAt w (if cap = j + 1 then some ⟨b, o, none⟩ else some ⟨b, o + (j + 1) * 2, none⟩) (n - (j + 1)) (l.drop (j + 1)) := by
        split
        · rw [List.drop_of_length_le (by rw [hlen.out]; omega)]
          exact ⟨by simp; omega, fun i x hx => by simp at hx⟩
        · exact h.drop (j + 1)
      clear c0 c1 hp
      obtain ⟨i0, hi, hz0, hz1, hz2⟩ := info_parts infoE
      go_enter Try.func18, Try.ntmps18
      go_wp2_with fail
      refine (spec_l1At _ n cap l addr _ h hn).mono ?_
      rintro e w1 ⟨rfl, rfl⟩
      rw [q1]
      go_wp2_with fail
      refine (spec_SpaceOk size _ n cap l _ h hstr hn).mono ?_
      rintro e w1 ⟨rfl, rfl⟩
      rw [hok]
      go_wp2_with (first | (at_builtin; refine wpList_app rfl (fun K hK => wp_app _ _ 24 rfl w1.heap.size 52 i0 (.agg #[.int .i64 0, .string .empty]) 24 Try.underlying24 hi hz0 hz1 hz2 rfl (by decide) ecs_len ecs_one _ 0 0 [] rfl (res_empty (Blk.new' _ _ _ _ (by simp)) (by simp)) (some ⟨b, o, none⟩) j cap (l.take j) rfl (S1.alloc _) (fun ad h => (by cases h; rfl)) (fun h => (by cases h)) j (Nat.zero_add _) (by unfold maxLen; omega) (by omega) (by simp) (fun a1 cap1 w2 hr1 hg1 => hK _ _ ?_)); have hB2 : Below w1.heap.size w1 w2 := Below.grown (by go_grown) hg1 (by simp) (fun k e => by simp [Value.ownBlock] at e; omega)) | (at_builtin; refine wpList_app rfl (fun K hK => wp_app _ _ 24 rfl w1.heap.size 52 i0 (.agg #[.int .i64 0, .string .empty]) 24 Try.underlying24 hi hz0 hz1 hz2 rfl (by decide) ecs_len ecs_one a1 j cap1 ([] ++ l.take j) rfl hr1 (if cap = j + 1 then some ⟨b, o, none⟩ else some ⟨b, o + (j + 1) * 2, none⟩) (n - (j + 1)) (cap - (j + 1)) (l.drop (j + 1)) rfl (S2.below hB2) (fun ad h => (by split at h <;> cases h <;> rfl)) (fun h => (by split at h <;> cases h)) (n - 1) (by omega) (by unfold maxLen; omega) (by omega) hB2.size (fun a3 cap3 w3 hr3 hg3 => hK _ _ ?_)); have hB3 : Below w1.heap.size w1 w3 := Below.grown hB2 hg3 hB2.size (own_ge fun ad had => (hr1.block ad had).1)))
      all_goals go_returns
      all_goals exact ⟨⟨a3, n - 1, cap3, rfl, by simpa using hr3⟩, hB3⟩
end Go.Proofs.Ytckljlgojhloiaa
namespace Go.Proofs.Ytckljlgojhloiaa
open Go.RowKit Go.BigFrame

/-- How many extents lie ahead of that address. -/
def cntA (addr : Int) : List Ex → Nat
  | [] => 0
  | e :: r => if e.a < addr then cntA addr r + 1 else 0
theorem cntA_le (addr : Int) : ∀ l : List Ex, cntA addr l ≤ l.length
  | [] => Nat.le_refl _
  | e :: r => by have := cntA_le addr r; unfold cntA; split <;> simp <;> omega
def withE (l : List Ex) (x : Ex) : List Ex := l.take (cntA x.a l) ++ [x] ++ l.drop (cntA x.a l)

theorem slice_end {w : World} {b o n : Nat} {l : List Ex} (h : ExsAt w (some ⟨b, o, none⟩) n l) (j cap : Nat) (hj : j ≤ n) (hc : n ≤ cap) :
    ExsAt w (if cap = j then some ⟨b, o, none⟩ else some ⟨b, o + j * 2, none⟩) (n - j) (l.drop j) := by
  split
  · rw [List.drop_of_length_le (by rw [h.len]; omega)]
    exact ⟨by simp; omega, fun i x hx => by simp at hx⟩
  · exact h.drop j

set_option maxHeartbeats 4000000 in
set_option maxRecDepth 100000 in
theorem impl_withExtent (b o n cap : Nat) (l : List Ex) (x : Ex) (w : World) (h : ExsAt w (some ⟨b, o, none⟩) n l) (hn : n ≤ 60) (hcap : n ≤ cap) (hc2 : cap ≤ 8388608) :
    Calls Try.prog 27 #[.slice (some ⟨b, o, none⟩) n cap, .agg #[.int .i64 x.a, .string x.d]] w fun e w' => (∃ a' n' cap', e = .returned (.slice a' n' cap') ∧ ResAt Ex.cs 2 52 w' w.heap.size a' n' cap' (withE l x)) ∧ Below w.heap.size w w' := by
  have hlen : Hid (l.length = n) := h.len
  have hcl := cntA_le x.a l
  obtain ⟨i0, hi, hz0, hz1, hz2⟩ := info_parts infoE
  obtain ⟨xa, xd⟩ := x
  simp only at *
  go_enter Try.func27, Try.ntmps27
  go_wp2_with fail
  have x0 : (w.alloc (.cells #[.int .i64 xa, .string xd] 52)).cell? ⟨w.heap.size, 0, none⟩ = some (.int .i64 xa) := by simp
  have x1 : (w.alloc (.cells #[.int .i64 xa, .string xd] 52)).cell? ⟨w.heap.size, 1, none⟩ = some (.string xd) := by simp
  have hB0 : Below w.heap.size w (w.alloc (.cells #[.int .i64 xa, .string xd] 52)) := (Below.refl _ _).alloc (Nat.le_refl _) _
  have hs0 : (w.alloc (.cells #[.int .i64 xa, .string xd] 52)).heap.size = w.heap.size + 1 := by simp
  generalize w.alloc (.cells #[.int .i64 xa, .string xd] 52) = W0 at *
  go_loopw [6] (fun ix wr => ∃ (k : Nat), k ≤ n ∧ ix = .int .i64 k ∧ Hid (cntA xa l = k + cntA xa (l.drop k)) ∧ Below W0.heap.size W0 wr) (fun ix _ => n - (intOf ix).toNat)
  case atStart => exact ⟨0, Nat.zero_le _, rfl, by show _ = _; simp, Below.refl _ _⟩
  case round =>
    obtain ⟨k, hk, rfl, hI, hB⟩ := hrel
    have hBw := chain hB0 hB
    have e0 := bcell hB x0
    have e1 := bcell hB x1
    by_cases hlt : k < n ∧ ∃ p, l[k]? = some p ∧ p.a < xa
    · obtain ⟨hlt, p', hp', hpx⟩ := hlt
      obtain ⟨b', o', p, hbo, hp, c0, c1⟩ := exs_at (h.below hBw) hlt
      obtain ⟨rfl, rfl⟩ : b = b' ∧ o = o' := by simpa using hbo
      obtain rfl : p = p' := by rw [hp] at hp'; exact Option.some.inj hp'
      have hst : Hid (cntA xa l = k + 1 + cntA xa (l.drop (k + 1))) := by
        show _ = _
        rw [hI.out, drop_at hp, cntA, if_pos hpx]; omega
      clear hp hp' hbo
      have hk1 : (k : Int) < n := by omega
      have hk2 : (0 : Int) ≤ k := by omega
      go_wp2_with fail
      go_quiet (fail)
      go_wp2
      go_roundw
      case rel => exact ⟨k + 1, by omega, by go_num, hst, chain hB (drewNB _ _)⟩
      case measure => simp [intOf]; omega
    · have hend : Hid (cntA xa l = k) := by
        show _ = _
        rw [hI.out]
        by_cases hkn : k < n
        · obtain ⟨_, _, p, _, hp, _, _⟩ := exs_at h hkn
          rw [drop_at hp, cntA, if_neg (fun e => hlt ⟨hkn, _, hp, e⟩)]; rfl
        · rw [List.drop_of_length_le (by rw [hlen.out]; omega)]; rfl
      have hfin : Hid (withE l ⟨xa, xd⟩ = [] ++ l.take k ++ [⟨xa, xd⟩] ++ l.drop k) := by show _ = _; unfold withE; simp only; rw [hend.out]; simp
      have hS1 : ∀ u, Below w.heap.size w u → ExsAt u (some ⟨b, o, none⟩) k (l.take k) := fun u hu => (h.below hu).take hk
      have hS2 : ∀ u, Below w.heap.size w u → ExsAt u (if cap = k then some ⟨b, o, none⟩ else some ⟨b, o + k * 2, none⟩) (n - k) (l.drop k) := fun u hu => slice_end (h.below hu) k cap hk hcap
      have hk2 : (0 : Int) ≤ k := by omega
      by_cases hkn : k < n
      · obtain ⟨b', o', p, hbo, hp, c0, c1⟩ := exs_at (h.below hBw) hkn
        obtain ⟨rfl, rfl⟩ : b = b' ∧ o = o' := by simpa using hbo
        have hpx : ¬ p.a < xa := fun e => hlt ⟨hkn, _, hp, e⟩
        clear hp hbo hlt
        have hk1 : (k : Int) < n := by omega
        go_wp2_with fail
        go_quiet (fail)
        have hBq := chain hBw (drewNB wr nq)
        replace e0 := bcell (drewNB wr nq) e0
        replace e1 := bcell (drewNB wr nq) e1
        have hsq := hBq.size
        have hlq : w.heap.size < (wr.drewN nq).heap.size := World.block_lt_of_cell? _ ⟨w.heap.size, 0, none⟩ e0
        generalize wr.drewN nq = wq at *
        go_wp2_with (first | (at_builtin; refine wpList_app rfl (fun K hK => wp_app _ _ 24 rfl w.heap.size 52 i0 (.agg #[.int .i64 0, .string .empty]) 24 Try.underlying24 hi hz0 hz1 hz2 rfl (by decide) ecs_len ecs_one none 0 0 [] rfl res_nil (some ⟨b, o, none⟩) k cap (l.take k) rfl (hS1 _ hBq) (fun ad h => (by cases h; rfl)) (fun h => (by cases h)) k (Nat.zero_add _) (by unfold maxLen; omega) (by omega) hsq (fun a1 cap1 w1 hr1 hg1 => hK _ _ ?_)); have hB1 : Below w.heap.size w w1 := Below.grown hBq hg1 hsq (fun k e => by simp [Value.ownBlock] at e); have q0 := hg1.cell e0 (by simp [Value.ownBlock]); have q1 := hg1.cell e1 (by simp [Value.ownBlock])) | (at_builtin; refine wpList_app rfl (fun K hK => wp_app _ _ 24 rfl w.heap.size 52 i0 (.agg #[.int .i64 0, .string .empty]) 24 Try.underlying24 hi hz0 hz1 hz2 rfl (by decide) ecs_len ecs_one a1 k cap1 ([] ++ l.take k) rfl (hr1.alloc _) _ 1 1 [(⟨xa, xd⟩ : Ex)] rfl (sl_newE' _ ⟨xa, xd⟩ _ _ (by simp)) (fun ad h => (by cases h; rfl)) (fun h => (by cases h)) (k + 1) rfl (by unfold maxLen; omega) (by omega) (by have := hB1.size; simp; omega) (fun a2 cap2 w2 hr2 hg2 => hK _ _ ?_)); have hB2 : Below w.heap.size w w2 := Below.grown (hB1.alloc hB1.size _) hg2 (by have := hB1.size; simp; omega) (own_ge fun ad had => (hr1.block ad had).1)) | (at_builtin; refine wpList_app rfl (fun K hK => wp_app _ _ 24 rfl w.heap.size 52 i0 (.agg #[.int .i64 0, .string .empty]) 24 Try.underlying24 hi hz0 hz1 hz2 rfl (by decide) ecs_len ecs_one a2 (k + 1) cap2 ([] ++ l.take k ++ [(⟨xa, xd⟩ : Ex)]) rfl hr2 (some ⟨b, o + k * 2, none⟩) (n - k) (cap - k) (l.drop k) rfl ((h.below hB2).drop k) (fun ad h => (by cases h; rfl)) (fun h => (by cases h)) (n + 1) (by omega) (by unfold maxLen; omega) (by omega) hB2.size (fun a3 cap3 w3 hr3 hg3 => hK _ _ ?_)); have hB3 : Below w.heap.size w w3 := Below.grown hB2 hg3 hB2.size (own_ge fun ad had => (hr2.block ad had).1)))
        all_goals go_returns
        all_goals exact ⟨⟨a3, n + 1, cap3, rfl, by rw [hfin.out]; exact hr3⟩, hB3⟩
      · obtain rfl : k = n := by omega
        clear hlt
        go_wp2_with fail
        go_quiet (fail)
        have hBq := chain hBw (drewNB wr nq)
        replace e0 := bcell (drewNB wr nq) e0
        replace e1 := bcell (drewNB wr nq) e1
        have hsq := hBq.size
        generalize wr.drewN nq = wq at *
        have hS3 : ∀ (u : World) (q : Option Addr), ExsAt u q 0 (l.drop k) := fun u q => by rw [List.drop_of_length_le (Nat.le_of_eq hlen.out)]; exact ⟨rfl, fun i x hx => by simp at hx⟩
        go_wp2_with (first | (at_builtin; refine wpList_app rfl (fun K hK => wp_app _ _ 24 rfl w.heap.size 52 i0 (.agg #[.int .i64 0, .string .empty]) 24 Try.underlying24 hi hz0 hz1 hz2 rfl (by decide) ecs_len ecs_one none 0 0 [] rfl res_nil (some ⟨b, o, none⟩) k cap (l.take k) rfl (hS1 _ hBq) (fun ad h => (by cases h; rfl)) (fun h => (by cases h)) k (Nat.zero_add _) (by unfold maxLen; omega) (by omega) hsq (fun a1 cap1 w1 hr1 hg1 => hK _ _ ?_)); have hB1 : Below w.heap.size w w1 := Below.grown hBq hg1 hsq (fun k e => by simp [Value.ownBlock] at e); have q0 := hg1.cell e0 (by simp [Value.ownBlock]); have q1 := hg1.cell e1 (by simp [Value.ownBlock])) | (at_builtin; refine wpList_app rfl (fun K hK => wp_app _ _ 24 rfl w.heap.size 52 i0 (.agg #[.int .i64 0, .string .empty]) 24 Try.underlying24 hi hz0 hz1 hz2 rfl (by decide) ecs_len ecs_one a1 k cap1 ([] ++ l.take k) rfl (hr1.alloc _) _ 1 1 [(⟨xa, xd⟩ : Ex)] rfl (sl_newE' _ ⟨xa, xd⟩ _ _ (by simp)) (fun ad h => (by cases h; rfl)) (fun h => (by cases h)) (k + 1) rfl (by unfold maxLen; omega) (by omega) (by have := hB1.size; simp; omega) (fun a2 cap2 w2 hr2 hg2 => hK _ _ ?_)); have hB2 : Below w.heap.size w w2 := Below.grown (hB1.alloc hB1.size _) hg2 (by have := hB1.size; simp; omega) (own_ge fun ad had => (hr1.block ad had).1)) | (at_builtin; refine wpList_app rfl (fun K hK => wp_app _ _ 24 rfl w.heap.size 52 i0 (.agg #[.int .i64 0, .string .empty]) 24 Try.underlying24 hi hz0 hz1 hz2 rfl (by decide) ecs_len ecs_one a2 (k + 1) cap2 ([] ++ l.take k ++ [(⟨xa, xd⟩ : Ex)]) rfl hr2 (if cap = k then some ⟨b, o, none⟩ else some ⟨b, o + k * 2, none⟩) 0 (cap - k) (l.drop k) rfl (hS3 _ _) (fun ad h => (by split at h <;> cases h <;> rfl)) (fun h => (by split at h <;> cases h)) (k + 1) (by omega) (by unfold maxLen; omega) (by omega) hB2.size (fun a3 cap3 w3 hr3 hg3 => hK _ _ ?_)); have hB3 : Below w.heap.size w w3 := Below.grown hB2 hg3 hB2.size (own_ge fun ad had => (hr2.block ad had).1)) | (at_builtin; refine wpList_app rfl (fun K hK => wp_app _ _ 24 rfl w.heap.size 52 i0 (.agg #[.int .i64 0, .string .empty]) 24 Try.underlying24 hi hz0 hz1 hz2 rfl (by decide) ecs_len ecs_one a2 (k + 1) cap2 ([] ++ l.take k ++ [(⟨xa, xd⟩ : Ex)]) rfl hr2 (if cap = k then some ⟨b, o, none⟩ else some ⟨b, o + k * 2, none⟩) (k - k) (cap - k) (l.drop k) rfl (by rw [Nat.sub_self]; exact hS3 _ _) (fun ad h => (by split at h <;> cases h <;> rfl)) (fun h => (by split at h <;> cases h)) (k + 1) (by omega) (by unfold maxLen; omega) (by omega) hB2.size (fun a3 cap3 w3 hr3 hg3 => hK _ _ ?_)); have hB3 : Below w.heap.size w w3 := Below.grown hB2 hg3 hB2.size (own_ge fun ad had => (hr2.block ad had).1)))
        all_goals go_returns
        all_goals exact ⟨⟨a3, k + 1, cap3, rfl, by rw [hfin.out]; exact hr3⟩, hB3⟩
end Go.Proofs.Ytckljlgojhloiaa
namespace Go.Proofs.Ytckljlgojhloiaa
open Go.RowKit

/-- Placed, as a plain function, by the gaps that the program goes through. -/
def placedO (size : Int) (l : List Ex) (d : ByteArray) : Option (List Ex × Int) :=
  if spaceOkB size l = true ∧ dataOkB d = true ∧ l.length ≠ 60 then ((ggo size 1 l).find? (fun x => decide ((d.size : Int) ≤ x.2))).map (fun x => (withE l ⟨x.1, d⟩, x.1)) else none

/-- The model's rounds: the place, the byte that is free, the extents to come. -/
def pgoM (size m : Int) : Nat → Int → List Ex → Option (Nat × Int)
  | k, next, [] => if m ≤ size + 1 - next then some (k, next) else none
  | k, next, e :: r => if m ≤ e.a - next then some (k, next) else pgoM size m (k + 1) (e.a + e.d.size) r

theorem pgoM_find {size m : Int} (hm : 1 ≤ m) : ∀ {L : List Ex} {next : Int} (k : Nat), xgo size next L = true →
    ((ggo size next L).find? (fun x => decide (m ≤ x.2))).map (·.1) = (pgoM size m k next L).map (·.2)
  | [], next, k, _ => by
    rw [ggo, pgoM]
    by_cases h : m ≤ size + 1 - next
    · rw [if_pos (show next ≤ size by omega), if_pos h]; simp [h]
    · rw [if_neg h]
      split
      · simp [h]
      · rfl
  | e :: r, next, k, hx => by
    simp only [xgo, Bool.and_eq_true, decide_eq_true_eq] at hx
    obtain ⟨⟨⟨h1, h2⟩, h3⟩, h4⟩ := hx
    have ih := pgoM_find hm (k + 1) h4
    rw [ggo, pgoM]
    by_cases h : m ≤ e.a - next
    · rw [if_pos (show next < e.a by omega), if_pos h]; simp [h]
    · rw [if_neg h, ← ih]
      split
      · simp [h]
      · simp

/-- Where the model's round is, the extents ahead lie ahead of that byte, and those behind it behind. -/
theorem cnt_skip {size : Int} : ∀ {L : List Ex} {next : Int}, xgo size next L = true → ∀ addr, addr ≤ next → cntA addr L = 0
  | [], _, _, _, _ => rfl
  | e :: r, next, hx, addr, ha => by
    simp only [xgo, Bool.and_eq_true, decide_eq_true_eq] at hx
    rw [cntA, if_neg (by omega)]

theorem pgoM_cnt {size m : Int} (hm : 1 ≤ m) : ∀ {L : List Ex} {next : Int} (k : Nat), xgo size next L = true → ∀ j nx, pgoM size m k next L = some (j, nx) → next ≤ nx ∧ j = k + cntA nx L
  | [], next, k, _, j, nx, h => by
    rw [pgoM] at h
    split at h
    · cases h; exact ⟨Int.le_refl _, rfl⟩
    · cases h
  | e :: r, next, k, hx, j, nx, h => by
    have hx0 := hx
    simp only [xgo, Bool.and_eq_true, decide_eq_true_eq] at hx
    obtain ⟨⟨⟨h1, h2⟩, h3⟩, h4⟩ := hx
    rw [pgoM] at h
    split at h
    · cases h; exact ⟨Int.le_refl _, by rw [cnt_skip hx0 _ (Int.le_refl _)]; rfl⟩
    · obtain ⟨q1, q2⟩ := pgoM_cnt hm (k + 1) h4 j nx h
      have hp := dataOkB_pos h1
      refine ⟨by omega, ?_⟩
      rw [cntA, if_pos (by omega)]; omega

def placedM (size : Int) (l : List Ex) (d : ByteArray) : Option (List Ex × Int) :=
  if spaceOkB size l = true ∧ dataOkB d = true ∧ l.length ≠ 60 then (pgoM size d.size 0 1 l).map (fun x => (l.take x.1 ++ [⟨x.2, d⟩] ++ l.drop x.1, x.2)) else none

theorem placedM_eq (size : Int) (l : List Ex) (d : ByteArray) : placedM size l d = placedO size l d := by
  unfold placedM placedO
  by_cases h : spaceOkB size l = true ∧ dataOkB d = true ∧ l.length ≠ 60
  · rw [if_pos h, if_pos h]
    obtain ⟨h1, h2, h3⟩ := h
    obtain ⟨_, _, _, hx⟩ := ok_parts h1
    have hd := dataOkB_pos h2
    have e1 := pgoM_find (m := d.size) (by omega) 0 hx
    cases hp : pgoM size d.size 0 1 l with
    | none =>
      rw [hp] at e1
      cases hf : (ggo size 1 l).find? (fun x => decide ((d.size : Int) ≤ x.2)) with
      | none => rfl
      | some y => rw [hf] at e1; cases e1
    | some x =>
      obtain ⟨j, nx⟩ := x
      obtain ⟨q1, q2⟩ := pgoM_cnt (by omega) 0 hx j nx hp
      rw [hp] at e1
      cases hf : (ggo size 1 l).find? (fun x => decide ((d.size : Int) ≤ x.2)) with
      | none => rw [hf] at e1; cases e1
      | some y =>
        rw [hf] at e1
        simp at e1
        simp only [Option.map_some, withE]
        rw [e1, show cntA nx l = j by omega]
  · rw [if_neg h, if_neg h]
end Go.Proofs.Ytckljlgojhloiaa
namespace Go.Proofs.Ytckljlgojhloiaa
open Go.RowKit

/-- An owner: Addr, Vol, File. -/
structure Ow where
  a : Int
  v : Int
  f : ByteArray

/-- A count: Owner, N. -/
structure Ct where
  o : Ow
  n : Int

def Ow.vs (o : Ow) : Array Value := #[.int .i64 o.a, .int .i64 o.v, .string o.f]
/-- The cells of a count. -/
def Ct.cs (c : Ct) : List Value := [.int .i64 c.o.a, .int .i64 c.o.v, .string c.o.f, .int .i64 c.n]

abbrev CtsAt := SlAt Ct.cs 4

theorem cts_at {w : World} {a : Option Addr} {n : Nat} {l : List Ct} (h : CtsAt w a n l) {k : Nat} (hk : k < n) :
    ∃ b o p, a = some ⟨b, o, none⟩ ∧ l[k]? = some p ∧ w.cell? ⟨b, o + k * 4, none⟩ = some (.int .i64 p.o.a) ∧ w.cell? ⟨b, o + k * 4 + 1, none⟩ = some (.int .i64 p.o.v) ∧ w.cell? ⟨b, o + k * 4 + 2, none⟩ = some (.string p.o.f) ∧ w.cell? ⟨b, o + k * 4 + 3, none⟩ = some (.int .i64 p.n) := by
  have hl : k < l.length := by rw [h.len]; exact hk
  have hx : l[k]? = some l[k] := by simp [hl]
  obtain ⟨b, o, ha, hc⟩ := h.cell k _ hx
  exact ⟨b, o, l[k], ha, hx, hc 0 _ rfl, hc 1 _ rfl, hc 2 _ rfl, hc 3 _ rfl⟩

/-! ### The order of texts -/
abbrev bl := Op.bytesLess

theorem bl_irrefl : ∀ x : List UInt8, bl x x = false
  | [] => rfl
  | a :: x => by simp [bl, Op.bytesLess]; exact bl_irrefl x
theorem bl_total : ∀ {x y : List UInt8}, bl x y = false → x ≠ y → bl y x = true
  | [], [], _, h => absurd rfl h
  | [], b :: y, h, _ => by simp [bl, Op.bytesLess] at h
  | a :: x, [], _, _ => rfl
  | a :: x, b :: y, h, hne => by
    simp only [bl, Op.bytesLess, Bool.or_eq_false_iff, Bool.and_eq_false_iff, decide_eq_false_iff_not] at h
    obtain ⟨h1, h2⟩ := h
    simp only [bl, Op.bytesLess, Bool.or_eq_true, Bool.and_eq_true, decide_eq_true_eq, beq_iff_eq]
    by_cases hab : a = b
    · subst hab
      right
      refine ⟨rfl, bl_total (h2.resolve_left (by simp)) (fun e => hne (by rw [e]))⟩
    · left
      have h1' : b.toNat ≤ a.toNat := by simpa [UInt8.lt_iff_toNat_lt] using h1
      have : a.toNat ≠ b.toNat := fun e => hab (UInt8.toNat_inj.1 e)
      rw [UInt8.lt_iff_toNat_lt]; omega
theorem bl_asymm : ∀ {x y : List UInt8}, bl x y = true → bl y x = false
  | [], [], h => by simp [bl, Op.bytesLess] at h
  | [], b :: y, _ => rfl
  | a :: x, [], h => by simp [bl, Op.bytesLess] at h
  | a :: x, b :: y, h => by
    simp only [bl, Op.bytesLess, Bool.or_eq_true, Bool.and_eq_true, decide_eq_true_eq, beq_iff_eq] at h
    simp only [bl, Op.bytesLess, Bool.or_eq_false_iff, Bool.and_eq_false_iff, decide_eq_false_iff_not, beq_eq_false_iff_ne]
    rcases h with h | ⟨rfl, h⟩
    · have h' := UInt8.lt_iff_toNat_lt.1 h
      refine ⟨fun k => by have := UInt8.lt_iff_toNat_lt.1 k; omega, .inl fun e => by subst e; omega⟩
    · exact ⟨fun k => by have := UInt8.lt_iff_toNat_lt.1 k; omega, .inr (bl_asymm h)⟩
theorem bl_trans : ∀ {x y z : List UInt8}, bl x y = true → bl y z = true → bl x z = true
  | [], [], _, h, _ => by simp [bl, Op.bytesLess] at h
  | [], b :: y, [], _, h => by simp [bl, Op.bytesLess] at h
  | [], b :: y, c :: z, _, _ => rfl
  | a :: x, [], _, h, _ => by simp [bl, Op.bytesLess] at h
  | a :: x, b :: y, [], _, h => by simp [bl, Op.bytesLess] at h
  | a :: x, b :: y, c :: z, h1, h2 => by
    simp only [bl, Op.bytesLess, Bool.or_eq_true, Bool.and_eq_true, decide_eq_true_eq, beq_iff_eq, UInt8.lt_iff_toNat_lt] at *
    rcases h1 with h1 | ⟨rfl, h1⟩
    · rcases h2 with h2 | ⟨rfl, h2⟩
      · left; omega
      · left; exact h1
    · rcases h2 with h2 | ⟨rfl, h2⟩
      · left; exact h2
      · right; exact ⟨rfl, bl_trans h1 h2⟩

theorem bytes_eq {x y : ByteArray} (h : x.toList = y.toList) : x = y := by
  rw [ByteArray.toList_eq, ByteArray.toList_eq] at h
  cases x; cases y
  congr 1
  exact Array.toList_inj.1 h

/-! ### The order of owners -/
def owEq (a b : Ow) : Bool := a.a == b.a && a.v == b.v && a.f.toList == b.f.toList
theorem owEq_iff {a b : Ow} : owEq a b = true ↔ a = b := by
  constructor
  · intro h
    simp [owEq] at h
    obtain ⟨⟨h1, h2⟩, h3⟩ := h
    cases a; cases b
    simp at *
    exact ⟨h1, h2, bytes_eq h3⟩
  · rintro rfl; simp [owEq]

def owLt (a b : Ow) : Bool := if a.a ≠ b.a then decide (a.a < b.a) else if a.v ≠ b.v then decide (a.v < b.v) else bl a.f.toList b.f.toList
theorem owLt_irrefl (a : Ow) : owLt a a = false := by simp [owLt, bl_irrefl]
theorem owLt_total {a b : Ow} (h : owLt a b = false) (hne : a ≠ b) : owLt b a = true := by
  by_cases h1 : a.a = b.a
  · by_cases h2 : a.v = b.v
    · have h3 : a.f.toList ≠ b.f.toList := fun e => hne (owEq_iff.1 (by simp [owEq, h1, h2, e]))
      simp only [owLt, h1, h2, ne_eq, not_true, if_false] at h ⊢
      exact bl_total h h3
    · simp only [owLt, h1, ne_eq, not_true, if_false, h2, not_false_eq_true, if_true, decide_eq_false_iff_not] at h
      simp only [owLt, h1, ne_eq, not_true, if_false, if_pos (Ne.symm h2), decide_eq_true_eq]; omega
  · simp only [owLt, ne_eq, h1, not_false_eq_true, if_true, decide_eq_false_iff_not] at h
    simp only [owLt, ne_eq, if_pos (Ne.symm h1), decide_eq_true_eq]; omega
theorem owLt_asymm {a b : Ow} (h : owLt a b = true) : owLt b a = false := by
  by_cases h1 : a.a = b.a
  · by_cases h2 : a.v = b.v
    · simp only [owLt, h1, h2, ne_eq, not_true, if_false] at h ⊢
      exact bl_asymm h
    · simp only [owLt, h1, ne_eq, not_true, if_false, h2, not_false_eq_true, if_true, decide_eq_true_eq] at h
      simp only [owLt, h1, ne_eq, not_true, if_false, if_pos (Ne.symm h2), decide_eq_false_iff_not]; omega
  · simp only [owLt, ne_eq, h1, not_false_eq_true, if_true, decide_eq_true_eq] at h
    simp only [owLt, ne_eq, if_pos (Ne.symm h1), decide_eq_false_iff_not]; omega
theorem owLt_iff {a b : Ow} : owLt a b = true ↔ a.a < b.a ∨ (a.a = b.a ∧ (a.v < b.v ∨ (a.v = b.v ∧ bl a.f.toList b.f.toList = true))) := by
  unfold owLt
  split
  · rename_i h; simp; omega
  · rename_i h
    split
    · rename_i k; simp; omega
    · rename_i k
      simp at h k
      constructor
      · intro e; exact .inr ⟨h, .inr ⟨k, e⟩⟩
      · rintro (e | ⟨_, e | ⟨_, e⟩⟩)
        · omega
        · omega
        · exact e
theorem owLt_trans {a b c : Ow} (h : owLt a b = true) (k : owLt b c = true) : owLt a c = true := by
  rw [owLt_iff] at *
  rcases h with h | ⟨h1, h | ⟨h2, h⟩⟩ <;> rcases k with k | ⟨k1, k | ⟨k2, k⟩⟩
  case inr.inr.inr.inr => exact .inr ⟨by omega, .inr ⟨by omega, bl_trans h k⟩⟩
  case inl.inl => exact .inl (by omega)
  case inl.inr.inl => exact .inl (by omega)
  case inl.inr.inr => exact .inl (by omega)
  case inr.inl.inl => exact .inl (by omega)
  case inr.inr.inl => exact .inl (by omega)
  case inr.inl.inr.inl => exact .inr ⟨by omega, .inl (by omega)⟩
  case inr.inl.inr.inr => exact .inr ⟨by omega, .inl (by omega)⟩
  case inr.inr.inr.inl => exact .inr ⟨by omega, .inl (by omega)⟩

/-! ### cmp.Compare, cmp.Or -/
def cmpI (x y : Int) : Int := if x < y then -1 else if y < x then 1 else 0
def cmpS (x y : ByteArray) : Int := if bl x.toList y.toList = true then -1 else if x.toList = y.toList then 0 else 1
def or3 (x y z : Int) : Int := if x ≠ 0 then x else if y ≠ 0 then y else z
def ordO (a b : Ow) : Int := or3 (cmpI a.a b.a) (cmpI a.v b.v) (cmpS a.f b.f)

theorem ordO_lt (a b : Ow) : decide (ordO a b < 0) = owLt a b := by
  rw [Bool.eq_iff_iff, owLt_iff, decide_eq_true_eq]
  unfold ordO or3 cmpI cmpS
  rcases Int.lt_trichotomy a.a b.a with h | h | h
  · rw [if_pos h, if_pos (by decide)]; constructor
    · intro _; exact .inl h
    · intro _; decide
  · rw [h, if_neg (Int.lt_irrefl _), if_neg (Int.lt_irrefl _), if_neg (by decide)]
    rcases Int.lt_trichotomy a.v b.v with k | k | k
    · rw [if_pos k, if_pos (by decide)]; constructor
      · intro _; exact .inr ⟨rfl, .inl k⟩
      · intro _; decide
    · rw [k, if_neg (Int.lt_irrefl _), if_neg (Int.lt_irrefl _), if_neg (by decide)]
      cases h5 : bl a.f.toList b.f.toList
      · constructor
        · intro e
          rw [if_neg (by decide)] at e
          split at e <;> omega
        · rintro (e | ⟨_, e | ⟨_, e⟩⟩)
          · omega
          · omega
          · cases e
      · constructor
        · intro _; exact .inr ⟨rfl, .inr ⟨rfl, rfl⟩⟩
        · intro _; rw [if_pos rfl]; decide
    · rw [if_neg (show ¬ a.v < b.v by omega), if_pos k, if_pos (by decide)]; constructor
      · intro e; omega
      · rintro (e | ⟨_, e | ⟨_, e⟩⟩) <;> omega
  · rw [if_neg (show ¬ a.a < b.a by omega), if_pos h, if_pos (by decide)]; constructor
    · intro e; omega
    · rintro (e | ⟨e, _⟩) <;> omega
end Go.Proofs.Ytckljlgojhloiaa
namespace Go.Proofs.Ytckljlgojhloiaa
open Go.RowKit Go.BigFrame

/-- An answer of a list, a number and a flag. -/
def RetPl (B : Nat) (e : Ending) (w' : World) : Option (List Ex × Int) → Prop
  | none => e = .returned (.tuple #[.slice none 0 0, .int .i64 0, .bool false])
  | some (L, x) => ∃ a n cap, e = .returned (.tuple #[.slice a n cap, .int .i64 x, .bool true]) ∧ ResAt Ex.cs 2 52 w' B a n cap L

theorem gl_at {size : Int} {l : List Ex} (k : Nat) (hk : k ≤ l.length) : (gl size 1 l)[k]? = some ((match l[k]? with | some e => e.a | none => size + 1) - (glA size l k).2) := by
  rw [glA_gl k hk, List.getElem?_append_right (by rw [glA_len k hk]; omega), glA_len k hk, Nat.sub_self]
  by_cases h : k < l.length
  · have hp : l[k]? = some l[k] := by simp [h]
    rw [drop_at hp, hp, gl]; rfl
  · rw [List.drop_of_length_le (by omega), show l[k]? = none by simp; omega, gl]; rfl

theorem pgoM_at {size m : Int} {l : List Ex} (k : Nat) (hk : k < l.length + 1) : pgoM size m k (glA size l k).2 (l.drop k) = (if m ≤ (match l[k]? with | some e => e.a | none => size + 1) - (glA size l k).2 then some (k, (glA size l k).2) else (if k < l.length then pgoM size m (k + 1) (glA size l (k + 1)).2 (l.drop (k + 1)) else none)) := by
  by_cases h : k < l.length
  · have hp : l[k]? = some l[k] := by simp [h]
    rw [drop_at hp, hp, pgoM, if_pos h, glA_succ hp]
  · rw [List.drop_of_length_le (by omega), show l[k]? = none by simp; omega, pgoM, if_neg h]

set_option maxHeartbeats 4000000 in
set_option maxRecDepth 100000 in
theorem spec_Placed (size : Int) (b o n cap : Nat) (l : List Ex) (d : ByteArray) (w : World) (h : ExsAt w (some ⟨b, o, none⟩) n l) (hstr : Strs l) (hn : n ≤ 4194304) (hcap : n ≤ cap) (hd : d.size ≤ 9223372036854775807) :
    Calls Try.prog 8 #[.int .i64 size, .slice (some ⟨b, o, none⟩) n cap, .string d] w fun e w' => RetPl w.heap.size e w' (placedO size l d) ∧ Below w.heap.size w w' := by
  have hlen : Hid (l.length = n) := h.len
  rw [← placedM_eq]
  have hemp : d.toList = [] ↔ d.size = 0 := by
    constructor
    · intro e
      have : d = ByteArray.mk #[] := bytes_eq (by rw [e, ByteArray.toList_eq])
      rw [this]; rfl
    · intro e; rw [show d = ByteArray.mk #[] from ByteArray.ext (Array.eq_empty_of_size_eq_zero e), ByteArray.toList_eq]
  cases hok : spaceOkB size l
  · have hf : placedM size l d = none := by simp [placedM, hok]
    rw [hf]
    go_enter Try.func8, Try.ntmps8
    go_wp2_with fail
    refine (spec_SpaceOk size _ n cap l _ h hstr hn).mono ?_
    rintro e w1 ⟨rfl, rfl⟩
    rw [hok]
    go_wp2
    go_returns
    exact ⟨rfl, Below.refl _ _⟩
  · obtain ⟨hs1, hs2, hln, hxg⟩ := ok_parts hok
    rw [hlen.out] at hln
    by_cases hz : d.size = 0
    · have hz' : d.toList = [] := hemp.2 hz
      have hz3 : d.toList.isEmpty = true := by rw [hz']; rfl
      have hf : placedM size l d = none := by simp [placedM, dataOkB, hz]
      rw [hf]
      go_enter Try.func8, Try.ntmps8
      go_wp2_with fail
      refine (spec_SpaceOk size _ n cap l _ h hstr hn).mono ?_
      rintro e w1 ⟨rfl, rfl⟩
      rw [hok]
      go_wp2
      go_returns
      exact ⟨rfl, Below.refl _ _⟩
    · have hz' : ¬ d.toList = [] := fun e => hz (hemp.1 e)
      have hz3 : d.toList.isEmpty = false := by cases hh : d.toList.isEmpty; rfl; exact absurd (List.isEmpty_iff.1 hh) hz'
      cases hpl : (plainB d && decide (d.size ≤ 20))
      · have hf : placedM size l d = none := by
          have : dataOkB d = false := by rw [dataOkB_eq, hpl]; simp
          simp [placedM, this]
        rw [hf]
        go_enter Try.func8, Try.ntmps8
        go_wp2_with fail
        refine (spec_SpaceOk size _ n cap l _ h hstr hn).mono ?_
        rintro e w1 ⟨rfl, rfl⟩
        rw [hok]
        go_wp2_with fail
        refine (spec_l1Plain d _ hd).mono ?_
        rintro e w1 ⟨rfl, rfl⟩
        rw [hpl]
        go_wp2
        go_returns
        exact ⟨rfl, Below.refl _ _⟩
      · have hdo : dataOkB d = true := by rw [dataOkB_eq, hpl]; simp; omega
        by_cases h60 : n = 60
        · have h60' : ((n : Int) == 60) = true := by simp [h60]
          have hf : placedM size l d = none := by simp [placedM, hlen.out, h60]
          rw [hf]
          clear h60
          go_enter Try.func8, Try.ntmps8
          go_wp2_with fail
          refine (spec_SpaceOk size _ n cap l _ h hstr hn).mono ?_
          rintro e w1 ⟨rfl, rfl⟩
          rw [hok]
          go_wp2_with fail
          refine (spec_l1Plain d _ hd).mono ?_
          rintro e w1 ⟨rfl, rfl⟩
          rw [hpl]
          go_wp2
          go_returns
          exact ⟨rfl, Below.refl _ _⟩
        · have h60' : ((n : Int) == 60) = false := beq_eq_false_iff_ne.2 (by omega)
          have hd20 : d.size ≤ 20 := by simp at hpl; exact hpl.2
          have hf : Hid (placedM size l d = (pgoM size d.size 0 1 l).map (fun x => (l.take x.1 ++ [⟨x.2, d⟩] ++ l.drop x.1, x.2))) := by show _ = _; unfold placedM; rw [if_pos ⟨hok, hdo, by rw [hlen.out]; exact h60⟩]
          have hgl := gl_len (size := size) (L := l) (next := 1)
          rw [hlen.out] at hgl
          generalize hR : placedM size l d = R at *
          clear hR
          obtain ⟨i0, hi, hz0, hz1, hz2⟩ := info_parts infoE
          go_enter Try.func8, Try.ntmps8
          go_wp2_with fail
          refine (spec_SpaceOk size _ n cap l _ h hstr hn).mono ?_
          rintro e w1 ⟨rfl, rfl⟩
          rw [hok]
          go_wp2_with fail
          refine (spec_l1Plain d _ hd).mono ?_
          rintro e w1 ⟨rfl, rfl⟩
          rw [hpl]
          go_wp2_with fail
          refine (spec_l1Gaps size _ n cap l _ h (by omega) hs1 hs2 hxg).mono ?_
          rintro e w2 ⟨⟨ag, ng, capg, rfl, Rg⟩, hB2⟩
          have hng := Rg.sl.len
          rw [hgl] at hng
          have hng1 : ng ≤ n + 1 := by omega
          have hng2 : n + 1 ≤ ng := by omega
          clear hng hgl
          have hG := Rg.sl
          go_wp2_with fail
          go_loopw [10, 11] (fun nx ix wr => ∃ (k : Nat), k ≤ ng ∧ ix = .int .i64 k ∧ (k < ng → nx = .int .i64 (glA size l k).2 ∧ Hid (pgoM size d.size 0 1 l = pgoM size d.size k (glA size l k).2 (l.drop k))) ∧ (k = ng → (∃ y : Int, nx = .int .i64 y) ∧ Hid (pgoM size d.size 0 1 l = none)) ∧ Below w2.heap.size w2 wr) (fun _ ix _ => ng - (intOf ix).toNat)
          case atStart => exact ⟨0, Nat.zero_le _, rfl, fun _ => ⟨rfl, by show _ = _; simp [glA]⟩, fun e => by omega, Below.refl _ _⟩
          case round =>
            obtain ⟨k, hk, rfl, hnx, hend, hB⟩ := hrel
            by_cases hlt : k < ng
            · obtain ⟨rfl, hI⟩ := hnx hlt
              clear hnx hend
              have hkl : k ≤ l.length := by rw [hlen.out]; omega
              obtain ⟨bg, og, x, hag, hx, c0⟩ := ints_at' (hG.below hB) hlt
              have hxv : x = (match l[k]? with | some e => e.a | none => size + 1) - (glA size l k).2 := by
                have := gl_at (size := size) (l := l) k hkl
                rw [this] at hx
                exact (Option.some.inj hx).symm
              have hst := pgoM_at (size := size) (m := d.size) (l := l) k (by omega)
              rw [← hxv] at hst
              obtain ⟨q1, q2, q3⟩ := glA_bd (l := l) hs2 k hkl hxg
              subst hag
              have hBw := chain hB2 hB
              have hsw := hBw.size
              have hk1 : (k : Int) < ng := by omega
              have hk2 : (0 : Int) ≤ k := by omega
              have hS1 : ∀ u, Below w1.heap.size w1 u → ExsAt u (some ⟨b, o, none⟩) k (l.take k) := fun u hu => (h.below hu).take (by omega)
              have hS2 : ∀ u, Below w1.heap.size w1 u → ExsAt u (if cap = k then some ⟨b, o, none⟩ else some ⟨b, o + k * 2, none⟩) (n - k) (l.drop k) := fun u hu => slice_end (h.below hu) k cap (by omega) hcap
              by_cases hfit : (d.size : Int) ≤ x
              · rw [if_pos hfit] at hst
                have hout : Hid (R = some ([] ++ l.take k ++ [⟨(glA size l k).2, d⟩] ++ l.drop k, (glA size l k).2)) := by show _ = _; rw [hf.out, hI.out, hst]; simp
                clear hst hI hf q3 hx hxv
                generalize (glA size l k).2 = nk at *
                by_cases hkn : k = n
                · subst hkn
                  have hS3 : ∀ (u : World) (q : Option Addr), ExsAt u q 0 (l.drop k) := fun u q => by rw [List.drop_of_length_le (Nat.le_of_eq hlen.out)]; exact ⟨rfl, fun i x hx => by simp at hx⟩
                  go_wp2_with (first | (at_builtin; refine wpList_app rfl (fun K hK => wp_app _ _ 24 rfl w1.heap.size 52 i0 (.agg #[.int .i64 0, .string .empty]) 24 Try.underlying24 hi hz0 hz1 hz2 rfl (by decide) ecs_len ecs_one _ 0 0 [] rfl (res_empty (Blk.new' _ _ _ _ (by simp)) (by omega)) (some ⟨b, o, none⟩) k cap (l.take k) rfl (hS1 _ (hBw.alloc hsw _)) (fun ad h => (by cases h; rfl)) (fun h => (by cases h)) k (Nat.zero_add _) (by unfold maxLen; omega) (by omega) (by simp; omega) (fun a1 cap1 u1 hr1 hg1 => hK _ _ ?_)); have hB1 : Below w1.heap.size w1 u1 := Below.grown (hBw.alloc hsw _) hg1 (by simp; omega) (fun k e => by simp [Value.ownBlock] at e; omega)) | (at_builtin; refine wpList_app rfl (fun K hK => wp_app _ _ 24 rfl w1.heap.size 52 i0 (.agg #[.int .i64 0, .string .empty]) 24 Try.underlying24 hi hz0 hz1 hz2 rfl (by decide) ecs_len ecs_one a1 k cap1 ([] ++ l.take k) rfl (hr1.alloc _) _ 1 1 [(⟨nk, d⟩ : Ex)] rfl (sl_newE' _ ⟨nk, d⟩ _ _ (by simp)) (fun ad h => (by cases h; rfl)) (fun h => (by cases h)) (k + 1) rfl (by unfold maxLen; omega) (by omega) (by have := hB1.size; simp; omega) (fun a2 cap2 u2 hr2 hg2 => hK _ _ ?_)); have hB3 : Below w1.heap.size w1 u2 := Below.grown (hB1.alloc hB1.size _) hg2 (by have := hB1.size; simp; omega) (own_ge fun ad had => (hr1.block ad had).1)) | (at_builtin; refine wpList_app rfl (fun K hK => wp_app _ _ 24 rfl w1.heap.size 52 i0 (.agg #[.int .i64 0, .string .empty]) 24 Try.underlying24 hi hz0 hz1 hz2 rfl (by decide) ecs_len ecs_one a2 (k + 1) cap2 ([] ++ l.take k ++ [(⟨nk, d⟩ : Ex)]) rfl hr2 (if cap = k then some ⟨b, o, none⟩ else some ⟨b, o + k * 2, none⟩) 0 (cap - k) (l.drop k) rfl (hS3 _ _) (fun ad h => (by first | (cases h; rfl) | (split at h <;> cases h <;> rfl))) (fun h => (by first | cases h | (split at h <;> cases h))) (k + 1) (by omega) (by unfold maxLen; omega) (by omega) hB3.size (fun a3 cap3 u3 hr3 hg3 => hK _ _ ?_)); have hB4 : Below w1.heap.size w1 u3 := Below.grown hB3 hg3 hB3.size (own_ge fun ad had => (hr2.block ad had).1)) | (at_builtin; refine wpList_app rfl (fun K hK => wp_app _ _ 24 rfl w1.heap.size 52 i0 (.agg #[.int .i64 0, .string .empty]) 24 Try.underlying24 hi hz0 hz1 hz2 rfl (by decide) ecs_len ecs_one a2 (k + 1) cap2 ([] ++ l.take k ++ [(⟨nk, d⟩ : Ex)]) rfl hr2 (if cap = k then some ⟨b, o, none⟩ else some ⟨b, o + k * 2, none⟩) (k - k) (cap - k) (l.drop k) rfl (by rw [Nat.sub_self]; exact hS3 _ _) (fun ad h => (by first | (cases h; rfl) | (split at h <;> cases h <;> rfl))) (fun h => (by first | cases h | (split at h <;> cases h))) (k + 1) (by omega) (by unfold maxLen; omega) (by omega) hB3.size (fun a3 cap3 u3 hr3 hg3 => hK _ _ ?_)); have hB4 : Below w1.heap.size w1 u3 := Below.grown hB3 hg3 hB3.size (own_ge fun ad had => (hr2.block ad had).1)))
                  all_goals go_returns
                  all_goals (rw [hout.out]; exact ⟨⟨a3, k + 1, cap3, rfl, hr3⟩, hB4⟩)
                · have hkn2 : k < n := by omega
                  go_wp2_with (first | (at_builtin; refine wpList_app rfl (fun K hK => wp_app _ _ 24 rfl w1.heap.size 52 i0 (.agg #[.int .i64 0, .string .empty]) 24 Try.underlying24 hi hz0 hz1 hz2 rfl (by decide) ecs_len ecs_one _ 0 0 [] rfl (res_empty (Blk.new' _ _ _ _ (by simp)) (by omega)) (some ⟨b, o, none⟩) k cap (l.take k) rfl (hS1 _ (hBw.alloc hsw _)) (fun ad h => (by cases h; rfl)) (fun h => (by cases h)) k (Nat.zero_add _) (by unfold maxLen; omega) (by omega) (by simp; omega) (fun a1 cap1 u1 hr1 hg1 => hK _ _ ?_)); have hB1 : Below w1.heap.size w1 u1 := Below.grown (hBw.alloc hsw _) hg1 (by simp; omega) (fun k e => by simp [Value.ownBlock] at e; omega)) | (at_builtin; refine wpList_app rfl (fun K hK => wp_app _ _ 24 rfl w1.heap.size 52 i0 (.agg #[.int .i64 0, .string .empty]) 24 Try.underlying24 hi hz0 hz1 hz2 rfl (by decide) ecs_len ecs_one a1 k cap1 ([] ++ l.take k) rfl (hr1.alloc _) _ 1 1 [(⟨nk, d⟩ : Ex)] rfl (sl_newE' _ ⟨nk, d⟩ _ _ (by simp)) (fun ad h => (by cases h; rfl)) (fun h => (by cases h)) (k + 1) rfl (by unfold maxLen; omega) (by omega) (by have := hB1.size; simp; omega) (fun a2 cap2 u2 hr2 hg2 => hK _ _ ?_)); have hB3 : Below w1.heap.size w1 u2 := Below.grown (hB1.alloc hB1.size _) hg2 (by have := hB1.size; simp; omega) (own_ge fun ad had => (hr1.block ad had).1)) | (at_builtin; refine wpList_app rfl (fun K hK => wp_app _ _ 24 rfl w1.heap.size 52 i0 (.agg #[.int .i64 0, .string .empty]) 24 Try.underlying24 hi hz0 hz1 hz2 rfl (by decide) ecs_len ecs_one a2 (k + 1) cap2 ([] ++ l.take k ++ [(⟨nk, d⟩ : Ex)]) rfl hr2 (some ⟨b, o + k * 2, none⟩) (n - k) (cap - k) (l.drop k) rfl ((h.below hB3).drop k) (fun ad h => (by first | (cases h; rfl) | (split at h <;> cases h <;> rfl))) (fun h => (by first | cases h | (split at h <;> cases h))) (n + 1) (by omega) (by unfold maxLen; omega) (by omega) hB3.size (fun a3 cap3 u3 hr3 hg3 => hK _ _ ?_)); have hB4 : Below w1.heap.size w1 u3 := Below.grown hB3 hg3 hB3.size (own_ge fun ad had => (hr2.block ad had).1)))
                  all_goals go_returns
                  all_goals (rw [hout.out]; exact ⟨⟨a3, n + 1, cap3, rfl, hr3⟩, hB4⟩)
              · rw [if_neg hfit] at hst
                clear hS1 hS2 hx
                by_cases hkn : k < n
                · rw [if_pos (by rw [hlen.out]; exact hkn)] at hst
                  obtain ⟨b', o', p, hbo, hp, d0, d1⟩ := exs_at (h.below hBw) hkn
                  obtain ⟨rfl, rfl⟩ : b = b' ∧ o = o' := by simpa using hbo
                  have hga : Hid ((glA size l (k + 1)).2 = p.a + p.d.size) := by show _ = _; rw [glA_succ hp]
                  have hst2 : Hid (pgoM size d.size 0 1 l = pgoM size d.size (k + 1) (glA size l (k + 1)).2 (l.drop (k + 1))) := by show _ = _; rw [hI.out, hst]
                  rw [drop_at hp] at q3
                  simp only [xgo, Bool.and_eq_true, decide_eq_true_eq] at q3
                  have hp20 : p.d.size ≤ 20 := by have := q3.1.1.1; simp [dataOkB] at this; omega
                  have hpa : p.a ≤ 400 := by have := q3.1.2; have := dataOkB_pos q3.1.1.1; omega
                  have hpa0 : 1 ≤ p.a := by have := q3.1.1.2; omega
                  clear hp hbo q3 hst hI hxv
                  generalize (glA size l k).2 = nk at *
                  have hk3 : (k : Int) < n := by omega
                  go_wp2_with fail
                  go_quiet (fail)
                  go_wp2
                  go_roundw
                  case rel => exact ⟨k + 1, by omega, by go_num, fun _ => ⟨by rw [hga.out], hst2⟩, fun e => by omega, chain hB (drewNB _ _)⟩
                  case measure => simp [intOf]; omega
                · rw [if_neg (by rw [hlen.out]; exact hkn)] at hst
                  have hst2 : Hid (pgoM size d.size 0 1 l = none) := by show _ = _; rw [hI.out, hst]
                  clear q3 hst hI hxv
                  generalize (glA size l k).2 = nk at *
                  go_wp2
                  go_roundw
                  case rel => exact ⟨k + 1, by omega, by go_num, fun e => by omega, fun _ => ⟨⟨_, rfl⟩, hst2⟩, hB⟩
                  case measure => simp [intOf]; omega
            · obtain ⟨⟨y, rfl⟩, hI⟩ := hend (by omega)
              obtain rfl : k = ng := by omega
              clear hnx hend
              go_wp2
              go_returns
              rw [hf.out, hI.out]
              exact ⟨rfl, chain hB2 hB⟩
end Go.Proofs.Ytckljlgojhloiaa
