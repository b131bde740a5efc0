/- Plain facts: slices of right parts are right; what is laid. -/
import Derived.Test.YtllbojcjdpelnaaGreatPk
import Derived.Test.YtllbojcjdpelnaaGreatSd
namespace Go.Proofs.YtllbojcjdpelnaaGreat
open Go.RowKit

theorem slp_none {fr to : Int} (l : List Pt) : ∀ st, to ≤ st → (∀ p ∈ l, 1 ≤ p.n) → slp fr to st l = [] := by
  induction l with
  | nil => intro st _ _; rfl
  | cons p r ih =>
    intro st h hp
    have := hp p (by simp)
    rw [slp_no (by omega)]
    exact ih _ (by omega) (fun q hq => hp q (by simp [hq]))

theorem cut_ok {p : Pt} {x y : Int} (h : partOkB p = true) (h0 : 0 ≤ x) (h1 : x < y) (h2 : y ≤ p.n) : partOkB (cutP p x y) = true := by
  unfold partOkB at *
  unfold cutP
  by_cases ha : p.a = 0
  · simp [ha]; omega
  · have ha' : (p.a == 0) = false := by simp [ha]
    simp only [ha', Bool.false_eq_true, if_false, Bool.and_eq_true, decide_eq_true_eq] at h ⊢
    omega

/-- The piece x' that comes of a part x, up to its end. -/
def Tail (x x' : Pt) : Prop := x'.a = x.a ∧ (x.a = 0 ∨ x'.f + x'.n = x.f + x.n)

theorem cut_next {x x' p : Pt} {y : Int} (ht : Tail x x') (hg : goesOnB x p = false) : goesOnB x' (cutP p 0 y) = false := by
  obtain ⟨h1, h2⟩ := ht
  unfold goesOnB at *
  unfold cutP
  by_cases ha : p.a = 0
  · simp [ha] at hg ⊢
    rw [h1]; exact hg
  · have ha' : (p.a == 0) = false := by simp [ha]
    simp only [ha', Bool.false_eq_true, if_false, Bool.false_or, Int.add_zero] at hg ⊢
    rw [h1]
    rcases h2 with h2 | h2
    · have : (p.a == x.a) = false := by rw [h2]; exact ha'
      simp [this]
    · rw [h2]; exact hg

theorem slp_ok (fr to : Int) (l : List Pt) : ∀ (st B : Int) (q q' : Option Pt), 0 ≤ B → pgo q B l = true → (∀ x', q' = some x' → fr ≤ st ∧ ∃ x, q = some x ∧ Tail x x') → pgo q' B (slp fr to st l) = true := by
  induction l with
  | nil => intro st B q q' _ _ _; cases q' <;> rfl
  | cons p r ih =>
    intro st B q q' hB h hq
    obtain ⟨h1, h2, h3, h4⟩ := pgo_split.1 h
    have hp1 := partOkB_pos h1
    have hall := pgo_all r (some p) (B - p.n) (by omega) h4
    have hrpos : ∀ y ∈ r, 1 ≤ y.n := fun y hy => partOkB_pos (hall.1 y hy)
    by_cases hx : max (fr - st) 0 < min (to - st) p.n
    · rw [slp_yes rfl rfl hx]
      have hb := cutP_bd hx
      have hrest : pgo (some (cutP p (max (fr - st) 0) (min (to - st) p.n))) (B - p.n) (slp fr to (st + p.n) r) = true := by
        by_cases hy : p.n ≤ to - st
        · refine ih (st + p.n) (B - p.n) (some p) _ (by omega) h4 ?_
          intro x' hx'
          obtain rfl := Option.some.inj hx'
          refine ⟨by omega, p, rfl, ?_⟩
          unfold Tail cutP
          by_cases ha : p.a = 0
          · simp [ha]
          · have ha' : (p.a == 0) = false := by simp [ha]
            simp only [ha', Bool.false_eq_true, if_false]
            exact ⟨trivial, .inr (by omega)⟩
        · rw [slp_none r (st + p.n) (by omega) hrpos]; rfl
      have hsum := slp_bd fr to r (st + p.n) hrpos
      refine pgo_split.2 ⟨cut_ok h1 (by omega) hx (by omega), by omega, ?_, pgo_cap _ _ _ _ hrest (by omega) (by omega)⟩
      intro x' hx'
      obtain ⟨hfr, x, hqx, ht⟩ := hq x' hx'
      have e : max (fr - st) 0 = 0 := by omega
      rw [e]
      exact cut_next ht (h3 x hqx)
    · rw [slp_no hx]
      cases q' with
      | some x' =>
        obtain ⟨hfr, _⟩ := hq x' rfl
        rw [slp_none r (st + p.n) (by omega) hrpos]; rfl
      | none =>
        have := ih (st + p.n) (B - p.n) (some p) none (by omega) h4 (fun x' hx' => (by cases hx'))
        have hsum := slp_bd fr to r (st + p.n) hrpos
        exact pgo_cap _ _ _ _ this (by omega) hB

theorem slice_pgo {l : List Pt} (h : partsOkB l = true) (fr to : Int) : pgo none 100 (slp fr to 0 l) = true :=
  slp_ok fr to l 0 100 none none (by omega) (partsOkB_pgo h) (fun x' hx' => (by cases hx'))

theorem joinL_append (x a b : List Pt) : joinL (joinL x a) b = joinL x (a ++ b) := by simp [joinL, List.foldl_append]

theorem laid_join {l m : List Pt} {at' : Int} (hl : partsOkB l = true) : laidJ l at' m = joinL [] (laidL l at' m) := by
  have e : joinL [] (slp (min (sumN l) (at' + sumN m)) (sumN l) 0 l) = slp (min (at' + sumN m) (sumN l)) (sumN l) 0 l := by
    rw [joinL_self (slice_pgo hl _ _), Int.min_comm]
  unfold laidJ laidL
  rw [e]
  split
  · have e2 : addL (joinL [] (slp 0 (min at' (sumN l)) 0 l)) ⟨0, 0, at' - sumN l⟩ = joinL [] (slp 0 (min at' (sumN l)) 0 l ++ [⟨0, 0, at' - sumN l⟩]) := by
      rw [← joinL_append]; rfl
    rw [e2, joinL_append, joinL_append, ← List.append_assoc]
  · rw [joinL_append, joinL_append, List.append_nil, ← List.append_assoc]

theorem laidL_ok {l m : List Pt} {at' : Int} (hl : partsOkB l = true) (hm : partsOkB m = true) (h1 : at' ≤ 100) : (∀ p ∈ laidL l at' m, partOkB p = true) ∧ sumN (laidL l at' m) ≤ 400 := by
  have hA := pgo_all _ none 100 (by omega) (slice_pgo hl 0 (min at' (sumN l)))
  have hC := pgo_all _ none 100 (by omega) (slice_pgo hl (min (at' + sumN m) (sumN l)) (sumN l))
  have sm := partsOkB_all hm
  have nl := sumN_nonneg l (partsOkB_all hl).2.1
  unfold laidL
  constructor
  · intro p hp
    simp only [List.mem_append] at hp
    rcases hp with ((hp | hp) | hp) | hp
    · exact hA.1 p hp
    · split at hp
      · simp at hp
        subst hp
        simp [partOkB]; omega
      · simp at hp
    · exact sm.2.1 p hp
    · exact hC.1 p hp
  · rw [sumN_append, sumN_append, sumN_append]
    split
    · simp only [sumN]; omega
    · simp only [sumN]; omega

theorem laid_eq (l : List Pt) (at' : Int) (m : List Pt) : laidO l at' m = laidS l at' m := by
  unfold laidO laidS
  by_cases h : partsOkB l = true ∧ 0 ≤ at' ∧ at' ≤ 100 ∧ partsOkB m = true
  · obtain ⟨ok1, ok2⟩ := laidL_ok h.1 h.2.2.2 h.2.2.1
    have hnn := sumN_nonneg _ ok1
    obtain ⟨b1, b2⟩ := joinL_ok (laidL l at' m) [] 400 rfl ok1 (by simp only [sumN]; omega) (by omega) (by omega)
    have hp : partsOkB (joinL [] (laidL l at' m)) = decide (sumN (laidL l at' m) ≤ 100 ∧ (joinL [] (laidL l at' m)).length ≤ 16) := by
      rw [Bool.eq_iff_iff]
      simp only [partsOkB, Bool.and_eq_true, decide_eq_true_eq]
      simp only [sumN, Int.zero_add] at b2
      constructor
      · rintro ⟨k1, k2⟩
        have := pgo_all _ none 100 (by omega) k2
        exact ⟨by omega, k1⟩
      · rintro ⟨k1, k2⟩
        exact ⟨k2, pgo_cap _ none 400 100 b1 (by omega) (by omega)⟩
    rw [if_pos h, outc_row (fun p hp => partOkB_pos (ok1 p hp)), laid_join h.1]
    simp only [h, and_self, true_and, hp, decide_eq_true_eq]
  · rw [if_neg h, if_neg (fun hc => h hc.1)]
end Go.Proofs.YtllbojcjdpelnaaGreat
