/- Plain facts: what the model's joining of right parts is right for. -/
import Derived.Test.YtllbojcjdpelnaaGreatPj
namespace Go.Proofs.YtllbojcjdpelnaaGreat
open Go.RowKit

theorem pgo_split {q : Option Pt} {B : Int} {p : Pt} {r : List Pt} : pgo q B (p :: r) = true ↔ partOkB p = true ∧ p.n ≤ B ∧ (∀ x, q = some x → goesOnB x p = false) ∧ pgo (some p) (B - p.n) r = true := by
  cases q with
  | none => simp [pgo, and_assoc]
  | some x => simp [pgo, and_assoc]

theorem joinL_acc (l : List Pt) : ∀ (acc : List Pt) (q : Pt) (B : Int), acc.getLast? = some q → pgo (some q) B l = true → joinL acc l = acc ++ l := by
  induction l with
  | nil => intro acc q B _ _; simp [joinL]
  | cons p r ih =>
    intro acc q B hl h
    obtain ⟨h1, h2, h3, h4⟩ := pgo_split.1 h
    have e : addL acc p = acc ++ [p] := by simp [addL, hl, h3 q rfl]
    show joinL (addL acc p) r = _
    rw [e, ih (acc ++ [p]) p _ (by simp) h4]
    simp

theorem joinL_self {l : List Pt} {B : Int} (h : pgo none B l = true) : joinL [] l = l := by
  cases l with
  | nil => rfl
  | cons p r =>
    obtain ⟨_, _, _, h4⟩ := pgo_split.1 h
    show joinL (addL [] p) r = _
    have e : addL [] p = [p] := rfl
    rw [e, joinL_acc r [p] p _ rfl h4]
    rfl

theorem pgo_cap (l : List Pt) : ∀ (q : Option Pt) (B c : Int), pgo q B l = true → sumN l ≤ c → 0 ≤ c → pgo q c l = true := by
  induction l with
  | nil => intro q B c _ _ _; cases q <;> rfl
  | cons p r ih =>
    intro q B c h hs hc
    obtain ⟨h1, h2, h3, h4⟩ := pgo_split.1 h
    simp only [sumN] at hs
    have hall := pgo_all r (some p) (B - p.n) (by omega) h4
    have hr := sumN_nonneg r hall.1
    exact pgo_split.2 ⟨h1, by omega, h3, ih (some p) (B - p.n) (c - p.n) h4 (by omega) (by omega)⟩

theorem pgo_snoc (l : List Pt) : ∀ (q : Option Pt) (B : Int) (p : Pt), pgo q B l = true → partOkB p = true → sumN l + p.n ≤ B → (∀ x, (l.getLast?.or q) = some x → goesOnB x p = false) → pgo q B (l ++ [p]) = true := by
  induction l with
  | nil =>
    intro q B p _ hp hs hx
    simp only [sumN] at hs
    exact pgo_split.2 ⟨hp, by omega, fun x hq => hx x (by simpa using hq), rfl⟩
  | cons y r ih =>
    intro q B p h hp hs hx
    obtain ⟨h1, h2, h3, h4⟩ := pgo_split.1 h
    simp only [sumN] at hs
    refine pgo_split.2 ⟨h1, h2, h3, ih (some y) (B - y.n) p h4 hp (by omega) ?_⟩
    intro x hxx
    refine hx x ?_
    cases r with
    | nil => simpa using hxx
    | cons z t =>
      obtain ⟨v, hv⟩ : ∃ v, (z :: t).getLast? = some v := ⟨_, List.getLast?_cons⟩
      rw [hv] at hxx
      rw [List.getLast?_cons_cons, hv]
      exact hxx

theorem pgo_init (l : List Pt) : ∀ (q : Option Pt) (B : Int) (p : Pt), pgo q B (l ++ [p]) = true → pgo q B l = true ∧ partOkB p = true ∧ sumN l + p.n ≤ B ∧ (∀ x, (l.getLast?.or q) = some x → goesOnB x p = false) := by
  induction l with
  | nil =>
    intro q B p h
    obtain ⟨h1, h2, h3, _⟩ := pgo_split.1 h
    exact ⟨by cases q <;> rfl, h1, by simp only [sumN]; omega, fun x hx => h3 x (by simpa using hx)⟩
  | cons y r ih =>
    intro q B p h
    obtain ⟨h1, h2, h3, h4⟩ := pgo_split.1 h
    obtain ⟨k1, k2, k3, k4⟩ := ih (some y) (B - y.n) p h4
    refine ⟨pgo_split.2 ⟨h1, h2, h3, k1⟩, k2, by simp only [sumN]; omega, ?_⟩
    intro x hx
    refine k4 x ?_
    cases r with
    | nil => simpa using hx
    | cons z t =>
      obtain ⟨v, hv⟩ : ∃ v, (z :: t).getLast? = some v := ⟨_, List.getLast?_cons⟩
      rw [List.getLast?_cons_cons, hv] at hx
      rw [hv]
      exact hx

theorem merged_ok {x p : Pt} (hx : partOkB x = true) (hp : partOkB p = true) (hg : goesOnB x p = true) : partOkB ⟨x.a, x.f, x.n + p.n⟩ = true := by
  have h1 := partOkB_pos hx
  have h2 := partOkB_pos hp
  simp only [goesOnB, Bool.and_eq_true, Bool.or_eq_true, beq_iff_eq] at hg
  obtain ⟨ha, hg⟩ := hg
  unfold partOkB at *
  by_cases h0 : x.a = 0
  · simp [h0] at hx ⊢
    omega
  · have h0' : (x.a == 0) = false := by simp [h0]
    have hp0 : (p.a == 0) = false := by simp; omega
    simp only [h0', hp0, Bool.false_eq_true, if_false, Bool.and_eq_true, decide_eq_true_eq] at hx hp ⊢
    rcases hg with hg | hg
    · omega
    · rw [wrap_small (by omega) (by omega)] at hg
      omega

/-- One part more: right but for the length and the count. -/
theorem addL_ok {l : List Pt} {p : Pt} {B : Int} (h : pgo none B l = true) (hp : partOkB p = true) (hs : sumN l + p.n ≤ B) (hB : B ≤ 1000) (h0 : 0 ≤ B) : pgo none B (addL l p) = true ∧ sumN (addL l p) = sumN l + p.n := by
  rcases List.eq_nil_or_concat l with rfl | ⟨L, x, rfl⟩
  · simp only [sumN] at hs
    exact ⟨pgo_split.2 ⟨hp, by omega, fun x hx => (by cases hx), rfl⟩, by simp [addL, sumN]⟩
  · rw [List.concat_eq_append] at *
    have hl : (L ++ [x]).getLast? = some x := by simp
    cases hg : goesOnB x p
    · have e : addL (L ++ [x]) p = L ++ [x] ++ [p] := by simp [addL, hg]
      rw [e]
      exact ⟨pgo_snoc _ none B p h hp hs (fun y hy => by simp at hy; subst hy; exact hg), by rw [sumN_append]; simp [sumN]⟩
    · obtain ⟨k1, k2, k3, k4⟩ := pgo_init L none B x h
      rw [sumN_append] at hs
      simp only [sumN] at hs
      have hL := sumN_nonneg L (pgo_all L none B h0 k1).1
      have hx1 := partOkB_pos k2
      have hp1 := partOkB_pos hp
      have e : addL (L ++ [x]) p = L ++ [⟨x.a, x.f, x.n + p.n⟩] := by
        simp only [addL, hl, hg, if_true, List.dropLast_concat]
        rw [wrap_small (by omega) (by omega)]
      rw [e]
      refine ⟨pgo_snoc L none B _ k1 (merged_ok k2 hp hg) (by show sumN L + (x.n + p.n) ≤ B; omega) k4, ?_⟩
      rw [sumN_append, sumN_append]; simp [sumN]; omega

theorem joinL_ok (m : List Pt) : ∀ (l : List Pt) (B : Int), pgo none B l = true → (∀ p ∈ m, partOkB p = true) → sumN l + sumN m ≤ B → B ≤ 1000 → 0 ≤ B → pgo none B (joinL l m) = true ∧ sumN (joinL l m) = sumN l + sumN m := by
  induction m with
  | nil => intro l B h _ _ _ _; exact ⟨h, by simp [joinL, sumN]⟩
  | cons p t ih =>
    intro l B h hm hs hB h0
    simp only [sumN] at hs
    have ht := sumN_nonneg t (fun q hq => hm q (by simp [hq]))
    obtain ⟨a1, a2⟩ := addL_ok h (hm p (by simp)) (by omega) hB h0
    obtain ⟨b1, b2⟩ := ih (addL l p) B a1 (fun q hq => hm q (by simp [hq])) (by omega) hB h0
    exact ⟨b1, by show sumN (joinL (addL l p) t) = _; rw [b2, a2]; simp [sumN]; omega⟩

theorem partsOkB_pgo {l : List Pt} (h : partsOkB l = true) : pgo none 100 l = true := by
  simp [partsOkB] at h; exact h.2

theorem partsOkB_join {l m : List Pt} (hl : partsOkB l = true) (hm : partsOkB m = true) : partsOkB (joinL l m) = decide (sumN l + sumN m ≤ 100 ∧ (joinL l m).length ≤ 16) := by
  have sl := partsOkB_all hl
  have sm := partsOkB_all hm
  have nl := sumN_nonneg l sl.2.1
  have nm := sumN_nonneg m sm.2.1
  obtain ⟨b1, b2⟩ := joinL_ok m l 200 (by
    have hp := partsOkB_pgo hl
    exact pgo_cap l none 100 200 hp (by omega) (by omega)) sm.2.1 (by omega) (by omega) (by omega)
  rw [Bool.eq_iff_iff]
  simp only [partsOkB, Bool.and_eq_true, decide_eq_true_eq]
  constructor
  · rintro ⟨h1, h2⟩
    have := pgo_all _ none 100 (by omega) h2
    exact ⟨by omega, h1⟩
  · rintro ⟨h1, h2⟩
    exact ⟨h2, pgo_cap _ none 200 100 b1 (by omega) (by omega)⟩

theorem joined_eq (l m : List Pt) : joinedO l m = if partsOkB l = true ∧ partsOkB m = true ∧ partsOkB (joinL l m) = true then some (joinL l m) else none := by
  unfold joinedO
  by_cases h : partsOkB l = true ∧ partsOkB m = true
  · rw [if_pos h]
    have hp : ∀ p ∈ l ++ m, 1 ≤ p.n := by
      intro p hp
      rcases List.mem_append.1 hp with hp | hp
      · exact (pos_of h.1 p hp).1
      · exact (pos_of h.2 p hp).1
    have e : joinL [] (l ++ m) = joinL l m := by
      have : joinL [] (l ++ m) = joinL (joinL [] l) m := by simp [joinL, List.foldl_append]
      rw [this, joinL_self (partsOkB_pgo h.1)]
    rw [outc_row hp, e, sumN_append]
    simp only [h.1, h.2, true_and, partsOkB_join h.1 h.2, decide_eq_true_eq]
  · rw [if_neg h, if_neg (fun hc => h ⟨hc.1, hc.2.1⟩)]
end Go.Proofs.YtllbojcjdpelnaaGreat
