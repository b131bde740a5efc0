/- Plain facts: slices that lie one behind the other are one slice; the content of a slice. -/
import Derived.Test.YtllbojcjdpelnaaGreatWl
namespace Go.Proofs.YtllbojcjdpelnaaGreat
open Go.RowKit

theorem slp_nil {u t : Int} (h : t ≤ u) : ∀ (l : List Pt) (st : Int), slp u t st l = []
  | [], _ => rfl
  | p :: r, st => by rw [slp_no (by omega)]; exact slp_nil h r _
theorem slp_same {u v t : Int} : ∀ (l : List Pt) (st : Int), u ≤ st → v ≤ st → (∀ p ∈ l, 1 ≤ p.n) → slp u t st l = slp v t st l
  | [], _, _, _, _ => rfl
  | p :: r, st, hu, hv, hp => by
    have hn := hp p (by simp)
    have ih := slp_same (u := u) (v := v) (t := t) r (st + p.n) (by omega) (by omega) (fun q hq => hp q (by simp [hq]))
    have e1 : max (u - st) 0 = 0 := by omega
    have e2 : max (v - st) 0 = 0 := by omega
    simp only [slp, e1, e2, ih]
theorem cut_goes {p : Pt} {x v y : Int} (h : partOkB p = true) (h0 : 0 ≤ x) (h1 : x < v) (h2 : v < y) (h3 : y ≤ p.n) : goesOnB (cutP p x v) (cutP p v y) = true ∧ cutP p x y = ⟨(cutP p x v).a, (cutP p x v).f, (cutP p x v).n + (cutP p v y).n⟩ := by
  by_cases ha : p.a = 0
  · simp [cutP, goesOnB, ha]; omega
  · have ha' : (p.a == 0) = false := by simp [ha]
    simp only [partOkB, ha', Bool.false_eq_true, if_false, Bool.and_eq_true, decide_eq_true_eq] at h
    have hw : wrap64 (p.f + x + (v - x)) = p.f + v := by unfold wrap64; omega
    simp only [cutP, goesOnB, ha', Bool.false_eq_true, if_false, beq_self_eq_true, Bool.true_and, Bool.false_or, hw, true_and]
    congr 1
    omega
theorem slp_split {u v t : Int} (huv : u ≤ v) (hvt : v ≤ t) : ∀ (l : List Pt) (st : Int) (acc : List Pt) (B : Int), pgo none B acc = true → (∀ p ∈ l, partOkB p = true) → sumN acc + sumN l ≤ B → B ≤ 1000 → 0 ≤ B → joinL acc (slp u v st l ++ slp v t st l) = joinL acc (slp u t st l)
  | [], _, _, _, _, _, _, _, _ => rfl
  | p :: r, st, acc, B, ha, hp, hs, hB, h0 => by
    have hp1 := hp p (by simp)
    have hn := partOkB_pos hp1
    have hr : ∀ q ∈ r, partOkB q = true := fun q hq => hp q (by simp [hq])
    have hrn : ∀ q ∈ r, 1 ≤ q.n := fun q hq => partOkB_pos (hr q hq)
    have hr0 := sumN_nonneg r hr
    have hacc := pgo_all acc none B h0 ha
    have ha0 := sumN_nonneg acc hacc.1
    simp only [sumN] at hs
    by_cases hA : st + p.n ≤ v
    · have e2 : slp v t st (p :: r) = slp v t (st + p.n) r := slp_no (by omega)
      rw [e2]
      by_cases hx : max (u - st) 0 < min (t - st) p.n
      · have e1 : slp u v st (p :: r) = cutP p (max (u - st) 0) (min (t - st) p.n) :: slp u v (st + p.n) r := slp_yes rfl (by omega) hx
        have e3 : slp u t st (p :: r) = cutP p (max (u - st) 0) (min (t - st) p.n) :: slp u t (st + p.n) r := slp_yes rfl rfl hx
        rw [e1, e3]
        have hc := cut_ok hp1 (x := max (u - st) 0) (y := min (t - st) p.n) (by omega) hx (by omega)
        have hcn := cutP_n p (max (u - st) 0) (min (t - st) p.n)
        obtain ⟨k1, k2⟩ := addL_ok ha hc (by omega) hB h0
        exact slp_split huv hvt r (st + p.n) _ B k1 hr (by rw [k2]; omega) hB h0
      · have e1 : slp u v st (p :: r) = slp u v (st + p.n) r := slp_no (by omega)
        have e3 : slp u t st (p :: r) = slp u t (st + p.n) r := slp_no (by omega)
        rw [e1, e3]
        exact slp_split huv hvt r (st + p.n) acc B ha hr (by omega) hB h0
    · by_cases hV : v ≤ st
      · rw [slp_none (p :: r) st hV (fun q hq => partOkB_pos (hp q hq)), List.nil_append, slp_same (p :: r) st (u := u) (v := v) (by omega) hV (fun q hq => partOkB_pos (hp q hq))]
      · by_cases h1 : u = v
        · subst h1; rw [slp_nil (Int.le_refl _) (p :: r)]; rfl
        · by_cases h2 : v = t
          · subst h2; rw [slp_nil (u := v) (Int.le_refl _) (p :: r), List.append_nil]
          · have e1 : slp u v st (p :: r) = [cutP p (max (u - st) 0) (v - st)] := by
              rw [slp_yes (x := max (u - st) 0) (y := v - st) rfl (by omega) (by omega), slp_none r _ (by omega) hrn]
            have e2 : slp v t st (p :: r) = cutP p (v - st) (min (t - st) p.n) :: slp v t (st + p.n) r := slp_yes (by omega) rfl (by omega)
            have e3 : slp u t st (p :: r) = cutP p (max (u - st) 0) (min (t - st) p.n) :: slp v t (st + p.n) r := by
              rw [slp_yes (x := max (u - st) 0) (y := min (t - st) p.n) rfl rfl (by omega), slp_same r _ (u := u) (v := v) (by omega) (by omega) hrn]
            rw [e1, e2, e3]
            obtain ⟨g1, g2⟩ := cut_goes hp1 (x := max (u - st) 0) (v := v - st) (y := min (t - st) p.n) (by omega) (by omega) (by omega) (by omega)
            have n1 := cutP_n p (max (u - st) 0) (v - st)
            have n2 := cutP_n p (v - st) (min (t - st) p.n)
            have := joinL_one (a := acc) (cut_ok hp1 (x := max (u - st) 0) (y := v - st) (by omega) (by omega) (by omega)) (by omega) (cut_ok hp1 (x := v - st) (y := min (t - st) p.n) (by omega) (by omega) (by omega)) (by omega) (fun x hx => ⟨hacc.1 x hx, by have := mem_le_sum hacc.1 x hx; omega⟩) g1
            rw [← g2] at this
            have e4 : joinL acc (cutP p (max (u - st) 0) (min (t - st) p.n) :: slp v t (st + p.n) r) = joinL (joinL acc [cutP p (max (u - st) 0) (min (t - st) p.n)]) (slp v t (st + p.n) r) := rfl
            rw [e4, this]; rfl
theorem slp_sum {u t : Int} (h : u ≤ t) : ∀ (l : List Pt) (st : Int), (∀ p ∈ l, partOkB p = true) → sumN (slp u t st l) = max st (min t (st + sumN l)) - max st (min u (st + sumN l))
  | [], st, _ => by simp only [slp, sumN]; omega
  | p :: r, st, hp => by
    have hn := partOkB_pos (hp p (by simp))
    have hr : ∀ q ∈ r, partOkB q = true := fun q hq => hp q (by simp [hq])
    have hr0 := sumN_nonneg r hr
    have ih := slp_sum h r (st + p.n) hr
    by_cases hx : max (u - st) 0 < min (t - st) p.n
    · rw [slp_yes rfl rfl hx]
      simp only [sumN, cutP_n, ih]
      omega
    · rw [slp_no hx]
      simp only [sumN, ih]
      omega
theorem cut_all {p : Pt} (h : partOkB p = true) : cutP p 0 p.n = p := by
  obtain ⟨a, f, n⟩ := p
  by_cases ha : a = 0
  · simp [partOkB, ha] at h
    simp [cutP, ha, h.1]
  · simp [cutP, ha]
theorem slp_all {u t : Int} : ∀ (l : List Pt) (st : Int), u ≤ st → st + sumN l ≤ t → (∀ p ∈ l, partOkB p = true) → slp u t st l = l
  | [], _, _, _, _ => rfl
  | p :: r, st, hu, ht, hp => by
    have hp1 := hp p (by simp)
    have hn := partOkB_pos hp1
    have hr : ∀ q ∈ r, partOkB q = true := fun q hq => hp q (by simp [hq])
    have hr0 := sumN_nonneg r hr
    simp only [sumN] at ht
    rw [slp_yes (x := 0) (y := p.n) (by omega) (by omega) (by omega), cut_all hp1, slp_all r _ (by omega) (by omega) hr]

theorem slice_right {l : List Pt} (h : partsOkB l = true) (u t : Int) : partsOkB (slp u t 0 l) = true := by
  have h1 := slice_pgo h u t
  have h2 := (slp_bd u t l 0 (fun p hp => partOkB_pos ((partsOkB_all h).2.1 p hp))).2.2.1
  have h3 := (partsOkB_all h).1
  simp only [partsOkB, Bool.and_eq_true, decide_eq_true_eq]
  exact ⟨by omega, h1⟩
theorem slices {l : List Pt} {u t : Int} (h : partsOkB l = true) (h0 : 0 ≤ u) (h1 : u ≤ t) (h2 : t ≤ sumN l) : sliceO l u t = some (slp u t 0 l) := by
  have := slice_eq l u t
  unfold sliceO
  rw [this, if_pos ⟨h, h0, by omega, h1, h2⟩, joinL_self (slice_pgo h u t)]
theorem slice_join {l : List Pt} (h : partsOkB l = true) {u v t : Int} (h1 : u ≤ v) (h2 : v ≤ t) : joinL (slp u v 0 l) (slp v t 0 l) = slp u t 0 l := by
  obtain ⟨_, a1, a2⟩ := partsOkB_all h
  have e := joinL_append [] (slp u v 0 l) (slp v t 0 l)
  rw [joinL_self (slice_pgo h u v)] at e
  rw [e, slp_split h1 h2 l 0 [] 100 rfl a1 (by simp [sumN]; omega) (by omega) (by omega), joinL_self (slice_pgo h u t)]
theorem slice_joined {l : List Pt} (h : partsOkB l = true) {u v t : Int} (h1 : u ≤ v) (h2 : v ≤ t) : joinedO (slp u v 0 l) (slp v t 0 l) = some (slp u t 0 l) := by
  rw [joined_eq, slice_join h h1 h2, if_pos ⟨slice_right h u v, slice_right h v t, slice_right h u t⟩]
theorem slice_cat {l : List Pt} (h : partsOkB l = true) {u v t : Int} (h1 : u ≤ v) (h2 : v ≤ t) (e : List Ex) : catO e (slp u t 0 l) = (catO e (slp u v 0 l)).bind (fun x => (catO e (slp v t 0 l)).map (x ++ ·)) := by
  obtain ⟨_, a1, a2⟩ := partsOkB_all (slice_right h u v)
  obtain ⟨_, b1, b2⟩ := partsOkB_all (slice_right h v t)
  have := sumN_nonneg _ a1
  have := sumN_nonneg _ b1
  rw [← slice_join h h1 h2, catO_joinL e _ _ 200 (pgo_cap _ none 100 200 (slice_pgo h u v) (by omega) (by omega)) b1 (by omega) (by omega) (by omega), catO_append]
theorem slice_content {l : List Pt} {e : List Ex} {x : ByteArray} {u t : Int} (hx : contentO l e = some x) (h0 : 0 ≤ u) (h1 : u ≤ t) (h2 : t ≤ sumN l) : contentO (slp u t 0 l) e = some (x.extract u.toNat t.toNat) := by
  obtain ⟨h, he⟩ := content_right hx
  obtain ⟨_, a1, _⟩ := partsOkB_all h
  rw [content_cat h he] at hx
  have hl : slp 0 (sumN l) 0 l = l := slp_all l 0 (by omega) (by omega) a1
  rw [← hl, slice_cat h (u := 0) (v := t) (t := sumN l) (by omega) h2 e, slice_cat h (u := 0) (v := u) (t := t) h0 h1 e] at hx
  cases c1 : catO e (slp 0 u 0 l) with
  | none => simp [c1] at hx
  | some x1 =>
    cases c2 : catO e (slp u t 0 l) with
    | none => simp [c1, c2] at hx
    | some y =>
      cases c3 : catO e (slp t (sumN l) 0 l) with
      | none => simp [c1, c2, c3] at hx
      | some z =>
        simp only [c1, c2, c3, Option.bind_some, Option.map_some, Option.some.injEq] at hx
        subst hx
        have r1 := (content_lenJ (l := slp 0 u 0 l) (e := e) (s := x1) (by rw [content_cat (slice_right h 0 u) he, c1])).1
        have r2 := (content_lenJ (l := slp u t 0 l) (e := e) (s := y) (by rw [content_cat (slice_right h u t) he, c2])).1
        rw [slp_sum (by omega) l 0 a1] at r1 r2
        have r1' : x1.size = u.toNat := by omega
        have r2' : y.size = t.toNat - u.toNat := by omega
        have q1 : x1.data.toList.length = u.toNat := by rw [← r1']; simp
        have q2 : y.data.toList.length = t.toNat - u.toNat := by rw [← r2']; simp
        rw [content_cat (slice_right h u t) he, c2]
        congr 1
        refine ba_ext ?_
        rw [ba_extract, ba_app, ba_app, List.append_assoc, List.drop_left' q1, List.take_left' q2]
end Go.Proofs.YtllbojcjdpelnaaGreat
