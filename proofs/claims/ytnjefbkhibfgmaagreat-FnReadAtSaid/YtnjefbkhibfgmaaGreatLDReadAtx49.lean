/- What joining does to the content: nothing. What the laws of parts need: how long a content is, what answers are. Plain facts: slices that lie one behind the other are one slice; the content of a slice. -/
import Derived.Test.YtnjefbkhibfgmaaGreatK23
import Derived.Test.YtnjefbkhibfgmaaGreatK02
import Derived.Test.YtnjefbkhibfgmaaGreatK47
import Derived.Test.YtnjefbkhibfgmaaGreatK10
import Derived.Test.YtnjefbkhibfgmaaGreatK38
import Derived.Laws.StructEq
namespace Go.Proofs.YtnjefbkhibfgmaaGreat
open Go.RowKit
theorem ba_ext {x y : ByteArray} (h : x.data.toList = y.data.toList) : x = y := by
  cases x; cases y; congr 1; exact Array.toList_inj.1 h
theorem ba_app (x y : ByteArray) : (x ++ y).data.toList = x.data.toList ++ y.data.toList := by simp
theorem ba_extract (x : ByteArray) (i j : Nat) : (x.extract i j).data.toList = (x.data.toList.drop i).take (j - i) := by
  simp [ByteArray.data_extract]
theorem ba_nil (x : ByteArray) : (⟨#[]⟩ : ByteArray) ++ x = x := ba_ext (by rw [ba_app]; rfl)
theorem ba_assoc (x y z : ByteArray) : x ++ y ++ z = x ++ (y ++ z) := ba_ext (by simp only [ba_app, List.append_assoc])
theorem zs_app (i j : Nat) : zs i ++ zs j = zs (i + j) := ba_ext (by rw [ba_app]; simp [zs, List.replicate_append_replicate])
theorem extract_app (x : ByteArray) {i j k : Nat} (h1 : i ≤ j) (h2 : j ≤ k) : x.extract i j ++ x.extract j k = x.extract i k := by
  apply ba_ext
  rw [ba_app, ba_extract, ba_extract, ba_extract]
  have e1 : k - i = (j - i) + (k - j) := by omega
  have e2 : x.data.toList.drop j = (x.data.toList.drop i).drop (j - i) := by rw [List.drop_drop]; congr 1; omega
  rw [e1, e2, List.take_add]
/-- The content of parts, in one. -/
def catO (e : List Ex) (l : List Pt) : Option ByteArray := cgo e ⟨#[]⟩ l
theorem cgo_acc (e : List Ex) : ∀ (l : List Pt) (acc : ByteArray), cgo e acc l = (catO e l).map (acc ++ ·)
  | [], acc => by simp [cgo, catO]; exact ba_ext (by simp)
  | p :: r, acc => by
    unfold catO cgo
    cases pieceO e p with
    | none => rfl
    | some d =>
      simp only
      rw [cgo_acc e r (acc ++ d), cgo_acc e r (⟨#[]⟩ ++ d), ba_nil]
      cases catO e r with
      | none => rfl
      | some s => simp [ba_assoc]
theorem catO_cons (e : List Ex) (p : Pt) (r : List Pt) : catO e (p :: r) = (pieceO e p).bind (fun d => (catO e r).map (d ++ ·)) := by
  conv => lhs; unfold catO cgo
  cases pieceO e p with
  | none => rfl
  | some d => simp only [ba_nil]; rw [cgo_acc]; rfl
theorem catO_append (e : List Ex) : ∀ (l m : List Pt), catO e (l ++ m) = (catO e l).bind (fun x => (catO e m).map (x ++ ·))
  | [], m => by
    show catO e m = _
    cases h : catO e m with
    | none => rfl
    | some s => simp [catO, cgo, ba_nil]
  | p :: r, m => by
    rw [List.cons_append, catO_cons, catO_cons, catO_append e r m]
    cases pieceO e p with
    | none => rfl
    | some d =>
      cases catO e r with
      | none => rfl
      | some x =>
        cases catO e m with
        | none => rfl
        | some y => simp [ba_assoc]
theorem catO_one (e : List Ex) (p : Pt) : catO e [p] = pieceO e p := by
  rw [catO_cons]
  cases pieceO e p with
  | none => rfl
  | some d => simp [catO, cgo]; exact ba_ext (by simp)
theorem piece_merge {e : List Ex} {q p : Pt} (hq : partOkB q = true) (hp : partOkB p = true) (hg : goesOnB q p = true) : catO e [⟨q.a, q.f, q.n + p.n⟩] = catO e [q, p] := by
  have hq1 := partOkB_pos hq
  have hp1 := partOkB_pos hp
  simp only [goesOnB, Bool.and_eq_true, Bool.or_eq_true, beq_iff_eq] at hg
  obtain ⟨ha, hg⟩ := hg
  rw [show [q, p] = [q] ++ [p] from rfl, catO_append, catO_one, catO_one, catO_one]
  by_cases h0 : q.a = 0
  · have h0' : (q.a == 0) = true := by simp [h0]
    have h0'' : (p.a == 0) = true := by simp [ha, h0]
    simp [pieceO, h0', h0'', zs_app]
    congr 1; omega
  · have h0' : (q.a == 0) = false := by simp [h0]
    have h0'' : (p.a == 0) = false := by simp [ha, h0]
    simp only [partOkB, h0', h0'', Bool.false_eq_true, if_false, Bool.and_eq_true, decide_eq_true_eq] at hq hp
    have hf : p.f = q.f + q.n := by
      rcases hg with hg | hg
      · omega
      · rw [hg]; unfold wrap64; omega
    simp only [pieceO, h0', Bool.false_eq_true, if_false, ha]
    generalize dataAtB q.a e = D
    by_cases hs : (D.size : Int) < q.f + (q.n + p.n)
    · rw [if_pos hs]
      by_cases hs1 : (D.size : Int) < q.f + q.n
      · rw [if_pos hs1]; rfl
      · rw [if_neg hs1, if_pos (by omega)]; rfl
    · rw [if_neg hs, if_neg (by omega), if_neg (by omega)]
      simp only [Option.bind_some, Option.map_some]
      congr 1
      rw [show p.f.toNat = (q.f + q.n).toNat by rw [hf], show (p.f + p.n).toNat = (q.f + (q.n + p.n)).toNat by rw [hf]; congr 1; omega, extract_app D (by omega) (by omega)]
theorem catO_addL {e : List Ex} {l : List Pt} {p : Pt} (hl : ∀ q ∈ l, partOkB q = true ∧ q.n ≤ 1000) (hp : partOkB p = true) (hp2 : p.n ≤ 1000) : catO e (addL l p) = catO e (l ++ [p]) := by
  unfold addL
  split
  · rename_i h
    have : l = [] := by simpa using h
    subst this; rfl
  · rename_i q hq
    have hqm := hl q (List.mem_of_getLast? hq)
    split
    · rename_i hg
      have hq1 := partOkB_pos hqm.1
      have hp1 := partOkB_pos hp
      have e1 : l = l.dropLast ++ [q] := by
        have hne : l ≠ [] := fun h => by rw [h] at hq; simp at hq
        rw [List.getLast?_eq_some_getLast hne] at hq
        rw [← Option.some.inj hq, List.dropLast_concat_getLast hne]
      rw [show wrap64 (q.n + p.n) = q.n + p.n by unfold wrap64; omega]
      conv => rhs; rw [e1, List.append_assoc]
      rw [catO_append, catO_append, piece_merge hqm.1 hp hg]; rfl
    · rfl
theorem mem_le_sum : ∀ {l : List Pt}, (∀ q ∈ l, partOkB q = true) → ∀ q ∈ l, q.n ≤ sumN l
  | [], _, q, hq => by simp at hq
  | p :: r, h, q, hq => by
    have hr := sumN_nonneg r (fun x hx => h x (by simp [hx]))
    have hp := partOkB_pos (h p (by simp))
    simp only [sumN]
    rcases List.mem_cons.1 hq with rfl | hq
    · omega
    · have := mem_le_sum (fun x hx => h x (by simp [hx])) q hq; omega
theorem catO_joinL (e : List Ex) : ∀ (m l : List Pt) (B : Int), pgo none B l = true → (∀ p ∈ m, partOkB p = true) → sumN l + sumN m ≤ B → B ≤ 1000 → 0 ≤ B → catO e (joinL l m) = catO e (l ++ m)
  | [], l, B, _, _, _, _, _ => by simp [joinL]
  | p :: r, l, B, h, hm, hs, hB, h0 => by
    obtain ⟨h1, h2⟩ := pgo_all l none B h0 h
    have hp := hm p (by simp)
    have hp1 := partOkB_pos hp
    have hr := sumN_nonneg r (fun x hx => hm x (by simp [hx]))
    have hl0 := sumN_nonneg l h1
    simp only [sumN] at hs
    obtain ⟨a1, a2⟩ := addL_ok h hp (by omega) hB h0
    show catO e (joinL (addL l p) r) = _
    rw [catO_joinL e r (addL l p) B a1 (fun x hx => hm x (by simp [hx])) (by omega) hB h0, catO_append, catO_addL (fun q hq => ⟨h1 q hq, by have := mem_le_sum h1 q hq; omega⟩) hp (by omega), ← catO_append]
    simp
/-- The content of right parts over right extents. -/
theorem content_cat {l : List Pt} {e : List Ex} (h : partsOkB l = true) (h' : spaceOkB 400 e = true) : contentO l e = catO e l := by simp [contentO, h, h', catO]
theorem content_right {l : List Pt} {e : List Ex} {s : ByteArray} (h : contentO l e = some s) : partsOkB l = true ∧ spaceOkB 400 e = true := by
  unfold contentO at h
  split at h
  · assumption
  · cases h
/-- In whatever order three are joined they are the same. -/
theorem joinL_one {a : List Pt} {q p : Pt} (hq : partOkB q = true) (hq2 : q.n ≤ 1000) (hp : partOkB p = true) (hp2 : p.n ≤ 1000) (ha : ∀ x ∈ a, partOkB x = true ∧ x.n ≤ 1000) (hg : goesOnB q p = true) : joinL a [⟨q.a, q.f, q.n + p.n⟩] = joinL a [q, p] := by
  have hq1 := partOkB_pos hq
  have hp1 := partOkB_pos hp
  show addL a ⟨q.a, q.f, q.n + p.n⟩ = addL (addL a q) p
  have hgp := hg
  simp only [goesOnB, Bool.and_eq_true, Bool.or_eq_true, beq_iff_eq] at hg
  have hqf : q.a = 0 ∨ (0 ≤ q.f ∧ q.f < 20) := by
    by_cases h0 : q.a = 0
    · exact .inl h0
    · have h0' : (q.a == 0) = false := by simp [h0]
      simp only [partOkB, h0', Bool.false_eq_true, if_false, Bool.and_eq_true, decide_eq_true_eq] at hq
      exact .inr (by omega)
  have w1 : wrap64 (q.n + p.n) = q.n + p.n := by unfold wrap64; omega
  cases hl : a.getLast? with
  | none =>
    have : a = [] := by simpa using hl
    subst this
    have e1 : addL [] q = [q] := rfl
    rw [e1]
    simp [addL, hgp, w1]
  | some x =>
    have hx := ha x (List.mem_of_getLast? hl)
    have hx1 := partOkB_pos hx.1
    have e0 : addL a q = if goesOnB x q then a.dropLast ++ [⟨x.a, x.f, wrap64 (x.n + q.n)⟩] else a ++ [q] := by simp [addL, hl]
    have e2 : goesOnB x ⟨q.a, q.f, q.n + p.n⟩ = goesOnB x q := rfl
    have w2 : wrap64 (x.n + q.n) = x.n + q.n := by unfold wrap64; omega
    have w3 : wrap64 (x.n + (q.n + p.n)) = x.n + (q.n + p.n) := by unfold wrap64; omega
    have w4 : wrap64 (x.n + q.n + p.n) = x.n + q.n + p.n := by unfold wrap64; omega
    rw [e0]
    cases hxq : goesOnB x q
    · have e3 : addL a ⟨q.a, q.f, q.n + p.n⟩ = a ++ [⟨q.a, q.f, q.n + p.n⟩] := by simp [addL, hl, e2, hxq]
      rw [e3]
      simp [addL, hgp, w1]
    · have e3 : addL a ⟨q.a, q.f, q.n + p.n⟩ = a.dropLast ++ [⟨x.a, x.f, x.n + (q.n + p.n)⟩] := by simp [addL, hl, e2, hxq, w3]
      have hxq' := hxq
      simp only [goesOnB, Bool.and_eq_true, Bool.or_eq_true, beq_iff_eq] at hxq'
      have hxf : x.a = 0 ∨ (0 ≤ x.f ∧ x.f < 20) := by
        by_cases h0 : x.a = 0
        · exact .inl h0
        · have h0' : (x.a == 0) = false := by simp [h0]
          have := hx.1
          simp only [partOkB, h0', Bool.false_eq_true, if_false, Bool.and_eq_true, decide_eq_true_eq] at this
          exact .inr (by omega)
      have e4 : goesOnB ⟨x.a, x.f, x.n + q.n⟩ p = true := by
        simp only [goesOnB, Bool.and_eq_true, Bool.or_eq_true, beq_iff_eq]
        refine ⟨by omega, ?_⟩
        by_cases h0 : p.a = 0
        · exact .inl h0
        · right
          have g1 : p.f = wrap64 (q.f + q.n) := hg.2.resolve_left h0
          have g2 : q.f = wrap64 (x.f + x.n) := hxq'.2.resolve_left (by omega)
          rw [g1, g2]
          unfold wrap64
          omega
      rw [e3]
      simp [addL, e4, w2, w4]
      omega
end Go.Proofs.YtnjefbkhibfgmaaGreat
namespace Go.Proofs.YtnjefbkhibfgmaaGreat
open Go.RowKit
theorem cgo_sizeJ (e : List Ex) : ∀ (l : List Pt) (acc s : ByteArray), (∀ p ∈ l, 1 ≤ p.n ∧ p.n ≤ 100 ∧ (p.a ≠ 0 → 0 ≤ p.f ∧ p.f < 20)) → cgo e acc l = some s → (s.size : Int) = acc.size + sumN l
  | [], acc, s, _, h => by simp [cgo] at h; subst h; simp [sumN]
  | p :: r, acc, s, hp, h => by
    unfold cgo at h
    split at h
    · cases h
    · rename_i d hd
      obtain ⟨h1, _, h3⟩ := hp p (by simp)
      have hs := pieceO_size h1 (fun ha => (h3 ha).1) hd
      have := cgo_sizeJ e r (acc ++ d) s (fun q hq => hp q (by simp [hq])) h
      rw [ByteArray.size_append] at this
      simp only [sumN]
      omega
theorem content_lenJ {l : List Pt} {e : List Ex} {s : ByteArray} (h : contentO l e = some s) : (s.size : Int) = sumN l ∧ s.size ≤ 100 := by
  unfold contentO at h
  split at h
  · rename_i hh
    have := cgo_sizeJ e l _ s (parts_all hh.1).2 h
    have h0 : (((⟨#[]⟩ : ByteArray).size : Nat) : Int) = 0 := rfl
    have := (partsOkB_all hh.1).2.2
    omega
  · cases h
end Go.Proofs.YtnjefbkhibfgmaaGreat
namespace Go.Proofs.YtnjefbkhibfgmaaGreat
open Go.RowKit
theorem slp_nil {u t : Int} (h : t ≤ u) : ∀ (l : List Pt) (st : Int), slp u t st l = []
  | [], _ => rfl
  | p :: r, st => by rw [slp_no (by omega)]; exact slp_nil h r _
theorem slp_same {u v t : Int} : ∀ (l : List Pt) (st : Int), u ≤ st → v ≤ st → (∀ p ∈ l, 1 ≤ p.n) → slp u t st l = slp v t st l
  | [], _, _, _, _ => rfl
  | p :: r, st, hu, hv, hp => by
    have hn := hp p (by simp)
    have ih := slp_same (u := u) (v := v) (t := t) r (st + p.n) (by omega) (by omega) (fun q hq => hp q (by simp [hq]))
    have e1 : max (u - st) 0 = 0 := by omega
    have e2 : max (v - st) 0 = 0 := by omega
    simp only [slp, e1, e2, ih]
theorem cut_goes {p : Pt} {x v y : Int} (h : partOkB p = true) (h0 : 0 ≤ x) (h1 : x < v) (h2 : v < y) (h3 : y ≤ p.n) : goesOnB (cutP p x v) (cutP p v y) = true ∧ cutP p x y = ⟨(cutP p x v).a, (cutP p x v).f, (cutP p x v).n + (cutP p v y).n⟩ := by
  by_cases ha : p.a = 0
  · simp [cutP, goesOnB, ha]; omega
  · have ha' : (p.a == 0) = false := by simp [ha]
    simp only [partOkB, ha', Bool.false_eq_true, if_false, Bool.and_eq_true, decide_eq_true_eq] at h
    have hw : wrap64 (p.f + x + (v - x)) = p.f + v := by unfold wrap64; omega
    simp only [cutP, goesOnB, ha', Bool.false_eq_true, if_false, beq_self_eq_true, Bool.true_and, Bool.false_or, hw, true_and]
    congr 1
    omega
theorem slp_split {u v t : Int} (huv : u ≤ v) (hvt : v ≤ t) : ∀ (l : List Pt) (st : Int) (acc : List Pt) (B : Int), pgo none B acc = true → (∀ p ∈ l, partOkB p = true) → sumN acc + sumN l ≤ B → B ≤ 1000 → 0 ≤ B → joinL acc (slp u v st l ++ slp v t st l) = joinL acc (slp u t st l)
  | [], _, _, _, _, _, _, _, _ => rfl
  | p :: r, st, acc, B, ha, hp, hs, hB, h0 => by
    have hp1 := hp p (by simp)
    have hn := partOkB_pos hp1
    have hr : ∀ q ∈ r, partOkB q = true := fun q hq => hp q (by simp [hq])
    have hrn : ∀ q ∈ r, 1 ≤ q.n := fun q hq => partOkB_pos (hr q hq)
    have hr0 := sumN_nonneg r hr
    have hacc := pgo_all acc none B h0 ha
    have ha0 := sumN_nonneg acc hacc.1
    simp only [sumN] at hs
    by_cases hA : st + p.n ≤ v
    · have e2 : slp v t st (p :: r) = slp v t (st + p.n) r := slp_no (by omega)
      rw [e2]
      by_cases hx : max (u - st) 0 < min (t - st) p.n
      · have e1 : slp u v st (p :: r) = cutP p (max (u - st) 0) (min (t - st) p.n) :: slp u v (st + p.n) r := slp_yes rfl (by omega) hx
        have e3 : slp u t st (p :: r) = cutP p (max (u - st) 0) (min (t - st) p.n) :: slp u t (st + p.n) r := slp_yes rfl rfl hx
        rw [e1, e3]
        have hc := cut_ok hp1 (x := max (u - st) 0) (y := min (t - st) p.n) (by omega) hx (by omega)
        have hcn := cutP_n p (max (u - st) 0) (min (t - st) p.n)
        obtain ⟨k1, k2⟩ := addL_ok ha hc (by omega) hB h0
        exact slp_split huv hvt r (st + p.n) _ B k1 hr (by rw [k2]; omega) hB h0
      · have e1 : slp u v st (p :: r) = slp u v (st + p.n) r := slp_no (by omega)
        have e3 : slp u t st (p :: r) = slp u t (st + p.n) r := slp_no (by omega)
        rw [e1, e3]
        exact slp_split huv hvt r (st + p.n) acc B ha hr (by omega) hB h0
    · by_cases hV : v ≤ st
      · rw [slp_none (p :: r) st hV (fun q hq => partOkB_pos (hp q hq)), List.nil_append, slp_same (p :: r) st (u := u) (v := v) (by omega) hV (fun q hq => partOkB_pos (hp q hq))]
      · by_cases h1 : u = v
        · subst h1; rw [slp_nil (Int.le_refl _) (p :: r)]; rfl
        · by_cases h2 : v = t
          · subst h2; rw [slp_nil (u := v) (Int.le_refl _) (p :: r), List.append_nil]
          · have e1 : slp u v st (p :: r) = [cutP p (max (u - st) 0) (v - st)] := by
              rw [slp_yes (x := max (u - st) 0) (y := v - st) rfl (by omega) (by omega), slp_none r _ (by omega) hrn]
            have e2 : slp v t st (p :: r) = cutP p (v - st) (min (t - st) p.n) :: slp v t (st + p.n) r := slp_yes (by omega) rfl (by omega)
            have e3 : slp u t st (p :: r) = cutP p (max (u - st) 0) (min (t - st) p.n) :: slp v t (st + p.n) r := by
              rw [slp_yes (x := max (u - st) 0) (y := min (t - st) p.n) rfl rfl (by omega), slp_same r _ (u := u) (v := v) (by omega) (by omega) hrn]
            rw [e1, e2, e3]
            obtain ⟨g1, g2⟩ := cut_goes hp1 (x := max (u - st) 0) (v := v - st) (y := min (t - st) p.n) (by omega) (by omega) (by omega) (by omega)
            have n1 := cutP_n p (max (u - st) 0) (v - st)
            have n2 := cutP_n p (v - st) (min (t - st) p.n)
            have := joinL_one (a := acc) (cut_ok hp1 (x := max (u - st) 0) (y := v - st) (by omega) (by omega) (by omega)) (by omega) (cut_ok hp1 (x := v - st) (y := min (t - st) p.n) (by omega) (by omega) (by omega)) (by omega) (fun x hx => ⟨hacc.1 x hx, by have := mem_le_sum hacc.1 x hx; omega⟩) g1
            rw [← g2] at this
            have e4 : joinL acc (cutP p (max (u - st) 0) (min (t - st) p.n) :: slp v t (st + p.n) r) = joinL (joinL acc [cutP p (max (u - st) 0) (min (t - st) p.n)]) (slp v t (st + p.n) r) := rfl
            rw [e4, this]; rfl
theorem slp_sum {u t : Int} (h : u ≤ t) : ∀ (l : List Pt) (st : Int), (∀ p ∈ l, partOkB p = true) → sumN (slp u t st l) = max st (min t (st + sumN l)) - max st (min u (st + sumN l))
  | [], st, _ => by simp only [slp, sumN]; omega
  | p :: r, st, hp => by
    have hn := partOkB_pos (hp p (by simp))
    have hr : ∀ q ∈ r, partOkB q = true := fun q hq => hp q (by simp [hq])
    have hr0 := sumN_nonneg r hr
    have ih := slp_sum h r (st + p.n) hr
    by_cases hx : max (u - st) 0 < min (t - st) p.n
    · rw [slp_yes rfl rfl hx]
      simp only [sumN, cutP_n, ih]
      omega
    · rw [slp_no hx]
      simp only [sumN, ih]
      omega
theorem cut_all {p : Pt} (h : partOkB p = true) : cutP p 0 p.n = p := by
  obtain ⟨a, f, n⟩ := p
  by_cases ha : a = 0
  · simp [partOkB, ha] at h
    simp [cutP, ha, h.1]
  · simp [cutP, ha]
theorem slp_all {u t : Int} : ∀ (l : List Pt) (st : Int), u ≤ st → st + sumN l ≤ t → (∀ p ∈ l, partOkB p = true) → slp u t st l = l
  | [], _, _, _, _ => rfl
  | p :: r, st, hu, ht, hp => by
    have hp1 := hp p (by simp)
    have hn := partOkB_pos hp1
    have hr : ∀ q ∈ r, partOkB q = true := fun q hq => hp q (by simp [hq])
    have hr0 := sumN_nonneg r hr
    simp only [sumN] at ht
    rw [slp_yes (x := 0) (y := p.n) (by omega) (by omega) (by omega), cut_all hp1, slp_all r _ (by omega) (by omega) hr]
theorem slice_right {l : List Pt} (h : partsOkB l = true) (u t : Int) : partsOkB (slp u t 0 l) = true := by
  have h1 := slice_pgo h u t
  have h2 := (slp_bd u t l 0 (fun p hp => partOkB_pos ((partsOkB_all h).2.1 p hp))).2.2.1
  have h3 := (partsOkB_all h).1
  simp only [partsOkB, Bool.and_eq_true, decide_eq_true_eq]
  exact ⟨by omega, h1⟩
theorem slices {l : List Pt} {u t : Int} (h : partsOkB l = true) (h0 : 0 ≤ u) (h1 : u ≤ t) (h2 : t ≤ sumN l) : sliceO l u t = some (slp u t 0 l) := by
  have := slice_eq l u t
  unfold sliceO
  rw [this, if_pos ⟨h, h0, by omega, h1, h2⟩, joinL_self (slice_pgo h u t)]
theorem slice_join {l : List Pt} (h : partsOkB l = true) {u v t : Int} (h1 : u ≤ v) (h2 : v ≤ t) : joinL (slp u v 0 l) (slp v t 0 l) = slp u t 0 l := by
  obtain ⟨_, a1, a2⟩ := partsOkB_all h
  have e := joinL_append [] (slp u v 0 l) (slp v t 0 l)
  rw [joinL_self (slice_pgo h u v)] at e
  rw [e, slp_split h1 h2 l 0 [] 100 rfl a1 (by simp [sumN]; omega) (by omega) (by omega), joinL_self (slice_pgo h u t)]
theorem slice_cat {l : List Pt} (h : partsOkB l = true) {u v t : Int} (h1 : u ≤ v) (h2 : v ≤ t) (e : List Ex) : catO e (slp u t 0 l) = (catO e (slp u v 0 l)).bind (fun x => (catO e (slp v t 0 l)).map (x ++ ·)) := by
  obtain ⟨_, a1, a2⟩ := partsOkB_all (slice_right h u v)
  obtain ⟨_, b1, b2⟩ := partsOkB_all (slice_right h v t)
  have := sumN_nonneg _ a1
  have := sumN_nonneg _ b1
  rw [← slice_join h h1 h2, catO_joinL e _ _ 200 (pgo_cap _ none 100 200 (slice_pgo h u v) (by omega) (by omega)) b1 (by omega) (by omega) (by omega), catO_append]
theorem slice_content {l : List Pt} {e : List Ex} {x : ByteArray} {u t : Int} (hx : contentO l e = some x) (h0 : 0 ≤ u) (h1 : u ≤ t) (h2 : t ≤ sumN l) : contentO (slp u t 0 l) e = some (x.extract u.toNat t.toNat) := by
  obtain ⟨h, he⟩ := content_right hx
  obtain ⟨_, a1, _⟩ := partsOkB_all h
  rw [content_cat h he] at hx
  have hl : slp 0 (sumN l) 0 l = l := slp_all l 0 (by omega) (by omega) a1
  rw [← hl, slice_cat h (u := 0) (v := t) (t := sumN l) (by omega) h2 e, slice_cat h (u := 0) (v := u) (t := t) h0 h1 e] at hx
  cases c1 : catO e (slp 0 u 0 l) with
  | none => simp [c1] at hx
  | some x1 =>
    cases c2 : catO e (slp u t 0 l) with
    | none => simp [c1, c2] at hx
    | some y =>
      cases c3 : catO e (slp t (sumN l) 0 l) with
      | none => simp [c1, c2, c3] at hx
      | some z =>
        simp only [c1, c2, c3, Option.bind_some, Option.map_some, Option.some.injEq] at hx
        subst hx
        have r1 := (content_lenJ (l := slp 0 u 0 l) (e := e) (s := x1) (by rw [content_cat (slice_right h 0 u) he, c1])).1
        have r2 := (content_lenJ (l := slp u t 0 l) (e := e) (s := y) (by rw [content_cat (slice_right h u t) he, c2])).1
        rw [slp_sum (by omega) l 0 a1] at r1 r2
        have r1' : x1.size = u.toNat := by omega
        have r2' : y.size = t.toNat - u.toNat := by omega
        have q1 : x1.data.toList.length = u.toNat := by rw [← r1']; simp
        have q2 : y.data.toList.length = t.toNat - u.toNat := by rw [← r2']; simp
        rw [content_cat (slice_right h u t) he, c2]
        congr 1
        refine ba_ext ?_
        rw [ba_extract, ba_app, ba_app, List.append_assoc, List.drop_left' q1, List.take_left' q2]
end Go.Proofs.YtnjefbkhibfgmaaGreat
