/- What joining does to the content: nothing. -/
import Derived.Test.YtllbojcjdpelnaaGreatPl
import Derived.Test.YtllbojcjdpelnaaGreatKd
namespace Go.Proofs.YtllbojcjdpelnaaGreat
open Go.RowKit

theorem ba_ext {x y : ByteArray} (h : x.data.toList = y.data.toList) : x = y := by
  cases x; cases y; congr 1; exact Array.toList_inj.1 h
theorem ba_app (x y : ByteArray) : (x ++ y).data.toList = x.data.toList ++ y.data.toList := by simp
theorem ba_extract (x : ByteArray) (i j : Nat) : (x.extract i j).data.toList = (x.data.toList.drop i).take (j - i) := by
  simp [ByteArray.data_extract]
theorem ba_nil (x : ByteArray) : (⟨#[]⟩ : ByteArray) ++ x = x := ba_ext (by rw [ba_app]; rfl)
theorem ba_assoc (x y z : ByteArray) : x ++ y ++ z = x ++ (y ++ z) := ba_ext (by simp only [ba_app, List.append_assoc])
theorem zs_app (i j : Nat) : zs i ++ zs j = zs (i + j) := ba_ext (by rw [ba_app]; simp [zs, List.replicate_append_replicate])
theorem extract_app (x : ByteArray) {i j k : Nat} (h1 : i ≤ j) (h2 : j ≤ k) : x.extract i j ++ x.extract j k = x.extract i k := by
  apply ba_ext
  rw [ba_app, ba_extract, ba_extract, ba_extract]
  have e1 : k - i = (j - i) + (k - j) := by omega
  have e2 : x.data.toList.drop j = (x.data.toList.drop i).drop (j - i) := by rw [List.drop_drop]; congr 1; omega
  rw [e1, e2, List.take_add]

/-- The content of parts, in one. -/
def catO (e : List Ex) (l : List Pt) : Option ByteArray := cgo e ⟨#[]⟩ l

theorem cgo_acc (e : List Ex) : ∀ (l : List Pt) (acc : ByteArray), cgo e acc l = (catO e l).map (acc ++ ·)
  | [], acc => by simp [cgo, catO]; exact ba_ext (by simp)
  | p :: r, acc => by
    unfold catO cgo
    cases pieceO e p with
    | none => rfl
    | some d =>
      simp only
      rw [cgo_acc e r (acc ++ d), cgo_acc e r (⟨#[]⟩ ++ d), ba_nil]
      cases catO e r with
      | none => rfl
      | some s => simp [ba_assoc]
theorem catO_cons (e : List Ex) (p : Pt) (r : List Pt) : catO e (p :: r) = (pieceO e p).bind (fun d => (catO e r).map (d ++ ·)) := by
  conv => lhs; unfold catO cgo
  cases pieceO e p with
  | none => rfl
  | some d => simp only [ba_nil]; rw [cgo_acc]; rfl
theorem catO_append (e : List Ex) : ∀ (l m : List Pt), catO e (l ++ m) = (catO e l).bind (fun x => (catO e m).map (x ++ ·))
  | [], m => by
    show catO e m = _
    cases h : catO e m with
    | none => rfl
    | some s => simp [catO, cgo, ba_nil]
  | p :: r, m => by
    rw [List.cons_append, catO_cons, catO_cons, catO_append e r m]
    cases pieceO e p with
    | none => rfl
    | some d =>
      cases catO e r with
      | none => rfl
      | some x =>
        cases catO e m with
        | none => rfl
        | some y => simp [ba_assoc]
theorem catO_one (e : List Ex) (p : Pt) : catO e [p] = pieceO e p := by
  rw [catO_cons]
  cases pieceO e p with
  | none => rfl
  | some d => simp [catO, cgo]; exact ba_ext (by simp)

theorem piece_merge {e : List Ex} {q p : Pt} (hq : partOkB q = true) (hp : partOkB p = true) (hg : goesOnB q p = true) : catO e [⟨q.a, q.f, q.n + p.n⟩] = catO e [q, p] := by
  have hq1 := partOkB_pos hq
  have hp1 := partOkB_pos hp
  simp only [goesOnB, Bool.and_eq_true, Bool.or_eq_true, beq_iff_eq] at hg
  obtain ⟨ha, hg⟩ := hg
  rw [show [q, p] = [q] ++ [p] from rfl, catO_append, catO_one, catO_one, catO_one]
  by_cases h0 : q.a = 0
  · have h0' : (q.a == 0) = true := by simp [h0]
    have h0'' : (p.a == 0) = true := by simp [ha, h0]
    simp [pieceO, h0', h0'', zs_app]
    congr 1; omega
  · have h0' : (q.a == 0) = false := by simp [h0]
    have h0'' : (p.a == 0) = false := by simp [ha, h0]
    simp only [partOkB, h0', h0'', Bool.false_eq_true, if_false, Bool.and_eq_true, decide_eq_true_eq] at hq hp
    have hf : p.f = q.f + q.n := by
      rcases hg with hg | hg
      · omega
      · rw [hg]; unfold wrap64; omega
    simp only [pieceO, h0', Bool.false_eq_true, if_false, ha]
    generalize dataAtB q.a e = D
    by_cases hs : (D.size : Int) < q.f + (q.n + p.n)
    · rw [if_pos hs]
      by_cases hs1 : (D.size : Int) < q.f + q.n
      · rw [if_pos hs1]; rfl
      · rw [if_neg hs1, if_pos (by omega)]; rfl
    · rw [if_neg hs, if_neg (by omega), if_neg (by omega)]
      simp only [Option.bind_some, Option.map_some]
      congr 1
      rw [show p.f.toNat = (q.f + q.n).toNat by rw [hf], show (p.f + p.n).toNat = (q.f + (q.n + p.n)).toNat by rw [hf]; congr 1; omega, extract_app D (by omega) (by omega)]

theorem catO_addL {e : List Ex} {l : List Pt} {p : Pt} (hl : ∀ q ∈ l, partOkB q = true ∧ q.n ≤ 1000) (hp : partOkB p = true) (hp2 : p.n ≤ 1000) : catO e (addL l p) = catO e (l ++ [p]) := by
  unfold addL
  split
  · rename_i h
    have : l = [] := by simpa using h
    subst this; rfl
  · rename_i q hq
    have hqm := hl q (List.mem_of_getLast? hq)
    split
    · rename_i hg
      have hq1 := partOkB_pos hqm.1
      have hp1 := partOkB_pos hp
      have e1 : l = l.dropLast ++ [q] := by
        have hne : l ≠ [] := fun h => by rw [h] at hq; simp at hq
        rw [List.getLast?_eq_some_getLast hne] at hq
        rw [← Option.some.inj hq, List.dropLast_concat_getLast hne]
      rw [show wrap64 (q.n + p.n) = q.n + p.n by unfold wrap64; omega]
      conv => rhs; rw [e1, List.append_assoc]
      rw [catO_append, catO_append, piece_merge hqm.1 hp hg]; rfl
    · rfl

theorem mem_le_sum : ∀ {l : List Pt}, (∀ q ∈ l, partOkB q = true) → ∀ q ∈ l, q.n ≤ sumN l
  | [], _, q, hq => by simp at hq
  | p :: r, h, q, hq => by
    have hr := sumN_nonneg r (fun x hx => h x (by simp [hx]))
    have hp := partOkB_pos (h p (by simp))
    simp only [sumN]
    rcases List.mem_cons.1 hq with rfl | hq
    · omega
    · have := mem_le_sum (fun x hx => h x (by simp [hx])) q hq; omega

theorem catO_joinL (e : List Ex) : ∀ (m l : List Pt) (B : Int), pgo none B l = true → (∀ p ∈ m, partOkB p = true) → sumN l + sumN m ≤ B → B ≤ 1000 → 0 ≤ B → catO e (joinL l m) = catO e (l ++ m)
  | [], l, B, _, _, _, _, _ => by simp [joinL]
  | p :: r, l, B, h, hm, hs, hB, h0 => by
    obtain ⟨h1, h2⟩ := pgo_all l none B h0 h
    have hp := hm p (by simp)
    have hp1 := partOkB_pos hp
    have hr := sumN_nonneg r (fun x hx => hm x (by simp [hx]))
    have hl0 := sumN_nonneg l h1
    simp only [sumN] at hs
    obtain ⟨a1, a2⟩ := addL_ok h hp (by omega) hB h0
    show catO e (joinL (addL l p) r) = _
    rw [catO_joinL e r (addL l p) B a1 (fun x hx => hm x (by simp [hx])) (by omega) hB h0, catO_append, catO_addL (fun q hq => ⟨h1 q hq, by have := mem_le_sum h1 q hq; omega⟩) hp (by omega), ← catO_append]
    simp

/-- The content of right parts over right extents. -/
theorem content_cat {l : List Pt} {e : List Ex} (h : partsOkB l = true) (h' : spaceOkB 400 e = true) : contentO l e = catO e l := by simp [contentO, h, h', catO]
theorem content_right {l : List Pt} {e : List Ex} {s : ByteArray} (h : contentO l e = some s) : partsOkB l = true ∧ spaceOkB 400 e = true := by
  unfold contentO at h
  split at h
  · assumption
  · cases h

/-- Parts joined have the one content behind the other. -/
theorem content_joined {a b j : List Pt} {e : List Ex} {x y : ByteArray} (hj : joinedO a b = some j) (hx : contentO a e = some x) (hy : contentO b e = some y) : contentO j e = some (x ++ y) := by
  obtain ⟨ha, he⟩ := content_right hx
  obtain ⟨hb, _⟩ := content_right hy
  rw [joined_eq] at hj
  split at hj
  · rename_i h
    obtain rfl := Option.some.inj hj
    obtain ⟨_, p1, p2⟩ := partsOkB_all ha
    obtain ⟨_, q1, q2⟩ := partsOkB_all hb
    rw [content_cat h.2.2 he]
    rw [content_cat ha he] at hx
    rw [content_cat hb he] at hy
    rw [catO_joinL e b a 200 (pgo_cap a none 100 200 (partsOkB_pgo ha) (by omega) (by omega)) q1 (by omega) (by omega) (by omega), catO_append, hx, hy]; rfl
  · cases hj

/-- In whatever order three are joined they are the same. -/
theorem joinL_one {a : List Pt} {q p : Pt} (hq : partOkB q = true) (hq2 : q.n ≤ 1000) (hp : partOkB p = true) (hp2 : p.n ≤ 1000) (ha : ∀ x ∈ a, partOkB x = true ∧ x.n ≤ 1000) (hg : goesOnB q p = true) : joinL a [⟨q.a, q.f, q.n + p.n⟩] = joinL a [q, p] := by
  have hq1 := partOkB_pos hq
  have hp1 := partOkB_pos hp
  show addL a ⟨q.a, q.f, q.n + p.n⟩ = addL (addL a q) p
  have hgp := hg
  simp only [goesOnB, Bool.and_eq_true, Bool.or_eq_true, beq_iff_eq] at hg
  have hqf : q.a = 0 ∨ (0 ≤ q.f ∧ q.f < 20) := by
    by_cases h0 : q.a = 0
    · exact .inl h0
    · have h0' : (q.a == 0) = false := by simp [h0]
      simp only [partOkB, h0', Bool.false_eq_true, if_false, Bool.and_eq_true, decide_eq_true_eq] at hq
      exact .inr (by omega)
  have w1 : wrap64 (q.n + p.n) = q.n + p.n := by unfold wrap64; omega
  cases hl : a.getLast? with
  | none =>
    have : a = [] := by simpa using hl
    subst this
    have e1 : addL [] q = [q] := rfl
    rw [e1]
    simp [addL, hgp, w1]
  | some x =>
    have hx := ha x (List.mem_of_getLast? hl)
    have hx1 := partOkB_pos hx.1
    have e0 : addL a q = if goesOnB x q then a.dropLast ++ [⟨x.a, x.f, wrap64 (x.n + q.n)⟩] else a ++ [q] := by simp [addL, hl]
    have e2 : goesOnB x ⟨q.a, q.f, q.n + p.n⟩ = goesOnB x q := rfl
    have w2 : wrap64 (x.n + q.n) = x.n + q.n := by unfold wrap64; omega
    have w3 : wrap64 (x.n + (q.n + p.n)) = x.n + (q.n + p.n) := by unfold wrap64; omega
    have w4 : wrap64 (x.n + q.n + p.n) = x.n + q.n + p.n := by unfold wrap64; omega
    rw [e0]
    cases hxq : goesOnB x q
    · have e3 : addL a ⟨q.a, q.f, q.n + p.n⟩ = a ++ [⟨q.a, q.f, q.n + p.n⟩] := by simp [addL, hl, e2, hxq]
      rw [e3]
      simp [addL, hgp, w1]
    · have e3 : addL a ⟨q.a, q.f, q.n + p.n⟩ = a.dropLast ++ [⟨x.a, x.f, x.n + (q.n + p.n)⟩] := by simp [addL, hl, e2, hxq, w3]
      have hxq' := hxq
      simp only [goesOnB, Bool.and_eq_true, Bool.or_eq_true, beq_iff_eq] at hxq'
      have hxf : x.a = 0 ∨ (0 ≤ x.f ∧ x.f < 20) := by
        by_cases h0 : x.a = 0
        · exact .inl h0
        · have h0' : (x.a == 0) = false := by simp [h0]
          have := hx.1
          simp only [partOkB, h0', Bool.false_eq_true, if_false, Bool.and_eq_true, decide_eq_true_eq] at this
          exact .inr (by omega)
      have e4 : goesOnB ⟨x.a, x.f, x.n + q.n⟩ p = true := by
        simp only [goesOnB, Bool.and_eq_true, Bool.or_eq_true, beq_iff_eq]
        refine ⟨by omega, ?_⟩
        by_cases h0 : p.a = 0
        · exact .inl h0
        · right
          have g1 : p.f = wrap64 (q.f + q.n) := hg.2.resolve_left h0
          have g2 : q.f = wrap64 (x.f + x.n) := hxq'.2.resolve_left (by omega)
          rw [g1, g2]
          unfold wrap64
          omega
      rw [e3]
      simp [addL, e4, w2, w4]
      omega

theorem joinL_addL {a L : List Pt} {p : Pt} {B : Int} (ha : pgo none B a = true) (hL : ∀ q ∈ L, partOkB q = true) (hp : partOkB p = true) (hs : sumN a + sumN L + p.n ≤ B) (hB : B ≤ 1000) (h0 : 0 ≤ B) : joinL a (addL L p) = joinL a (L ++ [p]) := by
  have hp1 := partOkB_pos hp
  have ha0 := sumN_nonneg a (pgo_all a none B h0 ha).1
  have hL0 := sumN_nonneg L hL
  unfold addL
  split
  · rename_i h
    have : L = [] := by simpa using h
    subst this; rfl
  · rename_i q hq
    have hqm := hL q (List.mem_of_getLast? hq)
    have hqs := mem_le_sum hL q (List.mem_of_getLast? hq)
    have hq1 := partOkB_pos hqm
    split
    · rename_i hg
      have e1 : L = L.dropLast ++ [q] := by
        have hne : L ≠ [] := fun h => by rw [h] at hq; simp at hq
        rw [List.getLast?_eq_some_getLast hne] at hq
        rw [← Option.some.inj hq, List.dropLast_concat_getLast hne]
      have hdl : ∀ x ∈ L.dropLast, partOkB x = true := fun x hx => hL x (List.dropLast_subset L hx)
      have hsum : sumN L = sumN L.dropLast + q.n := by conv => lhs; rw [e1, sumN_append]; simp [sumN]
      obtain ⟨k1, k2⟩ := joinL_ok L.dropLast a B ha hdl (by omega) hB h0
      obtain ⟨k3, k4⟩ := pgo_all _ none B h0 k1
      rw [show wrap64 (q.n + p.n) = q.n + p.n by unfold wrap64; omega, ← joinL_append]
      conv => rhs; rw [e1, List.append_assoc, ← joinL_append]
      exact joinL_one hqm (by omega) hp (by omega) (fun x hx => ⟨k3 x hx, by have := mem_le_sum k3 x hx; omega⟩) hg
    · rfl

theorem joinL_norm {a ps : List Pt} {B : Int} (ha : pgo none B a = true) (hp : ∀ q ∈ ps, partOkB q = true) (hs : sumN a + sumN ps ≤ B) (hB : B ≤ 1000) (h0 : 0 ≤ B) : ∀ k, k ≤ ps.length → joinL a (joinL [] (ps.take k)) = joinL a (ps.take k)
  | 0, _ => rfl
  | k + 1, hk => by
    have hx : ps[k]? = some (ps[k]'(by omega)) := by simp [show k < ps.length by omega]
    have ih := joinL_norm ha hp hs hB h0 k (by omega)
    have hall : ∀ q ∈ ps.take k, partOkB q = true := fun q hq => hp q (List.mem_of_mem_take hq)
    have hst := sumN_take hx
    have hbd := sumN_take_bd hp (k + 1)
    have hpk := hp _ (List.mem_of_getElem? hx)
    have ha0 := sumN_nonneg a (pgo_all a none B h0 ha).1
    have hpk1 := partOkB_pos hpk
    have hb0 := (sumN_take_bd hp k).1
    obtain ⟨k1, k2⟩ := joinL_ok (ps.take k) [] B rfl hall (by simp [sumN]; omega) hB h0
    obtain ⟨k3, k4⟩ := pgo_all _ none B h0 k1
    simp only [sumN] at k2
    rw [joinL_at hx, joinL_at hx, joinL_addL ha k3 hpk (by omega) hB h0, ← joinL_append, ih]
    rfl

theorem joinL_assoc {a b c : List Pt} (ha : partsOkB a = true) (hb : partsOkB b = true) (hc : partsOkB c = true) : joinL a (joinL b c) = joinL (joinL a b) c := by
  obtain ⟨_, a1, a2⟩ := partsOkB_all ha
  obtain ⟨_, b1, b2⟩ := partsOkB_all hb
  obtain ⟨_, c1, c2⟩ := partsOkB_all hc
  have e1 : joinL b c = joinL [] (b ++ c) := by
    conv => lhs; rw [← joinL_self (partsOkB_pgo hb)]
    rw [joinL_append]
  have hbc : ∀ q ∈ b ++ c, partOkB q = true := fun q hq => by
    rcases List.mem_append.1 hq with h | h
    · exact b1 q h
    · exact c1 q h
  have := joinL_norm (a := a) (ps := b ++ c) (B := 400) (pgo_cap a none 100 400 (partsOkB_pgo ha) (by omega) (by omega)) hbc (by rw [sumN_append]; omega) (by omega) (by omega) (b ++ c).length (Nat.le_refl _)
  rw [List.take_length] at this
  rw [e1, this, joinL_append]

/-- Joined by twos, from the left and from the right. -/
theorem joined_assoc {a b c j k : List Pt} (hj : joinedO a b = some j) (hk : joinedO b c = some k) : joinedO a k = joinedO j c := by
  rw [joined_eq] at hj hk
  split at hj
  · rename_i h1
    obtain rfl := Option.some.inj hj
    split at hk
    · rename_i h2
      obtain rfl := Option.some.inj hk
      rw [joined_eq, joined_eq, joinL_assoc h1.1 h1.2.1 h2.2.1]
      simp [h1, h2]
    · cases hk
  · cases hj
end Go.Proofs.YtllbojcjdpelnaaGreat
