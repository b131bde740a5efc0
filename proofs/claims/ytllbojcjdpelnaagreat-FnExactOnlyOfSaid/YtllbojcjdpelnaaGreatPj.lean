/- Plain facts: a row in the making tells what the model's joining gives. -/
import Derived.Test.YtllbojcjdpelnaaGreatKi
namespace Go.Proofs.YtllbojcjdpelnaaGreat
open Go.RowKit

def RJ (r : RSt) (J : List Pt) : Prop := (r.ov = false → r.L = J ∧ r.s ≤ 100 ∧ J.length ≤ 16) ∧ (r.ov = true → 100 < r.s ∨ 16 < J.length)

theorem addL_ge (l : List Pt) (p : Pt) : l.length ≤ (addL l p).length := by
  unfold addL
  split
  · rename_i h
    rw [List.getLast?_eq_none_iff] at h
    simp [h]
  · rename_i q h
    split
    · have : 0 < l.length := List.length_pos_of_mem (List.mem_of_getLast? h)
      simp only [List.length_append, List.length_dropLast, List.length_cons, List.length_nil]; omega
    · simp

theorem wrap_small {x : Int} (h0 : 0 ≤ x) (h1 : x ≤ 1000000) : wrap64 x = x := by unfold wrap64; omega

theorem rj_step {r : RSt} {J : List Pt} {p : Pt} (hi : RInv r) (hp : 1 ≤ p.n) (h : RJ r J) : RJ (radd r p) (addL J p) := by
  have hge := addL_ge J p
  have hs := radd_s r p
  cases hov : r.ov
  · obtain ⟨hL, h100, h16⟩ := h.1 hov
    subst hL
    by_cases hA : 100 < r.s + p.n
    · have e : radd r p = ⟨r.L, r.s + p.n, true⟩ := by simp [radd, hA]
      rw [e]
      exact ⟨fun h => (by cases h), fun _ => .inl hA⟩
    · cases hl : r.L.getLast? with
      | none =>
        have e : radd r p = ⟨[p], r.s + p.n, r.ov⟩ := by simp [radd, hA, hl]
        have e2 : addL r.L p = [p] := by simp [addL, hl]
        rw [e, e2, hov]
        exact ⟨fun _ => ⟨rfl, (by show r.s + p.n ≤ 100; omega), (by simp)⟩, fun h => (by cases h)⟩
      | some q =>
        have hqm := hi.2 q (List.mem_of_getLast? hl)
        cases hg : goesOnB q p
        · have e2 : addL r.L p = r.L ++ [p] := by simp [addL, hl, hg]
          by_cases hf : r.L.length < 16
          · rw [radd_app (by omega) hl hg hf, e2, hov]
            exact ⟨fun _ => ⟨rfl, (by show r.s + p.n ≤ 100; omega), (by simp; omega)⟩, fun h => (by cases h)⟩
          · rw [radd_full (by omega) hl hg hf, e2]
            exact ⟨fun h => (by cases h), fun _ => .inr (by simp; omega)⟩
        · have e2 : addL r.L p = r.L.dropLast ++ [⟨q.a, q.f, q.n + p.n⟩] := by
            simp only [addL, hl, hg, if_true]
            rw [wrap_small (by omega) (by omega)]
          rw [radd_merge (by omega) hl hg, e2, hov]
          refine ⟨fun _ => ⟨rfl, (by show r.s + p.n ≤ 100; omega), ?_⟩, fun h => (by cases h)⟩
          simp only [List.length_append, List.length_dropLast, List.length_cons, List.length_nil]; omega
  · have hov' : (radd r p).ov = true := by
      unfold radd
      split
      · rfl
      · split
        · exact hov
        · split
          · exact hov
          · split
            · exact hov
            · rfl
    refine ⟨fun h => (by rw [hov'] at h; cases h), fun _ => ?_⟩
    rw [hs]
    rcases h.2 hov with h | h
    · exact .inl (by omega)
    · exact .inr (by omega)

theorem rj_all (ps : List Pt) : ∀ (r : RSt) (J : List Pt), RInv r → (∀ p ∈ ps, 1 ≤ p.n) → RJ r J → RJ (rall r ps) (joinL J ps) ∧ (rall r ps).s = r.s + sumN ps := by
  induction ps with
  | nil => intro r J _ _ h; exact ⟨h, by simp [rall, sumN]⟩
  | cons p t ih =>
    intro r J hi hp h
    have hp1 := hp p (by simp)
    have := ih (radd r p) (addL J p) (radd_inv hi hp1) (fun q hq => hp q (by simp [hq])) (rj_step hi hp1 h)
    refine ⟨this.1, ?_⟩
    have e := this.2
    rw [radd_s] at e
    show (rall (radd r p) t).s = _
    rw [e]; simp [sumN]; omega

theorem outc_row {ps : List Pt} (h : ∀ p ∈ ps, 1 ≤ p.n) : outc (rowOf ps) = if sumN ps ≤ 100 ∧ (joinL [] ps).length ≤ 16 then some (joinL [] ps) else none := by
  obtain ⟨h1, h2⟩ := rj_all ps ⟨[], 0, false⟩ [] inv_new h ⟨fun _ => ⟨rfl, by simp, by simp⟩, fun h => (by cases h)⟩
  simp only [Int.zero_add] at h2
  unfold outc rowOf
  cases hov : (rall ⟨[], 0, false⟩ ps).ov
  · obtain ⟨e1, e2, e3⟩ := h1.1 hov
    simp only [Bool.false_eq_true, if_false]
    rw [if_pos ⟨by omega, e3⟩, e1]
  · have := h1.2 hov
    simp only [if_true]
    rw [if_neg (by omega)]

theorem cutP_bd {fr to st : Int} {p : Pt} (h : max (fr - st) 0 < min (to - st) p.n) : 1 ≤ (cutP p (max (fr - st) 0) (min (to - st) p.n)).n ∧ (cutP p (max (fr - st) 0) (min (to - st) p.n)).n ≤ p.n := by
  rw [cutP_n]; omega

theorem slp_bd (fr to : Int) (l : List Pt) : ∀ st, (∀ p ∈ l, 1 ≤ p.n) → (∀ p ∈ slp fr to st l, 1 ≤ p.n) ∧ sumN (slp fr to st l) ≤ sumN l ∧ (slp fr to st l).length ≤ l.length ∧ 0 ≤ sumN l := by
  induction l with
  | nil => intro st _; simp [slp, sumN]
  | cons p r ih =>
    intro st h
    have hp := h p (by simp)
    obtain ⟨h1, h2, h3, h4⟩ := ih (st + p.n) (fun q hq => h q (by simp [hq]))
    by_cases hx : max (fr - st) 0 < min (to - st) p.n
    · have hb := cutP_bd hx
      rw [slp_yes rfl rfl hx]
      refine ⟨?_, by simp only [sumN]; omega, by simp; omega, by simp only [sumN]; omega⟩
      intro q hq
      rcases List.mem_cons.1 hq with rfl | hq
      · exact hb.1
      · exact h1 q hq
    · rw [slp_no hx]
      exact ⟨h1, by simp only [sumN]; omega, by simp; omega, by simp only [sumN]; omega⟩

theorem joinL_len (m : List Pt) : ∀ l, (joinL l m).length ≤ l.length + m.length := by
  induction m with
  | nil => intro l; simp [joinL]
  | cons p t ih =>
    intro l
    have h1 := ih (addL l p)
    have h2 := addL_len l p
    show (joinL (addL l p) t).length ≤ _
    simp only [List.length_cons]; omega

theorem slice_eq (l : List Pt) (fr to : Int) : (if partsOkB l = true ∧ 0 ≤ fr ∧ fr ≤ sumN l ∧ fr ≤ to ∧ to ≤ sumN l then outc (rowOf (slp fr to 0 l)) else none) = if partsOkB l = true ∧ 0 ≤ fr ∧ fr ≤ sumN l ∧ fr ≤ to ∧ to ≤ sumN l then some (joinL [] (slp fr to 0 l)) else none := by
  split
  · rename_i h
    have hp := fun p hp => (pos_of h.1 p hp).1
    obtain ⟨b1, b2, b3, _⟩ := slp_bd fr to l 0 hp
    obtain ⟨c1, _, c3⟩ := partsOkB_all h.1
    have hj := joinL_len (slp fr to 0 l) []
    rw [outc_row b1, if_pos ⟨by omega, by simp at hj; omega⟩]
  · rfl
end Go.Proofs.YtllbojcjdpelnaaGreat
