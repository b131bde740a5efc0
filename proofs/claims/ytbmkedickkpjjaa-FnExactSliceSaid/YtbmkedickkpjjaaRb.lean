/- The row in the making: addAll, within, addSlice. -/
import Derived.Test.YtbmkedickkpjjaaProg
import Derived.Test.YtbmkedickkpjjaaRa
namespace Go.Proofs.Ytbmkedickkpjjaa
open Go.RowKit Go.BigFrame

def rall (r : RSt) (l : List Pt) : RSt := l.foldl radd r

theorem radd_s (r : RSt) (p : Pt) : (radd r p).s = r.s + p.n := by
  unfold radd
  split
  · rfl
  · split
    · rfl
    · split
      · rfl
      · split <;> rfl

theorem radd_inv {r : RSt} {p : Pt} (h : RInv r) (hp : 1 ≤ p.n) : RInv (radd r p) := by
  obtain ⟨h0, h1⟩ := h
  have hold : ∀ q ∈ r.L, 1 ≤ q.n ∧ q.n ≤ r.s + p.n := fun q hq => by have := h1 q hq; omega
  refine ⟨by rw [radd_s]; omega, ?_⟩
  rw [radd_s]
  unfold radd
  split
  · exact hold
  · split
    · rename_i hl
      intro q hq
      simp at hq
      subst hq
      omega
    · rename_i q0 hl
      have hq0 := h1 q0 (List.mem_of_getLast? hl)
      split
      · intro q hq
        simp only [List.mem_append, List.mem_singleton] at hq
        rcases hq with hq | rfl
        · exact hold q (List.dropLast_subset _ hq)
        · show 1 ≤ q0.n + p.n ∧ q0.n + p.n ≤ r.s + p.n
          omega
      · split
        · intro q hq
          simp only [List.mem_append, List.mem_singleton] at hq
          rcases hq with hq | rfl
          · exact hold q hq
          · omega
        · exact hold

theorem rall_at {r : RSt} {l : List Pt} {k : Nat} {p : Pt} (h : l[k]? = some p) : rall r (l.take (k + 1)) = radd (rall r (l.take k)) p := by
  unfold rall; rw [take_at h, List.foldl_append]; rfl

/-- A part box behind which the row is added to: the row's block, and the slice, are as they were. -/
theorem RowAt.below {w w' : World} {b : Nat} {r : RSt} (h : RowAt w b r) (hb : Below w.heap.size w w') : RowAt w' b r := by
  obtain ⟨hle, c, hc, q⟩ := h
  exact ⟨hle, c, hc.below hb, q⟩
theorem RowAt.lt {w : World} {b : Nat} {r : RSt} (h : RowAt w b r) : b < w.heap.size := by
  obtain ⟨_, c, hc, _⟩ := h
  exact hc.lt

set_option maxHeartbeats 1000000 in
theorem impl_addAll (b : Nat) (r : RSt) (a : Option Addr) (n cap : Nat) (l : List Pt) (w : World) (hR : RowAt w b r) (hi : RInv r) (hs : r.s ≤ 900000) (h : PtsAt w a n l) (hne : ∀ ad, a = some ad → ad.block ≠ b) (hn : n ≤ 16) (hl : ∀ p ∈ l, 1 ≤ p.n ∧ p.n ≤ 100) :
    Calls Try.prog 126 #[.pointer (some ⟨b, 0, none⟩), .slice a n cap] w fun e w' => e = .returned (.tuple #[]) ∧ RowAt w' b (rall r l) ∧ RInv (rall r l) ∧ (rall r l).s ≤ r.s + 1600 ∧ w.grownBy w' (some b) := by
  have hlen : Hid (l.length = n) := h.len
  go_enter Try.func126, Try.ntmps126
  go_wp2_with fail
  go_loopw [8] (fun ix wr => ∃ (k : Nat), k ≤ n ∧ ix = .int .i64 k ∧ RowAt wr b (rall r (l.take k)) ∧ RInv (rall r (l.take k)) ∧ (rall r (l.take k)).s ≤ r.s + 100 * k ∧ w.grownBy wr (some b)) (fun ix _ => n - (intOf ix).toNat)
  case atStart => exact ⟨0, Nat.zero_le _, rfl, hR, hi, by simp [rall], World.grownBy.refl _ _⟩
  case round =>
    obtain ⟨k, hk, rfl, hRk, hik, hsk, hg⟩ := hrel
    by_cases hlt : k < n
    · obtain ⟨b', o, p, rfl, hp, c0, c1, c2⟩ := pts_at (h.grown hg hne) hlt
      have hst : Hid (rall r (l.take (k + 1)) = radd (rall r (l.take k)) p) := rall_at hp
      have hpl := hl p (List.mem_of_getElem? hp)
      have hsum := radd_s (rall r (l.take k)) p
      have hinv := radd_inv hik hpl.1
      clear hp
      generalize rall r (l.take k) = r1 at *
      go_wp2_with fail
      refine (impl_add b r1 p _ (hRk.below ((Below.refl _ _).alloc (Nat.le_refl _) _)) hik (by omega) hpl.1 (by omega)).mono ?_
      rintro e w1 ⟨rfl, hR1, hg1⟩
      have hg2 := grown_trans (grown_below hg ((Below.refl _ _).alloc (Nat.le_refl _) _)) hg1
      go_wp2
      go_roundw
      case rel => exact ⟨k + 1, by omega, by go_num, by rw [hst.out]; exact hR1, by rw [hst.out]; exact hinv, by rw [hst.out, hsum]; omega, hg2⟩
      case measure => simp [intOf]; omega
    · obtain rfl : k = n := by omega
      go_wp2
      go_returns
      go_light
      rw [List.take_of_length_le (Nat.le_of_eq hlen.out)] at hRk hik hsk
      exact ⟨rfl, hRk, hik, by omega, hg⟩

/-- The piece x .. y - 1 of a part. -/
def cutP (p : Pt) (x y : Int) : Pt := if p.a == 0 then ⟨0, 0, y - x⟩ else ⟨p.a, p.f + x, y - x⟩

theorem impl_within (p : Pt) (x y : Int) (w : World) (hf : -1000 ≤ p.f) (hf' : p.f ≤ 1000) (hx0 : 0 ≤ x) (hx1 : x ≤ 1000) (hy0 : 0 ≤ y) (hy1 : y ≤ 1000) :
    Calls Try.prog 168 #[.agg #[.int .i64 p.a, .int .i64 p.f, .int .i64 p.n], .int .i64 x, .int .i64 y] w fun e w' => e = .returned (.agg #[.int .i64 (cutP p x y).a, .int .i64 (cutP p x y).f, .int .i64 (cutP p x y).n]) ∧ Below w.heap.size w w' := by
  obtain ⟨a, f, n⟩ := p
  simp only at hf hf'
  cases ha : (a == 0)
  · have hc : Hid (cutP ⟨a, f, n⟩ x y = ⟨a, f + x, y - x⟩) := by show _ = _; simp [cutP, ha]
    go_enter Try.func168, Try.ntmps168
    go_wp2
    go_returns
    go_light
    refine ⟨?_, by go_grown⟩
    rw [hc.out]
  · have hc : Hid (cutP ⟨a, f, n⟩ x y = ⟨0, 0, y - x⟩) := by show _ = _; simp [cutP, ha]
    go_enter Try.func168, Try.ntmps168
    go_wp2
    go_returns
    go_light
    refine ⟨?_, by go_grown⟩
    rw [hc.out]

/-- The pieces that make up the bytes from .. to - 1, the parts beginning at st. -/
def slp (fr to : Int) : Int → List Pt → List Pt
  | _, [] => []
  | st, p :: r => if max (fr - st) 0 < min (to - st) p.n then cutP p (max (fr - st) 0) (min (to - st) p.n) :: slp fr to (st + p.n) r else slp fr to (st + p.n) r

theorem cutP_n (p : Pt) (x y : Int) : (cutP p x y).n = y - x := by unfold cutP; split <;> rfl
theorem slp_yes {fr to st x y : Int} {p : Pt} {r : List Pt} (hx : max (fr - st) 0 = x) (hy : min (to - st) p.n = y) (h : x < y) : slp fr to st (p :: r) = cutP p x y :: slp fr to (st + p.n) r := by
  subst hx hy; simp only [slp, h, if_true]
theorem slp_step {rk : RSt} {fr to st x y : Int} {p : Pt} {r : List Pt} (hx : max (fr - st) 0 = x) (hy : min (to - st) p.n = y) (h : x < y) : rall rk (slp fr to st (p :: r)) = rall (radd rk (cutP p x y)) (slp fr to (st + p.n) r) := by
  rw [slp_yes hx hy h]; rfl
theorem slp_no {fr to st : Int} {p : Pt} {r : List Pt} (h : ¬ max (fr - st) 0 < min (to - st) p.n) : slp fr to st (p :: r) = slp fr to (st + p.n) r := by
  simp only [slp, h, if_false]

set_option maxHeartbeats 4000000 in
theorem impl_addSlice (b : Nat) (r : RSt) (a : Option Addr) (n cap : Nat) (l : List Pt) (fr to : Int) (w : World) (hR : RowAt w b r) (hi : RInv r) (hs : r.s ≤ 900000) (h : PtsAt w a n l) (hne : ∀ ad, a = some ad → ad.block ≠ b) (hn : n ≤ 16) (hl : ∀ p ∈ l, 1 ≤ p.n ∧ p.n ≤ 100 ∧ 0 ≤ p.f ∧ p.f ≤ 100) (hf0 : 0 ≤ fr) (hf1 : fr ≤ 10000) (ht0 : 0 ≤ to) (ht1 : to ≤ 10000) :
    Calls Try.prog 122 #[.pointer (some ⟨b, 0, none⟩), .slice a n cap, .int .i64 fr, .int .i64 to] w fun e w' => e = .returned (.tuple #[]) ∧ RowAt w' b (rall r (slp fr to 0 l)) ∧ RInv (rall r (slp fr to 0 l)) ∧ (rall r (slp fr to 0 l)).s ≤ r.s + 1600 ∧ w.grownBy w' (some b) := by
  have hlen : Hid (l.length = n) := h.len
  go_enter Try.func122, Try.ntmps122
  go_wp2_with fail
  go_loopw [8, 15] (fun s ix wr => ∃ (k : Nat) (st : Int) (rk : RSt), k ≤ n ∧ ix = .int .i64 k ∧ s = .int .i64 st ∧ 0 ≤ st ∧ st ≤ 100 * k ∧ RowAt wr b rk ∧ RInv rk ∧ rk.s ≤ r.s + 100 * k ∧ Hid (rall r (slp fr to 0 l) = rall rk (slp fr to st (l.drop k))) ∧ w.grownBy wr (some b)) (fun _ ix _ => n - (intOf ix).toNat)
  case atStart => exact ⟨0, 0, r, Nat.zero_le _, rfl, rfl, by omega, by omega, hR, hi, by omega, rfl, World.grownBy.refl _ _⟩
  case round =>
    obtain ⟨k, st, rk, hk, rfl, rfl, hs0, hs1, hRk, hik, hsk, hI, hg⟩ := hrel
    by_cases hlt : k < n
    · obtain ⟨b', o, p, rfl, hp, c0, c1, c2⟩ := pts_at (h.grown hg hne) hlt
      have hd : Hid (l.drop k = p :: l.drop (k + 1)) := drop_at hp
      obtain ⟨hp1, hp2, hp3, hp4⟩ := hl p (List.mem_of_getElem? hp)
      clear hp
      have hbl := hRk.lt
      by_cases hxy : max (fr - st) 0 < min (to - st) p.n
      · by_cases hx : fr - st < 0
        all_goals by_cases hy : p.n < to - st
        all_goals
          go_wp2_with fail
          refine (impl_within p _ _ _ (by omega) (by omega) (by omega) (by omega) (by omega) (by omega)).mono ?_
          rintro e w1 ⟨rfl, hB1⟩
          obtain ⟨x0, x1, x2, hB1', hs1⟩ := box3 hB1
          clear hB1
          go_wp2_with fail
          refine (impl_add b rk (cutP p _ _) _ (hRk.below hB1') hik (by omega) (by rw [cutP_n]; omega) (by rw [cutP_n]; omega)).mono ?_
          rintro e w2 ⟨rfl, hR2, hg2⟩
          have z2 := hg2.cell x2 (by simp; omega)
          have hg3 := grown_trans (grown_below hg hB1') hg2
          clear x0 x1 x2 hB1' c0 c1 c2
          go_wp2
          go_roundw
          case rel => exact ⟨k + 1, st + p.n, _, by omega, by go_num, by go_num, by omega, by omega, hR2, radd_inv hik (by rw [cutP_n]; omega), by rw [radd_s, cutP_n]; omega, by show _ = _; rw [hI.out, hd.out]; exact slp_step (by omega) (by omega) (by omega), hg3⟩
          case measure => simp [intOf]; omega
      · by_cases hx : fr - st < 0
        all_goals by_cases hy : p.n < to - st
        all_goals try (exfalso; omega)
        all_goals
          go_wp2
          go_roundw
          case rel => exact ⟨k + 1, st + p.n, rk, by omega, by go_num, by go_num, by omega, by omega, hRk.below ((Below.refl _ _).alloc (Nat.le_refl _) _), hik, by omega, by show _ = _; rw [hI.out, hd.out, slp_no hxy], grown_below hg ((Below.refl _ _).alloc (Nat.le_refl _) _)⟩
          case measure => simp [intOf]; omega
    · obtain rfl : k = n := by omega
      go_wp2
      go_returns
      go_light
      rw [List.drop_of_length_le (Nat.le_of_eq hlen.out)] at hI
      rw [hI.out]
      exact ⟨rfl, hRk, hik, by show rk.s ≤ _; omega, hg⟩
end Go.Proofs.Ytbmkedickkpjjaa
