/- The model's reader of drawn bytes: what it hands out lies within its bounds, and it turns nothing but its own block. The reader's words, and numbers near to or just outside of a range. -/
import Derived.Test.YtpobgjkmcmkkeaaProg
import Derived.Test.YtpobgjkmcmkkeaaG02
namespace Go.Proofs.Ytpobgjkmcmkkeaa
open Go.RowKit Go.BigFrame

/-- The slice holds bytes. -/
def CodeAt (w : World) (a : Option Addr) (n : Nat) : Prop := ∀ i, i < n → ∃ b o, ∃ v : Int, a = some ⟨b, o, none⟩ ∧ 0 ≤ v ∧ v ≤ 255 ∧ w.cell? ⟨b, o + i, none⟩ = some (.int .u8 v)

/-- Block B is a reader over such a slice, which lies elsewhere. -/
def Rd (w : World) (B : Nat) : Prop := ∃ a n cap p, ∃ t : TypeId, Blk w B #[.slice a n cap, .int .i64 ((p : Nat) : Int)] t ∧ p ≤ n ∧ n ≤ 1048576 ∧ CodeAt w a n ∧ ∀ ad, 0 < n → a = some ad → ad.block < B

theorem CodeAt.below {w w' : World} {a : Option Addr} {n : Nat} (h : CodeAt w a n) (hb : Below w.heap.size w w') : CodeAt w' a n := fun i hi => by
  obtain ⟨b, o, v, ha, h0, h1, hc⟩ := h i hi
  exact ⟨b, o, v, ha, h0, h1, bcell hb hc⟩
theorem CodeAt.grown {w w' : World} {a : Option Addr} {n r : Nat} (h : CodeAt w a n) (hg : w.grownBy w' (some r)) (hr : ∀ ad, 0 < n → a = some ad → ad.block ≠ r) : CodeAt w' a n := fun i hi => by
  obtain ⟨b, o, v, ha, h0, h1, hc⟩ := h i hi
  exact ⟨b, o, v, ha, h0, h1, hg.cell hc (by have := hr _ (by omega) ha; simpa using this)⟩
theorem Rd.below {w w' : World} {B : Nat} (h : Rd w B) (hb : Below w.heap.size w w') : Rd w' B := by
  obtain ⟨a, n, cap, p, t, h1, h2, h3, h4, h5⟩ := h
  exact ⟨a, n, cap, p, t, h1.below hb, h2, h3, h4.below hb, h5⟩
theorem Rd.grown {w w' : World} {B r : Nat} (h : Rd w B) (hg : w.grownBy w' (some r)) (hr : B < r) : Rd w' B := by
  obtain ⟨a, n, cap, p, t, h1, h2, h3, h4, h5⟩ := h
  exact ⟨a, n, cap, p, t, h1.grown hg (by omega), h2, h3, h4.grown hg (fun ad h0 had => by have := h5 ad h0 had; omega), h5⟩
theorem Rd.lt {w : World} {B : Nat} (h : Rd w B) : B < w.heap.size := by
  obtain ⟨a, n, cap, p, t, h1, _⟩ := h
  exact h1.lt

theorem grown_refl (w : World) (B : Nat) : w.grownBy w (some B) := World.grownBy.refl _ _

theorem spec_l1Open (a : Option Addr) (n cap : Nat) (w : World) (h : CodeAt w a n) (hn : n ≤ 1048576) :
    Calls Try.prog 39 #[.slice a n cap] w fun e w' => e = .returned (.pointer (some ⟨w.heap.size, 0, none⟩)) ∧ Rd w' w.heap.size ∧ Below w.heap.size w w' := by
  go_enter Try.func39, Try.ntmps39
  go_wp2
  go_returns
  go_light
  refine ⟨rfl, ⟨a, n, cap, 0, _, Blk.new _ _ _, Nat.zero_le _, hn, h.below (by go_grown), fun ad h0 had => ?_⟩, by go_grown⟩
  obtain ⟨b, o, v, ha, _, _, hc⟩ := h 0 h0
  rw [had] at ha
  cases ha
  exact World.block_lt_of_cell? w _ hc

set_option maxHeartbeats 1000000 in
theorem spec_next (B : Nat) (w : World) (h : Rd w B) :
    Calls Try.prog 81 #[.pointer (some ⟨B, 0, none⟩)] w fun e w' => (∃ v : Int, e = .returned (.int .i64 v) ∧ 0 ≤ v ∧ v ≤ 255) ∧ Rd w' B ∧ w.grownBy w' (some B) := by
  have h' : Hid (Rd w B) := h
  obtain ⟨a, n, cap, p, t, hb, hp, hn, hc, hne⟩ := h
  have c0 : w.cell? ⟨B, 0, none⟩ = some (.slice a n cap) := hb.cell 0
  have c1 : w.cell? ⟨B, 1, none⟩ = some (.int .i64 (p : Int)) := hb.cell 1
  have f1 := hb.frozen 1
  by_cases hlt : p < n
  · obtain ⟨b, o, v, rfl, hv0, hv1, hcell⟩ := hc p hlt
    have hbB : b ≠ B := by have : b < B := hne _ (by omega) rfl; omega
    have hS : ∀ u : World, Below w.heap.size w u → u.grownBy u (some B) ∧ w.grownBy u (some B) := fun u hu => ⟨grown_refl u B, grown_below (grown_refl w B) hu⟩
    go_enter Try.func81, Try.ntmps81
    go_wp2_with fail
    go_quiet (fail)
    have hbq := hb.below (drewNB w nq)
    have hcq := hc.below (drewNB w nq)
    have c0q := bcell (drewNB w nq) c0
    have c1q := bcell (drewNB w nq) c1
    have f1q := hbq.frozen 1
    have hcellq := bcell (drewNB w nq) hcell
    have hgq : w.grownBy (w.drewN nq) (some B) := grown_below (grown_refl w B) (drewNB w nq)
    clear hb hc c0 c1 f1 hcell hS
    generalize w.drewN nq = wq at *
    go_wp2_with fail
    have hb2 := hbq.set 1 (.int .i64 ((p : Int) + 1))
    have hc2 := hcq.grown (grown_set (grown_refl wq B) 1 (.int .i64 ((p : Int) + 1))) (fun ad h0 had => by have := hne ad h0 had; omega)
    have hg2 := grown_trans hgq (grown_set (grown_refl wq B) 1 (.int .i64 ((p : Int) + 1)))
    have hcell2 : (wq.setCell ⟨B, 1, none⟩ (.int .i64 ((p : Int) + 1))).cell? ⟨b, o + p, none⟩ = some (.int .u8 v) := (grown_set (grown_refl wq B) 1 (.int .i64 ((p : Int) + 1))).cell hcellq (by simpa using hbB)
    clear hbq hcq c0q c1q f1q hcellq hgq
    generalize wq.setCell ⟨B, 1, none⟩ (.int .i64 ((p : Int) + 1)) = W2 at *
    have d0 : W2.cell? ⟨B, 0, none⟩ = some (.slice (some ⟨b, o, none⟩) n cap) := by rw [hb2.cell]; simp
    have d1 : W2.cell? ⟨B, 1, none⟩ = some (.int .i64 ((p : Int) + 1)) := by rw [hb2.cell]; simp
    have hR : Rd W2 B := ⟨some ⟨b, o, none⟩, n, cap, p + 1, t, by simpa using hb2, by omega, hn, hc2, hne⟩
    clear hb2 hc2 h' hne
    have hp1 : (p : Int) + 1 - 1 = p := by omega
    have hw1 : IntKind.i64.wrap ((p : Int) + 1 - 1) = (p : Int) := by rw [IntKind.wrap_i64]; omega
    have hw2 : IntKind.i64.wrap (p : Int) = (p : Int) := by rw [IntKind.wrap_i64]; omega
    have hwv : IntKind.i64.wrap v = v := by rw [IntKind.wrap_i64]; omega
    have hpn : (p : Int) < n := by omega
    have hp0 : (0 : Int) ≤ p := by omega
    go_quiet (fail)
    have hR2 := hR.below (drewNB W2 nq)
    go_wp2
    go_returns
    go_light
    exact ⟨⟨v, rfl, hv0, hv1⟩, hR2, grown_below hg2 (drewNB _ _)⟩
  · go_enter Try.func81, Try.ntmps81
    go_wp2_with fail
    go_quiet (fail)
    have hR2 := h'.out.below (drewNB w nq)
    go_wp2
    go_returns
    go_light
    exact ⟨⟨0, rfl, by omega, by omega⟩, hR2, grown_below (grown_refl w B) (drewNB _ _)⟩

set_option maxHeartbeats 1000000 in
theorem spec_below (B : Nat) (k : Int) (w : World) (h : Rd w B) (hk : k ≤ 65536) :
    Calls Try.prog 54 #[.pointer (some ⟨B, 0, none⟩), .int .i64 k] w fun e w' => (∃ v : Int, e = .returned (.int .i64 v) ∧ 0 ≤ v ∧ (v = 0 ∨ v < k)) ∧ Rd w' B ∧ w.grownBy w' (some B) := by
  by_cases h1 : k ≤ 1
  · go_enter Try.func54, Try.ntmps54
    go_wp2
    go_returns
    go_light
    exact ⟨⟨0, rfl, by omega, .inl rfl⟩, h, grown_refl w B⟩
  · by_cases h2 : k ≤ 256
    · go_enter Try.func54, Try.ntmps54
      go_wp2_with fail
      refine (spec_next B _ h).mono ?_
      rintro e w1 ⟨⟨v, rfl, hv0, hv1⟩, hR1, hg1⟩
      go_wp2
      go_returns
      go_light
      exact ⟨⟨v % k, rfl, Int.emod_nonneg _ (by omega), .inr (Int.emod_lt_of_pos _ (by omega))⟩, hR1, hg1⟩
    · go_enter Try.func54, Try.ntmps54
      go_wp2_with fail
      refine (spec_next B _ h).mono ?_
      rintro e w1 ⟨⟨v, rfl, hv0, hv1⟩, hR1, hg1⟩
      go_wp2_with fail
      refine (spec_next B _ hR1).mono ?_
      rintro e w2 ⟨⟨u, rfl, hu0, hu1⟩, hR2, hg2⟩
      have hg := grown_trans hg1 hg2
      have hx : 0 ≤ v * 256 + u := by omega
      go_wp2
      go_returns
      go_light
      exact ⟨⟨(v * 256 + u) % k, rfl, Int.emod_nonneg _ (by omega), .inr (Int.emod_lt_of_pos _ (by omega))⟩, hR2, hg⟩

theorem spec_belowN (B : Nat) (k : Int) (w : World) (h : Rd w B) (hk : k ≤ 65536) (h1 : 1 ≤ k) :
    Calls Try.prog 54 #[.pointer (some ⟨B, 0, none⟩), .int .i64 k] w fun e w' => (∃ v : Nat, e = .returned (.int .i64 v) ∧ (v : Int) < k) ∧ Rd w' B ∧ w.grownBy w' (some B) :=
  (spec_below B k w h hk).mono fun e w' ⟨⟨v, he, h0, hv⟩, r⟩ => by
    obtain ⟨m, rfl⟩ := Int.eq_ofNat_of_zero_le h0
    exact ⟨⟨m, he, by rcases hv with hv | hv <;> omega⟩, r⟩

theorem spec_once (B : Nat) (k : Int) (w : World) (h : Rd w B) (hk : k ≤ 65536) (h1 : 1 ≤ k) :
    Calls Try.prog 58 #[.pointer (some ⟨B, 0, none⟩), .int .i64 k] w fun e w' => (∃ v : Bool, e = .returned (.bool v)) ∧ Rd w' B ∧ w.grownBy w' (some B) := by
  go_enter Try.func58, Try.ntmps58
  go_wp2_with fail
  refine (spec_belowN B k _ h hk h1).mono ?_
  rintro e w1 ⟨⟨v, rfl, hv⟩, hR1, hg1⟩
  go_wp2
  go_returns
  go_light
  exact ⟨⟨_, rfl⟩, hR1, hg1⟩
end Go.Proofs.Ytpobgjkmcmkkeaa
namespace Go.Proofs.Ytpobgjkmcmkkeaa
open Go.RowKit Go.BigFrame

set_option maxHeartbeats 1000000 in
theorem spec_word (B : Nat) (w : World) (h : Rd w B) :
    Calls Try.prog 94 #[.pointer (some ⟨B, 0, none⟩)] w fun e w' => (∃ v : Int, e = .returned (.int .u64 v) ∧ 0 ≤ v ∧ v ≤ 18446744073709551615) ∧ Rd w' B ∧ w.grownBy w' (some B) := by
  go_enter Try.func94, Try.ntmps94
  go_wp2_with fail
  go_loopw [3, 4] (fun x ix wr => ∃ (k : Nat) (v : Int), k ≤ 8 ∧ ix = .int .i64 k ∧ x = .int .u64 v ∧ 0 ≤ v ∧ v ≤ 18446744073709551615 ∧ Rd wr B ∧ w.grownBy wr (some B)) (fun _ ix _ => 8 - (intOf ix).toNat)
  case atStart => exact ⟨0, 0, by omega, rfl, rfl, by omega, by omega, h, grown_refl w B⟩
  case round =>
    obtain ⟨k, v, hk, rfl, rfl, hv0, hv1, hR, hG⟩ := hrel
    by_cases hlt : k < 8
    · go_wp2_with fail
      refine (spec_next B _ hR).mono ?_
      rintro e w1 ⟨⟨u, rfl, hu0, hu1⟩, hR1, hg1⟩
      have hG1 := grown_trans hG hg1
      have hwf := bounds_u64 (wf_bits .or .u64 (IntKind.u64.wrap (v * 256)) u)
      go_wp2
      generalize bits BinOp.or IntKind.u64 (IntKind.u64.wrap (v * 256)) u = x at *
      go_roundw
      case rel => exact ⟨k + 1, x, by omega, by go_num, rfl, hwf.1, hwf.2, hR1, hG1⟩
      case measure => simp [intOf]; omega
    · obtain rfl : k = 8 := by omega
      go_wp2
      go_returns
      exact ⟨⟨v, rfl, hv0, hv1⟩, hR, hG⟩

set_option maxHeartbeats 1000000 in
theorem spec_near (B : Nat) (lo hi : Int) (w : World) (h : Rd w B) (h1 : -1000 ≤ lo) (h2 : lo ≤ hi) (h3 : hi ≤ 1000) :
    Calls Try.prog 82 #[.pointer (some ⟨B, 0, none⟩), .int .i64 lo, .int .i64 hi] w fun e w' => (∃ v : Int, e = .returned (.int .i64 v) ∧ lo ≤ v ∧ v ≤ hi) ∧ Rd w' B ∧ w.grownBy w' (some B) := by
  go_enter Try.func82, Try.ntmps82
  go_wp2_with fail
  refine (spec_belowN B 8 _ h (by omega) (by omega)).mono ?_
  rintro e w1 ⟨⟨x, rfl, hx⟩, hR1, hg1⟩
  by_cases hx0 : x = 0
  · subst hx0
    go_wp2
    go_returns
    exact ⟨⟨lo, rfl, by omega, h2⟩, hR1, hg1⟩
  · have b0 : ((x : Int) == 0) = false := by simp; omega
    by_cases hx1 : x = 1
    · subst hx1
      go_wp2
      go_returns
      exact ⟨⟨hi, rfl, h2, by omega⟩, hR1, hg1⟩
    · have b1 : ((x : Int) == 1) = false := by simp; omega
      have hns : ¬ hi < lo := by omega
      go_wp2_with fail
      refine (spec_word B _ hR1).mono ?_
      rintro e w2 ⟨⟨v, rfl, hv0, hv1⟩, hR2, hg2⟩
      have hG := grown_trans hg1 hg2
      have hm0 : 0 ≤ v / 2 % (hi - lo + 1) := Int.emod_nonneg _ (by omega)
      have hm1 : v / 2 % (hi - lo + 1) < hi - lo + 1 := Int.emod_lt_of_pos _ (by omega)
      go_wp2
      generalize v / 2 % (hi - lo + 1) = m at *
      have hw1 : wrap64 m = m := by unfold wrap64; omega
      have hw2 : wrap64 (lo + m) = lo + m := by unfold wrap64; omega
      go_returns
      exact ⟨⟨lo + m, rfl, by omega, by omega⟩, hR2, hG⟩

set_option maxHeartbeats 1000000 in
theorem spec_off (B : Nat) (lo hi : Int) (w : World) (h : Rd w B) (h1 : -1000 ≤ lo) (h2 : lo ≤ hi) (h3 : hi ≤ 1000) :
    Calls Try.prog 55 #[.pointer (some ⟨B, 0, none⟩), .int .i64 lo, .int .i64 hi] w fun e w' => (∃ v : Int, e = .returned (.int .i64 v) ∧ -9223372036854775808 ≤ v ∧ v ≤ 9223372036854775807) ∧ Rd w' B ∧ w.grownBy w' (some B) := by
  have hB := h.lt
  go_enter Try.func55, Try.ntmps55
  go_wp2_with fail
  refine (spec_once B 24 _ h (by omega) (by omega)).mono ?_
  rintro e w1 ⟨⟨x, rfl⟩, hR1, hg1⟩
  cases x
  · go_wp2_with fail
    refine (spec_near B lo hi _ hR1 h1 h2 h3).mono ?_
    rintro e w2 ⟨⟨v, rfl, hv0, hv1⟩, hR2, hg2⟩
    have hG := grown_trans hg1 hg2
    go_wp2
    go_returns
    exact ⟨⟨v, rfl, by omega, by omega⟩, hR2, hG⟩
  · go_wp2_with fail
    refine (spec_belowN B 4 _ (hR1.below (by go_grown)) (by omega) (by omega)).mono ?_
    rintro e w2 ⟨⟨v, rfl, hv⟩, hR2, hg2⟩
    have hb := (Blk.new w1 _ _).grown hg2 (by have := hR1.lt; omega)
    have hG : w.grownBy w2 (some B) := grown_trans (grown_below hg1 (by go_grown)) hg2
    have z0 := hb.cell 0
    have z1 := hb.cell 1
    have z2 := hb.cell 2
    have z3 := hb.cell 3
    simp only [List.getElem?_toArray, List.getElem?_cons_zero, List.getElem?_cons_succ] at z0 z1 z2 z3
    obtain ⟨y, hy, hy1, hy2⟩ : ∃ y : Int, w2.cell? ⟨w1.heap.size, v, none⟩ = some (.int .i64 y) ∧ -9223372036854775808 ≤ y ∧ y ≤ 9223372036854775807 := by
      rcases (show v = 0 ∨ v = 1 ∨ v = 2 ∨ v = 3 by omega) with rfl | rfl | rfl | rfl
      · exact ⟨_, z0, by omega, by omega⟩
      · exact ⟨_, z1, by omega, by omega⟩
      · exact ⟨_, z2, by omega, by omega⟩
      · exact ⟨_, z3, by omega, by omega⟩
    clear z0 z1 z2 z3 hb
    have hv4 : (v : Int) < 4 := by omega
    have hv5 : (0 : Int) ≤ v := by omega
    go_wp2
    go_returns
    exact ⟨⟨y, rfl, hy1, hy2⟩, hR2, hG⟩
end Go.Proofs.Ytpobgjkmcmkkeaa
