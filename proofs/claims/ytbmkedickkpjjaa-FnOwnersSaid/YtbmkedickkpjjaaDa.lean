/- The model's reader of drawn bytes: what it hands out lies within its bounds, and it turns nothing but its own block. -/
import Derived.Test.YtbmkedickkpjjaaProg
import Derived.Test.YtbmkedickkpjjaaMem
import Derived.Test.YtbmkedickkpjjaaPb
namespace Go.Proofs.Ytbmkedickkpjjaa
open Go.RowKit Go.BigFrame

/-- The slice holds bytes. -/
def CodeAt (w : World) (a : Option Addr) (n : Nat) : Prop := ∀ i, i < n → ∃ b o, ∃ v : Int, a = some ⟨b, o, none⟩ ∧ 0 ≤ v ∧ v ≤ 255 ∧ w.cell? ⟨b, o + i, none⟩ = some (.int .u8 v)

/-- Block B is a reader over such a slice, which lies elsewhere. -/
def Rd (w : World) (B : Nat) : Prop := ∃ a n cap p, ∃ t : TypeId, Blk w B #[.slice a n cap, .int .i64 ((p : Nat) : Int)] t ∧ p ≤ n ∧ n ≤ 1048576 ∧ CodeAt w a n ∧ ∀ ad, 0 < n → a = some ad → ad.block < B

theorem CodeAt.below {w w' : World} {a : Option Addr} {n : Nat} (h : CodeAt w a n) (hb : Below w.heap.size w w') : CodeAt w' a n := fun i hi => by
  obtain ⟨b, o, v, ha, h0, h1, hc⟩ := h i hi
  exact ⟨b, o, v, ha, h0, h1, bcell hb hc⟩
theorem CodeAt.grown {w w' : World} {a : Option Addr} {n r : Nat} (h : CodeAt w a n) (hg : w.grownBy w' (some r)) (hr : ∀ ad, 0 < n → a = some ad → ad.block ≠ r) : CodeAt w' a n := fun i hi => by
  obtain ⟨b, o, v, ha, h0, h1, hc⟩ := h i hi
  exact ⟨b, o, v, ha, h0, h1, hg.cell hc (by have := hr _ (by omega) ha; simpa using this)⟩
theorem Rd.below {w w' : World} {B : Nat} (h : Rd w B) (hb : Below w.heap.size w w') : Rd w' B := by
  obtain ⟨a, n, cap, p, t, h1, h2, h3, h4, h5⟩ := h
  exact ⟨a, n, cap, p, t, h1.below hb, h2, h3, h4.below hb, h5⟩
theorem Rd.grown {w w' : World} {B r : Nat} (h : Rd w B) (hg : w.grownBy w' (some r)) (hr : B < r) : Rd w' B := by
  obtain ⟨a, n, cap, p, t, h1, h2, h3, h4, h5⟩ := h
  exact ⟨a, n, cap, p, t, h1.grown hg (by omega), h2, h3, h4.grown hg (fun ad h0 had => by have := h5 ad h0 had; omega), h5⟩
theorem Rd.lt {w : World} {B : Nat} (h : Rd w B) : B < w.heap.size := by
  obtain ⟨a, n, cap, p, t, h1, _⟩ := h
  exact h1.lt

theorem grown_refl (w : World) (B : Nat) : w.grownBy w (some B) := World.grownBy.refl _ _

theorem spec_l1Open (a : Option Addr) (n cap : Nat) (w : World) (h : CodeAt w a n) (hn : n ≤ 1048576) :
    Calls Try.prog 108 #[.slice a n cap] w fun e w' => e = .returned (.pointer (some ⟨w.heap.size, 0, none⟩)) ∧ Rd w' w.heap.size ∧ Below w.heap.size w w' := by
  go_enter Try.func108, Try.ntmps108
  go_wp2
  go_returns
  go_light
  refine ⟨rfl, ⟨a, n, cap, 0, _, Blk.new _ _ _, Nat.zero_le _, hn, h.below (by go_grown), fun ad h0 had => ?_⟩, by go_grown⟩
  obtain ⟨b, o, v, ha, _, _, hc⟩ := h 0 h0
  rw [had] at ha
  cases ha
  exact World.block_lt_of_cell? w _ hc

set_option maxHeartbeats 1000000 in
theorem spec_next (B : Nat) (w : World) (h : Rd w B) :
    Calls Try.prog 163 #[.pointer (some ⟨B, 0, none⟩)] w fun e w' => (∃ v : Int, e = .returned (.int .i64 v) ∧ 0 ≤ v ∧ v ≤ 255) ∧ Rd w' B ∧ w.grownBy w' (some B) := by
  have h' : Hid (Rd w B) := h
  obtain ⟨a, n, cap, p, t, hb, hp, hn, hc, hne⟩ := h
  have c0 : w.cell? ⟨B, 0, none⟩ = some (.slice a n cap) := hb.cell 0
  have c1 : w.cell? ⟨B, 1, none⟩ = some (.int .i64 (p : Int)) := hb.cell 1
  have f1 := hb.frozen 1
  by_cases hlt : p < n
  · obtain ⟨b, o, v, rfl, hv0, hv1, hcell⟩ := hc p hlt
    have hbB : b ≠ B := by have : b < B := hne _ (by omega) rfl; omega
    have hS : ∀ u : World, Below w.heap.size w u → u.grownBy u (some B) ∧ w.grownBy u (some B) := fun u hu => ⟨grown_refl u B, grown_below (grown_refl w B) hu⟩
    go_enter Try.func163, Try.ntmps163
    go_wp2_with fail
    go_quiet (fail)
    have hbq := hb.below (drewNB w nq)
    have hcq := hc.below (drewNB w nq)
    have c0q := bcell (drewNB w nq) c0
    have c1q := bcell (drewNB w nq) c1
    have f1q := hbq.frozen 1
    have hcellq := bcell (drewNB w nq) hcell
    have hgq : w.grownBy (w.drewN nq) (some B) := grown_below (grown_refl w B) (drewNB w nq)
    clear hb hc c0 c1 f1 hcell hS
    generalize w.drewN nq = wq at *
    go_wp2_with fail
    have hb2 := hbq.set 1 (.int .i64 ((p : Int) + 1))
    have hc2 := hcq.grown (grown_set (grown_refl wq B) 1 (.int .i64 ((p : Int) + 1))) (fun ad h0 had => by have := hne ad h0 had; omega)
    have hg2 := grown_trans hgq (grown_set (grown_refl wq B) 1 (.int .i64 ((p : Int) + 1)))
    have hcell2 : (wq.setCell ⟨B, 1, none⟩ (.int .i64 ((p : Int) + 1))).cell? ⟨b, o + p, none⟩ = some (.int .u8 v) := (grown_set (grown_refl wq B) 1 (.int .i64 ((p : Int) + 1))).cell hcellq (by simpa using hbB)
    clear hbq hcq c0q c1q f1q hcellq hgq
    generalize wq.setCell ⟨B, 1, none⟩ (.int .i64 ((p : Int) + 1)) = W2 at *
    have d0 : W2.cell? ⟨B, 0, none⟩ = some (.slice (some ⟨b, o, none⟩) n cap) := by rw [hb2.cell]; simp
    have d1 : W2.cell? ⟨B, 1, none⟩ = some (.int .i64 ((p : Int) + 1)) := by rw [hb2.cell]; simp
    have hR : Rd W2 B := ⟨some ⟨b, o, none⟩, n, cap, p + 1, t, by simpa using hb2, by omega, hn, hc2, hne⟩
    clear hb2 hc2 h' hne
    have hp1 : (p : Int) + 1 - 1 = p := by omega
    have hw1 : IntKind.i64.wrap ((p : Int) + 1 - 1) = (p : Int) := by rw [IntKind.wrap_i64]; omega
    have hw2 : IntKind.i64.wrap (p : Int) = (p : Int) := by rw [IntKind.wrap_i64]; omega
    have hwv : IntKind.i64.wrap v = v := by rw [IntKind.wrap_i64]; omega
    have hpn : (p : Int) < n := by omega
    have hp0 : (0 : Int) ≤ p := by omega
    go_quiet (fail)
    have hR2 := hR.below (drewNB W2 nq)
    go_wp2
    go_returns
    go_light
    exact ⟨⟨v, rfl, hv0, hv1⟩, hR2, grown_below hg2 (drewNB _ _)⟩
  · go_enter Try.func163, Try.ntmps163
    go_wp2_with fail
    go_quiet (fail)
    have hR2 := h'.out.below (drewNB w nq)
    go_wp2
    go_returns
    go_light
    exact ⟨⟨0, rfl, by omega, by omega⟩, hR2, grown_below (grown_refl w B) (drewNB _ _)⟩

set_option maxHeartbeats 1000000 in
theorem spec_below (B : Nat) (k : Int) (w : World) (h : Rd w B) (hk : k ≤ 65536) :
    Calls Try.prog 111 #[.pointer (some ⟨B, 0, none⟩), .int .i64 k] w fun e w' => (∃ v : Int, e = .returned (.int .i64 v) ∧ 0 ≤ v ∧ (v = 0 ∨ v < k)) ∧ Rd w' B ∧ w.grownBy w' (some B) := by
  by_cases h1 : k ≤ 1
  · go_enter Try.func111, Try.ntmps111
    go_wp2
    go_returns
    go_light
    exact ⟨⟨0, rfl, by omega, .inl rfl⟩, h, grown_refl w B⟩
  · by_cases h2 : k ≤ 256
    · go_enter Try.func111, Try.ntmps111
      go_wp2_with fail
      refine (spec_next B _ h).mono ?_
      rintro e w1 ⟨⟨v, rfl, hv0, hv1⟩, hR1, hg1⟩
      go_wp2
      go_returns
      go_light
      exact ⟨⟨v % k, rfl, Int.emod_nonneg _ (by omega), .inr (Int.emod_lt_of_pos _ (by omega))⟩, hR1, hg1⟩
    · go_enter Try.func111, Try.ntmps111
      go_wp2_with fail
      refine (spec_next B _ h).mono ?_
      rintro e w1 ⟨⟨v, rfl, hv0, hv1⟩, hR1, hg1⟩
      go_wp2_with fail
      refine (spec_next B _ hR1).mono ?_
      rintro e w2 ⟨⟨u, rfl, hu0, hu1⟩, hR2, hg2⟩
      have hg := grown_trans hg1 hg2
      have hx : 0 ≤ v * 256 + u := by omega
      go_wp2
      go_returns
      go_light
      exact ⟨⟨(v * 256 + u) % k, rfl, Int.emod_nonneg _ (by omega), .inr (Int.emod_lt_of_pos _ (by omega))⟩, hR2, hg⟩

theorem spec_belowN (B : Nat) (k : Int) (w : World) (h : Rd w B) (hk : k ≤ 65536) (h1 : 1 ≤ k) :
    Calls Try.prog 111 #[.pointer (some ⟨B, 0, none⟩), .int .i64 k] w fun e w' => (∃ v : Nat, e = .returned (.int .i64 v) ∧ (v : Int) < k) ∧ Rd w' B ∧ w.grownBy w' (some B) :=
  (spec_below B k w h hk).mono fun e w' ⟨⟨v, he, h0, hv⟩, r⟩ => by
    obtain ⟨m, rfl⟩ := Int.eq_ofNat_of_zero_le h0
    exact ⟨⟨m, he, by rcases hv with hv | hv <;> omega⟩, r⟩

theorem spec_once (B : Nat) (k : Int) (w : World) (h : Rd w B) (hk : k ≤ 65536) (h1 : 1 ≤ k) :
    Calls Try.prog 110 #[.pointer (some ⟨B, 0, none⟩), .int .i64 k] w fun e w' => (∃ v : Bool, e = .returned (.bool v)) ∧ Rd w' B ∧ w.grownBy w' (some B) := by
  go_enter Try.func110, Try.ntmps110
  go_wp2_with fail
  refine (spec_belowN B k _ h hk h1).mono ?_
  rintro e w1 ⟨⟨v, rfl, hv⟩, hR1, hg1⟩
  go_wp2
  go_returns
  go_light
  exact ⟨⟨_, rfl⟩, hR1, hg1⟩
end Go.Proofs.Ytbmkedickkpjjaa
