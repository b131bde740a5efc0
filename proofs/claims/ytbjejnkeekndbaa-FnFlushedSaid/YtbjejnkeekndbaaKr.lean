/- The model's reader of drawn bytes: what it hands out lies within its bounds, and it turns nothing but its own block. How the drawn laws' argument, a slice of bytes, lies in memory. The reader's words, and numbers near to or just outside of a range. Drawn parts. Drawn lists of parts, and the extents for them. Drawn extents for parts; what Content is tried at. How great a code may be. -/
import Derived.Test.YtbjejnkeekndbaaProg
import Derived.Test.YtbjejnkeekndbaaKa
import Derived.Test.YtbjejnkeekndbaaKb
import Derived.Test.YtbjejnkeekndbaaKf
import Derived.Test.YtbjejnkeekndbaaKd
import Derived.Laws.Rows
import Derived.Test.YtbjejnkeekndbaaKc
import Derived.Maps.RangeWalk
namespace Go.Proofs.Ytbjejnkeekndbaa
open Go.RowKit Go.BigFrame

/-- The slice holds bytes. -/
def CodeAt (w : World) (a : Option Addr) (n : Nat) : Prop := ∀ i, i < n → ∃ b o, ∃ v : Int, a = some ⟨b, o, none⟩ ∧ 0 ≤ v ∧ v ≤ 255 ∧ w.cell? ⟨b, o + i, none⟩ = some (.int .u8 v)

/-- Block B is a reader over such a slice, which lies elsewhere. -/
def Rd (w : World) (B : Nat) : Prop := ∃ a n cap p, ∃ t : TypeId, Blk w B #[.slice a n cap, .int .i64 ((p : Nat) : Int)] t ∧ p ≤ n ∧ n ≤ 1048576 ∧ CodeAt w a n ∧ ∀ ad, 0 < n → a = some ad → ad.block < B

theorem CodeAt.below {w w' : World} {a : Option Addr} {n : Nat} (h : CodeAt w a n) (hb : Below w.heap.size w w') : CodeAt w' a n := fun i hi => by
  obtain ⟨b, o, v, ha, h0, h1, hc⟩ := h i hi
  exact ⟨b, o, v, ha, h0, h1, bcell hb hc⟩
theorem CodeAt.grown {w w' : World} {a : Option Addr} {n r : Nat} (h : CodeAt w a n) (hg : w.grownBy w' (some r)) (hr : ∀ ad, 0 < n → a = some ad → ad.block ≠ r) : CodeAt w' a n := fun i hi => by
  obtain ⟨b, o, v, ha, h0, h1, hc⟩ := h i hi
  exact ⟨b, o, v, ha, h0, h1, hg.cell hc (by have := hr _ (by omega) ha; simpa using this)⟩
theorem Rd.below {w w' : World} {B : Nat} (h : Rd w B) (hb : Below w.heap.size w w') : Rd w' B := by
  obtain ⟨a, n, cap, p, t, h1, h2, h3, h4, h5⟩ := h
  exact ⟨a, n, cap, p, t, h1.below hb, h2, h3, h4.below hb, h5⟩
theorem Rd.grown {w w' : World} {B r : Nat} (h : Rd w B) (hg : w.grownBy w' (some r)) (hr : B < r) : Rd w' B := by
  obtain ⟨a, n, cap, p, t, h1, h2, h3, h4, h5⟩ := h
  exact ⟨a, n, cap, p, t, h1.grown hg (by omega), h2, h3, h4.grown hg (fun ad h0 had => by have := h5 ad h0 had; omega), h5⟩
theorem Rd.lt {w : World} {B : Nat} (h : Rd w B) : B < w.heap.size := by
  obtain ⟨a, n, cap, p, t, h1, _⟩ := h
  exact h1.lt

theorem grown_refl (w : World) (B : Nat) : w.grownBy w (some B) := World.grownBy.refl _ _

theorem spec_l1Open (a : Option Addr) (n cap : Nat) (w : World) (h : CodeAt w a n) (hn : n ≤ 1048576) :
    Calls Try.prog 79 #[.slice a n cap] w fun e w' => e = .returned (.pointer (some ⟨w.heap.size, 0, none⟩)) ∧ Rd w' w.heap.size ∧ Below w.heap.size w w' := by
  go_enter Try.func79, Try.ntmps79
  go_wp2
  go_returns
  go_light
  refine ⟨rfl, ⟨a, n, cap, 0, _, Blk.new _ _ _, Nat.zero_le _, hn, h.below (by go_grown), fun ad h0 had => ?_⟩, by go_grown⟩
  obtain ⟨b, o, v, ha, _, _, hc⟩ := h 0 h0
  rw [had] at ha
  cases ha
  exact World.block_lt_of_cell? w _ hc

set_option maxHeartbeats 1000000 in
theorem spec_next (B : Nat) (w : World) (h : Rd w B) :
    Calls Try.prog 133 #[.pointer (some ⟨B, 0, none⟩)] w fun e w' => (∃ v : Int, e = .returned (.int .i64 v) ∧ 0 ≤ v ∧ v ≤ 255) ∧ Rd w' B ∧ w.grownBy w' (some B) := by
  have h' : Hid (Rd w B) := h
  obtain ⟨a, n, cap, p, t, hb, hp, hn, hc, hne⟩ := h
  have c0 : w.cell? ⟨B, 0, none⟩ = some (.slice a n cap) := hb.cell 0
  have c1 : w.cell? ⟨B, 1, none⟩ = some (.int .i64 (p : Int)) := hb.cell 1
  have f1 := hb.frozen 1
  by_cases hlt : p < n
  · obtain ⟨b, o, v, rfl, hv0, hv1, hcell⟩ := hc p hlt
    have hbB : b ≠ B := by have : b < B := hne _ (by omega) rfl; omega
    have hS : ∀ u : World, Below w.heap.size w u → u.grownBy u (some B) ∧ w.grownBy u (some B) := fun u hu => ⟨grown_refl u B, grown_below (grown_refl w B) hu⟩
    go_enter Try.func133, Try.ntmps133
    go_wp2_with fail
    go_quiet (fail)
    have hbq := hb.below (drewNB w nq)
    have hcq := hc.below (drewNB w nq)
    have c0q := bcell (drewNB w nq) c0
    have c1q := bcell (drewNB w nq) c1
    have f1q := hbq.frozen 1
    have hcellq := bcell (drewNB w nq) hcell
    have hgq : w.grownBy (w.drewN nq) (some B) := grown_below (grown_refl w B) (drewNB w nq)
    clear hb hc c0 c1 f1 hcell hS
    generalize w.drewN nq = wq at *
    go_wp2_with fail
    have hb2 := hbq.set 1 (.int .i64 ((p : Int) + 1))
    have hc2 := hcq.grown (grown_set (grown_refl wq B) 1 (.int .i64 ((p : Int) + 1))) (fun ad h0 had => by have := hne ad h0 had; omega)
    have hg2 := grown_trans hgq (grown_set (grown_refl wq B) 1 (.int .i64 ((p : Int) + 1)))
    have hcell2 : (wq.setCell ⟨B, 1, none⟩ (.int .i64 ((p : Int) + 1))).cell? ⟨b, o + p, none⟩ = some (.int .u8 v) := (grown_set (grown_refl wq B) 1 (.int .i64 ((p : Int) + 1))).cell hcellq (by simpa using hbB)
    clear hbq hcq c0q c1q f1q hcellq hgq
    generalize wq.setCell ⟨B, 1, none⟩ (.int .i64 ((p : Int) + 1)) = W2 at *
    have d0 : W2.cell? ⟨B, 0, none⟩ = some (.slice (some ⟨b, o, none⟩) n cap) := by rw [hb2.cell]; simp
    have d1 : W2.cell? ⟨B, 1, none⟩ = some (.int .i64 ((p : Int) + 1)) := by rw [hb2.cell]; simp
    have hR : Rd W2 B := ⟨some ⟨b, o, none⟩, n, cap, p + 1, t, by simpa using hb2, by omega, hn, hc2, hne⟩
    clear hb2 hc2 h' hne
    have hp1 : (p : Int) + 1 - 1 = p := by omega
    have hw1 : IntKind.i64.wrap ((p : Int) + 1 - 1) = (p : Int) := by rw [IntKind.wrap_i64]; omega
    have hw2 : IntKind.i64.wrap (p : Int) = (p : Int) := by rw [IntKind.wrap_i64]; omega
    have hwv : IntKind.i64.wrap v = v := by rw [IntKind.wrap_i64]; omega
    have hpn : (p : Int) < n := by omega
    have hp0 : (0 : Int) ≤ p := by omega
    go_quiet (fail)
    have hR2 := hR.below (drewNB W2 nq)
    go_wp2
    go_returns
    go_light
    exact ⟨⟨v, rfl, hv0, hv1⟩, hR2, grown_below hg2 (drewNB _ _)⟩
  · go_enter Try.func133, Try.ntmps133
    go_wp2_with fail
    go_quiet (fail)
    have hR2 := h'.out.below (drewNB w nq)
    go_wp2
    go_returns
    go_light
    exact ⟨⟨0, rfl, by omega, by omega⟩, hR2, grown_below (grown_refl w B) (drewNB _ _)⟩

set_option maxHeartbeats 1000000 in
theorem spec_below (B : Nat) (k : Int) (w : World) (h : Rd w B) (hk : k ≤ 65536) :
    Calls Try.prog 82 #[.pointer (some ⟨B, 0, none⟩), .int .i64 k] w fun e w' => (∃ v : Int, e = .returned (.int .i64 v) ∧ 0 ≤ v ∧ (v = 0 ∨ v < k)) ∧ Rd w' B ∧ w.grownBy w' (some B) := by
  by_cases h1 : k ≤ 1
  · go_enter Try.func82, Try.ntmps82
    go_wp2
    go_returns
    go_light
    exact ⟨⟨0, rfl, by omega, .inl rfl⟩, h, grown_refl w B⟩
  · by_cases h2 : k ≤ 256
    · go_enter Try.func82, Try.ntmps82
      go_wp2_with fail
      refine (spec_next B _ h).mono ?_
      rintro e w1 ⟨⟨v, rfl, hv0, hv1⟩, hR1, hg1⟩
      go_wp2
      go_returns
      go_light
      exact ⟨⟨v % k, rfl, Int.emod_nonneg _ (by omega), .inr (Int.emod_lt_of_pos _ (by omega))⟩, hR1, hg1⟩
    · go_enter Try.func82, Try.ntmps82
      go_wp2_with fail
      refine (spec_next B _ h).mono ?_
      rintro e w1 ⟨⟨v, rfl, hv0, hv1⟩, hR1, hg1⟩
      go_wp2_with fail
      refine (spec_next B _ hR1).mono ?_
      rintro e w2 ⟨⟨u, rfl, hu0, hu1⟩, hR2, hg2⟩
      have hg := grown_trans hg1 hg2
      have hx : 0 ≤ v * 256 + u := by omega
      go_wp2
      go_returns
      go_light
      exact ⟨⟨(v * 256 + u) % k, rfl, Int.emod_nonneg _ (by omega), .inr (Int.emod_lt_of_pos _ (by omega))⟩, hR2, hg⟩

theorem spec_belowN (B : Nat) (k : Int) (w : World) (h : Rd w B) (hk : k ≤ 65536) (h1 : 1 ≤ k) :
    Calls Try.prog 82 #[.pointer (some ⟨B, 0, none⟩), .int .i64 k] w fun e w' => (∃ v : Nat, e = .returned (.int .i64 v) ∧ (v : Int) < k) ∧ Rd w' B ∧ w.grownBy w' (some B) :=
  (spec_below B k w h hk).mono fun e w' ⟨⟨v, he, h0, hv⟩, r⟩ => by
    obtain ⟨m, rfl⟩ := Int.eq_ofNat_of_zero_le h0
    exact ⟨⟨m, he, by rcases hv with hv | hv <;> omega⟩, r⟩

theorem spec_once (B : Nat) (k : Int) (w : World) (h : Rd w B) (hk : k ≤ 65536) (h1 : 1 ≤ k) :
    Calls Try.prog 81 #[.pointer (some ⟨B, 0, none⟩), .int .i64 k] w fun e w' => (∃ v : Bool, e = .returned (.bool v)) ∧ Rd w' B ∧ w.grownBy w' (some B) := by
  go_enter Try.func81, Try.ntmps81
  go_wp2_with fail
  refine (spec_belowN B k _ h hk h1).mono ?_
  rintro e w1 ⟨⟨v, rfl, hv⟩, hR1, hg1⟩
  go_wp2
  go_returns
  go_light
  exact ⟨⟨_, rfl⟩, hR1, hg1⟩
end Go.Proofs.Ytbjejnkeekndbaa
namespace Go.Proofs.Ytbjejnkeekndbaa
open Go.ChangeShapes Go.WideShapes Go.ChangeAt Go.RowKit Go.Deep

theorem c5 : Try.prog.cellsOf 5 = 1 := by kernel_rfl

set_option maxRecDepth 100000 in
theorem open_code {H : Type} {enc : TypeId × Value → H} {w : World} {spare : Nat → Bool} {held : Bool} {a : Option Addr} {n cap : Nat} {d : DataW H} {p : List MemPlace}
    (h : DataW.Trod enc Try.prog w 0 spare held 22 (.slice a n cap) d p) : n ≤ maxLen ∧ CodeAt w a n := by
  obtain ⟨fuel, hf⟩ := h
  rcases open_slice Try.underlying22 hf with ⟨hcs, _⟩ | ⟨ad, len, cap', m, n', D, Pl, hcs, _, hl, hm, hmm, _, hel⟩
  · simp [Value.cells] at hcs
    obtain ⟨rfl, rfl, rfl⟩ := hcs
    exact ⟨Nat.zero_le _, fun i hi => by omega⟩
  · simp [Value.cells] at hcs
    obtain ⟨rfl, rfl, rfl⟩ := hcs
    have hle : n ≤ m := by rw [hmm]; split <;> omega
    refine ⟨Nat.le_trans hl hm, fun i hi => ?_⟩
    have hone : ∀ i, i < n → ∃ z : Int, 0 ≤ z ∧ z ≤ 255 ∧ w.cell? (ad.add i) = some (.int .u8 z) := by
      intro i hi
      obtain ⟨cs', h1, h2⟩ := hel i (by omega)
      rw [c5] at h1
      obtain ⟨_, hlen, hcell⟩ := World.cells?_some h1
      obtain ⟨z, e, _, hz⟩ := DataW.trod_int Try.underlying5 h2
      match cs', hlen with
      | [x0], _ =>
        simp at e
        subst e
        have hc := hcell 0 (by omega)
        rw [Addr.add_add] at hc
        have hz2 := bounds_u8 hz
        exact ⟨z, hz2.1, hz2.2, by simpa using hc⟩
    obtain ⟨z, h0, h1, hc⟩ := hone i hi
    obtain ⟨z', _, _, hc'⟩ := hone 0 (by omega)
    obtain ⟨b, o, rfl⟩ := spotless hc' rfl
    exact ⟨b, o, z, rfl, h0, h1, by rw [Addr.add_lit] at hc; exact hc⟩
end Go.Proofs.Ytbjejnkeekndbaa
namespace Go.Proofs.Ytbjejnkeekndbaa
open Go.RowKit Go.BigFrame

set_option maxHeartbeats 1000000 in
theorem spec_word (B : Nat) (w : World) (h : Rd w B) :
    Calls Try.prog 155 #[.pointer (some ⟨B, 0, none⟩)] w fun e w' => (∃ v : Int, e = .returned (.int .u64 v) ∧ 0 ≤ v ∧ v ≤ 18446744073709551615) ∧ Rd w' B ∧ w.grownBy w' (some B) := by
  go_enter Try.func155, Try.ntmps155
  go_wp2_with fail
  go_loopw [3, 4] (fun x ix wr => ∃ (k : Nat) (v : Int), k ≤ 8 ∧ ix = .int .i64 k ∧ x = .int .u64 v ∧ 0 ≤ v ∧ v ≤ 18446744073709551615 ∧ Rd wr B ∧ w.grownBy wr (some B)) (fun _ ix _ => 8 - (intOf ix).toNat)
  case atStart => exact ⟨0, 0, by omega, rfl, rfl, by omega, by omega, h, grown_refl w B⟩
  case round =>
    obtain ⟨k, v, hk, rfl, rfl, hv0, hv1, hR, hG⟩ := hrel
    by_cases hlt : k < 8
    · go_wp2_with fail
      refine (spec_next B _ hR).mono ?_
      rintro e w1 ⟨⟨u, rfl, hu0, hu1⟩, hR1, hg1⟩
      have hG1 := grown_trans hG hg1
      have hwf := bounds_u64 (wf_bits .or .u64 (IntKind.u64.wrap (v * 256)) u)
      go_wp2
      generalize bits BinOp.or IntKind.u64 (IntKind.u64.wrap (v * 256)) u = x at *
      go_roundw
      case rel => exact ⟨k + 1, x, by omega, by go_num, rfl, hwf.1, hwf.2, hR1, hG1⟩
      case measure => simp [intOf]; omega
    · obtain rfl : k = 8 := by omega
      go_wp2
      go_returns
      exact ⟨⟨v, rfl, hv0, hv1⟩, hR, hG⟩

set_option maxHeartbeats 1000000 in
theorem spec_near (B : Nat) (lo hi : Int) (w : World) (h : Rd w B) (h1 : -1000 ≤ lo) (h2 : lo ≤ hi) (h3 : hi ≤ 1000) :
    Calls Try.prog 135 #[.pointer (some ⟨B, 0, none⟩), .int .i64 lo, .int .i64 hi] w fun e w' => (∃ v : Int, e = .returned (.int .i64 v) ∧ lo ≤ v ∧ v ≤ hi) ∧ Rd w' B ∧ w.grownBy w' (some B) := by
  go_enter Try.func135, Try.ntmps135
  go_wp2_with fail
  refine (spec_belowN B 8 _ h (by omega) (by omega)).mono ?_
  rintro e w1 ⟨⟨x, rfl, hx⟩, hR1, hg1⟩
  by_cases hx0 : x = 0
  · subst hx0
    go_wp2
    go_returns
    exact ⟨⟨lo, rfl, by omega, h2⟩, hR1, hg1⟩
  · have b0 : ((x : Int) == 0) = false := by simp; omega
    by_cases hx1 : x = 1
    · subst hx1
      go_wp2
      go_returns
      exact ⟨⟨hi, rfl, h2, by omega⟩, hR1, hg1⟩
    · have b1 : ((x : Int) == 1) = false := by simp; omega
      have hns : ¬ hi < lo := by omega
      go_wp2_with fail
      refine (spec_word B _ hR1).mono ?_
      rintro e w2 ⟨⟨v, rfl, hv0, hv1⟩, hR2, hg2⟩
      have hG := grown_trans hg1 hg2
      have hm0 : 0 ≤ v / 2 % (hi - lo + 1) := Int.emod_nonneg _ (by omega)
      have hm1 : v / 2 % (hi - lo + 1) < hi - lo + 1 := Int.emod_lt_of_pos _ (by omega)
      go_wp2
      generalize v / 2 % (hi - lo + 1) = m at *
      have hw1 : wrap64 m = m := by unfold wrap64; omega
      have hw2 : wrap64 (lo + m) = lo + m := by unfold wrap64; omega
      go_returns
      exact ⟨⟨lo + m, rfl, by omega, by omega⟩, hR2, hG⟩

set_option maxHeartbeats 1000000 in
theorem spec_off (B : Nat) (lo hi : Int) (w : World) (h : Rd w B) (h1 : -1000 ≤ lo) (h2 : lo ≤ hi) (h3 : hi ≤ 1000) :
    Calls Try.prog 90 #[.pointer (some ⟨B, 0, none⟩), .int .i64 lo, .int .i64 hi] w fun e w' => (∃ v : Int, e = .returned (.int .i64 v) ∧ -9223372036854775808 ≤ v ∧ v ≤ 9223372036854775807) ∧ Rd w' B ∧ w.grownBy w' (some B) := by
  have hB := h.lt
  go_enter Try.func90, Try.ntmps90
  go_wp2_with fail
  refine (spec_once B 24 _ h (by omega) (by omega)).mono ?_
  rintro e w1 ⟨⟨x, rfl⟩, hR1, hg1⟩
  cases x
  · go_wp2_with fail
    refine (spec_near B lo hi _ hR1 h1 h2 h3).mono ?_
    rintro e w2 ⟨⟨v, rfl, hv0, hv1⟩, hR2, hg2⟩
    have hG := grown_trans hg1 hg2
    go_wp2
    go_returns
    exact ⟨⟨v, rfl, by omega, by omega⟩, hR2, hG⟩
  · go_wp2_with fail
    refine (spec_belowN B 4 _ (hR1.below (by go_grown)) (by omega) (by omega)).mono ?_
    rintro e w2 ⟨⟨v, rfl, hv⟩, hR2, hg2⟩
    have hb := (Blk.new w1 _ _).grown hg2 (by have := hR1.lt; omega)
    have hG : w.grownBy w2 (some B) := grown_trans (grown_below hg1 (by go_grown)) hg2
    have z0 := hb.cell 0
    have z1 := hb.cell 1
    have z2 := hb.cell 2
    have z3 := hb.cell 3
    simp only [List.getElem?_toArray, List.getElem?_cons_zero, List.getElem?_cons_succ] at z0 z1 z2 z3
    obtain ⟨y, hy, hy1, hy2⟩ : ∃ y : Int, w2.cell? ⟨w1.heap.size, v, none⟩ = some (.int .i64 y) ∧ -9223372036854775808 ≤ y ∧ y ≤ 9223372036854775807 := by
      rcases (show v = 0 ∨ v = 1 ∨ v = 2 ∨ v = 3 by omega) with rfl | rfl | rfl | rfl
      · exact ⟨_, z0, by omega, by omega⟩
      · exact ⟨_, z1, by omega, by omega⟩
      · exact ⟨_, z2, by omega, by omega⟩
      · exact ⟨_, z3, by omega, by omega⟩
    clear z0 z1 z2 z3 hb
    have hv4 : (v : Int) < 4 := by omega
    have hv5 : (0 : Int) ≤ v := by omega
    go_wp2
    go_returns
    exact ⟨⟨y, rfl, hy1, hy2⟩, hR2, hG⟩
end Go.Proofs.Ytbjejnkeekndbaa
namespace Go.Proofs.Ytbjejnkeekndbaa
open Go.RowKit Go.BigFrame

/-- A row told cell by cell. -/
theorem res_of_cells {α : Type} {cs : α → List Value} {sz : Nat} {t : TypeId} (hsz : ∀ x, (cs x).length = sz) (hpos : 0 < sz) {w : World} {B b n cap : Nat} {l : List α} {c : Array Value} (hb : Blk w b c t) (hB : B ≤ b) (h1 : n ≤ cap) (h2 : cap ≤ maxLen) (hs : c.size = cap * sz) (hl : l.length = n)
    (hc : ∀ i x, l[i]? = some x → ∀ j v, (cs x)[j]? = some v → c[i * sz + j]? = some v) : ResAt cs sz t w B (some ⟨b, 0, none⟩) n cap l := by
  refine ⟨⟨hl, fun i x hx => ⟨b, 0, rfl, fun j v hv => by rw [hb.cell, Nat.zero_add]; exact hc i x hx j v hv⟩⟩, .inr ⟨b, rfl, hB, h1, h2, c, hb, hs, ?_⟩⟩
  apply List.ext_getElem?
  intro k
  by_cases hk : k < n * sz
  · rw [List.getElem?_take_of_lt hk]
    have hi : k / sz < l.length := by rw [hl]; exact Nat.div_lt_of_lt_mul (by rw [Nat.mul_comm]; exact hk)
    have hx : l[k / sz]? = some l[k / sz] := by simp [hi]
    have hj : k % sz < (cs l[k / sz]).length := by rw [hsz]; exact Nat.mod_lt _ hpos
    have hv : (cs l[k / sz])[k % sz]? = some (cs l[k / sz])[k % sz] := by simp [hj]
    have e1 := hc _ _ hx _ _ hv
    have e2 := flat_at hsz l hx hv
    have e3 : k / sz * sz + k % sz = k := by rw [Nat.mul_comm]; exact Nat.div_add_mod k sz
    rw [e3] at e1 e2
    rw [e2, ← e1]; simp
  · have : n * sz ≤ k := by omega
    rw [List.getElem?_eq_none (by rw [List.length_take]; omega), List.getElem?_eq_none (by rw [flat_len hsz, hl]; exact this)]

/-- A list of parts with another length for its first. -/
def setN (l : List Pt) (v : Int) : List Pt := match l with
  | [] => []
  | p :: r => ⟨p.a, p.f, v⟩ :: r
theorem setN_len (l : List Pt) (v : Int) : (setN l v).length = l.length := by cases l <;> rfl

theorem res_setN {w : World} {B b n cap : Nat} {l : List Pt} (R : ResAt Pt.cs 3 119 w B (some ⟨b, 0, none⟩) n cap l) (hn : 0 < n) (v : Int) :
    ResAt Pt.cs 3 119 (w.setCell ⟨b, 2, none⟩ (.int .i64 v)) B (some ⟨b, 0, none⟩) n cap (setN l v) := by
  have hlen := R.sl.len
  rcases R.own with ⟨h, _⟩ | ⟨b', hb', hB, h1, h2, c, hc, hs, _⟩
  · cases h
  · obtain rfl : b = b' := by simpa using hb'
    have hcell : ∀ i x, l[i]? = some x → ∀ j u, x.cs[j]? = some u → c[i * 3 + j]? = some u := fun i x hx j u hu => by
      obtain ⟨b2, o2, ha, hh⟩ := R.sl.cell i x hx
      obtain ⟨rfl, rfl⟩ : b = b2 ∧ 0 = o2 := by simpa using ha
      have := hh j u hu
      rw [hc.cell, Nat.zero_add] at this
      exact this
    refine res_of_cells pcs_len (by omega) (hc.set 2 (.int .i64 v)) hB h1 h2 (by simpa using hs) (by rw [setN_len]; exact hlen) ?_
    intro i x hx j u hu
    have hj : j < 3 := by have := (List.getElem?_eq_some_iff.1 hu).1; simpa [Pt.cs] using this
    cases l with
    | nil => simp [setN] at hx
    | cons p r =>
      cases i with
      | zero =>
        simp [setN] at hx
        subst hx
        have c0 := hcell 0 p rfl
        match j, hu with
        | 0, hu => rw [Array.getElem?_setIfInBounds_ne (by omega)]; exact c0 0 _ hu
        | 1, hu => rw [Array.getElem?_setIfInBounds_ne (by omega)]; exact c0 1 _ hu
        | 2, hu =>
          obtain rfl := Option.some.inj hu
          rw [Array.getElem?_setIfInBounds_self_of_lt (by rw [hs]; omega)]
        | j + 3, hu => simp [Pt.cs] at hu
      | succ i =>
        rw [Array.getElem?_setIfInBounds_ne (by omega)]
        exact hcell (i + 1) x (by simpa [setN] using hx) j u hu

/-- A drawn part. -/
def PtSmall (p : Pt) : Prop := 0 ≤ p.a ∧ p.a ≤ 61 ∧ 0 ≤ p.f ∧ p.f ≤ 5 ∧ 1 ≤ p.n ∧ p.n ≤ 9

theorem part_end {w w3 : World} {B b : Nat} {x y z : Int} {c : Array Value} (hlt : B < b) (hb : b = w.heap.size) (hG : w.grownBy w3 (some B)) (hR : Rd w3 B) (hk : Blk w3 b c 119) (hc : c.size = 3) :
    Rd (((w3.setCell ⟨b, 0, none⟩ (.int .i64 x)).setCell ⟨b, 1, none⟩ (.int .i64 y)).setCell ⟨b, 2, none⟩ (.int .i64 z)) B ∧ w.grownBy (((w3.setCell ⟨b, 0, none⟩ (.int .i64 x)).setCell ⟨b, 1, none⟩ (.int .i64 y)).setCell ⟨b, 2, none⟩ (.int .i64 z)) (some B) ∧
      Blk (((w3.setCell ⟨b, 0, none⟩ (.int .i64 x)).setCell ⟨b, 1, none⟩ (.int .i64 y)).setCell ⟨b, 2, none⟩ (.int .i64 z)) b #[.int .i64 x, .int .i64 y, .int .i64 z] 119 := by
  have hg := grown_set (grown_set (grown_set (grown_refl w3 b) 0 (.int .i64 x)) 1 (.int .i64 y)) 2 (.int .i64 z)
  refine ⟨hR.grown hg hlt, ⟨hg.os.trans hG.os, hg.tape.trans hG.tape, hg.output.trans hG.output, Nat.le_trans hG.size hg.size, fun k hk hne => by
      rw [hg.block k (Nat.lt_of_lt_of_le hk hG.size) (by simp; omega)]; exact hG.block k hk hne⟩, ?_⟩
  have := ((hk.set 0 (.int .i64 x)).set 1 (.int .i64 y)).set 2 (.int .i64 z)
  obtain ⟨l⟩ := c
  match l, hc with
  | [c0, c1, c2], _ => simpa using this

set_option maxHeartbeats 1000000 in
set_option maxRecDepth 100000 in
theorem spec_part (B : Nat) (w : World) (h : Rd w B) :
    Calls Try.prog 137 #[.pointer (some ⟨B, 0, none⟩)] w fun e w' => (∃ p : Pt, e = .returned (.agg #[.int .i64 p.a, .int .i64 p.f, .int .i64 p.n]) ∧ PtSmall p) ∧ Rd w' B ∧ w.grownBy w' (some B) := by
  have hlt := h.lt
  go_enter Try.func137, Try.ntmps137
  go_wp2_with fail
  refine (spec_once B 4 _ (h.below (by go_grown)) (by omega) (by omega)).mono ?_
  rintro e w1 ⟨⟨x, rfl⟩, hR1, hg1⟩
  have b1 := (Blk.new w _ _).grown hg1 (by omega)
  have hG1 : w.grownBy w1 (some B) := grown_trans (grown_below (grown_refl w B) (by go_grown)) hg1
  clear hg1
  cases x
  · go_wp2_with fail
    refine (spec_belowN B 6 _ hR1 (by omega) (by omega)).mono ?_
    rintro e w2 ⟨⟨f, rfl, hf⟩, hR2, hg2⟩
    have b2 := b1.grown hg2 (by omega)
    have hG2 := grown_trans hG1 hg2
    clear hg2 b1 hG1 hR1
    go_wp2_with fail
    refine (spec_belowN B 4 _ hR2 (by omega) (by omega)).mono ?_
    rintro e w3 ⟨⟨y, rfl, hy⟩, hR3, hg3⟩
    have b3 := b2.grown hg3 (by omega)
    have hG3 := grown_trans hG2 hg3
    clear hg3 b2 hG2 hR2
    go_wp2_with fail
    refine (spec_belowN B 9 _ hR3 (by omega) (by omega)).mono ?_
    rintro e w4 ⟨⟨z, rfl, hz⟩, hR4, hg4⟩
    have b4 := b3.grown hg4 (by omega)
    have hG4 := grown_trans hG3 hg4
    clear hg4 b3 hG3 hR3
    have f0 := b4.frozen 0
    have f1 := b4.frozen 1
    have f2 := b4.frozen 2
    have y0 := b4.cell 0
    have y1 := b4.cell 1
    have y2 := b4.cell 2
    simp only [List.getElem?_toArray, List.getElem?_cons_zero, List.getElem?_cons_succ] at y0 y1 y2
    obtain ⟨r1, r2, r3⟩ := part_end (x := 1 + 20 * (y : Int)) (y := (f : Int)) (z := 1 + (z : Int)) hlt rfl hG4 hR4 b4 rfl
    clear b4 hR4 hG4 h
    go_wp2
    generalize ((w4.setCell ⟨w.heap.size, 0, none⟩ (.int .i64 (1 + 20 * (y : Int)))).setCell ⟨w.heap.size, 1, none⟩ (.int .i64 (f : Int))).setCell ⟨w.heap.size, 2, none⟩ (.int .i64 (1 + (z : Int))) = W at *
    refine bodyPost_ret (results_cell_row rfl _ W w.heap.size _ _ _ _ rfl r3 Try.underlying119 rfl (by kernel_rfl)) rfl ?_
    exact ⟨⟨⟨1 + 20 * y, f, 1 + z⟩, by simp, by unfold PtSmall; dsimp only; omega⟩, r1, r2⟩
  · go_wp2_with fail
    refine (spec_belowN B 6 _ hR1 (by omega) (by omega)).mono ?_
    rintro e w4 ⟨⟨z, rfl, hz⟩, hR4, hg4⟩
    have b4 := b1.grown hg4 (by omega)
    have hG4 := grown_trans hG1 hg4
    clear hg4 b1 hG1 hR1
    have f0 := b4.frozen 0
    have f1 := b4.frozen 1
    have f2 := b4.frozen 2
    have y0 := b4.cell 0
    have y1 := b4.cell 1
    have y2 := b4.cell 2
    simp only [List.getElem?_toArray, List.getElem?_cons_zero, List.getElem?_cons_succ] at y0 y1 y2
    obtain ⟨r1, r2, r3⟩ := part_end (x := 0) (y := 0) (z := 1 + (z : Int)) hlt rfl hG4 hR4 b4 rfl
    clear b4 hR4 hG4 h
    go_wp2
    generalize ((w4.setCell ⟨w.heap.size, 0, none⟩ (.int .i64 0)).setCell ⟨w.heap.size, 1, none⟩ (.int .i64 0)).setCell ⟨w.heap.size, 2, none⟩ (.int .i64 (1 + (z : Int))) = W at *
    refine bodyPost_ret (results_cell_row rfl _ W w.heap.size _ _ _ _ rfl r3 Try.underlying119 rfl (by kernel_rfl)) rfl ?_
    exact ⟨⟨⟨0, 0, 1 + z⟩, by simp, by unfold PtSmall; dsimp only; omega⟩, r1, r2⟩
end Go.Proofs.Ytbjejnkeekndbaa
namespace Go.Proofs.Ytbjejnkeekndbaa
open Go.RowKit Go.BigFrame

/-- A drawn list: small parts, but for the length of the first. -/
def PtsDrawn (l : List Pt) : Prop := ∀ p ∈ l, -9223372036854775808 ≤ p.n ∧ p.n ≤ 9223372036854775807

theorem addL_small {l : List Pt} {p : Pt} {M : Int} (hM : 0 ≤ M) (hM2 : M ≤ 1000000) (hl : ∀ q ∈ l, 0 ≤ q.n ∧ q.n ≤ M) (hp : PtSmall p) : ∀ q ∈ addL l p, 0 ≤ q.n ∧ q.n ≤ M + 9 := by
  obtain ⟨_, _, _, _, h5, h6⟩ := hp
  unfold addL
  split
  · intro q hq; simp at hq; subst hq; omega
  · rename_i q0 h0
    have hq0 := hl q0 (List.mem_of_getLast? h0)
    split
    · intro q hq
      rcases List.mem_append.1 hq with hq | hq
      · have := hl q (List.dropLast_subset l hq); omega
      · simp at hq; subst hq
        dsimp only
        unfold wrap64
        omega
    · intro q hq
      rcases List.mem_append.1 hq with hq | hq
      · have := hl q hq; omega
      · simp at hq; subst hq; omega

set_option maxHeartbeats 1000000 in
set_option maxRecDepth 100000 in
theorem spec_parts (B : Nat) (most : Nat) (w : World) (h : Rd w B) (hmost : most ≤ 100) :
    Calls Try.prog 92 #[.pointer (some ⟨B, 0, none⟩), .int .i64 (most : Int)] w fun e w' => (∃ a n cap l, e = .returned (.slice a n cap) ∧ n ≤ most ∧ PtsDrawn l ∧ ResAt Pt.cs 3 119 w' w.heap.size a n cap l) ∧ Rd w' B ∧ w.grownBy w' (some B) := by
  have hlt := h.lt
  go_enter Try.func92, Try.ntmps92
  go_wp2_with fail
  refine (spec_belowN B (most + 1) _ (h.below (by go_grown)) (by omega) (by omega)).mono ?_
  rintro e w1 ⟨⟨x, rfl, hx⟩, hR1, hg1⟩
  have b1 := (Blk.new w #[] 119).grown hg1 (by omega)
  have hG1 : w.grownBy w1 (some B) := grown_trans (grown_below (grown_refl w B) (by go_grown)) hg1
  clear hg1
  go_wp2_with fail
  go_loopw [5, 6] (fun out ix wr => ∃ (k m : Nat) (a2 : Option Addr) (n2 cap2 : Nat) (lk : List Pt), ix = .int .i64 k ∧ k + m = x ∧ out = .slice a2 n2 cap2 ∧ n2 ≤ m ∧ (∀ q ∈ lk, 0 ≤ q.n ∧ q.n ≤ 9 * (m : Int)) ∧ ResAt Pt.cs 3 119 wr w.heap.size a2 n2 cap2 lk ∧ Rd wr B ∧ w.grownBy wr (some B)) (fun _ ix _ => (intOf ix).toNat)
  case atStart => exact ⟨x, 0, _, 0, 0, [], rfl, by omega, rfl, Nat.le_refl _, by simp, res_empty b1 (Nat.le_refl _), hR1, hG1⟩
  case round =>
    obtain ⟨k, m, a2, n2, cap2, lk, rfl, hkm, rfl, hn2, hsm, R2, hR, hG⟩ := hrel
    by_cases hk : 0 < k
    · go_wp2_with fail
      refine (spec_part B _ hR).mono ?_
      rintro e w2 ⟨⟨p, rfl, hp⟩, hR2, hg2⟩
      have R3 := R2.grown hg2 (fun ad had => by have := (R2.block ad had).1; omega)
      have hG2 := grown_trans hG hg2
      clear R2 hg2
      go_wp2_with fail
      refine (spec_l2Add a2 n2 cap2 lk p _ R3.sl (by omega) R3.arg).mono ?_
      rintro e w3 ⟨⟨a4, n4, cap4, rfl, R4⟩, hB4⟩
      have hn4 := R4.sl.len
      have hl4 := addL_len lk p
      rw [R3.sl.len] at hl4
      have hR4 := hR2.below hB4
      have hG4 := grown_below hG2 hB4
      have hs4 := addL_small (M := 9 * (m : Int)) (by omega) (by omega) hsm hp
      replace R4 := R4.mono hG2.size
      go_wp2
      go_roundw
      case rel => exact ⟨k - 1, m + 1, a4, n4, cap4, addL lk p, by show Value.int IntKind.i64 _ = Value.int IntKind.i64 _; congr 1; omega, by omega, rfl, by omega, fun q hq => by have := hs4 q hq; omega, R4, hR4, hG4⟩
      case measure => simp [intOf]; omega
    · obtain rfl : k = 0 := by omega
      go_wp2_with fail
      refine (spec_once B 30 _ hR (by omega) (by omega)).mono ?_
      rintro e w2 ⟨⟨v, rfl⟩, hR2, hg2⟩
      have R3 := R2.grown hg2 (fun ad had => by have := (R2.block ad had).1; omega)
      have hG2 := grown_trans hG hg2
      have hdr : PtsDrawn lk := fun q hq => by have := hsm q hq; omega
      clear R2 hg2
      cases v
      · go_wp2
        go_returns
        exact ⟨⟨a2, n2, cap2, lk, rfl, by omega, hdr, R3⟩, hR2, hG2⟩
      · by_cases hn0 : 0 < n2
        · have hn1 : (0 : Int) < n2 := by omega
          go_wp2_with fail
          refine (spec_off B 1 9 _ hR2 (by omega) (by omega) (by omega)).mono ?_
          rintro e w3 ⟨⟨y, rfl, hy0, hy1⟩, hR3, hg3⟩
          have R4 := R3.grown hg3 (fun ad had => by have := (R3.block ad had).1; omega)
          have hG3 := grown_trans hG2 hg3
          clear R3 hg3
          rcases R4.own with ⟨_, e0, _⟩ | ⟨b, rfl, hb0, _, _, c, hc, hcs, _⟩
          · omega
          · have R5 := res_setN R4 hn0 y
            have hg5 := grown_set (grown_refl w3 b) 2 (.int .i64 y)
            have hR5 := hR3.grown hg5 (by omega)
            have hG5 : w.grownBy (w3.setCell ⟨b, 2, none⟩ (.int .i64 y)) (some B) := ⟨hg5.os.trans hG3.os, hg5.tape.trans hG3.tape, hg5.output.trans hG3.output, Nat.le_trans hG3.size hg5.size, fun k hk hne => by
              rw [hg5.block k (Nat.lt_of_lt_of_le hk hG3.size) (by simp; omega)]; exact hG3.block k hk hne⟩
            have f2 := hc.frozen 2
            obtain ⟨u, hu⟩ := hc.has (i := 2) (by rw [hcs]; have := R4.sl.len; omega)
            have hdr5 : PtsDrawn (setN lk y) := by
              cases lk with
              | nil => intro q hq; simp [setN] at hq
              | cons p r =>
                intro q hq
                simp [setN] at hq
                rcases hq with rfl | hq
                · exact ⟨hy0, hy1⟩
                · exact hdr q (by simp [hq])
            go_wp2
            go_returns
            exact ⟨⟨_, n2, cap2, setN lk y, rfl, by omega, hdr5, R5⟩, hR5, hG5⟩
        · obtain rfl : n2 = 0 := by omega
          go_wp2
          go_returns
          exact ⟨⟨a2, 0, cap2, lk, rfl, by omega, hdr, R3⟩, hR2, hG2⟩
end Go.Proofs.Ytbjejnkeekndbaa
namespace Go.Proofs.Ytbjejnkeekndbaa
open Go.RowKit Go.BigFrame

theorem strs_snoc {l : List Ex} {x : Ex} (h : Strs l) (hx : x.d.size ≤ 20) : Strs (l ++ [x]) := fun e he => by
  rcases List.mem_append.1 he with he | he
  · exact h e he
  · simp at he; subst he; omega
theorem Rd.grownO {w w' : World} {B : Nat} {row : Option Nat} (h : Rd w B) (hg : w.grownBy w' row) (hr : ∀ k, row = some k → B < k) : Rd w' B := by
  cases row with
  | some r => exact h.grown hg (hr r rfl)
  | none => exact h.grown (r := B + 1) (hg.but (some (B + 1))) (by omega)
theorem grown_row {w u w' : World} {B : Nat} {row : Option Nat} (h : w.grownBy u (some B)) (hg : u.grownBy w' row) (hr : ∀ k, row = some k → w.heap.size ≤ k) : w.grownBy w' (some B) :=
  h.andThen hg (fun j hj => .inl (hr j hj))

set_option maxHeartbeats 2000000 in
set_option maxRecDepth 100000 in
theorem spec_store (B : Nat) (w : World) (h : Rd w B) :
    Calls Try.prog 99 #[.pointer (some ⟨B, 0, none⟩)] w fun e w' => (∃ a n cap l, e = .returned (.slice a n cap) ∧ n ≤ 4 ∧ Strs l ∧ ResAt Ex.cs 2 113 w' w.heap.size a n cap l) ∧ Rd w' B ∧ w.grownBy w' (some B) := by
  have hlt := h.lt
  obtain ⟨i0, hi, hz0, hz1, hz2⟩ := info_parts infoE
  go_enter Try.func99, Try.ntmps99
  go_wp2_with fail
  go_loopw [3, 4] (fun out ix wr => ∃ (k : Nat) (a2 : Option Addr) (n2 cap2 : Nat) (lk : List Ex), k ≤ 4 ∧ ix = .int .i64 k ∧ out = .slice a2 n2 cap2 ∧ n2 ≤ k ∧ Strs lk ∧ ResAt Ex.cs 2 113 wr w.heap.size a2 n2 cap2 lk ∧ Rd wr B ∧ w.grownBy wr (some B)) (fun _ ix _ => 4 - (intOf ix).toNat)
  case atStart => exact ⟨0, _, 0, 0, [], by omega, rfl, rfl, Nat.le_refl _, fun e he => by simp at he, res_empty (Blk.new' _ _ _ _ rfl) (Nat.le_refl _), h.below (by go_grown), grown_below (grown_refl w B) (by go_grown)⟩
  case round =>
    obtain ⟨k, a2, n2, cap2, lk, hk, rfl, rfl, hn2, hstr, R2, hR, hG⟩ := hrel
    by_cases hk4 : k < 4
    · go_wp2_with fail
      refine (spec_once B 12 _ hR (by omega) (by omega)).mono ?_
      rintro e w2 ⟨⟨v, rfl⟩, hR2, hg2⟩
      have R3 := R2.grown hg2 (fun ad had => by have := (R2.block ad had).1; omega)
      have hG2 := grown_trans hG hg2
      have hsz := hG2.size
      clear R2 hg2 hR hG
      cases v
      · have hkk : k = 0 ∨ k = 1 ∨ k = 2 ∨ k = 3 := by omega
        rcases hkk with rfl | rfl | rfl | rfl
        all_goals
          go_wp2_with (at_builtin; refine wpList_app rfl (fun K hK => wp_app _ _ 24 rfl w.heap.size 113 i0 (.agg #[.int .i64 0, .string .empty]) 24 Try.underlying24 hi hz0 hz1 hz2 rfl (by decide) ecs_len ecs_one a2 n2 cap2 lk rfl ((R3.alloc _).alloc _) _ 1 1 [⟨_, _⟩] rfl (sl_newE' _ ⟨_, _⟩ _ _ (by simp)) (fun ad h => (by cases h; rfl)) (fun h => (by cases h)) (n2 + 1) rfl (by unfold maxLen; omega) (by omega) (by simp; omega) (fun a3 cap3 w3 R4 hg3 => hK _ _ ?_)))
          have hge : ∀ j, Value.ownBlock (.slice a2 n2 cap2) = some j → w.heap.size ≤ j := own_ge fun ad had => (R3.block ad had).1
          have hR3 := (hR2.below (((Below.refl _ _).alloc (Nat.le_refl _) _).alloc (by simp) _)).grownO hg3 (fun j hj => by have := hge j hj; omega)
          have hG3 := grown_row (grown_below hG2 (((Below.refl _ _).alloc (Nat.le_refl _) _).alloc (by simp) _)) hg3 hge
          go_roundw
          case rel => first | exact ⟨1, a3, n2 + 1, cap3, _, by omega, by go_num, rfl, by omega, strs_snoc hstr (by decide), R4, hR3, hG3⟩ | exact ⟨2, a3, n2 + 1, cap3, _, by omega, by go_num, rfl, by omega, strs_snoc hstr (by decide), R4, hR3, hG3⟩ | exact ⟨3, a3, n2 + 1, cap3, _, by omega, by go_num, rfl, by omega, strs_snoc hstr (by decide), R4, hR3, hG3⟩ | exact ⟨4, a3, n2 + 1, cap3, _, by omega, by go_num, rfl, by omega, strs_snoc hstr (by decide), R4, hR3, hG3⟩
          case measure => simp [intOf]
      · go_wp2
        go_roundw
        case rel => exact ⟨k + 1, a2, n2, cap2, lk, by omega, by go_num, rfl, by omega, hstr, R3, hR2, hG2⟩
        case measure => simp [intOf]; omega
    · obtain rfl : k = 4 := by omega
      go_wp2
      go_returns
      exact ⟨⟨a2, n2, cap2, lk, rfl, by omega, hstr, R2⟩, hR, hG⟩

set_option maxHeartbeats 1000000 in
set_option maxRecDepth 100000 in
theorem spec_DrawContent (a : Option Addr) (n cap : Nat) (w : World) (h : CodeAt w a n) (hn : n ≤ 1048576) :
    Calls Try.prog 38 #[.slice a n cap] w fun e w' => (∃ a1 n1 cap1 l1 a2 n2 cap2 l2, e = .returned (.tuple #[.slice a1 n1 cap1, .slice a2 n2 cap2]) ∧ n1 ≤ 6 ∧ PtsDrawn l1 ∧ ResAt Pt.cs 3 119 w' w.heap.size a1 n1 cap1 l1 ∧ n2 ≤ 4 ∧ Strs l2 ∧ ResAt Ex.cs 2 113 w' w.heap.size a2 n2 cap2 l2) ∧ Below w.heap.size w w' := by
  go_enter Try.func38, Try.ntmps38
  go_wp2_with fail
  refine (spec_l1Open a n cap _ h hn).mono ?_
  rintro e w1 ⟨rfl, hR1, hB1⟩
  have hlt := hR1.lt
  go_wp2_with fail
  refine (spec_parts w.heap.size 6 _ hR1 (by omega)).mono ?_
  rintro e w2 ⟨⟨a1, n1, cap1, l1, rfl, hn1, hd1, R1⟩, hR2, hg2⟩
  have hB2 := below_grown hB1 hg2 (Nat.le_refl _)
  go_wp2_with fail
  refine (spec_store w.heap.size _ hR2).mono ?_
  rintro e w3 ⟨⟨a2, n2, cap2, l2, rfl, hn2, hd2, R2⟩, hR3, hg3⟩
  have hB3 := below_grown hB2 hg3 (Nat.le_refl _)
  have R1' := R1.grown hg3 (fun ad had => by have := (R1.block ad had).1; omega)
  go_wp2
  go_returns
  exact ⟨⟨a1, n1, cap1, l1, a2, n2, cap2, l2, rfl, hn1, hd1, R1'.mono (by have := hB1.size; omega), hn2, hd2, R2.mono hB2.size⟩, hB3⟩
end Go.Proofs.Ytbjejnkeekndbaa
namespace Go.Proofs.Ytbjejnkeekndbaa
open Go.RowKit Go.BigFrame

theorem laws_bigC (a : Option Addr) (n cap : Nat) (w : World) (hn : n ≤ 9223372036854775807) :
    Calls Try.prog 16 #[.slice a n cap] w fun e w' => e = .returned (.bool (decide (1048576 < n))) ∧ w' = w := by
  go_enter Try.func16, Try.ntmps16
  go_wp2
  go_returns
  go_light
  refine ⟨ret_bool ?_, rfl⟩
  rw [Bool.eq_iff_iff]
  simp
  omega
end Go.Proofs.Ytbjejnkeekndbaa
