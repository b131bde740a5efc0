/- What Flushed is tried at. -/
import Derived.Test.YtbjejnkeekndbaaKv
import Derived.Deep.RegionLaw
namespace Go.Proofs.Ytbjejnkeekndbaa
open Go.RowKit Go.BigFrame

theorem lit4 (m : Int) {y : Nat} (hy : y < 4) : ∃ s : Int, (#[.int .i64 2, .int .i64 1, .int .i64 (-1), .int .i64 m] : Array Value)[y]? = some (.int .i64 s) := by
  rcases (show y = 0 ∨ y = 1 ∨ y = 2 ∨ y = 3 by omega) with rfl | rfl | rfl | rfl <;> exact ⟨_, rfl⟩

theorem lit4v {m s : Int} {y : Nat} (hy : y < 4) (hs : (#[.int .i64 2, .int .i64 1, .int .i64 (-1), .int .i64 m] : Array Value)[y]? = some (.int .i64 s)) : ([.int .i64 2, .int .i64 1, .int .i64 (-1), .int .i64 m] : List Value)[y]'(by simpa using hy) = .int .i64 s := by
  rcases (show y = 0 ∨ y = 1 ∨ y = 2 ∨ y = 3 by omega) with rfl | rfl | rfl | rfl <;> simpa using hs

theorem lit4w {m s : Int} {y : Nat} (hw : Hid (IntKind.i64.wrap m = m)) (hs : (#[.int .i64 2, .int .i64 1, .int .i64 (-1), .int .i64 m] : Array Value)[y]? = some (.int .i64 s)) : (#[.int .i64 2, .int .i64 1, .int .i64 (-1), .int .i64 (IntKind.i64.wrap m)] : Array Value)[y]? = some (.int .i64 s) := by
  rw [hw.out]; exact hs

theorem lit_cell (wr : World) (lit : Array Value) (t : TypeId) (y : Nat) (v : Value) (hs : lit[y]? = some v) : (wr.alloc (.cells lit t)).drew.cell? ⟨wr.heap.size, y, none⟩ = some v := by
  have : (wr.alloc (.cells lit t)).cell? ⟨wr.heap.size, y, none⟩ = some v := by rw [World.cell?_alloc_new]; exact hs
  exact this

theorem below_lit {B : Nat} {w2 wr u : World} {a3 : Option Addr} {n3 cap3 : Nat} {l3 : List Ct} {b i0 i1 i2 i3 : Nat} {v0 v1 v2 v3 : Value} (hR : Rd wr B) (hu : Below wr.heap.size wr u) (hG : w2.grownBy wr (some B)) (hw2 : B < w2.heap.size) (R3 : ResAt Ct.cs 4 66 wr w2.heap.size a3 n3 cap3 l3)
    (c0 : wr.cell? ⟨b, i0, none⟩ = some v0) (c1 : wr.cell? ⟨b, i1, none⟩ = some v1) (c2 : wr.cell? ⟨b, i2, none⟩ = some v2) (c3 : wr.cell? ⟨b, i3, none⟩ = some v3) (hb : b ≠ B) :
    Calls Try.prog 82 #[.pointer (some ⟨B, 0, none⟩), .int .i64 4] u fun e w5 => ∃ y : Nat, e = .returned (.int .i64 y) ∧ y < 4 ∧ Rd w5 B ∧ w2.grownBy w5 (some B) ∧ ResAt Ct.cs 4 66 w5 w2.heap.size a3 n3 cap3 l3 ∧
      w5.cell? ⟨b, i0, none⟩ = some v0 ∧ w5.cell? ⟨b, i1, none⟩ = some v1 ∧ w5.cell? ⟨b, i2, none⟩ = some v2 ∧ w5.cell? ⟨b, i3, none⟩ = some v3 ∧ u.heap.size ≤ w5.heap.size ∧ (∀ bb i v, u.cell? ⟨bb, i, none⟩ = some v → bb ≠ B → w5.cell? ⟨bb, i, none⟩ = some v) := by
  have hne : some b ≠ some B := by simpa using hb
  refine (spec_belowN B 4 u (hR.below hu) (by omega) (by omega)).mono ?_
  rintro e w5 ⟨⟨y, rfl, hy⟩, hR5, hg5⟩
  exact ⟨y, rfl, by omega, hR5, grown_trans (grown_below hG hu) hg5, (R3.below hu).grown hg5 (fun ad had => by have := (R3.block ad had).1; omega), hg5.cell (bcell hu c0) hne, hg5.cell (bcell hu c1) hne, hg5.cell (bcell hu c2) hne, hg5.cell (bcell hu c3) hne, hg5.size, fun bb i v hv hbb => hg5.cell hv (by simpa using hbb)⟩

set_option maxHeartbeats 2000000 in
set_option maxRecDepth 100000 in
theorem spec_DrawFlushed (a : Option Addr) (n cap : Nat) (w : World) (h : CodeAt w a n) (hn : n ≤ 1048576) :
    Calls Try.prog 55 #[.slice a n cap] w fun e w' => (∃ a1 n1 cap1 l1 a2 n2 cap2 l2, e = .returned (.tuple #[.slice a1 n1 cap1, .slice a2 n2 cap2]) ∧ n1 ≤ 8 ∧ CtsDrawn l1 ∧ ResAt Ct.cs 4 66 w' w.heap.size a1 n1 cap1 l1 ∧ n2 ≤ 12 ∧ CtsDrawn l2 ∧ ResAt Ct.cs 4 66 w' w.heap.size a2 n2 cap2 l2) ∧ Below w.heap.size w w' := by
  obtain ⟨i0, hi, hz0, hz1, hz2⟩ := info_parts infoC
  go_enter Try.func55, Try.ntmps55
  go_wp2_with fail
  refine (spec_l1Open a n cap _ h hn).mono ?_
  rintro e w1 ⟨rfl, hR1, hB1⟩
  have hlt := hR1.lt
  go_wp2_with fail
  refine (spec_refs w.heap.size 8 _ hR1 (by omega)).mono ?_
  rintro e w2 ⟨⟨a1, n1, cap1, l1, rfl, hn1, hd1, hb1, R1⟩, hR2, hg2⟩
  have hB2 := below_grown hB1 hg2 (Nat.le_refl _)
  have hrow1 : ∀ ad, a1 = some ad → ad.block ≠ w.heap.size := fun ad had => by have := (R1.block ad had).1; omega
  go_wp2_with fail
  refine (spec_late w.heap.size 4 _ hR2 (by omega)).mono ?_
  rintro e w3 ⟨⟨a2, n2, cap2, l2, rfl, hn2, hd2, R2⟩, hR3, hg3⟩
  have hB3 := below_grown hB2 hg3 (Nat.le_refl _)
  have hb1w2 := fun ad had => (R1.block ad had).2
  have R3 := R1.grown hg3 hrow1
  have hrow2 : ∀ ad, a2 = some ad → ad.block ≠ w.heap.size := fun ad had => by have := (R2.block ad had).1; have := hB2.size; have := hR2.lt; omega
  go_wp2_with fail
  refine (spec_once w.heap.size 2 _ hR3 (by omega) (by omega)).mono ?_
  rintro e w4 ⟨⟨v, rfl⟩, hR4, hg4⟩
  have hB4 := below_grown hB3 hg4 (Nat.le_refl _)
  have R4 := R3.grown hg4 hrow1
  have R5 := R2.grown hg4 hrow2
  cases v
  · go_wp2
    go_returns
    exact ⟨⟨a1, n1, cap1, l1, a2, n2, cap2, l2, rfl, hn1, hd1, R4.mono hB1.size, by omega, hd2, R5.mono hB2.size⟩, hB4⟩
  · have hg14 := grown_trans hg3 hg4
    clear hR3 hg3 hg4 R2 R3 R4
    go_wp2_with fail
    go_loopw [6, 7] (fun out ix wr => ∃ (k : Nat) (a3 : Option Addr) (n3 cap3 : Nat) (l3 : List Ct), k ≤ n1 ∧ ix = .int .i64 k ∧ out = .slice a3 n3 cap3 ∧ n3 ≤ 4 + k ∧ CtsDrawn l3 ∧ ResAt Ct.cs 4 66 wr w2.heap.size a3 n3 cap3 l3 ∧ Rd wr w.heap.size ∧ w2.grownBy wr (some w.heap.size)) (fun _ ix _ => n1 - (intOf ix).toNat)
    case atStart => exact ⟨0, a2, n2, cap2, l2, Nat.zero_le _, rfl, rfl, by omega, hd2, R5, hR4, hg14⟩
    case round =>
      clear R5 hR4 hg14 hB4 hB3
      obtain ⟨k, a3, n3, cap3, l3, hk, rfl, rfl, hn3, hd3, R3, hR, hG⟩ := hrel
      have hBr := below_grown hB2 hG (Nat.le_refl _)
      by_cases hlt1 : k < n1
      · obtain ⟨b, o, p, rfl, hp, c0, c1, c2, c3⟩ := cts_at (R1.grown hG hrow1).sl hlt1
        have hp1 := hd1 p (List.mem_of_getElem? hp)
        have hp2 := hb1 p (List.mem_of_getElem? hp)
        have hbb := hb1w2 _ rfl
        have hbn := hrow1 _ rfl
        have hk1 : (k : Int) < n1 := by omega
        have hk2 : (0 : Int) ≤ k := by omega
        have hsz := hG.size
        have hw2 := hR2.lt
        simp only at hbb hbn
        clear hp
        have hwr : Hid (IntKind.i64.wrap (-p.n) = -p.n) := by show _ = _; rw [IntKind.wrap_i64]; omega
        have ca0 := fun ob => acell (w := wr) ob c0
        have ca1 := fun ob => acell (w := wr) ob c1
        have ca2 := fun ob => acell (w := wr) ob c2
        have ca3 := fun ob => acell (w := wr) ob c3
        have hne2 : wr.heap.size ≠ w.heap.size := by omega
        go_wp2_with fail
        go_region_law (first | (refine step_app rfl (wp_app _ _ 58 rfl w2.heap.size 66 i0 (.agg #[.int .i64 0, .int .i64 0, .string .empty, .int .i64 0]) 40 Try.underlying58 hi hz0 hz1 hz2 rfl (by decide) ccs_len ccs_one a3 n3 cap3 l3 rfl (R5.below (by go_grown)) _ 1 1 [(⟨p.o, s⟩ : Ct)] rfl (by first | exact sl_newC _ (⟨p.o, s⟩ : Ct) _ _ (by first | rfl | simp) | exact (sl_newC _ (⟨p.o, s⟩ : Ct) _ _ (by first | rfl | simp)).drew) (fun ad h => (by cases h; rfl)) (fun h => (by cases h)) (n3 + 1) rfl (by unfold maxLen; omega) (by omega) (by first | omega | (simp; omega)) ?_); intro a4 cap4 w6 R6 hg6; have e0 := hg6.cell (a := ⟨b, o + k * 4, none⟩) (by first | exact acell _ d0 | exact acell _ (acell _ d0)) (own_ne' (fun ad had => (R5.block ad had).1) hbb); have e1 := hg6.cell (a := ⟨b, o + k * 4 + 1, none⟩) (by first | exact acell _ d1 | exact acell _ (acell _ d1)) (own_ne' (fun ad had => (R5.block ad had).1) hbb); have e2 := hg6.cell (a := ⟨b, o + k * 4 + 2, none⟩) (by first | exact acell _ d2 | exact acell _ (acell _ d2)) (own_ne' (fun ad had => (R5.block ad had).1) hbb); have e3 := hg6.cell (a := ⟨b, o + k * 4 + 3, none⟩) (by first | exact acell _ d3 | exact acell _ (acell _ d3)) (own_ne' (fun ad had => (R5.block ad had).1) hbb)) | (go_wp2_with fail; refine (below_lit hR (by go_grown) hG hw2 R3 c0 c1 c2 c3 hbn).mono ?_; rintro e w5 ⟨y, rfl, hy, hR5, hG5, R5, d0, d1, d2, d3, hs5, hkeep⟩; obtain ⟨s, hs⟩ := lit4 (-p.n) hy; have hs' := lit4w hwr hs; have da0 := fun ob => acell (w := w5) ob d0; have da1 := fun ob => acell (w := w5) ob d1; have da2 := fun ob => acell (w := w5) ob d2; have da3 := fun ob => acell (w := w5) ob d3; have hy4 : (y : Int) < 4 := (by omega); have hsz5 : w2.heap.size ≤ w5.heap.size := hG5.size; (first | (have zl := hkeep wr.heap.size y (.int .i64 s) (lit_cell _ _ _ y _ hs) hne2; clear hs hs' hkeep) | (have zl := hkeep wr.heap.size y (.int .i64 s) (lit_cell _ _ _ y _ hs') hne2; clear hs hs' hkeep) | (have hv := lit4v hy hs; have hv' := lit4v hy hs'; clear hs hs' hkeep)); dsimp only))
        all_goals have hge : ∀ j, Value.ownBlock (.slice a3 n3 cap3) = some j → w2.heap.size ≤ j := own_ge fun ad had => (R5.block ad had).1
        all_goals have hR6 := (hR5.below (by go_grown)).grownO hg6 (fun j hj => by have := hge j hj; omega)
        all_goals have hG6 := grown_row (grown_below hG5 (by go_grown)) hg6 hge
        all_goals go_wp2
        all_goals go_roundw
        all_goals first | exact ⟨k + 1, a4, n3 + 1, cap4, _, by omega, by go_num, rfl, by omega, drawn_snoc hd3 hp1 s, R6, hR6, hG6⟩ | (simp [intOf]; omega)
      · obtain rfl : k = n1 := by omega
        go_wp2
        go_returns
        exact ⟨⟨a1, k, cap1, l1, a3, n3, cap3, l3, rfl, hn1, hd1, (R1.grown hG hrow1).mono hB1.size, by omega, hd3, R3.mono hB2.size⟩, hBr⟩
end Go.Proofs.Ytbjejnkeekndbaa
