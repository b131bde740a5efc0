/- The laws' marks of counts: written into a slice, and held against it. -/
import Derived.Test.YtllbojcjdpelnaaGreatProg
import Derived.Test.YtllbojcjdpelnaaGreatMz
import Derived.Test.YtllbojcjdpelnaaGreatKi
import Derived.Test.YtllbojcjdpelnaaGreatKt
namespace Go.Proofs.YtllbojcjdpelnaaGreat
open Go.RowKit Go.BigFrame

/-- The slice holds the marks. -/
def MarkC (w : World) (a : Option Addr) (n : Nat) : Prop := ∀ j, j < n → ∃ b, a = some ⟨b, 0, none⟩ ∧ w.cell? ⟨b, j * 4, none⟩ = some (.int .i64 (1 + 4 * (j : Int))) ∧ w.cell? ⟨b, j * 4 + 1, none⟩ = some (.int .i64 (1 + 4 * (j : Int) + 1)) ∧ w.cell? ⟨b, j * 4 + 2, none⟩ = some (.string (markT (3 + 4 * j))) ∧ w.cell? ⟨b, j * 4 + 3, none⟩ = some (.int .i64 (1 + 4 * (j : Int) + 1 + 1 + 1))

theorem MarkC.below {w w' : World} {a : Option Addr} {n : Nat} (h : MarkC w a n) (hb : Below w.heap.size w w') : MarkC w' a n := fun j hj => by
  obtain ⟨b, ha, h0, h1, h2, h3⟩ := h j hj
  exact ⟨b, ha, bcell hb h0, bcell hb h1, bcell hb h2, bcell hb h3⟩

set_option maxHeartbeats 2000000 in
set_option maxRecDepth 100000 in
theorem markC_own (b n cap : Nat) (c : Array Value) (w : World) (hb : Blk w b c 70) (hsz : n * 4 ≤ c.size) (hn : n ≤ 4194304) :
    Calls Tryz.prog 17 #[.slice (some ⟨b, 0, none⟩) n cap, .int .i64 1] w fun e w' => e = .returned (.int .i64 (1 + 4 * (n : Int))) ∧ MarkC w' (some ⟨b, 0, none⟩) n ∧ w.grownBy w' (some b) := by
  go_enter Tryz.func17, Tryz.ntmps17
  go_wp2_with fail
  go_loopw [1, 5] (fun kk ix wr => ∃ (k : Nat) (c' : Array Value), k ≤ n ∧ ix = .int .i64 k ∧ kk = .int .i64 (1 + 4 * (k : Int)) ∧ Blk wr b c' 70 ∧ Hid (c'.size = c.size) ∧ Hid (∀ j, j < k → c'[j * 4]? = some (.int .i64 (1 + 4 * (j : Int))) ∧ c'[j * 4 + 1]? = some (.int .i64 (1 + 4 * (j : Int) + 1)) ∧ c'[j * 4 + 2]? = some (.string (markT (3 + 4 * j))) ∧ c'[j * 4 + 3]? = some (.int .i64 (1 + 4 * (j : Int) + 1 + 1 + 1))) ∧ w.grownBy wr (some b)) (fun _ ix _ => n - (intOf ix).toNat)
  case atStart => exact ⟨0, c, Nat.zero_le _, rfl, rfl, hb, rfl, fun j hj => (by omega), World.grownBy.refl _ _⟩
  case round =>
    obtain ⟨k, c', hk, rfl, rfl, hblk, hcs, hcc, hg⟩ := hrel
    by_cases hlt : k < n
    · have hc3 : k * 4 + 3 < c'.size := by rw [hcs.out]; omega
      obtain ⟨v0, y0⟩ := hblk.has (i := k * 4) (by omega)
      obtain ⟨v1, y1⟩ := hblk.has (i := k * 4 + 1) (by omega)
      have f0 := hblk.frozen (k * 4)
      have f1 := hblk.frozen (k * 4 + 1)
      go_wp2_with fail
      refine (laws_markTextZ (3 + 4 * k) _ (by omega) _ (by omega) (by omega)).mono ?_
      rintro e w1 ⟨rfl, hB1⟩
      have hb1 := ((hblk.set (k * 4) (.int .i64 (1 + 4 * (k : Int)))).set (k * 4 + 1) (.int .i64 (1 + 4 * (k : Int) + 1))).below hB1
      have hg1 := grown_below (grown_set (grown_set hg (k * 4) (.int .i64 (1 + 4 * (k : Int)))) (k * 4 + 1) (.int .i64 (1 + 4 * (k : Int) + 1))) hB1
      clear hB1 y0 f0 y1 f1
      obtain ⟨v2, y2⟩ := hb1.has (i := k * 4 + 2) (by simp; omega)
      obtain ⟨v3, y3⟩ := hb1.has (i := k * 4 + 3) (by simp; omega)
      have f2 := hb1.frozen (k * 4 + 2)
      have f3 := hb1.frozen (k * 4 + 3)
      go_wp2
      go_roundw
      case rel =>
        refine ⟨k + 1, _, by omega, by go_num, ?_, (hb1.set (k * 4 + 2) (.string (markT (3 + 4 * k)))).set (k * 4 + 3) (.int .i64 (1 + 4 * (k : Int) + 1 + 1 + 1)), by show _ = _; simp [hcs.out], ?_, grown_set (grown_set hg1 _ _) _ _⟩
        · show Value.int IntKind.i64 _ = Value.int IntKind.i64 _
          congr 1 <;> omega
        · intro j hj
          by_cases hjk : j = k
          · subst hjk
            refine ⟨?_, ?_, ?_, ?_⟩
            all_goals (simp [Array.getElem?_setIfInBounds]; omega)
          · obtain ⟨r0, r1, r2, r3⟩ := hcc.out j (by omega)
            refine ⟨?_, ?_, ?_, ?_⟩
            all_goals (rw [Array.getElem?_setIfInBounds_ne (by omega), Array.getElem?_setIfInBounds_ne (by omega), Array.getElem?_setIfInBounds_ne (by omega), Array.getElem?_setIfInBounds_ne (by omega)]; assumption)
      case measure => simp [intOf]; omega
    · obtain rfl : k = n := by omega
      go_wp2
      go_returns
      go_light
      exact ⟨rfl, fun j hj => ⟨b, rfl, by rw [hblk.cell]; exact (hcc.out j hj).1, by rw [hblk.cell]; exact (hcc.out j hj).2.1, by rw [hblk.cell]; exact (hcc.out j hj).2.2.1, by rw [hblk.cell]; exact (hcc.out j hj).2.2.2⟩, hg⟩

theorem markC_res (B : Nat) (a : Option Addr) (n cap : Nat) (l : List Ct) (w : World) (h : ResAt Ct.cs 4 70 w B a n cap l) (hn : n ≤ 4194304) :
    Calls Tryz.prog 17 #[.slice a n cap, .int .i64 1] w fun e w' => e = .returned (.int .i64 (1 + 4 * (n : Int))) ∧ MarkC w' a n ∧ w.grownBy w' (rowB a) := by
  rcases h.own with ⟨rfl, rfl, rfl⟩ | ⟨b, rfl, _, hnc, _, c, hc, hs, _⟩
  · go_enter Tryz.func17, Tryz.ntmps17
    go_wp2_with fail
    go_rounds 1
    go_returns
    exact ⟨rfl, fun j hj => (by omega), World.grownBy.refl _ _⟩
  · exact markC_own b n cap c w hc (by rw [hs]; omega) hn

set_option maxHeartbeats 2000000 in
set_option maxRecDepth 100000 in
theorem heldC (a : Option Addr) (n cap : Nat) (w : World) (h : MarkC w a n) (hn : n ≤ 4194304) :
    Calls Tryz.prog 18 #[.slice a n cap, .int .i64 1] w fun e w' => e = .returned (.int .i64 (1 + 4 * (n : Int))) ∧ Below w.heap.size w w' := by
  go_enter Tryz.func18, Tryz.ntmps18
  go_wp2_with fail
  go_loopw [1, 5] (fun kk ix wr => ∃ (k : Nat), k ≤ n ∧ ix = .int .i64 k ∧ kk = .int .i64 (1 + 4 * (k : Int)) ∧ Below w.heap.size w wr) (fun _ ix _ => n - (intOf ix).toNat)
  case atStart => exact ⟨0, Nat.zero_le _, rfl, rfl, Below.refl _ _⟩
  case round =>
    obtain ⟨k, hk, rfl, rfl, hB⟩ := hrel
    by_cases hlt : k < n
    · obtain ⟨b, rfl, c0, c1, c2, c3⟩ := h k hlt
      replace c0 := bcell hB c0
      replace c1 := bcell hB c1
      replace c2 := bcell hB c2
      replace c3 := bcell hB c3
      generalize hkk : (1 + 4 * (k : Int)) = kk at *
      have hk1 : 0 ≤ kk := by omega
      have hk2 : kk ≤ 100000000 := by omega
      have hkh : Hid (1 + 4 * (k : Int) = kk) := hkk
      clear hkk
      have hk3 : (k : Int) < n := by omega
      have hk4 : (0 : Int) ≤ k := by omega
      have e0 : (kk != kk) = false := by simp
      have e1 : (kk + 1 != kk + 1) = false := by simp
      have e3 : (kk + 1 + 1 + 1 != kk + 1 + 1 + 1) = false := by simp
      have e2 : (!((markT (3 + 4 * k)).toList == (markT (3 + 4 * k)).toList)) = false := by simp
      go_wp2_with fail
      have g0 := gcell c0
      have g1 := gcell c1
      have g2 := gcell c2
      have g3 := gcell c3
      have hne := grw_ne wr
      refine wp_region_grow (by kernel_rfl) (by kernel_rfl) ?_
      repeat (go_big_quiet_step (first | (go_at_call 48; exact grow_of (laws_markTextZ (3 + 4 * k) (kk + 1 + 1) (by have := hkh.out; omega) _ (by omega) (by omega)))))
      refine wpQuiet_nil ?_
      intro w2 hx
      have hB2 := grw_out hx
      have d3 := bcell hB2 c3
      clear hx
      go_wp2
      go_roundw
      case rel => exact ⟨k + 1, by omega, by go_num, by have := hkh.out; show Value.int IntKind.i64 _ = Value.int IntKind.i64 _; congr 1; omega, chain hB hB2⟩
      case measure => simp [intOf]; omega
    · obtain rfl : k = n := by omega
      go_wp2
      go_returns
      exact ⟨rfl, hB⟩
end Go.Proofs.YtllbojcjdpelnaaGreat
