/- The laws' marks of extents: written into a slice, and held against it. -/
import Derived.Test.YtbmkedickkpjjaaProg
import Derived.Test.YtbmkedickkpjjaaMt
import Derived.Test.YtbmkedickkpjjaaMk
import Derived.Test.YtbmkedickkpjjaaYc
namespace Go.Proofs.Ytbmkedickkpjjaa
open Go.RowKit Go.BigFrame

/-- The slice holds the marks from k on. -/
def MarkE (w : World) (a : Option Addr) (n : Nat) : Prop := ∀ j, j < n → ∃ b, a = some ⟨b, 0, none⟩ ∧ w.cell? ⟨b, j * 2, none⟩ = some (.int .i64 (1 + 2 * (j : Int))) ∧ w.cell? ⟨b, j * 2 + 1, none⟩ = some (.string (markT (2 + 2 * j)))

theorem MarkE.below {w w' : World} {a : Option Addr} {n : Nat} (h : MarkE w a n) (hb : Below w.heap.size w w') : MarkE w' a n := fun j hj => by
  obtain ⟨b, ha, hc, hd⟩ := h j hj
  exact ⟨b, ha, bcell hb hc, bcell hb hd⟩

theorem laws_markTextZ (k : Nat) (x : Int) (hx : x = k) (w : World) (h1 : 1 ≤ k) (h2 : k ≤ 100000000) :
    Calls Try.prog 152 #[.int .i64 x] w fun e w' => e = .returned (.string (markT k)) ∧ Below w.heap.size w w' := by
  subst hx; exact laws_markText k w h1 h2

set_option maxHeartbeats 1000000 in
set_option maxRecDepth 100000 in
theorem markE_own (b n cap : Nat) (c : Array Value) (w : World) (hb : Blk w b c 125) (hsz : n * 2 ≤ c.size) (hn : n ≤ 4194304) :
    Calls Try.prog 85 #[.slice (some ⟨b, 0, none⟩) n cap, .int .i64 1] w fun e w' => e = .returned (.int .i64 (1 + 2 * (n : Int))) ∧ MarkE w' (some ⟨b, 0, none⟩) n ∧ w.grownBy w' (some b) := by
  go_enter Try.func85, Try.ntmps85
  go_wp2_with fail
  go_loopw [1, 5] (fun kk ix wr => ∃ (k : Nat) (c' : Array Value), k ≤ n ∧ ix = .int .i64 k ∧ kk = .int .i64 (1 + 2 * (k : Int)) ∧ Blk wr b c' 125 ∧ Hid (c'.size = c.size) ∧ Hid (∀ j, j < k → c'[j * 2]? = some (.int .i64 (1 + 2 * (j : Int))) ∧ c'[j * 2 + 1]? = some (.string (markT (2 + 2 * j)))) ∧ w.grownBy wr (some b)) (fun _ ix _ => n - (intOf ix).toNat)
  case atStart => exact ⟨0, c, Nat.zero_le _, rfl, rfl, hb, rfl, fun j hj => (by omega), World.grownBy.refl _ _⟩
  case round =>
    obtain ⟨k, c', hk, rfl, rfl, hblk, hcs, hcc, hg⟩ := hrel
    by_cases hlt : k < n
    · have hc3 : k * 2 + 1 < c'.size := by rw [hcs.out]; omega
      obtain ⟨v0, y0⟩ := hblk.has (i := k * 2) (by omega)
      have f0 := hblk.frozen (k * 2)
      go_wp2_with fail
      refine (laws_markTextZ (2 + 2 * k) _ (by omega) _ (by omega) (by omega)).mono ?_
      rintro e w1 ⟨rfl, hB1⟩
      have hb1 := (hblk.set (k * 2) (.int .i64 (1 + 2 * (k : Int)))).below hB1
      have hg1 := grown_below (grown_set hg (k * 2) (.int .i64 (1 + 2 * (k : Int)))) hB1
      clear hB1 y0 f0
      obtain ⟨v1, y1⟩ := hb1.has (i := k * 2 + 1) (by simp; omega)
      have f1 := hb1.frozen (k * 2 + 1)
      go_wp2
      go_roundw
      case rel =>
        refine ⟨k + 1, _, by omega, by go_num, ?_, hb1.set (k * 2 + 1) (.string (markT (2 + 2 * k))), by show _ = _; simp [hcs.out], ?_, grown_set hg1 _ _⟩
        · show Value.int IntKind.i64 _ = Value.int IntKind.i64 _
          congr 1 <;> omega
        · intro j hj
          by_cases hjk : j = k
          · subst hjk
            refine ⟨?_, ?_⟩
            · rw [Array.getElem?_setIfInBounds_ne (by omega), Array.getElem?_setIfInBounds_self_of_lt (by omega)]
            · rw [Array.getElem?_setIfInBounds_self_of_lt (by simp; omega)]
          · obtain ⟨r0, r1⟩ := hcc.out j (by omega)
            refine ⟨?_, ?_⟩
            all_goals (rw [Array.getElem?_setIfInBounds_ne (by omega), Array.getElem?_setIfInBounds_ne (by omega)]; assumption)
      case measure => simp [intOf]; omega
    · obtain rfl : k = n := by omega
      go_wp2
      go_returns
      go_light
      exact ⟨rfl, fun j hj => ⟨b, rfl, by rw [hblk.cell]; exact (hcc.out j hj).1, by rw [hblk.cell]; exact (hcc.out j hj).2⟩, hg⟩

theorem markE_res (B : Nat) (a : Option Addr) (n cap : Nat) (l : List Ex) (w : World) (h : ResAt Ex.cs 2 125 w B a n cap l) (hn : n ≤ 4194304) :
    Calls Try.prog 85 #[.slice a n cap, .int .i64 1] w fun e w' => e = .returned (.int .i64 (1 + 2 * (n : Int))) ∧ MarkE w' a n ∧ w.grownBy w' (rowB a) := by
  rcases h.own with ⟨rfl, rfl, rfl⟩ | ⟨b, rfl, _, hnc, _, c, hc, hs, _⟩
  · go_enter Try.func85, Try.ntmps85
    go_wp2_with fail
    go_rounds 1
    go_returns
    exact ⟨rfl, fun j hj => (by omega), World.grownBy.refl _ _⟩
  · exact markE_own b n cap c w hc (by rw [hs]; omega) hn

set_option maxHeartbeats 1000000 in
set_option maxRecDepth 100000 in
theorem heldE (a : Option Addr) (n cap : Nat) (w : World) (h : MarkE w a n) (hn : n ≤ 4194304) :
    Calls Try.prog 88 #[.slice a n cap, .int .i64 1] w fun e w' => e = .returned (.int .i64 (1 + 2 * (n : Int))) ∧ Below w.heap.size w w' := by
  go_enter Try.func88, Try.ntmps88
  go_wp2_with fail
  go_loopw [1, 5] (fun kk ix wr => ∃ (k : Nat), k ≤ n ∧ ix = .int .i64 k ∧ kk = .int .i64 (1 + 2 * (k : Int)) ∧ Below w.heap.size w wr) (fun _ ix _ => n - (intOf ix).toNat)
  case atStart => exact ⟨0, Nat.zero_le _, rfl, rfl, Below.refl _ _⟩
  case round =>
    obtain ⟨k, hk, rfl, rfl, hB⟩ := hrel
    by_cases hlt : k < n
    · obtain ⟨b, rfl, c0, c1⟩ := h k hlt
      replace c0 := bcell hB c0
      replace c1 := bcell hB c1
      generalize hkk : (1 + 2 * (k : Int)) = kk at *
      have hk1 : 0 ≤ kk := by omega
      have hk2 : kk ≤ 100000000 := by omega
      have hkh : Hid (1 + 2 * (k : Int) = kk) := hkk
      clear hkk
      have hk3 : (k : Int) < n := by omega
      have hk4 : (0 : Int) ≤ k := by omega
      have e0 : (kk != kk) = false := by simp
      have e1 : (!((markT (2 + 2 * k)).toList == (markT (2 + 2 * k)).toList)) = false := by simp
      go_wp2_with fail
      have g0 := gcell c0
      have g1 := gcell c1
      have hne := grw_ne wr
      refine wp_region_grow (by kernel_rfl) (by kernel_rfl) ?_
      repeat (go_big_quiet_step (first | (go_at_call 152; exact grow_of (laws_markTextZ (2 + 2 * k) (kk + 1) (by have := hkh.out; omega) _ (by omega) (by omega)))))
      refine wpQuiet_nil ?_
      intro w2 hx
      have hB2 := grw_out hx
      clear hx
      go_wp2
      go_roundw
      case rel => exact ⟨k + 1, by omega, by go_num, by have := hkh.out; show Value.int IntKind.i64 _ = Value.int IntKind.i64 _; congr 1; omega, chain hB hB2⟩
      case measure => simp [intOf]; omega
    · obtain rfl : k = n := by omega
      go_wp2
      go_returns
      exact ⟨rfl, hB⟩
end Go.Proofs.Ytbmkedickkpjjaa
