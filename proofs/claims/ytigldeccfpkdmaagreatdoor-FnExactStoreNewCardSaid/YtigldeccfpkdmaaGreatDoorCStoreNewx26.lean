/- The laws' marks of disks: written into them, and held against them. Marks of a disk. -/
import Derived.Test.YtigldeccfpkdmaaGreatDoorCStoreNewx25
namespace Go.Proofs.YtigldeccfpkdmaaGreatDoor
open Go.RowKit Go.BigFrame
/-- The slice holds the marks from k0 on. -/
def MarkF (w : World) (a : Option Addr) (n k0 : Nat) : Prop := ∀ j, j < n → ∃ b, a = some ⟨b, 0, none⟩ ∧ w.cell? ⟨b, j * 2, none⟩ = some (.string (markT (k0 + 2 * j))) ∧ w.cell? ⟨b, j * 2 + 1, none⟩ = some (.string (markT (k0 + 2 * j + 1)))
theorem MarkF.below {w w' : World} {a : Option Addr} {n k0 : Nat} (h : MarkF w a n k0) (hb : Below w.heap.size w w') : MarkF w' a n k0 := fun j hj => by
  obtain ⟨b, ha, c0, c1⟩ := h j hj
  exact ⟨b, ha, bcell hb c0, bcell hb c1⟩
theorem MarkF.off {w w' : World} {a : Option Addr} {n k0 : Nat} {row : Option Nat} (h : MarkF w a n k0) (hg : w.grownBy w' row) (hr : 0 < n → ∀ ad, a = some ad → some ad.block ≠ row) : MarkF w' a n k0 := fun j hj => by
  obtain ⟨b, ha, c0, c1⟩ := h j hj
  have hne := hr (by omega) _ ha
  exact ⟨b, ha, hg.cell c0 hne, hg.cell c1 hne⟩
set_option maxHeartbeats 2000000 in
set_option maxRecDepth 100000 in
theorem markMarkF_own (b n cap k0 : Nat) (c : Array Value) (w : World) (hb : Blk w b c 123) (hsz : n * 2 ≤ c.size) (hn : n ≤ 4194304) (hk0 : 1 ≤ k0 ∧ k0 ≤ 50000000) :
    Calls Tryz.prog 78 #[.slice (some ⟨b, 0, none⟩) n cap, .int .i64 ((k0 : Nat) : Int)] w fun e w' => e = .returned (.int .i64 ((k0 + 2 * n : Nat) : Int)) ∧ MarkF w' (some ⟨b, 0, none⟩) n k0 ∧ w.grownBy w' (some b) := by
  go_enter Tryz.func78, Tryz.ntmps78
  go_wp2_with fail
  go_loopw [1, 5] (fun kk ix wr => ∃ (k : Nat) (c' : Array Value), k ≤ n ∧ ix = .int .i64 k ∧ kk = .int .i64 ((k0 + 2 * k : Nat) : Int) ∧ Blk wr b c' 123 ∧ Hid (c'.size = c.size) ∧ Hid (∀ j, j < k → c'[j * 2]? = some (.string (markT (k0 + 2 * j))) ∧ c'[j * 2 + 1]? = some (.string (markT (k0 + 2 * j + 1)))) ∧ w.grownBy wr (some b)) (fun _ ix _ => n - (intOf ix).toNat)
  case atStart => exact ⟨0, c, Nat.zero_le _, rfl, rfl, hb, rfl, fun j hj => (by omega), World.grownBy.refl _ _⟩
  case round =>
    obtain ⟨k, c', hk, rfl, rfl, hblk, hcs, hcc, hg⟩ := hrel
    by_cases hlt : k < n
    · have hc3 : k * 2 + 1 < c'.size := by rw [hcs.out]; omega
      have hk1 : (k : Int) < n := by omega
      have hk2 : (0 : Int) ≤ k := by omega
      obtain ⟨KK, hKK⟩ : ∃ KK : Int, KK = ((k0 + 2 * k : Nat) : Int) := ⟨_, rfl⟩
      have hKh : Hid (KK = ((k0 + 2 * k : Nat) : Int)) := hKK
      rw [← hKK]
      have hK1 : 1 ≤ KK := by omega
      have hK2 : KK ≤ 70000000 := by omega
      clear hKK
      go_wp2_with fail
      refine (laws_markTextZ (k0 + 2 * k) _ (by have := hKh.out; omega) _ (by omega) (by omega)).mono ?_
      rintro e w1 ⟨rfl, hB1⟩
      have b1 := (hblk).below hB1
      have g1 := grown_below (hg) hB1
      obtain ⟨v0, y0⟩ := b1.has (i := k * 2) (by first | omega | (simp; omega))
      have f0 := b1.frozen (k * 2)
      go_wp2_with fail
      refine (laws_markTextZ (k0 + 2 * k + 1) _ (by have := hKh.out; omega) _ (by omega) (by omega)).mono ?_
      rintro e w2 ⟨rfl, hB2⟩
      have b2 := (b1.set (k * 2) (.string (markT (k0 + 2 * k)))).below hB2
      have g2 := grown_below (grown_set g1 (k * 2) (.string (markT (k0 + 2 * k)))) hB2
      obtain ⟨v1, y1⟩ := b2.has (i := k * 2 + 1) (by first | omega | (simp; omega))
      have f1 := b2.frozen (k * 2 + 1)
      go_wp2
      go_roundw
      case rel =>
        refine ⟨k + 1, _, by omega, by go_num, by (show Value.int IntKind.i64 _ = Value.int IntKind.i64 _; have := hKh.out; congr 1; omega), b2.set (k * 2 + 1) (.string (markT (k0 + 2 * k + 1))), by show _ = _; simp [hcs.out], ?_, grown_set g2 (k * 2 + 1) (.string (markT (k0 + 2 * k + 1)))⟩
        intro j hj
        have hcs' := hcs.out
        by_cases hjk : j = k
        · subst hjk
          refine ⟨?_, ?_⟩
          · rw [Array.getElem?_setIfInBounds_ne (by omega), Array.getElem?_setIfInBounds_self_of_lt (by first | omega | (simp; omega))]
          · rw [Array.getElem?_setIfInBounds_self_of_lt (by first | omega | (simp; omega))]
        · obtain ⟨r0, r1⟩ := hcc.out j (by omega)
          refine ⟨?_, ?_⟩
          all_goals (rw [Array.getElem?_setIfInBounds_ne (by omega), Array.getElem?_setIfInBounds_ne (by omega)]; assumption)
      case measure => simp [intOf]; omega
    · obtain rfl : k = n := by omega
      go_wp2
      go_returns
      go_light
      exact ⟨rfl, fun j hj => (by
        obtain ⟨r0, r1⟩ := hcc.out j hj
        exact ⟨b, rfl, by rw [hblk.cell]; exact r0, by rw [hblk.cell]; exact r1⟩), hg⟩
theorem markMarkF (B : Nat) (a : Option Addr) (n cap k0 : Nat) (l : List Fl) (w : World) (h : WrAt Fl.cs 2 123 w B a n cap l) (hn : n ≤ 4194304) (hk0 : 1 ≤ k0 ∧ k0 ≤ 50000000) :
    Calls Tryz.prog 78 #[.slice a n cap, .int .i64 ((k0 : Nat) : Int)] w fun e w' => e = .returned (.int .i64 ((k0 + 2 * n : Nat) : Int)) ∧ MarkF w' a n k0 ∧ w.grownBy w' (Value.ownBlock (.slice a n cap)) := by
  rcases h.own with ⟨rfl, rfl, rfl⟩ | ⟨b, c, rfl, _, hc, hs⟩
  · go_enter Tryz.func78, Tryz.ntmps78
    go_wp2_with fail
    go_rounds 1
    go_returns
    exact ⟨rfl, fun j hj => (by omega), World.grownBy.refl _ _⟩
  · exact markMarkF_own b n cap k0 c w hc hs hn hk0
set_option maxHeartbeats 2000000 in
set_option maxRecDepth 100000 in
theorem heldMarkF (a : Option Addr) (n cap k0 : Nat) (w : World) (h : MarkF w a n k0) (hn : n ≤ 4194304) (hk0 : 1 ≤ k0 ∧ k0 ≤ 50000000) :
    Calls Tryz.prog 149 #[.slice a n cap, .int .i64 ((k0 : Nat) : Int)] w fun e w' => e = .returned (.int .i64 ((k0 + 2 * n : Nat) : Int)) ∧ Below w.heap.size w w' := by
  go_enter Tryz.func149, Tryz.ntmps149
  go_wp2_with fail
  go_loopw [1, 5] (fun kk ix wr => ∃ (k : Nat), k ≤ n ∧ ix = .int .i64 k ∧ kk = .int .i64 ((k0 + 2 * k : Nat) : Int) ∧ Below w.heap.size w wr) (fun _ ix _ => n - (intOf ix).toNat)
  case atStart => exact ⟨0, Nat.zero_le _, rfl, rfl, Below.refl _ _⟩
  case round =>
    obtain ⟨k, hk, rfl, rfl, hB⟩ := hrel
    by_cases hlt : k < n
    · obtain ⟨b, rfl, c0, c1⟩ := h k hlt
      have hk3 : (k : Int) < n := by omega
      have hk4 : (0 : Int) ≤ k := by omega
      obtain ⟨KK, hKK⟩ : ∃ KK : Int, KK = ((k0 + 2 * k : Nat) : Int) := ⟨_, rfl⟩
      have hKh : Hid (KK = ((k0 + 2 * k : Nat) : Int)) := hKK
      rw [← hKK]
      have hK1 : 1 ≤ KK := by omega
      have hK2 : KK ≤ 70000000 := by omega
      clear hKK
      replace c0 := bcell hB c0
      replace c1 := bcell hB c1
      have e0 : (!((markT (k0 + 2 * k)).toList == (markT (k0 + 2 * k)).toList)) = false := by simp
      go_wp2_with fail
      have g0 := gcell c0
      have hne := grw_ne wr
      refine wp_region_grow (by kernel_rfl) (by kernel_rfl) ?_
      repeat (go_big_quiet_step (first | (go_at_call 109; exact grow_of (laws_markTextZ (k0 + 2 * k) (KK) (by have := hKh.out; omega) _ (by omega) (by omega)))))
      refine wpQuiet_nil ?_
      intro w2 hx
      have hB2 := grw_out hx
      clear hx g0 hne e0
      replace c1 := bcell hB2 c1
      have hC2 := chain hB hB2
      have e1 : (!((markT (k0 + 2 * k + 1)).toList == (markT (k0 + 2 * k + 1)).toList)) = false := by simp
      go_wp2_with fail
      have g1 := gcell c1
      have hne := grw_ne w2
      refine wp_region_grow (by kernel_rfl) (by kernel_rfl) ?_
      repeat (go_big_quiet_step (first | (go_at_call 109; exact grow_of (laws_markTextZ (k0 + 2 * k + 1) (KK + 1) (by have := hKh.out; omega) _ (by omega) (by omega)))))
      refine wpQuiet_nil ?_
      intro w3 hx
      have hB3 := grw_out hx
      clear hx g1 hne e1
      have hC3 := chain hC2 hB3
      go_wp2
      go_roundw
      case rel => exact ⟨k + 1, by omega, by go_num, by have := hKh.out; show Value.int IntKind.i64 _ = Value.int IntKind.i64 _; congr 1; omega, hC3⟩
      case measure => simp [intOf]; omega
    · obtain rfl : k = n := by omega
      go_wp2
      go_returns
      exact ⟨rfl, hB⟩
/-- The slice holds the marks from k0 on. -/
def MarkD (w : World) (a : Option Addr) (n k0 : Nat) : Prop := ∀ j, j < n → ∃ b, a = some ⟨b, 0, none⟩ ∧ w.cell? ⟨b, j * 4, none⟩ = some (.int .i64 ((k0 + 4 * j : Nat) : Int)) ∧ w.cell? ⟨b, j * 4 + 1, none⟩ = some (.string (markT (k0 + 4 * j + 1))) ∧ w.cell? ⟨b, j * 4 + 2, none⟩ = some (.string (markT (k0 + 4 * j + 2))) ∧ w.cell? ⟨b, j * 4 + 3, none⟩ = some (.string (markT (k0 + 4 * j + 3)))
theorem MarkD.below {w w' : World} {a : Option Addr} {n k0 : Nat} (h : MarkD w a n k0) (hb : Below w.heap.size w w') : MarkD w' a n k0 := fun j hj => by
  obtain ⟨b, ha, c0, c1, c2, c3⟩ := h j hj
  exact ⟨b, ha, bcell hb c0, bcell hb c1, bcell hb c2, bcell hb c3⟩
theorem MarkD.off {w w' : World} {a : Option Addr} {n k0 : Nat} {row : Option Nat} (h : MarkD w a n k0) (hg : w.grownBy w' row) (hr : 0 < n → ∀ ad, a = some ad → some ad.block ≠ row) : MarkD w' a n k0 := fun j hj => by
  obtain ⟨b, ha, c0, c1, c2, c3⟩ := h j hj
  have hne := hr (by omega) _ ha
  exact ⟨b, ha, hg.cell c0 hne, hg.cell c1 hne, hg.cell c2 hne, hg.cell c3 hne⟩
set_option maxHeartbeats 2000000 in
set_option maxRecDepth 100000 in
theorem markMarkD_own (b n cap k0 : Nat) (c : Array Value) (w : World) (hb : Blk w b c 120) (hsz : n * 4 ≤ c.size) (hn : n ≤ 4194304) (hk0 : 1 ≤ k0 ∧ k0 ≤ 50000000) :
    Calls Tryz.prog 79 #[.slice (some ⟨b, 0, none⟩) n cap, .int .i64 ((k0 : Nat) : Int)] w fun e w' => e = .returned (.int .i64 ((k0 + 4 * n : Nat) : Int)) ∧ MarkD w' (some ⟨b, 0, none⟩) n k0 ∧ w.grownBy w' (some b) := by
  go_enter Tryz.func79, Tryz.ntmps79
  go_wp2_with fail
  go_loopw [1, 5] (fun kk ix wr => ∃ (k : Nat) (c' : Array Value), k ≤ n ∧ ix = .int .i64 k ∧ kk = .int .i64 ((k0 + 4 * k : Nat) : Int) ∧ Blk wr b c' 120 ∧ Hid (c'.size = c.size) ∧ Hid (∀ j, j < k → c'[j * 4]? = some (.int .i64 ((k0 + 4 * j : Nat) : Int)) ∧ c'[j * 4 + 1]? = some (.string (markT (k0 + 4 * j + 1))) ∧ c'[j * 4 + 2]? = some (.string (markT (k0 + 4 * j + 2))) ∧ c'[j * 4 + 3]? = some (.string (markT (k0 + 4 * j + 3)))) ∧ w.grownBy wr (some b)) (fun _ ix _ => n - (intOf ix).toNat)
  case atStart => exact ⟨0, c, Nat.zero_le _, rfl, rfl, hb, rfl, fun j hj => (by omega), World.grownBy.refl _ _⟩
  case round =>
    obtain ⟨k, c', hk, rfl, rfl, hblk, hcs, hcc, hg⟩ := hrel
    by_cases hlt : k < n
    · have hc3 : k * 4 + 3 < c'.size := by rw [hcs.out]; omega
      have hk1 : (k : Int) < n := by omega
      have hk2 : (0 : Int) ≤ k := by omega
      obtain ⟨KK, hKK⟩ : ∃ KK : Int, KK = ((k0 + 4 * k : Nat) : Int) := ⟨_, rfl⟩
      have hKh : Hid (KK = ((k0 + 4 * k : Nat) : Int)) := hKK
      rw [← hKK]
      have hK1 : 1 ≤ KK := by omega
      have hK2 : KK ≤ 70000000 := by omega
      clear hKK
      obtain ⟨v0, y0⟩ := hblk.has (i := k * 4) (by omega)
      have f0 := hblk.frozen (k * 4)
      have hv : Hid (Value.int .i64 KK = .int .i64 ((k0 + 4 * k : Nat) : Int)) := by show _ = _; rw [hKh.out]
      go_wp2_with fail
      refine (laws_markTextZ (k0 + 4 * k + 1) _ (by have := hKh.out; omega) _ (by omega) (by omega)).mono ?_
      rintro e w2 ⟨rfl, hB2⟩
      have b2 := (hblk.set (k * 4) (.int .i64 KK)).below hB2
      have g2 := grown_below (grown_set hg (k * 4) (.int .i64 KK)) hB2
      obtain ⟨v1, y1⟩ := b2.has (i := k * 4 + 1) (by first | omega | (simp; omega))
      have f1 := b2.frozen (k * 4 + 1)
      go_wp2_with fail
      refine (laws_markTextZ (k0 + 4 * k + 2) _ (by have := hKh.out; omega) _ (by omega) (by omega)).mono ?_
      rintro e w3 ⟨rfl, hB3⟩
      have b3 := (b2.set (k * 4 + 1) (.string (markT (k0 + 4 * k + 1)))).below hB3
      have g3 := grown_below (grown_set g2 (k * 4 + 1) (.string (markT (k0 + 4 * k + 1)))) hB3
      obtain ⟨v2, y2⟩ := b3.has (i := k * 4 + 2) (by first | omega | (simp; omega))
      have f2 := b3.frozen (k * 4 + 2)
      go_wp2_with fail
      refine (laws_markTextZ (k0 + 4 * k + 3) _ (by have := hKh.out; omega) _ (by omega) (by omega)).mono ?_
      rintro e w4 ⟨rfl, hB4⟩
      have b4 := (b3.set (k * 4 + 2) (.string (markT (k0 + 4 * k + 2)))).below hB4
      have g4 := grown_below (grown_set g3 (k * 4 + 2) (.string (markT (k0 + 4 * k + 2)))) hB4
      obtain ⟨v3, y3⟩ := b4.has (i := k * 4 + 3) (by first | omega | (simp; omega))
      have f3 := b4.frozen (k * 4 + 3)
      go_wp2
      go_roundw
      case rel =>
        refine ⟨k + 1, _, by omega, by go_num, by (show Value.int IntKind.i64 _ = Value.int IntKind.i64 _; have := hKh.out; congr 1; omega), b4.set (k * 4 + 3) (.string (markT (k0 + 4 * k + 3))), by show _ = _; simp [hcs.out], ?_, grown_set g4 (k * 4 + 3) (.string (markT (k0 + 4 * k + 3)))⟩
        intro j hj
        have hcs' := hcs.out
        by_cases hjk : j = k
        · subst hjk
          refine ⟨?_, ?_, ?_, ?_⟩
          · rw [Array.getElem?_setIfInBounds_ne (by omega), Array.getElem?_setIfInBounds_ne (by omega), Array.getElem?_setIfInBounds_ne (by omega), Array.getElem?_setIfInBounds_self_of_lt (by first | omega | (simp; omega))]; rw [hv.out]
          · rw [Array.getElem?_setIfInBounds_ne (by omega), Array.getElem?_setIfInBounds_ne (by omega), Array.getElem?_setIfInBounds_self_of_lt (by first | omega | (simp; omega))]
          · rw [Array.getElem?_setIfInBounds_ne (by omega), Array.getElem?_setIfInBounds_self_of_lt (by first | omega | (simp; omega))]
          · rw [Array.getElem?_setIfInBounds_self_of_lt (by first | omega | (simp; omega))]
        · obtain ⟨r0, r1, r2, r3⟩ := hcc.out j (by omega)
          refine ⟨?_, ?_, ?_, ?_⟩
          all_goals (rw [Array.getElem?_setIfInBounds_ne (by omega), Array.getElem?_setIfInBounds_ne (by omega), Array.getElem?_setIfInBounds_ne (by omega), Array.getElem?_setIfInBounds_ne (by omega)]; assumption)
      case measure => simp [intOf]; omega
    · obtain rfl : k = n := by omega
      go_wp2
      go_returns
      go_light
      exact ⟨rfl, fun j hj => (by
        obtain ⟨r0, r1, r2, r3⟩ := hcc.out j hj
        exact ⟨b, rfl, by rw [hblk.cell]; exact r0, by rw [hblk.cell]; exact r1, by rw [hblk.cell]; exact r2, by rw [hblk.cell]; exact r3⟩), hg⟩
theorem markMarkD (B : Nat) (a : Option Addr) (n cap k0 : Nat) (l : List Dp) (w : World) (h : WrAt Dp.cs 4 120 w B a n cap l) (hn : n ≤ 4194304) (hk0 : 1 ≤ k0 ∧ k0 ≤ 50000000) :
    Calls Tryz.prog 79 #[.slice a n cap, .int .i64 ((k0 : Nat) : Int)] w fun e w' => e = .returned (.int .i64 ((k0 + 4 * n : Nat) : Int)) ∧ MarkD w' a n k0 ∧ w.grownBy w' (Value.ownBlock (.slice a n cap)) := by
  rcases h.own with ⟨rfl, rfl, rfl⟩ | ⟨b, c, rfl, _, hc, hs⟩
  · go_enter Tryz.func79, Tryz.ntmps79
    go_wp2_with fail
    go_rounds 1
    go_returns
    exact ⟨rfl, fun j hj => (by omega), World.grownBy.refl _ _⟩
  · exact markMarkD_own b n cap k0 c w hc hs hn hk0
set_option maxHeartbeats 2000000 in
set_option maxRecDepth 100000 in
theorem heldMarkD (a : Option Addr) (n cap k0 : Nat) (w : World) (h : MarkD w a n k0) (hn : n ≤ 4194304) (hk0 : 1 ≤ k0 ∧ k0 ≤ 50000000) :
    Calls Tryz.prog 150 #[.slice a n cap, .int .i64 ((k0 : Nat) : Int)] w fun e w' => e = .returned (.int .i64 ((k0 + 4 * n : Nat) : Int)) ∧ Below w.heap.size w w' := by
  go_enter Tryz.func150, Tryz.ntmps150
  go_wp2_with fail
  go_loopw [1, 5] (fun kk ix wr => ∃ (k : Nat), k ≤ n ∧ ix = .int .i64 k ∧ kk = .int .i64 ((k0 + 4 * k : Nat) : Int) ∧ Below w.heap.size w wr) (fun _ ix _ => n - (intOf ix).toNat)
  case atStart => exact ⟨0, Nat.zero_le _, rfl, rfl, Below.refl _ _⟩
  case round =>
    obtain ⟨k, hk, rfl, rfl, hB⟩ := hrel
    by_cases hlt : k < n
    · obtain ⟨b, rfl, c0, c1, c2, c3⟩ := h k hlt
      have hk3 : (k : Int) < n := by omega
      have hk4 : (0 : Int) ≤ k := by omega
      obtain ⟨KK, hKK⟩ : ∃ KK : Int, KK = ((k0 + 4 * k : Nat) : Int) := ⟨_, rfl⟩
      have hKh : Hid (KK = ((k0 + 4 * k : Nat) : Int)) := hKK
      rw [← hKK] at c0 ⊢
      have hK1 : 1 ≤ KK := by omega
      have hK2 : KK ≤ 70000000 := by omega
      clear hKK
      replace c0 := bcell hB c0
      replace c1 := bcell hB c1
      replace c2 := bcell hB c2
      replace c3 := bcell hB c3
      have e0 : (KK != KK) = false := by simp
      have e1 : (!((markT (k0 + 4 * k + 1)).toList == (markT (k0 + 4 * k + 1)).toList)) = false := by simp
      go_wp2_with fail
      have g1 := gcell c1
      have hne := grw_ne wr
      refine wp_region_grow (by kernel_rfl) (by kernel_rfl) ?_
      repeat (go_big_quiet_step (first | (go_at_call 109; exact grow_of (laws_markTextZ (k0 + 4 * k + 1) (KK + 1) (by have := hKh.out; omega) _ (by omega) (by omega)))))
      refine wpQuiet_nil ?_
      intro w3 hx
      have hB3 := grw_out hx
      clear hx g1 hne e1
      replace c2 := bcell hB3 c2
      replace c3 := bcell hB3 c3
      have hC3 := chain hB hB3
      have e2 : (!((markT (k0 + 4 * k + 2)).toList == (markT (k0 + 4 * k + 2)).toList)) = false := by simp
      go_wp2_with fail
      have g2 := gcell c2
      have hne := grw_ne w3
      refine wp_region_grow (by kernel_rfl) (by kernel_rfl) ?_
      repeat (go_big_quiet_step (first | (go_at_call 109; exact grow_of (laws_markTextZ (k0 + 4 * k + 2) (KK + 1 + 1) (by have := hKh.out; omega) _ (by omega) (by omega)))))
      refine wpQuiet_nil ?_
      intro w4 hx
      have hB4 := grw_out hx
      clear hx g2 hne e2
      replace c3 := bcell hB4 c3
      have hC4 := chain hC3 hB4
      have e3 : (!((markT (k0 + 4 * k + 3)).toList == (markT (k0 + 4 * k + 3)).toList)) = false := by simp
      go_wp2_with fail
      have g3 := gcell c3
      have hne := grw_ne w4
      refine wp_region_grow (by kernel_rfl) (by kernel_rfl) ?_
      repeat (go_big_quiet_step (first | (go_at_call 109; exact grow_of (laws_markTextZ (k0 + 4 * k + 3) (KK + 1 + 1 + 1) (by have := hKh.out; omega) _ (by omega) (by omega)))))
      refine wpQuiet_nil ?_
      intro w5 hx
      have hB5 := grw_out hx
      clear hx g3 hne e3
      have hC5 := chain hC4 hB5
      go_wp2
      go_roundw
      case rel => exact ⟨k + 1, by omega, by go_num, by have := hKh.out; show Value.int IntKind.i64 _ = Value.int IntKind.i64 _; congr 1; omega, hC5⟩
      case measure => simp [intOf]; omega
    · obtain rfl : k = n := by omega
      go_wp2
      go_returns
      exact ⟨rfl, hB⟩
end Go.Proofs.YtigldeccfpkdmaaGreatDoor
namespace Go.Proofs.YtigldeccfpkdmaaGreatDoor
open Go Go.RowKit Go.BigFrame
/-- All is as it was but what lies from B up to T. -/
structure FrD (B T : Nat) (w w' : World) : Prop where
  os : w'.os = w.os
  tape : w'.tape = w.tape
  output : w'.output = w.output
  size : w.heap.size ≤ w'.heap.size
  block : ∀ k, k < w.heap.size → (k < B ∨ T ≤ k) → w'.heap[k]? = w.heap[k]?
theorem FrD.of {B T : Nat} {w w' : World} (h : Below w.heap.size w w') : FrD B T w w' := ⟨h.os, h.tape, h.output, h.size, fun k hk _ => h.block k hk⟩
theorem FrD.grown {B T : Nat} {w w1 w2 : World} {row : Option Nat} (h : FrD B T w w1) (hg : w1.grownBy w2 row) (hr : ∀ k, row = some k → B ≤ k ∧ k < T) : FrD B T w w2 :=
  ⟨hg.os.trans h.os, hg.tape.trans h.tape, hg.output.trans h.output, Nat.le_trans h.size hg.size, fun k hk hkk => by
    rw [hg.block k (Nat.lt_of_lt_of_le hk h.size) (fun e => by have := hr k e.symm; omega)]
    exact h.block k hk hkk⟩
theorem FrD.low {B T B' : Nat} {w w' : World} (h : FrD B T w w') (hb : B' ≤ B) (hw : B' ≤ w.heap.size) : Below B' w w' := ⟨h.os, h.tape, h.output, h.size, fun k hk => h.block k (by omega) (.inl (by omega))⟩
theorem FrD.blk {B T : Nat} {w w' : World} (h : FrD B T w w') {k : Nat} {c : Array Value} {t : TypeId} (hk : Blk w k c t) (hh : k < B ∨ T ≤ k) : Blk w' k c t := by
  unfold Blk; rw [h.block k hk.lt hh]; exact hk
/-- Its lists lie from B up to T. -/
def InB (B T : Nat) (v : Value) : Prop := ∀ la ln lc sa sn sc oa on oc, v = .agg #[.slice la ln lc, .slice sa sn sc, .slice oa on oc] → (∀ ad, la = some ad → B ≤ ad.block ∧ ad.block < T) ∧ (∀ ad, sa = some ad → B ≤ ad.block ∧ ad.block < T) ∧ ∀ ad, oa = some ad → B ≤ ad.block ∧ ad.block < T
theorem DiskW.inB {B : Nat} {w : World} {v : Value} {d : Dk} (h : DiskW B w v d) : InB B w.heap.size v := by
  obtain ⟨la, ln, lc, sa, sn, sc, oa, on, oc, hv, h1, h2, h3, _⟩ := h
  intro la' ln' lc' sa' sn' sc' oa' on' oc' e
  rw [hv] at e
  cases e
  exact ⟨h1.block, h2.block, h3.block⟩
theorem own_in {B T : Nat} {a : Option Addr} {n cap : Nat} (h : ∀ ad, a = some ad → B ≤ ad.block ∧ ad.block < T) : ∀ k, Value.ownBlock (.slice a n cap) = some k → B ≤ k ∧ k < T := by
  intro k hk
  cases a with
  | none => simp [Value.ownBlock] at hk
  | some ad => have := h ad rfl; simp [Value.ownBlock] at hk; omega
theorem wr_rowTy {α : Type} {cs : α → List Value} {sz : Nat} {t : TypeId} {w : World} {B n cap : Nat} {a : Option Addr} {l : List α} (h : WrAt cs sz t w B a n cap l) {m k : Nat} : RowTy w (Value.ownBlock (.slice a m k)) t := by
  rcases h.own with ⟨rfl, _⟩ | ⟨b, c, rfl, _, hc, _⟩
  · intro k e; simp [Value.ownBlock] at e
  · intro k e; simp [Value.ownBlock] at e; subst e; exact ⟨c, hc⟩
theorem WrAt.ty {α : Type} {cs : α → List Value} {sz : Nat} {t t' : TypeId} {w w' : World} {B n cap : Nat} {a : Option Addr} {l : List α} {row : Option Nat} (h : WrAt cs sz t w B a n cap l) (hg : w.grownBy w' row) (hr : RowTy w row t') (ht : t ≠ t') : WrAt cs sz t w' B a n cap l := by
  refine h.off hg (fun ad e hc => ?_)
  obtain ⟨c', h'⟩ := hr _ hc.symm
  rcases h.own with ⟨h0, _⟩ | ⟨b, c, ha, _, hb, _⟩
  · rw [h0] at e; cases e
  · rw [ha] at e; cases e; exact ht (blk_type hb h')
theorem WrAt.ne {α β : Type} {cs : α → List Value} {cs' : β → List Value} {sz sz' : Nat} {t t' : TypeId} {w : World} {B n cap B' n' cap' : Nat} {a a' : Option Addr} {l : List α} {l' : List β} (h : WrAt cs sz t w B a n cap l) (h' : WrAt cs' sz' t' w B' a' n' cap' l') (ht : t ≠ t') : ∀ ad ad', a = some ad → a' = some ad' → ad.block ≠ ad'.block := by
  intro ad ad' e e' hh
  rcases h.own with ⟨h0, _⟩ | ⟨b, c, ha, _, hb, _⟩
  · rw [h0] at e; cases e
  · rcases h'.own with ⟨h0, _⟩ | ⟨b', c', ha', _, hb', _⟩
    · rw [h0] at e'; cases e'
    · rw [ha] at e; rw [ha'] at e'
      cases e; cases e'
      simp only at hh
      subst hh
      exact ht (blk_type hb hb')
def markN (d : Dk) : Nat := 1 + 2 * d.live.length + 2 * d.safe.length + 4 * d.ops.length
/-- The disk holds its marks. -/
def MarkDk (w : World) (v : Value) (d : Dk) : Prop := ∃ la ln lc sa sn sc oa on oc, v = .agg #[.slice la ln lc, .slice sa sn sc, .slice oa on oc] ∧ (d.live.length = ln ∧ d.safe.length = sn ∧ d.ops.length = on) ∧ MarkF w la ln 1 ∧ MarkF w sa sn (1 + 2 * ln) ∧ MarkD w oa on (1 + 2 * ln + 2 * sn)
theorem MarkDk.below {w w' : World} {v : Value} {d : Dk} (h : MarkDk w v d) (hb : Below w.heap.size w w') : MarkDk w' v d := by
  obtain ⟨la, ln, lc, sa, sn, sc, oa, on, oc, hv, h0, h1, h2, h3⟩ := h
  exact ⟨la, ln, lc, sa, sn, sc, oa, on, oc, hv, h0, h1.below hb, h2.below hb, h3.below hb⟩
set_option maxHeartbeats 4000000 in
set_option maxRecDepth 100000 in
theorem laws_markDisk (B T : Nat) (v : Value) (d : Dk) (w : World) (h : DiskW B w v d) (hi : InB B T v) (hT : T ≤ w.heap.size) (hn : d.live.length ≤ 4194304 ∧ d.safe.length ≤ 4194304 ∧ d.ops.length ≤ 4194304) :
    Calls Tryz.prog 25 #[v, .int .i64 1] w fun e w' => e = .returned (.int .i64 ((markN d : Nat) : Int)) ∧ MarkDk w' v d ∧ FrD B T w w' := by
  obtain ⟨la, ln, lc, sa, sn, sc, oa, on, oc, rfl, h1, h2, h3, hsep⟩ := h
  obtain ⟨i1, i2, i3⟩ := hi _ _ _ _ _ _ _ _ _ rfl
  rw [h1.sl.len, h2.sl.len, h3.sl.len] at hn
  obtain ⟨n1, n2, n3⟩ := hn
  have hd1 := h1.ne h3 (by decide)
  have hd2 := h2.ne h3 (by decide)
  have hmk : Hid (markN d = 1 + 2 * ln + 2 * sn + 4 * on) := by show _ = _; unfold markN; rw [h1.sl.len, h2.sl.len, h3.sl.len]
  have hl : Hid (d.live.length = ln ∧ d.safe.length = sn ∧ d.ops.length = on) := ⟨h1.sl.len, h2.sl.len, h3.sl.len⟩
  have hA : Below w.heap.size w (w.alloc (.cells #[.slice la ln lc, .slice sa sn sc, .slice oa on oc] 52)) := (Below.refl _ _).alloc (Nat.le_refl _) _
  have C := Blk.new w #[.slice la ln lc, .slice sa sn sc, .slice oa on oc] 52
  have F0 : FrD B T w (w.alloc (.cells #[.slice la ln lc, .slice sa sn sc, .slice oa on oc] 52)) := FrD.of hA
  replace h1 := h1.below hA
  replace h2 := h2.below hA
  replace h3 := h3.below hA
  go_enter Tryz.func25, Tryz.ntmps25
  go_wp2_with fail
  generalize w.alloc (.cells #[.slice la ln lc, .slice sa sn sc, .slice oa on oc] 52) = W0 at *
  refine (markMarkF B la ln lc 1 d.live W0 h1 n1 (by omega)).mono ?_
  rintro e w1 ⟨rfl, M1, hg1⟩
  have F1 := F0.grown hg1 (own_in i1)
  have C1 := C.grownO hg1 (own_ne2 fun ad e => by have := i1 ad e; omega)
  replace h2 := h2.off hg1 (fun ad e => own_ne2 fun ad' e' => fun hh => hsep ad' ad e' e hh.symm)
  replace h3 := h3.ty hg1 (wr_rowTy h1) (by decide)
  obtain ⟨c0, c1, c2⟩ := C1.three
  clear h1 hA F0 C hg1
  obtain ⟨K1, hK1⟩ : ∃ K1 : Nat, K1 = 1 + 2 * ln := ⟨_, rfl⟩
  rw [← hK1]
  have hKH : Hid (K1 = 1 + 2 * ln) := hK1
  clear hK1
  go_wp2_with fail
  refine (markMarkF B sa sn sc K1 d.safe w1 h2 n2 (by have := hKH.out; omega)).mono ?_
  rintro e w2 ⟨rfl, M2, hg2⟩
  have F2 := F1.grown hg2 (own_in i2)
  have C2 := C1.grownO hg2 (own_ne2 fun ad e => by have := i2 ad e; omega)
  replace M1 := M1.off hg2 (fun _ ad e => own_ne2 fun ad' e' => hsep ad ad' e e')
  replace h3 := h3.ty hg2 (wr_rowTy h2) (by decide)
  have hty2 := h3
  clear h2 hg2 F1 C1 c0 c1 c2
  obtain ⟨c0, c1, c2⟩ := C2.three
  obtain ⟨K2, hK2⟩ : ∃ K2 : Nat, K2 = K1 + 2 * sn := ⟨_, rfl⟩
  rw [← hK2]
  have hKH2 : Hid (K2 = K1 + 2 * sn) := hK2
  clear hK2
  go_wp2_with fail
  refine (markMarkD B oa on oc K2 d.ops w2 h3 n3 (by have := hKH.out; have := hKH2.out; omega)).mono ?_
  rintro e w3 ⟨rfl, M3, hg3⟩
  have F3 := F2.grown hg3 (own_in i3)
  replace M1 := M1.off hg3 (fun _ ad e => own_ne2 fun ad' e' => hd1 ad ad' e e')
  replace M2 := M2.off hg3 (fun _ ad e => own_ne2 fun ad' e' => hd2 ad ad' e e')
  clear h3 hg3 F2 C2 c0 c1 c2 hty2
  have hend : Hid (((K2 + 4 * on : Nat) : Int) = ((markN d : Nat) : Int)) := by show _ = _; rw [hmk.out]; have := hKH.out; have := hKH2.out; omega
  rw [hKH2.out, hKH.out] at M3
  rw [hKH.out] at M2
  generalize ((K2 + 4 * on : Nat) : Int) = KE at *
  go_wp2
  go_returns
  exact ⟨by rw [hend.out] <;> rfl, ⟨la, ln, lc, sa, sn, sc, oa, on, oc, rfl, hl.out, M1, M2, M3⟩, F3⟩
set_option maxHeartbeats 4000000 in
set_option maxRecDepth 100000 in
theorem laws_heldDisk (v : Value) (d : Dk) (w : World) (h : MarkDk w v d) (hn : d.live.length ≤ 4194304 ∧ d.safe.length ≤ 4194304 ∧ d.ops.length ≤ 4194304) :
    Calls Tryz.prog 85 #[v, .int .i64 1] w fun e w' => e = .returned (.int .i64 ((markN d : Nat) : Int)) ∧ Below w.heap.size w w' := by
  obtain ⟨la, ln, lc, sa, sn, sc, oa, on, oc, rfl, ⟨l1, l2, l3⟩, M1, M2, M3⟩ := h
  rw [l1, l2, l3] at hn
  obtain ⟨n1, n2, n3⟩ := hn
  have hmk : Hid (markN d = 1 + 2 * ln + 2 * sn + 4 * on) := by show _ = _; unfold markN; rw [l1, l2, l3]
  have hA : Below w.heap.size w (w.alloc (.cells #[.slice la ln lc, .slice sa sn sc, .slice oa on oc] 52)) := (Below.refl _ _).alloc (Nat.le_refl _) _
  have C := Blk.new w #[.slice la ln lc, .slice sa sn sc, .slice oa on oc] 52
  go_enter Tryz.func85, Tryz.ntmps85
  go_wp2_with fail
  generalize w.alloc (.cells #[.slice la ln lc, .slice sa sn sc, .slice oa on oc] 52) = W0 at *
  refine (heldMarkF la ln lc 1 W0 (M1.below hA) n1 (by omega)).mono ?_
  rintro e w1 ⟨rfl, hB1⟩
  replace C := C.below hB1
  replace hB1 := chain hA hB1
  obtain ⟨c0, c1, c2⟩ := C.three
  obtain ⟨K1, hK1⟩ : ∃ K1 : Nat, K1 = 1 + 2 * ln := ⟨_, rfl⟩
  rw [← hK1]
  rw [← hK1] at M2 M3
  have hKH : Hid (K1 = 1 + 2 * ln) := hK1
  have hp1 : ¬ ((K1 : Nat) : Int) < 0 := by omega
  clear hK1
  go_wp2_with fail
  refine (heldMarkF sa sn sc K1 w1 (M2.below hB1) n2 (by have := hKH.out; omega)).mono ?_
  rintro e w2 ⟨rfl, hB2⟩
  replace C := C.below hB2
  replace hB2 := chain hB1 hB2
  clear c0 c1 c2 hp1
  obtain ⟨c0, c1, c2⟩ := C.three
  obtain ⟨K2, hK2⟩ : ∃ K2 : Nat, K2 = K1 + 2 * sn := ⟨_, rfl⟩
  rw [← hK2]
  rw [← hK2] at M3
  have hKH2 : Hid (K2 = K1 + 2 * sn) := hK2
  have hp1 : ¬ ((K2 : Nat) : Int) < 0 := by omega
  clear hK2
  go_wp2_with fail
  refine (heldMarkD oa on oc K2 w2 (M3.below hB2) n3 (by have := hKH.out; have := hKH2.out; omega)).mono ?_
  rintro e w3 ⟨rfl, hB3⟩
  replace hB3 := chain hB2 hB3
  clear c0 c1 c2 hp1
  obtain ⟨KE, hKE⟩ : ∃ KE : Int, KE = ((K2 + 4 * on : Nat) : Int) := ⟨_, rfl⟩
  rw [← hKE]
  have hend : Hid (KE = ((markN d : Nat) : Int)) := by show _ = _; rw [hKE, hmk.out]; have := hKH.out; have := hKH2.out; omega
  have hp1 : ¬ KE < 0 := by omega
  clear hKE
  go_wp2
  go_returns
  exact ⟨by rw [hend.out] <;> rfl, hB3⟩
end Go.Proofs.YtigldeccfpkdmaaGreatDoor
