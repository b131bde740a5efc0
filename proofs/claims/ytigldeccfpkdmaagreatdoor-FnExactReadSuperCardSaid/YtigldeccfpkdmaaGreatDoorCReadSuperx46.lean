/- A contract of the library, laid at this program. The laws' marks of parts, extents and counts: written from a number on, and held. -/
import Derived.Test.YtigldeccfpkdmaaGreatDoorProg
import Derived.Shelf.Strings.Cut
import Derived.Test.YtigldeccfpkdmaaGreatDoorCReadSuperx31
import Derived.Test.YtigldeccfpkdmaaGreatDoorCReadSuperx17
namespace Go.Proofs.YtigldeccfpkdmaaGreatDoor
open Go.Shelf Go.RowKit Go.Lib
def cuL_ren : Go.Shelf.Ren := ⟨fun | 145 => 66 | 220 => 132 | 219 => 191 | 217 => 222 | 225 => 223 | 224 => 224 | 267 => 225 | 266 => 251 | 314 => 252 | n => n, fun | 9 => 9 | 4 => 4 | 59 => 70 | 3 => 3 | 5 => 5 | 46 => 172 | 146 => 304 | 51 => 98 | n => n, fun | 1 => 1 | n => n⟩
set_option maxRecDepth 100000 in
theorem cuL : Lays.n145 Tryz.prog cuL_ren where
  mixed := by kernel_rfl
  f145 := Tryz.func66.trans (congrArg some (by kernel_rfl))
  f217 := Tryz.func222.trans (congrArg some (by kernel_rfl))
  f219 := Tryz.func191.trans (congrArg some (by kernel_rfl))
  f220 := Tryz.func132.trans (congrArg some (by kernel_rfl))
  f224 := Tryz.func224.trans (congrArg some (by kernel_rfl))
  f225 := Tryz.func223.trans (congrArg some (by kernel_rfl))
  f266 := Tryz.func251.trans (congrArg some (by kernel_rfl))
  f267 := Tryz.func225.trans (congrArg some (by kernel_rfl))
  f314 := Tryz.func252.trans (congrArg some (by kernel_rfl))
  t3 := Tryz.underlying3
  a3 := Tryz.isAgg3
  z3 := Tryz.sizeOf3
  v3 := Tryz.zeroValue3
  t4 := Tryz.underlying4
  a4 := Tryz.isAgg4
  z4 := Tryz.sizeOf4
  v4 := Tryz.zeroValue4
  t5 := Tryz.underlying5
  a5 := Tryz.isAgg5
  z5 := Tryz.sizeOf5
  v5 := Tryz.zeroValue5
  t9 := Tryz.underlying9
  a9 := Tryz.isAgg9
  z9 := Tryz.sizeOf9
  v9 := Tryz.zeroValue9
  t46 := Tryz.underlying172
  a46 := Tryz.isAgg172
  z46 := Tryz.sizeOf172
  v46 := Tryz.zeroValue172
  t51 := Tryz.underlying98
  a51 := Tryz.isAgg98
  z51 := Tryz.sizeOf98
  v51 := Tryz.zeroValue98
  t59 := Tryz.underlying70
  a59 := Tryz.isAgg70
  z59 := Tryz.sizeOf70
  v59 := Tryz.zeroValue70
  t146 := Tryz.underlying304
  a146 := Tryz.isAgg304
  z146 := Tryz.sizeOf304
  v146 := Tryz.zeroValue304
  g1 := by kernel_rfl
end Go.Proofs.YtigldeccfpkdmaaGreatDoor
namespace Go.Proofs.YtigldeccfpkdmaaGreatDoor
open Go.RowKit Go.BigFrame
/-- The slice holds the marks from k0 on. -/
def MkP (w : World) (a : Option Addr) (n k0 : Nat) : Prop := ∀ j, j < n → ∃ b, a = some ⟨b, 0, none⟩ ∧ w.cell? ⟨b, j * 3, none⟩ = some (.int .i64 ((k0 + 3 * j : Nat) : Int)) ∧ w.cell? ⟨b, j * 3 + 1, none⟩ = some (.int .i64 ((k0 + 3 * j + 1 : Nat) : Int)) ∧ w.cell? ⟨b, j * 3 + 2, none⟩ = some (.int .i64 ((k0 + 3 * j + 2 : Nat) : Int))
theorem MkP.below {w w' : World} {a : Option Addr} {n k0 : Nat} (h : MkP w a n k0) (hb : Below w.heap.size w w') : MkP w' a n k0 := fun j hj => by
  obtain ⟨b, ha, c0, c1, c2⟩ := h j hj
  exact ⟨b, ha, bcell hb c0, bcell hb c1, bcell hb c2⟩
theorem MkP.off {w w' : World} {a : Option Addr} {n k0 : Nat} {row : Option Nat} (h : MkP w a n k0) (hg : w.grownBy w' row) (hr : 0 < n → ∀ ad, a = some ad → some ad.block ≠ row) : MkP w' a n k0 := fun j hj => by
  obtain ⟨b, ha, c0, c1, c2⟩ := h j hj
  have hne := hr (by omega) _ ha
  exact ⟨b, ha, hg.cell c0 hne, hg.cell c1 hne, hg.cell c2 hne⟩
set_option maxHeartbeats 2000000 in
set_option maxRecDepth 100000 in
theorem markMkP_own (b n cap k0 : Nat) (c : Array Value) (w : World) (hb : Blk w b c tP) (hsz : n * 3 ≤ c.size) (hn : n ≤ 4194304) (hk0 : 1 ≤ k0 ∧ k0 ≤ 50000000) :
    Calls Tryz.prog 173 #[.slice (some ⟨b, 0, none⟩) n cap, .int .i64 ((k0 : Nat) : Int)] w fun e w' => e = .returned (.int .i64 ((k0 + 3 * n : Nat) : Int)) ∧ MkP w' (some ⟨b, 0, none⟩) n k0 ∧ w.grownBy w' (some b) := by
  go_enter Tryz.func173, Tryz.ntmps173
  go_wp2_with fail
  go_loopw [1, 5] (fun kk ix wr => ∃ (k : Nat) (c' : Array Value), k ≤ n ∧ ix = .int .i64 k ∧ kk = .int .i64 ((k0 + 3 * k : Nat) : Int) ∧ Blk wr b c' tP ∧ Hid (c'.size = c.size) ∧ Hid (∀ j, j < k → c'[j * 3]? = some (.int .i64 ((k0 + 3 * j : Nat) : Int)) ∧ c'[j * 3 + 1]? = some (.int .i64 ((k0 + 3 * j + 1 : Nat) : Int)) ∧ c'[j * 3 + 2]? = some (.int .i64 ((k0 + 3 * j + 2 : Nat) : Int))) ∧ w.grownBy wr (some b)) (fun _ ix _ => n - (intOf ix).toNat)
  case atStart => exact ⟨0, c, Nat.zero_le _, rfl, rfl, hb, rfl, fun j hj => (by omega), World.grownBy.refl _ _⟩
  case round =>
    obtain ⟨k, c', hk, rfl, rfl, hblk, hcs, hcc, hg⟩ := hrel
    by_cases hlt : k < n
    · have hc3 : k * 3 + 2 < c'.size := by rw [hcs.out]; omega
      have hk1 : (k : Int) < n := by omega
      have hk2 : (0 : Int) ≤ k := by omega
      obtain ⟨KK, hKK⟩ : ∃ KK : Int, KK = ((k0 + 3 * k : Nat) : Int) := ⟨_, rfl⟩
      have hKh : Hid (KK = ((k0 + 3 * k : Nat) : Int)) := hKK
      rw [← hKK]
      have hK1 : 1 ≤ KK := by omega
      have hK2 : KK ≤ 70000000 := by omega
      clear hKK
      obtain ⟨v0, y0⟩ := hblk.has (i := k * 3) (by first | omega | (simp; omega))
      have f0 := hblk.frozen (k * 3)
      have hv0 : Hid (Value.int .i64 (KK) = .int .i64 ((k0 + 3 * k : Nat) : Int)) := by show Value.int .i64 _ = Value.int .i64 _; first | (rw [hKh.out]; done) | (have := hKh.out; congr 1; omega)
      obtain ⟨v1, y1⟩ := hblk.has (i := k * 3 + 1) (by first | omega | (simp; omega))
      have f1 := hblk.frozen (k * 3 + 1)
      have hv1 : Hid (Value.int .i64 (KK + 1) = .int .i64 ((k0 + 3 * k + 1 : Nat) : Int)) := by show Value.int .i64 _ = Value.int .i64 _; first | (rw [hKh.out]; done) | (have := hKh.out; congr 1; omega)
      obtain ⟨v2, y2⟩ := hblk.has (i := k * 3 + 2) (by first | omega | (simp; omega))
      have f2 := hblk.frozen (k * 3 + 2)
      have hv2 : Hid (Value.int .i64 (KK + 1 + 1) = .int .i64 ((k0 + 3 * k + 2 : Nat) : Int)) := by show Value.int .i64 _ = Value.int .i64 _; first | (rw [hKh.out]; done) | (have := hKh.out; congr 1; omega)
      go_wp2
      go_roundw
      case rel =>
        refine ⟨k + 1, _, by omega, by go_num, by (show Value.int IntKind.i64 _ = Value.int IntKind.i64 _; have := hKh.out; congr 1; omega), (((hblk).set (k * 3) (.int .i64 (KK))).set (k * 3 + 1) (.int .i64 (KK + 1))).set (k * 3 + 2) (.int .i64 (KK + 1 + 1)), by show _ = _; simp [hcs.out], ?_, grown_set (grown_set (grown_set (hg) (k * 3) (.int .i64 (KK))) (k * 3 + 1) (.int .i64 (KK + 1))) (k * 3 + 2) (.int .i64 (KK + 1 + 1))⟩
        intro j hj
        have hcs' := hcs.out
        by_cases hjk : j = k
        · subst hjk
          refine ⟨?_, ?_, ?_⟩
          · rw [Array.getElem?_setIfInBounds_ne (by omega), Array.getElem?_setIfInBounds_ne (by omega), Array.getElem?_setIfInBounds_self_of_lt (by first | omega | (simp; omega))]; rw [hv0.out]
          · rw [Array.getElem?_setIfInBounds_ne (by omega), Array.getElem?_setIfInBounds_self_of_lt (by first | omega | (simp; omega))]; rw [hv1.out]
          · rw [Array.getElem?_setIfInBounds_self_of_lt (by first | omega | (simp; omega))]; rw [hv2.out]
        · obtain ⟨r0, r1, r2⟩ := hcc.out j (by omega)
          refine ⟨?_, ?_, ?_⟩
          all_goals (rw [Array.getElem?_setIfInBounds_ne (by omega), Array.getElem?_setIfInBounds_ne (by omega), Array.getElem?_setIfInBounds_ne (by omega)]; assumption)
      case measure => simp [intOf]; omega
    · obtain rfl : k = n := by omega
      go_wp2
      go_returns
      go_light
      exact ⟨rfl, fun j hj => (by
        obtain ⟨r0, r1, r2⟩ := hcc.out j hj
        exact ⟨b, rfl, by rw [hblk.cell]; exact r0, by rw [hblk.cell]; exact r1, by rw [hblk.cell]; exact r2⟩), hg⟩
theorem markMkP (B : Nat) (a : Option Addr) (n cap k0 : Nat) (l : List Pt) (w : World) (h : ResAt Pt.cs 3 tP w B a n cap l) (hn : n ≤ 4194304) (hk0 : 1 ≤ k0 ∧ k0 ≤ 50000000) :
    Calls Tryz.prog 173 #[.slice a n cap, .int .i64 ((k0 : Nat) : Int)] w fun e w' => e = .returned (.int .i64 ((k0 + 3 * n : Nat) : Int)) ∧ MkP w' a n k0 ∧ w.grownBy w' (Value.ownBlock (.slice a n cap)) := by
  rcases h.own with ⟨rfl, rfl, rfl⟩ | ⟨b, rfl, _, hnc, _, c, hc, hs0, _⟩
  · go_enter Tryz.func173, Tryz.ntmps173
    go_wp2_with fail
    go_rounds 1
    go_returns
    exact ⟨rfl, fun j hj => (by omega), World.grownBy.refl _ _⟩
  · exact markMkP_own b n cap k0 c w hc (by rw [hs0]; exact Nat.mul_le_mul_right _ hnc) hn hk0
set_option maxHeartbeats 2000000 in
set_option maxRecDepth 100000 in
theorem heldMkP (a : Option Addr) (n cap k0 : Nat) (w : World) (h : MkP w a n k0) (hn : n ≤ 4194304) (hk0 : 1 ≤ k0 ∧ k0 ≤ 50000000) :
    Calls Tryz.prog 174 #[.slice a n cap, .int .i64 ((k0 : Nat) : Int)] w fun e w' => e = .returned (.int .i64 ((k0 + 3 * n : Nat) : Int)) ∧ Below w.heap.size w w' := by
  go_enter Tryz.func174, Tryz.ntmps174
  go_wp2_with fail
  go_loopw [1, 5] (fun kk ix wr => ∃ (k : Nat), k ≤ n ∧ ix = .int .i64 k ∧ kk = .int .i64 ((k0 + 3 * k : Nat) : Int) ∧ Below w.heap.size w wr) (fun _ ix _ => n - (intOf ix).toNat)
  case atStart => exact ⟨0, Nat.zero_le _, rfl, rfl, Below.refl _ _⟩
  case round =>
    obtain ⟨k, hk, rfl, rfl, hB⟩ := hrel
    by_cases hlt : k < n
    · obtain ⟨b, rfl, c0, c1, c2⟩ := h k hlt
      have hk3 : (k : Int) < n := by omega
      have hk4 : (0 : Int) ≤ k := by omega
      obtain ⟨KK, hKK⟩ : ∃ KK : Int, KK = ((k0 + 3 * k : Nat) : Int) := ⟨_, rfl⟩
      have hKh : Hid (KK = ((k0 + 3 * k : Nat) : Int)) := hKK
      rw [← hKK]
      have hK1 : 1 ≤ KK := by omega
      have hK2 : KK ≤ 70000000 := by omega
      rw [show ((k0 + 3 * k : Nat) : Int) = KK by omega] at c0
      have e0 : (KK != KK) = false := by simp
      rw [show ((k0 + 3 * k + 1 : Nat) : Int) = KK + 1 by omega] at c1
      have e1 : (KK + 1 != KK + 1) = false := by simp
      rw [show ((k0 + 3 * k + 2 : Nat) : Int) = KK + 1 + 1 by omega] at c2
      have e2 : (KK + 1 + 1 != KK + 1 + 1) = false := by simp
      clear hKK
      replace c0 := bcell hB c0
      replace c1 := bcell hB c1
      replace c2 := bcell hB c2
      go_wp2
      go_roundw
      case rel => exact ⟨k + 1, by omega, by go_num, by have := hKh.out; show Value.int IntKind.i64 _ = Value.int IntKind.i64 _; congr 1; omega, hB⟩
      case measure => simp [intOf]; omega
    · obtain rfl : k = n := by omega
      go_wp2
      go_returns
      exact ⟨rfl, hB⟩
/-- The slice holds the marks from k0 on. -/
def MkE (w : World) (a : Option Addr) (n k0 : Nat) : Prop := ∀ j, j < n → ∃ b, a = some ⟨b, 0, none⟩ ∧ w.cell? ⟨b, j * 2, none⟩ = some (.int .i64 ((k0 + 2 * j : Nat) : Int)) ∧ w.cell? ⟨b, j * 2 + 1, none⟩ = some (.string (markT (k0 + 2 * j + 1)))
theorem MkE.below {w w' : World} {a : Option Addr} {n k0 : Nat} (h : MkE w a n k0) (hb : Below w.heap.size w w') : MkE w' a n k0 := fun j hj => by
  obtain ⟨b, ha, c0, c1⟩ := h j hj
  exact ⟨b, ha, bcell hb c0, bcell hb c1⟩
theorem MkE.off {w w' : World} {a : Option Addr} {n k0 : Nat} {row : Option Nat} (h : MkE w a n k0) (hg : w.grownBy w' row) (hr : 0 < n → ∀ ad, a = some ad → some ad.block ≠ row) : MkE w' a n k0 := fun j hj => by
  obtain ⟨b, ha, c0, c1⟩ := h j hj
  have hne := hr (by omega) _ ha
  exact ⟨b, ha, hg.cell c0 hne, hg.cell c1 hne⟩
set_option maxHeartbeats 2000000 in
set_option maxRecDepth 100000 in
theorem markMkE_own (b n cap k0 : Nat) (c : Array Value) (w : World) (hb : Blk w b c tE) (hsz : n * 2 ≤ c.size) (hn : n ≤ 4194304) (hk0 : 1 ≤ k0 ∧ k0 ≤ 50000000) :
    Calls Tryz.prog 45 #[.slice (some ⟨b, 0, none⟩) n cap, .int .i64 ((k0 : Nat) : Int)] w fun e w' => e = .returned (.int .i64 ((k0 + 2 * n : Nat) : Int)) ∧ MkE w' (some ⟨b, 0, none⟩) n k0 ∧ w.grownBy w' (some b) := by
  go_enter Tryz.func45, Tryz.ntmps45
  go_wp2_with fail
  go_loopw [1, 5] (fun kk ix wr => ∃ (k : Nat) (c' : Array Value), k ≤ n ∧ ix = .int .i64 k ∧ kk = .int .i64 ((k0 + 2 * k : Nat) : Int) ∧ Blk wr b c' tE ∧ Hid (c'.size = c.size) ∧ Hid (∀ j, j < k → c'[j * 2]? = some (.int .i64 ((k0 + 2 * j : Nat) : Int)) ∧ c'[j * 2 + 1]? = some (.string (markT (k0 + 2 * j + 1)))) ∧ w.grownBy wr (some b)) (fun _ ix _ => n - (intOf ix).toNat)
  case atStart => exact ⟨0, c, Nat.zero_le _, rfl, rfl, hb, rfl, fun j hj => (by omega), World.grownBy.refl _ _⟩
  case round =>
    obtain ⟨k, c', hk, rfl, rfl, hblk, hcs, hcc, hg⟩ := hrel
    by_cases hlt : k < n
    · have hc3 : k * 2 + 1 < c'.size := by rw [hcs.out]; omega
      have hk1 : (k : Int) < n := by omega
      have hk2 : (0 : Int) ≤ k := by omega
      obtain ⟨KK, hKK⟩ : ∃ KK : Int, KK = ((k0 + 2 * k : Nat) : Int) := ⟨_, rfl⟩
      have hKh : Hid (KK = ((k0 + 2 * k : Nat) : Int)) := hKK
      rw [← hKK]
      have hK1 : 1 ≤ KK := by omega
      have hK2 : KK ≤ 70000000 := by omega
      clear hKK
      obtain ⟨v0, y0⟩ := hblk.has (i := k * 2) (by first | omega | (simp; omega))
      have f0 := hblk.frozen (k * 2)
      have hv0 : Hid (Value.int .i64 (KK) = .int .i64 ((k0 + 2 * k : Nat) : Int)) := by show Value.int .i64 _ = Value.int .i64 _; first | (rw [hKh.out]; done) | (have := hKh.out; congr 1; omega)
      go_wp2_with fail
      refine (laws_markTextZ (k0 + 2 * k + 1) _ (by have := hKh.out; omega) _ (by omega) (by omega)).mono ?_
      rintro e w2 ⟨rfl, hB2⟩
      have b2 := ((hblk).set (k * 2) (.int .i64 (KK))).below hB2
      have g2 := grown_below (grown_set (hg) (k * 2) (.int .i64 (KK))) hB2
      obtain ⟨v1, y1⟩ := b2.has (i := k * 2 + 1) (by first | omega | (simp; omega))
      have f1 := b2.frozen (k * 2 + 1)
      go_wp2
      go_roundw
      case rel =>
        refine ⟨k + 1, _, by omega, by go_num, by (show Value.int IntKind.i64 _ = Value.int IntKind.i64 _; have := hKh.out; congr 1; omega), b2.set (k * 2 + 1) (.string (markT (k0 + 2 * k + 1))), by show _ = _; simp [hcs.out], ?_, grown_set g2 (k * 2 + 1) (.string (markT (k0 + 2 * k + 1)))⟩
        intro j hj
        have hcs' := hcs.out
        by_cases hjk : j = k
        · subst hjk
          refine ⟨?_, ?_⟩
          · rw [Array.getElem?_setIfInBounds_ne (by omega), Array.getElem?_setIfInBounds_self_of_lt (by first | omega | (simp; omega))]; rw [hv0.out]
          · rw [Array.getElem?_setIfInBounds_self_of_lt (by first | omega | (simp; omega))]
        · obtain ⟨r0, r1⟩ := hcc.out j (by omega)
          refine ⟨?_, ?_⟩
          all_goals (rw [Array.getElem?_setIfInBounds_ne (by omega), Array.getElem?_setIfInBounds_ne (by omega)]; assumption)
      case measure => simp [intOf]; omega
    · obtain rfl : k = n := by omega
      go_wp2
      go_returns
      go_light
      exact ⟨rfl, fun j hj => (by
        obtain ⟨r0, r1⟩ := hcc.out j hj
        exact ⟨b, rfl, by rw [hblk.cell]; exact r0, by rw [hblk.cell]; exact r1⟩), hg⟩
theorem markMkE (B : Nat) (a : Option Addr) (n cap k0 : Nat) (l : List Ex) (w : World) (h : ResAt Ex.cs 2 tE w B a n cap l) (hn : n ≤ 4194304) (hk0 : 1 ≤ k0 ∧ k0 ≤ 50000000) :
    Calls Tryz.prog 45 #[.slice a n cap, .int .i64 ((k0 : Nat) : Int)] w fun e w' => e = .returned (.int .i64 ((k0 + 2 * n : Nat) : Int)) ∧ MkE w' a n k0 ∧ w.grownBy w' (Value.ownBlock (.slice a n cap)) := by
  rcases h.own with ⟨rfl, rfl, rfl⟩ | ⟨b, rfl, _, hnc, _, c, hc, hs0, _⟩
  · go_enter Tryz.func45, Tryz.ntmps45
    go_wp2_with fail
    go_rounds 1
    go_returns
    exact ⟨rfl, fun j hj => (by omega), World.grownBy.refl _ _⟩
  · exact markMkE_own b n cap k0 c w hc (by rw [hs0]; exact Nat.mul_le_mul_right _ hnc) hn hk0
set_option maxHeartbeats 2000000 in
set_option maxRecDepth 100000 in
theorem heldMkE (a : Option Addr) (n cap k0 : Nat) (w : World) (h : MkE w a n k0) (hn : n ≤ 4194304) (hk0 : 1 ≤ k0 ∧ k0 ≤ 50000000) :
    Calls Tryz.prog 48 #[.slice a n cap, .int .i64 ((k0 : Nat) : Int)] w fun e w' => e = .returned (.int .i64 ((k0 + 2 * n : Nat) : Int)) ∧ Below w.heap.size w w' := by
  go_enter Tryz.func48, Tryz.ntmps48
  go_wp2_with fail
  go_loopw [1, 5] (fun kk ix wr => ∃ (k : Nat), k ≤ n ∧ ix = .int .i64 k ∧ kk = .int .i64 ((k0 + 2 * k : Nat) : Int) ∧ Below w.heap.size w wr) (fun _ ix _ => n - (intOf ix).toNat)
  case atStart => exact ⟨0, Nat.zero_le _, rfl, rfl, Below.refl _ _⟩
  case round =>
    obtain ⟨k, hk, rfl, rfl, hB⟩ := hrel
    by_cases hlt : k < n
    · obtain ⟨b, rfl, c0, c1⟩ := h k hlt
      have hk3 : (k : Int) < n := by omega
      have hk4 : (0 : Int) ≤ k := by omega
      obtain ⟨KK, hKK⟩ : ∃ KK : Int, KK = ((k0 + 2 * k : Nat) : Int) := ⟨_, rfl⟩
      have hKh : Hid (KK = ((k0 + 2 * k : Nat) : Int)) := hKK
      rw [← hKK]
      have hK1 : 1 ≤ KK := by omega
      have hK2 : KK ≤ 70000000 := by omega
      rw [show ((k0 + 2 * k : Nat) : Int) = KK by omega] at c0
      have e0 : (KK != KK) = false := by simp
      clear hKK
      replace c0 := bcell hB c0
      replace c1 := bcell hB c1
      have e1 : (!((markT (k0 + 2 * k + 1)).toList == (markT (k0 + 2 * k + 1)).toList)) = false := by simp
      go_wp2_with fail
      have g1 := gcell c1
      have hne := grw_ne wr
      refine wp_region_grow (by kernel_rfl) (by kernel_rfl) ?_
      repeat (go_big_quiet_step (first | (go_at_call 109; exact grow_of (laws_markTextZ (k0 + 2 * k + 1) (KK + 1) (by have := hKh.out; omega) _ (by omega) (by omega)))))
      refine wpQuiet_nil ?_
      intro w3 hx
      have hB3 := grw_out hx
      clear hx g1 hne e1
      have hC3 := chain hB hB3
      go_wp2
      go_roundw
      case rel => exact ⟨k + 1, by omega, by go_num, by have := hKh.out; show Value.int IntKind.i64 _ = Value.int IntKind.i64 _; congr 1; omega, hC3⟩
      case measure => simp [intOf]; omega
    · obtain rfl : k = n := by omega
      go_wp2
      go_returns
      exact ⟨rfl, hB⟩
/-- The slice holds the marks from k0 on. -/
def MkC (w : World) (a : Option Addr) (n k0 : Nat) : Prop := ∀ j, j < n → ∃ b, a = some ⟨b, 0, none⟩ ∧ w.cell? ⟨b, j * 4, none⟩ = some (.int .i64 ((k0 + 4 * j : Nat) : Int)) ∧ w.cell? ⟨b, j * 4 + 1, none⟩ = some (.int .i64 ((k0 + 4 * j + 1 : Nat) : Int)) ∧ w.cell? ⟨b, j * 4 + 2, none⟩ = some (.string (markT (k0 + 4 * j + 2))) ∧ w.cell? ⟨b, j * 4 + 3, none⟩ = some (.int .i64 ((k0 + 4 * j + 3 : Nat) : Int))
theorem MkC.below {w w' : World} {a : Option Addr} {n k0 : Nat} (h : MkC w a n k0) (hb : Below w.heap.size w w') : MkC w' a n k0 := fun j hj => by
  obtain ⟨b, ha, c0, c1, c2, c3⟩ := h j hj
  exact ⟨b, ha, bcell hb c0, bcell hb c1, bcell hb c2, bcell hb c3⟩
theorem MkC.off {w w' : World} {a : Option Addr} {n k0 : Nat} {row : Option Nat} (h : MkC w a n k0) (hg : w.grownBy w' row) (hr : 0 < n → ∀ ad, a = some ad → some ad.block ≠ row) : MkC w' a n k0 := fun j hj => by
  obtain ⟨b, ha, c0, c1, c2, c3⟩ := h j hj
  have hne := hr (by omega) _ ha
  exact ⟨b, ha, hg.cell c0 hne, hg.cell c1 hne, hg.cell c2 hne, hg.cell c3 hne⟩
set_option maxHeartbeats 2000000 in
set_option maxRecDepth 100000 in
theorem markMkC_own (b n cap k0 : Nat) (c : Array Value) (w : World) (hb : Blk w b c tC) (hsz : n * 4 ≤ c.size) (hn : n ≤ 4194304) (hk0 : 1 ≤ k0 ∧ k0 ≤ 50000000) :
    Calls Tryz.prog 47 #[.slice (some ⟨b, 0, none⟩) n cap, .int .i64 ((k0 : Nat) : Int)] w fun e w' => e = .returned (.int .i64 ((k0 + 4 * n : Nat) : Int)) ∧ MkC w' (some ⟨b, 0, none⟩) n k0 ∧ w.grownBy w' (some b) := by
  go_enter Tryz.func47, Tryz.ntmps47
  go_wp2_with fail
  go_loopw [1, 5] (fun kk ix wr => ∃ (k : Nat) (c' : Array Value), k ≤ n ∧ ix = .int .i64 k ∧ kk = .int .i64 ((k0 + 4 * k : Nat) : Int) ∧ Blk wr b c' tC ∧ Hid (c'.size = c.size) ∧ Hid (∀ j, j < k → c'[j * 4]? = some (.int .i64 ((k0 + 4 * j : Nat) : Int)) ∧ c'[j * 4 + 1]? = some (.int .i64 ((k0 + 4 * j + 1 : Nat) : Int)) ∧ c'[j * 4 + 2]? = some (.string (markT (k0 + 4 * j + 2))) ∧ c'[j * 4 + 3]? = some (.int .i64 ((k0 + 4 * j + 3 : Nat) : Int))) ∧ w.grownBy wr (some b)) (fun _ ix _ => n - (intOf ix).toNat)
  case atStart => exact ⟨0, c, Nat.zero_le _, rfl, rfl, hb, rfl, fun j hj => (by omega), World.grownBy.refl _ _⟩
  case round =>
    obtain ⟨k, c', hk, rfl, rfl, hblk, hcs, hcc, hg⟩ := hrel
    by_cases hlt : k < n
    · have hc3 : k * 4 + 3 < c'.size := by rw [hcs.out]; omega
      have hk1 : (k : Int) < n := by omega
      have hk2 : (0 : Int) ≤ k := by omega
      obtain ⟨KK, hKK⟩ : ∃ KK : Int, KK = ((k0 + 4 * k : Nat) : Int) := ⟨_, rfl⟩
      have hKh : Hid (KK = ((k0 + 4 * k : Nat) : Int)) := hKK
      rw [← hKK]
      have hK1 : 1 ≤ KK := by omega
      have hK2 : KK ≤ 70000000 := by omega
      clear hKK
      obtain ⟨v0, y0⟩ := hblk.has (i := k * 4) (by first | omega | (simp; omega))
      have f0 := hblk.frozen (k * 4)
      have hv0 : Hid (Value.int .i64 (KK) = .int .i64 ((k0 + 4 * k : Nat) : Int)) := by show Value.int .i64 _ = Value.int .i64 _; first | (rw [hKh.out]; done) | (have := hKh.out; congr 1; omega)
      obtain ⟨v1, y1⟩ := hblk.has (i := k * 4 + 1) (by first | omega | (simp; omega))
      have f1 := hblk.frozen (k * 4 + 1)
      have hv1 : Hid (Value.int .i64 (KK + 1) = .int .i64 ((k0 + 4 * k + 1 : Nat) : Int)) := by show Value.int .i64 _ = Value.int .i64 _; first | (rw [hKh.out]; done) | (have := hKh.out; congr 1; omega)
      go_wp2_with fail
      refine (laws_markTextZ (k0 + 4 * k + 2) _ (by have := hKh.out; omega) _ (by omega) (by omega)).mono ?_
      rintro e w3 ⟨rfl, hB3⟩
      have b3 := (((hblk).set (k * 4) (.int .i64 (KK))).set (k * 4 + 1) (.int .i64 (KK + 1))).below hB3
      have g3 := grown_below (grown_set (grown_set (hg) (k * 4) (.int .i64 (KK))) (k * 4 + 1) (.int .i64 (KK + 1))) hB3
      obtain ⟨v2, y2⟩ := b3.has (i := k * 4 + 2) (by first | omega | (simp; omega))
      have f2 := b3.frozen (k * 4 + 2)
      obtain ⟨v3, y3⟩ := b3.has (i := k * 4 + 3) (by first | omega | (simp; omega))
      have f3 := b3.frozen (k * 4 + 3)
      have hv3 : Hid (Value.int .i64 (KK + 1 + 1 + 1) = .int .i64 ((k0 + 4 * k + 3 : Nat) : Int)) := by show Value.int .i64 _ = Value.int .i64 _; first | (rw [hKh.out]; done) | (have := hKh.out; congr 1; omega)
      go_wp2
      go_roundw
      case rel =>
        refine ⟨k + 1, _, by omega, by go_num, by (show Value.int IntKind.i64 _ = Value.int IntKind.i64 _; have := hKh.out; congr 1; omega), (b3.set (k * 4 + 2) (.string (markT (k0 + 4 * k + 2)))).set (k * 4 + 3) (.int .i64 (KK + 1 + 1 + 1)), by show _ = _; simp [hcs.out], ?_, grown_set (grown_set g3 (k * 4 + 2) (.string (markT (k0 + 4 * k + 2)))) (k * 4 + 3) (.int .i64 (KK + 1 + 1 + 1))⟩
        intro j hj
        have hcs' := hcs.out
        by_cases hjk : j = k
        · subst hjk
          refine ⟨?_, ?_, ?_, ?_⟩
          · rw [Array.getElem?_setIfInBounds_ne (by omega), Array.getElem?_setIfInBounds_ne (by omega), Array.getElem?_setIfInBounds_ne (by omega), Array.getElem?_setIfInBounds_self_of_lt (by first | omega | (simp; omega))]; rw [hv0.out]
          · rw [Array.getElem?_setIfInBounds_ne (by omega), Array.getElem?_setIfInBounds_ne (by omega), Array.getElem?_setIfInBounds_self_of_lt (by first | omega | (simp; omega))]; rw [hv1.out]
          · rw [Array.getElem?_setIfInBounds_ne (by omega), Array.getElem?_setIfInBounds_self_of_lt (by first | omega | (simp; omega))]
          · rw [Array.getElem?_setIfInBounds_self_of_lt (by first | omega | (simp; omega))]; rw [hv3.out]
        · obtain ⟨r0, r1, r2, r3⟩ := hcc.out j (by omega)
          refine ⟨?_, ?_, ?_, ?_⟩
          all_goals (rw [Array.getElem?_setIfInBounds_ne (by omega), Array.getElem?_setIfInBounds_ne (by omega), Array.getElem?_setIfInBounds_ne (by omega), Array.getElem?_setIfInBounds_ne (by omega)]; assumption)
      case measure => simp [intOf]; omega
    · obtain rfl : k = n := by omega
      go_wp2
      go_returns
      go_light
      exact ⟨rfl, fun j hj => (by
        obtain ⟨r0, r1, r2, r3⟩ := hcc.out j hj
        exact ⟨b, rfl, by rw [hblk.cell]; exact r0, by rw [hblk.cell]; exact r1, by rw [hblk.cell]; exact r2, by rw [hblk.cell]; exact r3⟩), hg⟩
theorem markMkC (B : Nat) (a : Option Addr) (n cap k0 : Nat) (l : List Ct) (w : World) (h : ResAt Ct.cs 4 tC w B a n cap l) (hn : n ≤ 4194304) (hk0 : 1 ≤ k0 ∧ k0 ≤ 50000000) :
    Calls Tryz.prog 47 #[.slice a n cap, .int .i64 ((k0 : Nat) : Int)] w fun e w' => e = .returned (.int .i64 ((k0 + 4 * n : Nat) : Int)) ∧ MkC w' a n k0 ∧ w.grownBy w' (Value.ownBlock (.slice a n cap)) := by
  rcases h.own with ⟨rfl, rfl, rfl⟩ | ⟨b, rfl, _, hnc, _, c, hc, hs0, _⟩
  · go_enter Tryz.func47, Tryz.ntmps47
    go_wp2_with fail
    go_rounds 1
    go_returns
    exact ⟨rfl, fun j hj => (by omega), World.grownBy.refl _ _⟩
  · exact markMkC_own b n cap k0 c w hc (by rw [hs0]; exact Nat.mul_le_mul_right _ hnc) hn hk0
set_option maxHeartbeats 2000000 in
set_option maxRecDepth 100000 in
theorem heldMkC (a : Option Addr) (n cap k0 : Nat) (w : World) (h : MkC w a n k0) (hn : n ≤ 4194304) (hk0 : 1 ≤ k0 ∧ k0 ≤ 50000000) :
    Calls Tryz.prog 50 #[.slice a n cap, .int .i64 ((k0 : Nat) : Int)] w fun e w' => e = .returned (.int .i64 ((k0 + 4 * n : Nat) : Int)) ∧ Below w.heap.size w w' := by
  go_enter Tryz.func50, Tryz.ntmps50
  go_wp2_with fail
  go_loopw [1, 5] (fun kk ix wr => ∃ (k : Nat), k ≤ n ∧ ix = .int .i64 k ∧ kk = .int .i64 ((k0 + 4 * k : Nat) : Int) ∧ Below w.heap.size w wr) (fun _ ix _ => n - (intOf ix).toNat)
  case atStart => exact ⟨0, Nat.zero_le _, rfl, rfl, Below.refl _ _⟩
  case round =>
    obtain ⟨k, hk, rfl, rfl, hB⟩ := hrel
    by_cases hlt : k < n
    · obtain ⟨b, rfl, c0, c1, c2, c3⟩ := h k hlt
      have hk3 : (k : Int) < n := by omega
      have hk4 : (0 : Int) ≤ k := by omega
      obtain ⟨KK, hKK⟩ : ∃ KK : Int, KK = ((k0 + 4 * k : Nat) : Int) := ⟨_, rfl⟩
      have hKh : Hid (KK = ((k0 + 4 * k : Nat) : Int)) := hKK
      rw [← hKK]
      have hK1 : 1 ≤ KK := by omega
      have hK2 : KK ≤ 70000000 := by omega
      rw [show ((k0 + 4 * k : Nat) : Int) = KK by omega] at c0
      have e0 : (KK != KK) = false := by simp
      rw [show ((k0 + 4 * k + 1 : Nat) : Int) = KK + 1 by omega] at c1
      have e1 : (KK + 1 != KK + 1) = false := by simp
      rw [show ((k0 + 4 * k + 3 : Nat) : Int) = KK + 1 + 1 + 1 by omega] at c3
      have e3 : (KK + 1 + 1 + 1 != KK + 1 + 1 + 1) = false := by simp
      clear hKK
      replace c0 := bcell hB c0
      replace c1 := bcell hB c1
      replace c2 := bcell hB c2
      replace c3 := bcell hB c3
      have e2 : (!((markT (k0 + 4 * k + 2)).toList == (markT (k0 + 4 * k + 2)).toList)) = false := by simp
      go_wp2_with fail
      have g2 := gcell c2
      have hne := grw_ne wr
      refine wp_region_grow (by kernel_rfl) (by kernel_rfl) ?_
      repeat (go_big_quiet_step (first | (go_at_call 109; exact grow_of (laws_markTextZ (k0 + 4 * k + 2) (KK + 1 + 1) (by have := hKh.out; omega) _ (by omega) (by omega)))))
      refine wpQuiet_nil ?_
      intro w4 hx
      have hB4 := grw_out hx
      clear hx g2 hne e2
      replace c3 := bcell hB4 c3
      have hC4 := chain hB hB4
      go_wp2
      go_roundw
      case rel => exact ⟨k + 1, by omega, by go_num, by have := hKh.out; show Value.int IntKind.i64 _ = Value.int IntKind.i64 _; congr 1; omega, hC4⟩
      case measure => simp [intOf]; omega
    · obtain rfl : k = n := by omega
      go_wp2
      go_returns
      exact ⟨rfl, hB⟩
end Go.Proofs.YtigldeccfpkdmaaGreatDoor
