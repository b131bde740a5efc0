/- An op, by the model: all kinds together. -/
import Derived.Test.YtnjefbkhibfgmaaGreatLDAskedx34
import Derived.Test.YtnjefbkhibfgmaaGreatLDAskedx35
import Derived.Test.YtnjefbkhibfgmaaGreatLDAskedx36
import Derived.Test.YtnjefbkhibfgmaaGreatLDAskedx37
import Derived.Test.YtnjefbkhibfgmaaGreatLDAskedx01
import Derived.Maps.RangeWalk
import Derived.Test.YtnjefbkhibfgmaaGreatLDAskedx05
import Derived.Laws.Rows
import Derived.Test.YtnjefbkhibfgmaaGreatLDAskedx02
import Derived.Test.YtnjefbkhibfgmaaGreatProg
import Derived.Test.YtnjefbkhibfgmaaGreatLDAskedx16
import Derived.Test.YtnjefbkhibfgmaaGreatLDAskedx25
import Derived.Test.YtnjefbkhibfgmaaGreatLDAskedx15
namespace Go.Proofs.YtnjefbkhibfgmaaGreat
open Go Go.RowKit Go.BigFrame
theorem opB_kind {o : Opr} (h : opB o = true) : o.k = 1 ∨ o.k = 2 ∨ o.k = 3 ∨ o.k = 4 ∨ o.k = 5 ∨ o.k = 6 ∨ o.k = 7 ∨ o.k = 8 ∨ o.k = 9 ∨ o.k = 10 := by
  unfold opB at h
  repeat' split at h
  all_goals first | omega | cases h
theorem spec_l6Done (B0 : Nat) (hB0 : 0 < B0) (v : Value) (p : Po) (o : Opr) (w : World) (h : PoolAt B0 w v p) (hd : DimP p) (hp : poolB p = true) (hso : StrO o) :
    Calls Tryz.prog 89 #[v, .agg #[.int .i64 o.k, .string o.vol, .string o.file, .string o.to, .string o.into, .int .i64 o.at', .int .i64 o.fr, .int .i64 o.ln, .string o.data]] w fun e w' => (∃ v' c, e = .returned (.tuple #[v', .int .i64 c]) ∧ c = (opS p o).1 ∧ PoolT w.heap.size w' v' (opS p o).2 ∧ DimP (opS p o).2) ∧ Below w.heap.size w w' := by
  cases hf : opB o with
  | false => exact spec_l6Done_form B0 hB0 v p o w h hd hp hso hf
  | true =>
    rcases opB_kind hf with hk | hk | hk | hk | hk | hk | hk | hk | hk | hk
    · by_cases hy : (volS p o).1 = 0
      · exact spec_l6Done_yesV B0 hB0 v p o w h hd hp hso hf (by omega) hy
      · exact spec_l6Done_noV B0 hB0 v p o w h hd hp hso hf (by omega) hy
    · by_cases hy : (fileS p o).1 = 0
      · exact spec_l6Done_yes2 B0 hB0 v p o w h hd hp hso hf hk hy
      · exact spec_l6Done_no2 B0 hB0 v p o w h hd hp hso hf hk hy
    · by_cases hy : (fileS p o).1 = 0
      · exact spec_l6Done_yes3 B0 hB0 v p o w h hd hp hso hf hk hy
      · exact spec_l6Done_no3 B0 hB0 v p o w h hd hp hso hf hk hy
    · by_cases hy : (volS p o).1 = 0
      · exact spec_l6Done_yesV B0 hB0 v p o w h hd hp hso hf (by omega) hy
      · exact spec_l6Done_noV B0 hB0 v p o w h hd hp hso hf (by omega) hy
    · by_cases hy : (fileS p o).1 = 0
      · exact spec_l6Done_yes5 B0 hB0 v p o w h hd hp hso hf hk hy
      · exact spec_l6Done_no5 B0 hB0 v p o w h hd hp hso hf hk hy
    · by_cases hy : (volS p o).1 = 0
      · exact spec_l6Done_yesV B0 hB0 v p o w h hd hp hso hf (by omega) hy
      · exact spec_l6Done_noV B0 hB0 v p o w h hd hp hso hf (by omega) hy
    · by_cases hy : (volS p o).1 = 0
      · exact spec_l6Done_yesV B0 hB0 v p o w h hd hp hso hf (by omega) hy
      · exact spec_l6Done_noV B0 hB0 v p o w h hd hp hso hf (by omega) hy
    · by_cases hy : (volS p o).1 = 0
      · exact spec_l6Done_yesV B0 hB0 v p o w h hd hp hso hf (by omega) hy
      · exact spec_l6Done_noV B0 hB0 v p o w h hd hp hso hf (by omega) hy
    · exact spec_l6Done_flush B0 hB0 v p o w h hd hp hso hf hk
    · by_cases hy : (fileS p o).1 = 0
      · exact spec_l6Done_yes10 B0 hB0 v p o w h hd hp hso hf hk hy
      · exact spec_l6Done_no10 B0 hB0 v p o w h hd hp hso hf hk hy
theorem poolT_zero (B : Nat) (w : World) : PoolT B w (.agg #[.int .i64 0, .int .i64 0, .slice none 0 0, .slice none 0 0, .slice none 0 0, .slice none 0 0]) ⟨0, 0, [], [], [], []⟩ := ⟨_, _, _, _, _, _, _, _, _, _, _, _, [], rfl, res_nil, ⟨res_nil, VolsT.nil _ _⟩, res_nil, res_nil, fun x y h => by cases h⟩
theorem dim_zero : DimP ⟨0, 0, [], [], [], []⟩ := ⟨Nat.zero_le _, (fun e he => by cases he), Nat.zero_le _, (fun e he => by cases he), Nat.zero_le _, (fun e he => by cases he), Nat.zero_le _, (fun e he => by cases he)⟩
set_option maxHeartbeats 4000000 in
set_option maxRecDepth 100000 in
theorem spec_Done (B0 : Nat) (hB0 : 0 < B0) (v : Value) (p : Po) (o : Opr) (w : World) (h : PoolAt B0 w v p) (hd : DimP p) (hso : StrO o) :
    Calls Tryz.prog 64 #[v, .agg #[.int .i64 o.k, .string o.vol, .string o.file, .string o.to, .string o.into, .int .i64 o.at', .int .i64 o.fr, .int .i64 o.ln, .string o.data]] w fun e w' => (∃ v' c, e = .returned (.tuple #[v', .int .i64 c]) ∧ c = (doneS p o).1 ∧ PoolT w.heap.size w' v' (doneS p o).2 ∧ DimP (doneS p o).2) ∧ Below w.heap.size w w' := by
  have hPA := h
  obtain ⟨ea, en, ec, va, vn, vc, ra, rn, rc, la, ln, lc, rfl, ⟨h1, k1⟩, ⟨h2, k2⟩, ⟨h3, k3⟩, h4, k4⟩ := h
  have hS : Hid (doneS p o = if poolB p = true then opS p o else (1, ⟨0, 0, [], [], [], []⟩)) := by show _ = _; simp [doneS]
  generalize doneS p o = R at *
  go_enter Tryz.func64, Tryz.ntmps64
  go_wp2_with fail
  refine (spec_PoolOk B0 hB0 _ p _ (hPA.below (by go_grown)) hd).mono ?_
  rintro e w1 ⟨rfl, hB1⟩
  have C : Blk w1 w.heap.size #[.int .i64 p.size, .int .i64 p.next, .slice ea en ec, .slice va vn vc, .slice ra rn rc, .slice la ln lc] 28 := (((Blk.new w _ _).alloc _).alloc _).below hB1
  have O : Blk w1 (w.heap.size + 1) #[.int .i64 o.k, .string o.vol, .string o.file, .string o.to, .string o.into, .int .i64 o.at', .int .i64 o.fr, .int .i64 o.ln, .string o.data] 102 := ((Blk.new' _ _ _ _ (by simp)).alloc _).below hB1
  have D : Blk w1 (w.heap.size + 2) #[.int .i64 0, .int .i64 0, .slice none 0 0, .slice none 0 0, .slice none 0 0, .slice none 0 0] 28 := (Blk.new' _ _ _ _ (by simp)).below hB1
  have hBw1 : Below w.heap.size w w1 := chain (by go_grown) hB1
  have hs1 : w.heap.size + 3 ≤ w1.heap.size := by have := hB1.size; simp at this; omega
  clear hB1
  cases hpk : poolB p
  · rw [hpk, if_neg (by simp)] at hS
    obtain ⟨x0, x1, x2, x3, x4, x5⟩ := D.six'
    have f0 := D.frozen 0
    have f1 := D.frozen 1
    have f2 := D.frozen 2
    have f3 := D.frozen 3
    have f4 := D.frozen 4
    have f5 := D.frozen 5
    go_wp2
    obtain ⟨W0, hg0⟩ := set6 D (.int .i64 0) (.int .i64 0) (.slice none 0 0) (.slice none 0 0) (.slice none 0 0) (.slice none 0 0)
    have B8 := hBw1.grown hg0 hBw1.size (fun j e => by cases e; omega)
    generalize ((((((w1.setCell ⟨w.heap.size + 2, 0, none⟩ (.int .i64 0)).setCell ⟨w.heap.size + 2, 1, none⟩ (.int .i64 0)).setCell ⟨w.heap.size + 2, 2, none⟩ (.slice none 0 0)).setCell ⟨w.heap.size + 2, 3, none⟩ (.slice none 0 0)).setCell ⟨w.heap.size + 2, 4, none⟩ (.slice none 0 0)).setCell ⟨w.heap.size + 2, 5, none⟩ (.slice none 0 0)) = W8 at *
    refine bodyPost_ret (results_cell_tmp rfl _ W8 (w.heap.size + 2) _ _ _ _ _ rfl W0 Tryz.underlying28 rfl (by kernel_rfl) rfl) rfl ?_
    exact ⟨⟨_, 1, rfl, by rw [hS.out], by rw [hS.out]; exact poolT_zero _ _, by rw [hS.out]; exact dim_zero⟩, B8⟩
  · rw [hpk, if_pos rfl] at hS
    obtain ⟨c0, c1, c2, c3, c4, c5⟩ := C.six'
    have o0 := O.cell 0
    have o1 := O.cell 1
    have o2 := O.cell 2
    have o3 := O.cell 3
    have o4 := O.cell 4
    have o5 := O.cell 5
    have o6 := O.cell 6
    have o7 := O.cell 7
    have o8 := O.cell 8
    simp only [lgA, lgB, lgC] at o0 o1 o2 o3 o4 o5 o6 o7 o8
    go_wp2_with fail
    refine (spec_l6Done B0 hB0 _ p o _ (hPA.below hBw1) hd hpk hso).mono ?_
    rintro e wk ⟨⟨v', c, rfl, hc, PT, hdn⟩, hBk⟩
    have PT0 := PT
    obtain ⟨ea', en', ec', va', vn', vc', ra', rn', rc', la', ln', lc', rows', rfl, _⟩ := PT
    have Dk := D.below hBk
    have hBwk := chain hBw1 hBk
    have hsk := hBk.size
    replace hc : Hid (c = (opS p o).1) := hc
    obtain ⟨q, hq⟩ : ∃ q, (opS p o).2 = q := ⟨_, rfl⟩
    rw [hq] at PT0 hdn ⊢
    obtain ⟨x0, x1, x2, x3, x4, x5⟩ := Dk.six'
    have f0 := Dk.frozen 0
    have f1 := Dk.frozen 1
    have f2 := Dk.frozen 2
    have f3 := Dk.frozen 3
    have f4 := Dk.frozen 4
    have f5 := Dk.frozen 5
    go_wp2
    obtain ⟨W0, hg0⟩ := set6 Dk (.int .i64 q.size) (.int .i64 q.next) (.slice ea' en' ec') (.slice va' vn' vc') (.slice ra' rn' rc') (.slice la' ln' lc')
    have PF := (PT0.tyP hg0 (rowTy_blk Dk)).mono (show w.heap.size ≤ w1.heap.size by omega)
    have B8 := hBwk.grown hg0 hBwk.size (fun j e => by cases e; omega)
    generalize ((((((wk.setCell ⟨w.heap.size + 2, 0, none⟩ (.int .i64 q.size)).setCell ⟨w.heap.size + 2, 1, none⟩ (.int .i64 q.next)).setCell ⟨w.heap.size + 2, 2, none⟩ (.slice ea' en' ec')).setCell ⟨w.heap.size + 2, 3, none⟩ (.slice va' vn' vc')).setCell ⟨w.heap.size + 2, 4, none⟩ (.slice ra' rn' rc')).setCell ⟨w.heap.size + 2, 5, none⟩ (.slice la' ln' lc')) = W8 at *
    refine bodyPost_ret (results_cell_tmp rfl _ W8 (w.heap.size + 2) _ _ _ _ _ rfl W0 Tryz.underlying28 rfl (by kernel_rfl) rfl) rfl ?_
    exact ⟨⟨_, c, rfl, by rw [hS.out]; exact hc.out, by rw [hS.out, hq]; exact PF, by rw [hS.out, hq]; exact hdn⟩, B8⟩
end Go.Proofs.YtnjefbkhibfgmaaGreat
namespace Go.Proofs.YtnjefbkhibfgmaaGreat
open Go.RowKit Go.BigFrame
set_option maxHeartbeats 1000000 in
theorem spec_word (B : Nat) (w : World) (h : Rd w B) :
    Calls Tryz.prog 100 #[.pointer (some ⟨B, 0, none⟩)] w fun e w' => (∃ v : Int, e = .returned (.int .u64 v) ∧ 0 ≤ v ∧ v ≤ 18446744073709551615) ∧ Rd w' B ∧ w.grownBy w' (some B) := by
  go_enter Tryz.func100, Tryz.ntmps100
  go_wp2_with fail
  go_loopw [3, 4] (fun x ix wr => ∃ (k : Nat) (v : Int), k ≤ 8 ∧ ix = .int .i64 k ∧ x = .int .u64 v ∧ 0 ≤ v ∧ v ≤ 18446744073709551615 ∧ Rd wr B ∧ w.grownBy wr (some B)) (fun _ ix _ => 8 - (intOf ix).toNat)
  case atStart => exact ⟨0, 0, by omega, rfl, rfl, by omega, by omega, h, grown_refl w B⟩
  case round =>
    obtain ⟨k, v, hk, rfl, rfl, hv0, hv1, hR, hG⟩ := hrel
    by_cases hlt : k < 8
    · go_wp2_with fail
      refine (spec_next B _ hR).mono ?_
      rintro e w1 ⟨⟨u, rfl, hu0, hu1⟩, hR1, hg1⟩
      have hG1 := grown_trans hG hg1
      have hwf := bounds_u64 (wf_bits .or .u64 (IntKind.u64.wrap (v * 256)) u)
      go_wp2
      generalize bits BinOp.or IntKind.u64 (IntKind.u64.wrap (v * 256)) u = x at *
      go_roundw
      case rel => exact ⟨k + 1, x, by omega, by go_num, rfl, hwf.1, hwf.2, hR1, hG1⟩
      case measure => simp [intOf]; omega
    · obtain rfl : k = 8 := by omega
      go_wp2
      go_returns
      exact ⟨⟨v, rfl, hv0, hv1⟩, hR, hG⟩
set_option maxHeartbeats 1000000 in
theorem spec_near (B : Nat) (lo hi : Int) (w : World) (h : Rd w B) (h1 : -1000 ≤ lo) (h2 : lo ≤ hi) (h3 : hi ≤ 1000) :
    Calls Tryz.prog 82 #[.pointer (some ⟨B, 0, none⟩), .int .i64 lo, .int .i64 hi] w fun e w' => (∃ v : Int, e = .returned (.int .i64 v) ∧ lo ≤ v ∧ v ≤ hi) ∧ Rd w' B ∧ w.grownBy w' (some B) := by
  go_enter Tryz.func82, Tryz.ntmps82
  go_wp2_with fail
  refine (spec_belowN B 8 _ h (by omega) (by omega)).mono ?_
  rintro e w1 ⟨⟨x, rfl, hx⟩, hR1, hg1⟩
  by_cases hx0 : x = 0
  · subst hx0
    go_wp2
    go_returns
    exact ⟨⟨lo, rfl, by omega, h2⟩, hR1, hg1⟩
  · have b0 : ((x : Int) == 0) = false := by simp; omega
    by_cases hx1 : x = 1
    · subst hx1
      go_wp2
      go_returns
      exact ⟨⟨hi, rfl, h2, by omega⟩, hR1, hg1⟩
    · have b1 : ((x : Int) == 1) = false := by simp; omega
      have hns : ¬ hi < lo := by omega
      go_wp2_with fail
      refine (spec_word B _ hR1).mono ?_
      rintro e w2 ⟨⟨v, rfl, hv0, hv1⟩, hR2, hg2⟩
      have hG := grown_trans hg1 hg2
      have hm0 : 0 ≤ v / 2 % (hi - lo + 1) := Int.emod_nonneg _ (by omega)
      have hm1 : v / 2 % (hi - lo + 1) < hi - lo + 1 := Int.emod_lt_of_pos _ (by omega)
      go_wp2
      generalize v / 2 % (hi - lo + 1) = m at *
      have hw1 : wrap64 m = m := by unfold wrap64; omega
      have hw2 : wrap64 (lo + m) = lo + m := by unfold wrap64; omega
      go_returns
      exact ⟨⟨lo + m, rfl, by omega, by omega⟩, hR2, hG⟩
set_option maxHeartbeats 1000000 in
theorem spec_off (B : Nat) (lo hi : Int) (w : World) (h : Rd w B) (h1 : -1000 ≤ lo) (h2 : lo ≤ hi) (h3 : hi ≤ 1000) :
    Calls Tryz.prog 48 #[.pointer (some ⟨B, 0, none⟩), .int .i64 lo, .int .i64 hi] w fun e w' => (∃ v : Int, e = .returned (.int .i64 v) ∧ -9223372036854775808 ≤ v ∧ v ≤ 9223372036854775807) ∧ Rd w' B ∧ w.grownBy w' (some B) := by
  have hB := h.lt
  go_enter Tryz.func48, Tryz.ntmps48
  go_wp2_with fail
  refine (spec_once B 24 _ h (by omega) (by omega)).mono ?_
  rintro e w1 ⟨⟨x, rfl⟩, hR1, hg1⟩
  cases x
  · go_wp2_with fail
    refine (spec_near B lo hi _ hR1 h1 h2 h3).mono ?_
    rintro e w2 ⟨⟨v, rfl, hv0, hv1⟩, hR2, hg2⟩
    have hG := grown_trans hg1 hg2
    go_wp2
    go_returns
    exact ⟨⟨v, rfl, by omega, by omega⟩, hR2, hG⟩
  · go_wp2_with fail
    refine (spec_belowN B 4 _ (hR1.below (by go_grown)) (by omega) (by omega)).mono ?_
    rintro e w2 ⟨⟨v, rfl, hv⟩, hR2, hg2⟩
    have hb := (Blk.new w1 _ _).grown hg2 (by have := hR1.lt; omega)
    have hG : w.grownBy w2 (some B) := grown_trans (grown_below hg1 (by go_grown)) hg2
    have z0 := hb.cell 0
    have z1 := hb.cell 1
    have z2 := hb.cell 2
    have z3 := hb.cell 3
    simp only [lgA, lgB, lgC] at z0 z1 z2 z3
    obtain ⟨y, hy, hy1, hy2⟩ : ∃ y : Int, w2.cell? ⟨w1.heap.size, v, none⟩ = some (.int .i64 y) ∧ -9223372036854775808 ≤ y ∧ y ≤ 9223372036854775807 := by
      rcases (show v = 0 ∨ v = 1 ∨ v = 2 ∨ v = 3 by omega) with rfl | rfl | rfl | rfl
      · exact ⟨_, z0, by omega, by omega⟩
      · exact ⟨_, z1, by omega, by omega⟩
      · exact ⟨_, z2, by omega, by omega⟩
      · exact ⟨_, z3, by omega, by omega⟩
    clear z0 z1 z2 z3 hb
    have hv4 : (v : Int) < 4 := by omega
    have hv5 : (0 : Int) ≤ v := by omega
    go_wp2
    go_returns
    exact ⟨⟨y, rfl, hy1, hy2⟩, hR2, hG⟩
end Go.Proofs.YtnjefbkhibfgmaaGreat
namespace Go.Proofs.YtnjefbkhibfgmaaGreat
open Go.RowKit Go.BigFrame
theorem Rd.grownO {w w' : World} {B : Nat} {row : Option Nat} (h : Rd w B) (hg : w.grownBy w' row) (hr : ∀ k, row = some k → B < k) : Rd w' B := by
  cases row with
  | some r => exact h.grown hg (hr r rfl)
  | none => exact h.grown (r := B + 1) (hg.but (some (B + 1))) (by omega)
theorem grown_row {w u w' : World} {B : Nat} {row : Option Nat} (h : w.grownBy u (some B)) (hg : u.grownBy w' row) (hr : ∀ k, row = some k → w.heap.size ≤ k) : w.grownBy w' (some B) :=
  h.andThen hg (fun j hj => .inl (hr j hj))
end Go.Proofs.YtnjefbkhibfgmaaGreat
namespace Go.Proofs.YtnjefbkhibfgmaaGreat
open Go.RowKit Go.BigFrame
set_option maxHeartbeats 1000000 in
set_option maxRecDepth 100000 in
theorem spec_data (B : Nat) (w : World) (h : Rd w B) :
    Calls Tryz.prog 90 #[.pointer (some ⟨B, 0, none⟩)] w fun e w' => (∃ d : ByteArray, e = .returned (.string d) ∧ d.size ≤ 20) ∧ Rd w' B ∧ w.grownBy w' (some B) := by
  have hlt := h.lt
  go_enter Tryz.func90, Tryz.ntmps90
  go_wp2_with fail
  refine (spec_belowN B 7 _ (h.below (by go_grown)) (by omega) (by omega)).mono ?_
  rintro e w1 ⟨⟨x, rfl, hx⟩, hR1, hg1⟩
  have b1 := (Blk.new w _ _).grown hg1 (by omega)
  have hG1 : w.grownBy w1 (some B) := grown_trans (grown_below (grown_refl w B) (by go_grown)) hg1
  clear hg1
  obtain ⟨s, hs, hs1⟩ : ∃ s : ByteArray, w1.cell? ⟨w.heap.size, x, none⟩ = some (.string s) ∧ s.size ≤ 20 := by
    rw [b1.cell]
    rcases (show x = 0 ∨ x = 1 ∨ x = 2 ∨ x = 3 ∨ x = 4 ∨ x = 5 ∨ x = 6 by omega) with rfl | rfl | rfl | rfl | rfl | rfl | rfl
    all_goals exact ⟨_, rfl, by decide⟩
  have hx2 : (x : Int) < 7 := by omega
  clear b1
  go_wp2
  go_returns
  exact ⟨⟨s, rfl, hs1⟩, hR1, hG1⟩
end Go.Proofs.YtnjefbkhibfgmaaGreat
