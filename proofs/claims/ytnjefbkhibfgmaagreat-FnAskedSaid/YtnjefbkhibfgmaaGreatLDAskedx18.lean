/- Volumes copied, by the model. -/
import Derived.Test.YtnjefbkhibfgmaaGreatLDAskedx17
namespace Go.Proofs.YtnjefbkhibfgmaaGreat
open Go Go.RowKit Go.BigFrame
set_option maxHeartbeats 4000000 in
set_option maxRecDepth 100000 in
theorem spec_l6Volume_snapThere (B : Nat) (hB0 : 0 < B) (v : Value) (p : Po) (o : Opr) (w : World) (h : PoolT B w v p) (hBw : B ≤ w.heap.size) (hd : DimP p) (hnx : 1 ≤ p.next ∧ p.next ≤ 1000000000) (hk : o.k = 6) (i j : Nat) (hso : volI p.vs o.vol = some i) (hto : volI p.vs o.to = some j) :
    Calls Tryz.prog 109 #[v, .agg #[.int .i64 o.k, .string o.vol, .string o.file, .string o.to, .string o.into, .int .i64 o.at', .int .i64 o.fr, .int .i64 o.ln, .string o.data]] w fun e w' => (∃ v' c, e = .returned (.tuple #[v', .int .i64 c]) ∧ PoolV v' ∧ c = (volS p o).1 ∧ (c = 0 → PoolT B w' v' (volS p o).2)) ∧ Below B w w' ∧ FrV w w' := by
  obtain ⟨ea, en, ec, va, vn, vc, ra, rn, rc, la, ln, lc, rows, rfl, h1, ⟨h2, h3⟩, h4, h5, h6⟩ := h
  obtain ⟨z1, z2, z3, z4, z5, z6, z7, z8⟩ := hd
  have hV : VsAt B w va vn p.vs := h3.rows.vs h2
  rw [hV.len] at z3
  obtain ⟨size, next, ex, vs, rf, lt⟩ := p
  obtain ⟨k, vol, file, tt, into, at0, fr, ln0, data⟩ := o
  simp only at h1 h2 h3 h4 h5 hV z4 z3 hnx hk ⊢
  have _ := hB0
  have _ := hnx
  have _ := hBw
  have hlen : vs.length = vn := hV.len
  have hrl : rows.length = vn := h2.sl.len
  subst hk
  simp only at hso
  have hi := volI_lt hso
  have hin : i < vn := by omega
  have hx : vs[i]? = some vs[i] := by simp [hi]
  have hip : (0 : Int) ≤ (i : Int) := by omega
  have hip2 : (i : Int) < vn := by omega
  simp only at hto
  have hjp : (0 : Int) ≤ (j : Int) := by omega
  have hS : Hid (volS ⟨size, next, ex, vs, rf, lt⟩ ⟨6, vol, file, tt, into, at0, fr, ln0, data⟩ = (4, ⟨size, next, ex, vs, rf, lt⟩)) := by show _ = _; simp [volS, hso, hx, hto]
  generalize volS ⟨size, next, ex, vs, rf, lt⟩ ⟨6, vol, file, tt, into, at0, fr, ln0, data⟩ = R at *
  go_enter Tryz.func109, Tryz.ntmps109
  go_wp2_with fail
  refine (spec_l4Find B size next ea en ec va vn vc ra rn rc la ln lc vs vol _ (hV.below (by go_grown)) z3).mono ?_
  rintro e w1 ⟨rfl, hB1⟩
  have C : Blk w1 w.heap.size #[.int .i64 size, .int .i64 next, .slice ea en ec, .slice va vn vc, .slice ra rn rc, .slice la ln lc] 28 := (((Blk.new w _ _).alloc _).alloc _).below hB1
  have O : Blk w1 (w.heap.size + 1) #[.int .i64 6, .string vol, .string file, .string tt, .string into, .int .i64 at0, .int .i64 fr, .int .i64 ln0, .string data] 102 := ((Blk.new' _ _ _ _ (by simp)).alloc _).below hB1
  have D : Blk w1 (w.heap.size + 2) #[.int .i64 0, .int .i64 0, .slice none 0 0, .slice none 0 0, .slice none 0 0, .slice none 0 0] 28 := (Blk.new' _ _ _ _ (by simp)).below hB1
  have hBw1 : Below w.heap.size w w1 := chain (by go_grown) hB1
  have hs1 : w.heap.size + 3 ≤ w1.heap.size := by have := hB1.size; simp at this; omega
  clear hB1
  obtain ⟨c0, c1, c2, c3, c4, c5⟩ := C.six'
  have o0 : w1.cell? ⟨w.heap.size + 1, 0, none⟩ = some (.int .i64 6) := O.cell 0
  have o1 : w1.cell? ⟨w.heap.size + 1, 1, none⟩ = some (.string vol) := O.cell 1
  have o2 : w1.cell? ⟨w.heap.size + 1, 2, none⟩ = some (.string file) := O.cell 2
  have o3 : w1.cell? ⟨w.heap.size + 1, 3, none⟩ = some (.string tt) := O.cell 3
  obtain ⟨x0, x1, x2, x3, x4, x5⟩ := D.six'
  have f0 := D.frozen 0
  have f1 := D.frozen 1
  have f2 := D.frozen 2
  have f3 := D.frozen 3
  have f4 := D.frozen 4
  have f5 := D.frozen 5
  rw [hso]
  simp only [idxV]
  go_wp2_with fail
  refine (spec_l4Find B size next ea en ec va vn vc ra rn rc la ln lc vs tt _ (hV.below hBw1) z3).mono ?_
  rintro e wA ⟨rfl, hBA⟩
  rw [hto]
  simp only [idxV]
  have C' := C.below hBA
  have D' := D.below hBA
  have O' := O.below hBA
  have hBwA := chain hBw1 hBA
  have hsA := hBA.size
  clear c0 c1 c2 c3 c4 c5 o0 o1 o2 o3 x0 x1 x2 x3 x4 x5 f0 f1 f2 f3 f4 f5 C D O
  obtain ⟨c0, c1, c2, c3, c4, c5⟩ := C'.six'
  have o0 : wA.cell? ⟨w.heap.size + 1, 0, none⟩ = some (.int .i64 6) := O'.cell 0
  have o2 : wA.cell? ⟨w.heap.size + 1, 2, none⟩ = some (.string file) := O'.cell 2
  have o3 : wA.cell? ⟨w.heap.size + 1, 3, none⟩ = some (.string tt) := O'.cell 3
  obtain ⟨x0, x1, x2, x3, x4, x5⟩ := D'.six'
  have f0 := D'.frozen 0
  have f1 := D'.frozen 1
  have f2 := D'.frozen 2
  have f3 := D'.frozen 3
  have f4 := D'.frozen 4
  have f5 := D'.frozen 5
  go_wp2
  obtain ⟨W0, hg0⟩ := set6 D' (.int .i64 size) (.int .i64 next) (.slice ea en ec) (.slice va vn vc) (.slice ra rn rc) (.slice la ln lc)
  have B8 := hBwA.grown hg0 hBwA.size (fun j e => by cases e; omega)
  generalize ((((((wA.setCell ⟨w.heap.size + 2, 0, none⟩ (.int .i64 size)).setCell ⟨w.heap.size + 2, 1, none⟩ (.int .i64 next)).setCell ⟨w.heap.size + 2, 2, none⟩ (.slice ea en ec)).setCell ⟨w.heap.size + 2, 3, none⟩ (.slice va vn vc)).setCell ⟨w.heap.size + 2, 4, none⟩ (.slice ra rn rc)).setCell ⟨w.heap.size + 2, 5, none⟩ (.slice la ln lc)) = W8 at *
  refine bodyPost_ret (results_cell_tmp rfl _ W8 (w.heap.size + 2) _ _ _ _ _ rfl W0 Tryz.underlying28 rfl (by kernel_rfl) rfl) rfl ?_
  exact ⟨⟨_, 4, rfl, pv_mk _ _ _ _ _ _ _ _ _ _ _ _ _ _, by rw [hS.out], fun h => absurd h (by omega)⟩, B8.mono hBw, FrV.of B8⟩
set_option maxHeartbeats 4000000 in
set_option maxRecDepth 100000 in
theorem spec_l6Volume_snap (B : Nat) (hB0 : 0 < B) (v : Value) (p : Po) (o : Opr) (w : World) (h : PoolT B w v p) (hBw : B ≤ w.heap.size) (hd : DimP p) (hnx : 1 ≤ p.next ∧ p.next ≤ 1000000000) (hk : o.k = 6) (i : Nat) (hso : volI p.vs o.vol = some i) (hto : volI p.vs o.to = none) :
    Calls Tryz.prog 109 #[v, .agg #[.int .i64 o.k, .string o.vol, .string o.file, .string o.to, .string o.into, .int .i64 o.at', .int .i64 o.fr, .int .i64 o.ln, .string o.data]] w fun e w' => (∃ v' c, e = .returned (.tuple #[v', .int .i64 c]) ∧ PoolV v' ∧ c = (volS p o).1 ∧ (c = 0 → PoolT B w' v' (volS p o).2)) ∧ Below B w w' ∧ FrV w w' := by
  obtain ⟨ea, en, ec, va, vn, vc, ra, rn, rc, la, ln, lc, rows, rfl, h1, ⟨h2, h3⟩, h4, h5, h6⟩ := h
  obtain ⟨z1, z2, z3, z4, z5, z6, z7, z8⟩ := hd
  have hV : VsAt B w va vn p.vs := h3.rows.vs h2
  rw [hV.len] at z3
  obtain ⟨size, next, ex, vs, rf, lt⟩ := p
  obtain ⟨k, vol, file, tt, into, at0, fr, ln0, data⟩ := o
  simp only at h1 h2 h3 h4 h5 hV z4 z3 hnx hk ⊢
  have _ := hB0
  have _ := hnx
  have _ := hBw
  have hlen : vs.length = vn := hV.len
  have hrl : rows.length = vn := h2.sl.len
  subst hk
  simp only at hso
  have hi := volI_lt hso
  have hin : i < vn := by omega
  have hx : vs[i]? = some vs[i] := by simp [hi]
  have hip : (0 : Int) ≤ (i : Int) := by omega
  have hip2 : (i : Int) < vn := by omega
  simp only at hto
  obtain ⟨m1, m2, m3⟩ := z4 _ (List.mem_of_getElem? hx)
  have hr : rows[i]? = some (rows[i]'(by omega)) := by simp [hrl, hin]
  have VT := h3.at' i _ _ hr hx
  generalize rows[i]'(by omega) = r0 at *
  generalize vs[i] = x at *
  obtain ⟨rid, rnm, rfx, pa0, pn0, pc0⟩ := r0
  obtain ⟨e1, e2, e3, irows, RI, TI⟩ := VT
  simp only at e1 e2 e3 RI
  subst e1 e2 e3
  obtain ⟨vb, rfl, hvb, hvc1, hvc2⟩ := h2.addr (by omega)
  have hS : Hid (volS ⟨size, next, ex, vs, rf, lt⟩ ⟨6, vol, file, tt, into, at0, fr, ln0, data⟩ = (0, ⟨size, next + 1, ex, vs ++ [⟨next, tt, false, x.its⟩], rf, lt⟩)) := by show _ = _; simp [volS, hso, hx, hto]
  generalize volS ⟨size, next, ex, vs, rf, lt⟩ ⟨6, vol, file, tt, into, at0, fr, ln0, data⟩ = R at *
  have hwr : IntKind.i64.wrap (next + 1) = next + 1 := by rw [IntKind.wrap_i64]; omega
  go_enter Tryz.func109, Tryz.ntmps109
  go_wp2_with fail
  refine (spec_l4Find B size next ea en ec (some ⟨vb, 0, none⟩) vn vc ra rn rc la ln lc vs vol _ (hV.below (by go_grown)) z3).mono ?_
  rintro e w1 ⟨rfl, hB1⟩
  have C : Blk w1 w.heap.size #[.int .i64 size, .int .i64 next, .slice ea en ec, .slice (some ⟨vb, 0, none⟩) vn vc, .slice ra rn rc, .slice la ln lc] 28 := (((Blk.new w _ _).alloc _).alloc _).below hB1
  have O : Blk w1 (w.heap.size + 1) #[.int .i64 6, .string vol, .string file, .string tt, .string into, .int .i64 at0, .int .i64 fr, .int .i64 ln0, .string data] 102 := ((Blk.new' _ _ _ _ (by simp)).alloc _).below hB1
  have D : Blk w1 (w.heap.size + 2) #[.int .i64 0, .int .i64 0, .slice none 0 0, .slice none 0 0, .slice none 0 0, .slice none 0 0] 28 := (Blk.new' _ _ _ _ (by simp)).below hB1
  have hBw1 : Below w.heap.size w w1 := chain (by go_grown) hB1
  have hs1 : w.heap.size + 3 ≤ w1.heap.size := by have := hB1.size; simp at this; omega
  clear hB1
  obtain ⟨c0, c1, c2, c3, c4, c5⟩ := C.six'
  have o0 : w1.cell? ⟨w.heap.size + 1, 0, none⟩ = some (.int .i64 6) := O.cell 0
  have o1 : w1.cell? ⟨w.heap.size + 1, 1, none⟩ = some (.string vol) := O.cell 1
  have o2 : w1.cell? ⟨w.heap.size + 1, 2, none⟩ = some (.string file) := O.cell 2
  have o3 : w1.cell? ⟨w.heap.size + 1, 3, none⟩ = some (.string tt) := O.cell 3
  obtain ⟨x0, x1, x2, x3, x4, x5⟩ := D.six'
  have f0 := D.frozen 0
  have f1 := D.frozen 1
  have f2 := D.frozen 2
  have f3 := D.frozen 3
  have f4 := D.frozen 4
  have f5 := D.frozen 5
  rw [hso]
  simp only [idxV]
  go_wp2_with fail
  refine (spec_l4Find B size next ea en ec (some ⟨vb, 0, none⟩) vn vc ra rn rc la ln lc vs tt _ (hV.below hBw1) z3).mono ?_
  rintro e wA ⟨rfl, hBA⟩
  rw [hto]
  simp only [idxV]
  have C' := C.below hBA
  have D' := D.below hBA
  have O' := O.below hBA
  have hBwA := chain hBw1 hBA
  have hsA := hBA.size
  clear c0 c1 c2 c3 c4 c5 o0 o1 o2 o3 x0 x1 x2 x3 x4 x5 f0 f1 f2 f3 f4 f5 C D O
  obtain ⟨c0, c1, c2, c3, c4, c5⟩ := C'.six'
  have o0 : wA.cell? ⟨w.heap.size + 1, 0, none⟩ = some (.int .i64 6) := O'.cell 0
  have o2 : wA.cell? ⟨w.heap.size + 1, 2, none⟩ = some (.string file) := O'.cell 2
  have o3 : wA.cell? ⟨w.heap.size + 1, 3, none⟩ = some (.string tt) := O'.cell 3
  obtain ⟨x0, x1, x2, x3, x4, x5⟩ := D'.six'
  have f0 := D'.frozen 0
  have f1 := D'.frozen 1
  have f2 := D'.frozen 2
  have f3 := D'.frozen 3
  have f4 := D'.frozen 4
  have f5 := D'.frozen 5
  have RA := h2.below hBwA
  have e0 : wA.cell? ⟨vb, i * 4, none⟩ = some (.int .i64 x.id) := RA.cellAt (j := 0) hr rfl
  have e1 : wA.cell? ⟨vb, i * 4 + 1, none⟩ = some (.string x.nm) := RA.cellAt (j := 1) hr rfl
  have e2 : wA.cell? ⟨vb, i * 4 + 2, none⟩ = some (.bool x.fx) := RA.cellAt (j := 2) hr rfl
  have e3 : wA.cell? ⟨vb, i * 4 + 3, none⟩ = some (.slice pa0 pn0 pc0) := RA.cellAt (j := 3) hr rfl
  have IA : ItsAt B wA pa0 pn0 x.its := (TI.below hBwA).rows.its (RI.below hBwA)
  rw [IA.len] at m2
  go_wp2_with fail
  refine (spec_l4CopyVol B hB0 x.id x.nm x.fx x.its pa0 pn0 pc0 _ IA m2 (fun y hy => (m3 y hy).2)).mono ?_
  rintro e wB ⟨⟨pa, pc, jrows, rfl, RJ, TJ⟩, hBB⟩
  have hBwB := chain hBwA hBB
  have hsB := hBB.size
  have hBX : Below wB.heap.size wB (wB.alloc (.cells #[.int .i64 next, .string tt, .bool false, .slice pa pn0 pc] 41)) := (Below.refl _ _).alloc (Nat.le_refl _) _
  have hsX := hBX.size
  have hBwX := chain hBwB hBX
  have CX := (C'.below hBB).below hBX
  have DX := (D'.below hBB).below hBX
  have RX := h2.below hBwX
  have k1 := bcell hBB c1
  have k3 := bcell hBB c3
  have k9 := bcell hBB o3
  have n0 : ¬ w.heap.size = wB.heap.size := by omega
  have n1 : ¬ w.heap.size + 1 = wB.heap.size := by omega
  have n2 : ¬ wB.heap.size = w.heap.size := by omega
  have n3 : ¬ wB.heap.size = w.heap.size + 1 := by omega
  have k1' := fun ob => acell (w := wB) ob k1
  have k3' := fun ob => acell (w := wB) ob k3
  have k9' := fun ob => acell (w := wB) ob k9
  go_wp2_with (at_builtin; refine wpList_app rfl (fun K hK => wp_appV _ _ rfl B (some ⟨vb, 0, none⟩) vn vc rows rfl (RX.alloc _) _ 1 1 [(⟨next, tt, false, pa, pn0, pc⟩ : VR)] rfl (sl_newVo _ (⟨next, tt, false, pa, pn0, pc⟩ : VR) _ _ (by simp)) (fun ad h => (by cases h; rfl)) (fun h => (by cases h)) (vn + 1) rfl (by omega) (by simp; omega) (fun a2 cap2 w2 R2 hg2 => hK _ _ ?_)); have hge2 : ∀ j, Value.ownBlock (.slice (some ⟨vb, 0, none⟩) vn vc) = some j → B ≤ j := own_ge fun ad had => (h2.block ad had).1; have ht2 := (RX.alloc (.cells #[.int .i64 next, .string tt, .bool false, .slice pa pn0 pc] 41)).rowTy (m := vn) (k := vc); have hs2 := hg2.size; have C2 := (CX.alloc (.cells #[.int .i64 next, .string tt, .bool false, .slice pa pn0 pc] 41)).ty hg2 ht2 (by decide); have D2 := (DX.alloc (.cells #[.int .i64 next, .string tt, .bool false, .slice pa pn0 pc] 41)).ty hg2 ht2 (by decide); have hB2 := ((hBwX.alloc hBwX.size (.cells #[.int .i64 next, .string tt, .bool false, .slice pa pn0 pc] 41)).mono hBw).grown hg2 (by simp; omega) hge2; have P2 : PoolT B w2 (.agg #[.int .i64 size, .int .i64 (next + 1), .slice ea en ec, .slice a2 (vn + 1) cap2, .slice ra rn rc, .slice la ln lc]) ⟨size, next + 1, ex, vs ++ [⟨next, tt, false, x.its⟩], rf, lt⟩ := ⟨ea, en, ec, a2, vn + 1, cap2, ra, rn, rc, la, ln, lc, rows ++ [(⟨next, tt, false, pa, pn0, pc⟩ : VR)], rfl, ((h1.below hBwX).alloc (.cells #[.int .i64 next, .string tt, .bool false, .slice pa pn0 pc] 41)).ty hg2 ht2 (by decide), ⟨R2, ((h3.below (hBwX.alloc hBwX.size (.cells #[.int .i64 next, .string tt, .bool false, .slice pa pn0 pc] 41))).ty hg2 ht2 (by decide) (by decide)).snoc ⟨rfl, rfl, rfl, jrows, (((RJ.below hBX).alloc (.cells #[.int .i64 next, .string tt, .bool false, .slice pa pn0 pc] 41)).ty hg2 ht2 (by decide)).mono (by omega), ((TJ.below (hBX.alloc hBX.size (.cells #[.int .i64 next, .string tt, .bool false, .slice pa pn0 pc] 41))).ty hg2 ht2 (by decide)).mono (by omega)⟩⟩, ((h4.below hBwX).alloc (.cells #[.int .i64 next, .string tt, .bool false, .slice pa pn0 pc] 41)).ty hg2 ht2 (by decide), ((h5.below hBwX).alloc (.cells #[.int .i64 next, .string tt, .bool false, .slice pa pn0 pc] 41)).ty hg2 ht2 (by decide), h6⟩; obtain ⟨y0, y1, y2, y3, y4, y5⟩ := C2.six'; obtain ⟨q0, q1, q2, q3, q4, q5⟩ := D2.six'; have g1 := C2.frozen 1; have g3 := C2.frozen 3; have m0 := D2.frozen 0; have m1 := D2.frozen 1; have m2 := D2.frozen 2; have m3 := D2.frozen 3; have m4 := D2.frozen 4; have m5 := D2.frozen 5)
  simp only [World.size_alloc] at hs2
  have hgC : w2.grownBy ((w2.setCell ⟨w.heap.size, 3, none⟩ (.slice a2 (vn + 1) cap2)).setCell ⟨w.heap.size, 1, none⟩ (.int .i64 (next + 1))) (some w.heap.size) := grown_set (gset w2 w.heap.size 3 (.slice a2 (vn + 1) cap2)) 1 (.int .i64 (next + 1))
  have D3 : Blk ((w2.setCell ⟨w.heap.size, 3, none⟩ (.slice a2 (vn + 1) cap2)).setCell ⟨w.heap.size, 1, none⟩ (.int .i64 (next + 1))) (w.heap.size + 2) _ _ := (hgC.block _ D2.lt (by simp only [ne_eq, Option.some.injEq]; omega)).trans D2
  obtain ⟨W0, hg0⟩ := set6 D3 (.int .i64 size) (.int .i64 (next + 1)) (.slice ea en ec) (.slice a2 (vn + 1) cap2) (.slice ra rn rc) (.slice la ln lc)
  have PF := (P2.tyP hgC (rowTy_blk C2)).tyP hg0 (rowTy_blk D3)
  have hs3 := hgC.size
  have B8 := (hB2.grown hgC (by omega) (fun j e => by cases e; omega)).grown hg0 (by omega) (fun j e => by cases e; omega)
  have FT := fun (k : Nat) (c : Array Value) (t : TypeId) (hb : Blk w k c t) (hne : t ≠ 41) => (((((hb.below hBwX).alloc (.cells #[.int .i64 next, .string tt, .bool false, .slice pa pn0 pc] 41)).ty hg2 ht2 hne)).offB hgC (B := w.heap.size) (fun j e => by cases e; omega) hb.lt).offB hg0 (B := w.heap.size) (fun j e => by cases e; omega) hb.lt
  generalize ((((((((w2.setCell ⟨w.heap.size, 3, none⟩ (.slice a2 (vn + 1) cap2)).setCell ⟨w.heap.size, 1, none⟩ (.int .i64 (next + 1))).setCell ⟨w.heap.size + 2, 0, none⟩ (.int .i64 size)).setCell ⟨w.heap.size + 2, 1, none⟩ (.int .i64 (next + 1))).setCell ⟨w.heap.size + 2, 2, none⟩ (.slice ea en ec)).setCell ⟨w.heap.size + 2, 3, none⟩ (.slice a2 (vn + 1) cap2)).setCell ⟨w.heap.size + 2, 4, none⟩ (.slice ra rn rc)).setCell ⟨w.heap.size + 2, 5, none⟩ (.slice la ln lc)) = W8 at *
  refine bodyPost_ret (results_cell_tmp rfl _ W8 (w.heap.size + 2) _ _ _ _ _ rfl W0 Tryz.underlying28 rfl (by kernel_rfl) rfl) rfl ?_
  exact ⟨⟨_, 0, rfl, pv_mk _ _ _ _ _ _ _ _ _ _ _ _ _ _, by rw [hS.out], fun _ => by rw [hS.out]; exact PF⟩, B8, FT⟩
end Go.Proofs.YtnjefbkhibfgmaaGreat
namespace Go.Proofs.YtnjefbkhibfgmaaGreat
open Go Go.RowKit Go.BigFrame
theorem ResAt.blkAt {α : Type} {cs : α → List Value} {sz : Nat} {t : TypeId} {w : World} {B n cap b : Nat} {l : List α} (h : ResAt cs sz t w B (some ⟨b, 0, none⟩) n cap l) : ∃ c, Blk w b c t := by
  rcases h.own with ⟨h0, _⟩ | ⟨b', e, _, _, _, c, hc, _⟩
  · cases h0
  · cases e; exact ⟨c, hc⟩
set_option maxHeartbeats 4000000 in
set_option maxRecDepth 100000 in
theorem spec_l6Volume_fixed (B : Nat) (hB0 : 0 < B) (v : Value) (p : Po) (o : Opr) (w : World) (h : PoolT B w v p) (hBw : B ≤ w.heap.size) (hd : DimP p) (hnx : 1 ≤ p.next ∧ p.next ≤ 1000000000) (hk : o.k = 8) (i : Nat) (hso : volI p.vs o.vol = some i) (hfx : ∀ x : Vo, p.vs[i]? = some x → x.fx = true) :
    Calls Tryz.prog 109 #[v, .agg #[.int .i64 o.k, .string o.vol, .string o.file, .string o.to, .string o.into, .int .i64 o.at', .int .i64 o.fr, .int .i64 o.ln, .string o.data]] w fun e w' => (∃ v' c, e = .returned (.tuple #[v', .int .i64 c]) ∧ PoolV v' ∧ c = (volS p o).1 ∧ (c = 0 → PoolT B w' v' (volS p o).2)) ∧ Below B w w' ∧ FrV w w' := by
  obtain ⟨ea, en, ec, va, vn, vc, ra, rn, rc, la, ln, lc, rows, rfl, h1, ⟨h2, h3⟩, h4, h5, h6⟩ := h
  obtain ⟨z1, z2, z3, z4, z5, z6, z7, z8⟩ := hd
  have hV : VsAt B w va vn p.vs := h3.rows.vs h2
  rw [hV.len] at z3
  obtain ⟨size, next, ex, vs, rf, lt⟩ := p
  obtain ⟨k, vol, file, tt, into, at0, fr, ln0, data⟩ := o
  simp only at h1 h2 h3 h4 h5 hV z4 z3 hnx hk ⊢
  have _ := hB0
  have _ := hnx
  have _ := hBw
  have hlen : vs.length = vn := hV.len
  have hrl : rows.length = vn := h2.sl.len
  subst hk
  simp only at hso
  have hi := volI_lt hso
  have hin : i < vn := by omega
  have hx : vs[i]? = some vs[i] := by simp [hi]
  have hip : (0 : Int) ≤ (i : Int) := by omega
  have hip2 : (i : Int) < vn := by omega
  have hr : rows[i]? = some (rows[i]'(by omega)) := by simp [hrl, hin]
  have VT := h3.at' i _ _ hr hx
  generalize rows[i]'(by omega) = r0 at *
  generalize vs[i] = x at *
  obtain ⟨rid, rnm, rfx, pa0, pn0, pc0⟩ := r0
  obtain ⟨e1, e2, e3, irows, RI, TI⟩ := VT
  simp only at e1 e2 e3 RI
  subst e1 e2 e3
  obtain ⟨vb, rfl, hvb, hvc1, hvc2⟩ := h2.addr (by omega)
  simp only at hfx
  have hf := hfx _ hx
  clear hfx
  have hS : Hid (volS ⟨size, next, ex, vs, rf, lt⟩ ⟨8, vol, file, tt, into, at0, fr, ln0, data⟩ = (6, ⟨size, next, ex, vs, rf, lt⟩)) := by show _ = _; simp [volS, hso, hx, hf]
  generalize volS ⟨size, next, ex, vs, rf, lt⟩ ⟨8, vol, file, tt, into, at0, fr, ln0, data⟩ = R at *
  go_enter Tryz.func109, Tryz.ntmps109
  go_wp2_with fail
  refine (spec_l4Find B size next ea en ec (some ⟨vb, 0, none⟩) vn vc ra rn rc la ln lc vs vol _ (hV.below (by go_grown)) z3).mono ?_
  rintro e w1 ⟨rfl, hB1⟩
  have C : Blk w1 w.heap.size #[.int .i64 size, .int .i64 next, .slice ea en ec, .slice (some ⟨vb, 0, none⟩) vn vc, .slice ra rn rc, .slice la ln lc] 28 := (((Blk.new w _ _).alloc _).alloc _).below hB1
  have O : Blk w1 (w.heap.size + 1) #[.int .i64 8, .string vol, .string file, .string tt, .string into, .int .i64 at0, .int .i64 fr, .int .i64 ln0, .string data] 102 := ((Blk.new' _ _ _ _ (by simp)).alloc _).below hB1
  have D : Blk w1 (w.heap.size + 2) #[.int .i64 0, .int .i64 0, .slice none 0 0, .slice none 0 0, .slice none 0 0, .slice none 0 0] 28 := (Blk.new' _ _ _ _ (by simp)).below hB1
  have hBw1 : Below w.heap.size w w1 := chain (by go_grown) hB1
  have hs1 : w.heap.size + 3 ≤ w1.heap.size := by have := hB1.size; simp at this; omega
  clear hB1
  obtain ⟨c0, c1, c2, c3, c4, c5⟩ := C.six'
  have o0 : w1.cell? ⟨w.heap.size + 1, 0, none⟩ = some (.int .i64 8) := O.cell 0
  have o1 : w1.cell? ⟨w.heap.size + 1, 1, none⟩ = some (.string vol) := O.cell 1
  have o2 : w1.cell? ⟨w.heap.size + 1, 2, none⟩ = some (.string file) := O.cell 2
  have o3 : w1.cell? ⟨w.heap.size + 1, 3, none⟩ = some (.string tt) := O.cell 3
  obtain ⟨x0, x1, x2, x3, x4, x5⟩ := D.six'
  have f0 := D.frozen 0
  have f1 := D.frozen 1
  have f2 := D.frozen 2
  have f3 := D.frozen 3
  have f4 := D.frozen 4
  have f5 := D.frozen 5
  rw [hso]
  simp only [idxV]
  have RA := h2.below hBw1
  have e0 : w1.cell? ⟨vb, i * 4, none⟩ = some (.int .i64 x.id) := RA.cellAt (j := 0) hr rfl
  have e1 : w1.cell? ⟨vb, i * 4 + 1, none⟩ = some (.string x.nm) := RA.cellAt (j := 1) hr rfl
  have e2 : w1.cell? ⟨vb, i * 4 + 2, none⟩ = some (.bool x.fx) := RA.cellAt (j := 2) hr rfl
  have e3 : w1.cell? ⟨vb, i * 4 + 3, none⟩ = some (.slice pa0 pn0 pc0) := RA.cellAt (j := 3) hr rfl
  rw [hf] at e2
  go_wp2
  obtain ⟨W0, hg0⟩ := set6 D (.int .i64 size) (.int .i64 next) (.slice ea en ec) (.slice (some ⟨vb, 0, none⟩) vn vc) (.slice ra rn rc) (.slice la ln lc)
  have B8 := hBw1.grown hg0 hBw1.size (fun j e => by cases e; omega)
  generalize ((((((w1.setCell ⟨w.heap.size + 2, 0, none⟩ (.int .i64 size)).setCell ⟨w.heap.size + 2, 1, none⟩ (.int .i64 next)).setCell ⟨w.heap.size + 2, 2, none⟩ (.slice ea en ec)).setCell ⟨w.heap.size + 2, 3, none⟩ (.slice (some ⟨vb, 0, none⟩) vn vc)).setCell ⟨w.heap.size + 2, 4, none⟩ (.slice ra rn rc)).setCell ⟨w.heap.size + 2, 5, none⟩ (.slice la ln lc)) = W8 at *
  refine bodyPost_ret (results_cell_tmp rfl _ W8 (w.heap.size + 2) _ _ _ _ _ rfl W0 Tryz.underlying28 rfl (by kernel_rfl) rfl) rfl ?_
  exact ⟨⟨_, 6, rfl, pv_mk _ _ _ _ _ _ _ _ _ _ _ _ _ _, by rw [hS.out], fun h => absurd h (by omega)⟩, B8.mono hBw, FrV.of B8⟩
set_option maxHeartbeats 4000000 in
set_option maxRecDepth 100000 in
theorem spec_l6Volume_fix (B : Nat) (hB0 : 0 < B) (v : Value) (p : Po) (o : Opr) (w : World) (h : PoolT B w v p) (hBw : B ≤ w.heap.size) (hd : DimP p) (hnx : 1 ≤ p.next ∧ p.next ≤ 1000000000) (hk : o.k = 8) (i : Nat) (hso : volI p.vs o.vol = some i) (hfx : ∀ x : Vo, p.vs[i]? = some x → x.fx = false) :
    Calls Tryz.prog 109 #[v, .agg #[.int .i64 o.k, .string o.vol, .string o.file, .string o.to, .string o.into, .int .i64 o.at', .int .i64 o.fr, .int .i64 o.ln, .string o.data]] w fun e w' => (∃ v' c, e = .returned (.tuple #[v', .int .i64 c]) ∧ PoolV v' ∧ c = (volS p o).1 ∧ (c = 0 → PoolT B w' v' (volS p o).2)) ∧ Below B w w' ∧ FrV w w' := by
  obtain ⟨ea, en, ec, va, vn, vc, ra, rn, rc, la, ln, lc, rows, rfl, h1, ⟨h2, h3⟩, h4, h5, h6⟩ := h
  obtain ⟨z1, z2, z3, z4, z5, z6, z7, z8⟩ := hd
  have hV : VsAt B w va vn p.vs := h3.rows.vs h2
  rw [hV.len] at z3
  obtain ⟨size, next, ex, vs, rf, lt⟩ := p
  obtain ⟨k, vol, file, tt, into, at0, fr, ln0, data⟩ := o
  simp only at h1 h2 h3 h4 h5 hV z4 z3 hnx hk ⊢
  have _ := hB0
  have _ := hnx
  have _ := hBw
  have hlen : vs.length = vn := hV.len
  have hrl : rows.length = vn := h2.sl.len
  subst hk
  simp only at hso
  have hi := volI_lt hso
  have hin : i < vn := by omega
  have hx : vs[i]? = some vs[i] := by simp [hi]
  have hip : (0 : Int) ≤ (i : Int) := by omega
  have hip2 : (i : Int) < vn := by omega
  have hr : rows[i]? = some (rows[i]'(by omega)) := by simp [hrl, hin]
  have VT := h3.at' i _ _ hr hx
  generalize rows[i]'(by omega) = r0 at *
  generalize vs[i] = x at *
  obtain ⟨rid, rnm, rfx, pa0, pn0, pc0⟩ := r0
  obtain ⟨e1, e2, e3, irows, RI, TI⟩ := VT
  simp only at e1 e2 e3 RI
  subst e1 e2 e3
  obtain ⟨vb, rfl, hvb, hvc1, hvc2⟩ := h2.addr (by omega)
  simp only at hfx
  have hf := hfx _ hx
  clear hfx
  have hS : Hid (volS ⟨size, next, ex, vs, rf, lt⟩ ⟨8, vol, file, tt, into, at0, fr, ln0, data⟩ = (0, ⟨size, next, ex, vs.set i ⟨x.id, x.nm, true, x.its⟩, rf, lt⟩)) := by show _ = _; simp [volS, hso, hx, hf]
  generalize volS ⟨size, next, ex, vs, rf, lt⟩ ⟨8, vol, file, tt, into, at0, fr, ln0, data⟩ = R at *
  go_enter Tryz.func109, Tryz.ntmps109
  go_wp2_with fail
  refine (spec_l4Find B size next ea en ec (some ⟨vb, 0, none⟩) vn vc ra rn rc la ln lc vs vol _ (hV.below (by go_grown)) z3).mono ?_
  rintro e w1 ⟨rfl, hB1⟩
  have C : Blk w1 w.heap.size #[.int .i64 size, .int .i64 next, .slice ea en ec, .slice (some ⟨vb, 0, none⟩) vn vc, .slice ra rn rc, .slice la ln lc] 28 := (((Blk.new w _ _).alloc _).alloc _).below hB1
  have O : Blk w1 (w.heap.size + 1) #[.int .i64 8, .string vol, .string file, .string tt, .string into, .int .i64 at0, .int .i64 fr, .int .i64 ln0, .string data] 102 := ((Blk.new' _ _ _ _ (by simp)).alloc _).below hB1
  have D : Blk w1 (w.heap.size + 2) #[.int .i64 0, .int .i64 0, .slice none 0 0, .slice none 0 0, .slice none 0 0, .slice none 0 0] 28 := (Blk.new' _ _ _ _ (by simp)).below hB1
  have hBw1 : Below w.heap.size w w1 := chain (by go_grown) hB1
  have hs1 : w.heap.size + 3 ≤ w1.heap.size := by have := hB1.size; simp at this; omega
  clear hB1
  obtain ⟨c0, c1, c2, c3, c4, c5⟩ := C.six'
  have o0 : w1.cell? ⟨w.heap.size + 1, 0, none⟩ = some (.int .i64 8) := O.cell 0
  have o1 : w1.cell? ⟨w.heap.size + 1, 1, none⟩ = some (.string vol) := O.cell 1
  have o2 : w1.cell? ⟨w.heap.size + 1, 2, none⟩ = some (.string file) := O.cell 2
  have o3 : w1.cell? ⟨w.heap.size + 1, 3, none⟩ = some (.string tt) := O.cell 3
  obtain ⟨x0, x1, x2, x3, x4, x5⟩ := D.six'
  have f0 := D.frozen 0
  have f1 := D.frozen 1
  have f2 := D.frozen 2
  have f3 := D.frozen 3
  have f4 := D.frozen 4
  have f5 := D.frozen 5
  rw [hso]
  simp only [idxV]
  have RA := h2.below hBw1
  have e0 : w1.cell? ⟨vb, i * 4, none⟩ = some (.int .i64 x.id) := RA.cellAt (j := 0) hr rfl
  have e1 : w1.cell? ⟨vb, i * 4 + 1, none⟩ = some (.string x.nm) := RA.cellAt (j := 1) hr rfl
  have e2 : w1.cell? ⟨vb, i * 4 + 2, none⟩ = some (.bool x.fx) := RA.cellAt (j := 2) hr rfl
  have e3 : w1.cell? ⟨vb, i * 4 + 3, none⟩ = some (.slice pa0 pn0 pc0) := RA.cellAt (j := 3) hr rfl
  rw [hf] at e2
  obtain ⟨vcs, VB⟩ := RA.blkAt
  have fz := VB.frozen (i * 4 + 2)
  have hg1 := gset w1 vb (i * 4 + 2) (.bool true)
  have htV : RowTy w1 (some vb) 41 := rowTy_blk VB
  have R1 : ResAt vrs 4 41 (w1.setCell ⟨vb, i * 4 + 2, none⟩ (.bool true)) B (some ⟨vb, 0, none⟩) vn vc (rows.set i ⟨x.id, x.nm, true, pa0, pn0, pc0⟩) := ResAt.set1 vrs_len RA hr (by omega) rfl
  have T1 := ((h3.below hBw1).ty hg1 htV (by decide) (by decide)).set i (show VolT B _ ⟨x.id, x.nm, true, pa0, pn0, pc0⟩ ⟨x.id, x.nm, true, x.its⟩ from ⟨rfl, rfl, rfl, irows, (RI.below hBw1).ty hg1 htV (by decide), (TI.below hBw1).ty hg1 htV (by decide)⟩)
  have C1 := C.ty hg1 htV (by decide)
  have D1 := D.ty hg1 htV (by decide)
  have P2 : PoolT B (w1.setCell ⟨vb, i * 4 + 2, none⟩ (.bool true)) (.agg #[.int .i64 size, .int .i64 next, .slice ea en ec, .slice (some ⟨vb, 0, none⟩) vn vc, .slice ra rn rc, .slice la ln lc]) ⟨size, next, ex, vs.set i ⟨x.id, x.nm, true, x.its⟩, rf, lt⟩ := ⟨ea, en, ec, some ⟨vb, 0, none⟩, vn, vc, ra, rn, rc, la, ln, lc, _, rfl, (h1.below hBw1).ty hg1 htV (by decide), ⟨R1, T1⟩, (h4.below hBw1).ty hg1 htV (by decide), (h5.below hBw1).ty hg1 htV (by decide), h6⟩
  obtain ⟨y0, y1, y2, y3, y4, y5⟩ := C1.six'
  obtain ⟨q0, q1, q2, q3, q4, q5⟩ := D1.six'
  have m0 := D1.frozen 0
  have m1 := D1.frozen 1
  have m2 := D1.frozen 2
  have m3 := D1.frozen 3
  have m4 := D1.frozen 4
  have m5 := D1.frozen 5
  have hB2 := (hBw1.mono hBw).grown hg1 (by have := hBw1.size; omega) (fun j e => by cases e; exact hvb)
  have hs2 := hg1.size
  go_wp2
  obtain ⟨W0, hg0⟩ := set6 D1 (.int .i64 size) (.int .i64 next) (.slice ea en ec) (.slice (some ⟨vb, 0, none⟩) vn vc) (.slice ra rn rc) (.slice la ln lc)
  have PF := P2.tyP hg0 (rowTy_blk D1)
  have B8 := hB2.grown hg0 (by have := hBw1.size; omega) (fun j e => by cases e; omega)
  have FT := fun (k : Nat) (c : Array Value) (t : TypeId) (hb : Blk w k c t) (hne : t ≠ 41) => ((hb.below hBw1).ty hg1 htV hne).offB hg0 (B := w.heap.size) (fun j e => by cases e; omega) hb.lt
  generalize (((((((w1.setCell ⟨vb, i * 4 + 2, none⟩ (.bool true)).setCell ⟨w.heap.size + 2, 0, none⟩ (.int .i64 size)).setCell ⟨w.heap.size + 2, 1, none⟩ (.int .i64 next)).setCell ⟨w.heap.size + 2, 2, none⟩ (.slice ea en ec)).setCell ⟨w.heap.size + 2, 3, none⟩ (.slice (some ⟨vb, 0, none⟩) vn vc)).setCell ⟨w.heap.size + 2, 4, none⟩ (.slice ra rn rc)).setCell ⟨w.heap.size + 2, 5, none⟩ (.slice la ln lc)) = W8 at *
  refine bodyPost_ret (results_cell_tmp rfl _ W8 (w.heap.size + 2) _ _ _ _ _ rfl W0 Tryz.underlying28 rfl (by kernel_rfl) rfl) rfl ?_
  exact ⟨⟨_, 0, rfl, pv_mk _ _ _ _ _ _ _ _ _ _ _ _ _ _, by rw [hS.out], fun _ => by rw [hS.out]; exact PF⟩, B8, FT⟩
end Go.Proofs.YtnjefbkhibfgmaaGreat
