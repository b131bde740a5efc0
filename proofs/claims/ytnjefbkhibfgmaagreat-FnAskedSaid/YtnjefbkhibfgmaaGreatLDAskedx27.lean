/- Files that are not there, and copies that are refused, by the model. -/
import Derived.Test.YtnjefbkhibfgmaaGreatLDAskedx23
namespace Go.Proofs.YtnjefbkhibfgmaaGreat
open Go Go.RowKit Go.BigFrame
set_option maxHeartbeats 4000000 in
set_option maxRecDepth 100000 in
theorem spec_l6File_cutNone (B : Nat) (hB0 : 0 < B) (v : Value) (p : Po) (o : Opr) (w : World) (h : PoolT B w v p) (hNn : NnE v) (hBw : B ≤ w.heap.size) (hd : DimP p) (hp : poolB p = true) (hk : o.k = 3) (i : Nat) (hso : volI p.vs o.vol = some i) (hfx : ∀ x : Vo, p.vs[i]? = some x → x.fx = false) (hpo : partsO p.vs o.vol o.file = none) :
    Calls Tryz.prog 108 #[v, .agg #[.int .i64 o.k, .string o.vol, .string o.file, .string o.to, .string o.into, .int .i64 o.at', .int .i64 o.fr, .int .i64 o.ln, .string o.data]] w fun e w' => (∃ v' c, e = .returned (.tuple #[v', .int .i64 c]) ∧ PoolV v' ∧ c = (fileS p o).1 ∧ (c = 0 → PoolT B w' v' (fileS p o).2 ∧ (partsS p o).2.2.length ≤ 1000)) ∧ Below B w w' ∧ FrV w w' := by
  have hPA := h.at'
  obtain ⟨ea, en, ec, va, vn, vc, ra, rn, rc, la, ln, lc, rows, rfl, h1, ⟨h2, h3⟩, h4, h5, h6⟩ := h
  have hdm := hd
  obtain ⟨z1, z2, z3, z4, z5, z6, z7, z8⟩ := hd
  have hV : VsAt B w va vn p.vs := h3.rows.vs h2
  rw [hV.len] at z3
  obtain ⟨size, next, ex, vs, rf, lt⟩ := p
  obtain ⟨k, vol, file, tt, into, at0, fr, ln0, data⟩ := o
  simp only at h1 h2 h3 h4 h5 hV z4 z3 hPA hp hk ⊢
  have _ := hB0
  have _ := hNn
  have _ := hBw
  have _ := hp
  have hlen : vs.length = vn := hV.len
  have hrl : rows.length = vn := h2.sl.len
  simp only at hso hfx hpo
  subst hk
  have hi := volI_lt hso
  have hin : i < vn := by omega
  have hx : vs[i]? = some vs[i] := by simp [hi]
  have hip : (0 : Int) ≤ (i : Int) := by omega
  have hip2 : (i : Int) < vn := by omega
  have hr : rows[i]? = some (rows[i]'(by omega)) := by simp [hrl, hin]
  have VT := h3.at' i _ _ hr hx
  generalize rows[i]'(by omega) = r0 at *
  generalize vs[i] = x at *
  obtain ⟨rid, rnm, rfx, pa0, pn0, pc0⟩ := r0
  obtain ⟨e1, e2, e3, irows, RI, TI⟩ := VT
  simp only at e1 e2 e3 RI
  subst e1 e2 e3
  obtain ⟨vb, rfl, hvb, hvc1, hvc2⟩ := h2.addr (by omega)
  have hf := hfx _ hx
  clear hfx
  have hPS : partsS ⟨size, next, ex, vs, rf, lt⟩ ⟨3, vol, file, tt, into, at0, fr, ln0, data⟩ = (3, ex, []) := by simp [partsS, hpo]
  have hS : Hid (fileS ⟨size, next, ex, vs, rf, lt⟩ ⟨3, vol, file, tt, into, at0, fr, ln0, data⟩ = (3, ⟨size, next, ex, vs, rf, lt⟩)) := by show _ = _; simp [fileS, hso, hx, hf, hPS]
  generalize hPq : partsS ⟨size, next, ex, vs, rf, lt⟩ ⟨3, vol, file, tt, into, at0, fr, ln0, data⟩ = PS at *
  replace hPq : Hid (partsS ⟨size, next, ex, vs, rf, lt⟩ ⟨3, vol, file, tt, into, at0, fr, ln0, data⟩ = PS) := hPq
  generalize fileS ⟨size, next, ex, vs, rf, lt⟩ ⟨3, vol, file, tt, into, at0, fr, ln0, data⟩ = R at *
  have hf' : Hid (x.fx = false) := hf
  clear hf
  go_enter Tryz.func108, Tryz.ntmps108
  go_wp2_with fail
  refine (spec_l4Find B size next ea en ec (some ⟨vb, 0, none⟩) vn vc ra rn rc la ln lc vs vol _ (hV.below (by go_grown)) z3).mono ?_
  rintro e w1 ⟨rfl, hB1⟩
  have C : Blk w1 w.heap.size #[.int .i64 size, .int .i64 next, .slice ea en ec, .slice (some ⟨vb, 0, none⟩) vn vc, .slice ra rn rc, .slice la ln lc] 28 := (((Blk.new w _ _).alloc _).alloc _).below hB1
  have O : Blk w1 (w.heap.size + 1) #[.int .i64 3, .string vol, .string file, .string tt, .string into, .int .i64 at0, .int .i64 fr, .int .i64 ln0, .string data] 102 := ((Blk.new' _ _ _ _ (by simp)).alloc _).below hB1
  have D : Blk w1 (w.heap.size + 2) #[.int .i64 0, .int .i64 0, .slice none 0 0, .slice none 0 0, .slice none 0 0, .slice none 0 0] 28 := (Blk.new' _ _ _ _ (by simp)).below hB1
  have hBw1 : Below w.heap.size w w1 := chain (by go_grown) hB1
  have hs1 : w.heap.size + 3 ≤ w1.heap.size := by have := hB1.size; simp at this; omega
  clear hB1
  rw [hso]
  simp only [idxV]
  obtain ⟨c0, c1, c2, c3, c4, c5⟩ := C.six'
  have o0 : w1.cell? ⟨w.heap.size + 1, 0, none⟩ = some (.int .i64 3) := O.cell 0
  have o1 : w1.cell? ⟨w.heap.size + 1, 1, none⟩ = some (.string vol) := O.cell 1
  have o2 : w1.cell? ⟨w.heap.size + 1, 2, none⟩ = some (.string file) := O.cell 2
  have o3 : w1.cell? ⟨w.heap.size + 1, 3, none⟩ = some (.string tt) := O.cell 3
  have o4 : w1.cell? ⟨w.heap.size + 1, 4, none⟩ = some (.string into) := O.cell 4
  have o5 : w1.cell? ⟨w.heap.size + 1, 5, none⟩ = some (.int .i64 at0) := O.cell 5
  have o6 : w1.cell? ⟨w.heap.size + 1, 6, none⟩ = some (.int .i64 fr) := O.cell 6
  have o7 : w1.cell? ⟨w.heap.size + 1, 7, none⟩ = some (.int .i64 ln0) := O.cell 7
  have o8 : w1.cell? ⟨w.heap.size + 1, 8, none⟩ = some (.string data) := O.cell 8
  obtain ⟨x0, x1, x2, x3, x4, x5⟩ := D.six'
  have f0 := D.frozen 0
  have f1 := D.frozen 1
  have f2 := D.frozen 2
  have f3 := D.frozen 3
  have f4 := D.frozen 4
  have f5 := D.frozen 5
  have RA := h2.below hBw1
  have e2 : w1.cell? ⟨vb, i * 4 + 2, none⟩ = some (.bool x.fx) := RA.cellAt (j := 2) hr rfl
  rw [hf'.out] at e2
  go_wp2_with fail
  refine (spec_l5Parts B _ ⟨size, next, ex, vs, rf, lt⟩ vol file _ (hPA.below hBw1) hdm).mono ?_
  rintro e wA ⟨hret, hBA⟩
  obtain ⟨qa, qn, qc, rfl, hQ⟩ := hret.uni
  clear hret
  have hok : partsOkB ((partsO vs vol file).getD []) = true := ok_getD (p := ⟨size, next, ex, vs, rf, lt⟩) hp
  simp only at hQ ⊢
  clear c0 c1 c2 c3 c4 c5 o0 o1 o2 o3 o4 o5 o6 o7 o8 x0 x1 x2 x3 x4 x5 f0 f1 f2 f3 f4 f5
  have C' := C.below hBA
  have D' := D.below hBA
  have O' := O.below hBA
  have hBwA := chain hBw1 hBA
  have hsA := hBA.size
  clear C D O e2 RA
  obtain ⟨c0, c1, c2, c3, c4, c5⟩ := C'.six'
  have o0 : wA.cell? ⟨w.heap.size + 1, 0, none⟩ = some (.int .i64 3) := O'.cell 0
  have o1 : wA.cell? ⟨w.heap.size + 1, 1, none⟩ = some (.string vol) := O'.cell 1
  have o2 : wA.cell? ⟨w.heap.size + 1, 2, none⟩ = some (.string file) := O'.cell 2
  have o3 : wA.cell? ⟨w.heap.size + 1, 3, none⟩ = some (.string tt) := O'.cell 3
  have o4 : wA.cell? ⟨w.heap.size + 1, 4, none⟩ = some (.string into) := O'.cell 4
  have o5 : wA.cell? ⟨w.heap.size + 1, 5, none⟩ = some (.int .i64 at0) := O'.cell 5
  have o6 : wA.cell? ⟨w.heap.size + 1, 6, none⟩ = some (.int .i64 fr) := O'.cell 6
  have o7 : wA.cell? ⟨w.heap.size + 1, 7, none⟩ = some (.int .i64 ln0) := O'.cell 7
  have o8 : wA.cell? ⟨w.heap.size + 1, 8, none⟩ = some (.string data) := O'.cell 8
  obtain ⟨x0, x1, x2, x3, x4, x5⟩ := D'.six'
  have f0 := D'.frozen 0
  have f1 := D'.frozen 1
  have f2 := D'.frozen 2
  have f3 := D'.frozen 3
  have f4 := D'.frozen 4
  have f5 := D'.frozen 5
  rw [hpo] at hQ hok ⊢
  simp only [Option.getD_none, Option.isSome_none] at hQ hok ⊢
  go_wp2
  obtain ⟨W0, hg0⟩ := set6 D' (.int .i64 size) (.int .i64 next) (.slice ea en ec) (.slice (some ⟨vb, 0, none⟩) vn vc) (.slice ra rn rc) (.slice la ln lc)
  have B8 := hBwA.grown hg0 hBwA.size (fun j e => by cases e; omega)
  generalize ((((((wA.setCell ⟨w.heap.size + 2, 0, none⟩ (.int .i64 size)).setCell ⟨w.heap.size + 2, 1, none⟩ (.int .i64 next)).setCell ⟨w.heap.size + 2, 2, none⟩ (.slice ea en ec)).setCell ⟨w.heap.size + 2, 3, none⟩ (.slice (some ⟨vb, 0, none⟩) vn vc)).setCell ⟨w.heap.size + 2, 4, none⟩ (.slice ra rn rc)).setCell ⟨w.heap.size + 2, 5, none⟩ (.slice la ln lc)) = W8 at *
  refine bodyPost_ret (results_cell_tmp rfl _ W8 (w.heap.size + 2) _ _ _ _ _ rfl W0 Tryz.underlying28 rfl (by kernel_rfl) rfl) rfl ?_
  exact ⟨⟨_, 3, rfl, pv_mk _ _ _ _ _ _ _ _ _ _ _ _ _ _, by rw [hS.out], fun h => absurd h (by omega)⟩, B8.mono hBw, FrV.of B8⟩
set_option maxHeartbeats 4000000 in
set_option maxRecDepth 100000 in
theorem spec_l6File_punchNone (B : Nat) (hB0 : 0 < B) (v : Value) (p : Po) (o : Opr) (w : World) (h : PoolT B w v p) (hNn : NnE v) (hBw : B ≤ w.heap.size) (hd : DimP p) (hp : poolB p = true) (hk : o.k = 10) (i : Nat) (hso : volI p.vs o.vol = some i) (hfx : ∀ x : Vo, p.vs[i]? = some x → x.fx = false) (hpo : partsO p.vs o.vol o.file = none) :
    Calls Tryz.prog 108 #[v, .agg #[.int .i64 o.k, .string o.vol, .string o.file, .string o.to, .string o.into, .int .i64 o.at', .int .i64 o.fr, .int .i64 o.ln, .string o.data]] w fun e w' => (∃ v' c, e = .returned (.tuple #[v', .int .i64 c]) ∧ PoolV v' ∧ c = (fileS p o).1 ∧ (c = 0 → PoolT B w' v' (fileS p o).2 ∧ (partsS p o).2.2.length ≤ 1000)) ∧ Below B w w' ∧ FrV w w' := by
  have hPA := h.at'
  obtain ⟨ea, en, ec, va, vn, vc, ra, rn, rc, la, ln, lc, rows, rfl, h1, ⟨h2, h3⟩, h4, h5, h6⟩ := h
  have hdm := hd
  obtain ⟨z1, z2, z3, z4, z5, z6, z7, z8⟩ := hd
  have hV : VsAt B w va vn p.vs := h3.rows.vs h2
  rw [hV.len] at z3
  obtain ⟨size, next, ex, vs, rf, lt⟩ := p
  obtain ⟨k, vol, file, tt, into, at0, fr, ln0, data⟩ := o
  simp only at h1 h2 h3 h4 h5 hV z4 z3 hPA hp hk ⊢
  have _ := hB0
  have _ := hNn
  have _ := hBw
  have _ := hp
  have hlen : vs.length = vn := hV.len
  have hrl : rows.length = vn := h2.sl.len
  simp only at hso hfx hpo
  subst hk
  have hi := volI_lt hso
  have hin : i < vn := by omega
  have hx : vs[i]? = some vs[i] := by simp [hi]
  have hip : (0 : Int) ≤ (i : Int) := by omega
  have hip2 : (i : Int) < vn := by omega
  have hr : rows[i]? = some (rows[i]'(by omega)) := by simp [hrl, hin]
  have VT := h3.at' i _ _ hr hx
  generalize rows[i]'(by omega) = r0 at *
  generalize vs[i] = x at *
  obtain ⟨rid, rnm, rfx, pa0, pn0, pc0⟩ := r0
  obtain ⟨e1, e2, e3, irows, RI, TI⟩ := VT
  simp only at e1 e2 e3 RI
  subst e1 e2 e3
  obtain ⟨vb, rfl, hvb, hvc1, hvc2⟩ := h2.addr (by omega)
  have hf := hfx _ hx
  clear hfx
  have hPS : partsS ⟨size, next, ex, vs, rf, lt⟩ ⟨10, vol, file, tt, into, at0, fr, ln0, data⟩ = (3, ex, []) := by simp [partsS, hpo]
  have hS : Hid (fileS ⟨size, next, ex, vs, rf, lt⟩ ⟨10, vol, file, tt, into, at0, fr, ln0, data⟩ = (3, ⟨size, next, ex, vs, rf, lt⟩)) := by show _ = _; simp [fileS, hso, hx, hf, hPS]
  generalize hPq : partsS ⟨size, next, ex, vs, rf, lt⟩ ⟨10, vol, file, tt, into, at0, fr, ln0, data⟩ = PS at *
  replace hPq : Hid (partsS ⟨size, next, ex, vs, rf, lt⟩ ⟨10, vol, file, tt, into, at0, fr, ln0, data⟩ = PS) := hPq
  generalize fileS ⟨size, next, ex, vs, rf, lt⟩ ⟨10, vol, file, tt, into, at0, fr, ln0, data⟩ = R at *
  have hf' : Hid (x.fx = false) := hf
  clear hf
  go_enter Tryz.func108, Tryz.ntmps108
  go_wp2_with fail
  refine (spec_l4Find B size next ea en ec (some ⟨vb, 0, none⟩) vn vc ra rn rc la ln lc vs vol _ (hV.below (by go_grown)) z3).mono ?_
  rintro e w1 ⟨rfl, hB1⟩
  have C : Blk w1 w.heap.size #[.int .i64 size, .int .i64 next, .slice ea en ec, .slice (some ⟨vb, 0, none⟩) vn vc, .slice ra rn rc, .slice la ln lc] 28 := (((Blk.new w _ _).alloc _).alloc _).below hB1
  have O : Blk w1 (w.heap.size + 1) #[.int .i64 10, .string vol, .string file, .string tt, .string into, .int .i64 at0, .int .i64 fr, .int .i64 ln0, .string data] 102 := ((Blk.new' _ _ _ _ (by simp)).alloc _).below hB1
  have D : Blk w1 (w.heap.size + 2) #[.int .i64 0, .int .i64 0, .slice none 0 0, .slice none 0 0, .slice none 0 0, .slice none 0 0] 28 := (Blk.new' _ _ _ _ (by simp)).below hB1
  have hBw1 : Below w.heap.size w w1 := chain (by go_grown) hB1
  have hs1 : w.heap.size + 3 ≤ w1.heap.size := by have := hB1.size; simp at this; omega
  clear hB1
  rw [hso]
  simp only [idxV]
  obtain ⟨c0, c1, c2, c3, c4, c5⟩ := C.six'
  have o0 : w1.cell? ⟨w.heap.size + 1, 0, none⟩ = some (.int .i64 10) := O.cell 0
  have o1 : w1.cell? ⟨w.heap.size + 1, 1, none⟩ = some (.string vol) := O.cell 1
  have o2 : w1.cell? ⟨w.heap.size + 1, 2, none⟩ = some (.string file) := O.cell 2
  have o3 : w1.cell? ⟨w.heap.size + 1, 3, none⟩ = some (.string tt) := O.cell 3
  have o4 : w1.cell? ⟨w.heap.size + 1, 4, none⟩ = some (.string into) := O.cell 4
  have o5 : w1.cell? ⟨w.heap.size + 1, 5, none⟩ = some (.int .i64 at0) := O.cell 5
  have o6 : w1.cell? ⟨w.heap.size + 1, 6, none⟩ = some (.int .i64 fr) := O.cell 6
  have o7 : w1.cell? ⟨w.heap.size + 1, 7, none⟩ = some (.int .i64 ln0) := O.cell 7
  have o8 : w1.cell? ⟨w.heap.size + 1, 8, none⟩ = some (.string data) := O.cell 8
  obtain ⟨x0, x1, x2, x3, x4, x5⟩ := D.six'
  have f0 := D.frozen 0
  have f1 := D.frozen 1
  have f2 := D.frozen 2
  have f3 := D.frozen 3
  have f4 := D.frozen 4
  have f5 := D.frozen 5
  have RA := h2.below hBw1
  have e2 : w1.cell? ⟨vb, i * 4 + 2, none⟩ = some (.bool x.fx) := RA.cellAt (j := 2) hr rfl
  rw [hf'.out] at e2
  go_wp2_with fail
  refine (spec_l5Parts B _ ⟨size, next, ex, vs, rf, lt⟩ vol file _ (hPA.below hBw1) hdm).mono ?_
  rintro e wA ⟨hret, hBA⟩
  obtain ⟨qa, qn, qc, rfl, hQ⟩ := hret.uni
  clear hret
  have hok : partsOkB ((partsO vs vol file).getD []) = true := ok_getD (p := ⟨size, next, ex, vs, rf, lt⟩) hp
  simp only at hQ ⊢
  clear c0 c1 c2 c3 c4 c5 o0 o1 o2 o3 o4 o5 o6 o7 o8 x0 x1 x2 x3 x4 x5 f0 f1 f2 f3 f4 f5
  have C' := C.below hBA
  have D' := D.below hBA
  have O' := O.below hBA
  have hBwA := chain hBw1 hBA
  have hsA := hBA.size
  clear C D O e2 RA
  obtain ⟨c0, c1, c2, c3, c4, c5⟩ := C'.six'
  have o0 : wA.cell? ⟨w.heap.size + 1, 0, none⟩ = some (.int .i64 10) := O'.cell 0
  have o1 : wA.cell? ⟨w.heap.size + 1, 1, none⟩ = some (.string vol) := O'.cell 1
  have o2 : wA.cell? ⟨w.heap.size + 1, 2, none⟩ = some (.string file) := O'.cell 2
  have o3 : wA.cell? ⟨w.heap.size + 1, 3, none⟩ = some (.string tt) := O'.cell 3
  have o4 : wA.cell? ⟨w.heap.size + 1, 4, none⟩ = some (.string into) := O'.cell 4
  have o5 : wA.cell? ⟨w.heap.size + 1, 5, none⟩ = some (.int .i64 at0) := O'.cell 5
  have o6 : wA.cell? ⟨w.heap.size + 1, 6, none⟩ = some (.int .i64 fr) := O'.cell 6
  have o7 : wA.cell? ⟨w.heap.size + 1, 7, none⟩ = some (.int .i64 ln0) := O'.cell 7
  have o8 : wA.cell? ⟨w.heap.size + 1, 8, none⟩ = some (.string data) := O'.cell 8
  obtain ⟨x0, x1, x2, x3, x4, x5⟩ := D'.six'
  have f0 := D'.frozen 0
  have f1 := D'.frozen 1
  have f2 := D'.frozen 2
  have f3 := D'.frozen 3
  have f4 := D'.frozen 4
  have f5 := D'.frozen 5
  rw [hpo] at hQ hok ⊢
  simp only [Option.getD_none, Option.isSome_none] at hQ hok ⊢
  go_wp2
  obtain ⟨W0, hg0⟩ := set6 D' (.int .i64 size) (.int .i64 next) (.slice ea en ec) (.slice (some ⟨vb, 0, none⟩) vn vc) (.slice ra rn rc) (.slice la ln lc)
  have B8 := hBwA.grown hg0 hBwA.size (fun j e => by cases e; omega)
  generalize ((((((wA.setCell ⟨w.heap.size + 2, 0, none⟩ (.int .i64 size)).setCell ⟨w.heap.size + 2, 1, none⟩ (.int .i64 next)).setCell ⟨w.heap.size + 2, 2, none⟩ (.slice ea en ec)).setCell ⟨w.heap.size + 2, 3, none⟩ (.slice (some ⟨vb, 0, none⟩) vn vc)).setCell ⟨w.heap.size + 2, 4, none⟩ (.slice ra rn rc)).setCell ⟨w.heap.size + 2, 5, none⟩ (.slice la ln lc)) = W8 at *
  refine bodyPost_ret (results_cell_tmp rfl _ W8 (w.heap.size + 2) _ _ _ _ _ rfl W0 Tryz.underlying28 rfl (by kernel_rfl) rfl) rfl ?_
  exact ⟨⟨_, 3, rfl, pv_mk _ _ _ _ _ _ _ _ _ _ _ _ _ _, by rw [hS.out], fun h => absurd h (by omega)⟩, B8.mono hBw, FrV.of B8⟩
set_option maxHeartbeats 4000000 in
set_option maxRecDepth 100000 in
theorem spec_l6File_copyNone (B : Nat) (hB0 : 0 < B) (v : Value) (p : Po) (o : Opr) (w : World) (h : PoolT B w v p) (hNn : NnE v) (hBw : B ≤ w.heap.size) (hd : DimP p) (hp : poolB p = true) (hk : o.k = 5) (i : Nat) (hso : volI p.vs o.to = some i) (hfx : ∀ x : Vo, p.vs[i]? = some x → x.fx = false) (hsr : partsO p.vs o.vol o.file = none) :
    Calls Tryz.prog 108 #[v, .agg #[.int .i64 o.k, .string o.vol, .string o.file, .string o.to, .string o.into, .int .i64 o.at', .int .i64 o.fr, .int .i64 o.ln, .string o.data]] w fun e w' => (∃ v' c, e = .returned (.tuple #[v', .int .i64 c]) ∧ PoolV v' ∧ c = (fileS p o).1 ∧ (c = 0 → PoolT B w' v' (fileS p o).2 ∧ (partsS p o).2.2.length ≤ 1000)) ∧ Below B w w' ∧ FrV w w' := by
  have hPA := h.at'
  obtain ⟨ea, en, ec, va, vn, vc, ra, rn, rc, la, ln, lc, rows, rfl, h1, ⟨h2, h3⟩, h4, h5, h6⟩ := h
  have hdm := hd
  obtain ⟨z1, z2, z3, z4, z5, z6, z7, z8⟩ := hd
  have hV : VsAt B w va vn p.vs := h3.rows.vs h2
  rw [hV.len] at z3
  obtain ⟨size, next, ex, vs, rf, lt⟩ := p
  obtain ⟨k, vol, file, tt, into, at0, fr, ln0, data⟩ := o
  simp only at h1 h2 h3 h4 h5 hV z4 z3 hPA hp hk ⊢
  have _ := hB0
  have _ := hNn
  have _ := hBw
  have _ := hp
  have hlen : vs.length = vn := hV.len
  have hrl : rows.length = vn := h2.sl.len
  simp only at hso hfx hsr
  subst hk
  have hi := volI_lt hso
  have hin : i < vn := by omega
  have hx : vs[i]? = some vs[i] := by simp [hi]
  have hip : (0 : Int) ≤ (i : Int) := by omega
  have hip2 : (i : Int) < vn := by omega
  have hr : rows[i]? = some (rows[i]'(by omega)) := by simp [hrl, hin]
  have VT := h3.at' i _ _ hr hx
  generalize rows[i]'(by omega) = r0 at *
  generalize vs[i] = x at *
  obtain ⟨rid, rnm, rfx, pa0, pn0, pc0⟩ := r0
  obtain ⟨e1, e2, e3, irows, RI, TI⟩ := VT
  simp only at e1 e2 e3 RI
  subst e1 e2 e3
  obtain ⟨vb, rfl, hvb, hvc1, hvc2⟩ := h2.addr (by omega)
  have hf := hfx _ hx
  clear hfx
  have hPS : partsS ⟨size, next, ex, vs, rf, lt⟩ ⟨5, vol, file, tt, into, at0, fr, ln0, data⟩ = (3, ex, []) := by simp [partsS, hsr]
  have hS : Hid (fileS ⟨size, next, ex, vs, rf, lt⟩ ⟨5, vol, file, tt, into, at0, fr, ln0, data⟩ = (3, ⟨size, next, ex, vs, rf, lt⟩)) := by show _ = _; simp [fileS, hso, hx, hf, hPS]
  generalize hPq : partsS ⟨size, next, ex, vs, rf, lt⟩ ⟨5, vol, file, tt, into, at0, fr, ln0, data⟩ = PS at *
  replace hPq : Hid (partsS ⟨size, next, ex, vs, rf, lt⟩ ⟨5, vol, file, tt, into, at0, fr, ln0, data⟩ = PS) := hPq
  generalize fileS ⟨size, next, ex, vs, rf, lt⟩ ⟨5, vol, file, tt, into, at0, fr, ln0, data⟩ = R at *
  have hf' : Hid (x.fx = false) := hf
  clear hf
  go_enter Tryz.func108, Tryz.ntmps108
  go_wp2_with fail
  refine (spec_l4Find B size next ea en ec (some ⟨vb, 0, none⟩) vn vc ra rn rc la ln lc vs tt _ (hV.below (by go_grown)) z3).mono ?_
  rintro e w1 ⟨rfl, hB1⟩
  have C : Blk w1 w.heap.size #[.int .i64 size, .int .i64 next, .slice ea en ec, .slice (some ⟨vb, 0, none⟩) vn vc, .slice ra rn rc, .slice la ln lc] 28 := (((Blk.new w _ _).alloc _).alloc _).below hB1
  have O : Blk w1 (w.heap.size + 1) #[.int .i64 5, .string vol, .string file, .string tt, .string into, .int .i64 at0, .int .i64 fr, .int .i64 ln0, .string data] 102 := ((Blk.new' _ _ _ _ (by simp)).alloc _).below hB1
  have D : Blk w1 (w.heap.size + 2) #[.int .i64 0, .int .i64 0, .slice none 0 0, .slice none 0 0, .slice none 0 0, .slice none 0 0] 28 := (Blk.new' _ _ _ _ (by simp)).below hB1
  have hBw1 : Below w.heap.size w w1 := chain (by go_grown) hB1
  have hs1 : w.heap.size + 3 ≤ w1.heap.size := by have := hB1.size; simp at this; omega
  clear hB1
  rw [hso]
  simp only [idxV]
  obtain ⟨c0, c1, c2, c3, c4, c5⟩ := C.six'
  have o0 : w1.cell? ⟨w.heap.size + 1, 0, none⟩ = some (.int .i64 5) := O.cell 0
  have o1 : w1.cell? ⟨w.heap.size + 1, 1, none⟩ = some (.string vol) := O.cell 1
  have o2 : w1.cell? ⟨w.heap.size + 1, 2, none⟩ = some (.string file) := O.cell 2
  have o3 : w1.cell? ⟨w.heap.size + 1, 3, none⟩ = some (.string tt) := O.cell 3
  have o4 : w1.cell? ⟨w.heap.size + 1, 4, none⟩ = some (.string into) := O.cell 4
  have o5 : w1.cell? ⟨w.heap.size + 1, 5, none⟩ = some (.int .i64 at0) := O.cell 5
  have o6 : w1.cell? ⟨w.heap.size + 1, 6, none⟩ = some (.int .i64 fr) := O.cell 6
  have o7 : w1.cell? ⟨w.heap.size + 1, 7, none⟩ = some (.int .i64 ln0) := O.cell 7
  have o8 : w1.cell? ⟨w.heap.size + 1, 8, none⟩ = some (.string data) := O.cell 8
  obtain ⟨x0, x1, x2, x3, x4, x5⟩ := D.six'
  have f0 := D.frozen 0
  have f1 := D.frozen 1
  have f2 := D.frozen 2
  have f3 := D.frozen 3
  have f4 := D.frozen 4
  have f5 := D.frozen 5
  have RA := h2.below hBw1
  have e2 : w1.cell? ⟨vb, i * 4 + 2, none⟩ = some (.bool x.fx) := RA.cellAt (j := 2) hr rfl
  rw [hf'.out] at e2
  go_wp2_with fail
  refine (spec_l5Parts B _ ⟨size, next, ex, vs, rf, lt⟩ tt into _ (hPA.below hBw1) hdm).mono ?_
  rintro e wA ⟨hret, hBA⟩
  obtain ⟨qa, qn, qc, rfl, hQ⟩ := hret.uni
  clear hret
  have hok : partsOkB ((partsO vs tt into).getD []) = true := ok_getD (p := ⟨size, next, ex, vs, rf, lt⟩) hp
  simp only at hQ ⊢
  clear c0 c1 c2 c3 c4 c5 o0 o1 o2 o3 o4 o5 o6 o7 o8 x0 x1 x2 x3 x4 x5 f0 f1 f2 f3 f4 f5
  have C' := C.below hBA
  have D' := D.below hBA
  have O' := O.below hBA
  have hBwA := chain hBw1 hBA
  have hsA := hBA.size
  clear C D O e2 RA
  obtain ⟨c0, c1, c2, c3, c4, c5⟩ := C'.six'
  have o0 : wA.cell? ⟨w.heap.size + 1, 0, none⟩ = some (.int .i64 5) := O'.cell 0
  have o1 : wA.cell? ⟨w.heap.size + 1, 1, none⟩ = some (.string vol) := O'.cell 1
  have o2 : wA.cell? ⟨w.heap.size + 1, 2, none⟩ = some (.string file) := O'.cell 2
  have o3 : wA.cell? ⟨w.heap.size + 1, 3, none⟩ = some (.string tt) := O'.cell 3
  have o4 : wA.cell? ⟨w.heap.size + 1, 4, none⟩ = some (.string into) := O'.cell 4
  have o5 : wA.cell? ⟨w.heap.size + 1, 5, none⟩ = some (.int .i64 at0) := O'.cell 5
  have o6 : wA.cell? ⟨w.heap.size + 1, 6, none⟩ = some (.int .i64 fr) := O'.cell 6
  have o7 : wA.cell? ⟨w.heap.size + 1, 7, none⟩ = some (.int .i64 ln0) := O'.cell 7
  have o8 : wA.cell? ⟨w.heap.size + 1, 8, none⟩ = some (.string data) := O'.cell 8
  obtain ⟨x0, x1, x2, x3, x4, x5⟩ := D'.six'
  have f0 := D'.frozen 0
  have f1 := D'.frozen 1
  have f2 := D'.frozen 2
  have f3 := D'.frozen 3
  have f4 := D'.frozen 4
  have f5 := D'.frozen 5
  go_wp2_with fail
  refine (spec_l5Parts B _ ⟨size, next, ex, vs, rf, lt⟩ vol file _ (hPA.below hBwA) hdm).mono ?_
  rintro e wB ⟨hret, hBB⟩
  obtain ⟨sa, sn, sc, rfl, hR⟩ := hret.uni
  clear hret
  simp only at hR ⊢
  rw [hsr] at hR ⊢
  simp only [Option.getD_none, Option.isSome_none] at hR ⊢
  clear c0 c1 c2 c3 c4 c5 o0 o1 o2 o3 o4 o5 o6 o7 o8 x0 x1 x2 x3 x4 x5 f0 f1 f2 f3 f4 f5
  have C2' := C'.below hBB
  have D2' := D'.below hBB
  have O2' := O'.below hBB
  have hBwB := chain hBwA hBB
  have hsB := hBB.size
  clear C' D' O'
  obtain ⟨c0, c1, c2, c3, c4, c5⟩ := C2'.six'
  have o0 : wB.cell? ⟨w.heap.size + 1, 0, none⟩ = some (.int .i64 5) := O2'.cell 0
  have o1 : wB.cell? ⟨w.heap.size + 1, 1, none⟩ = some (.string vol) := O2'.cell 1
  have o2 : wB.cell? ⟨w.heap.size + 1, 2, none⟩ = some (.string file) := O2'.cell 2
  have o3 : wB.cell? ⟨w.heap.size + 1, 3, none⟩ = some (.string tt) := O2'.cell 3
  have o4 : wB.cell? ⟨w.heap.size + 1, 4, none⟩ = some (.string into) := O2'.cell 4
  have o5 : wB.cell? ⟨w.heap.size + 1, 5, none⟩ = some (.int .i64 at0) := O2'.cell 5
  have o6 : wB.cell? ⟨w.heap.size + 1, 6, none⟩ = some (.int .i64 fr) := O2'.cell 6
  have o7 : wB.cell? ⟨w.heap.size + 1, 7, none⟩ = some (.int .i64 ln0) := O2'.cell 7
  have o8 : wB.cell? ⟨w.heap.size + 1, 8, none⟩ = some (.string data) := O2'.cell 8
  obtain ⟨x0, x1, x2, x3, x4, x5⟩ := D2'.six'
  have f0 := D2'.frozen 0
  have f1 := D2'.frozen 1
  have f2 := D2'.frozen 2
  have f3 := D2'.frozen 3
  have f4 := D2'.frozen 4
  have f5 := D2'.frozen 5
  go_wp2_with fail
  have g6 := gcell o6
  have g7 := gcell o7
  have hne := grw_ne wB
  refine wp_region_grow (by kernel_rfl) (by kernel_rfl) ?_
  repeat (go_big_quiet_step (fail))
  refine wpQuiet_nil ?_
  intro wC hxC
  have hBC := grw_out hxC
  clear hxC g6 g7 hne
  have C3 := C2'.below hBC
  have D3 := D2'.below hBC
  have hBwC := chain hBwB hBC
  have hsC := hBC.size
  clear c0 c1 c2 c3 c4 c5 o0 o1 o2 o3 o4 o5 o6 o7 o8 x0 x1 x2 x3 x4 x5 f0 f1 f2 f3 f4 f5
  obtain ⟨c0, c1, c2, c3, c4, c5⟩ := C3.six'
  have o0 : wC.cell? ⟨w.heap.size + 1, 0, none⟩ = some (.int .i64 5) := (O2'.below hBC).cell 0
  have o1 : wC.cell? ⟨w.heap.size + 1, 1, none⟩ = some (.string vol) := (O2'.below hBC).cell 1
  have o2 : wC.cell? ⟨w.heap.size + 1, 2, none⟩ = some (.string file) := (O2'.below hBC).cell 2
  have o3 : wC.cell? ⟨w.heap.size + 1, 3, none⟩ = some (.string tt) := (O2'.below hBC).cell 3
  have o4 : wC.cell? ⟨w.heap.size + 1, 4, none⟩ = some (.string into) := (O2'.below hBC).cell 4
  have o5 : wC.cell? ⟨w.heap.size + 1, 5, none⟩ = some (.int .i64 at0) := (O2'.below hBC).cell 5
  have o6 : wC.cell? ⟨w.heap.size + 1, 6, none⟩ = some (.int .i64 fr) := (O2'.below hBC).cell 6
  have o7 : wC.cell? ⟨w.heap.size + 1, 7, none⟩ = some (.int .i64 ln0) := (O2'.below hBC).cell 7
  have o8 : wC.cell? ⟨w.heap.size + 1, 8, none⟩ = some (.string data) := (O2'.below hBC).cell 8
  obtain ⟨x0, x1, x2, x3, x4, x5⟩ := D3.six'
  have f0 := D3.frozen 0
  have f1 := D3.frozen 1
  have f2 := D3.frozen 2
  have f3 := D3.frozen 3
  have f4 := D3.frozen 4
  have f5 := D3.frozen 5
  go_wp2
  obtain ⟨W0, hg0⟩ := set6 D3 (.int .i64 size) (.int .i64 next) (.slice ea en ec) (.slice (some ⟨vb, 0, none⟩) vn vc) (.slice ra rn rc) (.slice la ln lc)
  have B8 := hBwC.grown hg0 hBwC.size (fun j e => by cases e; omega)
  generalize ((((((wC.setCell ⟨w.heap.size + 2, 0, none⟩ (.int .i64 size)).setCell ⟨w.heap.size + 2, 1, none⟩ (.int .i64 next)).setCell ⟨w.heap.size + 2, 2, none⟩ (.slice ea en ec)).setCell ⟨w.heap.size + 2, 3, none⟩ (.slice (some ⟨vb, 0, none⟩) vn vc)).setCell ⟨w.heap.size + 2, 4, none⟩ (.slice ra rn rc)).setCell ⟨w.heap.size + 2, 5, none⟩ (.slice la ln lc)) = W8 at *
  refine bodyPost_ret (results_cell_tmp rfl _ W8 (w.heap.size + 2) _ _ _ _ _ rfl W0 Tryz.underlying28 rfl (by kernel_rfl) rfl) rfl ?_
  exact ⟨⟨_, 3, rfl, pv_mk _ _ _ _ _ _ _ _ _ _ _ _ _ _, by rw [hS.out], fun h => absurd h (by omega)⟩, B8.mono hBw, FrV.of B8⟩
end Go.Proofs.YtnjefbkhibfgmaaGreat
