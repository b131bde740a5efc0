/- Files written, by the model. -/
import Derived.Test.YtnjefbkhibfgmaaGreatLDAskedx23
import Derived.Test.YtnjefbkhibfgmaaGreatLDAskedx25
namespace Go.Proofs.YtnjefbkhibfgmaaGreat
open Go Go.RowKit Go.BigFrame
theorem pts_ne {w : World} {b o n : Nat} {l : List Pt} {s t : Int} {c2 c3 c4 c5 : Option Addr} {n2 n3 n4 n5 m2 m3 m4 m5 : Nat} {ty : TypeId} (h : PtsAt w (some ⟨b, o, none⟩) n l) (hl : l ≠ []) : ¬ Blk w b #[.int .i64 s, .int .i64 t, .slice c2 n2 m2, .slice c3 n3 m3, .slice c4 n4 m4, .slice c5 n5 m5] ty := by
  intro C
  cases l with
  | nil => exact hl rfl
  | cons p r =>
    obtain ⟨b', o', e, hc⟩ := h.cell 0 p rfl
    cases e
    have q2 := hc 2 (.int .i64 p.n) rfl
    rw [C.cell, Nat.zero_mul, Nat.add_zero] at q2
    match o, q2 with
    | 0, q2 => simp at q2
    | 1, q2 => simp at q2
    | 2, q2 => simp at q2
    | 3, q2 => simp at q2
    | o + 4, q2 => simp at q2
theorem pts_setPool {w : World} {b n : Nat} {qa : Option Addr} {l : List Pt} {s t : Int} {c2 c3 c4 c5 : Option Addr} {n2 n3 n4 n5 m2 m3 m4 m5 : Nat} {ty : TypeId} (h : PtsAt w qa n l) (C : Blk w b #[.int .i64 s, .int .i64 t, .slice c2 n2 m2, .slice c3 n3 m3, .slice c4 n4 m4, .slice c5 n5 m5] ty) (j : Nat) (v : Value) : PtsAt (w.setCell ⟨b, j, none⟩ v) qa n l := by
  by_cases hl : l = []
  · subst hl; exact ⟨h.len, fun i x hx => by simp at hx⟩
  · refine h.grown (gset w b j v) (fun ad e hb => ?_)
    subst e
    obtain ⟨b', o', e, _⟩ := h.cell 0 _ (List.getElem?_eq_getElem (List.length_pos_iff.2 hl))
    cases e
    simp only at hb
    subst hb
    exact pts_ne h hl C
theorem ResAt.addrN {α : Type} {cs : α → List Value} {sz : Nat} {t : TypeId} {w : World} {B n cap : Nat} {a : Option Addr} {l : List α} (h : ResAt cs sz t w B a n cap l) (hn : a ≠ none) : ∃ b, a = some ⟨b, 0, none⟩ ∧ n ≤ cap := by
  rcases h.own with ⟨h0, _⟩ | ⟨b, h1, _, h3, _⟩
  · exact absurd h0 hn
  · exact ⟨b, h1, h3⟩
set_option maxHeartbeats 4000000 in
set_option maxRecDepth 100000 in
theorem spec_l6File_full (B : Nat) (hB0 : 0 < B) (v : Value) (p : Po) (o : Opr) (w : World) (h : PoolT B w v p) (hNn : NnE v) (hBw : B ≤ w.heap.size) (hd : DimP p) (hp : poolB p = true) (hk : o.k = 2) (i : Nat) (hso : volI p.vs o.vol = some i) (hfx : ∀ x : Vo, p.vs[i]? = some x → x.fx = false) (hda : dataOkB o.data = true) (hpl : placedO p.size p.ex o.data = none) :
    Calls Tryz.prog 108 #[v, .agg #[.int .i64 o.k, .string o.vol, .string o.file, .string o.to, .string o.into, .int .i64 o.at', .int .i64 o.fr, .int .i64 o.ln, .string o.data]] w fun e w' => (∃ v' c, e = .returned (.tuple #[v', .int .i64 c]) ∧ PoolV v' ∧ c = (fileS p o).1 ∧ (c = 0 → PoolT B w' v' (fileS p o).2 ∧ (partsS p o).2.2.length ≤ 1000)) ∧ Below B w w' ∧ FrV w w' := by
  have hPA := h.at'
  obtain ⟨ea, en, ec, va, vn, vc, ra, rn, rc, la, ln, lc, rows, rfl, h1, ⟨h2, h3⟩, h4, h5, h6⟩ := h
  have hdm := hd
  obtain ⟨z1, z2, z3, z4, z5, z6, z7, z8⟩ := hd
  have hV : VsAt B w va vn p.vs := h3.rows.vs h2
  rw [hV.len] at z3
  obtain ⟨size, next, ex, vs, rf, lt⟩ := p
  obtain ⟨k, vol, file, tt, into, at0, fr, ln0, data⟩ := o
  simp only at h1 h2 h3 h4 h5 hV z4 z3 hPA hp hk ⊢
  have _ := hB0
  have _ := hNn
  have _ := hBw
  have _ := hp
  have hne : ea ≠ none := hNn _ _ _ _ _ _ _ _ rfl
  obtain ⟨eb, rfl, hec⟩ := h1.addrN hne
  have hlen : vs.length = vn := hV.len
  have hrl : rows.length = vn := h2.sl.len
  simp only at hso hfx hda hpl
  subst hk
  have hi := volI_lt hso
  have hin : i < vn := by omega
  have hx : vs[i]? = some vs[i] := by simp [hi]
  have hip : (0 : Int) ≤ (i : Int) := by omega
  have hip2 : (i : Int) < vn := by omega
  have hr : rows[i]? = some (rows[i]'(by omega)) := by simp [hrl, hin]
  have VT := h3.at' i _ _ hr hx
  generalize rows[i]'(by omega) = r0 at *
  generalize vs[i] = x at *
  obtain ⟨rid, rnm, rfx, pa0, pn0, pc0⟩ := r0
  obtain ⟨e1, e2, e3, irows, RI, TI⟩ := VT
  simp only at e1 e2 e3 RI
  subst e1 e2 e3
  obtain ⟨vb, rfl, hvb, hvc1, hvc2⟩ := h2.addr (by omega)
  have hf := hfx _ hx
  clear hfx
  have hPS : partsS ⟨size, next, ex, vs, rf, lt⟩ ⟨2, vol, file, tt, into, at0, fr, ln0, data⟩ = (5, ex, []) := by simp [partsS, hpl]
  have hS : Hid (fileS ⟨size, next, ex, vs, rf, lt⟩ ⟨2, vol, file, tt, into, at0, fr, ln0, data⟩ = (5, ⟨size, next, ex, vs, rf, lt⟩)) := by show _ = _; simp [fileS, hso, hx, hf, hPS]
  generalize hPq : partsS ⟨size, next, ex, vs, rf, lt⟩ ⟨2, vol, file, tt, into, at0, fr, ln0, data⟩ = PS at *
  replace hPq : Hid (partsS ⟨size, next, ex, vs, rf, lt⟩ ⟨2, vol, file, tt, into, at0, fr, ln0, data⟩ = PS) := hPq
  generalize fileS ⟨size, next, ex, vs, rf, lt⟩ ⟨2, vol, file, tt, into, at0, fr, ln0, data⟩ = R at *
  have hf' : Hid (x.fx = false) := hf
  clear hf
  go_enter Tryz.func108, Tryz.ntmps108
  go_wp2_with fail
  refine (spec_l4Find B size next (some ⟨eb, 0, none⟩) en ec (some ⟨vb, 0, none⟩) vn vc ra rn rc la ln lc vs vol _ (hV.below (by go_grown)) z3).mono ?_
  rintro e w1 ⟨rfl, hB1⟩
  have C : Blk w1 w.heap.size #[.int .i64 size, .int .i64 next, .slice (some ⟨eb, 0, none⟩) en ec, .slice (some ⟨vb, 0, none⟩) vn vc, .slice ra rn rc, .slice la ln lc] 28 := (((Blk.new w _ _).alloc _).alloc _).below hB1
  have O : Blk w1 (w.heap.size + 1) #[.int .i64 2, .string vol, .string file, .string tt, .string into, .int .i64 at0, .int .i64 fr, .int .i64 ln0, .string data] 102 := ((Blk.new' _ _ _ _ (by simp)).alloc _).below hB1
  have D : Blk w1 (w.heap.size + 2) #[.int .i64 0, .int .i64 0, .slice none 0 0, .slice none 0 0, .slice none 0 0, .slice none 0 0] 28 := (Blk.new' _ _ _ _ (by simp)).below hB1
  have hBw1 : Below w.heap.size w w1 := chain (by go_grown) hB1
  have hs1 : w.heap.size + 3 ≤ w1.heap.size := by have := hB1.size; simp at this; omega
  clear hB1
  rw [hso]
  simp only [idxV]
  obtain ⟨c0, c1, c2, c3, c4, c5⟩ := C.six'
  have o0 : w1.cell? ⟨w.heap.size + 1, 0, none⟩ = some (.int .i64 2) := O.cell 0
  have o1 : w1.cell? ⟨w.heap.size + 1, 1, none⟩ = some (.string vol) := O.cell 1
  have o2 : w1.cell? ⟨w.heap.size + 1, 2, none⟩ = some (.string file) := O.cell 2
  have o3 : w1.cell? ⟨w.heap.size + 1, 3, none⟩ = some (.string tt) := O.cell 3
  have o4 : w1.cell? ⟨w.heap.size + 1, 4, none⟩ = some (.string into) := O.cell 4
  have o5 : w1.cell? ⟨w.heap.size + 1, 5, none⟩ = some (.int .i64 at0) := O.cell 5
  have o6 : w1.cell? ⟨w.heap.size + 1, 6, none⟩ = some (.int .i64 fr) := O.cell 6
  have o7 : w1.cell? ⟨w.heap.size + 1, 7, none⟩ = some (.int .i64 ln0) := O.cell 7
  have o8 : w1.cell? ⟨w.heap.size + 1, 8, none⟩ = some (.string data) := O.cell 8
  obtain ⟨x0, x1, x2, x3, x4, x5⟩ := D.six'
  have f0 := D.frozen 0
  have f1 := D.frozen 1
  have f2 := D.frozen 2
  have f3 := D.frozen 3
  have f4 := D.frozen 4
  have f5 := D.frozen 5
  have RA := h2.below hBw1
  have e2 : w1.cell? ⟨vb, i * 4 + 2, none⟩ = some (.bool x.fx) := RA.cellAt (j := 2) hr rfl
  rw [hf'.out] at e2
  go_wp2_with fail
  refine (spec_l5Parts B _ ⟨size, next, ex, vs, rf, lt⟩ vol file _ (hPA.below hBw1) hdm).mono ?_
  rintro e wA ⟨hret, hBA⟩
  obtain ⟨qa, qn, qc, rfl, hQ⟩ := hret.uni
  clear hret
  have hok : partsOkB ((partsO vs vol file).getD []) = true := ok_getD (p := ⟨size, next, ex, vs, rf, lt⟩) hp
  simp only at hQ ⊢
  clear c0 c1 c2 c3 c4 c5 o0 o1 o2 o3 o4 o5 o6 o7 o8 x0 x1 x2 x3 x4 x5 f0 f1 f2 f3 f4 f5
  have C' := C.below hBA
  have D' := D.below hBA
  have O' := O.below hBA
  have hBwA := chain hBw1 hBA
  have hsA := hBA.size
  clear C D O e2 RA
  obtain ⟨c0, c1, c2, c3, c4, c5⟩ := C'.six'
  have o0 : wA.cell? ⟨w.heap.size + 1, 0, none⟩ = some (.int .i64 2) := O'.cell 0
  have o1 : wA.cell? ⟨w.heap.size + 1, 1, none⟩ = some (.string vol) := O'.cell 1
  have o2 : wA.cell? ⟨w.heap.size + 1, 2, none⟩ = some (.string file) := O'.cell 2
  have o3 : wA.cell? ⟨w.heap.size + 1, 3, none⟩ = some (.string tt) := O'.cell 3
  have o4 : wA.cell? ⟨w.heap.size + 1, 4, none⟩ = some (.string into) := O'.cell 4
  have o5 : wA.cell? ⟨w.heap.size + 1, 5, none⟩ = some (.int .i64 at0) := O'.cell 5
  have o6 : wA.cell? ⟨w.heap.size + 1, 6, none⟩ = some (.int .i64 fr) := O'.cell 6
  have o7 : wA.cell? ⟨w.heap.size + 1, 7, none⟩ = some (.int .i64 ln0) := O'.cell 7
  have o8 : wA.cell? ⟨w.heap.size + 1, 8, none⟩ = some (.string data) := O'.cell 8
  obtain ⟨x0, x1, x2, x3, x4, x5⟩ := D'.six'
  have f0 := D'.frozen 0
  have f1 := D'.frozen 1
  have f2 := D'.frozen 2
  have f3 := D'.frozen 3
  have f4 := D'.frozen 4
  have f5 := D'.frozen 5
  have hd20 : data.size ≤ 20 := by simp [dataOkB] at hda; omega
  go_wp2_with fail
  refine (spec_Placed size eb 0 en ec ex data _ (h1.sl.below hBwA) z2 (by rw [← h1.sl.len]; exact z1) hec (by omega)).mono ?_
  rintro e wP ⟨hret, hBP⟩
  rw [hpl] at hret
  obtain rfl := hret
  have D'' := D'.below hBP
  have C'' := C'.below hBP
  have hBwP := chain hBwA hBP
  have hsP := hBP.size
  clear c0 c1 c2 c3 c4 c5 o0 o1 o2 o3 o4 o5 o6 o7 o8 x0 x1 x2 x3 x4 x5 f0 f1 f2 f3 f4 f5
  obtain ⟨c0, c1, c2, c3, c4, c5⟩ := C''.six'
  have o0 : wP.cell? ⟨w.heap.size + 1, 0, none⟩ = some (.int .i64 2) := (O'.below hBP).cell 0
  have o1 : wP.cell? ⟨w.heap.size + 1, 1, none⟩ = some (.string vol) := (O'.below hBP).cell 1
  have o2 : wP.cell? ⟨w.heap.size + 1, 2, none⟩ = some (.string file) := (O'.below hBP).cell 2
  have o3 : wP.cell? ⟨w.heap.size + 1, 3, none⟩ = some (.string tt) := (O'.below hBP).cell 3
  have o4 : wP.cell? ⟨w.heap.size + 1, 4, none⟩ = some (.string into) := (O'.below hBP).cell 4
  have o5 : wP.cell? ⟨w.heap.size + 1, 5, none⟩ = some (.int .i64 at0) := (O'.below hBP).cell 5
  have o6 : wP.cell? ⟨w.heap.size + 1, 6, none⟩ = some (.int .i64 fr) := (O'.below hBP).cell 6
  have o7 : wP.cell? ⟨w.heap.size + 1, 7, none⟩ = some (.int .i64 ln0) := (O'.below hBP).cell 7
  have o8 : wP.cell? ⟨w.heap.size + 1, 8, none⟩ = some (.string data) := (O'.below hBP).cell 8
  obtain ⟨x0, x1, x2, x3, x4, x5⟩ := D''.six'
  have f0 := D''.frozen 0
  have f1 := D''.frozen 1
  have f2 := D''.frozen 2
  have f3 := D''.frozen 3
  have f4 := D''.frozen 4
  have f5 := D''.frozen 5
  go_wp2
  obtain ⟨W0, hg0⟩ := set6 D'' (.int .i64 size) (.int .i64 next) (.slice (some ⟨eb, 0, none⟩) en ec) (.slice (some ⟨vb, 0, none⟩) vn vc) (.slice ra rn rc) (.slice la ln lc)
  have B8 := hBwP.grown hg0 hBwP.size (fun j e => by cases e; omega)
  generalize ((((((wP.setCell ⟨w.heap.size + 2, 0, none⟩ (.int .i64 size)).setCell ⟨w.heap.size + 2, 1, none⟩ (.int .i64 next)).setCell ⟨w.heap.size + 2, 2, none⟩ (.slice (some ⟨eb, 0, none⟩) en ec)).setCell ⟨w.heap.size + 2, 3, none⟩ (.slice (some ⟨vb, 0, none⟩) vn vc)).setCell ⟨w.heap.size + 2, 4, none⟩ (.slice ra rn rc)).setCell ⟨w.heap.size + 2, 5, none⟩ (.slice la ln lc)) = W8 at *
  refine bodyPost_ret (results_cell_tmp rfl _ W8 (w.heap.size + 2) _ _ _ _ _ rfl W0 Tryz.underlying28 rfl (by kernel_rfl) rfl) rfl ?_
  exact ⟨⟨_, 5, rfl, pv_mk _ _ _ _ _ _ _ _ _ _ _ _ _ _, by rw [hS.out], fun h => absurd h (by omega)⟩, B8.mono hBw, FrV.of B8⟩
set_option maxHeartbeats 4000000 in
set_option maxRecDepth 100000 in
theorem spec_l6File_write (B : Nat) (hB0 : 0 < B) (v : Value) (p : Po) (o : Opr) (w : World) (h : PoolT B w v p) (hNn : NnE v) (hBw : B ≤ w.heap.size) (hd : DimP p) (hp : poolB p = true) (hk : o.k = 2) (i : Nat) (hso : volI p.vs o.vol = some i) (hfx : ∀ x : Vo, p.vs[i]? = some x → x.fx = false) (hda : dataOkB o.data = true) (ha : 0 ≤ o.at' ∧ o.at' ≤ 100) (L : List Ex) (a : Int) (hab : 1 ≤ a ∧ a ≤ 400) (hpl : placedO p.size p.ex o.data = some (L, a)) :
    Calls Tryz.prog 108 #[v, .agg #[.int .i64 o.k, .string o.vol, .string o.file, .string o.to, .string o.into, .int .i64 o.at', .int .i64 o.fr, .int .i64 o.ln, .string o.data]] w fun e w' => (∃ v' c, e = .returned (.tuple #[v', .int .i64 c]) ∧ PoolV v' ∧ c = (fileS p o).1 ∧ (c = 0 → PoolT B w' v' (fileS p o).2 ∧ (partsS p o).2.2.length ≤ 1000)) ∧ Below B w w' ∧ FrV w w' := by
  have hPA := h.at'
  obtain ⟨ea, en, ec, va, vn, vc, ra, rn, rc, la, ln, lc, rows, rfl, h1, ⟨h2, h3⟩, h4, h5, h6⟩ := h
  have hdm := hd
  obtain ⟨z1, z2, z3, z4, z5, z6, z7, z8⟩ := hd
  have hV : VsAt B w va vn p.vs := h3.rows.vs h2
  rw [hV.len] at z3
  obtain ⟨size, next, ex, vs, rf, lt⟩ := p
  obtain ⟨k, vol, file, tt, into, at0, fr, ln0, data⟩ := o
  simp only at h1 h2 h3 h4 h5 hV z4 z3 hPA hp hk ⊢
  have _ := hB0
  have _ := hNn
  have _ := hBw
  have _ := hp
  have hne : ea ≠ none := hNn _ _ _ _ _ _ _ _ rfl
  obtain ⟨eb, rfl, hec⟩ := h1.addrN hne
  have hlen : vs.length = vn := hV.len
  have hrl : rows.length = vn := h2.sl.len
  simp only at hso hfx hda ha hpl
  subst hk
  have hi := volI_lt hso
  have hin : i < vn := by omega
  have hx : vs[i]? = some vs[i] := by simp [hi]
  have hip : (0 : Int) ≤ (i : Int) := by omega
  have hip2 : (i : Int) < vn := by omega
  have hr : rows[i]? = some (rows[i]'(by omega)) := by simp [hrl, hin]
  have VT := h3.at' i _ _ hr hx
  generalize rows[i]'(by omega) = r0 at *
  generalize vs[i] = x at *
  obtain ⟨rid, rnm, rfx, pa0, pn0, pc0⟩ := r0
  obtain ⟨e1, e2, e3, irows, RI, TI⟩ := VT
  simp only at e1 e2 e3 RI
  subst e1 e2 e3
  obtain ⟨vb, rfl, hvb, hvc1, hvc2⟩ := h2.addr (by omega)
  have hf := hfx _ hx
  clear hfx
  have hPS : partsS ⟨size, next, ex, vs, rf, lt⟩ ⟨2, vol, file, tt, into, at0, fr, ln0, data⟩ = (0, L, laidJ ((partsO vs vol file).getD []) at0 [⟨a, 0, data.size⟩]) := by simp [partsS, hpl]
  have hS : Hid (fileS ⟨size, next, ex, vs, rf, lt⟩ ⟨2, vol, file, tt, into, at0, fr, ln0, data⟩ = (0, ⟨size, next, L, vs.set i ⟨x.id, x.nm, x.fx, setI ⟨file, laidJ ((partsO vs vol file).getD []) at0 [⟨a, 0, data.size⟩]⟩ x.its⟩, rf, lt⟩)) := by show _ = _; simp [fileS, hso, hx, hf, hPS]
  generalize hPq : partsS ⟨size, next, ex, vs, rf, lt⟩ ⟨2, vol, file, tt, into, at0, fr, ln0, data⟩ = PS at *
  replace hPq : Hid (partsS ⟨size, next, ex, vs, rf, lt⟩ ⟨2, vol, file, tt, into, at0, fr, ln0, data⟩ = PS) := hPq
  generalize fileS ⟨size, next, ex, vs, rf, lt⟩ ⟨2, vol, file, tt, into, at0, fr, ln0, data⟩ = R at *
  have hf' : Hid (x.fx = false) := hf
  clear hf
  go_enter Tryz.func108, Tryz.ntmps108
  go_wp2_with fail
  refine (spec_l4Find B size next (some ⟨eb, 0, none⟩) en ec (some ⟨vb, 0, none⟩) vn vc ra rn rc la ln lc vs vol _ (hV.below (by go_grown)) z3).mono ?_
  rintro e w1 ⟨rfl, hB1⟩
  have C : Blk w1 w.heap.size #[.int .i64 size, .int .i64 next, .slice (some ⟨eb, 0, none⟩) en ec, .slice (some ⟨vb, 0, none⟩) vn vc, .slice ra rn rc, .slice la ln lc] 28 := (((Blk.new w _ _).alloc _).alloc _).below hB1
  have O : Blk w1 (w.heap.size + 1) #[.int .i64 2, .string vol, .string file, .string tt, .string into, .int .i64 at0, .int .i64 fr, .int .i64 ln0, .string data] 102 := ((Blk.new' _ _ _ _ (by simp)).alloc _).below hB1
  have D : Blk w1 (w.heap.size + 2) #[.int .i64 0, .int .i64 0, .slice none 0 0, .slice none 0 0, .slice none 0 0, .slice none 0 0] 28 := (Blk.new' _ _ _ _ (by simp)).below hB1
  have hBw1 : Below w.heap.size w w1 := chain (by go_grown) hB1
  have hs1 : w.heap.size + 3 ≤ w1.heap.size := by have := hB1.size; simp at this; omega
  clear hB1
  rw [hso]
  simp only [idxV]
  obtain ⟨c0, c1, c2, c3, c4, c5⟩ := C.six'
  have o0 : w1.cell? ⟨w.heap.size + 1, 0, none⟩ = some (.int .i64 2) := O.cell 0
  have o1 : w1.cell? ⟨w.heap.size + 1, 1, none⟩ = some (.string vol) := O.cell 1
  have o2 : w1.cell? ⟨w.heap.size + 1, 2, none⟩ = some (.string file) := O.cell 2
  have o3 : w1.cell? ⟨w.heap.size + 1, 3, none⟩ = some (.string tt) := O.cell 3
  have o4 : w1.cell? ⟨w.heap.size + 1, 4, none⟩ = some (.string into) := O.cell 4
  have o5 : w1.cell? ⟨w.heap.size + 1, 5, none⟩ = some (.int .i64 at0) := O.cell 5
  have o6 : w1.cell? ⟨w.heap.size + 1, 6, none⟩ = some (.int .i64 fr) := O.cell 6
  have o7 : w1.cell? ⟨w.heap.size + 1, 7, none⟩ = some (.int .i64 ln0) := O.cell 7
  have o8 : w1.cell? ⟨w.heap.size + 1, 8, none⟩ = some (.string data) := O.cell 8
  obtain ⟨x0, x1, x2, x3, x4, x5⟩ := D.six'
  have f0 := D.frozen 0
  have f1 := D.frozen 1
  have f2 := D.frozen 2
  have f3 := D.frozen 3
  have f4 := D.frozen 4
  have f5 := D.frozen 5
  have RA := h2.below hBw1
  have e2 : w1.cell? ⟨vb, i * 4 + 2, none⟩ = some (.bool x.fx) := RA.cellAt (j := 2) hr rfl
  rw [hf'.out] at e2
  go_wp2_with fail
  refine (spec_l5Parts B _ ⟨size, next, ex, vs, rf, lt⟩ vol file _ (hPA.below hBw1) hdm).mono ?_
  rintro e wA ⟨hret, hBA⟩
  obtain ⟨qa, qn, qc, rfl, hQ⟩ := hret.uni
  clear hret
  have hok : partsOkB ((partsO vs vol file).getD []) = true := ok_getD (p := ⟨size, next, ex, vs, rf, lt⟩) hp
  simp only at hQ ⊢
  clear c0 c1 c2 c3 c4 c5 o0 o1 o2 o3 o4 o5 o6 o7 o8 x0 x1 x2 x3 x4 x5 f0 f1 f2 f3 f4 f5
  have C' := C.below hBA
  have D' := D.below hBA
  have O' := O.below hBA
  have hBwA := chain hBw1 hBA
  have hsA := hBA.size
  clear C D O e2 RA
  obtain ⟨c0, c1, c2, c3, c4, c5⟩ := C'.six'
  have o0 : wA.cell? ⟨w.heap.size + 1, 0, none⟩ = some (.int .i64 2) := O'.cell 0
  have o1 : wA.cell? ⟨w.heap.size + 1, 1, none⟩ = some (.string vol) := O'.cell 1
  have o2 : wA.cell? ⟨w.heap.size + 1, 2, none⟩ = some (.string file) := O'.cell 2
  have o3 : wA.cell? ⟨w.heap.size + 1, 3, none⟩ = some (.string tt) := O'.cell 3
  have o4 : wA.cell? ⟨w.heap.size + 1, 4, none⟩ = some (.string into) := O'.cell 4
  have o5 : wA.cell? ⟨w.heap.size + 1, 5, none⟩ = some (.int .i64 at0) := O'.cell 5
  have o6 : wA.cell? ⟨w.heap.size + 1, 6, none⟩ = some (.int .i64 fr) := O'.cell 6
  have o7 : wA.cell? ⟨w.heap.size + 1, 7, none⟩ = some (.int .i64 ln0) := O'.cell 7
  have o8 : wA.cell? ⟨w.heap.size + 1, 8, none⟩ = some (.string data) := O'.cell 8
  obtain ⟨x0, x1, x2, x3, x4, x5⟩ := D'.six'
  have f0 := D'.frozen 0
  have f1 := D'.frozen 1
  have f2 := D'.frozen 2
  have f3 := D'.frozen 3
  have f4 := D'.frozen 4
  have f5 := D'.frozen 5
  generalize (partsO vs vol file).getD [] = Q at *
  have hd20 : data.size ≤ 20 := by simp [dataOkB] at hda; omega
  go_wp2_with fail
  refine (spec_Placed size eb 0 en ec ex data _ (h1.sl.below hBwA) z2 (by rw [← h1.sl.len]; exact z1) hec (by omega)).mono ?_
  rintro e wP ⟨hret, hBP⟩
  rw [hpl] at hret
  obtain ⟨xa, xn, xc, rfl, RX⟩ := hret
  have hd1 := dataOkB_pos hda
  have hok2 : partsOkB [⟨a, 0, data.size⟩] = true := by
    have h0 : (a == 0) = false := beq_eq_false_iff_ne.2 (by omega)
    simp [partsOkB, pgo, partOkB, h0]
    omega
  have CP := C'.below hBP
  have DP := D'.below hBP
  have OP := O'.below hBP
  have hBwP := chain hBwA hBP
  have hsP := hBP.size
  clear c0 c1 c2 c3 c4 c5 o0 o1 o2 o3 o4 o5 o6 o7 o8 x0 x1 x2 x3 x4 x5 f0 f1 f2 f3 f4 f5
  have g2 := CP.frozen 2
  have C3 : Blk (wP.setCell ⟨w.heap.size, 2, none⟩ (.slice xa xn xc)) w.heap.size #[.int .i64 size, .int .i64 next, .slice xa xn xc, .slice (some ⟨vb, 0, none⟩) vn vc, .slice ra rn rc, .slice la ln lc] 28 := by simpa using CP.set 2 (.slice xa xn xc)
  have hgC := gset wP w.heap.size 2 (.slice xa xn xc)
  have D3 : Blk (wP.setCell ⟨w.heap.size, 2, none⟩ (.slice xa xn xc)) (w.heap.size + 2) _ _ := (hgC.block _ DP.lt (by simp only [ne_eq, Option.some.injEq]; omega)).trans DP
  have O3 : Blk (wP.setCell ⟨w.heap.size, 2, none⟩ (.slice xa xn xc)) (w.heap.size + 1) _ _ := (hgC.block _ OP.lt (by simp only [ne_eq, Option.some.injEq]; omega)).trans OP
  have RX3 := RX.ty hgC (rowTy_blk CP) (by decide)
  have hQ3 := pts_setPool (hQ.below hBP) CP 2 (.slice xa xn xc)
  have hB3 := hBwP.grown hgC hBwP.size (fun j e => by cases e; exact Nat.le_refl _)
  have hsC : (wP.setCell ⟨w.heap.size, 2, none⟩ (.slice xa xn xc)).heap.size = wP.heap.size := by simp
  obtain ⟨c0, c1, c2, c3, c4, c5⟩ := CP.six'
  have o5 : wP.cell? ⟨w.heap.size + 1, 5, none⟩ = some (.int .i64 at0) := OP.cell 5
  have o8 : wP.cell? ⟨w.heap.size + 1, 8, none⟩ = some (.string data) := OP.cell 8
  go_wp2_with fail
  refine (spec_l2Laid qa qn qc Q at0 _ 1 1 [⟨a, 0, data.size⟩] _ (hQ3.below (by go_grown)) (sl_new' _ ⟨a, 0, data.size⟩ _ _ (by simp)) hok hok2 ha.1 ha.2).mono ?_
  rintro e wL ⟨⟨pa1, pn1, pc1, rfl, hp1, Rp⟩, hBL⟩
  have hBAL : Below (wP.setCell ⟨w.heap.size, 2, none⟩ (.slice xa xn xc)).heap.size (wP.setCell ⟨w.heap.size, 2, none⟩ (.slice xa xn xc)) wL := chain (by go_grown) hBL
  have CL := C3.below hBAL
  have DL := D3.below hBAL
  have hBwL := chain hB3 hBAL
  have REL := (RX3.below hBAL).mono (show B ≤ wA.heap.size by omega)
  have hbp : B ≤ ((wP.setCell ⟨w.heap.size, 2, none⟩ (.slice xa xn xc)).alloc (.cells #[.int .i64 a, .int .i64 0, .int .i64 data.size] 46)).heap.size := by simp; omega
  clear c0 c1 c2 c3 c4 c5 o5 o8 CP DP OP C3 D3 O3 hgC RX3 hQ3 RX
  have RL := h2.below hBwL
  have e0 : wL.cell? ⟨vb, i * 4, none⟩ = some (.int .i64 x.id) := RL.cellAt (j := 0) hr rfl
  have e1 : wL.cell? ⟨vb, i * 4 + 1, none⟩ = some (.string x.nm) := RL.cellAt (j := 1) hr rfl
  have e2 : wL.cell? ⟨vb, i * 4 + 2, none⟩ = some (.bool x.fx) := RL.cellAt (j := 2) hr rfl
  have e3 : wL.cell? ⟨vb, i * 4 + 3, none⟩ = some (.slice pa0 pn0 pc0) := RL.cellAt (j := 3) hr rfl
  have k3 : wL.cell? ⟨w.heap.size, 3, none⟩ = some (.slice (some ⟨vb, 0, none⟩) vn vc) := CL.cell 3
  have hsL := hBwL.size
  have hlS : pn0 ≤ 4194304 := by have := (z4 x (List.mem_of_getElem? hx)).2.1; rw [(TI.rows.its RI).len] at this; exact this
  go_wp2_with fail
  have hSB : ∀ u, Below wL.heap.size wL u → (fun u => u.cell? ⟨w.heap.size, 3, none⟩ = some (.slice (some ⟨vb, 0, none⟩) vn vc) ∧ u.cell? ⟨vb, i * 4, none⟩ = some (.int .i64 x.id) ∧ u.cell? ⟨vb, i * 4 + 1, none⟩ = some (.string x.nm) ∧ u.cell? ⟨vb, i * 4 + 2, none⟩ = some (.bool x.fx) ∧ u.cell? ⟨vb, i * 4 + 3, none⟩ = some (.slice pa0 pn0 pc0)) u := fun u hu => ⟨bcell hu k3, bcell hu e0, bcell hu e1, bcell hu e2, bcell hu e3⟩
  have hS0 := hSB wL.drew ((Below.refl _ _).drew)
  refine wp_region_last (S := (fun u => u.cell? ⟨w.heap.size, 3, none⟩ = some (.slice (some ⟨vb, 0, none⟩) vn vc) ∧ u.cell? ⟨vb, i * 4, none⟩ = some (.int .i64 x.id) ∧ u.cell? ⟨vb, i * 4 + 1, none⟩ = some (.string x.nm) ∧ u.cell? ⟨vb, i * 4 + 2, none⟩ = some (.bool x.fx) ∧ u.cell? ⟨vb, i * 4 + 3, none⟩ = some (.slice pa0 pn0 pc0))) 12 (by kernel_rfl) (by kernel_rfl) ?_
  refine takeQ (i := 0) (v := ?vq701) rfl (by kernel_rfl) (fun _ _ _ h => h) (by rfl) ?hq701 (by assumption) ?rq701
  case hq701 => (intro u hu; (try dsimp only at hu); go_simp <;> with_reducible rfl)
  try simp only [Act.put, lsA, lsB, lsC]
  refine takeQ (i := 1) (v := ?vq702) rfl (by kernel_rfl) (fun _ _ _ h => h) (by rfl) ?hq702 (by assumption) ?rq702
  case hq702 => (intro u hu; (try dsimp only at hu); go_simp <;> with_reducible rfl)
  try simp only [Act.put, lsA, lsB, lsC]
  refine takeQ (i := 2) (v := ?vq703) rfl (by kernel_rfl) (fun _ _ _ h => h) (by rfl) ?hq703 (by assumption) ?rq703
  case hq703 => (intro u hu; (try dsimp only at hu); go_simp <;> with_reducible rfl)
  try simp only [Act.put, lsA, lsB, lsC]
  refine takeQ (i := 3) (v := ?vq704) rfl (by kernel_rfl) (fun _ _ _ h => h) (by rfl) ?hq704 (by assumption) ?rq704
  case hq704 => (intro u hu; (try dsimp only at hu); go_simp <;> with_reducible rfl)
  try simp only [Act.put, lsA, lsB, lsC]
  refine takeQ (i := 4) (v := ?vq705) rfl (by kernel_rfl) (fun _ _ _ h => h) (by rfl) ?hq705 (by assumption) ?rq705
  case hq705 => (intro u hu; (try dsimp only at hu); go_simp <;> with_reducible rfl)
  try simp only [Act.put, lsA, lsB, lsC]
  refine takeQ (i := 5) (v := ?vq706) rfl (by kernel_rfl) (fun _ _ _ h => h) (by rfl) ?hq706 (by assumption) ?rq706
  case hq706 => (intro u hu; (try dsimp only at hu); go_simp <;> with_reducible rfl)
  try simp only [Act.put, lsA, lsB, lsC]
  refine takeQ (i := 6) (v := ?vq707) rfl (by kernel_rfl) (fun _ _ _ h => h) (by rfl) ?hq707 (by assumption) ?rq707
  case hq707 => (intro u hu; (try dsimp only at hu); go_simp <;> with_reducible rfl)
  try simp only [Act.put, lsA, lsB, lsC]
  refine takeQ (i := 7) (v := ?vq708) rfl (by kernel_rfl) (fun _ _ _ h => h) (by rfl) ?hq708 (by assumption) ?rq708
  case hq708 => (intro u hu; (try dsimp only at hu); go_simp <;> with_reducible rfl)
  try simp only [Act.put, lsA, lsB, lsC]
  refine takeQ (i := 8) (v := ?vq709) rfl (by kernel_rfl) (fun _ _ _ h => h) (by rfl) ?hq709 (by assumption) ?rq709
  case hq709 => (intro u hu; (try dsimp only at hu); go_simp <;> with_reducible rfl)
  try simp only [Act.put, lsA, lsB, lsC]
  refine takeQ (i := 9) (v := ?vq710) rfl (by kernel_rfl) (fun _ _ _ h => h) (by rfl) ?hq710 (by assumption) ?rq710
  case hq710 => (intro u hu; (try dsimp only at hu); go_simp <;> with_reducible rfl)
  try simp only [Act.put, lsA, lsB, lsC]
  refine oneL (i := 10) (by kernel_rfl) rfl (fun K hK => ?_)
  go_simp
  refine (spec_l6Set B x.id x.nm x.fx x.its pa0 pn0 pc0 irows file pa1 pn1 pc1 (laidJ Q at0 [⟨a, 0, data.size⟩]) _ ((RI.below hBwL).below ((Below.refl _ _).drew)) ((TI.below hBwL).below ((Below.refl _ _).drew)) ((Rp.mono hbp).below ((Below.refl _ _).drew)) hlS).mono ?_
  rintro e w5 ⟨⟨a2, n2, cap2, nrows, rfl, RN, TN⟩, hB5'⟩
  have hB5 : Below wL.heap.size wL w5 := chain ((Below.refl _ _).drew) hB5'
  have hs5 := hB5.size
  dsimp only
  refine hK.out _ _ (hSB _ hB5) (fun hHeld => ?_)
  clear hK K
  try simp only [Act.put, lsA, lsB, lsC]
  refine takeQ (i := 11) (v := ?vq711) rfl (by kernel_rfl) (fun _ _ _ h => h) (by rfl) ?hq711 (by assumption) ?rq711
  case hq711 => (intro u hu; (try dsimp only at hu); go_simp <;> with_reducible rfl)
  try simp only [Act.put, lsA, lsB, lsC]
  refine wpAnyH_done (by kernel_rfl) ?_ _
  refine lastL rfl ?_
  have hBw5 := chain hBwL hB5
  have RV5 := RL.below hB5
  obtain ⟨vcs, VB⟩ := RV5.blkAt
  have z0 := VB.frozen (i * 4)
  have z1' := VB.frozen (i * 4 + 1)
  have z2' := VB.frozen (i * 4 + 2)
  have z3' := VB.frozen (i * 4 + 3)
  have v0 := bcell hB5 e0
  have v1 := bcell hB5 e1
  have v2 := bcell hB5 e2
  have v3 := bcell hB5 e3
  have hg1 := grown4 w5 vb (i * 4) (.int .i64 x.id) (.string x.nm) (.bool x.fx) (.slice a2 n2 cap2)
  have htV : RowTy w5 (some vb) 41 := rowTy_blk VB
  have R1 := RV5.set4V hr ⟨x.id, x.nm, x.fx, a2, n2, cap2⟩
  simp only at R1
  have T1 := ((h3.below hBw5).ty hg1 htV (by decide) (by decide)).set i (show VolT B _ ⟨x.id, x.nm, x.fx, a2, n2, cap2⟩ ⟨x.id, x.nm, x.fx, setI ⟨file, (laidJ Q at0 [⟨a, 0, data.size⟩])⟩ x.its⟩ from ⟨rfl, rfl, rfl, nrows, (RN.ty hg1 htV (by decide)).mono (by simp only [World.size_drew] at *; omega), TN.ty hg1 htV (by decide)⟩)
  have C2 := (CL.below hB5).ty hg1 htV (by decide)
  have D2 := (DL.below hB5).ty hg1 htV (by decide)
  have P2 : PoolT B ((((w5.setCell ⟨vb, i * 4, none⟩ (.int .i64 x.id)).setCell ⟨vb, i * 4 + 1, none⟩ (.string x.nm)).setCell ⟨vb, i * 4 + 2, none⟩ (.bool x.fx)).setCell ⟨vb, i * 4 + 3, none⟩ (.slice a2 n2 cap2)) (.agg #[.int .i64 size, .int .i64 next, .slice xa xn xc, .slice (some ⟨vb, 0, none⟩) vn vc, .slice ra rn rc, .slice la ln lc]) ⟨size, next, L, vs.set i ⟨x.id, x.nm, x.fx, setI ⟨file, laidJ Q at0 [⟨a, 0, data.size⟩]⟩ x.its⟩, rf, lt⟩ := ⟨xa, xn, xc, some ⟨vb, 0, none⟩, vn, vc, ra, rn, rc, la, ln, lc, _, rfl, (REL.below hB5).ty hg1 htV (by decide), ⟨R1, T1⟩, (h4.below hBw5).ty hg1 htV (by decide), (h5.below hBw5).ty hg1 htV (by decide), h6⟩
  obtain ⟨y0, y1, y2, y3, y4, y5⟩ := C2.six'
  obtain ⟨q0, q1, q2, q3, q4, q5⟩ := D2.six'
  have m0 := D2.frozen 0
  have m1 := D2.frozen 1
  have m2 := D2.frozen 2
  have m3 := D2.frozen 3
  have m4 := D2.frozen 4
  have m5 := D2.frozen 5
  have hB2 := (hBw5.mono hBw).grown hg1 (by omega) (fun j e => by cases e; exact hvb)
  have hs2 := hg1.size
  have FT0 : Hid (FrV w ((((w5.setCell ⟨vb, i * 4, none⟩ (.int .i64 x.id)).setCell ⟨vb, i * 4 + 1, none⟩ (.string x.nm)).setCell ⟨vb, i * 4 + 2, none⟩ (.bool x.fx)).setCell ⟨vb, i * 4 + 3, none⟩ (.slice a2 n2 cap2))) := fun k c t hb hne => (hb.below hBw5).ty hg1 htV hne
  clear R1 T1 hg1 RV5 VB htV hSB
  go_wp2
  obtain ⟨W0, hg0⟩ := set6 D2 (.int .i64 size) (.int .i64 next) (.slice xa xn xc) (.slice (some ⟨vb, 0, none⟩) vn vc) (.slice ra rn rc) (.slice la ln lc)
  have PF := P2.tyP hg0 (rowTy_blk D2)
  have B8 := hB2.grown hg0 (by omega) (fun j e => by cases e; omega)
  have FT := fun (k : Nat) (c : Array Value) (t : TypeId) (hb : Blk w k c t) (hne : t ≠ 41) => (FT0.out k c t hb hne).offB hg0 (B := w.heap.size) (fun j e => by cases e; omega) hb.lt
  generalize ((((((((((w5.setCell ⟨vb, i * 4, none⟩ (.int .i64 x.id)).setCell ⟨vb, i * 4 + 1, none⟩ (.string x.nm)).setCell ⟨vb, i * 4 + 2, none⟩ (.bool x.fx)).setCell ⟨vb, i * 4 + 3, none⟩ (.slice a2 n2 cap2)).setCell ⟨w.heap.size + 2, 0, none⟩ (.int .i64 size)).setCell ⟨w.heap.size + 2, 1, none⟩ (.int .i64 next)).setCell ⟨w.heap.size + 2, 2, none⟩ (.slice xa xn xc)).setCell ⟨w.heap.size + 2, 3, none⟩ (.slice (some ⟨vb, 0, none⟩) vn vc)).setCell ⟨w.heap.size + 2, 4, none⟩ (.slice ra rn rc)).setCell ⟨w.heap.size + 2, 5, none⟩ (.slice la ln lc)) = W8 at *
  refine bodyPost_ret (results_cell_tmp rfl _ W8 (w.heap.size + 2) _ _ _ _ _ rfl W0 Tryz.underlying28 rfl (by kernel_rfl) rfl) rfl ?_
  exact ⟨⟨_, 0, rfl, pv_mk _ _ _ _ _ _ _ _ _ _ _ _ _ _, by rw [hS.out], fun _ => ⟨by rw [hS.out]; exact PF, by exact Nat.le_trans (Nat.le_of_eq Rp.sl.len) (by omega)⟩⟩, B8, FT⟩
end Go.Proofs.YtnjefbkhibfgmaaGreat
