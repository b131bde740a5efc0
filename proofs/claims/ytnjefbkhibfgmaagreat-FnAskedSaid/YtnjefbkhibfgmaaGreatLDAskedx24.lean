/- Files cut, by the model. -/
import Derived.Test.YtnjefbkhibfgmaaGreatLDAskedx23
namespace Go.Proofs.YtnjefbkhibfgmaaGreat
open Go Go.RowKit Go.BigFrame
set_option maxHeartbeats 4000000 in
set_option maxRecDepth 100000 in
theorem spec_l6File_cutMore (B : Nat) (hB0 : 0 < B) (v : Value) (p : Po) (o : Opr) (w : World) (h : PoolT B w v p) (hNn : NnE v) (hBw : B ≤ w.heap.size) (hd : DimP p) (hp : poolB p = true) (hk : o.k = 3) (i : Nat) (hso : volI p.vs o.vol = some i) (hfx : ∀ x : Vo, p.vs[i]? = some x → x.fx = false) (q : List Pt) (hpo : partsO p.vs o.vol o.file = some q) (hl : 0 ≤ o.ln ∧ o.ln ≤ 100) (hgt : sumN q < o.ln) :
    Calls Tryz.prog 108 #[v, .agg #[.int .i64 o.k, .string o.vol, .string o.file, .string o.to, .string o.into, .int .i64 o.at', .int .i64 o.fr, .int .i64 o.ln, .string o.data]] w fun e w' => (∃ v' c, e = .returned (.tuple #[v', .int .i64 c]) ∧ PoolV v' ∧ c = (fileS p o).1 ∧ (c = 0 → PoolT B w' v' (fileS p o).2 ∧ (partsS p o).2.2.length ≤ 1000)) ∧ Below B w w' ∧ FrV w w' := by
  have hPA := h.at'
  obtain ⟨ea, en, ec, va, vn, vc, ra, rn, rc, la, ln, lc, rows, rfl, h1, ⟨h2, h3⟩, h4, h5, h6⟩ := h
  have hdm := hd
  obtain ⟨z1, z2, z3, z4, z5, z6, z7, z8⟩ := hd
  have hV : VsAt B w va vn p.vs := h3.rows.vs h2
  rw [hV.len] at z3
  obtain ⟨size, next, ex, vs, rf, lt⟩ := p
  obtain ⟨k, vol, file, tt, into, at0, fr, ln0, data⟩ := o
  simp only at h1 h2 h3 h4 h5 hV z4 z3 hPA hp hk ⊢
  have _ := hB0
  have _ := hNn
  have _ := hBw
  have _ := hp
  have hlen : vs.length = vn := hV.len
  have hrl : rows.length = vn := h2.sl.len
  simp only at hso hfx hpo hl hgt
  subst hk
  have hi := volI_lt hso
  have hin : i < vn := by omega
  have hx : vs[i]? = some vs[i] := by simp [hi]
  have hip : (0 : Int) ≤ (i : Int) := by omega
  have hip2 : (i : Int) < vn := by omega
  have hr : rows[i]? = some (rows[i]'(by omega)) := by simp [hrl, hin]
  have VT := h3.at' i _ _ hr hx
  generalize rows[i]'(by omega) = r0 at *
  generalize vs[i] = x at *
  obtain ⟨rid, rnm, rfx, pa0, pn0, pc0⟩ := r0
  obtain ⟨e1, e2, e3, irows, RI, TI⟩ := VT
  simp only at e1 e2 e3 RI
  subst e1 e2 e3
  obtain ⟨vb, rfl, hvb, hvc1, hvc2⟩ := h2.addr (by omega)
  have hf := hfx _ hx
  clear hfx
  have hPS : partsS ⟨size, next, ex, vs, rf, lt⟩ ⟨3, vol, file, tt, into, at0, fr, ln0, data⟩ = (0, ex, laidJ q (sumN q) [⟨0, 0, ln0 - sumN q⟩]) := by simp [partsS, hpo, hgt]
  have hS : Hid (fileS ⟨size, next, ex, vs, rf, lt⟩ ⟨3, vol, file, tt, into, at0, fr, ln0, data⟩ = (0, ⟨size, next, ex, vs.set i ⟨x.id, x.nm, x.fx, setI ⟨file, laidJ q (sumN q) [⟨0, 0, ln0 - sumN q⟩]⟩ x.its⟩, rf, lt⟩)) := by show _ = _; simp [fileS, hso, hx, hf, hPS]
  generalize hPq : partsS ⟨size, next, ex, vs, rf, lt⟩ ⟨3, vol, file, tt, into, at0, fr, ln0, data⟩ = PS at *
  replace hPq : Hid (partsS ⟨size, next, ex, vs, rf, lt⟩ ⟨3, vol, file, tt, into, at0, fr, ln0, data⟩ = PS) := hPq
  generalize fileS ⟨size, next, ex, vs, rf, lt⟩ ⟨3, vol, file, tt, into, at0, fr, ln0, data⟩ = R at *
  have hf' : Hid (x.fx = false) := hf
  clear hf
  go_enter Tryz.func108, Tryz.ntmps108
  go_wp2_with fail
  refine (spec_l4Find B size next ea en ec (some ⟨vb, 0, none⟩) vn vc ra rn rc la ln lc vs vol _ (hV.below (by go_grown)) z3).mono ?_
  rintro e w1 ⟨rfl, hB1⟩
  have C : Blk w1 w.heap.size #[.int .i64 size, .int .i64 next, .slice ea en ec, .slice (some ⟨vb, 0, none⟩) vn vc, .slice ra rn rc, .slice la ln lc] 28 := (((Blk.new w _ _).alloc _).alloc _).below hB1
  have O : Blk w1 (w.heap.size + 1) #[.int .i64 3, .string vol, .string file, .string tt, .string into, .int .i64 at0, .int .i64 fr, .int .i64 ln0, .string data] 102 := ((Blk.new' _ _ _ _ (by simp)).alloc _).below hB1
  have D : Blk w1 (w.heap.size + 2) #[.int .i64 0, .int .i64 0, .slice none 0 0, .slice none 0 0, .slice none 0 0, .slice none 0 0] 28 := (Blk.new' _ _ _ _ (by simp)).below hB1
  have hBw1 : Below w.heap.size w w1 := chain (by go_grown) hB1
  have hs1 : w.heap.size + 3 ≤ w1.heap.size := by have := hB1.size; simp at this; omega
  clear hB1
  rw [hso]
  simp only [idxV]
  obtain ⟨c0, c1, c2, c3, c4, c5⟩ := C.six'
  have o0 : w1.cell? ⟨w.heap.size + 1, 0, none⟩ = some (.int .i64 3) := O.cell 0
  have o1 : w1.cell? ⟨w.heap.size + 1, 1, none⟩ = some (.string vol) := O.cell 1
  have o2 : w1.cell? ⟨w.heap.size + 1, 2, none⟩ = some (.string file) := O.cell 2
  have o3 : w1.cell? ⟨w.heap.size + 1, 3, none⟩ = some (.string tt) := O.cell 3
  have o4 : w1.cell? ⟨w.heap.size + 1, 4, none⟩ = some (.string into) := O.cell 4
  have o5 : w1.cell? ⟨w.heap.size + 1, 5, none⟩ = some (.int .i64 at0) := O.cell 5
  have o6 : w1.cell? ⟨w.heap.size + 1, 6, none⟩ = some (.int .i64 fr) := O.cell 6
  have o7 : w1.cell? ⟨w.heap.size + 1, 7, none⟩ = some (.int .i64 ln0) := O.cell 7
  have o8 : w1.cell? ⟨w.heap.size + 1, 8, none⟩ = some (.string data) := O.cell 8
  obtain ⟨x0, x1, x2, x3, x4, x5⟩ := D.six'
  have f0 := D.frozen 0
  have f1 := D.frozen 1
  have f2 := D.frozen 2
  have f3 := D.frozen 3
  have f4 := D.frozen 4
  have f5 := D.frozen 5
  have RA := h2.below hBw1
  have e2 : w1.cell? ⟨vb, i * 4 + 2, none⟩ = some (.bool x.fx) := RA.cellAt (j := 2) hr rfl
  rw [hf'.out] at e2
  go_wp2_with fail
  refine (spec_l5Parts B _ ⟨size, next, ex, vs, rf, lt⟩ vol file _ (hPA.below hBw1) hdm).mono ?_
  rintro e wA ⟨hret, hBA⟩
  obtain ⟨qa, qn, qc, rfl, hQ⟩ := hret.uni
  clear hret
  have hok : partsOkB ((partsO vs vol file).getD []) = true := ok_getD (p := ⟨size, next, ex, vs, rf, lt⟩) hp
  simp only at hQ ⊢
  clear c0 c1 c2 c3 c4 c5 o0 o1 o2 o3 o4 o5 o6 o7 o8 x0 x1 x2 x3 x4 x5 f0 f1 f2 f3 f4 f5
  have C' := C.below hBA
  have D' := D.below hBA
  have O' := O.below hBA
  have hBwA := chain hBw1 hBA
  have hsA := hBA.size
  clear C D O e2 RA
  obtain ⟨c0, c1, c2, c3, c4, c5⟩ := C'.six'
  have o0 : wA.cell? ⟨w.heap.size + 1, 0, none⟩ = some (.int .i64 3) := O'.cell 0
  have o1 : wA.cell? ⟨w.heap.size + 1, 1, none⟩ = some (.string vol) := O'.cell 1
  have o2 : wA.cell? ⟨w.heap.size + 1, 2, none⟩ = some (.string file) := O'.cell 2
  have o3 : wA.cell? ⟨w.heap.size + 1, 3, none⟩ = some (.string tt) := O'.cell 3
  have o4 : wA.cell? ⟨w.heap.size + 1, 4, none⟩ = some (.string into) := O'.cell 4
  have o5 : wA.cell? ⟨w.heap.size + 1, 5, none⟩ = some (.int .i64 at0) := O'.cell 5
  have o6 : wA.cell? ⟨w.heap.size + 1, 6, none⟩ = some (.int .i64 fr) := O'.cell 6
  have o7 : wA.cell? ⟨w.heap.size + 1, 7, none⟩ = some (.int .i64 ln0) := O'.cell 7
  have o8 : wA.cell? ⟨w.heap.size + 1, 8, none⟩ = some (.string data) := O'.cell 8
  obtain ⟨x0, x1, x2, x3, x4, x5⟩ := D'.six'
  have f0 := D'.frozen 0
  have f1 := D'.frozen 1
  have f2 := D'.frozen 2
  have f3 := D'.frozen 3
  have f4 := D'.frozen 4
  have f5 := D'.frozen 5
  rw [hpo] at hQ hok ⊢
  simp only [Option.getD_some, Option.isSome_some] at hQ hok ⊢
  have hn16 : qn ≤ 16 := by rw [← hQ.len]; exact (partsOkB_all hok).1
  have hsum : ∀ k, 0 ≤ sumN (q.take k) ∧ sumN (q.take k) ≤ 100 := fun k => by have h1 := sumN_take_bd (partsOkB_all hok).2.1 k; have h2 := (partsOkB_all hok).2.2; omega
  have hs0 : 0 ≤ sumN q ∧ sumN q ≤ 100 := by have := hsum q.length; rwa [List.take_length] at this
  go_wp2_with fail
  refine (spec_l2Len qa qn qc q _ hQ (by omega) hsum).mono ?_
  rintro e wB ⟨rfl, rfl⟩
  have hok2 : partsOkB [⟨0, 0, ln0 - sumN q⟩] = true := by simp [partsOkB, pgo, partOkB]; omega
  have hwr : IntKind.i64.wrap (ln0 - sumN q) = ln0 - sumN q := by rw [IntKind.wrap_i64]; omega
  go_wp2_with fail
  refine (spec_l2Laid qa qn qc q (sumN q) _ 1 1 [⟨0, 0, ln0 - sumN q⟩] _ (hQ.below (by go_grown)) (sl_new' _ ⟨0, 0, ln0 - sumN q⟩ _ _ (by simp)) hok hok2 hs0.1 hs0.2).mono ?_
  rintro e wL ⟨⟨pa1, pn1, pc1, rfl, hp1, Rp⟩, hBL⟩
  have hBAL : Below wB.heap.size wB wL := chain (by go_grown) hBL
  have CL := C'.below hBAL
  have DL := D'.below hBAL
  have hBwL := chain hBwA hBAL
  have hbp : B ≤ (wB.alloc (.cells #[.int .i64 0, .int .i64 0, .int .i64 (ln0 - sumN q)] 46)).heap.size := by simp; omega
  clear c0 c1 c2 c3 c4 c5 o0 o1 o2 o3 o4 o5 o6 o7 o8 x0 x1 x2 x3 x4 x5 f0 f1 f2 f3 f4 f5
  have RL := h2.below hBwL
  have e0 : wL.cell? ⟨vb, i * 4, none⟩ = some (.int .i64 x.id) := RL.cellAt (j := 0) hr rfl
  have e1 : wL.cell? ⟨vb, i * 4 + 1, none⟩ = some (.string x.nm) := RL.cellAt (j := 1) hr rfl
  have e2 : wL.cell? ⟨vb, i * 4 + 2, none⟩ = some (.bool x.fx) := RL.cellAt (j := 2) hr rfl
  have e3 : wL.cell? ⟨vb, i * 4 + 3, none⟩ = some (.slice pa0 pn0 pc0) := RL.cellAt (j := 3) hr rfl
  have k3 : wL.cell? ⟨w.heap.size, 3, none⟩ = some (.slice (some ⟨vb, 0, none⟩) vn vc) := CL.cell 3
  have hsL := hBwL.size
  have hlS : pn0 ≤ 4194304 := by have := (z4 x (List.mem_of_getElem? hx)).2.1; rw [(TI.rows.its RI).len] at this; exact this
  go_wp2_with fail
  have hSB : ∀ u, Below wL.heap.size wL u → (fun u => u.cell? ⟨w.heap.size, 3, none⟩ = some (.slice (some ⟨vb, 0, none⟩) vn vc) ∧ u.cell? ⟨vb, i * 4, none⟩ = some (.int .i64 x.id) ∧ u.cell? ⟨vb, i * 4 + 1, none⟩ = some (.string x.nm) ∧ u.cell? ⟨vb, i * 4 + 2, none⟩ = some (.bool x.fx) ∧ u.cell? ⟨vb, i * 4 + 3, none⟩ = some (.slice pa0 pn0 pc0)) u := fun u hu => ⟨bcell hu k3, bcell hu e0, bcell hu e1, bcell hu e2, bcell hu e3⟩
  have hS0 := hSB wL.drew ((Below.refl _ _).drew)
  refine wp_region_last (S := (fun u => u.cell? ⟨w.heap.size, 3, none⟩ = some (.slice (some ⟨vb, 0, none⟩) vn vc) ∧ u.cell? ⟨vb, i * 4, none⟩ = some (.int .i64 x.id) ∧ u.cell? ⟨vb, i * 4 + 1, none⟩ = some (.string x.nm) ∧ u.cell? ⟨vb, i * 4 + 2, none⟩ = some (.bool x.fx) ∧ u.cell? ⟨vb, i * 4 + 3, none⟩ = some (.slice pa0 pn0 pc0))) 12 (by kernel_rfl) (by kernel_rfl) ?_
  refine takeQ (i := 0) (v := ?vq501) rfl (by kernel_rfl) (fun _ _ _ h => h) (by rfl) ?hq501 (by assumption) ?rq501
  case hq501 => (intro u hu; (try dsimp only at hu); go_simp <;> with_reducible rfl)
  try simp only [Act.put, lsA, lsB, lsC]
  refine takeQ (i := 1) (v := ?vq502) rfl (by kernel_rfl) (fun _ _ _ h => h) (by rfl) ?hq502 (by assumption) ?rq502
  case hq502 => (intro u hu; (try dsimp only at hu); go_simp <;> with_reducible rfl)
  try simp only [Act.put, lsA, lsB, lsC]
  refine takeQ (i := 2) (v := ?vq503) rfl (by kernel_rfl) (fun _ _ _ h => h) (by rfl) ?hq503 (by assumption) ?rq503
  case hq503 => (intro u hu; (try dsimp only at hu); go_simp <;> with_reducible rfl)
  try simp only [Act.put, lsA, lsB, lsC]
  refine takeQ (i := 3) (v := ?vq504) rfl (by kernel_rfl) (fun _ _ _ h => h) (by rfl) ?hq504 (by assumption) ?rq504
  case hq504 => (intro u hu; (try dsimp only at hu); go_simp <;> with_reducible rfl)
  try simp only [Act.put, lsA, lsB, lsC]
  refine takeQ (i := 4) (v := ?vq505) rfl (by kernel_rfl) (fun _ _ _ h => h) (by rfl) ?hq505 (by assumption) ?rq505
  case hq505 => (intro u hu; (try dsimp only at hu); go_simp <;> with_reducible rfl)
  try simp only [Act.put, lsA, lsB, lsC]
  refine takeQ (i := 5) (v := ?vq506) rfl (by kernel_rfl) (fun _ _ _ h => h) (by rfl) ?hq506 (by assumption) ?rq506
  case hq506 => (intro u hu; (try dsimp only at hu); go_simp <;> with_reducible rfl)
  try simp only [Act.put, lsA, lsB, lsC]
  refine takeQ (i := 6) (v := ?vq507) rfl (by kernel_rfl) (fun _ _ _ h => h) (by rfl) ?hq507 (by assumption) ?rq507
  case hq507 => (intro u hu; (try dsimp only at hu); go_simp <;> with_reducible rfl)
  try simp only [Act.put, lsA, lsB, lsC]
  refine takeQ (i := 7) (v := ?vq508) rfl (by kernel_rfl) (fun _ _ _ h => h) (by rfl) ?hq508 (by assumption) ?rq508
  case hq508 => (intro u hu; (try dsimp only at hu); go_simp <;> with_reducible rfl)
  try simp only [Act.put, lsA, lsB, lsC]
  refine takeQ (i := 8) (v := ?vq509) rfl (by kernel_rfl) (fun _ _ _ h => h) (by rfl) ?hq509 (by assumption) ?rq509
  case hq509 => (intro u hu; (try dsimp only at hu); go_simp <;> with_reducible rfl)
  try simp only [Act.put, lsA, lsB, lsC]
  refine takeQ (i := 9) (v := ?vq510) rfl (by kernel_rfl) (fun _ _ _ h => h) (by rfl) ?hq510 (by assumption) ?rq510
  case hq510 => (intro u hu; (try dsimp only at hu); go_simp <;> with_reducible rfl)
  try simp only [Act.put, lsA, lsB, lsC]
  refine oneL (i := 10) (by kernel_rfl) rfl (fun K hK => ?_)
  go_simp
  refine (spec_l6Set B x.id x.nm x.fx x.its pa0 pn0 pc0 irows file pa1 pn1 pc1 (laidJ q (sumN q) [⟨0, 0, ln0 - sumN q⟩]) _ ((RI.below hBwL).below ((Below.refl _ _).drew)) ((TI.below hBwL).below ((Below.refl _ _).drew)) ((Rp.mono hbp).below ((Below.refl _ _).drew)) hlS).mono ?_
  rintro e w5 ⟨⟨a2, n2, cap2, nrows, rfl, RN, TN⟩, hB5'⟩
  have hB5 : Below wL.heap.size wL w5 := chain ((Below.refl _ _).drew) hB5'
  have hs5 := hB5.size
  dsimp only
  refine hK.out _ _ (hSB _ hB5) (fun hHeld => ?_)
  clear hK K
  try simp only [Act.put, lsA, lsB, lsC]
  refine takeQ (i := 11) (v := ?vq511) rfl (by kernel_rfl) (fun _ _ _ h => h) (by rfl) ?hq511 (by assumption) ?rq511
  case hq511 => (intro u hu; (try dsimp only at hu); go_simp <;> with_reducible rfl)
  try simp only [Act.put, lsA, lsB, lsC]
  refine wpAnyH_done (by kernel_rfl) ?_ _
  refine lastL rfl ?_
  have hBw5 := chain hBwL hB5
  have RV5 := RL.below hB5
  obtain ⟨vcs, VB⟩ := RV5.blkAt
  have z0 := VB.frozen (i * 4)
  have z1' := VB.frozen (i * 4 + 1)
  have z2' := VB.frozen (i * 4 + 2)
  have z3' := VB.frozen (i * 4 + 3)
  have v0 := bcell hB5 e0
  have v1 := bcell hB5 e1
  have v2 := bcell hB5 e2
  have v3 := bcell hB5 e3
  have hg1 := grown4 w5 vb (i * 4) (.int .i64 x.id) (.string x.nm) (.bool x.fx) (.slice a2 n2 cap2)
  have htV : RowTy w5 (some vb) 41 := rowTy_blk VB
  have R1 := RV5.set4V hr ⟨x.id, x.nm, x.fx, a2, n2, cap2⟩
  simp only at R1
  have T1 := ((h3.below hBw5).ty hg1 htV (by decide) (by decide)).set i (show VolT B _ ⟨x.id, x.nm, x.fx, a2, n2, cap2⟩ ⟨x.id, x.nm, x.fx, setI ⟨file, (laidJ q (sumN q) [⟨0, 0, ln0 - sumN q⟩])⟩ x.its⟩ from ⟨rfl, rfl, rfl, nrows, (RN.ty hg1 htV (by decide)).mono (by simp only [World.size_drew] at *; omega), TN.ty hg1 htV (by decide)⟩)
  have C2 := (CL.below hB5).ty hg1 htV (by decide)
  have D2 := (DL.below hB5).ty hg1 htV (by decide)
  have P2 : PoolT B ((((w5.setCell ⟨vb, i * 4, none⟩ (.int .i64 x.id)).setCell ⟨vb, i * 4 + 1, none⟩ (.string x.nm)).setCell ⟨vb, i * 4 + 2, none⟩ (.bool x.fx)).setCell ⟨vb, i * 4 + 3, none⟩ (.slice a2 n2 cap2)) (.agg #[.int .i64 size, .int .i64 next, .slice ea en ec, .slice (some ⟨vb, 0, none⟩) vn vc, .slice ra rn rc, .slice la ln lc]) ⟨size, next, ex, vs.set i ⟨x.id, x.nm, x.fx, setI ⟨file, laidJ q (sumN q) [⟨0, 0, ln0 - sumN q⟩]⟩ x.its⟩, rf, lt⟩ := ⟨ea, en, ec, some ⟨vb, 0, none⟩, vn, vc, ra, rn, rc, la, ln, lc, _, rfl, ((h1.below hBwL).below hB5).ty hg1 htV (by decide), ⟨R1, T1⟩, (h4.below hBw5).ty hg1 htV (by decide), (h5.below hBw5).ty hg1 htV (by decide), h6⟩
  obtain ⟨y0, y1, y2, y3, y4, y5⟩ := C2.six'
  obtain ⟨q0, q1, q2, q3, q4, q5⟩ := D2.six'
  have m0 := D2.frozen 0
  have m1 := D2.frozen 1
  have m2 := D2.frozen 2
  have m3 := D2.frozen 3
  have m4 := D2.frozen 4
  have m5 := D2.frozen 5
  have hB2 := (hBw5.mono hBw).grown hg1 (by omega) (fun j e => by cases e; exact hvb)
  have hs2 := hg1.size
  have FT0 : Hid (FrV w ((((w5.setCell ⟨vb, i * 4, none⟩ (.int .i64 x.id)).setCell ⟨vb, i * 4 + 1, none⟩ (.string x.nm)).setCell ⟨vb, i * 4 + 2, none⟩ (.bool x.fx)).setCell ⟨vb, i * 4 + 3, none⟩ (.slice a2 n2 cap2))) := fun k c t hb hne => (hb.below hBw5).ty hg1 htV hne
  clear R1 T1 hg1 RV5 VB htV hSB
  go_wp2
  obtain ⟨W0, hg0⟩ := set6 D2 (.int .i64 size) (.int .i64 next) (.slice ea en ec) (.slice (some ⟨vb, 0, none⟩) vn vc) (.slice ra rn rc) (.slice la ln lc)
  have PF := P2.tyP hg0 (rowTy_blk D2)
  have B8 := hB2.grown hg0 (by omega) (fun j e => by cases e; omega)
  have FT := fun (k : Nat) (c : Array Value) (t : TypeId) (hb : Blk w k c t) (hne : t ≠ 41) => (FT0.out k c t hb hne).offB hg0 (B := w.heap.size) (fun j e => by cases e; omega) hb.lt
  generalize ((((((((((w5.setCell ⟨vb, i * 4, none⟩ (.int .i64 x.id)).setCell ⟨vb, i * 4 + 1, none⟩ (.string x.nm)).setCell ⟨vb, i * 4 + 2, none⟩ (.bool x.fx)).setCell ⟨vb, i * 4 + 3, none⟩ (.slice a2 n2 cap2)).setCell ⟨w.heap.size + 2, 0, none⟩ (.int .i64 size)).setCell ⟨w.heap.size + 2, 1, none⟩ (.int .i64 next)).setCell ⟨w.heap.size + 2, 2, none⟩ (.slice ea en ec)).setCell ⟨w.heap.size + 2, 3, none⟩ (.slice (some ⟨vb, 0, none⟩) vn vc)).setCell ⟨w.heap.size + 2, 4, none⟩ (.slice ra rn rc)).setCell ⟨w.heap.size + 2, 5, none⟩ (.slice la ln lc)) = W8 at *
  refine bodyPost_ret (results_cell_tmp rfl _ W8 (w.heap.size + 2) _ _ _ _ _ rfl W0 Tryz.underlying28 rfl (by kernel_rfl) rfl) rfl ?_
  exact ⟨⟨_, 0, rfl, pv_mk _ _ _ _ _ _ _ _ _ _ _ _ _ _, by rw [hS.out], fun _ => ⟨by rw [hS.out]; exact PF, by exact Nat.le_trans (Nat.le_of_eq Rp.sl.len) (by omega)⟩⟩, B8, FT⟩
end Go.Proofs.YtnjefbkhibfgmaaGreat
namespace Go.Proofs.YtnjefbkhibfgmaaGreat
open Go Go.RowKit Go.BigFrame
set_option maxHeartbeats 4000000 in
set_option maxRecDepth 100000 in
theorem spec_l6File_cutLess (B : Nat) (hB0 : 0 < B) (v : Value) (p : Po) (o : Opr) (w : World) (h : PoolT B w v p) (hNn : NnE v) (hBw : B ≤ w.heap.size) (hd : DimP p) (hp : poolB p = true) (hk : o.k = 3) (i : Nat) (hso : volI p.vs o.vol = some i) (hfx : ∀ x : Vo, p.vs[i]? = some x → x.fx = false) (q : List Pt) (hpo : partsO p.vs o.vol o.file = some q) (hl : 0 ≤ o.ln ∧ o.ln ≤ 100) (hgt : ¬ sumN q < o.ln) :
    Calls Tryz.prog 108 #[v, .agg #[.int .i64 o.k, .string o.vol, .string o.file, .string o.to, .string o.into, .int .i64 o.at', .int .i64 o.fr, .int .i64 o.ln, .string o.data]] w fun e w' => (∃ v' c, e = .returned (.tuple #[v', .int .i64 c]) ∧ PoolV v' ∧ c = (fileS p o).1 ∧ (c = 0 → PoolT B w' v' (fileS p o).2 ∧ (partsS p o).2.2.length ≤ 1000)) ∧ Below B w w' ∧ FrV w w' := by
  have hPA := h.at'
  obtain ⟨ea, en, ec, va, vn, vc, ra, rn, rc, la, ln, lc, rows, rfl, h1, ⟨h2, h3⟩, h4, h5, h6⟩ := h
  have hdm := hd
  obtain ⟨z1, z2, z3, z4, z5, z6, z7, z8⟩ := hd
  have hV : VsAt B w va vn p.vs := h3.rows.vs h2
  rw [hV.len] at z3
  obtain ⟨size, next, ex, vs, rf, lt⟩ := p
  obtain ⟨k, vol, file, tt, into, at0, fr, ln0, data⟩ := o
  simp only at h1 h2 h3 h4 h5 hV z4 z3 hPA hp hk ⊢
  have _ := hB0
  have _ := hNn
  have _ := hBw
  have _ := hp
  have hlen : vs.length = vn := hV.len
  have hrl : rows.length = vn := h2.sl.len
  simp only at hso hfx hpo hl hgt
  subst hk
  have hi := volI_lt hso
  have hin : i < vn := by omega
  have hx : vs[i]? = some vs[i] := by simp [hi]
  have hip : (0 : Int) ≤ (i : Int) := by omega
  have hip2 : (i : Int) < vn := by omega
  have hr : rows[i]? = some (rows[i]'(by omega)) := by simp [hrl, hin]
  have VT := h3.at' i _ _ hr hx
  generalize rows[i]'(by omega) = r0 at *
  generalize vs[i] = x at *
  obtain ⟨rid, rnm, rfx, pa0, pn0, pc0⟩ := r0
  obtain ⟨e1, e2, e3, irows, RI, TI⟩ := VT
  simp only at e1 e2 e3 RI
  subst e1 e2 e3
  obtain ⟨vb, rfl, hvb, hvc1, hvc2⟩ := h2.addr (by omega)
  have hf := hfx _ hx
  clear hfx
  have hPS : partsS ⟨size, next, ex, vs, rf, lt⟩ ⟨3, vol, file, tt, into, at0, fr, ln0, data⟩ = (0, ex, joinL [] (slp 0 ln0 0 q)) := by simp [partsS, hpo, hgt]
  have hS : Hid (fileS ⟨size, next, ex, vs, rf, lt⟩ ⟨3, vol, file, tt, into, at0, fr, ln0, data⟩ = (0, ⟨size, next, ex, vs.set i ⟨x.id, x.nm, x.fx, setI ⟨file, joinL [] (slp 0 ln0 0 q)⟩ x.its⟩, rf, lt⟩)) := by show _ = _; simp [fileS, hso, hx, hf, hPS]
  generalize hPq : partsS ⟨size, next, ex, vs, rf, lt⟩ ⟨3, vol, file, tt, into, at0, fr, ln0, data⟩ = PS at *
  replace hPq : Hid (partsS ⟨size, next, ex, vs, rf, lt⟩ ⟨3, vol, file, tt, into, at0, fr, ln0, data⟩ = PS) := hPq
  generalize fileS ⟨size, next, ex, vs, rf, lt⟩ ⟨3, vol, file, tt, into, at0, fr, ln0, data⟩ = R at *
  have hf' : Hid (x.fx = false) := hf
  clear hf
  go_enter Tryz.func108, Tryz.ntmps108
  go_wp2_with fail
  refine (spec_l4Find B size next ea en ec (some ⟨vb, 0, none⟩) vn vc ra rn rc la ln lc vs vol _ (hV.below (by go_grown)) z3).mono ?_
  rintro e w1 ⟨rfl, hB1⟩
  have C : Blk w1 w.heap.size #[.int .i64 size, .int .i64 next, .slice ea en ec, .slice (some ⟨vb, 0, none⟩) vn vc, .slice ra rn rc, .slice la ln lc] 28 := (((Blk.new w _ _).alloc _).alloc _).below hB1
  have O : Blk w1 (w.heap.size + 1) #[.int .i64 3, .string vol, .string file, .string tt, .string into, .int .i64 at0, .int .i64 fr, .int .i64 ln0, .string data] 102 := ((Blk.new' _ _ _ _ (by simp)).alloc _).below hB1
  have D : Blk w1 (w.heap.size + 2) #[.int .i64 0, .int .i64 0, .slice none 0 0, .slice none 0 0, .slice none 0 0, .slice none 0 0] 28 := (Blk.new' _ _ _ _ (by simp)).below hB1
  have hBw1 : Below w.heap.size w w1 := chain (by go_grown) hB1
  have hs1 : w.heap.size + 3 ≤ w1.heap.size := by have := hB1.size; simp at this; omega
  clear hB1
  rw [hso]
  simp only [idxV]
  obtain ⟨c0, c1, c2, c3, c4, c5⟩ := C.six'
  have o0 : w1.cell? ⟨w.heap.size + 1, 0, none⟩ = some (.int .i64 3) := O.cell 0
  have o1 : w1.cell? ⟨w.heap.size + 1, 1, none⟩ = some (.string vol) := O.cell 1
  have o2 : w1.cell? ⟨w.heap.size + 1, 2, none⟩ = some (.string file) := O.cell 2
  have o3 : w1.cell? ⟨w.heap.size + 1, 3, none⟩ = some (.string tt) := O.cell 3
  have o4 : w1.cell? ⟨w.heap.size + 1, 4, none⟩ = some (.string into) := O.cell 4
  have o5 : w1.cell? ⟨w.heap.size + 1, 5, none⟩ = some (.int .i64 at0) := O.cell 5
  have o6 : w1.cell? ⟨w.heap.size + 1, 6, none⟩ = some (.int .i64 fr) := O.cell 6
  have o7 : w1.cell? ⟨w.heap.size + 1, 7, none⟩ = some (.int .i64 ln0) := O.cell 7
  have o8 : w1.cell? ⟨w.heap.size + 1, 8, none⟩ = some (.string data) := O.cell 8
  obtain ⟨x0, x1, x2, x3, x4, x5⟩ := D.six'
  have f0 := D.frozen 0
  have f1 := D.frozen 1
  have f2 := D.frozen 2
  have f3 := D.frozen 3
  have f4 := D.frozen 4
  have f5 := D.frozen 5
  have RA := h2.below hBw1
  have e2 : w1.cell? ⟨vb, i * 4 + 2, none⟩ = some (.bool x.fx) := RA.cellAt (j := 2) hr rfl
  rw [hf'.out] at e2
  go_wp2_with fail
  refine (spec_l5Parts B _ ⟨size, next, ex, vs, rf, lt⟩ vol file _ (hPA.below hBw1) hdm).mono ?_
  rintro e wA ⟨hret, hBA⟩
  obtain ⟨qa, qn, qc, rfl, hQ⟩ := hret.uni
  clear hret
  have hok : partsOkB ((partsO vs vol file).getD []) = true := ok_getD (p := ⟨size, next, ex, vs, rf, lt⟩) hp
  simp only at hQ ⊢
  clear c0 c1 c2 c3 c4 c5 o0 o1 o2 o3 o4 o5 o6 o7 o8 x0 x1 x2 x3 x4 x5 f0 f1 f2 f3 f4 f5
  have C' := C.below hBA
  have D' := D.below hBA
  have O' := O.below hBA
  have hBwA := chain hBw1 hBA
  have hsA := hBA.size
  clear C D O e2 RA
  obtain ⟨c0, c1, c2, c3, c4, c5⟩ := C'.six'
  have o0 : wA.cell? ⟨w.heap.size + 1, 0, none⟩ = some (.int .i64 3) := O'.cell 0
  have o1 : wA.cell? ⟨w.heap.size + 1, 1, none⟩ = some (.string vol) := O'.cell 1
  have o2 : wA.cell? ⟨w.heap.size + 1, 2, none⟩ = some (.string file) := O'.cell 2
  have o3 : wA.cell? ⟨w.heap.size + 1, 3, none⟩ = some (.string tt) := O'.cell 3
  have o4 : wA.cell? ⟨w.heap.size + 1, 4, none⟩ = some (.string into) := O'.cell 4
  have o5 : wA.cell? ⟨w.heap.size + 1, 5, none⟩ = some (.int .i64 at0) := O'.cell 5
  have o6 : wA.cell? ⟨w.heap.size + 1, 6, none⟩ = some (.int .i64 fr) := O'.cell 6
  have o7 : wA.cell? ⟨w.heap.size + 1, 7, none⟩ = some (.int .i64 ln0) := O'.cell 7
  have o8 : wA.cell? ⟨w.heap.size + 1, 8, none⟩ = some (.string data) := O'.cell 8
  obtain ⟨x0, x1, x2, x3, x4, x5⟩ := D'.six'
  have f0 := D'.frozen 0
  have f1 := D'.frozen 1
  have f2 := D'.frozen 2
  have f3 := D'.frozen 3
  have f4 := D'.frozen 4
  have f5 := D'.frozen 5
  rw [hpo] at hQ hok ⊢
  simp only [Option.getD_some, Option.isSome_some] at hQ hok ⊢
  have hn16 : qn ≤ 16 := by rw [← hQ.len]; exact (partsOkB_all hok).1
  have hsum : ∀ k, 0 ≤ sumN (q.take k) ∧ sumN (q.take k) ≤ 100 := fun k => by have h1 := sumN_take_bd (partsOkB_all hok).2.1 k; have h2 := (partsOkB_all hok).2.2; omega
  have hs0 : 0 ≤ sumN q ∧ sumN q ≤ 100 := by have := hsum q.length; rwa [List.take_length] at this
  go_wp2_with fail
  refine (spec_l2Len qa qn qc q _ hQ (by omega) hsum).mono ?_
  rintro e wB ⟨rfl, rfl⟩
  go_wp2_with fail
  refine (spec_l2Slice qa qn qc q 0 ln0 _ (hQ.below (by go_grown)) hn16 (holes_of hok) (by omega) (by omega) hl.1 (by omega)).mono ?_
  rintro e wL ⟨⟨pa1, pn1, pc1, rfl, hp1, Rp⟩, hBL⟩
  have hBAL : Below wB.heap.size wB wL := hBL
  have CL := C'.below hBAL
  have DL := D'.below hBAL
  have hBwL := chain hBwA hBAL
  have hbp : B ≤ wB.heap.size := by omega
  clear c0 c1 c2 c3 c4 c5 o0 o1 o2 o3 o4 o5 o6 o7 o8 x0 x1 x2 x3 x4 x5 f0 f1 f2 f3 f4 f5
  have RL := h2.below hBwL
  have e0 : wL.cell? ⟨vb, i * 4, none⟩ = some (.int .i64 x.id) := RL.cellAt (j := 0) hr rfl
  have e1 : wL.cell? ⟨vb, i * 4 + 1, none⟩ = some (.string x.nm) := RL.cellAt (j := 1) hr rfl
  have e2 : wL.cell? ⟨vb, i * 4 + 2, none⟩ = some (.bool x.fx) := RL.cellAt (j := 2) hr rfl
  have e3 : wL.cell? ⟨vb, i * 4 + 3, none⟩ = some (.slice pa0 pn0 pc0) := RL.cellAt (j := 3) hr rfl
  have k3 : wL.cell? ⟨w.heap.size, 3, none⟩ = some (.slice (some ⟨vb, 0, none⟩) vn vc) := CL.cell 3
  have hsL := hBwL.size
  have hlS : pn0 ≤ 4194304 := by have := (z4 x (List.mem_of_getElem? hx)).2.1; rw [(TI.rows.its RI).len] at this; exact this
  go_wp2_with fail
  have hSB : ∀ u, Below wL.heap.size wL u → (fun u => u.cell? ⟨w.heap.size, 3, none⟩ = some (.slice (some ⟨vb, 0, none⟩) vn vc) ∧ u.cell? ⟨vb, i * 4, none⟩ = some (.int .i64 x.id) ∧ u.cell? ⟨vb, i * 4 + 1, none⟩ = some (.string x.nm) ∧ u.cell? ⟨vb, i * 4 + 2, none⟩ = some (.bool x.fx) ∧ u.cell? ⟨vb, i * 4 + 3, none⟩ = some (.slice pa0 pn0 pc0)) u := fun u hu => ⟨bcell hu k3, bcell hu e0, bcell hu e1, bcell hu e2, bcell hu e3⟩
  have hS0 := hSB wL.drew ((Below.refl _ _).drew)
  refine wp_region_last (S := (fun u => u.cell? ⟨w.heap.size, 3, none⟩ = some (.slice (some ⟨vb, 0, none⟩) vn vc) ∧ u.cell? ⟨vb, i * 4, none⟩ = some (.int .i64 x.id) ∧ u.cell? ⟨vb, i * 4 + 1, none⟩ = some (.string x.nm) ∧ u.cell? ⟨vb, i * 4 + 2, none⟩ = some (.bool x.fx) ∧ u.cell? ⟨vb, i * 4 + 3, none⟩ = some (.slice pa0 pn0 pc0))) 12 (by kernel_rfl) (by kernel_rfl) ?_
  refine takeQ (i := 0) (v := ?vq601) rfl (by kernel_rfl) (fun _ _ _ h => h) (by rfl) ?hq601 (by assumption) ?rq601
  case hq601 => (intro u hu; (try dsimp only at hu); go_simp <;> with_reducible rfl)
  try simp only [Act.put, lsA, lsB, lsC]
  refine takeQ (i := 1) (v := ?vq602) rfl (by kernel_rfl) (fun _ _ _ h => h) (by rfl) ?hq602 (by assumption) ?rq602
  case hq602 => (intro u hu; (try dsimp only at hu); go_simp <;> with_reducible rfl)
  try simp only [Act.put, lsA, lsB, lsC]
  refine takeQ (i := 2) (v := ?vq603) rfl (by kernel_rfl) (fun _ _ _ h => h) (by rfl) ?hq603 (by assumption) ?rq603
  case hq603 => (intro u hu; (try dsimp only at hu); go_simp <;> with_reducible rfl)
  try simp only [Act.put, lsA, lsB, lsC]
  refine takeQ (i := 3) (v := ?vq604) rfl (by kernel_rfl) (fun _ _ _ h => h) (by rfl) ?hq604 (by assumption) ?rq604
  case hq604 => (intro u hu; (try dsimp only at hu); go_simp <;> with_reducible rfl)
  try simp only [Act.put, lsA, lsB, lsC]
  refine takeQ (i := 4) (v := ?vq605) rfl (by kernel_rfl) (fun _ _ _ h => h) (by rfl) ?hq605 (by assumption) ?rq605
  case hq605 => (intro u hu; (try dsimp only at hu); go_simp <;> with_reducible rfl)
  try simp only [Act.put, lsA, lsB, lsC]
  refine takeQ (i := 5) (v := ?vq606) rfl (by kernel_rfl) (fun _ _ _ h => h) (by rfl) ?hq606 (by assumption) ?rq606
  case hq606 => (intro u hu; (try dsimp only at hu); go_simp <;> with_reducible rfl)
  try simp only [Act.put, lsA, lsB, lsC]
  refine takeQ (i := 6) (v := ?vq607) rfl (by kernel_rfl) (fun _ _ _ h => h) (by rfl) ?hq607 (by assumption) ?rq607
  case hq607 => (intro u hu; (try dsimp only at hu); go_simp <;> with_reducible rfl)
  try simp only [Act.put, lsA, lsB, lsC]
  refine takeQ (i := 7) (v := ?vq608) rfl (by kernel_rfl) (fun _ _ _ h => h) (by rfl) ?hq608 (by assumption) ?rq608
  case hq608 => (intro u hu; (try dsimp only at hu); go_simp <;> with_reducible rfl)
  try simp only [Act.put, lsA, lsB, lsC]
  refine takeQ (i := 8) (v := ?vq609) rfl (by kernel_rfl) (fun _ _ _ h => h) (by rfl) ?hq609 (by assumption) ?rq609
  case hq609 => (intro u hu; (try dsimp only at hu); go_simp <;> with_reducible rfl)
  try simp only [Act.put, lsA, lsB, lsC]
  refine takeQ (i := 9) (v := ?vq610) rfl (by kernel_rfl) (fun _ _ _ h => h) (by rfl) ?hq610 (by assumption) ?rq610
  case hq610 => (intro u hu; (try dsimp only at hu); go_simp <;> with_reducible rfl)
  try simp only [Act.put, lsA, lsB, lsC]
  refine oneL (i := 10) (by kernel_rfl) rfl (fun K hK => ?_)
  go_simp
  refine (spec_l6Set B x.id x.nm x.fx x.its pa0 pn0 pc0 irows file pa1 pn1 pc1 (joinL [] (slp 0 ln0 0 q)) _ ((RI.below hBwL).below ((Below.refl _ _).drew)) ((TI.below hBwL).below ((Below.refl _ _).drew)) ((Rp.mono hbp).below ((Below.refl _ _).drew)) hlS).mono ?_
  rintro e w5 ⟨⟨a2, n2, cap2, nrows, rfl, RN, TN⟩, hB5'⟩
  have hB5 : Below wL.heap.size wL w5 := chain ((Below.refl _ _).drew) hB5'
  have hs5 := hB5.size
  dsimp only
  refine hK.out _ _ (hSB _ hB5) (fun hHeld => ?_)
  clear hK K
  try simp only [Act.put, lsA, lsB, lsC]
  refine takeQ (i := 11) (v := ?vq611) rfl (by kernel_rfl) (fun _ _ _ h => h) (by rfl) ?hq611 (by assumption) ?rq611
  case hq611 => (intro u hu; (try dsimp only at hu); go_simp <;> with_reducible rfl)
  try simp only [Act.put, lsA, lsB, lsC]
  refine wpAnyH_done (by kernel_rfl) ?_ _
  refine lastL rfl ?_
  have hBw5 := chain hBwL hB5
  have RV5 := RL.below hB5
  obtain ⟨vcs, VB⟩ := RV5.blkAt
  have z0 := VB.frozen (i * 4)
  have z1' := VB.frozen (i * 4 + 1)
  have z2' := VB.frozen (i * 4 + 2)
  have z3' := VB.frozen (i * 4 + 3)
  have v0 := bcell hB5 e0
  have v1 := bcell hB5 e1
  have v2 := bcell hB5 e2
  have v3 := bcell hB5 e3
  have hg1 := grown4 w5 vb (i * 4) (.int .i64 x.id) (.string x.nm) (.bool x.fx) (.slice a2 n2 cap2)
  have htV : RowTy w5 (some vb) 41 := rowTy_blk VB
  have R1 := RV5.set4V hr ⟨x.id, x.nm, x.fx, a2, n2, cap2⟩
  simp only at R1
  have T1 := ((h3.below hBw5).ty hg1 htV (by decide) (by decide)).set i (show VolT B _ ⟨x.id, x.nm, x.fx, a2, n2, cap2⟩ ⟨x.id, x.nm, x.fx, setI ⟨file, (joinL [] (slp 0 ln0 0 q))⟩ x.its⟩ from ⟨rfl, rfl, rfl, nrows, (RN.ty hg1 htV (by decide)).mono (by simp only [World.size_drew] at *; omega), TN.ty hg1 htV (by decide)⟩)
  have C2 := (CL.below hB5).ty hg1 htV (by decide)
  have D2 := (DL.below hB5).ty hg1 htV (by decide)
  have P2 : PoolT B ((((w5.setCell ⟨vb, i * 4, none⟩ (.int .i64 x.id)).setCell ⟨vb, i * 4 + 1, none⟩ (.string x.nm)).setCell ⟨vb, i * 4 + 2, none⟩ (.bool x.fx)).setCell ⟨vb, i * 4 + 3, none⟩ (.slice a2 n2 cap2)) (.agg #[.int .i64 size, .int .i64 next, .slice ea en ec, .slice (some ⟨vb, 0, none⟩) vn vc, .slice ra rn rc, .slice la ln lc]) ⟨size, next, ex, vs.set i ⟨x.id, x.nm, x.fx, setI ⟨file, joinL [] (slp 0 ln0 0 q)⟩ x.its⟩, rf, lt⟩ := ⟨ea, en, ec, some ⟨vb, 0, none⟩, vn, vc, ra, rn, rc, la, ln, lc, _, rfl, ((h1.below hBwL).below hB5).ty hg1 htV (by decide), ⟨R1, T1⟩, (h4.below hBw5).ty hg1 htV (by decide), (h5.below hBw5).ty hg1 htV (by decide), h6⟩
  obtain ⟨y0, y1, y2, y3, y4, y5⟩ := C2.six'
  obtain ⟨q0, q1, q2, q3, q4, q5⟩ := D2.six'
  have m0 := D2.frozen 0
  have m1 := D2.frozen 1
  have m2 := D2.frozen 2
  have m3 := D2.frozen 3
  have m4 := D2.frozen 4
  have m5 := D2.frozen 5
  have hB2 := (hBw5.mono hBw).grown hg1 (by omega) (fun j e => by cases e; exact hvb)
  have hs2 := hg1.size
  have FT0 : Hid (FrV w ((((w5.setCell ⟨vb, i * 4, none⟩ (.int .i64 x.id)).setCell ⟨vb, i * 4 + 1, none⟩ (.string x.nm)).setCell ⟨vb, i * 4 + 2, none⟩ (.bool x.fx)).setCell ⟨vb, i * 4 + 3, none⟩ (.slice a2 n2 cap2))) := fun k c t hb hne => (hb.below hBw5).ty hg1 htV hne
  clear R1 T1 hg1 RV5 VB htV hSB
  go_wp2
  obtain ⟨W0, hg0⟩ := set6 D2 (.int .i64 size) (.int .i64 next) (.slice ea en ec) (.slice (some ⟨vb, 0, none⟩) vn vc) (.slice ra rn rc) (.slice la ln lc)
  have PF := P2.tyP hg0 (rowTy_blk D2)
  have B8 := hB2.grown hg0 (by omega) (fun j e => by cases e; omega)
  have FT := fun (k : Nat) (c : Array Value) (t : TypeId) (hb : Blk w k c t) (hne : t ≠ 41) => (FT0.out k c t hb hne).offB hg0 (B := w.heap.size) (fun j e => by cases e; omega) hb.lt
  generalize ((((((((((w5.setCell ⟨vb, i * 4, none⟩ (.int .i64 x.id)).setCell ⟨vb, i * 4 + 1, none⟩ (.string x.nm)).setCell ⟨vb, i * 4 + 2, none⟩ (.bool x.fx)).setCell ⟨vb, i * 4 + 3, none⟩ (.slice a2 n2 cap2)).setCell ⟨w.heap.size + 2, 0, none⟩ (.int .i64 size)).setCell ⟨w.heap.size + 2, 1, none⟩ (.int .i64 next)).setCell ⟨w.heap.size + 2, 2, none⟩ (.slice ea en ec)).setCell ⟨w.heap.size + 2, 3, none⟩ (.slice (some ⟨vb, 0, none⟩) vn vc)).setCell ⟨w.heap.size + 2, 4, none⟩ (.slice ra rn rc)).setCell ⟨w.heap.size + 2, 5, none⟩ (.slice la ln lc)) = W8 at *
  refine bodyPost_ret (results_cell_tmp rfl _ W8 (w.heap.size + 2) _ _ _ _ _ rfl W0 Tryz.underlying28 rfl (by kernel_rfl) rfl) rfl ?_
  exact ⟨⟨_, 0, rfl, pv_mk _ _ _ _ _ _ _ _ _ _ _ _ _ _, by rw [hS.out], fun _ => ⟨by rw [hS.out]; exact PF, by exact Nat.le_trans (Nat.le_of_eq Rp.sl.len) (by omega)⟩⟩, B8, FT⟩
end Go.Proofs.YtnjefbkhibfgmaaGreat
