/- A file unlinked, by the model. -/
import Derived.Test.YtnjefbkhibfgmaaGreatLDAskedx19
namespace Go.Proofs.YtnjefbkhibfgmaaGreat
open Go Go.RowKit Go.BigFrame
set_option maxHeartbeats 4000000 in
set_option maxRecDepth 100000 in
theorem spec_l6Volume_unlink (B : Nat) (hB0 : 0 < B) (v : Value) (p : Po) (o : Opr) (w : World) (h : PoolT B w v p) (hBw : B ≤ w.heap.size) (hd : DimP p) (hnx : 1 ≤ p.next ∧ p.next ≤ 1000000000) (hk : o.k = 4) (i : Nat) (hso : volI p.vs o.vol = some i) (hfx : ∀ x : Vo, p.vs[i]? = some x → x.fx = false) (j : Nat) (hit : ∀ x : Vo, p.vs[i]? = some x → itI x.its o.file = some j) :
    Calls Tryz.prog 109 #[v, .agg #[.int .i64 o.k, .string o.vol, .string o.file, .string o.to, .string o.into, .int .i64 o.at', .int .i64 o.fr, .int .i64 o.ln, .string o.data]] w fun e w' => (∃ v' c, e = .returned (.tuple #[v', .int .i64 c]) ∧ PoolV v' ∧ c = (volS p o).1 ∧ (c = 0 → PoolT B w' v' (volS p o).2)) ∧ Below B w w' ∧ FrV w w' := by
  obtain ⟨ea, en, ec, va, vn, vc, ra, rn, rc, la, ln, lc, rows, rfl, h1, ⟨h2, h3⟩, h4, h5, h6⟩ := h
  obtain ⟨z1, z2, z3, z4, z5, z6, z7, z8⟩ := hd
  have hV : VsAt B w va vn p.vs := h3.rows.vs h2
  rw [hV.len] at z3
  obtain ⟨size, next, ex, vs, rf, lt⟩ := p
  obtain ⟨k, vol, file, tt, into, at0, fr, ln0, data⟩ := o
  simp only at h1 h2 h3 h4 h5 hV z4 z3 hnx hk ⊢
  have _ := hB0
  have _ := hnx
  have _ := hBw
  have hlen : vs.length = vn := hV.len
  have hrl : rows.length = vn := h2.sl.len
  subst hk
  simp only at hso
  have hi := volI_lt hso
  have hin : i < vn := by omega
  have hx : vs[i]? = some vs[i] := by simp [hi]
  have hip : (0 : Int) ≤ (i : Int) := by omega
  have hip2 : (i : Int) < vn := by omega
  obtain ⟨m1, m2, m3⟩ := z4 _ (List.mem_of_getElem? hx)
  have hr : rows[i]? = some (rows[i]'(by omega)) := by simp [hrl, hin]
  have VT := h3.at' i _ _ hr hx
  generalize rows[i]'(by omega) = r0 at *
  generalize vs[i] = x at *
  obtain ⟨rid, rnm, rfx, pa0, pn0, pc0⟩ := r0
  obtain ⟨e1, e2, e3, irows, RI, TI⟩ := VT
  simp only at e1 e2 e3 RI
  subst e1 e2 e3
  obtain ⟨vb, rfl, hvb, hvc1, hvc2⟩ := h2.addr (by omega)
  simp only at hfx hit
  replace hfx := hfx _ hx
  have hf := hfx
  replace hit := hit _ hx
  have hIT : ItsAt B w pa0 pn0 x.its := TI.rows.its RI
  have hjl := itI_lt hit
  rw [hIT.len] at hjl
  obtain ⟨ib, rfl, hib, hpc1, hpc2⟩ := RI.addr (by omega)
  have hwr : IntKind.i64.wrap ((j : Int) + 1) = (j : Int) + 1 := by rw [IntKind.wrap_i64]; omega
  have hb1 : (j : Int) ≤ pc0 := by omega
  have hb2 : (j : Int) + 1 ≤ pn0 := by omega
  have hb3 : (pn0 : Int) ≤ pc0 := by omega
  have hb4 : (0 : Int) ≤ (j : Int) + 1 := by omega
  have hb5 : (j : Int) + 1 ≤ pc0 := by omega
  have hb6 : (0 : Int) ≤ (j : Int) := by omega
  rw [hIT.len] at m2
  have hS : Hid (volS ⟨size, next, ex, vs, rf, lt⟩ ⟨4, vol, file, tt, into, at0, fr, ln0, data⟩ = (0, ⟨size, next, ex, vs.set i ⟨x.id, x.nm, x.fx, x.its.take j ++ x.its.drop (j + 1)⟩, rf, lt⟩)) := by show _ = _; simp [volS, hso, hx, hf, hit]
  generalize volS ⟨size, next, ex, vs, rf, lt⟩ ⟨4, vol, file, tt, into, at0, fr, ln0, data⟩ = R at *
  have hf' : Hid (x.fx = false) := hf
  clear hf hfx
  go_enter Tryz.func109, Tryz.ntmps109
  go_wp2_with fail
  refine (spec_l4Find B size next ea en ec (some ⟨vb, 0, none⟩) vn vc ra rn rc la ln lc vs vol _ (hV.below (by go_grown)) z3).mono ?_
  rintro e w1 ⟨rfl, hB1⟩
  have C : Blk w1 w.heap.size #[.int .i64 size, .int .i64 next, .slice ea en ec, .slice (some ⟨vb, 0, none⟩) vn vc, .slice ra rn rc, .slice la ln lc] 28 := (((Blk.new w _ _).alloc _).alloc _).below hB1
  have O : Blk w1 (w.heap.size + 1) #[.int .i64 4, .string vol, .string file, .string tt, .string into, .int .i64 at0, .int .i64 fr, .int .i64 ln0, .string data] 102 := ((Blk.new' _ _ _ _ (by simp)).alloc _).below hB1
  have D : Blk w1 (w.heap.size + 2) #[.int .i64 0, .int .i64 0, .slice none 0 0, .slice none 0 0, .slice none 0 0, .slice none 0 0] 28 := (Blk.new' _ _ _ _ (by simp)).below hB1
  have hBw1 : Below w.heap.size w w1 := chain (by go_grown) hB1
  have hs1 : w.heap.size + 3 ≤ w1.heap.size := by have := hB1.size; simp at this; omega
  clear hB1
  obtain ⟨c0, c1, c2, c3, c4, c5⟩ := C.six'
  have o0 : w1.cell? ⟨w.heap.size + 1, 0, none⟩ = some (.int .i64 4) := O.cell 0
  have o1 : w1.cell? ⟨w.heap.size + 1, 1, none⟩ = some (.string vol) := O.cell 1
  have o2 : w1.cell? ⟨w.heap.size + 1, 2, none⟩ = some (.string file) := O.cell 2
  have o3 : w1.cell? ⟨w.heap.size + 1, 3, none⟩ = some (.string tt) := O.cell 3
  obtain ⟨x0, x1, x2, x3, x4, x5⟩ := D.six'
  have f0 := D.frozen 0
  have f1 := D.frozen 1
  have f2 := D.frozen 2
  have f3 := D.frozen 3
  have f4 := D.frozen 4
  have f5 := D.frozen 5
  rw [hso]
  simp only [idxV]
  have RA := h2.below hBw1
  have e0 : w1.cell? ⟨vb, i * 4, none⟩ = some (.int .i64 x.id) := RA.cellAt (j := 0) hr rfl
  have e1 : w1.cell? ⟨vb, i * 4 + 1, none⟩ = some (.string x.nm) := RA.cellAt (j := 1) hr rfl
  have e2 : w1.cell? ⟨vb, i * 4 + 2, none⟩ = some (.bool x.fx) := RA.cellAt (j := 2) hr rfl
  have e3 : w1.cell? ⟨vb, i * 4 + 3, none⟩ = some (.slice (some ⟨ib, 0, none⟩) pn0 pc0) := RA.cellAt (j := 3) hr rfl
  have IA := fun (u : World) (hu : Below w1.heap.size w1 u) => spec_l4Item B x.id x.nm x.fx (some ⟨ib, 0, none⟩) pn0 pc0 x.its file u (((TI.below hBw1).below hu).rows.its ((RI.below hBw1).below hu)) m2
  rw [hit] at IA
  simp only [idxV] at IA
  go_wp2_with fail
  have g0 := gcell e0
  have g1 := gcell e1
  have g2 := gcell e2
  have g3 := gcell e3
  have gc := gcell c3
  have go := gcell o2
  have hne := grw_ne w1
  refine wp_region_grow (by kernel_rfl) (by kernel_rfl) ?_
  repeat (go_big_quiet_step (first | (go_at_call 87; exact grow_of (IA _ (Grw.h _)))))
  refine wpQuiet_nil ?_
  intro wA hxA
  have hBA := grw_out hxA
  clear hxA g0 g1 g2 g3 gc go hne IA
  have C' := C.below hBA
  have D' := D.below hBA
  have O' := O.below hBA
  have RA' := RA.below hBA
  have hBwA := chain hBw1 hBA
  have hsA := hBA.size
  clear c0 c1 c2 c3 c4 c5 o0 o1 o2 o3 x0 x1 x2 x3 x4 x5 f0 f1 f2 f3 f4 f5 C D O e0 e1 e2 e3 RA
  obtain ⟨c0, c1, c2, c3, c4, c5⟩ := C'.six'
  obtain ⟨x0, x1, x2, x3, x4, x5⟩ := D'.six'
  have f0 := D'.frozen 0
  have f1 := D'.frozen 1
  have f2 := D'.frozen 2
  have f3 := D'.frozen 3
  have f4 := D'.frozen 4
  have f5 := D'.frozen 5
  have e2 : wA.cell? ⟨vb, i * 4 + 2, none⟩ = some (.bool x.fx) := RA'.cellAt (j := 2) hr rfl
  have e3 : wA.cell? ⟨vb, i * 4 + 3, none⟩ = some (.slice (some ⟨ib, 0, none⟩) pn0 pc0) := RA'.cellAt (j := 3) hr rfl
  rw [hf'.out] at e2
  have RIA := RI.below hBwA
  have hb7 : ((i : Int) < vn) := hip2
  go_wp2_with fail
  have hSB : ∀ u, Below wA.heap.size wA u → (fun u => u.cell? ⟨w.heap.size, 3, none⟩ = some (.slice (some ⟨vb, 0, none⟩) vn vc)) u := fun u hu => bcell hu c3
  have hS0 := hSB wA.drew ((Below.refl _ _).drew)
  refine wp_region_last (S := (fun u => u.cell? ⟨w.heap.size, 3, none⟩ = some (.slice (some ⟨vb, 0, none⟩) vn vc))) 15 (by kernel_rfl) (by kernel_rfl) ?_
  refine takeQ (i := 0) (v := ?vq301) rfl (by kernel_rfl) (fun _ _ _ h => h) (by rfl) ?hq301 (by assumption) ?rq301
  case hq301 => (intro u hu; (try dsimp only at hu); go_simp <;> with_reducible rfl)
  try simp only [Act.put, lsA, lsB, lsC]
  refine takeQ (i := 1) (v := ?vq302) rfl (by kernel_rfl) (fun _ _ _ h => h) (by rfl) ?hq302 (by assumption) ?rq302
  case hq302 => (intro u hu; (try dsimp only at hu); go_simp <;> with_reducible rfl)
  try simp only [Act.put, lsA, lsB, lsC]
  refine takeQ (i := 2) (v := ?vq303) rfl (by kernel_rfl) (fun _ _ _ h => h) (by rfl) ?hq303 (by assumption) ?rq303
  case hq303 => (intro u hu; (try dsimp only at hu); go_simp <;> with_reducible rfl)
  try simp only [Act.put, lsA, lsB, lsC]
  refine takeQ (i := 4) (v := ?vq304) rfl (by kernel_rfl) (fun _ _ _ h => h) (by rfl) ?hq304 (by assumption) ?rq304
  case hq304 => (intro u hu; (try dsimp only at hu); go_simp <;> with_reducible rfl)
  try simp only [Act.put, lsA, lsB, lsC]
  refine takeQ (i := 5) (v := ?vq305) rfl (by kernel_rfl) (fun _ _ _ h => h) (by rfl) ?hq305 (by assumption) ?rq305
  case hq305 => (intro u hu; (try dsimp only at hu); go_simp <;> with_reducible rfl)
  try simp only [Act.put, lsA, lsB, lsC]
  refine takeQ (i := 6) (v := ?vq306) rfl (by kernel_rfl) (fun _ _ _ h => h) (by rfl) ?hq306 (by assumption) ?rq306
  case hq306 => (intro u hu; (try dsimp only at hu); go_simp <;> with_reducible rfl)
  try simp only [Act.put, lsA, lsB, lsC]
  refine takeQ (i := 8) (v := ?vq307) rfl (by kernel_rfl) (fun _ _ _ h => h) (by rfl) ?hq307 (by assumption) ?rq307
  case hq307 => (intro u hu; (try dsimp only at hu); go_simp <;> with_reducible rfl)
  try simp only [Act.put, lsA, lsB, lsC]
  refine takeQ (i := 9) (v := ?vq308) rfl (by kernel_rfl) (fun _ _ _ h => h) (by rfl) ?hq308 (by assumption) ?rq308
  case hq308 => (intro u hu; (try dsimp only at hu); go_simp <;> with_reducible rfl)
  try simp only [Act.put, lsA, lsB, lsC]
  refine takeQ (i := 10) (v := ?vq309) rfl (by kernel_rfl) (fun _ _ _ h => h) (by rfl) ?hq309 (by assumption) ?rq309
  case hq309 => (intro u hu; (try dsimp only at hu); go_simp <;> with_reducible rfl)
  try simp only [Act.put, lsA, lsB, lsC]
  refine takeQ (i := 11) (v := ?vq310) rfl (by kernel_rfl) (fun _ _ _ h => h) (by rfl) ?hq310 (by assumption) ?rq310
  case hq310 => (intro u hu; (try dsimp only at hu); go_simp <;> with_reducible rfl)
  try simp only [Act.put, lsA, lsB, lsC]
  refine oneL (i := 3) (by kernel_rfl) rfl (fun K hK => ?_)
  go_simp
  refine hK.out _ _ (hSB _ (by go_grown)) (fun hHeld => ?_)
  clear hK K
  try simp only [Act.put, lsA, lsB, lsC]
  refine oneL (i := 7) (by kernel_rfl) rfl (fun K hK => ?_)
  have hL : Below wA.heap.size wA (wA.drew.alloc (.cells #[] 44)) := chain ((Below.refl _ _).drew) (by go_grown)
  refine step_app rfl (wp_appI _ _ rfl wA.heap.size _ 0 0 [] rfl (res_empty (Blk.new' _ _ _ _ (by simp)) (by simp)) (some ⟨ib, 0, none⟩) j pc0 (irows.take j) rfl (RIA.sl.below hL |>.take (by omega)) (fun ad h => (by cases h; rfl)) (fun h => (by cases h)) j (Nat.zero_add _) (by omega) (by simp) ?_)
  intro a3 cap3 w3 R3 hg3
  have hB3 : Below wA.heap.size wA w3 := Below.grown hL hg3 (by have := hL.size; omega) (fun j e => by simp [Value.ownBlock] at e; omega)
  rw [List.nil_append] at R3
  have hs3 := hB3.size
  refine hK.out _ _ (hSB _ hB3) (fun hHeld => ?_)
  clear hK K
  try simp only [Act.put, lsA, lsB, lsC]
  refine oneL (i := 12) (by kernel_rfl) rfl (fun K hK => ?_)
  refine step_app rfl (wp_appI _ _ rfl wA.heap.size a3 j cap3 (irows.take j) rfl R3 (if pc0 = j + 1 then some ⟨ib, 0, none⟩ else some ⟨ib, (j + 1) * 2, none⟩) (pn0 - (j + 1)) (pc0 - (j + 1)) (irows.drop (j + 1)) rfl (by have := sl_end (RIA.sl.below hB3) (j + 1) pc0 (by omega) (by omega); simpa only [Nat.zero_add] using this) (fun ad h => (by split at h <;> (cases h; rfl))) (fun h => (by split at h <;> cases h)) (pn0 - 1) (by omega) (by omega) (by omega) ?_)
  intro a4 cap4 w4 R4 hg4
  have hB4 : Below wA.heap.size wA w4 := Below.grown hB3 hg4 (by omega) (own_ge fun ad had => (R3.block ad had).1)
  have hs4 := hB4.size
  refine hK.out _ _ (hSB _ hB4) (fun hHeld => ?_)
  clear hK K
  try simp only [Act.put, lsA, lsB, lsC]
  refine takeQ (i := 13) (v := ?vq311) rfl (by kernel_rfl) (fun _ _ _ h => h) (by rfl) ?hq311 (by assumption) ?rq311
  case hq311 => (intro u hu; (try dsimp only at hu); go_simp <;> with_reducible rfl)
  try simp only [Act.put, lsA, lsB, lsC]
  refine takeQ (i := 14) (v := ?vq312) rfl (by kernel_rfl) (fun _ _ _ h => h) (by rfl) ?hq312 (by assumption) ?rq312
  case hq312 => (intro u hu; (try dsimp only at hu); go_simp <;> with_reducible rfl)
  try simp only [Act.put, lsA, lsB, lsC]
  refine wpAnyH_done (by kernel_rfl) ?_ _
  refine lastL rfl ?_
  have hBw4 := chain hBwA hB4
  have RV4 := RA'.below hB4
  obtain ⟨vcs, VB⟩ := RV4.blkAt
  have fz := VB.frozen (i * 4 + 3)
  have v3 := bcell hB4 e3
  have hg1 := gset w4 vb (i * 4 + 3) (.slice a4 (pn0 - 1) cap4)
  have htV : RowTy w4 (some vb) 41 := rowTy_blk VB
  have R1 : ResAt vrs 4 41 (w4.setCell ⟨vb, i * 4 + 3, none⟩ (.slice a4 (pn0 - 1) cap4)) B (some ⟨vb, 0, none⟩) vn vc (rows.set i ⟨x.id, x.nm, x.fx, a4, pn0 - 1, cap4⟩) := ResAt.set1 vrs_len RV4 hr (by omega) rfl
  have T1 := ((h3.below hBw4).ty hg1 htV (by decide) (by decide)).set i (show VolT B _ ⟨x.id, x.nm, x.fx, a4, pn0 - 1, cap4⟩ ⟨x.id, x.nm, x.fx, x.its.take j ++ x.its.drop (j + 1)⟩ from ⟨rfl, rfl, rfl, irows.take j ++ irows.drop (j + 1), (R4.ty hg1 htV (by decide)).mono (by omega), ((TI.below hBw4).cut j).ty hg1 htV (by decide)⟩)
  have C2 := (C'.below hB4).ty hg1 htV (by decide)
  have D2 := (D'.below hB4).ty hg1 htV (by decide)
  have P2 : PoolT B (w4.setCell ⟨vb, i * 4 + 3, none⟩ (.slice a4 (pn0 - 1) cap4)) (.agg #[.int .i64 size, .int .i64 next, .slice ea en ec, .slice (some ⟨vb, 0, none⟩) vn vc, .slice ra rn rc, .slice la ln lc]) ⟨size, next, ex, vs.set i ⟨x.id, x.nm, x.fx, x.its.take j ++ x.its.drop (j + 1)⟩, rf, lt⟩ := ⟨ea, en, ec, some ⟨vb, 0, none⟩, vn, vc, ra, rn, rc, la, ln, lc, _, rfl, (h1.below hBw4).ty hg1 htV (by decide), ⟨R1, T1⟩, (h4.below hBw4).ty hg1 htV (by decide), (h5.below hBw4).ty hg1 htV (by decide), h6⟩
  obtain ⟨y0, y1, y2, y3, y4, y5⟩ := C2.six'
  obtain ⟨q0, q1, q2, q3, q4, q5⟩ := D2.six'
  have m0 := D2.frozen 0
  have m1 := D2.frozen 1
  have m2 := D2.frozen 2
  have m3 := D2.frozen 3
  have m4 := D2.frozen 4
  have m5 := D2.frozen 5
  have hB2 := (hBw4.mono hBw).grown hg1 (by omega) (fun j e => by cases e; exact hvb)
  have hs2 := hg1.size
  have FT0 : Hid (FrV w (w4.setCell ⟨vb, i * 4 + 3, none⟩ (.slice a4 (pn0 - 1) cap4))) := fun k c t hb hne => (hb.below hBw4).ty hg1 htV hne
  clear R1 T1 hg1 RV4 VB htV hBA hSB
  go_wp2
  all_goals (
    obtain ⟨W0, hg0⟩ := set6 D2 (.int .i64 size) (.int .i64 next) (.slice ea en ec) (.slice (some ⟨vb, 0, none⟩) vn vc) (.slice ra rn rc) (.slice la ln lc)
    have PF := P2.tyP hg0 (rowTy_blk D2)
    have B8 := hB2.grown hg0 (by omega) (fun j e => by cases e; omega)
    have FT := fun (k : Nat) (c : Array Value) (t : TypeId) (hb : Blk w k c t) (hne : t ≠ 41) => (FT0.out k c t hb hne).offB hg0 (B := w.heap.size) (fun j e => by cases e; omega) hb.lt
    generalize (((((((w4.setCell ⟨vb, i * 4 + 3, none⟩ (.slice a4 (pn0 - 1) cap4)).setCell ⟨w.heap.size + 2, 0, none⟩ (.int .i64 size)).setCell ⟨w.heap.size + 2, 1, none⟩ (.int .i64 next)).setCell ⟨w.heap.size + 2, 2, none⟩ (.slice ea en ec)).setCell ⟨w.heap.size + 2, 3, none⟩ (.slice (some ⟨vb, 0, none⟩) vn vc)).setCell ⟨w.heap.size + 2, 4, none⟩ (.slice ra rn rc)).setCell ⟨w.heap.size + 2, 5, none⟩ (.slice la ln lc)) = W8 at *
    refine bodyPost_ret (results_cell_tmp rfl _ W8 (w.heap.size + 2) _ _ _ _ _ rfl W0 Tryz.underlying28 rfl (by kernel_rfl) rfl) rfl ?_
    exact ⟨⟨_, 0, rfl, pv_mk _ _ _ _ _ _ _ _ _ _ _ _ _ _, by rw [hS.out], fun _ => by rw [hS.out]; exact PF⟩, B8, FT⟩)
end Go.Proofs.YtnjefbkhibfgmaaGreat
namespace Go.Proofs.YtnjefbkhibfgmaaGreat
open Go Go.RowKit Go.BigFrame
theorem spec_l6Volume (B : Nat) (hB0 : 0 < B) (v : Value) (p : Po) (o : Opr) (w : World) (h : PoolT B w v p) (hBw : B ≤ w.heap.size) (hd : DimP p) (hnx : 1 ≤ p.next ∧ p.next ≤ 1000000000) (hk : o.k = 1 ∨ o.k = 4 ∨ o.k = 6 ∨ o.k = 7 ∨ o.k = 8) :
    Calls Tryz.prog 109 #[v, .agg #[.int .i64 o.k, .string o.vol, .string o.file, .string o.to, .string o.into, .int .i64 o.at', .int .i64 o.fr, .int .i64 o.ln, .string o.data]] w fun e w' => (∃ v' c, e = .returned (.tuple #[v', .int .i64 c]) ∧ PoolV v' ∧ c = (volS p o).1 ∧ (c = 0 → PoolT B w' v' (volS p o).2)) ∧ Below B w w' ∧ FrV w w' := by
  cases hso : volI p.vs o.vol with
  | none =>
    by_cases h1 : o.k = 1
    · exact spec_l6Volume_make B hB0 v p o w h hBw hd hnx h1 hso
    · exact spec_l6Volume_gone B hB0 v p o w h hBw hd hnx h1 hso
  | some i =>
    have hx : p.vs[i]? = some (p.vs[i]'(volI_lt hso)) := by simp [volI_lt hso]
    rcases hk with h1 | h1 | h1 | h1 | h1
    · exact spec_l6Volume_there B hB0 v p o w h hBw hd hnx h1 i hso
    · cases hf : (p.vs[i]'(volI_lt hso)).fx with
      | true =>
        cases hit : itI (p.vs[i]'(volI_lt hso)).its o.file with
        | none => exact spec_l6Volume_unlinkFixedN B hB0 v p o w h hBw hd hnx h1 i hso (fun x e => by rw [hx] at e; cases e; exact hf) (fun x e => by rw [hx] at e; cases e; exact hit)
        | some j => exact spec_l6Volume_unlinkFixed B hB0 v p o w h hBw hd hnx h1 i hso (fun x e => by rw [hx] at e; cases e; exact hf) j (fun x e => by rw [hx] at e; cases e; exact hit)
      | false =>
        cases hit : itI (p.vs[i]'(volI_lt hso)).its o.file with
        | none => exact spec_l6Volume_unlinkNone B hB0 v p o w h hBw hd hnx h1 i hso (fun x e => by rw [hx] at e; cases e; exact hf) (fun x e => by rw [hx] at e; cases e; exact hit)
        | some j => exact spec_l6Volume_unlink B hB0 v p o w h hBw hd hnx h1 i hso (fun x e => by rw [hx] at e; cases e; exact hf) j (fun x e => by rw [hx] at e; cases e; exact hit)
    · cases hto : volI p.vs o.to with
      | none => exact spec_l6Volume_snap B hB0 v p o w h hBw hd hnx h1 i hso hto
      | some j => exact spec_l6Volume_snapThere B hB0 v p o w h hBw hd hnx h1 i j hso hto
    · exact spec_l6Volume_drop B hB0 v p o w h hBw hd hnx h1 i hso
    · cases hf : (p.vs[i]'(volI_lt hso)).fx with
      | true => exact spec_l6Volume_fixed B hB0 v p o w h hBw hd hnx h1 i hso (fun x e => by rw [hx] at e; cases e; exact hf)
      | false => exact spec_l6Volume_fix B hB0 v p o w h hBw hd hnx h1 i hso (fun x e => by rw [hx] at e; cases e; exact hf)
end Go.Proofs.YtnjefbkhibfgmaaGreat
