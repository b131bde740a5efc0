/- Volumes dropped, by the model. -/
import Derived.Test.YtnjefbkhibfgmaaGreatLDAskedx18
namespace Go.Proofs.YtnjefbkhibfgmaaGreat
open Go Go.RowKit Go.BigFrame
set_option maxHeartbeats 4000000 in
set_option maxRecDepth 100000 in
theorem spec_l6Volume_drop (B : Nat) (hB0 : 0 < B) (v : Value) (p : Po) (o : Opr) (w : World) (h : PoolT B w v p) (hBw : B ≤ w.heap.size) (hd : DimP p) (hnx : 1 ≤ p.next ∧ p.next ≤ 1000000000) (hk : o.k = 7) (i : Nat) (hso : volI p.vs o.vol = some i) :
    Calls Tryz.prog 109 #[v, .agg #[.int .i64 o.k, .string o.vol, .string o.file, .string o.to, .string o.into, .int .i64 o.at', .int .i64 o.fr, .int .i64 o.ln, .string o.data]] w fun e w' => (∃ v' c, e = .returned (.tuple #[v', .int .i64 c]) ∧ PoolV v' ∧ c = (volS p o).1 ∧ (c = 0 → PoolT B w' v' (volS p o).2)) ∧ Below B w w' ∧ FrV w w' := by
  obtain ⟨ea, en, ec, va, vn, vc, ra, rn, rc, la, ln, lc, rows, rfl, h1, ⟨h2, h3⟩, h4, h5, h6⟩ := h
  obtain ⟨z1, z2, z3, z4, z5, z6, z7, z8⟩ := hd
  have hV : VsAt B w va vn p.vs := h3.rows.vs h2
  rw [hV.len] at z3
  obtain ⟨size, next, ex, vs, rf, lt⟩ := p
  obtain ⟨k, vol, file, tt, into, at0, fr, ln0, data⟩ := o
  simp only at h1 h2 h3 h4 h5 hV z4 z3 hnx hk ⊢
  have _ := hB0
  have _ := hnx
  have _ := hBw
  have hlen : vs.length = vn := hV.len
  have hrl : rows.length = vn := h2.sl.len
  subst hk
  simp only at hso
  have hi := volI_lt hso
  have hin : i < vn := by omega
  have hx : vs[i]? = some vs[i] := by simp [hi]
  have hip : (0 : Int) ≤ (i : Int) := by omega
  have hip2 : (i : Int) < vn := by omega
  obtain ⟨vb, rfl, hvb, hvc1, hvc2⟩ := h2.addr (by omega)
  have hS : Hid (volS ⟨size, next, ex, vs, rf, lt⟩ ⟨7, vol, file, tt, into, at0, fr, ln0, data⟩ = (0, ⟨size, next, ex, vs.take i ++ vs.drop (i + 1), rf, lt⟩)) := by show _ = _; simp [volS, hso, hx]
  generalize volS ⟨size, next, ex, vs, rf, lt⟩ ⟨7, vol, file, tt, into, at0, fr, ln0, data⟩ = R at *
  have hwr : IntKind.i64.wrap ((i : Int) + 1) = (i : Int) + 1 := by rw [IntKind.wrap_i64]; omega
  have hb1 : (i : Int) ≤ vc := by omega
  have hb2 : (i : Int) + 1 ≤ vn := by omega
  have hb3 : (vn : Int) ≤ vc := by omega
  have hb4 : (0 : Int) ≤ (i : Int) + 1 := by omega
  have hb5 : (i : Int) + 1 ≤ vc := by omega
  go_enter Tryz.func109, Tryz.ntmps109
  go_wp2_with fail
  refine (spec_l4Find B size next ea en ec (some ⟨vb, 0, none⟩) vn vc ra rn rc la ln lc vs vol _ (hV.below (by go_grown)) z3).mono ?_
  rintro e w1 ⟨rfl, hB1⟩
  have C : Blk w1 w.heap.size #[.int .i64 size, .int .i64 next, .slice ea en ec, .slice (some ⟨vb, 0, none⟩) vn vc, .slice ra rn rc, .slice la ln lc] 28 := (((Blk.new w _ _).alloc _).alloc _).below hB1
  have O : Blk w1 (w.heap.size + 1) #[.int .i64 7, .string vol, .string file, .string tt, .string into, .int .i64 at0, .int .i64 fr, .int .i64 ln0, .string data] 102 := ((Blk.new' _ _ _ _ (by simp)).alloc _).below hB1
  have D : Blk w1 (w.heap.size + 2) #[.int .i64 0, .int .i64 0, .slice none 0 0, .slice none 0 0, .slice none 0 0, .slice none 0 0] 28 := (Blk.new' _ _ _ _ (by simp)).below hB1
  have hBw1 : Below w.heap.size w w1 := chain (by go_grown) hB1
  have hs1 : w.heap.size + 3 ≤ w1.heap.size := by have := hB1.size; simp at this; omega
  clear hB1
  obtain ⟨c0, c1, c2, c3, c4, c5⟩ := C.six'
  have o0 : w1.cell? ⟨w.heap.size + 1, 0, none⟩ = some (.int .i64 7) := O.cell 0
  have o1 : w1.cell? ⟨w.heap.size + 1, 1, none⟩ = some (.string vol) := O.cell 1
  have o2 : w1.cell? ⟨w.heap.size + 1, 2, none⟩ = some (.string file) := O.cell 2
  have o3 : w1.cell? ⟨w.heap.size + 1, 3, none⟩ = some (.string tt) := O.cell 3
  obtain ⟨x0, x1, x2, x3, x4, x5⟩ := D.six'
  have f0 := D.frozen 0
  have f1 := D.frozen 1
  have f2 := D.frozen 2
  have f3 := D.frozen 3
  have f4 := D.frozen 4
  have f5 := D.frozen 5
  rw [hso]
  simp only [idxV]
  have RA := h2.below hBw1
  go_wp2_with fail
  have hSB : ∀ u, Below w1.heap.size w1 u → (fun u => u.cell? ⟨w.heap.size, 3, none⟩ = some (.slice (some ⟨vb, 0, none⟩) vn vc)) u := fun u hu => bcell hu c3
  have hS0 := hSB w1.drew ((Below.refl _ _).drew)
  refine wp_region_last (S := (fun u => u.cell? ⟨w.heap.size, 3, none⟩ = some (.slice (some ⟨vb, 0, none⟩) vn vc))) 13 (by kernel_rfl) (by kernel_rfl) ?_
  refine takeQ (i := 1) (v := ?vq1) rfl (by kernel_rfl) (fun _ _ _ h => h) (by rfl) ?hq1 (by assumption) ?rq1
  case hq1 => (intro u hu; (try dsimp only at hu); go_simp <;> with_reducible rfl)
  try simp only [Act.put, lsA, lsB, lsC]
  refine takeQ (i := 2) (v := ?vq2) rfl (by kernel_rfl) (fun _ _ _ h => h) (by rfl) ?hq2 (by assumption) ?rq2
  case hq2 => (intro u hu; (try dsimp only at hu); go_simp <;> with_reducible rfl)
  try simp only [Act.put, lsA, lsB, lsC]
  refine takeQ (i := 3) (v := ?vq3) rfl (by kernel_rfl) (fun _ _ _ h => h) (by rfl) ?hq3 (by assumption) ?rq3
  case hq3 => (intro u hu; (try dsimp only at hu); go_simp <;> with_reducible rfl)
  try simp only [Act.put, lsA, lsB, lsC]
  refine takeQ (i := 4) (v := ?vq4) rfl (by kernel_rfl) (fun _ _ _ h => h) (by rfl) ?hq4 (by assumption) ?rq4
  case hq4 => (intro u hu; (try dsimp only at hu); go_simp <;> with_reducible rfl)
  try simp only [Act.put, lsA, lsB, lsC]
  refine takeQ (i := 6) (v := ?vq5) rfl (by kernel_rfl) (fun _ _ _ h => h) (by rfl) ?hq5 (by assumption) ?rq5
  case hq5 => (intro u hu; (try dsimp only at hu); go_simp <;> with_reducible rfl)
  try simp only [Act.put, lsA, lsB, lsC]
  refine takeQ (i := 7) (v := ?vq6) rfl (by kernel_rfl) (fun _ _ _ h => h) (by rfl) ?hq6 (by assumption) ?rq6
  case hq6 => (intro u hu; (try dsimp only at hu); go_simp <;> with_reducible rfl)
  try simp only [Act.put, lsA, lsB, lsC]
  refine takeQ (i := 8) (v := ?vq7) rfl (by kernel_rfl) (fun _ _ _ h => h) (by rfl) ?hq7 (by assumption) ?rq7
  case hq7 => (intro u hu; (try dsimp only at hu); go_simp <;> with_reducible rfl)
  try simp only [Act.put, lsA, lsB, lsC]
  refine takeQ (i := 9) (v := ?vq8) rfl (by kernel_rfl) (fun _ _ _ h => h) (by rfl) ?hq8 (by assumption) ?rq8
  case hq8 => (intro u hu; (try dsimp only at hu); go_simp <;> with_reducible rfl)
  try simp only [Act.put, lsA, lsB, lsC]
  refine takeQ (i := 10) (v := ?vq9) rfl (by kernel_rfl) (fun _ _ _ h => h) (by rfl) ?hq9 (by assumption) ?rq9
  case hq9 => (intro u hu; (try dsimp only at hu); go_simp <;> with_reducible rfl)
  try simp only [Act.put, lsA, lsB, lsC]
  refine oneL (i := 0) (by kernel_rfl) rfl (fun K hK => ?_)
  go_simp
  refine hK.out _ _ (hSB _ (by go_grown)) (fun hHeld => ?_)
  clear hK K
  try simp only [Act.put, lsA, lsB, lsC]
  refine oneL (i := 5) (by kernel_rfl) rfl (fun K hK => ?_)
  have hL : Below w1.heap.size w1 (w1.drew.alloc (.cells #[] 41)) := chain ((Below.refl _ _).drew) (by go_grown)
  refine step_app rfl (wp_appV _ _ rfl w1.heap.size _ 0 0 [] rfl (res_empty (Blk.new' _ _ _ _ (by simp)) (by simp)) (some ⟨vb, 0, none⟩) i vc (rows.take i) rfl (RA.sl.below hL |>.take (by omega)) (fun ad h => (by cases h; rfl)) (fun h => (by cases h)) i (Nat.zero_add _) (by omega) (by simp) ?_)
  intro a3 cap3 w3 R3 hg3
  have hB3 : Below w1.heap.size w1 w3 := Below.grown hL hg3 (by have := hL.size; omega) (fun j e => by simp [Value.ownBlock] at e; omega)
  rw [List.nil_append] at R3
  have hs3 := hB3.size
  refine hK.out _ _ (hSB _ hB3) (fun hHeld => ?_)
  clear hK K
  try simp only [Act.put, lsA, lsB, lsC]
  refine oneL (i := 11) (by kernel_rfl) rfl (fun K hK => ?_)
  refine step_app rfl (wp_appV _ _ rfl w1.heap.size a3 i cap3 (rows.take i) rfl R3 (if vc = i + 1 then some ⟨vb, 0, none⟩ else some ⟨vb, (i + 1) * 4, none⟩) (vn - (i + 1)) (vc - (i + 1)) (rows.drop (i + 1)) rfl (by have := sl_end (RA.sl.below hB3) (i + 1) vc (by omega) (by omega); simpa only [Nat.zero_add] using this) (fun ad h => (by split at h <;> (cases h; rfl))) (fun h => (by split at h <;> cases h)) (vn - 1) (by omega) (by omega) (by omega) ?_)
  intro a4 cap4 w4 R4 hg4
  have hB4 : Below w1.heap.size w1 w4 := Below.grown hB3 hg4 (by omega) (own_ge fun ad had => (R3.block ad had).1)
  have hs4 := hB4.size
  refine hK.out _ _ (hSB _ hB4) (fun hHeld => ?_)
  clear hK K
  try simp only [Act.put, lsA, lsB, lsC]
  refine takeQ (i := 12) (v := ?vq10) rfl (by kernel_rfl) (fun _ _ _ h => h) (by rfl) ?hq10 (by assumption) ?rq10
  case hq10 => (intro u hu; (try dsimp only at hu); go_simp <;> with_reducible rfl)
  try simp only [Act.put, lsA, lsB, lsC]
  refine wpAnyH_done (by kernel_rfl) ?_ _
  refine lastL rfl ?_
  have C2 := C.below hB4
  have D2 := D.below hB4
  have hBw4 := chain hBw1 hB4
  have P2 : PoolT B w4 (.agg #[.int .i64 size, .int .i64 next, .slice ea en ec, .slice a4 (vn - 1) cap4, .slice ra rn rc, .slice la ln lc] ) ⟨size, next, ex, vs.take i ++ vs.drop (i + 1), rf, lt⟩ := ⟨ea, en, ec, a4, vn - 1, cap4, ra, rn, rc, la, ln, lc, rows.take i ++ rows.drop (i + 1), rfl, h1.below hBw4, ⟨R4.mono (by omega), (h3.below hBw4).cut i⟩, h4.below hBw4, h5.below hBw4, h6⟩
  obtain ⟨y0, y1, y2, y3, y4, y5⟩ := C2.six'
  obtain ⟨q0, q1, q2, q3, q4, q5⟩ := D2.six'
  have g3 := C2.frozen 3
  have m0 := D2.frozen 0
  have m1 := D2.frozen 1
  have m2 := D2.frozen 2
  have m3 := D2.frozen 3
  have m4 := D2.frozen 4
  have m5 := D2.frozen 5
  go_wp2
  all_goals (
    have hgC : w4.grownBy (w4.setCell ⟨w.heap.size, 3, none⟩ (.slice a4 (vn - 1) cap4)) (some w.heap.size) := gset w4 w.heap.size 3 (.slice a4 (vn - 1) cap4)
    have D3 : Blk (w4.setCell ⟨w.heap.size, 3, none⟩ (.slice a4 (vn - 1) cap4)) (w.heap.size + 2) _ _ := (hgC.block _ D2.lt (by simp only [ne_eq, Option.some.injEq]; omega)).trans D2
    obtain ⟨W0, hg0⟩ := set6 D3 (.int .i64 size) (.int .i64 next) (.slice ea en ec) (.slice a4 (vn - 1) cap4) (.slice ra rn rc) (.slice la ln lc)
    have PF := (P2.tyP hgC (rowTy_blk C2)).tyP hg0 (rowTy_blk D3)
    have hs5 := hgC.size
    have B8 := ((hBw4.mono hBw).grown hgC (by omega) (fun j e => by cases e; omega)).grown hg0 (by omega) (fun j e => by cases e; omega)
    have FT := fun (k : Nat) (c : Array Value) (t : TypeId) (hb : Blk w k c t) (_ : t ≠ 41) => ((hb.below hBw4).offB hgC (B := w.heap.size) (fun j e => by cases e; omega) hb.lt).offB hg0 (B := w.heap.size) (fun j e => by cases e; omega) hb.lt
    generalize (((((((w4.setCell ⟨w.heap.size, 3, none⟩ (.slice a4 (vn - 1) cap4)).setCell ⟨w.heap.size + 2, 0, none⟩ (.int .i64 size)).setCell ⟨w.heap.size + 2, 1, none⟩ (.int .i64 next)).setCell ⟨w.heap.size + 2, 2, none⟩ (.slice ea en ec)).setCell ⟨w.heap.size + 2, 3, none⟩ (.slice a4 (vn - 1) cap4)).setCell ⟨w.heap.size + 2, 4, none⟩ (.slice ra rn rc)).setCell ⟨w.heap.size + 2, 5, none⟩ (.slice la ln lc)) = W8 at *
    refine bodyPost_ret (results_cell_tmp rfl _ W8 (w.heap.size + 2) _ _ _ _ _ rfl W0 Tryz.underlying28 rfl (by kernel_rfl) rfl) rfl ?_
    exact ⟨⟨_, 0, rfl, pv_mk _ _ _ _ _ _ _ _ _ _ _ _ _ _, by rw [hS.out], fun _ => by rw [hS.out]; exact PF⟩, B8, FT⟩)
end Go.Proofs.YtnjefbkhibfgmaaGreat
namespace Go.Proofs.YtnjefbkhibfgmaaGreat
open Go Go.RowKit Go.BigFrame
set_option maxHeartbeats 4000000 in
set_option maxRecDepth 100000 in
theorem spec_l6Volume_unlinkFixedN (B : Nat) (hB0 : 0 < B) (v : Value) (p : Po) (o : Opr) (w : World) (h : PoolT B w v p) (hBw : B ≤ w.heap.size) (hd : DimP p) (hnx : 1 ≤ p.next ∧ p.next ≤ 1000000000) (hk : o.k = 4) (i : Nat) (hso : volI p.vs o.vol = some i) (hfx : ∀ x : Vo, p.vs[i]? = some x → x.fx = true) (hit : ∀ x : Vo, p.vs[i]? = some x → itI x.its o.file = none) :
    Calls Tryz.prog 109 #[v, .agg #[.int .i64 o.k, .string o.vol, .string o.file, .string o.to, .string o.into, .int .i64 o.at', .int .i64 o.fr, .int .i64 o.ln, .string o.data]] w fun e w' => (∃ v' c, e = .returned (.tuple #[v', .int .i64 c]) ∧ PoolV v' ∧ c = (volS p o).1 ∧ (c = 0 → PoolT B w' v' (volS p o).2)) ∧ Below B w w' ∧ FrV w w' := by
  obtain ⟨ea, en, ec, va, vn, vc, ra, rn, rc, la, ln, lc, rows, rfl, h1, ⟨h2, h3⟩, h4, h5, h6⟩ := h
  obtain ⟨z1, z2, z3, z4, z5, z6, z7, z8⟩ := hd
  have hV : VsAt B w va vn p.vs := h3.rows.vs h2
  rw [hV.len] at z3
  obtain ⟨size, next, ex, vs, rf, lt⟩ := p
  obtain ⟨k, vol, file, tt, into, at0, fr, ln0, data⟩ := o
  simp only at h1 h2 h3 h4 h5 hV z4 z3 hnx hk ⊢
  have _ := hB0
  have _ := hnx
  have _ := hBw
  have hlen : vs.length = vn := hV.len
  have hrl : rows.length = vn := h2.sl.len
  subst hk
  simp only at hso
  have hi := volI_lt hso
  have hin : i < vn := by omega
  have hx : vs[i]? = some vs[i] := by simp [hi]
  have hip : (0 : Int) ≤ (i : Int) := by omega
  have hip2 : (i : Int) < vn := by omega
  obtain ⟨m1, m2, m3⟩ := z4 _ (List.mem_of_getElem? hx)
  have hr : rows[i]? = some (rows[i]'(by omega)) := by simp [hrl, hin]
  have VT := h3.at' i _ _ hr hx
  generalize rows[i]'(by omega) = r0 at *
  generalize vs[i] = x at *
  obtain ⟨rid, rnm, rfx, pa0, pn0, pc0⟩ := r0
  obtain ⟨e1, e2, e3, irows, RI, TI⟩ := VT
  simp only at e1 e2 e3 RI
  subst e1 e2 e3
  obtain ⟨vb, rfl, hvb, hvc1, hvc2⟩ := h2.addr (by omega)
  simp only at hfx hit
  replace hfx := hfx _ hx
  have hf := hfx
  replace hit := hit _ hx
  have hIT : ItsAt B w pa0 pn0 x.its := TI.rows.its RI
  rw [hIT.len] at m2
  have hS : Hid (volS ⟨size, next, ex, vs, rf, lt⟩ ⟨4, vol, file, tt, into, at0, fr, ln0, data⟩ = (6, ⟨size, next, ex, vs, rf, lt⟩)) := by show _ = _; simp [volS, hso, hx, hf]
  generalize volS ⟨size, next, ex, vs, rf, lt⟩ ⟨4, vol, file, tt, into, at0, fr, ln0, data⟩ = R at *
  have hf' : Hid (x.fx = true) := hf
  clear hf hfx
  go_enter Tryz.func109, Tryz.ntmps109
  go_wp2_with fail
  refine (spec_l4Find B size next ea en ec (some ⟨vb, 0, none⟩) vn vc ra rn rc la ln lc vs vol _ (hV.below (by go_grown)) z3).mono ?_
  rintro e w1 ⟨rfl, hB1⟩
  have C : Blk w1 w.heap.size #[.int .i64 size, .int .i64 next, .slice ea en ec, .slice (some ⟨vb, 0, none⟩) vn vc, .slice ra rn rc, .slice la ln lc] 28 := (((Blk.new w _ _).alloc _).alloc _).below hB1
  have O : Blk w1 (w.heap.size + 1) #[.int .i64 4, .string vol, .string file, .string tt, .string into, .int .i64 at0, .int .i64 fr, .int .i64 ln0, .string data] 102 := ((Blk.new' _ _ _ _ (by simp)).alloc _).below hB1
  have D : Blk w1 (w.heap.size + 2) #[.int .i64 0, .int .i64 0, .slice none 0 0, .slice none 0 0, .slice none 0 0, .slice none 0 0] 28 := (Blk.new' _ _ _ _ (by simp)).below hB1
  have hBw1 : Below w.heap.size w w1 := chain (by go_grown) hB1
  have hs1 : w.heap.size + 3 ≤ w1.heap.size := by have := hB1.size; simp at this; omega
  clear hB1
  obtain ⟨c0, c1, c2, c3, c4, c5⟩ := C.six'
  have o0 : w1.cell? ⟨w.heap.size + 1, 0, none⟩ = some (.int .i64 4) := O.cell 0
  have o1 : w1.cell? ⟨w.heap.size + 1, 1, none⟩ = some (.string vol) := O.cell 1
  have o2 : w1.cell? ⟨w.heap.size + 1, 2, none⟩ = some (.string file) := O.cell 2
  have o3 : w1.cell? ⟨w.heap.size + 1, 3, none⟩ = some (.string tt) := O.cell 3
  obtain ⟨x0, x1, x2, x3, x4, x5⟩ := D.six'
  have f0 := D.frozen 0
  have f1 := D.frozen 1
  have f2 := D.frozen 2
  have f3 := D.frozen 3
  have f4 := D.frozen 4
  have f5 := D.frozen 5
  rw [hso]
  simp only [idxV]
  have RA := h2.below hBw1
  have e0 : w1.cell? ⟨vb, i * 4, none⟩ = some (.int .i64 x.id) := RA.cellAt (j := 0) hr rfl
  have e1 : w1.cell? ⟨vb, i * 4 + 1, none⟩ = some (.string x.nm) := RA.cellAt (j := 1) hr rfl
  have e2 : w1.cell? ⟨vb, i * 4 + 2, none⟩ = some (.bool x.fx) := RA.cellAt (j := 2) hr rfl
  have e3 : w1.cell? ⟨vb, i * 4 + 3, none⟩ = some (.slice pa0 pn0 pc0) := RA.cellAt (j := 3) hr rfl
  have IA := fun (u : World) (hu : Below w1.heap.size w1 u) => spec_l4Item B x.id x.nm x.fx pa0 pn0 pc0 x.its file u (((TI.below hBw1).below hu).rows.its ((RI.below hBw1).below hu)) m2
  rw [hit] at IA
  simp only [idxV] at IA
  go_wp2_with fail
  have g0 := gcell e0
  have g1 := gcell e1
  have g2 := gcell e2
  have g3 := gcell e3
  have gc := gcell c3
  have go := gcell o2
  have hne := grw_ne w1
  refine wp_region_grow (by kernel_rfl) (by kernel_rfl) ?_
  repeat (go_big_quiet_step (first | (go_at_call 87; exact grow_of (IA _ (Grw.h _)))))
  refine wpQuiet_nil ?_
  intro wA hxA
  have hBA := grw_out hxA
  clear hxA g0 g1 g2 g3 gc go hne IA
  have C' := C.below hBA
  have D' := D.below hBA
  have O' := O.below hBA
  have RA' := RA.below hBA
  have hBwA := chain hBw1 hBA
  have hsA := hBA.size
  clear c0 c1 c2 c3 c4 c5 o0 o1 o2 o3 x0 x1 x2 x3 x4 x5 f0 f1 f2 f3 f4 f5 C D O e0 e1 e2 e3 RA
  obtain ⟨c0, c1, c2, c3, c4, c5⟩ := C'.six'
  obtain ⟨x0, x1, x2, x3, x4, x5⟩ := D'.six'
  have f0 := D'.frozen 0
  have f1 := D'.frozen 1
  have f2 := D'.frozen 2
  have f3 := D'.frozen 3
  have f4 := D'.frozen 4
  have f5 := D'.frozen 5
  have e2 : wA.cell? ⟨vb, i * 4 + 2, none⟩ = some (.bool x.fx) := RA'.cellAt (j := 2) hr rfl
  have e3 : wA.cell? ⟨vb, i * 4 + 3, none⟩ = some (.slice pa0 pn0 pc0) := RA'.cellAt (j := 3) hr rfl
  rw [hf'.out] at e2
  go_wp2
  obtain ⟨W0, hg0⟩ := set6 D' (.int .i64 size) (.int .i64 next) (.slice ea en ec) (.slice (some ⟨vb, 0, none⟩) vn vc) (.slice ra rn rc) (.slice la ln lc)
  have B8 := hBwA.grown hg0 hBwA.size (fun j e => by cases e; omega)
  generalize ((((((wA.setCell ⟨w.heap.size + 2, 0, none⟩ (.int .i64 size)).setCell ⟨w.heap.size + 2, 1, none⟩ (.int .i64 next)).setCell ⟨w.heap.size + 2, 2, none⟩ (.slice ea en ec)).setCell ⟨w.heap.size + 2, 3, none⟩ (.slice (some ⟨vb, 0, none⟩) vn vc)).setCell ⟨w.heap.size + 2, 4, none⟩ (.slice ra rn rc)).setCell ⟨w.heap.size + 2, 5, none⟩ (.slice la ln lc)) = W8 at *
  refine bodyPost_ret (results_cell_tmp rfl _ W8 (w.heap.size + 2) _ _ _ _ _ rfl W0 Tryz.underlying28 rfl (by kernel_rfl) rfl) rfl ?_
  exact ⟨⟨_, 6, rfl, pv_mk _ _ _ _ _ _ _ _ _ _ _ _ _ _, by rw [hS.out], fun h => absurd h (by omega)⟩, B8.mono hBw, FrV.of B8⟩
set_option maxHeartbeats 4000000 in
set_option maxRecDepth 100000 in
theorem spec_l6Volume_unlinkFixed (B : Nat) (hB0 : 0 < B) (v : Value) (p : Po) (o : Opr) (w : World) (h : PoolT B w v p) (hBw : B ≤ w.heap.size) (hd : DimP p) (hnx : 1 ≤ p.next ∧ p.next ≤ 1000000000) (hk : o.k = 4) (i : Nat) (hso : volI p.vs o.vol = some i) (hfx : ∀ x : Vo, p.vs[i]? = some x → x.fx = true) (j : Nat) (hit : ∀ x : Vo, p.vs[i]? = some x → itI x.its o.file = some j) :
    Calls Tryz.prog 109 #[v, .agg #[.int .i64 o.k, .string o.vol, .string o.file, .string o.to, .string o.into, .int .i64 o.at', .int .i64 o.fr, .int .i64 o.ln, .string o.data]] w fun e w' => (∃ v' c, e = .returned (.tuple #[v', .int .i64 c]) ∧ PoolV v' ∧ c = (volS p o).1 ∧ (c = 0 → PoolT B w' v' (volS p o).2)) ∧ Below B w w' ∧ FrV w w' := by
  obtain ⟨ea, en, ec, va, vn, vc, ra, rn, rc, la, ln, lc, rows, rfl, h1, ⟨h2, h3⟩, h4, h5, h6⟩ := h
  obtain ⟨z1, z2, z3, z4, z5, z6, z7, z8⟩ := hd
  have hV : VsAt B w va vn p.vs := h3.rows.vs h2
  rw [hV.len] at z3
  obtain ⟨size, next, ex, vs, rf, lt⟩ := p
  obtain ⟨k, vol, file, tt, into, at0, fr, ln0, data⟩ := o
  simp only at h1 h2 h3 h4 h5 hV z4 z3 hnx hk ⊢
  have _ := hB0
  have _ := hnx
  have _ := hBw
  have hlen : vs.length = vn := hV.len
  have hrl : rows.length = vn := h2.sl.len
  subst hk
  simp only at hso
  have hi := volI_lt hso
  have hin : i < vn := by omega
  have hx : vs[i]? = some vs[i] := by simp [hi]
  have hip : (0 : Int) ≤ (i : Int) := by omega
  have hip2 : (i : Int) < vn := by omega
  obtain ⟨m1, m2, m3⟩ := z4 _ (List.mem_of_getElem? hx)
  have hr : rows[i]? = some (rows[i]'(by omega)) := by simp [hrl, hin]
  have VT := h3.at' i _ _ hr hx
  generalize rows[i]'(by omega) = r0 at *
  generalize vs[i] = x at *
  obtain ⟨rid, rnm, rfx, pa0, pn0, pc0⟩ := r0
  obtain ⟨e1, e2, e3, irows, RI, TI⟩ := VT
  simp only at e1 e2 e3 RI
  subst e1 e2 e3
  obtain ⟨vb, rfl, hvb, hvc1, hvc2⟩ := h2.addr (by omega)
  simp only at hfx hit
  replace hfx := hfx _ hx
  have hf := hfx
  replace hit := hit _ hx
  have hIT : ItsAt B w pa0 pn0 x.its := TI.rows.its RI
  rw [hIT.len] at m2
  have hS : Hid (volS ⟨size, next, ex, vs, rf, lt⟩ ⟨4, vol, file, tt, into, at0, fr, ln0, data⟩ = (6, ⟨size, next, ex, vs, rf, lt⟩)) := by show _ = _; simp [volS, hso, hx, hf]
  generalize volS ⟨size, next, ex, vs, rf, lt⟩ ⟨4, vol, file, tt, into, at0, fr, ln0, data⟩ = R at *
  have hf' : Hid (x.fx = true) := hf
  clear hf hfx
  go_enter Tryz.func109, Tryz.ntmps109
  go_wp2_with fail
  refine (spec_l4Find B size next ea en ec (some ⟨vb, 0, none⟩) vn vc ra rn rc la ln lc vs vol _ (hV.below (by go_grown)) z3).mono ?_
  rintro e w1 ⟨rfl, hB1⟩
  have C : Blk w1 w.heap.size #[.int .i64 size, .int .i64 next, .slice ea en ec, .slice (some ⟨vb, 0, none⟩) vn vc, .slice ra rn rc, .slice la ln lc] 28 := (((Blk.new w _ _).alloc _).alloc _).below hB1
  have O : Blk w1 (w.heap.size + 1) #[.int .i64 4, .string vol, .string file, .string tt, .string into, .int .i64 at0, .int .i64 fr, .int .i64 ln0, .string data] 102 := ((Blk.new' _ _ _ _ (by simp)).alloc _).below hB1
  have D : Blk w1 (w.heap.size + 2) #[.int .i64 0, .int .i64 0, .slice none 0 0, .slice none 0 0, .slice none 0 0, .slice none 0 0] 28 := (Blk.new' _ _ _ _ (by simp)).below hB1
  have hBw1 : Below w.heap.size w w1 := chain (by go_grown) hB1
  have hs1 : w.heap.size + 3 ≤ w1.heap.size := by have := hB1.size; simp at this; omega
  clear hB1
  obtain ⟨c0, c1, c2, c3, c4, c5⟩ := C.six'
  have o0 : w1.cell? ⟨w.heap.size + 1, 0, none⟩ = some (.int .i64 4) := O.cell 0
  have o1 : w1.cell? ⟨w.heap.size + 1, 1, none⟩ = some (.string vol) := O.cell 1
  have o2 : w1.cell? ⟨w.heap.size + 1, 2, none⟩ = some (.string file) := O.cell 2
  have o3 : w1.cell? ⟨w.heap.size + 1, 3, none⟩ = some (.string tt) := O.cell 3
  obtain ⟨x0, x1, x2, x3, x4, x5⟩ := D.six'
  have f0 := D.frozen 0
  have f1 := D.frozen 1
  have f2 := D.frozen 2
  have f3 := D.frozen 3
  have f4 := D.frozen 4
  have f5 := D.frozen 5
  rw [hso]
  simp only [idxV]
  have RA := h2.below hBw1
  have e0 : w1.cell? ⟨vb, i * 4, none⟩ = some (.int .i64 x.id) := RA.cellAt (j := 0) hr rfl
  have e1 : w1.cell? ⟨vb, i * 4 + 1, none⟩ = some (.string x.nm) := RA.cellAt (j := 1) hr rfl
  have e2 : w1.cell? ⟨vb, i * 4 + 2, none⟩ = some (.bool x.fx) := RA.cellAt (j := 2) hr rfl
  have e3 : w1.cell? ⟨vb, i * 4 + 3, none⟩ = some (.slice pa0 pn0 pc0) := RA.cellAt (j := 3) hr rfl
  have IA := fun (u : World) (hu : Below w1.heap.size w1 u) => spec_l4Item B x.id x.nm x.fx pa0 pn0 pc0 x.its file u (((TI.below hBw1).below hu).rows.its ((RI.below hBw1).below hu)) m2
  rw [hit] at IA
  simp only [idxV] at IA
  go_wp2_with fail
  have g0 := gcell e0
  have g1 := gcell e1
  have g2 := gcell e2
  have g3 := gcell e3
  have gc := gcell c3
  have go := gcell o2
  have hne := grw_ne w1
  refine wp_region_grow (by kernel_rfl) (by kernel_rfl) ?_
  repeat (go_big_quiet_step (first | (go_at_call 87; exact grow_of (IA _ (Grw.h _)))))
  refine wpQuiet_nil ?_
  intro wA hxA
  have hBA := grw_out hxA
  clear hxA g0 g1 g2 g3 gc go hne IA
  have C' := C.below hBA
  have D' := D.below hBA
  have O' := O.below hBA
  have RA' := RA.below hBA
  have hBwA := chain hBw1 hBA
  have hsA := hBA.size
  clear c0 c1 c2 c3 c4 c5 o0 o1 o2 o3 x0 x1 x2 x3 x4 x5 f0 f1 f2 f3 f4 f5 C D O e0 e1 e2 e3 RA
  obtain ⟨c0, c1, c2, c3, c4, c5⟩ := C'.six'
  obtain ⟨x0, x1, x2, x3, x4, x5⟩ := D'.six'
  have f0 := D'.frozen 0
  have f1 := D'.frozen 1
  have f2 := D'.frozen 2
  have f3 := D'.frozen 3
  have f4 := D'.frozen 4
  have f5 := D'.frozen 5
  have e2 : wA.cell? ⟨vb, i * 4 + 2, none⟩ = some (.bool x.fx) := RA'.cellAt (j := 2) hr rfl
  have e3 : wA.cell? ⟨vb, i * 4 + 3, none⟩ = some (.slice pa0 pn0 pc0) := RA'.cellAt (j := 3) hr rfl
  rw [hf'.out] at e2
  go_wp2
  obtain ⟨W0, hg0⟩ := set6 D' (.int .i64 size) (.int .i64 next) (.slice ea en ec) (.slice (some ⟨vb, 0, none⟩) vn vc) (.slice ra rn rc) (.slice la ln lc)
  have B8 := hBwA.grown hg0 hBwA.size (fun j e => by cases e; omega)
  generalize ((((((wA.setCell ⟨w.heap.size + 2, 0, none⟩ (.int .i64 size)).setCell ⟨w.heap.size + 2, 1, none⟩ (.int .i64 next)).setCell ⟨w.heap.size + 2, 2, none⟩ (.slice ea en ec)).setCell ⟨w.heap.size + 2, 3, none⟩ (.slice (some ⟨vb, 0, none⟩) vn vc)).setCell ⟨w.heap.size + 2, 4, none⟩ (.slice ra rn rc)).setCell ⟨w.heap.size + 2, 5, none⟩ (.slice la ln lc)) = W8 at *
  refine bodyPost_ret (results_cell_tmp rfl _ W8 (w.heap.size + 2) _ _ _ _ _ rfl W0 Tryz.underlying28 rfl (by kernel_rfl) rfl) rfl ?_
  exact ⟨⟨_, 6, rfl, pv_mk _ _ _ _ _ _ _ _ _ _ _ _ _ _, by rw [hS.out], fun h => absurd h (by omega)⟩, B8.mono hBw, FrV.of B8⟩
set_option maxHeartbeats 4000000 in
set_option maxRecDepth 100000 in
theorem spec_l6Volume_unlinkNone (B : Nat) (hB0 : 0 < B) (v : Value) (p : Po) (o : Opr) (w : World) (h : PoolT B w v p) (hBw : B ≤ w.heap.size) (hd : DimP p) (hnx : 1 ≤ p.next ∧ p.next ≤ 1000000000) (hk : o.k = 4) (i : Nat) (hso : volI p.vs o.vol = some i) (hfx : ∀ x : Vo, p.vs[i]? = some x → x.fx = false) (hit : ∀ x : Vo, p.vs[i]? = some x → itI x.its o.file = none) :
    Calls Tryz.prog 109 #[v, .agg #[.int .i64 o.k, .string o.vol, .string o.file, .string o.to, .string o.into, .int .i64 o.at', .int .i64 o.fr, .int .i64 o.ln, .string o.data]] w fun e w' => (∃ v' c, e = .returned (.tuple #[v', .int .i64 c]) ∧ PoolV v' ∧ c = (volS p o).1 ∧ (c = 0 → PoolT B w' v' (volS p o).2)) ∧ Below B w w' ∧ FrV w w' := by
  obtain ⟨ea, en, ec, va, vn, vc, ra, rn, rc, la, ln, lc, rows, rfl, h1, ⟨h2, h3⟩, h4, h5, h6⟩ := h
  obtain ⟨z1, z2, z3, z4, z5, z6, z7, z8⟩ := hd
  have hV : VsAt B w va vn p.vs := h3.rows.vs h2
  rw [hV.len] at z3
  obtain ⟨size, next, ex, vs, rf, lt⟩ := p
  obtain ⟨k, vol, file, tt, into, at0, fr, ln0, data⟩ := o
  simp only at h1 h2 h3 h4 h5 hV z4 z3 hnx hk ⊢
  have _ := hB0
  have _ := hnx
  have _ := hBw
  have hlen : vs.length = vn := hV.len
  have hrl : rows.length = vn := h2.sl.len
  subst hk
  simp only at hso
  have hi := volI_lt hso
  have hin : i < vn := by omega
  have hx : vs[i]? = some vs[i] := by simp [hi]
  have hip : (0 : Int) ≤ (i : Int) := by omega
  have hip2 : (i : Int) < vn := by omega
  obtain ⟨m1, m2, m3⟩ := z4 _ (List.mem_of_getElem? hx)
  have hr : rows[i]? = some (rows[i]'(by omega)) := by simp [hrl, hin]
  have VT := h3.at' i _ _ hr hx
  generalize rows[i]'(by omega) = r0 at *
  generalize vs[i] = x at *
  obtain ⟨rid, rnm, rfx, pa0, pn0, pc0⟩ := r0
  obtain ⟨e1, e2, e3, irows, RI, TI⟩ := VT
  simp only at e1 e2 e3 RI
  subst e1 e2 e3
  obtain ⟨vb, rfl, hvb, hvc1, hvc2⟩ := h2.addr (by omega)
  simp only at hfx hit
  replace hfx := hfx _ hx
  have hf := hfx
  replace hit := hit _ hx
  have hIT : ItsAt B w pa0 pn0 x.its := TI.rows.its RI
  rw [hIT.len] at m2
  have hS : Hid (volS ⟨size, next, ex, vs, rf, lt⟩ ⟨4, vol, file, tt, into, at0, fr, ln0, data⟩ = (3, ⟨size, next, ex, vs, rf, lt⟩)) := by show _ = _; simp [volS, hso, hx, hf, hit]
  generalize volS ⟨size, next, ex, vs, rf, lt⟩ ⟨4, vol, file, tt, into, at0, fr, ln0, data⟩ = R at *
  have hf' : Hid (x.fx = false) := hf
  clear hf hfx
  go_enter Tryz.func109, Tryz.ntmps109
  go_wp2_with fail
  refine (spec_l4Find B size next ea en ec (some ⟨vb, 0, none⟩) vn vc ra rn rc la ln lc vs vol _ (hV.below (by go_grown)) z3).mono ?_
  rintro e w1 ⟨rfl, hB1⟩
  have C : Blk w1 w.heap.size #[.int .i64 size, .int .i64 next, .slice ea en ec, .slice (some ⟨vb, 0, none⟩) vn vc, .slice ra rn rc, .slice la ln lc] 28 := (((Blk.new w _ _).alloc _).alloc _).below hB1
  have O : Blk w1 (w.heap.size + 1) #[.int .i64 4, .string vol, .string file, .string tt, .string into, .int .i64 at0, .int .i64 fr, .int .i64 ln0, .string data] 102 := ((Blk.new' _ _ _ _ (by simp)).alloc _).below hB1
  have D : Blk w1 (w.heap.size + 2) #[.int .i64 0, .int .i64 0, .slice none 0 0, .slice none 0 0, .slice none 0 0, .slice none 0 0] 28 := (Blk.new' _ _ _ _ (by simp)).below hB1
  have hBw1 : Below w.heap.size w w1 := chain (by go_grown) hB1
  have hs1 : w.heap.size + 3 ≤ w1.heap.size := by have := hB1.size; simp at this; omega
  clear hB1
  obtain ⟨c0, c1, c2, c3, c4, c5⟩ := C.six'
  have o0 : w1.cell? ⟨w.heap.size + 1, 0, none⟩ = some (.int .i64 4) := O.cell 0
  have o1 : w1.cell? ⟨w.heap.size + 1, 1, none⟩ = some (.string vol) := O.cell 1
  have o2 : w1.cell? ⟨w.heap.size + 1, 2, none⟩ = some (.string file) := O.cell 2
  have o3 : w1.cell? ⟨w.heap.size + 1, 3, none⟩ = some (.string tt) := O.cell 3
  obtain ⟨x0, x1, x2, x3, x4, x5⟩ := D.six'
  have f0 := D.frozen 0
  have f1 := D.frozen 1
  have f2 := D.frozen 2
  have f3 := D.frozen 3
  have f4 := D.frozen 4
  have f5 := D.frozen 5
  rw [hso]
  simp only [idxV]
  have RA := h2.below hBw1
  have e0 : w1.cell? ⟨vb, i * 4, none⟩ = some (.int .i64 x.id) := RA.cellAt (j := 0) hr rfl
  have e1 : w1.cell? ⟨vb, i * 4 + 1, none⟩ = some (.string x.nm) := RA.cellAt (j := 1) hr rfl
  have e2 : w1.cell? ⟨vb, i * 4 + 2, none⟩ = some (.bool x.fx) := RA.cellAt (j := 2) hr rfl
  have e3 : w1.cell? ⟨vb, i * 4 + 3, none⟩ = some (.slice pa0 pn0 pc0) := RA.cellAt (j := 3) hr rfl
  have IA := fun (u : World) (hu : Below w1.heap.size w1 u) => spec_l4Item B x.id x.nm x.fx pa0 pn0 pc0 x.its file u (((TI.below hBw1).below hu).rows.its ((RI.below hBw1).below hu)) m2
  rw [hit] at IA
  simp only [idxV] at IA
  go_wp2_with fail
  have g0 := gcell e0
  have g1 := gcell e1
  have g2 := gcell e2
  have g3 := gcell e3
  have gc := gcell c3
  have go := gcell o2
  have hne := grw_ne w1
  refine wp_region_grow (by kernel_rfl) (by kernel_rfl) ?_
  repeat (go_big_quiet_step (first | (go_at_call 87; exact grow_of (IA _ (Grw.h _)))))
  refine wpQuiet_nil ?_
  intro wA hxA
  have hBA := grw_out hxA
  clear hxA g0 g1 g2 g3 gc go hne IA
  have C' := C.below hBA
  have D' := D.below hBA
  have O' := O.below hBA
  have RA' := RA.below hBA
  have hBwA := chain hBw1 hBA
  have hsA := hBA.size
  clear c0 c1 c2 c3 c4 c5 o0 o1 o2 o3 x0 x1 x2 x3 x4 x5 f0 f1 f2 f3 f4 f5 C D O e0 e1 e2 e3 RA
  obtain ⟨c0, c1, c2, c3, c4, c5⟩ := C'.six'
  obtain ⟨x0, x1, x2, x3, x4, x5⟩ := D'.six'
  have f0 := D'.frozen 0
  have f1 := D'.frozen 1
  have f2 := D'.frozen 2
  have f3 := D'.frozen 3
  have f4 := D'.frozen 4
  have f5 := D'.frozen 5
  have e2 : wA.cell? ⟨vb, i * 4 + 2, none⟩ = some (.bool x.fx) := RA'.cellAt (j := 2) hr rfl
  have e3 : wA.cell? ⟨vb, i * 4 + 3, none⟩ = some (.slice pa0 pn0 pc0) := RA'.cellAt (j := 3) hr rfl
  rw [hf'.out] at e2
  go_wp2
  obtain ⟨W0, hg0⟩ := set6 D' (.int .i64 size) (.int .i64 next) (.slice ea en ec) (.slice (some ⟨vb, 0, none⟩) vn vc) (.slice ra rn rc) (.slice la ln lc)
  have B8 := hBwA.grown hg0 hBwA.size (fun j e => by cases e; omega)
  generalize ((((((wA.setCell ⟨w.heap.size + 2, 0, none⟩ (.int .i64 size)).setCell ⟨w.heap.size + 2, 1, none⟩ (.int .i64 next)).setCell ⟨w.heap.size + 2, 2, none⟩ (.slice ea en ec)).setCell ⟨w.heap.size + 2, 3, none⟩ (.slice (some ⟨vb, 0, none⟩) vn vc)).setCell ⟨w.heap.size + 2, 4, none⟩ (.slice ra rn rc)).setCell ⟨w.heap.size + 2, 5, none⟩ (.slice la ln lc)) = W8 at *
  refine bodyPost_ret (results_cell_tmp rfl _ W8 (w.heap.size + 2) _ _ _ _ _ rfl W0 Tryz.underlying28 rfl (by kernel_rfl) rfl) rfl ?_
  exact ⟨⟨_, 3, rfl, pv_mk _ _ _ _ _ _ _ _ _ _ _ _ _ _, by rw [hS.out], fun h => absurd h (by omega)⟩, B8.mono hBw, FrV.of B8⟩
end Go.Proofs.YtnjefbkhibfgmaaGreat
