/- Ops that are refused when they are tried, by the model. -/
import Derived.Test.YtnjefbkhibfgmaaGreatLDAskedx33
namespace Go.Proofs.YtnjefbkhibfgmaaGreat
open Go Go.RowKit Go.BigFrame
set_option maxHeartbeats 4000000 in
set_option maxRecDepth 100000 in
theorem spec_l6Done_no2 (B0 : Nat) (hB0 : 0 < B0) (v : Value) (p : Po) (o : Opr) (w : World) (h : PoolAt B0 w v p) (hd : DimP p) (hp : poolB p = true) (hso : StrO o) (hf : opB o = true) (hk : o.k = 2) (hno : (fileS p o).1 ≠ 0) :
    Calls Tryz.prog 89 #[v, .agg #[.int .i64 o.k, .string o.vol, .string o.file, .string o.to, .string o.into, .int .i64 o.at', .int .i64 o.fr, .int .i64 o.ln, .string o.data]] w fun e w' => (∃ v' c, e = .returned (.tuple #[v', .int .i64 c]) ∧ c = (opS p o).1 ∧ PoolT w.heap.size w' v' (opS p o).2 ∧ DimP (opS p o).2) ∧ Below w.heap.size w w' := by
  have _ := hB0
  have _ := hp
  have hPA := h
  obtain ⟨ea, en, ec, va, vn, vc, ra, rn, rc, la, ln, lc, rfl, ⟨h1, k1⟩, ⟨h2, k2⟩, ⟨h3, k3⟩, h4, k4⟩ := h
  obtain ⟨_, hnx, htv, hrB, hlB⟩ := pool_right hp
  have hS : Hid (opS p o = ((fileS p o).1, p)) := by show _ = _; simp [opS, triedS, hf, hk, hno]
  generalize opS p o = R at *
  have hk9 : Hid (o.k = 2) := hk
  have hf' : Hid (opB o = true) := hf
  clear hk
  go_enter Tryz.func89, Tryz.ntmps89
  go_wp2_with fail
  refine (spec_OpOk o _ hso).mono ?_
  rintro e w1 ⟨rfl, hB1⟩
  have C : Blk w1 w.heap.size #[.int .i64 p.size, .int .i64 p.next, .slice ea en ec, .slice va vn vc, .slice ra rn rc, .slice la ln lc] 28 := (((Blk.new w _ _).alloc _).alloc _).below hB1
  have O : Blk w1 (w.heap.size + 1) #[.int .i64 o.k, .string o.vol, .string o.file, .string o.to, .string o.into, .int .i64 o.at', .int .i64 o.fr, .int .i64 o.ln, .string o.data] 102 := ((Blk.new' _ _ _ _ (by simp)).alloc _).below hB1
  have D : Blk w1 (w.heap.size + 2) #[.int .i64 0, .int .i64 0, .slice none 0 0, .slice none 0 0, .slice none 0 0, .slice none 0 0] 28 := (Blk.new' _ _ _ _ (by simp)).below hB1
  have hBw1 : Below w.heap.size w w1 := chain (by go_grown) hB1
  have hs1 : w.heap.size + 3 ≤ w1.heap.size := by have := hB1.size; simp at this; omega
  clear hB1
  rw [hf]
  obtain ⟨x0, x1, x2, x3, x4, x5⟩ := D.six'
  have f0 := D.frozen 0
  have f1 := D.frozen 1
  have f2 := D.frozen 2
  have f3 := D.frozen 3
  have f4 := D.frozen 4
  have f5 := D.frozen 5
  obtain ⟨c0, c1, c2, c3, c4, c5⟩ := C.six'
  have o0 : w1.cell? ⟨w.heap.size + 1, 0, none⟩ = some (.int .i64 2) := by rw [← hk9.out]; exact O.cell 0
  go_wp2_with fail
  refine (spec_l4Copy B0 hB0 _ p _ (hPA.below hBw1) hd).mono ?_
  rintro e wk ⟨⟨v', rfl, PT, hNn⟩, hBk⟩
  have PT0 := PT
  obtain ⟨ea', en', ec', va', vn', vc', ra', rn', rc', la', ln', lc', rows', rfl, _⟩ := PT
  have hBwk := chain hBw1 hBk
  have hsk := hBk.size
  have hBX : Below wk.heap.size wk (wk.alloc (.cells #[.int .i64 p.size, .int .i64 p.next, .slice ea' en' ec', .slice va' vn' vc', .slice ra' rn' rc', .slice la' ln' lc'] 28)) := (Below.refl _ _).alloc (Nat.le_refl _) _
  have XB := Blk.new wk #[.int .i64 p.size, .int .i64 p.next, .slice ea' en' ec', .slice va' vn' vc', .slice ra' rn' rc', .slice la' ln' lc'] 28
  have hsX : (wk.alloc (.cells #[.int .i64 p.size, .int .i64 p.next, .slice ea' en' ec', .slice va' vn' vc', .slice ra' rn' rc', .slice la' ln' lc'] 28)).heap.size = wk.heap.size + 1 := by simp
  have PX := PT0.below hBX
  have hBwX := chain hBwk hBX
  have CX := (C.below hBk).below hBX
  have DX := (D.below hBk).below hBX
  have OX := (O.below hBk).below hBX
  have ox0 : (wk.alloc (.cells #[.int .i64 p.size, .int .i64 p.next, .slice ea' en' ec', .slice va' vn' vc', .slice ra' rn' rc', .slice la' ln' lc'] 28)).cell? ⟨w.heap.size + 1, 0, none⟩ = some (.int .i64 2) := by rw [← hk9.out]; exact OX.cell 0
  clear x0 x1 x2 x3 x4 x5 f0 f1 f2 f3 f4 f5 c0 c1 c2 c3 c4 c5 o0 C D O
  obtain ⟨y0, y1, y2, y3, y4, y5⟩ := XB.six'
  have p1 := OX.cell 1
  have p2 := OX.cell 2
  have p3 := OX.cell 3
  have p4 := OX.cell 4
  have p5 := OX.cell 5
  have p6 := OX.cell 6
  have p7 := OX.cell 7
  have p8 := OX.cell 8
  simp only [lgA, lgB, lgC] at p1 p2 p3 p4 p5 p6 p7 p8
  go_wp2_with fail
  generalize wk.alloc (.cells #[.int .i64 p.size, .int .i64 p.next, .slice ea' en' ec', .slice va' vn' vc', .slice ra' rn' rc', .slice la' ln' lc'] 28) = wX at *
  have hcall := spec_l6File w1.heap.size (by omega) _ p o wX PX hNn (by omega) hd hp hf'.out (by rw [hk9.out]; simp)
  rw [hk9.out] at hcall
  refine hcall.mono ?_
  rintro e w5 ⟨⟨v2, c, rfl, ⟨s2, n2, e2a, e2n, e2c, v2a, v2n, v2c, r2a, r2n, r2c, l2a, l2n, l2c, rfl⟩, hc, hPT5⟩, hB5, hF5⟩
  have X5 := hF5 _ _ _ XB (by decide)
  have C5 := hF5 _ _ _ CX (by decide)
  have D5 := hF5 _ _ _ DX (by decide)
  have O5 := hF5 _ _ _ OX (by decide)
  have hBw5 : Below w.heap.size w w5 := chainB hBwX hB5 (by omega)
  have hs5 := hB5.size
  clear y0 y1 y2 y3 y4 y5 p1 p2 p3 p4 p5 p6 p7 p8 ox0
  obtain ⟨x0, x1, x2, x3, x4, x5⟩ := X5.six'
  have f0 := X5.frozen 0
  have f1 := X5.frozen 1
  have f2 := X5.frozen 2
  have f3 := X5.frozen 3
  have f4 := X5.frozen 4
  have f5 := X5.frozen 5
  have hcn : ¬ c = 0 := by rw [hc]; exact hno
  have hc' : Hid (c = (fileS p o).1) := hc
  clear hc
  clear hPT5
  obtain ⟨c0, c1, c2, c3, c4, c5⟩ := C5.six'
  have n1 : ¬ w.heap.size = wk.heap.size := by omega
  have n3 : ¬ wk.heap.size = w.heap.size := by omega
  go_wp2_with fail
  obtain ⟨X6, hg6⟩ := set6 X5 (.int .i64 s2) (.int .i64 n2) (.slice e2a e2n e2c) (.slice v2a v2n v2c) (.slice r2a r2n r2c) (.slice l2a l2n l2c)
  have C6 : Blk _ w.heap.size _ _ := (hg6.block _ C5.lt (by simp only [ne_eq, Option.some.injEq]; omega)).trans C5
  have D6 : Blk _ (w.heap.size + 2) _ _ := (hg6.block _ D5.lt (by simp only [ne_eq, Option.some.injEq]; omega)).trans D5
  have hBw6 := hBw5.grown hg6 hBw5.size (fun j e => by cases e; omega)
  have hs6 := hg6.size
  generalize ((((((w5.setCell ⟨wk.heap.size, 0, none⟩ (.int .i64 s2)).setCell ⟨wk.heap.size, 1, none⟩ (.int .i64 n2)).setCell ⟨wk.heap.size, 2, none⟩ (.slice e2a e2n e2c)).setCell ⟨wk.heap.size, 3, none⟩ (.slice v2a v2n v2c)).setCell ⟨wk.heap.size, 4, none⟩ (.slice r2a r2n r2c)).setCell ⟨wk.heap.size, 5, none⟩ (.slice l2a l2n l2c)) = w6 at *
  clear x0 x1 x2 x3 x4 x5 f0 f1 f2 f3 f4 f5 X5 C5 D5 O5 hg6 c0 c1 c2 c3 c4 c5
  obtain ⟨c0, c1, c2, c3, c4, c5⟩ := C6.six'
  obtain ⟨x0, x1, x2, x3, x4, x5⟩ := D6.six'
  have f0 := D6.frozen 0
  have f1 := D6.frozen 1
  have f2 := D6.frozen 2
  have f3 := D6.frozen 3
  have f4 := D6.frozen 4
  have f5 := D6.frozen 5
  go_wp2_with fail
  refine (spec_l4Copy B0 hB0 _ p _ (hPA.below hBw6) hd).mono ?_
  rintro e wk ⟨⟨v', rfl, PT, _⟩, hBk⟩
  have PT0 := PT
  obtain ⟨ea', en', ec', va', vn', vc', ra', rn', rc', la', ln', lc', rows', rfl, _⟩ := PT
  have Dk := D6.below hBk
  have hBwk := chain hBw6 hBk
  have hsk := hBk.size
  have hsw := hBw6.size
  clear x0 x1 x2 x3 x4 x5 f0 f1 f2 f3 f4 f5
  obtain ⟨x0, x1, x2, x3, x4, x5⟩ := Dk.six'
  have f0 := Dk.frozen 0
  have f1 := Dk.frozen 1
  have f2 := Dk.frozen 2
  have f3 := Dk.frozen 3
  have f4 := Dk.frozen 4
  have f5 := Dk.frozen 5
  go_wp2
  obtain ⟨W0, hg0⟩ := set6 Dk (.int .i64 p.size) (.int .i64 p.next) (.slice ea' en' ec') (.slice va' vn' vc') (.slice ra' rn' rc') (.slice la' ln' lc')
  have PF := (PT0.tyP hg0 (rowTy_blk Dk)).mono (show w.heap.size ≤ w6.heap.size by omega)
  have B8 := hBwk.grown hg0 hBwk.size (fun j e => by cases e; omega)
  generalize ((((((wk.setCell ⟨w.heap.size + 2, 0, none⟩ (.int .i64 p.size)).setCell ⟨w.heap.size + 2, 1, none⟩ (.int .i64 p.next)).setCell ⟨w.heap.size + 2, 2, none⟩ (.slice ea' en' ec')).setCell ⟨w.heap.size + 2, 3, none⟩ (.slice va' vn' vc')).setCell ⟨w.heap.size + 2, 4, none⟩ (.slice ra' rn' rc')).setCell ⟨w.heap.size + 2, 5, none⟩ (.slice la' ln' lc')) = W8 at *
  refine bodyPost_ret (results_cell_tmp rfl _ W8 (w.heap.size + 2) _ _ _ _ _ rfl W0 Tryz.underlying28 rfl (by kernel_rfl) rfl) rfl ?_
  exact ⟨⟨_, c, rfl, by rw [hS.out]; exact hc'.out, by rw [hS.out]; exact PF, by rw [hS.out]; exact hd⟩, B8⟩
set_option maxHeartbeats 4000000 in
set_option maxRecDepth 100000 in
theorem spec_l6Done_no3 (B0 : Nat) (hB0 : 0 < B0) (v : Value) (p : Po) (o : Opr) (w : World) (h : PoolAt B0 w v p) (hd : DimP p) (hp : poolB p = true) (hso : StrO o) (hf : opB o = true) (hk : o.k = 3) (hno : (fileS p o).1 ≠ 0) :
    Calls Tryz.prog 89 #[v, .agg #[.int .i64 o.k, .string o.vol, .string o.file, .string o.to, .string o.into, .int .i64 o.at', .int .i64 o.fr, .int .i64 o.ln, .string o.data]] w fun e w' => (∃ v' c, e = .returned (.tuple #[v', .int .i64 c]) ∧ c = (opS p o).1 ∧ PoolT w.heap.size w' v' (opS p o).2 ∧ DimP (opS p o).2) ∧ Below w.heap.size w w' := by
  have _ := hB0
  have _ := hp
  have hPA := h
  obtain ⟨ea, en, ec, va, vn, vc, ra, rn, rc, la, ln, lc, rfl, ⟨h1, k1⟩, ⟨h2, k2⟩, ⟨h3, k3⟩, h4, k4⟩ := h
  obtain ⟨_, hnx, htv, hrB, hlB⟩ := pool_right hp
  have hS : Hid (opS p o = ((fileS p o).1, p)) := by show _ = _; simp [opS, triedS, hf, hk, hno]
  generalize opS p o = R at *
  have hk9 : Hid (o.k = 3) := hk
  have hf' : Hid (opB o = true) := hf
  clear hk
  go_enter Tryz.func89, Tryz.ntmps89
  go_wp2_with fail
  refine (spec_OpOk o _ hso).mono ?_
  rintro e w1 ⟨rfl, hB1⟩
  have C : Blk w1 w.heap.size #[.int .i64 p.size, .int .i64 p.next, .slice ea en ec, .slice va vn vc, .slice ra rn rc, .slice la ln lc] 28 := (((Blk.new w _ _).alloc _).alloc _).below hB1
  have O : Blk w1 (w.heap.size + 1) #[.int .i64 o.k, .string o.vol, .string o.file, .string o.to, .string o.into, .int .i64 o.at', .int .i64 o.fr, .int .i64 o.ln, .string o.data] 102 := ((Blk.new' _ _ _ _ (by simp)).alloc _).below hB1
  have D : Blk w1 (w.heap.size + 2) #[.int .i64 0, .int .i64 0, .slice none 0 0, .slice none 0 0, .slice none 0 0, .slice none 0 0] 28 := (Blk.new' _ _ _ _ (by simp)).below hB1
  have hBw1 : Below w.heap.size w w1 := chain (by go_grown) hB1
  have hs1 : w.heap.size + 3 ≤ w1.heap.size := by have := hB1.size; simp at this; omega
  clear hB1
  rw [hf]
  obtain ⟨x0, x1, x2, x3, x4, x5⟩ := D.six'
  have f0 := D.frozen 0
  have f1 := D.frozen 1
  have f2 := D.frozen 2
  have f3 := D.frozen 3
  have f4 := D.frozen 4
  have f5 := D.frozen 5
  obtain ⟨c0, c1, c2, c3, c4, c5⟩ := C.six'
  have o0 : w1.cell? ⟨w.heap.size + 1, 0, none⟩ = some (.int .i64 3) := by rw [← hk9.out]; exact O.cell 0
  go_wp2_with fail
  refine (spec_l4Copy B0 hB0 _ p _ (hPA.below hBw1) hd).mono ?_
  rintro e wk ⟨⟨v', rfl, PT, hNn⟩, hBk⟩
  have PT0 := PT
  obtain ⟨ea', en', ec', va', vn', vc', ra', rn', rc', la', ln', lc', rows', rfl, _⟩ := PT
  have hBwk := chain hBw1 hBk
  have hsk := hBk.size
  have hBX : Below wk.heap.size wk (wk.alloc (.cells #[.int .i64 p.size, .int .i64 p.next, .slice ea' en' ec', .slice va' vn' vc', .slice ra' rn' rc', .slice la' ln' lc'] 28)) := (Below.refl _ _).alloc (Nat.le_refl _) _
  have XB := Blk.new wk #[.int .i64 p.size, .int .i64 p.next, .slice ea' en' ec', .slice va' vn' vc', .slice ra' rn' rc', .slice la' ln' lc'] 28
  have hsX : (wk.alloc (.cells #[.int .i64 p.size, .int .i64 p.next, .slice ea' en' ec', .slice va' vn' vc', .slice ra' rn' rc', .slice la' ln' lc'] 28)).heap.size = wk.heap.size + 1 := by simp
  have PX := PT0.below hBX
  have hBwX := chain hBwk hBX
  have CX := (C.below hBk).below hBX
  have DX := (D.below hBk).below hBX
  have OX := (O.below hBk).below hBX
  have ox0 : (wk.alloc (.cells #[.int .i64 p.size, .int .i64 p.next, .slice ea' en' ec', .slice va' vn' vc', .slice ra' rn' rc', .slice la' ln' lc'] 28)).cell? ⟨w.heap.size + 1, 0, none⟩ = some (.int .i64 3) := by rw [← hk9.out]; exact OX.cell 0
  clear x0 x1 x2 x3 x4 x5 f0 f1 f2 f3 f4 f5 c0 c1 c2 c3 c4 c5 o0 C D O
  obtain ⟨y0, y1, y2, y3, y4, y5⟩ := XB.six'
  have p1 := OX.cell 1
  have p2 := OX.cell 2
  have p3 := OX.cell 3
  have p4 := OX.cell 4
  have p5 := OX.cell 5
  have p6 := OX.cell 6
  have p7 := OX.cell 7
  have p8 := OX.cell 8
  simp only [lgA, lgB, lgC] at p1 p2 p3 p4 p5 p6 p7 p8
  go_wp2_with fail
  generalize wk.alloc (.cells #[.int .i64 p.size, .int .i64 p.next, .slice ea' en' ec', .slice va' vn' vc', .slice ra' rn' rc', .slice la' ln' lc'] 28) = wX at *
  have hcall := spec_l6File w1.heap.size (by omega) _ p o wX PX hNn (by omega) hd hp hf'.out (by rw [hk9.out]; simp)
  rw [hk9.out] at hcall
  refine hcall.mono ?_
  rintro e w5 ⟨⟨v2, c, rfl, ⟨s2, n2, e2a, e2n, e2c, v2a, v2n, v2c, r2a, r2n, r2c, l2a, l2n, l2c, rfl⟩, hc, hPT5⟩, hB5, hF5⟩
  have X5 := hF5 _ _ _ XB (by decide)
  have C5 := hF5 _ _ _ CX (by decide)
  have D5 := hF5 _ _ _ DX (by decide)
  have O5 := hF5 _ _ _ OX (by decide)
  have hBw5 : Below w.heap.size w w5 := chainB hBwX hB5 (by omega)
  have hs5 := hB5.size
  clear y0 y1 y2 y3 y4 y5 p1 p2 p3 p4 p5 p6 p7 p8 ox0
  obtain ⟨x0, x1, x2, x3, x4, x5⟩ := X5.six'
  have f0 := X5.frozen 0
  have f1 := X5.frozen 1
  have f2 := X5.frozen 2
  have f3 := X5.frozen 3
  have f4 := X5.frozen 4
  have f5 := X5.frozen 5
  have hcn : ¬ c = 0 := by rw [hc]; exact hno
  have hc' : Hid (c = (fileS p o).1) := hc
  clear hc
  clear hPT5
  obtain ⟨c0, c1, c2, c3, c4, c5⟩ := C5.six'
  have n1 : ¬ w.heap.size = wk.heap.size := by omega
  have n3 : ¬ wk.heap.size = w.heap.size := by omega
  go_wp2_with fail
  obtain ⟨X6, hg6⟩ := set6 X5 (.int .i64 s2) (.int .i64 n2) (.slice e2a e2n e2c) (.slice v2a v2n v2c) (.slice r2a r2n r2c) (.slice l2a l2n l2c)
  have C6 : Blk _ w.heap.size _ _ := (hg6.block _ C5.lt (by simp only [ne_eq, Option.some.injEq]; omega)).trans C5
  have D6 : Blk _ (w.heap.size + 2) _ _ := (hg6.block _ D5.lt (by simp only [ne_eq, Option.some.injEq]; omega)).trans D5
  have hBw6 := hBw5.grown hg6 hBw5.size (fun j e => by cases e; omega)
  have hs6 := hg6.size
  generalize ((((((w5.setCell ⟨wk.heap.size, 0, none⟩ (.int .i64 s2)).setCell ⟨wk.heap.size, 1, none⟩ (.int .i64 n2)).setCell ⟨wk.heap.size, 2, none⟩ (.slice e2a e2n e2c)).setCell ⟨wk.heap.size, 3, none⟩ (.slice v2a v2n v2c)).setCell ⟨wk.heap.size, 4, none⟩ (.slice r2a r2n r2c)).setCell ⟨wk.heap.size, 5, none⟩ (.slice l2a l2n l2c)) = w6 at *
  clear x0 x1 x2 x3 x4 x5 f0 f1 f2 f3 f4 f5 X5 C5 D5 O5 hg6 c0 c1 c2 c3 c4 c5
  obtain ⟨c0, c1, c2, c3, c4, c5⟩ := C6.six'
  obtain ⟨x0, x1, x2, x3, x4, x5⟩ := D6.six'
  have f0 := D6.frozen 0
  have f1 := D6.frozen 1
  have f2 := D6.frozen 2
  have f3 := D6.frozen 3
  have f4 := D6.frozen 4
  have f5 := D6.frozen 5
  go_wp2_with fail
  refine (spec_l4Copy B0 hB0 _ p _ (hPA.below hBw6) hd).mono ?_
  rintro e wk ⟨⟨v', rfl, PT, _⟩, hBk⟩
  have PT0 := PT
  obtain ⟨ea', en', ec', va', vn', vc', ra', rn', rc', la', ln', lc', rows', rfl, _⟩ := PT
  have Dk := D6.below hBk
  have hBwk := chain hBw6 hBk
  have hsk := hBk.size
  have hsw := hBw6.size
  clear x0 x1 x2 x3 x4 x5 f0 f1 f2 f3 f4 f5
  obtain ⟨x0, x1, x2, x3, x4, x5⟩ := Dk.six'
  have f0 := Dk.frozen 0
  have f1 := Dk.frozen 1
  have f2 := Dk.frozen 2
  have f3 := Dk.frozen 3
  have f4 := Dk.frozen 4
  have f5 := Dk.frozen 5
  go_wp2
  obtain ⟨W0, hg0⟩ := set6 Dk (.int .i64 p.size) (.int .i64 p.next) (.slice ea' en' ec') (.slice va' vn' vc') (.slice ra' rn' rc') (.slice la' ln' lc')
  have PF := (PT0.tyP hg0 (rowTy_blk Dk)).mono (show w.heap.size ≤ w6.heap.size by omega)
  have B8 := hBwk.grown hg0 hBwk.size (fun j e => by cases e; omega)
  generalize ((((((wk.setCell ⟨w.heap.size + 2, 0, none⟩ (.int .i64 p.size)).setCell ⟨w.heap.size + 2, 1, none⟩ (.int .i64 p.next)).setCell ⟨w.heap.size + 2, 2, none⟩ (.slice ea' en' ec')).setCell ⟨w.heap.size + 2, 3, none⟩ (.slice va' vn' vc')).setCell ⟨w.heap.size + 2, 4, none⟩ (.slice ra' rn' rc')).setCell ⟨w.heap.size + 2, 5, none⟩ (.slice la' ln' lc')) = W8 at *
  refine bodyPost_ret (results_cell_tmp rfl _ W8 (w.heap.size + 2) _ _ _ _ _ rfl W0 Tryz.underlying28 rfl (by kernel_rfl) rfl) rfl ?_
  exact ⟨⟨_, c, rfl, by rw [hS.out]; exact hc'.out, by rw [hS.out]; exact PF, by rw [hS.out]; exact hd⟩, B8⟩
set_option maxHeartbeats 4000000 in
set_option maxRecDepth 100000 in
theorem spec_l6Done_no5 (B0 : Nat) (hB0 : 0 < B0) (v : Value) (p : Po) (o : Opr) (w : World) (h : PoolAt B0 w v p) (hd : DimP p) (hp : poolB p = true) (hso : StrO o) (hf : opB o = true) (hk : o.k = 5) (hno : (fileS p o).1 ≠ 0) :
    Calls Tryz.prog 89 #[v, .agg #[.int .i64 o.k, .string o.vol, .string o.file, .string o.to, .string o.into, .int .i64 o.at', .int .i64 o.fr, .int .i64 o.ln, .string o.data]] w fun e w' => (∃ v' c, e = .returned (.tuple #[v', .int .i64 c]) ∧ c = (opS p o).1 ∧ PoolT w.heap.size w' v' (opS p o).2 ∧ DimP (opS p o).2) ∧ Below w.heap.size w w' := by
  have _ := hB0
  have _ := hp
  have hPA := h
  obtain ⟨ea, en, ec, va, vn, vc, ra, rn, rc, la, ln, lc, rfl, ⟨h1, k1⟩, ⟨h2, k2⟩, ⟨h3, k3⟩, h4, k4⟩ := h
  obtain ⟨_, hnx, htv, hrB, hlB⟩ := pool_right hp
  have hS : Hid (opS p o = ((fileS p o).1, p)) := by show _ = _; simp [opS, triedS, hf, hk, hno]
  generalize opS p o = R at *
  have hk9 : Hid (o.k = 5) := hk
  have hf' : Hid (opB o = true) := hf
  clear hk
  go_enter Tryz.func89, Tryz.ntmps89
  go_wp2_with fail
  refine (spec_OpOk o _ hso).mono ?_
  rintro e w1 ⟨rfl, hB1⟩
  have C : Blk w1 w.heap.size #[.int .i64 p.size, .int .i64 p.next, .slice ea en ec, .slice va vn vc, .slice ra rn rc, .slice la ln lc] 28 := (((Blk.new w _ _).alloc _).alloc _).below hB1
  have O : Blk w1 (w.heap.size + 1) #[.int .i64 o.k, .string o.vol, .string o.file, .string o.to, .string o.into, .int .i64 o.at', .int .i64 o.fr, .int .i64 o.ln, .string o.data] 102 := ((Blk.new' _ _ _ _ (by simp)).alloc _).below hB1
  have D : Blk w1 (w.heap.size + 2) #[.int .i64 0, .int .i64 0, .slice none 0 0, .slice none 0 0, .slice none 0 0, .slice none 0 0] 28 := (Blk.new' _ _ _ _ (by simp)).below hB1
  have hBw1 : Below w.heap.size w w1 := chain (by go_grown) hB1
  have hs1 : w.heap.size + 3 ≤ w1.heap.size := by have := hB1.size; simp at this; omega
  clear hB1
  rw [hf]
  obtain ⟨x0, x1, x2, x3, x4, x5⟩ := D.six'
  have f0 := D.frozen 0
  have f1 := D.frozen 1
  have f2 := D.frozen 2
  have f3 := D.frozen 3
  have f4 := D.frozen 4
  have f5 := D.frozen 5
  obtain ⟨c0, c1, c2, c3, c4, c5⟩ := C.six'
  have o0 : w1.cell? ⟨w.heap.size + 1, 0, none⟩ = some (.int .i64 5) := by rw [← hk9.out]; exact O.cell 0
  go_wp2_with fail
  refine (spec_l4Copy B0 hB0 _ p _ (hPA.below hBw1) hd).mono ?_
  rintro e wk ⟨⟨v', rfl, PT, hNn⟩, hBk⟩
  have PT0 := PT
  obtain ⟨ea', en', ec', va', vn', vc', ra', rn', rc', la', ln', lc', rows', rfl, _⟩ := PT
  have hBwk := chain hBw1 hBk
  have hsk := hBk.size
  have hBX : Below wk.heap.size wk (wk.alloc (.cells #[.int .i64 p.size, .int .i64 p.next, .slice ea' en' ec', .slice va' vn' vc', .slice ra' rn' rc', .slice la' ln' lc'] 28)) := (Below.refl _ _).alloc (Nat.le_refl _) _
  have XB := Blk.new wk #[.int .i64 p.size, .int .i64 p.next, .slice ea' en' ec', .slice va' vn' vc', .slice ra' rn' rc', .slice la' ln' lc'] 28
  have hsX : (wk.alloc (.cells #[.int .i64 p.size, .int .i64 p.next, .slice ea' en' ec', .slice va' vn' vc', .slice ra' rn' rc', .slice la' ln' lc'] 28)).heap.size = wk.heap.size + 1 := by simp
  have PX := PT0.below hBX
  have hBwX := chain hBwk hBX
  have CX := (C.below hBk).below hBX
  have DX := (D.below hBk).below hBX
  have OX := (O.below hBk).below hBX
  have ox0 : (wk.alloc (.cells #[.int .i64 p.size, .int .i64 p.next, .slice ea' en' ec', .slice va' vn' vc', .slice ra' rn' rc', .slice la' ln' lc'] 28)).cell? ⟨w.heap.size + 1, 0, none⟩ = some (.int .i64 5) := by rw [← hk9.out]; exact OX.cell 0
  clear x0 x1 x2 x3 x4 x5 f0 f1 f2 f3 f4 f5 c0 c1 c2 c3 c4 c5 o0 C D O
  obtain ⟨y0, y1, y2, y3, y4, y5⟩ := XB.six'
  have p1 := OX.cell 1
  have p2 := OX.cell 2
  have p3 := OX.cell 3
  have p4 := OX.cell 4
  have p5 := OX.cell 5
  have p6 := OX.cell 6
  have p7 := OX.cell 7
  have p8 := OX.cell 8
  simp only [lgA, lgB, lgC] at p1 p2 p3 p4 p5 p6 p7 p8
  go_wp2_with fail
  generalize wk.alloc (.cells #[.int .i64 p.size, .int .i64 p.next, .slice ea' en' ec', .slice va' vn' vc', .slice ra' rn' rc', .slice la' ln' lc'] 28) = wX at *
  have hcall := spec_l6File w1.heap.size (by omega) _ p o wX PX hNn (by omega) hd hp hf'.out (by rw [hk9.out]; simp)
  rw [hk9.out] at hcall
  refine hcall.mono ?_
  rintro e w5 ⟨⟨v2, c, rfl, ⟨s2, n2, e2a, e2n, e2c, v2a, v2n, v2c, r2a, r2n, r2c, l2a, l2n, l2c, rfl⟩, hc, hPT5⟩, hB5, hF5⟩
  have X5 := hF5 _ _ _ XB (by decide)
  have C5 := hF5 _ _ _ CX (by decide)
  have D5 := hF5 _ _ _ DX (by decide)
  have O5 := hF5 _ _ _ OX (by decide)
  have hBw5 : Below w.heap.size w w5 := chainB hBwX hB5 (by omega)
  have hs5 := hB5.size
  clear y0 y1 y2 y3 y4 y5 p1 p2 p3 p4 p5 p6 p7 p8 ox0
  obtain ⟨x0, x1, x2, x3, x4, x5⟩ := X5.six'
  have f0 := X5.frozen 0
  have f1 := X5.frozen 1
  have f2 := X5.frozen 2
  have f3 := X5.frozen 3
  have f4 := X5.frozen 4
  have f5 := X5.frozen 5
  have hcn : ¬ c = 0 := by rw [hc]; exact hno
  have hc' : Hid (c = (fileS p o).1) := hc
  clear hc
  clear hPT5
  obtain ⟨c0, c1, c2, c3, c4, c5⟩ := C5.six'
  have n1 : ¬ w.heap.size = wk.heap.size := by omega
  have n3 : ¬ wk.heap.size = w.heap.size := by omega
  go_wp2_with fail
  obtain ⟨X6, hg6⟩ := set6 X5 (.int .i64 s2) (.int .i64 n2) (.slice e2a e2n e2c) (.slice v2a v2n v2c) (.slice r2a r2n r2c) (.slice l2a l2n l2c)
  have C6 : Blk _ w.heap.size _ _ := (hg6.block _ C5.lt (by simp only [ne_eq, Option.some.injEq]; omega)).trans C5
  have D6 : Blk _ (w.heap.size + 2) _ _ := (hg6.block _ D5.lt (by simp only [ne_eq, Option.some.injEq]; omega)).trans D5
  have hBw6 := hBw5.grown hg6 hBw5.size (fun j e => by cases e; omega)
  have hs6 := hg6.size
  generalize ((((((w5.setCell ⟨wk.heap.size, 0, none⟩ (.int .i64 s2)).setCell ⟨wk.heap.size, 1, none⟩ (.int .i64 n2)).setCell ⟨wk.heap.size, 2, none⟩ (.slice e2a e2n e2c)).setCell ⟨wk.heap.size, 3, none⟩ (.slice v2a v2n v2c)).setCell ⟨wk.heap.size, 4, none⟩ (.slice r2a r2n r2c)).setCell ⟨wk.heap.size, 5, none⟩ (.slice l2a l2n l2c)) = w6 at *
  clear x0 x1 x2 x3 x4 x5 f0 f1 f2 f3 f4 f5 X5 C5 D5 O5 hg6 c0 c1 c2 c3 c4 c5
  obtain ⟨c0, c1, c2, c3, c4, c5⟩ := C6.six'
  obtain ⟨x0, x1, x2, x3, x4, x5⟩ := D6.six'
  have f0 := D6.frozen 0
  have f1 := D6.frozen 1
  have f2 := D6.frozen 2
  have f3 := D6.frozen 3
  have f4 := D6.frozen 4
  have f5 := D6.frozen 5
  go_wp2_with fail
  refine (spec_l4Copy B0 hB0 _ p _ (hPA.below hBw6) hd).mono ?_
  rintro e wk ⟨⟨v', rfl, PT, _⟩, hBk⟩
  have PT0 := PT
  obtain ⟨ea', en', ec', va', vn', vc', ra', rn', rc', la', ln', lc', rows', rfl, _⟩ := PT
  have Dk := D6.below hBk
  have hBwk := chain hBw6 hBk
  have hsk := hBk.size
  have hsw := hBw6.size
  clear x0 x1 x2 x3 x4 x5 f0 f1 f2 f3 f4 f5
  obtain ⟨x0, x1, x2, x3, x4, x5⟩ := Dk.six'
  have f0 := Dk.frozen 0
  have f1 := Dk.frozen 1
  have f2 := Dk.frozen 2
  have f3 := Dk.frozen 3
  have f4 := Dk.frozen 4
  have f5 := Dk.frozen 5
  go_wp2
  obtain ⟨W0, hg0⟩ := set6 Dk (.int .i64 p.size) (.int .i64 p.next) (.slice ea' en' ec') (.slice va' vn' vc') (.slice ra' rn' rc') (.slice la' ln' lc')
  have PF := (PT0.tyP hg0 (rowTy_blk Dk)).mono (show w.heap.size ≤ w6.heap.size by omega)
  have B8 := hBwk.grown hg0 hBwk.size (fun j e => by cases e; omega)
  generalize ((((((wk.setCell ⟨w.heap.size + 2, 0, none⟩ (.int .i64 p.size)).setCell ⟨w.heap.size + 2, 1, none⟩ (.int .i64 p.next)).setCell ⟨w.heap.size + 2, 2, none⟩ (.slice ea' en' ec')).setCell ⟨w.heap.size + 2, 3, none⟩ (.slice va' vn' vc')).setCell ⟨w.heap.size + 2, 4, none⟩ (.slice ra' rn' rc')).setCell ⟨w.heap.size + 2, 5, none⟩ (.slice la' ln' lc')) = W8 at *
  refine bodyPost_ret (results_cell_tmp rfl _ W8 (w.heap.size + 2) _ _ _ _ _ rfl W0 Tryz.underlying28 rfl (by kernel_rfl) rfl) rfl ?_
  exact ⟨⟨_, c, rfl, by rw [hS.out]; exact hc'.out, by rw [hS.out]; exact PF, by rw [hS.out]; exact hd⟩, B8⟩
set_option maxHeartbeats 4000000 in
set_option maxRecDepth 100000 in
theorem spec_l6Done_no10 (B0 : Nat) (hB0 : 0 < B0) (v : Value) (p : Po) (o : Opr) (w : World) (h : PoolAt B0 w v p) (hd : DimP p) (hp : poolB p = true) (hso : StrO o) (hf : opB o = true) (hk : o.k = 10) (hno : (fileS p o).1 ≠ 0) :
    Calls Tryz.prog 89 #[v, .agg #[.int .i64 o.k, .string o.vol, .string o.file, .string o.to, .string o.into, .int .i64 o.at', .int .i64 o.fr, .int .i64 o.ln, .string o.data]] w fun e w' => (∃ v' c, e = .returned (.tuple #[v', .int .i64 c]) ∧ c = (opS p o).1 ∧ PoolT w.heap.size w' v' (opS p o).2 ∧ DimP (opS p o).2) ∧ Below w.heap.size w w' := by
  have _ := hB0
  have _ := hp
  have hPA := h
  obtain ⟨ea, en, ec, va, vn, vc, ra, rn, rc, la, ln, lc, rfl, ⟨h1, k1⟩, ⟨h2, k2⟩, ⟨h3, k3⟩, h4, k4⟩ := h
  obtain ⟨_, hnx, htv, hrB, hlB⟩ := pool_right hp
  have hS : Hid (opS p o = ((fileS p o).1, p)) := by show _ = _; simp [opS, triedS, hf, hk, hno]
  generalize opS p o = R at *
  have hk9 : Hid (o.k = 10) := hk
  have hf' : Hid (opB o = true) := hf
  clear hk
  go_enter Tryz.func89, Tryz.ntmps89
  go_wp2_with fail
  refine (spec_OpOk o _ hso).mono ?_
  rintro e w1 ⟨rfl, hB1⟩
  have C : Blk w1 w.heap.size #[.int .i64 p.size, .int .i64 p.next, .slice ea en ec, .slice va vn vc, .slice ra rn rc, .slice la ln lc] 28 := (((Blk.new w _ _).alloc _).alloc _).below hB1
  have O : Blk w1 (w.heap.size + 1) #[.int .i64 o.k, .string o.vol, .string o.file, .string o.to, .string o.into, .int .i64 o.at', .int .i64 o.fr, .int .i64 o.ln, .string o.data] 102 := ((Blk.new' _ _ _ _ (by simp)).alloc _).below hB1
  have D : Blk w1 (w.heap.size + 2) #[.int .i64 0, .int .i64 0, .slice none 0 0, .slice none 0 0, .slice none 0 0, .slice none 0 0] 28 := (Blk.new' _ _ _ _ (by simp)).below hB1
  have hBw1 : Below w.heap.size w w1 := chain (by go_grown) hB1
  have hs1 : w.heap.size + 3 ≤ w1.heap.size := by have := hB1.size; simp at this; omega
  clear hB1
  rw [hf]
  obtain ⟨x0, x1, x2, x3, x4, x5⟩ := D.six'
  have f0 := D.frozen 0
  have f1 := D.frozen 1
  have f2 := D.frozen 2
  have f3 := D.frozen 3
  have f4 := D.frozen 4
  have f5 := D.frozen 5
  obtain ⟨c0, c1, c2, c3, c4, c5⟩ := C.six'
  have o0 : w1.cell? ⟨w.heap.size + 1, 0, none⟩ = some (.int .i64 10) := by rw [← hk9.out]; exact O.cell 0
  go_wp2_with fail
  refine (spec_l4Copy B0 hB0 _ p _ (hPA.below hBw1) hd).mono ?_
  rintro e wk ⟨⟨v', rfl, PT, hNn⟩, hBk⟩
  have PT0 := PT
  obtain ⟨ea', en', ec', va', vn', vc', ra', rn', rc', la', ln', lc', rows', rfl, _⟩ := PT
  have hBwk := chain hBw1 hBk
  have hsk := hBk.size
  have hBX : Below wk.heap.size wk (wk.alloc (.cells #[.int .i64 p.size, .int .i64 p.next, .slice ea' en' ec', .slice va' vn' vc', .slice ra' rn' rc', .slice la' ln' lc'] 28)) := (Below.refl _ _).alloc (Nat.le_refl _) _
  have XB := Blk.new wk #[.int .i64 p.size, .int .i64 p.next, .slice ea' en' ec', .slice va' vn' vc', .slice ra' rn' rc', .slice la' ln' lc'] 28
  have hsX : (wk.alloc (.cells #[.int .i64 p.size, .int .i64 p.next, .slice ea' en' ec', .slice va' vn' vc', .slice ra' rn' rc', .slice la' ln' lc'] 28)).heap.size = wk.heap.size + 1 := by simp
  have PX := PT0.below hBX
  have hBwX := chain hBwk hBX
  have CX := (C.below hBk).below hBX
  have DX := (D.below hBk).below hBX
  have OX := (O.below hBk).below hBX
  have ox0 : (wk.alloc (.cells #[.int .i64 p.size, .int .i64 p.next, .slice ea' en' ec', .slice va' vn' vc', .slice ra' rn' rc', .slice la' ln' lc'] 28)).cell? ⟨w.heap.size + 1, 0, none⟩ = some (.int .i64 10) := by rw [← hk9.out]; exact OX.cell 0
  clear x0 x1 x2 x3 x4 x5 f0 f1 f2 f3 f4 f5 c0 c1 c2 c3 c4 c5 o0 C D O
  obtain ⟨y0, y1, y2, y3, y4, y5⟩ := XB.six'
  have p1 := OX.cell 1
  have p2 := OX.cell 2
  have p3 := OX.cell 3
  have p4 := OX.cell 4
  have p5 := OX.cell 5
  have p6 := OX.cell 6
  have p7 := OX.cell 7
  have p8 := OX.cell 8
  simp only [lgA, lgB, lgC] at p1 p2 p3 p4 p5 p6 p7 p8
  go_wp2_with fail
  generalize wk.alloc (.cells #[.int .i64 p.size, .int .i64 p.next, .slice ea' en' ec', .slice va' vn' vc', .slice ra' rn' rc', .slice la' ln' lc'] 28) = wX at *
  have hcall := spec_l6File w1.heap.size (by omega) _ p o wX PX hNn (by omega) hd hp hf'.out (by rw [hk9.out]; simp)
  rw [hk9.out] at hcall
  refine hcall.mono ?_
  rintro e w5 ⟨⟨v2, c, rfl, ⟨s2, n2, e2a, e2n, e2c, v2a, v2n, v2c, r2a, r2n, r2c, l2a, l2n, l2c, rfl⟩, hc, hPT5⟩, hB5, hF5⟩
  have X5 := hF5 _ _ _ XB (by decide)
  have C5 := hF5 _ _ _ CX (by decide)
  have D5 := hF5 _ _ _ DX (by decide)
  have O5 := hF5 _ _ _ OX (by decide)
  have hBw5 : Below w.heap.size w w5 := chainB hBwX hB5 (by omega)
  have hs5 := hB5.size
  clear y0 y1 y2 y3 y4 y5 p1 p2 p3 p4 p5 p6 p7 p8 ox0
  obtain ⟨x0, x1, x2, x3, x4, x5⟩ := X5.six'
  have f0 := X5.frozen 0
  have f1 := X5.frozen 1
  have f2 := X5.frozen 2
  have f3 := X5.frozen 3
  have f4 := X5.frozen 4
  have f5 := X5.frozen 5
  have hcn : ¬ c = 0 := by rw [hc]; exact hno
  have hc' : Hid (c = (fileS p o).1) := hc
  clear hc
  clear hPT5
  obtain ⟨c0, c1, c2, c3, c4, c5⟩ := C5.six'
  have n1 : ¬ w.heap.size = wk.heap.size := by omega
  have n3 : ¬ wk.heap.size = w.heap.size := by omega
  go_wp2_with fail
  obtain ⟨X6, hg6⟩ := set6 X5 (.int .i64 s2) (.int .i64 n2) (.slice e2a e2n e2c) (.slice v2a v2n v2c) (.slice r2a r2n r2c) (.slice l2a l2n l2c)
  have C6 : Blk _ w.heap.size _ _ := (hg6.block _ C5.lt (by simp only [ne_eq, Option.some.injEq]; omega)).trans C5
  have D6 : Blk _ (w.heap.size + 2) _ _ := (hg6.block _ D5.lt (by simp only [ne_eq, Option.some.injEq]; omega)).trans D5
  have hBw6 := hBw5.grown hg6 hBw5.size (fun j e => by cases e; omega)
  have hs6 := hg6.size
  generalize ((((((w5.setCell ⟨wk.heap.size, 0, none⟩ (.int .i64 s2)).setCell ⟨wk.heap.size, 1, none⟩ (.int .i64 n2)).setCell ⟨wk.heap.size, 2, none⟩ (.slice e2a e2n e2c)).setCell ⟨wk.heap.size, 3, none⟩ (.slice v2a v2n v2c)).setCell ⟨wk.heap.size, 4, none⟩ (.slice r2a r2n r2c)).setCell ⟨wk.heap.size, 5, none⟩ (.slice l2a l2n l2c)) = w6 at *
  clear x0 x1 x2 x3 x4 x5 f0 f1 f2 f3 f4 f5 X5 C5 D5 O5 hg6 c0 c1 c2 c3 c4 c5
  obtain ⟨c0, c1, c2, c3, c4, c5⟩ := C6.six'
  obtain ⟨x0, x1, x2, x3, x4, x5⟩ := D6.six'
  have f0 := D6.frozen 0
  have f1 := D6.frozen 1
  have f2 := D6.frozen 2
  have f3 := D6.frozen 3
  have f4 := D6.frozen 4
  have f5 := D6.frozen 5
  go_wp2_with fail
  refine (spec_l4Copy B0 hB0 _ p _ (hPA.below hBw6) hd).mono ?_
  rintro e wk ⟨⟨v', rfl, PT, _⟩, hBk⟩
  have PT0 := PT
  obtain ⟨ea', en', ec', va', vn', vc', ra', rn', rc', la', ln', lc', rows', rfl, _⟩ := PT
  have Dk := D6.below hBk
  have hBwk := chain hBw6 hBk
  have hsk := hBk.size
  have hsw := hBw6.size
  clear x0 x1 x2 x3 x4 x5 f0 f1 f2 f3 f4 f5
  obtain ⟨x0, x1, x2, x3, x4, x5⟩ := Dk.six'
  have f0 := Dk.frozen 0
  have f1 := Dk.frozen 1
  have f2 := Dk.frozen 2
  have f3 := Dk.frozen 3
  have f4 := Dk.frozen 4
  have f5 := Dk.frozen 5
  go_wp2
  obtain ⟨W0, hg0⟩ := set6 Dk (.int .i64 p.size) (.int .i64 p.next) (.slice ea' en' ec') (.slice va' vn' vc') (.slice ra' rn' rc') (.slice la' ln' lc')
  have PF := (PT0.tyP hg0 (rowTy_blk Dk)).mono (show w.heap.size ≤ w6.heap.size by omega)
  have B8 := hBwk.grown hg0 hBwk.size (fun j e => by cases e; omega)
  generalize ((((((wk.setCell ⟨w.heap.size + 2, 0, none⟩ (.int .i64 p.size)).setCell ⟨w.heap.size + 2, 1, none⟩ (.int .i64 p.next)).setCell ⟨w.heap.size + 2, 2, none⟩ (.slice ea' en' ec')).setCell ⟨w.heap.size + 2, 3, none⟩ (.slice va' vn' vc')).setCell ⟨w.heap.size + 2, 4, none⟩ (.slice ra' rn' rc')).setCell ⟨w.heap.size + 2, 5, none⟩ (.slice la' ln' lc')) = W8 at *
  refine bodyPost_ret (results_cell_tmp rfl _ W8 (w.heap.size + 2) _ _ _ _ _ rfl W0 Tryz.underlying28 rfl (by kernel_rfl) rfl) rfl ?_
  exact ⟨⟨_, c, rfl, by rw [hS.out]; exact hc'.out, by rw [hS.out]; exact PF, by rw [hS.out]; exact hd⟩, B8⟩
end Go.Proofs.YtnjefbkhibfgmaaGreat
