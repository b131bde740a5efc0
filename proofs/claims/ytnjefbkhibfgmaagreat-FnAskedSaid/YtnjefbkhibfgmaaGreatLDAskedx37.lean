/- Ops that are done when they are tried, by the model. -/
import Derived.Test.YtnjefbkhibfgmaaGreatLDAskedx35
namespace Go.Proofs.YtnjefbkhibfgmaaGreat
open Go Go.RowKit Go.BigFrame
set_option maxHeartbeats 4000000 in
set_option maxRecDepth 100000 in
theorem spec_l6Done_yes5 (B0 : Nat) (hB0 : 0 < B0) (v : Value) (p : Po) (o : Opr) (w : World) (h : PoolAt B0 w v p) (hd : DimP p) (hp : poolB p = true) (hso : StrO o) (hf : opB o = true) (hk : o.k = 5) (hyes : (fileS p o).1 = 0) :
    Calls Tryz.prog 89 #[v, .agg #[.int .i64 o.k, .string o.vol, .string o.file, .string o.to, .string o.into, .int .i64 o.at', .int .i64 o.fr, .int .i64 o.ln, .string o.data]] w fun e w' => (∃ v' c, e = .returned (.tuple #[v', .int .i64 c]) ∧ c = (opS p o).1 ∧ PoolT w.heap.size w' v' (opS p o).2 ∧ DimP (opS p o).2) ∧ Below w.heap.size w w' := by
  have _ := hB0
  have _ := hp
  have hPA := h
  obtain ⟨ea, en, ec, va, vn, vc, ra, rn, rc, la, ln, lc, rfl, ⟨h1, k1⟩, ⟨h2, k2⟩, ⟨h3, k3⟩, h4, k4⟩ := h
  obtain ⟨_, hnx, htv, hrB, hlB⟩ := pool_right hp
  have hS : Hid (opS p o = if poolB (lateS p (fileS p o).2) = true then (0, lateS p (fileS p o).2) else (5, p)) := by show _ = _; simp [opS, triedS, hf, hk, hyes]
  generalize opS p o = R at *
  have hkeep := file_keep (o := o) hp hd hso.data
  have hk9 : Hid (o.k = 5) := hk
  have hf' : Hid (opB o = true) := hf
  clear hk
  go_enter Tryz.func89, Tryz.ntmps89
  go_wp2_with fail
  refine (spec_OpOk o _ hso).mono ?_
  rintro e w1 ⟨rfl, hB1⟩
  have C : Blk w1 w.heap.size #[.int .i64 p.size, .int .i64 p.next, .slice ea en ec, .slice va vn vc, .slice ra rn rc, .slice la ln lc] 28 := (((Blk.new w _ _).alloc _).alloc _).below hB1
  have O : Blk w1 (w.heap.size + 1) #[.int .i64 o.k, .string o.vol, .string o.file, .string o.to, .string o.into, .int .i64 o.at', .int .i64 o.fr, .int .i64 o.ln, .string o.data] 102 := ((Blk.new' _ _ _ _ (by simp)).alloc _).below hB1
  have D : Blk w1 (w.heap.size + 2) #[.int .i64 0, .int .i64 0, .slice none 0 0, .slice none 0 0, .slice none 0 0, .slice none 0 0] 28 := (Blk.new' _ _ _ _ (by simp)).below hB1
  have hBw1 : Below w.heap.size w w1 := chain (by go_grown) hB1
  have hs1 : w.heap.size + 3 ≤ w1.heap.size := by have := hB1.size; simp at this; omega
  clear hB1
  rw [hf]
  obtain ⟨x0, x1, x2, x3, x4, x5⟩ := D.six'
  have f0 := D.frozen 0
  have f1 := D.frozen 1
  have f2 := D.frozen 2
  have f3 := D.frozen 3
  have f4 := D.frozen 4
  have f5 := D.frozen 5
  obtain ⟨c0, c1, c2, c3, c4, c5⟩ := C.six'
  have o0 : w1.cell? ⟨w.heap.size + 1, 0, none⟩ = some (.int .i64 5) := by rw [← hk9.out]; exact O.cell 0
  go_wp2_with fail
  refine (spec_l4Copy B0 hB0 _ p _ (hPA.below hBw1) hd).mono ?_
  rintro e wk ⟨⟨v', rfl, PT, hNn⟩, hBk⟩
  have PT0 := PT
  obtain ⟨ea', en', ec', va', vn', vc', ra', rn', rc', la', ln', lc', rows', rfl, _⟩ := PT
  have hBwk := chain hBw1 hBk
  have hsk := hBk.size
  have hBX : Below wk.heap.size wk (wk.alloc (.cells #[.int .i64 p.size, .int .i64 p.next, .slice ea' en' ec', .slice va' vn' vc', .slice ra' rn' rc', .slice la' ln' lc'] 28)) := (Below.refl _ _).alloc (Nat.le_refl _) _
  have XB := Blk.new wk #[.int .i64 p.size, .int .i64 p.next, .slice ea' en' ec', .slice va' vn' vc', .slice ra' rn' rc', .slice la' ln' lc'] 28
  have hsX : (wk.alloc (.cells #[.int .i64 p.size, .int .i64 p.next, .slice ea' en' ec', .slice va' vn' vc', .slice ra' rn' rc', .slice la' ln' lc'] 28)).heap.size = wk.heap.size + 1 := by simp
  have PX := PT0.below hBX
  have hBwX := chain hBwk hBX
  have CX := (C.below hBk).below hBX
  have DX := (D.below hBk).below hBX
  have OX := (O.below hBk).below hBX
  have ox0 : (wk.alloc (.cells #[.int .i64 p.size, .int .i64 p.next, .slice ea' en' ec', .slice va' vn' vc', .slice ra' rn' rc', .slice la' ln' lc'] 28)).cell? ⟨w.heap.size + 1, 0, none⟩ = some (.int .i64 5) := by rw [← hk9.out]; exact OX.cell 0
  clear x0 x1 x2 x3 x4 x5 f0 f1 f2 f3 f4 f5 c0 c1 c2 c3 c4 c5 o0 C D O
  obtain ⟨y0, y1, y2, y3, y4, y5⟩ := XB.six'
  have p1 := OX.cell 1
  have p2 := OX.cell 2
  have p3 := OX.cell 3
  have p4 := OX.cell 4
  have p5 := OX.cell 5
  have p6 := OX.cell 6
  have p7 := OX.cell 7
  have p8 := OX.cell 8
  simp only [lgA, lgB, lgC] at p1 p2 p3 p4 p5 p6 p7 p8
  go_wp2_with fail
  generalize wk.alloc (.cells #[.int .i64 p.size, .int .i64 p.next, .slice ea' en' ec', .slice va' vn' vc', .slice ra' rn' rc', .slice la' ln' lc'] 28) = wX at *
  have hcall := spec_l6File w1.heap.size (by omega) _ p o wX PX hNn (by omega) hd hp hf'.out (by rw [hk9.out]; simp)
  rw [hk9.out] at hcall
  refine hcall.mono ?_
  rintro e w5 ⟨⟨v2, c, rfl, _, hc, hPT5⟩, hB5, hF5⟩
  have hc0 : c = 0 := by rw [hc]; exact hyes
  clear hc hyes
  subst hc0
  obtain ⟨PT5, hl1000⟩ := hPT5 rfl
  have hWS := file_ok hp hd hso.file hso.into hl1000
  clear hl1000
  clear hPT5
  obtain ⟨q, hq⟩ : ∃ q, (fileS p o).2 = q := ⟨_, rfl⟩
  rw [hq] at PT5 hWS hkeep hS
  clear hq
  obtain ⟨hkrf, hklt, hkex⟩ := hkeep
  replace hkrf : Hid (q.rf = p.rf) := hkrf
  replace hklt : Hid (q.lt = p.lt) := hklt
  have PT5' := PT5
  obtain ⟨e2a, e2n, e2c, v2a, v2n, v2c, r2a, r2n, r2c, l2a, l2n, l2c, rows5, rfl, _⟩ := PT5
  have X5 := hF5 _ _ _ XB (by decide)
  have C5 := hF5 _ _ _ CX (by decide)
  have D5 := hF5 _ _ _ DX (by decide)
  have hBw5 : Below w.heap.size w w5 := chainC hBwX hB5 (by omega)
  have hs5 := hB5.size
  clear y0 y1 y2 y3 y4 y5 p1 p2 p3 p4 p5 p6 p7 p8 ox0
  obtain ⟨x0, x1, x2, x3, x4, x5⟩ := X5.six'
  have f0 := X5.frozen 0
  have f1 := X5.frozen 1
  have f2 := X5.frozen 2
  have f3 := X5.frozen 3
  have f4 := X5.frozen 4
  have f5 := X5.frozen 5
  obtain ⟨c0, c1, c2, c3, c4, c5⟩ := C5.six'
  have n1 : ¬ w.heap.size = wk.heap.size := by omega
  have n3 : ¬ wk.heap.size = w.heap.size := by omega
  go_wp2_with fail
  obtain ⟨X6, hg6⟩ := set6 X5 (.int .i64 q.size) (.int .i64 q.next) (.slice e2a e2n e2c) (.slice v2a v2n v2c) (.slice r2a r2n r2c) (.slice l2a l2n l2c)
  have C6 : Blk _ w.heap.size _ _ := (hg6.block _ C5.lt (by simp only [ne_eq, Option.some.injEq]; omega)).trans C5
  have D6 : Blk _ (w.heap.size + 2) _ _ := (hg6.block _ D5.lt (by simp only [ne_eq, Option.some.injEq]; omega)).trans D5
  have hBw6 := hBw5.grown hg6 hBw5.size (fun j e => by cases e; omega)
  have hs6 := hg6.size
  have PT6 := PT5'.tyP hg6 (rowTy_blk X5)
  generalize ((((((w5.setCell ⟨wk.heap.size, 0, none⟩ (.int .i64 q.size)).setCell ⟨wk.heap.size, 1, none⟩ (.int .i64 q.next)).setCell ⟨wk.heap.size, 2, none⟩ (.slice e2a e2n e2c)).setCell ⟨wk.heap.size, 3, none⟩ (.slice v2a v2n v2c)).setCell ⟨wk.heap.size, 4, none⟩ (.slice r2a r2n r2c)).setCell ⟨wk.heap.size, 5, none⟩ (.slice l2a l2n l2c)) = w6 at *
  clear x0 x1 x2 x3 x4 x5 f0 f1 f2 f3 f4 f5 X5 C5 D5 hg6 c0 c1 c2 c3 c4 c5 PT5' hF5
  refine (spec_l4WalkedW B0 va vn vc p.vs w6 (h2.below hBw6) htv.wide).mono ?_
  rintro e w7 ⟨⟨wa, wn, wc, rfl, hwn, hwb, RW⟩, hB7⟩
  have hlw : Hid ((walkL p.vs).length = wn) := RW.sl.len
  have hs7 := hB7.size
  go_wp2_with fail
  go_loopw [9] (fun ix wr => ∃ (k : Nat), k ≤ wn ∧ ix = .int .i64 k ∧ ResAt Ct.cs 4 38 wr w6.heap.size wa wn wc (negK (walkL p.vs) k) ∧ Below w6.heap.size w6 wr) (fun ix _ => wn - (intOf ix).toNat)
  case atStart => exact ⟨0, Nat.zero_le _, rfl, by rw [negK_zero]; exact RW, hB7⟩
  case round =>
    obtain ⟨k, hk, rfl, RK, hB⟩ := hrel
    by_cases hlt : k < wn
    · obtain ⟨x, hx⟩ : ∃ x, (walkL p.vs)[k]? = some x := ⟨_, List.getElem?_eq_getElem (by rw [hlw.out]; exact hlt)⟩
      have hx2 := negK_at hx
      obtain ⟨b, rfl⟩ : ∃ b, wa = some ⟨b, 0, none⟩ := by
        rcases RK.own with ⟨_, h0, _⟩ | ⟨b, h0, _⟩
        · omega
        · exact ⟨b, h0⟩
      have d3 : wr.cell? ⟨b, k * 4 + 3, none⟩ = some (.int .i64 x.n) := RK.cellAt (j := 3) hx2 rfl
      obtain ⟨bcs, VB⟩ := RK.blkAt
      have g3 := VB.frozen (k * 4 + 3)
      have hxb := hwb x (List.mem_of_getElem? hx)
      have hneg : IntKind.i64.wrap (-x.n) = -x.n := by rw [IntKind.wrap_i64]; omega
      have hbb := (RK.block _ rfl).1
      have hk1 : (k : Int) < wn := by omega
      have hk2 : (0 : Int) ≤ k := by omega
      have hset := RK.set1 ccs_len hx2 (j := 3) (v := .int .i64 (-x.n)) (x' := ⟨x.o, -x.n⟩) (by omega) rfl
      rw [negK_set hx] at hset
      have hset' : Hid (ResAt Ct.cs 4 38 (wr.setCell ⟨b, k * 4 + 3, none⟩ (.int .i64 (-x.n))) w6.heap.size (some ⟨b, 0, none⟩) wn wc (negK (walkL p.vs) (k + 1))) := hset
      clear hset hx hx2 VB
      go_wp2
      go_roundw
      case rel => exact ⟨k + 1, by omega, by go_num, hset'.out, Below.setCell hB (by simp only; exact hbb) _⟩
      case measure => simp [intOf]; omega
    · obtain rfl : k = wn := by omega
      rw [negK_all hlw.out] at RK
      have hBwr := chain hBw6 hB
      have XR := X6.below hB
      have CR := C6.below hB
      have DR := D6.below hB
      have PTR := PT6.below hB
      have hsr := hB.size
      clear RW hB7 X6 C6 D6 PT6
      obtain ⟨_, _, _, _, _, _, _, _, _, _, _, _, rowsR, hvR, R1, ⟨R2, T2⟩, R3, R4, hap⟩ := PTR
      simp only [Value.agg.injEq, Array.mk.injEq, List.cons.injEq, Value.slice.injEq, and_true, true_and] at hvR
      obtain ⟨⟨rfl, rfl, rfl⟩, ⟨rfl, rfl, rfl⟩, ⟨rfl, rfl, rfl⟩, ⟨rfl, rfl, rfl⟩⟩ := hvR
      have hqlt : Hid (q.lt.length = l2n) := R4.sl.len
      have hl2 : l2n ≤ 200 := by rw [← hqlt.out, hklt.out]; exact (late_bound hlB).1
      have y5 : wr.cell? ⟨wk.heap.size, 5, none⟩ = some (.slice l2a l2n l2c) := XR.cell 5
      have y3 : wr.cell? ⟨wk.heap.size, 3, none⟩ = some (.slice v2a v2n v2c) := XR.cell 3
      go_wp2_with fail
      have hSB : ∀ u, Below wr.heap.size wr u → (fun u => u.cell? ⟨wk.heap.size, 5, none⟩ = some (.slice l2a l2n l2c) ∧ u.cell? ⟨wk.heap.size, 3, none⟩ = some (.slice v2a v2n v2c)) u := fun u hu => ⟨bcell hu y5, bcell hu y3⟩
      have hS0 := hSB wr.drew ((Below.refl _ _).drew)
      refine wp_region_last (S := (fun u => u.cell? ⟨wk.heap.size, 5, none⟩ = some (.slice l2a l2n l2c) ∧ u.cell? ⟨wk.heap.size, 3, none⟩ = some (.slice v2a v2n v2c))) 9 (by kernel_rfl) (by kernel_rfl) ?_
      refine takeQ (i := 0) (v := ?vq2001) rfl (by kernel_rfl) (fun _ _ _ h => h) (by rfl) ?hq2001 (by assumption) ?rq2001
      case hq2001 => (intro u hu; (try dsimp only at hu); go_simp <;> with_reducible rfl)
      try simp only [Act.put, lsA, lsB, lsC]
      refine takeQ (i := 1) (v := ?vq2002) rfl (by kernel_rfl) (fun _ _ _ h => h) (by rfl) ?hq2002 (by assumption) ?rq2002
      case hq2002 => (intro u hu; (try dsimp only at hu); go_simp <;> with_reducible rfl)
      try simp only [Act.put, lsA, lsB, lsC]
      refine takeQ (i := 2) (v := ?vq2003) rfl (by kernel_rfl) (fun _ _ _ h => h) (by rfl) ?hq2003 (by assumption) ?rq2003
      case hq2003 => (intro u hu; (try dsimp only at hu); go_simp <;> with_reducible rfl)
      try simp only [Act.put, lsA, lsB, lsC]
      refine takeQ (i := 3) (v := ?vq2004) rfl (by kernel_rfl) (fun _ _ _ h => h) (by rfl) ?hq2004 (by assumption) ?rq2004
      case hq2004 => (intro u hu; (try dsimp only at hu); go_simp <;> with_reducible rfl)
      try simp only [Act.put, lsA, lsB, lsC]
      refine takeQ (i := 5) (v := ?vq2005) rfl (by kernel_rfl) (fun _ _ _ h => h) (by rfl) ?hq2005 (by assumption) ?rq2005
      case hq2005 => (intro u hu; (try dsimp only at hu); go_simp <;> with_reducible rfl)
      try simp only [Act.put, lsA, lsB, lsC]
      refine oneL (i := 4) (by kernel_rfl) rfl (fun K hK => ?_)
      go_simp
      refine (spec_l4WalkedW w1.heap.size v2a v2n v2c q.vs _ ((T2.rows.vs R2).below ((Below.refl _ _).drew)) hWS.1).mono ?_
      rintro e w8 ⟨⟨qa, qn, qc, rfl, hqn, hqb, RQ⟩, hB8'⟩
      have hB8 : Below wr.heap.size wr w8 := chain ((Below.refl _ _).drew) hB8'
      have hs8 := hB8.size
      dsimp only
      refine hK.out _ _ (hSB _ hB8) (fun hHeld => ?_)
      clear hK K
      try simp only [Act.put, lsA, lsB, lsC]
      refine oneL (i := 6) (by kernel_rfl) rfl (fun K hK => ?_)
      go_simp
      refine (spec_l3SumW qa qn qc (walkL q.vs) wa k wc (negC (walkL p.vs)) w8 RQ.sl (RQ.hd.2.2 (show 0 < wr.heap.size by omega)).2 (RQ.hd.2.2 (show 0 < wr.heap.size by omega)).1 (RK.sl.below hB8) (by omega) (by omega) (fun x hx => by have := hqb x hx; omega) (fun x hx => by have := neg_bd hwb x hx; omega)).mono ?_
      rintro e w9 ⟨⟨sa, sn, sc, rfl, hsn, RS⟩, hB9'⟩
      have hB9 : Below wr.heap.size wr w9 := chain hB8 hB9'
      have hs9 := hB9.size
      dsimp only
      refine hK.out _ _ (hSB _ hB9) (fun hHeld => ?_)
      clear hK K
      try simp only [Act.put, lsA, lsB, lsC]
      refine oneL (i := 7) (by kernel_rfl) rfl (fun K hK => ?_)
      obtain ⟨i0, hi, hz0, hz1, hz2⟩ := info_parts infoC
      refine step_app rfl (wp_appL _ _ _ rfl w1.heap.size _ i0 _ 40 hi hz0 hz1 hz2 Tryz.underlying26 rfl (by decide) ccs_len ccs_one l2a l2n l2c q.lt rfl (R4.below hB9) sa sn sc (sumC (walkL q.vs) (negC (walkL p.vs))) rfl RS.sl (RS.hd.2.2 (by omega)).2 (RS.hd.2.2 (by omega)).1 r2a r2n r2c q.rf (R3.below hB9) hap (l2n + sn) rfl (by unfold maxLen; omega) (by omega) (by omega) ?_)
      intro a10 cap10 w10 row RL RR hg10 hty hrow hap'
      have XA := (XR.below hB9).ty hg10 hty (by decide)
      have CA := (CR.below hB9).ty hg10 hty (by decide)
      have DA := (DR.below hB9).ty hg10 hty (by decide)
      have E1 := (R1.below hB9).ty hg10 hty (by decide)
      have E2 := (R2.below hB9).ty hg10 hty (by decide)
      have E3 := (T2.below hB9).ty hg10 hty (by decide) (by decide)
      have hBwA := (chain hBwr hB9).grown hg10 (chain hBwr hB9).size (fun j e => by have := hrow j e; omega)
      have hsA := hg10.size
      refine hK.out _ _ ⟨XA.cell 5, XA.cell 3⟩ (fun hHeld => ?_)
      clear hK K
      try simp only [Act.put, lsA, lsB, lsC]
      refine takeQ (i := 8) (v := ?vq2006) rfl (by kernel_rfl) (fun _ _ _ h => h) (by rfl) ?hq2006 (by assumption) ?rq2006
      case hq2006 => (intro u hu; (try dsimp only at hu); go_simp <;> with_reducible rfl)
      try simp only [Act.put, lsA, lsB, lsC]
      refine wpAnyH_done (by kernel_rfl) ?_ _
      refine lastL rfl ?_
      clear hSB hS0 hHeld y5 y3
      have hgL := gset w10 wk.heap.size 5 (.slice a10 (l2n + sn) cap10)
      have XL : Blk (w10.setCell ⟨wk.heap.size, 5, none⟩ (.slice a10 (l2n + sn) cap10)) wk.heap.size #[.int .i64 q.size, .int .i64 q.next, .slice e2a e2n e2c, .slice v2a v2n v2c, .slice r2a r2n r2c, .slice a10 (l2n + sn) cap10] 28 := by simpa using XA.set 5 (.slice a10 (l2n + sn) cap10)
      have y5 := XA.cell 5
      simp only [lgA, lgB, lgC] at y5
      have g5 := XA.frozen 5
      obtain ⟨z0, z1, z2, z3, z4, z5⟩ := XL.six'
      go_wp2_with fail
      have CL : Blk _ w.heap.size _ _ := (hgL.block _ CA.lt (by simp only [ne_eq, Option.some.injEq]; omega)).trans CA
      have DL : Blk _ (w.heap.size + 2) _ _ := (hgL.block _ DA.lt (by simp only [ne_eq, Option.some.injEq]; omega)).trans DA
      have PTL : PoolT w1.heap.size (w10.setCell ⟨wk.heap.size, 5, none⟩ (.slice a10 (l2n + sn) cap10)) (.agg #[.int .i64 q.size, .int .i64 q.next, .slice e2a e2n e2c, .slice v2a v2n v2c, .slice r2a r2n r2c, .slice a10 (l2n + sn) cap10]) (lateS p q) := ⟨_, _, _, _, _, _, _, _, _, _, _, _, rowsR, rfl, E1.ty hgL (rowTy_blk XA) (by decide), ⟨E2.ty hgL (rowTy_blk XA) (by decide), E3.ty hgL (rowTy_blk XA) (by decide) (by decide)⟩, RR.ty hgL (rowTy_blk XA) (by decide), RL.ty hgL (rowTy_blk XA) (by decide), hap'⟩
      have hdl : DimP (lateS p q) := late_dim hd hkrf.out hklt.out hkex hWS (by show (q.lt ++ sumC _ _).length ≤ _; rw [RL.sl.len]; omega)
      have hBw11 := hBwA.grown hgL hBwA.size (fun j e => by cases e; omega)
      have hs11 := hgL.size
      generalize w10.setCell ⟨wk.heap.size, 5, none⟩ (.slice a10 (l2n + sn) cap10) = w11 at *
      refine (spec_PoolOk w1.heap.size (by omega) _ (lateS p q) w11 PTL.at' hdl).mono ?_
      rintro e w12 ⟨rfl, hB12⟩
      have X12 := XL.below hB12
      have C12 := CL.below hB12
      have D12 := DL.below hB12
      have hBw12 := chain hBw11 hB12
      have hs12 := hB12.size
      have PT12 := PTL.below hB12
      clear y5 g5 z0 z1 z2 z3 z4 z5 XA CA DA E1 E2 E3 RR RL R1 R2 T2 R3 R4 XR CR DR hgL XL CL DL PTL
      cases hpk : poolB (lateS p q)
      · obtain ⟨c0, c1, c2, c3, c4, c5⟩ := C12.six'
        obtain ⟨x0, x1, x2, x3, x4, x5⟩ := D12.six'
        have f0 := D12.frozen 0
        have f1 := D12.frozen 1
        have f2 := D12.frozen 2
        have f3 := D12.frozen 3
        have f4 := D12.frozen 4
        have f5 := D12.frozen 5
        go_wp2_with fail
        refine (spec_l4Copy B0 hB0 _ p _ (hPA.below hBw12) hd).mono ?_
        rintro e wk ⟨⟨v', rfl, PT, _⟩, hBk⟩
        have PT0 := PT
        obtain ⟨ea', en', ec', va', vn', vc', ra', rn', rc', la', ln', lc', rows', rfl, _⟩ := PT
        have Dk := D12.below hBk
        have hBwk := chain hBw12 hBk
        have hsk := hBk.size
        have hsw := hBw12.size
        clear x0 x1 x2 x3 x4 x5 f0 f1 f2 f3 f4 f5
        obtain ⟨x0, x1, x2, x3, x4, x5⟩ := Dk.six'
        have f0 := Dk.frozen 0
        have f1 := Dk.frozen 1
        have f2 := Dk.frozen 2
        have f3 := Dk.frozen 3
        have f4 := Dk.frozen 4
        have f5 := Dk.frozen 5
        go_wp2
        obtain ⟨W0, hg0⟩ := set6 Dk (.int .i64 p.size) (.int .i64 p.next) (.slice ea' en' ec') (.slice va' vn' vc') (.slice ra' rn' rc') (.slice la' ln' lc')
        have PF := (PT0.tyP hg0 (rowTy_blk Dk)).mono (show w.heap.size ≤ w12.heap.size by omega)
        have B8 := hBwk.grown hg0 hBwk.size (fun j e => by cases e; omega)
        generalize ((((((wk.setCell ⟨w.heap.size + 2, 0, none⟩ (.int .i64 p.size)).setCell ⟨w.heap.size + 2, 1, none⟩ (.int .i64 p.next)).setCell ⟨w.heap.size + 2, 2, none⟩ (.slice ea' en' ec')).setCell ⟨w.heap.size + 2, 3, none⟩ (.slice va' vn' vc')).setCell ⟨w.heap.size + 2, 4, none⟩ (.slice ra' rn' rc')).setCell ⟨w.heap.size + 2, 5, none⟩ (.slice la' ln' lc')) = W8 at *
        refine bodyPost_ret (results_cell_tmp rfl _ W8 (w.heap.size + 2) _ _ _ _ _ rfl W0 Tryz.underlying28 rfl (by kernel_rfl) rfl) rfl ?_
        exact ⟨⟨_, 5, rfl, by rw [hS.out, if_neg (by rw [hpk]; simp)], by rw [hS.out, if_neg (by rw [hpk]; simp)]; exact PF, by rw [hS.out, if_neg (by rw [hpk]; simp)]; exact hd⟩, B8⟩
      · obtain ⟨y0, y1, y2, y3, y4, y5⟩ := X12.six'
        obtain ⟨x0, x1, x2, x3, x4, x5⟩ := D12.six'
        have f0 := D12.frozen 0
        have f1 := D12.frozen 1
        have f2 := D12.frozen 2
        have f3 := D12.frozen 3
        have f4 := D12.frozen 4
        have f5 := D12.frozen 5
        go_wp2
        obtain ⟨W0, hg0⟩ := set6 D12 (.int .i64 q.size) (.int .i64 q.next) (.slice e2a e2n e2c) (.slice v2a v2n v2c) (.slice r2a r2n r2c) (.slice a10 (l2n + sn) cap10)
        have PF := (PT12.tyP hg0 (rowTy_blk D12)).mono (show w.heap.size ≤ w1.heap.size by omega)
        have B8 := hBw12.grown hg0 hBw12.size (fun j e => by cases e; omega)
        generalize ((((((w12.setCell ⟨w.heap.size + 2, 0, none⟩ (.int .i64 q.size)).setCell ⟨w.heap.size + 2, 1, none⟩ (.int .i64 q.next)).setCell ⟨w.heap.size + 2, 2, none⟩ (.slice e2a e2n e2c)).setCell ⟨w.heap.size + 2, 3, none⟩ (.slice v2a v2n v2c)).setCell ⟨w.heap.size + 2, 4, none⟩ (.slice r2a r2n r2c)).setCell ⟨w.heap.size + 2, 5, none⟩ (.slice a10 (l2n + sn) cap10)) = W8 at *
        refine bodyPost_ret (results_cell_tmp rfl _ W8 (w.heap.size + 2) _ _ _ _ _ rfl W0 Tryz.underlying28 rfl (by kernel_rfl) rfl) rfl ?_
        exact ⟨⟨_, 0, rfl, by rw [hS.out, if_pos hpk], by rw [hS.out, if_pos hpk]; exact PF, by rw [hS.out, if_pos hpk]; exact hdl⟩, B8⟩
set_option maxHeartbeats 4000000 in
set_option maxRecDepth 100000 in
theorem spec_l6Done_yes10 (B0 : Nat) (hB0 : 0 < B0) (v : Value) (p : Po) (o : Opr) (w : World) (h : PoolAt B0 w v p) (hd : DimP p) (hp : poolB p = true) (hso : StrO o) (hf : opB o = true) (hk : o.k = 10) (hyes : (fileS p o).1 = 0) :
    Calls Tryz.prog 89 #[v, .agg #[.int .i64 o.k, .string o.vol, .string o.file, .string o.to, .string o.into, .int .i64 o.at', .int .i64 o.fr, .int .i64 o.ln, .string o.data]] w fun e w' => (∃ v' c, e = .returned (.tuple #[v', .int .i64 c]) ∧ c = (opS p o).1 ∧ PoolT w.heap.size w' v' (opS p o).2 ∧ DimP (opS p o).2) ∧ Below w.heap.size w w' := by
  have _ := hB0
  have _ := hp
  have hPA := h
  obtain ⟨ea, en, ec, va, vn, vc, ra, rn, rc, la, ln, lc, rfl, ⟨h1, k1⟩, ⟨h2, k2⟩, ⟨h3, k3⟩, h4, k4⟩ := h
  obtain ⟨_, hnx, htv, hrB, hlB⟩ := pool_right hp
  have hS : Hid (opS p o = if poolB (lateS p (fileS p o).2) = true then (0, lateS p (fileS p o).2) else (5, p)) := by show _ = _; simp [opS, triedS, hf, hk, hyes]
  generalize opS p o = R at *
  have hkeep := file_keep (o := o) hp hd hso.data
  have hk9 : Hid (o.k = 10) := hk
  have hf' : Hid (opB o = true) := hf
  clear hk
  go_enter Tryz.func89, Tryz.ntmps89
  go_wp2_with fail
  refine (spec_OpOk o _ hso).mono ?_
  rintro e w1 ⟨rfl, hB1⟩
  have C : Blk w1 w.heap.size #[.int .i64 p.size, .int .i64 p.next, .slice ea en ec, .slice va vn vc, .slice ra rn rc, .slice la ln lc] 28 := (((Blk.new w _ _).alloc _).alloc _).below hB1
  have O : Blk w1 (w.heap.size + 1) #[.int .i64 o.k, .string o.vol, .string o.file, .string o.to, .string o.into, .int .i64 o.at', .int .i64 o.fr, .int .i64 o.ln, .string o.data] 102 := ((Blk.new' _ _ _ _ (by simp)).alloc _).below hB1
  have D : Blk w1 (w.heap.size + 2) #[.int .i64 0, .int .i64 0, .slice none 0 0, .slice none 0 0, .slice none 0 0, .slice none 0 0] 28 := (Blk.new' _ _ _ _ (by simp)).below hB1
  have hBw1 : Below w.heap.size w w1 := chain (by go_grown) hB1
  have hs1 : w.heap.size + 3 ≤ w1.heap.size := by have := hB1.size; simp at this; omega
  clear hB1
  rw [hf]
  obtain ⟨x0, x1, x2, x3, x4, x5⟩ := D.six'
  have f0 := D.frozen 0
  have f1 := D.frozen 1
  have f2 := D.frozen 2
  have f3 := D.frozen 3
  have f4 := D.frozen 4
  have f5 := D.frozen 5
  obtain ⟨c0, c1, c2, c3, c4, c5⟩ := C.six'
  have o0 : w1.cell? ⟨w.heap.size + 1, 0, none⟩ = some (.int .i64 10) := by rw [← hk9.out]; exact O.cell 0
  go_wp2_with fail
  refine (spec_l4Copy B0 hB0 _ p _ (hPA.below hBw1) hd).mono ?_
  rintro e wk ⟨⟨v', rfl, PT, hNn⟩, hBk⟩
  have PT0 := PT
  obtain ⟨ea', en', ec', va', vn', vc', ra', rn', rc', la', ln', lc', rows', rfl, _⟩ := PT
  have hBwk := chain hBw1 hBk
  have hsk := hBk.size
  have hBX : Below wk.heap.size wk (wk.alloc (.cells #[.int .i64 p.size, .int .i64 p.next, .slice ea' en' ec', .slice va' vn' vc', .slice ra' rn' rc', .slice la' ln' lc'] 28)) := (Below.refl _ _).alloc (Nat.le_refl _) _
  have XB := Blk.new wk #[.int .i64 p.size, .int .i64 p.next, .slice ea' en' ec', .slice va' vn' vc', .slice ra' rn' rc', .slice la' ln' lc'] 28
  have hsX : (wk.alloc (.cells #[.int .i64 p.size, .int .i64 p.next, .slice ea' en' ec', .slice va' vn' vc', .slice ra' rn' rc', .slice la' ln' lc'] 28)).heap.size = wk.heap.size + 1 := by simp
  have PX := PT0.below hBX
  have hBwX := chain hBwk hBX
  have CX := (C.below hBk).below hBX
  have DX := (D.below hBk).below hBX
  have OX := (O.below hBk).below hBX
  have ox0 : (wk.alloc (.cells #[.int .i64 p.size, .int .i64 p.next, .slice ea' en' ec', .slice va' vn' vc', .slice ra' rn' rc', .slice la' ln' lc'] 28)).cell? ⟨w.heap.size + 1, 0, none⟩ = some (.int .i64 10) := by rw [← hk9.out]; exact OX.cell 0
  clear x0 x1 x2 x3 x4 x5 f0 f1 f2 f3 f4 f5 c0 c1 c2 c3 c4 c5 o0 C D O
  obtain ⟨y0, y1, y2, y3, y4, y5⟩ := XB.six'
  have p1 := OX.cell 1
  have p2 := OX.cell 2
  have p3 := OX.cell 3
  have p4 := OX.cell 4
  have p5 := OX.cell 5
  have p6 := OX.cell 6
  have p7 := OX.cell 7
  have p8 := OX.cell 8
  simp only [lgA, lgB, lgC] at p1 p2 p3 p4 p5 p6 p7 p8
  go_wp2_with fail
  generalize wk.alloc (.cells #[.int .i64 p.size, .int .i64 p.next, .slice ea' en' ec', .slice va' vn' vc', .slice ra' rn' rc', .slice la' ln' lc'] 28) = wX at *
  have hcall := spec_l6File w1.heap.size (by omega) _ p o wX PX hNn (by omega) hd hp hf'.out (by rw [hk9.out]; simp)
  rw [hk9.out] at hcall
  refine hcall.mono ?_
  rintro e w5 ⟨⟨v2, c, rfl, _, hc, hPT5⟩, hB5, hF5⟩
  have hc0 : c = 0 := by rw [hc]; exact hyes
  clear hc hyes
  subst hc0
  obtain ⟨PT5, hl1000⟩ := hPT5 rfl
  have hWS := file_ok hp hd hso.file hso.into hl1000
  clear hl1000
  clear hPT5
  obtain ⟨q, hq⟩ : ∃ q, (fileS p o).2 = q := ⟨_, rfl⟩
  rw [hq] at PT5 hWS hkeep hS
  clear hq
  obtain ⟨hkrf, hklt, hkex⟩ := hkeep
  replace hkrf : Hid (q.rf = p.rf) := hkrf
  replace hklt : Hid (q.lt = p.lt) := hklt
  have PT5' := PT5
  obtain ⟨e2a, e2n, e2c, v2a, v2n, v2c, r2a, r2n, r2c, l2a, l2n, l2c, rows5, rfl, _⟩ := PT5
  have X5 := hF5 _ _ _ XB (by decide)
  have C5 := hF5 _ _ _ CX (by decide)
  have D5 := hF5 _ _ _ DX (by decide)
  have hBw5 : Below w.heap.size w w5 := chainC hBwX hB5 (by omega)
  have hs5 := hB5.size
  clear y0 y1 y2 y3 y4 y5 p1 p2 p3 p4 p5 p6 p7 p8 ox0
  obtain ⟨x0, x1, x2, x3, x4, x5⟩ := X5.six'
  have f0 := X5.frozen 0
  have f1 := X5.frozen 1
  have f2 := X5.frozen 2
  have f3 := X5.frozen 3
  have f4 := X5.frozen 4
  have f5 := X5.frozen 5
  obtain ⟨c0, c1, c2, c3, c4, c5⟩ := C5.six'
  have n1 : ¬ w.heap.size = wk.heap.size := by omega
  have n3 : ¬ wk.heap.size = w.heap.size := by omega
  go_wp2_with fail
  obtain ⟨X6, hg6⟩ := set6 X5 (.int .i64 q.size) (.int .i64 q.next) (.slice e2a e2n e2c) (.slice v2a v2n v2c) (.slice r2a r2n r2c) (.slice l2a l2n l2c)
  have C6 : Blk _ w.heap.size _ _ := (hg6.block _ C5.lt (by simp only [ne_eq, Option.some.injEq]; omega)).trans C5
  have D6 : Blk _ (w.heap.size + 2) _ _ := (hg6.block _ D5.lt (by simp only [ne_eq, Option.some.injEq]; omega)).trans D5
  have hBw6 := hBw5.grown hg6 hBw5.size (fun j e => by cases e; omega)
  have hs6 := hg6.size
  have PT6 := PT5'.tyP hg6 (rowTy_blk X5)
  generalize ((((((w5.setCell ⟨wk.heap.size, 0, none⟩ (.int .i64 q.size)).setCell ⟨wk.heap.size, 1, none⟩ (.int .i64 q.next)).setCell ⟨wk.heap.size, 2, none⟩ (.slice e2a e2n e2c)).setCell ⟨wk.heap.size, 3, none⟩ (.slice v2a v2n v2c)).setCell ⟨wk.heap.size, 4, none⟩ (.slice r2a r2n r2c)).setCell ⟨wk.heap.size, 5, none⟩ (.slice l2a l2n l2c)) = w6 at *
  clear x0 x1 x2 x3 x4 x5 f0 f1 f2 f3 f4 f5 X5 C5 D5 hg6 c0 c1 c2 c3 c4 c5 PT5' hF5
  refine (spec_l4WalkedW B0 va vn vc p.vs w6 (h2.below hBw6) htv.wide).mono ?_
  rintro e w7 ⟨⟨wa, wn, wc, rfl, hwn, hwb, RW⟩, hB7⟩
  have hlw : Hid ((walkL p.vs).length = wn) := RW.sl.len
  have hs7 := hB7.size
  go_wp2_with fail
  go_loopw [9] (fun ix wr => ∃ (k : Nat), k ≤ wn ∧ ix = .int .i64 k ∧ ResAt Ct.cs 4 38 wr w6.heap.size wa wn wc (negK (walkL p.vs) k) ∧ Below w6.heap.size w6 wr) (fun ix _ => wn - (intOf ix).toNat)
  case atStart => exact ⟨0, Nat.zero_le _, rfl, by rw [negK_zero]; exact RW, hB7⟩
  case round =>
    obtain ⟨k, hk, rfl, RK, hB⟩ := hrel
    by_cases hlt : k < wn
    · obtain ⟨x, hx⟩ : ∃ x, (walkL p.vs)[k]? = some x := ⟨_, List.getElem?_eq_getElem (by rw [hlw.out]; exact hlt)⟩
      have hx2 := negK_at hx
      obtain ⟨b, rfl⟩ : ∃ b, wa = some ⟨b, 0, none⟩ := by
        rcases RK.own with ⟨_, h0, _⟩ | ⟨b, h0, _⟩
        · omega
        · exact ⟨b, h0⟩
      have d3 : wr.cell? ⟨b, k * 4 + 3, none⟩ = some (.int .i64 x.n) := RK.cellAt (j := 3) hx2 rfl
      obtain ⟨bcs, VB⟩ := RK.blkAt
      have g3 := VB.frozen (k * 4 + 3)
      have hxb := hwb x (List.mem_of_getElem? hx)
      have hneg : IntKind.i64.wrap (-x.n) = -x.n := by rw [IntKind.wrap_i64]; omega
      have hbb := (RK.block _ rfl).1
      have hk1 : (k : Int) < wn := by omega
      have hk2 : (0 : Int) ≤ k := by omega
      have hset := RK.set1 ccs_len hx2 (j := 3) (v := .int .i64 (-x.n)) (x' := ⟨x.o, -x.n⟩) (by omega) rfl
      rw [negK_set hx] at hset
      have hset' : Hid (ResAt Ct.cs 4 38 (wr.setCell ⟨b, k * 4 + 3, none⟩ (.int .i64 (-x.n))) w6.heap.size (some ⟨b, 0, none⟩) wn wc (negK (walkL p.vs) (k + 1))) := hset
      clear hset hx hx2 VB
      go_wp2
      go_roundw
      case rel => exact ⟨k + 1, by omega, by go_num, hset'.out, Below.setCell hB (by simp only; exact hbb) _⟩
      case measure => simp [intOf]; omega
    · obtain rfl : k = wn := by omega
      rw [negK_all hlw.out] at RK
      have hBwr := chain hBw6 hB
      have XR := X6.below hB
      have CR := C6.below hB
      have DR := D6.below hB
      have PTR := PT6.below hB
      have hsr := hB.size
      clear RW hB7 X6 C6 D6 PT6
      obtain ⟨_, _, _, _, _, _, _, _, _, _, _, _, rowsR, hvR, R1, ⟨R2, T2⟩, R3, R4, hap⟩ := PTR
      simp only [Value.agg.injEq, Array.mk.injEq, List.cons.injEq, Value.slice.injEq, and_true, true_and] at hvR
      obtain ⟨⟨rfl, rfl, rfl⟩, ⟨rfl, rfl, rfl⟩, ⟨rfl, rfl, rfl⟩, ⟨rfl, rfl, rfl⟩⟩ := hvR
      have hqlt : Hid (q.lt.length = l2n) := R4.sl.len
      have hl2 : l2n ≤ 200 := by rw [← hqlt.out, hklt.out]; exact (late_bound hlB).1
      have y5 : wr.cell? ⟨wk.heap.size, 5, none⟩ = some (.slice l2a l2n l2c) := XR.cell 5
      have y3 : wr.cell? ⟨wk.heap.size, 3, none⟩ = some (.slice v2a v2n v2c) := XR.cell 3
      go_wp2_with fail
      have hSB : ∀ u, Below wr.heap.size wr u → (fun u => u.cell? ⟨wk.heap.size, 5, none⟩ = some (.slice l2a l2n l2c) ∧ u.cell? ⟨wk.heap.size, 3, none⟩ = some (.slice v2a v2n v2c)) u := fun u hu => ⟨bcell hu y5, bcell hu y3⟩
      have hS0 := hSB wr.drew ((Below.refl _ _).drew)
      refine wp_region_last (S := (fun u => u.cell? ⟨wk.heap.size, 5, none⟩ = some (.slice l2a l2n l2c) ∧ u.cell? ⟨wk.heap.size, 3, none⟩ = some (.slice v2a v2n v2c))) 9 (by kernel_rfl) (by kernel_rfl) ?_
      refine takeQ (i := 0) (v := ?vq2007) rfl (by kernel_rfl) (fun _ _ _ h => h) (by rfl) ?hq2007 (by assumption) ?rq2007
      case hq2007 => (intro u hu; (try dsimp only at hu); go_simp <;> with_reducible rfl)
      try simp only [Act.put, lsA, lsB, lsC]
      refine takeQ (i := 1) (v := ?vq2008) rfl (by kernel_rfl) (fun _ _ _ h => h) (by rfl) ?hq2008 (by assumption) ?rq2008
      case hq2008 => (intro u hu; (try dsimp only at hu); go_simp <;> with_reducible rfl)
      try simp only [Act.put, lsA, lsB, lsC]
      refine takeQ (i := 2) (v := ?vq2009) rfl (by kernel_rfl) (fun _ _ _ h => h) (by rfl) ?hq2009 (by assumption) ?rq2009
      case hq2009 => (intro u hu; (try dsimp only at hu); go_simp <;> with_reducible rfl)
      try simp only [Act.put, lsA, lsB, lsC]
      refine takeQ (i := 3) (v := ?vq2010) rfl (by kernel_rfl) (fun _ _ _ h => h) (by rfl) ?hq2010 (by assumption) ?rq2010
      case hq2010 => (intro u hu; (try dsimp only at hu); go_simp <;> with_reducible rfl)
      try simp only [Act.put, lsA, lsB, lsC]
      refine takeQ (i := 5) (v := ?vq2011) rfl (by kernel_rfl) (fun _ _ _ h => h) (by rfl) ?hq2011 (by assumption) ?rq2011
      case hq2011 => (intro u hu; (try dsimp only at hu); go_simp <;> with_reducible rfl)
      try simp only [Act.put, lsA, lsB, lsC]
      refine oneL (i := 4) (by kernel_rfl) rfl (fun K hK => ?_)
      go_simp
      refine (spec_l4WalkedW w1.heap.size v2a v2n v2c q.vs _ ((T2.rows.vs R2).below ((Below.refl _ _).drew)) hWS.1).mono ?_
      rintro e w8 ⟨⟨qa, qn, qc, rfl, hqn, hqb, RQ⟩, hB8'⟩
      have hB8 : Below wr.heap.size wr w8 := chain ((Below.refl _ _).drew) hB8'
      have hs8 := hB8.size
      dsimp only
      refine hK.out _ _ (hSB _ hB8) (fun hHeld => ?_)
      clear hK K
      try simp only [Act.put, lsA, lsB, lsC]
      refine oneL (i := 6) (by kernel_rfl) rfl (fun K hK => ?_)
      go_simp
      refine (spec_l3SumW qa qn qc (walkL q.vs) wa k wc (negC (walkL p.vs)) w8 RQ.sl (RQ.hd.2.2 (show 0 < wr.heap.size by omega)).2 (RQ.hd.2.2 (show 0 < wr.heap.size by omega)).1 (RK.sl.below hB8) (by omega) (by omega) (fun x hx => by have := hqb x hx; omega) (fun x hx => by have := neg_bd hwb x hx; omega)).mono ?_
      rintro e w9 ⟨⟨sa, sn, sc, rfl, hsn, RS⟩, hB9'⟩
      have hB9 : Below wr.heap.size wr w9 := chain hB8 hB9'
      have hs9 := hB9.size
      dsimp only
      refine hK.out _ _ (hSB _ hB9) (fun hHeld => ?_)
      clear hK K
      try simp only [Act.put, lsA, lsB, lsC]
      refine oneL (i := 7) (by kernel_rfl) rfl (fun K hK => ?_)
      obtain ⟨i0, hi, hz0, hz1, hz2⟩ := info_parts infoC
      refine step_app rfl (wp_appL _ _ _ rfl w1.heap.size _ i0 _ 40 hi hz0 hz1 hz2 Tryz.underlying26 rfl (by decide) ccs_len ccs_one l2a l2n l2c q.lt rfl (R4.below hB9) sa sn sc (sumC (walkL q.vs) (negC (walkL p.vs))) rfl RS.sl (RS.hd.2.2 (by omega)).2 (RS.hd.2.2 (by omega)).1 r2a r2n r2c q.rf (R3.below hB9) hap (l2n + sn) rfl (by unfold maxLen; omega) (by omega) (by omega) ?_)
      intro a10 cap10 w10 row RL RR hg10 hty hrow hap'
      have XA := (XR.below hB9).ty hg10 hty (by decide)
      have CA := (CR.below hB9).ty hg10 hty (by decide)
      have DA := (DR.below hB9).ty hg10 hty (by decide)
      have E1 := (R1.below hB9).ty hg10 hty (by decide)
      have E2 := (R2.below hB9).ty hg10 hty (by decide)
      have E3 := (T2.below hB9).ty hg10 hty (by decide) (by decide)
      have hBwA := (chain hBwr hB9).grown hg10 (chain hBwr hB9).size (fun j e => by have := hrow j e; omega)
      have hsA := hg10.size
      refine hK.out _ _ ⟨XA.cell 5, XA.cell 3⟩ (fun hHeld => ?_)
      clear hK K
      try simp only [Act.put, lsA, lsB, lsC]
      refine takeQ (i := 8) (v := ?vq2012) rfl (by kernel_rfl) (fun _ _ _ h => h) (by rfl) ?hq2012 (by assumption) ?rq2012
      case hq2012 => (intro u hu; (try dsimp only at hu); go_simp <;> with_reducible rfl)
      try simp only [Act.put, lsA, lsB, lsC]
      refine wpAnyH_done (by kernel_rfl) ?_ _
      refine lastL rfl ?_
      clear hSB hS0 hHeld y5 y3
      have hgL := gset w10 wk.heap.size 5 (.slice a10 (l2n + sn) cap10)
      have XL : Blk (w10.setCell ⟨wk.heap.size, 5, none⟩ (.slice a10 (l2n + sn) cap10)) wk.heap.size #[.int .i64 q.size, .int .i64 q.next, .slice e2a e2n e2c, .slice v2a v2n v2c, .slice r2a r2n r2c, .slice a10 (l2n + sn) cap10] 28 := by simpa using XA.set 5 (.slice a10 (l2n + sn) cap10)
      have y5 := XA.cell 5
      simp only [lgA, lgB, lgC] at y5
      have g5 := XA.frozen 5
      obtain ⟨z0, z1, z2, z3, z4, z5⟩ := XL.six'
      go_wp2_with fail
      have CL : Blk _ w.heap.size _ _ := (hgL.block _ CA.lt (by simp only [ne_eq, Option.some.injEq]; omega)).trans CA
      have DL : Blk _ (w.heap.size + 2) _ _ := (hgL.block _ DA.lt (by simp only [ne_eq, Option.some.injEq]; omega)).trans DA
      have PTL : PoolT w1.heap.size (w10.setCell ⟨wk.heap.size, 5, none⟩ (.slice a10 (l2n + sn) cap10)) (.agg #[.int .i64 q.size, .int .i64 q.next, .slice e2a e2n e2c, .slice v2a v2n v2c, .slice r2a r2n r2c, .slice a10 (l2n + sn) cap10]) (lateS p q) := ⟨_, _, _, _, _, _, _, _, _, _, _, _, rowsR, rfl, E1.ty hgL (rowTy_blk XA) (by decide), ⟨E2.ty hgL (rowTy_blk XA) (by decide), E3.ty hgL (rowTy_blk XA) (by decide) (by decide)⟩, RR.ty hgL (rowTy_blk XA) (by decide), RL.ty hgL (rowTy_blk XA) (by decide), hap'⟩
      have hdl : DimP (lateS p q) := late_dim hd hkrf.out hklt.out hkex hWS (by show (q.lt ++ sumC _ _).length ≤ _; rw [RL.sl.len]; omega)
      have hBw11 := hBwA.grown hgL hBwA.size (fun j e => by cases e; omega)
      have hs11 := hgL.size
      generalize w10.setCell ⟨wk.heap.size, 5, none⟩ (.slice a10 (l2n + sn) cap10) = w11 at *
      refine (spec_PoolOk w1.heap.size (by omega) _ (lateS p q) w11 PTL.at' hdl).mono ?_
      rintro e w12 ⟨rfl, hB12⟩
      have X12 := XL.below hB12
      have C12 := CL.below hB12
      have D12 := DL.below hB12
      have hBw12 := chain hBw11 hB12
      have hs12 := hB12.size
      have PT12 := PTL.below hB12
      clear y5 g5 z0 z1 z2 z3 z4 z5 XA CA DA E1 E2 E3 RR RL R1 R2 T2 R3 R4 XR CR DR hgL XL CL DL PTL
      cases hpk : poolB (lateS p q)
      · obtain ⟨c0, c1, c2, c3, c4, c5⟩ := C12.six'
        obtain ⟨x0, x1, x2, x3, x4, x5⟩ := D12.six'
        have f0 := D12.frozen 0
        have f1 := D12.frozen 1
        have f2 := D12.frozen 2
        have f3 := D12.frozen 3
        have f4 := D12.frozen 4
        have f5 := D12.frozen 5
        go_wp2_with fail
        refine (spec_l4Copy B0 hB0 _ p _ (hPA.below hBw12) hd).mono ?_
        rintro e wk ⟨⟨v', rfl, PT, _⟩, hBk⟩
        have PT0 := PT
        obtain ⟨ea', en', ec', va', vn', vc', ra', rn', rc', la', ln', lc', rows', rfl, _⟩ := PT
        have Dk := D12.below hBk
        have hBwk := chain hBw12 hBk
        have hsk := hBk.size
        have hsw := hBw12.size
        clear x0 x1 x2 x3 x4 x5 f0 f1 f2 f3 f4 f5
        obtain ⟨x0, x1, x2, x3, x4, x5⟩ := Dk.six'
        have f0 := Dk.frozen 0
        have f1 := Dk.frozen 1
        have f2 := Dk.frozen 2
        have f3 := Dk.frozen 3
        have f4 := Dk.frozen 4
        have f5 := Dk.frozen 5
        go_wp2
        obtain ⟨W0, hg0⟩ := set6 Dk (.int .i64 p.size) (.int .i64 p.next) (.slice ea' en' ec') (.slice va' vn' vc') (.slice ra' rn' rc') (.slice la' ln' lc')
        have PF := (PT0.tyP hg0 (rowTy_blk Dk)).mono (show w.heap.size ≤ w12.heap.size by omega)
        have B8 := hBwk.grown hg0 hBwk.size (fun j e => by cases e; omega)
        generalize ((((((wk.setCell ⟨w.heap.size + 2, 0, none⟩ (.int .i64 p.size)).setCell ⟨w.heap.size + 2, 1, none⟩ (.int .i64 p.next)).setCell ⟨w.heap.size + 2, 2, none⟩ (.slice ea' en' ec')).setCell ⟨w.heap.size + 2, 3, none⟩ (.slice va' vn' vc')).setCell ⟨w.heap.size + 2, 4, none⟩ (.slice ra' rn' rc')).setCell ⟨w.heap.size + 2, 5, none⟩ (.slice la' ln' lc')) = W8 at *
        refine bodyPost_ret (results_cell_tmp rfl _ W8 (w.heap.size + 2) _ _ _ _ _ rfl W0 Tryz.underlying28 rfl (by kernel_rfl) rfl) rfl ?_
        exact ⟨⟨_, 5, rfl, by rw [hS.out, if_neg (by rw [hpk]; simp)], by rw [hS.out, if_neg (by rw [hpk]; simp)]; exact PF, by rw [hS.out, if_neg (by rw [hpk]; simp)]; exact hd⟩, B8⟩
      · obtain ⟨y0, y1, y2, y3, y4, y5⟩ := X12.six'
        obtain ⟨x0, x1, x2, x3, x4, x5⟩ := D12.six'
        have f0 := D12.frozen 0
        have f1 := D12.frozen 1
        have f2 := D12.frozen 2
        have f3 := D12.frozen 3
        have f4 := D12.frozen 4
        have f5 := D12.frozen 5
        go_wp2
        obtain ⟨W0, hg0⟩ := set6 D12 (.int .i64 q.size) (.int .i64 q.next) (.slice e2a e2n e2c) (.slice v2a v2n v2c) (.slice r2a r2n r2c) (.slice a10 (l2n + sn) cap10)
        have PF := (PT12.tyP hg0 (rowTy_blk D12)).mono (show w.heap.size ≤ w1.heap.size by omega)
        have B8 := hBw12.grown hg0 hBw12.size (fun j e => by cases e; omega)
        generalize ((((((w12.setCell ⟨w.heap.size + 2, 0, none⟩ (.int .i64 q.size)).setCell ⟨w.heap.size + 2, 1, none⟩ (.int .i64 q.next)).setCell ⟨w.heap.size + 2, 2, none⟩ (.slice e2a e2n e2c)).setCell ⟨w.heap.size + 2, 3, none⟩ (.slice v2a v2n v2c)).setCell ⟨w.heap.size + 2, 4, none⟩ (.slice r2a r2n r2c)).setCell ⟨w.heap.size + 2, 5, none⟩ (.slice a10 (l2n + sn) cap10)) = W8 at *
        refine bodyPost_ret (results_cell_tmp rfl _ W8 (w.heap.size + 2) _ _ _ _ _ rfl W0 Tryz.underlying28 rfl (by kernel_rfl) rfl) rfl ?_
        exact ⟨⟨_, 0, rfl, by rw [hS.out, if_pos hpk], by rw [hS.out, if_pos hpk]; exact PF, by rw [hS.out, if_pos hpk]; exact hdl⟩, B8⟩
end Go.Proofs.YtnjefbkhibfgmaaGreat
