/- What is drawn for the laws over pools. -/
import Derived.Test.YtnjefbkhibfgmaaGreatK16
import Derived.Test.YtnjefbkhibfgmaaGreatK42
namespace Go.Proofs.YtnjefbkhibfgmaaGreat
open Go Go.RowKit Go.BigFrame
theorem results_cell_tmp4 {P : Program} {fn : Func} {p q1 q2 q3 q4 : Tmp} {ty : TypeId} (h : fn.results = #[.cell p ty, .tmp q1, .tmp q2, .tmp q3, .tmp q4]) (tmps : Array Value) (w : World) (g : Nat) (t : TypeId) (cs : Array Value) (fr : Nat × Nat) (d : TypeDesc) (v1 v2 v3 v4 : Value)
    (hp : tmps.getD p undef = .pointer (some ⟨g, 0, none⟩)) (hg : w.heap[g]? = some (.cells cs t fr))
    (hu : P.underlying ty = some d) (hd : (match d with | .struct _ | .array _ _ => true | _ => false) = true) (hi : (P.info? ty).map (·.size) = some cs.size) (h1 : tmps.getD q1 undef = v1) (h2 : tmps.getD q2 undef = v2) (h3 : tmps.getD q3 undef = v3) (h4 : tmps.getD q4 undef = v4) :
    (results fn tmps).run P w = .ok (.tuple #[.agg cs, v1, v2, v3, v4]) w := by
  have hp' : tmps[p]?.getD undef = .pointer (some ⟨g, 0, none⟩) := by simpa using hp
  have h1' : tmps[q1]?.getD undef = v1 := by simpa using h1
  have h2' : tmps[q2]?.getD undef = v2 := by simpa using h2
  have h3' : tmps[q3]?.getD undef = v3 := by simpa using h3
  have h4' : tmps[q4]?.getD undef = v4 := by simpa using h4
  simp [results, h, hp', h1', h2', h3', h4', asAddr, run_loadVar_row w g t ty cs fr d hg hu hd hi]
theorem size_bd {p : Po} {vol file : ByteArray} (h : (sizeO p vol file).2 = true) : 0 ≤ (sizeO p vol file).1 ∧ (sizeO p vol file).1 ≤ 100 := by
  unfold sizeO at h ⊢
  split at h
  · rename_i hp
    rw [if_pos hp]
    split at h
    · cases h
    · rename_i ps hps
      have hok := (parts_right hp hps).1
      have h1 := (partsOkB_all hok).2.2
      have h2 := sumN_take_bd (partsOkB_all hok).2.1 ps.length
      rw [List.take_length] at h2
      simp only [lenB, hok, if_true]
      omega
  · cases h
set_option maxHeartbeats 4000000 in
set_option maxRecDepth 100000 in
theorem spec_DrawReadAt (a : Option Addr) (n cap : Nat) (w : World) (h : CodeAt w a n) (hn : n ≤ 1048576) :
    Calls Tryz.prog 14 #[.slice a n cap] w fun e w' => (∃ v p vol file fr tt, e = .returned (.tuple #[v, .string vol, .string file, .int .i64 fr, .int .i64 tt]) ∧ PoolT (w.heap.size + 1) w' v p ∧ DimQ p ∧ vol.size ≤ 1 ∧ file.size ≤ 1) ∧ Below w.heap.size w w' := by
  go_enter Tryz.func14, Tryz.ntmps14
  go_wp2_with fail
  have hA0 : Below w.heap.size w (w.alloc (.cells #[.int .i64 0, .int .i64 0, .slice none 0 0, .slice none 0 0, .slice none 0 0, .slice none 0 0] 28)) := by go_grown
  have D0 := Blk.new w #[.int .i64 0, .int .i64 0, .slice none 0 0, .slice none 0 0, .slice none 0 0, .slice none 0 0] 28
  have hz0 : (w.alloc (.cells #[.int .i64 0, .int .i64 0, .slice none 0 0, .slice none 0 0, .slice none 0 0, .slice none 0 0] 28)).heap.size = w.heap.size + 1 := by simp
  have h0 := h.below hA0
  generalize w.alloc (.cells #[.int .i64 0, .int .i64 0, .slice none 0 0, .slice none 0 0, .slice none 0 0, .slice none 0 0] 28) = w0 at *
  refine (spec_l1Open a n cap w0 h0 hn).mono ?_
  rintro e w1 ⟨rfl, hR1, hB1⟩
  rw [hz0] at hR1 ⊢
  have D1 := D0.below hB1
  have hC1 := chain hA0 hB1
  have hs1 := hR1.lt
  clear D0 hB1 hA0 h0 hz0 w0
  go_wp2_with fail
  refine (spec_pool (w.heap.size + 1) 14 (by omega) (by omega) _ hR1).mono ?_
  rintro e w2 ⟨⟨v, p, rfl, PT, hd⟩, hR2, hg2⟩
  have PT2 := PT.mono (show w.heap.size + 2 ≤ w1.heap.size by omega)
  obtain ⟨ea, en, ec, va, vn, vc, ra, rn, rc, la, ln, lc, rows, rfl, _⟩ := PT
  have D2 := D1.grown hg2 (by omega)
  have hC2 := below_grown hC1 hg2 (by omega)
  have hs2 := hg2.size
  clear D1 hC1 hg2 hR1
  have hAl : Below w2.heap.size w2 (w2.alloc (.cells #[.int .i64 p.size, .int .i64 p.next, .slice ea en ec, .slice va vn vc, .slice ra rn rc, .slice la ln lc] 28)) := (Below.refl _ _).alloc (Nat.le_refl _) _
  have P3 := Blk.new w2 #[.int .i64 p.size, .int .i64 p.next, .slice ea en ec, .slice va vn vc, .slice ra rn rc, .slice la ln lc] 28
  go_wp2_with fail
  have hAl2 : Below (w2.alloc (.cells #[.int .i64 p.size, .int .i64 p.next, .slice ea en ec, .slice va vn vc, .slice ra rn rc, .slice la ln lc] 28)).heap.size (w2.alloc (.cells #[.int .i64 p.size, .int .i64 p.next, .slice ea en ec, .slice va vn vc, .slice ra rn rc, .slice la ln lc] 28)) ((w2.alloc (.cells #[.int .i64 p.size, .int .i64 p.next, .slice ea en ec, .slice va vn vc, .slice ra rn rc, .slice la ln lc] 28)).alloc (.cells #[.string ⟨#[117]⟩, .string ⟨#[118]⟩, .string ⟨#[119]⟩] 9)) := (Below.refl _ _).alloc (Nat.le_refl _) _
  have hw2 : w.heap.size + 2 ≤ w2.heap.size := by omega
  refine (spec_belowN (w.heap.size + 1) 3 _ ((hR2.below hAl).below hAl2) (by omega) (by omega)).mono ?_
  rintro e w4 ⟨⟨i4, rfl, hi4⟩, hR4, hg4⟩
  have P4 := (P3.alloc _).grown hg4 (by omega)
  have D4 := ((D2.below hAl).alloc _).grown hg4 (by omega)
  have L4 := (Blk.new' (w2.alloc (.cells #[.int .i64 p.size, .int .i64 p.next, .slice ea en ec, .slice va vn vc, .slice ra rn rc, .slice la ln lc] 28)) #[.string ⟨#[117]⟩, .string ⟨#[118]⟩, .string ⟨#[119]⟩] 9 (w2.heap.size + 1) (by simp)).grown hg4 (by omega)
  have PT4 := ((PT2.below hAl).below hAl2).lowB hg4 (by omega)
  have hC4 := below_grown (chain (chain hC2 hAl) hAl2) hg4 (by omega)
  obtain ⟨vol, hvc, hvol⟩ := lit_at L4 rfl (fun v hv => by simp at hv; rcases hv with rfl | rfl | rfl <;> exact ⟨_, rfl, by decide⟩) hi4
  clear hAl hAl2 D2 hC2 hR2 PT2 P3 hg4 L4
  go_wp2_with fail
  refine (spec_belowN (w.heap.size + 1) 2 _ (hR4.below (by go_grown)) (by omega) (by omega)).mono ?_
  rintro e w5 ⟨⟨i5, rfl, hi5⟩, hR5, hg5⟩
  have P5 := (P4.alloc _).grown hg5 (by omega)
  have D5 := (D4.alloc _).grown hg5 (by omega)
  have PT5 := (PT4.below (by go_grown)).lowB hg5 (by omega)
  have hC5 := below_grown (chain hC4 (by go_grown)) hg5 (by omega)
  have L5 := (Blk.new w4 #[.string ⟨#[97]⟩, .string ⟨#[98]⟩] 9).grown hg5 (by have := hR4.lt; omega)
  obtain ⟨file, hfc, hfile⟩ := lit_at L5 rfl (fun v hv => by simp at hv; rcases hv with rfl | rfl <;> exact ⟨_, rfl, by decide⟩) hi5
  clear L5 hg5 P4 D4 PT4 hC4 hR4 hvc
  obtain ⟨x0, x1, x2, x3, x4, x5⟩ := P5.six'
  go_wp2_with fail
  refine (spec_SizeOf (w.heap.size + 2) (by omega) _ p vol file _ PT5.at' hd.1).mono ?_
  rintro e w6 ⟨rfl, hB6⟩
  have P6 := P5.below hB6
  have D6 := D5.below hB6
  have PT6 := PT5.below hB6
  have hC6 := chain hC5 hB6
  have hR6 := hR5.below hB6
  clear x0 x1 x2 x3 x4 x5 P5 D5 PT5 hC5 hR5 hB6 hfc hi4 hi5
  have hbd := size_bd (p := p) (vol := vol) (file := file)
  cases hok : (sizeO p vol file).2
  · obtain ⟨x0, x1, x2, x3, x4, x5⟩ := P6.six'
    have f0 := P6.frozen 0
    have f1 := P6.frozen 1
    have f2 := P6.frozen 2
    have f3 := P6.frozen 3
    have f4 := P6.frozen 4
    have f5 := P6.frozen 5
    go_wp2_with fail
    have hS0 : (fun u => u.cell? ⟨w2.heap.size, 0, none⟩ = some (.int .i64 p.size) ∧ u.cell? ⟨w2.heap.size, 1, none⟩ = some (.int .i64 p.next) ∧ u.cell? ⟨w2.heap.size, 2, none⟩ = some (.slice ea en ec) ∧ u.cell? ⟨w2.heap.size, 3, none⟩ = some (.slice va vn vc) ∧ u.cell? ⟨w2.heap.size, 4, none⟩ = some (.slice ra rn rc) ∧ u.cell? ⟨w2.heap.size, 5, none⟩ = some (.slice la ln lc)) w6.drew := ⟨x0, x1, x2, x3, x4, x5⟩
    refine wp_region_heldN (S := (fun u => u.cell? ⟨w2.heap.size, 0, none⟩ = some (.int .i64 p.size) ∧ u.cell? ⟨w2.heap.size, 1, none⟩ = some (.int .i64 p.next) ∧ u.cell? ⟨w2.heap.size, 2, none⟩ = some (.slice ea en ec) ∧ u.cell? ⟨w2.heap.size, 3, none⟩ = some (.slice va vn vc) ∧ u.cell? ⟨w2.heap.size, 4, none⟩ = some (.slice ra rn rc) ∧ u.cell? ⟨w2.heap.size, 5, none⟩ = some (.slice la ln lc))) 12 (by kernel_rfl) rfl ?_
    refine takeQ (i := 0) (v := ?vq6001) rfl (by kernel_rfl) (fun _ _ _ h => h) (by rfl) ?hq6001 (by assumption) ?rq6001
    case hq6001 => (intro u hu; (try dsimp only at hu); go_simp <;> with_reducible rfl)
    try simp only [Act.put, lsA, lsB, lsC]
    refine takeQ (i := 1) (v := ?vq6002) rfl (by kernel_rfl) (fun _ _ _ h => h) (by rfl) ?hq6002 (by assumption) ?rq6002
    case hq6002 => (intro u hu; (try dsimp only at hu); go_simp <;> with_reducible rfl)
    try simp only [Act.put, lsA, lsB, lsC]
    refine takeQ (i := 2) (v := ?vq6003) rfl (by kernel_rfl) (fun _ _ _ h => h) (by rfl) ?hq6003 (by assumption) ?rq6003
    case hq6003 => (intro u hu; (try dsimp only at hu); go_simp <;> with_reducible rfl)
    try simp only [Act.put, lsA, lsB, lsC]
    refine takeQ (i := 3) (v := ?vq6004) rfl (by kernel_rfl) (fun _ _ _ h => h) (by rfl) ?hq6004 (by assumption) ?rq6004
    case hq6004 => (intro u hu; (try dsimp only at hu); go_simp <;> with_reducible rfl)
    try simp only [Act.put, lsA, lsB, lsC]
    refine takeQ (i := 5) (v := ?vq6005) rfl (by kernel_rfl) (fun _ _ _ h => h) (by rfl) ?hq6005 (by assumption) ?rq6005
    case hq6005 => (intro u hu; (try dsimp only at hu); go_simp <;> with_reducible rfl)
    try simp only [Act.put, lsA, lsB, lsC]
    refine oneL (i := 4) (by kernel_rfl) rfl (fun K hK => ?_)
    go_simp
    refine (spec_off (w.heap.size + 1) 0 5 _ (hR6.below ((Below.refl _ _).drew)) (by omega) (by omega) (by omega)).mono ?_
    rintro e wa ⟨⟨va1, rfl, _⟩, hRa, hga'⟩
    have hga := grown_trans (grown_below (grown_refl w6 (w.heap.size + 1)) ((Below.refl _ _).drew)) hga'
    have Pa := (P6).grown hga (by omega)
    have Da := (D6).grown hga (by omega)
    have PTa := (PT6).lowB hga (by omega)
    have hCa := below_grown hC6 hga (by omega)
    dsimp only
    refine hK.out _ _ (Pa.six') (fun hHeld => ?_)
    clear hK K
    try simp only [Act.put, lsA, lsB, lsC]
    refine oneL (i := 6) (by kernel_rfl) rfl (fun K hK => ?_)
    go_simp
    refine (spec_off (w.heap.size + 1) 0 20 _ hRa (by omega) (by omega) (by omega)).mono ?_
    rintro e wb ⟨⟨vb1, rfl, _⟩, hRb, hgb⟩
    have Pb := (Pa).grown hgb (by omega)
    have Db := (Da).grown hgb (by omega)
    have PTb := (PTa).lowB hgb (by omega)
    have hCb := below_grown hCa hgb (by omega)
    dsimp only
    refine hK.out _ _ (Pb.six') (fun hHeld => ?_)
    clear hK K
    try simp only [Act.put, lsA, lsB, lsC]
    clear x0 x1 x2 x3 x4 x5 f0 f1 f2 f3 f4 f5
    obtain ⟨x0, x1, x2, x3, x4, x5⟩ := Db.six'
    have f0 := Db.frozen 0
    have f1 := Db.frozen 1
    have f2 := Db.frozen 2
    have f3 := Db.frozen 3
    have f4 := Db.frozen 4
    have f5 := Db.frozen 5
    obtain ⟨y0, y1, y2, y3, y4, y5⟩ := Pb.six'
    refine oneL (i := 7) (by kernel_rfl) rfl (fun K hK => ?_)
    go_simp
    obtain ⟨W0, hg0⟩ := set6 Db (.int .i64 p.size) (.int .i64 p.next) (.slice ea en ec) (.slice va vn vc) (.slice ra rn rc) (.slice la ln lc)
    have PP := Pb.grown hg0 (by omega)
    refine hK.out _ _ (PP.six') (fun hHeld => ?_)
    clear hK K
    try simp only [Act.put, lsA, lsB, lsC]
    refine takeQ (i := 8) (v := ?vq6006) rfl (by kernel_rfl) (fun _ _ _ h => h) (by rfl) ?hq6006 (by assumption) ?rq6006
    case hq6006 => (intro u hu; (try dsimp only at hu); go_simp <;> with_reducible rfl)
    try simp only [Act.put, lsA, lsB, lsC]
    refine takeQ (i := 9) (v := ?vq6007) rfl (by kernel_rfl) (fun _ _ _ h => h) (by rfl) ?hq6007 (by assumption) ?rq6007
    case hq6007 => (intro u hu; (try dsimp only at hu); go_simp <;> with_reducible rfl)
    try simp only [Act.put, lsA, lsB, lsC]
    refine takeQ (i := 10) (v := ?vq6008) rfl (by kernel_rfl) (fun _ _ _ h => h) (by rfl) ?hq6008 (by assumption) ?rq6008
    case hq6008 => (intro u hu; (try dsimp only at hu); go_simp <;> with_reducible rfl)
    try simp only [Act.put, lsA, lsB, lsC]
    refine takeQ (i := 11) (v := ?vq6009) rfl (by kernel_rfl) (fun _ _ _ h => h) (by rfl) ?hq6009 (by assumption) ?rq6009
    case hq6009 => (intro u hu; (try dsimp only at hu); go_simp <;> with_reducible rfl)
    try simp only [Act.put, lsA, lsB, lsC]
    refine wpAnyH_done (by kernel_rfl) ?_ _
    clear hHeld hS0
    have PF := (PTb.tyP hg0 (rowTy_blk Db)).mono (show w.heap.size + 1 ≤ w.heap.size + 2 by omega)
    have hCW := below_grown hCb hg0 (Nat.le_refl _)
    generalize ((((((wb.setCell ⟨w.heap.size, 0, none⟩ (.int .i64 p.size)).setCell ⟨w.heap.size, 1, none⟩ (.int .i64 p.next)).setCell ⟨w.heap.size, 2, none⟩ (.slice ea en ec)).setCell ⟨w.heap.size, 3, none⟩ (.slice va vn vc)).setCell ⟨w.heap.size, 4, none⟩ (.slice ra rn rc)).setCell ⟨w.heap.size, 5, none⟩ (.slice la ln lc)) = W8 at *
    go_wp2
    refine bodyPost_ret (results_cell_tmp4 rfl _ W8 w.heap.size _ _ _ _ _ _ _ _ rfl W0 Tryz.underlying28 rfl (by kernel_rfl) rfl rfl rfl rfl) rfl ?_
    exact ⟨⟨_, p, vol, file, va1, vb1, rfl, PF, hd, hvol, hfile⟩, hCW⟩
  · obtain ⟨hb0, hb1⟩ := hbd hok
    obtain ⟨sz, hsz⟩ : ∃ sz, (sizeO p vol file).1 = sz := ⟨_, rfl⟩
    rw [hsz] at hb0 hb1 ⊢
    clear hsz hbd
    go_wp2_with fail
    refine (spec_once (w.heap.size + 1) 8 _ hR6 (by omega) (by omega)).mono ?_
    rintro e w7 ⟨⟨b7, rfl⟩, hR7, hg7⟩
    have P7 := (P6).grown hg7 (by omega)
    have D7 := (D6).grown hg7 (by omega)
    have PT7 := (PT6).lowB hg7 (by omega)
    have hC7 := below_grown hC6 hg7 (by omega)
    clear P6 D6 PT6 hC6 hR6 hg7
    cases b7
    · go_wp2_with fail
      refine (spec_belowN (w.heap.size + 1) (sz + 1) _ hR7 (by omega) (by omega)).mono ?_
      rintro e w8 ⟨⟨fr, rfl, hfr⟩, hR8, hg8⟩
      have P8 := (P7).grown hg8 (by omega)
      have D8 := (D7).grown hg8 (by omega)
      have PT8 := (PT7).lowB hg8 (by omega)
      have hC8 := below_grown hC7 hg8 (by omega)
      clear P7 D7 PT7 hC7 hR7 hg8
      have hw9 : IntKind.i64.wrap (sz - (fr : Int)) = sz - (fr : Int) := by rw [IntKind.wrap_i64]; omega
      have hw10 : IntKind.i64.wrap (sz - (fr : Int) + 1) = sz - (fr : Int) + 1 := by rw [IntKind.wrap_i64]; omega
      obtain ⟨x0, x1, x2, x3, x4, x5⟩ := P8.six'
      have f0 := P8.frozen 0
      have f1 := P8.frozen 1
      have f2 := P8.frozen 2
      have f3 := P8.frozen 3
      have f4 := P8.frozen 4
      have f5 := P8.frozen 5
      go_wp2_with fail
      have hS0 : (fun u => u.cell? ⟨w2.heap.size, 0, none⟩ = some (.int .i64 p.size) ∧ u.cell? ⟨w2.heap.size, 1, none⟩ = some (.int .i64 p.next) ∧ u.cell? ⟨w2.heap.size, 2, none⟩ = some (.slice ea en ec) ∧ u.cell? ⟨w2.heap.size, 3, none⟩ = some (.slice va vn vc) ∧ u.cell? ⟨w2.heap.size, 4, none⟩ = some (.slice ra rn rc) ∧ u.cell? ⟨w2.heap.size, 5, none⟩ = some (.slice la ln lc)) w8.drew := ⟨x0, x1, x2, x3, x4, x5⟩
      refine wp_region_heldN (S := (fun u => u.cell? ⟨w2.heap.size, 0, none⟩ = some (.int .i64 p.size) ∧ u.cell? ⟨w2.heap.size, 1, none⟩ = some (.int .i64 p.next) ∧ u.cell? ⟨w2.heap.size, 2, none⟩ = some (.slice ea en ec) ∧ u.cell? ⟨w2.heap.size, 3, none⟩ = some (.slice va vn vc) ∧ u.cell? ⟨w2.heap.size, 4, none⟩ = some (.slice ra rn rc) ∧ u.cell? ⟨w2.heap.size, 5, none⟩ = some (.slice la ln lc))) 17 (by kernel_rfl) rfl ?_
      refine takeQ (i := 0) (v := ?vq6010) rfl (by kernel_rfl) (fun _ _ _ h => h) (by rfl) ?hq6010 (by assumption) ?rq6010
      case hq6010 => (intro u hu; (try dsimp only at hu); go_simp <;> with_reducible rfl)
      try simp only [Act.put, lsA, lsB, lsC]
      refine takeQ (i := 1) (v := ?vq6011) rfl (by kernel_rfl) (fun _ _ _ h => h) (by rfl) ?hq6011 (by assumption) ?rq6011
      case hq6011 => (intro u hu; (try dsimp only at hu); go_simp <;> with_reducible rfl)
      try simp only [Act.put, lsA, lsB, lsC]
      refine takeQ (i := 2) (v := ?vq6012) rfl (by kernel_rfl) (fun _ _ _ h => h) (by rfl) ?hq6012 (by assumption) ?rq6012
      case hq6012 => (intro u hu; (try dsimp only at hu); go_simp <;> with_reducible rfl)
      try simp only [Act.put, lsA, lsB, lsC]
      refine takeQ (i := 3) (v := ?vq6013) rfl (by kernel_rfl) (fun _ _ _ h => h) (by rfl) ?hq6013 (by assumption) ?rq6013
      case hq6013 => (intro u hu; (try dsimp only at hu); go_simp <;> with_reducible rfl)
      try simp only [Act.put, lsA, lsB, lsC]
      refine takeQ (i := 4) (v := ?vq6014) rfl (by kernel_rfl) (fun _ _ _ h => h) (by rfl) ?hq6014 (by assumption) ?rq6014
      case hq6014 => (intro u hu; (try dsimp only at hu); go_simp <;> with_reducible rfl)
      try simp only [Act.put, lsA, lsB, lsC]
      refine takeQ (i := 5) (v := ?vq6015) rfl (by kernel_rfl) (fun _ _ _ h => h) (by rfl) ?hq6015 (by assumption) ?rq6015
      case hq6015 => (intro u hu; (try dsimp only at hu); go_simp <;> with_reducible rfl)
      try simp only [Act.put, lsA, lsB, lsC]
      refine takeQ (i := 6) (v := ?vq6016) rfl (by kernel_rfl) (fun _ _ _ h => h) (by rfl) ?hq6016 (by assumption) ?rq6016
      case hq6016 => (intro u hu; (try dsimp only at hu); go_simp <;> with_reducible rfl)
      try simp only [Act.put, lsA, lsB, lsC]
      refine takeQ (i := 7) (v := ?vq6017) rfl (by kernel_rfl) (fun _ _ _ h => h) (by rfl) ?hq6017 (by assumption) ?rq6017
      case hq6017 => (intro u hu; (try dsimp only at hu); go_simp <;> with_reducible rfl)
      try simp only [Act.put, lsA, lsB, lsC]
      refine takeQ (i := 8) (v := ?vq6018) rfl (by kernel_rfl) (fun _ _ _ h => h) (by rfl) ?hq6018 (by assumption) ?rq6018
      case hq6018 => (intro u hu; (try dsimp only at hu); go_simp <;> with_reducible rfl)
      try simp only [Act.put, lsA, lsB, lsC]
      refine takeQ (i := 9) (v := ?vq6019) rfl (by kernel_rfl) (fun _ _ _ h => h) (by rfl) ?hq6019 (by assumption) ?rq6019
      case hq6019 => (intro u hu; (try dsimp only at hu); go_simp <;> with_reducible rfl)
      try simp only [Act.put, lsA, lsB, lsC]
      refine oneL (i := 10) (by kernel_rfl) rfl (fun K hK => ?_)
      go_simp
      refine (spec_belowN (w.heap.size + 1) (sz - (fr : Int) + 1) _ (hR8.below ((Below.refl _ _).drew)) (by omega) (by omega)).mono ?_
      rintro e wa ⟨⟨va1, rfl, hva⟩, hRa, hga'⟩
      have hga := grown_trans (grown_below (grown_refl w8 (w.heap.size + 1)) ((Below.refl _ _).drew)) hga'
      have Pa := (P8).grown hga (by omega)
      have Da := (D8).grown hga (by omega)
      have PTa := (PT8).lowB hga (by omega)
      have hCa := below_grown hC8 hga (by omega)
      dsimp only
      refine hK.out _ _ (Pa.six') (fun hHeld => ?_)
      clear hK K
      try simp only [Act.put, lsA, lsB, lsC]
      refine takeQ (i := 11) (v := ?vq6020) rfl (by kernel_rfl) (fun _ _ _ h => h) (by rfl) ?hq6020 (by assumption) ?rq6020
      case hq6020 => (intro u hu; (try dsimp only at hu); go_simp <;> with_reducible rfl)
      try simp only [Act.put, lsA, lsB, lsC]
      clear x0 x1 x2 x3 x4 x5 f0 f1 f2 f3 f4 f5
      obtain ⟨x0, x1, x2, x3, x4, x5⟩ := Da.six'
      have f0 := Da.frozen 0
      have f1 := Da.frozen 1
      have f2 := Da.frozen 2
      have f3 := Da.frozen 3
      have f4 := Da.frozen 4
      have f5 := Da.frozen 5
      obtain ⟨y0, y1, y2, y3, y4, y5⟩ := Pa.six'
      refine oneL (i := 12) (by kernel_rfl) rfl (fun K hK => ?_)
      go_simp
      obtain ⟨W0, hg0⟩ := set6 Da (.int .i64 p.size) (.int .i64 p.next) (.slice ea en ec) (.slice va vn vc) (.slice ra rn rc) (.slice la ln lc)
      have PP := Pa.grown hg0 (by omega)
      refine hK.out _ _ (PP.six') (fun hHeld => ?_)
      clear hK K
      try simp only [Act.put, lsA, lsB, lsC]
      refine takeQ (i := 13) (v := ?vq6021) rfl (by kernel_rfl) (fun _ _ _ h => h) (by rfl) ?hq6021 (by assumption) ?rq6021
      case hq6021 => (intro u hu; (try dsimp only at hu); go_simp <;> with_reducible rfl)
      try simp only [Act.put, lsA, lsB, lsC]
      refine takeQ (i := 14) (v := ?vq6022) rfl (by kernel_rfl) (fun _ _ _ h => h) (by rfl) ?hq6022 (by assumption) ?rq6022
      case hq6022 => (intro u hu; (try dsimp only at hu); go_simp <;> with_reducible rfl)
      try simp only [Act.put, lsA, lsB, lsC]
      refine takeQ (i := 15) (v := ?vq6023) rfl (by kernel_rfl) (fun _ _ _ h => h) (by rfl) ?hq6023 (by assumption) ?rq6023
      case hq6023 => (intro u hu; (try dsimp only at hu); go_simp <;> with_reducible rfl)
      try simp only [Act.put, lsA, lsB, lsC]
      refine takeQ (i := 16) (v := ?vq6024) rfl (by kernel_rfl) (fun _ _ _ h => h) (by rfl) ?hq6024 (by assumption) ?rq6024
      case hq6024 => (intro u hu; (try dsimp only at hu); go_simp <;> with_reducible rfl)
      try simp only [Act.put, lsA, lsB, lsC]
      refine wpAnyH_done (by kernel_rfl) ?_ _
      clear hHeld hS0
      have PF := (PTa.tyP hg0 (rowTy_blk Da)).mono (show w.heap.size + 1 ≤ w.heap.size + 2 by omega)
      have hCW := below_grown hCa hg0 (Nat.le_refl _)
      generalize ((((((wa.setCell ⟨w.heap.size, 0, none⟩ (.int .i64 p.size)).setCell ⟨w.heap.size, 1, none⟩ (.int .i64 p.next)).setCell ⟨w.heap.size, 2, none⟩ (.slice ea en ec)).setCell ⟨w.heap.size, 3, none⟩ (.slice va vn vc)).setCell ⟨w.heap.size, 4, none⟩ (.slice ra rn rc)).setCell ⟨w.heap.size, 5, none⟩ (.slice la ln lc)) = W8 at *
      go_wp2
      refine bodyPost_ret (results_cell_tmp4 rfl _ W8 w.heap.size _ _ _ _ _ _ _ _ rfl W0 Tryz.underlying28 rfl (by kernel_rfl) rfl rfl rfl rfl) rfl ?_
      exact ⟨⟨_, p, vol, file, (fr : Int), IntKind.i64.wrap ((fr : Int) + va1), rfl, PF, hd, hvol, hfile⟩, hCW⟩
    · obtain ⟨x0, x1, x2, x3, x4, x5⟩ := P7.six'
      have f0 := P7.frozen 0
      have f1 := P7.frozen 1
      have f2 := P7.frozen 2
      have f3 := P7.frozen 3
      have f4 := P7.frozen 4
      have f5 := P7.frozen 5
      go_wp2_with fail
      have hS0 : (fun u => u.cell? ⟨w2.heap.size, 0, none⟩ = some (.int .i64 p.size) ∧ u.cell? ⟨w2.heap.size, 1, none⟩ = some (.int .i64 p.next) ∧ u.cell? ⟨w2.heap.size, 2, none⟩ = some (.slice ea en ec) ∧ u.cell? ⟨w2.heap.size, 3, none⟩ = some (.slice va vn vc) ∧ u.cell? ⟨w2.heap.size, 4, none⟩ = some (.slice ra rn rc) ∧ u.cell? ⟨w2.heap.size, 5, none⟩ = some (.slice la ln lc)) w7.drew := ⟨x0, x1, x2, x3, x4, x5⟩
      refine wp_region_heldN (S := (fun u => u.cell? ⟨w2.heap.size, 0, none⟩ = some (.int .i64 p.size) ∧ u.cell? ⟨w2.heap.size, 1, none⟩ = some (.int .i64 p.next) ∧ u.cell? ⟨w2.heap.size, 2, none⟩ = some (.slice ea en ec) ∧ u.cell? ⟨w2.heap.size, 3, none⟩ = some (.slice va vn vc) ∧ u.cell? ⟨w2.heap.size, 4, none⟩ = some (.slice ra rn rc) ∧ u.cell? ⟨w2.heap.size, 5, none⟩ = some (.slice la ln lc))) 12 (by kernel_rfl) rfl ?_
      refine takeQ (i := 0) (v := ?vq6025) rfl (by kernel_rfl) (fun _ _ _ h => h) (by rfl) ?hq6025 (by assumption) ?rq6025
      case hq6025 => (intro u hu; (try dsimp only at hu); go_simp <;> with_reducible rfl)
      try simp only [Act.put, lsA, lsB, lsC]
      refine takeQ (i := 1) (v := ?vq6026) rfl (by kernel_rfl) (fun _ _ _ h => h) (by rfl) ?hq6026 (by assumption) ?rq6026
      case hq6026 => (intro u hu; (try dsimp only at hu); go_simp <;> with_reducible rfl)
      try simp only [Act.put, lsA, lsB, lsC]
      refine takeQ (i := 2) (v := ?vq6027) rfl (by kernel_rfl) (fun _ _ _ h => h) (by rfl) ?hq6027 (by assumption) ?rq6027
      case hq6027 => (intro u hu; (try dsimp only at hu); go_simp <;> with_reducible rfl)
      try simp only [Act.put, lsA, lsB, lsC]
      refine takeQ (i := 3) (v := ?vq6028) rfl (by kernel_rfl) (fun _ _ _ h => h) (by rfl) ?hq6028 (by assumption) ?rq6028
      case hq6028 => (intro u hu; (try dsimp only at hu); go_simp <;> with_reducible rfl)
      try simp only [Act.put, lsA, lsB, lsC]
      refine takeQ (i := 5) (v := ?vq6029) rfl (by kernel_rfl) (fun _ _ _ h => h) (by rfl) ?hq6029 (by assumption) ?rq6029
      case hq6029 => (intro u hu; (try dsimp only at hu); go_simp <;> with_reducible rfl)
      try simp only [Act.put, lsA, lsB, lsC]
      refine oneL (i := 4) (by kernel_rfl) rfl (fun K hK => ?_)
      go_simp
      refine (spec_off (w.heap.size + 1) 0 5 _ (hR7.below ((Below.refl _ _).drew)) (by omega) (by omega) (by omega)).mono ?_
      rintro e wa ⟨⟨va1, rfl, _⟩, hRa, hga'⟩
      have hga := grown_trans (grown_below (grown_refl w7 (w.heap.size + 1)) ((Below.refl _ _).drew)) hga'
      have Pa := (P7).grown hga (by omega)
      have Da := (D7).grown hga (by omega)
      have PTa := (PT7).lowB hga (by omega)
      have hCa := below_grown hC7 hga (by omega)
      dsimp only
      refine hK.out _ _ (Pa.six') (fun hHeld => ?_)
      clear hK K
      try simp only [Act.put, lsA, lsB, lsC]
      refine oneL (i := 6) (by kernel_rfl) rfl (fun K hK => ?_)
      go_simp
      refine (spec_off (w.heap.size + 1) 0 20 _ hRa (by omega) (by omega) (by omega)).mono ?_
      rintro e wb ⟨⟨vb1, rfl, _⟩, hRb, hgb⟩
      have Pb := (Pa).grown hgb (by omega)
      have Db := (Da).grown hgb (by omega)
      have PTb := (PTa).lowB hgb (by omega)
      have hCb := below_grown hCa hgb (by omega)
      dsimp only
      refine hK.out _ _ (Pb.six') (fun hHeld => ?_)
      clear hK K
      try simp only [Act.put, lsA, lsB, lsC]
      clear x0 x1 x2 x3 x4 x5 f0 f1 f2 f3 f4 f5
      obtain ⟨x0, x1, x2, x3, x4, x5⟩ := Db.six'
      have f0 := Db.frozen 0
      have f1 := Db.frozen 1
      have f2 := Db.frozen 2
      have f3 := Db.frozen 3
      have f4 := Db.frozen 4
      have f5 := Db.frozen 5
      obtain ⟨y0, y1, y2, y3, y4, y5⟩ := Pb.six'
      refine oneL (i := 7) (by kernel_rfl) rfl (fun K hK => ?_)
      go_simp
      obtain ⟨W0, hg0⟩ := set6 Db (.int .i64 p.size) (.int .i64 p.next) (.slice ea en ec) (.slice va vn vc) (.slice ra rn rc) (.slice la ln lc)
      have PP := Pb.grown hg0 (by omega)
      refine hK.out _ _ (PP.six') (fun hHeld => ?_)
      clear hK K
      try simp only [Act.put, lsA, lsB, lsC]
      refine takeQ (i := 8) (v := ?vq6030) rfl (by kernel_rfl) (fun _ _ _ h => h) (by rfl) ?hq6030 (by assumption) ?rq6030
      case hq6030 => (intro u hu; (try dsimp only at hu); go_simp <;> with_reducible rfl)
      try simp only [Act.put, lsA, lsB, lsC]
      refine takeQ (i := 9) (v := ?vq6031) rfl (by kernel_rfl) (fun _ _ _ h => h) (by rfl) ?hq6031 (by assumption) ?rq6031
      case hq6031 => (intro u hu; (try dsimp only at hu); go_simp <;> with_reducible rfl)
      try simp only [Act.put, lsA, lsB, lsC]
      refine takeQ (i := 10) (v := ?vq6032) rfl (by kernel_rfl) (fun _ _ _ h => h) (by rfl) ?hq6032 (by assumption) ?rq6032
      case hq6032 => (intro u hu; (try dsimp only at hu); go_simp <;> with_reducible rfl)
      try simp only [Act.put, lsA, lsB, lsC]
      refine takeQ (i := 11) (v := ?vq6033) rfl (by kernel_rfl) (fun _ _ _ h => h) (by rfl) ?hq6033 (by assumption) ?rq6033
      case hq6033 => (intro u hu; (try dsimp only at hu); go_simp <;> with_reducible rfl)
      try simp only [Act.put, lsA, lsB, lsC]
      refine wpAnyH_done (by kernel_rfl) ?_ _
      clear hHeld hS0
      have PF := (PTb.tyP hg0 (rowTy_blk Db)).mono (show w.heap.size + 1 ≤ w.heap.size + 2 by omega)
      have hCW := below_grown hCb hg0 (Nat.le_refl _)
      generalize ((((((wb.setCell ⟨w.heap.size, 0, none⟩ (.int .i64 p.size)).setCell ⟨w.heap.size, 1, none⟩ (.int .i64 p.next)).setCell ⟨w.heap.size, 2, none⟩ (.slice ea en ec)).setCell ⟨w.heap.size, 3, none⟩ (.slice va vn vc)).setCell ⟨w.heap.size, 4, none⟩ (.slice ra rn rc)).setCell ⟨w.heap.size, 5, none⟩ (.slice la ln lc)) = W8 at *
      go_wp2
      refine bodyPost_ret (results_cell_tmp4 rfl _ W8 w.heap.size _ _ _ _ _ _ _ _ rfl W0 Tryz.underlying28 rfl (by kernel_rfl) rfl rfl rfl rfl) rfl ?_
      exact ⟨⟨_, p, vol, file, va1, vb1, rfl, PF, hd, hvol, hfile⟩, hCW⟩
end Go.Proofs.YtnjefbkhibfgmaaGreat
