/- What is late is counted, and what nobody names is free: by the model. -/
import Derived.Test.YtnjefbkhibfgmaaGreatProg
import Derived.Test.YtnjefbkhibfgmaaGreatLDAskedx13
import Derived.Test.YtnjefbkhibfgmaaGreatLDAskedx17
import Derived.Test.YtnjefbkhibfgmaaGreatLDAskedx09
import Derived.Test.YtnjefbkhibfgmaaGreatLDAskedx11
import Derived.Deep.DeepCutAuto
import Derived.Test.YtnjefbkhibfgmaaGreatLDAskedx16
namespace Go.Proofs.YtnjefbkhibfgmaaGreat
open Go.RowKit Go.BigFrame
theorem filter_snoc {α : Type} {f : α → Bool} {l : List α} {k : Nat} {x : α} (h : l[k]? = some x) : (l.take (k + 1)).filter f = (l.take k).filter f ++ (if f x = true then [x] else []) := by
  rw [take_at h, List.filter_append]
  cases hf : f x <;> simp [hf]
set_option maxHeartbeats 4000000 in
set_option maxRecDepth 100000 in
theorem spec_l6Flush (B : Nat) (v : Value) (p : Po) (w : World) (h : PoolT B w v p) (hBw : B ≤ w.heap.size) (hex : p.ex.length ≤ 4194304) (hrn : p.rf.length ≤ 100000) (hln : p.lt.length ≤ 100000) (hb : ∀ x ∈ p.rf, -100000000 ≤ x.n ∧ x.n ≤ 100000000) (hb' : ∀ x ∈ p.lt, -100000000 ≤ x.n ∧ x.n ≤ 100000000) :
    Calls Tryz.prog 107 #[v] w fun e w' => (∃ v', e = .returned v' ∧ PoolT B w' v' (flushS p)) ∧ Below w.heap.size w w' := by
  obtain ⟨ea, en, ec, va, vn, vc, ra, rn, rc, la, ln, lc, rows, rfl, h1, ⟨h2, h3⟩, h4, h5, h6⟩ := h
  obtain ⟨size, next, ex, vs, rf, lt⟩ := p
  simp only at h1 h2 h3 h4 h5 hex hrn hln hb hb' ⊢
  rw [h1.sl.len] at hex
  rw [h4.sl.len] at hrn
  rw [h5.sl.len] at hln
  go_enter Tryz.func107, Tryz.ntmps107
  go_wp2_with fail
  refine (spec_l3SumW ra rn rc rf la ln lc lt _ (h4.sl.below (by go_grown)) h4.arg.spot h4.arg.nil (h5.sl.below (by go_grown)) hrn hln hb hb').mono ?_
  rintro e w1 ⟨⟨sa, sn, sc, rfl, hsn, RS⟩, hB1⟩
  have C : Blk w1 w.heap.size #[.int .i64 size, .int .i64 next, .slice ea en ec, .slice va vn vc, .slice ra rn rc, .slice la ln lc] 28 := ((Blk.new w _ _).alloc _).below hB1
  have D : Blk w1 (w.heap.size + 1) #[.int .i64 0, .int .i64 0, .slice none 0 0, .slice none 0 0, .slice none 0 0, .slice none 0 0] 28 := (Blk.new' _ _ _ _ (by simp)).below hB1
  have hBw1 : Below w.heap.size w w1 := chain (by go_grown) hB1
  have hs1 : w.heap.size + 2 ≤ w1.heap.size := by have := hB1.size; simp at this; omega
  replace RS := RS.mono (B' := w.heap.size + 2) (by simp)
  clear hB1
  obtain ⟨c0, c1, c2, c3, c4, c5⟩ := C.six'
  have f4 := C.frozen 4
  have C1 : Blk (w1.setCell ⟨w.heap.size, 4, none⟩ (.slice sa sn sc)) w.heap.size #[.int .i64 size, .int .i64 next, .slice ea en ec, .slice va vn vc, .slice sa sn sc, .slice la ln lc] 28 := by simpa using C.set 4 (.slice sa sn sc)
  have hg1 := gset w1 w.heap.size 4 (.slice sa sn sc)
  have e5 := C1.cell 5
  have f5 := C1.frozen 5
  have C2 : Blk ((w1.setCell ⟨w.heap.size, 4, none⟩ (.slice sa sn sc)).setCell ⟨w.heap.size, 5, none⟩ (.slice none 0 0)) w.heap.size #[.int .i64 size, .int .i64 next, .slice ea en ec, .slice va vn vc, .slice sa sn sc, .slice none 0 0] 28 := by simpa using C1.set 5 (.slice none 0 0)
  have hg2 : w1.grownBy ((w1.setCell ⟨w.heap.size, 4, none⟩ (.slice sa sn sc)).setCell ⟨w.heap.size, 5, none⟩ (.slice none 0 0)) (some w.heap.size) := grown_set hg1 5 (.slice none 0 0)
  have D2 : Blk _ (w.heap.size + 1) _ _ := (hg2.block _ D.lt (by simp only [ne_eq, Option.some.injEq]; omega)).trans D
  have RS2 := RS.ty hg2 (rowTy_blk C) (by decide)
  have hB2 := hBw1.grown hg2 hBw1.size (fun j e => by cases e; exact Nat.le_refl _)
  have hs2 := hg2.size
  have hsW : ((w1.setCell ⟨w.heap.size, 4, none⟩ (.slice sa sn sc)).setCell ⟨w.heap.size, 5, none⟩ (.slice none 0 0)).heap.size = w1.heap.size := by simp
  go_wp2_with fail
  generalize (w1.setCell ⟨w.heap.size, 4, none⟩ (.slice sa sn sc)).setCell ⟨w.heap.size, 5, none⟩ (.slice none 0 0) = W at *
  clear c0 c1 c2 c3 c4 c5 f4 e5 f5 C1 hg1 hg2 C D RS hBw1
  have hlen : Hid (ex.length = en) := h1.sl.len
  have hsn' : sn ≤ 4194304 := by omega
  have hF : ∀ e : Ex, ((sumC rf lt) ++ []).any (fun c => c.o.a == e.a) = (sumC rf lt).any (fun c => c.o.a == e.a) := fun e => by rw [List.append_nil]
  go_loopw [3, 4] (fun lst ix wr => ∃ (k : Nat) (a2 : Option Addr) (n2 cap2 : Nat), k ≤ en ∧ ix = .int .i64 k ∧ lst = .slice a2 n2 cap2 ∧ n2 ≤ k ∧ ResAt Ex.cs 2 72 wr (w.heap.size + 2) a2 n2 cap2 ((ex.take k).filter (fun e => (sumC rf lt).any (fun c => c.o.a == e.a))) ∧ Blk wr w.heap.size #[.int .i64 size, .int .i64 next, .slice ea en ec, .slice va vn vc, .slice sa sn sc, .slice none 0 0] 28 ∧ Blk wr (w.heap.size + 1) #[.int .i64 0, .int .i64 0, .slice none 0 0, .slice none 0 0, .slice none 0 0, .slice none 0 0] 28 ∧ ResAt Ct.cs 4 38 wr (w.heap.size + 2) sa sn sc (sumC rf lt) ∧ w.heap.size + 2 ≤ wr.heap.size ∧ Below w.heap.size w wr) (fun _ ix _ => en - (intOf ix).toNat)
  case atStart => exact ⟨0, _, 0, 0, Nat.zero_le _, rfl, rfl, Nat.le_refl _, (by rw [List.take_zero]; exact res_empty (Blk.new' _ _ _ _ hsW.symm) (by omega)), C2.alloc _, D2.alloc _, RS2.alloc _, by simp; omega, hB2.alloc hB2.size _⟩
  case round =>
    clear C2 D2 RS2 hB2 hs2 hs1
    obtain ⟨k, a2, n2, cap2, hk, rfl, rfl, hn2, R2, C, D, RS, hsz, hB⟩ := hrel
    obtain ⟨d0, d1, d2, d3, d4, d5⟩ := C.six'
    by_cases hlt : k < en
    · obtain ⟨b, o, x, rfl, hx, c0, c1⟩ := exs_at (h1.sl.below hB) hlt
      have hst : Hid ((ex.take (k + 1)).filter (fun e => (sumC rf lt).any (fun c => c.o.a == e.a)) = (ex.take k).filter (fun e => (sumC rf lt).any (fun c => c.o.a == e.a)) ++ (if (sumC rf lt).any (fun c => c.o.a == x.a) = true then [x] else [])) := filter_snoc hx
      have hbw : b < w.heap.size + 2 := by
        obtain ⟨b', o', _, hbo, _, g0, _⟩ := exs_at h1.sl hlt
        obtain ⟨rfl, rfl⟩ : b = b' ∧ o = o' := by simpa using hbo
        have := World.block_lt_of_cell? w _ g0
        simp only at this
        omega
      clear hx
      generalize (ex.take k).filter (fun e => (sumC rf lt).any (fun c => c.o.a == e.a)) = FL at *
      have hk1 : (k : Int) < en := by omega
      have hk2 : (0 : Int) ≤ k := by omega
      have hheld := fun (u : World) (hu : Below wr.heap.size wr u) => spec_l4Held size next (some ⟨b, o, none⟩) en ec va vn vc sa sn sc none 0 0 (sumC rf lt) [] x.a u (RS.sl.below hu) ⟨rfl, fun i y hy => by simp at hy⟩ hsn' (by omega)
      have g0 := gcell d0
      have g1 := gcell d1
      have g2 := gcell d2
      have g3 := gcell d3
      have g4 := gcell d4
      have g5 := gcell d5
      have gx := gcell c0
      have hne := grw_ne wr
      rw [hF] at hheld
      cases hany : (sumC rf lt).any (fun c => c.o.a == x.a)
      · rw [hany] at hst hheld
        simp only [Bool.false_eq_true, if_false, List.append_nil] at hst
        go_wp2_with fail
        refine wp_region_grow (by kernel_rfl) (by kernel_rfl) ?_
        repeat (go_big_quiet_step (first | (go_at_call 40; exact grow_of (hheld _ (Grw.h _)))))
        refine wpQuiet_nil ?_
        intro w6 hx6
        have hg6 := grw_out hx6
        have hs6 := hg6.size
        clear hx6 g0 g1 g2 g3 g4 g5 gx hne hany hheld
        go_wp2
        go_roundw
        case rel => exact ⟨k + 1, a2, n2, cap2, by omega, by go_num, rfl, by omega, by rw [hst.out]; exact R2.below hg6, C.below hg6, D.below hg6, RS.below hg6, by omega, chain hB hg6⟩
        case measure => simp [intOf]; omega
      · rw [hany] at hst hheld
        simp only [if_true] at hst
        go_wp2_with fail
        refine wp_region_grow (by kernel_rfl) (by kernel_rfl) ?_
        repeat (go_big_quiet_step (first | (go_at_call 40; exact grow_of (hheld _ (Grw.h _)))))
        refine wpQuiet_nil ?_
        intro w6 hx6
        have hg6 := grw_out hx6
        have hs6 := hg6.size
        have R6 := R2.below hg6
        have C6 := C.below hg6
        have D6 := D.below hg6
        have RS6 := RS.below hg6
        have hB6 := chain hB hg6
        have m2 : w6.cell? ⟨w.heap.size, 2, none⟩ = some (.slice (some ⟨b, o, none⟩) en ec) := C6.cell 2
        have x0 := bcell hg6 c0
        have x1 := bcell hg6 c1
        clear hx6 g0 g1 g2 g3 g4 g5 gx hne hany hheld
        go_wp2_with (at_builtin; refine wpList_app rfl (fun K hK => wp_appE _ _ rfl (w.heap.size + 2) a2 n2 cap2 FL rfl (R6.alloc _) _ 1 1 [x] rfl (sl_newE' _ x _ _ (by simp)) (fun ad h => (by cases h; rfl)) (fun h => (by cases h)) (n2 + 1) rfl (by omega) (by simp; omega) (fun a7 cap7 w7 R7 hg7 _ => hK _ _ ?_)); have hge7 : ∀ j, Value.ownBlock (.slice a2 n2 cap2) = some j → w.heap.size + 2 ≤ j := own_ge fun ad had => (R6.block ad had).1; have ht7 := (R6.alloc (.cells #[.int .i64 x.a, .string x.d] 72)).rowTy (m := n2) (k := cap2); have hs7 := hg7.size; have C7 := (C6.alloc (.cells #[.int .i64 x.a, .string x.d] 72)).offB hg7 hge7 (by omega); have D7 := (D6.alloc (.cells #[.int .i64 x.a, .string x.d] 72)).offB hg7 hge7 (by omega); have RS7 := (RS6.alloc (.cells #[.int .i64 x.a, .string x.d] 72)).ty hg7 ht7 (by decide); have hB7 := Below.grown (hB6.alloc hB6.size (.cells #[.int .i64 x.a, .string x.d] 72)) hg7 (by simp; omega) (fun j e => by have := hge7 j e; omega))
        go_roundw
        case rel => exact ⟨k + 1, a7, n2 + 1, cap7, by omega, by go_num, rfl, by omega, by rw [hst.out]; exact R7, C7, D7, RS7, by simp at hs7; omega, hB7⟩
        case measure => simp [intOf]; omega
    · obtain rfl : k = en := by omega
      have f2 := C.frozen 2
      have C1 : Blk (wr.setCell ⟨w.heap.size, 2, none⟩ (.slice a2 n2 cap2)) w.heap.size #[.int .i64 size, .int .i64 next, .slice a2 n2 cap2, .slice va vn vc, .slice sa sn sc, .slice none 0 0] 28 := by simpa using C.set 2 (.slice a2 n2 cap2)
      have hg1 := gset wr w.heap.size 2 (.slice a2 n2 cap2)
      have D1 : Blk (wr.setCell ⟨w.heap.size, 2, none⟩ (.slice a2 n2 cap2)) (w.heap.size + 1) _ _ := (hg1.block _ D.lt (by simp only [ne_eq, Option.some.injEq]; omega)).trans D
      obtain ⟨y0, y1, y2, y3, y4, y5⟩ := C1.six'
      obtain ⟨x0, x1, x2, x3, x4, x5⟩ := D1.six'
      have f0 := D1.frozen 0
      have f1 := D1.frozen 1
      have q2 := D1.frozen 2
      have f3 := D1.frozen 3
      have f4 := D1.frozen 4
      have f5 := D1.frozen 5
      obtain ⟨W0, hg0⟩ := set6 D1 (.int .i64 size) (.int .i64 next) (.slice a2 n2 cap2) (.slice va vn vc) (.slice sa sn sc) (.slice none 0 0)
      have R8 := (R2.ty hg1 (rowTy_blk C) (by decide)).ty hg0 (rowTy_blk D1) (by decide)
      have S8 := (RS.ty hg1 (rowTy_blk C) (by decide)).ty hg0 (rowTy_blk D1) (by decide)
      have V8 := ((h2.below hB).ty hg1 (rowTy_blk C) (by decide)).ty hg0 (rowTy_blk D1) (by decide)
      have T8 := ((h3.below hB).ty hg1 (rowTy_blk C) (by decide) (by decide)).ty hg0 (rowTy_blk D1) (by decide) (by decide)
      have B8 := (hB.grown hg1 hB.size (fun j e => by cases e; exact Nat.le_refl _)).grown hg0 (by have := hg1.size; have := hB.size; omega) (fun j e => by cases e; omega)
      rw [List.take_of_length_le (Nat.le_of_eq hlen.out)] at R8
      clear C1 D1 hg1 hg0
      go_wp2
      generalize ((((((wr.setCell ⟨w.heap.size, 2, none⟩ (.slice a2 n2 cap2)).setCell ⟨w.heap.size + 1, 0, none⟩ (.int .i64 size)).setCell ⟨w.heap.size + 1, 1, none⟩ (.int .i64 next)).setCell ⟨w.heap.size + 1, 2, none⟩ (.slice a2 n2 cap2)).setCell ⟨w.heap.size + 1, 3, none⟩ (.slice va vn vc)).setCell ⟨w.heap.size + 1, 4, none⟩ (.slice sa sn sc)).setCell ⟨w.heap.size + 1, 5, none⟩ (.slice none 0 0) = W8 at *
      refine bodyPost_ret (results_cell_row rfl _ W8 (w.heap.size + 1) _ _ _ _ rfl W0 Tryz.underlying28 rfl (by kernel_rfl)) rfl ?_
      exact ⟨⟨_, rfl, a2, n2, cap2, va, vn, vc, sa, sn, sc, none, 0, 0, rows, rfl, R8.mono (by omega), ⟨V8, T8⟩, S8.mono (by omega), res_nil, fun p q _ e => by cases e⟩, B8⟩
end Go.Proofs.YtnjefbkhibfgmaaGreat
namespace Go.Proofs.YtnjefbkhibfgmaaGreat
open Go.RowKit Go.BigFrame
set_option maxHeartbeats 4000000 in
set_option maxRecDepth 100000 in
theorem spec_OpOk0 (k : Int) (vol file tt into : ByteArray) (at' fr ln : Int) (data : ByteArray) (w : World) (hk : ¬ (1 ≤ k ∧ k ≤ 10)) :
    Calls Tryz.prog 105 #[.agg #[.int .i64 k, .string vol, .string file, .string tt, .string into, .int .i64 at', .int .i64 fr, .int .i64 ln, .string data]] w fun e w' => e = .returned (.bool (opB ⟨k, vol, file, tt, into, at', fr, ln, data⟩)) ∧ Below w.heap.size w w' := by
  have hfin : Hid (opB ⟨k, vol, file, tt, into, at', fr, ln, data⟩ = (false)) := by
    show _ = _
    unfold opB
    dsimp only
    repeat (rw [if_neg (by omega)])
  generalize opB ⟨k, vol, file, tt, into, at', fr, ln, data⟩ = R at *
  go_enter Tryz.func105, Tryz.ntmps105
  go_upto_region 1 with fail
  go_cut [3] (fun s wc => s = .bool (at' == 0 && (fr == 0 && (ln == 0 && zB data))) ∧ wc = w.alloc (.cells #[.int .i64 k, .string vol, .string file, .string tt, .string into, .int .i64 at', .int .i64 fr, .int .i64 ln, .string data] 102))
  case first =>
    cases h1 : (at' == 0)
    case false =>
      go_wp2
      go_meet
      exact ⟨by rw [h1]; rfl, rfl⟩
    cases h2 : (fr == 0)
    case false =>
      go_wp2
      go_meet
      exact ⟨by rw [h1, h2]; rfl, rfl⟩
    cases h3 : (ln == 0)
    case false =>
      go_wp2
      go_meet
      exact ⟨by rw [h1, h2, h3]; rfl, rfl⟩
    go_wp2
    go_meet
    exact ⟨by rw [h1, h2, h3]; simp [zB], rfl⟩
  case rest =>
    obtain ⟨rfl, rfl⟩ := hcut
    go_upto_region 2 with fail
    go_cut [4] (fun s wc => s = .bool (zB tt && zB into) ∧ wc = w.alloc (.cells #[.int .i64 k, .string vol, .string file, .string tt, .string into, .int .i64 at', .int .i64 fr, .int .i64 ln, .string data] 102))
    case first =>
      go_wp2
      all_goals go_meet
      all_goals (refine ⟨?_, rfl⟩; simp_all [zB])
    case rest =>
      obtain ⟨rfl, rfl⟩ := hcut
      generalize hB : (at' == 0 && (fr == 0 && (ln == 0 && zB data))) = B
      generalize hT : (zB tt && zB into) = T
      go_wp2_with fail
      refine (spec_l1In at' 0 100 _).mono ?_
      rintro e w1 ⟨rfl, rfl⟩
      go_wp2_with fail
      refine (spec_l1In ln 1 100 _).mono ?_
      rintro e w1 ⟨rfl, rfl⟩
      have k1 : (k == 1) = false := by simp; omega
      have k2 : (k == 2) = false := by simp; omega
      have k3 : (k == 3) = false := by simp; omega
      have k4 : (k == 4) = false := by simp; omega
      have k5 : (k == 5) = false := by simp; omega
      have k6 : (k == 6) = false := by simp; omega
      have k7 : (k == 7) = false := by simp; omega
      have k8 : (k == 8) = false := by simp; omega
      have k9 : (k == 9) = false := by simp; omega
      have k10 : (k == 10) = false := by simp; omega
      go_wp2
      go_returns
      go_light
      exact ⟨ret_bool hfin.out.symm, by go_grown⟩
end Go.Proofs.YtnjefbkhibfgmaaGreat
namespace Go.Proofs.YtnjefbkhibfgmaaGreat
open Go.RowKit Go.BigFrame
set_option maxHeartbeats 4000000 in
set_option maxRecDepth 100000 in
theorem spec_OpOk1 (vol file tt into : ByteArray) (at' fr ln : Int) (data : ByteArray) (w : World) (hs : StrO ⟨1, vol, file, tt, into, at', fr, ln, data⟩) :
    Calls Tryz.prog 105 #[.agg #[.int .i64 1, .string vol, .string file, .string tt, .string into, .int .i64 at', .int .i64 fr, .int .i64 ln, .string data]] w fun e w' => e = .returned (.bool (opB ⟨1, vol, file, tt, into, at', fr, ln, data⟩)) ∧ Below w.heap.size w w' := by
  have hv := hs.vol
  have hf := hs.file
  have ht := hs.to
  have hi := hs.into
  have hd := hs.data
  dsimp only at hv hf ht hi hd
  clear hs
  have hfin : Hid (opB ⟨1, vol, file, tt, into, at', fr, ln, data⟩ = (nameB vol && (zB file && ((zB tt && zB into) && (at' == 0 && (fr == 0 && (ln == 0 && zB data))))))) := by
    show _ = _
    simp [opB, Bool.and_assoc]
  generalize opB ⟨1, vol, file, tt, into, at', fr, ln, data⟩ = R at *
  go_enter Tryz.func105, Tryz.ntmps105
  go_upto_region 1 with fail
  go_cut [3] (fun s wc => s = .bool (at' == 0 && (fr == 0 && (ln == 0 && zB data))) ∧ wc = w.alloc (.cells #[.int .i64 1, .string vol, .string file, .string tt, .string into, .int .i64 at', .int .i64 fr, .int .i64 ln, .string data] 102))
  case first =>
    cases h1 : (at' == 0)
    case false =>
      go_wp2
      go_meet
      exact ⟨by rw [h1]; rfl, rfl⟩
    cases h2 : (fr == 0)
    case false =>
      go_wp2
      go_meet
      exact ⟨by rw [h1, h2]; rfl, rfl⟩
    cases h3 : (ln == 0)
    case false =>
      go_wp2
      go_meet
      exact ⟨by rw [h1, h2, h3]; rfl, rfl⟩
    go_wp2
    go_meet
    exact ⟨by rw [h1, h2, h3]; simp [zB], rfl⟩
  case rest =>
    obtain ⟨rfl, rfl⟩ := hcut
    go_upto_region 2 with fail
    go_cut [4] (fun s wc => s = .bool (zB tt && zB into) ∧ wc = w.alloc (.cells #[.int .i64 1, .string vol, .string file, .string tt, .string into, .int .i64 at', .int .i64 fr, .int .i64 ln, .string data] 102))
    case first =>
      go_wp2
      all_goals go_meet
      all_goals (refine ⟨?_, rfl⟩; simp_all [zB])
    case rest =>
      obtain ⟨rfl, rfl⟩ := hcut
      generalize hB : (at' == 0 && (fr == 0 && (ln == 0 && zB data))) = B at *
      generalize hT : (zB tt && zB into) = T at *
      go_wp2_with fail
      refine (spec_l1In at' 0 100 _).mono ?_
      rintro e w1 ⟨rfl, rfl⟩
      generalize hC1 : (decide (0 ≤ at') && decide (at' ≤ 100)) = C1
      go_wp2_with fail
      refine (spec_l1In ln 1 100 _).mono ?_
      rintro e w1 ⟨rfl, rfl⟩
      generalize hC2 : (decide (1 ≤ ln) && decide (ln ≤ 100)) = C2
      go_wp2_with fail
      refine (spec_NameOk vol _ hv).mono ?_
      rintro e w1 ⟨rfl, rfl⟩
      cases h_vol : nameB vol
      case false =>
        go_wp2
        all_goals go_returns
        all_goals go_light
        all_goals refine ⟨ret_bool ?_, by go_grown⟩
        all_goals rw [hfin.out]
        all_goals simp_all [zB]
      go_wp2
      all_goals go_returns
      all_goals go_light
      all_goals refine ⟨ret_bool ?_, by go_grown⟩
      all_goals rw [hfin.out]
      all_goals simp_all [zB]
end Go.Proofs.YtnjefbkhibfgmaaGreat
namespace Go.Proofs.YtnjefbkhibfgmaaGreat
open Go.RowKit Go.BigFrame
theorem zB_size (d : ByteArray) : decide (1 ≤ d.size) = !zB d := by
  obtain ⟨⟨l⟩⟩ := d
  cases l <;> simp [zB, ByteArray.size, ByteArray.toList_eq]
set_option maxHeartbeats 4000000 in
set_option maxRecDepth 100000 in
theorem spec_OpOk2 (vol file tt into : ByteArray) (at' fr ln : Int) (data : ByteArray) (w : World) (hs : StrO ⟨2, vol, file, tt, into, at', fr, ln, data⟩) :
    Calls Tryz.prog 105 #[.agg #[.int .i64 2, .string vol, .string file, .string tt, .string into, .int .i64 at', .int .i64 fr, .int .i64 ln, .string data]] w fun e w' => e = .returned (.bool (opB ⟨2, vol, file, tt, into, at', fr, ln, data⟩)) ∧ Below w.heap.size w w' := by
  have hv := hs.vol
  have hf := hs.file
  have ht := hs.to
  have hi := hs.into
  have hd := hs.data
  dsimp only at hv hf ht hi hd
  clear hs
  have hfin : Hid (opB ⟨2, vol, file, tt, into, at', fr, ln, data⟩ = (nameB vol && (nameB file && ((zB tt && zB into) && ((decide (0 ≤ at') && decide (at' ≤ 100)) && (fr == 0 && (ln == 0 && (!zB data && (plainB data && decide (data.size ≤ 20)))))))))) := by
    show _ = _
    simp [opB, dataOkB, zB_size, inB, Bool.and_assoc, Bool.and_comm, Bool.and_left_comm]
  generalize opB ⟨2, vol, file, tt, into, at', fr, ln, data⟩ = R at *
  go_enter Tryz.func105, Tryz.ntmps105
  go_upto_region 1 with fail
  go_cut [3] (fun s wc => s = .bool (at' == 0 && (fr == 0 && (ln == 0 && zB data))) ∧ wc = w.alloc (.cells #[.int .i64 2, .string vol, .string file, .string tt, .string into, .int .i64 at', .int .i64 fr, .int .i64 ln, .string data] 102))
  case first =>
    cases h1 : (at' == 0)
    case false =>
      go_wp2
      go_meet
      exact ⟨by rw [h1]; rfl, rfl⟩
    cases h2 : (fr == 0)
    case false =>
      go_wp2
      go_meet
      exact ⟨by rw [h1, h2]; rfl, rfl⟩
    cases h3 : (ln == 0)
    case false =>
      go_wp2
      go_meet
      exact ⟨by rw [h1, h2, h3]; rfl, rfl⟩
    go_wp2
    go_meet
    exact ⟨by rw [h1, h2, h3]; simp [zB], rfl⟩
  case rest =>
    obtain ⟨rfl, rfl⟩ := hcut
    go_upto_region 2 with fail
    go_cut [4] (fun s wc => s = .bool (zB tt && zB into) ∧ wc = w.alloc (.cells #[.int .i64 2, .string vol, .string file, .string tt, .string into, .int .i64 at', .int .i64 fr, .int .i64 ln, .string data] 102))
    case first =>
      go_wp2
      all_goals go_meet
      all_goals (refine ⟨?_, rfl⟩; simp_all [zB])
    case rest =>
      obtain ⟨rfl, rfl⟩ := hcut
      generalize hB : (at' == 0 && (fr == 0 && (ln == 0 && zB data))) = B
      generalize hT : (zB tt && zB into) = T at *
      go_wp2_with fail
      refine (spec_l1In at' 0 100 _).mono ?_
      rintro e w1 ⟨rfl, rfl⟩
      generalize hC1 : (decide (0 ≤ at') && decide (at' ≤ 100)) = C1 at *
      go_wp2_with fail
      refine (spec_l1In ln 1 100 _).mono ?_
      rintro e w1 ⟨rfl, rfl⟩
      generalize hC2 : (decide (1 ≤ ln) && decide (ln ≤ 100)) = C2
      go_wp2_with fail
      refine (spec_NameOk vol _ hv).mono ?_
      rintro e w1 ⟨rfl, rfl⟩
      cases h_vol : nameB vol
      case false =>
        go_wp2
        all_goals go_returns
        all_goals go_light
        all_goals refine ⟨ret_bool ?_, by go_grown⟩
        all_goals rw [hfin.out]
        all_goals simp_all [zB]
      go_wp2_with fail
      refine (spec_NameOk file _ hf).mono ?_
      rintro e w1 ⟨rfl, rfl⟩
      cases h_file : nameB file
      case false =>
        go_wp2
        all_goals go_returns
        all_goals go_light
        all_goals refine ⟨ret_bool ?_, by go_grown⟩
        all_goals rw [hfin.out]
        all_goals simp_all [zB]
      cases T
      case false =>
        go_wp2
        all_goals go_returns
        all_goals go_light
        all_goals refine ⟨ret_bool ?_, by go_grown⟩
        all_goals rw [hfin.out]
        all_goals simp_all [zB]
      cases C1
      case false =>
        go_wp2
        all_goals go_returns
        all_goals go_light
        all_goals refine ⟨ret_bool ?_, by go_grown⟩
        all_goals rw [hfin.out]
        all_goals simp_all [zB]
      cases zfr : (fr == 0)
      case false =>
        go_wp2
        all_goals go_returns
        all_goals go_light
        all_goals refine ⟨ret_bool ?_, by go_grown⟩
        all_goals rw [hfin.out]
        all_goals simp_all [zB]
      cases zln : (ln == 0)
      case false =>
        go_wp2
        all_goals go_returns
        all_goals go_light
        all_goals refine ⟨ret_bool ?_, by go_grown⟩
        all_goals rw [hfin.out]
        all_goals simp_all [zB]
      by_cases hz : data.toList = []
      case pos =>
        go_wp2
        all_goals go_returns
        all_goals go_light
        all_goals refine ⟨ret_bool ?_, by go_grown⟩
        all_goals rw [hfin.out]
        all_goals simp_all [zB]
      go_wp2_with fail
      refine (spec_l1Plain data _ hd).mono ?_
      rintro e w1 ⟨rfl, rfl⟩
      go_wp2
      all_goals go_returns
      all_goals go_light
      all_goals refine ⟨ret_bool ?_, by go_grown⟩
      all_goals rw [hfin.out]
      all_goals simp_all [zB]
end Go.Proofs.YtnjefbkhibfgmaaGreat
namespace Go.Proofs.YtnjefbkhibfgmaaGreat
open Go.RowKit Go.BigFrame
set_option maxHeartbeats 4000000 in
set_option maxRecDepth 100000 in
theorem spec_OpOk3 (vol file tt into : ByteArray) (at' fr ln : Int) (data : ByteArray) (w : World) (hs : StrO ⟨3, vol, file, tt, into, at', fr, ln, data⟩) :
    Calls Tryz.prog 105 #[.agg #[.int .i64 3, .string vol, .string file, .string tt, .string into, .int .i64 at', .int .i64 fr, .int .i64 ln, .string data]] w fun e w' => e = .returned (.bool (opB ⟨3, vol, file, tt, into, at', fr, ln, data⟩)) ∧ Below w.heap.size w w' := by
  have hv := hs.vol
  have hf := hs.file
  have ht := hs.to
  have hi := hs.into
  have hd := hs.data
  dsimp only at hv hf ht hi hd
  clear hs
  have hfin : Hid (opB ⟨3, vol, file, tt, into, at', fr, ln, data⟩ = (nameB vol && (nameB file && ((zB tt && zB into) && (at' == 0 && (fr == 0 && ((decide (0 ≤ ln) && decide (ln ≤ 100)) && zB data))))))) := by
    show _ = _
    simp [opB, inB, Bool.and_assoc, Bool.and_comm, Bool.and_left_comm]
  generalize opB ⟨3, vol, file, tt, into, at', fr, ln, data⟩ = R at *
  go_enter Tryz.func105, Tryz.ntmps105
  go_upto_region 1 with fail
  go_cut [3] (fun s wc => s = .bool (at' == 0 && (fr == 0 && (ln == 0 && zB data))) ∧ wc = w.alloc (.cells #[.int .i64 3, .string vol, .string file, .string tt, .string into, .int .i64 at', .int .i64 fr, .int .i64 ln, .string data] 102))
  case first =>
    cases h1 : (at' == 0)
    case false =>
      go_wp2
      go_meet
      exact ⟨by rw [h1]; rfl, rfl⟩
    cases h2 : (fr == 0)
    case false =>
      go_wp2
      go_meet
      exact ⟨by rw [h1, h2]; rfl, rfl⟩
    cases h3 : (ln == 0)
    case false =>
      go_wp2
      go_meet
      exact ⟨by rw [h1, h2, h3]; rfl, rfl⟩
    go_wp2
    go_meet
    exact ⟨by rw [h1, h2, h3]; simp [zB], rfl⟩
  case rest =>
    obtain ⟨rfl, rfl⟩ := hcut
    go_upto_region 2 with fail
    go_cut [4] (fun s wc => s = .bool (zB tt && zB into) ∧ wc = w.alloc (.cells #[.int .i64 3, .string vol, .string file, .string tt, .string into, .int .i64 at', .int .i64 fr, .int .i64 ln, .string data] 102))
    case first =>
      go_wp2
      all_goals go_meet
      all_goals (refine ⟨?_, rfl⟩; simp_all [zB])
    case rest =>
      obtain ⟨rfl, rfl⟩ := hcut
      generalize hB : (at' == 0 && (fr == 0 && (ln == 0 && zB data))) = B
      generalize hT : (zB tt && zB into) = T at *
      go_wp2_with fail
      refine (spec_l1In at' 0 100 _).mono ?_
      rintro e w1 ⟨rfl, rfl⟩
      generalize hC1 : (decide (0 ≤ at') && decide (at' ≤ 100)) = C1
      go_wp2_with fail
      refine (spec_l1In ln 1 100 _).mono ?_
      rintro e w1 ⟨rfl, rfl⟩
      generalize hC2 : (decide (1 ≤ ln) && decide (ln ≤ 100)) = C2
      go_wp2_with fail
      refine (spec_NameOk vol _ hv).mono ?_
      rintro e w1 ⟨rfl, rfl⟩
      cases h_vol : nameB vol
      case false =>
        go_wp2
        all_goals go_returns
        all_goals go_light
        all_goals refine ⟨ret_bool ?_, by go_grown⟩
        all_goals rw [hfin.out]
        all_goals simp_all [zB]
      go_wp2_with fail
      refine (spec_NameOk file _ hf).mono ?_
      rintro e w1 ⟨rfl, rfl⟩
      cases h_file : nameB file
      case false =>
        go_wp2
        all_goals go_returns
        all_goals go_light
        all_goals refine ⟨ret_bool ?_, by go_grown⟩
        all_goals rw [hfin.out]
        all_goals simp_all [zB]
      cases T
      case false =>
        go_wp2
        all_goals go_returns
        all_goals go_light
        all_goals refine ⟨ret_bool ?_, by go_grown⟩
        all_goals rw [hfin.out]
        all_goals simp_all [zB]
      cases zat : (at' == 0)
      case false =>
        go_wp2
        all_goals go_returns
        all_goals go_light
        all_goals refine ⟨ret_bool ?_, by go_grown⟩
        all_goals rw [hfin.out]
        all_goals simp_all [zB]
      cases zfr : (fr == 0)
      case false =>
        go_wp2
        all_goals go_returns
        all_goals go_light
        all_goals refine ⟨ret_bool ?_, by go_grown⟩
        all_goals rw [hfin.out]
        all_goals simp_all [zB]
      go_wp2_with fail
      refine (spec_l1In ln 0 100 _).mono ?_
      rintro e w1 ⟨rfl, rfl⟩
      generalize hC3 : (decide (0 ≤ ln) && decide (ln ≤ 100)) = C3 at *
      go_wp2
      all_goals go_returns
      all_goals go_light
      all_goals refine ⟨ret_bool ?_, by go_grown⟩
      all_goals rw [hfin.out]
      all_goals simp_all [zB]
end Go.Proofs.YtnjefbkhibfgmaaGreat
namespace Go.Proofs.YtnjefbkhibfgmaaGreat
open Go.RowKit Go.BigFrame
set_option maxHeartbeats 4000000 in
set_option maxRecDepth 100000 in
theorem spec_OpOk4 (vol file tt into : ByteArray) (at' fr ln : Int) (data : ByteArray) (w : World) (hs : StrO ⟨4, vol, file, tt, into, at', fr, ln, data⟩) :
    Calls Tryz.prog 105 #[.agg #[.int .i64 4, .string vol, .string file, .string tt, .string into, .int .i64 at', .int .i64 fr, .int .i64 ln, .string data]] w fun e w' => e = .returned (.bool (opB ⟨4, vol, file, tt, into, at', fr, ln, data⟩)) ∧ Below w.heap.size w w' := by
  have hv := hs.vol
  have hf := hs.file
  have ht := hs.to
  have hi := hs.into
  have hd := hs.data
  dsimp only at hv hf ht hi hd
  clear hs
  have hfin : Hid (opB ⟨4, vol, file, tt, into, at', fr, ln, data⟩ = (nameB vol && (nameB file && ((zB tt && zB into) && (at' == 0 && (fr == 0 && (ln == 0 && zB data))))))) := by
    show _ = _
    simp [opB, Bool.and_assoc]
  generalize opB ⟨4, vol, file, tt, into, at', fr, ln, data⟩ = R at *
  go_enter Tryz.func105, Tryz.ntmps105
  go_upto_region 1 with fail
  go_cut [3] (fun s wc => s = .bool (at' == 0 && (fr == 0 && (ln == 0 && zB data))) ∧ wc = w.alloc (.cells #[.int .i64 4, .string vol, .string file, .string tt, .string into, .int .i64 at', .int .i64 fr, .int .i64 ln, .string data] 102))
  case first =>
    cases h1 : (at' == 0)
    case false =>
      go_wp2
      go_meet
      exact ⟨by rw [h1]; rfl, rfl⟩
    cases h2 : (fr == 0)
    case false =>
      go_wp2
      go_meet
      exact ⟨by rw [h1, h2]; rfl, rfl⟩
    cases h3 : (ln == 0)
    case false =>
      go_wp2
      go_meet
      exact ⟨by rw [h1, h2, h3]; rfl, rfl⟩
    go_wp2
    go_meet
    exact ⟨by rw [h1, h2, h3]; simp [zB], rfl⟩
  case rest =>
    obtain ⟨rfl, rfl⟩ := hcut
    go_upto_region 2 with fail
    go_cut [4] (fun s wc => s = .bool (zB tt && zB into) ∧ wc = w.alloc (.cells #[.int .i64 4, .string vol, .string file, .string tt, .string into, .int .i64 at', .int .i64 fr, .int .i64 ln, .string data] 102))
    case first =>
      go_wp2
      all_goals go_meet
      all_goals (refine ⟨?_, rfl⟩; simp_all [zB])
    case rest =>
      obtain ⟨rfl, rfl⟩ := hcut
      generalize hB : (at' == 0 && (fr == 0 && (ln == 0 && zB data))) = B at *
      generalize hT : (zB tt && zB into) = T at *
      go_wp2_with fail
      refine (spec_l1In at' 0 100 _).mono ?_
      rintro e w1 ⟨rfl, rfl⟩
      generalize hC1 : (decide (0 ≤ at') && decide (at' ≤ 100)) = C1
      go_wp2_with fail
      refine (spec_l1In ln 1 100 _).mono ?_
      rintro e w1 ⟨rfl, rfl⟩
      generalize hC2 : (decide (1 ≤ ln) && decide (ln ≤ 100)) = C2
      go_wp2_with fail
      refine (spec_NameOk vol _ hv).mono ?_
      rintro e w1 ⟨rfl, rfl⟩
      cases h_vol : nameB vol
      case false =>
        go_wp2
        all_goals go_returns
        all_goals go_light
        all_goals refine ⟨ret_bool ?_, by go_grown⟩
        all_goals rw [hfin.out]
        all_goals simp_all [zB]
      go_wp2_with fail
      refine (spec_NameOk file _ hf).mono ?_
      rintro e w1 ⟨rfl, rfl⟩
      cases h_file : nameB file
      case false =>
        go_wp2
        all_goals go_returns
        all_goals go_light
        all_goals refine ⟨ret_bool ?_, by go_grown⟩
        all_goals rw [hfin.out]
        all_goals simp_all [zB]
      go_wp2
      all_goals go_returns
      all_goals go_light
      all_goals refine ⟨ret_bool ?_, by go_grown⟩
      all_goals rw [hfin.out]
      all_goals simp_all [zB]
end Go.Proofs.YtnjefbkhibfgmaaGreat
