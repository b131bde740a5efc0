/- Drawn ops. -/
import Derived.Test.YtnjefbkhibfgmaaGreatProg
import Derived.Deep.DeepCutAuto
import Derived.Deep.RegionLaw
import Derived.Test.YtnjefbkhibfgmaaGreatLDAskedx39
import Derived.Test.YtnjefbkhibfgmaaGreatLDAskedx16
import Derived.Test.YtnjefbkhibfgmaaGreatLDAskedx38
namespace Go.Proofs.YtnjefbkhibfgmaaGreat
open Go Go.RowKit Go.BigFrame
theorem set9 {w : World} {b : Nat} {c0 c1 c2 c3 c4 c5 c6 c7 c8 : Value} {t : TypeId} (h : Blk w b #[c0, c1, c2, c3, c4, c5, c6, c7, c8] t) (v0 v1 v2 v3 v4 v5 v6 v7 v8 : Value) :
    Blk (((((((((w.setCell ⟨b, 0, none⟩ v0).setCell ⟨b, 1, none⟩ v1).setCell ⟨b, 2, none⟩ v2).setCell ⟨b, 3, none⟩ v3).setCell ⟨b, 4, none⟩ v4).setCell ⟨b, 5, none⟩ v5).setCell ⟨b, 6, none⟩ v6).setCell ⟨b, 7, none⟩ v7).setCell ⟨b, 8, none⟩ v8) b #[v0, v1, v2, v3, v4, v5, v6, v7, v8] t ∧ w.grownBy (((((((((w.setCell ⟨b, 0, none⟩ v0).setCell ⟨b, 1, none⟩ v1).setCell ⟨b, 2, none⟩ v2).setCell ⟨b, 3, none⟩ v3).setCell ⟨b, 4, none⟩ v4).setCell ⟨b, 5, none⟩ v5).setCell ⟨b, 6, none⟩ v6).setCell ⟨b, 7, none⟩ v7).setCell ⟨b, 8, none⟩ v8) (some b) :=
  ⟨by simpa using (((((((((h.set 0 v0).set 1 v1).set 2 v2).set 3 v3).set 4 v4).set 5 v5).set 6 v6).set 7 v7).set 8 v8), (grown_set (grown_set (grown_set (grown_set (grown_set (grown_set (grown_set (grown_set (gset w b 0 v0) 1 v1) 2 v2) 3 v3) 4 v4) 5 v5) 6 v6) 7 v7) 8 v8)⟩
theorem str_nil : (⟨#[]⟩ : ByteArray).size ≤ 9223372036854775807 := by decide
set_option maxHeartbeats 4000000 in
set_option maxRecDepth 100000 in
theorem spec_op (B : Nat) (w : World) (h : Rd w B) :
    Calls Tryz.prog 65 #[.pointer (some ⟨B, 0, none⟩)] w fun e w' => (∃ o : Opr, e = .returned (.agg #[.int .i64 o.k, .string o.vol, .string o.file, .string o.to, .string o.into, .int .i64 o.at', .int .i64 o.fr, .int .i64 o.ln, .string o.data]) ∧ StrO o) ∧ Rd w' B ∧ w.grownBy w' (some B) := by
  have hlt := h.lt
  go_enter Tryz.func65, Tryz.ntmps65
  go_wp2_with fail
  refine (spec_belowN B 3 _ (h.below (by go_grown)) (by omega) (by omega)).mono ?_
  rintro e w1 ⟨⟨x, rfl, hx⟩, hR1, hg1⟩
  have D1 : Blk w1 w.heap.size #[.int .i64 0, .string ⟨#[]⟩, .string ⟨#[]⟩, .string ⟨#[]⟩, .string ⟨#[]⟩, .int .i64 0, .int .i64 0, .int .i64 0, .string ⟨#[]⟩] 102 := ((Blk.new w _ _).alloc _).grown hg1 (by omega)
  have L1 := (Blk.new' (w.alloc (.cells #[.int .i64 0, .string ⟨#[]⟩, .string ⟨#[]⟩, .string ⟨#[]⟩, .string ⟨#[]⟩, .int .i64 0, .int .i64 0, .int .i64 0, .string ⟨#[]⟩] 102)) #[.string ⟨#[117]⟩, .string ⟨#[118]⟩, .string ⟨#[119]⟩] 9 (w.heap.size + 1) (by simp)).grown hg1 (by omega)
  have hG1 : w.grownBy w1 (some B) := grown_trans (grown_below (grown_refl w B) (by go_grown)) hg1
  obtain ⟨vol, hvol, hvol1⟩ := lit_at L1 rfl (fun v hv => by simp at hv; rcases hv with rfl | rfl | rfl <;> exact ⟨_, rfl, by decide⟩) hx
  clear L1 hg1
  go_wp2_with fail
  refine (spec_belowN B 2 _ (hR1.below (by go_grown)) (by omega) (by omega)).mono ?_
  rintro e w2 ⟨⟨y, rfl, hy⟩, hR2, hg2⟩
  have D2 := (D1.alloc _).grown hg2 (by omega)
  have L2 := (Blk.new w1 #[.string ⟨#[97]⟩, .string ⟨#[98]⟩] 9).grown hg2 (by have := hR1.lt; omega)
  have hG2 := grown_trans (grown_below hG1 (by go_grown)) hg2
  obtain ⟨file, hfile, hfile1⟩ := lit_at L2 rfl (fun v hv => by simp at hv; rcases hv with rfl | rfl <;> exact ⟨_, rfl, by decide⟩) hy
  clear L2 hg2 hR1 hG1 D1 hvol hx
  go_wp2_with fail
  refine (spec_belowN B 24 _ hR2 (by omega) (by omega)).mono ?_
  rintro e w3 ⟨⟨at0, rfl, hat⟩, hR3, hg3⟩
  have D3 := D2.grown hg3 (by omega)
  have hG3 := grown_trans hG2 hg3
  clear hg3 hR2 hG2 D2 hfile hy
  go_wp2_with fail
  refine (spec_belowN B 16 _ hR3 (by omega) (by omega)).mono ?_
  rintro e w4 ⟨⟨z, rfl, hz⟩, hR4, hg4⟩
  have D4 := D3.grown hg4 (by omega)
  have hG4 := grown_trans hG3 hg4
  clear hg4 hR3 hG3 D3
  have hl4 := hR4.lt
  rcases (show z = 3 ∨ z = 4 ∨ z = 0 ∨ z = 1 ∨ z = 2 ∨ z = 5 ∨ z = 6 ∨ z = 7 ∨ z = 8 ∨ z = 9 ∨ z = 10 ∨ 11 ≤ z by omega) with rfl | rfl | rfl | rfl | rfl | rfl | rfl | rfl | rfl | rfl | rfl | hz11
  · go_wp2_with fail
    have hS0 : (fun _ : World => True) w4.drew := trivial
    refine wp_region_last (S := fun _ => True) 19 (by kernel_rfl) (by kernel_rfl) ?_
    refine takeQ (i := 0) (v := ?vq4001) rfl (by kernel_rfl) (fun _ _ _ h => h) (by rfl) ?hq4001 (by assumption) ?rq4001
    case hq4001 => (intro u hu; (try dsimp only at hu); go_simp <;> with_reducible rfl)
    try simp only [Act.put, lsA, lsB, lsC]
    refine takeQ (i := 1) (v := ?vq4002) rfl (by kernel_rfl) (fun _ _ _ h => h) (by rfl) ?hq4002 (by assumption) ?rq4002
    case hq4002 => (intro u hu; (try dsimp only at hu); go_simp <;> with_reducible rfl)
    try simp only [Act.put, lsA, lsB, lsC]
    refine takeQ (i := 2) (v := ?vq4003) rfl (by kernel_rfl) (fun _ _ _ h => h) (by rfl) ?hq4003 (by assumption) ?rq4003
    case hq4003 => (intro u hu; (try dsimp only at hu); go_simp <;> with_reducible rfl)
    try simp only [Act.put, lsA, lsB, lsC]
    refine takeQ (i := 4) (v := ?vq4004) rfl (by kernel_rfl) (fun _ _ _ h => h) (by rfl) ?hq4004 (by assumption) ?rq4004
    case hq4004 => (intro u hu; (try dsimp only at hu); go_simp <;> with_reducible rfl)
    try simp only [Act.put, lsA, lsB, lsC]
    refine takeQ (i := 8) (v := ?vq4005) rfl (by kernel_rfl) (fun _ _ _ h => h) (by rfl) ?hq4005 (by assumption) ?rq4005
    case hq4005 => (intro u hu; (try dsimp only at hu); go_simp <;> with_reducible rfl)
    try simp only [Act.put, lsA, lsB, lsC]
    refine takeQ (i := 13) (v := ?vq4006) rfl (by kernel_rfl) (fun _ _ _ h => h) (by rfl) ?hq4006 (by assumption) ?rq4006
    case hq4006 => (intro u hu; (try dsimp only at hu); go_simp <;> with_reducible rfl)
    try simp only [Act.put, lsA, lsB, lsC]
    refine takeQ (i := 17) (v := ?vq4007) rfl (by kernel_rfl) (fun _ _ _ h => h) (by rfl) ?hq4007 (by assumption) ?rq4007
    case hq4007 => (intro u hu; (try dsimp only at hu); go_simp <;> with_reducible rfl)
    try simp only [Act.put, lsA, lsB, lsC]
    refine wpAnyH_invF (F := (fun a0 => a0.tmps.size = 103 ∧ a0.eval (.tmp 39) = .string vol ∧ a0.eval (.tmp 40) = .string file ∧ a0.eval (.tmp 41) = .pointer (some ⟨B, 0, none⟩) ∧ a0.eval (.tmp 43) = .pointer (some ⟨B, 0, none⟩) ∧ a0.eval (.tmp 47) = .pointer (some ⟨B, 0, none⟩) ∧ a0.eval (.tmp 52) = .pointer (some ⟨B, 0, none⟩) ∧ a0.eval (.tmp 56) = .int .i64 (at0 : Int))) (I := (fun a0 L a u => ∃ (b3 b5 b6 b7 b9 b10 b11 b12 b14 b15 b16 b18 : Bool) (x42 x44 x45 x46 x48 x49 x50 x51 x53 x54 x55 x57 : Value), L = #[true, true, true, b3, true, b5, b6, b7, true, b9, b10, b11, b12, true, b14, b15, b16, true, b18, true] ∧ a = putB a0 x42 x44 x45 x46 x48 x49 x50 x51 x53 x54 x55 x57 ∧ (Rd u B ∧ w.grownBy u (some B) ∧ Blk u w.heap.size #[.int .i64 0, .string ⟨#[]⟩, .string ⟨#[]⟩, .string ⟨#[]⟩, .string ⟨#[]⟩, .int .i64 0, .int .i64 0, .int .i64 0, .string ⟨#[]⟩] 102) ∧ (b3 = true → NumT 4 x42) ∧ (b5 = true → NumT 8 x44) ∧ (b6 = true → IntT x45) ∧ (b7 = true → LstT B 3 u x46) ∧ (b9 = true → NumT 3 x48) ∧ (b10 = true → PlcT B u x49) ∧ (b11 = true → TxtT x50) ∧ (b12 = true → LstT B 2 u x51) ∧ (b14 = true → NumT 2 x53) ∧ (b15 = true → PlcT B u x54) ∧ (b16 = true → TxtT x55) ∧ (b18 = true → b3 = true ∧ b6 = true ∧ b11 = true ∧ b16 = true ∧ x57 = .agg #[.int .i64 5, .string vol, .string file, x50, x55, .int .i64 (at0 : Int), x42, x45, .string ⟨#[]⟩]))) ?fr ?step ?done ?sz ?cnt ?init
    case fr => exact ⟨rfl, rfl, rfl, rfl, rfl, rfl, rfl, rfl⟩
    case sz => (rintro L a u ⟨b3, b5, b6, b7, b9, b10, b11, b12, b14, b15, b16, b18, x42, x44, x45, x46, x48, x49, x50, x51, x53, x54, x55, x57, rfl, _⟩; rfl)
    case cnt => exact Nat.le_of_eq (by kernel_rfl)
    case init => exact ⟨false, false, false, false, false, false, false, false, false, false, false, false, undef, undef, undef, undef, undef, undef, undef, undef, undef, undef, undef, undef, by kernel_rfl, by kernel_rfl, ⟨hR4.below ((Below.refl _ _).drew), grown_below hG4 ((Below.refl _ _).drew), D4.below ((Below.refl _ _).drew)⟩, (fun h => by cases h), (fun h => by cases h), (fun h => by cases h), (fun h => by cases h), (fun h => by cases h), (fun h => by cases h), (fun h => by cases h), (fun h => by cases h), (fun h => by cases h), (fun h => by cases h), (fun h => by cases h), (fun h => by cases h)⟩
    case done =>
      rintro L a u ⟨b3, b5, b6, b7, b9, b10, b11, b12, b14, b15, b16, b18, x42, x44, x45, x46, x48, x49, x50, x51, x53, x54, x55, x57, rfl, rfl, ⟨hRu, hGu, hDu⟩, t3, t5, t6, t7, t9, t10, t11, t12, t14, t15, t16, t18⟩ hr
      have q3 : b3 = true := ready_all (k := 3) hr rfl (fun e he _ => by simp at he; subst he; rfl)
      subst q3
      have q5 : b5 = true := ready_all (k := 5) hr rfl (fun e he _ => by simp at he; rcases he with rfl | rfl <;> rfl)
      subst q5
      have q6 : b6 = true := ready_all (k := 6) hr rfl (fun e he _ => by simp at he; subst he; rfl)
      subst q6
      have q7 : b7 = true := ready_all (k := 7) hr rfl (fun e he _ => by simp at he)
      subst q7
      have q9 : b9 = true := ready_all (k := 9) hr rfl (fun e he _ => by simp at he; rcases he with rfl | rfl <;> rfl)
      subst q9
      have q10 : b10 = true := ready_all (k := 10) hr rfl (fun e he _ => by simp at he; rcases he with rfl | rfl <;> rfl)
      subst q10
      have q11 : b11 = true := ready_all (k := 11) hr rfl (fun e he _ => by simp at he; subst he; rfl)
      subst q11
      have q12 : b12 = true := ready_all (k := 12) hr rfl (fun e he _ => by simp at he)
      subst q12
      have q14 : b14 = true := ready_all (k := 14) hr rfl (fun e he _ => by simp at he; rcases he with rfl | rfl <;> rfl)
      subst q14
      have q15 : b15 = true := ready_all (k := 15) hr rfl (fun e he _ => by simp at he; rcases he with rfl | rfl <;> rfl)
      subst q15
      have q16 : b16 = true := ready_all (k := 16) hr rfl (fun e he _ => by simp at he; subst he; rfl)
      subst q16
      have q18 : b18 = true := ready_all (k := 18) hr rfl (fun e he _ => by simp at he; rcases he with rfl | rfl | rfl | rfl | rfl | rfl | rfl <;> rfl)
      subst q18
      clear hr
      obtain ⟨n42, rfl, _⟩ := t3 rfl
      obtain ⟨n45, rfl⟩ := t6 rfl
      obtain ⟨tt, rfl, htt⟩ := t11 rfl
      obtain ⟨ii, rfl, hii⟩ := t16 rfl
      obtain ⟨_, _, _, _, rfl⟩ := t18 rfl
      clear t3 t5 t6 t7 t9 t10 t11 t12 t14 t15 t16 t18
      refine lastL rfl ?_
      simp only [putB, Act.put, List.setIfInBounds_toArray, List.set_cons_zero, List.set_cons_succ]
      have x0 := hDu.cell 0
      have x1 := hDu.cell 1
      have x2 := hDu.cell 2
      have x3 := hDu.cell 3
      have x4 := hDu.cell 4
      have x5 := hDu.cell 5
      have x6 := hDu.cell 6
      have x7 := hDu.cell 7
      have x8 := hDu.cell 8
      simp only [lgA, lgB, lgC] at x0 x1 x2 x3 x4 x5 x6 x7 x8
      have f0 := hDu.frozen 0
      have f1 := hDu.frozen 1
      have f2 := hDu.frozen 2
      have f3 := hDu.frozen 3
      have f4 := hDu.frozen 4
      have f5 := hDu.frozen 5
      have f6 := hDu.frozen 6
      have f7 := hDu.frozen 7
      have f8 := hDu.frozen 8
      go_wp2
      obtain ⟨W0, hg0⟩ := set9 hDu (.int .i64 5) (.string vol) (.string file) (.string tt) (.string ii) (.int .i64 at0) (.int .i64 n42) (.int .i64 n45) (.string ⟨#[]⟩)
      have hRW := hRu.grown hg0 hlt
      have hGW := grown_row hGu hg0 (fun k e => by cases e; exact Nat.le_refl _)
      generalize (((((((((u.setCell ⟨w.heap.size, 0, none⟩ (.int .i64 5)).setCell ⟨w.heap.size, 1, none⟩ (.string vol)).setCell ⟨w.heap.size, 2, none⟩ (.string file)).setCell ⟨w.heap.size, 3, none⟩ (.string tt)).setCell ⟨w.heap.size, 4, none⟩ (.string ii)).setCell ⟨w.heap.size, 5, none⟩ (.int .i64 at0)).setCell ⟨w.heap.size, 6, none⟩ (.int .i64 n42)).setCell ⟨w.heap.size, 7, none⟩ (.int .i64 n45)).setCell ⟨w.heap.size, 8, none⟩ (.string ⟨#[]⟩)) = W8 at *
      refine bodyPost_ret (results_cell_row rfl _ W8 w.heap.size _ _ _ _ rfl W0 Tryz.underlying102 rfl (by kernel_rfl)) rfl ?_
      exact ⟨⟨⟨5, vol, file, tt, ii, at0, n42, n45, ⟨#[]⟩⟩, rfl, ⟨(Nat.le_trans hvol1 (by decide)), (Nat.le_trans hfile1 (by decide)), (Nat.le_trans htt (by decide)), (Nat.le_trans hii (by decide)), str_nil⟩⟩, hRW, hGW⟩
    case step =>
      rintro a0 ⟨fsz, f39, f40, f41, f43, f47, f52, f56⟩
      rintro L a u i ⟨b3, b5, b6, b7, b9, b10, b11, b12, b14, b15, b16, b18, x42, x44, x45, x46, x48, x49, x50, x51, x53, x54, x55, x57, rfl, rfl, ⟨hRu, hGu, hDu⟩, t3, t5, t6, t7, t9, t10, t11, t12, t14, t15, t16, t18⟩ hi
      obtain ⟨h0, o, ho, hdep⟩ := mem_ready.1 hi
      have hi20 : i < 20 := (Array.getElem?_eq_some_iff.1 ho).1
      clear hi
      obtain rfl | rfl | rfl | rfl | rfl | rfl | rfl | rfl | rfl | rfl | rfl | rfl | rfl | rfl | rfl | rfl | rfl | rfl | rfl | rfl : i = 0 ∨ i = 1 ∨ i = 2 ∨ i = 3 ∨ i = 4 ∨ i = 5 ∨ i = 6 ∨ i = 7 ∨ i = 8 ∨ i = 9 ∨ i = 10 ∨ i = 11 ∨ i = 12 ∨ i = 13 ∨ i = 14 ∨ i = 15 ∨ i = 16 ∨ i = 17 ∨ i = 18 ∨ i = 19 := by omega
      · cases h0
      · cases h0
      · cases h0
      · have hb : b3 = false := h0
        subst hb
        simp only [List.getElem?_toArray, List.getElem?_cons_succ, List.getElem?_cons_zero, Option.some.injEq] at ho
        subst ho
        have hul := hRu.lt
        have e1 := (putB_e41 a0 x42 x44 x45 x46 x48 x49 x50 x51 x53 x54 x55 x57).trans f41
        refine wpOp_at rfl rfl (fun K hK => ?_)
        generalize hA : putB a0 x42 x44 x45 x46 x48 x49 x50 x51 x53 x54 x55 x57 = A at *
        replace e1 : A.tmps[41]?.getD undef = .pointer (some ⟨B, 0, none⟩) := by simpa [Act.eval] using e1
        go_simp
        try rw [e1]
        refine (spec_belowN B 4 u hRu (by omega) (by omega)).mono ?_
        rintro e u1 ⟨⟨n, rfl, hn⟩, hR1, hg1⟩
        dsimp only
        refine hK.out _ _ ⟨trivial, ?_⟩
        rw [← hA]
        exact ⟨true, b5, b6, b7, b9, b10, b11, b12, b14, b15, b16, b18, _, x44, x45, x46, x48, x49, x50, x51, x53, x54, x55, x57, rfl, putB_42 a0 x42 x44 x45 x46 x48 x49 x50 x51 x53 x54 x55 x57 _, ⟨hR1, grown_trans hGu hg1, hDu.grown hg1 (by omega)⟩, fun _ => ⟨n, rfl, hn⟩, t5, t6, fun h => (t7 h).grown hg1, t9, fun h => (t10 h).grown hg1, t11, fun h => (t12 h).grown hg1, t14, fun h => (t15 h).grown hg1, t16, fun h => absurd (t18 h).1 (by simp)⟩
      · cases h0
      · have hb : b5 = false := h0
        subst hb
        simp only [List.getElem?_toArray, List.getElem?_cons_succ, List.getElem?_cons_zero, Option.some.injEq] at ho
        subst ho
        have hul := hRu.lt
        have e1 := (putB_e43 a0 x42 x44 x45 x46 x48 x49 x50 x51 x53 x54 x55 x57).trans f43
        refine wpOp_at rfl rfl (fun K hK => ?_)
        generalize hA : putB a0 x42 x44 x45 x46 x48 x49 x50 x51 x53 x54 x55 x57 = A at *
        replace e1 : A.tmps[43]?.getD undef = .pointer (some ⟨B, 0, none⟩) := by simpa [Act.eval] using e1
        go_simp
        try rw [e1]
        refine (spec_belowN B 8 u hRu (by omega) (by omega)).mono ?_
        rintro e u1 ⟨⟨n, rfl, hn⟩, hR1, hg1⟩
        dsimp only
        refine hK.out _ _ ⟨trivial, ?_⟩
        rw [← hA]
        exact ⟨b3, true, b6, b7, b9, b10, b11, b12, b14, b15, b16, b18, x42, _, x45, x46, x48, x49, x50, x51, x53, x54, x55, x57, rfl, putB_44 a0 x42 x44 x45 x46 x48 x49 x50 x51 x53 x54 x55 x57 _, ⟨hR1, grown_trans hGu hg1, hDu.grown hg1 (by omega)⟩, t3, fun _ => ⟨n, rfl, hn⟩, t6, fun h => (t7 h).grown hg1, t9, fun h => (t10 h).grown hg1, t11, fun h => (t12 h).grown hg1, t14, fun h => (t15 h).grown hg1, t16, t18⟩
      · have hb : b6 = false := h0
        subst hb
        simp only [List.getElem?_toArray, List.getElem?_cons_succ, List.getElem?_cons_zero, Option.some.injEq] at ho
        subst ho
        have hul := hRu.lt
        have d5 : b5 = true := hdep ⟨5, .data⟩ (by simp) rfl
        obtain ⟨n, hx, hn⟩ := t5 d5
        have e1 := (putB_e44 fsz x42 x44 x45 x46 x48 x49 x50 x51 x53 x54 x55 x57).trans hx
        refine wpOp_at rfl rfl (fun K hK => ?_)
        generalize hA : putB a0 x42 x44 x45 x46 x48 x49 x50 x51 x53 x54 x55 x57 = A at *
        simp only [Oper.wp, execOp, e1]
        go_simp
        refine hK.out _ _ ⟨trivial, ?_⟩
        rw [← hA]
        exact ⟨b3, b5, true, b7, b9, b10, b11, b12, b14, b15, b16, b18, x42, x44, _, x46, x48, x49, x50, x51, x53, x54, x55, x57, rfl, putB_45 a0 x42 x44 x45 x46 x48 x49 x50 x51 x53 x54 x55 x57 _, ⟨hRu, hGu, hDu⟩, t3, t5, fun _ => ⟨_, rfl⟩, t7, t9, t10, t11, t12, t14, t15, t16, fun h => absurd (t18 h).2.1 (by simp)⟩
      · have hb : b7 = false := h0
        subst hb
        simp only [List.getElem?_toArray, List.getElem?_cons_succ, List.getElem?_cons_zero, Option.some.injEq] at ho
        subst ho
        have hul := hRu.lt
        refine wpOp_at rfl rfl (fun K hK => ?_)
        generalize hA : putB a0 x42 x44 x45 x46 x48 x49 x50 x51 x53 x54 x55 x57 = A at *
        go_simp
        refine hK.out _ _ ⟨trivial, ?_⟩
        rw [← hA]
        exact ⟨b3, b5, b6, true, b9, b10, b11, b12, b14, b15, b16, b18, x42, x44, x45, _, x48, x49, x50, x51, x53, x54, x55, x57, rfl, putB_46 a0 x42 x44 x45 x46 x48 x49 x50 x51 x53 x54 x55 x57 _, ⟨hRu.below (by go_grown), grown_below hGu (by go_grown), hDu.below (by go_grown)⟩, t3, t5, t6, fun _ => ⟨_, _, _, rfl, Blk.new _ _ _, rfl, (fun v hv => by simp at hv; rcases hv with rfl | rfl | rfl <;> exact ⟨_, rfl, by decide⟩), hul⟩, t9, fun h => (t10 h).below (by go_grown), t11, fun h => (t12 h).below (by go_grown), t14, fun h => (t15 h).below (by go_grown), t16, t18⟩
      · cases h0
      · have hb : b9 = false := h0
        subst hb
        simp only [List.getElem?_toArray, List.getElem?_cons_succ, List.getElem?_cons_zero, Option.some.injEq] at ho
        subst ho
        have hul := hRu.lt
        have e1 := (putB_e47 a0 x42 x44 x45 x46 x48 x49 x50 x51 x53 x54 x55 x57).trans f47
        refine wpOp_at rfl rfl (fun K hK => ?_)
        generalize hA : putB a0 x42 x44 x45 x46 x48 x49 x50 x51 x53 x54 x55 x57 = A at *
        replace e1 : A.tmps[47]?.getD undef = .pointer (some ⟨B, 0, none⟩) := by simpa [Act.eval] using e1
        go_simp
        try rw [e1]
        refine (spec_belowN B 3 u hRu (by omega) (by omega)).mono ?_
        rintro e u1 ⟨⟨n, rfl, hn⟩, hR1, hg1⟩
        dsimp only
        refine hK.out _ _ ⟨trivial, ?_⟩
        rw [← hA]
        exact ⟨b3, b5, b6, b7, true, b10, b11, b12, b14, b15, b16, b18, x42, x44, x45, x46, _, x49, x50, x51, x53, x54, x55, x57, rfl, putB_48 a0 x42 x44 x45 x46 x48 x49 x50 x51 x53 x54 x55 x57 _, ⟨hR1, grown_trans hGu hg1, hDu.grown hg1 (by omega)⟩, t3, t5, t6, fun h => (t7 h).grown hg1, fun _ => ⟨n, rfl, hn⟩, fun h => (t10 h).grown hg1, t11, fun h => (t12 h).grown hg1, t14, fun h => (t15 h).grown hg1, t16, t18⟩
      · have hb : b10 = false := h0
        subst hb
        simp only [List.getElem?_toArray, List.getElem?_cons_succ, List.getElem?_cons_zero, Option.some.injEq] at ho
        subst ho
        have hul := hRu.lt
        have dl : b7 = true := hdep ⟨7, .data⟩ (by simp) rfl
        have dn : b9 = true := hdep ⟨9, .data⟩ (by simp) rfl
        obtain ⟨lb, cs, lt, hx, hB, hcs, hall, hlb⟩ := t7 dl
        obtain ⟨n, hy, hn⟩ := t9 dn
        obtain ⟨s, hs, hs1⟩ := lit_at hB hcs hall hn
        have e1 := (putB_e46 fsz x42 x44 x45 x46 x48 x49 x50 x51 x53 x54 x55 x57).trans hx
        have e2 := (putB_e48 fsz x42 x44 x45 x46 x48 x49 x50 x51 x53 x54 x55 x57).trans hy
        have hn0 : (0 : Int) ≤ n := by omega
        have hnk : (n : Int) < 3 := by omega
        refine wpOp_at rfl rfl (fun K hK => ?_)
        generalize hA : putB a0 x42 x44 x45 x46 x48 x49 x50 x51 x53 x54 x55 x57 = A at *
        simp only [Oper.wp, execOp, e1, e2]
        go_simp
        refine hK.out _ _ ⟨trivial, ?_⟩
        rw [← hA]
        exact ⟨b3, b5, b6, b7, b9, true, b11, b12, b14, b15, b16, b18, x42, x44, x45, x46, x48, _, x50, x51, x53, x54, x55, x57, rfl, putB_49 a0 x42 x44 x45 x46 x48 x49 x50 x51 x53 x54 x55 x57 _, ⟨hRu, hGu, hDu⟩, t3, t5, t6, t7, t9, fun _ => ⟨lb, n, s, rfl, hs, hs1, hlb⟩, t11, t12, t14, t15, t16, t18⟩
      · have hb : b11 = false := h0
        subst hb
        simp only [List.getElem?_toArray, List.getElem?_cons_succ, List.getElem?_cons_zero, Option.some.injEq] at ho
        subst ho
        have hul := hRu.lt
        have dl : b10 = true := hdep ⟨10, .data⟩ (by simp) rfl
        obtain ⟨lb, li, s, hx, hs, hs1, hlb⟩ := t10 dl
        have e1 := (putB_e49 fsz x42 x44 x45 x46 x48 x49 x50 x51 x53 x54 x55 x57).trans hx
        refine wpOp_at rfl rfl (fun K hK => ?_)
        generalize hA : putB a0 x42 x44 x45 x46 x48 x49 x50 x51 x53 x54 x55 x57 = A at *
        simp only [Oper.wp, execOp, e1]
        go_simp
        refine hK.out _ _ ⟨trivial, ?_⟩
        rw [← hA]
        exact ⟨b3, b5, b6, b7, b9, b10, true, b12, b14, b15, b16, b18, x42, x44, x45, x46, x48, x49, _, x51, x53, x54, x55, x57, rfl, putB_50 a0 x42 x44 x45 x46 x48 x49 x50 x51 x53 x54 x55 x57 _, ⟨hRu, hGu, hDu⟩, t3, t5, t6, t7, t9, t10, fun _ => ⟨s, rfl, hs1⟩, t12, t14, t15, t16, fun h => absurd (t18 h).2.2.1 (by simp)⟩
      · have hb : b12 = false := h0
        subst hb
        simp only [List.getElem?_toArray, List.getElem?_cons_succ, List.getElem?_cons_zero, Option.some.injEq] at ho
        subst ho
        have hul := hRu.lt
        refine wpOp_at rfl rfl (fun K hK => ?_)
        generalize hA : putB a0 x42 x44 x45 x46 x48 x49 x50 x51 x53 x54 x55 x57 = A at *
        go_simp
        refine hK.out _ _ ⟨trivial, ?_⟩
        rw [← hA]
        exact ⟨b3, b5, b6, b7, b9, b10, b11, true, b14, b15, b16, b18, x42, x44, x45, x46, x48, x49, x50, _, x53, x54, x55, x57, rfl, putB_51 a0 x42 x44 x45 x46 x48 x49 x50 x51 x53 x54 x55 x57 _, ⟨hRu.below (by go_grown), grown_below hGu (by go_grown), hDu.below (by go_grown)⟩, t3, t5, t6, fun h => (t7 h).below (by go_grown), t9, fun h => (t10 h).below (by go_grown), t11, fun _ => ⟨_, _, _, rfl, Blk.new _ _ _, rfl, (fun v hv => by simp at hv; rcases hv with rfl | rfl <;> exact ⟨_, rfl, by decide⟩), hul⟩, t14, fun h => (t15 h).below (by go_grown), t16, t18⟩
      · cases h0
      · have hb : b14 = false := h0
        subst hb
        simp only [List.getElem?_toArray, List.getElem?_cons_succ, List.getElem?_cons_zero, Option.some.injEq] at ho
        subst ho
        have hul := hRu.lt
        have e1 := (putB_e52 a0 x42 x44 x45 x46 x48 x49 x50 x51 x53 x54 x55 x57).trans f52
        refine wpOp_at rfl rfl (fun K hK => ?_)
        generalize hA : putB a0 x42 x44 x45 x46 x48 x49 x50 x51 x53 x54 x55 x57 = A at *
        replace e1 : A.tmps[52]?.getD undef = .pointer (some ⟨B, 0, none⟩) := by simpa [Act.eval] using e1
        go_simp
        try rw [e1]
        refine (spec_belowN B 2 u hRu (by omega) (by omega)).mono ?_
        rintro e u1 ⟨⟨n, rfl, hn⟩, hR1, hg1⟩
        dsimp only
        refine hK.out _ _ ⟨trivial, ?_⟩
        rw [← hA]
        exact ⟨b3, b5, b6, b7, b9, b10, b11, b12, true, b15, b16, b18, x42, x44, x45, x46, x48, x49, x50, x51, _, x54, x55, x57, rfl, putB_53 a0 x42 x44 x45 x46 x48 x49 x50 x51 x53 x54 x55 x57 _, ⟨hR1, grown_trans hGu hg1, hDu.grown hg1 (by omega)⟩, t3, t5, t6, fun h => (t7 h).grown hg1, t9, fun h => (t10 h).grown hg1, t11, fun h => (t12 h).grown hg1, fun _ => ⟨n, rfl, hn⟩, fun h => (t15 h).grown hg1, t16, t18⟩
      · have hb : b15 = false := h0
        subst hb
        simp only [List.getElem?_toArray, List.getElem?_cons_succ, List.getElem?_cons_zero, Option.some.injEq] at ho
        subst ho
        have hul := hRu.lt
        have dl : b12 = true := hdep ⟨12, .data⟩ (by simp) rfl
        have dn : b14 = true := hdep ⟨14, .data⟩ (by simp) rfl
        obtain ⟨lb, cs, lt, hx, hB, hcs, hall, hlb⟩ := t12 dl
        obtain ⟨n, hy, hn⟩ := t14 dn
        obtain ⟨s, hs, hs1⟩ := lit_at hB hcs hall hn
        have e1 := (putB_e51 fsz x42 x44 x45 x46 x48 x49 x50 x51 x53 x54 x55 x57).trans hx
        have e2 := (putB_e53 fsz x42 x44 x45 x46 x48 x49 x50 x51 x53 x54 x55 x57).trans hy
        have hn0 : (0 : Int) ≤ n := by omega
        have hnk : (n : Int) < 2 := by omega
        refine wpOp_at rfl rfl (fun K hK => ?_)
        generalize hA : putB a0 x42 x44 x45 x46 x48 x49 x50 x51 x53 x54 x55 x57 = A at *
        simp only [Oper.wp, execOp, e1, e2]
        go_simp
        refine hK.out _ _ ⟨trivial, ?_⟩
        rw [← hA]
        exact ⟨b3, b5, b6, b7, b9, b10, b11, b12, b14, true, b16, b18, x42, x44, x45, x46, x48, x49, x50, x51, x53, _, x55, x57, rfl, putB_54 a0 x42 x44 x45 x46 x48 x49 x50 x51 x53 x54 x55 x57 _, ⟨hRu, hGu, hDu⟩, t3, t5, t6, t7, t9, t10, t11, t12, t14, fun _ => ⟨lb, n, s, rfl, hs, hs1, hlb⟩, t16, t18⟩
      · have hb : b16 = false := h0
        subst hb
        simp only [List.getElem?_toArray, List.getElem?_cons_succ, List.getElem?_cons_zero, Option.some.injEq] at ho
        subst ho
        have hul := hRu.lt
        have dl : b15 = true := hdep ⟨15, .data⟩ (by simp) rfl
        obtain ⟨lb, li, s, hx, hs, hs1, hlb⟩ := t15 dl
        have e1 := (putB_e54 fsz x42 x44 x45 x46 x48 x49 x50 x51 x53 x54 x55 x57).trans hx
        refine wpOp_at rfl rfl (fun K hK => ?_)
        generalize hA : putB a0 x42 x44 x45 x46 x48 x49 x50 x51 x53 x54 x55 x57 = A at *
        simp only [Oper.wp, execOp, e1]
        go_simp
        refine hK.out _ _ ⟨trivial, ?_⟩
        rw [← hA]
        exact ⟨b3, b5, b6, b7, b9, b10, b11, b12, b14, b15, true, b18, x42, x44, x45, x46, x48, x49, x50, x51, x53, x54, _, x57, rfl, putB_55 a0 x42 x44 x45 x46 x48 x49 x50 x51 x53 x54 x55 x57 _, ⟨hRu, hGu, hDu⟩, t3, t5, t6, t7, t9, t10, t11, t12, t14, t15, fun _ => ⟨s, rfl, hs1⟩, fun h => absurd (t18 h).2.2.2.1 (by simp)⟩
      · cases h0
      · have hb : b18 = false := h0
        subst hb
        simp only [List.getElem?_toArray, List.getElem?_cons_succ, List.getElem?_cons_zero, Option.some.injEq] at ho
        subst ho
        have hul := hRu.lt
        have d3 : b3 = true := hdep ⟨3, .data⟩ (by simp) rfl
        have d6 : b6 = true := hdep ⟨6, .data⟩ (by simp) rfl
        have d11 : b11 = true := hdep ⟨11, .data⟩ (by simp) rfl
        have d16 : b16 = true := hdep ⟨16, .data⟩ (by simp) rfl
        obtain ⟨n42, g42, _⟩ := t3 d3
        obtain ⟨n45, g45⟩ := t6 d6
        obtain ⟨s50, g50, _⟩ := t11 d11
        obtain ⟨s55, g55, _⟩ := t16 d16
        have e39 := (putB_e39 a0 x42 x44 x45 x46 x48 x49 x50 x51 x53 x54 x55 x57).trans f39
        have e40 := (putB_e40 a0 x42 x44 x45 x46 x48 x49 x50 x51 x53 x54 x55 x57).trans f40
        have e56 := (putB_e56 a0 x42 x44 x45 x46 x48 x49 x50 x51 x53 x54 x55 x57).trans f56
        have e42 := (putB_e42 fsz x42 x44 x45 x46 x48 x49 x50 x51 x53 x54 x55 x57).trans g42
        have e45 := (putB_e45 fsz x42 x44 x45 x46 x48 x49 x50 x51 x53 x54 x55 x57).trans g45
        have e50 := (putB_e50 fsz x42 x44 x45 x46 x48 x49 x50 x51 x53 x54 x55 x57).trans g50
        have e55 := (putB_e55 fsz x42 x44 x45 x46 x48 x49 x50 x51 x53 x54 x55 x57).trans g55
        refine wpOp_at rfl rfl (fun K hK => ?_)
        generalize hA : putB a0 x42 x44 x45 x46 x48 x49 x50 x51 x53 x54 x55 x57 = A at *
        simp only [Oper.wp, execOp, List.map_toArray, List.map_cons, List.map_nil, e39, e40, e56, e42, e45, e50, e55]
        go_simp
        refine hK.out _ _ ⟨trivial, ?_⟩
        rw [← hA]
        exact ⟨b3, b5, b6, b7, b9, b10, b11, b12, b14, b15, b16, true, x42, x44, x45, x46, x48, x49, x50, x51, x53, x54, x55, _, rfl, putB_57 a0 x42 x44 x45 x46 x48 x49 x50 x51 x53 x54 x55 x57 _, ⟨hRu, hGu, hDu⟩, t3, t5, t6, t7, t9, t10, t11, t12, t14, t15, t16, fun _ => ⟨d3, d6, d11, d16, by rw [g42, g45, g50, g55]⟩⟩
      · cases h0
  · go_wp2_with fail
    have hS0 : (fun _ : World => True) w4.drew := trivial
    refine wp_region_last (S := fun _ => True) 19 (by kernel_rfl) (by kernel_rfl) ?_
    refine takeQ (i := 0) (v := ?vq4008) rfl (by kernel_rfl) (fun _ _ _ h => h) (by rfl) ?hq4008 (by assumption) ?rq4008
    case hq4008 => (intro u hu; (try dsimp only at hu); go_simp <;> with_reducible rfl)
    try simp only [Act.put, lsA, lsB, lsC]
    refine takeQ (i := 1) (v := ?vq4009) rfl (by kernel_rfl) (fun _ _ _ h => h) (by rfl) ?hq4009 (by assumption) ?rq4009
    case hq4009 => (intro u hu; (try dsimp only at hu); go_simp <;> with_reducible rfl)
    try simp only [Act.put, lsA, lsB, lsC]
    refine takeQ (i := 2) (v := ?vq4010) rfl (by kernel_rfl) (fun _ _ _ h => h) (by rfl) ?hq4010 (by assumption) ?rq4010
    case hq4010 => (intro u hu; (try dsimp only at hu); go_simp <;> with_reducible rfl)
    try simp only [Act.put, lsA, lsB, lsC]
    refine takeQ (i := 4) (v := ?vq4011) rfl (by kernel_rfl) (fun _ _ _ h => h) (by rfl) ?hq4011 (by assumption) ?rq4011
    case hq4011 => (intro u hu; (try dsimp only at hu); go_simp <;> with_reducible rfl)
    try simp only [Act.put, lsA, lsB, lsC]
    refine takeQ (i := 8) (v := ?vq4012) rfl (by kernel_rfl) (fun _ _ _ h => h) (by rfl) ?hq4012 (by assumption) ?rq4012
    case hq4012 => (intro u hu; (try dsimp only at hu); go_simp <;> with_reducible rfl)
    try simp only [Act.put, lsA, lsB, lsC]
    refine takeQ (i := 13) (v := ?vq4013) rfl (by kernel_rfl) (fun _ _ _ h => h) (by rfl) ?hq4013 (by assumption) ?rq4013
    case hq4013 => (intro u hu; (try dsimp only at hu); go_simp <;> with_reducible rfl)
    try simp only [Act.put, lsA, lsB, lsC]
    refine takeQ (i := 17) (v := ?vq4014) rfl (by kernel_rfl) (fun _ _ _ h => h) (by rfl) ?hq4014 (by assumption) ?rq4014
    case hq4014 => (intro u hu; (try dsimp only at hu); go_simp <;> with_reducible rfl)
    try simp only [Act.put, lsA, lsB, lsC]
    refine wpAnyH_invF (F := (fun a0 => a0.tmps.size = 103 ∧ a0.eval (.tmp 39) = .string vol ∧ a0.eval (.tmp 40) = .string file ∧ a0.eval (.tmp 41) = .pointer (some ⟨B, 0, none⟩) ∧ a0.eval (.tmp 43) = .pointer (some ⟨B, 0, none⟩) ∧ a0.eval (.tmp 47) = .pointer (some ⟨B, 0, none⟩) ∧ a0.eval (.tmp 52) = .pointer (some ⟨B, 0, none⟩) ∧ a0.eval (.tmp 56) = .int .i64 (at0 : Int))) (I := (fun a0 L a u => ∃ (b3 b5 b6 b7 b9 b10 b11 b12 b14 b15 b16 b18 : Bool) (x42 x44 x45 x46 x48 x49 x50 x51 x53 x54 x55 x57 : Value), L = #[true, true, true, b3, true, b5, b6, b7, true, b9, b10, b11, b12, true, b14, b15, b16, true, b18, true] ∧ a = putB a0 x42 x44 x45 x46 x48 x49 x50 x51 x53 x54 x55 x57 ∧ (Rd u B ∧ w.grownBy u (some B) ∧ Blk u w.heap.size #[.int .i64 0, .string ⟨#[]⟩, .string ⟨#[]⟩, .string ⟨#[]⟩, .string ⟨#[]⟩, .int .i64 0, .int .i64 0, .int .i64 0, .string ⟨#[]⟩] 102) ∧ (b3 = true → NumT 4 x42) ∧ (b5 = true → NumT 8 x44) ∧ (b6 = true → IntT x45) ∧ (b7 = true → LstT B 3 u x46) ∧ (b9 = true → NumT 3 x48) ∧ (b10 = true → PlcT B u x49) ∧ (b11 = true → TxtT x50) ∧ (b12 = true → LstT B 2 u x51) ∧ (b14 = true → NumT 2 x53) ∧ (b15 = true → PlcT B u x54) ∧ (b16 = true → TxtT x55) ∧ (b18 = true → b3 = true ∧ b6 = true ∧ b11 = true ∧ b16 = true ∧ x57 = .agg #[.int .i64 5, .string vol, .string file, x50, x55, .int .i64 (at0 : Int), x42, x45, .string ⟨#[]⟩]))) ?fr ?step ?done ?sz ?cnt ?init
    case fr => exact ⟨rfl, rfl, rfl, rfl, rfl, rfl, rfl, rfl⟩
    case sz => (rintro L a u ⟨b3, b5, b6, b7, b9, b10, b11, b12, b14, b15, b16, b18, x42, x44, x45, x46, x48, x49, x50, x51, x53, x54, x55, x57, rfl, _⟩; rfl)
    case cnt => exact Nat.le_of_eq (by kernel_rfl)
    case init => exact ⟨false, false, false, false, false, false, false, false, false, false, false, false, undef, undef, undef, undef, undef, undef, undef, undef, undef, undef, undef, undef, by kernel_rfl, by kernel_rfl, ⟨hR4.below ((Below.refl _ _).drew), grown_below hG4 ((Below.refl _ _).drew), D4.below ((Below.refl _ _).drew)⟩, (fun h => by cases h), (fun h => by cases h), (fun h => by cases h), (fun h => by cases h), (fun h => by cases h), (fun h => by cases h), (fun h => by cases h), (fun h => by cases h), (fun h => by cases h), (fun h => by cases h), (fun h => by cases h), (fun h => by cases h)⟩
    case done =>
      rintro L a u ⟨b3, b5, b6, b7, b9, b10, b11, b12, b14, b15, b16, b18, x42, x44, x45, x46, x48, x49, x50, x51, x53, x54, x55, x57, rfl, rfl, ⟨hRu, hGu, hDu⟩, t3, t5, t6, t7, t9, t10, t11, t12, t14, t15, t16, t18⟩ hr
      have q3 : b3 = true := ready_all (k := 3) hr rfl (fun e he _ => by simp at he; subst he; rfl)
      subst q3
      have q5 : b5 = true := ready_all (k := 5) hr rfl (fun e he _ => by simp at he; rcases he with rfl | rfl <;> rfl)
      subst q5
      have q6 : b6 = true := ready_all (k := 6) hr rfl (fun e he _ => by simp at he; subst he; rfl)
      subst q6
      have q7 : b7 = true := ready_all (k := 7) hr rfl (fun e he _ => by simp at he)
      subst q7
      have q9 : b9 = true := ready_all (k := 9) hr rfl (fun e he _ => by simp at he; rcases he with rfl | rfl <;> rfl)
      subst q9
      have q10 : b10 = true := ready_all (k := 10) hr rfl (fun e he _ => by simp at he; rcases he with rfl | rfl <;> rfl)
      subst q10
      have q11 : b11 = true := ready_all (k := 11) hr rfl (fun e he _ => by simp at he; subst he; rfl)
      subst q11
      have q12 : b12 = true := ready_all (k := 12) hr rfl (fun e he _ => by simp at he)
      subst q12
      have q14 : b14 = true := ready_all (k := 14) hr rfl (fun e he _ => by simp at he; rcases he with rfl | rfl <;> rfl)
      subst q14
      have q15 : b15 = true := ready_all (k := 15) hr rfl (fun e he _ => by simp at he; rcases he with rfl | rfl <;> rfl)
      subst q15
      have q16 : b16 = true := ready_all (k := 16) hr rfl (fun e he _ => by simp at he; subst he; rfl)
      subst q16
      have q18 : b18 = true := ready_all (k := 18) hr rfl (fun e he _ => by simp at he; rcases he with rfl | rfl | rfl | rfl | rfl | rfl | rfl <;> rfl)
      subst q18
      clear hr
      obtain ⟨n42, rfl, _⟩ := t3 rfl
      obtain ⟨n45, rfl⟩ := t6 rfl
      obtain ⟨tt, rfl, htt⟩ := t11 rfl
      obtain ⟨ii, rfl, hii⟩ := t16 rfl
      obtain ⟨_, _, _, _, rfl⟩ := t18 rfl
      clear t3 t5 t6 t7 t9 t10 t11 t12 t14 t15 t16 t18
      refine lastL rfl ?_
      simp only [putB, Act.put, List.setIfInBounds_toArray, List.set_cons_zero, List.set_cons_succ]
      have x0 := hDu.cell 0
      have x1 := hDu.cell 1
      have x2 := hDu.cell 2
      have x3 := hDu.cell 3
      have x4 := hDu.cell 4
      have x5 := hDu.cell 5
      have x6 := hDu.cell 6
      have x7 := hDu.cell 7
      have x8 := hDu.cell 8
      simp only [lgA, lgB, lgC] at x0 x1 x2 x3 x4 x5 x6 x7 x8
      have f0 := hDu.frozen 0
      have f1 := hDu.frozen 1
      have f2 := hDu.frozen 2
      have f3 := hDu.frozen 3
      have f4 := hDu.frozen 4
      have f5 := hDu.frozen 5
      have f6 := hDu.frozen 6
      have f7 := hDu.frozen 7
      have f8 := hDu.frozen 8
      go_wp2
      obtain ⟨W0, hg0⟩ := set9 hDu (.int .i64 5) (.string vol) (.string file) (.string tt) (.string ii) (.int .i64 at0) (.int .i64 n42) (.int .i64 n45) (.string ⟨#[]⟩)
      have hRW := hRu.grown hg0 hlt
      have hGW := grown_row hGu hg0 (fun k e => by cases e; exact Nat.le_refl _)
      generalize (((((((((u.setCell ⟨w.heap.size, 0, none⟩ (.int .i64 5)).setCell ⟨w.heap.size, 1, none⟩ (.string vol)).setCell ⟨w.heap.size, 2, none⟩ (.string file)).setCell ⟨w.heap.size, 3, none⟩ (.string tt)).setCell ⟨w.heap.size, 4, none⟩ (.string ii)).setCell ⟨w.heap.size, 5, none⟩ (.int .i64 at0)).setCell ⟨w.heap.size, 6, none⟩ (.int .i64 n42)).setCell ⟨w.heap.size, 7, none⟩ (.int .i64 n45)).setCell ⟨w.heap.size, 8, none⟩ (.string ⟨#[]⟩)) = W8 at *
      refine bodyPost_ret (results_cell_row rfl _ W8 w.heap.size _ _ _ _ rfl W0 Tryz.underlying102 rfl (by kernel_rfl)) rfl ?_
      exact ⟨⟨⟨5, vol, file, tt, ii, at0, n42, n45, ⟨#[]⟩⟩, rfl, ⟨(Nat.le_trans hvol1 (by decide)), (Nat.le_trans hfile1 (by decide)), (Nat.le_trans htt (by decide)), (Nat.le_trans hii (by decide)), str_nil⟩⟩, hRW, hGW⟩
    case step =>
      rintro a0 ⟨fsz, f39, f40, f41, f43, f47, f52, f56⟩
      rintro L a u i ⟨b3, b5, b6, b7, b9, b10, b11, b12, b14, b15, b16, b18, x42, x44, x45, x46, x48, x49, x50, x51, x53, x54, x55, x57, rfl, rfl, ⟨hRu, hGu, hDu⟩, t3, t5, t6, t7, t9, t10, t11, t12, t14, t15, t16, t18⟩ hi
      obtain ⟨h0, o, ho, hdep⟩ := mem_ready.1 hi
      have hi20 : i < 20 := (Array.getElem?_eq_some_iff.1 ho).1
      clear hi
      obtain rfl | rfl | rfl | rfl | rfl | rfl | rfl | rfl | rfl | rfl | rfl | rfl | rfl | rfl | rfl | rfl | rfl | rfl | rfl | rfl : i = 0 ∨ i = 1 ∨ i = 2 ∨ i = 3 ∨ i = 4 ∨ i = 5 ∨ i = 6 ∨ i = 7 ∨ i = 8 ∨ i = 9 ∨ i = 10 ∨ i = 11 ∨ i = 12 ∨ i = 13 ∨ i = 14 ∨ i = 15 ∨ i = 16 ∨ i = 17 ∨ i = 18 ∨ i = 19 := by omega
      · cases h0
      · cases h0
      · cases h0
      · have hb : b3 = false := h0
        subst hb
        simp only [List.getElem?_toArray, List.getElem?_cons_succ, List.getElem?_cons_zero, Option.some.injEq] at ho
        subst ho
        have hul := hRu.lt
        have e1 := (putB_e41 a0 x42 x44 x45 x46 x48 x49 x50 x51 x53 x54 x55 x57).trans f41
        refine wpOp_at rfl rfl (fun K hK => ?_)
        generalize hA : putB a0 x42 x44 x45 x46 x48 x49 x50 x51 x53 x54 x55 x57 = A at *
        replace e1 : A.tmps[41]?.getD undef = .pointer (some ⟨B, 0, none⟩) := by simpa [Act.eval] using e1
        go_simp
        try rw [e1]
        refine (spec_belowN B 4 u hRu (by omega) (by omega)).mono ?_
        rintro e u1 ⟨⟨n, rfl, hn⟩, hR1, hg1⟩
        dsimp only
        refine hK.out _ _ ⟨trivial, ?_⟩
        rw [← hA]
        exact ⟨true, b5, b6, b7, b9, b10, b11, b12, b14, b15, b16, b18, _, x44, x45, x46, x48, x49, x50, x51, x53, x54, x55, x57, rfl, putB_42 a0 x42 x44 x45 x46 x48 x49 x50 x51 x53 x54 x55 x57 _, ⟨hR1, grown_trans hGu hg1, hDu.grown hg1 (by omega)⟩, fun _ => ⟨n, rfl, hn⟩, t5, t6, fun h => (t7 h).grown hg1, t9, fun h => (t10 h).grown hg1, t11, fun h => (t12 h).grown hg1, t14, fun h => (t15 h).grown hg1, t16, fun h => absurd (t18 h).1 (by simp)⟩
      · cases h0
      · have hb : b5 = false := h0
        subst hb
        simp only [List.getElem?_toArray, List.getElem?_cons_succ, List.getElem?_cons_zero, Option.some.injEq] at ho
        subst ho
        have hul := hRu.lt
        have e1 := (putB_e43 a0 x42 x44 x45 x46 x48 x49 x50 x51 x53 x54 x55 x57).trans f43
        refine wpOp_at rfl rfl (fun K hK => ?_)
        generalize hA : putB a0 x42 x44 x45 x46 x48 x49 x50 x51 x53 x54 x55 x57 = A at *
        replace e1 : A.tmps[43]?.getD undef = .pointer (some ⟨B, 0, none⟩) := by simpa [Act.eval] using e1
        go_simp
        try rw [e1]
        refine (spec_belowN B 8 u hRu (by omega) (by omega)).mono ?_
        rintro e u1 ⟨⟨n, rfl, hn⟩, hR1, hg1⟩
        dsimp only
        refine hK.out _ _ ⟨trivial, ?_⟩
        rw [← hA]
        exact ⟨b3, true, b6, b7, b9, b10, b11, b12, b14, b15, b16, b18, x42, _, x45, x46, x48, x49, x50, x51, x53, x54, x55, x57, rfl, putB_44 a0 x42 x44 x45 x46 x48 x49 x50 x51 x53 x54 x55 x57 _, ⟨hR1, grown_trans hGu hg1, hDu.grown hg1 (by omega)⟩, t3, fun _ => ⟨n, rfl, hn⟩, t6, fun h => (t7 h).grown hg1, t9, fun h => (t10 h).grown hg1, t11, fun h => (t12 h).grown hg1, t14, fun h => (t15 h).grown hg1, t16, t18⟩
      · have hb : b6 = false := h0
        subst hb
        simp only [List.getElem?_toArray, List.getElem?_cons_succ, List.getElem?_cons_zero, Option.some.injEq] at ho
        subst ho
        have hul := hRu.lt
        have d5 : b5 = true := hdep ⟨5, .data⟩ (by simp) rfl
        obtain ⟨n, hx, hn⟩ := t5 d5
        have e1 := (putB_e44 fsz x42 x44 x45 x46 x48 x49 x50 x51 x53 x54 x55 x57).trans hx
        refine wpOp_at rfl rfl (fun K hK => ?_)
        generalize hA : putB a0 x42 x44 x45 x46 x48 x49 x50 x51 x53 x54 x55 x57 = A at *
        simp only [Oper.wp, execOp, e1]
        go_simp
        refine hK.out _ _ ⟨trivial, ?_⟩
        rw [← hA]
        exact ⟨b3, b5, true, b7, b9, b10, b11, b12, b14, b15, b16, b18, x42, x44, _, x46, x48, x49, x50, x51, x53, x54, x55, x57, rfl, putB_45 a0 x42 x44 x45 x46 x48 x49 x50 x51 x53 x54 x55 x57 _, ⟨hRu, hGu, hDu⟩, t3, t5, fun _ => ⟨_, rfl⟩, t7, t9, t10, t11, t12, t14, t15, t16, fun h => absurd (t18 h).2.1 (by simp)⟩
      · have hb : b7 = false := h0
        subst hb
        simp only [List.getElem?_toArray, List.getElem?_cons_succ, List.getElem?_cons_zero, Option.some.injEq] at ho
        subst ho
        have hul := hRu.lt
        refine wpOp_at rfl rfl (fun K hK => ?_)
        generalize hA : putB a0 x42 x44 x45 x46 x48 x49 x50 x51 x53 x54 x55 x57 = A at *
        go_simp
        refine hK.out _ _ ⟨trivial, ?_⟩
        rw [← hA]
        exact ⟨b3, b5, b6, true, b9, b10, b11, b12, b14, b15, b16, b18, x42, x44, x45, _, x48, x49, x50, x51, x53, x54, x55, x57, rfl, putB_46 a0 x42 x44 x45 x46 x48 x49 x50 x51 x53 x54 x55 x57 _, ⟨hRu.below (by go_grown), grown_below hGu (by go_grown), hDu.below (by go_grown)⟩, t3, t5, t6, fun _ => ⟨_, _, _, rfl, Blk.new _ _ _, rfl, (fun v hv => by simp at hv; rcases hv with rfl | rfl | rfl <;> exact ⟨_, rfl, by decide⟩), hul⟩, t9, fun h => (t10 h).below (by go_grown), t11, fun h => (t12 h).below (by go_grown), t14, fun h => (t15 h).below (by go_grown), t16, t18⟩
      · cases h0
      · have hb : b9 = false := h0
        subst hb
        simp only [List.getElem?_toArray, List.getElem?_cons_succ, List.getElem?_cons_zero, Option.some.injEq] at ho
        subst ho
        have hul := hRu.lt
        have e1 := (putB_e47 a0 x42 x44 x45 x46 x48 x49 x50 x51 x53 x54 x55 x57).trans f47
        refine wpOp_at rfl rfl (fun K hK => ?_)
        generalize hA : putB a0 x42 x44 x45 x46 x48 x49 x50 x51 x53 x54 x55 x57 = A at *
        replace e1 : A.tmps[47]?.getD undef = .pointer (some ⟨B, 0, none⟩) := by simpa [Act.eval] using e1
        go_simp
        try rw [e1]
        refine (spec_belowN B 3 u hRu (by omega) (by omega)).mono ?_
        rintro e u1 ⟨⟨n, rfl, hn⟩, hR1, hg1⟩
        dsimp only
        refine hK.out _ _ ⟨trivial, ?_⟩
        rw [← hA]
        exact ⟨b3, b5, b6, b7, true, b10, b11, b12, b14, b15, b16, b18, x42, x44, x45, x46, _, x49, x50, x51, x53, x54, x55, x57, rfl, putB_48 a0 x42 x44 x45 x46 x48 x49 x50 x51 x53 x54 x55 x57 _, ⟨hR1, grown_trans hGu hg1, hDu.grown hg1 (by omega)⟩, t3, t5, t6, fun h => (t7 h).grown hg1, fun _ => ⟨n, rfl, hn⟩, fun h => (t10 h).grown hg1, t11, fun h => (t12 h).grown hg1, t14, fun h => (t15 h).grown hg1, t16, t18⟩
      · have hb : b10 = false := h0
        subst hb
        simp only [List.getElem?_toArray, List.getElem?_cons_succ, List.getElem?_cons_zero, Option.some.injEq] at ho
        subst ho
        have hul := hRu.lt
        have dl : b7 = true := hdep ⟨7, .data⟩ (by simp) rfl
        have dn : b9 = true := hdep ⟨9, .data⟩ (by simp) rfl
        obtain ⟨lb, cs, lt, hx, hB, hcs, hall, hlb⟩ := t7 dl
        obtain ⟨n, hy, hn⟩ := t9 dn
        obtain ⟨s, hs, hs1⟩ := lit_at hB hcs hall hn
        have e1 := (putB_e46 fsz x42 x44 x45 x46 x48 x49 x50 x51 x53 x54 x55 x57).trans hx
        have e2 := (putB_e48 fsz x42 x44 x45 x46 x48 x49 x50 x51 x53 x54 x55 x57).trans hy
        have hn0 : (0 : Int) ≤ n := by omega
        have hnk : (n : Int) < 3 := by omega
        refine wpOp_at rfl rfl (fun K hK => ?_)
        generalize hA : putB a0 x42 x44 x45 x46 x48 x49 x50 x51 x53 x54 x55 x57 = A at *
        simp only [Oper.wp, execOp, e1, e2]
        go_simp
        refine hK.out _ _ ⟨trivial, ?_⟩
        rw [← hA]
        exact ⟨b3, b5, b6, b7, b9, true, b11, b12, b14, b15, b16, b18, x42, x44, x45, x46, x48, _, x50, x51, x53, x54, x55, x57, rfl, putB_49 a0 x42 x44 x45 x46 x48 x49 x50 x51 x53 x54 x55 x57 _, ⟨hRu, hGu, hDu⟩, t3, t5, t6, t7, t9, fun _ => ⟨lb, n, s, rfl, hs, hs1, hlb⟩, t11, t12, t14, t15, t16, t18⟩
      · have hb : b11 = false := h0
        subst hb
        simp only [List.getElem?_toArray, List.getElem?_cons_succ, List.getElem?_cons_zero, Option.some.injEq] at ho
        subst ho
        have hul := hRu.lt
        have dl : b10 = true := hdep ⟨10, .data⟩ (by simp) rfl
        obtain ⟨lb, li, s, hx, hs, hs1, hlb⟩ := t10 dl
        have e1 := (putB_e49 fsz x42 x44 x45 x46 x48 x49 x50 x51 x53 x54 x55 x57).trans hx
        refine wpOp_at rfl rfl (fun K hK => ?_)
        generalize hA : putB a0 x42 x44 x45 x46 x48 x49 x50 x51 x53 x54 x55 x57 = A at *
        simp only [Oper.wp, execOp, e1]
        go_simp
        refine hK.out _ _ ⟨trivial, ?_⟩
        rw [← hA]
        exact ⟨b3, b5, b6, b7, b9, b10, true, b12, b14, b15, b16, b18, x42, x44, x45, x46, x48, x49, _, x51, x53, x54, x55, x57, rfl, putB_50 a0 x42 x44 x45 x46 x48 x49 x50 x51 x53 x54 x55 x57 _, ⟨hRu, hGu, hDu⟩, t3, t5, t6, t7, t9, t10, fun _ => ⟨s, rfl, hs1⟩, t12, t14, t15, t16, fun h => absurd (t18 h).2.2.1 (by simp)⟩
      · have hb : b12 = false := h0
        subst hb
        simp only [List.getElem?_toArray, List.getElem?_cons_succ, List.getElem?_cons_zero, Option.some.injEq] at ho
        subst ho
        have hul := hRu.lt
        refine wpOp_at rfl rfl (fun K hK => ?_)
        generalize hA : putB a0 x42 x44 x45 x46 x48 x49 x50 x51 x53 x54 x55 x57 = A at *
        go_simp
        refine hK.out _ _ ⟨trivial, ?_⟩
        rw [← hA]
        exact ⟨b3, b5, b6, b7, b9, b10, b11, true, b14, b15, b16, b18, x42, x44, x45, x46, x48, x49, x50, _, x53, x54, x55, x57, rfl, putB_51 a0 x42 x44 x45 x46 x48 x49 x50 x51 x53 x54 x55 x57 _, ⟨hRu.below (by go_grown), grown_below hGu (by go_grown), hDu.below (by go_grown)⟩, t3, t5, t6, fun h => (t7 h).below (by go_grown), t9, fun h => (t10 h).below (by go_grown), t11, fun _ => ⟨_, _, _, rfl, Blk.new _ _ _, rfl, (fun v hv => by simp at hv; rcases hv with rfl | rfl <;> exact ⟨_, rfl, by decide⟩), hul⟩, t14, fun h => (t15 h).below (by go_grown), t16, t18⟩
      · cases h0
      · have hb : b14 = false := h0
        subst hb
        simp only [List.getElem?_toArray, List.getElem?_cons_succ, List.getElem?_cons_zero, Option.some.injEq] at ho
        subst ho
        have hul := hRu.lt
        have e1 := (putB_e52 a0 x42 x44 x45 x46 x48 x49 x50 x51 x53 x54 x55 x57).trans f52
        refine wpOp_at rfl rfl (fun K hK => ?_)
        generalize hA : putB a0 x42 x44 x45 x46 x48 x49 x50 x51 x53 x54 x55 x57 = A at *
        replace e1 : A.tmps[52]?.getD undef = .pointer (some ⟨B, 0, none⟩) := by simpa [Act.eval] using e1
        go_simp
        try rw [e1]
        refine (spec_belowN B 2 u hRu (by omega) (by omega)).mono ?_
        rintro e u1 ⟨⟨n, rfl, hn⟩, hR1, hg1⟩
        dsimp only
        refine hK.out _ _ ⟨trivial, ?_⟩
        rw [← hA]
        exact ⟨b3, b5, b6, b7, b9, b10, b11, b12, true, b15, b16, b18, x42, x44, x45, x46, x48, x49, x50, x51, _, x54, x55, x57, rfl, putB_53 a0 x42 x44 x45 x46 x48 x49 x50 x51 x53 x54 x55 x57 _, ⟨hR1, grown_trans hGu hg1, hDu.grown hg1 (by omega)⟩, t3, t5, t6, fun h => (t7 h).grown hg1, t9, fun h => (t10 h).grown hg1, t11, fun h => (t12 h).grown hg1, fun _ => ⟨n, rfl, hn⟩, fun h => (t15 h).grown hg1, t16, t18⟩
      · have hb : b15 = false := h0
        subst hb
        simp only [List.getElem?_toArray, List.getElem?_cons_succ, List.getElem?_cons_zero, Option.some.injEq] at ho
        subst ho
        have hul := hRu.lt
        have dl : b12 = true := hdep ⟨12, .data⟩ (by simp) rfl
        have dn : b14 = true := hdep ⟨14, .data⟩ (by simp) rfl
        obtain ⟨lb, cs, lt, hx, hB, hcs, hall, hlb⟩ := t12 dl
        obtain ⟨n, hy, hn⟩ := t14 dn
        obtain ⟨s, hs, hs1⟩ := lit_at hB hcs hall hn
        have e1 := (putB_e51 fsz x42 x44 x45 x46 x48 x49 x50 x51 x53 x54 x55 x57).trans hx
        have e2 := (putB_e53 fsz x42 x44 x45 x46 x48 x49 x50 x51 x53 x54 x55 x57).trans hy
        have hn0 : (0 : Int) ≤ n := by omega
        have hnk : (n : Int) < 2 := by omega
        refine wpOp_at rfl rfl (fun K hK => ?_)
        generalize hA : putB a0 x42 x44 x45 x46 x48 x49 x50 x51 x53 x54 x55 x57 = A at *
        simp only [Oper.wp, execOp, e1, e2]
        go_simp
        refine hK.out _ _ ⟨trivial, ?_⟩
        rw [← hA]
        exact ⟨b3, b5, b6, b7, b9, b10, b11, b12, b14, true, b16, b18, x42, x44, x45, x46, x48, x49, x50, x51, x53, _, x55, x57, rfl, putB_54 a0 x42 x44 x45 x46 x48 x49 x50 x51 x53 x54 x55 x57 _, ⟨hRu, hGu, hDu⟩, t3, t5, t6, t7, t9, t10, t11, t12, t14, fun _ => ⟨lb, n, s, rfl, hs, hs1, hlb⟩, t16, t18⟩
      · have hb : b16 = false := h0
        subst hb
        simp only [List.getElem?_toArray, List.getElem?_cons_succ, List.getElem?_cons_zero, Option.some.injEq] at ho
        subst ho
        have hul := hRu.lt
        have dl : b15 = true := hdep ⟨15, .data⟩ (by simp) rfl
        obtain ⟨lb, li, s, hx, hs, hs1, hlb⟩ := t15 dl
        have e1 := (putB_e54 fsz x42 x44 x45 x46 x48 x49 x50 x51 x53 x54 x55 x57).trans hx
        refine wpOp_at rfl rfl (fun K hK => ?_)
        generalize hA : putB a0 x42 x44 x45 x46 x48 x49 x50 x51 x53 x54 x55 x57 = A at *
        simp only [Oper.wp, execOp, e1]
        go_simp
        refine hK.out _ _ ⟨trivial, ?_⟩
        rw [← hA]
        exact ⟨b3, b5, b6, b7, b9, b10, b11, b12, b14, b15, true, b18, x42, x44, x45, x46, x48, x49, x50, x51, x53, x54, _, x57, rfl, putB_55 a0 x42 x44 x45 x46 x48 x49 x50 x51 x53 x54 x55 x57 _, ⟨hRu, hGu, hDu⟩, t3, t5, t6, t7, t9, t10, t11, t12, t14, t15, fun _ => ⟨s, rfl, hs1⟩, fun h => absurd (t18 h).2.2.2.1 (by simp)⟩
      · cases h0
      · have hb : b18 = false := h0
        subst hb
        simp only [List.getElem?_toArray, List.getElem?_cons_succ, List.getElem?_cons_zero, Option.some.injEq] at ho
        subst ho
        have hul := hRu.lt
        have d3 : b3 = true := hdep ⟨3, .data⟩ (by simp) rfl
        have d6 : b6 = true := hdep ⟨6, .data⟩ (by simp) rfl
        have d11 : b11 = true := hdep ⟨11, .data⟩ (by simp) rfl
        have d16 : b16 = true := hdep ⟨16, .data⟩ (by simp) rfl
        obtain ⟨n42, g42, _⟩ := t3 d3
        obtain ⟨n45, g45⟩ := t6 d6
        obtain ⟨s50, g50, _⟩ := t11 d11
        obtain ⟨s55, g55, _⟩ := t16 d16
        have e39 := (putB_e39 a0 x42 x44 x45 x46 x48 x49 x50 x51 x53 x54 x55 x57).trans f39
        have e40 := (putB_e40 a0 x42 x44 x45 x46 x48 x49 x50 x51 x53 x54 x55 x57).trans f40
        have e56 := (putB_e56 a0 x42 x44 x45 x46 x48 x49 x50 x51 x53 x54 x55 x57).trans f56
        have e42 := (putB_e42 fsz x42 x44 x45 x46 x48 x49 x50 x51 x53 x54 x55 x57).trans g42
        have e45 := (putB_e45 fsz x42 x44 x45 x46 x48 x49 x50 x51 x53 x54 x55 x57).trans g45
        have e50 := (putB_e50 fsz x42 x44 x45 x46 x48 x49 x50 x51 x53 x54 x55 x57).trans g50
        have e55 := (putB_e55 fsz x42 x44 x45 x46 x48 x49 x50 x51 x53 x54 x55 x57).trans g55
        refine wpOp_at rfl rfl (fun K hK => ?_)
        generalize hA : putB a0 x42 x44 x45 x46 x48 x49 x50 x51 x53 x54 x55 x57 = A at *
        simp only [Oper.wp, execOp, List.map_toArray, List.map_cons, List.map_nil, e39, e40, e56, e42, e45, e50, e55]
        go_simp
        refine hK.out _ _ ⟨trivial, ?_⟩
        rw [← hA]
        exact ⟨b3, b5, b6, b7, b9, b10, b11, b12, b14, b15, b16, true, x42, x44, x45, x46, x48, x49, x50, x51, x53, x54, x55, _, rfl, putB_57 a0 x42 x44 x45 x46 x48 x49 x50 x51 x53 x54 x55 x57 _, ⟨hRu, hGu, hDu⟩, t3, t5, t6, t7, t9, t10, t11, t12, t14, t15, t16, fun _ => ⟨d3, d6, d11, d16, by rw [g42, g45, g50, g55]⟩⟩
      · cases h0
  · have x0 := D4.cell 0
    have x1 := D4.cell 1
    have x2 := D4.cell 2
    have x3 := D4.cell 3
    have x4 := D4.cell 4
    have x5 := D4.cell 5
    have x6 := D4.cell 6
    have x7 := D4.cell 7
    have x8 := D4.cell 8
    simp only [lgA, lgB, lgC] at x0 x1 x2 x3 x4 x5 x6 x7 x8
    have f0 := D4.frozen 0
    have f1 := D4.frozen 1
    have f2 := D4.frozen 2
    have f3 := D4.frozen 3
    have f4 := D4.frozen 4
    have f5 := D4.frozen 5
    have f6 := D4.frozen 6
    have f7 := D4.frozen 7
    have f8 := D4.frozen 8
    go_wp2
    obtain ⟨W0, hg0⟩ := set9 D4 (.int .i64 1) (.string vol) (.string ⟨#[]⟩) (.string ⟨#[]⟩) (.string ⟨#[]⟩) (.int .i64 0) (.int .i64 0) (.int .i64 0) (.string ⟨#[]⟩)
    have hRW := hR4.grown hg0 hlt
    have hGW := grown_row hG4 hg0 (fun k e => by cases e; exact Nat.le_refl _)
    generalize (((((((((w4.setCell ⟨w.heap.size, 0, none⟩ (.int .i64 1)).setCell ⟨w.heap.size, 1, none⟩ (.string vol)).setCell ⟨w.heap.size, 2, none⟩ (.string ⟨#[]⟩)).setCell ⟨w.heap.size, 3, none⟩ (.string ⟨#[]⟩)).setCell ⟨w.heap.size, 4, none⟩ (.string ⟨#[]⟩)).setCell ⟨w.heap.size, 5, none⟩ (.int .i64 0)).setCell ⟨w.heap.size, 6, none⟩ (.int .i64 0)).setCell ⟨w.heap.size, 7, none⟩ (.int .i64 0)).setCell ⟨w.heap.size, 8, none⟩ (.string ⟨#[]⟩)) = W8 at *
    refine bodyPost_ret (results_cell_row rfl _ W8 w.heap.size _ _ _ _ rfl W0 Tryz.underlying102 rfl (by kernel_rfl)) rfl ?_
    exact ⟨⟨⟨1, vol, ⟨#[]⟩, ⟨#[]⟩, ⟨#[]⟩, 0, 0, 0, ⟨#[]⟩⟩, rfl, ⟨(Nat.le_trans hvol1 (by decide)), str_nil, str_nil, str_nil, str_nil⟩⟩, hRW, hGW⟩
  · have x0 := D4.cell 0
    have x1 := D4.cell 1
    have x2 := D4.cell 2
    have x3 := D4.cell 3
    have x4 := D4.cell 4
    have x5 := D4.cell 5
    have x6 := D4.cell 6
    have x7 := D4.cell 7
    have x8 := D4.cell 8
    simp only [lgA, lgB, lgC] at x0 x1 x2 x3 x4 x5 x6 x7 x8
    have f0 := D4.frozen 0
    have f1 := D4.frozen 1
    have f2 := D4.frozen 2
    have f3 := D4.frozen 3
    have f4 := D4.frozen 4
    have f5 := D4.frozen 5
    have f6 := D4.frozen 6
    have f7 := D4.frozen 7
    have f8 := D4.frozen 8
    go_wp2
    obtain ⟨W0, hg0⟩ := set9 D4 (.int .i64 3) (.string vol) (.string file) (.string ⟨#[]⟩) (.string ⟨#[]⟩) (.int .i64 0) (.int .i64 0) (.int .i64 at0) (.string ⟨#[]⟩)
    have hRW := hR4.grown hg0 hlt
    have hGW := grown_row hG4 hg0 (fun k e => by cases e; exact Nat.le_refl _)
    generalize (((((((((w4.setCell ⟨w.heap.size, 0, none⟩ (.int .i64 3)).setCell ⟨w.heap.size, 1, none⟩ (.string vol)).setCell ⟨w.heap.size, 2, none⟩ (.string file)).setCell ⟨w.heap.size, 3, none⟩ (.string ⟨#[]⟩)).setCell ⟨w.heap.size, 4, none⟩ (.string ⟨#[]⟩)).setCell ⟨w.heap.size, 5, none⟩ (.int .i64 0)).setCell ⟨w.heap.size, 6, none⟩ (.int .i64 0)).setCell ⟨w.heap.size, 7, none⟩ (.int .i64 at0)).setCell ⟨w.heap.size, 8, none⟩ (.string ⟨#[]⟩)) = W8 at *
    refine bodyPost_ret (results_cell_row rfl _ W8 w.heap.size _ _ _ _ rfl W0 Tryz.underlying102 rfl (by kernel_rfl)) rfl ?_
    exact ⟨⟨⟨3, vol, file, ⟨#[]⟩, ⟨#[]⟩, 0, 0, at0, ⟨#[]⟩⟩, rfl, ⟨(Nat.le_trans hvol1 (by decide)), (Nat.le_trans hfile1 (by decide)), str_nil, str_nil, str_nil⟩⟩, hRW, hGW⟩
  · have x0 := D4.cell 0
    have x1 := D4.cell 1
    have x2 := D4.cell 2
    have x3 := D4.cell 3
    have x4 := D4.cell 4
    have x5 := D4.cell 5
    have x6 := D4.cell 6
    have x7 := D4.cell 7
    have x8 := D4.cell 8
    simp only [lgA, lgB, lgC] at x0 x1 x2 x3 x4 x5 x6 x7 x8
    have f0 := D4.frozen 0
    have f1 := D4.frozen 1
    have f2 := D4.frozen 2
    have f3 := D4.frozen 3
    have f4 := D4.frozen 4
    have f5 := D4.frozen 5
    have f6 := D4.frozen 6
    have f7 := D4.frozen 7
    have f8 := D4.frozen 8
    go_wp2
    obtain ⟨W0, hg0⟩ := set9 D4 (.int .i64 4) (.string vol) (.string file) (.string ⟨#[]⟩) (.string ⟨#[]⟩) (.int .i64 0) (.int .i64 0) (.int .i64 0) (.string ⟨#[]⟩)
    have hRW := hR4.grown hg0 hlt
    have hGW := grown_row hG4 hg0 (fun k e => by cases e; exact Nat.le_refl _)
    generalize (((((((((w4.setCell ⟨w.heap.size, 0, none⟩ (.int .i64 4)).setCell ⟨w.heap.size, 1, none⟩ (.string vol)).setCell ⟨w.heap.size, 2, none⟩ (.string file)).setCell ⟨w.heap.size, 3, none⟩ (.string ⟨#[]⟩)).setCell ⟨w.heap.size, 4, none⟩ (.string ⟨#[]⟩)).setCell ⟨w.heap.size, 5, none⟩ (.int .i64 0)).setCell ⟨w.heap.size, 6, none⟩ (.int .i64 0)).setCell ⟨w.heap.size, 7, none⟩ (.int .i64 0)).setCell ⟨w.heap.size, 8, none⟩ (.string ⟨#[]⟩)) = W8 at *
    refine bodyPost_ret (results_cell_row rfl _ W8 w.heap.size _ _ _ _ rfl W0 Tryz.underlying102 rfl (by kernel_rfl)) rfl ?_
    exact ⟨⟨⟨4, vol, file, ⟨#[]⟩, ⟨#[]⟩, 0, 0, 0, ⟨#[]⟩⟩, rfl, ⟨(Nat.le_trans hvol1 (by decide)), (Nat.le_trans hfile1 (by decide)), str_nil, str_nil, str_nil⟩⟩, hRW, hGW⟩
  · go_wp2_with fail
    refine (spec_belowN B 3 _ (hR4.below (by go_grown)) (by omega) (by omega)).mono ?_
    rintro e w5 ⟨⟨j5, rfl, hx5⟩, hR5, hg5⟩
    have D5 := (D4.alloc _).grown hg5 (by omega)
    have L5 := (Blk.new w4 #[.string ⟨#[118]⟩, .string ⟨#[119]⟩, .string ⟨#[120]⟩] 9).grown hg5 (by omega)
    have hG5 := grown_trans (grown_below hG4 (by go_grown)) hg5
    obtain ⟨tt, htc, htt⟩ := lit_at L5 rfl (fun v hv => by simp at hv; rcases hv with rfl | rfl | rfl <;> exact ⟨_, rfl, by decide⟩) hx5
    have x0 := D5.cell 0
    have x1 := D5.cell 1
    have x2 := D5.cell 2
    have x3 := D5.cell 3
    have x4 := D5.cell 4
    have x5 := D5.cell 5
    have x6 := D5.cell 6
    have x7 := D5.cell 7
    have x8 := D5.cell 8
    simp only [lgA, lgB, lgC] at x0 x1 x2 x3 x4 x5 x6 x7 x8
    have f0 := D5.frozen 0
    have f1 := D5.frozen 1
    have f2 := D5.frozen 2
    have f3 := D5.frozen 3
    have f4 := D5.frozen 4
    have f5 := D5.frozen 5
    have f6 := D5.frozen 6
    have f7 := D5.frozen 7
    have f8 := D5.frozen 8
    go_wp2
    obtain ⟨W0, hg0⟩ := set9 D5 (.int .i64 6) (.string vol) (.string ⟨#[]⟩) (.string tt) (.string ⟨#[]⟩) (.int .i64 0) (.int .i64 0) (.int .i64 0) (.string ⟨#[]⟩)
    have hRW := hR5.grown hg0 hlt
    have hGW := grown_row hG5 hg0 (fun k e => by cases e; exact Nat.le_refl _)
    generalize (((((((((w5.setCell ⟨w.heap.size, 0, none⟩ (.int .i64 6)).setCell ⟨w.heap.size, 1, none⟩ (.string vol)).setCell ⟨w.heap.size, 2, none⟩ (.string ⟨#[]⟩)).setCell ⟨w.heap.size, 3, none⟩ (.string tt)).setCell ⟨w.heap.size, 4, none⟩ (.string ⟨#[]⟩)).setCell ⟨w.heap.size, 5, none⟩ (.int .i64 0)).setCell ⟨w.heap.size, 6, none⟩ (.int .i64 0)).setCell ⟨w.heap.size, 7, none⟩ (.int .i64 0)).setCell ⟨w.heap.size, 8, none⟩ (.string ⟨#[]⟩)) = W8 at *
    refine bodyPost_ret (results_cell_row rfl _ W8 w.heap.size _ _ _ _ rfl W0 Tryz.underlying102 rfl (by kernel_rfl)) rfl ?_
    exact ⟨⟨⟨6, vol, ⟨#[]⟩, tt, ⟨#[]⟩, 0, 0, 0, ⟨#[]⟩⟩, rfl, ⟨(Nat.le_trans hvol1 (by decide)), str_nil, (Nat.le_trans htt (by decide)), str_nil, str_nil⟩⟩, hRW, hGW⟩
  · go_wp2_with fail
    refine (spec_belowN B 3 _ (hR4.below (by go_grown)) (by omega) (by omega)).mono ?_
    rintro e w5 ⟨⟨j5, rfl, hx5⟩, hR5, hg5⟩
    have D5 := (D4.alloc _).grown hg5 (by omega)
    have L5 := (Blk.new w4 #[.string ⟨#[118]⟩, .string ⟨#[119]⟩, .string ⟨#[120]⟩] 9).grown hg5 (by omega)
    have hG5 := grown_trans (grown_below hG4 (by go_grown)) hg5
    obtain ⟨tt, htc, htt⟩ := lit_at L5 rfl (fun v hv => by simp at hv; rcases hv with rfl | rfl | rfl <;> exact ⟨_, rfl, by decide⟩) hx5
    have x0 := D5.cell 0
    have x1 := D5.cell 1
    have x2 := D5.cell 2
    have x3 := D5.cell 3
    have x4 := D5.cell 4
    have x5 := D5.cell 5
    have x6 := D5.cell 6
    have x7 := D5.cell 7
    have x8 := D5.cell 8
    simp only [lgA, lgB, lgC] at x0 x1 x2 x3 x4 x5 x6 x7 x8
    have f0 := D5.frozen 0
    have f1 := D5.frozen 1
    have f2 := D5.frozen 2
    have f3 := D5.frozen 3
    have f4 := D5.frozen 4
    have f5 := D5.frozen 5
    have f6 := D5.frozen 6
    have f7 := D5.frozen 7
    have f8 := D5.frozen 8
    go_wp2
    obtain ⟨W0, hg0⟩ := set9 D5 (.int .i64 6) (.string vol) (.string ⟨#[]⟩) (.string tt) (.string ⟨#[]⟩) (.int .i64 0) (.int .i64 0) (.int .i64 0) (.string ⟨#[]⟩)
    have hRW := hR5.grown hg0 hlt
    have hGW := grown_row hG5 hg0 (fun k e => by cases e; exact Nat.le_refl _)
    generalize (((((((((w5.setCell ⟨w.heap.size, 0, none⟩ (.int .i64 6)).setCell ⟨w.heap.size, 1, none⟩ (.string vol)).setCell ⟨w.heap.size, 2, none⟩ (.string ⟨#[]⟩)).setCell ⟨w.heap.size, 3, none⟩ (.string tt)).setCell ⟨w.heap.size, 4, none⟩ (.string ⟨#[]⟩)).setCell ⟨w.heap.size, 5, none⟩ (.int .i64 0)).setCell ⟨w.heap.size, 6, none⟩ (.int .i64 0)).setCell ⟨w.heap.size, 7, none⟩ (.int .i64 0)).setCell ⟨w.heap.size, 8, none⟩ (.string ⟨#[]⟩)) = W8 at *
    refine bodyPost_ret (results_cell_row rfl _ W8 w.heap.size _ _ _ _ rfl W0 Tryz.underlying102 rfl (by kernel_rfl)) rfl ?_
    exact ⟨⟨⟨6, vol, ⟨#[]⟩, tt, ⟨#[]⟩, 0, 0, 0, ⟨#[]⟩⟩, rfl, ⟨(Nat.le_trans hvol1 (by decide)), str_nil, (Nat.le_trans htt (by decide)), str_nil, str_nil⟩⟩, hRW, hGW⟩
  · have x0 := D4.cell 0
    have x1 := D4.cell 1
    have x2 := D4.cell 2
    have x3 := D4.cell 3
    have x4 := D4.cell 4
    have x5 := D4.cell 5
    have x6 := D4.cell 6
    have x7 := D4.cell 7
    have x8 := D4.cell 8
    simp only [lgA, lgB, lgC] at x0 x1 x2 x3 x4 x5 x6 x7 x8
    have f0 := D4.frozen 0
    have f1 := D4.frozen 1
    have f2 := D4.frozen 2
    have f3 := D4.frozen 3
    have f4 := D4.frozen 4
    have f5 := D4.frozen 5
    have f6 := D4.frozen 6
    have f7 := D4.frozen 7
    have f8 := D4.frozen 8
    go_wp2
    obtain ⟨W0, hg0⟩ := set9 D4 (.int .i64 7) (.string vol) (.string ⟨#[]⟩) (.string ⟨#[]⟩) (.string ⟨#[]⟩) (.int .i64 0) (.int .i64 0) (.int .i64 0) (.string ⟨#[]⟩)
    have hRW := hR4.grown hg0 hlt
    have hGW := grown_row hG4 hg0 (fun k e => by cases e; exact Nat.le_refl _)
    generalize (((((((((w4.setCell ⟨w.heap.size, 0, none⟩ (.int .i64 7)).setCell ⟨w.heap.size, 1, none⟩ (.string vol)).setCell ⟨w.heap.size, 2, none⟩ (.string ⟨#[]⟩)).setCell ⟨w.heap.size, 3, none⟩ (.string ⟨#[]⟩)).setCell ⟨w.heap.size, 4, none⟩ (.string ⟨#[]⟩)).setCell ⟨w.heap.size, 5, none⟩ (.int .i64 0)).setCell ⟨w.heap.size, 6, none⟩ (.int .i64 0)).setCell ⟨w.heap.size, 7, none⟩ (.int .i64 0)).setCell ⟨w.heap.size, 8, none⟩ (.string ⟨#[]⟩)) = W8 at *
    refine bodyPost_ret (results_cell_row rfl _ W8 w.heap.size _ _ _ _ rfl W0 Tryz.underlying102 rfl (by kernel_rfl)) rfl ?_
    exact ⟨⟨⟨7, vol, ⟨#[]⟩, ⟨#[]⟩, ⟨#[]⟩, 0, 0, 0, ⟨#[]⟩⟩, rfl, ⟨(Nat.le_trans hvol1 (by decide)), str_nil, str_nil, str_nil, str_nil⟩⟩, hRW, hGW⟩
  · go_wp2_with fail
    refine (spec_once B 3 _ hR4 (by omega) (by omega)).mono ?_
    rintro e w5 ⟨⟨b5, rfl⟩, hR5, hg5⟩
    have D5 := D4.grown hg5 (by omega)
    have hG5 := grown_trans hG4 hg5
    cases b5
    · have x0 := D5.cell 0
      have x1 := D5.cell 1
      have x2 := D5.cell 2
      have x3 := D5.cell 3
      have x4 := D5.cell 4
      have x5 := D5.cell 5
      have x6 := D5.cell 6
      have x7 := D5.cell 7
      have x8 := D5.cell 8
      simp only [lgA, lgB, lgC] at x0 x1 x2 x3 x4 x5 x6 x7 x8
      have f0 := D5.frozen 0
      have f1 := D5.frozen 1
      have f2 := D5.frozen 2
      have f3 := D5.frozen 3
      have f4 := D5.frozen 4
      have f5 := D5.frozen 5
      have f6 := D5.frozen 6
      have f7 := D5.frozen 7
      have f8 := D5.frozen 8
      go_wp2
      obtain ⟨W0, hg0⟩ := set9 D5 (.int .i64 9) (.string ⟨#[]⟩) (.string ⟨#[]⟩) (.string ⟨#[]⟩) (.string ⟨#[]⟩) (.int .i64 0) (.int .i64 0) (.int .i64 0) (.string ⟨#[]⟩)
      have hRW := hR5.grown hg0 hlt
      have hGW := grown_row hG5 hg0 (fun k e => by cases e; exact Nat.le_refl _)
      generalize (((((((((w5.setCell ⟨w.heap.size, 0, none⟩ (.int .i64 9)).setCell ⟨w.heap.size, 1, none⟩ (.string ⟨#[]⟩)).setCell ⟨w.heap.size, 2, none⟩ (.string ⟨#[]⟩)).setCell ⟨w.heap.size, 3, none⟩ (.string ⟨#[]⟩)).setCell ⟨w.heap.size, 4, none⟩ (.string ⟨#[]⟩)).setCell ⟨w.heap.size, 5, none⟩ (.int .i64 0)).setCell ⟨w.heap.size, 6, none⟩ (.int .i64 0)).setCell ⟨w.heap.size, 7, none⟩ (.int .i64 0)).setCell ⟨w.heap.size, 8, none⟩ (.string ⟨#[]⟩)) = W8 at *
      refine bodyPost_ret (results_cell_row rfl _ W8 w.heap.size _ _ _ _ rfl W0 Tryz.underlying102 rfl (by kernel_rfl)) rfl ?_
      exact ⟨⟨⟨9, ⟨#[]⟩, ⟨#[]⟩, ⟨#[]⟩, ⟨#[]⟩, 0, 0, 0, ⟨#[]⟩⟩, rfl, ⟨str_nil, str_nil, str_nil, str_nil, str_nil⟩⟩, hRW, hGW⟩
    · have x0 := D5.cell 0
      have x1 := D5.cell 1
      have x2 := D5.cell 2
      have x3 := D5.cell 3
      have x4 := D5.cell 4
      have x5 := D5.cell 5
      have x6 := D5.cell 6
      have x7 := D5.cell 7
      have x8 := D5.cell 8
      simp only [lgA, lgB, lgC] at x0 x1 x2 x3 x4 x5 x6 x7 x8
      have f0 := D5.frozen 0
      have f1 := D5.frozen 1
      have f2 := D5.frozen 2
      have f3 := D5.frozen 3
      have f4 := D5.frozen 4
      have f5 := D5.frozen 5
      have f6 := D5.frozen 6
      have f7 := D5.frozen 7
      have f8 := D5.frozen 8
      go_wp2
      obtain ⟨W0, hg0⟩ := set9 D5 (.int .i64 8) (.string vol) (.string ⟨#[]⟩) (.string ⟨#[]⟩) (.string ⟨#[]⟩) (.int .i64 0) (.int .i64 0) (.int .i64 0) (.string ⟨#[]⟩)
      have hRW := hR5.grown hg0 hlt
      have hGW := grown_row hG5 hg0 (fun k e => by cases e; exact Nat.le_refl _)
      generalize (((((((((w5.setCell ⟨w.heap.size, 0, none⟩ (.int .i64 8)).setCell ⟨w.heap.size, 1, none⟩ (.string vol)).setCell ⟨w.heap.size, 2, none⟩ (.string ⟨#[]⟩)).setCell ⟨w.heap.size, 3, none⟩ (.string ⟨#[]⟩)).setCell ⟨w.heap.size, 4, none⟩ (.string ⟨#[]⟩)).setCell ⟨w.heap.size, 5, none⟩ (.int .i64 0)).setCell ⟨w.heap.size, 6, none⟩ (.int .i64 0)).setCell ⟨w.heap.size, 7, none⟩ (.int .i64 0)).setCell ⟨w.heap.size, 8, none⟩ (.string ⟨#[]⟩)) = W8 at *
      refine bodyPost_ret (results_cell_row rfl _ W8 w.heap.size _ _ _ _ rfl W0 Tryz.underlying102 rfl (by kernel_rfl)) rfl ?_
      exact ⟨⟨⟨8, vol, ⟨#[]⟩, ⟨#[]⟩, ⟨#[]⟩, 0, 0, 0, ⟨#[]⟩⟩, rfl, ⟨(Nat.le_trans hvol1 (by decide)), str_nil, str_nil, str_nil, str_nil⟩⟩, hRW, hGW⟩
  · have x0 := D4.cell 0
    have x1 := D4.cell 1
    have x2 := D4.cell 2
    have x3 := D4.cell 3
    have x4 := D4.cell 4
    have x5 := D4.cell 5
    have x6 := D4.cell 6
    have x7 := D4.cell 7
    have x8 := D4.cell 8
    simp only [lgA, lgB, lgC] at x0 x1 x2 x3 x4 x5 x6 x7 x8
    have f0 := D4.frozen 0
    have f1 := D4.frozen 1
    have f2 := D4.frozen 2
    have f3 := D4.frozen 3
    have f4 := D4.frozen 4
    have f5 := D4.frozen 5
    have f6 := D4.frozen 6
    have f7 := D4.frozen 7
    have f8 := D4.frozen 8
    go_wp2
    obtain ⟨W0, hg0⟩ := set9 D4 (.int .i64 9) (.string ⟨#[]⟩) (.string ⟨#[]⟩) (.string ⟨#[]⟩) (.string ⟨#[]⟩) (.int .i64 0) (.int .i64 0) (.int .i64 0) (.string ⟨#[]⟩)
    have hRW := hR4.grown hg0 hlt
    have hGW := grown_row hG4 hg0 (fun k e => by cases e; exact Nat.le_refl _)
    generalize (((((((((w4.setCell ⟨w.heap.size, 0, none⟩ (.int .i64 9)).setCell ⟨w.heap.size, 1, none⟩ (.string ⟨#[]⟩)).setCell ⟨w.heap.size, 2, none⟩ (.string ⟨#[]⟩)).setCell ⟨w.heap.size, 3, none⟩ (.string ⟨#[]⟩)).setCell ⟨w.heap.size, 4, none⟩ (.string ⟨#[]⟩)).setCell ⟨w.heap.size, 5, none⟩ (.int .i64 0)).setCell ⟨w.heap.size, 6, none⟩ (.int .i64 0)).setCell ⟨w.heap.size, 7, none⟩ (.int .i64 0)).setCell ⟨w.heap.size, 8, none⟩ (.string ⟨#[]⟩)) = W8 at *
    refine bodyPost_ret (results_cell_row rfl _ W8 w.heap.size _ _ _ _ rfl W0 Tryz.underlying102 rfl (by kernel_rfl)) rfl ?_
    exact ⟨⟨⟨9, ⟨#[]⟩, ⟨#[]⟩, ⟨#[]⟩, ⟨#[]⟩, 0, 0, 0, ⟨#[]⟩⟩, rfl, ⟨str_nil, str_nil, str_nil, str_nil, str_nil⟩⟩, hRW, hGW⟩
  · go_wp2_with fail
    refine (spec_belowN B 6 _ hR4 (by omega) (by omega)).mono ?_
    rintro e w5 ⟨⟨j5, rfl, hx5⟩, hR5, hg5⟩
    have D5 := D4.grown hg5 (by omega)
    have hG5 := grown_trans hG4 hg5
    have x0 := D5.cell 0
    have x1 := D5.cell 1
    have x2 := D5.cell 2
    have x3 := D5.cell 3
    have x4 := D5.cell 4
    have x5 := D5.cell 5
    have x6 := D5.cell 6
    have x7 := D5.cell 7
    have x8 := D5.cell 8
    simp only [lgA, lgB, lgC] at x0 x1 x2 x3 x4 x5 x6 x7 x8
    have f0 := D5.frozen 0
    have f1 := D5.frozen 1
    have f2 := D5.frozen 2
    have f3 := D5.frozen 3
    have f4 := D5.frozen 4
    have f5 := D5.frozen 5
    have f6 := D5.frozen 6
    have f7 := D5.frozen 7
    have f8 := D5.frozen 8
    go_wp2
    obtain ⟨W0, hg0⟩ := set9 D5 (.int .i64 10) (.string vol) (.string file) (.string ⟨#[]⟩) (.string ⟨#[]⟩) (.int .i64 at0) (.int .i64 0) (.int .i64 (1 + (j5 : Int))) (.string ⟨#[]⟩)
    have hRW := hR5.grown hg0 hlt
    have hGW := grown_row hG5 hg0 (fun k e => by cases e; exact Nat.le_refl _)
    generalize (((((((((w5.setCell ⟨w.heap.size, 0, none⟩ (.int .i64 10)).setCell ⟨w.heap.size, 1, none⟩ (.string vol)).setCell ⟨w.heap.size, 2, none⟩ (.string file)).setCell ⟨w.heap.size, 3, none⟩ (.string ⟨#[]⟩)).setCell ⟨w.heap.size, 4, none⟩ (.string ⟨#[]⟩)).setCell ⟨w.heap.size, 5, none⟩ (.int .i64 at0)).setCell ⟨w.heap.size, 6, none⟩ (.int .i64 0)).setCell ⟨w.heap.size, 7, none⟩ (.int .i64 (1 + (j5 : Int)))).setCell ⟨w.heap.size, 8, none⟩ (.string ⟨#[]⟩)) = W8 at *
    refine bodyPost_ret (results_cell_row rfl _ W8 w.heap.size _ _ _ _ rfl W0 Tryz.underlying102 rfl (by kernel_rfl)) rfl ?_
    exact ⟨⟨⟨10, vol, file, ⟨#[]⟩, ⟨#[]⟩, at0, 0, 1 + (j5 : Int), ⟨#[]⟩⟩, rfl, ⟨(Nat.le_trans hvol1 (by decide)), (Nat.le_trans hfile1 (by decide)), str_nil, str_nil, str_nil⟩⟩, hRW, hGW⟩
  · have nz0 : ¬ (z : Int) = 0 := by omega
    have nz1 : ¬ (z : Int) = 1 := by omega
    have nz2 : ¬ (z : Int) = 2 := by omega
    have nz3 : ¬ (z : Int) = 3 := by omega
    have nz4 : ¬ (z : Int) = 4 := by omega
    have nz5 : ¬ (z : Int) = 5 := by omega
    have nz6 : ¬ (z : Int) = 6 := by omega
    have nz7 : ¬ (z : Int) = 7 := by omega
    have nz8 : ¬ (z : Int) = 8 := by omega
    have nz9 : ¬ (z : Int) = 9 := by omega
    have nz10 : ¬ (z : Int) = 10 := by omega
    go_wp2_with fail
    refine (spec_data B _ hR4).mono ?_
    rintro e w5 ⟨⟨dd, rfl, hdd⟩, hR5, hg5⟩
    have D5 := D4.grown hg5 (by omega)
    have hG5 := grown_trans hG4 hg5
    have hl5 := hR5.lt
    have hs5 := hg5.size
    clear nz0 nz1 nz2 nz3 nz4 nz5 nz6 nz7 nz8 nz9 nz10
    go_wp2_with fail
    refine (spec_once B 30 _ (hR5.below (by go_grown)) (by omega) (by omega)).mono ?_
    rintro e w6 ⟨⟨b6, rfl⟩, hR6, hg6⟩
    have D6 := (D5.alloc _).grown hg6 (by omega)
    have P6 := (Blk.new w5 #[.int .i64 2, .string vol, .string file, .string ⟨#[]⟩, .string ⟨#[]⟩, .int .i64 at0, .int .i64 0, .int .i64 0, .string dd] 102).grown hg6 (by omega)
    have hG6 := grown_trans (grown_below hG5 (by go_grown)) hg6
    have hw5 : w.heap.size < w5.heap.size := by have := D5.lt; omega
    have hne5 : ¬ w.heap.size = w5.heap.size := by omega
    have hne6 : ¬ w5.heap.size = w.heap.size := by omega
    cases b6
    · have p0 := P6.cell 0
      have p1 := P6.cell 1
      have p2 := P6.cell 2
      have p3 := P6.cell 3
      have p4 := P6.cell 4
      have p5 := P6.cell 5
      have p6 := P6.cell 6
      have p7 := P6.cell 7
      have p8 := P6.cell 8
      simp only [lgA, lgB, lgC] at p0 p1 p2 p3 p4 p5 p6 p7 p8
      have q0 := P6.frozen 0
      have q1 := P6.frozen 1
      have q2 := P6.frozen 2
      have q3 := P6.frozen 3
      have q4 := P6.frozen 4
      have q5 := P6.frozen 5
      have q6 := P6.frozen 6
      have q7 := P6.frozen 7
      have q8 := P6.frozen 8
      have x0 := D6.cell 0
      have x1 := D6.cell 1
      have x2 := D6.cell 2
      have x3 := D6.cell 3
      have x4 := D6.cell 4
      have x5 := D6.cell 5
      have x6 := D6.cell 6
      have x7 := D6.cell 7
      have x8 := D6.cell 8
      simp only [lgA, lgB, lgC] at x0 x1 x2 x3 x4 x5 x6 x7 x8
      have f0 := D6.frozen 0
      have f1 := D6.frozen 1
      have f2 := D6.frozen 2
      have f3 := D6.frozen 3
      have f4 := D6.frozen 4
      have f5 := D6.frozen 5
      have f6 := D6.frozen 6
      have f7 := D6.frozen 7
      have f8 := D6.frozen 8
      go_wp2
      obtain ⟨W0, hg0⟩ := set9 D6 (.int .i64 2) (.string vol) (.string file) (.string ⟨#[]⟩) (.string ⟨#[]⟩) (.int .i64 at0) (.int .i64 0) (.int .i64 0) (.string dd)
      have hRW := hR6.grown hg0 hlt
      have hGW := grown_row hG6 hg0 (fun k e => by cases e; exact Nat.le_refl _)
      generalize (((((((((w6.setCell ⟨w.heap.size, 0, none⟩ (.int .i64 2)).setCell ⟨w.heap.size, 1, none⟩ (.string vol)).setCell ⟨w.heap.size, 2, none⟩ (.string file)).setCell ⟨w.heap.size, 3, none⟩ (.string ⟨#[]⟩)).setCell ⟨w.heap.size, 4, none⟩ (.string ⟨#[]⟩)).setCell ⟨w.heap.size, 5, none⟩ (.int .i64 at0)).setCell ⟨w.heap.size, 6, none⟩ (.int .i64 0)).setCell ⟨w.heap.size, 7, none⟩ (.int .i64 0)).setCell ⟨w.heap.size, 8, none⟩ (.string dd)) = W8 at *
      refine bodyPost_ret (results_cell_row rfl _ W8 w.heap.size _ _ _ _ rfl W0 Tryz.underlying102 rfl (by kernel_rfl)) rfl ?_
      exact ⟨⟨⟨2, vol, file, ⟨#[]⟩, ⟨#[]⟩, at0, 0, 0, dd⟩, rfl, ⟨(Nat.le_trans hvol1 (by decide)), (Nat.le_trans hfile1 (by decide)), str_nil, str_nil, (Nat.le_trans hdd (by decide))⟩⟩, hRW, hGW⟩
    · go_wp2_with fail
      refine (spec_off B 0 100 _ hR6 (by omega) (by omega) (by omega)).mono ?_
      rintro e w7 ⟨⟨v7, rfl, hv7, hv7'⟩, hR7, hg7⟩
      have D7 := D6.grown hg7 (by omega)
      have P7 := P6.grown hg7 (by omega)
      have hG7 := grown_trans hG6 hg7
      have p0 := P7.cell 0
      have p1 := P7.cell 1
      have p2 := P7.cell 2
      have p3 := P7.cell 3
      have p4 := P7.cell 4
      have p5 := P7.cell 5
      have p6 := P7.cell 6
      have p7 := P7.cell 7
      have p8 := P7.cell 8
      simp only [lgA, lgB, lgC] at p0 p1 p2 p3 p4 p5 p6 p7 p8
      have q0 := P7.frozen 0
      have q1 := P7.frozen 1
      have q2 := P7.frozen 2
      have q3 := P7.frozen 3
      have q4 := P7.frozen 4
      have q5 := P7.frozen 5
      have q6 := P7.frozen 6
      have q7 := P7.frozen 7
      have q8 := P7.frozen 8
      have x0 := D7.cell 0
      have x1 := D7.cell 1
      have x2 := D7.cell 2
      have x3 := D7.cell 3
      have x4 := D7.cell 4
      have x5 := D7.cell 5
      have x6 := D7.cell 6
      have x7 := D7.cell 7
      have x8 := D7.cell 8
      simp only [lgA, lgB, lgC] at x0 x1 x2 x3 x4 x5 x6 x7 x8
      have f0 := D7.frozen 0
      have f1 := D7.frozen 1
      have f2 := D7.frozen 2
      have f3 := D7.frozen 3
      have f4 := D7.frozen 4
      have f5 := D7.frozen 5
      have f6 := D7.frozen 6
      have f7 := D7.frozen 7
      have f8 := D7.frozen 8
      go_wp2
      have hg8 := gset w7 w5.heap.size 5 (.int .i64 v7)
      have D8 := D7.grown hg8 (by omega)
      have hR8 := hR7.grown hg8 (by omega)
      have hG8 := grown_row hG7 hg8 (fun k e => by cases e; omega)
      obtain ⟨W0, hg0⟩ := set9 D8 (.int .i64 2) (.string vol) (.string file) (.string ⟨#[]⟩) (.string ⟨#[]⟩) (.int .i64 v7) (.int .i64 0) (.int .i64 0) (.string dd)
      have hRW := hR8.grown hg0 hlt
      have hGW := grown_row hG8 hg0 (fun k e => by cases e; exact Nat.le_refl _)
      generalize ((((((((((w7.setCell ⟨w5.heap.size, 5, none⟩ (.int .i64 v7)).setCell ⟨w.heap.size, 0, none⟩ (.int .i64 2)).setCell ⟨w.heap.size, 1, none⟩ (.string vol)).setCell ⟨w.heap.size, 2, none⟩ (.string file)).setCell ⟨w.heap.size, 3, none⟩ (.string ⟨#[]⟩)).setCell ⟨w.heap.size, 4, none⟩ (.string ⟨#[]⟩)).setCell ⟨w.heap.size, 5, none⟩ (.int .i64 v7)).setCell ⟨w.heap.size, 6, none⟩ (.int .i64 0)).setCell ⟨w.heap.size, 7, none⟩ (.int .i64 0)).setCell ⟨w.heap.size, 8, none⟩ (.string dd)) = W8 at *
      refine bodyPost_ret (results_cell_row rfl _ W8 w.heap.size _ _ _ _ rfl W0 Tryz.underlying102 rfl (by kernel_rfl)) rfl ?_
      exact ⟨⟨⟨2, vol, file, ⟨#[]⟩, ⟨#[]⟩, v7, 0, 0, dd⟩, rfl, ⟨(Nat.le_trans hvol1 (by decide)), (Nat.le_trans hfile1 (by decide)), str_nil, str_nil, (Nat.le_trans hdd (by decide))⟩⟩, hRW, hGW⟩
end Go.Proofs.YtnjefbkhibfgmaaGreat
