/- What is drawn for the laws over pools: an extent, a volume. -/
import Derived.Test.YtnjefbkhibfgmaaGreatLDAskedx42
import Derived.Test.YtnjefbkhibfgmaaGreatLDAskedx09
import Derived.Test.YtnjefbkhibfgmaaGreatProg
namespace Go.Proofs.YtnjefbkhibfgmaaGreat
open Go Go.RowKit Go.BigFrame
theorem PoolT.exs {B : Nat} {w : World} {p : Po} {s n v1 v2 v3 : Value} {ea : Option Addr} {en ec : Nat} (h : PoolT B w (.agg #[s, n, .slice ea en ec, v1, v2, v3]) p) : ExsAt w ea en p.ex := by
  obtain ⟨_, _, _, _, _, _, _, _, _, _, _, _, rws, hv, h1, _⟩ := h
  simp only [Value.agg.injEq, Array.mk.injEq, List.cons.injEq, Value.slice.injEq, and_true] at hv
  obtain ⟨_, _, ⟨rfl, rfl, rfl⟩, _⟩ := hv
  exact h1.sl
set_option maxHeartbeats 4000000 in
set_option maxRecDepth 100000 in
theorem spec_DrawOwnersOf (a : Option Addr) (n cap : Nat) (w : World) (h : CodeAt w a n) (hn : n ≤ 1048576) :
    Calls Tryz.prog 19 #[.slice a n cap] w fun e w' => (∃ v p addr, e = .returned (.tuple #[v, .int .i64 addr]) ∧ PoolT (w.heap.size + 1) w' v p ∧ DimQ p) ∧ Below w.heap.size w w' := by
  go_enter Tryz.func19, Tryz.ntmps19
  go_wp2_with fail
  have hA0 : Below w.heap.size w (w.alloc (.cells #[.int .i64 0, .int .i64 0, .slice none 0 0, .slice none 0 0, .slice none 0 0, .slice none 0 0] 28)) := by go_grown
  have D0 := Blk.new w #[.int .i64 0, .int .i64 0, .slice none 0 0, .slice none 0 0, .slice none 0 0, .slice none 0 0] 28
  have hz0 : (w.alloc (.cells #[.int .i64 0, .int .i64 0, .slice none 0 0, .slice none 0 0, .slice none 0 0, .slice none 0 0] 28)).heap.size = w.heap.size + 1 := by simp
  have h0 := h.below hA0
  generalize w.alloc (.cells #[.int .i64 0, .int .i64 0, .slice none 0 0, .slice none 0 0, .slice none 0 0, .slice none 0 0] 28) = w0 at *
  refine (spec_l1Open a n cap w0 h0 hn).mono ?_
  rintro e w1 ⟨rfl, hR1, hB1⟩
  rw [hz0] at hR1 ⊢
  have D1 := D0.below hB1
  have hC1 := chain hA0 hB1
  have hs1 := hR1.lt
  clear D0 hB1 hA0 h0 hz0 w0
  go_wp2_with fail
  refine (spec_pool (w.heap.size + 1) 14 (by omega) (by omega) _ hR1).mono ?_
  rintro e w2 ⟨⟨v, p, rfl, PT, hd⟩, hR2, hg2⟩
  have PT2 := PT.mono (show w.heap.size + 2 ≤ w1.heap.size by omega)
  obtain ⟨ea, en, ec, va, vn, vc, ra, rn, rc, la, ln, lc, rows, rfl, _⟩ := PT
  have D2 := D1.grown hg2 (by omega)
  have hC2 := below_grown hC1 hg2 (by omega)
  have hs2 := hg2.size
  clear D1 hC1 hg2 hR1
  have hAl : Below w2.heap.size w2 (w2.alloc (.cells #[.int .i64 p.size, .int .i64 p.next, .slice ea en ec, .slice va vn vc, .slice ra rn rc, .slice la ln lc] 28)) := (Below.refl _ _).alloc (Nat.le_refl _) _
  have P3 := Blk.new w2 #[.int .i64 p.size, .int .i64 p.next, .slice ea en ec, .slice va vn vc, .slice ra rn rc, .slice la ln lc] 28
  have hen60 : en ≤ 60 := by
    obtain ⟨_, _, _, _, _, _, _, _, _, _, _, _, rws, hv, h1, _⟩ := PT2
    simp only [Value.agg.injEq, Array.mk.injEq, List.cons.injEq, Value.slice.injEq, and_true, true_and] at hv
    obtain ⟨⟨rfl, rfl, rfl⟩, ⟨rfl, rfl, rfl⟩, ⟨rfl, rfl, rfl⟩, ⟨rfl, rfl, rfl⟩⟩ := hv
    rw [← h1.sl.len]; exact hd.2
  by_cases hen : 0 < en
  · have hen1 : (0 : Int) < en := by omega
    go_wp2_with fail
    have D3 := D2.below hAl
    have hC3 := chain hC2 hAl
    have hR3 := hR2.below hAl
    have PT3 := PT2.below hAl
    have hw2 : w.heap.size + 2 ≤ w2.heap.size := by omega
    generalize w2.alloc (.cells #[.int .i64 p.size, .int .i64 p.next, .slice ea en ec, .slice va vn vc, .slice ra rn rc, .slice la ln lc] 28) = w3 at *
    refine (spec_once (w.heap.size + 1) 6 _ hR3 (by omega) (by omega)).mono ?_
    rintro e w4 ⟨⟨b4, rfl⟩, hR4, hg4⟩
    have P4 := (P3).grown hg4 (by omega)
    have D4 := (D3).grown hg4 (by omega)
    have PT4 := (PT3).lowB hg4 (by omega)
    have hC4 := below_grown hC3 hg4 (by omega)
    clear P3 D3 PT3 hC3 hR3 hg4
    cases b4
    · go_wp2_with fail
      obtain ⟨eb, eo, _, rfl, _, _, _⟩ := exs_at PT4.exs hen
      obtain ⟨x0, x1, x2, x3, x4, x5⟩ := P4.six'
      have f0 := P4.frozen 0
      have f1 := P4.frozen 1
      have f2 := P4.frozen 2
      have f3 := P4.frozen 3
      have f4 := P4.frozen 4
      have f5 := P4.frozen 5
      have hS0 : (fun u => u.cell? ⟨w2.heap.size, 0, none⟩ = some (.int .i64 p.size) ∧ u.cell? ⟨w2.heap.size, 1, none⟩ = some (.int .i64 p.next) ∧ u.cell? ⟨w2.heap.size, 2, none⟩ = some (.slice (some ⟨eb, eo, none⟩) en ec) ∧ u.cell? ⟨w2.heap.size, 3, none⟩ = some (.slice va vn vc) ∧ u.cell? ⟨w2.heap.size, 4, none⟩ = some (.slice ra rn rc) ∧ u.cell? ⟨w2.heap.size, 5, none⟩ = some (.slice la ln lc) ∧ ExsAt u (some ⟨eb, eo, none⟩) en p.ex) w4.drew := ⟨x0, x1, x2, x3, x4, x5, PT4.exs.below ((Below.refl _ _).drew)⟩
      refine wp_region_heldN (S := (fun u => u.cell? ⟨w2.heap.size, 0, none⟩ = some (.int .i64 p.size) ∧ u.cell? ⟨w2.heap.size, 1, none⟩ = some (.int .i64 p.next) ∧ u.cell? ⟨w2.heap.size, 2, none⟩ = some (.slice (some ⟨eb, eo, none⟩) en ec) ∧ u.cell? ⟨w2.heap.size, 3, none⟩ = some (.slice va vn vc) ∧ u.cell? ⟨w2.heap.size, 4, none⟩ = some (.slice ra rn rc) ∧ u.cell? ⟨w2.heap.size, 5, none⟩ = some (.slice la ln lc) ∧ ExsAt u (some ⟨eb, eo, none⟩) en p.ex)) 13 (by kernel_rfl) rfl ?_
      refine takeQ (i := 0) (v := ?vq6501) rfl (by kernel_rfl) (fun _ _ _ h => h) (by rfl) ?hq6501 (by assumption) ?rq6501
      case hq6501 => (intro u hu; (try dsimp only at hu); go_simp <;> with_reducible rfl)
      try simp only [Act.put, lsA, lsB, lsC]
      refine takeQ (i := 1) (v := ?vq6502) rfl (by kernel_rfl) (fun _ _ _ h => h) (by rfl) ?hq6502 (by assumption) ?rq6502
      case hq6502 => (intro u hu; (try dsimp only at hu); go_simp <;> with_reducible rfl)
      try simp only [Act.put, lsA, lsB, lsC]
      refine takeQ (i := 2) (v := ?vq6503) rfl (by kernel_rfl) (fun _ _ _ h => h) (by rfl) ?hq6503 (by assumption) ?rq6503
      case hq6503 => (intro u hu; (try dsimp only at hu); go_simp <;> with_reducible rfl)
      try simp only [Act.put, lsA, lsB, lsC]
      refine takeQ (i := 3) (v := ?vq6504) rfl (by kernel_rfl) (fun _ _ _ h => h) (by rfl) ?hq6504 (by assumption) ?rq6504
      case hq6504 => (intro u hu; (try dsimp only at hu); go_simp <;> with_reducible rfl)
      try simp only [Act.put, lsA, lsB, lsC]
      refine takeQ (i := 4) (v := ?vq6505) rfl (by kernel_rfl) (fun _ _ _ h => h) (by rfl) ?hq6505 (by assumption) ?rq6505
      case hq6505 => (intro u hu; (try dsimp only at hu); go_simp <;> with_reducible rfl)
      try simp only [Act.put, lsA, lsB, lsC]
      refine takeQ (i := 5) (v := ?vq6506) rfl (by kernel_rfl) (fun _ _ _ h => h) (by rfl) ?hq6506 (by assumption) ?rq6506
      case hq6506 => (intro u hu; (try dsimp only at hu); go_simp <;> with_reducible rfl)
      try simp only [Act.put, lsA, lsB, lsC]
      refine takeQ (i := 6) (v := ?vq6507) rfl (by kernel_rfl) (fun _ _ _ h => h) (by rfl) ?hq6507 (by assumption) ?rq6507
      case hq6507 => (intro u hu; (try dsimp only at hu); go_simp <;> with_reducible rfl)
      try simp only [Act.put, lsA, lsB, lsC]
      refine oneL (i := 7) (by kernel_rfl) rfl (fun K hK => ?_)
      go_simp
      refine (spec_belowN (w.heap.size + 1) (en : Int) _ (hR4.below ((Below.refl _ _).drew)) (by omega) (by omega)).mono ?_
      rintro e wa ⟨⟨y, rfl, hy⟩, hRa, hga'⟩
      have hga := grown_trans (grown_below (grown_refl w4 (w.heap.size + 1)) ((Below.refl _ _).drew)) hga'
      have hy0 : (0 : Int) ≤ y := by omega
      have Pa := (P4).grown hga (by omega)
      have Da := (D4).grown hga (by omega)
      have PTa := (PT4).lowB hga (by omega)
      have hCa := below_grown hC4 hga (by omega)
      dsimp only
      refine hK.out _ _ ⟨Pa.six'.1, Pa.six'.2.1, Pa.six'.2.2.1, Pa.six'.2.2.2.1, Pa.six'.2.2.2.2.1, Pa.six'.2.2.2.2.2, PTa.exs⟩ (fun hHeld => ?_)
      clear hK K
      try simp only [Act.put, lsA, lsB, lsC]
      refine takeQ (i := 8) (v := ?vq6508) rfl (by kernel_rfl) (fun _ _ _ h => h) (by rfl) ?hq6508 (by assumption) ?rq6508
      case hq6508 => (intro u hu; (try dsimp only at hu); go_simp <;> with_reducible rfl)
      try simp only [Act.put, lsA, lsB, lsC]
      refine takeQ (i := 9) (v := ?vq6509) rfl (by kernel_rfl) (fun _ _ _ h => h) (by rfl) ?hq6509 (by assumption) ?rq6509
      case hq6509 => (intro u hu; (try dsimp only at hu); go_simp <;> with_reducible rfl)
      try simp only [Act.put, lsA, lsB, lsC]
      obtain ⟨ex1, hex1⟩ : ∃ x, p.ex[y]? = some x := ⟨_, List.getElem?_eq_getElem (by rw [PTa.exs.len]; omega)⟩
      have hcell : ∀ u, ExsAt u (some ⟨eb, eo, none⟩) en p.ex → u.cell? ⟨eb, eo + y * 2, none⟩ = some (.int .i64 ex1.a) := fun u hu => by
        obtain ⟨b', o', q, hbo, hq, hc0, _⟩ := exs_at hu (show y < en by omega)
        cases hbo
        rw [hex1] at hq
        cases hq
        exact hc0
      refine takeL (i := 10) (v := ?vq6510) rfl (by kernel_rfl) (by kernel_rfl) (by kernel_rfl) (fun _ _ _ h => h) (Or.inl ⟨by rfl, ?hyq6510⟩) (by assumption) ?restq6510
      case hyq6510 => (intro u hu; have hcu := hcell u hu.2.2.2.2.2.2; clear hu; go_simp <;> with_reducible rfl)
      try simp only [Act.put, lsA, lsB, lsC]
      clear x0 x1 x2 x3 x4 x5 f0 f1 f2 f3 f4 f5
      obtain ⟨x0, x1, x2, x3, x4, x5⟩ := Da.six'
      have f0 := Da.frozen 0
      have f1 := Da.frozen 1
      have f2 := Da.frozen 2
      have f3 := Da.frozen 3
      have f4 := Da.frozen 4
      have f5 := Da.frozen 5
      obtain ⟨y0, y1, y2, y3, y4, y5⟩ := Pa.six'
      refine oneL (i := 11) (by kernel_rfl) rfl (fun K hK => ?_)
      go_simp
      obtain ⟨W0, hg0⟩ := set6 Da (.int .i64 p.size) (.int .i64 p.next) (.slice (some ⟨eb, eo, none⟩) en ec) (.slice va vn vc) (.slice ra rn rc) (.slice la ln lc)
      have PP := Pa.grown hg0 (by omega)
      have PTT := PTa.tyP hg0 (rowTy_blk Da)
      refine hK.out _ _ ⟨PP.six'.1, PP.six'.2.1, PP.six'.2.2.1, PP.six'.2.2.2.1, PP.six'.2.2.2.2.1, PP.six'.2.2.2.2.2, PTT.exs⟩ (fun hHeld => ?_)
      clear hK K
      try simp only [Act.put, lsA, lsB, lsC]
      refine takeQ (i := 12) (v := ?vq6511) rfl (by kernel_rfl) (fun _ _ _ h => h) (by rfl) ?hq6511 (by assumption) ?rq6511
      case hq6511 => (intro u hu; (try dsimp only at hu); go_simp <;> with_reducible rfl)
      try simp only [Act.put, lsA, lsB, lsC]
      refine wpAnyH_done (by kernel_rfl) ?_ _
      clear hHeld hS0
      have PF := (PTa.tyP hg0 (rowTy_blk Da)).mono (show w.heap.size + 1 ≤ w.heap.size + 2 by omega)
      have hCW := below_grown hCa hg0 (Nat.le_refl _)
      generalize ((((((wa.setCell ⟨w.heap.size, 0, none⟩ (.int .i64 p.size)).setCell ⟨w.heap.size, 1, none⟩ (.int .i64 p.next)).setCell ⟨w.heap.size, 2, none⟩ (.slice (some ⟨eb, eo, none⟩) en ec)).setCell ⟨w.heap.size, 3, none⟩ (.slice va vn vc)).setCell ⟨w.heap.size, 4, none⟩ (.slice ra rn rc)).setCell ⟨w.heap.size, 5, none⟩ (.slice la ln lc)) = W8 at *
      go_wp2
      refine bodyPost_ret (results_cell_tmp rfl _ W8 w.heap.size _ _ _ _ _ rfl W0 Tryz.underlying28 rfl (by kernel_rfl) rfl) rfl ?_
      exact ⟨⟨_, p, ex1.a, rfl, PF, hd⟩, hCW⟩
    · go_wp2_with fail
      obtain ⟨x0, x1, x2, x3, x4, x5⟩ := P4.six'
      have f0 := P4.frozen 0
      have f1 := P4.frozen 1
      have f2 := P4.frozen 2
      have f3 := P4.frozen 3
      have f4 := P4.frozen 4
      have f5 := P4.frozen 5
      have hS0 : (fun u => u.cell? ⟨w2.heap.size, 0, none⟩ = some (.int .i64 p.size) ∧ u.cell? ⟨w2.heap.size, 1, none⟩ = some (.int .i64 p.next) ∧ u.cell? ⟨w2.heap.size, 2, none⟩ = some (.slice ea en ec) ∧ u.cell? ⟨w2.heap.size, 3, none⟩ = some (.slice va vn vc) ∧ u.cell? ⟨w2.heap.size, 4, none⟩ = some (.slice ra rn rc) ∧ u.cell? ⟨w2.heap.size, 5, none⟩ = some (.slice la ln lc)) w4.drew := ⟨x0, x1, x2, x3, x4, x5⟩
      refine wp_region_heldN (S := (fun u => u.cell? ⟨w2.heap.size, 0, none⟩ = some (.int .i64 p.size) ∧ u.cell? ⟨w2.heap.size, 1, none⟩ = some (.int .i64 p.next) ∧ u.cell? ⟨w2.heap.size, 2, none⟩ = some (.slice ea en ec) ∧ u.cell? ⟨w2.heap.size, 3, none⟩ = some (.slice va vn vc) ∧ u.cell? ⟨w2.heap.size, 4, none⟩ = some (.slice ra rn rc) ∧ u.cell? ⟨w2.heap.size, 5, none⟩ = some (.slice la ln lc))) 5 (by kernel_rfl) rfl ?_
      refine takeQ (i := 0) (v := ?vq6512) rfl (by kernel_rfl) (fun _ _ _ h => h) (by rfl) ?hq6512 (by assumption) ?rq6512
      case hq6512 => (intro u hu; (try dsimp only at hu); go_simp <;> with_reducible rfl)
      try simp only [Act.put, lsA, lsB, lsC]
      refine takeQ (i := 1) (v := ?vq6513) rfl (by kernel_rfl) (fun _ _ _ h => h) (by rfl) ?hq6513 (by assumption) ?rq6513
      case hq6513 => (intro u hu; (try dsimp only at hu); go_simp <;> with_reducible rfl)
      try simp only [Act.put, lsA, lsB, lsC]
      refine oneL (i := 2) (by kernel_rfl) rfl (fun K hK => ?_)
      go_simp
      refine (spec_off (w.heap.size + 1) 1 9 _ (hR4.below ((Below.refl _ _).drew)) (by omega) (by omega) (by omega)).mono ?_
      rintro e wa ⟨⟨va1, rfl, _⟩, hRa, hga'⟩
      have hga := grown_trans (grown_below (grown_refl w4 (w.heap.size + 1)) ((Below.refl _ _).drew)) hga'
      have Pa := (P4).grown hga (by omega)
      have Da := (D4).grown hga (by omega)
      have PTa := (PT4).lowB hga (by omega)
      have hCa := below_grown hC4 hga (by omega)
      dsimp only
      refine hK.out _ _ (Pa.six') (fun hHeld => ?_)
      clear hK K
      try simp only [Act.put, lsA, lsB, lsC]
      clear x0 x1 x2 x3 x4 x5 f0 f1 f2 f3 f4 f5
      obtain ⟨x0, x1, x2, x3, x4, x5⟩ := Da.six'
      have f0 := Da.frozen 0
      have f1 := Da.frozen 1
      have f2 := Da.frozen 2
      have f3 := Da.frozen 3
      have f4 := Da.frozen 4
      have f5 := Da.frozen 5
      obtain ⟨y0, y1, y2, y3, y4, y5⟩ := Pa.six'
      refine oneL (i := 3) (by kernel_rfl) rfl (fun K hK => ?_)
      go_simp
      obtain ⟨W0, hg0⟩ := set6 Da (.int .i64 p.size) (.int .i64 p.next) (.slice ea en ec) (.slice va vn vc) (.slice ra rn rc) (.slice la ln lc)
      have PP := Pa.grown hg0 (by omega)
      refine hK.out _ _ (PP.six') (fun hHeld => ?_)
      clear hK K
      try simp only [Act.put, lsA, lsB, lsC]
      refine takeQ (i := 4) (v := ?vq6514) rfl (by kernel_rfl) (fun _ _ _ h => h) (by rfl) ?hq6514 (by assumption) ?rq6514
      case hq6514 => (intro u hu; (try dsimp only at hu); go_simp <;> with_reducible rfl)
      try simp only [Act.put, lsA, lsB, lsC]
      refine wpAnyH_done (by kernel_rfl) ?_ _
      clear hHeld hS0
      have PF := (PTa.tyP hg0 (rowTy_blk Da)).mono (show w.heap.size + 1 ≤ w.heap.size + 2 by omega)
      have hCW := below_grown hCa hg0 (Nat.le_refl _)
      generalize ((((((wa.setCell ⟨w.heap.size, 0, none⟩ (.int .i64 p.size)).setCell ⟨w.heap.size, 1, none⟩ (.int .i64 p.next)).setCell ⟨w.heap.size, 2, none⟩ (.slice ea en ec)).setCell ⟨w.heap.size, 3, none⟩ (.slice va vn vc)).setCell ⟨w.heap.size, 4, none⟩ (.slice ra rn rc)).setCell ⟨w.heap.size, 5, none⟩ (.slice la ln lc)) = W8 at *
      go_wp2
      refine bodyPost_ret (results_cell_tmp rfl _ W8 w.heap.size _ _ _ _ _ rfl W0 Tryz.underlying28 rfl (by kernel_rfl) rfl) rfl ?_
      exact ⟨⟨_, p, va1, rfl, PF, hd⟩, hCW⟩
  · obtain rfl : en = 0 := by omega
    go_wp2_with fail
    have D3 := D2.below hAl
    have hC3 := chain hC2 hAl
    have hR3 := hR2.below hAl
    have PT3 := PT2.below hAl
    have hw2 : w.heap.size + 2 ≤ w2.heap.size := by omega
    generalize w2.alloc (.cells #[.int .i64 p.size, .int .i64 p.next, .slice ea 0 ec, .slice va vn vc, .slice ra rn rc, .slice la ln lc] 28) = w3 at *
    obtain ⟨x0, x1, x2, x3, x4, x5⟩ := P3.six'
    have f0 := P3.frozen 0
    have f1 := P3.frozen 1
    have f2 := P3.frozen 2
    have f3 := P3.frozen 3
    have f4 := P3.frozen 4
    have f5 := P3.frozen 5
    have hS0 : (fun u => u.cell? ⟨w2.heap.size, 0, none⟩ = some (.int .i64 p.size) ∧ u.cell? ⟨w2.heap.size, 1, none⟩ = some (.int .i64 p.next) ∧ u.cell? ⟨w2.heap.size, 2, none⟩ = some (.slice ea 0 ec) ∧ u.cell? ⟨w2.heap.size, 3, none⟩ = some (.slice va vn vc) ∧ u.cell? ⟨w2.heap.size, 4, none⟩ = some (.slice ra rn rc) ∧ u.cell? ⟨w2.heap.size, 5, none⟩ = some (.slice la ln lc)) w3.drew := ⟨x0, x1, x2, x3, x4, x5⟩
    refine wp_region_heldN (S := (fun u => u.cell? ⟨w2.heap.size, 0, none⟩ = some (.int .i64 p.size) ∧ u.cell? ⟨w2.heap.size, 1, none⟩ = some (.int .i64 p.next) ∧ u.cell? ⟨w2.heap.size, 2, none⟩ = some (.slice ea 0 ec) ∧ u.cell? ⟨w2.heap.size, 3, none⟩ = some (.slice va vn vc) ∧ u.cell? ⟨w2.heap.size, 4, none⟩ = some (.slice ra rn rc) ∧ u.cell? ⟨w2.heap.size, 5, none⟩ = some (.slice la ln lc))) 5 (by kernel_rfl) rfl ?_
    refine takeQ (i := 0) (v := ?vq6515) rfl (by kernel_rfl) (fun _ _ _ h => h) (by rfl) ?hq6515 (by assumption) ?rq6515
    case hq6515 => (intro u hu; (try dsimp only at hu); go_simp <;> with_reducible rfl)
    try simp only [Act.put, lsA, lsB, lsC]
    refine takeQ (i := 1) (v := ?vq6516) rfl (by kernel_rfl) (fun _ _ _ h => h) (by rfl) ?hq6516 (by assumption) ?rq6516
    case hq6516 => (intro u hu; (try dsimp only at hu); go_simp <;> with_reducible rfl)
    try simp only [Act.put, lsA, lsB, lsC]
    refine oneL (i := 2) (by kernel_rfl) rfl (fun K hK => ?_)
    go_simp
    refine (spec_off (w.heap.size + 1) 1 9 _ (hR3.below ((Below.refl _ _).drew)) (by omega) (by omega) (by omega)).mono ?_
    rintro e wa ⟨⟨va1, rfl, _⟩, hRa, hga'⟩
    have hga := grown_trans (grown_below (grown_refl w3 (w.heap.size + 1)) ((Below.refl _ _).drew)) hga'
    have Pa := (P3).grown hga (by omega)
    have Da := (D3).grown hga (by omega)
    have PTa := (PT3).lowB hga (by omega)
    have hCa := below_grown hC3 hga (by omega)
    dsimp only
    refine hK.out _ _ (Pa.six') (fun hHeld => ?_)
    clear hK K
    try simp only [Act.put, lsA, lsB, lsC]
    clear x0 x1 x2 x3 x4 x5 f0 f1 f2 f3 f4 f5
    obtain ⟨x0, x1, x2, x3, x4, x5⟩ := Da.six'
    have f0 := Da.frozen 0
    have f1 := Da.frozen 1
    have f2 := Da.frozen 2
    have f3 := Da.frozen 3
    have f4 := Da.frozen 4
    have f5 := Da.frozen 5
    obtain ⟨y0, y1, y2, y3, y4, y5⟩ := Pa.six'
    refine oneL (i := 3) (by kernel_rfl) rfl (fun K hK => ?_)
    go_simp
    obtain ⟨W0, hg0⟩ := set6 Da (.int .i64 p.size) (.int .i64 p.next) (.slice ea 0 ec) (.slice va vn vc) (.slice ra rn rc) (.slice la ln lc)
    have PP := Pa.grown hg0 (by omega)
    refine hK.out _ _ (PP.six') (fun hHeld => ?_)
    clear hK K
    try simp only [Act.put, lsA, lsB, lsC]
    refine takeQ (i := 4) (v := ?vq6517) rfl (by kernel_rfl) (fun _ _ _ h => h) (by rfl) ?hq6517 (by assumption) ?rq6517
    case hq6517 => (intro u hu; (try dsimp only at hu); go_simp <;> with_reducible rfl)
    try simp only [Act.put, lsA, lsB, lsC]
    refine wpAnyH_done (by kernel_rfl) ?_ _
    clear hHeld hS0
    have PF := (PTa.tyP hg0 (rowTy_blk Da)).mono (show w.heap.size + 1 ≤ w.heap.size + 2 by omega)
    have hCW := below_grown hCa hg0 (Nat.le_refl _)
    generalize ((((((wa.setCell ⟨w.heap.size, 0, none⟩ (.int .i64 p.size)).setCell ⟨w.heap.size, 1, none⟩ (.int .i64 p.next)).setCell ⟨w.heap.size, 2, none⟩ (.slice ea 0 ec)).setCell ⟨w.heap.size, 3, none⟩ (.slice va vn vc)).setCell ⟨w.heap.size, 4, none⟩ (.slice ra rn rc)).setCell ⟨w.heap.size, 5, none⟩ (.slice la ln lc)) = W8 at *
    go_wp2
    refine bodyPost_ret (results_cell_tmp rfl _ W8 w.heap.size _ _ _ _ _ rfl W0 Tryz.underlying28 rfl (by kernel_rfl) rfl) rfl ?_
    exact ⟨⟨_, p, va1, rfl, PF, hd⟩, hCW⟩
set_option maxHeartbeats 4000000 in
set_option maxRecDepth 100000 in
theorem spec_DrawFilesOf (a : Option Addr) (n cap : Nat) (w : World) (h : CodeAt w a n) (hn : n ≤ 1048576) :
    Calls Tryz.prog 56 #[.slice a n cap] w fun e w' => (∃ v p vol, e = .returned (.tuple #[v, .string vol]) ∧ PoolT (w.heap.size + 1) w' v p ∧ DimQ p ∧ vol.size ≤ 1) ∧ Below w.heap.size w w' := by
  go_enter Tryz.func56, Tryz.ntmps56
  go_wp2_with fail
  have hA0 : Below w.heap.size w (w.alloc (.cells #[.int .i64 0, .int .i64 0, .slice none 0 0, .slice none 0 0, .slice none 0 0, .slice none 0 0] 28)) := by go_grown
  have D0 := Blk.new w #[.int .i64 0, .int .i64 0, .slice none 0 0, .slice none 0 0, .slice none 0 0, .slice none 0 0] 28
  have hz0 : (w.alloc (.cells #[.int .i64 0, .int .i64 0, .slice none 0 0, .slice none 0 0, .slice none 0 0, .slice none 0 0] 28)).heap.size = w.heap.size + 1 := by simp
  have h0 := h.below hA0
  generalize w.alloc (.cells #[.int .i64 0, .int .i64 0, .slice none 0 0, .slice none 0 0, .slice none 0 0, .slice none 0 0] 28) = w0 at *
  refine (spec_l1Open a n cap w0 h0 hn).mono ?_
  rintro e w1 ⟨rfl, hR1, hB1⟩
  rw [hz0] at hR1 ⊢
  have D1 := D0.below hB1
  have hC1 := chain hA0 hB1
  have hs1 := hR1.lt
  clear D0 hB1 hA0 h0 hz0 w0
  go_wp2_with fail
  refine (spec_pool (w.heap.size + 1) 14 (by omega) (by omega) _ hR1).mono ?_
  rintro e w2 ⟨⟨v, p, rfl, PT, hd⟩, hR2, hg2⟩
  have PT2 := PT.mono (show w.heap.size + 2 ≤ w1.heap.size by omega)
  obtain ⟨ea, en, ec, va, vn, vc, ra, rn, rc, la, ln, lc, rows, rfl, _⟩ := PT
  have D2 := D1.grown hg2 (by omega)
  have hC2 := below_grown hC1 hg2 (by omega)
  have hs2 := hg2.size
  clear D1 hC1 hg2 hR1
  have hAl : Below w2.heap.size w2 (w2.alloc (.cells #[.int .i64 p.size, .int .i64 p.next, .slice ea en ec, .slice va vn vc, .slice ra rn rc, .slice la ln lc] 28)) := (Below.refl _ _).alloc (Nat.le_refl _) _
  have P3 := Blk.new w2 #[.int .i64 p.size, .int .i64 p.next, .slice ea en ec, .slice va vn vc, .slice ra rn rc, .slice la ln lc] 28
  go_wp2_with fail
  have D3 := D2.below hAl
  have hC3 := chain hC2 hAl
  have hR3 := hR2.below hAl
  have PT3 := PT2.below hAl
  have hw2 : w.heap.size + 2 ≤ w2.heap.size := by omega
  generalize w2.alloc (.cells #[.int .i64 p.size, .int .i64 p.next, .slice ea en ec, .slice va vn vc, .slice ra rn rc, .slice la ln lc] 28) = w3 at *
  obtain ⟨x0, x1, x2, x3, x4, x5⟩ := P3.six'
  have f0 := P3.frozen 0
  have f1 := P3.frozen 1
  have f2 := P3.frozen 2
  have f3 := P3.frozen 3
  have f4 := P3.frozen 4
  have f5 := P3.frozen 5
  have hS0 : (fun u => u.cell? ⟨w2.heap.size, 0, none⟩ = some (.int .i64 p.size) ∧ u.cell? ⟨w2.heap.size, 1, none⟩ = some (.int .i64 p.next) ∧ u.cell? ⟨w2.heap.size, 2, none⟩ = some (.slice ea en ec) ∧ u.cell? ⟨w2.heap.size, 3, none⟩ = some (.slice va vn vc) ∧ u.cell? ⟨w2.heap.size, 4, none⟩ = some (.slice ra rn rc) ∧ u.cell? ⟨w2.heap.size, 5, none⟩ = some (.slice la ln lc)) w3.drew := ⟨x0, x1, x2, x3, x4, x5⟩
  refine wp_region_heldN (S := (fun u => u.cell? ⟨w2.heap.size, 0, none⟩ = some (.int .i64 p.size) ∧ u.cell? ⟨w2.heap.size, 1, none⟩ = some (.int .i64 p.next) ∧ u.cell? ⟨w2.heap.size, 2, none⟩ = some (.slice ea en ec) ∧ u.cell? ⟨w2.heap.size, 3, none⟩ = some (.slice va vn vc) ∧ u.cell? ⟨w2.heap.size, 4, none⟩ = some (.slice ra rn rc) ∧ u.cell? ⟨w2.heap.size, 5, none⟩ = some (.slice la ln lc))) 8 (by kernel_rfl) rfl ?_
  refine takeQ (i := 0) (v := ?vq6518) rfl (by kernel_rfl) (fun _ _ _ h => h) (by rfl) ?hq6518 (by assumption) ?rq6518
  case hq6518 => (intro u hu; (try dsimp only at hu); go_simp <;> with_reducible rfl)
  try simp only [Act.put, lsA, lsB, lsC]
  refine takeQ (i := 2) (v := ?vq6519) rfl (by kernel_rfl) (fun _ _ _ h => h) (by rfl) ?hq6519 (by assumption) ?rq6519
  case hq6519 => (intro u hu; (try dsimp only at hu); go_simp <;> with_reducible rfl)
  try simp only [Act.put, lsA, lsB, lsC]
  have h3l := hR3.lt
  have h3p := P3.lt
  refine twoL (i := 1) (j := 3) (by kernel_rfl) rfl rfl (fun K hK => ?_) (fun K hK => ?_)
  · go_simp
    have hAL : Below w3.heap.size w3 (w3.drew.alloc (.cells #[.string ⟨#[117]⟩, .string ⟨#[118]⟩, .string ⟨#[119]⟩] 9)) := chain ((Below.refl _ _).drew) ((Below.refl _ _).alloc (Nat.le_refl _) _)
    refine hK.out _ _ ((P3.below hAL).six') (fun hHeld => ?_)
    clear hK K
    try simp only [Act.put, lsA, lsB, lsC]
    refine oneL (i := 3) (by kernel_rfl) rfl (fun K hK => ?_)
    go_simp
    refine (spec_belowN (w.heap.size + 1) 3 _ (hR3.below hAL) (by omega) (by omega)).mono ?_
    rintro e wa ⟨⟨y, rfl, hy⟩, hRa, hga⟩
    have hy0 : (0 : Int) ≤ y := by omega
    have Pa := (P3.below hAL).grown hga (by omega)
    have Da := (D3.below hAL).grown hga (by omega)
    have PTa := (PT3.below hAL).lowB hga (by omega)
    have hCa := below_grown (chain hC3 hAL) hga (by omega)
    have La := (Blk.new w3.drew #[.string ⟨#[117]⟩, .string ⟨#[118]⟩, .string ⟨#[119]⟩] 9).grown hga (show w3.heap.size ≠ (w.heap.size + 1) by omega)
    obtain ⟨vol, hvc, hvol⟩ := lit_at La rfl (fun v hv => by simp at hv; rcases hv with rfl | rfl | rfl <;> exact ⟨_, rfl, by decide⟩) hy
    replace hvc : wa.cell? ⟨w3.heap.size, y, none⟩ = some (.string vol) := hvc
    clear La
    dsimp only
    refine hK.out _ _ (Pa.six') (fun hHeld => ?_)
    clear hK K
    try simp only [Act.put, lsA, lsB, lsC]
    refine takeQ (i := 4) (v := ?vq6520) rfl (by kernel_rfl) (fun _ _ _ h => h) (by rfl) ?hq6520 (by assumption) ?rq6520
    case hq6520 => (intro u hu; (try dsimp only at hu); go_simp <;> with_reducible rfl)
    try simp only [Act.put, lsA, lsB, lsC]
    have Da' := Da
    obtain ⟨d0, d1, d2, d3, d4, d5⟩ := Da.six'
    have g0 := Da.frozen 0
    have g1 := Da.frozen 1
    have g2 := Da.frozen 2
    have g3 := Da.frozen 3
    have g4 := Da.frozen 4
    have g5 := Da.frozen 5
    obtain ⟨y0, y1, y2, y3, y4, y5⟩ := Pa.six'
    refine twoL (i := 5) (j := 6) (by kernel_rfl) rfl rfl (fun K hK => ?_) (fun K hK => ?_)
    · go_simp
      refine hK.out _ _ (Pa.six') (fun hHeld => ?_)
      clear hK K
      try simp only [Act.put, lsA, lsB, lsC]
      refine oneL (i := 6) (by kernel_rfl) rfl (fun K hK => ?_)
      go_simp
      obtain ⟨W0, hg0⟩ := set6 Da (.int .i64 p.size) (.int .i64 p.next) (.slice ea en ec) (.slice va vn vc) (.slice ra rn rc) (.slice la ln lc)
      have PP := Pa.grown hg0 (by omega)
      have PF := (PTa.tyP hg0 (rowTy_blk Da)).mono (show w.heap.size + 1 ≤ w.heap.size + 2 by omega)
      have hCW := below_grown hCa hg0 (Nat.le_refl _)
      generalize ((((((wa.setCell ⟨w.heap.size, 0, none⟩ (.int .i64 p.size)).setCell ⟨w.heap.size, 1, none⟩ (.int .i64 p.next)).setCell ⟨w.heap.size, 2, none⟩ (.slice ea en ec)).setCell ⟨w.heap.size, 3, none⟩ (.slice va vn vc)).setCell ⟨w.heap.size, 4, none⟩ (.slice ra rn rc)).setCell ⟨w.heap.size, 5, none⟩ (.slice la ln lc)) = W8 at *
      refine hK.out _ _ (PP.six') (fun hHeld => ?_)
      clear hK K
      try simp only [Act.put, lsA, lsB, lsC]
      refine takeQ (i := 7) (v := ?vq6521) rfl (by kernel_rfl) (fun _ _ _ h => h) (by rfl) ?hq6521 (by assumption) ?rq6521
      case hq6521 => (intro u hu; (try dsimp only at hu); go_simp <;> with_reducible rfl)
      try simp only [Act.put, lsA, lsB, lsC]
      refine wpAnyH_done (by kernel_rfl) ?_ _
      go_wp2
      refine bodyPost_ret (results_cell_tmp rfl _ W8 w.heap.size _ _ _ _ _ rfl W0 Tryz.underlying28 rfl (by kernel_rfl) rfl) rfl ?_
      exact ⟨⟨_, p, vol, rfl, PF, hd, hvol⟩, hCW⟩
    · go_simp
      obtain ⟨W0, hg0⟩ := set6 Da (.int .i64 p.size) (.int .i64 p.next) (.slice ea en ec) (.slice va vn vc) (.slice ra rn rc) (.slice la ln lc)
      have PP := Pa.grown hg0 (by omega)
      have PF := (PTa.tyP hg0 (rowTy_blk Da)).mono (show w.heap.size + 1 ≤ w.heap.size + 2 by omega)
      have hCW := below_grown hCa hg0 (Nat.le_refl _)
      have hvc2 := hg0.cell hvc (by simp only [ne_eq, Option.some.injEq]; omega)
      generalize ((((((wa.setCell ⟨w.heap.size, 0, none⟩ (.int .i64 p.size)).setCell ⟨w.heap.size, 1, none⟩ (.int .i64 p.next)).setCell ⟨w.heap.size, 2, none⟩ (.slice ea en ec)).setCell ⟨w.heap.size, 3, none⟩ (.slice va vn vc)).setCell ⟨w.heap.size, 4, none⟩ (.slice ra rn rc)).setCell ⟨w.heap.size, 5, none⟩ (.slice la ln lc)) = W8 at *
      refine hK.out _ _ (PP.six') (fun hHeld => ?_)
      clear hK K
      try simp only [Act.put, lsA, lsB, lsC]
      refine oneL (i := 5) (by kernel_rfl) rfl (fun K hK => ?_)
      go_simp
      refine hK.out _ _ (PP.six') (fun hHeld => ?_)
      clear hK K
      try simp only [Act.put, lsA, lsB, lsC]
      refine takeQ (i := 7) (v := ?vq6522) rfl (by kernel_rfl) (fun _ _ _ h => h) (by rfl) ?hq6522 (by assumption) ?rq6522
      case hq6522 => (intro u hu; (try dsimp only at hu); go_simp <;> with_reducible rfl)
      try simp only [Act.put, lsA, lsB, lsC]
      refine wpAnyH_done (by kernel_rfl) ?_ _
      go_wp2
      refine bodyPost_ret (results_cell_tmp rfl _ W8 w.heap.size _ _ _ _ _ rfl W0 Tryz.underlying28 rfl (by kernel_rfl) rfl) rfl ?_
      exact ⟨⟨_, p, vol, rfl, PF, hd, hvol⟩, hCW⟩
  · go_simp
    refine (spec_belowN (w.heap.size + 1) 3 _ (hR3.below ((Below.refl _ _).drew)) (by omega) (by omega)).mono ?_
    rintro e wb ⟨⟨y, rfl, hy⟩, hRb, hgb'⟩
    have hgb := grown_trans (grown_below (grown_refl w3 (w.heap.size + 1)) ((Below.refl _ _).drew)) hgb'
    have hy0 : (0 : Int) ≤ y := by omega
    have Pb := (P3).grown hgb (by omega)
    have Db := (D3).grown hgb (by omega)
    have PTb := (PT3).lowB hgb (by omega)
    have hCb := below_grown hC3 hgb (by omega)
    have hbp := Pb.lt
    dsimp only
    refine hK.out _ _ (Pb.six') (fun hHeld => ?_)
    clear hK K
    try simp only [Act.put, lsA, lsB, lsC]
    have Db' := Db
    obtain ⟨d0, d1, d2, d3, d4, d5⟩ := Db.six'
    have g0 := Db.frozen 0
    have g1 := Db.frozen 1
    have g2 := Db.frozen 2
    have g3 := Db.frozen 3
    have g4 := Db.frozen 4
    have g5 := Db.frozen 5
    obtain ⟨y0, y1, y2, y3, y4, y5⟩ := Pb.six'
    refine twoL (i := 1) (j := 6) (by kernel_rfl) rfl rfl (fun K hK => ?_) (fun K hK => ?_)
    · go_simp
      have hAL : Below wb.heap.size wb (wb.alloc (.cells #[.string ⟨#[117]⟩, .string ⟨#[118]⟩, .string ⟨#[119]⟩] 9)) := (Below.refl _ _).alloc (Nat.le_refl _) _
      have La := Blk.new wb #[.string ⟨#[117]⟩, .string ⟨#[118]⟩, .string ⟨#[119]⟩] 9
      have Pa := Pb.below hAL
      have Da := Db.below hAL
      have PTa := PTb.below hAL
      have hCa := chain hCb hAL
      generalize wb.alloc (.cells #[.string ⟨#[117]⟩, .string ⟨#[118]⟩, .string ⟨#[119]⟩] 9) = wa at *
      clear d0 d1 d2 d3 d4 d5 g0 g1 g2 g3 g4 g5
      clear y0 y1 y2 y3 y4 y5
      obtain ⟨vol, hvc, hvol⟩ := lit_at La rfl (fun v hv => by simp at hv; rcases hv with rfl | rfl | rfl <;> exact ⟨_, rfl, by decide⟩) hy
      replace hvc : wa.cell? ⟨wb.heap.size, y, none⟩ = some (.string vol) := hvc
      clear La
      refine hK.out _ _ (Pa.six') (fun hHeld => ?_)
      clear hK K
      try simp only [Act.put, lsA, lsB, lsC]
      refine takeQ (i := 4) (v := ?vq6523) rfl (by kernel_rfl) (fun _ _ _ h => h) (by rfl) ?hq6523 (by assumption) ?rq6523
      case hq6523 => (intro u hu; (try dsimp only at hu); go_simp <;> with_reducible rfl)
      try simp only [Act.put, lsA, lsB, lsC]
      have Da' := Da
      obtain ⟨d0, d1, d2, d3, d4, d5⟩ := Da.six'
      have g0 := Da.frozen 0
      have g1 := Da.frozen 1
      have g2 := Da.frozen 2
      have g3 := Da.frozen 3
      have g4 := Da.frozen 4
      have g5 := Da.frozen 5
      obtain ⟨y0, y1, y2, y3, y4, y5⟩ := Pa.six'
      refine twoL (i := 5) (j := 6) (by kernel_rfl) rfl rfl (fun K hK => ?_) (fun K hK => ?_)
      · go_simp
        refine hK.out _ _ (Pa.six') (fun hHeld => ?_)
        clear hK K
        try simp only [Act.put, lsA, lsB, lsC]
        refine oneL (i := 6) (by kernel_rfl) rfl (fun K hK => ?_)
        go_simp
        obtain ⟨W0, hg0⟩ := set6 Da (.int .i64 p.size) (.int .i64 p.next) (.slice ea en ec) (.slice va vn vc) (.slice ra rn rc) (.slice la ln lc)
        have PP := Pa.grown hg0 (by omega)
        have PF := (PTa.tyP hg0 (rowTy_blk Da)).mono (show w.heap.size + 1 ≤ w.heap.size + 2 by omega)
        have hCW := below_grown hCa hg0 (Nat.le_refl _)
        generalize ((((((wa.setCell ⟨w.heap.size, 0, none⟩ (.int .i64 p.size)).setCell ⟨w.heap.size, 1, none⟩ (.int .i64 p.next)).setCell ⟨w.heap.size, 2, none⟩ (.slice ea en ec)).setCell ⟨w.heap.size, 3, none⟩ (.slice va vn vc)).setCell ⟨w.heap.size, 4, none⟩ (.slice ra rn rc)).setCell ⟨w.heap.size, 5, none⟩ (.slice la ln lc)) = W8 at *
        refine hK.out _ _ (PP.six') (fun hHeld => ?_)
        clear hK K
        try simp only [Act.put, lsA, lsB, lsC]
        refine takeQ (i := 7) (v := ?vq6524) rfl (by kernel_rfl) (fun _ _ _ h => h) (by rfl) ?hq6524 (by assumption) ?rq6524
        case hq6524 => (intro u hu; (try dsimp only at hu); go_simp <;> with_reducible rfl)
        try simp only [Act.put, lsA, lsB, lsC]
        refine wpAnyH_done (by kernel_rfl) ?_ _
        go_wp2
        refine bodyPost_ret (results_cell_tmp rfl _ W8 w.heap.size _ _ _ _ _ rfl W0 Tryz.underlying28 rfl (by kernel_rfl) rfl) rfl ?_
        exact ⟨⟨_, p, vol, rfl, PF, hd, hvol⟩, hCW⟩
      · go_simp
        obtain ⟨W0, hg0⟩ := set6 Da (.int .i64 p.size) (.int .i64 p.next) (.slice ea en ec) (.slice va vn vc) (.slice ra rn rc) (.slice la ln lc)
        have PP := Pa.grown hg0 (by omega)
        have PF := (PTa.tyP hg0 (rowTy_blk Da)).mono (show w.heap.size + 1 ≤ w.heap.size + 2 by omega)
        have hCW := below_grown hCa hg0 (Nat.le_refl _)
        have hvc2 := hg0.cell hvc (by simp only [ne_eq, Option.some.injEq]; omega)
        generalize ((((((wa.setCell ⟨w.heap.size, 0, none⟩ (.int .i64 p.size)).setCell ⟨w.heap.size, 1, none⟩ (.int .i64 p.next)).setCell ⟨w.heap.size, 2, none⟩ (.slice ea en ec)).setCell ⟨w.heap.size, 3, none⟩ (.slice va vn vc)).setCell ⟨w.heap.size, 4, none⟩ (.slice ra rn rc)).setCell ⟨w.heap.size, 5, none⟩ (.slice la ln lc)) = W8 at *
        refine hK.out _ _ (PP.six') (fun hHeld => ?_)
        clear hK K
        try simp only [Act.put, lsA, lsB, lsC]
        refine oneL (i := 5) (by kernel_rfl) rfl (fun K hK => ?_)
        go_simp
        refine hK.out _ _ (PP.six') (fun hHeld => ?_)
        clear hK K
        try simp only [Act.put, lsA, lsB, lsC]
        refine takeQ (i := 7) (v := ?vq6525) rfl (by kernel_rfl) (fun _ _ _ h => h) (by rfl) ?hq6525 (by assumption) ?rq6525
        case hq6525 => (intro u hu; (try dsimp only at hu); go_simp <;> with_reducible rfl)
        try simp only [Act.put, lsA, lsB, lsC]
        refine wpAnyH_done (by kernel_rfl) ?_ _
        go_wp2
        refine bodyPost_ret (results_cell_tmp rfl _ W8 w.heap.size _ _ _ _ _ rfl W0 Tryz.underlying28 rfl (by kernel_rfl) rfl) rfl ?_
        exact ⟨⟨_, p, vol, rfl, PF, hd, hvol⟩, hCW⟩
    · go_simp
      obtain ⟨W0, hg0⟩ := set6 Db (.int .i64 p.size) (.int .i64 p.next) (.slice ea en ec) (.slice va vn vc) (.slice ra rn rc) (.slice la ln lc)
      have PP := Pb.grown hg0 (by omega)
      have PF := (PTb.tyP hg0 (rowTy_blk Db)).mono (show w.heap.size + 1 ≤ w.heap.size + 2 by omega)
      have hCW := below_grown hCb hg0 (Nat.le_refl _)
      generalize ((((((wb.setCell ⟨w.heap.size, 0, none⟩ (.int .i64 p.size)).setCell ⟨w.heap.size, 1, none⟩ (.int .i64 p.next)).setCell ⟨w.heap.size, 2, none⟩ (.slice ea en ec)).setCell ⟨w.heap.size, 3, none⟩ (.slice va vn vc)).setCell ⟨w.heap.size, 4, none⟩ (.slice ra rn rc)).setCell ⟨w.heap.size, 5, none⟩ (.slice la ln lc)) = W8 at *
      refine hK.out _ _ (PP.six') (fun hHeld => ?_)
      clear hK K
      try simp only [Act.put, lsA, lsB, lsC]
      refine oneL (i := 1) (by kernel_rfl) rfl (fun K hK => ?_)
      go_simp
      have hAL : Below W8.heap.size W8 (W8.alloc (.cells #[.string ⟨#[117]⟩, .string ⟨#[118]⟩, .string ⟨#[119]⟩] 9)) := (Below.refl _ _).alloc (Nat.le_refl _) _
      have La := Blk.new W8 #[.string ⟨#[117]⟩, .string ⟨#[118]⟩, .string ⟨#[119]⟩] 9
      replace W0 := W0.below hAL
      replace PP := PP.below hAL
      replace PF := PF.below hAL
      replace hCW := chain hCW hAL
      generalize hWa : W8.alloc (.cells #[.string ⟨#[117]⟩, .string ⟨#[118]⟩, .string ⟨#[119]⟩] 9) = wa at *
      obtain ⟨vol, hvc, hvol⟩ := lit_at La rfl (fun v hv => by simp at hv; rcases hv with rfl | rfl | rfl <;> exact ⟨_, rfl, by decide⟩) hy
      refine hK.out _ _ (PP.six') (fun hHeld => ?_)
      clear hK K
      try simp only [Act.put, lsA, lsB, lsC]
      refine takeQ (i := 4) (v := ?vq6526) rfl (by kernel_rfl) (fun _ _ _ h => h) (by rfl) ?hq6526 (by assumption) ?rq6526
      case hq6526 => (intro u hu; (try dsimp only at hu); go_simp <;> with_reducible rfl)
      try simp only [Act.put, lsA, lsB, lsC]
      refine oneL (i := 5) (by kernel_rfl) rfl (fun K hK => ?_)
      go_simp
      refine hK.out _ _ (PP.six') (fun hHeld => ?_)
      clear hK K
      try simp only [Act.put, lsA, lsB, lsC]
      refine takeQ (i := 7) (v := ?vq6527) rfl (by kernel_rfl) (fun _ _ _ h => h) (by rfl) ?hq6527 (by assumption) ?rq6527
      case hq6527 => (intro u hu; (try dsimp only at hu); go_simp <;> with_reducible rfl)
      try simp only [Act.put, lsA, lsB, lsC]
      refine wpAnyH_done (by kernel_rfl) ?_ _
      go_wp2
      refine bodyPost_ret (results_cell_tmp rfl _ wa w.heap.size _ _ _ _ _ rfl W0 Tryz.underlying28 rfl (by kernel_rfl) rfl) rfl ?_
      exact ⟨⟨_, p, vol, rfl, PF, hd, hvol⟩, hCW⟩
set_option maxHeartbeats 4000000 in
set_option maxRecDepth 100000 in
theorem spec_DrawOnlyOf (a : Option Addr) (n cap : Nat) (w : World) (h : CodeAt w a n) (hn : n ≤ 1048576) :
    Calls Tryz.prog 21 #[.slice a n cap] w fun e w' => (∃ v p vol, e = .returned (.tuple #[v, .string vol]) ∧ PoolT (w.heap.size + 1) w' v p ∧ DimQ p ∧ vol.size ≤ 1) ∧ Below w.heap.size w w' := by
  go_enter Tryz.func21, Tryz.ntmps21
  go_wp2_with fail
  have hA0 : Below w.heap.size w (w.alloc (.cells #[.int .i64 0, .int .i64 0, .slice none 0 0, .slice none 0 0, .slice none 0 0, .slice none 0 0] 28)) := by go_grown
  have D0 := Blk.new w #[.int .i64 0, .int .i64 0, .slice none 0 0, .slice none 0 0, .slice none 0 0, .slice none 0 0] 28
  have hz0 : (w.alloc (.cells #[.int .i64 0, .int .i64 0, .slice none 0 0, .slice none 0 0, .slice none 0 0, .slice none 0 0] 28)).heap.size = w.heap.size + 1 := by simp
  have h0 := h.below hA0
  generalize w.alloc (.cells #[.int .i64 0, .int .i64 0, .slice none 0 0, .slice none 0 0, .slice none 0 0, .slice none 0 0] 28) = w0 at *
  refine (spec_DrawFilesOf a n cap w0 h0 hn).mono ?_
  rintro e w1 ⟨⟨v, p, vol, rfl, PT, hd, hvol⟩, hB1⟩
  have PT2 := PT.mono (show w.heap.size + 1 ≤ w0.heap.size + 1 by omega)
  obtain ⟨ea, en, ec, va, vn, vc, ra, rn, rc, la, ln, lc, rows, rfl, _⟩ := PT
  have D1 := D0.below hB1
  have hC1 := chain hA0 hB1
  obtain ⟨x0, x1, x2, x3, x4, x5⟩ := D1.six'
  have f0 := D1.frozen 0
  have f1 := D1.frozen 1
  have f2 := D1.frozen 2
  have f3 := D1.frozen 3
  have f4 := D1.frozen 4
  have f5 := D1.frozen 5
  go_wp2
  obtain ⟨W0, hg0⟩ := set6 D1 (.int .i64 p.size) (.int .i64 p.next) (.slice ea en ec) (.slice va vn vc) (.slice ra rn rc) (.slice la ln lc)
  have PF := PT2.tyP hg0 (rowTy_blk D1)
  have hCW := below_grown hC1 hg0 (Nat.le_refl _)
  generalize ((((((w1.setCell ⟨w.heap.size, 0, none⟩ (.int .i64 p.size)).setCell ⟨w.heap.size, 1, none⟩ (.int .i64 p.next)).setCell ⟨w.heap.size, 2, none⟩ (.slice ea en ec)).setCell ⟨w.heap.size, 3, none⟩ (.slice va vn vc)).setCell ⟨w.heap.size, 4, none⟩ (.slice ra rn rc)).setCell ⟨w.heap.size, 5, none⟩ (.slice la ln lc)) = W8 at *
  refine bodyPost_ret (results_cell_tmp rfl _ W8 w.heap.size _ _ _ _ _ rfl W0 Tryz.underlying28 rfl (by kernel_rfl) rfl) rfl ?_
  exact ⟨⟨_, p, vol, rfl, PF, hd, hvol⟩, hCW⟩
end Go.Proofs.YtnjefbkhibfgmaaGreat
