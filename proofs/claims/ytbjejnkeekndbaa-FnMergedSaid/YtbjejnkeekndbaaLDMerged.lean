/- At every code: Merged of what is drawn is what its model tells, rises, has no nought, is the same of the list turned round, parted and merged already: no condition. -/
import Derived.Test.YtbjejnkeekndbaaRows
import Derived.Test.YtbjejnkeekndbaaKg
import Derived.Test.YtbjejnkeekndbaaKr
import Derived.Test.YtbjejnkeekndbaaKv
import Derived.Test.YtbjejnkeekndbaaKc
import Derived.Deep.RegionHeld3
namespace Go.Proofs.Ytbjejnkeekndbaa
open Go.ChangeShapes Go.WideShapes Go.ChangeAt Go.RowKit Go.Deep Go.BigFrame

set_option maxHeartbeats 8000000 in
set_option maxRecDepth 100000 in
theorem walkDMerged (a : Option Addr) (n cap : Nat) (w : World) (h : CodeAt w a n) (hm : n ≤ 9223372036854775807) :
    Calls Try.prog 9 #[.slice a n cap] w fun e w' => e = .returned (.bool true) ∧ Below w.heap.size w w' := by
  obtain ⟨i0, hi, hz0, hz1, hz2⟩ := info_parts infoC
  by_cases hn : n ≤ 1048576
  · have hb : decide (1048576 < n) = false := by simp; omega
    go_enter Try.func9, Try.ntmps9
    go_wp2_with fail
    refine (laws_bigC a n cap _ hm).mono ?_
    rintro e w1 ⟨rfl, rfl⟩
    rw [hb]
    go_wp2_with fail
    refine (spec_DrawMerged a n cap _ h hn).mono ?_
    rintro e w2 ⟨⟨a1, n1, cap1, l1, rfl, hn1, hd1, R1⟩, hC2⟩
    have hs1 := hd1.strs
    go_wp2_with fail
    refine (impl_Merged a1 n1 cap1 l1 _ R1.sl hs1 (by omega)).mono ?_
    rintro e w3 ⟨⟨a2, n2, cap2, rfl, hn2, R2⟩, hB3⟩
    replace R1 := R1.below hB3
    have hC3 := chain hC2 hB3
    clear hB3 hC2
    go_wp2_with fail
    refine (spec_Merged a1 n1 cap1 l1 _ R1.sl hs1 (by omega)).mono ?_
    rintro e w4 ⟨⟨a3, n3, cap3, rfl, R3⟩, hB4⟩
    replace R1 := R1.below hB4
    replace R2 := R2.below hB4
    have hC4 := chain hC3 hB4
    clear hB4 hC3
    go_wp2_with fail
    refine (laws_sameCounts a2 n2 cap2 _ a3 n3 cap3 _ R2.sl R3.sl (by omega)).mono ?_
    rintro e w5 ⟨rfl, hB5⟩
    replace R1 := R1.below hB5
    replace R2 := R2.below hB5
    have hC5 := chain hC4 hB5
    clear hB5 hC4 R3
    go_wp2_with fail
    refine (impl_LateOk a1 n1 cap1 l1 _ R1.sl hs1 (by omega)).mono ?_
    rintro e w6 ⟨rfl, hB6⟩
    replace R1 := R1.below hB6
    replace R2 := R2.below hB6
    have hC6 := chain hC5 hB6
    clear hB6 hC5
    go_wp2_with fail
    refine (spec_LateOk a1 n1 cap1 l1 _ R1.sl hs1 (by omega)).mono ?_
    rintro e w7 ⟨rfl, hB7⟩
    replace R1 := R1.below hB7
    replace R2 := R2.below hB7
    have hC7 := chain hC6 hB7
    clear hB7 hC6
    cases hok : lateOkB l1
    · go_wp2_with fail
      refine (spec_LateOk a1 n1 cap1 l1 _ R1.sl hs1 (by omega)).mono ?_
      rintro e w8 ⟨rfl, hB8⟩
      rw [hok]
      replace R1 := R1.below hB8
      replace R2 := R2.below hB8
      have hC8 := chain hC7 hB8
      go_wp2_with fail
      refine (spec_Merged a1 n1 cap1 l1 _ R1.sl hs1 (by omega)).mono ?_
      rintro e w9 ⟨⟨a3, n3, cap3, rfl, R3⟩, hB9⟩
      replace R1 := R1.below hB9
      replace R2 := R2.below hB9
      have hC9 := chain hC8 hB9
      go_wp2_with fail
      refine (laws_sameCounts a2 n2 cap2 _ a3 n3 cap3 _ R2.sl R3.sl (by omega)).mono ?_
      rintro e w10 ⟨rfl, hB10⟩
      replace R1 := R1.below hB10
      have hC10 := chain hC9 hB10
      go_wp2_with fail
      refine (impl_LateOk a1 n1 cap1 l1 _ R1.sl hs1 (by omega)).mono ?_
      rintro e w11 ⟨rfl, hB11⟩
      rw [hok]
      replace R1 := R1.below hB11
      have hC11 := chain hC10 hB11
      go_wp2_with fail
      refine (spec_LateOk a1 n1 cap1 l1 _ R1.sl hs1 (by omega)).mono ?_
      rintro e w12 ⟨rfl, hB12⟩
      rw [hok]
      have hC12 := chain hC11 hB12
      go_wp2
      go_returns
      exact ⟨rfl, hC12⟩
    · go_wp2_with fail
      refine (spec_LateOk a1 n1 cap1 l1 _ R1.sl hs1 (by omega)).mono ?_
      rintro e w8 ⟨rfl, hB8⟩
      rw [hok]
      replace R1 := R1.below hB8
      replace R2 := R2.below hB8
      have hC8 := chain hC7 hB8
      clear hB8 hC7
      have hl1 := R1.sl.len
      go_wp2_with fail
      go_loopw [5, 6] (fun out ix wr => ∃ (k : Nat) (a5 : Option Addr) (cap5 : Nat), k ≤ n1 ∧ ix = .int .i64 ((k : Int) - 1) ∧ out = .slice a5 (n1 - k) cap5 ∧ ResAt Ct.cs 4 66 wr w8.heap.size a5 (n1 - k) cap5 (l1.drop k).reverse ∧ Below w8.heap.size w8 wr) (fun _ ix _ => (intOf ix + 1).toNat)
      case atStart =>
        refine ⟨n1, _, 0, Nat.le_refl _, rfl, by rw [Nat.sub_self], ?_, by go_grown⟩
        rw [Nat.sub_self, List.drop_eq_nil_of_le (by omega)]
        exact res_empty (Blk.new' _ _ _ _ rfl) (Nat.le_refl _)
      case round =>
        obtain ⟨k, a5, cap5, hk, rfl, rfl, R5, hB⟩ := hrel
        have hsz := hB.size
        rcases k with _ | j
        · rw [List.drop_zero, Nat.sub_zero] at R5
          simp only [Nat.sub_zero]
          obtain ⟨K, hK, hKn⟩ : ∃ K : Nat, K = n % (n1 + 1) ∧ K ≤ n1 := ⟨_, rfl, by have := Nat.mod_lt n (show 0 < n1 + 1 by omega); omega⟩
          have hmod : (n : Int) % ((n1 : Int) + 1) = (K : Int) := by rw [hK]; simp
          replace R1 := R1.below hB
          replace R2 := R2.below hB
          have hCr := chain hC8 hB
          clear hC8 hB hsz
          have hsT := strC_take hs1 K
          have hsD := strC_drop hs1 K
          clear hK
          have hK0 : (0 : Int) ≤ (K : Int) := by omega
          have hK1 : (K : Int) ≤ n1 := by omega
          rcases R1.own with ⟨rfl, rfl, rfl⟩ | ⟨b, rfl, hb0, hcap, hcap2, cc, hcc, hcs, _⟩
          · obtain rfl : K = 0 := by omega
            have hT := R1.sl.take hKn
            have hD := R1.sl
            rw [← List.drop_zero (l := l1)] at hD
            go_wp2_with fail
            go_region_held3 (fun _ => True) (trivial) (first | (go_at_call 49; refine (merged_grown hD hsD (by omega) hG11).mono ?_; rintro e w12 ⟨a12, n12, cap12, rfl, hn12, R12, hB12, hG12, hs12⟩) | (go_at_call 49; refine (merged_grown hT hsT (by omega) (by go_grown)).mono ?_; rintro e w10 ⟨a10, n10, cap10, rfl, hn10, R10, hB10, hG10, hs10⟩) | (refine step_app rfl (wp_app _ _ 58 rfl wr.heap.size 66 i0 (.agg #[.int .i64 0, .int .i64 0, .string .empty, .int .i64 0]) 40 Try.underlying58 hi hz0 hz1 hz2 rfl (by decide) ccs_len ccs_one a11 n10 cap11 ([] ++ mergedL (l1.take 0)) rfl (R11.below hB12) a12 n12 cap12 (mergedL (l1.drop 0)) rfl R12.sl R12.arg.spot R12.arg.nil (n10 + n12) rfl (by unfold maxLen; omega) (by omega) hs12 ?_); intro a13 cap13 w13 R13 hg13; have hG13 : Below wr.heap.size wr w13 := Below.grown hG12 hg13 hs12 (own_ge fun ad had => (R11.block ad had).1)) | (refine step_app rfl (wp_app _ _ 58 rfl wr.heap.size 66 i0 (.agg #[.int .i64 0, .int .i64 0, .string .empty, .int .i64 0]) 40 Try.underlying58 hi hz0 hz1 hz2 rfl (by decide) ccs_len ccs_one _ 0 0 [] rfl (by first | exact res_empty (((Blk.new' wr _ _ _ rfl).drew).below hB10) (Nat.le_refl _) | exact res_empty (Blk.new' w10 _ _ _ rfl) hs10 | exact res_empty (Blk.new' w10 _ _ _ rfl).drew hs10) a10 n10 cap10 (mergedL (l1.take 0)) rfl (by first | exact R10.sl | exact R10.sl.alloc _) R10.arg.spot R10.arg.nil n10 (Nat.zero_add _) (by unfold maxLen; omega) (by omega) (by first | exact hs10 | (simp; omega)) ?_); intro a11 cap11 w11 R11 hg11; have hG11 : Below wr.heap.size wr w11 := (by first | exact Below.grown hG10 hg11 hs10 (own_ge fun ad had => (by cases had; exact Nat.le_refl _)) | exact Below.grown (hG10.alloc hs10 _) hg11 (by simp; omega) (own_ge fun ad had => (by cases had; exact hs10)))))
            all_goals replace R2 := R2.below hG13
            all_goals replace R5 := R5.below hG13
            all_goals have hC13 := chain hCr hG13
            all_goals have hst : StrC (mergedL (l1.take 0) ++ mergedL (l1.drop 0)) := fun c hc => (List.mem_append.1 hc).elim (str_merged hsT c) (str_merged hsD c)
            all_goals have hsr : StrC l1.reverse := fun c hc => hs1 c (by simpa using hc)
            all_goals have hsm := str_merged hs1
            all_goals rw [List.nil_append] at R13
            all_goals have hmf := merged_facts hok
            all_goals have hmr := merged_rev hok
            all_goals have hmt : Hid (∀ _ : lateOkB (mergedL (l1.take 0) ++ mergedL (l1.drop 0)) = true, mergedL (mergedL (l1.take 0) ++ mergedL (l1.drop 0)) = mergedL l1) := merged_two hok 0
            all_goals have hms : Hid (∀ _ : lateOkB (mergedL l1) = true, mergedL (mergedL l1) = mergedL l1) := merged_self hok
            all_goals generalize mergedL (l1.take 0) ++ mergedL (l1.drop 0) = two at *
            all_goals generalize hml : mergedL l1 = m at *
            all_goals clear hml hG13
            all_goals go_wp2_with fail
            all_goals go_loopw [9] (fun ix wx => ∃ (k : Nat), k ≤ n2 ∧ ix = .int .i64 k ∧ Below w13.heap.size w13 wx) (fun ix _ => n2 - (intOf ix).toNat)
            all_goals first | exact ⟨0, Nat.zero_le _, rfl, Below.refl _ _⟩ | skip
            all_goals obtain ⟨k, hk, rfl, hBx⟩ := hrel
            all_goals by_cases hlt : k < n2
            · obtain ⟨b', o', p, rfl, hp, c0, c1, c2, c3⟩ := cts_at (R2.sl.below hBx) hlt
              have hpz : (p.n == 0) = false := by simpa using hmf.2 p (List.mem_of_getElem? hp)
              have hk1 : (k : Int) < n2 := by omega
              have hk2 : (0 : Int) ≤ k := by omega
              rcases k with _ | j
              · simp only [Nat.zero_mul, Nat.add_zero] at c0 c1 c2 c3
                clear hp
                go_wp2_with fail
                have g3 := gcell c3
                have hne := grw_ne wr
                refine wp_region_grow (by kernel_rfl) (by kernel_rfl) ?_
                repeat (go_big_quiet_step (fail))
                refine wpQuiet_nil ?_
                intro w14 hx
                have hB14 := grw_out hx
                clear hx
                go_wp2
                go_roundw
                case rel => exact ⟨1, by omega, by go_num, chain hBx hB14⟩
                case measure => simp [intOf]; omega
              · obtain ⟨b2, o2, q, hb2, hq, d0, d1, d2, d3⟩ := cts_at (R2.sl.below hBx) (show j < n2 by omega)
                obtain ⟨rfl, rfl⟩ : b' = b2 ∧ o' = o2 := by simpa using hb2
                have hgo := rising_at hmf.1 hq hp
                have hj1 : (j : Int) < n2 := by omega
                have hj2 : (0 : Int) ≤ j := by omega
                have hw1 : IntKind.i64.wrap ((j : Int) + 1 - 1) = (j : Int) := by rw [IntKind.wrap_i64]; omega
                have hw2 : IntKind.i64.wrap (j : Int) = (j : Int) := by rw [IntKind.wrap_i64]; omega
                clear hp hq hb2
                go_wp2_with fail
                have g0 := gcell c0
                have g1 := gcell c1
                have g2 := gcell c2
                have g3 := gcell c3
                have g4 := gcell d0
                have g5 := gcell d1
                have g6 := gcell d2
                have hne := grw_ne wr
                refine wp_region_grow (by kernel_rfl) (by kernel_rfl) ?_
                repeat (go_big_quiet_step (first | (go_at_call 54; have qq := impl_OwnerAhead q.o p.o; rw [hgo] at qq; exact grow_of (qq _))))
                refine wpQuiet_nil ?_
                intro w14 hx
                have hB14 := grw_out hx
                clear hx
                go_wp2
                go_roundw
                case rel => exact ⟨j + 2, by omega, by go_num, chain hBx hB14⟩
                case measure => simp [intOf]; omega
            · obtain rfl : n2 = k := by omega
              replace R2 := R2.below hBx
              replace R5 := R5.below hBx
              replace R13 := R13.below hBx
              have hCx := chain hC13 hBx
              clear hC13 hBx
              go_wp2_with fail
              refine (impl_Merged a5 0 cap5 l1.reverse _ R5.sl hsr (by omega)).mono ?_
              rintro e w14 ⟨⟨a14, n14, cap14, rfl, hn14, R14⟩, hB14⟩
              rw [hmr] at R14
              replace R2 := R2.below hB14
              replace R13 := R13.below hB14
              have hC14 := chain hCx hB14
              clear hCx hB14 R5
              go_wp2_with fail
              refine (laws_sameCounts a14 n14 cap14 _ a2 n2 cap2 _ R14.sl R2.sl (by omega)).mono ?_
              rintro e w15 ⟨rfl, hB15⟩
              replace R2 := R2.below hB15
              replace R13 := R13.below hB15
              have hC15 := chain hC14 hB15
              clear hC14 hB15 R14
              go_wp2_with fail
              refine (impl_LateOk a13 (n10 + n12) cap13 two _ R13.sl hst (by omega)).mono ?_
              rintro e w16 ⟨rfl, hB16⟩
              replace R2 := R2.below hB16
              replace R13 := R13.below hB16
              have hC16 := chain hC15 hB16
              clear hC15 hB16
              cases h2 : lateOkB two
              · go_wp2_with fail
                refine (impl_LateOk a2 n2 cap2 m _ R2.sl hsm (by omega)).mono ?_
                rintro e w20 ⟨rfl, hB20⟩
                replace R2 := R2.below hB20
                have hC20 := chain hC16 hB20
                cases h3 : lateOkB m
                · go_wp2
                  go_returns
                  exact ⟨rfl, hC20⟩
                · go_wp2_with fail
                  refine (impl_Merged a2 n2 cap2 m _ R2.sl hsm (by omega)).mono ?_
                  rintro e w21 ⟨⟨a21, n21, cap21, rfl, hn21, R21⟩, hB21⟩
                  rw [hms.out h3] at R21
                  replace R2 := R2.below hB21
                  have hC21 := chain hC20 hB21
                  go_wp2_with fail
                  refine (laws_sameCounts a21 n21 cap21 _ a2 n2 cap2 _ R21.sl R2.sl (by omega)).mono ?_
                  rintro e w22 ⟨rfl, hB22⟩
                  have hC22 := chain hC21 hB22
                  go_wp2
                  go_returns
                  exact ⟨rfl, hC22⟩
              · go_wp2_with fail
                refine (impl_Merged a13 (n10 + n12) cap13 two _ R13.sl hst (by omega)).mono ?_
                rintro e w17 ⟨⟨a17, n17, cap17, rfl, hn17, R17⟩, hB17⟩
                rw [hmt.out h2] at R17
                replace R2 := R2.below hB17
                have hC17 := chain hC16 hB17
                go_wp2_with fail
                refine (laws_sameCounts a17 n17 cap17 _ a2 n2 cap2 _ R17.sl R2.sl (by omega)).mono ?_
                rintro e w18 ⟨rfl, hB18⟩
                replace R2 := R2.below hB18
                have hC18 := chain hC17 hB18
                go_wp2_with fail
                refine (impl_LateOk a2 n2 cap2 m _ R2.sl hsm (by omega)).mono ?_
                rintro e w20 ⟨rfl, hB20⟩
                replace R2 := R2.below hB20
                have hC20 := chain hC18 hB20
                cases h3 : lateOkB m
                · go_wp2
                  go_returns
                  exact ⟨rfl, hC20⟩
                · go_wp2_with fail
                  refine (impl_Merged a2 n2 cap2 m _ R2.sl hsm (by omega)).mono ?_
                  rintro e w21 ⟨⟨a21, n21, cap21, rfl, hn21, R21⟩, hB21⟩
                  rw [hms.out h3] at R21
                  replace R2 := R2.below hB21
                  have hC21 := chain hC20 hB21
                  go_wp2_with fail
                  refine (laws_sameCounts a21 n21 cap21 _ a2 n2 cap2 _ R21.sl R2.sl (by omega)).mono ?_
                  rintro e w22 ⟨rfl, hB22⟩
                  have hC22 := chain hC21 hB22
                  go_wp2
                  go_returns
                  exact ⟨rfl, hC22⟩
            · obtain ⟨b', o', p, rfl, hp, c0, c1, c2, c3⟩ := cts_at (R2.sl.below hBx) hlt
              have hpz : (p.n == 0) = false := by simpa using hmf.2 p (List.mem_of_getElem? hp)
              have hk1 : (k : Int) < n2 := by omega
              have hk2 : (0 : Int) ≤ k := by omega
              rcases k with _ | j
              · simp only [Nat.zero_mul, Nat.add_zero] at c0 c1 c2 c3
                clear hp
                go_wp2_with fail
                have g3 := gcell c3
                have hne := grw_ne wr
                refine wp_region_grow (by kernel_rfl) (by kernel_rfl) ?_
                repeat (go_big_quiet_step (fail))
                refine wpQuiet_nil ?_
                intro w14 hx
                have hB14 := grw_out hx
                clear hx
                go_wp2
                go_roundw
                case rel => exact ⟨1, by omega, by go_num, chain hBx hB14⟩
                case measure => simp [intOf]; omega
              · obtain ⟨b2, o2, q, hb2, hq, d0, d1, d2, d3⟩ := cts_at (R2.sl.below hBx) (show j < n2 by omega)
                obtain ⟨rfl, rfl⟩ : b' = b2 ∧ o' = o2 := by simpa using hb2
                have hgo := rising_at hmf.1 hq hp
                have hj1 : (j : Int) < n2 := by omega
                have hj2 : (0 : Int) ≤ j := by omega
                have hw1 : IntKind.i64.wrap ((j : Int) + 1 - 1) = (j : Int) := by rw [IntKind.wrap_i64]; omega
                have hw2 : IntKind.i64.wrap (j : Int) = (j : Int) := by rw [IntKind.wrap_i64]; omega
                clear hp hq hb2
                go_wp2_with fail
                have g0 := gcell c0
                have g1 := gcell c1
                have g2 := gcell c2
                have g3 := gcell c3
                have g4 := gcell d0
                have g5 := gcell d1
                have g6 := gcell d2
                have hne := grw_ne wr
                refine wp_region_grow (by kernel_rfl) (by kernel_rfl) ?_
                repeat (go_big_quiet_step (first | (go_at_call 54; have qq := impl_OwnerAhead q.o p.o; rw [hgo] at qq; exact grow_of (qq _))))
                refine wpQuiet_nil ?_
                intro w14 hx
                have hB14 := grw_out hx
                clear hx
                go_wp2
                go_roundw
                case rel => exact ⟨j + 2, by omega, by go_num, chain hBx hB14⟩
                case measure => simp [intOf]; omega
            · obtain rfl : n2 = k := by omega
              replace R2 := R2.below hBx
              replace R5 := R5.below hBx
              replace R13 := R13.below hBx
              have hCx := chain hC13 hBx
              clear hC13 hBx
              go_wp2_with fail
              refine (impl_Merged a5 0 cap5 l1.reverse _ R5.sl hsr (by omega)).mono ?_
              rintro e w14 ⟨⟨a14, n14, cap14, rfl, hn14, R14⟩, hB14⟩
              rw [hmr] at R14
              replace R2 := R2.below hB14
              replace R13 := R13.below hB14
              have hC14 := chain hCx hB14
              clear hCx hB14 R5
              go_wp2_with fail
              refine (laws_sameCounts a14 n14 cap14 _ a2 n2 cap2 _ R14.sl R2.sl (by omega)).mono ?_
              rintro e w15 ⟨rfl, hB15⟩
              replace R2 := R2.below hB15
              replace R13 := R13.below hB15
              have hC15 := chain hC14 hB15
              clear hC14 hB15 R14
              go_wp2_with fail
              refine (impl_LateOk a13 (n10 + n12) cap13 two _ R13.sl hst (by omega)).mono ?_
              rintro e w16 ⟨rfl, hB16⟩
              replace R2 := R2.below hB16
              replace R13 := R13.below hB16
              have hC16 := chain hC15 hB16
              clear hC15 hB16
              cases h2 : lateOkB two
              · go_wp2_with fail
                refine (impl_LateOk a2 n2 cap2 m _ R2.sl hsm (by omega)).mono ?_
                rintro e w20 ⟨rfl, hB20⟩
                replace R2 := R2.below hB20
                have hC20 := chain hC16 hB20
                cases h3 : lateOkB m
                · go_wp2
                  go_returns
                  exact ⟨rfl, hC20⟩
                · go_wp2_with fail
                  refine (impl_Merged a2 n2 cap2 m _ R2.sl hsm (by omega)).mono ?_
                  rintro e w21 ⟨⟨a21, n21, cap21, rfl, hn21, R21⟩, hB21⟩
                  rw [hms.out h3] at R21
                  replace R2 := R2.below hB21
                  have hC21 := chain hC20 hB21
                  go_wp2_with fail
                  refine (laws_sameCounts a21 n21 cap21 _ a2 n2 cap2 _ R21.sl R2.sl (by omega)).mono ?_
                  rintro e w22 ⟨rfl, hB22⟩
                  have hC22 := chain hC21 hB22
                  go_wp2
                  go_returns
                  exact ⟨rfl, hC22⟩
              · go_wp2_with fail
                refine (impl_Merged a13 (n10 + n12) cap13 two _ R13.sl hst (by omega)).mono ?_
                rintro e w17 ⟨⟨a17, n17, cap17, rfl, hn17, R17⟩, hB17⟩
                rw [hmt.out h2] at R17
                replace R2 := R2.below hB17
                have hC17 := chain hC16 hB17
                go_wp2_with fail
                refine (laws_sameCounts a17 n17 cap17 _ a2 n2 cap2 _ R17.sl R2.sl (by omega)).mono ?_
                rintro e w18 ⟨rfl, hB18⟩
                replace R2 := R2.below hB18
                have hC18 := chain hC17 hB18
                go_wp2_with fail
                refine (impl_LateOk a2 n2 cap2 m _ R2.sl hsm (by omega)).mono ?_
                rintro e w20 ⟨rfl, hB20⟩
                replace R2 := R2.below hB20
                have hC20 := chain hC18 hB20
                cases h3 : lateOkB m
                · go_wp2
                  go_returns
                  exact ⟨rfl, hC20⟩
                · go_wp2_with fail
                  refine (impl_Merged a2 n2 cap2 m _ R2.sl hsm (by omega)).mono ?_
                  rintro e w21 ⟨⟨a21, n21, cap21, rfl, hn21, R21⟩, hB21⟩
                  rw [hms.out h3] at R21
                  replace R2 := R2.below hB21
                  have hC21 := chain hC20 hB21
                  go_wp2_with fail
                  refine (laws_sameCounts a21 n21 cap21 _ a2 n2 cap2 _ R21.sl R2.sl (by omega)).mono ?_
                  rintro e w22 ⟨rfl, hB22⟩
                  have hC22 := chain hC21 hB22
                  go_wp2
                  go_returns
                  exact ⟨rfl, hC22⟩
          · have hK2 : (K : Int) ≤ cap1 := by omega
            have hK3 : (n1 : Int) ≤ cap1 := by omega
            by_cases hcK : cap1 = K
            · obtain rfl : n1 = K := by omega
              obtain rfl : n1 = cap1 := by omega
              have hT := R1.sl.take hKn
              have hD : CtsAt wr (some ⟨b, 0, none⟩) 0 (l1.drop n1) := by
                rw [List.drop_eq_nil_of_le (by omega)]
                exact ⟨rfl, fun i x hx => by simp at hx⟩
              go_wp2_with fail
              go_region_held3 (fun _ => True) (trivial) (first | (go_at_call 49; refine (merged_grown hD hsD (by omega) hG11).mono ?_; rintro e w12 ⟨a12, n12, cap12, rfl, hn12, R12, hB12, hG12, hs12⟩) | (go_at_call 49; refine (merged_grown hT hsT (by omega) (by go_grown)).mono ?_; rintro e w10 ⟨a10, n10, cap10, rfl, hn10, R10, hB10, hG10, hs10⟩) | (refine step_app rfl (wp_app _ _ 58 rfl wr.heap.size 66 i0 (.agg #[.int .i64 0, .int .i64 0, .string .empty, .int .i64 0]) 40 Try.underlying58 hi hz0 hz1 hz2 rfl (by decide) ccs_len ccs_one a11 n10 cap11 ([] ++ mergedL (l1.take n1)) rfl (R11.below hB12) a12 n12 cap12 (mergedL (l1.drop n1)) rfl R12.sl R12.arg.spot R12.arg.nil (n10 + n12) rfl (by unfold maxLen; omega) (by omega) hs12 ?_); intro a13 cap13 w13 R13 hg13; have hG13 : Below wr.heap.size wr w13 := Below.grown hG12 hg13 hs12 (own_ge fun ad had => (R11.block ad had).1)) | (refine step_app rfl (wp_app _ _ 58 rfl wr.heap.size 66 i0 (.agg #[.int .i64 0, .int .i64 0, .string .empty, .int .i64 0]) 40 Try.underlying58 hi hz0 hz1 hz2 rfl (by decide) ccs_len ccs_one _ 0 0 [] rfl (by first | exact res_empty (((Blk.new' wr _ _ _ rfl).drew).below hB10) (Nat.le_refl _) | exact res_empty (Blk.new' w10 _ _ _ rfl) hs10 | exact res_empty (Blk.new' w10 _ _ _ rfl).drew hs10) a10 n10 cap10 (mergedL (l1.take n1)) rfl (by first | exact R10.sl | exact R10.sl.alloc _) R10.arg.spot R10.arg.nil n10 (Nat.zero_add _) (by unfold maxLen; omega) (by omega) (by first | exact hs10 | (simp; omega)) ?_); intro a11 cap11 w11 R11 hg11; have hG11 : Below wr.heap.size wr w11 := (by first | exact Below.grown hG10 hg11 hs10 (own_ge fun ad had => (by cases had; exact Nat.le_refl _)) | exact Below.grown (hG10.alloc hs10 _) hg11 (by simp; omega) (own_ge fun ad had => (by cases had; exact hs10)))))
              all_goals replace R2 := R2.below hG13
              all_goals replace R5 := R5.below hG13
              all_goals have hC13 := chain hCr hG13
              all_goals have hst : StrC (mergedL (l1.take n1) ++ mergedL (l1.drop n1)) := fun c hc => (List.mem_append.1 hc).elim (str_merged hsT c) (str_merged hsD c)
              all_goals have hsr : StrC l1.reverse := fun c hc => hs1 c (by simpa using hc)
              all_goals have hsm := str_merged hs1
              all_goals rw [List.nil_append] at R13
              all_goals have hmf := merged_facts hok
              all_goals have hmr := merged_rev hok
              all_goals have hmt : Hid (∀ _ : lateOkB (mergedL (l1.take n1) ++ mergedL (l1.drop n1)) = true, mergedL (mergedL (l1.take n1) ++ mergedL (l1.drop n1)) = mergedL l1) := merged_two hok n1
              all_goals have hms : Hid (∀ _ : lateOkB (mergedL l1) = true, mergedL (mergedL l1) = mergedL l1) := merged_self hok
              all_goals generalize mergedL (l1.take n1) ++ mergedL (l1.drop n1) = two at *
              all_goals generalize hml : mergedL l1 = m at *
              all_goals clear hml hG13
              all_goals go_wp2_with fail
              all_goals go_loopw [9] (fun ix wx => ∃ (k : Nat), k ≤ n2 ∧ ix = .int .i64 k ∧ Below w13.heap.size w13 wx) (fun ix _ => n2 - (intOf ix).toNat)
              all_goals first | exact ⟨0, Nat.zero_le _, rfl, Below.refl _ _⟩ | skip
              all_goals obtain ⟨k, hk, rfl, hBx⟩ := hrel
              all_goals by_cases hlt : k < n2
              · obtain ⟨b', o', p, rfl, hp, c0, c1, c2, c3⟩ := cts_at (R2.sl.below hBx) hlt
                have hpz : (p.n == 0) = false := by simpa using hmf.2 p (List.mem_of_getElem? hp)
                have hk1 : (k : Int) < n2 := by omega
                have hk2 : (0 : Int) ≤ k := by omega
                rcases k with _ | j
                · simp only [Nat.zero_mul, Nat.add_zero] at c0 c1 c2 c3
                  clear hp
                  go_wp2_with fail
                  have g3 := gcell c3
                  have hne := grw_ne wr
                  refine wp_region_grow (by kernel_rfl) (by kernel_rfl) ?_
                  repeat (go_big_quiet_step (fail))
                  refine wpQuiet_nil ?_
                  intro w14 hx
                  have hB14 := grw_out hx
                  clear hx
                  go_wp2
                  go_roundw
                  case rel => exact ⟨1, by omega, by go_num, chain hBx hB14⟩
                  case measure => simp [intOf]; omega
                · obtain ⟨b2, o2, q, hb2, hq, d0, d1, d2, d3⟩ := cts_at (R2.sl.below hBx) (show j < n2 by omega)
                  obtain ⟨rfl, rfl⟩ : b' = b2 ∧ o' = o2 := by simpa using hb2
                  have hgo := rising_at hmf.1 hq hp
                  have hj1 : (j : Int) < n2 := by omega
                  have hj2 : (0 : Int) ≤ j := by omega
                  have hw1 : IntKind.i64.wrap ((j : Int) + 1 - 1) = (j : Int) := by rw [IntKind.wrap_i64]; omega
                  have hw2 : IntKind.i64.wrap (j : Int) = (j : Int) := by rw [IntKind.wrap_i64]; omega
                  clear hp hq hb2
                  go_wp2_with fail
                  have g0 := gcell c0
                  have g1 := gcell c1
                  have g2 := gcell c2
                  have g3 := gcell c3
                  have g4 := gcell d0
                  have g5 := gcell d1
                  have g6 := gcell d2
                  have hne := grw_ne wr
                  refine wp_region_grow (by kernel_rfl) (by kernel_rfl) ?_
                  repeat (go_big_quiet_step (first | (go_at_call 54; have qq := impl_OwnerAhead q.o p.o; rw [hgo] at qq; exact grow_of (qq _))))
                  refine wpQuiet_nil ?_
                  intro w14 hx
                  have hB14 := grw_out hx
                  clear hx
                  go_wp2
                  go_roundw
                  case rel => exact ⟨j + 2, by omega, by go_num, chain hBx hB14⟩
                  case measure => simp [intOf]; omega
              · obtain rfl : n2 = k := by omega
                replace R2 := R2.below hBx
                replace R5 := R5.below hBx
                replace R13 := R13.below hBx
                have hCx := chain hC13 hBx
                clear hC13 hBx
                go_wp2_with fail
                refine (impl_Merged a5 n1 cap5 l1.reverse _ R5.sl hsr (by omega)).mono ?_
                rintro e w14 ⟨⟨a14, n14, cap14, rfl, hn14, R14⟩, hB14⟩
                rw [hmr] at R14
                replace R2 := R2.below hB14
                replace R13 := R13.below hB14
                have hC14 := chain hCx hB14
                clear hCx hB14 R5
                go_wp2_with fail
                refine (laws_sameCounts a14 n14 cap14 _ a2 n2 cap2 _ R14.sl R2.sl (by omega)).mono ?_
                rintro e w15 ⟨rfl, hB15⟩
                replace R2 := R2.below hB15
                replace R13 := R13.below hB15
                have hC15 := chain hC14 hB15
                clear hC14 hB15 R14
                go_wp2_with fail
                refine (impl_LateOk a13 (n10 + n12) cap13 two _ R13.sl hst (by omega)).mono ?_
                rintro e w16 ⟨rfl, hB16⟩
                replace R2 := R2.below hB16
                replace R13 := R13.below hB16
                have hC16 := chain hC15 hB16
                clear hC15 hB16
                cases h2 : lateOkB two
                · go_wp2_with fail
                  refine (impl_LateOk a2 n2 cap2 m _ R2.sl hsm (by omega)).mono ?_
                  rintro e w20 ⟨rfl, hB20⟩
                  replace R2 := R2.below hB20
                  have hC20 := chain hC16 hB20
                  cases h3 : lateOkB m
                  · go_wp2
                    go_returns
                    exact ⟨rfl, hC20⟩
                  · go_wp2_with fail
                    refine (impl_Merged a2 n2 cap2 m _ R2.sl hsm (by omega)).mono ?_
                    rintro e w21 ⟨⟨a21, n21, cap21, rfl, hn21, R21⟩, hB21⟩
                    rw [hms.out h3] at R21
                    replace R2 := R2.below hB21
                    have hC21 := chain hC20 hB21
                    go_wp2_with fail
                    refine (laws_sameCounts a21 n21 cap21 _ a2 n2 cap2 _ R21.sl R2.sl (by omega)).mono ?_
                    rintro e w22 ⟨rfl, hB22⟩
                    have hC22 := chain hC21 hB22
                    go_wp2
                    go_returns
                    exact ⟨rfl, hC22⟩
                · go_wp2_with fail
                  refine (impl_Merged a13 (n10 + n12) cap13 two _ R13.sl hst (by omega)).mono ?_
                  rintro e w17 ⟨⟨a17, n17, cap17, rfl, hn17, R17⟩, hB17⟩
                  rw [hmt.out h2] at R17
                  replace R2 := R2.below hB17
                  have hC17 := chain hC16 hB17
                  go_wp2_with fail
                  refine (laws_sameCounts a17 n17 cap17 _ a2 n2 cap2 _ R17.sl R2.sl (by omega)).mono ?_
                  rintro e w18 ⟨rfl, hB18⟩
                  replace R2 := R2.below hB18
                  have hC18 := chain hC17 hB18
                  go_wp2_with fail
                  refine (impl_LateOk a2 n2 cap2 m _ R2.sl hsm (by omega)).mono ?_
                  rintro e w20 ⟨rfl, hB20⟩
                  replace R2 := R2.below hB20
                  have hC20 := chain hC18 hB20
                  cases h3 : lateOkB m
                  · go_wp2
                    go_returns
                    exact ⟨rfl, hC20⟩
                  · go_wp2_with fail
                    refine (impl_Merged a2 n2 cap2 m _ R2.sl hsm (by omega)).mono ?_
                    rintro e w21 ⟨⟨a21, n21, cap21, rfl, hn21, R21⟩, hB21⟩
                    rw [hms.out h3] at R21
                    replace R2 := R2.below hB21
                    have hC21 := chain hC20 hB21
                    go_wp2_with fail
                    refine (laws_sameCounts a21 n21 cap21 _ a2 n2 cap2 _ R21.sl R2.sl (by omega)).mono ?_
                    rintro e w22 ⟨rfl, hB22⟩
                    have hC22 := chain hC21 hB22
                    go_wp2
                    go_returns
                    exact ⟨rfl, hC22⟩
              · obtain ⟨b', o', p, rfl, hp, c0, c1, c2, c3⟩ := cts_at (R2.sl.below hBx) hlt
                have hpz : (p.n == 0) = false := by simpa using hmf.2 p (List.mem_of_getElem? hp)
                have hk1 : (k : Int) < n2 := by omega
                have hk2 : (0 : Int) ≤ k := by omega
                rcases k with _ | j
                · simp only [Nat.zero_mul, Nat.add_zero] at c0 c1 c2 c3
                  clear hp
                  go_wp2_with fail
                  have g3 := gcell c3
                  have hne := grw_ne wr
                  refine wp_region_grow (by kernel_rfl) (by kernel_rfl) ?_
                  repeat (go_big_quiet_step (fail))
                  refine wpQuiet_nil ?_
                  intro w14 hx
                  have hB14 := grw_out hx
                  clear hx
                  go_wp2
                  go_roundw
                  case rel => exact ⟨1, by omega, by go_num, chain hBx hB14⟩
                  case measure => simp [intOf]; omega
                · obtain ⟨b2, o2, q, hb2, hq, d0, d1, d2, d3⟩ := cts_at (R2.sl.below hBx) (show j < n2 by omega)
                  obtain ⟨rfl, rfl⟩ : b' = b2 ∧ o' = o2 := by simpa using hb2
                  have hgo := rising_at hmf.1 hq hp
                  have hj1 : (j : Int) < n2 := by omega
                  have hj2 : (0 : Int) ≤ j := by omega
                  have hw1 : IntKind.i64.wrap ((j : Int) + 1 - 1) = (j : Int) := by rw [IntKind.wrap_i64]; omega
                  have hw2 : IntKind.i64.wrap (j : Int) = (j : Int) := by rw [IntKind.wrap_i64]; omega
                  clear hp hq hb2
                  go_wp2_with fail
                  have g0 := gcell c0
                  have g1 := gcell c1
                  have g2 := gcell c2
                  have g3 := gcell c3
                  have g4 := gcell d0
                  have g5 := gcell d1
                  have g6 := gcell d2
                  have hne := grw_ne wr
                  refine wp_region_grow (by kernel_rfl) (by kernel_rfl) ?_
                  repeat (go_big_quiet_step (first | (go_at_call 54; have qq := impl_OwnerAhead q.o p.o; rw [hgo] at qq; exact grow_of (qq _))))
                  refine wpQuiet_nil ?_
                  intro w14 hx
                  have hB14 := grw_out hx
                  clear hx
                  go_wp2
                  go_roundw
                  case rel => exact ⟨j + 2, by omega, by go_num, chain hBx hB14⟩
                  case measure => simp [intOf]; omega
              · obtain rfl : n2 = k := by omega
                replace R2 := R2.below hBx
                replace R5 := R5.below hBx
                replace R13 := R13.below hBx
                have hCx := chain hC13 hBx
                clear hC13 hBx
                go_wp2_with fail
                refine (impl_Merged a5 n1 cap5 l1.reverse _ R5.sl hsr (by omega)).mono ?_
                rintro e w14 ⟨⟨a14, n14, cap14, rfl, hn14, R14⟩, hB14⟩
                rw [hmr] at R14
                replace R2 := R2.below hB14
                replace R13 := R13.below hB14
                have hC14 := chain hCx hB14
                clear hCx hB14 R5
                go_wp2_with fail
                refine (laws_sameCounts a14 n14 cap14 _ a2 n2 cap2 _ R14.sl R2.sl (by omega)).mono ?_
                rintro e w15 ⟨rfl, hB15⟩
                replace R2 := R2.below hB15
                replace R13 := R13.below hB15
                have hC15 := chain hC14 hB15
                clear hC14 hB15 R14
                go_wp2_with fail
                refine (impl_LateOk a13 (n10 + n12) cap13 two _ R13.sl hst (by omega)).mono ?_
                rintro e w16 ⟨rfl, hB16⟩
                replace R2 := R2.below hB16
                replace R13 := R13.below hB16
                have hC16 := chain hC15 hB16
                clear hC15 hB16
                cases h2 : lateOkB two
                · go_wp2_with fail
                  refine (impl_LateOk a2 n2 cap2 m _ R2.sl hsm (by omega)).mono ?_
                  rintro e w20 ⟨rfl, hB20⟩
                  replace R2 := R2.below hB20
                  have hC20 := chain hC16 hB20
                  cases h3 : lateOkB m
                  · go_wp2
                    go_returns
                    exact ⟨rfl, hC20⟩
                  · go_wp2_with fail
                    refine (impl_Merged a2 n2 cap2 m _ R2.sl hsm (by omega)).mono ?_
                    rintro e w21 ⟨⟨a21, n21, cap21, rfl, hn21, R21⟩, hB21⟩
                    rw [hms.out h3] at R21
                    replace R2 := R2.below hB21
                    have hC21 := chain hC20 hB21
                    go_wp2_with fail
                    refine (laws_sameCounts a21 n21 cap21 _ a2 n2 cap2 _ R21.sl R2.sl (by omega)).mono ?_
                    rintro e w22 ⟨rfl, hB22⟩
                    have hC22 := chain hC21 hB22
                    go_wp2
                    go_returns
                    exact ⟨rfl, hC22⟩
                · go_wp2_with fail
                  refine (impl_Merged a13 (n10 + n12) cap13 two _ R13.sl hst (by omega)).mono ?_
                  rintro e w17 ⟨⟨a17, n17, cap17, rfl, hn17, R17⟩, hB17⟩
                  rw [hmt.out h2] at R17
                  replace R2 := R2.below hB17
                  have hC17 := chain hC16 hB17
                  go_wp2_with fail
                  refine (laws_sameCounts a17 n17 cap17 _ a2 n2 cap2 _ R17.sl R2.sl (by omega)).mono ?_
                  rintro e w18 ⟨rfl, hB18⟩
                  replace R2 := R2.below hB18
                  have hC18 := chain hC17 hB18
                  go_wp2_with fail
                  refine (impl_LateOk a2 n2 cap2 m _ R2.sl hsm (by omega)).mono ?_
                  rintro e w20 ⟨rfl, hB20⟩
                  replace R2 := R2.below hB20
                  have hC20 := chain hC18 hB20
                  cases h3 : lateOkB m
                  · go_wp2
                    go_returns
                    exact ⟨rfl, hC20⟩
                  · go_wp2_with fail
                    refine (impl_Merged a2 n2 cap2 m _ R2.sl hsm (by omega)).mono ?_
                    rintro e w21 ⟨⟨a21, n21, cap21, rfl, hn21, R21⟩, hB21⟩
                    rw [hms.out h3] at R21
                    replace R2 := R2.below hB21
                    have hC21 := chain hC20 hB21
                    go_wp2_with fail
                    refine (laws_sameCounts a21 n21 cap21 _ a2 n2 cap2 _ R21.sl R2.sl (by omega)).mono ?_
                    rintro e w22 ⟨rfl, hB22⟩
                    have hC22 := chain hC21 hB22
                    go_wp2
                    go_returns
                    exact ⟨rfl, hC22⟩
            · have hcK' : ¬ (cap1 : Int) = (K : Int) := by omega
              have hT := R1.sl.take hKn
              have hD : CtsAt wr (some ⟨b, K * 4, none⟩) (n1 - K) (l1.drop K) := by have := R1.sl.drop K; rwa [Nat.zero_add] at this
              go_wp2_with fail
              go_region_held3 (fun _ => True) (trivial) (first | (go_at_call 49; refine (merged_grown hD hsD (by omega) hG11).mono ?_; rintro e w12 ⟨a12, n12, cap12, rfl, hn12, R12, hB12, hG12, hs12⟩) | (go_at_call 49; refine (merged_grown hT hsT (by omega) (by go_grown)).mono ?_; rintro e w10 ⟨a10, n10, cap10, rfl, hn10, R10, hB10, hG10, hs10⟩) | (refine step_app rfl (wp_app _ _ 58 rfl wr.heap.size 66 i0 (.agg #[.int .i64 0, .int .i64 0, .string .empty, .int .i64 0]) 40 Try.underlying58 hi hz0 hz1 hz2 rfl (by decide) ccs_len ccs_one a11 n10 cap11 ([] ++ mergedL (l1.take K)) rfl (R11.below hB12) a12 n12 cap12 (mergedL (l1.drop K)) rfl R12.sl R12.arg.spot R12.arg.nil (n10 + n12) rfl (by unfold maxLen; omega) (by omega) hs12 ?_); intro a13 cap13 w13 R13 hg13; have hG13 : Below wr.heap.size wr w13 := Below.grown hG12 hg13 hs12 (own_ge fun ad had => (R11.block ad had).1)) | (refine step_app rfl (wp_app _ _ 58 rfl wr.heap.size 66 i0 (.agg #[.int .i64 0, .int .i64 0, .string .empty, .int .i64 0]) 40 Try.underlying58 hi hz0 hz1 hz2 rfl (by decide) ccs_len ccs_one _ 0 0 [] rfl (by first | exact res_empty (((Blk.new' wr _ _ _ rfl).drew).below hB10) (Nat.le_refl _) | exact res_empty (Blk.new' w10 _ _ _ rfl) hs10 | exact res_empty (Blk.new' w10 _ _ _ rfl).drew hs10) a10 n10 cap10 (mergedL (l1.take K)) rfl (by first | exact R10.sl | exact R10.sl.alloc _) R10.arg.spot R10.arg.nil n10 (Nat.zero_add _) (by unfold maxLen; omega) (by omega) (by first | exact hs10 | (simp; omega)) ?_); intro a11 cap11 w11 R11 hg11; have hG11 : Below wr.heap.size wr w11 := (by first | exact Below.grown hG10 hg11 hs10 (own_ge fun ad had => (by cases had; exact Nat.le_refl _)) | exact Below.grown (hG10.alloc hs10 _) hg11 (by simp; omega) (own_ge fun ad had => (by cases had; exact hs10)))))
              all_goals replace R2 := R2.below hG13
              all_goals replace R5 := R5.below hG13
              all_goals have hC13 := chain hCr hG13
              all_goals have hst : StrC (mergedL (l1.take K) ++ mergedL (l1.drop K)) := fun c hc => (List.mem_append.1 hc).elim (str_merged hsT c) (str_merged hsD c)
              all_goals have hsr : StrC l1.reverse := fun c hc => hs1 c (by simpa using hc)
              all_goals have hsm := str_merged hs1
              all_goals rw [List.nil_append] at R13
              all_goals have hmf := merged_facts hok
              all_goals have hmr := merged_rev hok
              all_goals have hmt : Hid (∀ _ : lateOkB (mergedL (l1.take K) ++ mergedL (l1.drop K)) = true, mergedL (mergedL (l1.take K) ++ mergedL (l1.drop K)) = mergedL l1) := merged_two hok K
              all_goals have hms : Hid (∀ _ : lateOkB (mergedL l1) = true, mergedL (mergedL l1) = mergedL l1) := merged_self hok
              all_goals generalize mergedL (l1.take K) ++ mergedL (l1.drop K) = two at *
              all_goals generalize hml : mergedL l1 = m at *
              all_goals clear hml hG13
              all_goals go_wp2_with fail
              all_goals go_loopw [9] (fun ix wx => ∃ (k : Nat), k ≤ n2 ∧ ix = .int .i64 k ∧ Below w13.heap.size w13 wx) (fun ix _ => n2 - (intOf ix).toNat)
              all_goals first | exact ⟨0, Nat.zero_le _, rfl, Below.refl _ _⟩ | skip
              all_goals obtain ⟨k, hk, rfl, hBx⟩ := hrel
              all_goals by_cases hlt : k < n2
              · obtain ⟨b', o', p, rfl, hp, c0, c1, c2, c3⟩ := cts_at (R2.sl.below hBx) hlt
                have hpz : (p.n == 0) = false := by simpa using hmf.2 p (List.mem_of_getElem? hp)
                have hk1 : (k : Int) < n2 := by omega
                have hk2 : (0 : Int) ≤ k := by omega
                rcases k with _ | j
                · simp only [Nat.zero_mul, Nat.add_zero] at c0 c1 c2 c3
                  clear hp
                  go_wp2_with fail
                  have g3 := gcell c3
                  have hne := grw_ne wr
                  refine wp_region_grow (by kernel_rfl) (by kernel_rfl) ?_
                  repeat (go_big_quiet_step (fail))
                  refine wpQuiet_nil ?_
                  intro w14 hx
                  have hB14 := grw_out hx
                  clear hx
                  go_wp2
                  go_roundw
                  case rel => exact ⟨1, by omega, by go_num, chain hBx hB14⟩
                  case measure => simp [intOf]; omega
                · obtain ⟨b2, o2, q, hb2, hq, d0, d1, d2, d3⟩ := cts_at (R2.sl.below hBx) (show j < n2 by omega)
                  obtain ⟨rfl, rfl⟩ : b' = b2 ∧ o' = o2 := by simpa using hb2
                  have hgo := rising_at hmf.1 hq hp
                  have hj1 : (j : Int) < n2 := by omega
                  have hj2 : (0 : Int) ≤ j := by omega
                  have hw1 : IntKind.i64.wrap ((j : Int) + 1 - 1) = (j : Int) := by rw [IntKind.wrap_i64]; omega
                  have hw2 : IntKind.i64.wrap (j : Int) = (j : Int) := by rw [IntKind.wrap_i64]; omega
                  clear hp hq hb2
                  go_wp2_with fail
                  have g0 := gcell c0
                  have g1 := gcell c1
                  have g2 := gcell c2
                  have g3 := gcell c3
                  have g4 := gcell d0
                  have g5 := gcell d1
                  have g6 := gcell d2
                  have hne := grw_ne wr
                  refine wp_region_grow (by kernel_rfl) (by kernel_rfl) ?_
                  repeat (go_big_quiet_step (first | (go_at_call 54; have qq := impl_OwnerAhead q.o p.o; rw [hgo] at qq; exact grow_of (qq _))))
                  refine wpQuiet_nil ?_
                  intro w14 hx
                  have hB14 := grw_out hx
                  clear hx
                  go_wp2
                  go_roundw
                  case rel => exact ⟨j + 2, by omega, by go_num, chain hBx hB14⟩
                  case measure => simp [intOf]; omega
              · obtain rfl : n2 = k := by omega
                replace R2 := R2.below hBx
                replace R5 := R5.below hBx
                replace R13 := R13.below hBx
                have hCx := chain hC13 hBx
                clear hC13 hBx
                go_wp2_with fail
                refine (impl_Merged a5 n1 cap5 l1.reverse _ R5.sl hsr (by omega)).mono ?_
                rintro e w14 ⟨⟨a14, n14, cap14, rfl, hn14, R14⟩, hB14⟩
                rw [hmr] at R14
                replace R2 := R2.below hB14
                replace R13 := R13.below hB14
                have hC14 := chain hCx hB14
                clear hCx hB14 R5
                go_wp2_with fail
                refine (laws_sameCounts a14 n14 cap14 _ a2 n2 cap2 _ R14.sl R2.sl (by omega)).mono ?_
                rintro e w15 ⟨rfl, hB15⟩
                replace R2 := R2.below hB15
                replace R13 := R13.below hB15
                have hC15 := chain hC14 hB15
                clear hC14 hB15 R14
                go_wp2_with fail
                refine (impl_LateOk a13 (n10 + n12) cap13 two _ R13.sl hst (by omega)).mono ?_
                rintro e w16 ⟨rfl, hB16⟩
                replace R2 := R2.below hB16
                replace R13 := R13.below hB16
                have hC16 := chain hC15 hB16
                clear hC15 hB16
                cases h2 : lateOkB two
                · go_wp2_with fail
                  refine (impl_LateOk a2 n2 cap2 m _ R2.sl hsm (by omega)).mono ?_
                  rintro e w20 ⟨rfl, hB20⟩
                  replace R2 := R2.below hB20
                  have hC20 := chain hC16 hB20
                  cases h3 : lateOkB m
                  · go_wp2
                    go_returns
                    exact ⟨rfl, hC20⟩
                  · go_wp2_with fail
                    refine (impl_Merged a2 n2 cap2 m _ R2.sl hsm (by omega)).mono ?_
                    rintro e w21 ⟨⟨a21, n21, cap21, rfl, hn21, R21⟩, hB21⟩
                    rw [hms.out h3] at R21
                    replace R2 := R2.below hB21
                    have hC21 := chain hC20 hB21
                    go_wp2_with fail
                    refine (laws_sameCounts a21 n21 cap21 _ a2 n2 cap2 _ R21.sl R2.sl (by omega)).mono ?_
                    rintro e w22 ⟨rfl, hB22⟩
                    have hC22 := chain hC21 hB22
                    go_wp2
                    go_returns
                    exact ⟨rfl, hC22⟩
                · go_wp2_with fail
                  refine (impl_Merged a13 (n10 + n12) cap13 two _ R13.sl hst (by omega)).mono ?_
                  rintro e w17 ⟨⟨a17, n17, cap17, rfl, hn17, R17⟩, hB17⟩
                  rw [hmt.out h2] at R17
                  replace R2 := R2.below hB17
                  have hC17 := chain hC16 hB17
                  go_wp2_with fail
                  refine (laws_sameCounts a17 n17 cap17 _ a2 n2 cap2 _ R17.sl R2.sl (by omega)).mono ?_
                  rintro e w18 ⟨rfl, hB18⟩
                  replace R2 := R2.below hB18
                  have hC18 := chain hC17 hB18
                  go_wp2_with fail
                  refine (impl_LateOk a2 n2 cap2 m _ R2.sl hsm (by omega)).mono ?_
                  rintro e w20 ⟨rfl, hB20⟩
                  replace R2 := R2.below hB20
                  have hC20 := chain hC18 hB20
                  cases h3 : lateOkB m
                  · go_wp2
                    go_returns
                    exact ⟨rfl, hC20⟩
                  · go_wp2_with fail
                    refine (impl_Merged a2 n2 cap2 m _ R2.sl hsm (by omega)).mono ?_
                    rintro e w21 ⟨⟨a21, n21, cap21, rfl, hn21, R21⟩, hB21⟩
                    rw [hms.out h3] at R21
                    replace R2 := R2.below hB21
                    have hC21 := chain hC20 hB21
                    go_wp2_with fail
                    refine (laws_sameCounts a21 n21 cap21 _ a2 n2 cap2 _ R21.sl R2.sl (by omega)).mono ?_
                    rintro e w22 ⟨rfl, hB22⟩
                    have hC22 := chain hC21 hB22
                    go_wp2
                    go_returns
                    exact ⟨rfl, hC22⟩
              · obtain ⟨b', o', p, rfl, hp, c0, c1, c2, c3⟩ := cts_at (R2.sl.below hBx) hlt
                have hpz : (p.n == 0) = false := by simpa using hmf.2 p (List.mem_of_getElem? hp)
                have hk1 : (k : Int) < n2 := by omega
                have hk2 : (0 : Int) ≤ k := by omega
                rcases k with _ | j
                · simp only [Nat.zero_mul, Nat.add_zero] at c0 c1 c2 c3
                  clear hp
                  go_wp2_with fail
                  have g3 := gcell c3
                  have hne := grw_ne wr
                  refine wp_region_grow (by kernel_rfl) (by kernel_rfl) ?_
                  repeat (go_big_quiet_step (fail))
                  refine wpQuiet_nil ?_
                  intro w14 hx
                  have hB14 := grw_out hx
                  clear hx
                  go_wp2
                  go_roundw
                  case rel => exact ⟨1, by omega, by go_num, chain hBx hB14⟩
                  case measure => simp [intOf]; omega
                · obtain ⟨b2, o2, q, hb2, hq, d0, d1, d2, d3⟩ := cts_at (R2.sl.below hBx) (show j < n2 by omega)
                  obtain ⟨rfl, rfl⟩ : b' = b2 ∧ o' = o2 := by simpa using hb2
                  have hgo := rising_at hmf.1 hq hp
                  have hj1 : (j : Int) < n2 := by omega
                  have hj2 : (0 : Int) ≤ j := by omega
                  have hw1 : IntKind.i64.wrap ((j : Int) + 1 - 1) = (j : Int) := by rw [IntKind.wrap_i64]; omega
                  have hw2 : IntKind.i64.wrap (j : Int) = (j : Int) := by rw [IntKind.wrap_i64]; omega
                  clear hp hq hb2
                  go_wp2_with fail
                  have g0 := gcell c0
                  have g1 := gcell c1
                  have g2 := gcell c2
                  have g3 := gcell c3
                  have g4 := gcell d0
                  have g5 := gcell d1
                  have g6 := gcell d2
                  have hne := grw_ne wr
                  refine wp_region_grow (by kernel_rfl) (by kernel_rfl) ?_
                  repeat (go_big_quiet_step (first | (go_at_call 54; have qq := impl_OwnerAhead q.o p.o; rw [hgo] at qq; exact grow_of (qq _))))
                  refine wpQuiet_nil ?_
                  intro w14 hx
                  have hB14 := grw_out hx
                  clear hx
                  go_wp2
                  go_roundw
                  case rel => exact ⟨j + 2, by omega, by go_num, chain hBx hB14⟩
                  case measure => simp [intOf]; omega
              · obtain rfl : n2 = k := by omega
                replace R2 := R2.below hBx
                replace R5 := R5.below hBx
                replace R13 := R13.below hBx
                have hCx := chain hC13 hBx
                clear hC13 hBx
                go_wp2_with fail
                refine (impl_Merged a5 n1 cap5 l1.reverse _ R5.sl hsr (by omega)).mono ?_
                rintro e w14 ⟨⟨a14, n14, cap14, rfl, hn14, R14⟩, hB14⟩
                rw [hmr] at R14
                replace R2 := R2.below hB14
                replace R13 := R13.below hB14
                have hC14 := chain hCx hB14
                clear hCx hB14 R5
                go_wp2_with fail
                refine (laws_sameCounts a14 n14 cap14 _ a2 n2 cap2 _ R14.sl R2.sl (by omega)).mono ?_
                rintro e w15 ⟨rfl, hB15⟩
                replace R2 := R2.below hB15
                replace R13 := R13.below hB15
                have hC15 := chain hC14 hB15
                clear hC14 hB15 R14
                go_wp2_with fail
                refine (impl_LateOk a13 (n10 + n12) cap13 two _ R13.sl hst (by omega)).mono ?_
                rintro e w16 ⟨rfl, hB16⟩
                replace R2 := R2.below hB16
                replace R13 := R13.below hB16
                have hC16 := chain hC15 hB16
                clear hC15 hB16
                cases h2 : lateOkB two
                · go_wp2_with fail
                  refine (impl_LateOk a2 n2 cap2 m _ R2.sl hsm (by omega)).mono ?_
                  rintro e w20 ⟨rfl, hB20⟩
                  replace R2 := R2.below hB20
                  have hC20 := chain hC16 hB20
                  cases h3 : lateOkB m
                  · go_wp2
                    go_returns
                    exact ⟨rfl, hC20⟩
                  · go_wp2_with fail
                    refine (impl_Merged a2 n2 cap2 m _ R2.sl hsm (by omega)).mono ?_
                    rintro e w21 ⟨⟨a21, n21, cap21, rfl, hn21, R21⟩, hB21⟩
                    rw [hms.out h3] at R21
                    replace R2 := R2.below hB21
                    have hC21 := chain hC20 hB21
                    go_wp2_with fail
                    refine (laws_sameCounts a21 n21 cap21 _ a2 n2 cap2 _ R21.sl R2.sl (by omega)).mono ?_
                    rintro e w22 ⟨rfl, hB22⟩
                    have hC22 := chain hC21 hB22
                    go_wp2
                    go_returns
                    exact ⟨rfl, hC22⟩
                · go_wp2_with fail
                  refine (impl_Merged a13 (n10 + n12) cap13 two _ R13.sl hst (by omega)).mono ?_
                  rintro e w17 ⟨⟨a17, n17, cap17, rfl, hn17, R17⟩, hB17⟩
                  rw [hmt.out h2] at R17
                  replace R2 := R2.below hB17
                  have hC17 := chain hC16 hB17
                  go_wp2_with fail
                  refine (laws_sameCounts a17 n17 cap17 _ a2 n2 cap2 _ R17.sl R2.sl (by omega)).mono ?_
                  rintro e w18 ⟨rfl, hB18⟩
                  replace R2 := R2.below hB18
                  have hC18 := chain hC17 hB18
                  go_wp2_with fail
                  refine (impl_LateOk a2 n2 cap2 m _ R2.sl hsm (by omega)).mono ?_
                  rintro e w20 ⟨rfl, hB20⟩
                  replace R2 := R2.below hB20
                  have hC20 := chain hC18 hB20
                  cases h3 : lateOkB m
                  · go_wp2
                    go_returns
                    exact ⟨rfl, hC20⟩
                  · go_wp2_with fail
                    refine (impl_Merged a2 n2 cap2 m _ R2.sl hsm (by omega)).mono ?_
                    rintro e w21 ⟨⟨a21, n21, cap21, rfl, hn21, R21⟩, hB21⟩
                    rw [hms.out h3] at R21
                    replace R2 := R2.below hB21
                    have hC21 := chain hC20 hB21
                    go_wp2_with fail
                    refine (laws_sameCounts a21 n21 cap21 _ a2 n2 cap2 _ R21.sl R2.sl (by omega)).mono ?_
                    rintro e w22 ⟨rfl, hB22⟩
                    have hC22 := chain hC21 hB22
                    go_wp2
                    go_returns
                    exact ⟨rfl, hC22⟩
        · obtain ⟨b, o, p, rfl, hp, c0, c1, c2, c3⟩ := cts_at (R1.sl.below hB) (show j < n1 by omega)
          have hj1 : ((j : Int)) < n1 := by omega
          have hj2 : (0 : Int) ≤ j := by omega
          have hj3 : (((j + 1 : Nat) : Int) - 1) = (j : Int) := by omega
          have hrs := rev_snoc hp
          rw [hj3]
          clear hp
          go_wp2_with (at_builtin; refine wpList_app rfl (fun K hK => wp_app _ _ 58 rfl w8.heap.size 66 i0 (.agg #[.int .i64 0, .int .i64 0, .string .empty, .int .i64 0]) 40 Try.underlying58 hi hz0 hz1 hz2 rfl (by decide) ccs_len ccs_one a5 (n1 - (j + 1)) cap5 _ rfl (R5.alloc _) _ 1 1 [p] rfl (sl_newC _ p _ _ (by simp)) (fun ad h => (by cases h; rfl)) (fun h => (by cases h)) (n1 - (j + 1) + 1) rfl (by unfold maxLen; omega) (by omega) (by simp; omega) (fun a6 cap6 w9 R6 hg6 => hK _ _ ?_)))
          have hB9 : Below w8.heap.size w8 w9 := Below.grown (hB.alloc hsz _) hg6 (by simp; omega) (own_ge fun ad had => (R5.block ad had).1)
          rw [hrs] at R6
          have hnn : n1 - (j + 1) + 1 = n1 - j := by omega
          rw [hnn] at R6 ⊢
          go_wp2
          go_roundw
          case rel => exact ⟨j, a6, cap6, by omega, by go_num, rfl, R6, hB9⟩
          case measure => simp [intOf]
  · have hb : decide (1048576 < n) = true := by simp; omega
    go_enter Try.func9, Try.ntmps9
    go_wp2_with fail
    refine (laws_bigC a n cap _ hm).mono ?_
    rintro e w1 ⟨rfl, rfl⟩
    rw [hb]
    go_wp2
    go_returns
    exact ⟨rfl, Below.refl _ _⟩

set_option maxRecDepth 100000 in
theorem liftedDMerged (os : Os) (started : os.Started) (H : Type) (enc : TypeId × Value → H) :
    ReturnsInHanded {} Try.checked os 9 .any (Rows.fnMergedSpec.pre6 enc Try.prog Try.f9 Rows.fnMergedRow.domain false) (Rows.fnMergedSpec.post enc Try.prog Try.f9 false true false false) := by
  refine returnsInHanded_of_change (C := Try.checked) own started (by kernel_rfl) Try.func9
    (ChangeSpec.witness6 (enc := enc) (C := Try.checked) false ⟨#[], #[.slice none 0 0], []⟩ 8 (by kernel_rfl) (by kernel_rfl) (by kernel_rfl) (by kernel_rfl)) ?_
  intro W base args ds gs before hval0 hW _ _
  have hval : ∀ (j : Nat) t v, Try.f9.params[j]? = some t → args[j]? = some v → Value.okWide Try.prog W .any base t v := hval0
  have hW' := hW
  obtain ⟨p, q, hA0, hV, rfl, _, _⟩ := hW
  have hA : DataW.TrodAll enc Try.prog W 0 (fun _ => true) true Try.f9.params.toList args.toList ds p := hA0
  rw [Try.params9] at hA hval
  obtain ⟨v0, vs0, d0, ds0, p0, q0, hargs, rfl, rfl, h0, r0⟩ := trodAll_cons hA
  obtain ⟨rfl, rfl, rfl⟩ := trodAll_nil r0
  obtain rfl : args = #[v0] := by cases args; simp_all
  obtain ⟨rfl, rfl⟩ := trodVars_none hV
  clear hA0 hval0
  simp only [List.append_nil] at hW'
  have hlt : ∀ x ∈ p0, x.block < W.heap.size := fun x hx => by simpa using hW'.lt x hx
  obtain ⟨a0, len, cap, rfl⟩ := okWide_slice Try.underlying22 (hval 0 22 v0 rfl rfl)
  obtain ⟨hmx, hl⟩ := open_code h0
  unfold maxLen at hmx
  refine (walkDMerged a0 len cap W hl (by omega)).mono fun e W' ⟨he, hB⟩ => ?_
  subst he
  have hargs : DataW.Trod enc Try.prog W' 0 (fun b => decide (b < W.heap.size)) true 22 (.slice a0 len cap) d0 p0 :=
    Below.trod laidOut (by kernel_rfl) (of_decide_eq_true (by kernel_rfl)) h0 hB hlt
  exact ⟨_, rfl, ⟨_, _, _, [], _, [], hW', trodAll_mk1 (shut_bool Try.underlying4 _), trodAll_mk1 hargs, rfl, hB.frame _, fun h => by cases h⟩⟩

theorem holdsDMerged : Rows.FnMergedSaid :=
  OpenClaim.holds_of_wide 9 Try.f9 rfl rfl rfl rfl rfl rfl rfl ⟨rfl, rfl, rfl, rfl, rfl⟩ rfl rfl rfl rfl rfl (by kernel_rfl) Try.func9 (joined_of (by kernel_rfl) (by kernel_rfl) (by kernel_rfl) (by kernel_rfl) rfl rfl rfl (by kernel_rfl))
    (of_decide_eq_true (by kernel_rfl)) (by unfold Func.isWrapper; first | (rw [if_pos (by decide +kernel)]; kernel_rfl) | (rw [if_neg (by decide +kernel)]; exact ⟨rfl, rfl⟩))
    (fun os started H enc _ => liftedDMerged os started H enc)
end Go.Proofs.Ytbjejnkeekndbaa
