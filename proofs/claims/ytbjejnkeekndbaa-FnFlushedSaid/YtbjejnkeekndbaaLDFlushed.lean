/- At every code: Flushed of what is drawn is what its model tells, is right, is the same with the late counts merged first, and what turns the late counts round undoes it: no condition. -/
import Derived.Test.YtbjejnkeekndbaaRows
import Derived.Test.YtbjejnkeekndbaaKg
import Derived.Test.YtbjejnkeekndbaaKr
import Derived.Test.YtbjejnkeekndbaaKw
import Derived.Test.YtbjejnkeekndbaaKv
import Derived.Deep.RegionHeld3
namespace Go.Proofs.Ytbjejnkeekndbaa
open Go.ChangeShapes Go.WideShapes Go.ChangeAt Go.RowKit Go.Deep Go.BigFrame

theorem retc_outD {B : Nat} {e : Ending} {w' : World} {oo : Option (List Ct)} (h : RetCts B e w' oo) : ∃ a n cap, e = .returned (.tuple #[.slice a n cap, .bool oo.isSome]) ∧ ResAt Ct.cs 4 66 w' B a n cap (oo.getD []) := by
  cases oo with
  | none => exact ⟨none, 0, 0, h, res_nil⟩
  | some L => exact h
theorem retcn_outD {B : Nat} {e : Ending} {w' : World} {oo : Option (List Ct)} (h : RetCtsN B e w' oo) : ∃ a n cap, e = .returned (.tuple #[.slice a n cap, .bool oo.isSome]) ∧ n ≤ 200 ∧ ResAt Ct.cs 4 66 w' B a n cap (oo.getD []) := by
  cases oo with
  | none => exact ⟨none, 0, 0, h, by omega, res_nil⟩
  | some L => exact h
theorem neg_snoc {l : List Ct} {k : Nat} {p : Ct} (h : l[k]? = some p) : negC (l.take k) ++ [⟨p.o, -p.n⟩] = negC (l.take (k + 1)) := by
  rw [List.take_add_one, h]
  simp [negC]
theorem str_neg {l : List Ct} (h : StrC l) : StrC (negC l) := by
  intro c hc
  simp only [negC, List.mem_map] at hc
  obtain ⟨x, hx, rfl⟩ := hc
  exact h x hx

set_option maxHeartbeats 4000000 in
set_option maxRecDepth 100000 in
theorem walkDFlushed (a : Option Addr) (n cap : Nat) (w : World) (h : CodeAt w a n) (hm : n ≤ 9223372036854775807) :
    Calls Try.prog 10 #[.slice a n cap] w fun e w' => e = .returned (.bool true) ∧ Below w.heap.size w w' := by
  obtain ⟨i0, hi, hz0, hz1, hz2⟩ := info_parts infoC
  by_cases hn : n ≤ 1048576
  · have hb : decide (1048576 < n) = false := by simp; omega
    go_enter Try.func10, Try.ntmps10
    go_wp2_with fail
    refine (laws_bigC a n cap _ hm).mono ?_
    rintro e w1 ⟨rfl, rfl⟩
    rw [hb]
    go_wp2_with fail
    refine (spec_DrawFlushed a n cap _ h hn).mono ?_
    rintro e w2 ⟨⟨a1, n1, cap1, l1, a2, n2, cap2, l2, rfl, hn1, hd1, R1, hn2, hd2, R2⟩, hC2⟩
    have hs1 := hd1.strs
    have hs2 := hd2.strs
    go_wp2_with fail
    refine (impl_Flushed a1 n1 cap1 l1 a2 n2 cap2 l2 _ R1.sl R2.sl hs1 hs2 (by omega) (by omega)).mono ?_
    rintro e w3 ⟨hret, hB3⟩
    obtain ⟨a3, n3, cap3, rfl, hn3, R3⟩ := retcn_outD hret
    replace R1 := R1.below hB3
    replace R2 := R2.below hB3
    have hC3 := chain hC2 hB3
    clear hret hB3 hC2
    go_wp2_with fail
    refine (spec_Flushed a1 n1 cap1 l1 a2 n2 cap2 l2 _ R1.sl R1.arg.spot R1.arg.nil R2.sl hs1 hs2 (by omega) (by omega)).mono ?_
    rintro e w4 ⟨hret, hB4⟩
    obtain ⟨a4, n4, cap4, rfl, R4⟩ := retc_outD hret
    replace R1 := R1.below hB4
    replace R2 := R2.below hB4
    replace R3 := R3.below hB4
    have hC4 := chain hC3 hB4
    clear hret hB4 hC3
    cases hf : flushedO l1 l2 with
    | none =>
      rw [hf] at R3 R4
      simp only [Option.isSome_none]
      go_wp2_with fail
      refine (laws_sameCounts a3 n3 cap3 _ a4 n4 cap4 _ R3.sl R4.sl (by omega)).mono ?_
      rintro e w5 ⟨rfl, hB5⟩
      replace R3 := R3.below hB5
      replace R4 := R4.below hB5
      have hC5 := chain hC4 hB5
      go_wp2_with fail
      refine (laws_sameCounts a3 n3 cap3 _ a4 n4 cap4 _ R3.sl R4.sl (by omega)).mono ?_
      rintro e w6 ⟨rfl, hB6⟩
      have hC6 := chain hC5 hB6
      go_wp2
      go_returns
      exact ⟨rfl, hC6⟩
    | some f =>
      rw [hf] at R3 R4
      simp only [Option.getD_some] at R3 R4
      simp only [Option.isSome_some]
      have hfm : Hid (∀ _ : lateOkB (mergedL l2) = true, flushedO l1 (mergedL l2) = some f) := flush_merged hf
      have hfb : Hid (flushedO f (negC l2) = some l1) := flush_back hf
      have hff := flush_some hf
      have hrf : Hid (refsOkB f = true) := hff.2.2.1
      have hlb := (late_bound hff.2.1).2
      have hsf : StrC f := by rw [hff.2.2.2]; exact str_sumC hs1 hs2
      clear hf hff
      go_wp2_with fail
      refine (laws_sameCounts a3 n3 cap3 _ a4 n4 cap4 _ R3.sl R4.sl (by omega)).mono ?_
      rintro e w5 ⟨rfl, hB5⟩
      replace R1 := R1.below hB5
      replace R2 := R2.below hB5
      replace R3 := R3.below hB5
      have hC5 := chain hC4 hB5
      clear R4 hB5 hC4
      go_wp2_with fail
      refine (impl_Merged a2 n2 cap2 l2 _ R2.sl hs2 (by omega)).mono ?_
      rintro e w6 ⟨⟨a5, n5, cap5, rfl, hn5, R5⟩, hB6⟩
      replace R1 := R1.below hB6
      replace R2 := R2.below hB6
      replace R3 := R3.below hB6
      have hC6 := chain hC5 hB6
      clear hB6 hC5
      have hsm := str_merged hs2
      go_wp2_with fail
      refine (impl_LateOk a5 n5 cap5 _ _ R5.sl hsm (by omega)).mono ?_
      rintro e w9 ⟨rfl, hB7⟩
      replace R1 := R1.below hB7
      replace R2 := R2.below hB7
      replace R3 := R3.below hB7
      replace R5 := R5.below hB7
      have hC9 := chain hC6 hB7
      clear hB7 hC6
      cases h3 : lateOkB (mergedL l2)
      rotate_left
      go_wp2_with fail
      refine (impl_Flushed a1 n1 cap1 l1 a5 n5 cap5 _ _ R1.sl R5.sl hs1 hsm (by omega) (by omega)).mono ?_
      rintro e w8 ⟨hret, hB8⟩
      rw [hfm.out h3] at hret
      obtain ⟨a6, n6, cap6, rfl, hn6, R6⟩ := hret
      replace R1 := R1.below hB8
      replace R2 := R2.below hB8
      replace R3 := R3.below hB8
      have hC8 := chain hC9 hB8
      clear hC9 hB8
      go_wp2_with fail
      refine (laws_sameCounts a6 n6 cap6 _ a3 n3 cap3 _ R6.sl R3.sl (by omega)).mono ?_
      rintro e w9 ⟨rfl, hB9⟩
      replace R1 := R1.below hB9
      replace R2 := R2.below hB9
      replace R3 := R3.below hB9
      have hC9 := chain hC8 hB9
      clear hC8 hB9 R6
      all_goals clear R5
      all_goals go_wp2_with fail
      all_goals go_loopw [12, 13] (fun out ix wr => ∃ (k : Nat) (a7 : Option Addr) (cap7 : Nat), k ≤ n2 ∧ ix = .int .i64 k ∧ out = .slice a7 k cap7 ∧ ResAt Ct.cs 4 66 wr w9.heap.size a7 k cap7 (negC (l2.take k)) ∧ Below w9.heap.size w9 wr) (fun _ ix _ => n2 - (intOf ix).toNat)
      all_goals first | exact ⟨0, _, 0, Nat.zero_le _, rfl, rfl, res_empty (Blk.new' _ _ _ _ rfl) (Nat.le_refl _), by go_grown⟩ | skip
      all_goals obtain ⟨k, a7, cap7, hk, rfl, rfl, R7, hB⟩ := hrel
      all_goals by_cases hlt : k < n2
      · obtain ⟨b, o, p, rfl, hp, c0, c1, c2, c3⟩ := cts_at (R2.sl.below hB) hlt
        have hpb := hlb p (List.mem_of_getElem? hp)
        have hsnoc := neg_snoc hp
        have hbw := (R2.block _ rfl).2
        have hwr : Hid (IntKind.i64.wrap (-p.n) = -p.n) := by show _ = _; rw [IntKind.wrap_i64]; omega
        have hk1 : (k : Int) < n2 := by omega
        have hk2 : (0 : Int) ≤ k := by omega
        have hsz := hB.size
        simp only at hbw
        clear hp hpb
        go_wp2_with fail
        go_region_held3 (fun u => u.cell? ⟨b, o + k * 4, none⟩ = some (.int .i64 p.o.a) ∧ u.cell? ⟨b, o + k * 4 + 1, none⟩ = some (.int .i64 p.o.v) ∧ u.cell? ⟨b, o + k * 4 + 2, none⟩ = some (.string p.o.f) ∧ u.cell? ⟨b, o + k * 4 + 3, none⟩ = some (.int .i64 p.n)) (go_keep) (first | (refine step_app rfl (wp_app _ _ 58 rfl w9.heap.size 66 i0 (.agg #[.int .i64 0, .int .i64 0, .string .empty, .int .i64 0]) 40 Try.underlying58 hi hz0 hz1 hz2 rfl (by decide) ccs_len ccs_one a7 k cap7 _ rfl (R7.below (by go_grown)) _ 1 1 [(⟨p.o, IntKind.i64.wrap (-p.n)⟩ : Ct)] rfl (by first | exact sl_newC _ (⟨p.o, IntKind.i64.wrap (-p.n)⟩ : Ct) _ _ (by first | rfl | simp) | exact (sl_newC _ (⟨p.o, IntKind.i64.wrap (-p.n)⟩ : Ct) _ _ (by first | rfl | simp)).drew) (fun ad h => (by cases h; rfl)) (fun h => (by cases h)) (k + 1) rfl (by unfold maxLen; omega) (by omega) (by first | omega | (simp; omega)) ?_); intro a8 cap8 w10 R8 hg8; have e0 := hg8.cell (a := ⟨b, o + k * 4, none⟩) (by first | exact acell _ c0 | exact acell _ (acell _ c0)) (own_ne' (fun ad had => (R7.block ad had).1) hbw); have e1 := hg8.cell (a := ⟨b, o + k * 4 + 1, none⟩) (by first | exact acell _ c1 | exact acell _ (acell _ c1)) (own_ne' (fun ad had => (R7.block ad had).1) hbw); have e2 := hg8.cell (a := ⟨b, o + k * 4 + 2, none⟩) (by first | exact acell _ c2 | exact acell _ (acell _ c2)) (own_ne' (fun ad had => (R7.block ad had).1) hbw); have e3 := hg8.cell (a := ⟨b, o + k * 4 + 3, none⟩) (by first | exact acell _ c3 | exact acell _ (acell _ c3)) (own_ne' (fun ad had => (R7.block ad had).1) hbw)))
        have hB10 : Below w9.heap.size w9 w10 := Below.grown (chain hB (by go_grown)) hg8 (by first | omega | (simp; omega)) (own_ge fun ad had => (R7.block ad had).1)
        rw [hwr.out, hsnoc] at R8
        go_wp2
        go_roundw
        case rel => exact ⟨k + 1, a8, cap8, by omega, by go_num, rfl, R8, hB10⟩
        case measure => simp [intOf]; omega
      · obtain rfl : n2 = k := by omega
        rw [List.take_of_length_le (by rw [R2.sl.len]; exact Nat.le_refl _)] at R7
        replace R1 := R1.below hB
        replace R3 := R3.below hB
        have hCx := chain hC9 hB
        clear hC9 hB R2
        go_wp2_with fail
        refine (impl_Flushed a3 n3 cap3 f a7 n2 cap7 (negC l2) _ R3.sl R7.sl hsf (str_neg hs2) (by omega) (by omega)).mono ?_
        rintro e w11 ⟨hret, hB11⟩
        rw [hfb.out] at hret
        obtain ⟨a9, n9, cap9, rfl, hn9, R9⟩ := hret
        replace R1 := R1.below hB11
        replace R3 := R3.below hB11
        have hC11 := chain hCx hB11
        clear hCx hB11 R7
        go_wp2_with fail
        refine (impl_RefsOk a3 n3 cap3 f _ R3.sl hsf (by omega)).mono ?_
        rintro e w12 ⟨rfl, hB12⟩
        rw [show refsOkB f = true from hrf]
        replace R1 := R1.below hB12
        replace R9 := R9.below hB12
        have hC12 := chain hC11 hB12
        clear hC11 hB12 R3
        go_wp2_with fail
        refine (laws_sameCounts a9 n9 cap9 _ a1 n1 cap1 _ R9.sl R1.sl (by omega)).mono ?_
        rintro e w13 ⟨rfl, hB13⟩
        have hC13 := chain hC12 hB13
        go_wp2
        go_returns
        exact ⟨rfl, hC13⟩
      · obtain ⟨b, o, p, rfl, hp, c0, c1, c2, c3⟩ := cts_at (R2.sl.below hB) hlt
        have hpb := hlb p (List.mem_of_getElem? hp)
        have hsnoc := neg_snoc hp
        have hbw := (R2.block _ rfl).2
        have hwr : Hid (IntKind.i64.wrap (-p.n) = -p.n) := by show _ = _; rw [IntKind.wrap_i64]; omega
        have hk1 : (k : Int) < n2 := by omega
        have hk2 : (0 : Int) ≤ k := by omega
        have hsz := hB.size
        simp only at hbw
        clear hp hpb
        go_wp2_with fail
        go_region_held3 (fun u => u.cell? ⟨b, o + k * 4, none⟩ = some (.int .i64 p.o.a) ∧ u.cell? ⟨b, o + k * 4 + 1, none⟩ = some (.int .i64 p.o.v) ∧ u.cell? ⟨b, o + k * 4 + 2, none⟩ = some (.string p.o.f) ∧ u.cell? ⟨b, o + k * 4 + 3, none⟩ = some (.int .i64 p.n)) (go_keep) (first | (refine step_app rfl (wp_app _ _ 58 rfl w9.heap.size 66 i0 (.agg #[.int .i64 0, .int .i64 0, .string .empty, .int .i64 0]) 40 Try.underlying58 hi hz0 hz1 hz2 rfl (by decide) ccs_len ccs_one a7 k cap7 _ rfl (R7.below (by go_grown)) _ 1 1 [(⟨p.o, IntKind.i64.wrap (-p.n)⟩ : Ct)] rfl (by first | exact sl_newC _ (⟨p.o, IntKind.i64.wrap (-p.n)⟩ : Ct) _ _ (by first | rfl | simp) | exact (sl_newC _ (⟨p.o, IntKind.i64.wrap (-p.n)⟩ : Ct) _ _ (by first | rfl | simp)).drew) (fun ad h => (by cases h; rfl)) (fun h => (by cases h)) (k + 1) rfl (by unfold maxLen; omega) (by omega) (by first | omega | (simp; omega)) ?_); intro a8 cap8 w10 R8 hg8; have e0 := hg8.cell (a := ⟨b, o + k * 4, none⟩) (by first | exact acell _ c0 | exact acell _ (acell _ c0)) (own_ne' (fun ad had => (R7.block ad had).1) hbw); have e1 := hg8.cell (a := ⟨b, o + k * 4 + 1, none⟩) (by first | exact acell _ c1 | exact acell _ (acell _ c1)) (own_ne' (fun ad had => (R7.block ad had).1) hbw); have e2 := hg8.cell (a := ⟨b, o + k * 4 + 2, none⟩) (by first | exact acell _ c2 | exact acell _ (acell _ c2)) (own_ne' (fun ad had => (R7.block ad had).1) hbw); have e3 := hg8.cell (a := ⟨b, o + k * 4 + 3, none⟩) (by first | exact acell _ c3 | exact acell _ (acell _ c3)) (own_ne' (fun ad had => (R7.block ad had).1) hbw)))
        have hB10 : Below w9.heap.size w9 w10 := Below.grown (chain hB (by go_grown)) hg8 (by first | omega | (simp; omega)) (own_ge fun ad had => (R7.block ad had).1)
        rw [hwr.out, hsnoc] at R8
        go_wp2
        go_roundw
        case rel => exact ⟨k + 1, a8, cap8, by omega, by go_num, rfl, R8, hB10⟩
        case measure => simp [intOf]; omega
      · obtain rfl : n2 = k := by omega
        rw [List.take_of_length_le (by rw [R2.sl.len]; exact Nat.le_refl _)] at R7
        replace R1 := R1.below hB
        replace R3 := R3.below hB
        have hCx := chain hC9 hB
        clear hC9 hB R2
        go_wp2_with fail
        refine (impl_Flushed a3 n3 cap3 f a7 n2 cap7 (negC l2) _ R3.sl R7.sl hsf (str_neg hs2) (by omega) (by omega)).mono ?_
        rintro e w11 ⟨hret, hB11⟩
        rw [hfb.out] at hret
        obtain ⟨a9, n9, cap9, rfl, hn9, R9⟩ := hret
        replace R1 := R1.below hB11
        replace R3 := R3.below hB11
        have hC11 := chain hCx hB11
        clear hCx hB11 R7
        go_wp2_with fail
        refine (impl_RefsOk a3 n3 cap3 f _ R3.sl hsf (by omega)).mono ?_
        rintro e w12 ⟨rfl, hB12⟩
        rw [show refsOkB f = true from hrf]
        replace R1 := R1.below hB12
        replace R9 := R9.below hB12
        have hC12 := chain hC11 hB12
        clear hC11 hB12 R3
        go_wp2_with fail
        refine (laws_sameCounts a9 n9 cap9 _ a1 n1 cap1 _ R9.sl R1.sl (by omega)).mono ?_
        rintro e w13 ⟨rfl, hB13⟩
        have hC13 := chain hC12 hB13
        go_wp2
        go_returns
        exact ⟨rfl, hC13⟩
  · have hb : decide (1048576 < n) = true := by simp; omega
    go_enter Try.func10, Try.ntmps10
    go_wp2_with fail
    refine (laws_bigC a n cap _ hm).mono ?_
    rintro e w1 ⟨rfl, rfl⟩
    rw [hb]
    go_wp2
    go_returns
    exact ⟨rfl, Below.refl _ _⟩

set_option maxRecDepth 100000 in
theorem liftedDFlushed (os : Os) (started : os.Started) (H : Type) (enc : TypeId × Value → H) :
    ReturnsInHanded {} Try.checked os 10 .any (Rows.fnFlushedSpec.pre6 enc Try.prog Try.f10 Rows.fnFlushedRow.domain false) (Rows.fnFlushedSpec.post enc Try.prog Try.f10 false true false false) := by
  refine returnsInHanded_of_change (C := Try.checked) own started (by kernel_rfl) Try.func10
    (ChangeSpec.witness6 (enc := enc) (C := Try.checked) false ⟨#[], #[.slice none 0 0], []⟩ 8 (by kernel_rfl) (by kernel_rfl) (by kernel_rfl) (by kernel_rfl)) ?_
  intro W base args ds gs before hval0 hW _ _
  have hval : ∀ (j : Nat) t v, Try.f10.params[j]? = some t → args[j]? = some v → Value.okWide Try.prog W .any base t v := hval0
  have hW' := hW
  obtain ⟨p, q, hA0, hV, rfl, _, _⟩ := hW
  have hA : DataW.TrodAll enc Try.prog W 0 (fun _ => true) true Try.f10.params.toList args.toList ds p := hA0
  rw [Try.params10] at hA hval
  obtain ⟨v0, vs0, d0, ds0, p0, q0, hargs, rfl, rfl, h0, r0⟩ := trodAll_cons hA
  obtain ⟨rfl, rfl, rfl⟩ := trodAll_nil r0
  obtain rfl : args = #[v0] := by cases args; simp_all
  obtain ⟨rfl, rfl⟩ := trodVars_none hV
  clear hA0 hval0
  simp only [List.append_nil] at hW'
  have hlt : ∀ x ∈ p0, x.block < W.heap.size := fun x hx => by simpa using hW'.lt x hx
  obtain ⟨a0, len, cap, rfl⟩ := okWide_slice Try.underlying22 (hval 0 22 v0 rfl rfl)
  obtain ⟨hmx, hl⟩ := open_code h0
  unfold maxLen at hmx
  refine (walkDFlushed a0 len cap W hl (by omega)).mono fun e W' ⟨he, hB⟩ => ?_
  subst he
  have hargs : DataW.Trod enc Try.prog W' 0 (fun b => decide (b < W.heap.size)) true 22 (.slice a0 len cap) d0 p0 :=
    Below.trod laidOut (by kernel_rfl) (of_decide_eq_true (by kernel_rfl)) h0 hB hlt
  exact ⟨_, rfl, ⟨_, _, _, [], _, [], hW', trodAll_mk1 (shut_bool Try.underlying4 _), trodAll_mk1 hargs, rfl, hB.frame _, fun h => by cases h⟩⟩

theorem holdsDFlushed : Rows.FnFlushedSaid :=
  OpenClaim.holds_of_wide 10 Try.f10 rfl rfl rfl rfl rfl rfl rfl ⟨rfl, rfl, rfl, rfl, rfl⟩ rfl rfl rfl rfl rfl (by kernel_rfl) Try.func10 (joined_of (by kernel_rfl) (by kernel_rfl) (by kernel_rfl) (by kernel_rfl) rfl rfl rfl (by kernel_rfl))
    (of_decide_eq_true (by kernel_rfl)) (by unfold Func.isWrapper; first | (rw [if_pos (by decide +kernel)]; kernel_rfl) | (rw [if_neg (by decide +kernel)]; exact ⟨rfl, rfl⟩))
    (fun os started H enc _ => liftedDFlushed os started H enc)
end Go.Proofs.Ytbjejnkeekndbaa
