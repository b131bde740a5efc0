/- At every code: of the space that is drawn of it an extent is lifted as the model lifts it; it is not there then, with all else as it was, and its room is free; all gaps together are the room: no condition. -/
import Derived.Test.YtckljlgojhloiaaRows
import Derived.Test.YtckljlgojhloiaaKi
import Derived.Test.YtckljlgojhloiaaKj
namespace Go.Proofs.Ytckljlgojhloiaa
open Go.ChangeShapes Go.WideShapes Go.ChangeAt Go.RowKit Go.Deep

set_option maxHeartbeats 4000000 in
set_option maxRecDepth 100000 in
theorem walkDLifted (a : Option Addr) (n cap : Nat) (w : World) (h : CodeAt w a n) (hm : n ≤ 9223372036854775807) :
    Calls Try.prog 4 #[.slice a n cap] w fun e w' => e = .returned (.bool true) ∧ Below w.heap.size w w' := by
  by_cases hn : n ≤ 1048576
  · have hb : decide (1048576 < n) = false := by simp; omega
    go_enter Try.func4, Try.ntmps4
    go_wp2_with fail
    refine (laws_bigC a n cap _ hm).mono ?_
    rintro e w1 ⟨rfl, rfl⟩
    rw [hb]
    go_wp2_with fail
    refine (spec_DrawLifted a n cap _ h hn).mono ?_
    rintro e w2 ⟨⟨size, a1, n1, cap1, l1, addr, rfl, hn1, hs1, R1⟩, hB2⟩
    obtain ⟨_, hcap, hc2⟩ := R1.ends
    go_wp2_with fail
    refine (impl_Lifted size a1 n1 cap1 l1 addr _ R1.sl hs1 (by omega)).mono ?_
    rintro e w3 ⟨hret, hB3⟩
    obtain ⟨a3, n3, cap3, rfl, R3⟩ := retx_out hret
    replace R1 := R1.below hB3
    replace hB3 := chain hB2 hB3
    clear hret hB2
    go_wp2_with fail
    refine (spec_LiftedW size a1 n1 cap1 l1 addr _ R1.sl hs1 (by omega) hcap hc2).mono ?_
    rintro e w5 ⟨hret, hB5⟩
    obtain ⟨a5, n5, cap5, rfl, R5⟩ := retx_out hret
    replace R1 := R1.below hB5
    replace R3 := R3.below hB5
    replace hB5 := chain hB3 hB5
    clear hret hB3
    cases hoo : liftedO size l1 addr with
    | none =>
      rw [hoo] at R3 R5
      simp only [Option.isSome_none, Option.getD_none] at R3 R5 ⊢
      obtain rfl : n3 = 0 := by have := R3.sl.len; simpa using this.symm
      go_wp2_with fail
      refine (laws_sameSpace a3 0 cap3 [] a5 n5 cap5 _ R3.sl R5.sl (by omega)).mono ?_
      rintro e w6 ⟨rfl, hB6⟩
      replace R1 := R1.below hB6
      replace R3 := R3.below hB6
      replace R5 := R5.below hB6
      replace hB6 := chain hB5 hB6
      clear hB5
      cases hok : spaceOkB size l1
      · go_wp2_with fail
        refine (spec_SpaceOk size a1 n1 cap1 l1 _ R1.sl hs1 (by omega)).mono ?_
        rintro e w7 ⟨rfl, rfl⟩
        rw [hok]
        go_wp2_with fail
        refine (laws_sameSpace a3 0 cap3 [] a5 n5 cap5 _ R3.sl R5.sl (by omega)).mono ?_
        rintro e w8 ⟨rfl, hB8⟩
        replace hB8 := chain hB6 hB8
        go_wp2
        go_returns
        exact ⟨rfl, hB8⟩
      · obtain ⟨g1, g2, g3, g4, g5, g6⟩ := gaps_sum hok
        have hroom : roomV size l1 = size - sumD l1 := by unfold roomV; rw [if_pos hok]
        go_wp2_with fail
        refine (spec_SpaceOk size a1 n1 cap1 l1 _ R1.sl hs1 (by omega)).mono ?_
        rintro e w7 ⟨rfl, rfl⟩
        rw [hok]
        go_wp2_with fail
        refine (impl_GapsOf size a1 n1 cap1 l1 _ R1.sl hs1 (by omega) (fun ad _ had => (R1.block ad had).2)).mono ?_
        rintro e w8 ⟨⟨ag, ng, capg, rfl, Rg⟩, hB8⟩
        replace R1 := R1.below hB8
        replace R3 := R3.below hB8
        replace hB8 := chain hB6 hB8
        have hng := Rg.sl.len
        have hG : IntsAt w8 ag ng (gapsV size l1) := Rg.sl
        generalize hgg : gapsV size l1 = G at *
        clear hB6 Rg hgg R5
        go_wp2_with fail
        go_loopw [10, 12] (fun sm ix wr => ∃ (k : Nat), k ≤ ng ∧ ix = .int .i64 k ∧ sm = .int .i64 (sI (G.take k)) ∧ Below w8.heap.size w8 wr) (fun _ ix _ => ng - (intOf ix).toNat)
        case atStart => exact ⟨0, Nat.zero_le _, rfl, rfl, Below.refl _ _⟩
        case round =>
          obtain ⟨k, hk, rfl, rfl, hBr⟩ := hrel
          by_cases hlt : k < ng
          · obtain ⟨bg, og, x, rfl, hx, c0⟩ := ints_at' (hG.below hBr) hlt
            have hst : Hid (sI (G.take (k + 1)) = sI (G.take k) + x) := sI_take hx
            obtain ⟨s0, s1⟩ := sI_take_bd g1 k
            obtain ⟨s2, s3⟩ := sI_take_bd g1 (k + 1)
            rw [hst.out] at s2 s3
            clear hx
            have hk1 : (k : Int) < ng := by omega
            have hk2 : (0 : Int) ≤ k := by omega
            go_wp2
            go_roundw
            case rel => exact ⟨k + 1, by omega, by go_num, by rw [hst.out], hBr⟩
            case measure => simp [intOf]; omega
          · obtain rfl : k = ng := by omega
            have hfull : G.take k = G := List.take_of_length_le (by omega)
            rw [hfull, g2]
            clear hfull hG
            replace R1 := R1.below hBr
            replace R3 := R3.below hBr
            replace hBr := chain hB8 hBr
            have hq1 : (size - sumD l1 != size - sumD l1) = false := by simp
            clear hB8
            go_wp2_with fail
            refine (impl_RoomOf size a1 n1 cap1 l1 _ R1.sl hs1 (by omega) (fun ad _ had => (R1.block ad had).2)).mono ?_
            rintro e w9 ⟨rfl, hB9⟩
            rw [hroom]
            replace R1 := R1.below hB9
            replace R3 := R3.below hB9
            replace hB9 := chain hBr hB9
            clear hBr
            go_wp2_with fail
            refine (impl_RoomOf size a1 n1 cap1 l1 _ R1.sl hs1 (by omega) (fun ad _ had => (R1.block ad had).2)).mono ?_
            rintro e w10 ⟨rfl, hB10⟩
            rw [hroom]
            replace R1 := R1.below hB10
            replace R3 := R3.below hB10
            replace hB10 := chain hB9 hB10
            clear hB9
            go_wp2_with fail
            refine (spec_RoomOf size a1 n1 cap1 l1 _ R1.sl hs1 (by omega)).mono ?_
            rintro e w11 ⟨rfl, rfl⟩
            rw [hroom]
            go_wp2_with fail
            refine (impl_Lifted size a3 0 cap3 [] addr _ R3.sl (fun e he => by cases he) (by omega)).mono ?_
            rintro e w12 ⟨hret, hB12⟩
            obtain ⟨a12, n12, cap12, rfl, R12⟩ := retx_out hret
            replace hB12 := chain hB10 hB12
            go_wp2
            go_returns
            exact ⟨rfl, hB12⟩
    | some L =>
      rw [hoo] at R3 R5
      simp only [Option.isSome_some, Option.getD_some] at R3 R5 ⊢
      obtain ⟨f1, f2, f3, f4, f5, f6⟩ := lifted_facts hoo
      have hsL : Strs L := strs_sub hs1 f6
      have hl1 := R1.sl.len
      have hl3 := R3.sl.len
      clear hoo f6
      go_wp2_with fail
      refine (laws_sameSpace a3 n3 cap3 L a5 n5 cap5 _ R3.sl R5.sl (by omega)).mono ?_
      rintro e w6 ⟨rfl, hB6⟩
      replace R1 := R1.below hB6
      replace R3 := R3.below hB6
      replace R5 := R5.below hB6
      replace hB6 := chain hB5 hB6
      clear hB5
      cases hok : spaceOkB size l1
      · go_wp2_with fail
        refine (spec_SpaceOk size a1 n1 cap1 l1 _ R1.sl hs1 (by omega)).mono ?_
        rintro e w7 ⟨rfl, rfl⟩
        rw [hok]
        go_wp2_with fail
        refine (laws_sameSpace a3 n3 cap3 L a5 n5 cap5 _ R3.sl R5.sl (by omega)).mono ?_
        rintro e w8 ⟨rfl, hB8⟩
        replace hB8 := chain hB6 hB8
        go_wp2
        go_returns
        exact ⟨rfl, hB8⟩
      · obtain ⟨g1, g2, g3, g4, g5, g6⟩ := gaps_sum hok
        have hroom : roomV size l1 = size - sumD l1 := by unfold roomV; rw [if_pos hok]
        go_wp2_with fail
        refine (spec_SpaceOk size a1 n1 cap1 l1 _ R1.sl hs1 (by omega)).mono ?_
        rintro e w7 ⟨rfl, rfl⟩
        rw [hok]
        go_wp2_with fail
        refine (impl_GapsOf size a1 n1 cap1 l1 _ R1.sl hs1 (by omega) (fun ad _ had => (R1.block ad had).2)).mono ?_
        rintro e w8 ⟨⟨ag, ng, capg, rfl, Rg⟩, hB8⟩
        replace R1 := R1.below hB8
        replace R3 := R3.below hB8
        replace hB8 := chain hB6 hB8
        have hng := Rg.sl.len
        have hG : IntsAt w8 ag ng (gapsV size l1) := Rg.sl
        generalize hgg : gapsV size l1 = G at *
        clear hB6 Rg hgg R5
        go_wp2_with fail
        go_loopw [10, 12] (fun sm ix wr => ∃ (k : Nat), k ≤ ng ∧ ix = .int .i64 k ∧ sm = .int .i64 (sI (G.take k)) ∧ Below w8.heap.size w8 wr) (fun _ ix _ => ng - (intOf ix).toNat)
        case atStart => exact ⟨0, Nat.zero_le _, rfl, rfl, Below.refl _ _⟩
        case round =>
          obtain ⟨k, hk, rfl, rfl, hBr⟩ := hrel
          by_cases hlt : k < ng
          · obtain ⟨bg, og, x, rfl, hx, c0⟩ := ints_at' (hG.below hBr) hlt
            have hst : Hid (sI (G.take (k + 1)) = sI (G.take k) + x) := sI_take hx
            obtain ⟨s0, s1⟩ := sI_take_bd g1 k
            obtain ⟨s2, s3⟩ := sI_take_bd g1 (k + 1)
            rw [hst.out] at s2 s3
            clear hx
            have hk1 : (k : Int) < ng := by omega
            have hk2 : (0 : Int) ≤ k := by omega
            go_wp2
            go_roundw
            case rel => exact ⟨k + 1, by omega, by go_num, by rw [hst.out], hBr⟩
            case measure => simp [intOf]; omega
          · obtain rfl : k = ng := by omega
            have hfull : G.take k = G := List.take_of_length_le (by omega)
            rw [hfull, g2]
            clear hfull hG
            replace R1 := R1.below hBr
            replace R3 := R3.below hBr
            replace hBr := chain hB8 hBr
            have hq1 : (size - sumD l1 != size - sumD l1) = false := by simp
            clear hB8
            go_wp2_with fail
            refine (impl_RoomOf size a1 n1 cap1 l1 _ R1.sl hs1 (by omega) (fun ad _ had => (R1.block ad had).2)).mono ?_
            rintro e w9 ⟨rfl, hB9⟩
            rw [hroom]
            replace R1 := R1.below hB9
            replace R3 := R3.below hB9
            replace hB9 := chain hBr hB9
            clear hBr
            go_wp2_with fail
            refine (impl_RoomOf size a1 n1 cap1 l1 _ R1.sl hs1 (by omega) (fun ad _ had => (R1.block ad had).2)).mono ?_
            rintro e w10 ⟨rfl, hB10⟩
            rw [hroom]
            replace R1 := R1.below hB10
            replace R3 := R3.below hB10
            replace hB10 := chain hB9 hB10
            clear hB9
            go_wp2_with fail
            refine (spec_RoomOf size a1 n1 cap1 l1 _ R1.sl hs1 (by omega)).mono ?_
            rintro e w11 ⟨rfl, rfl⟩
            rw [hroom]
            go_wp2_with fail
            refine (impl_Lifted size a3 n3 cap3 L addr _ R3.sl hsL (by omega)).mono ?_
            rintro e w12 ⟨hret, hB12⟩
            obtain ⟨a12, n12, cap12, rfl, R12⟩ := retx_out hret
            replace R1 := R1.below hB12
            replace R3 := R3.below hB12
            replace hB12 := chain hB10 hB12
            rw [f4]
            simp only [Option.isSome_none]
            clear hret R12 hB10
            have hroomL : roomV size L = size - sumD L := by unfold roomV; rw [if_pos f2]
            have hle : ((n3 : Int) == (n1 : Int) - 1) = true := by simp; omega
            have hgt : decide (size - sumD l1 < size - sumD L) = true := by simp; omega
            go_wp2_with fail
            refine (impl_SpaceOk size a3 n3 cap3 L _ R3.sl hsL (by omega)).mono ?_
            rintro e w13 ⟨rfl, hB13⟩
            rw [f2]
            replace R1 := R1.below hB13
            replace R3 := R3.below hB13
            replace hB13 := chain hB12 hB13
            go_wp2_with fail
            refine (impl_RoomOf size a3 n3 cap3 L _ R3.sl hsL (by omega) (fun ad _ had => (R3.block ad had).2)).mono ?_
            rintro e w14 ⟨rfl, hB14⟩
            rw [hroomL]
            replace R1 := R1.below hB14
            replace hB14 := chain hB13 hB14
            go_wp2_with fail
            refine (impl_RoomOf size a1 n1 cap1 l1 _ R1.sl hs1 (by omega) (fun ad _ had => (R1.block ad had).2)).mono ?_
            rintro e w15 ⟨rfl, hB15⟩
            rw [hroom]
            replace hB15 := chain hB14 hB15
            go_wp2
            go_returns
            exact ⟨rfl, hB15⟩
  · have hb : decide (1048576 < n) = true := by simp; omega
    go_enter Try.func4, Try.ntmps4
    go_wp2_with fail
    refine (laws_bigC a n cap _ hm).mono ?_
    rintro e w1 ⟨rfl, rfl⟩
    rw [hb]
    go_wp2
    go_returns
    exact ⟨rfl, Below.refl _ _⟩

set_option maxRecDepth 100000 in
theorem liftedDLifted (os : Os) (started : os.Started) (H : Type) (enc : TypeId × Value → H) :
    ReturnsInHanded {} Try.checked os 4 .any (Rows.fnLiftedSpec.pre6 enc Try.prog Try.f4 Rows.fnLiftedRow.domain false) (Rows.fnLiftedSpec.post enc Try.prog Try.f4 false true false false) := by
  refine returnsInHanded_of_change (C := Try.checked) own started (by kernel_rfl) Try.func4
    (ChangeSpec.witness6 (enc := enc) (C := Try.checked) false ⟨#[], #[.slice none 0 0], []⟩ 8 (by kernel_rfl) (by kernel_rfl) (by kernel_rfl) (by kernel_rfl)) ?_
  intro W base args ds gs before hval0 hW _ _
  have hval : ∀ (j : Nat) t v, Try.f4.params[j]? = some t → args[j]? = some v → Value.okWide Try.prog W .any base t v := hval0
  have hW' := hW
  obtain ⟨p, q, hA0, hV, rfl, _, _⟩ := hW
  have hA : DataW.TrodAll enc Try.prog W 0 (fun _ => true) true Try.f4.params.toList args.toList ds p := hA0
  rw [Try.params4] at hA hval
  obtain ⟨v0, vs0, d0, ds0, p0, q0, hargs, rfl, rfl, h0, r0⟩ := trodAll_cons hA
  obtain ⟨rfl, rfl, rfl⟩ := trodAll_nil r0
  obtain rfl : args = #[v0] := by cases args; simp_all
  obtain ⟨rfl, rfl⟩ := trodVars_none hV
  clear hA0 hval0
  simp only [List.append_nil] at hW'
  have hlt : ∀ x ∈ p0, x.block < W.heap.size := fun x hx => by simpa using hW'.lt x hx
  obtain ⟨a0, len, cap, rfl⟩ := okWide_slice Try.underlying22 (hval 0 22 v0 rfl rfl)
  obtain ⟨hmx, hl⟩ := open_code h0
  unfold maxLen at hmx
  refine (walkDLifted a0 len cap W hl (by omega)).mono fun e W' ⟨he, hB⟩ => ?_
  subst he
  have hargs : DataW.Trod enc Try.prog W' 0 (fun b => decide (b < W.heap.size)) true 22 (.slice a0 len cap) d0 p0 :=
    Below.trod laidOut (by kernel_rfl) (of_decide_eq_true (by kernel_rfl)) h0 hB hlt
  exact ⟨_, rfl, ⟨_, _, _, [], _, [], hW', trodAll_mk1 (shut_bool Try.underlying4 _), trodAll_mk1 hargs, rfl, hB.frame _, fun h => by cases h⟩⟩

theorem holdsDLifted : Rows.FnLiftedSaid :=
  OpenClaim.holds_of_wide 4 Try.f4 rfl rfl rfl rfl rfl rfl rfl ⟨rfl, rfl, rfl, rfl, rfl⟩ rfl rfl rfl rfl rfl (by kernel_rfl) Try.func4 (joined_of (by kernel_rfl) (by kernel_rfl) (by kernel_rfl) (by kernel_rfl) rfl rfl rfl (by kernel_rfl))
    (of_decide_eq_true (by kernel_rfl)) (by unfold Func.isWrapper; first | (rw [if_pos (by decide +kernel)]; kernel_rfl) | (rw [if_neg (by decide +kernel)]; exact ⟨rfl, rfl⟩))
    (fun os started H enc _ => liftedDLifted os started H enc)
end Go.Proofs.Ytckljlgojhloiaa
