/- At every code: Slice of what is drawn is what its model tells, it is right and as long as asked, what lies ahead of it, itself and what lies behind it make up the list, and its content is that piece of the list's: no condition. -/
import Derived.Test.YtbjejnkeekndbaaRows
import Derived.Test.YtbjejnkeekndbaaKg
import Derived.Test.YtbjejnkeekndbaaKr
import Derived.Test.YtbjejnkeekndbaaKu
namespace Go.Proofs.Ytbjejnkeekndbaa
open Go.ChangeShapes Go.WideShapes Go.ChangeAt Go.RowKit Go.Deep

theorem sliceS_eq (l : List Pt) (fr to : Int) : sliceS l fr to = sliceO l fr to := (slice_eq l fr to).symm
theorem slice_some {l s : List Pt} {fr to : Int} (h : sliceO l fr to = some s) : partsOkB l = true ∧ 0 ≤ fr ∧ fr ≤ to ∧ to ≤ sumN l ∧ s = slp fr to 0 l := by
  have h' := h
  rw [← sliceS_eq] at h'
  unfold sliceS at h'
  split at h'
  · rename_i hh
    rw [slices hh.1 hh.2.1 hh.2.2.2.1 hh.2.2.2.2] at h
    exact ⟨hh.1, hh.2.1, hh.2.2.2.1, hh.2.2.2.2, (Option.some.inj h).symm⟩
  · cases h'

set_option maxHeartbeats 2000000 in
set_option maxRecDepth 100000 in
theorem walkDSliced (a : Option Addr) (n cap : Nat) (w : World) (h : CodeAt w a n) (hm : n ≤ 9223372036854775807) :
    Calls Try.prog 5 #[.slice a n cap] w fun e w' => e = .returned (.bool true) ∧ Below w.heap.size w w' := by
  by_cases hn : n ≤ 1048576
  · have hb : decide (1048576 < n) = false := by simp; omega
    go_enter Try.func5, Try.ntmps5
    go_wp2_with fail
    refine (laws_bigC a n cap _ hm).mono ?_
    rintro e w1 ⟨rfl, rfl⟩
    rw [hb]
    go_wp2_with fail
    refine (spec_DrawSlice a n cap _ h hn).mono ?_
    rintro e w2 ⟨⟨a1, n1, cap1, l1, fr, to, rfl, hn1, R1⟩, hC2⟩
    go_wp2_with fail
    refine (impl_Slice a1 n1 cap1 l1 fr to _ R1.sl (by omega) (fun ad had => (R1.block ad had).2)).mono ?_
    rintro e w3 ⟨hret, hB3⟩
    obtain ⟨a2, n2, cap2, rfl, R2⟩ := retp_out hret
    have hn2 : n2 ≤ 16 := by rw [← R2.sl.len]; exact sliceO_len ..
    replace R1 := R1.below hB3
    have hC3 := chain hC2 hB3
    clear hret hC2 hB3
    go_wp2_with fail
    refine (spec_Slice a1 n1 cap1 l1 fr to _ R1.sl (by omega)).mono ?_
    rintro e w4 ⟨hret, hB4⟩
    rw [sliceS_eq] at hret
    obtain ⟨a3, n3, cap3, rfl, R3⟩ := retp_out hret
    replace R1 := R1.below hB4
    replace R2 := R2.below hB4
    have hC4 := chain hC3 hB4
    clear hret hC3 hB4
    go_wp2_with fail
    refine (impl_LenOf a1 n1 cap1 l1 _ R1.sl (by omega)).mono ?_
    rintro e w5 ⟨rfl, hB5⟩
    replace R1 := R1.below hB5
    replace R2 := R2.below hB5
    replace R3 := R3.below hB5
    have hC5 := chain hC4 hB5
    clear hC4 hB5
    cases hs : sliceO l1 fr to with
    | none =>
      rw [hs] at R2 R3
      simp only [Option.isSome_none]
      go_wp2_with fail
      refine (laws_sameParts a2 n2 cap2 _ a3 n3 cap3 _ R2.sl R3.sl (by omega)).mono ?_
      rintro e w6 ⟨rfl, hB6⟩
      replace R1 := R1.below hB6
      replace R2 := R2.below hB6
      replace R3 := R3.below hB6
      have hC6 := chain hC5 hB6
      go_wp2_with fail
      refine (spec_LenOf a1 n1 cap1 l1 _ R1.sl (by omega)).mono ?_
      rintro e w7 ⟨rfl, hB7⟩
      replace R1 := R1.below hB7
      replace R2 := R2.below hB7
      replace R3 := R3.below hB7
      have hC7 := chain hC6 hB7
      go_wp2_with fail
      refine (laws_sameParts a2 n2 cap2 _ a3 n3 cap3 _ R2.sl R3.sl (by omega)).mono ?_
      rintro e w8 ⟨rfl, hB8⟩
      replace R1 := R1.below hB8
      have hC8 := chain hC7 hB8
      go_wp2_with fail
      refine (spec_LenOf a1 n1 cap1 l1 _ R1.sl (by omega)).mono ?_
      rintro e w9 ⟨rfl, hB9⟩
      have hC9 := chain hC8 hB9
      go_wp2
      go_returns
      exact ⟨rfl, hC9⟩
    | some s =>
      obtain ⟨hok, h0, h1, h2, hsl⟩ := slice_some hs
      rw [hs] at R2 R3
      simp only [Option.getD_some] at R2 R3
      simp only [Option.isSome_some]
      have hlen : lenB l1 = sumN l1 := by simp [lenB, hok]
      have hl1 := (partsOkB_all hok).2.2
      have hj1 : Hid (joinedO (slp 0 fr 0 l1) s = some (slp 0 to 0 l1)) := by show _ = _; rw [hsl, slice_joined hok h0 h1]
      have hcut' : Hid (∀ e x, contentO l1 e = some x → contentO s e = some (x.extract fr.toNat to.toNat) ∧ to ≤ x.size) := fun e x hx => ⟨by rw [hsl]; exact slice_content hx h0 h1 h2, by rw [(content_lenJ hx).1]; exact h2⟩
      have hsr' : Hid (partsOkB s = true) := by show _ = _; rw [hsl]; exact slice_right hok fr to
      have hsn' : Hid (lenB s = to - fr) := by
        have hsr : partsOkB s = true := hsr'
        have := slp_sum h1 l1 0 (partsOkB_all hok).2.1
        show _ = _
        simp only [lenB, hsr, if_true]
        rw [hsl]
        omega
      clear hs hsl
      go_wp2_with fail
      refine (laws_sameParts a2 n2 cap2 _ a3 n3 cap3 _ R2.sl R3.sl (by omega)).mono ?_
      rintro e w6 ⟨rfl, hB6⟩
      replace R1 := R1.below hB6
      replace R2 := R2.below hB6
      have hC6 := chain hC5 hB6
      clear hC5 hB6 R3
      go_wp2_with fail
      refine (spec_LenOf a1 n1 cap1 l1 _ R1.sl (by omega)).mono ?_
      rintro e w7 ⟨rfl, hB7⟩
      rw [hlen]
      replace R1 := R1.below hB7
      replace R2 := R2.below hB7
      have hC7 := chain hC6 hB7
      clear hC6 hB7
      go_wp2_with fail
      refine (impl_Slice a1 n1 cap1 l1 0 fr _ R1.sl (by omega) (fun ad had => (R1.block ad had).2)).mono ?_
      rintro e w8 ⟨hret, hB8⟩
      rw [slices hok (by omega) h0 (by omega)] at hret
      obtain ⟨a4, n4, cap4, rfl, R4⟩ := retp_out hret
      simp only [Option.getD_some] at R4
      simp only [Option.isSome_some]
      have hn4 : n4 ≤ 16 := by rw [← R4.sl.len]; exact (partsOkB_all (slice_right hok 0 fr)).1
      replace R1 := R1.below hB8
      replace R2 := R2.below hB8
      have hC8 := chain hC7 hB8
      clear hret hC7 hB8
      go_wp2_with fail
      refine (impl_Slice a1 n1 cap1 l1 to (sumN l1) _ R1.sl (by omega) (fun ad had => (R1.block ad had).2)).mono ?_
      rintro e w9 ⟨hret, hB9⟩
      rw [slices hok (by omega) h2 (by omega)] at hret
      obtain ⟨a5, n5, cap5, rfl, R5⟩ := retp_out hret
      simp only [Option.getD_some] at R5
      simp only [Option.isSome_some]
      have hn5 : n5 ≤ 16 := by rw [← R5.sl.len]; exact (partsOkB_all (slice_right hok to (sumN l1))).1
      replace R1 := R1.below hB9
      replace R2 := R2.below hB9
      replace R4 := R4.below hB9
      have hC9 := chain hC8 hB9
      clear hret hC8 hB9
      go_wp2_with fail
      refine (impl_Joined a4 n4 cap4 _ a2 n2 cap2 _ _ R4.sl (by omega) (fun ad had => (R4.block ad had).2) R2.sl (by omega) (fun ad had => (R2.block ad had).2)).mono ?_
      rintro e w10 ⟨hret, hB10⟩
      rw [show joinedO (slp 0 fr 0 l1) s = some (slp 0 to 0 l1) from hj1] at hret
      obtain ⟨a6, n6, cap6, rfl, R6⟩ := retp_out hret
      simp only [Option.getD_some] at R6
      simp only [Option.isSome_some]
      have hn6 : n6 ≤ 16 := by rw [← R6.sl.len]; exact (partsOkB_all (slice_right hok 0 to)).1
      replace R1 := R1.below hB10
      replace R2 := R2.below hB10
      replace R5 := R5.below hB10
      have hC10 := chain hC9 hB10
      clear hret hC9 hB10 R4
      go_wp2_with fail
      refine (impl_Joined a6 n6 cap6 _ a5 n5 cap5 _ _ R6.sl (by omega) (fun ad had => (R6.block ad had).2) R5.sl (by omega) (fun ad had => (R5.block ad had).2)).mono ?_
      rintro e w11 ⟨hret, hB11⟩
      rw [slice_joined hok (by omega) h2, slp_all l1 0 (by omega) (by omega) (partsOkB_all hok).2.1] at hret
      obtain ⟨a7, n7, cap7, rfl, R7⟩ := retp_out hret
      simp only [Option.getD_some] at R7
      simp only [Option.isSome_some]
      replace R1 := R1.below hB11
      replace R2 := R2.below hB11
      have hC11 := chain hC10 hB11
      clear hret hC10 hB11 R5 R6
      go_wp2_with fail
      refine (spec_DrawContent a n cap _ (h.below hC11) hn).mono ?_
      rintro e w12 ⟨⟨a8, n8, cap8, l8, a9, n9, cap9, l9, rfl, hn8, _, R8, hn9, hs9, R9⟩, hB12⟩
      replace R1 := R1.below hB12
      replace R2 := R2.below hB12
      replace R7 := R7.below hB12
      have hC12 := chain hC11 hB12
      clear R8 hC11 hB12
      go_wp2_with fail
      refine (impl_Content a1 n1 cap1 l1 a9 n9 cap9 l9 _ R1.sl R9.sl hs9 (by omega) (by omega)).mono ?_
      rintro e w13 ⟨hret, hB13⟩
      obtain rfl := rets_outJ hret
      replace R1 := R1.below hB13
      replace R2 := R2.below hB13
      replace R7 := R7.below hB13
      replace R9 := R9.below hB13
      have hC13 := chain hC12 hB13
      clear hret hC12 hB13
      go_wp2_with fail
      refine (impl_Content a2 n2 cap2 s a9 n9 cap9 l9 _ R2.sl R9.sl hs9 (by omega) (by omega)).mono ?_
      rintro e w14 ⟨hret, hB14⟩
      obtain rfl := rets_outJ hret
      replace R1 := R1.below hB14
      replace R2 := R2.below hB14
      replace R7 := R7.below hB14
      have hC14 := chain hC13 hB14
      clear hret hC13 hB14 R9
      have hn7 : n7 ≤ 8 := by rw [← R7.sl.len, R1.sl.len]; exact hn1
      have hcut : Hid (∀ x, contentO l1 l9 = some x → contentO s l9 = some (x.extract fr.toNat to.toNat) ∧ to ≤ x.size) := fun x hx => hcut' l9 x hx
      clear hcut'
      have hsr : partsOkB s = true := hsr'
      have hsn : lenB s = to - fr := hsn'
      go_wp2_with fail
      refine (laws_sameParts a7 n7 cap7 _ a1 n1 cap1 _ R7.sl R1.sl (by omega)).mono ?_
      rintro e w15 ⟨rfl, hB15⟩
      replace R2 := R2.below hB15
      have hC15 := chain hC14 hB15
      clear hC14 hB15 R7 R1
      go_wp2_with fail
      refine (impl_PartsOk a2 n2 cap2 s _ R2.sl (by omega)).mono ?_
      rintro e w16 ⟨rfl, hB16⟩
      rw [hsr]
      replace R2 := R2.below hB16
      have hC16 := chain hC15 hB16
      clear hC15 hB16
      go_wp2_with fail
      refine (impl_LenOf a2 n2 cap2 s _ R2.sl (by omega)).mono ?_
      rintro e w17 ⟨rfl, hB17⟩
      rw [hsn]
      have hC17 := chain hC16 hB17
      clear hC16 hB17 R2
      replace hcut : ∀ x, contentO l1 l9 = some x → contentO s l9 = some (x.extract fr.toNat to.toNat) ∧ to ≤ x.size := hcut
      generalize contentO l1 l9 = cx at hcut ⊢
      generalize contentO s l9 = cy at hcut ⊢
      cases cx with
      | none =>
        clear hcut
        go_wp2
        go_returns
        exact ⟨rfl, hC17⟩
      | some x =>
        obtain ⟨rfl, hxs⟩ := hcut x rfl
        clear hcut
        simp only [Option.getD_some, Option.isSome_some]
        go_wp2
        go_returns
        exact ⟨rfl, hC17⟩
  · have hb : decide (1048576 < n) = true := by simp; omega
    go_enter Try.func5, Try.ntmps5
    go_wp2_with fail
    refine (laws_bigC a n cap _ hm).mono ?_
    rintro e w1 ⟨rfl, rfl⟩
    rw [hb]
    go_wp2
    go_returns
    exact ⟨rfl, Below.refl _ _⟩

set_option maxRecDepth 100000 in
theorem liftedDSliced (os : Os) (started : os.Started) (H : Type) (enc : TypeId × Value → H) :
    ReturnsInHanded {} Try.checked os 5 .any (Rows.fnSlicedSpec.pre6 enc Try.prog Try.f5 Rows.fnSlicedRow.domain false) (Rows.fnSlicedSpec.post enc Try.prog Try.f5 false true false false) := by
  refine returnsInHanded_of_change (C := Try.checked) own started (by kernel_rfl) Try.func5
    (ChangeSpec.witness6 (enc := enc) (C := Try.checked) false ⟨#[], #[.slice none 0 0], []⟩ 8 (by kernel_rfl) (by kernel_rfl) (by kernel_rfl) (by kernel_rfl)) ?_
  intro W base args ds gs before hval0 hW _ _
  have hval : ∀ (j : Nat) t v, Try.f5.params[j]? = some t → args[j]? = some v → Value.okWide Try.prog W .any base t v := hval0
  have hW' := hW
  obtain ⟨p, q, hA0, hV, rfl, _, _⟩ := hW
  have hA : DataW.TrodAll enc Try.prog W 0 (fun _ => true) true Try.f5.params.toList args.toList ds p := hA0
  rw [Try.params5] at hA hval
  obtain ⟨v0, vs0, d0, ds0, p0, q0, hargs, rfl, rfl, h0, r0⟩ := trodAll_cons hA
  obtain ⟨rfl, rfl, rfl⟩ := trodAll_nil r0
  obtain rfl : args = #[v0] := by cases args; simp_all
  obtain ⟨rfl, rfl⟩ := trodVars_none hV
  clear hA0 hval0
  simp only [List.append_nil] at hW'
  have hlt : ∀ x ∈ p0, x.block < W.heap.size := fun x hx => by simpa using hW'.lt x hx
  obtain ⟨a0, len, cap, rfl⟩ := okWide_slice Try.underlying22 (hval 0 22 v0 rfl rfl)
  obtain ⟨hmx, hl⟩ := open_code h0
  unfold maxLen at hmx
  refine (walkDSliced a0 len cap W hl (by omega)).mono fun e W' ⟨he, hB⟩ => ?_
  subst he
  have hargs : DataW.Trod enc Try.prog W' 0 (fun b => decide (b < W.heap.size)) true 22 (.slice a0 len cap) d0 p0 :=
    Below.trod laidOut (by kernel_rfl) (of_decide_eq_true (by kernel_rfl)) h0 hB hlt
  exact ⟨_, rfl, ⟨_, _, _, [], _, [], hW', trodAll_mk1 (shut_bool Try.underlying4 _), trodAll_mk1 hargs, rfl, hB.frame _, fun h => by cases h⟩⟩

theorem holdsDSliced : Rows.FnSlicedSaid :=
  OpenClaim.holds_of_wide 5 Try.f5 rfl rfl rfl rfl rfl rfl rfl ⟨rfl, rfl, rfl, rfl, rfl⟩ rfl rfl rfl rfl rfl (by kernel_rfl) Try.func5 (joined_of (by kernel_rfl) (by kernel_rfl) (by kernel_rfl) (by kernel_rfl) rfl rfl rfl (by kernel_rfl))
    (of_decide_eq_true (by kernel_rfl)) (by unfold Func.isWrapper; first | (rw [if_pos (by decide +kernel)]; kernel_rfl) | (rw [if_neg (by decide +kernel)]; exact ⟨rfl, rfl⟩))
    (fun os started H enc _ => liftedDSliced os started H enc)
end Go.Proofs.Ytbjejnkeekndbaa
