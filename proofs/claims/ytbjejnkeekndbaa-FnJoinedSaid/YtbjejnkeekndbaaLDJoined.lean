/- At every code: Joined of what is drawn is what its model tells, its content is the one's behind the other's, and it may be done in either order: no condition. -/
import Derived.Test.YtbjejnkeekndbaaRows
import Derived.Test.YtbjejnkeekndbaaKg
import Derived.Test.YtbjejnkeekndbaaKq
import Derived.Test.YtbjejnkeekndbaaKr
import Derived.Test.YtbjejnkeekndbaaKt
import Derived.Test.YtbjejnkeekndbaaKd
namespace Go.Proofs.Ytbjejnkeekndbaa
open Go.ChangeShapes Go.WideShapes Go.ChangeAt Go.RowKit Go.Deep

theorem walkDJoined (a : Option Addr) (n cap : Nat) (w : World) (h : CodeAt w a n) (hm : n ≤ 9223372036854775807) :
    Calls Try.prog 6 #[.slice a n cap] w fun e w' => e = .returned (.bool true) ∧ Below w.heap.size w w' := by
  by_cases hn : n ≤ 1048576
  · have hb : decide (1048576 < n) = false := by simp; omega
    go_enter Try.func6, Try.ntmps6
    go_wp2_with fail
    refine (laws_bigC a n cap _ hm).mono ?_
    rintro e w1 ⟨rfl, rfl⟩
    rw [hb]
    go_wp2_with fail
    refine (spec_DrawJoined a n cap _ h hn).mono ?_
    rintro e w2 ⟨⟨a1, n1, cap1, l1, a2, n2, cap2, l2, rfl, hn1, R1, hn2, R2⟩, hB2⟩
    go_wp2_with fail
    refine (spec_DrawLenOf a n cap _ (h.below hB2) hn).mono ?_
    rintro e w3 ⟨⟨a3, n3, cap3, l3, rfl, hn3, R3⟩, hB3⟩
    replace R1 := R1.below hB3
    replace R2 := R2.below hB3
    have hC3 := chain hB2 hB3
    clear hB2 hB3
    go_wp2_with fail
    refine (impl_Joined a1 n1 cap1 l1 a2 n2 cap2 l2 _ R1.sl (by omega) (fun ad had => (R1.block ad had).2) R2.sl (by omega) (fun ad had => (R2.block ad had).2)).mono ?_
    rintro e w4 ⟨hret, hB4⟩
    obtain ⟨a4, n4, cap4, rfl, R4⟩ := retp_out hret
    have hn4 : n4 ≤ 16 := by rw [← R4.sl.len]; exact joinedO_len ..
    replace R1 := R1.below hB4
    replace R2 := R2.below hB4
    replace R3 := R3.below hB4
    have hC4 := chain hC3 hB4
    clear hret hC3 hB4
    go_wp2_with fail
    refine (spec_Joined a1 n1 cap1 l1 a2 n2 cap2 l2 _ R1.sl (by omega) R1.arg R2.sl (by omega)).mono ?_
    rintro e w5 ⟨hret, hB5⟩
    rw [joinedS_eq] at hret
    obtain ⟨a5, n5, cap5, rfl, R5⟩ := retp_out hret
    replace R1 := R1.below hB5
    replace R2 := R2.below hB5
    replace R3 := R3.below hB5
    replace R4 := R4.below hB5
    have hC5 := chain hC4 hB5
    clear hret hC4 hB5
    have hn5 : n5 ≤ 16 := by rw [← R5.sl.len]; exact joinedO_len ..
    cases hj : joinedO l1 l2 with
    | none =>
      rw [hj] at R4 R5
      simp only [Option.isSome_none]
      go_wp2_with fail
      refine (laws_sameParts a4 n4 cap4 _ a5 n5 cap5 _ R4.sl R5.sl (by omega)).mono ?_
      rintro e w6 ⟨rfl, hB6⟩
      replace R4 := R4.below hB6
      replace R5 := R5.below hB6
      have hC6 := chain hC5 hB6
      go_wp2_with fail
      refine (laws_sameParts a4 n4 cap4 _ a5 n5 cap5 _ R4.sl R5.sl (by omega)).mono ?_
      rintro e w7 ⟨rfl, hB7⟩
      have hC7 := chain hC6 hB7
      go_wp2
      go_returns
      exact ⟨rfl, hC7⟩
    | some j =>
      rw [hj] at R4 R5
      simp only [Option.getD_some] at R4 R5
      simp only [Option.isSome_some]
      go_wp2_with fail
      refine (laws_sameParts a4 n4 cap4 _ a5 n5 cap5 _ R4.sl R5.sl (by omega)).mono ?_
      rintro e w6 ⟨rfl, hB6⟩
      replace R1 := R1.below hB6
      replace R2 := R2.below hB6
      replace R3 := R3.below hB6
      replace R4 := R4.below hB6
      have hC6 := chain hC5 hB6
      clear R5 hC5 hB6
      go_wp2_with fail
      refine (spec_DrawContent a n cap _ (h.below hC6) hn).mono ?_
      rintro e w7 ⟨⟨a6, n6, cap6, l6, a7, n7, cap7, l7, rfl, hn6, _, R6, hn7, hs7, R7⟩, hB7⟩
      replace R1 := R1.below hB7
      replace R2 := R2.below hB7
      replace R3 := R3.below hB7
      replace R4 := R4.below hB7
      have hC7 := chain hC6 hB7
      clear R6 hC6 hB7
      go_wp2_with fail
      refine (impl_Content a1 n1 cap1 l1 a7 n7 cap7 l7 _ R1.sl R7.sl hs7 (by omega) (by omega)).mono ?_
      rintro e w8 ⟨hret, hB8⟩
      obtain rfl := rets_outJ hret
      replace R1 := R1.below hB8
      replace R2 := R2.below hB8
      replace R3 := R3.below hB8
      replace R4 := R4.below hB8
      replace R7 := R7.below hB8
      have hC8 := chain hC7 hB8
      clear hret hC7 hB8
      go_wp2_with fail
      refine (impl_Content a2 n2 cap2 l2 a7 n7 cap7 l7 _ R2.sl R7.sl hs7 (by omega) (by omega)).mono ?_
      rintro e w9 ⟨hret, hB9⟩
      obtain rfl := rets_outJ hret
      replace R1 := R1.below hB9
      replace R2 := R2.below hB9
      replace R3 := R3.below hB9
      replace R4 := R4.below hB9
      replace R7 := R7.below hB9
      have hC9 := chain hC8 hB9
      clear hret hC8 hB9
      go_wp2_with fail
      refine (impl_Content a4 n4 cap4 j a7 n7 cap7 l7 _ R4.sl R7.sl hs7 (by omega) (by omega)).mono ?_
      rintro e w10 ⟨hret, hB10⟩
      obtain rfl := rets_outJ hret
      replace R1 := R1.below hB10
      replace R2 := R2.below hB10
      replace R3 := R3.below hB10
      replace R4 := R4.below hB10
      have hC10 := chain hC9 hB10
      clear hret hC9 hB10 R7
      have hcut : ∀ x y, contentO l1 l7 = some x → contentO l2 l7 = some y → contentO j l7 = some (x ++ y) ∧ x.size + y.size ≤ 200 := fun x y hx hy => ⟨content_joined hj hx hy, by have := (content_lenJ hx).2; have := (content_lenJ hy).2; omega⟩
      generalize contentO l1 l7 = cx at hcut ⊢
      generalize contentO l2 l7 = cy at hcut ⊢
      generalize contentO j l7 = cz at hcut ⊢
      rcases cx with _ | x
      rotate_left
      rcases cy with _ | y
      rotate_left
      obtain ⟨rfl, hxy⟩ := hcut x y rfl rfl
      simp only [Option.getD_some, Option.isSome_some]
      all_goals clear hcut
      all_goals go_wp2_with fail
      all_goals refine (impl_Joined a2 n2 cap2 l2 a3 n3 cap3 l3 _ R2.sl (by omega) (fun ad had => (R2.block ad had).2) R3.sl (by omega) (fun ad had => (R3.block ad had).2)).mono ?_
      all_goals rintro e w11 ⟨hret, hB11⟩
      all_goals obtain ⟨a8, n8, cap8, rfl, R8⟩ := retp_out hret
      all_goals have hn8 : n8 ≤ 16 := by rw [← R8.sl.len]; exact joinedO_len ..
      all_goals replace R1 := R1.below hB11
      all_goals replace R3 := R3.below hB11
      all_goals replace R4 := R4.below hB11
      all_goals have hC11 := chain hC10 hB11
      all_goals clear hret hC10 hB11 R2
      all_goals go_wp2_with fail
      all_goals refine (impl_Joined a1 n1 cap1 l1 a8 n8 cap8 _ _ R1.sl (by omega) (fun ad had => (R1.block ad had).2) R8.sl (by omega) (fun ad had => (R8.block ad had).2)).mono ?_
      all_goals rintro e w12 ⟨hret, hB12⟩
      all_goals obtain ⟨a9, n9, cap9, rfl, R9⟩ := retp_out hret
      all_goals have hn9 : n9 ≤ 16 := by rw [← R9.sl.len]; exact joinedO_len ..
      all_goals replace R3 := R3.below hB12
      all_goals replace R4 := R4.below hB12
      all_goals have hC12 := chain hC11 hB12
      all_goals clear hret hC11 hB12 R1
      all_goals go_wp2_with fail
      all_goals refine (impl_Joined a4 n4 cap4 j a3 n3 cap3 l3 _ R4.sl (by omega) (fun ad had => (R4.block ad had).2) R3.sl (by omega) (fun ad had => (R3.block ad had).2)).mono ?_
      all_goals rintro e w13 ⟨hret, hB13⟩
      all_goals obtain ⟨b1, m1, c1, rfl, R10⟩ := retp_out hret
      all_goals replace R9 := R9.below hB13
      all_goals have hC13 := chain hC12 hB13
      all_goals clear hret hC12 hB13
      all_goals cases hk : joinedO l2 l3 with
        | none =>
          go_wp2
          go_returns
          exact ⟨rfl, hC13⟩
        | some k =>
          rw [hk] at R9
          simp only [Option.getD_some] at R9 ⊢
          rw [joined_assoc hj hk] at R9 ⊢
          go_wp2_with fail
          refine (laws_sameParts a9 n9 cap9 _ b1 m1 c1 _ R9.sl R10.sl (by omega)).mono ?_
          rintro e w14 ⟨rfl, hB14⟩
          have hC14 := chain hC13 hB14
          go_wp2
          go_returns
          exact ⟨rfl, hC14⟩
  · have hb : decide (1048576 < n) = true := by simp; omega
    go_enter Try.func6, Try.ntmps6
    go_wp2_with fail
    refine (laws_bigC a n cap _ hm).mono ?_
    rintro e w1 ⟨rfl, rfl⟩
    rw [hb]
    go_wp2
    go_returns
    exact ⟨rfl, Below.refl _ _⟩
set_option maxRecDepth 100000 in
theorem liftedDJoined (os : Os) (started : os.Started) (H : Type) (enc : TypeId × Value → H) :
    ReturnsInHanded {} Try.checked os 6 .any (Rows.fnJoinedSpec.pre6 enc Try.prog Try.f6 Rows.fnJoinedRow.domain false) (Rows.fnJoinedSpec.post enc Try.prog Try.f6 false true false false) := by
  refine returnsInHanded_of_change (C := Try.checked) own started (by kernel_rfl) Try.func6
    (ChangeSpec.witness6 (enc := enc) (C := Try.checked) false ⟨#[], #[.slice none 0 0], []⟩ 8 (by kernel_rfl) (by kernel_rfl) (by kernel_rfl) (by kernel_rfl)) ?_
  intro W base args ds gs before hval0 hW _ _
  have hval : ∀ (j : Nat) t v, Try.f6.params[j]? = some t → args[j]? = some v → Value.okWide Try.prog W .any base t v := hval0
  have hW' := hW
  obtain ⟨p, q, hA0, hV, rfl, _, _⟩ := hW
  have hA : DataW.TrodAll enc Try.prog W 0 (fun _ => true) true Try.f6.params.toList args.toList ds p := hA0
  rw [Try.params6] at hA hval
  obtain ⟨v0, vs0, d0, ds0, p0, q0, hargs, rfl, rfl, h0, r0⟩ := trodAll_cons hA
  obtain ⟨rfl, rfl, rfl⟩ := trodAll_nil r0
  obtain rfl : args = #[v0] := by cases args; simp_all
  obtain ⟨rfl, rfl⟩ := trodVars_none hV
  clear hA0 hval0
  simp only [List.append_nil] at hW'
  have hlt : ∀ x ∈ p0, x.block < W.heap.size := fun x hx => by simpa using hW'.lt x hx
  obtain ⟨a0, len, cap, rfl⟩ := okWide_slice Try.underlying22 (hval 0 22 v0 rfl rfl)
  obtain ⟨hmx, hl⟩ := open_code h0
  unfold maxLen at hmx
  refine (walkDJoined a0 len cap W hl (by omega)).mono fun e W' ⟨he, hB⟩ => ?_
  subst he
  have hargs : DataW.Trod enc Try.prog W' 0 (fun b => decide (b < W.heap.size)) true 22 (.slice a0 len cap) d0 p0 :=
    Below.trod laidOut (by kernel_rfl) (of_decide_eq_true (by kernel_rfl)) h0 hB hlt
  exact ⟨_, rfl, ⟨_, _, _, [], _, [], hW', trodAll_mk1 (shut_bool Try.underlying4 _), trodAll_mk1 hargs, rfl, hB.frame _, fun h => by cases h⟩⟩

theorem holdsDJoined : Rows.FnJoinedSaid :=
  OpenClaim.holds_of_wide 6 Try.f6 rfl rfl rfl rfl rfl rfl rfl ⟨rfl, rfl, rfl, rfl, rfl⟩ rfl rfl rfl rfl rfl (by kernel_rfl) Try.func6 (joined_of (by kernel_rfl) (by kernel_rfl) (by kernel_rfl) (by kernel_rfl) rfl rfl rfl (by kernel_rfl))
    (of_decide_eq_true (by kernel_rfl)) (by unfold Func.isWrapper; first | (rw [if_pos (by decide +kernel)]; kernel_rfl) | (rw [if_neg (by decide +kernel)]; exact ⟨rfl, rfl⟩))
    (fun os started H enc _ => liftedDJoined os started H enc)
end Go.Proofs.Ytbjejnkeekndbaa
