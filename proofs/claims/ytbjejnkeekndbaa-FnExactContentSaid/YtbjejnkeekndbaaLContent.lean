/- At every list of parts and list of extents the program's Content answers as its model does and writes nothing into its arguments: no condition. -/
import Derived.Test.YtbjejnkeekndbaaRows
import Derived.Test.YtbjejnkeekndbaaKg
import Derived.Test.YtbjejnkeekndbaaKq
import Derived.Test.YtbjejnkeekndbaaKb
import Derived.Test.YtbjejnkeekndbaaKc
import Derived.Test.YtbjejnkeekndbaaKf
namespace Go.Proofs.Ytbjejnkeekndbaa
open Go.ChangeShapes Go.WideShapes Go.ChangeAt Go.RowKit Go.Deep

theorem rets_out {e : Ending} {oo : Option ByteArray} (h : RetStr e oo) : e = .returned (.tuple #[.string (oo.getD ⟨#[]⟩), .bool oo.isSome]) := by
  cases oo <;> exact h

set_option maxHeartbeats 2000000 in
set_option maxRecDepth 100000 in
theorem walkContent (a : Option Addr) (n cap : Nat) (l : List Pt) (a' : Option Addr) (n' cap' : Nat) (m : List Ex) (w : World) (h : PtsAt w a n l) (hm : n ≤ 9223372036854775807) (h' : ExsAt w a' n' m) (hs' : Strs m) (hm' : n' ≤ 9223372036854775807) :
    Calls Try.prog 12 #[.slice a n cap, .slice a' n' cap'] w fun e w' => e = .returned (.bool true) ∧ Below w.heap.size w w' := by
  generalize hoo' : contentO l m = oo at *
  have hoo : Hid (contentO l m = oo) := hoo'
  clear hoo'
  have hbb : (oo.isSome != oo.isSome) = false := by simp
  have hss : (!((oo.getD ⟨#[]⟩).toList == (oo.getD ⟨#[]⟩).toList)) = false := by simp
  have heql := eqPts_refl l
  have heqm := eqExs_refl m
  by_cases hn : n ≤ 1048576
  · have hif : (if n ≤ 1048576 then (1048576 : Int) - n else -1) = 1048576 - n := if_pos hn
    go_enter Try.func12, Try.ntmps12
    go_wp2_with fail
    refine (laws_szPartS a n cap _ hm).mono ?_
    rintro e w0 ⟨rfl, rfl⟩
    rw [hif]
    go_wp2_with fail
    refine (laws_szExtentS a' n' cap' m (1048576 - n) _ h' hs' hm' (by omega) (by omega)).mono ?_
    rintro e w00 ⟨⟨r', rfl, hr'⟩, hB00⟩
    rcases hr' with rfl | ⟨hr0', hr1', hsm'⟩
    · go_wp2
      go_returns
      exact ⟨rfl, hB00⟩
    · have hn' := hsm'.1
      go_wp2_with fail
      refine (laws_toPartS a n cap l _ (h.below hB00) (by omega)).mono ?_
      rintro e w1 ⟨rfl, o1, hB1⟩
      replace hB1 := chain hB00 hB1
      go_wp2_with fail
      refine (laws_toExtentS a' n' cap' m _ (h'.below hB1) (by omega)).mono ?_
      rintro e w2 ⟨rfl, p2, hB2'⟩
      have o2 := o1.below hB2'
      have hB2 := chain hB1 hB2'
      go_wp2_with fail
      refine (spec_Content _ n n l _ n' n' m _ o2.sl p2.sl hs' (by omega) (by omega)).mono ?_
      rintro e w3 ⟨hret, hB3'⟩
      rw [hoo.out] at hret
      obtain rfl := rets_out hret
      clear hret
      have hB3 := chain hB2 hB3'
      go_wp2_with fail
      refine (laws_toPartS a n cap l _ (h.below hB3) (by omega)).mono ?_
      rintro e w4 ⟨rfl, X4, hB4'⟩
      have hB4 := chain hB3 hB4'
      go_wp2_with fail
      refine (laws_toExtentS a' n' cap' m _ (h'.below hB4) (by omega)).mono ?_
      rintro e w5 ⟨rfl, Z5, hB5'⟩
      have X5 := X4.below hB5'
      have hB5 := chain hB4 hB5'
      go_wp2_with fail
      refine (impl_Content _ n n l _ n' n' m _ X5.sl Z5.sl hs' (by omega) (by omega)).mono ?_
      rintro e w6 ⟨hret, hB6'⟩
      rw [hoo.out] at hret
      obtain rfl := rets_out hret
      clear hret
      have X6 := X5.below hB6'
      have Z6 := Z5.below hB6'
      have hB6 := chain hB5 hB6'
      clear X4 X5 Z5 o1 o2 p2
      go_wp2_with fail
      refine (laws_toPartS a n cap l _ (h.below hB6) (by omega)).mono ?_
      rintro e w7 ⟨rfl, Y7, hB7'⟩
      have X7 := X6.below hB7'
      have Z7 := Z6.below hB7'
      have hB7 := chain hB6 hB7'
      go_wp2_with fail
      refine (laws_eqPartS _ n n l _ n n l _ X7.sl Y7.sl (by omega) (by omega)).mono ?_
      rintro e w8 ⟨rfl, hB8'⟩
      rw [heql]
      have Z8 := Z7.below hB8'
      have hB8 := chain hB7 hB8'
      go_wp2_with fail
      refine (laws_toExtentS a' n' cap' m _ (h'.below hB8) (by omega)).mono ?_
      rintro e w9 ⟨rfl, Y9, hB9'⟩
      have Z9 := Z8.below hB9'
      have hB9 := chain hB8 hB9'
      go_wp2_with fail
      refine (laws_eqExtentS _ n' n' m _ n' n' m _ Z9.sl Y9.sl (by omega) (by omega)).mono ?_
      rintro e w10 ⟨rfl, hB10'⟩
      rw [heqm]
      have hB10 := chain hB9 hB10'
      go_wp2
      go_returns
      exact ⟨rfl, hB10⟩
  · have hif : (if n ≤ 1048576 then (1048576 : Int) - n else -1) = -1 := if_neg hn
    go_enter Try.func12, Try.ntmps12
    go_wp2_with fail
    refine (laws_szPartS a n cap _ hm).mono ?_
    rintro e w0 ⟨rfl, rfl⟩
    rw [hif]
    go_wp2
    go_returns
    exact ⟨rfl, Below.refl _ _⟩

set_option maxRecDepth 100000 in
theorem liftedContent (os : Os) (started : os.Started) (H : Type) (enc : TypeId × Value → H) :
    ReturnsInHanded {} Try.checked os 12 .any (Rows.fnExactContentSpec.pre6 enc Try.prog Try.f12 Rows.fnExactContentRow.domain false) (Rows.fnExactContentSpec.post enc Try.prog Try.f12 false true false false) := by
  refine returnsInHanded_of_change (C := Try.checked) own started (by kernel_rfl) Try.func12
    (ChangeSpec.witness6 (enc := enc) (C := Try.checked) false ⟨#[], #[.slice none 0 0, .slice none 0 0], []⟩ 8 (by kernel_rfl) (by kernel_rfl) (by kernel_rfl) (by kernel_rfl)) ?_
  intro W base args ds gs before hval0 hW _ _
  have hval : ∀ (j : Nat) t v, Try.f12.params[j]? = some t → args[j]? = some v → Value.okWide Try.prog W .any base t v := hval0
  have hW' := hW
  obtain ⟨p, q, hA0, hV, rfl, _, _⟩ := hW
  have hA : DataW.TrodAll enc Try.prog W 0 (fun _ => true) true Try.f12.params.toList args.toList ds p := hA0
  rw [Try.params12] at hA hval
  obtain ⟨v0, vs0, d0, ds0, p0, q0, hargs, rfl, rfl, h0, r0⟩ := trodAll_cons hA
  obtain ⟨v1, vs1, d1, ds1, p1, q1, rfl, rfl, rfl, h1, r1⟩ := trodAll_cons r0
  obtain ⟨rfl, rfl, rfl⟩ := trodAll_nil r1
  obtain rfl : args = #[v0, v1] := by cases args; simp_all
  obtain ⟨rfl, rfl⟩ := trodVars_none hV
  clear hA0 hval0
  simp only [List.append_nil] at hW'
  have hlt : ∀ x ∈ p0, x.block < W.heap.size := fun x hx => by simpa using hW'.lt x (by simp [hx])
  have hlt1 : ∀ x ∈ p1, x.block < W.heap.size := fun x hx => by simpa using hW'.lt x (by simp [hx])
  obtain ⟨a0, len, cap, rfl⟩ := okWide_slice Try.underlying80 (hval 0 80 v0 rfl rfl)
  obtain ⟨a1, len1, cap1, rfl⟩ := okWide_slice Try.underlying81 (hval 1 81 v1 rfl rfl)
  obtain ⟨hmx, l, hl⟩ := open_pts h0
  obtain ⟨hmx1, l1, hl1, hls1⟩ := open_exs h1
  unfold maxLen at hmx hmx1 hls1
  refine (walkContent a0 len cap l a1 len1 cap1 l1 W hl (by omega) hl1 hls1 (by omega)).mono fun e W' ⟨he, hB⟩ => ?_
  subst he
  have hargs : DataW.Trod enc Try.prog W' 0 (fun b => decide (b < W.heap.size)) true 80 (.slice a0 len cap) d0 p0 :=
    Below.trod laidOut (by kernel_rfl) (of_decide_eq_true (by kernel_rfl)) h0 hB hlt
  have hargs1 : DataW.Trod enc Try.prog W' 0 (fun b => decide (b < W.heap.size)) true 81 (.slice a1 len1 cap1) d1 p1 :=
    Below.trod laidOut (by kernel_rfl) (of_decide_eq_true (by kernel_rfl)) h1 hB hlt1
  exact ⟨_, rfl, ⟨_, _, _, [], _, [], hW', trodAll_mk1 (shut_bool Try.underlying4 _), trodAll_cons_mk hargs (trodAll_cons_mk hargs1 trodAll_mk0), rfl, hB.frame _, fun h => by cases h⟩⟩

theorem holdsContent : Rows.FnExactContentSaid :=
  OpenClaim.holds_of_wide 12 Try.f12 rfl rfl rfl rfl rfl rfl rfl ⟨rfl, rfl, rfl, rfl, rfl⟩ rfl rfl rfl rfl rfl (by kernel_rfl) Try.func12 (joined_of (by kernel_rfl) (by kernel_rfl) (by kernel_rfl) (by kernel_rfl) rfl rfl rfl (by kernel_rfl))
    (of_decide_eq_true (by kernel_rfl)) (by unfold Func.isWrapper; first | (rw [if_pos (by decide +kernel)]; kernel_rfl) | (rw [if_neg (by decide +kernel)]; exact ⟨rfl, rfl⟩))
    (fun os started H enc _ => liftedContent os started H enc)
end Go.Proofs.Ytbjejnkeekndbaa
