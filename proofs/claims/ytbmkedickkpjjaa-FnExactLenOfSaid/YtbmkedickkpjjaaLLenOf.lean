/- At every list of parts the program's LenOf answers as its model does, and writes nothing into its argument: no condition. -/
import Derived.Test.YtbmkedickkpjjaaRows
import Derived.Test.YtbmkedickkpjjaaJg
import Derived.Test.YtbmkedickkpjjaaPe
import Derived.Test.YtbmkedickkpjjaaOpen
namespace Go.Proofs.Ytbmkedickkpjjaa
open Go.ChangeShapes Go.WideShapes Go.ChangeAt Go.RowKit Go.Deep

theorem walkLenOf (a : Option Addr) (n cap : Nat) (l : List Pt) (w : World) (h : PtsAt w a n l) (hm : n ≤ 9223372036854775807) :
    Calls Try.prog 19 #[.slice a n cap] w fun e w' => e = .returned (.bool true) ∧ Below w.heap.size w w' := by
  by_cases hn : n ≤ 1048576
  · have hif : (if n ≤ 1048576 then (1048576 : Int) - n else -1) = 1048576 - n := if_pos hn
    have hbb : (lenB l != lenB l) = false := by simp
    have heq := eqPts_refl l
    go_enter Try.func19, Try.ntmps19
    go_wp2_with fail
    refine (laws_szPartS a n cap _ hm).mono ?_
    rintro e w1 ⟨rfl, rfl⟩
    rw [hif]
    go_wp2_with fail
    refine (laws_toPartS a n cap l _ h (by omega)).mono ?_
    rintro e w1 ⟨rfl, o1, hB1⟩
    go_wp2_with fail
    refine (spec_LenOf _ n n l _ o1.sl (by omega)).mono ?_
    rintro e w2 ⟨rfl, hB2⟩
    replace hB2 := chain hB1 hB2
    go_wp2_with fail
    refine (laws_toPartS a n cap l _ (h.below hB2) (by omega)).mono ?_
    rintro e w3 ⟨rfl, o3, hB3⟩
    replace hB3 := chain hB2 hB3
    go_wp2_with fail
    refine (impl_LenOf _ n n l _ o3.sl (by omega)).mono ?_
    rintro e w4 ⟨rfl, hB4⟩
    have o4 := o3.below hB4
    replace hB4 := chain hB3 hB4
    go_wp2_with fail
    refine (laws_toPartS a n cap l _ (h.below hB4) (by omega)).mono ?_
    rintro e w5 ⟨rfl, o5, hB5⟩
    have o6 := o4.below hB5
    replace hB5 := chain hB4 hB5
    go_wp2_with fail
    refine (laws_eqPartS _ n n l _ n n l _ o6.sl o5.sl (by omega) (by omega)).mono ?_
    rintro e w6 ⟨rfl, hB6⟩
    replace hB6 := chain hB5 hB6
    rw [heq]
    go_wp2
    go_returns
    exact ⟨rfl, hB6⟩
  · have hif : (if n ≤ 1048576 then (1048576 : Int) - n else -1) = -1 := if_neg hn
    go_enter Try.func19, Try.ntmps19
    go_wp2_with fail
    refine (laws_szPartS a n cap _ hm).mono ?_
    rintro e w1 ⟨rfl, rfl⟩
    rw [hif]
    go_wp2
    go_returns
    exact ⟨rfl, Below.refl _ _⟩

set_option maxRecDepth 100000 in
theorem liftedLenOf (os : Os) (started : os.Started) (H : Type) (enc : TypeId × Value → H) :
    ReturnsInHanded {} Try.checked os 19 .any (Rows.fnExactLenOfSpec.pre6 enc Try.prog Try.f19 Rows.fnExactLenOfRow.domain false) (Rows.fnExactLenOfSpec.post enc Try.prog Try.f19 false true false false) := by
  refine returnsInHanded_of_change (C := Try.checked) own started (by kernel_rfl) Try.func19
    (ChangeSpec.witness6 (enc := enc) (C := Try.checked) false ⟨#[], #[.slice none 0 0], []⟩ 8 (by kernel_rfl) (by kernel_rfl) (by kernel_rfl) (by kernel_rfl)) ?_
  intro W base args ds gs before hval0 hW _ _
  have hval : ∀ (j : Nat) t v, Try.f19.params[j]? = some t → args[j]? = some v → Value.okWide Try.prog W .any base t v := hval0
  have hW' := hW
  obtain ⟨p, q, hA0, hV, rfl, _, _⟩ := hW
  have hA : DataW.TrodAll enc Try.prog W 0 (fun _ => true) true Try.f19.params.toList args.toList ds p := hA0
  rw [Try.params19] at hA hval
  obtain ⟨v0, d0, rfl, rfl, h0⟩ := trodAll_one hA
  obtain ⟨rfl, rfl⟩ := trodVars_none hV
  clear hA0 hval0
  simp only [List.append_nil] at hW'
  have hlt : ∀ x ∈ p, x.block < W.heap.size := fun x hx => by simpa using hW'.lt x hx
  obtain ⟨a0, len, cap, rfl⟩ := okWide_slice Try.underlying90 (hval 0 90 v0 rfl rfl)
  obtain ⟨hmx, l, hl⟩ := open_pts h0
  unfold maxLen at hmx
  refine (walkLenOf a0 len cap l W hl (by omega)).mono fun e W' ⟨he, hB⟩ => ?_
  subst he
  have hargs : DataW.Trod enc Try.prog W' 0 (fun b => decide (b < W.heap.size)) true 90 (.slice a0 len cap) d0 p :=
    Below.trod laidOut (by kernel_rfl) (of_decide_eq_true (by kernel_rfl)) h0 hB hlt
  exact ⟨_, rfl, ⟨_, _, _, [], _, [], hW', trodAll_mk1 (shut_bool Try.underlying4 _), trodAll_mk1 hargs, rfl, hB.frame _, fun h => by cases h⟩⟩

theorem holdsLenOf : Rows.FnExactLenOfSaid :=
  OpenClaim.holds_of_wide 19 Try.f19 rfl rfl rfl rfl rfl rfl rfl ⟨rfl, rfl, rfl, rfl, rfl⟩ rfl rfl rfl rfl rfl (by kernel_rfl) Try.func19 (joined_of (by kernel_rfl) (by kernel_rfl) (by kernel_rfl) (by kernel_rfl) rfl rfl rfl (by kernel_rfl))
    (of_decide_eq_true (by kernel_rfl)) (by unfold Func.isWrapper; first | (rw [if_pos (by decide +kernel)]; kernel_rfl) | (rw [if_neg (by decide +kernel)]; exact ⟨rfl, rfl⟩))
    (fun os started H enc _ => liftedLenOf os started H enc)
end Go.Proofs.Ytbmkedickkpjjaa
