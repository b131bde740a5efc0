/- At every size and list of extents the program's SpaceOk answers as its model does, and writes nothing into its argument: no condition. -/
import Derived.Test.YtbmkedickkpjjaaRows
import Derived.Test.YtbmkedickkpjjaaJg
import Derived.Test.YtbmkedickkpjjaaXc
import Derived.Test.YtbmkedickkpjjaaOpex
namespace Go.Proofs.Ytbmkedickkpjjaa
open Go.ChangeShapes Go.WideShapes Go.ChangeAt Go.RowKit Go.Deep
open Go.ChangeMaps (open_string shut_string)

theorem walkSpaceOk (size : Int) (a : Option Addr) (n cap : Nat) (l : List Ex) (w : World) (h : ExsAt w a n l) (hs : Strs l) (hm : n ≤ 9223372036854775807) :
    Calls Try.prog 13 #[.int .i64 size, .slice a n cap] w fun e w' => e = .returned (.bool true) ∧ Below w.heap.size w w' := by
  have hbb : (spaceOkB size l != spaceOkB size l) = false := by simp
  have heq := eqExs_refl l
  go_enter Try.func13, Try.ntmps13
  go_wp2_with fail
  refine (laws_szExtentS a n cap l 1048576 _ h hs hm (by omega) (by omega)).mono ?_
  rintro e w0 ⟨⟨r, rfl, hr⟩, hB0⟩
  rcases hr with rfl | ⟨hr0, hr1, hsm⟩
  · go_wp2
    go_returns
    exact ⟨rfl, hB0⟩
  · have hn := hsm.1
    go_wp2_with fail
    refine (laws_toExtentS a n cap l _ (h.below hB0) (by omega)).mono ?_
    rintro e w1 ⟨rfl, o1, hB1⟩
    replace hB1 := chain hB0 hB1
    go_wp2_with fail
    refine (spec_SpaceOk size _ n n l _ o1.sl hs (by omega)).mono ?_
    rintro e w2 ⟨rfl, rfl⟩
    go_wp2_with fail
    refine (laws_toExtentS a n cap l _ (h.below hB1) (by omega)).mono ?_
    rintro e w3 ⟨rfl, o3, hB3⟩
    replace hB3 := chain hB1 hB3
    go_wp2_with fail
    refine (impl_SpaceOk size _ n n l _ o3.sl hs (by omega)).mono ?_
    rintro e w4 ⟨rfl, hB4⟩
    have o4 := o3.below hB4
    replace hB4 := chain hB3 hB4
    go_wp2_with fail
    refine (laws_toExtentS a n cap l _ (h.below hB4) (by omega)).mono ?_
    rintro e w5 ⟨rfl, o5, hB5⟩
    have o6 := o4.below hB5
    replace hB5 := chain hB4 hB5
    go_wp2_with fail
    refine (laws_eqExtentS _ n n l _ n n l _ o6.sl o5.sl (by omega) (by omega)).mono ?_
    rintro e w6 ⟨rfl, hB6⟩
    replace hB6 := chain hB5 hB6
    rw [heq]
    go_wp2
    go_returns
    exact ⟨rfl, hB6⟩

set_option maxRecDepth 100000 in
theorem liftedSpaceOk (os : Os) (started : os.Started) (H : Type) (enc : TypeId × Value → H) :
    ReturnsInHanded {} Try.checked os 13 .any (Rows.fnExactSpaceOkSpec.pre6 enc Try.prog Try.f13 Rows.fnExactSpaceOkRow.domain false) (Rows.fnExactSpaceOkSpec.post enc Try.prog Try.f13 false true false false) := by
  refine returnsInHanded_of_change (C := Try.checked) own started (by kernel_rfl) Try.func13
    (ChangeSpec.witness6 (enc := enc) (C := Try.checked) false ⟨#[], #[.int .i64 0, .slice none 0 0], []⟩ 8 (by kernel_rfl) (by kernel_rfl) (by kernel_rfl) (by kernel_rfl)) ?_
  intro W base args ds gs before hval0 hW _ _
  have hval : ∀ (j : Nat) t v, Try.f13.params[j]? = some t → args[j]? = some v → Value.okWide Try.prog W .any base t v := hval0
  have hW' := hW
  obtain ⟨p, q, hA0, hV, rfl, _, _⟩ := hW
  have hA : DataW.TrodAll enc Try.prog W 0 (fun _ => true) true Try.f13.params.toList args.toList ds p := hA0
  rw [Try.params13] at hA hval
  obtain ⟨v0, vs0, d0, ds0, p0, q0, hargs, rfl, rfl, h0, r0⟩ := trodAll_cons hA
  obtain ⟨v1, vs1, d1, ds1, p1, q1, rfl, rfl, rfl, h1, r1⟩ := trodAll_cons r0
  obtain ⟨rfl, rfl, rfl⟩ := trodAll_nil r1
  obtain rfl : args = #[v0, v1] := by cases args; simp_all
  obtain ⟨rfl, rfl⟩ := trodVars_none hV
  clear hA0 hval0
  obtain ⟨x0, rfl, rfl, rfl, wx0⟩ := open_int Try.underlying2 (hval 0 2 v0 rfl rfl) h0
  simp only [List.append_nil, List.nil_append] at hW'
  have hlt : ∀ x ∈ p1, x.block < W.heap.size := fun x hx => by simpa using hW'.lt x hx
  obtain ⟨a0, len, cap, rfl⟩ := okWide_slice Try.underlying82 (hval 1 82 v1 rfl rfl)
  obtain ⟨hmx, l, hl, hls⟩ := open_exs h1
  unfold maxLen at hmx hls
  refine (walkSpaceOk x0 a0 len cap l W hl hls (by omega)).mono fun e W' ⟨he, hB⟩ => ?_
  subst he
  have hargs : DataW.Trod enc Try.prog W' 0 (fun b => decide (b < W.heap.size)) true 82 (.slice a0 len cap) d1 p1 :=
    Below.trod laidOut (by kernel_rfl) (of_decide_eq_true (by kernel_rfl)) h1 hB hlt
  exact ⟨_, rfl, ⟨_, _, _, [], _, [], hW', trodAll_mk1 (shut_bool Try.underlying4 _), trodAll_cons_mk (shut_int Try.underlying2 wx0) (trodAll_cons_mk hargs trodAll_mk0), rfl, hB.frame _, fun h => by cases h⟩⟩

theorem holdsSpaceOk : Rows.FnExactSpaceOkSaid :=
  OpenClaim.holds_of_wide 13 Try.f13 rfl rfl rfl rfl rfl rfl rfl ⟨rfl, rfl, rfl, rfl, rfl⟩ rfl rfl rfl rfl rfl (by kernel_rfl) Try.func13 (joined_of (by kernel_rfl) (by kernel_rfl) (by kernel_rfl) (by kernel_rfl) rfl rfl rfl (by kernel_rfl))
    (of_decide_eq_true (by kernel_rfl)) (by unfold Func.isWrapper; first | (rw [if_pos (by decide +kernel)]; kernel_rfl) | (rw [if_neg (by decide +kernel)]; exact ⟨rfl, rfl⟩))
    (fun os started H enc _ => liftedSpaceOk os started H enc)
end Go.Proofs.Ytbmkedickkpjjaa
