/- At every disk and name the program's ReadFile answers as its model does, and writes nothing into its argument: no condition. -/
import Derived.Test.YtpobgjkmcmkkeaaRows
import Derived.Test.YtpobgjkmcmkkeaaKa
import Derived.Test.YtpobgjkmcmkkeaaKr
import Derived.Lib.SmallJoins
namespace Go.Proofs.Ytpobgjkmcmkkeaa
open Go.ChangeShapes Go.WideShapes Go.ChangeAt Go.RowKit Go.Deep Go.Joins
open Go.ChangeMaps (open_string shut_string)

set_option maxHeartbeats 4000000 in
set_option maxRecDepth 100000 in
theorem walkReadFile (v : Value) (d : Dk) (nm : ByteArray) (w : World) (h : DiskL w v d) (hb : BigD d) (hnm : nm.size ≤ 9223372036854775807) :
    Calls Try.prog 10 #[v, .string nm] w fun e w' => e = .returned (.bool true) ∧ Below w.heap.size w w' := by
  have hb1 : (!((rdD d nm).1.toList == (rdD d nm).1.toList)) = false := by simp
  have hb2 : ((rdD d nm).2 != (rdD d nm).2) = false := by simp
  have hee := eqDk_refl d
  obtain ⟨la, ln, lc, sa, sn, sc, oa, on, oc, rfl⟩ := h.cells
  have C := (Blk.new w #[.slice la ln lc, .slice sa sn sc, .slice oa on oc] 50)
  have hB0 : Below w.heap.size w (w.alloc (.cells #[.slice la ln lc, .slice sa sn sc, .slice oa on oc] 50)) := by go_grown
  by_cases gnm : 1048576 < nm.size
  · go_enter Try.func10, Try.ntmps10
    go_wp2
    go_returns
    exact ⟨rfl, hB0⟩
  go_enter Try.func10, Try.ntmps10
  go_wp2_with fail
  generalize w.alloc (.cells #[.slice la ln lc, .slice sa sn sc, .slice oa on oc] 50) = W0 at *
  refine (laws_szDisk _ d _ (h.below hB0) hb).mono ?_
  rintro e w1 ⟨⟨r, rfl, hr⟩, hB1⟩
  have C1 := C.below hB1
  replace hB1 := chain hB0 hB1
  clear C hB0
  rcases hr with rfl | ⟨r0, r1, hs⟩
  · go_wp2
    go_returns
    exact ⟨rfl, hB1⟩
  · have hd := hs.dim
    have hl : d.live.length ≤ 4194304 ∧ d.safe.length ≤ 4194304 ∧ d.ops.length ≤ 4194304 := by have := hs.dims; omega
    obtain ⟨d0, d1, d2⟩ := C1.three
    go_wp2_with fail
    refine (laws_toDisk _ d _ (h.below hB1) hs).mono ?_
    rintro e w2 ⟨⟨v2, rfl, P2⟩, hB2⟩
    have C2 := C1.below hB2
    replace hB2 := chain hB1 hB2
    clear d0 d1 d2 C1 hB1
    go_wp2_with fail
    refine (spec_ReadFile v2 d nm _ P2.at hd).mono ?_
    rintro e w3 ⟨rfl, hB3⟩
    have C3 := C2.below hB3
    replace hB3 := chain hB2 hB3
    clear C2 hB2 P2
    obtain ⟨d0, d1, d2⟩ := C3.three
    go_wp2_with fail
    refine (laws_toDisk _ d _ (h.below hB3) hs).mono ?_
    rintro e w4 ⟨⟨v4, rfl, P4⟩, hB4⟩
    have C4 := C3.below hB4
    replace hB4 := chain hB3 hB4
    clear d0 d1 d2 C3 hB3
    obtain ⟨la4, ln4, lc4, sa4, sn4, sc4, oa4, on4, oc4, rfl⟩ := P4.at.l.cells
    have X4 := (Blk.new w4 #[.slice la4 ln4 lc4, .slice sa4 sn4 sc4, .slice oa4 on4 oc4] 27)
    have hB4' : Below w4.heap.size w4 (w4.alloc (.cells #[.slice la4 ln4 lc4, .slice sa4 sn4 sc4, .slice oa4 on4 oc4] 27)) := by go_grown
    go_wp2_with fail
    generalize w4.alloc (.cells #[.slice la4 ln4 lc4, .slice sa4 sn4 sc4, .slice oa4 on4 oc4] 27) = W4 at *
    have P5 := P4.below hB4'
    have C5 := C4.below hB4'
    have hB5 := chain hB4 hB4'
    clear C4 hB4 hB4' P4
    refine (impl_ReadFile _ d nm _ P5.at hd).mono ?_
    rintro e w5 ⟨rfl, hB6⟩
    have P6 := P5.below hB6
    have C6 := (C5.below hB6).drew
    have X6 := (X4.below hB6).drew
    replace hB6 : Below w.heap.size w w5.drew := (chain hB5 hB6).drew
    clear C5 X4 P5 hB5
    have P6' := P6.below (Below.refl _ _).drew
    obtain ⟨d0, d1, d2⟩ := C6.three
    obtain ⟨x0, x1, x2⟩ := X6.three
    go_wp2_with fail
    go_region_with (first
      | (go_at_call 28; refine (laws_eqDisk _ _ d d _ (P6'.below hB7).at.l P7.at.l hl hl).mono ?_; rintro e w8 ⟨rfl, hB8⟩; rw [hee])
      | (go_at_call 27; refine (laws_toDisk _ d _ (h.below hB6) hs).mono ?_; rintro e w7 ⟨⟨v7, rfl, P7⟩, hB7⟩; obtain ⟨la7, ln7, lc7, sa7, sn7, sc7, oa7, on7, oc7, rfl⟩ := P7.at.l.cells; obtain ⟨y0, y1, y2⟩ := (X6.below hB7).three))
    all_goals go_wp2
    all_goals go_returns
    all_goals exact ⟨rfl, chain (chain hB6 hB7) hB8⟩

set_option maxRecDepth 100000 in
theorem liftedReadFile (os : Os) (started : os.Started) (H : Type) (enc : TypeId × Value → H) :
    ReturnsInHanded {} Try.checked os 10 .any (Rows.fnExactReadFileSpec.pre6 enc Try.prog Try.f10 Rows.fnExactReadFileRow.domain false) (Rows.fnExactReadFileSpec.post enc Try.prog Try.f10 false true false false) := by
  refine returnsInHanded_of_change (C := Try.checked) own started (by kernel_rfl) Try.func10
    (ChangeSpec.witness6 (enc := enc) (C := Try.checked) false ⟨#[], #[.agg #[.slice none 0 0, .slice none 0 0, .slice none 0 0], .string .empty], []⟩ 8 (by kernel_rfl) (by kernel_rfl) (by kernel_rfl) (by kernel_rfl)) ?_
  intro W base args ds gs before hval0 hW _ _
  have hval : ∀ (j : Nat) t v, Try.f10.params[j]? = some t → args[j]? = some v → Value.okWide Try.prog W .any base t v := hval0
  have hW' := hW
  obtain ⟨p, q, hA0, hV, rfl, _, _⟩ := hW
  have hA : DataW.TrodAll enc Try.prog W 0 (fun _ => true) true Try.f10.params.toList args.toList ds p := hA0
  rw [Try.params10] at hA hval
  obtain ⟨v0, vs0, d0, ds0, p0, q0, hargs, rfl, rfl, h0, r0⟩ := trodAll_cons hA
  obtain ⟨v1, vs1, d1, ds1, p1, q1, rfl, rfl, rfl, h1, r1⟩ := trodAll_cons r0
  obtain ⟨rfl, rfl, rfl⟩ := trodAll_nil r1
  obtain rfl : args = #[v0, v1] := by cases args; simp_all
  obtain ⟨rfl, rfl⟩ := trodVars_none hV
  clear hA0 hval0
  obtain ⟨nm, rfl, rfl, rfl, wx1⟩ := open_string Try.underlying9 (hval 1 9 v1 rfl rfl) h1
  have wy1 := wx1
  unfold maxLen at wy1
  simp only [List.append_nil] at hW'
  have hlt : ∀ x ∈ p0, x.block < W.heap.size := fun x hx => by simpa using hW'.lt x (by simp [hx])
  obtain ⟨q, hP, hb⟩ := open_disk (hval 0 50 v0 rfl rfl) h0
  refine (walkReadFile v0 q nm W hP hb (by omega)).mono fun e W' ⟨he, hB⟩ => ?_
  subst he
  have hargs : DataW.Trod enc Try.prog W' 0 (fun b => decide (b < W.heap.size)) true 50 v0 d0 p0 :=
    Below.trod laidOut (by kernel_rfl) (of_decide_eq_true (by kernel_rfl)) h0 hB hlt
  exact ⟨_, rfl, ⟨_, _, _, [], _, [], hW', trodAll_mk1 (shut_bool Try.underlying4 _), trodAll_cons_mk hargs (trodAll_cons_mk (shut_string Try.underlying9 wx1) trodAll_mk0), rfl, hB.frame _, fun h => by cases h⟩⟩

theorem holdsReadFile : Rows.FnExactReadFileSaid :=
  OpenClaim.holds_of_wide 10 Try.f10 rfl rfl rfl rfl rfl rfl rfl ⟨rfl, rfl, rfl, rfl, rfl⟩ rfl rfl rfl rfl rfl (by kernel_rfl) Try.func10 (joined_of (by kernel_rfl) (by kernel_rfl) (by kernel_rfl) (by kernel_rfl) rfl rfl rfl (by kernel_rfl))
    (of_decide_eq_true (by kernel_rfl)) (by unfold Func.isWrapper; first | (rw [if_pos (by decide +kernel)]; kernel_rfl) | (rw [if_neg (by decide +kernel)]; exact ⟨rfl, rfl⟩))
    (fun os started H enc _ => liftedReadFile os started H enc)
end Go.Proofs.Ytpobgjkmcmkkeaa
