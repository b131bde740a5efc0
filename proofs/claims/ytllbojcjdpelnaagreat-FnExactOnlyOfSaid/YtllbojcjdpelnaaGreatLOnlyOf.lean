/- At every pool and name the program's OnlyOf answers as its model does, and writes nothing into its arguments: no condition. -/
import Derived.Test.YtllbojcjdpelnaaGreatRows
import Derived.Test.YtllbojcjdpelnaaGreatKa
import Derived.Test.YtllbojcjdpelnaaGreatKu
import Derived.Test.YtllbojcjdpelnaaGreatKx
import Derived.Lib.SmallJoins
namespace Go.Proofs.YtllbojcjdpelnaaGreat
open Go.ChangeShapes Go.WideShapes Go.ChangeAt Go.RowKit Go.Deep Go.Joins
open Go.ChangeMaps (open_string shut_string)

set_option maxHeartbeats 4000000 in
set_option maxRecDepth 100000 in
theorem walkOnlyOf (v : Value) (p : Po) (vol : ByteArray) (w : World) (h : PoolAt 0 w v p) (hb : BigP p) (hvol : vol.size ≤ 9223372036854775807) :
    Calls Tryz.prog 9 #[v, .string vol] w fun e w' => e = .returned (.bool true) ∧ Below w.heap.size w w' := by
  have hb1 : ((onlyO p vol).1 != (onlyO p vol).1) = false := by simp
  have hb2 : ((onlyO p vol).2 != (onlyO p vol).2) = false := by simp
  obtain ⟨ea, en, ec, va, vn, vc, ra, rn, rc, la, ln, lc, rfl⟩ := h.cells
  have C := (Blk.new w #[.int .i64 p.size, .int .i64 p.next, .slice ea en ec, .slice va vn vc, .slice ra rn rc, .slice la ln lc] 26)
  have hB0 : Below w.heap.size w (w.alloc (.cells #[.int .i64 p.size, .int .i64 p.next, .slice ea en ec, .slice va vn vc, .slice ra rn rc, .slice la ln lc] 26)) := by go_grown
  by_cases gvol : 1048576 < vol.size
  · go_enter Tryz.func9, Tryz.ntmps9
    go_wp2
    go_returns
    exact ⟨rfl, hB0⟩
  go_enter Tryz.func9, Tryz.ntmps9
  go_wp2_with fail
  generalize w.alloc (.cells #[.int .i64 p.size, .int .i64 p.next, .slice ea en ec, .slice va vn vc, .slice ra rn rc, .slice la ln lc] 26) = W0 at *
  refine (laws_szPool 0 _ p _ (h.below hB0) hb).mono ?_
  rintro e w1 ⟨⟨r, rfl, hr⟩, hB1⟩
  have C1 := C.below hB1
  replace hB1 := chain hB0 hB1
  clear C hB0
  rcases hr with rfl | ⟨r0, r1, hs⟩
  · go_wp2
    go_returns
    exact ⟨rfl, hB1⟩
  · have hd := hs.dim
    obtain ⟨d0, d1, d2, d3, d4, d5⟩ := C1.six
    go_wp2_with fail
    refine (laws_toPool 0 _ p _ (h.below hB1) hs).mono ?_
    rintro e w2 ⟨⟨v2, rfl, P2⟩, hB2⟩
    have C2 := C1.below hB2
    replace hB2 := chain hB1 hB2
    clear d0 d1 d2 d3 d4 d5 C1 hB1
    go_wp2_with fail
    refine (spec_OnlyOf _ (by omega) v2 p vol _ P2 hd).mono ?_
    rintro e w3 ⟨rfl, hB3⟩
    have C3 := C2.below hB3
    replace hB3 := chain hB2 hB3
    clear C2 hB2 P2
    obtain ⟨d0, d1, d2, d3, d4, d5⟩ := C3.six
    go_wp2_with fail
    refine (laws_toPool 0 _ p _ (h.below hB3) hs).mono ?_
    rintro e w4 ⟨⟨v4, rfl, P4⟩, hB4⟩
    have C4 := C3.below hB4
    replace hB4 := chain hB3 hB4
    clear d0 d1 d2 d3 d4 d5 C3 hB3
    obtain ⟨ea4, en4, ec4, va4, vn4, vc4, ra4, rn4, rc4, la4, ln4, lc4, rfl⟩ := P4.cells
    have X4 := (Blk.new w4 #[.int .i64 p.size, .int .i64 p.next, .slice ea4 en4 ec4, .slice va4 vn4 vc4, .slice ra4 rn4 rc4, .slice la4 ln4 lc4] 33)
    have hB4' : Below w4.heap.size w4 (w4.alloc (.cells #[.int .i64 p.size, .int .i64 p.next, .slice ea4 en4 ec4, .slice va4 vn4 vc4, .slice ra4 rn4 rc4, .slice la4 ln4 lc4] 33)) := by go_grown
    go_wp2_with fail
    generalize w4.alloc (.cells #[.int .i64 p.size, .int .i64 p.next, .slice ea4 en4 ec4, .slice va4 vn4 vc4, .slice ra4 rn4 rc4, .slice la4 ln4 lc4] 33) = W4 at *
    have P5 := P4.below hB4'
    have C5 := C4.below hB4'
    have hB5 := chain hB4 hB4'
    clear C4 hB4 hB4' P4
    refine (impl_OnlyOf _ (by omega) _ p vol _ P5 hd (by omega)).mono ?_
    rintro e w5 ⟨rfl, hB6⟩
    have P6 := P5.below hB6
    have C6 := (C5.below hB6).drew
    have X6 := (X4.below hB6).drew
    replace hB6 : Below w.heap.size w w5.drew := (chain hB5 hB6).drew
    clear C5 X4 P5 hB5
    have P6' := P6.below (Below.refl _ _).drew
    obtain ⟨d0, d1, d2, d3, d4, d5⟩ := C6.six
    obtain ⟨x0, x1, x2, x3, x4, x5⟩ := X6.six
    go_wp2_with fail
    go_region_with (first
      | (go_at_call 15; refine (laws_eqPool _ _ _ _ p _ (P6'.below hB7) P7 hs).mono ?_; rintro e w8 ⟨rfl, hB8⟩)
      | (go_at_call 12; refine (laws_toPool 0 _ p _ (h.below hB6) hs).mono ?_; rintro e w7 ⟨⟨v7, rfl, P7⟩, hB7⟩; obtain ⟨ea7, en7, ec7, va7, vn7, vc7, ra7, rn7, rc7, la7, ln7, lc7, rfl⟩ := P7.cells; obtain ⟨y0, y1, y2, y3, y4, y5⟩ := (X6.below hB7).six))
    all_goals go_wp2
    all_goals go_returns
    all_goals exact ⟨rfl, chain (chain hB6 hB7) hB8⟩

set_option maxRecDepth 100000 in
theorem liftedOnlyOf (os : Os) (started : os.Started) (H : Type) (enc : TypeId × Value → H) :
    ReturnsInHanded {} Tryz.checked os 9 .any (Rows.fnExactOnlyOfSpec.pre6 enc Tryz.prog Tryz.f9 Rows.fnExactOnlyOfRow.domain false) (Rows.fnExactOnlyOfSpec.post enc Tryz.prog Tryz.f9 false true false false) := by
  refine returnsInHanded_of_change (C := Tryz.checked) own started (by kernel_rfl) Tryz.func9
    (ChangeSpec.witness6 (enc := enc) (C := Tryz.checked) false ⟨#[], #[.agg #[.int .i64 0, .int .i64 0, .slice none 0 0, .slice none 0 0, .slice none 0 0, .slice none 0 0], .string .empty], []⟩ 8 (by kernel_rfl) (by kernel_rfl) (by kernel_rfl) (by kernel_rfl)) ?_
  intro W base args ds gs before hval0 hW _ _
  have hval : ∀ (j : Nat) t v, Tryz.f9.params[j]? = some t → args[j]? = some v → Value.okWide Tryz.prog W .any base t v := hval0
  have hW' := hW
  obtain ⟨p, q, hA0, hV, rfl, _, _⟩ := hW
  have hA : DataW.TrodAll enc Tryz.prog W 0 (fun _ => true) true Tryz.f9.params.toList args.toList ds p := hA0
  rw [Tryz.params9] at hA hval
  obtain ⟨v0, vs0, d0, ds0, p0, q0, hargs, rfl, rfl, h0, r0⟩ := trodAll_cons hA
  obtain ⟨v1, vs1, d1, ds1, p1, q1, rfl, rfl, rfl, h1, r1⟩ := trodAll_cons r0
  obtain ⟨rfl, rfl, rfl⟩ := trodAll_nil r1
  obtain rfl : args = #[v0, v1] := by cases args; simp_all
  obtain ⟨rfl, rfl⟩ := trodVars_none hV
  clear hA0 hval0
  obtain ⟨vol, rfl, rfl, rfl, wx1⟩ := open_string Tryz.underlying9 (hval 1 9 v1 rfl rfl) h1
  have wy1 := wx1
  unfold maxLen at wy1
  simp only [List.append_nil] at hW'
  have hlt : ∀ x ∈ p0, x.block < W.heap.size := fun x hx => by simpa using hW'.lt x hx
  obtain ⟨q, hP, hb⟩ := open_pool (hval 0 26 v0 rfl rfl) h0
  refine (walkOnlyOf v0 q vol W hP hb (by omega)).mono fun e W' ⟨he, hB⟩ => ?_
  subst he
  have hargs : DataW.Trod enc Tryz.prog W' 0 (fun b => decide (b < W.heap.size)) true 26 v0 d0 p0 :=
    Below.trod laidOut (by kernel_rfl) (of_decide_eq_true (by kernel_rfl)) h0 hB hlt
  exact ⟨_, rfl, ⟨_, _, _, [], _, [], hW', trodAll_mk1 (shut_bool Tryz.underlying4 _), trodAll_cons_mk hargs (trodAll_cons_mk (shut_string Tryz.underlying9 wx1) trodAll_mk0), rfl, hB.frame _, fun h => by cases h⟩⟩

theorem holdsOnlyOf : Rows.FnExactOnlyOfSaid :=
  OpenClaim.holds_of_wide 9 Tryz.f9 rfl rfl rfl rfl rfl rfl rfl ⟨rfl, rfl, rfl, rfl, rfl⟩ rfl rfl rfl rfl rfl (by kernel_rfl) Tryz.func9 (joined_of (by kernel_rfl) (by kernel_rfl) (by kernel_rfl) (by kernel_rfl) rfl rfl rfl (by kernel_rfl))
    (of_decide_eq_true (by kernel_rfl)) (by unfold Func.isWrapper; first | (rw [if_pos (by decide +kernel)]; kernel_rfl) | (rw [if_neg (by decide +kernel)]; exact ⟨rfl, rfl⟩))
    (fun os started H enc _ => liftedOnlyOf os started H enc)
end Go.Proofs.YtllbojcjdpelnaaGreat
