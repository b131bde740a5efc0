/- At every pool and address the program's OwnersOf answers as its model does, writes nothing into its argument and owns what it answers: no condition. -/
import Derived.Test.YtllbojcjdpelnaaGreatRows
import Derived.Test.YtllbojcjdpelnaaGreatKa
import Derived.Test.YtllbojcjdpelnaaGreatKu
import Derived.Test.YtllbojcjdpelnaaGreatKw
import Derived.Lib.SmallJoins
namespace Go.Proofs.YtllbojcjdpelnaaGreat
open Go.ChangeShapes Go.WideShapes Go.ChangeAt Go.RowKit Go.Deep Go.Joins
open Go.ChangeMaps (open_string shut_string)

set_option maxHeartbeats 16000000 in
set_option maxRecDepth 100000 in
theorem walkOwnersOf (v : Value) (p : Po) (addr : Int) (w : World) (h : PoolAt 0 w v p) (hb : BigP p)  :
    Calls Tryz.prog 8 #[v, .int .i64 addr] w fun e w' => e = .returned (.bool true) ∧ Below w.heap.size w w' := by
  obtain ⟨ea, en, ec, va, vn, vc, ra, rn, rc, la, ln, lc, rfl⟩ := h.cells
  have C := (Blk.new w #[.int .i64 p.size, .int .i64 p.next, .slice ea en ec, .slice va vn vc, .slice ra rn rc, .slice la ln lc] 26)
  have hB0 : Below w.heap.size w (w.alloc (.cells #[.int .i64 p.size, .int .i64 p.next, .slice ea en ec, .slice va vn vc, .slice ra rn rc, .slice la ln lc] 26)) := by go_grown
  go_enter Tryz.func8, Tryz.ntmps8
  go_wp2_with fail
  generalize w.alloc (.cells #[.int .i64 p.size, .int .i64 p.next, .slice ea en ec, .slice va vn vc, .slice ra rn rc, .slice la ln lc] 26) = W0 at *
  refine (laws_szPool 0 _ p _ (h.below hB0) hb).mono ?_
  rintro e w1 ⟨⟨r, rfl, hr⟩, hB1⟩
  have C1 := C.below hB1
  replace hB1 := chain hB0 hB1
  clear C hB0
  rcases hr with rfl | ⟨r0, r1, hs⟩
  · go_wp2
    go_returns
    exact ⟨rfl, hB1⟩
  · have hd := hs.dim
    obtain ⟨d0, d1, d2, d3, d4, d5⟩ := C1.six
    go_wp2_with fail
    refine (laws_toPool 0 _ p _ (h.below hB1) hs).mono ?_
    rintro e w2 ⟨⟨v2, rfl, P2⟩, hB2⟩
    have C2 := C1.below hB2
    replace hB2 := chain hB1 hB2
    clear d0 d1 d2 d3 d4 d5 C1 hB1
    go_wp2_with fail
    refine (spec_OwnersOf _ (by omega) v2 p addr _ P2 hd).mono ?_
    rintro e w3 ⟨⟨a3, n3, cap3, rfl, hn3, S3⟩, hB3⟩
    have C3 := C2.below hB3
    have S3b := S3.block
    replace hB3 := chain hB2 hB3
    clear C2 hB2 P2
    have heq := eqCts_refl (ownersL p addr)
    obtain ⟨d0, d1, d2, d3, d4, d5⟩ := C3.six
    go_wp2_with fail
    refine (laws_toPool 0 _ p _ (h.below hB3) hs).mono ?_
    rintro e w4 ⟨⟨v4, rfl, P4⟩, hB4⟩
    have C4 := C3.below hB4
    have S4 := S3.below hB4
    have hz4 := hB4.size
    replace hB4 := chain hB3 hB4
    clear d0 d1 d2 d3 d4 d5 S3
    obtain ⟨ea4, en4, ec4, va4, vn4, vc4, ra4, rn4, rc4, la4, ln4, lc4, rfl⟩ := P4.cells
    have X4 := (Blk.new w4 #[.int .i64 p.size, .int .i64 p.next, .slice ea4 en4 ec4, .slice va4 vn4 vc4, .slice ra4 rn4 rc4, .slice la4 ln4 lc4] 33)
    have hB4' : Below w4.heap.size w4 (w4.alloc (.cells #[.int .i64 p.size, .int .i64 p.next, .slice ea4 en4 ec4, .slice va4 vn4 vc4, .slice ra4 rn4 rc4, .slice la4 ln4 lc4] 33)) := by go_grown
    have hz5 : (w4.alloc (.cells #[.int .i64 p.size, .int .i64 p.next, .slice ea4 en4 ec4, .slice va4 vn4 vc4, .slice ra4 rn4 rc4, .slice la4 ln4 lc4] 33)).heap.size = w4.heap.size + 1 := by simp
    go_wp2_with fail
    generalize w4.alloc (.cells #[.int .i64 p.size, .int .i64 p.next, .slice ea4 en4 ec4, .slice va4 vn4 vc4, .slice ra4 rn4 rc4, .slice la4 ln4 lc4] 33) = W4 at *
    have P5 := P4.below hB4'
    refine (impl_OwnersOf _ _ p addr _ P5 hd).mono ?_
    rintro e w5 ⟨⟨a5, n5, cap5, rfl, hn5, G5⟩, hB5⟩
    have G5b := G5.block
    have X5 := X4.below hB5
    have hE5 : Below w4.heap.size w4 w5 := chain hB4' hB5
    have C5 := C4.below hE5
    have S5 := S4.below hE5
    have hB5' := chain hB4 hE5
    clear P5 X4 C4 S4 hB4' hB5
    go_wp2_with fail
    refine (laws_eqCountedS a5 n5 cap5 _ a3 n3 cap3 _ _ G5.sl S5.sl (by omega) (by omega)).mono ?_
    rintro e w6 ⟨rfl, hB6⟩
    rw [heq]
    have G6 := (G5.below hB6).below (Below.refl _ _).drew
    have S6 := (S5.below hB6).below (Below.refl _ _).drew
    have C6 := (C5.below hB6).drew
    have X6 := (X5.below hB6).drew
    have hE6 : Below w4.heap.size w4 w6.drew := (chain hE5 hB6).drew
    have hB6' : Below w.heap.size w w6.drew := (chain hB5' hB6).drew
    have P6 := P4.below hE6
    clear G5 S5 C5 X5 hE5 hB5' hB6
    obtain ⟨d0, d1, d2, d3, d4, d5⟩ := C6.six
    obtain ⟨x0, x1, x2, x3, x4, x5⟩ := X6.six
    go_wp2_with fail
    go_region_with (first
      | (go_at_call 15; refine (laws_eqPool _ _ _ _ p _ (P6.below hB7) P7 hs).mono ?_; rintro e w8 ⟨rfl, hB8⟩)
      | (go_at_call 12; refine (laws_toPool 0 _ p _ (h.below hB6') hs).mono ?_; rintro e w7 ⟨⟨v7, rfl, P7⟩, hB7⟩; obtain ⟨ea7, en7, ec7, va7, vn7, vc7, ra7, rn7, rc7, la7, ln7, lc7, rfl⟩ := P7.cells; obtain ⟨y0, y1, y2, y3, y4, y5⟩ := (X6.below hB7).six))
    all_goals (
      have hB8' := chain hB7 hB8
      have G8 := G6.below hB8'
      have S8 := S6.below hB8'
      have C8 := C6.below hB8'
      have X8 := X6.below hB8'
      have hE8 := chain hE6 hB8'
      replace hB8' := chain hB6' hB8'
      have hz3 := hB3.size
      clear G6 S6 C6 X6 P6 P7 hB7 hB8 hE6 hB6' d0 d1 d2 d3 d4 d5 x0 x1 x2 x3 x4 x5
      obtain ⟨x0, x1, x2, x3, x4, x5⟩ := X8.six
      go_wp2_with fail
      refine (laws_markPoolW (w3.heap.size + 1) (Nat.succ_pos _) _ p w4 _ P4 hs (Kp.of_below hE8)).mono ?_
      rintro e w9 ⟨⟨k9, rfl, hk9⟩, _, F9⟩
      have G9 := F9.res G8 (fun ad had => ⟨(G8.block ad had).2, .inr (by have := (G5b ad had).1; omega)⟩)
      have S9 := F9.res S8 (fun ad had => ⟨(S8.block ad had).2, .inl (by have := (S3b ad had).2; omega)⟩)
      have C9 := F9.blkAt C8 (.inl (by omega))
      have hB9 := F9.belowOf hB8' (by omega) hB8'.size
      clear G8 S8 C8 X8 hE8 hB8' F9 P4 x0 x1 x2 x3 x4 x5
      go_wp2_with fail
      refine (laws_eqCountedS a5 n5 cap5 _ a3 n3 cap3 _ _ G9.sl S9.sl (by omega) (by omega)).mono ?_
      rintro e w10 ⟨rfl, hB10⟩
      rw [heq]
      have G10 := G9.below hB10
      have S10 := S9.below hB10
      have C10 := C9.below hB10
      replace hB10 := chain hB9 hB10
      clear G9 S9 C9 hB9
      go_wp2_with fail
      refine (markC_res _ a5 n5 cap5 _ _ G10 (by omega)).mono ?_
      rintro e w11 ⟨rfl, M11, hg11⟩
      have S11 := S10.grownO hg11 (rowB_ne (B := w3.heap.size) (fun ad had => (S3b ad had).2) (fun ad had => by have := (G5b ad had).1; omega))
      have C11 := grown_blk (B := w4.heap.size + 1) C10 hg11 (fun ad had => by have := (G5b ad had).1; omega) (by omega)
      have hB11 := below_grownO hB10 hg11 (rowB_ge (fun ad had => by have := (G5b ad had).1; omega))
      clear G10 S10 C10 hB10 hg11
      go_wp2_with fail
      refine (heldC a5 n5 cap5 _ M11 (by omega)).mono ?_
      rintro e w12 ⟨rfl, hB12⟩
      have S12 := S11.below hB12
      have M12 := M11.below hB12
      have C12 := C11.below hB12
      replace hB12 := chain hB11 hB12
      clear S11 M11 C11 hB11
      have hne1 : ((1 : Int) + 4 * (n5 : Int) != 1 + 4 * (n5 : Int)) = false := by simp
      obtain ⟨d0, d1, d2, d3, d4, d5⟩ := C12.six
      go_wp2_with fail
      refine (laws_toPool 0 _ p _ (h.below hB12) hs).mono ?_
      rintro e w13 ⟨⟨v13, rfl, P13⟩, hB13⟩
      have S13 := S12.below hB13
      have M13 := M12.below hB13
      replace hB13 := chain hB12 hB13
      clear S12 M12 C12 hB12 d0 d1 d2 d3 d4 d5
      go_wp2_with fail
      refine (impl_OwnersOf _ v13 p addr _ P13 hd).mono ?_
      rintro e w14 ⟨⟨a14, n14, cap14, rfl, hn14, G14⟩, hB14⟩
      have S14 := S13.below hB14
      have M14 := M13.below hB14
      replace hB14 := chain hB13 hB14
      clear S13 M13 hB13
      go_wp2_with fail
      refine (laws_eqCountedS a14 n14 cap14 _ a3 n3 cap3 _ _ G14.sl S14.sl (by omega) (by omega)).mono ?_
      rintro e w15 ⟨rfl, hB15⟩
      rw [heq]
      have M15 := M14.below hB15
      replace hB15 := chain hB14 hB15
      clear S14 M14 hB14 G14
      go_wp2_with fail
      refine (heldC a5 n5 cap5 _ M15 (by omega)).mono ?_
      rintro e w16 ⟨rfl, hB16⟩
      replace hB16 := chain hB15 hB16
      go_wp2
      go_returns
      exact ⟨rfl, hB16⟩)

set_option maxRecDepth 100000 in
theorem liftedOwnersOf (os : Os) (started : os.Started) (H : Type) (enc : TypeId × Value → H) :
    ReturnsInHanded {} Tryz.checked os 8 .any (Rows.fnExactOwnersOfSpec.pre6 enc Tryz.prog Tryz.f8 Rows.fnExactOwnersOfRow.domain false) (Rows.fnExactOwnersOfSpec.post enc Tryz.prog Tryz.f8 false true false false) := by
  refine returnsInHanded_of_change (C := Tryz.checked) own started (by kernel_rfl) Tryz.func8
    (ChangeSpec.witness6 (enc := enc) (C := Tryz.checked) false ⟨#[], #[.agg #[.int .i64 0, .int .i64 0, .slice none 0 0, .slice none 0 0, .slice none 0 0, .slice none 0 0], .int .i64 0], []⟩ 8 (by kernel_rfl) (by kernel_rfl) (by kernel_rfl) (by kernel_rfl)) ?_
  intro W base args ds gs before hval0 hW _ _
  have hval : ∀ (j : Nat) t v, Tryz.f8.params[j]? = some t → args[j]? = some v → Value.okWide Tryz.prog W .any base t v := hval0
  have hW' := hW
  obtain ⟨p, q, hA0, hV, rfl, _, _⟩ := hW
  have hA : DataW.TrodAll enc Tryz.prog W 0 (fun _ => true) true Tryz.f8.params.toList args.toList ds p := hA0
  rw [Tryz.params8] at hA hval
  obtain ⟨v0, vs0, d0, ds0, p0, q0, hargs, rfl, rfl, h0, r0⟩ := trodAll_cons hA
  obtain ⟨v1, vs1, d1, ds1, p1, q1, rfl, rfl, rfl, h1, r1⟩ := trodAll_cons r0
  obtain ⟨rfl, rfl, rfl⟩ := trodAll_nil r1
  obtain rfl : args = #[v0, v1] := by cases args; simp_all
  obtain ⟨rfl, rfl⟩ := trodVars_none hV
  clear hA0 hval0
  obtain ⟨addr, rfl, rfl, rfl, wx1⟩ := open_int Tryz.underlying2 (hval 1 2 v1 rfl rfl) h1
  simp only [List.append_nil] at hW'
  have hlt : ∀ x ∈ p0, x.block < W.heap.size := fun x hx => by simpa using hW'.lt x hx
  obtain ⟨q, hP, hb⟩ := open_pool (hval 0 26 v0 rfl rfl) h0
  refine (walkOwnersOf v0 q addr W hP hb ).mono fun e W' ⟨he, hB⟩ => ?_
  subst he
  have hargs : DataW.Trod enc Tryz.prog W' 0 (fun b => decide (b < W.heap.size)) true 26 v0 d0 p0 :=
    Below.trod laidOut (by kernel_rfl) (of_decide_eq_true (by kernel_rfl)) h0 hB hlt
  exact ⟨_, rfl, ⟨_, _, _, [], _, [], hW', trodAll_mk1 (shut_bool Tryz.underlying4 _), trodAll_cons_mk hargs (trodAll_cons_mk (shut_int Tryz.underlying2 wx1) trodAll_mk0), rfl, hB.frame _, fun h => by cases h⟩⟩

theorem holdsOwnersOf : Rows.FnExactOwnersOfSaid :=
  OpenClaim.holds_of_wide 8 Tryz.f8 rfl rfl rfl rfl rfl rfl rfl ⟨rfl, rfl, rfl, rfl, rfl⟩ rfl rfl rfl rfl rfl (by kernel_rfl) Tryz.func8 (joined_of (by kernel_rfl) (by kernel_rfl) (by kernel_rfl) (by kernel_rfl) rfl rfl rfl (by kernel_rfl))
    (of_decide_eq_true (by kernel_rfl)) (by unfold Func.isWrapper; first | (rw [if_pos (by decide +kernel)]; kernel_rfl) | (rw [if_neg (by decide +kernel)]; exact ⟨rfl, rfl⟩))
    (fun os started H enc _ => liftedOwnersOf os started H enc)
end Go.Proofs.YtllbojcjdpelnaaGreat
