/- At every number and pool the program's SuperText answers as its model does, and writes nothing into its argument: the tied card. -/
import Derived.Test.YtigldeccfpkdmaaGreatDoorRows
import Derived.Lib.SmallJoins
import Derived.Test.YtigldeccfpkdmaaGreatDoorCSuperTextx00
import Derived.Test.YtigldeccfpkdmaaGreatDoorCSuperTextx28
import Derived.Test.YtigldeccfpkdmaaGreatDoorCSuperTextx20
import Derived.ChangeSame
import Derived.ChangeVars
import Derived.JoinedOf
import Derived.RowKitTokens
import Derived.LaidLaws
import Derived.LaidHandle
import Derived.Lib.LaidTab
import Derived.SevenTiedAt
import Derived.Test.YtigldeccfpkdmaaGreatDoorCards
import Derived.Test.YtigldeccfpkdmaaGreatDoorTie
namespace Go.Proofs.YtigldeccfpkdmaaGreatDoor
open Go.ChangeShapes Go.WideShapes Go.ChangeAt Go.RowKit Go.Deep Go.Joins
set_option maxHeartbeats 4000000 in
set_option maxRecDepth 100000 in
theorem walkSuperText (v : Value) (p : Po) (n : Int) (w : World) (h : PoolAt 0 w v p) (hb : BigP p) (ht : TabP w) (hg : 9 ≤ w.heap.size) :
    Calls Tryz.prog 4 #[.int .i64 n, v] w fun e w' => e = .returned (.bool true) ∧ Below w.heap.size w w' := by
  have hN : poolB p = true → NumO p := numO_of
  obtain ⟨ea, en, ec, va, vn, vc, ra, rn, rc, la, ln, lc, rfl⟩ := h.cells
  have C := (Blk.new w #[.int .i64 p.size, .int .i64 p.next, .slice ea en ec, .slice va vn vc, .slice ra rn rc, .slice la ln lc] 36)
  have hB0 : Below w.heap.size w (w.alloc (.cells #[.int .i64 p.size, .int .i64 p.next, .slice ea en ec, .slice va vn vc, .slice ra rn rc, .slice la ln lc] 36)) := by go_grown
  go_enter Tryz.func4, Tryz.ntmps4
  go_wp2_with fail
  generalize w.alloc (.cells #[.int .i64 p.size, .int .i64 p.next, .slice ea en ec, .slice va vn vc, .slice ra rn rc, .slice la ln lc] 36) = W0 at *
  refine (laws_szPool 0 _ p _ (h.below hB0) hb).mono ?_
  rintro e w1 ⟨⟨r, rfl, hr⟩, hB1⟩
  have C1 := C.below hB1
  replace hB1 := chain hB0 hB1
  clear C hB0
  rcases hr with rfl | ⟨r0, r1, hs⟩
  · go_wp2
    go_returns
    exact ⟨rfl, hB1⟩
  · have hd := hs.dim
    obtain ⟨d0, d1, d2, d3, d4, d5⟩ := C1.six
    go_wp2_with fail
    refine (laws_toPool 0 _ p _ (h.below hB1) hs).mono ?_
    rintro e w2 ⟨⟨v2, rfl, P2⟩, hB2⟩
    have C2 := C1.below hB2
    replace hB2 := chain hB1 hB2
    clear d0 d1 d2 d3 d4 d5 C1 hB1
    go_wp2_with fail
    refine (spec_SuperText _ (by omega) v2 p n _ P2 hd hN).mono ?_
    rintro e w3 ⟨rfl, hB3⟩
    have C3 := C2.below hB3
    replace hB3 := chain hB2 hB3
    clear C2 hB2 P2
    obtain ⟨d0, d1, d2, d3, d4, d5⟩ := C3.six
    go_wp2_with fail
    refine (laws_toPool 0 _ p _ (h.below hB3) hs).mono ?_
    rintro e w4 ⟨⟨v4, rfl, P4⟩, hB4⟩
    have C4 := C3.below hB4
    replace hB4 := chain hB3 hB4
    clear d0 d1 d2 d3 d4 d5 C3 hB3
    obtain ⟨ea4, en4, ec4, va4, vn4, vc4, ra4, rn4, rc4, la4, ln4, lc4, rfl⟩ := P4.cells
    have X4 := (Blk.new w4 #[.int .i64 p.size, .int .i64 p.next, .slice ea4 en4 ec4, .slice va4 vn4 vc4, .slice ra4 rn4 rc4, .slice la4 ln4 lc4] 26)
    have hB4' : Below w4.heap.size w4 (w4.alloc (.cells #[.int .i64 p.size, .int .i64 p.next, .slice ea4 en4 ec4, .slice va4 vn4 vc4, .slice ra4 rn4 rc4, .slice la4 ln4 lc4] 26)) := by go_grown
    go_wp2_with fail
    generalize w4.alloc (.cells #[.int .i64 p.size, .int .i64 p.next, .slice ea4 en4 ec4, .slice va4 vn4 vc4, .slice ra4 rn4 rc4, .slice la4 ln4 lc4] 26) = W4 at *
    have P5 := P4.below hB4'
    have C5 := C4.below hB4'
    have hB5 := chain hB4 hB4'
    clear C4 hB4 hB4' P4
    refine (impl_SuperText _ _ p n _ P5 hd hN (tab_low ht hB5 hg) (by have := hB5.size; omega)).mono ?_
    rintro e w5 ⟨rfl, hB6⟩
    generalize superO n p = T at *
    have hbb : (T.toList != T.toList) = false := by simp
    have P6 := P5.below hB6
    have C6 := (C5.below hB6).drew
    have X6 := (X4.below hB6).drew
    replace hB6 : Below w.heap.size w w5.drew := (chain hB5 hB6).drew
    clear C5 X4 P5 hB5
    have P6' := P6.below (Below.refl _ _).drew
    obtain ⟨d0, d1, d2, d3, d4, d5⟩ := C6.six
    obtain ⟨x0, x1, x2, x3, x4, x5⟩ := X6.six
    go_wp2_with fail
    go_region_with (first
      | (go_at_call 11; refine (laws_eqPool _ _ _ _ p _ (P6'.below hB7) P7 hs).mono ?_; rintro e w8 ⟨rfl, hB8⟩)
      | (go_at_call 16; refine (laws_toPool 0 _ p _ (h.below hB6) hs).mono ?_; rintro e w7 ⟨⟨v7, rfl, P7⟩, hB7⟩; obtain ⟨ea7, en7, ec7, va7, vn7, vc7, ra7, rn7, rc7, la7, ln7, lc7, rfl⟩ := P7.cells; obtain ⟨y0, y1, y2, y3, y4, y5⟩ := (X6.below hB7).six))
    all_goals go_wp2
    all_goals go_returns
    all_goals exact ⟨rfl, chain (chain hB6 hB7) hB8⟩
end Go.Proofs.YtigldeccfpkdmaaGreatDoor
namespace Go.Proofs.YtigldeccfpkdmaaGreatDoor
open Go.ChangeShapes Go.WideShapes Go.ChangeAt Go.RowKit Go.Deep Go.Joins
theorem laid_tailT {P : Program} {x : String × DataW Unit} {r : List (String × DataW Unit)} {w : World} (h : laidMet P (x :: r) w) : laidMet P r w := by
  obtain ⟨ps, hv, hnd, hrows⟩ := h
  obtain ⟨n, d⟩ := x
  obtain ⟨g, t, cs, fuel, p, q, a1, a2, a3, a4, b5, rfl⟩ := hv
  have hs : q.Sublist (MemPlace.row ⟨g, 0, none⟩ cs.size ++ p ++ q) := List.sublist_append_right _ _
  exact ⟨q, b5, hnd.sublist hs, fun b off hm => hrows b off (hs.subset hm)⟩
theorem tabIs_ltT {W : World} {zs : List Int} {k : IntKind} {name : String} {g : Nat} (hg : Tryz.prog.globalNamed name = some g) (h : Lib.TabIs Tryz.prog W name k zs) (h0 : 0 < zs.length) : g < W.heap.size := by
  have := h.cell hg 0 h0
  unfold World.cell? at this
  by_cases hl : g < W.heap.size
  · exact hl
  · simp [Array.getElem?_eq_none (Nat.le_of_not_lt hl)] at this
def tabZ : DataW Unit → List Int
  | .agg l => l.map fun | .lit (.int _ n) => n | _ => 0
  | _ => []
theorem tab_ofT {W : World} (h : laidMetH Tryz.prog Rows.fnExactSuperTextRow.laid W) : TabP W ∧ 9 ≤ W.heap.size := by
  have h' : laidMet Tryz.prog Rows.fnExactSuperTextRow.laid W := h
  have h2 : laidMet Tryz.prog (("math/bits.deBruijn64tab", Lib.tabData .u8 (tabZ Rows.laid_math_bits_deBruijn64tab)) :: [("internal/strconv.uint64pow10", Rows.laid_internal_strconv_uint64pow10)]) W := laid_tailT h'
  have h3 : laidMet Tryz.prog (("internal/strconv.uint64pow10", Lib.tabData .u64 Lib.pow10Tab) :: []) W := laid_tailT h2
  have g2 : Tryz.prog.globalNamed "math/bits.deBruijn64tab" = some 8 := by kernel_rfl
  have t2 : Lib.TabIs Tryz.prog W "math/bits.deBruijn64tab" .u8 (tabZ Rows.laid_math_bits_deBruijn64tab) := Lib.tabIs_of_head (n := 64) (e := 5) (t := 337) (g := 8) g2 (by kernel_rfl) (by kernel_rfl) Tryz.underlying5 (by kernel_rfl) (by kernel_rfl) h2
  have := tabIs_ltT g2 t2 (by decide)
  exact ⟨Lib.tabIs_of_head (n := 20) (e := 274) (t := 301) (g := 2) (by kernel_rfl) (by kernel_rfl) (by kernel_rfl) (by kernel_rfl) (by kernel_rfl) (by kernel_rfl) h3, this⟩
/-- A world that meets the condition. -/
def tabC (k : IntKind) (d : DataW Unit) : Array Value := ((tabZ d).map fun z => Value.int k z).toArray
noncomputable def laidWorldT (os : Os) : World :=
  let w0 := World.holding Tryz.prog os ⟨#[], #[], []⟩
  { w0 with heap := ((w0.heap.modify 7 fun
      | .cells _ t frozen => .cells (tabC .u8 Rows.laid_math_bits_deBruijn32tab) t frozen
      | o => o).modify 8 fun
      | .cells _ t frozen => .cells (tabC .u8 Rows.laid_math_bits_deBruijn64tab) t frozen
      | o => o).modify 2 fun
      | .cells _ t frozen => .cells (tabC .u64 Rows.laid_internal_strconv_uint64pow10) t frozen
      | o => o }
theorem laidWorldT_met (os : Os) (args : Array Value) : laidMetH Tryz.prog Rows.fnExactSuperTextRow.laid ((laidWorldT os).forCall (fun _ _ => 0) ⟨#[], args, []⟩).memory :=
  show laidMet Tryz.prog Rows.fnExactSuperTextRow.laid _ from laidMet_of_run' 8 (by kernel_rfl) (by kernel_rfl)
set_option maxRecDepth 100000 in
theorem liftedSuperText (os : Os) (started : os.Started) (H : Type) (enc : TypeId × Value → H) :
    ReturnsInHanded {} Tryz.checked os 4 .any (fun w args => (Rows.fnExactSuperTextSpec.pre enc Tryz.prog Tryz.f4 [] false w args ∧ laidMetH Tryz.prog Rows.fnExactSuperTextRow.laid w) ∧ sizedMet enc Tryz.prog Tryz.f4 (OpenSpec.ofChange Rows.fnExactSuperTextSpec) false w args)
      (Rows.fnExactSuperTextSpec.post enc Tryz.prog Tryz.f4 false true false false) := by
  refine returnsInHanded_of_change_and (C := Tryz.checked) (X := fun w _ => laidMetH Tryz.prog Rows.fnExactSuperTextRow.laid w) (fun _ _ _ hh h => h.of_heap hh) own started (by kernel_rfl) Tryz.func4
    (ChangeSpec.witness_at (enc := enc) (C := Tryz.checked) (os := os) (X := fun w _ => laidMetH Tryz.prog Rows.fnExactSuperTextRow.laid w) false (laidWorldT os) #[.int .i64 0, .agg #[.int .i64 0, .int .i64 0, .slice none 0 0, .slice none 0 0, .slice none 0 0, .slice none 0 0]] 8 rfl (by kernel_rfl) (by kernel_rfl) (by kernel_rfl) (by kernel_rfl) (by kernel_rfl) (laidWorldT_met os _)) ?_
  intro W base args ds gs before hval0 hW _ _ hL _
  have hval : ∀ (j : Nat) t v, Tryz.f4.params[j]? = some t → args[j]? = some v → Value.okWide Tryz.prog W .any base t v := hval0
  have hW' := hW
  obtain ⟨p, q, hA0, hV, rfl, _, _⟩ := hW
  have hA : DataW.TrodAll enc Tryz.prog W 0 (fun _ => true) true Tryz.f4.params.toList args.toList ds p := hA0
  rw [Tryz.params4] at hA hval
  obtain ⟨v0, vs0, d0, ds0, p0, q0, hargs, rfl, rfl, h0, r0⟩ := trodAll_cons hA
  obtain ⟨v1, vs1, d1, ds1, p1, q1, rfl, rfl, rfl, h1, r1⟩ := trodAll_cons r0
  obtain ⟨rfl, rfl, rfl⟩ := trodAll_nil r1
  obtain rfl : args = #[v0, v1] := by cases args; simp_all
  obtain ⟨rfl, rfl⟩ := trodVars_none hV
  clear hA0 hval0
  obtain ⟨x0, rfl, rfl, rfl, wx0⟩ := open_int Tryz.underlying2 (hval 0 2 v0 rfl rfl) h0
  simp only [List.append_nil, List.nil_append] at hW'
  have hlt : ∀ x ∈ p1, x.block < W.heap.size := fun x hx => by simpa using hW'.lt x hx
  obtain ⟨q, hP, hb⟩ := open_pool (hval 1 36 v1 rfl rfl) h1
  obtain ⟨hT, hG⟩ := tab_ofT hL
  refine (walkSuperText v1 q x0 W hP hb hT hG).mono fun e W' ⟨he, hB⟩ => ?_
  subst he
  have hargs : DataW.Trod enc Tryz.prog W' 0 (fun b => decide (b < W.heap.size)) true 36 v1 d1 p1 :=
    Below.trod laidOut (by kernel_rfl) (of_decide_eq_true (by kernel_rfl)) h1 hB hlt
  exact ⟨_, rfl, ⟨_, _, _, [], _, [], hW', trodAll_mk1 (shut_bool Tryz.underlying4 _), trodAll_cons_mk (shut_int Tryz.underlying2 wx0) (trodAll_cons_mk hargs trodAll_mk0), rfl, hB.frame _, fun h => by cases h⟩⟩
theorem holdsSuperText : Rows.FnExactSuperTextSaid :=
  OpenClaim.holds_of_wide 4 Tryz.f4 rfl rfl rfl rfl rfl rfl rfl ⟨rfl, rfl, rfl, rfl, rfl⟩ rfl rfl rfl rfl rfl (by kernel_rfl) Tryz.func4 (joined_of (by kernel_rfl) (by kernel_rfl) (by kernel_rfl) (by kernel_rfl) rfl rfl rfl (by kernel_rfl))
    (of_decide_eq_true (by kernel_rfl)) (by unfold Func.isWrapper; first | (rw [if_pos (by decide +kernel)]; kernel_rfl) | (rw [if_neg (by decide +kernel)]; exact ⟨rfl, rfl⟩))
    (fun os started H enc _ => liftedSuperText os started H enc)
end Go.Proofs.YtigldeccfpkdmaaGreatDoor
namespace Go.Proofs.YtigldeccfpkdmaaGreatDoor
open Go.ChangeShapes Go.WideShapes Go.ChangeAt Go.RowKit Go.Deep Go.Joins
theorem cardSuperText : Rows.FnExactSuperTextCardSaid :=
  Claim7.holds_tied_plain_at .later [] [.data, .data, .data] true Rows.fnExactSuperTextCard.stood.harness true
    holdsSuperText (fun _ h => by cases h) (by kernel_rfl) (fun _ h => by cases h) fnExactSuperText_row_tie rfl ⟨rfl, rfl⟩ (by kernel_rfl) rfl
    (fun f fn hf hfn => by
      obtain rfl : f = 4 := Option.some.inj ((show Tryz.prog.funcNamed "loop.example/g00336/laws.FnExactSuperText" = some 4 by kernel_rfl).symm.trans hf) |>.symm
      obtain rfl : fn = Tryz.f4 := (Option.some.inj (Tryz.func4.symm.trans hfn)).symm
      exact ⟨by kernel_rfl, fun j t ht => by
        rw [Tryz.params4] at ht
        have h3 : t = 2 ∨ t = 36 := by
          rcases j with _ | _ | j
          · exact .inl (by simpa using ht.symm)
          · exact .inr (by simpa using ht.symm)
          · simp at ht
        rcases h3 with rfl | rfl
        · exact (show Tryz.prog.wantsStandIn 2 = false by kernel_rfl)
        · exact (show Tryz.prog.wantsStandIn 36 = false by kernel_rfl)⟩)
    (by kernel_rfl)
end Go.Proofs.YtigldeccfpkdmaaGreatDoor
