/- At every text the program's ReadSuper answers as its model does, and owns what it answers: the tied card. -/
import Derived.Test.YtigldeccfpkdmaaGreatDoorCReadSuperx50
import Derived.Test.YtigldeccfpkdmaaGreatDoorRows
import Derived.Lib.SmallJoins
import Derived.ChangeSame
import Derived.ChangeVars
import Derived.ChangeMaps5
import Derived.JoinedOf
import Derived.RowKitTokens
import Derived.LaidLaws
import Derived.LaidHandle
import Derived.Lay
import Derived.MakeChecks
import Derived.Stop.LaidErr
import Derived.Lib.LaidTab
import Derived.SevenTiedAt
import Derived.Test.YtigldeccfpkdmaaGreatDoorCReadSuperx00
import Derived.Test.YtigldeccfpkdmaaGreatDoorCards
import Derived.Test.YtigldeccfpkdmaaGreatDoorTie
namespace Go.Proofs.YtigldeccfpkdmaaGreatDoor
open Go Go.RowKit Go.BigFrame
theorem dimk_rs (s : ByteArray) : DimK ((rsO s).elim emptyP (·.2)) := by
  unfold rsO
  split
  · cases numP (hdB (midB s.data.toList)) with
    | none => exact dimk_empty
    | some n =>
      have h := dimk_ans (tlB (midB s.data.toList))
      cases ha : ansO (tlB (midB s.data.toList)) with
      | none => exact dimk_empty
      | some p =>
        rw [ha] at h
        show DimK ((if superO n p = s then some (n, p) else none).elim emptyP (·.2))
        split
        · exact h
        · exact dimk_empty
  · exact dimk_empty
set_option maxHeartbeats 8000000 in
set_option maxRecDepth 100000 in
theorem walkReadSuper (s : ByteArray) (w : World) (hs : s.size ≤ 9223372036854775807) (hG : Glb w) :
    Calls Tryz.prog 5 #[.string s] w fun e w' => e = .returned (.bool true) ∧ Below w.heap.size w w' := by
  rcases Nat.lt_or_ge 1048576 s.size with hb | hb
  · go_enter Tryz.func5, Tryz.ntmps5
    go_wp2
    go_returns
    exact ⟨rfl, Below.refl _ _⟩
  · have hK := dimk_rs s
    obtain ⟨ok, hok⟩ : ∃ ok, Hid ((rsO s).isSome = ok) := ⟨_, rfl⟩
    obtain ⟨p, hp⟩ : ∃ p, Hid ((rsO s).elim emptyP (·.2) = p) := ⟨_, rfl⟩
    obtain ⟨num, hnum⟩ : ∃ z, Hid ((rsO s).elim 0 (·.1) = z) := ⟨_, rfl⟩
    rw [hp.out] at hK
    have hnn : (num != num) = false := by simp
    have hgs := hG.sz
    have hoo : (ok != ok) = false := by simp
    have q1 := spec_ReadSuper s w (by omega) (by omega)
    have q2 := fun (u : World) (hu : Glb u) => impl_ReadSuper s u (by omega) hu
    rw [hok.out, hp.out, hnum.out] at q1
    simp only [hok.out, hp.out, hnum.out] at q2
    go_enter Tryz.func5, Tryz.ntmps5
    go_wp2_with fail
    refine q1.mono ?_
    rintro e w1 ⟨⟨v1, rfl, M1⟩, hb1⟩
    obtain ⟨ea1, en1, ec1, va1, vn1, vc1, ra1, rn1, rc1, la1, ln1, lc1, vr1, rfl, _⟩ := M1.out
    have G1 := hG.below hb1
    have hA1 : Below w1.heap.size w1 (w1.alloc (.cells #[.int .i64 p.size, .int .i64 p.next, .slice ea1 en1 ec1, .slice va1 vn1 vc1, .slice ra1 rn1 rc1, .slice la1 ln1 lc1] 26)) := (Below.refl _ _).alloc (Nat.le_refl _) _
    obtain ⟨b1, hb10⟩ : ∃ b, b = w1.heap.size := ⟨_, rfl⟩
    have P1 : Blk (w1.alloc (.cells #[.int .i64 p.size, .int .i64 p.next, .slice ea1 en1 ec1, .slice va1 vn1 vc1, .slice ra1 rn1 rc1, .slice la1 ln1 lc1] 26)) b1 #[.int .i64 p.size, .int .i64 p.next, .slice ea1 en1 ec1, .slice va1 vn1 vc1, .slice ra1 rn1 rc1, .slice la1 ln1 lc1] 26 := Blk.new' _ _ _ _ hb10
    have hl1 : w.heap.size ≤ b1 := by rw [hb10]; exact hb1.size
    replace M1 := M1.below hA1
    replace G1 := G1.below hA1
    have hB := chain hb1 hA1
    clear q1
    go_wp2_with fail
    rw [← hb10]
    clear hb10
    generalize w1.alloc (.cells #[.int .i64 p.size, .int .i64 p.next, .slice ea1 en1 ec1, .slice va1 vn1 vc1, .slice ra1 rn1 rc1, .slice la1 ln1 lc1] 26) = W1 at *
    clear hb1 hA1
    have z1 := P1.lt
    have hW0 := Below.refl W1.heap.size W1
    refine (q2 W1 G1).mono ?_
    rintro e w2 ⟨⟨v2, rfl, M2⟩, hb2⟩
    obtain ⟨ea2, en2, ec2, va2, vn2, vc2, ra2, rn2, rc2, la2, ln2, lc2, vr2, rfl, _⟩ := M2.out
    have hA2 : Below w2.heap.size w2 (w2.alloc (.cells #[.int .i64 p.size, .int .i64 p.next, .slice ea2 en2 ec2, .slice va2 vn2 vc2, .slice ra2 rn2 rc2, .slice la2 ln2 lc2] 26)) := (Below.refl _ _).alloc (Nat.le_refl _) _
    obtain ⟨b2, hb20⟩ : ∃ b, b = w2.heap.size := ⟨_, rfl⟩
    have P2 : Blk (w2.alloc (.cells #[.int .i64 p.size, .int .i64 p.next, .slice ea2 en2 ec2, .slice va2 vn2 vc2, .slice ra2 rn2 rc2, .slice la2 ln2 lc2] 26)) b2 #[.int .i64 p.size, .int .i64 p.next, .slice ea2 en2 ec2, .slice va2 vn2 vc2, .slice ra2 rn2 rc2, .slice la2 ln2 lc2] 26 := Blk.new' _ _ _ _ hb20
    have hl2 : w2.heap.size ≤ b2 := by rw [hb20]; exact Nat.le_refl _
    have hz2 := hb2.size
    have hW := chain hb2 hA2
    obtain ⟨x0, x1, x2, x3, x4, x5⟩ := (P1.below hW).sixM
    obtain ⟨y0, y1, y2, y3, y4, y5⟩ := P2.sixM
    clear hW0
    go_upto_region 5 with fail
    rw [← hb20]
    clear hb20
    generalize w2.alloc (.cells #[.int .i64 p.size, .int .i64 p.next, .slice ea2 en2 ec2, .slice va2 vn2 vc2, .slice ra2 rn2 rc2, .slice la2 ln2 lc2] 26) = W2 at *
    have qe := laws_eqPool 0 0 _ _ p W2 ((M2.below hA2).at.mono (Nat.zero_le _)) ((M1.below hW).at.mono (Nat.zero_le _)) hK.small
    go_wp2_with fail
    refine qe.mono ?_
    rintro e w3 ⟨rfl, hb3⟩
    clear qe x0 x1 x2 x3 x4 x5 y0 y1 y2 y3 y4 y5
    replace P2 := P2.below hb3
    replace hA2 := chain hA2 hb3
    replace hW := chain hW hb3
    clear hb3
    obtain ⟨y0, y1, y2, y3, y4, y5⟩ := P2.sixM
    have qm := laws_markPoolM W1.heap.size _ p w2 w3 M2 hA2 hK hz2 b2 _ _ P2 hl2
    go_wp2_with fail
    refine qm.mono ?_
    rintro e w4 ⟨⟨k, rfl, MK, hk⟩, hb4, P4⟩
    clear qm y0 y1 y2 y3 y4 y5 P2 hA2
    replace hW := hW.trans hb4
    clear hb4
    have hkk : (((k : Nat) : Int) != ((k : Nat) : Int)) = false := by simp
    have hk0 : ¬ ((k : Nat) : Int) < 0 := by omega
    obtain ⟨y0, y1, y2, y3, y4, y5⟩ := P4.sixM
    go_wp2_with fail
    refine (laws_heldPoolM _ k w4 MK).mono ?_
    rintro e w5 ⟨rfl, hb5⟩
    clear y0 y1 y2 y3 y4 y5
    replace P4 := P4.below hb5
    replace MK := MK.below hb5
    have hz4 := hW.size
    replace hW := hW.trans (hb5.mono hz4)
    clear hb5
    have G5 := G1.below hW
    go_wp2_with fail
    refine (q2 w5 G5).mono ?_
    rintro e w6 ⟨⟨v3, rfl, M3⟩, hb6⟩
    obtain ⟨ea3, en3, ec3, va3, vn3, vc3, ra3, rn3, rc3, la3, ln3, lc3, vr3, rfl, _⟩ := M3.out
    have hA6 : Below w6.heap.size w6 (w6.alloc (.cells #[.int .i64 p.size, .int .i64 p.next, .slice ea3 en3 ec3, .slice va3 vn3 vc3, .slice ra3 rn3 rc3, .slice la3 ln3 lc3] 26)) := (Below.refl _ _).alloc (Nat.le_refl _) _
    obtain ⟨b3, hb30⟩ : ∃ b, b = w6.heap.size := ⟨_, rfl⟩
    have P6 : Blk (w6.alloc (.cells #[.int .i64 p.size, .int .i64 p.next, .slice ea3 en3 ec3, .slice va3 vn3 vc3, .slice ra3 rn3 rc3, .slice la3 ln3 lc3] 26)) b3 #[.int .i64 p.size, .int .i64 p.next, .slice ea3 en3 ec3, .slice va3 vn3 vc3, .slice ra3 rn3 rc3, .slice la3 ln3 lc3] 26 := Blk.new' _ _ _ _ hb30
    have hc6 := chain hb6 hA6
    replace P4 := P4.below hc6
    replace MK := MK.below hc6
    have hz5 := hW.size
    replace hW := hW.trans (hc6.mono hz5)
    obtain ⟨x0, x1, x2, x3, x4, x5⟩ := (P1.below hW).sixM
    obtain ⟨y0, y1, y2, y3, y4, y5⟩ := P6.sixM
    clear hb6 hc6
    go_upto_region 16 with fail
    rw [← hb30]
    clear hb30
    generalize w6.alloc (.cells #[.int .i64 p.size, .int .i64 p.next, .slice ea3 en3 ec3, .slice va3 vn3 vc3, .slice ra3 rn3 rc3, .slice la3 ln3 lc3] 26) = W6 at *
    have qe := laws_eqPool 0 0 _ _ p W6 ((M3.below hA6).at.mono (Nat.zero_le _)) ((M1.below hW).at.mono (Nat.zero_le _)) hK.small
    go_wp2_with fail
    refine qe.mono ?_
    rintro e w7 ⟨rfl, hb7⟩
    clear qe x0 x1 x2 x3 x4 x5 y0 y1 y2 y3 y4 y5 hA6
    replace P4 := P4.below hb7
    replace MK := MK.below hb7
    have hz6 := hW.size
    replace hW := hW.trans (hb7.mono hz6)
    clear hb7
    obtain ⟨y0, y1, y2, y3, y4, y5⟩ := P4.sixM
    go_wp2_with fail
    refine (laws_heldPoolM _ k w7 MK).mono ?_
    rintro e w8 ⟨rfl, hb8⟩
    have hz7 := hW.size
    replace hW := hW.trans (hb8.mono hz7)
    clear hb8
    go_wp2
    go_returns
    exact ⟨rfl, hB.trans (hW.mono hB.size)⟩
end Go.Proofs.YtigldeccfpkdmaaGreatDoor
namespace Go.Proofs.YtigldeccfpkdmaaGreatDoor
open Go.ChangeShapes Go.WideShapes Go.ChangeAt Go.RowKit Go.Deep Go.Joins
open Go.ChangeMaps (open_string shut_string)
/-- As the library's own, with the world's shape handed on. -/
theorem returns_shapedR {H : Type} {enc : TypeId × Value → H} {a : Assume} {C : Checked} {os : Os} {f : FuncId} {fn : Func} {s : ChangeSpec} {conds : List PathCond} {apart fresh handsOn again : Bool} {X : World → Array Value → Prop}
    (hX : ∀ (w w' : World) (args : Array Value), w.heap = w'.heap → X w args → X w' args)
    (own : ownKnob C.prog.godebug = none) (started : os.Started) (noInit : C.prog.inits.idxOf? f = none) (hfn : C.prog.funcs[f]? = some fn)
    (witness : ∃ (w : World) (tape : Tape) (i : Input), w.os = os ∧ (w.forCall tape i).Shaped C.prog ∧ i.vars = [] ∧ Input.okWide C.prog (w.forCall tape i) .any w.heap.size f i ∧
      ((s.pre enc C.prog fn conds apart (w.forCall tape i).memory i.args ∧ X (w.forCall tape i).memory i.args) ∧ sizedMet enc C.prog fn (OpenSpec.ofChange s) apart (w.forCall tape i).memory i.args) ∧ a.holds C.prog (lone (Frame.enter C.prog f i.args .normal) [] (w.forCall tape i)))
    (contract : ∀ (W : World) (base : Nat) (args : Array Value) (ds gs : List (DataW H)) (before : List MemPlace),
      (∀ (j : Nat) t v, fn.params[j]? = some t → args[j]? = some v → Value.okWide C.prog W .any base t v) →
      DataW.Whole enc C.prog fn.params.toList s.vars apart W args.toList ds gs before → X W args → W.ShapedOpen C.prog →
      Calls C.prog f args W fun e W' => ∃ v, e = .returned v ∧ s.post enc C.prog fn apart fresh handsOn again W args v W') :
    ReturnsInHanded a C os f .any (fun w args => (s.pre enc C.prog fn conds apart w args ∧ X w args) ∧ sizedMet enc C.prog fn (OpenSpec.ofChange s) apart w args) (s.post enc C.prog fn apart fresh handsOn again) := by
  refine returnsInHanded_of_calls own started noInit witness ?_
  intro w tape i _ hsh _ hok hpre _
  obtain ⟨_, _, _, fn', hfn', _, _, _, _, hval⟩ := hok
  have e : fn' = fn := Option.some.inj (hfn'.symm.trans hfn)
  subst e
  obtain ⟨⟨⟨ds, gs, before, hw, _⟩, hx⟩, _⟩ := hpre
  have hw' := DataW.Whole.of_heap (w' := w.forCall tape i) (by rfl) hw
  refine (contract (w.forCall tape i) w.heap.size i.args ds gs before hval hw' (hX _ _ _ (by rfl) hx) hsh).mono fun e W' ⟨v, he, hp⟩ => ?_
  subst he
  exact ChangeSpec.post_blind hp
theorem int_of_shapeR {P : Program} {w : World} {g : Nat} {t : TypeId} {zero : Array Value} {k : IntKind} (h : w.ShapedOpen P) (hg : g < P.globals.size)
    (h0 : ((begin P (fun _ _ => 0) default).world.heap[g]?).bind Obj.row? = some (zero, t)) (hz : zero.size = 1)
    (hb : P.buildable t = true) (hc : P.cellTypes P.depth t = some [t]) (hu : P.underlying t = some (.int k)) : ∃ m, w.cell? ⟨g, 0, none⟩ = some (.int k m) := by
  obtain ⟨cs, hh, hs, hr⟩ := h.1 g zero t hg h0
  obtain ⟨ts, hts, _, hall⟩ := hr hb
  rw [hc] at hts
  cases hts
  have h1 : 0 < cs.size := by omega
  obtain ⟨u, hu', hok⟩ := hall 0 cs[0] (by simp [h1])
  have : u = t := by simpa using hu'.symm
  subst this
  have hcell : w.cell? ⟨g, 0, none⟩ = some cs[0] := by simp [World.cell?, hh, h1]
  rw [hcell]
  unfold Cell.ok at hok
  rw [hu] at hok
  cases hv : cs[0] <;> rw [hv] at hok <;> first | (simp at hok; done) | (simp at hok; obtain ⟨rfl, _⟩ := hok; exact ⟨_, rfl⟩) | (simp at hok; subst hok; exact ⟨_, rfl⟩)
theorem tabIs_ltR {W : World} {zs : List Int} {k : IntKind} {name : String} {g : Nat} (hg : Tryz.prog.globalNamed name = some g) (h : Lib.TabIs Tryz.prog W name k zs) (h0 : 0 < zs.length) : g < W.heap.size := by
  have := h.cell hg 0 h0
  unfold World.cell? at this
  by_cases hl : g < W.heap.size
  · exact hl
  · simp [Array.getElem?_eq_none (Nat.le_of_not_lt hl)] at this
def tabR : DataW Unit → List Int
  | .agg l => l.map fun | .lit (.int _ n) => n | _ => 0
  | _ => []
theorem starR : "*" ++ "errors.errorString" = "*errors.errorString" := by decide
theorem rowR (u : TypeId) (h : Tryz.prog.typeName? 3 u = some "*errors.errorString") : u = 323 :=
  typeName_ptr_named (nm := "errors.errorString") (by rw [starR]; kernel_rfl) (by kernel_rfl) (by decide) u (by rw [starR]; exact h)
theorem gErrR : Tryz.prog.globalNamed "loop.example/g00336/impl.errText" = some 0 := by kernel_rfl
theorem gErrTR : (Tryz.prog.globals[0]?).map (·.type) = some 75 := by kernel_rfl
theorem gSynR : Tryz.prog.globalNamed "strconv.ErrSyntax" = some 3 := by kernel_rfl
theorem gSynTR : (Tryz.prog.globals[3]?).map (·.type) = some 75 := by kernel_rfl
theorem glb_ofR {W : World} (h : laidMetH Tryz.prog Rows.fnExactReadSuperRow.laid W) (hsh : W.ShapedOpen Tryz.prog) : Glb W ∧ ∃ a : Addr, W.var? Tryz.prog "loop.example/g00336/impl.errText" = some #[.iface 323 (.pointer (some a))] := by
  have h1 : laidMet Tryz.prog Rows.fnExactReadSuperRow.laid W := h
  have h2 : laidMet Tryz.prog (("math/bits.deBruijn64tab", Lib.tabData .u8 (tabR Rows.laid_math_bits_deBruijn64tab)) :: ("internal/strconv.uint64pow10", Lib.tabData .u64 Lib.pow10Tab) :: ("unicode/utf8.acceptRanges", Rows.laid_unicode_utf8_acceptRanges) :: ("strconv.ErrRange", Rows.laid_strconv_ErrRange) :: ("strconv.ErrSyntax", .iface "*errors.errorString" (.ptr (.agg [.lit (.string [105, 110, 118, 97, 108, 105, 100, 32, 115, 121, 110, 116, 97, 120])]))) :: ("loop.example/g00336/impl.errText", .iface "*errors.errorString" (.ptr (.agg [.lit (.string [116, 104, 101, 32, 116, 101, 120, 116, 32, 105, 115, 32, 110, 111, 110, 101, 32, 111, 102, 32, 97, 32, 114, 105, 103, 104, 116, 32, 112, 111, 111, 108])]))) :: [("unicode/utf8.first", Rows.laid_unicode_utf8_first)]) W := laidMet.tail h1
  have h3 := laidMet.tail h2
  have h6 := laidMet.tail (laidMet.tail (laidMet.tail h3))
  have h7 := laidMet.tail h6
  have g2 : Tryz.prog.globalNamed "math/bits.deBruijn64tab" = some 8 := by kernel_rfl
  have t2 : Lib.TabIs Tryz.prog W "math/bits.deBruijn64tab" .u8 (tabR Rows.laid_math_bits_deBruijn64tab) := Lib.tabIs_of_head (n := 64) (e := 5) (t := 337) (g := 8) g2 (by kernel_rfl) (by kernel_rfl) Tryz.underlying5 (by kernel_rfl) (by kernel_rfl) h2
  have hsz := tabIs_ltR g2 t2 (by decide)
  have t3 : TabP W := Lib.tabIs_of_head (n := 20) (e := 274) (t := 301) (g := 2) (by kernel_rfl) (by kernel_rfl) (by kernel_rfl) (by kernel_rfl) (by kernel_rfl) (by kernel_rfl) h3
  obtain ⟨a1, s1, v1, _⟩ := laid_sentinel (ms := (Tryz.prog.underlying 75).elim #[] fun | .interface ms => ms | _ => #[]) (te := 325) (ts := 9) (f := ((Tryz.prog.underlying 325).elim #[] fun | .struct fs => fs | _ => #[])[0]!) h6 gSynR gSynTR (by kernel_rfl) rowR (by kernel_rfl) (by kernel_rfl) (by kernel_rfl) (by kernel_rfl) Tryz.underlying9 (by kernel_rfl) (by kernel_rfl)
  obtain ⟨a2, s2, v2, _⟩ := laid_sentinel (ms := (Tryz.prog.underlying 75).elim #[] fun | .interface ms => ms | _ => #[]) (te := 325) (ts := 9) (f := ((Tryz.prog.underlying 325).elim #[] fun | .struct fs => fs | _ => #[])[0]!) h7 gErrR gErrTR (by kernel_rfl) rowR (by kernel_rfl) (by kernel_rfl) (by kernel_rfl) (by kernel_rfl) Tryz.underlying9 (by kernel_rfl) (by kernel_rfl)
  obtain ⟨m, hm⟩ := int_of_shapeR (g := 1) (t := 3) (zero := #[.int .i64 0]) (k := .i64) hsh (by decide) (by kernel_rfl) rfl (by kernel_rfl) (by kernel_rfl) Tryz.underlying3
  exact ⟨⟨t3, ⟨323, _, by simpa using World.var?_cell gSynR v1 0⟩, ⟨323, _, by simpa using World.var?_cell gErrR v2 0⟩, ⟨m, hm⟩, hsz⟩, a2, v2⟩
theorem iface75R : Tryz.prog.underlying 75 = some (.interface ((Tryz.prog.underlying 75).elim #[] fun | .interface ms => ms | _ => #[])) := by kernel_rfl
theorem var_lowR {w w' : World} {cs : Array Value} (h : w.var? Tryz.prog "loop.example/g00336/impl.errText" = some cs) (hb : Below w.heap.size w w') (hg : 9 ≤ w.heap.size) : w'.var? Tryz.prog "loop.example/g00336/impl.errText" = some cs := by
  unfold World.var? at h ⊢
  rw [gErrR] at h ⊢
  simp only [Option.bind_some] at h ⊢
  rw [hb.block _ (by omega)]
  exact h
set_option maxRecDepth 100000 in
theorem liftedReadSuper (os : Os) (started : os.Started) (H : Type) (enc : TypeId × Value → H) :
    ReturnsInHanded {} Tryz.checked os 5 .any (fun w args => (Rows.fnExactReadSuperSpec.pre enc Tryz.prog Tryz.f5 [] false w args ∧ laidMetH Tryz.prog Rows.fnExactReadSuperRow.laid w) ∧ sizedMet enc Tryz.prog Tryz.f5 (OpenSpec.ofChange Rows.fnExactReadSuperSpec) false w args)
      (Rows.fnExactReadSuperSpec.post enc Tryz.prog Tryz.f5 false true false false) := by
  refine returns_shapedR (C := Tryz.checked) (X := fun w _ => laidMetH Tryz.prog Rows.fnExactReadSuperRow.laid w) (fun _ _ _ hh h => h.of_heap hh) own started (by kernel_rfl) Tryz.func5
    (ChangeSpec.witness_shaped (enc := enc) (C := Tryz.checked) (os := os) (X := fun w _ => laidMetH Tryz.prog Rows.fnExactReadSuperRow.laid w) false (World.laidAll Tryz.prog os Rows.fnExactReadSuperRow.laid) #[.string ⟨#[]⟩] 8 (World.laidAll_os _ _ _)
      (World.shaped_of_ZipB (by kernel_rfl) (by kernel_rfl)) (by kernel_rfl) (by kernel_rfl) (by kernel_rfl)
      (by rw [MakeChecks.laidMetH_plain _ _ _ (by kernel_rfl)]; exact laidMet_laidAll _ (by kernel_rfl) (by kernel_rfl))) ?_
  intro W base args ds gs before hval0 hW hL hsh
  have hval : ∀ (j : Nat) t v, Tryz.f5.params[j]? = some t → args[j]? = some v → Value.okWide Tryz.prog W .any base t v := hval0
  have hW' := hW
  obtain ⟨p, q, hA0, hV0, rfl, _, _⟩ := hW
  have hA : DataW.TrodAll enc Tryz.prog W 0 (fun _ => true) true Tryz.f5.params.toList args.toList ds p := hA0
  have hV : DataW.TrodVars enc Tryz.prog W (fun _ => true) ["loop.example/g00336/impl.errText"] gs q := hV0
  rw [Tryz.params5] at hA hval
  obtain ⟨v0, vs0, d0, ds0, p0, q0, hargs, rfl, rfl, h0, r0⟩ := trodAll_cons hA
  obtain ⟨rfl, rfl, rfl⟩ := trodAll_nil r0
  obtain rfl : args = #[v0] := by cases args; simp_all
  obtain ⟨hG, a, hv⟩ := glb_ofR hL hsh
  obtain ⟨rfl, rfl⟩ := hV.unique (vars_read1 enc gErrR gErrTR iface75R hv trivial _)
  clear hA0 hV0 hval0
  obtain ⟨s, rfl, rfl, rfl, hs⟩ := open_string Tryz.underlying9 (hval 0 9 v0 rfl rfl) h0
  refine (walkReadSuper s W (by unfold maxLen at hs; omega) hG).mono fun e W' ⟨he, hB⟩ => ?_
  subst he
  exact ⟨_, rfl, ⟨_, _, _, [], [], [.cell 0 0], hW', trodAll_mk1 (shut_bool Tryz.underlying4 _), trodAll_mk1 (shut_string Tryz.underlying9 hs), vars_read1 enc gErrR gErrTR iface75R (var_lowR hv hB hG.sz) trivial _, hB.frame _, fun h => by cases h⟩⟩
theorem holdsReadSuper : Rows.FnExactReadSuperSaid :=
  OpenClaim.holds_of_wide 5 Tryz.f5 rfl rfl rfl rfl rfl rfl rfl ⟨rfl, rfl, rfl, rfl, rfl⟩ rfl rfl rfl rfl rfl (by kernel_rfl) Tryz.func5 (joined_of (by kernel_rfl) (by kernel_rfl) (by kernel_rfl) (by kernel_rfl) rfl rfl rfl (by kernel_rfl))
    (of_decide_eq_true (by kernel_rfl)) (by unfold Func.isWrapper; first | (rw [if_pos (by decide +kernel)]; kernel_rfl) | (rw [if_neg (by decide +kernel)]; exact ⟨rfl, rfl⟩))
    (fun os started H enc _ => liftedReadSuper os started H enc)
end Go.Proofs.YtigldeccfpkdmaaGreatDoor
namespace Go.Proofs.YtigldeccfpkdmaaGreatDoor
open Go.ChangeShapes Go.WideShapes Go.ChangeAt Go.RowKit Go.Deep Go.Joins
theorem cardReadSuper : Rows.FnExactReadSuperCardSaid :=
  Claim7.holds_tied_plain_at .later [] [.data, .data, .data, .data, .sentinel, .sentinel, .sentinel, .pinned] true Rows.fnExactReadSuperCard.stood.harness true
    holdsReadSuper (fun _ h => by cases h) (by kernel_rfl) (fun _ h => by cases h) fnExactReadSuper_row_tie rfl ⟨rfl, rfl⟩ (by kernel_rfl) rfl
    (fun f fn hf hfn => by
      obtain rfl : f = 5 := Option.some.inj ((show Tryz.prog.funcNamed "loop.example/g00336/laws.FnExactReadSuper" = some 5 by kernel_rfl).symm.trans hf) |>.symm
      obtain rfl : fn = Tryz.f5 := (Option.some.inj (Tryz.func5.symm.trans hfn)).symm
      exact ⟨by kernel_rfl, fun j t ht => by
        rw [Tryz.params5] at ht
        have h3 : t = 9 := by
          rcases j with _ | j
          · simpa using ht.symm
          · simp at ht
        subst h3
        exact (show Tryz.prog.wantsStandIn 9 = false by kernel_rfl)⟩)
    (by kernel_rfl)
end Go.Proofs.YtigldeccfpkdmaaGreatDoor
