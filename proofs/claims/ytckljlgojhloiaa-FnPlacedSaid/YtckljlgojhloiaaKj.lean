/- What the program's own head says: read word by word, so that the kernel need not hold it all. The closed facts that a row asks of the program, with those of the program's head apart. -/
import Derived.Test.YtckljlgojhloiaaRows
import Derived.Test.YtckljlgojhloiaaKi
import Derived.JoinedOf
namespace Go.Proofs.Ytckljlgojhloiaa
open Go.ChangeShapes Go.WideShapes Go.ChangeAt Go.RowKit Go.Deep

theorem ws_app : ∀ (s r : List Char), s.all (fun c => !(c == Char.ofNat 32)) = true → wordsSigns (s ++ Char.ofNat 32 :: r) = s :: wordsSigns r
  | [], r, _ => rfl
  | c :: s, r, h => by
    simp only [List.all_cons, Bool.and_eq_true, Bool.not_eq_true', beq_eq_false_iff_ne] at h
    have ih := ws_app s r h.2
    have hc : c ≠ Char.ofNat 32 := h.1
    rw [List.cons_append]
    conv => lhs; unfold wordsSigns
    split
    · rename_i e; simp at e
    · rename_i e; simp at e; exact absurd e.1 hc
    · rename_i e
      simp at e
      obtain ⟨rfl, rfl⟩ := e
      rw [ih]

def headRest : List Nat := [97, 116, 32, 108, 111, 111, 112, 46, 101, 120, 97, 109, 112, 108, 101, 47, 103, 48, 48, 51, 51, 54, 47, 108, 97, 119, 115, 46, 70, 110, 80, 108, 97, 99, 101, 100, 32, 108, 111, 111, 112, 46, 101, 120, 97, 109, 112, 108, 101, 47, 103, 48, 48, 51, 51, 54, 47, 108, 97, 119, 115, 46, 70, 110, 76, 105, 102, 116, 101, 100]
def headSum : List Nat := [49, 51, 99, 52, 56, 97, 52, 102, 50, 57, 51, 101, 51, 98, 100, 100, 100, 97, 54, 99, 99, 53, 57, 98, 99, 49, 97, 57, 102, 52, 50, 51, 49, 98, 51, 56, 51, 57, 98, 53, 100, 56, 51, 55, 56, 56, 57, 56, 102, 49, 55, 53, 52, 98, 97, 48, 54, 101, 98, 99, 102, 55, 54, 56]
theorem headIs : Try.prog.initOrder = String.ofList ([104, 97, 114, 110, 101, 115, 115].map Char.ofNat ++ Char.ofNat 32 :: (headSum.map Char.ofNat ++ Char.ofNat 32 :: ([99, 117, 116].map Char.ofNat ++ Char.ofNat 32 :: headRest.map Char.ofNat))) := by kernel_rfl
theorem headWords : behindMainWord (wordsSigns Try.prog.initOrder.toList) = "cut".toList :: wordsSigns (headRest.map Char.ofNat) := by
  rw [headIs, String.toList_ofList, ws_app _ _ (by decide +kernel), ws_app _ _ (by decide +kernel), ws_app _ _ (by decide +kernel)]
  dsimp only [behindMainWord]
  rw [if_pos (by decide +kernel)]
  rfl

theorem strip_cut (rr : List (List Char)) : stripLifts liftWords ("cut".toList :: rr) = ([], "cut".toList :: rr) := by
  simp only [liftWords]
  repeat (rw [stripLifts, if_neg (by decide +kernel)])
  rfl
theorem mayEnter_of {P : Program} {rr : List (List Char)} (h : behindMainWord (wordsSigns P.initOrder.toList) = "cut".toList :: rr) (h1 : P.laysLater = false) (h2 : P.bearsReflect = false) (h3 : P.doorFits [] = true) : P.mayEnter = true := by
  unfold Program.mayEnter
  rw [h]
  dsimp only
  rw [strip_cut]
  have e1 : ("cut".toList == "gc".toList) = false := by decide +kernel
  have e2 : ("cut".toList == "spec".toList) = false := by decide +kernel
  have e3 : ("cut".toList == "carried".toList) = false := by decide +kernel
  rw [e1, e2, e3, h1, h2, h3]
  rfl
theorem lifts_of {P : Program} {rr : List (List Char)} (h : behindMainWord (wordsSigns P.initOrder.toList) = "cut".toList :: rr) : P.headLifts = [] := by
  unfold Program.headLifts
  rw [h, strip_cut]
  rfl
theorem final_of {P : Program} {rr : List (List Char)} (h : behindMainWord (wordsSigns P.initOrder.toList) = "cut".toList :: rr) : P.liftsFinal = false := by
  have hl := lifts_of h
  unfold Program.liftsFinal
  rw [h, hl]
  have e3 : (("cut".toList :: rr).head? == some "carried".toList) = false := by
    show (some "cut".toList == some "carried".toList) = false
    decide +kernel
  dsimp only
  rw [e3]
  rfl
theorem make_of {P : Program} {rr : List (List Char)} (h : behindMainWord (wordsSigns P.initOrder.toList) = "cut".toList :: rr) : P.make = some .cut := by
  unfold Program.make
  rw [h]
  dsimp only
  rw [if_neg (by decide +kernel), if_pos]
  have : ("cut".toList == "cut".toList) = true := by decide +kernel
  rw [this]
  rfl

theorem mayEnterIs : Try.prog.mayEnter = true := mayEnter_of headWords (by kernel_rfl) (by kernel_rfl) (by kernel_rfl)
theorem finalIs : Try.prog.liftsFinal = false := final_of headWords
theorem makeIs : Try.prog.make = some .cut := make_of headWords
end Go.Proofs.Ytckljlgojhloiaa
namespace Go.Proofs.Ytckljlgojhloiaa
open Go.ChangeShapes Go.WideShapes Go.ChangeAt Go.RowKit Go.Deep

def restA (P : Program) (fn : Func) (s : ChangeSpec) (c : OpenClaim) : Bool :=
  c.wf (OpenSpec.ofChange s) && fn.params.all (P.readableRec ·) && namedTie P c.named s.vars && (c.stops == []) && (c.knobs == []) &&
  (c.maps == (fn.params.toList ++ s.plain.varTypes P).any (P.mapsRec ·)) && (c.ifaces == (fn.params.toList ++ s.plain.varTypes P).any (P.ifacesRec ·)) && (c.mapsOut == P.mapsAmong fn.resultTypes.toList) &&
  (c.loops == (fn.params.toList ++ s.plain.varTypes P).any (P.loopsFrom ·)) && (c.wideKeys == (fn.params.toList ++ s.plain.varTypes P ++ fn.resultTypes.toList).any (P.wideKeysFrom ·)) &&
  s.vars.all (P.varReadable ·) && fn.resultTypes.all (fun t => P.readableRec t && decide (t < P.types.size)) && (c.ifacesOut == fn.resultTypes.toList.any (P.ifacesRec ·)) && (c.loopsOut == fn.resultTypes.toList.any (P.loopsFrom ·)) && c.shortTexts.isNone && (c.kinds == (if c.domain.isEmpty then [] else fn.params.toList.map fun t => match P.underlying t with | some (.int k) => some k | _ => none)) && (c.pinned == c.pinnedBy) &&
  (c.veiled == (fn.params.toList ++ s.plain.varTypes P ++ fn.resultTypes.toList).any (P.veiledRec ·)) && c.veiledFits P fn.params.toList (fn.params.toList ++ s.plain.varTypes P ++ fn.resultTypes.toList)

theorem joined_gen {P : Program} {f : FuncId} {fn : Func} {s : ChangeSpec} {c : OpenClaim} (h2 : laidOutB P = true) (h3 : mapsRowed P = true) (h7 : (P.stops == []) = true) (h9 : (P.stopKnobs == []) = true) (h10 : (c.inPlace == P.inPlace f) = true) (h11 : (c.unfollowed == P.unfollowed f) = true) (h12 : (c.recurses == P.recurses f) = true) (h13 : (c.named == P.varsNamed f) = true)
    (h23 : (c.plainKeys == P.plainKeys) = true) (h25 : P.stopsHeard = true) (h26 : P.mayEnter = true) (h27 : (c.lifted == P.liftsFinal) = true) (h28 : (P.make == some c.make) = true) (h : restA P fn s c = true) : joinedFacts P f fn s c = true := by
  simp only [restA, Bool.and_eq_true] at h
  obtain ⟨⟨⟨⟨⟨⟨⟨⟨⟨⟨⟨⟨⟨⟨⟨⟨⟨⟨a1, a4⟩, a5⟩, a6⟩, a8⟩, a14⟩, a15⟩, a16⟩, a17⟩, a18⟩, a19⟩, a20⟩, a21⟩, a22⟩, a24⟩, a29⟩, a30⟩, a31⟩, a32⟩ := h
  simp only [joinedFacts, Bool.and_eq_true]
  exact ⟨⟨⟨⟨⟨⟨⟨⟨⟨⟨⟨⟨⟨⟨⟨⟨⟨⟨⟨⟨⟨⟨⟨⟨⟨⟨⟨⟨⟨⟨⟨a1, h2⟩, h3⟩, a4⟩, a5⟩, a6⟩, h7⟩, a8⟩, h9⟩, h10⟩, h11⟩, h12⟩, h13⟩, a14⟩, a15⟩, a16⟩, a17⟩, a18⟩, a19⟩, a20⟩, a21⟩, a22⟩, h23⟩, a24⟩, h25⟩, h26⟩, h27⟩, h28⟩, a29⟩, a30⟩, a31⟩, a32⟩

theorem mapsRowedIs : mapsRowed Try.prog = true := by kernel_rfl
theorem stopsIs : (Try.prog.stops == []) = true := by kernel_rfl
theorem stopKnobsIs : (Try.prog.stopKnobs == []) = true := by kernel_rfl
theorem plainKeysIs : Try.prog.plainKeys = true := by kernel_rfl
theorem stopsHeardIs : Try.prog.stopsHeard = true := by kernel_rfl

theorem joined_of {f : FuncId} {fn : Func} {s : ChangeSpec} {c : OpenClaim} (h10 : (c.inPlace == Try.prog.inPlace f) = true) (h11 : (c.unfollowed == Try.prog.unfollowed f) = true) (h12 : (c.recurses == Try.prog.recurses f) = true) (h13 : (c.named == Try.prog.varsNamed f) = true)
    (h23 : c.plainKeys = true) (h27 : c.lifted = false) (h28 : c.make = .cut) (h : restA Try.prog fn s c = true) : joinedFacts Try.prog f fn s c = true :=
  joined_gen laidOut mapsRowedIs stopsIs stopKnobsIs h10 h11 h12 h13 (by rw [h23, plainKeysIs]; rfl) stopsHeardIs mayEnterIs (by rw [h27, finalIs]; rfl) (by rw [h28, makeIs]; rfl) h
end Go.Proofs.Ytckljlgojhloiaa
