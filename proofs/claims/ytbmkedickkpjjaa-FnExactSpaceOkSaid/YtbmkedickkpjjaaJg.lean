/- The closed facts that a row asks of the program, with those of the program's head apart. -/
import Derived.Test.YtbmkedickkpjjaaJf
import Derived.JoinedOf
namespace Go.Proofs.Ytbmkedickkpjjaa
open Go.ChangeShapes Go.WideShapes Go.ChangeAt Go.RowKit Go.Deep

def restA (P : Program) (fn : Func) (s : ChangeSpec) (c : OpenClaim) : Bool :=
  c.wf (OpenSpec.ofChange s) && fn.params.all (P.readableRec ·) && namedTie P c.named s.vars && (c.stops == []) && (c.knobs == []) &&
  (c.maps == (fn.params.toList ++ s.plain.varTypes P).any (P.mapsRec ·)) && (c.ifaces == (fn.params.toList ++ s.plain.varTypes P).any (P.ifacesRec ·)) && (c.mapsOut == P.mapsAmong fn.resultTypes.toList) &&
  (c.loops == (fn.params.toList ++ s.plain.varTypes P).any (P.loopsFrom ·)) && (c.wideKeys == (fn.params.toList ++ s.plain.varTypes P ++ fn.resultTypes.toList).any (P.wideKeysFrom ·)) &&
  s.vars.all (P.varReadable ·) && fn.resultTypes.all (fun t => P.readableRec t && decide (t < P.types.size)) && (c.ifacesOut == fn.resultTypes.toList.any (P.ifacesRec ·)) && (c.loopsOut == fn.resultTypes.toList.any (P.loopsFrom ·)) && c.shortTexts.isNone && (c.kinds == (if c.domain.isEmpty then [] else fn.params.toList.map fun t => match P.underlying t with | some (.int k) => some k | _ => none)) && (c.pinned == c.pinnedBy) &&
  (c.veiled == (fn.params.toList ++ s.plain.varTypes P ++ fn.resultTypes.toList).any (P.veiledRec ·)) && c.veiledFits P fn.params.toList (fn.params.toList ++ s.plain.varTypes P ++ fn.resultTypes.toList)

theorem joined_gen {P : Program} {f : FuncId} {fn : Func} {s : ChangeSpec} {c : OpenClaim} (h2 : laidOutB P = true) (h3 : mapsRowed P = true) (h7 : (P.stops == []) = true) (h9 : (P.stopKnobs == []) = true) (h10 : (c.inPlace == P.inPlace f) = true) (h11 : (c.unfollowed == P.unfollowed f) = true) (h12 : (c.recurses == P.recurses f) = true) (h13 : (c.named == P.varsNamed f) = true)
    (h23 : (c.plainKeys == P.plainKeys) = true) (h25 : P.stopsHeard = true) (h26 : P.mayEnter = true) (h27 : (c.lifted == P.liftsFinal) = true) (h28 : (P.make == some c.make) = true) (h : restA P fn s c = true) : joinedFacts P f fn s c = true := by
  simp only [restA, Bool.and_eq_true] at h
  obtain ⟨⟨⟨⟨⟨⟨⟨⟨⟨⟨⟨⟨⟨⟨⟨⟨⟨⟨a1, a4⟩, a5⟩, a6⟩, a8⟩, a14⟩, a15⟩, a16⟩, a17⟩, a18⟩, a19⟩, a20⟩, a21⟩, a22⟩, a24⟩, a29⟩, a30⟩, a31⟩, a32⟩ := h
  simp only [joinedFacts, Bool.and_eq_true]
  exact ⟨⟨⟨⟨⟨⟨⟨⟨⟨⟨⟨⟨⟨⟨⟨⟨⟨⟨⟨⟨⟨⟨⟨⟨⟨⟨⟨⟨⟨⟨⟨a1, h2⟩, h3⟩, a4⟩, a5⟩, a6⟩, h7⟩, a8⟩, h9⟩, h10⟩, h11⟩, h12⟩, h13⟩, a14⟩, a15⟩, a16⟩, a17⟩, a18⟩, a19⟩, a20⟩, a21⟩, a22⟩, h23⟩, a24⟩, h25⟩, h26⟩, h27⟩, h28⟩, a29⟩, a30⟩, a31⟩, a32⟩

theorem mapsRowedIs : mapsRowed Try.prog = true := by kernel_rfl
theorem stopsIs : (Try.prog.stops == []) = true := by kernel_rfl
theorem stopKnobsIs : (Try.prog.stopKnobs == []) = true := by kernel_rfl
theorem plainKeysIs : Try.prog.plainKeys = false := by kernel_rfl
theorem stopsHeardIs : Try.prog.stopsHeard = true := by kernel_rfl

theorem joined_of {f : FuncId} {fn : Func} {s : ChangeSpec} {c : OpenClaim} (h10 : (c.inPlace == Try.prog.inPlace f) = true) (h11 : (c.unfollowed == Try.prog.unfollowed f) = true) (h12 : (c.recurses == Try.prog.recurses f) = true) (h13 : (c.named == Try.prog.varsNamed f) = true)
    (h23 : c.plainKeys = false) (h27 : c.lifted = false) (h28 : c.make = .cut) (h : restA Try.prog fn s c = true) : joinedFacts Try.prog f fn s c = true :=
  joined_gen laidOut mapsRowedIs stopsIs stopKnobsIs h10 h11 h12 h13 (by rw [h23, plainKeysIs]; rfl) stopsHeardIs mayEnterIs (by rw [h27, finalIs]; rfl) (by rw [h28, makeIs]; rfl) h
end Go.Proofs.Ytbmkedickkpjjaa
