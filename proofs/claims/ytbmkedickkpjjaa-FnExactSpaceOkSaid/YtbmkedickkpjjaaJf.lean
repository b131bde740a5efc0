/- What the program's own head says: read word by word, so that the kernel need not hold it all. -/
import Derived.Test.YtbmkedickkpjjaaRows
import Derived.Test.YtbmkedickkpjjaaOpen
namespace Go.Proofs.Ytbmkedickkpjjaa
open Go.ChangeShapes Go.WideShapes Go.ChangeAt Go.RowKit Go.Deep

theorem ws_app : ∀ (s r : List Char), s.all (fun c => !(c == Char.ofNat 32)) = true → wordsSigns (s ++ Char.ofNat 32 :: r) = s :: wordsSigns r
  | [], r, _ => rfl
  | c :: s, r, h => by
    simp only [List.all_cons, Bool.and_eq_true, Bool.not_eq_true', beq_eq_false_iff_ne] at h
    have ih := ws_app s r h.2
    have hc : c ≠ Char.ofNat 32 := h.1
    rw [List.cons_append]
    conv => lhs; unfold wordsSigns
    split
    · rename_i e; simp at e
    · rename_i e; simp at e; exact absurd e.1 hc
    · rename_i e
      simp at e
      obtain ⟨rfl, rfl⟩ := e
      rw [ih]

def headRest : List Nat := [97, 116, 32, 108, 111, 111, 112, 46, 101, 120, 97, 109, 112, 108, 101, 47, 103, 48, 48, 51, 51, 54, 47, 108, 97, 119, 115, 46, 70, 110, 80, 108, 97, 99, 101, 100, 32, 108, 111, 111, 112, 46, 101, 120, 97, 109, 112, 108, 101, 47, 103, 48, 48, 51, 51, 54, 47, 108, 97, 119, 115, 46, 70, 110, 76, 105, 102, 116, 101, 100, 32, 108, 111, 111, 112, 46, 101, 120, 97, 109, 112, 108, 101, 47, 103, 48, 48, 51, 51, 54, 47, 108, 97, 119, 115, 46, 70, 110, 83, 108, 105, 99, 101, 100, 32, 108, 111, 111, 112, 46, 101, 120, 97, 109, 112, 108, 101, 47, 103, 48, 48, 51, 51, 54, 47, 108, 97, 119, 115, 46, 70, 110, 74, 111, 105, 110, 101, 100, 32, 108, 111, 111, 112, 46, 101, 120, 97, 109, 112, 108, 101, 47, 103, 48, 48, 51, 51, 54, 47, 108, 97, 119, 115, 46, 70, 110, 76, 97, 105, 100, 80, 97, 114, 116, 115, 32, 108, 111, 111, 112, 46, 101, 120, 97, 109, 112, 108, 101, 47, 103, 48, 48, 51, 51, 54, 47, 108, 97, 119, 115, 46, 70, 110, 67, 111, 110, 116, 101, 110, 116, 32, 108, 111, 111, 112, 46, 101, 120, 97, 109, 112, 108, 101, 47, 103, 48, 48, 51, 51, 54, 47, 108, 97, 119, 115, 46, 70, 110, 77, 101, 114, 103, 101, 100, 32, 108, 111, 111, 112, 46, 101, 120, 97, 109, 112, 108, 101, 47, 103, 48, 48, 51, 51, 54, 47, 108, 97, 119, 115, 46, 70, 110, 70, 108, 117, 115, 104, 101, 100, 32, 108, 111, 111, 112, 46, 101, 120, 97, 109, 112, 108, 101, 47, 103, 48, 48, 51, 51, 54, 47, 108, 97, 119, 115, 46, 70, 110, 79, 119, 110, 101, 114, 115, 32, 108, 111, 111, 112, 46, 101, 120, 97, 109, 112, 108, 101, 47, 103, 48, 48, 51, 51, 54, 47, 108, 97, 119, 115, 46, 70, 110, 80, 111, 111, 108, 78, 101, 119, 32, 108, 111, 111, 112, 46, 101, 120, 97, 109, 112, 108, 101, 47, 103, 48, 48, 51, 51, 54, 47, 108, 97, 119, 115, 46, 70, 110, 69, 120, 97, 99, 116, 83, 112, 97, 99, 101, 79, 107, 32, 108, 111, 111, 112, 46, 101, 120, 97, 109, 112, 108, 101, 47, 103, 48, 48, 51, 51, 54, 47, 108, 97, 119, 115, 46, 70, 110, 69, 120, 97, 99, 116, 82, 111, 111, 109, 79, 102, 32, 108, 111, 111, 112, 46, 101, 120, 97, 109, 112, 108, 101, 47, 103, 48, 48, 51, 51, 54, 47, 108, 97, 119, 115, 46, 70, 110, 69, 120, 97, 99, 116, 71, 97, 112, 115, 79, 102, 32, 108, 111, 111, 112, 46, 101, 120, 97, 109, 112, 108, 101, 47, 103, 48, 48, 51, 51, 54, 47, 108, 97, 119, 115, 46, 70, 110, 69, 120, 97, 99, 116, 80, 108, 97, 99, 101, 100, 32, 108, 111, 111, 112, 46, 101, 120, 97, 109, 112, 108, 101, 47, 103, 48, 48, 51, 51, 54, 47, 108, 97, 119, 115, 46, 70, 110, 69, 120, 97, 99, 116, 76, 105, 102, 116, 101, 100, 32, 108, 111, 111, 112, 46, 101, 120, 97, 109, 112, 108, 101, 47, 103, 48, 48, 51, 51, 54, 47, 108, 97, 119, 115, 46, 70, 110, 69, 120, 97, 99, 116, 80, 97, 114, 116, 115, 79, 107, 32, 108, 111, 111, 112, 46, 101, 120, 97, 109, 112, 108, 101, 47, 103, 48, 48, 51, 51, 54, 47, 108, 97, 119, 115, 46, 70, 110, 69, 120, 97, 99, 116, 76, 101, 110, 79, 102, 32, 108, 111, 111, 112, 46, 101, 120, 97, 109, 112, 108, 101, 47, 103, 48, 48, 51, 51, 54, 47, 108, 97, 119, 115, 46, 70, 110, 69, 120, 97, 99, 116, 83, 108, 105, 99, 101, 32, 108, 111, 111, 112, 46, 101, 120, 97, 109, 112, 108, 101, 47, 103, 48, 48, 51, 51, 54, 47, 108, 97, 119, 115, 46, 70, 110, 69, 120, 97, 99, 116, 74, 111, 105, 110, 101, 100, 32, 108, 111, 111, 112, 46, 101, 120, 97, 109, 112, 108, 101, 47, 103, 48, 48, 51, 51, 54, 47, 108, 97, 119, 115, 46, 70, 110, 69, 120, 97, 99, 116, 76, 97, 105, 100, 32, 108, 111, 111, 112, 46, 101, 120, 97, 109, 112, 108, 101, 47, 103, 48, 48, 51, 51, 54, 47, 108, 97, 119, 115, 46, 70, 110, 69, 120, 97, 99, 116, 67, 111, 110, 116, 101, 110, 116, 32, 108, 111, 111, 112, 46, 101, 120, 97, 109, 112, 108, 101, 47, 103, 48, 48, 51, 51, 54, 47, 108, 97, 119, 115, 46, 70, 110, 69, 120, 97, 99, 116, 79, 119, 110, 101, 114, 65, 104, 101, 97, 100, 32, 108, 111, 111, 112, 46, 101, 120, 97, 109, 112, 108, 101, 47, 103, 48, 48, 51, 51, 54, 47, 108, 97, 119, 115, 46, 70, 110, 69, 120, 97, 99, 116, 82, 101, 102, 115, 79, 107, 32, 108, 111, 111, 112, 46, 101, 120, 97, 109, 112, 108, 101, 47, 103, 48, 48, 51, 51, 54, 47, 108, 97, 119, 115, 46, 70, 110, 69, 120, 97, 99, 116, 76, 97, 116, 101, 79, 107, 32, 108, 111, 111, 112, 46, 101, 120, 97, 109, 112, 108, 101, 47, 103, 48, 48, 51, 51, 54, 47, 108, 97, 119, 115, 46, 70, 110, 69, 120, 97, 99, 116, 77, 101, 114, 103, 101, 100, 32, 108, 111, 111, 112, 46, 101, 120, 97, 109, 112, 108, 101, 47, 103, 48, 48, 51, 51, 54, 47, 108, 97, 119, 115, 46, 70, 110, 69, 120, 97, 99, 116, 70, 108, 117, 115, 104, 101, 100, 32, 108, 111, 111, 112, 46, 101, 120, 97, 109, 112, 108, 101, 47, 103, 48, 48, 51, 51, 54, 47, 108, 97, 119, 115, 46, 70, 110, 69, 120, 97, 99, 116, 78, 97, 109, 101, 79, 107, 32, 108, 111, 111, 112, 46, 101, 120, 97, 109, 112, 108, 101, 47, 103, 48, 48, 51, 51, 54, 47, 108, 97, 119, 115, 46, 70, 110, 69, 120, 97, 99, 116, 80, 111, 111, 108, 78, 101, 119]
def headSum : List Nat := [57, 101, 101, 101, 97, 48, 55, 98, 56, 53, 100, 98, 55, 49, 57, 51, 50, 50, 97, 57, 53, 56, 49, 53, 98, 56, 98, 102, 102, 52, 101, 52, 52, 51, 54, 97, 52, 102, 99, 51, 56, 97, 54, 99, 56, 49, 53, 52, 102, 102, 53, 48, 55, 97, 50, 53, 52, 54, 56, 100, 55, 49, 53, 100]
theorem headIs : Try.prog.initOrder = String.ofList ([104, 97, 114, 110, 101, 115, 115].map Char.ofNat ++ Char.ofNat 32 :: (headSum.map Char.ofNat ++ Char.ofNat 32 :: ([99, 117, 116].map Char.ofNat ++ Char.ofNat 32 :: headRest.map Char.ofNat))) := by kernel_rfl
theorem headWords : behindMainWord (wordsSigns Try.prog.initOrder.toList) = "cut".toList :: wordsSigns (headRest.map Char.ofNat) := by
  rw [headIs, String.toList_ofList, ws_app _ _ (by decide +kernel), ws_app _ _ (by decide +kernel), ws_app _ _ (by decide +kernel)]
  dsimp only [behindMainWord]
  rw [if_pos (by decide +kernel)]
  rfl

theorem strip_cut (rr : List (List Char)) : stripLifts liftWords ("cut".toList :: rr) = ([], "cut".toList :: rr) := by
  simp only [liftWords]
  repeat (rw [stripLifts, if_neg (by decide +kernel)])
  rfl
theorem mayEnter_of {P : Program} {rr : List (List Char)} (h : behindMainWord (wordsSigns P.initOrder.toList) = "cut".toList :: rr) (h1 : P.laysLater = false) (h2 : P.bearsReflect = false) (h3 : P.doorFits [] = true) : P.mayEnter = true := by
  unfold Program.mayEnter
  rw [h]
  dsimp only
  rw [strip_cut]
  have e1 : ("cut".toList == "gc".toList) = false := by decide +kernel
  have e2 : ("cut".toList == "spec".toList) = false := by decide +kernel
  have e3 : ("cut".toList == "carried".toList) = false := by decide +kernel
  rw [e1, e2, e3, h1, h2, h3]
  rfl
theorem lifts_of {P : Program} {rr : List (List Char)} (h : behindMainWord (wordsSigns P.initOrder.toList) = "cut".toList :: rr) : P.headLifts = [] := by
  unfold Program.headLifts
  rw [h, strip_cut]
  rfl
theorem final_of {P : Program} {rr : List (List Char)} (h : behindMainWord (wordsSigns P.initOrder.toList) = "cut".toList :: rr) : P.liftsFinal = false := by
  have hl := lifts_of h
  unfold Program.liftsFinal
  rw [h, hl]
  have e3 : (("cut".toList :: rr).head? == some "carried".toList) = false := by
    show (some "cut".toList == some "carried".toList) = false
    decide +kernel
  dsimp only
  rw [e3]
  rfl
theorem make_of {P : Program} {rr : List (List Char)} (h : behindMainWord (wordsSigns P.initOrder.toList) = "cut".toList :: rr) : P.make = some .cut := by
  unfold Program.make
  rw [h]
  dsimp only
  rw [if_neg (by decide +kernel), if_pos]
  have : ("cut".toList == "cut".toList) = true := by decide +kernel
  rw [this]
  rfl

theorem mayEnterIs : Try.prog.mayEnter = true := mayEnter_of headWords (by kernel_rfl) (by kernel_rfl) (by kernel_rfl)
theorem finalIs : Try.prog.liftsFinal = false := final_of headWords
theorem makeIs : Try.prog.make = some .cut := make_of headWords
end Go.Proofs.Ytbmkedickkpjjaa
