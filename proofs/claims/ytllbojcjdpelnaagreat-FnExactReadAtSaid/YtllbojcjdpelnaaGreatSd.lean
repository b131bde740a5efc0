/- Laid of the model. -/
import Derived.Test.YtllbojcjdpelnaaGreatProg
import Derived.Test.YtllbojcjdpelnaaGreatKi
namespace Go.Proofs.YtllbojcjdpelnaaGreat
open Go.RowKit Go.BigFrame

/-- l2Laid, as a plain function. -/
def laidJ (l : List Pt) (at' : Int) (m : List Pt) : List Pt :=
  joinL (joinL (if sumN l < at' then addL (joinL [] (slp 0 (min at' (sumN l)) 0 l)) ⟨0, 0, at' - sumN l⟩ else joinL [] (slp 0 (min at' (sumN l)) 0 l)) m) (joinL [] (slp (min (sumN l) (at' + sumN m)) (sumN l) 0 l))

def laidS (l : List Pt) (at' : Int) (m : List Pt) : Option (List Pt) := if (partsOkB l = true ∧ 0 ≤ at' ∧ at' ≤ 100 ∧ partsOkB m = true) ∧ partsOkB (laidJ l at' m) = true then some (laidJ l at' m) else none

end Go.Proofs.YtllbojcjdpelnaaGreat
