/- The laws' marks of texts, at a number that is told by an equation. -/
import Derived.Test.YtllbojcjdpelnaaGreatProg
import Derived.Test.YtllbojcjdpelnaaGreatMt
namespace Go.Proofs.YtllbojcjdpelnaaGreat
open Go.RowKit Go.BigFrame

theorem laws_markTextZ (k : Nat) (x : Int) (hx : x = k) (w : World) (h1 : 1 ≤ k) (h2 : k ≤ 100000000) :
    Calls Tryz.prog 48 #[.int .i64 x] w fun e w' => e = .returned (.string (markT k)) ∧ Below w.heap.size w w' := by
  subst hx; exact laws_markText k w h1 h2

end Go.Proofs.YtllbojcjdpelnaaGreat
