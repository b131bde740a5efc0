/- Drawn extents for parts; what Content is tried at. -/
import Derived.Test.YtllbojcjdpelnaaGreatVc
import Derived.Maps.RangeWalk
namespace Go.Proofs.YtllbojcjdpelnaaGreat
open Go.RowKit Go.BigFrame

theorem strs_snoc {l : List Ex} {x : Ex} (h : Strs l) (hx : x.d.size ≤ 20) : Strs (l ++ [x]) := fun e he => by
  rcases List.mem_append.1 he with he | he
  · exact h e he
  · simp at he; subst he; omega
theorem Rd.grownO {w w' : World} {B : Nat} {row : Option Nat} (h : Rd w B) (hg : w.grownBy w' row) (hr : ∀ k, row = some k → B < k) : Rd w' B := by
  cases row with
  | some r => exact h.grown hg (hr r rfl)
  | none => exact h.grown (r := B + 1) (hg.but (some (B + 1))) (by omega)
theorem grown_row {w u w' : World} {B : Nat} {row : Option Nat} (h : w.grownBy u (some B)) (hg : u.grownBy w' row) (hr : ∀ k, row = some k → w.heap.size ≤ k) : w.grownBy w' (some B) :=
  h.andThen hg (fun j hj => .inl (hr j hj))

end Go.Proofs.YtllbojcjdpelnaaGreat
