/- What an answer of a list and a flag is to the laws. -/
import Derived.Test.YtllbojcjdpelnaaGreatKi
import Derived.Test.YtllbojcjdpelnaaGreatPj
namespace Go.Proofs.YtllbojcjdpelnaaGreat
open Go.RowKit

theorem ret_out {B : Nat} {e : Ending} {w' : World} {oo : Option (List Pt)} (h : RetPts B e w' oo) : ∃ a n cap, e = .returned (.tuple #[.slice a n cap, .bool oo.isSome]) ∧ ResAt Pt.cs 3 113 w' B a n cap (oo.getD []) := by
  cases oo with
  | none => exact ⟨none, 0, 0, h, res_nil⟩
  | some L => obtain ⟨a, n, cap, he, hr⟩ := h; exact ⟨a, n, cap, he, hr⟩

theorem outc_len {ps : List Pt} (h : ∀ p ∈ ps, 1 ≤ p.n) : ((outc (rowOf ps)).getD []).length ≤ 16 := by
  rw [outc_row h]
  split
  · rename_i h; exact h.2
  · simp

theorem OwnAt.arg {α : Type} {cs : α → List Value} {sz : Nat} {t : TypeId} {w : World} {b n : Nat} {l : List α} (_ : OwnAt cs sz t w b n l) (cap : Nat) : ArgOk (some ⟨b, 0, none⟩) cap := arg_own b cap
theorem OwnAt.blkLt {α : Type} {cs : α → List Value} {sz : Nat} {t : TypeId} {w : World} {b n : Nat} {l : List α} (h : OwnAt cs sz t w b n l) : ∀ ad, some (⟨b, 0, none⟩ : Addr) = some ad → ad.block < w.heap.size := fun ad had => by
  cases had; exact h.lt
theorem ResAt.grownO {α : Type} {cs : α → List Value} {sz : Nat} {t : TypeId} {w w' : World} {B n cap : Nat} {a : Option Addr} {l : List α} {row : Option Nat} (h : ResAt cs sz t w B a n cap l) (hg : w.grownBy w' row) (hr : ∀ ad, a = some ad → some ad.block ≠ row) : ResAt cs sz t w' B a n cap l := by
  refine ⟨h.sl.grownO hg hr, ?_⟩
  rcases h.own with h0 | ⟨b, ha, hB, h1, h2, c, hc, q⟩
  · exact .inl h0
  · refine .inr ⟨b, ha, hB, h1, h2, c, ?_, q⟩
    show w'.heap[b]? = _
    rw [hg.block b hc.lt (hr _ ha)]; exact hc
theorem sliceO_len (l : List Pt) (fr to : Int) : ((sliceO l fr to).getD []).length ≤ 16 := by
  unfold sliceO
  split
  · rename_i h
    exact outc_len (slp_bd fr to l 0 (fun p hp => (pos_of h.1 p hp).1)).1
  · simp
end Go.Proofs.YtllbojcjdpelnaaGreat
