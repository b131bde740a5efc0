/- What the laws over pools have in common. -/
import Derived.Test.YtllbojcjdpelnaaGreatZv
import Derived.Test.YtllbojcjdpelnaaGreatKt
import Derived.Test.YtllbojcjdpelnaaGreatZh
namespace Go.Proofs.YtllbojcjdpelnaaGreat
open Go.RowKit Go.BigFrame

theorem SmallP.dim {p : Po} (h : SmallP p) : DimP p := by
  obtain ⟨h1, h2, h3, h4⟩ := h
  refine ⟨by have := h1.1; omega, h1.strs, by have := h2.1; omega, fun v hv => ?_, by have := h3.1; omega, h3.strs, by have := h4.1; omega, h4.strs⟩
  obtain ⟨a1, a2, a3⟩ := h2.2 v hv
  exact ⟨by omega, by omega, fun x hx => by have := a3 x hx; omega⟩
theorem PoolAt.cells {B : Nat} {w : World} {v : Value} {p : Po} (h : PoolAt B w v p) : ∃ ea en ec va vn vc ra rn rc la ln lc, v = .agg #[.int .i64 p.size, .int .i64 p.next, .slice ea en ec, .slice va vn vc, .slice ra rn rc, .slice la ln lc] := by
  obtain ⟨ea, en, ec, va, vn, vc, ra, rn, rc, la, ln, lc, rfl, _⟩ := h
  exact ⟨_, _, _, _, _, _, _, _, _, _, _, _, rfl⟩
/-- The six cells of a block that holds a pool. -/
theorem Blk.six {w : World} {b : Nat} {c0 c1 c2 c3 c4 c5 : Value} {t : TypeId} (h : Blk w b #[c0, c1, c2, c3, c4, c5] t) : w.cell? ⟨b, 0, none⟩ = some c0 ∧ w.cell? ⟨b, 1, none⟩ = some c1 ∧ w.cell? ⟨b, 2, none⟩ = some c2 ∧ w.cell? ⟨b, 3, none⟩ = some c3 ∧ w.cell? ⟨b, 4, none⟩ = some c4 ∧ w.cell? ⟨b, 5, none⟩ = some c5 :=
  ⟨h.cell 0, h.cell 1, h.cell 2, h.cell 3, h.cell 4, h.cell 5⟩
end Go.Proofs.YtllbojcjdpelnaaGreat
