/- The model's reader of drawn bytes: what it hands out lies within its bounds, and it turns nothing but its own block. -/
import Derived.Test.YtllbojcjdpelnaaGreatProg
import Derived.Test.YtllbojcjdpelnaaGreatKb
namespace Go.Proofs.YtllbojcjdpelnaaGreat
open Go.RowKit Go.BigFrame

/-- The slice holds bytes. -/
def CodeAt (w : World) (a : Option Addr) (n : Nat) : Prop := ∀ i, i < n → ∃ b o, ∃ v : Int, a = some ⟨b, o, none⟩ ∧ 0 ≤ v ∧ v ≤ 255 ∧ w.cell? ⟨b, o + i, none⟩ = some (.int .u8 v)

/-- Block B is a reader over such a slice, which lies elsewhere. -/
def Rd (w : World) (B : Nat) : Prop := ∃ a n cap p, ∃ t : TypeId, Blk w B #[.slice a n cap, .int .i64 ((p : Nat) : Int)] t ∧ p ≤ n ∧ n ≤ 1048576 ∧ CodeAt w a n ∧ ∀ ad, 0 < n → a = some ad → ad.block < B

theorem CodeAt.below {w w' : World} {a : Option Addr} {n : Nat} (h : CodeAt w a n) (hb : Below w.heap.size w w') : CodeAt w' a n := fun i hi => by
  obtain ⟨b, o, v, ha, h0, h1, hc⟩ := h i hi
  exact ⟨b, o, v, ha, h0, h1, bcell hb hc⟩
theorem CodeAt.grown {w w' : World} {a : Option Addr} {n r : Nat} (h : CodeAt w a n) (hg : w.grownBy w' (some r)) (hr : ∀ ad, 0 < n → a = some ad → ad.block ≠ r) : CodeAt w' a n := fun i hi => by
  obtain ⟨b, o, v, ha, h0, h1, hc⟩ := h i hi
  exact ⟨b, o, v, ha, h0, h1, hg.cell hc (by have := hr _ (by omega) ha; simpa using this)⟩
theorem Rd.below {w w' : World} {B : Nat} (h : Rd w B) (hb : Below w.heap.size w w') : Rd w' B := by
  obtain ⟨a, n, cap, p, t, h1, h2, h3, h4, h5⟩ := h
  exact ⟨a, n, cap, p, t, h1.below hb, h2, h3, h4.below hb, h5⟩
theorem Rd.grown {w w' : World} {B r : Nat} (h : Rd w B) (hg : w.grownBy w' (some r)) (hr : B < r) : Rd w' B := by
  obtain ⟨a, n, cap, p, t, h1, h2, h3, h4, h5⟩ := h
  exact ⟨a, n, cap, p, t, h1.grown hg (by omega), h2, h3, h4.grown hg (fun ad h0 had => by have := h5 ad h0 had; omega), h5⟩
theorem Rd.lt {w : World} {B : Nat} (h : Rd w B) : B < w.heap.size := by
  obtain ⟨a, n, cap, p, t, h1, _⟩ := h
  exact h1.lt

theorem grown_refl (w : World) (B : Nat) : w.grownBy w (some B) := World.grownBy.refl _ _

end Go.Proofs.YtllbojcjdpelnaaGreat
