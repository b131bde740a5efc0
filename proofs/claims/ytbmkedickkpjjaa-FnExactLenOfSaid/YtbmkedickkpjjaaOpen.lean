/- How the laws' arguments, as they are read, lie in memory: lists of parts and of extents. -/
import Derived.Test.YtbmkedickkpjjaaProg
import Derived.Test.YtbmkedickkpjjaaBase
import Derived.Deep.Strs
import Derived.Deep.Slices
import Derived.SizedLaws
namespace Go.Proofs.Ytbmkedickkpjjaa
open Go.ChangeShapes Go.WideShapes Go.ChangeAt Go.RowKit Go.Deep

theorem laidOut : laidOutB Try.prog = true := by kernel_rfl
theorem own : ownKnob Try.prog.godebug = none := by kernel_rfl

/-- What a slice's cells say of its address. -/
theorem spotless {w : World} {a : Addr} {n : Nat} {v : Value} (h : w.cell? (a.add n) = some v) (hn : n = 0) : ∃ b o, a = ⟨b, o, none⟩ := by
  subst hn
  obtain ⟨b, off, spot⟩ := a
  have hspot : spot = none := by simpa [Addr.add] using World.cell?_spot h
  exact ⟨b, off, by rw [hspot]⟩

theorem cells90 : Try.prog.cellsOf 164 = 3 := by kernel_rfl

theorem c2 : Try.prog.cellsOf 2 = 1 := by kernel_rfl

set_option maxRecDepth 100000 in
/-- An argument that is a list of parts. -/
theorem open_pts {H : Type} {enc : TypeId × Value → H} {w : World} {spare : Nat → Bool} {held : Bool} {a : Option Addr} {n cap : Nat} {d : DataW H} {p : List MemPlace}
    (h : DataW.Trod enc Try.prog w 0 spare held 90 (.slice a n cap) d p) : n ≤ maxLen ∧ ∃ l : List Pt, PtsAt w a n l := by
  obtain ⟨fuel, hf⟩ := h
  rcases open_slice Try.underlying90 hf with ⟨hcs, _⟩ | ⟨ad, len, cap', m, n', D, Pl, hcs, _, hl, hm, hmm, _, hel⟩
  · simp [Value.cells] at hcs
    obtain ⟨rfl, rfl, rfl⟩ := hcs
    exact ⟨Nat.zero_le _, [], rfl, fun i x hx => by simp at hx⟩
  · simp [Value.cells] at hcs
    obtain ⟨rfl, rfl, rfl⟩ := hcs
    have hle : n ≤ m := by rw [hmm]; split <;> omega
    refine ⟨Nat.le_trans hl hm, ?_⟩
    have hone : ∀ i, i < n → ∃ q : Pt, ∀ j v, q.cs[j]? = some v → w.cell? (ad.add (i * 3 + j)) = some v := by
      intro i hi
      obtain ⟨cs', h1, h2⟩ := hel i (by omega)
      rw [cells90] at h1
      obtain ⟨_, hlen, hcell⟩ := World.cells?_some h1
      obtain ⟨y0, y1, y2, _, _, _, t0, t1, t2⟩ := trod_struct3 Try.underlying164 h2
      obtain ⟨z0, e0, _, _⟩ := DataW.trod_int Try.underlying2 t0
      obtain ⟨z1, e1, _, _⟩ := DataW.trod_int Try.underlying2 t1
      obtain ⟨z2, e2, _, _⟩ := DataW.trod_int Try.underlying2 t2
      match cs', hlen with
      | [x0, x1, x2], _ =>
        simp [c2] at e0 e1 e2
        subst e0 e1 e2
        refine ⟨⟨z0, z1, z2⟩, fun j v hv => ?_⟩
        have hj : j < 3 := by have := (List.getElem?_eq_some_iff.1 hv).1; simpa [Pt.cs] using this
        have := hcell j hj
        rw [Addr.add_add] at this
        rw [this]; exact hv
    have hinh : Inhabited Pt := ⟨⟨0, 0, 0⟩⟩
    obtain ⟨L, hL⟩ := choose_lt (α := Pt) (p := fun i q => ∀ j v, q.cs[j]? = some v → w.cell? (ad.add (i * 3 + j)) = some v) hone
    refine ⟨(List.range n).map L, by simp, fun i x hx => ?_⟩
    have hi : i < n := by have := (List.getElem?_eq_some_iff.1 hx).1; simpa using this
    simp [hi] at hx
    subst hx
    have h00 := hL 0 (by omega) 0 _ rfl
    obtain ⟨b, o, rfl⟩ := spotless h00 rfl
    exact ⟨b, o, rfl, fun j v hv => by have := hL i hi j v hv; rw [Addr.add_lit] at this; rw [Nat.add_assoc]; exact this⟩
end Go.Proofs.Ytbmkedickkpjjaa
