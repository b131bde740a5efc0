/- How the laws' arguments, as they are read, lie in memory: lists of extents. -/
import Derived.Test.YtbmkedickkpjjaaOpen
namespace Go.Proofs.Ytbmkedickkpjjaa
open Go.ChangeShapes Go.WideShapes Go.ChangeAt Go.RowKit Go.Deep

theorem cells82 : Try.prog.cellsOf 159 = 2 := by kernel_rfl
theorem c9 : Try.prog.cellsOf 9 = 1 := by kernel_rfl

set_option maxRecDepth 100000 in
/-- An argument that is a list of extents. -/
theorem open_exs {H : Type} {enc : TypeId × Value → H} {w : World} {spare : Nat → Bool} {held : Bool} {a : Option Addr} {n cap : Nat} {d : DataW H} {p : List MemPlace}
    (h : DataW.Trod enc Try.prog w 0 spare held 82 (.slice a n cap) d p) : n ≤ maxLen ∧ ∃ l : List Ex, ExsAt w a n l ∧ ∀ e ∈ l, e.d.size ≤ maxLen := by
  obtain ⟨fuel, hf⟩ := h
  rcases open_slice Try.underlying82 hf with ⟨hcs, _⟩ | ⟨ad, len, cap', m, n', D, Pl, hcs, _, hl, hm, hmm, _, hel⟩
  · simp [Value.cells] at hcs
    obtain ⟨rfl, rfl, rfl⟩ := hcs
    exact ⟨Nat.zero_le _, [], ⟨rfl, fun i x hx => by simp at hx⟩, by simp⟩
  · simp [Value.cells] at hcs
    obtain ⟨rfl, rfl, rfl⟩ := hcs
    have hle : n ≤ m := by rw [hmm]; split <;> omega
    refine ⟨Nat.le_trans hl hm, ?_⟩
    have hone : ∀ i, i < n → ∃ q : Ex, q.d.size ≤ maxLen ∧ ∀ j v, q.cs[j]? = some v → w.cell? (ad.add (i * 2 + j)) = some v := by
      intro i hi
      obtain ⟨cs', h1, h2⟩ := hel i (by omega)
      rw [cells82] at h1
      obtain ⟨_, hlen, hcell⟩ := World.cells?_some h1
      obtain ⟨y0, y1, _, _, _, t0, t1⟩ := trod_struct2 Try.underlying159 h2
      obtain ⟨z0, e0, _, _⟩ := DataW.trod_int Try.underlying2 t0
      obtain ⟨z1, e1, _, hz⟩ := DataW.trod_string Try.underlying9 t1
      match cs', hlen with
      | [x0, x1], _ =>
        simp [c2, c9] at e0 e1
        subst e0 e1
        refine ⟨⟨z0, z1⟩, hz, fun j v hv => ?_⟩
        have hj : j < 2 := by have := (List.getElem?_eq_some_iff.1 hv).1; simpa [Ex.cs] using this
        have := hcell j hj
        rw [Addr.add_add] at this
        rw [this]; exact hv
    have hinh : Inhabited Ex := ⟨⟨0, .empty⟩⟩
    obtain ⟨L, hL⟩ := choose_lt (α := Ex) (p := fun i q => q.d.size ≤ maxLen ∧ ∀ j v, q.cs[j]? = some v → w.cell? (ad.add (i * 2 + j)) = some v) hone
    refine ⟨(List.range n).map L, ⟨by simp, fun i x hx => ?_⟩, ?_⟩
    · have hi : i < n := by have := (List.getElem?_eq_some_iff.1 hx).1; simpa using this
      simp [hi] at hx
      subst hx
      have h00 := (hL 0 (by omega)).2 0 _ rfl
      obtain ⟨b, o, rfl⟩ := spotless h00 rfl
      exact ⟨b, o, rfl, fun j v hv => by have := (hL i hi).2 j v hv; rw [Addr.add_lit] at this; rw [Nat.add_assoc]; exact this⟩
    · intro e he
      obtain ⟨i, hi, rfl⟩ := List.mem_map.1 he
      exact (hL i (by simpa using hi)).1
end Go.Proofs.Ytbmkedickkpjjaa
