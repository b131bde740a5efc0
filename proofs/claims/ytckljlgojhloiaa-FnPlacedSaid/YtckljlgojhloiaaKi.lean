/- How great a code may be. Sums of gaps; what Lifted and Placed answer, as one shape. How the laws' arguments, as they are read, lie in memory: lists of parts and of extents. How the drawn laws' argument, a slice of bytes, lies in memory. -/
import Derived.Test.YtckljlgojhloiaaProg
import Derived.Test.YtckljlgojhloiaaKa
import Derived.Test.YtckljlgojhloiaaKg
import Derived.Test.YtckljlgojhloiaaKh
import Derived.Deep.Strs
import Derived.Deep.Slices
import Derived.SizedLaws
namespace Go.Proofs.Ytckljlgojhloiaa
open Go.RowKit Go.BigFrame

theorem laws_bigC (a : Option Addr) (n cap : Nat) (w : World) (hn : n ≤ 9223372036854775807) :
    Calls Try.prog 5 #[.slice a n cap] w fun e w' => e = .returned (.bool (decide (1048576 < n))) ∧ w' = w := by
  go_enter Try.func5, Try.ntmps5
  go_wp2
  go_returns
  go_light
  refine ⟨ret_bool ?_, rfl⟩
  rw [Bool.eq_iff_iff]
  simp
  omega
end Go.Proofs.Ytckljlgojhloiaa
namespace Go.Proofs.Ytckljlgojhloiaa
open Go.RowKit Go.BigFrame

theorem retx_out {B : Nat} {e : Ending} {w' : World} {oo : Option (List Ex)} (h : RetExs B e w' oo) : ∃ a n cap, e = .returned (.tuple #[.slice a n cap, .bool oo.isSome]) ∧ ResAt Ex.cs 2 52 w' B a n cap (oo.getD []) := by
  cases oo with
  | none => exact ⟨none, 0, 0, h, res_nil⟩
  | some L => exact h
theorem retq_out {B : Nat} {e : Ending} {w' : World} {oo : Option (List Ex × Int)} (h : RetPl B e w' oo) : ∃ a n cap, e = .returned (.tuple #[.slice a n cap, .int .i64 ((oo.map (·.2)).getD 0), .bool oo.isSome]) ∧ ResAt Ex.cs 2 52 w' B a n cap ((oo.map (·.1)).getD []) := by
  cases oo with
  | none => exact ⟨none, 0, 0, h, res_nil⟩
  | some q => obtain ⟨L, x⟩ := q; exact h

/-- The sum of numbers. -/
def sI : List Int → Int
  | [] => 0
  | x :: r => x + sI r
theorem sI_app : ∀ a b : List Int, sI (a ++ b) = sI a + sI b
  | [], b => by simp [sI]
  | x :: r, b => by simp only [List.cons_append, sI, sI_app r b]; omega
theorem sI_pos : ∀ {l : List Int}, (∀ x ∈ l, 1 ≤ x) → 0 ≤ sI l
  | [], _ => by simp [sI]
  | x :: r, h => by have := h x (by simp); have := sI_pos (l := r) (fun y hy => h y (by simp [hy])); simp only [sI]; omega
theorem sI_gaps : ∀ l : List (Int × Int), sI (l.map (·.2)) = sumG l
  | [] => rfl
  | x :: r => by simp only [List.map_cons, sI, sumG, sI_gaps r]
theorem sI_take {l : List Int} {k : Nat} {x : Int} (h : l[k]? = some x) : sI (l.take (k + 1)) = sI (l.take k) + x := by rw [take_at h, sI_app]; simp [sI]
theorem sI_take_bd {l : List Int} (h : ∀ x ∈ l, 1 ≤ x) (k : Nat) : 0 ≤ sI (l.take k) ∧ sI (l.take k) ≤ sI l := by
  refine ⟨sI_pos (fun x hx => h x (List.mem_of_mem_take hx)), ?_⟩
  have h1 : sI l = sI (l.take k) + sI (l.drop k) := by rw [← sI_app, List.take_append_drop]
  have := sI_pos (l := l.drop k) (fun x hx => h x (List.mem_of_mem_drop hx))
  omega
theorem gaps_sum {size : Int} {l : List Ex} (h : spaceOkB size l = true) : (∀ x ∈ gapsV size l, 1 ≤ x) ∧ sI (gapsV size l) = size - sumD l ∧ 0 ≤ sumD l ∧ sumD l ≤ size ∧ size ≤ 400 ∧ (gapsV size l).length ≤ 61 := by
  obtain ⟨h1, h2, h3, h4⟩ := ok_parts h
  obtain ⟨q1, q2⟩ := ggo_facts h4 (by omega)
  rw [gapsV_sum h]
  have h5 := sumD_nonneg l
  have h6 := xgo_sum h4 (by omega)
  have hlen : ∀ {L : List Ex} {next : Int}, (ggo size next L).length ≤ L.length + 1 := by
    intro L
    induction L with
    | nil => intro next; rw [ggo]; split <;> simp
    | cons e r ih => intro next; rw [ggo]; have := ih (next := e.a + e.d.size); simp only [List.length_append, List.length_cons]; split <;> simp <;> omega
  refine ⟨fun x hx => ?_, by rw [sI_gaps, q2]; omega, h5, by omega, h2, ?_⟩
  · obtain ⟨y, hy, rfl⟩ := List.mem_map.1 hx
    exact q1 y hy
  · rw [List.length_map]
    have := hlen (L := l) (next := 1)
    omega
end Go.Proofs.Ytckljlgojhloiaa
namespace Go.Proofs.Ytckljlgojhloiaa
open Go.ChangeShapes Go.WideShapes Go.ChangeAt Go.RowKit Go.Deep

theorem laidOut : laidOutB Try.prog = true := by kernel_rfl
theorem own : ownKnob Try.prog.godebug = none := by kernel_rfl

/-- What a slice's cells say of its address. -/
theorem spotless {w : World} {a : Addr} {n : Nat} {v : Value} (h : w.cell? (a.add n) = some v) (hn : n = 0) : ∃ b o, a = ⟨b, o, none⟩ := by
  subst hn
  obtain ⟨b, off, spot⟩ := a
  have hspot : spot = none := by simpa [Addr.add] using World.cell?_spot h
  exact ⟨b, off, by rw [hspot]⟩

theorem c2 : Try.prog.cellsOf 2 = 1 := by kernel_rfl

end Go.Proofs.Ytckljlgojhloiaa
namespace Go.Proofs.Ytckljlgojhloiaa
open Go.ChangeShapes Go.WideShapes Go.ChangeAt Go.RowKit Go.Deep

theorem c5 : Try.prog.cellsOf 5 = 1 := by kernel_rfl

set_option maxRecDepth 100000 in
theorem open_code {H : Type} {enc : TypeId × Value → H} {w : World} {spare : Nat → Bool} {held : Bool} {a : Option Addr} {n cap : Nat} {d : DataW H} {p : List MemPlace}
    (h : DataW.Trod enc Try.prog w 0 spare held 22 (.slice a n cap) d p) : n ≤ maxLen ∧ CodeAt w a n := by
  obtain ⟨fuel, hf⟩ := h
  rcases open_slice Try.underlying22 hf with ⟨hcs, _⟩ | ⟨ad, len, cap', m, n', D, Pl, hcs, _, hl, hm, hmm, _, hel⟩
  · simp [Value.cells] at hcs
    obtain ⟨rfl, rfl, rfl⟩ := hcs
    exact ⟨Nat.zero_le _, fun i hi => by omega⟩
  · simp [Value.cells] at hcs
    obtain ⟨rfl, rfl, rfl⟩ := hcs
    have hle : n ≤ m := by rw [hmm]; split <;> omega
    refine ⟨Nat.le_trans hl hm, fun i hi => ?_⟩
    have hone : ∀ i, i < n → ∃ z : Int, 0 ≤ z ∧ z ≤ 255 ∧ w.cell? (ad.add i) = some (.int .u8 z) := by
      intro i hi
      obtain ⟨cs', h1, h2⟩ := hel i (by omega)
      rw [c5] at h1
      obtain ⟨_, hlen, hcell⟩ := World.cells?_some h1
      obtain ⟨z, e, _, hz⟩ := DataW.trod_int Try.underlying5 h2
      match cs', hlen with
      | [x0], _ =>
        simp at e
        subst e
        have hc := hcell 0 (by omega)
        rw [Addr.add_add] at hc
        have hz2 := bounds_u8 hz
        exact ⟨z, hz2.1, hz2.2, by simpa using hc⟩
    obtain ⟨z, h0, h1, hc⟩ := hone i hi
    obtain ⟨z', _, _, hc'⟩ := hone 0 (by omega)
    obtain ⟨b, o, rfl⟩ := spotless hc' rfl
    exact ⟨b, o, z, rfl, h0, h1, by rw [Addr.add_lit] at hc; exact hc⟩
end Go.Proofs.Ytckljlgojhloiaa
