/- Where an extent is placed: plain facts. -/
import Derived.Test.YtbmkedickkpjjaaGd
import Derived.Test.YtbmkedickkpjjaaWa
namespace Go.Proofs.Ytbmkedickkpjjaa
open Go.RowKit

/-- Placed, as a plain function, by the gaps that the program goes through. -/
def placedO (size : Int) (l : List Ex) (d : ByteArray) : Option (List Ex × Int) :=
  if spaceOkB size l = true ∧ dataOkB d = true ∧ l.length ≠ 60 then ((ggo size 1 l).find? (fun x => decide ((d.size : Int) ≤ x.2))).map (fun x => (withE l ⟨x.1, d⟩, x.1)) else none

/-- The model's rounds: the place, the byte that is free, the extents to come. -/
def pgoM (size m : Int) : Nat → Int → List Ex → Option (Nat × Int)
  | k, next, [] => if m ≤ size + 1 - next then some (k, next) else none
  | k, next, e :: r => if m ≤ e.a - next then some (k, next) else pgoM size m (k + 1) (e.a + e.d.size) r

theorem pgoM_find {size m : Int} (hm : 1 ≤ m) : ∀ {L : List Ex} {next : Int} (k : Nat), xgo size next L = true →
    ((ggo size next L).find? (fun x => decide (m ≤ x.2))).map (·.1) = (pgoM size m k next L).map (·.2)
  | [], next, k, _ => by
    rw [ggo, pgoM]
    by_cases h : m ≤ size + 1 - next
    · rw [if_pos (show next ≤ size by omega), if_pos h]; simp [h]
    · rw [if_neg h]
      split
      · simp [h]
      · rfl
  | e :: r, next, k, hx => by
    simp only [xgo, Bool.and_eq_true, decide_eq_true_eq] at hx
    obtain ⟨⟨⟨h1, h2⟩, h3⟩, h4⟩ := hx
    have ih := pgoM_find hm (k + 1) h4
    rw [ggo, pgoM]
    by_cases h : m ≤ e.a - next
    · rw [if_pos (show next < e.a by omega), if_pos h]; simp [h]
    · rw [if_neg h, ← ih]
      split
      · simp [h]
      · simp

/-- Where the model's round is, the extents ahead lie ahead of that byte, and those behind it behind. -/
theorem cnt_skip {size : Int} : ∀ {L : List Ex} {next : Int}, xgo size next L = true → ∀ addr, addr ≤ next → cntA addr L = 0
  | [], _, _, _, _ => rfl
  | e :: r, next, hx, addr, ha => by
    simp only [xgo, Bool.and_eq_true, decide_eq_true_eq] at hx
    rw [cntA, if_neg (by omega)]

theorem pgoM_cnt {size m : Int} (hm : 1 ≤ m) : ∀ {L : List Ex} {next : Int} (k : Nat), xgo size next L = true → ∀ j nx, pgoM size m k next L = some (j, nx) → next ≤ nx ∧ j = k + cntA nx L
  | [], next, k, _, j, nx, h => by
    rw [pgoM] at h
    split at h
    · cases h; exact ⟨Int.le_refl _, rfl⟩
    · cases h
  | e :: r, next, k, hx, j, nx, h => by
    have hx0 := hx
    simp only [xgo, Bool.and_eq_true, decide_eq_true_eq] at hx
    obtain ⟨⟨⟨h1, h2⟩, h3⟩, h4⟩ := hx
    rw [pgoM] at h
    split at h
    · cases h; exact ⟨Int.le_refl _, by rw [cnt_skip hx0 _ (Int.le_refl _)]; rfl⟩
    · obtain ⟨q1, q2⟩ := pgoM_cnt hm (k + 1) h4 j nx h
      have hp := dataOkB_pos h1
      refine ⟨by omega, ?_⟩
      rw [cntA, if_pos (by omega)]; omega

def placedM (size : Int) (l : List Ex) (d : ByteArray) : Option (List Ex × Int) :=
  if spaceOkB size l = true ∧ dataOkB d = true ∧ l.length ≠ 60 then (pgoM size d.size 0 1 l).map (fun x => (l.take x.1 ++ [⟨x.2, d⟩] ++ l.drop x.1, x.2)) else none

theorem placedM_eq (size : Int) (l : List Ex) (d : ByteArray) : placedM size l d = placedO size l d := by
  unfold placedM placedO
  by_cases h : spaceOkB size l = true ∧ dataOkB d = true ∧ l.length ≠ 60
  · rw [if_pos h, if_pos h]
    obtain ⟨h1, h2, h3⟩ := h
    obtain ⟨_, _, _, hx⟩ := ok_parts h1
    have hd := dataOkB_pos h2
    have e1 := pgoM_find (m := d.size) (by omega) 0 hx
    cases hp : pgoM size d.size 0 1 l with
    | none =>
      rw [hp] at e1
      cases hf : (ggo size 1 l).find? (fun x => decide ((d.size : Int) ≤ x.2)) with
      | none => rfl
      | some y => rw [hf] at e1; cases e1
    | some x =>
      obtain ⟨j, nx⟩ := x
      obtain ⟨q1, q2⟩ := pgoM_cnt (by omega) 0 hx j nx hp
      rw [hp] at e1
      cases hf : (ggo size 1 l).find? (fun x => decide ((d.size : Int) ≤ x.2)) with
      | none => rw [hf] at e1; cases e1
      | some y =>
        rw [hf] at e1
        simp at e1
        simp only [Option.map_some, withE]
        rw [e1, show cntA nx l = j by omega]
  · rw [if_neg h, if_neg h]
end Go.Proofs.Ytbmkedickkpjjaa
