/- What the laws of parts need: how long a content is, what answers are. -/
import Derived.Test.YtllbojcjdpelnaaGreatWk
import Derived.Test.YtllbojcjdpelnaaGreatKe
namespace Go.Proofs.YtllbojcjdpelnaaGreat
open Go.RowKit

theorem rets_outJ {e : Ending} {oo : Option ByteArray} (h : RetStr e oo) : e = .returned (.tuple #[.string (oo.getD ⟨#[]⟩), .bool oo.isSome]) := by
  cases oo <;> exact h
theorem joinedS_eq (l m : List Pt) : joinedS l m = joinedO l m := by rw [joined_eq]; rfl
theorem joinedO_len (l m : List Pt) : ((joinedO l m).getD []).length ≤ 16 := by
  rw [joined_eq]
  split
  · rename_i h
    exact (partsOkB_all h.2.2).1
  · simp
theorem cgo_sizeJ (e : List Ex) : ∀ (l : List Pt) (acc s : ByteArray), (∀ p ∈ l, 1 ≤ p.n ∧ p.n ≤ 100 ∧ (p.a ≠ 0 → 0 ≤ p.f ∧ p.f < 20)) → cgo e acc l = some s → (s.size : Int) = acc.size + sumN l
  | [], acc, s, _, h => by simp [cgo] at h; subst h; simp [sumN]
  | p :: r, acc, s, hp, h => by
    unfold cgo at h
    split at h
    · cases h
    · rename_i d hd
      obtain ⟨h1, _, h3⟩ := hp p (by simp)
      have hs := pieceO_size h1 (fun ha => (h3 ha).1) hd
      have := cgo_sizeJ e r (acc ++ d) s (fun q hq => hp q (by simp [hq])) h
      rw [ByteArray.size_append] at this
      simp only [sumN]
      omega
theorem content_lenJ {l : List Pt} {e : List Ex} {s : ByteArray} (h : contentO l e = some s) : (s.size : Int) = sumN l ∧ s.size ≤ 100 := by
  unfold contentO at h
  split at h
  · rename_i hh
    have := cgo_sizeJ e l _ s (parts_all hh.1).2 h
    have h0 : (((⟨#[]⟩ : ByteArray).size : Nat) : Int) = 0 := rfl
    have := (partsOkB_all hh.1).2.2
    omega
  · cases h
end Go.Proofs.YtllbojcjdpelnaaGreat
