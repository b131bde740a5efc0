/- Lines by their first word. -/
import Derived.Test.YtigldeccfpkdmaaGreatDoorCReadPoolx12
namespace Go.Proofs.YtigldeccfpkdmaaGreatDoor
open Go Go.RowKit Go.BigFrame
/-- The number of the last item of the last volume, -1 where there is none. -/
def lastX (vr : List VR) : Int := match vr.getLast? with
  | none => -1
  | some r => (r.n : Int) - 1
theorem vr_at {w : World} {B n c i : Nat} {a : Option Addr} {l : List VR} {r : VR} (h : ResAt VR.cs 4 tV w B a n c l) (hi : l[i]? = some r) : ∃ b, a = some ⟨b, 0, none⟩ ∧ B ≤ b ∧ w.cell? ⟨b, i * 4 + 3, none⟩ = some (.slice r.a r.n r.c) := by
  obtain ⟨b, o, ha, hc⟩ := h.sl.cell i r hi
  rcases h.own with ⟨h0, _⟩ | ⟨b', ha', hB, _⟩
  · rw [h0] at ha; cases ha
  · rw [ha'] at ha
    cases ha
    exact ⟨b, ha', hB, by have := hc 3 _ rfl; simpa using this⟩
theorem ir_at {w : World} {B n c i : Nat} {a : Option Addr} {l : List IR} {r : IR} (h : ResAt IR.cs 2 tI w B a n c l) (hi : l[i]? = some r) : ∃ b, a = some ⟨b, 0, none⟩ ∧ B ≤ b ∧ w.cell? ⟨b, i * 2 + 1, none⟩ = some (.slice r.a r.n r.c) := by
  obtain ⟨b, o, ha, hc⟩ := h.sl.cell i r hi
  rcases h.own with ⟨h0, _⟩ | ⟨b', ha', hB, _⟩
  · rw [h0] at ha; cases ha
  · rw [ha'] at ha
    cases ha
    exact ⟨b, ha', hB, by have := hc 1 _ rfl; simpa using this⟩
theorem last_snoc {α : Type} {l : List α} {n : Nat} (h : l.length = n + 1) : ∃ l' x, l = l' ++ [x] ∧ l'.length = n := by
  have hne : l ≠ [] := fun e => by subst e; simp at h
  refine ⟨l.dropLast, l.getLast hne, (List.dropLast_concat_getLast hne).symm, by simp [h]⟩
/-- Four kinds of lines. -/
def grpL (k : By) : Nat := if k = poolK then 0 else if k = exK then 0 else if k = volK then 0 else if k = fileK then 1 else if k = partK then 2 else if k = refK then 3 else if k = lateK then 3 else 0
end Go.Proofs.YtigldeccfpkdmaaGreatDoor
