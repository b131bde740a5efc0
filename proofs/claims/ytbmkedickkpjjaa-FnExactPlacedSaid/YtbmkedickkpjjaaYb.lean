/- Where an extent is lifted: what the program leaves is what the model leaves. -/
import Derived.Test.YtbmkedickkpjjaaYa
namespace Go.Proofs.Ytbmkedickkpjjaa
open Go.RowKit Go.BigFrame

theorem dataOkB_pos {d : ByteArray} (h : dataOkB d = true) : 1 ≤ d.size := by simp [dataOkB] at h; omega

theorem xgo_lift_none {size : Int} : ∀ {l : List Ex} {next addr : Int}, xgo size next l = true → addr < next → liftL addr l = l
  | [], _, _, _, _ => rfl
  | e :: r, next, addr, h, ha => by
    simp only [xgo, Bool.and_eq_true, decide_eq_true_eq] at h
    obtain ⟨⟨⟨h1, h2⟩, h3⟩, h4⟩ := h
    have hr := xgo_lift_none h4 (show addr < e.a + e.d.size by omega)
    have hne : (e.a == addr) = false := beq_eq_false_iff_ne.2 (by omega)
    simp only [liftL, List.filter_cons, hne, Bool.not_false, if_true] at hr ⊢
    rw [hr]

theorem lift_at {size addr : Int} : ∀ {l : List Ex} {next : Int} (k : Nat), xgo size next l = true →
    (atG addr k l = -1 ∧ liftL addr l = l) ∨ ∃ j, j < l.length ∧ atG addr k l = ((k + j : Nat) : Int) ∧ liftL addr l = l.take j ++ l.drop (j + 1)
  | [], _, _, _ => .inl ⟨rfl, rfl⟩
  | e :: r, next, k, h => by
    simp only [xgo, Bool.and_eq_true, decide_eq_true_eq] at h
    obtain ⟨⟨⟨h1, h2⟩, h3⟩, h4⟩ := h
    have hp := dataOkB_pos h1
    cases he : (e.a == addr)
    · rcases lift_at (addr := addr) (k + 1) h4 with ⟨q1, q2⟩ | ⟨j, hj, q1, q2⟩
      · refine .inl ⟨by simp [atG, he, q1], ?_⟩
        simp only [liftL, List.filter_cons, he, Bool.not_false, if_true] at q2 ⊢
        rw [q2]
      · refine .inr ⟨j + 1, by simp; omega, ?_, ?_⟩
        · simp only [atG, he, Bool.false_eq_true, if_false, q1]; congr 1; omega
        · simp only [liftL, List.filter_cons, he, Bool.not_false, if_true, List.take_succ_cons, List.drop_succ_cons, List.cons_append] at q2 ⊢
          rw [q2]
    · refine .inr ⟨0, by simp, by simp [atG, he], ?_⟩
      have hlt := xgo_lift_none h4 (show addr < e.a + e.d.size by have := eq_of_beq he; omega)
      simp only [liftL, List.filter_cons, he, Bool.not_true, Bool.false_eq_true, if_false, List.take_zero, List.nil_append, List.drop_succ_cons, List.drop_zero] at hlt ⊢
      exact hlt

/-- The model's Lifted, as a plain function. -/
def liftedM (size : Int) (l : List Ex) (addr : Int) : Option (List Ex) :=
  if spaceOkB size l = true ∧ 0 ≤ atG addr 0 l then some (l.take (atG addr 0 l).toNat ++ l.drop ((atG addr 0 l).toNat + 1)) else none

theorem liftedM_eq (size : Int) (l : List Ex) (addr : Int) : liftedM size l addr = liftedO size l addr := by
  unfold liftedM liftedO
  cases hok : spaceOkB size l
  · simp
  · have hx : xgo size 1 l = true := by simp only [spaceOkB, Bool.and_eq_true] at hok; exact hok.2
    rcases lift_at (addr := addr) 0 hx with ⟨q1, q2⟩ | ⟨j, hj, q1, q2⟩
    · rw [q1, q2]; simp
    · rw [q1, q2]
      have : (l.take j ++ l.drop (j + 1)).length ≠ l.length := by rw [List.length_append, List.length_take, List.length_drop]; omega
      rw [if_pos ⟨rfl, by omega⟩, if_pos ⟨rfl, this⟩]
      simp

theorem SlAt.take {α : Type} {cs : α → List Value} {sz : Nat} {w : World} {a : Option Addr} {n : Nat} {l : List α} (h : SlAt cs sz w a n l) {j : Nat} (hj : j ≤ n) : SlAt cs sz w a j (l.take j) :=
  ⟨by rw [List.length_take, h.len]; omega, fun i x hx => by
    rw [List.getElem?_take] at hx
    split at hx
    · exact h.cell i x hx
    · cases hx⟩
theorem SlAt.drop {α : Type} {cs : α → List Value} {sz : Nat} {w : World} {b o : Nat} {n : Nat} {l : List α} (h : SlAt cs sz w (some ⟨b, o, none⟩) n l) (j : Nat) : SlAt cs sz w (some ⟨b, o + j * sz, none⟩) (n - j) (l.drop j) :=
  ⟨by rw [List.length_drop, h.len], fun i x hx => by
    rw [List.getElem?_drop] at hx
    obtain ⟨b', o', he, hc⟩ := h.cell _ _ hx
    simp at he
    obtain ⟨rfl, rfl⟩ := he
    refine ⟨b, _, rfl, fun u v hv => ?_⟩
    have := hc u v hv
    rw [Nat.add_mul] at this
    rw [← this]
    congr 2
    omega⟩
end Go.Proofs.Ytbmkedickkpjjaa
