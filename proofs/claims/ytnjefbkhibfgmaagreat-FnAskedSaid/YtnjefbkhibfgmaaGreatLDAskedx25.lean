/- What lifting and placing leave, as plain facts. -/
import Derived.Test.YtnjefbkhibfgmaaGreatLDAskedx04
import Derived.Test.YtnjefbkhibfgmaaGreatLDAskedx16
namespace Go.Proofs.YtnjefbkhibfgmaaGreat
open Go.RowKit
theorem sumD_app : ∀ (a b : List Ex), sumD (a ++ b) = sumD a + sumD b
  | [], b => by simp [sumD]
  | e :: r, b => by simp only [List.cons_append, sumD, sumD_app r b]; omega
theorem pgoM_facts {size : Int} {d : ByteArray} (hd : dataOkB d = true) : ∀ {l : List Ex} {next : Int} (k j : Nat) (x : Int), xgo size next l = true → pgoM size d.size k next l = some (j, x) →
    k ≤ j ∧ next ≤ x ∧ j - k ≤ l.length ∧ xgo size next (l.take (j - k) ++ ⟨x, d⟩ :: l.drop (j - k)) = true ∧ liftL x (l.take (j - k) ++ ⟨x, d⟩ :: l.drop (j - k)) = l
  | [], next, k, j, x, h, hp => by
    rw [pgoM] at hp
    split at hp
    · rename_i hm
      simp only [Option.some.injEq, Prod.mk.injEq] at hp
      obtain ⟨rfl, rfl⟩ := hp
      refine ⟨Nat.le_refl _, by omega, by simp, ?_, ?_⟩
      · simp [xgo, hd]; omega
      · simp [liftL]
    · cases hp
  | e :: r, next, k, j, x, h, hp => by
    rw [pgoM] at hp
    have h0 := h
    simp only [xgo, Bool.and_eq_true, decide_eq_true_eq] at h
    obtain ⟨⟨⟨h1, h2⟩, h3⟩, h4⟩ := h
    have hpos := dataOkB_pos h1
    have hpd := dataOkB_pos hd
    split at hp
    · rename_i hm
      simp only [Option.some.injEq, Prod.mk.injEq] at hp
      obtain ⟨rfl, rfl⟩ := hp
      have hx : xgo size (next + d.size) (e :: r) = true := by
        simp only [xgo, Bool.and_eq_true, decide_eq_true_eq]
        exact ⟨⟨⟨h1, by omega⟩, h3⟩, h4⟩
      refine ⟨Nat.le_refl _, by omega, by simp, ?_, ?_⟩
      · rw [Nat.sub_self, List.take_zero, List.drop_zero, List.nil_append, xgo]
        simp only [Bool.and_eq_true, decide_eq_true_eq]
        exact ⟨⟨⟨hd, by omega⟩, by omega⟩, hx⟩
      · rw [Nat.sub_self, List.take_zero, List.drop_zero, List.nil_append]
        have e1 : liftL next (⟨next, d⟩ :: e :: r) = liftL next (e :: r) := by simp [liftL]
        rw [e1]
        exact xgo_lift_none hx (by omega)
    · obtain ⟨q1, q2, q3, q4, q5⟩ := pgoM_facts hd (k + 1) j x h4 hp
      have ej : j - k = (j - (k + 1)) + 1 := by omega
      rw [ej]
      refine ⟨by omega, by omega, by simp; omega, ?_, ?_⟩
      · rw [List.take_succ_cons, List.drop_succ_cons, List.cons_append, xgo]
        simp only [Bool.and_eq_true, decide_eq_true_eq]
        exact ⟨⟨⟨h1, h2⟩, h3⟩, q4⟩
      · rw [List.take_succ_cons, List.drop_succ_cons, List.cons_append]
        have hne : (e.a == x) = false := beq_eq_false_iff_ne.2 (by omega)
        have e1 : ∀ m : List Ex, liftL x (e :: m) = e :: liftL x m := fun m => by simp [liftL, hne]
        rw [e1, q5]
theorem placed_facts {size x : Int} {l L : List Ex} {d : ByteArray} (h : placedO size l d = some (L, x)) :
    spaceOkB size l = true ∧ dataOkB d = true ∧ spaceOkB size L = true ∧ L.length = l.length + 1 ∧ l.length < 60 ∧ liftedO size L x = some l ∧ sumD L = sumD l + d.size ∧ ∀ e ∈ L, e ∈ l ∨ e = ⟨x, d⟩ := by
  rw [← placedM_eq] at h
  unfold placedM at h
  split at h
  · rename_i hc
    obtain ⟨hok, hd, h60⟩ := hc
    obtain ⟨h1, h2, h3, h4⟩ := ok_parts hok
    cases hp : pgoM size d.size 0 1 l with
    | none => rw [hp] at h; cases h
    | some y =>
      obtain ⟨j, x'⟩ := y
      rw [hp] at h
      simp only [Option.map_some, Option.some.injEq, Prod.mk.injEq] at h
      obtain ⟨rfl, rfl⟩ := h
      obtain ⟨q1, q2, q3, q4, q5⟩ := pgoM_facts hd 0 j x' h4 hp
      rw [Nat.sub_zero] at q3 q4 q5
      have eL : l.take j ++ [⟨x', d⟩] ++ l.drop j = l.take j ++ ⟨x', d⟩ :: l.drop j := by simp
      rw [eL]
      have hlen : (l.take j ++ ⟨x', d⟩ :: l.drop j : List Ex).length = l.length + 1 := by simp; omega
      have hok2 : spaceOkB size (l.take j ++ ⟨x', d⟩ :: l.drop j) = true := by
        simp only [spaceOkB, Bool.and_eq_true, decide_eq_true_eq]
        exact ⟨⟨⟨h1, h2⟩, by omega⟩, q4⟩
      refine ⟨hok, hd, hok2, hlen, by omega, ?_, ?_, ?_⟩
      · unfold liftedO
        rw [if_pos ⟨hok2, by rw [q5]; omega⟩, q5]
      · rw [sumD_app]
        conv => rhs; rw [← List.take_append_drop j l, sumD_app]
        simp only [sumD]; omega
      · intro e he
        rcases List.mem_append.1 he with he | he
        · exact .inl (List.mem_of_mem_take he)
        · rcases List.mem_cons.1 he with he | he
          · exact .inr he
          · exact .inl (List.mem_of_mem_drop he)
  · cases h
end Go.Proofs.YtnjefbkhibfgmaaGreat
