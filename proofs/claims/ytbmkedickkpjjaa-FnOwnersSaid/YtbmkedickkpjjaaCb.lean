/- Counts added up: a list in order with no nought is told by its sums. -/
import Derived.Test.YtbmkedickkpjjaaCa
namespace Go.Proofs.Ytbmkedickkpjjaa
open Go.RowKit

/-- l3Add, as a plain function. -/
def addC : List Ct → Ct → List Ct
  | [], c => [c]
  | x :: r, c => if owLt x.o c.o = true then x :: addC r c else if owEq x.o c.o = true then (if x.n + c.n ≠ 0 then ⟨c.o, x.n + c.n⟩ :: r else r) else c :: x :: r
def sumC (l more : List Ct) : List Ct := more.foldl addC l

/-- All N of one owner. -/
def tot (o : Ow) : List Ct → Int
  | [] => 0
  | c :: r => (if owEq c.o o = true then c.n else 0) + tot o r

def Rising (l : List Ct) : Prop := l.Pairwise (fun x y => owLt x.o y.o = true)
def NoZero (l : List Ct) : Prop := ∀ c ∈ l, c.n ≠ 0

theorem owEq_self (o : Ow) : owEq o o = true := owEq_iff.2 rfl
theorem owEq_of_lt {a b : Ow} (h : owLt a b = true) : owEq a b = false := by
  cases e : owEq a b
  · rfl
  · rw [owEq_iff.1 e, owLt_irrefl] at h; cases h
theorem owEq_symm {a b : Ow} (h : owEq a b = false) : owEq b a = false := by
  cases e : owEq b a
  · rfl
  · rw [owEq_iff.1 e, owEq_self] at h; cases h

theorem tot_zero {o : Ow} : ∀ {l : List Ct}, (∀ c ∈ l, owLt o c.o = true) → tot o l = 0
  | [], _ => rfl
  | c :: r, h => by
    have h1 := owEq_symm (owEq_of_lt (h c (by simp)))
    simp only [tot, h1, Bool.false_eq_true, if_false]
    rw [tot_zero (fun x hx => h x (by simp [hx]))]; rfl

theorem tot_append (o : Ow) : ∀ (l m : List Ct), tot o (l ++ m) = tot o l + tot o m
  | [], m => by simp [tot]
  | c :: r, m => by simp only [List.cons_append, tot, tot_append o r m]; omega

theorem tot_addC (o : Ow) (c : Ct) : ∀ l : List Ct, tot o (addC l c) = tot o l + (if owEq c.o o = true then c.n else 0)
  | [] => by simp [addC, tot]
  | x :: r => by
    unfold addC
    split
    · simp only [tot, tot_addC o c r]; omega
    · split
      · rename_i h1 h2
        have e := owEq_iff.1 h2
        split
        · simp only [tot, e]; split <;> omega
        · simp only [tot, e]; split <;> omega
      · simp only [tot]; omega

theorem all_addC {z : Ow} {c : Ct} (hc : owLt z c.o = true) : ∀ {l : List Ct}, (∀ x ∈ l, owLt z x.o = true) → ∀ x ∈ addC l c, owLt z x.o = true
  | [], _ => by intro x hx; simp [addC] at hx; subst hx; exact hc
  | y :: r, h => by
    have hy := h y (by simp)
    have hr : ∀ x ∈ r, owLt z x.o = true := fun x hx => h x (by simp [hx])
    unfold addC
    split
    · intro x hx
      rcases List.mem_cons.1 hx with rfl | hx
      · exact hy
      · exact all_addC hc hr x hx
    · split
      · split
        · intro x hx
          rcases List.mem_cons.1 hx with rfl | hx
          · exact hc
          · exact hr x hx
        · exact hr
      · intro x hx
        rcases List.mem_cons.1 hx with rfl | hx
        · exact hc
        · exact h x hx

theorem rising_addC (c : Ct) : ∀ {l : List Ct}, Rising l → Rising (addC l c)
  | [], _ => by simp [addC, Rising]
  | y :: r, h => by
    obtain ⟨h1, h2⟩ := List.pairwise_cons.1 h
    unfold addC
    split
    · rename_i k
      exact List.pairwise_cons.2 ⟨all_addC k h1, rising_addC c h2⟩
    · rename_i k
      split
      · rename_i e
        have e := owEq_iff.1 e
        split
        · exact List.pairwise_cons.2 ⟨fun x hx => by simp only [← e]; exact h1 x hx, h2⟩
        · exact h2
      · rename_i e
        have hcy : owLt c.o y.o = true := owLt_total (by simpa using k) (fun e' => e (owEq_iff.2 e'))
        refine List.pairwise_cons.2 ⟨fun x hx => ?_, h⟩
        rcases List.mem_cons.1 hx with rfl | hx
        · exact hcy
        · exact owLt_trans hcy (h1 x hx)

theorem nozero_addC {c : Ct} (hc : c.n ≠ 0) : ∀ {l : List Ct}, NoZero l → NoZero (addC l c)
  | [], _ => by intro x hx; simp [addC] at hx; subst hx; exact hc
  | y :: r, h => by
    have hy := h y (by simp)
    have hr : NoZero r := fun x hx => h x (by simp [hx])
    unfold addC
    split
    · intro x hx
      rcases List.mem_cons.1 hx with rfl | hx
      · exact hy
      · exact nozero_addC hc hr x hx
    · split
      · split
        · rename_i k
          intro x hx
          rcases List.mem_cons.1 hx with rfl | hx
          · exact k
          · exact hr x hx
        · exact hr
      · intro x hx
        rcases List.mem_cons.1 hx with rfl | hx
        · exact hc
        · exact h x hx

/-- Two lists in order, with no nought, whose sums are the same are one. -/
theorem rising_unique : ∀ {l m : List Ct}, Rising l → Rising m → NoZero l → NoZero m → (∀ o, tot o l = tot o m) → l = m
  | [], [], _, _, _, _, _ => rfl
  | [], y :: s, _, hm, _, zm, h => by
    have := h y.o
    have hs := tot_zero (List.pairwise_cons.1 hm).1
    simp only [tot, owEq_self, if_true, hs] at this
    exact absurd (by omega) (zm y (by simp))
  | x :: r, [], hl, _, zl, _, h => by
    have := h x.o
    have hr := tot_zero (List.pairwise_cons.1 hl).1
    simp only [tot, owEq_self, if_true, hr] at this
    exact absurd (by omega) (zl x (by simp))
  | x :: r, y :: s, hl, hm, zl, zm, h => by
    obtain ⟨hl1, hl2⟩ := List.pairwise_cons.1 hl
    obtain ⟨hm1, hm2⟩ := List.pairwise_cons.1 hm
    have hr := tot_zero hl1
    have hs := tot_zero hm1
    cases hxy : owLt x.o y.o
    · cases hyx : owLt y.o x.o
      · have e : x.o = y.o := by
          cases e : owEq x.o y.o
          · have := owLt_total hxy (fun e' => by rw [owEq_iff.2 e'] at e; cases e)
            rw [hyx] at this; cases this
          · exact owEq_iff.1 e
        have h1 := h x.o
        rw [← e] at hs
        simp only [tot, ← e, owEq_self, if_true, hr, hs] at h1
        have exy : x = y := by cases x; cases y; simp at e h1 ⊢; exact ⟨e, h1⟩
        subst exy
        have : r = s := rising_unique hl2 hm2 (fun c hc => zl c (by simp [hc])) (fun c hc => zm c (by simp [hc])) (fun o => by have := h o; simp only [tot] at this; omega)
        rw [this]
      · have h1 := h y.o
        have hz : tot y.o r = 0 := tot_zero (fun c hc => owLt_trans hyx (hl1 c hc))
        have hne := owEq_symm (owEq_of_lt hyx)
        simp only [tot, owEq_self, if_true, hs, hne, Bool.false_eq_true, if_false, hz] at h1
        exact absurd (by omega) (zm y (by simp))
    · have h1 := h x.o
      have hz : tot x.o s = 0 := tot_zero (fun c hc => owLt_trans hxy (hm1 c hc))
      have hne := owEq_symm (owEq_of_lt hxy)
      simp only [tot, owEq_self, if_true, hr, hne, Bool.false_eq_true, if_false, hz] at h1
      exact absurd (by omega) (zl x (by simp))

theorem sum_facts : ∀ {more l : List Ct}, Rising l → NoZero l → NoZero more → Rising (sumC l more) ∧ NoZero (sumC l more) ∧ ∀ o, tot o (sumC l more) = tot o l + tot o more
  | [], l, hl, zl, _ => ⟨hl, zl, fun o => by simp [sumC, tot]⟩
  | c :: r, l, hl, zl, zm => by
    obtain ⟨h1, h2, h3⟩ := sum_facts (more := r) (rising_addC c hl) (nozero_addC (zm c (by simp)) zl) (fun x hx => zm x (by simp [hx]))
    refine ⟨h1, h2, fun o => ?_⟩
    have := h3 o
    rw [tot_addC] at this
    simp only [sumC, List.foldl_cons, tot] at this ⊢
    omega
end Go.Proofs.Ytbmkedickkpjjaa
