/- Owners and counts as plain data: their order, the lists that are added up, and that two lists in order with the same sums are one. Counts added up: a list in order with no nought is told by its sums. The model's rounds of adding a count: plain facts; counts in memory. The order of owners: cmp.Compare, cmp.Or, ownerOrder, OwnerAhead of the program; OwnerAhead of the model. ownerOrder, OwnerAhead. The gaps of a space, told by a range over a function: the iterator of the program. RoomOf of the program and of the model. -/
import Derived.Laws.Cover1
import Derived.Test.YtigldeccfpkdmaaGreatDoorCReadPoolx00
import Derived.Test.YtigldeccfpkdmaaGreatDoorProg
import Derived.Test.YtigldeccfpkdmaaGreatDoorCReadPoolx01
import Derived.Test.YtigldeccfpkdmaaGreatDoorCReadPoolx02
import Derived.RangeFuncNested
import Derived.RangeFuncBound
import Derived.RangeFuncCalls
import Derived.RangeFuncLeaves
import Derived.RangeFuncBox
import Derived.Shelf.Abstract
import Derived.Shelf.RegionOpen
import Derived.WalkKit
import Derived.OwnWalkIn
import Derived.TacticsInMore
import Derived.LoopNIn
import Derived.LoopIn
import Derived.RangeFuncFrom
namespace Go.Proofs.YtigldeccfpkdmaaGreatDoor
open Go.RowKit
/-- An owner: Addr, Vol, File. -/
structure Ow where
  a : Int
  v : Int
  f : ByteArray
/-- A count: Owner, N. -/
structure Ct where
  o : Ow
  n : Int
def Ow.vs (o : Ow) : Array Value := #[.int .i64 o.a, .int .i64 o.v, .string o.f]
/-- The cells of a count. -/
def Ct.cs (c : Ct) : List Value := [.int .i64 c.o.a, .int .i64 c.o.v, .string c.o.f, .int .i64 c.n]
abbrev CtsAt := SlAt Ct.cs 4
theorem cts_at {w : World} {a : Option Addr} {n : Nat} {l : List Ct} (h : CtsAt w a n l) {k : Nat} (hk : k < n) :
    ∃ b o p, a = some ⟨b, o, none⟩ ∧ l[k]? = some p ∧ w.cell? ⟨b, o + k * 4, none⟩ = some (.int .i64 p.o.a) ∧ w.cell? ⟨b, o + k * 4 + 1, none⟩ = some (.int .i64 p.o.v) ∧ w.cell? ⟨b, o + k * 4 + 2, none⟩ = some (.string p.o.f) ∧ w.cell? ⟨b, o + k * 4 + 3, none⟩ = some (.int .i64 p.n) := by
  have hl : k < l.length := by rw [h.len]; exact hk
  have hx : l[k]? = some l[k] := by simp [hl]
  obtain ⟨b, o, ha, hc⟩ := h.cell k _ hx
  exact ⟨b, o, l[k], ha, hx, hc 0 _ rfl, hc 1 _ rfl, hc 2 _ rfl, hc 3 _ rfl⟩
/-! ### The order of texts -/
abbrev bl := Op.bytesLess
theorem bl_irrefl : ∀ x : List UInt8, bl x x = false
  | [] => rfl
  | a :: x => by simp [bl, Op.bytesLess]; exact bl_irrefl x
theorem bl_total : ∀ {x y : List UInt8}, bl x y = false → x ≠ y → bl y x = true
  | [], [], _, h => absurd rfl h
  | [], b :: y, h, _ => by simp [bl, Op.bytesLess] at h
  | a :: x, [], _, _ => rfl
  | a :: x, b :: y, h, hne => by
    simp only [bl, Op.bytesLess, Bool.or_eq_false_iff, Bool.and_eq_false_iff, decide_eq_false_iff_not] at h
    obtain ⟨h1, h2⟩ := h
    simp only [bl, Op.bytesLess, Bool.or_eq_true, Bool.and_eq_true, decide_eq_true_eq, beq_iff_eq]
    by_cases hab : a = b
    · subst hab
      right
      refine ⟨rfl, bl_total (h2.resolve_left (by simp)) (fun e => hne (by rw [e]))⟩
    · left
      have h1' : b.toNat ≤ a.toNat := by simpa [UInt8.lt_iff_toNat_lt] using h1
      have : a.toNat ≠ b.toNat := fun e => hab (UInt8.toNat_inj.1 e)
      rw [UInt8.lt_iff_toNat_lt]; omega
theorem bl_asymm : ∀ {x y : List UInt8}, bl x y = true → bl y x = false
  | [], [], h => by simp [bl, Op.bytesLess] at h
  | [], b :: y, _ => rfl
  | a :: x, [], h => by simp [bl, Op.bytesLess] at h
  | a :: x, b :: y, h => by
    simp only [bl, Op.bytesLess, Bool.or_eq_true, Bool.and_eq_true, decide_eq_true_eq, beq_iff_eq] at h
    simp only [bl, Op.bytesLess, Bool.or_eq_false_iff, Bool.and_eq_false_iff, decide_eq_false_iff_not, beq_eq_false_iff_ne]
    rcases h with h | ⟨rfl, h⟩
    · have h' := UInt8.lt_iff_toNat_lt.1 h
      refine ⟨fun k => by have := UInt8.lt_iff_toNat_lt.1 k; omega, .inl fun e => by subst e; omega⟩
    · exact ⟨fun k => by have := UInt8.lt_iff_toNat_lt.1 k; omega, .inr (bl_asymm h)⟩
theorem bl_trans : ∀ {x y z : List UInt8}, bl x y = true → bl y z = true → bl x z = true
  | [], [], _, h, _ => by simp [bl, Op.bytesLess] at h
  | [], b :: y, [], _, h => by simp [bl, Op.bytesLess] at h
  | [], b :: y, c :: z, _, _ => rfl
  | a :: x, [], _, h, _ => by simp [bl, Op.bytesLess] at h
  | a :: x, b :: y, [], _, h => by simp [bl, Op.bytesLess] at h
  | a :: x, b :: y, c :: z, h1, h2 => by
    simp only [bl, Op.bytesLess, Bool.or_eq_true, Bool.and_eq_true, decide_eq_true_eq, beq_iff_eq, UInt8.lt_iff_toNat_lt] at *
    rcases h1 with h1 | ⟨rfl, h1⟩
    · rcases h2 with h2 | ⟨rfl, h2⟩
      · left; omega
      · left; exact h1
    · rcases h2 with h2 | ⟨rfl, h2⟩
      · left; exact h2
      · right; exact ⟨rfl, bl_trans h1 h2⟩
theorem bytes_eq {x y : ByteArray} (h : x.toList = y.toList) : x = y := by
  rw [ByteArray.toList_eq, ByteArray.toList_eq] at h
  cases x; cases y
  congr 1
  exact Array.toList_inj.1 h
/-! ### The order of owners -/
def owEq (a b : Ow) : Bool := a.a == b.a && a.v == b.v && a.f.toList == b.f.toList
theorem owEq_iff {a b : Ow} : owEq a b = true ↔ a = b := by
  constructor
  · intro h
    simp [owEq] at h
    obtain ⟨⟨h1, h2⟩, h3⟩ := h
    cases a; cases b
    simp at *
    exact ⟨h1, h2, bytes_eq h3⟩
  · rintro rfl; simp [owEq]
def owLt (a b : Ow) : Bool := if a.a ≠ b.a then decide (a.a < b.a) else if a.v ≠ b.v then decide (a.v < b.v) else bl a.f.toList b.f.toList
theorem owLt_irrefl (a : Ow) : owLt a a = false := by simp [owLt, bl_irrefl]
theorem owLt_total {a b : Ow} (h : owLt a b = false) (hne : a ≠ b) : owLt b a = true := by
  by_cases h1 : a.a = b.a
  · by_cases h2 : a.v = b.v
    · have h3 : a.f.toList ≠ b.f.toList := fun e => hne (owEq_iff.1 (by simp [owEq, h1, h2, e]))
      simp only [owLt, h1, h2, ne_eq, not_true, if_false] at h ⊢
      exact bl_total h h3
    · simp only [owLt, h1, ne_eq, not_true, if_false, h2, not_false_eq_true, if_true, decide_eq_false_iff_not] at h
      simp only [owLt, h1, ne_eq, not_true, if_false, if_pos (Ne.symm h2), decide_eq_true_eq]; omega
  · simp only [owLt, ne_eq, h1, not_false_eq_true, if_true, decide_eq_false_iff_not] at h
    simp only [owLt, ne_eq, if_pos (Ne.symm h1), decide_eq_true_eq]; omega
theorem owLt_asymm {a b : Ow} (h : owLt a b = true) : owLt b a = false := by
  by_cases h1 : a.a = b.a
  · by_cases h2 : a.v = b.v
    · simp only [owLt, h1, h2, ne_eq, not_true, if_false] at h ⊢
      exact bl_asymm h
    · simp only [owLt, h1, ne_eq, not_true, if_false, h2, not_false_eq_true, if_true, decide_eq_true_eq] at h
      simp only [owLt, h1, ne_eq, not_true, if_false, if_pos (Ne.symm h2), decide_eq_false_iff_not]; omega
  · simp only [owLt, ne_eq, h1, not_false_eq_true, if_true, decide_eq_true_eq] at h
    simp only [owLt, ne_eq, if_pos (Ne.symm h1), decide_eq_false_iff_not]; omega
theorem owLt_iff {a b : Ow} : owLt a b = true ↔ a.a < b.a ∨ (a.a = b.a ∧ (a.v < b.v ∨ (a.v = b.v ∧ bl a.f.toList b.f.toList = true))) := by
  unfold owLt
  split
  · rename_i h; simp; omega
  · rename_i h
    split
    · rename_i k; simp; omega
    · rename_i k
      simp at h k
      constructor
      · intro e; exact .inr ⟨h, .inr ⟨k, e⟩⟩
      · rintro (e | ⟨_, e | ⟨_, e⟩⟩)
        · omega
        · omega
        · exact e
theorem owLt_trans {a b c : Ow} (h : owLt a b = true) (k : owLt b c = true) : owLt a c = true := by
  rw [owLt_iff] at *
  rcases h with h | ⟨h1, h | ⟨h2, h⟩⟩ <;> rcases k with k | ⟨k1, k | ⟨k2, k⟩⟩
  case inr.inr.inr.inr => exact .inr ⟨by omega, .inr ⟨by omega, bl_trans h k⟩⟩
  case inl.inl => exact .inl (by omega)
  case inl.inr.inl => exact .inl (by omega)
  case inl.inr.inr => exact .inl (by omega)
  case inr.inl.inl => exact .inl (by omega)
  case inr.inr.inl => exact .inl (by omega)
  case inr.inl.inr.inl => exact .inr ⟨by omega, .inl (by omega)⟩
  case inr.inl.inr.inr => exact .inr ⟨by omega, .inl (by omega)⟩
  case inr.inr.inr.inl => exact .inr ⟨by omega, .inl (by omega)⟩
/-! ### cmp.Compare, cmp.Or -/
def cmpI (x y : Int) : Int := if x < y then -1 else if y < x then 1 else 0
def cmpS (x y : ByteArray) : Int := if bl x.toList y.toList = true then -1 else if x.toList = y.toList then 0 else 1
def or3 (x y z : Int) : Int := if x ≠ 0 then x else if y ≠ 0 then y else z
def ordO (a b : Ow) : Int := or3 (cmpI a.a b.a) (cmpI a.v b.v) (cmpS a.f b.f)
theorem ordO_lt (a b : Ow) : decide (ordO a b < 0) = owLt a b := by
  rw [Bool.eq_iff_iff, owLt_iff, decide_eq_true_eq]
  unfold ordO or3 cmpI cmpS
  rcases Int.lt_trichotomy a.a b.a with h | h | h
  · rw [if_pos h, if_pos (by decide)]; constructor
    · intro _; exact .inl h
    · intro _; decide
  · rw [h, if_neg (Int.lt_irrefl _), if_neg (Int.lt_irrefl _), if_neg (by decide)]
    rcases Int.lt_trichotomy a.v b.v with k | k | k
    · rw [if_pos k, if_pos (by decide)]; constructor
      · intro _; exact .inr ⟨rfl, .inl k⟩
      · intro _; decide
    · rw [k, if_neg (Int.lt_irrefl _), if_neg (Int.lt_irrefl _), if_neg (by decide)]
      cases h5 : bl a.f.toList b.f.toList
      · constructor
        · intro e
          rw [if_neg (by decide)] at e
          split at e <;> omega
        · rintro (e | ⟨_, e | ⟨_, e⟩⟩)
          · omega
          · omega
          · cases e
      · constructor
        · intro _; exact .inr ⟨rfl, .inr ⟨rfl, rfl⟩⟩
        · intro _; rw [if_pos rfl]; decide
    · rw [if_neg (show ¬ a.v < b.v by omega), if_pos k, if_pos (by decide)]; constructor
      · intro e; omega
      · rintro (e | ⟨_, e | ⟨_, e⟩⟩) <;> omega
  · rw [if_neg (show ¬ a.a < b.a by omega), if_pos h, if_pos (by decide)]; constructor
    · intro e; omega
    · rintro (e | ⟨e, _⟩) <;> omega
end Go.Proofs.YtigldeccfpkdmaaGreatDoor
namespace Go.Proofs.YtigldeccfpkdmaaGreatDoor
open Go.RowKit
/-- l3Add, as a plain function. -/
def addC : List Ct → Ct → List Ct
  | [], c => [c]
  | x :: r, c => if owLt x.o c.o = true then x :: addC r c else if owEq x.o c.o = true then (if x.n + c.n ≠ 0 then ⟨c.o, x.n + c.n⟩ :: r else r) else c :: x :: r
def sumC (l more : List Ct) : List Ct := more.foldl addC l
/-- All N of one owner. -/
def tot (o : Ow) : List Ct → Int
  | [] => 0
  | c :: r => (if owEq c.o o = true then c.n else 0) + tot o r
def Rising (l : List Ct) : Prop := l.Pairwise (fun x y => owLt x.o y.o = true)
def NoZero (l : List Ct) : Prop := ∀ c ∈ l, c.n ≠ 0
theorem owEq_self (o : Ow) : owEq o o = true := owEq_iff.2 rfl
theorem owEq_of_lt {a b : Ow} (h : owLt a b = true) : owEq a b = false := by
  cases e : owEq a b
  · rfl
  · rw [owEq_iff.1 e, owLt_irrefl] at h; cases h
theorem owEq_symm {a b : Ow} (h : owEq a b = false) : owEq b a = false := by
  cases e : owEq b a
  · rfl
  · rw [owEq_iff.1 e, owEq_self] at h; cases h
theorem tot_zero {o : Ow} : ∀ {l : List Ct}, (∀ c ∈ l, owLt o c.o = true) → tot o l = 0
  | [], _ => rfl
  | c :: r, h => by
    have h1 := owEq_symm (owEq_of_lt (h c (by simp)))
    simp only [tot, h1, Bool.false_eq_true, if_false]
    rw [tot_zero (fun x hx => h x (by simp [hx]))]; rfl
theorem tot_append (o : Ow) : ∀ (l m : List Ct), tot o (l ++ m) = tot o l + tot o m
  | [], m => by simp [tot]
  | c :: r, m => by simp only [List.cons_append, tot, tot_append o r m]; omega
theorem tot_addC (o : Ow) (c : Ct) : ∀ l : List Ct, tot o (addC l c) = tot o l + (if owEq c.o o = true then c.n else 0)
  | [] => by simp [addC, tot]
  | x :: r => by
    unfold addC
    split
    · simp only [tot, tot_addC o c r]; omega
    · split
      · rename_i h1 h2
        have e := owEq_iff.1 h2
        split
        · simp only [tot, e]; split <;> omega
        · simp only [tot, e]; split <;> omega
      · simp only [tot]; omega
theorem all_addC {z : Ow} {c : Ct} (hc : owLt z c.o = true) : ∀ {l : List Ct}, (∀ x ∈ l, owLt z x.o = true) → ∀ x ∈ addC l c, owLt z x.o = true
  | [], _ => by intro x hx; simp [addC] at hx; subst hx; exact hc
  | y :: r, h => by
    have hy := h y (by simp)
    have hr : ∀ x ∈ r, owLt z x.o = true := fun x hx => h x (by simp [hx])
    unfold addC
    split
    · intro x hx
      rcases List.mem_cons.1 hx with rfl | hx
      · exact hy
      · exact all_addC hc hr x hx
    · split
      · split
        · intro x hx
          rcases List.mem_cons.1 hx with rfl | hx
          · exact hc
          · exact hr x hx
        · exact hr
      · intro x hx
        rcases List.mem_cons.1 hx with rfl | hx
        · exact hc
        · exact h x hx
theorem rising_addC (c : Ct) : ∀ {l : List Ct}, Rising l → Rising (addC l c)
  | [], _ => by simp [addC, Rising]
  | y :: r, h => by
    obtain ⟨h1, h2⟩ := List.pairwise_cons.1 h
    unfold addC
    split
    · rename_i k
      exact List.pairwise_cons.2 ⟨all_addC k h1, rising_addC c h2⟩
    · rename_i k
      split
      · rename_i e
        have e := owEq_iff.1 e
        split
        · exact List.pairwise_cons.2 ⟨fun x hx => by simp only [← e]; exact h1 x hx, h2⟩
        · exact h2
      · rename_i e
        have hcy : owLt c.o y.o = true := owLt_total (by simpa using k) (fun e' => e (owEq_iff.2 e'))
        refine List.pairwise_cons.2 ⟨fun x hx => ?_, h⟩
        rcases List.mem_cons.1 hx with rfl | hx
        · exact hcy
        · exact owLt_trans hcy (h1 x hx)
theorem nozero_addC {c : Ct} (hc : c.n ≠ 0) : ∀ {l : List Ct}, NoZero l → NoZero (addC l c)
  | [], _ => by intro x hx; simp [addC] at hx; subst hx; exact hc
  | y :: r, h => by
    have hy := h y (by simp)
    have hr : NoZero r := fun x hx => h x (by simp [hx])
    unfold addC
    split
    · intro x hx
      rcases List.mem_cons.1 hx with rfl | hx
      · exact hy
      · exact nozero_addC hc hr x hx
    · split
      · split
        · rename_i k
          intro x hx
          rcases List.mem_cons.1 hx with rfl | hx
          · exact k
          · exact hr x hx
        · exact hr
      · intro x hx
        rcases List.mem_cons.1 hx with rfl | hx
        · exact hc
        · exact h x hx
/-- Two lists in order, with no nought, whose sums are the same are one. -/
theorem rising_unique : ∀ {l m : List Ct}, Rising l → Rising m → NoZero l → NoZero m → (∀ o, tot o l = tot o m) → l = m
  | [], [], _, _, _, _, _ => rfl
  | [], y :: s, _, hm, _, zm, h => by
    have := h y.o
    have hs := tot_zero (List.pairwise_cons.1 hm).1
    simp only [tot, owEq_self, if_true, hs] at this
    exact absurd (by omega) (zm y (by simp))
  | x :: r, [], hl, _, zl, _, h => by
    have := h x.o
    have hr := tot_zero (List.pairwise_cons.1 hl).1
    simp only [tot, owEq_self, if_true, hr] at this
    exact absurd (by omega) (zl x (by simp))
  | x :: r, y :: s, hl, hm, zl, zm, h => by
    obtain ⟨hl1, hl2⟩ := List.pairwise_cons.1 hl
    obtain ⟨hm1, hm2⟩ := List.pairwise_cons.1 hm
    have hr := tot_zero hl1
    have hs := tot_zero hm1
    cases hxy : owLt x.o y.o
    · cases hyx : owLt y.o x.o
      · have e : x.o = y.o := by
          cases e : owEq x.o y.o
          · have := owLt_total hxy (fun e' => by rw [owEq_iff.2 e'] at e; cases e)
            rw [hyx] at this; cases this
          · exact owEq_iff.1 e
        have h1 := h x.o
        rw [← e] at hs
        simp only [tot, ← e, owEq_self, if_true, hr, hs] at h1
        have exy : x = y := by cases x; cases y; simp at e h1 ⊢; exact ⟨e, h1⟩
        subst exy
        have : r = s := rising_unique hl2 hm2 (fun c hc => zl c (by simp [hc])) (fun c hc => zm c (by simp [hc])) (fun o => by have := h o; simp only [tot] at this; omega)
        rw [this]
      · have h1 := h y.o
        have hz : tot y.o r = 0 := tot_zero (fun c hc => owLt_trans hyx (hl1 c hc))
        have hne := owEq_symm (owEq_of_lt hyx)
        simp only [tot, owEq_self, if_true, hs, hne, Bool.false_eq_true, if_false, hz] at h1
        exact absurd (by omega) (zm y (by simp))
    · have h1 := h x.o
      have hz : tot x.o s = 0 := tot_zero (fun c hc => owLt_trans hxy (hm1 c hc))
      have hne := owEq_symm (owEq_of_lt hxy)
      simp only [tot, owEq_self, if_true, hr, hne, Bool.false_eq_true, if_false, hz] at h1
      exact absurd (by omega) (zl x (by simp))
theorem sum_facts : ∀ {more l : List Ct}, Rising l → NoZero l → NoZero more → Rising (sumC l more) ∧ NoZero (sumC l more) ∧ ∀ o, tot o (sumC l more) = tot o l + tot o more
  | [], l, hl, zl, _ => ⟨hl, zl, fun o => by simp [sumC, tot]⟩
  | c :: r, l, hl, zl, zm => by
    obtain ⟨h1, h2, h3⟩ := sum_facts (more := r) (rising_addC c hl) (nozero_addC (zm c (by simp)) zl) (fun x hx => zm x (by simp [hx]))
    refine ⟨h1, h2, fun o => ?_⟩
    have := h3 o
    rw [tot_addC] at this
    simp only [sumC, List.foldl_cons, tot] at this ⊢
    omega
end Go.Proofs.YtigldeccfpkdmaaGreatDoor
namespace Go.Proofs.YtigldeccfpkdmaaGreatDoor
open Go.RowKit
/-- One round of l3Add: what is told so far, and whether the count is in it. -/
def addStep (c : Ct) (s : List Ct × Bool) (x : Ct) : List Ct × Bool :=
  if s.2 = true then (s.1 ++ [x], true) else if owLt x.o c.o = true then (s.1 ++ [x], false) else
  if owEq x.o c.o = true then (if x.n + c.n ≠ 0 then (s.1 ++ [⟨c.o, x.n + c.n⟩], true) else (s.1, true)) else (s.1 ++ [c] ++ [x], true)
def addEnd (c : Ct) (s : List Ct × Bool) : List Ct := if s.2 = true then s.1 else s.1 ++ [c]
theorem add_done (c : Ct) : ∀ (l out : List Ct), l.foldl (addStep c) (out, true) = (out ++ l, true)
  | [], out => by simp
  | x :: r, out => by
    rw [List.foldl_cons, show addStep c (out, true) x = (out ++ [x], true) by simp [addStep], add_done c r]
    simp
theorem add_fold (c : Ct) : ∀ (l out : List Ct), addEnd c (l.foldl (addStep c) (out, false)) = out ++ addC l c
  | [], out => by simp [addEnd, addC]
  | x :: r, out => by
    rw [List.foldl_cons]
    unfold addC
    by_cases h1 : owLt x.o c.o = true
    · rw [show addStep c (out, false) x = (out ++ [x], false) by simp [addStep, h1], add_fold c r, if_pos h1]
      simp
    · by_cases h2 : owEq x.o c.o = true
      · by_cases h3 : x.n + c.n ≠ 0
        · rw [show addStep c (out, false) x = (out ++ [⟨c.o, x.n + c.n⟩], true) by simp [addStep, h1, h2, h3], add_done, if_neg h1, if_pos h2, if_pos h3]
          simp [addEnd]
        · rw [show addStep c (out, false) x = (out, true) by simp [addStep, h1, h2, h3], add_done, if_neg h1, if_pos h2, if_neg h3]
          simp [addEnd]
      · rw [show addStep c (out, false) x = (out ++ [c] ++ [x], true) by simp [addStep, h1, h2], add_done, if_neg h1, if_neg h2]
        simp [addEnd]
theorem ccs_len (p : Ct) : p.cs.length = 4 := rfl
theorem ccs_one (l : List Ct) : ∀ u ∈ l.flatMap Ct.cs, u.oneCell' = true := by
  intro u hu
  obtain ⟨p, _, hp⟩ := List.mem_flatMap.1 hu
  simp [Ct.cs] at hp
  rcases hp with rfl | rfl | rfl | rfl <;> rfl
theorem sl_oneC {w : World} {b : Nat} {p : Ct} (h0 : w.cell? ⟨b, 0, none⟩ = some (.int .i64 p.o.a)) (h1 : w.cell? ⟨b, 1, none⟩ = some (.int .i64 p.o.v)) (h2 : w.cell? ⟨b, 2, none⟩ = some (.string p.o.f)) (h3 : w.cell? ⟨b, 3, none⟩ = some (.int .i64 p.n)) : CtsAt w (some ⟨b, 0, none⟩) 1 [p] := by
  refine ⟨rfl, fun i x hx => ⟨b, 0, rfl, fun j v hv => ?_⟩⟩
  have hi : i = 0 := by have := (List.getElem?_eq_some_iff.1 hx).1; simp at this; exact this
  subst hi
  simp at hx
  subst hx
  match j, hv with
  | 0, hv => obtain rfl := Option.some.inj hv; exact h0
  | 1, hv => obtain rfl := Option.some.inj hv; exact h1
  | 2, hv => obtain rfl := Option.some.inj hv; exact h2
  | 3, hv => obtain rfl := Option.some.inj hv; exact h3
  | j + 4, hv => simp [Ct.cs] at hv
theorem sl_newC (w : World) (p : Ct) (t : TypeId) (b : Nat) (hb : b = w.heap.size) : CtsAt (w.alloc (.cells #[.int .i64 p.o.a, .int .i64 p.o.v, .string p.o.f, .int .i64 p.n] t)) (some ⟨b, 0, none⟩) 1 [p] := by
  subst hb; exact sl_oneC (by simp) (by simp) (by simp) (by simp)
theorem infoC : (Tryz.prog.info? 134).map (fun i => (i.zero, i.size, i.bytes)) = some (some (.agg #[.int .i64 0, .int .i64 0, .string .empty, .int .i64 0]), 4, 40) := by kernel_rfl
end Go.Proofs.YtigldeccfpkdmaaGreatDoor
namespace Go.Proofs.YtigldeccfpkdmaaGreatDoor
open Go.RowKit Go.BigFrame
theorem cmp_isNaN_int (x : Int) (w : World) :
    Calls Tryz.prog 270 #[.int .i64 x] w fun e w' => e = .returned (.bool false) ∧ w' = w := by
  have hx : (x != x) = false := by simp
  go_enter Tryz.func270, Tryz.ntmps270
  go_wp2
  go_returns
  go_light
  exact ⟨by simp, rfl⟩
theorem cmp_isNaN_str (x : ByteArray) (w : World) :
    Calls Tryz.prog 271 #[.string x] w fun e w' => e = .returned (.bool false) ∧ w' = w := by
  go_enter Tryz.func271, Tryz.ntmps271
  go_wp2
  go_returns
  go_light
  exact ⟨by simp, rfl⟩
theorem cmp_Compare_int (x y : Int) (w : World) :
    Calls Tryz.prog 239 #[.int .i64 x, .int .i64 y] w fun e w' => e = .returned (.int .i64 (cmpI x y)) ∧ w' = w := by
  go_enter Tryz.func239, Tryz.ntmps239
  go_wp2_with fail
  refine (cmp_isNaN_int _ _).mono ?_
  rintro e w1 ⟨rfl, rfl⟩
  go_wp2_with fail
  refine (cmp_isNaN_int _ _).mono ?_
  rintro e w1 ⟨rfl, rfl⟩
  go_wp2
  all_goals go_returns
  all_goals go_light
  all_goals refine ⟨ret_int ?_, rfl⟩
  all_goals simp [cmpI]
  all_goals omega
theorem cmp_Compare_str (x y : ByteArray) (w : World) :
    Calls Tryz.prog 240 #[.string x, .string y] w fun e w' => e = .returned (.int .i64 (cmpS x y)) ∧ w' = w := by
  go_enter Tryz.func240, Tryz.ntmps240
  go_wp2_with fail
  refine (cmp_isNaN_str _ _).mono ?_
  rintro e w1 ⟨rfl, rfl⟩
  go_wp2_with fail
  refine (cmp_isNaN_str _ _).mono ?_
  rintro e w1 ⟨rfl, rfl⟩
  go_wp2
  all_goals go_returns
  all_goals go_light
  all_goals refine ⟨ret_int ?_, rfl⟩
  all_goals simp_all [cmpS, bl]
theorem cmp_Or3 (x y z : Int) (b : Nat) (cap : Nat) (w : World) (h0 : w.cell? ⟨b, 0, none⟩ = some (.int .i64 x)) (h1 : w.cell? ⟨b, 1, none⟩ = some (.int .i64 y)) (h2 : w.cell? ⟨b, 2, none⟩ = some (.int .i64 z)) :
    Calls Tryz.prog 238 #[.slice (some ⟨b, 0, none⟩) 3 cap] w fun e w' => e = .returned (.int .i64 (or3 x y z)) ∧ w' = w := by
  by_cases hx : x = 0
  · have hx' : (x != 0) = false := by simp [hx]
    by_cases hy : y = 0
    · have hy' : (y != 0) = false := by simp [hy]
      by_cases hz : z = 0
      · have hz' : (z != 0) = false := by simp [hz]
        have hf : Hid (or3 x y z = 0) := by show _ = _; simp [or3, hx, hy, hz]
        clear hx hy hz
        go_enter Tryz.func238, Tryz.ntmps238
        go_wp2_with fail
        go_rounds 4
        go_returns
        go_light
        exact ⟨ret_int hf.out.symm, rfl⟩
      · have hz' : (z != 0) = true := by simp [hz]
        have hf : Hid (or3 x y z = z) := by show _ = _; simp [or3, hx, hy]
        clear hx hy hz
        go_enter Tryz.func238, Tryz.ntmps238
        go_wp2_with fail
        go_rounds 3
        go_returns
        go_light
        exact ⟨ret_int hf.out.symm, rfl⟩
    · have hy' : (y != 0) = true := by simp [hy]
      have hf : Hid (or3 x y z = y) := by show _ = _; simp [or3, hx, hy]
      clear hx hy
      go_enter Tryz.func238, Tryz.ntmps238
      go_wp2_with fail
      go_rounds 2
      go_returns
      go_light
      exact ⟨ret_int hf.out.symm, rfl⟩
  · have hx' : (x != 0) = true := by simp [hx]
    have hf : Hid (or3 x y z = x) := by show _ = _; simp [or3, hx]
    clear hx
    go_enter Tryz.func238, Tryz.ntmps238
    go_wp2_with fail
    go_rounds 1
    go_returns
    go_light
    exact ⟨ret_int hf.out.symm, rfl⟩
end Go.Proofs.YtigldeccfpkdmaaGreatDoor
namespace Go.Proofs.YtigldeccfpkdmaaGreatDoor
open Go.RowKit Go.BigFrame
theorem new3 (w : World) (x y z : Value) (t : TypeId) : (w.alloc (.cells #[x, y, z] t)).drew.cell? ⟨w.heap.size, 0, none⟩ = some x ∧ (w.alloc (.cells #[x, y, z] t)).drew.cell? ⟨w.heap.size, 1, none⟩ = some y ∧ (w.alloc (.cells #[x, y, z] t)).drew.cell? ⟨w.heap.size, 2, none⟩ = some z :=
  ⟨World.cell?_alloc_new _ _ _ 0, World.cell?_alloc_new _ _ _ 1, World.cell?_alloc_new _ _ _ 2⟩
set_option maxHeartbeats 1000000 in
theorem impl_ownerOrder (p q : Ow) (w : World) :
    Calls Tryz.prog 208 #[.agg #[.int .i64 p.a, .int .i64 p.v, .string p.f], .agg #[.int .i64 q.a, .int .i64 q.v, .string q.f]] w fun e w' => e = .returned (.int .i64 (ordO p q)) ∧ Below w.heap.size w w' := by
  have hfin : Hid (ordO p q = or3 (cmpI p.a q.a) (cmpI p.v q.v) (cmpS p.f q.f)) := rfl
  generalize ordO p q = R at *
  obtain ⟨a, v, f⟩ := p
  obtain ⟨b, u, g⟩ := q
  simp only at hfin
  go_enter Tryz.func208, Tryz.ntmps208
  go_wp2_with fail
  have x0 : ((w.alloc (.cells #[.int .i64 a, .int .i64 v, .string f] 132)).alloc (.cells #[.int .i64 b, .int .i64 u, .string g] 132)).cell? ⟨w.heap.size, 0, none⟩ = some (.int .i64 a) := acell _ (by simp)
  have x1 : ((w.alloc (.cells #[.int .i64 a, .int .i64 v, .string f] 132)).alloc (.cells #[.int .i64 b, .int .i64 u, .string g] 132)).cell? ⟨w.heap.size, 1, none⟩ = some (.int .i64 v) := acell _ (by simp)
  have x2 : ((w.alloc (.cells #[.int .i64 a, .int .i64 v, .string f] 132)).alloc (.cells #[.int .i64 b, .int .i64 u, .string g] 132)).cell? ⟨w.heap.size, 2, none⟩ = some (.string f) := acell _ (by simp)
  have y0 : ((w.alloc (.cells #[.int .i64 a, .int .i64 v, .string f] 132)).alloc (.cells #[.int .i64 b, .int .i64 u, .string g] 132)).cell? ⟨w.heap.size + 1, 0, none⟩ = some (.int .i64 b) := by simp
  have y1 : ((w.alloc (.cells #[.int .i64 a, .int .i64 v, .string f] 132)).alloc (.cells #[.int .i64 b, .int .i64 u, .string g] 132)).cell? ⟨w.heap.size + 1, 1, none⟩ = some (.int .i64 u) := by simp
  have y2 : ((w.alloc (.cells #[.int .i64 a, .int .i64 v, .string f] 132)).alloc (.cells #[.int .i64 b, .int .i64 u, .string g] 132)).cell? ⟨w.heap.size + 1, 2, none⟩ = some (.string g) := by simp
  have hB0 : Below w.heap.size w ((w.alloc (.cells #[.int .i64 a, .int .i64 v, .string f] 132)).alloc (.cells #[.int .i64 b, .int .i64 u, .string g] 132)) := by go_grown
  generalize (w.alloc (.cells #[.int .i64 a, .int .i64 v, .string f] 132)).alloc (.cells #[.int .i64 b, .int .i64 u, .string g] 132) = W0 at *
  go_region_held3 (fun u' => u'.cell? ⟨w.heap.size, 0, none⟩ = some (.int .i64 a) ∧ u'.cell? ⟨w.heap.size, 1, none⟩ = some (.int .i64 v) ∧ u'.cell? ⟨w.heap.size, 2, none⟩ = some (.string f) ∧ u'.cell? ⟨w.heap.size + 1, 0, none⟩ = some (.int .i64 b) ∧ u'.cell? ⟨w.heap.size + 1, 1, none⟩ = some (.int .i64 u) ∧ u'.cell? ⟨w.heap.size + 1, 2, none⟩ = some (.string g)) (go_keep)
    (first | (go_at_call 239; refine (cmp_Compare_int _ _ _).mono ?_; rintro e w2 ⟨rfl, rfl⟩) | (go_at_call 240; refine (cmp_Compare_str _ _ _).mono ?_; rintro e w2 ⟨rfl, rfl⟩) | (go_at_call 238; refine (cmp_Or3 (cmpI a b) (cmpI v u) (cmpS f g) W0.heap.size 3 _ (new3 W0 _ _ _ _).1 (new3 W0 _ _ _ _).2.1 (new3 W0 _ _ _ _).2.2).mono ?_; rintro e w2 ⟨rfl, rfl⟩))
  go_wp2
  go_returns
  go_light
  exact ⟨ret_int hfin.out.symm, (hB0.alloc hB0.size _).drew⟩
theorem impl_OwnerAhead (p q : Ow) (w : World) :
    Calls Tryz.prog 205 #[.agg #[.int .i64 p.a, .int .i64 p.v, .string p.f], .agg #[.int .i64 q.a, .int .i64 q.v, .string q.f]] w fun e w' => e = .returned (.bool (owLt p q)) ∧ Below w.heap.size w w' := by
  have hfin : Hid (owLt p q = decide (ordO p q < 0)) := (ordO_lt p q).symm
  obtain ⟨a, v, f⟩ := p
  obtain ⟨b, u, g⟩ := q
  go_enter Tryz.func205, Tryz.ntmps205
  go_wp2_with fail
  refine (impl_ownerOrder ⟨a, v, f⟩ ⟨b, u, g⟩ _).mono ?_
  rintro e w1 ⟨rfl, hB1⟩
  have hB2 : Below w.heap.size w w1 := chain (by go_grown) hB1
  go_wp2
  go_returns
  go_light
  exact ⟨ret_bool hfin.out.symm, hB2⟩
theorem spec_OwnerAhead (p q : Ow) (w : World) :
    Calls Tryz.prog 214 #[.agg #[.int .i64 p.a, .int .i64 p.v, .string p.f], .agg #[.int .i64 q.a, .int .i64 q.v, .string q.f]] w fun e w' => e = .returned (.bool (owLt p q)) ∧ Below w.heap.size w w' := by
  obtain ⟨a, v, f⟩ := p
  obtain ⟨b, u, g⟩ := q
  go_enter Tryz.func214, Tryz.ntmps214
  go_wp2
  all_goals go_returns
  all_goals go_light
  all_goals refine ⟨?_, by go_grown⟩
  all_goals simp_all [owLt]
end Go.Proofs.YtigldeccfpkdmaaGreatDoor
namespace Go.Proofs.YtigldeccfpkdmaaGreatDoor
open Go.RowKit Go.Shelf
attribute [local go_sem] Oper.semAt_some
/-- What a round that goes on keeps, for the iterator: what lay below n₀, its own copies of extents, the size's box. -/
def KpG (n₀ Bs : Nat) (t : TypeId) (A B : World) : Prop := Below n₀ A B ∧ (∀ b c, Blk A b c t → Blk B b c t) ∧ (∀ v, A.cell? ⟨Bs, 0, none⟩ = some v → B.cell? ⟨Bs, 0, none⟩ = some v)
theorem KpG.t {n₀ Bs : Nat} {t : TypeId} {A B C : World} (h : KpG n₀ Bs t A B) (k : KpG n₀ Bs t B C) : KpG n₀ Bs t A C :=
  ⟨h.1.trans k.1, fun b c hb => k.2.1 b c (h.2.1 b c hb), fun v hv => k.2.2 v (h.2.2 v hv)⟩
theorem KpG.b {n₀ Bs : Nat} {t : TypeId} {w : World} (hn : n₀ ≤ w.heap.size) (hs : Bs < w.heap.size) (W : World) (l : Nat) (o o' : Obj) (hl : w.heap.size ≤ l) (h : W.heap[l]? = some o) (hc : o.isCells = false) (hw : o.isWalk = false) : KpG n₀ Bs t W (W.putObj l o') := by
  refine ⟨belowK_b hn W l o o' hl h hc hw, fun b c hb => ?_, fun v hv => ?_⟩
  · have hbl : b ≠ l := fun e => by subst e; unfold Blk at hb; rw [h] at hb; cases hb; cases hc
    exact Blk.grown hb (grownBy_putObj' W l o') hbl
  · exact (grownBy_putObj' W l o').cell hv (by simp; omega)
end Go.Proofs.YtigldeccfpkdmaaGreatDoor
namespace Go.Proofs.YtigldeccfpkdmaaGreatDoor
open Go.RowKit Go.Shelf
attribute [local go_sem] Oper.semAt_some
theorem ok_parts {size : Int} {l : List Ex} (h : spaceOkB size l = true) : 1 ≤ size ∧ size ≤ 400 ∧ l.length ≤ 60 ∧ xgo size 1 l = true := by
  simp only [spaceOkB, Bool.and_eq_true, decide_eq_true_eq] at h
  exact ⟨h.1.1.1, h.1.1.2, h.1.2, h.2⟩
end Go.Proofs.YtigldeccfpkdmaaGreatDoor
