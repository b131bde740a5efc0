/- Owners and counts as plain data: their order, the lists that are added up, and that two lists in order with the same sums are one. -/
import Derived.Test.YtbmkedickkpjjaaBase
import Derived.Laws.Cover1
namespace Go.Proofs.Ytbmkedickkpjjaa
open Go.RowKit

/-- An owner: Addr, Vol, File. -/
structure Ow where
  a : Int
  v : Int
  f : ByteArray

/-- A count: Owner, N. -/
structure Ct where
  o : Ow
  n : Int

def Ow.vs (o : Ow) : Array Value := #[.int .i64 o.a, .int .i64 o.v, .string o.f]
/-- The cells of a count. -/
def Ct.cs (c : Ct) : List Value := [.int .i64 c.o.a, .int .i64 c.o.v, .string c.o.f, .int .i64 c.n]

abbrev CtsAt := SlAt Ct.cs 4

theorem cts_at {w : World} {a : Option Addr} {n : Nat} {l : List Ct} (h : CtsAt w a n l) {k : Nat} (hk : k < n) :
    ∃ b o p, a = some ⟨b, o, none⟩ ∧ l[k]? = some p ∧ w.cell? ⟨b, o + k * 4, none⟩ = some (.int .i64 p.o.a) ∧ w.cell? ⟨b, o + k * 4 + 1, none⟩ = some (.int .i64 p.o.v) ∧ w.cell? ⟨b, o + k * 4 + 2, none⟩ = some (.string p.o.f) ∧ w.cell? ⟨b, o + k * 4 + 3, none⟩ = some (.int .i64 p.n) := by
  have hl : k < l.length := by rw [h.len]; exact hk
  have hx : l[k]? = some l[k] := by simp [hl]
  obtain ⟨b, o, ha, hc⟩ := h.cell k _ hx
  exact ⟨b, o, l[k], ha, hx, hc 0 _ rfl, hc 1 _ rfl, hc 2 _ rfl, hc 3 _ rfl⟩

/-! ### The order of texts -/
abbrev bl := Op.bytesLess

theorem bl_irrefl : ∀ x : List UInt8, bl x x = false
  | [] => rfl
  | a :: x => by simp [bl, Op.bytesLess]; exact bl_irrefl x
theorem bl_total : ∀ {x y : List UInt8}, bl x y = false → x ≠ y → bl y x = true
  | [], [], _, h => absurd rfl h
  | [], b :: y, h, _ => by simp [bl, Op.bytesLess] at h
  | a :: x, [], _, _ => rfl
  | a :: x, b :: y, h, hne => by
    simp only [bl, Op.bytesLess, Bool.or_eq_false_iff, Bool.and_eq_false_iff, decide_eq_false_iff_not] at h
    obtain ⟨h1, h2⟩ := h
    simp only [bl, Op.bytesLess, Bool.or_eq_true, Bool.and_eq_true, decide_eq_true_eq, beq_iff_eq]
    by_cases hab : a = b
    · subst hab
      right
      refine ⟨rfl, bl_total (h2.resolve_left (by simp)) (fun e => hne (by rw [e]))⟩
    · left
      have h1' : b.toNat ≤ a.toNat := by simpa [UInt8.lt_iff_toNat_lt] using h1
      have : a.toNat ≠ b.toNat := fun e => hab (UInt8.toNat_inj.1 e)
      rw [UInt8.lt_iff_toNat_lt]; omega
theorem bl_asymm : ∀ {x y : List UInt8}, bl x y = true → bl y x = false
  | [], [], h => by simp [bl, Op.bytesLess] at h
  | [], b :: y, _ => rfl
  | a :: x, [], h => by simp [bl, Op.bytesLess] at h
  | a :: x, b :: y, h => by
    simp only [bl, Op.bytesLess, Bool.or_eq_true, Bool.and_eq_true, decide_eq_true_eq, beq_iff_eq] at h
    simp only [bl, Op.bytesLess, Bool.or_eq_false_iff, Bool.and_eq_false_iff, decide_eq_false_iff_not, beq_eq_false_iff_ne]
    rcases h with h | ⟨rfl, h⟩
    · have h' := UInt8.lt_iff_toNat_lt.1 h
      refine ⟨fun k => by have := UInt8.lt_iff_toNat_lt.1 k; omega, .inl fun e => by subst e; omega⟩
    · exact ⟨fun k => by have := UInt8.lt_iff_toNat_lt.1 k; omega, .inr (bl_asymm h)⟩
theorem bl_trans : ∀ {x y z : List UInt8}, bl x y = true → bl y z = true → bl x z = true
  | [], [], _, h, _ => by simp [bl, Op.bytesLess] at h
  | [], b :: y, [], _, h => by simp [bl, Op.bytesLess] at h
  | [], b :: y, c :: z, _, _ => rfl
  | a :: x, [], _, h, _ => by simp [bl, Op.bytesLess] at h
  | a :: x, b :: y, [], _, h => by simp [bl, Op.bytesLess] at h
  | a :: x, b :: y, c :: z, h1, h2 => by
    simp only [bl, Op.bytesLess, Bool.or_eq_true, Bool.and_eq_true, decide_eq_true_eq, beq_iff_eq, UInt8.lt_iff_toNat_lt] at *
    rcases h1 with h1 | ⟨rfl, h1⟩
    · rcases h2 with h2 | ⟨rfl, h2⟩
      · left; omega
      · left; exact h1
    · rcases h2 with h2 | ⟨rfl, h2⟩
      · left; exact h2
      · right; exact ⟨rfl, bl_trans h1 h2⟩

theorem bytes_eq {x y : ByteArray} (h : x.toList = y.toList) : x = y := by
  rw [ByteArray.toList_eq, ByteArray.toList_eq] at h
  cases x; cases y
  congr 1
  exact Array.toList_inj.1 h

/-! ### The order of owners -/
def owEq (a b : Ow) : Bool := a.a == b.a && a.v == b.v && a.f.toList == b.f.toList
theorem owEq_iff {a b : Ow} : owEq a b = true ↔ a = b := by
  constructor
  · intro h
    simp [owEq] at h
    obtain ⟨⟨h1, h2⟩, h3⟩ := h
    cases a; cases b
    simp at *
    exact ⟨h1, h2, bytes_eq h3⟩
  · rintro rfl; simp [owEq]

def owLt (a b : Ow) : Bool := if a.a ≠ b.a then decide (a.a < b.a) else if a.v ≠ b.v then decide (a.v < b.v) else bl a.f.toList b.f.toList
theorem owLt_irrefl (a : Ow) : owLt a a = false := by simp [owLt, bl_irrefl]
theorem owLt_total {a b : Ow} (h : owLt a b = false) (hne : a ≠ b) : owLt b a = true := by
  by_cases h1 : a.a = b.a
  · by_cases h2 : a.v = b.v
    · have h3 : a.f.toList ≠ b.f.toList := fun e => hne (owEq_iff.1 (by simp [owEq, h1, h2, e]))
      simp only [owLt, h1, h2, ne_eq, not_true, if_false] at h ⊢
      exact bl_total h h3
    · simp only [owLt, h1, ne_eq, not_true, if_false, h2, not_false_eq_true, if_true, decide_eq_false_iff_not] at h
      simp only [owLt, h1, ne_eq, not_true, if_false, if_pos (Ne.symm h2), decide_eq_true_eq]; omega
  · simp only [owLt, ne_eq, h1, not_false_eq_true, if_true, decide_eq_false_iff_not] at h
    simp only [owLt, ne_eq, if_pos (Ne.symm h1), decide_eq_true_eq]; omega
theorem owLt_asymm {a b : Ow} (h : owLt a b = true) : owLt b a = false := by
  by_cases h1 : a.a = b.a
  · by_cases h2 : a.v = b.v
    · simp only [owLt, h1, h2, ne_eq, not_true, if_false] at h ⊢
      exact bl_asymm h
    · simp only [owLt, h1, ne_eq, not_true, if_false, h2, not_false_eq_true, if_true, decide_eq_true_eq] at h
      simp only [owLt, h1, ne_eq, not_true, if_false, if_pos (Ne.symm h2), decide_eq_false_iff_not]; omega
  · simp only [owLt, ne_eq, h1, not_false_eq_true, if_true, decide_eq_true_eq] at h
    simp only [owLt, ne_eq, if_pos (Ne.symm h1), decide_eq_false_iff_not]; omega
theorem owLt_iff {a b : Ow} : owLt a b = true ↔ a.a < b.a ∨ (a.a = b.a ∧ (a.v < b.v ∨ (a.v = b.v ∧ bl a.f.toList b.f.toList = true))) := by
  unfold owLt
  split
  · rename_i h; simp; omega
  · rename_i h
    split
    · rename_i k; simp; omega
    · rename_i k
      simp at h k
      constructor
      · intro e; exact .inr ⟨h, .inr ⟨k, e⟩⟩
      · rintro (e | ⟨_, e | ⟨_, e⟩⟩)
        · omega
        · omega
        · exact e
theorem owLt_trans {a b c : Ow} (h : owLt a b = true) (k : owLt b c = true) : owLt a c = true := by
  rw [owLt_iff] at *
  rcases h with h | ⟨h1, h | ⟨h2, h⟩⟩ <;> rcases k with k | ⟨k1, k | ⟨k2, k⟩⟩
  case inr.inr.inr.inr => exact .inr ⟨by omega, .inr ⟨by omega, bl_trans h k⟩⟩
  case inl.inl => exact .inl (by omega)
  case inl.inr.inl => exact .inl (by omega)
  case inl.inr.inr => exact .inl (by omega)
  case inr.inl.inl => exact .inl (by omega)
  case inr.inr.inl => exact .inl (by omega)
  case inr.inl.inr.inl => exact .inr ⟨by omega, .inl (by omega)⟩
  case inr.inl.inr.inr => exact .inr ⟨by omega, .inl (by omega)⟩
  case inr.inr.inr.inl => exact .inr ⟨by omega, .inl (by omega)⟩

/-! ### cmp.Compare, cmp.Or -/
def cmpI (x y : Int) : Int := if x < y then -1 else if y < x then 1 else 0
def cmpS (x y : ByteArray) : Int := if bl x.toList y.toList = true then -1 else if x.toList = y.toList then 0 else 1
def or3 (x y z : Int) : Int := if x ≠ 0 then x else if y ≠ 0 then y else z
def ordO (a b : Ow) : Int := or3 (cmpI a.a b.a) (cmpI a.v b.v) (cmpS a.f b.f)

theorem ordO_lt (a b : Ow) : decide (ordO a b < 0) = owLt a b := by
  rw [Bool.eq_iff_iff, owLt_iff, decide_eq_true_eq]
  unfold ordO or3 cmpI cmpS
  rcases Int.lt_trichotomy a.a b.a with h | h | h
  · rw [if_pos h, if_pos (by decide)]; constructor
    · intro _; exact .inl h
    · intro _; decide
  · rw [h, if_neg (Int.lt_irrefl _), if_neg (Int.lt_irrefl _), if_neg (by decide)]
    rcases Int.lt_trichotomy a.v b.v with k | k | k
    · rw [if_pos k, if_pos (by decide)]; constructor
      · intro _; exact .inr ⟨rfl, .inl k⟩
      · intro _; decide
    · rw [k, if_neg (Int.lt_irrefl _), if_neg (Int.lt_irrefl _), if_neg (by decide)]
      cases h5 : bl a.f.toList b.f.toList
      · constructor
        · intro e
          rw [if_neg (by decide)] at e
          split at e <;> omega
        · rintro (e | ⟨_, e | ⟨_, e⟩⟩)
          · omega
          · omega
          · cases e
      · constructor
        · intro _; exact .inr ⟨rfl, .inr ⟨rfl, rfl⟩⟩
        · intro _; rw [if_pos rfl]; decide
    · rw [if_neg (show ¬ a.v < b.v by omega), if_pos k, if_pos (by decide)]; constructor
      · intro e; omega
      · rintro (e | ⟨_, e | ⟨_, e⟩⟩) <;> omega
  · rw [if_neg (show ¬ a.a < b.a by omega), if_pos h, if_pos (by decide)]; constructor
    · intro e; omega
    · rintro (e | ⟨e, _⟩) <;> omega
end Go.Proofs.Ytbmkedickkpjjaa
