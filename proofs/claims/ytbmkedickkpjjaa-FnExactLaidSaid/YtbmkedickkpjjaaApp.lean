/- Appending to a slice of the call's own: lists of elements of several cells. -/
import Derived.Test.YtbmkedickkpjjaaMem
namespace Go.Proofs.Ytbmkedickkpjjaa
open Go.RowKit

theorem flat_len {α : Type} {cs : α → List Value} {sz : Nat} (hsz : ∀ x, (cs x).length = sz) (l : List α) : (l.flatMap cs).length = l.length * sz := by
  induction l with
  | nil => simp
  | cons x r ih => simp [ih, hsz, Nat.add_mul]; omega

theorem flat_at {α : Type} {cs : α → List Value} {sz : Nat} (hsz : ∀ x, (cs x).length = sz) (l : List α) : ∀ {i j : Nat} {x : α} {v : Value}, l[i]? = some x → (cs x)[j]? = some v → (l.flatMap cs)[i * sz + j]? = some v := by
  induction l with
  | nil => intro i j x v h; simp at h
  | cons y r ih =>
    intro i j x v hx hv
    have hj : j < sz := by have := (List.getElem?_eq_some_iff.1 hv).1; rw [hsz] at this; exact this
    rw [List.flatMap_cons]
    cases i with
    | zero =>
      simp at hx
      subst hx
      rw [Nat.zero_mul, Nat.zero_add, List.getElem?_append_left (by rw [hsz]; exact hj)]
      exact hv
    | succ i =>
      simp at hx
      rw [List.getElem?_append_right (by rw [hsz, Nat.add_mul]; omega), hsz]
      have e : (i + 1) * sz + j - sz = i * sz + j := by rw [Nat.add_mul]; omega
      rw [e]
      exact ih hx hv

theorem flat_inv {α : Type} {cs : α → List Value} {sz : Nat} (hsz : ∀ x, (cs x).length = sz) (l : List α) : ∀ {t : Nat} {v : Value}, (l.flatMap cs)[t]? = some v → ∃ i x j, l[i]? = some x ∧ (cs x)[j]? = some v ∧ t = i * sz + j := by
  induction l with
  | nil => intro t v h; simp at h
  | cons y r ih =>
    intro t v h
    rw [List.flatMap_cons] at h
    by_cases ht : t < sz
    · rw [List.getElem?_append_left (by rw [hsz]; exact ht)] at h
      exact ⟨0, y, t, rfl, h, by omega⟩
    · rw [List.getElem?_append_right (by rw [hsz]; omega), hsz] at h
      obtain ⟨i, x, j, h1, h2, h3⟩ := ih h
      exact ⟨i + 1, x, j, by simpa using h1, h2, by rw [Nat.add_mul]; omega⟩

/-- The cells of such a slice, one behind the other. -/
theorem SlAt.src {α : Type} {cs : α → List Value} {sz : Nat} (hsz : ∀ x, (cs x).length = sz) {w : World} {b o n : Nat} {l : List α} (h : SlAt cs sz w (some ⟨b, o, none⟩) n l) :
    ∀ j u, (l.flatMap cs)[j]? = some u → w.cell? ((⟨b, o, none⟩ : Addr).add j) = some u := by
  intro t u hu
  obtain ⟨i, x, j, h1, h2, rfl⟩ := flat_inv hsz l hu
  obtain ⟨b', o', ha, hc⟩ := h.cell i x h1
  obtain ⟨rfl, rfl⟩ : b = b' ∧ o = o' := by simpa using ha
  rw [Addr.add_lit, ← Nat.add_assoc]
  exact hc j u h2

/-- An answer: nil, or a slice at the beginning of a block of the call's own. -/
structure ResAt {α : Type} (cs : α → List Value) (sz : Nat) (t : TypeId) (w : World) (B : Nat) (a : Option Addr) (n cap : Nat) (l : List α) : Prop where
  sl : SlAt cs sz w a n l
  own : (a = none ∧ n = 0 ∧ cap = 0) ∨ ∃ b, a = some ⟨b, 0, none⟩ ∧ B ≤ b ∧ n ≤ cap ∧ cap ≤ maxLen ∧ ∃ c, Blk w b c t ∧ c.size = cap * sz ∧ c.toList.take (n * sz) = l.flatMap cs

theorem ResAt.below {α : Type} {cs : α → List Value} {sz : Nat} {t : TypeId} {w w' : World} {B n cap : Nat} {a : Option Addr} {l : List α} (h : ResAt cs sz t w B a n cap l) (hb : Below w.heap.size w w') : ResAt cs sz t w' B a n cap l := by
  refine ⟨h.sl.below hb, ?_⟩
  rcases h.own with h0 | ⟨b, ha, hB, h1, h2, c, hc, q⟩
  · exact .inl h0
  · exact .inr ⟨b, ha, hB, h1, h2, c, hc.below hb, q⟩
theorem ResAt.mono {α : Type} {cs : α → List Value} {sz : Nat} {t : TypeId} {w : World} {B B' n cap : Nat} {a : Option Addr} {l : List α} (h : ResAt cs sz t w B a n cap l) (hb : B' ≤ B) : ResAt cs sz t w B' a n cap l := by
  refine ⟨h.sl, ?_⟩
  rcases h.own with h0 | ⟨b, ha, hB, q⟩
  · exact .inl h0
  · exact .inr ⟨b, ha, by omega, q⟩
/-- As the append laws want it. -/
theorem ResAt.row {α : Type} {cs : α → List Value} {sz : Nat} {t : TypeId} (hsz : ∀ x, (cs x).length = sz) {w : World} {B n cap : Nat} {a : Option Addr} {l : List α} (h : ResAt cs sz t w B a n cap l) : w.ownsRow B t sz (.slice a n cap) n (l.flatMap cs) := by
  refine ⟨by rw [flat_len hsz, h.sl.len], ?_⟩
  rcases h.own with ⟨rfl, rfl, rfl⟩ | ⟨b, rfl, hB, h1, h2, c, hc, hs, ht⟩
  · exact .inl ⟨rfl, rfl⟩
  · exact .inr ⟨b, cap, c, rfl, hB, hc, h1, h2, hs, ht⟩
theorem res_of_row {α : Type} {cs : α → List Value} {sz : Nat} {t : TypeId} (hsz : ∀ x, (cs x).length = sz) {w : World} {B n : Nat} {v : Value} {l : List α} (hn : l.length = n) (h : w.ownsRow B t sz v n (l.flatMap cs)) :
    ∃ a cap, v = .slice a n cap ∧ ResAt cs sz t w B a n cap l := by
  obtain ⟨_, h⟩ := h
  rcases h with ⟨rfl, rfl⟩ | ⟨g, cap, cur, rfl, hB, hh, h1, h2, hs, ht⟩
  · exact ⟨none, 0, rfl, ⟨hn, fun i x hx => by rw [List.eq_nil_of_length_eq_zero hn] at hx; simp at hx⟩, .inl ⟨rfl, rfl, rfl⟩⟩
  · refine ⟨some ⟨g, 0, none⟩, cap, rfl, ⟨hn, fun i x hx => ⟨g, 0, rfl, fun j u hu => ?_⟩⟩, .inr ⟨g, rfl, hB, h1, h2, cur, hh, hs, ht⟩⟩
    have hb : Blk w g cur t := hh
    rw [hb.cell, Nat.zero_add]
    have hf := flat_at hsz l hx hu
    rw [← ht] at hf
    have hlt : i * sz + j < n * sz := by
      have := (List.getElem?_eq_some_iff.1 hf).1
      simp at this
      omega
    rw [List.getElem?_take_of_lt hlt] at hf
    simpa using hf

theorem ResAt.block {α : Type} {cs : α → List Value} {sz : Nat} {t : TypeId} {w : World} {B n cap : Nat} {a : Option Addr} {l : List α} (h : ResAt cs sz t w B a n cap l) : ∀ ad, a = some ad → B ≤ ad.block ∧ ad.block < w.heap.size := by
  intro ad ha
  rcases h.own with ⟨rfl, _⟩ | ⟨b, rfl, hB, _, _, c, hc, _⟩
  · cases ha
  · cases ha
    exact ⟨hB, hc.lt⟩

theorem pcs_len (p : Pt) : p.cs.length = 3 := rfl
theorem ecs_len (p : Ex) : p.cs.length = 2 := rfl
theorem ics_len (x : Int) : [Value.int .i64 x].length = 1 := rfl
theorem pcs_one (l : List Pt) : ∀ u ∈ l.flatMap Pt.cs, u.oneCell' = true := by
  intro u hu
  obtain ⟨p, _, hp⟩ := List.mem_flatMap.1 hu
  simp [Pt.cs] at hp
  rcases hp with rfl | rfl | rfl <;> rfl
theorem ecs_one (l : List Ex) : ∀ u ∈ l.flatMap Ex.cs, u.oneCell' = true := by
  intro u hu
  obtain ⟨p, _, hp⟩ := List.mem_flatMap.1 hu
  simp [Ex.cs] at hp
  rcases hp with rfl | rfl <;> rfl
end Go.Proofs.Ytbmkedickkpjjaa
