/- Files in the making, in memory; whether they fit. Files taken to be changed. Where a file is, or would be, by the program. Taking one row out of a slice of the call's own. Taking a file out. A file removed, by the program. A shelf against a list of files: taking out. A shelf against a list of files: putting in. Pieces with one more; names that still rise. A shelf against a list of files: the three changes. Putting a file into its place. A file appended to, and one renamed, by the program. The laws' copies, sizes and comparisons of disks; how a disk that is an argument lies in memory. The laws' copy of a disk; a disk that is an argument. How the laws' arguments, as they are read, lie in memory: disks. Copies of a disk, and a disk of which all is safe, by the model. An op on a right disk, Do and Sync, by the model. Copies of a disk, by the program. -/
import Derived.Test.YtigldeccfpkdmaaGreatDoorCReadPoolx29
import Derived.Test.YtigldeccfpkdmaaGreatDoorCReadPoolx01
import Derived.Test.YtigldeccfpkdmaaGreatDoorProg
import Derived.Shelf.Small.Strs
import Derived.Deep.RegionLaw
import Derived.Shelf.Strings.OnBuilder
import Derived.Laws.StructEq
import Derived.Lib.SliceRun
import Derived.Lib.AppendZerosOnto
import Derived.Lib.Overlaps
import Derived.Laws.CopyOwn
import Derived.Laws.NewBlocks
import Derived.Lib.SmallJoins
import Derived.Test.YtigldeccfpkdmaaGreatDoorCReadPoolx00
import Derived.ArgAppend
namespace Go.Proofs.YtigldeccfpkdmaaGreatDoor
open Go Go.RowKit Go.BigFrame
structure Hr where
  nm : ByteArray
  pa : Option Addr
  pn : Nat
  pc : Nat
def hrs (r : Hr) : List Value := [.string r.nm, .slice r.pa r.pn r.pc]
structure Hy where
  nm : ByteArray
  ps : List ByteArray
def sps (s : ByteArray) : List Value := [.string s]
/-- A file's pieces lie in a block of their own. -/
structure HT (B : Nat) (w : World) (r : Hr) (y : Hy) : Prop where
  nm : r.nm = y.nm
  ps : ResAt sps 1 9 w B r.pa r.pn r.pc y.ps
structure HsT (B : Nat) (w : World) (rows : List Hr) (l : List Hy) : Prop where
  len : rows.length = l.length
  at' : ∀ (i : Nat) r y, rows[i]? = some r → l[i]? = some y → HT B w r y
  apart : ∀ (i j : Nat) r s x y, i ≠ j → rows[i]? = some r → rows[j]? = some s → r.pa = some x → s.pa = some y → x.block ≠ y.block
theorem HT.below {B : Nat} {w w' : World} {r : Hr} {y : Hy} (h : HT B w r y) (hb : Below w.heap.size w w') : HT B w' r y := ⟨h.nm, h.ps.below hb⟩
theorem HsT.below {B : Nat} {w w' : World} {rows : List Hr} {l : List Hy} (h : HsT B w rows l) (hb : Below w.heap.size w w') : HsT B w' rows l := ⟨h.len, fun i r y h1 h2 => (h.at' i r y h1 h2).below hb, h.apart⟩
theorem HT.mono {B B' : Nat} {w : World} {r : Hr} {y : Hy} (h : HT B w r y) (hb : B' ≤ B) : HT B' w r y := ⟨h.nm, h.ps.mono hb⟩
theorem HsT.mono {B B' : Nat} {w : World} {rows : List Hr} {l : List Hy} (h : HsT B w rows l) (hb : B' ≤ B) : HsT B' w rows l := ⟨h.len, fun i r y h1 h2 => (h.at' i r y h1 h2).mono hb, h.apart⟩
theorem HsT.nil (B : Nat) (w : World) : HsT B w [] [] := ⟨rfl, fun i r y h => by simp at h, fun i j r s x y _ h => by simp at h⟩
theorem HsT.block {B : Nat} {w : World} {rows : List Hr} {l : List Hy} (h : HsT B w rows l) {i : Nat} {r : Hr} (hi : rows[i]? = some r) : ∀ ad, r.pa = some ad → B ≤ ad.block ∧ ad.block < w.heap.size := fun ad had => by
  have hl := (List.getElem?_eq_some_iff.1 hi).1
  exact (h.at' i r _ hi (List.getElem?_eq_getElem (by rw [← h.len]; exact hl))).ps.block ad had
/-- One more, whose pieces lie in a new block. -/
theorem HsT.snoc {B : Nat} {w w0 : World} {rows : List Hr} {l : List Hy} {r : Hr} {y : Hy} (h : HsT B w rows l) (h' : HT B w r y) (hold : ∀ (i : Nat) q x, rows[i]? = some q → q.pa = some x → x.block < w0.heap.size) (hnew : ∀ x, r.pa = some x → w0.heap.size ≤ x.block) : HsT B w (rows ++ [r]) (l ++ [y]) := by
  have hat : ∀ (i : Nat) q z, (rows ++ [r])[i]? = some q → (l ++ [y])[i]? = some z → HT B w q z := by
    intro i q z h1 h2
    by_cases hi : i < rows.length
    · rw [List.getElem?_append_left hi] at h1
      rw [List.getElem?_append_left (by rw [← h.len]; exact hi)] at h2
      exact h.at' i q z h1 h2
    · rw [List.getElem?_append_right (by omega)] at h1
      rw [List.getElem?_append_right (by rw [← h.len]; omega)] at h2
      have h0 : i - rows.length = 0 := by have := (List.getElem?_eq_some_iff.1 h1).1; simp at this; omega
      rw [h0] at h1
      rw [← h.len, h0] at h2
      simp at h1 h2
      subst h1 h2
      exact h'
  refine ⟨by simp [h.len], hat, ?_⟩
  have hcase : ∀ (i : Nat) q, (rows ++ [r])[i]? = some q → rows[i]? = some q ∨ (i = rows.length ∧ q = r) := by
    intro i q h1
    by_cases hi : i < rows.length
    · rw [List.getElem?_append_left hi] at h1; exact .inl h1
    · rw [List.getElem?_append_right (by omega)] at h1
      have h0 : i - rows.length = 0 := by have := (List.getElem?_eq_some_iff.1 h1).1; simp at this; omega
      rw [h0] at h1
      simp at h1
      exact .inr ⟨by omega, h1.symm⟩
  intro i j p q x z hij h1 h2 hx hz
  rcases hcase i p h1 with g1 | ⟨e1, e1'⟩
  · rcases hcase j q h2 with g2 | ⟨e2, e2'⟩
    · exact h.apart i j p q x z hij g1 g2 hx hz
    · have := hold i p x g1 hx
      rw [e2'] at hz
      have := hnew z hz
      omega
  · rcases hcase j q h2 with g2 | ⟨e2, e2'⟩
    · have := hold j q z g2 hz
      rw [e1'] at hx
      have := hnew x hx
      omega
    · omega
end Go.Proofs.YtigldeccfpkdmaaGreatDoor
namespace Go.Proofs.YtigldeccfpkdmaaGreatDoor
open Go Go.RowKit Go.BigFrame
theorem HsT.ty {B : Nat} {w w' : World} {rows : List Hr} {l : List Hy} {row : Option Nat} {t' : TypeId} (h : HsT B w rows l) (hg : w.grownBy w' row) (hr : RowTy w row t') (ht : (9 : TypeId) ≠ t') : HsT B w' rows l := ⟨h.len, fun i r y h1 h2 => ⟨(h.at' i r y h1 h2).nm, (h.at' i r y h1 h2).ps.ty hg hr ht⟩, h.apart⟩
theorem HT.ty {B : Nat} {w w' : World} {r : Hr} {y : Hy} {row : Option Nat} {t' : TypeId} (h : HT B w r y) (hg : w.grownBy w' row) (hr : RowTy w row t') (ht : (9 : TypeId) ≠ t') : HT B w' r y := ⟨h.nm, h.ps.ty hg hr ht⟩
section
variable {o : Oper} {a : Act} {w : World} {K : Act → World → Prop} {Q : Exit → Act → World → Prop}
end
theorem Blk.one {w : World} {b : Nat} {c0 : Value} {t : TypeId} (h : Blk w b #[c0] t) : w.cell? ⟨b, 0, none⟩ = some c0 := h.cell 0
end Go.Proofs.YtigldeccfpkdmaaGreatDoor
namespace Go.Proofs.YtigldeccfpkdmaaGreatDoor
open Go Go.RowKit Go.BigFrame
/-- Where the file is, or would be. -/
def plH (l : List Hy) (s : ByteArray) : Nat := (l.takeWhile (fun y => bl y.nm.toList s.toList)).length
def hasH (l : List Hy) (s : ByteArray) : Bool := match l[plH l s]? with | some y => y.nm.toList == s.toList | none => false
/-- By rising names. -/
def SrtH (l : List Hy) : Prop := ∀ (i j : Nat) x y, i < j → l[i]? = some x → l[j]? = some y → bl x.nm.toList y.nm.toList = true
theorem plH_is {s : ByteArray} : ∀ {l : List Hy} {i : Nat}, i ≤ l.length → (∀ (t : Nat) (x : Hy), t < i → l[t]? = some x → bl x.nm.toList s.toList = true) → (∀ (t : Nat) (x : Hy), i ≤ t → l[t]? = some x → bl x.nm.toList s.toList = false) → plH l s = i
  | [], i, hi, _, _ => by simp at hi; subst hi; rfl
  | y :: r, 0, _, _, h2 => by
    have := h2 0 y (Nat.le_refl _) rfl
    simp [plH, List.takeWhile, this]
  | y :: r, i + 1, hi, h1, h2 => by
    have := h1 0 y (by omega) rfl
    have ih := plH_is (s := s) (l := r) (i := i) (by simpa using hi) (fun t x ht hx => h1 (t + 1) x (by omega) (by simpa using hx)) (fun t x ht hx => h2 (t + 1) x (by omega) (by simpa using hx))
    unfold plH at ih ⊢
    simp [List.takeWhile, this, ih]
theorem SrtH.lo {l : List Hy} (h : SrtH l) {s : ByteArray} {m : Nat} {y : Hy} (hy : l[m]? = some y) (hb : bl y.nm.toList s.toList = true) : ∀ (t : Nat) (x : Hy), t < m + 1 → l[t]? = some x → bl x.nm.toList s.toList = true := by
  intro t x ht hx
  by_cases he : t = m
  · subst he; rw [hy] at hx; cases hx; exact hb
  · exact bl_trans (h t m x y (by omega) hx hy) hb
theorem SrtH.hi {l : List Hy} (h : SrtH l) {s : ByteArray} {m : Nat} {y : Hy} (hy : l[m]? = some y) (hb : bl y.nm.toList s.toList = false) : ∀ (t : Nat) (x : Hy), m ≤ t → l[t]? = some x → bl x.nm.toList s.toList = false := by
  intro t x ht hx
  by_cases he : t = m
  · subst he; rw [hy] at hx; cases hx; exact hb
  · cases hc : bl x.nm.toList s.toList
    · rfl
    · rw [bl_trans (h m t y x (by omega) hy hx) hc] at hb; cases hb
end Go.Proofs.YtigldeccfpkdmaaGreatDoor
namespace Go.Proofs.YtigldeccfpkdmaaGreatDoor
open Go Go.RowKit Go.BigFrame
theorem Blk.row {w : World} {b : Nat} {c c' : Array Value} {t : TypeId} (h : Blk w b c t) : Blk (w.setRow b c') b c' t := setRow_heap w b c c' t _ h
end Go.Proofs.YtigldeccfpkdmaaGreatDoor
namespace Go.Proofs.YtigldeccfpkdmaaGreatDoor
open Go Go.RowKit Go.BigFrame
/-- All that was there is as it was, but the shelf and the block of its files. -/
def FrS (sb : Nat) (a : Option Addr) (w w' : World) : Prop := ∀ k, k < w.heap.size → k ≠ sb → (∀ ad, a = some ad → k ≠ ad.block) → w'.heap[k]? = w.heap[k]?
theorem FrS.of {sb : Nat} {a : Option Addr} {w w' : World} (h : Below w.heap.size w w') : FrS sb a w w' := fun k hk _ _ => h.block k hk
theorem FrS.grown {sb : Nat} {a : Option Addr} {w w1 w2 : World} {row : Option Nat} (h : FrS sb a w w1) (hs : w.heap.size ≤ w1.heap.size) (hg : w1.grownBy w2 row) (hr : ∀ k, row = some k → k = sb ∨ (∃ ad, a = some ad ∧ k = ad.block) ∨ w.heap.size ≤ k) : FrS sb a w w2 := fun k hk h1 h2 => by
  rw [hg.block k (by omega) (fun e => ?_)]
  · exact h k hk h1 h2
  · rcases hr k e.symm with h3 | ⟨ad, h3, h4⟩ | h3
    · exact h1 h3
    · exact h2 ad h3 h4
    · omega
theorem FrS.from {sb : Nat} {a : Option Addr} {w0 w w' : World} (h : FrS sb a w w') (hb : Below w0.heap.size w0 w) : FrS sb a w0 w' := fun k hk h1 h2 => (h k (Nat.lt_of_lt_of_le hk hb.size) h1 h2).trans (hb.block k hk)
theorem FrS.blk {sb : Nat} {a : Option Addr} {w w' : World} (h : FrS sb a w w') {k : Nat} {c : Array Value} {t : TypeId} (hk : Blk w k c t) (h1 : k ≠ sb) (h2 : ∀ ad, a = some ad → k ≠ ad.block) : Blk w' k c t := by
  unfold Blk; rw [h k hk.lt h1 h2]; exact hk
/-- What is left when a file was taken out. -/
structure Lifted (B B0 sb : Nat) (a : Option Addr) (n cap p : Nat) (rows : List Hr) (l : List Hy) (r : Hr) (y : Hy) (w w' : World) : Prop where
  sh : Blk w' sb #[.slice a (n - 1) cap] 207
  res : ResAt hrs 2 253 w' B a (n - 1) cap (rows.eraseIdx p)
  its : HsT B w' (rows.eraseIdx p) (l.eraseIdx p)
  one : HT B w' r y
  low : Below B0 w w'
  fr : FrS sb a w w'
end Go.Proofs.YtigldeccfpkdmaaGreatDoor
namespace Go.Proofs.YtigldeccfpkdmaaGreatDoor
open Go Go.RowKit Go.BigFrame
theorem Lifted.from {B B0 sb : Nat} {a : Option Addr} {n cap p : Nat} {rows : List Hr} {l : List Hy} {r : Hr} {y : Hy} {w0 w w' : World} (h : Lifted B B0 sb a n cap p rows l r y w w') (hb : Below w0.heap.size w0 w) (h0 : B0 ≤ w0.heap.size) : Lifted B B0 sb a n cap p rows l r y w0 w' :=
  ⟨h.sh, h.res, h.its, h.one, (hb.mono h0).trans h.low, h.fr.from hb⟩
end Go.Proofs.YtigldeccfpkdmaaGreatDoor
namespace Go.Proofs.YtigldeccfpkdmaaGreatDoor
open Go Go.RowKit
theorem plH_at {l : List Hy} (hs : SrtH l) {s : ByteArray} {j : Nat} {y : Hy} (hy : l[j]? = some y) (he : y.nm.toList = s.toList) : plH l s = j := by
  refine plH_is (Nat.le_of_lt (List.getElem?_eq_some_iff.1 hy).1) (fun t x ht hx => ?_) (fun t x ht hx => ?_)
  · rw [← he]; exact hs t j x y ht hx hy
  · by_cases h : t = j
    · subst h; rw [hy] at hx; cases hx; rw [he]; exact bl_irrefl _
    · have := hs j t y x (by omega) hy hx
      rw [he] at this
      exact bl_asymm this
theorem has_at {l : List Hy} (hs : SrtH l) {s : ByteArray} {j : Nat} {y : Hy} (hy : l[j]? = some y) (he : y.nm.toList = s.toList) : hasH l s = true := by
  unfold hasH
  rw [plH_at hs hy he, hy]
  simp [he]
end Go.Proofs.YtigldeccfpkdmaaGreatDoor
namespace Go.Proofs.YtigldeccfpkdmaaGreatDoor
open Go Go.RowKit
theorem take_while_len {α : Type} (q : α → Bool) (l : List α) : l.take (l.takeWhile q).length = l.takeWhile q ∧ l.drop (l.takeWhile q).length = l.dropWhile q := by
  have h := List.takeWhile_append_dropWhile (p := q) (l := l)
  constructor
  · conv => lhs; arg 2; rw [← h]
    exact List.take_left
  · conv => lhs; arg 2; rw [← h]
    exact List.drop_left
end Go.Proofs.YtigldeccfpkdmaaGreatDoor
namespace Go.Proofs.YtigldeccfpkdmaaGreatDoor
open Go Go.RowKit
theorem tw_all {α : Type} (q : α → Bool) : ∀ (l : List α) (x : α), x ∈ l.takeWhile q → q x = true
  | [], x, h => by simp at h
  | y :: r, x, h => by
    cases hy : q y
    · rw [List.takeWhile_cons, hy] at h; simp at h
    · rw [List.takeWhile_cons, hy] at h
      simp at h
      rcases h with rfl | h
      · exact hy
      · exact tw_all q r x h
theorem dw_head {α : Type} (q : α → Bool) : ∀ (l : List α) (x : α), (l.dropWhile q)[0]? = some x → q x = false
  | [], x, h => by simp at h
  | y :: r, x, h => by
    cases hy : q y
    · rw [List.dropWhile_cons, hy] at h
      simp at h
      rw [← h]; exact hy
    · rw [List.dropWhile_cons, hy] at h
      exact dw_head q r x h
theorem SrtH.put {l : List Hy} (hs : SrtH l) (y : Hy) (hh : hasH l y.nm = false) : SrtH (l.take (plH l y.nm) ++ [y] ++ l.drop (plH l y.nm)) := by
  have h1 := take_while_len (fun z : Hy => bl z.nm.toList y.nm.toList) l
  have hp : plH l y.nm ≤ l.length := by
    unfold plH
    exact (List.takeWhile_sublist _).length_le
  have hlo : ∀ (t : Nat) x, t < plH l y.nm → l[t]? = some x → bl x.nm.toList y.nm.toList = true := by
    intro t x ht hx
    have hm : x ∈ l.takeWhile (fun z : Hy => bl z.nm.toList y.nm.toList) := by
      rw [← h1.1]
      refine List.mem_iff_getElem?.2 ⟨t, ?_⟩
      rw [List.getElem?_take]
      unfold plH at ht
      simp [ht, hx]
    exact tw_all (fun z : Hy => bl z.nm.toList y.nm.toList) l x hm
  have hne : ∀ (t : Nat) x, l[t]? = some x → x.nm.toList ≠ y.nm.toList := fun t x hx he => by rw [has_at hs hx he] at hh; cases hh
  have hhi : ∀ (t : Nat) x, plH l y.nm ≤ t → l[t]? = some x → bl y.nm.toList x.nm.toList = true := by
    intro t x ht hx
    cases hb : bl x.nm.toList y.nm.toList
    · exact bl_total hb (hne t x hx)
    · exfalso
      -- all ahead of t are less too: so the first one that is not lies behind t
      have hlt : plH l y.nm < l.length := by have := (List.getElem?_eq_some_iff.1 hx).1; omega
      obtain ⟨z, hz⟩ : ∃ z, l[plH l y.nm]? = some z := ⟨_, List.getElem?_eq_getElem hlt⟩
      have hzb : bl z.nm.toList y.nm.toList = true := by
        by_cases he : plH l y.nm = t
        · rw [he, hx] at hz; cases hz; exact hb
        · exact bl_trans (hs _ t z x (by omega) hz hx) hb
      have hd : (l.dropWhile (fun z : Hy => bl z.nm.toList y.nm.toList))[0]? = some z := by
        rw [← h1.2, List.getElem?_drop]
        simpa [plH] using hz
      have hnot := dw_head (fun z : Hy => bl z.nm.toList y.nm.toList) l z hd
      rw [hzb] at hnot; cases hnot
  have hcase : ∀ (i : Nat) x, (l.take (plH l y.nm) ++ [y] ++ l.drop (plH l y.nm))[i]? = some x → (i < plH l y.nm ∧ l[i]? = some x) ∨ (i = plH l y.nm ∧ x = y) ∨ (plH l y.nm < i ∧ l[i - 1]? = some x) := by
    intro i x hx
    have hlt : (l.take (plH l y.nm)).length = plH l y.nm := by simp; omega
    rw [List.append_assoc] at hx
    by_cases h1 : i < plH l y.nm
    · rw [List.getElem?_append_left (by omega), List.getElem?_take] at hx
      exact .inl ⟨h1, by simpa [h1] using hx⟩
    · rw [List.getElem?_append_right (by omega), hlt] at hx
      by_cases h2 : i = plH l y.nm
      · rw [h2] at hx
        simp at hx
        exact .inr (.inl ⟨h2, hx.symm⟩)
      · obtain ⟨k, hk⟩ : ∃ k, i - plH l y.nm = k + 1 := ⟨i - plH l y.nm - 1, by omega⟩
        rw [hk] at hx
        simp only [List.singleton_append, List.getElem?_cons_succ, List.getElem?_drop] at hx
        exact .inr (.inr ⟨by omega, by rw [show i - 1 = plH l y.nm + k by omega]; exact hx⟩)
  intro i j x z hij hx hz
  rcases hcase i x hx with ⟨a1, a2⟩ | ⟨a1, rfl⟩ | ⟨a1, a2⟩ <;> rcases hcase j z hz with ⟨b1, b2⟩ | ⟨b1, rfl⟩ | ⟨b1, b2⟩
  · exact hs i j x z hij a2 b2
  · exact hlo i x a1 a2
  · exact hs i (j - 1) x z (by omega) a2 b2
  · omega
  · omega
  · exact hhi (j - 1) z (by omega) b2
  · omega
  · omega
  · exact hs (i - 1) (j - 1) x z (by omega) a2 b2
end Go.Proofs.YtigldeccfpkdmaaGreatDoor
namespace Go.Proofs.YtigldeccfpkdmaaGreatDoor
open Go Go.RowKit
def popH (l : List Hy) (s : ByteArray) : List Hy := if hasH l s = true then l.eraseIdx (plH l s) else l
def pieH (l : List Hy) (s : ByteArray) : List ByteArray := if hasH l s = true then (match l[plH l s]? with | some y => y.ps | none => []) else []
/-- Bounds of a shelf: pieces, their sizes, names. -/
structure BndH (M S : Nat) (l : List Hy) : Prop where
  ps : ∀ y ∈ l, y.ps.length ≤ M
  sz : ∀ y ∈ l, ∀ s ∈ y.ps, s.size ≤ S
  nm : ∀ y ∈ l, nmB y.nm = true
theorem BndH.mono {M S M' S' : Nat} {l : List Hy} (h : BndH M S l) (h1 : M ≤ M') (h2 : S ≤ S') : BndH M' S' l := ⟨fun y hy => Nat.le_trans (h.ps y hy) h1, fun y hy s hs => Nat.le_trans (h.sz y hy s hs) h2, h.nm⟩
end Go.Proofs.YtigldeccfpkdmaaGreatDoor
namespace Go.Proofs.YtigldeccfpkdmaaGreatDoor
open Go Go.RowKit Go.BigFrame
/-- A shelf in memory. -/
def ShAt (B sb : Nat) (w : World) (l : List Hy) : Prop := ∃ a n cap rows, Blk w sb #[.slice a n cap] 207 ∧ ResAt hrs 2 253 w B a n cap rows ∧ HsT B w rows l
theorem ShAt.below {B sb : Nat} {w w' : World} {l : List Hy} (h : ShAt B sb w l) (hb : Below w.heap.size w w') : ShAt B sb w' l := by
  obtain ⟨a, n, cap, rows, h1, h2, h3⟩ := h
  exact ⟨a, n, cap, rows, h1.below hb, h2.below hb, h3.below hb⟩
end Go.Proofs.YtigldeccfpkdmaaGreatDoor
namespace Go.Proofs.YtigldeccfpkdmaaGreatDoor
open Go Go.RowKit Go.BigFrame
/-- What is left when a file was lifted, or none was there. -/
structure LiftAt (B B0 sb : Nat) (rows0 : List Hr) (l : List Hy) (s : ByteArray) (r : Hr) (w w' : World) : Prop where
  sh : ∃ a n cap rows, Blk w' sb #[.slice a n cap] 207 ∧ ResAt hrs 2 253 w' B a n cap rows ∧ HsT B w' rows (popH l s) ∧ (∀ (i : Nat) q x z, rows[i]? = some q → q.pa = some x → r.pa = some z → x.block ≠ z.block) ∧ (∀ ad, a = some ad → ad.block < w.heap.size) ∧ ∀ (i : Nat) q, rows[i]? = some q → ∃ j : Nat, rows0[j]? = some q
  ps : ResAt sps 1 9 w' B r.pa r.pn r.pc (pieH l s)
  old : ∀ ad, r.pa = some ad → ad.block < w.heap.size
  low : Below B0 w w'
theorem HsT.off {B : Nat} {w w' : World} {rows : List Hr} {l : List Hy} {row : Option Nat} (h : HsT B w rows l) (hg : w.grownBy w' row) (hr : ∀ (i : Nat) q x, rows[i]? = some q → q.pa = some x → some x.block ≠ row) : HsT B w' rows l :=
  ⟨h.len, fun i r y h1 h2 => ⟨(h.at' i r y h1 h2).nm, (h.at' i r y h1 h2).ps.off hg (fun ad e => hr i r ad h1 e)⟩, h.apart⟩
end Go.Proofs.YtigldeccfpkdmaaGreatDoor
namespace Go.Proofs.YtigldeccfpkdmaaGreatDoor
open Go Go.RowKit Go.BigFrame
/-- A disk that is only read. -/
def DiskL (w : World) (v : Value) (d : Dk) : Prop := ∃ la ln lc sa sn sc oa on oc, v = .agg #[.slice la ln lc, .slice sa sn sc, .slice oa on oc] ∧ FlsAt w la ln d.live ∧ FlsAt w sa sn d.safe ∧ DpsAt w oa on d.ops
theorem DiskL.below {w w' : World} {v : Value} {d : Dk} (h : DiskL w v d) (hb : Below w.heap.size w w') : DiskL w' v d := by
  obtain ⟨la, ln, lc, sa, sn, sc, oa, on, oc, hv, h1, h2, h3⟩ := h
  exact ⟨la, ln, lc, sa, sn, sc, oa, on, oc, hv, h1.below hb, h2.below hb, h3.below hb⟩
/-- A slice that may be written. -/
structure WrAt {α : Type} (cs : α → List Value) (sz : Nat) (t : TypeId) (w : World) (B : Nat) (a : Option Addr) (n cap : Nat) (l : List α) : Prop where
  sl : SlAt cs sz w a n l
  own : (a = none ∧ n = 0 ∧ cap = 0) ∨ ∃ b c, a = some ⟨b, 0, none⟩ ∧ B ≤ b ∧ Blk w b c t ∧ n * sz ≤ c.size
section
variable {α : Type} {cs : α → List Value} {sz : Nat} {t : TypeId} {w w' : World} {B n cap : Nat} {a : Option Addr} {l : List α}
theorem ResAt.wr (h : ResAt cs sz t w B a n cap l) : WrAt cs sz t w B a n cap l := by
  refine ⟨h.sl, ?_⟩
  rcases h.own with h0 | ⟨b, ha, hB, h1, _, c, hc, h2, _⟩
  · exact .inl h0
  · exact .inr ⟨b, c, ha, hB, hc, by rw [h2]; exact Nat.mul_le_mul_right _ h1⟩
theorem OwnAt.wr {b : Nat} (h : OwnAt cs sz t w b n l) (hB : B ≤ b) : WrAt cs sz t w B (some ⟨b, 0, none⟩) n n l := by
  refine ⟨h.sl, ?_⟩
  obtain ⟨c, hc, h1, _⟩ := h.blk
  exact .inr ⟨b, c, rfl, hB, hc, h1⟩
theorem WrAt.below (h : WrAt cs sz t w B a n cap l) (hb : Below w.heap.size w w') : WrAt cs sz t w' B a n cap l := by
  refine ⟨h.sl.below hb, ?_⟩
  rcases h.own with h0 | ⟨b, c, ha, hB, hc, h1⟩
  · exact .inl h0
  · exact .inr ⟨b, c, ha, hB, hc.below hb, h1⟩
theorem WrAt.mono {B' : Nat} (h : WrAt cs sz t w B a n cap l) (hb : B' ≤ B) : WrAt cs sz t w B' a n cap l := by
  refine ⟨h.sl, ?_⟩
  rcases h.own with h0 | ⟨b, c, ha, hB, hc, h1⟩
  · exact .inl h0
  · exact .inr ⟨b, c, ha, by omega, hc, h1⟩
theorem WrAt.block (h : WrAt cs sz t w B a n cap l) : ∀ ad, a = some ad → B ≤ ad.block ∧ ad.block < w.heap.size := by
  intro ad e
  rcases h.own with ⟨h0, _⟩ | ⟨b, c, ha, hB, hc, _⟩
  · rw [h0] at e; cases e
  · rw [ha] at e; cases e; exact ⟨hB, hc.lt⟩
theorem WrAt.slH (h : WrAt cs sz t w B a n cap l) : SlH cs sz w a n cap l := by
  refine ⟨h.sl, fun ad e => ?_, fun e => ?_⟩
  · rcases h.own with ⟨h0, _⟩ | ⟨b, c, ha, _⟩
    · rw [h0] at e; cases e
    · rw [ha] at e; cases e; rfl
  · rcases h.own with ⟨_, _, h0⟩ | ⟨b, c, ha, _⟩
    · exact h0
    · rw [ha] at e; cases e
theorem WrAt.off {row : Option Nat} (h : WrAt cs sz t w B a n cap l) (hg : w.grownBy w' row) (hr : ∀ ad, a = some ad → some ad.block ≠ row) : WrAt cs sz t w' B a n cap l := by
  refine ⟨slAt_grownT h.sl hg hr, ?_⟩
  rcases h.own with h0 | ⟨b, c, ha, hB, hc, h1⟩
  · exact .inl h0
  · exact .inr ⟨b, c, ha, hB, (hg.block _ hc.lt (hr _ ha)).trans hc, h1⟩
end
/-- A disk of one's own. -/
def DiskW (B : Nat) (w : World) (v : Value) (d : Dk) : Prop := ∃ la ln lc sa sn sc oa on oc, v = .agg #[.slice la ln lc, .slice sa sn sc, .slice oa on oc] ∧ WrAt Fl.cs 2 123 w B la ln lc d.live ∧ WrAt Fl.cs 2 123 w B sa sn sc d.safe ∧ WrAt Dp.cs 4 120 w B oa on oc d.ops ∧ (∀ x y, la = some x → sa = some y → x.block ≠ y.block)
theorem DiskW.below {B : Nat} {w w' : World} {v : Value} {d : Dk} (h : DiskW B w v d) (hb : Below w.heap.size w w') : DiskW B w' v d := by
  obtain ⟨la, ln, lc, sa, sn, sc, oa, on, oc, hv, h1, h2, h3, h4⟩ := h
  exact ⟨la, ln, lc, sa, sn, sc, oa, on, oc, hv, h1.below hb, h2.below hb, h3.below hb, h4⟩
theorem DiskW.at {B : Nat} {w : World} {v : Value} {d : Dk} (h : DiskW B w v d) : DiskAt w v d := by
  obtain ⟨la, ln, lc, sa, sn, sc, oa, on, oc, hv, h1, h2, h3, _⟩ := h
  exact ⟨la, ln, lc, sa, sn, sc, oa, on, oc, hv, h1.slH, h2.slH, h3.slH⟩
theorem DiskAt.l {w : World} {v : Value} {d : Dk} (h : DiskAt w v d) : DiskL w v d := by
  obtain ⟨la, ln, lc, sa, sn, sc, oa, on, oc, hv, h1, h2, h3⟩ := h
  exact ⟨la, ln, lc, sa, sn, sc, oa, on, oc, hv, h1.sl, h2.sl, h3.sl⟩
def SmallDk (d : Dk) : Prop := SmallF d.live.length d.live ∧ SmallF d.safe.length d.safe ∧ SmallD d.ops.length d.ops
theorem SmallDk.dims {d : Dk} (h : SmallDk d) : d.live.length ≤ 1048576 ∧ d.safe.length ≤ 1048576 ∧ d.ops.length ≤ 1048576 := ⟨h.1.1, h.2.1.1, h.2.2.1⟩
theorem Blk.three {w : World} {b : Nat} {c0 c1 c2 : Value} {t : TypeId} (h : Blk w b #[c0, c1, c2] t) : w.cell? ⟨b, 0, none⟩ = some c0 ∧ w.cell? ⟨b, 1, none⟩ = some c1 ∧ w.cell? ⟨b, 2, none⟩ = some c2 := ⟨h.cell 0, h.cell 1, h.cell 2⟩
end Go.Proofs.YtigldeccfpkdmaaGreatDoor
namespace Go.Proofs.YtigldeccfpkdmaaGreatDoor
open Go Go.RowKit Go.BigFrame
open Go.ChangeShapes Go.WideShapes Go.ChangeAt Go.Deep Go.Joins
theorem OwnAt.set {α : Type} {cs : α → List Value} {sz : Nat} {t : TypeId} {w : World} {b n c i : Nat} {x : Value} {l : List α} (h : OwnAt cs sz t w b n l) (hb : b ≠ c) : OwnAt cs sz t (w.setCell ⟨c, i, none⟩ x) b n l := h.grown (grown_set (World.grownBy.refl _ _) _ _) hb
end Go.Proofs.YtigldeccfpkdmaaGreatDoor
namespace Go.Proofs.YtigldeccfpkdmaaGreatDoor
open Go.ChangeShapes Go.WideShapes Go.ChangeAt Go.RowKit Go.Deep Go.Joins
theorem DiskL.cells {w : World} {v : Value} {d : Dk} (h : DiskL w v d) : ∃ la ln lc sa sn sc oa on oc, v = .agg #[.slice la ln lc, .slice sa sn sc, .slice oa on oc] := by
  obtain ⟨la, ln, lc, sa, sn, sc, oa, on, oc, rfl, _⟩ := h
  exact ⟨_, _, _, _, _, _, _, _, _, rfl⟩
end Go.Proofs.YtigldeccfpkdmaaGreatDoor
namespace Go.Proofs.YtigldeccfpkdmaaGreatDoor
open Go Go.RowKit Go.BigFrame
def LitJ (B : Nat) (t : TypeId) (u : World) (x : Value) : Prop := ∃ b, x = .slice (some ⟨b, 0, none⟩) 0 0 ∧ Blk u b #[] t ∧ B ≤ b
def ResJ {α : Type} (cs : α → List Value) (sz : Nat) (t : TypeId) (B n : Nat) (l : List α) (u : World) (x : Value) : Prop := ∃ a cap, x = .slice a n cap ∧ ResAt cs sz t u B a n cap l
theorem LitJ.below {B : Nat} {t : TypeId} {u u' : World} {x : Value} (h : LitJ B t u x) (hb : Below u.heap.size u u') : LitJ B t u' x := by
  obtain ⟨b, h1, h2, h3⟩ := h
  exact ⟨b, h1, h2.below hb, h3⟩
theorem ResJ.below {α : Type} {cs : α → List Value} {sz : Nat} {t : TypeId} {B n : Nat} {l : List α} {u u' : World} {x : Value} (h : ResJ cs sz t B n l u x) (hb : Below u.heap.size u u') : ResJ cs sz t B n l u' x := by
  obtain ⟨a, cap, h1, h2⟩ := h
  exact ⟨a, cap, h1, h2.below hb⟩
/-- A disk whose three lists are answers. -/
def DiskR (B : Nat) (w : World) (v : Value) (d : Dk) : Prop := ∃ la ln lc sa sn sc oa on oc, v = .agg #[.slice la ln lc, .slice sa sn sc, .slice oa on oc] ∧ ResAt Fl.cs 2 123 w B la ln lc d.live ∧ ResAt Fl.cs 2 123 w B sa sn sc d.safe ∧ ResAt Dp.cs 4 120 w B oa on oc d.ops
theorem DiskR.below {B : Nat} {w w' : World} {v : Value} {d : Dk} (h : DiskR B w v d) (hb : Below w.heap.size w w') : DiskR B w' v d := by
  obtain ⟨la, ln, lc, sa, sn, sc, oa, on, oc, hv, h1, h2, h3⟩ := h
  exact ⟨la, ln, lc, sa, sn, sc, oa, on, oc, hv, h1.below hb, h2.below hb, h3.below hb⟩
theorem DiskR.mono {B B' : Nat} {w : World} {v : Value} {d : Dk} (h : DiskR B w v d) (hb : B' ≤ B) : DiskR B' w v d := by
  obtain ⟨la, ln, lc, sa, sn, sc, oa, on, oc, hv, h1, h2, h3⟩ := h
  exact ⟨la, ln, lc, sa, sn, sc, oa, on, oc, hv, h1.mono hb, h2.mono hb, h3.mono hb⟩
theorem DiskR.at {B : Nat} {w : World} {v : Value} {d : Dk} (h : DiskR B w v d) : DiskAt w v d := by
  obtain ⟨la, ln, lc, sa, sn, sc, oa, on, oc, hv, h1, h2, h3⟩ := h
  exact ⟨la, ln, lc, sa, sn, sc, oa, on, oc, hv, h1.slH, h2.slH, h3.slH⟩
theorem DiskR.off {B b : Nat} {w w' : World} {v : Value} {d : Dk} (h : DiskR B w v d) (hg : w.grownBy w' (some b)) (hb : b < B) : DiskR B w' v d := by
  obtain ⟨la, ln, lc, sa, sn, sc, oa, on, oc, hv, h1, h2, h3⟩ := h
  exact ⟨la, ln, lc, sa, sn, sc, oa, on, oc, hv, h1.grown hg (fun ad e => by have := (h1.block ad e).1; omega), h2.grown hg (fun ad e => by have := (h2.block ad e).1; omega), h3.grown hg (fun ad e => by have := (h3.block ad e).1; omega)⟩
end Go.Proofs.YtigldeccfpkdmaaGreatDoor
namespace Go.Proofs.YtigldeccfpkdmaaGreatDoor
open Go Go.RowKit Go.BigFrame
/-- A goal that the walk leaves alone. -/
structure Held (p : Prop) : Prop where
  out : p
end Go.Proofs.YtigldeccfpkdmaaGreatDoor
namespace Go.Proofs.YtigldeccfpkdmaaGreatDoor
open Go Go.RowKit Go.BigFrame
/-- A disk whose three lists are answers that lie apart. -/
def DiskS (B : Nat) (w : World) (v : Value) (d : Dk) : Prop := ∃ la ln lc sa sn sc oa on oc, v = .agg #[.slice la ln lc, .slice sa sn sc, .slice oa on oc] ∧ ResAt Fl.cs 2 123 w B la ln lc d.live ∧ ResAt Fl.cs 2 123 w B sa sn sc d.safe ∧ ResAt Dp.cs 4 120 w B oa on oc d.ops ∧ ∀ x y, la = some x → sa = some y → x.block ≠ y.block
theorem DiskS.below {B : Nat} {w w' : World} {v : Value} {d : Dk} (h : DiskS B w v d) (hb : Below w.heap.size w w') : DiskS B w' v d := by
  obtain ⟨la, ln, lc, sa, sn, sc, oa, on, oc, hv, h1, h2, h3, h4⟩ := h
  exact ⟨la, ln, lc, sa, sn, sc, oa, on, oc, hv, h1.below hb, h2.below hb, h3.below hb, h4⟩
theorem DiskS.mono {B B' : Nat} {w : World} {v : Value} {d : Dk} (h : DiskS B w v d) (hb : B' ≤ B) : DiskS B' w v d := by
  obtain ⟨la, ln, lc, sa, sn, sc, oa, on, oc, hv, h1, h2, h3, h4⟩ := h
  exact ⟨la, ln, lc, sa, sn, sc, oa, on, oc, hv, h1.mono hb, h2.mono hb, h3.mono hb, h4⟩
theorem DiskS.r {B : Nat} {w : World} {v : Value} {d : Dk} (h : DiskS B w v d) : DiskR B w v d := by
  obtain ⟨la, ln, lc, sa, sn, sc, oa, on, oc, hv, h1, h2, h3, _⟩ := h
  exact ⟨la, ln, lc, sa, sn, sc, oa, on, oc, hv, h1, h2, h3⟩
theorem DiskS.wr {B : Nat} {w : World} {v : Value} {d : Dk} (h : DiskS B w v d) : DiskW B w v d := by
  obtain ⟨la, ln, lc, sa, sn, sc, oa, on, oc, hv, h1, h2, h3, h4⟩ := h
  exact ⟨la, ln, lc, sa, sn, sc, oa, on, oc, hv, h1.wr, h2.wr, h3.wr, h4⟩
theorem DiskS.off {B b : Nat} {w w' : World} {v : Value} {d : Dk} (h : DiskS B w v d) (hg : w.grownBy w' (some b)) (hb : b < B) : DiskS B w' v d := by
  obtain ⟨la, ln, lc, sa, sn, sc, oa, on, oc, hv, h1, h2, h3, h4⟩ := h
  exact ⟨la, ln, lc, sa, sn, sc, oa, on, oc, hv, h1.grown hg (fun ad e => by have := (h1.block ad e).1; omega), h2.grown hg (fun ad e => by have := (h2.block ad e).1; omega), h3.grown hg (fun ad e => by have := (h3.block ad e).1; omega), h4⟩
theorem SlH.zero {α : Type} {cs : α → List Value} {sz : Nat} {w : World} {a : Option Addr} {n cap : Nat} {l : List α} (h : SlH cs sz w a n cap l) : a = none → n = 0 ∧ cap = 0 := fun e => by
  refine ⟨?_, h.nil e⟩
  have hl := h.sl.len
  cases l with
  | nil => simpa using hl.symm
  | cons x r => obtain ⟨b, o, e2, _⟩ := h.sl.cell 0 x rfl; rw [e] at e2; cases e2
end Go.Proofs.YtigldeccfpkdmaaGreatDoor
