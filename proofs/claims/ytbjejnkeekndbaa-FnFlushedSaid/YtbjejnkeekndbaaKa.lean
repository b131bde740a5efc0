/- Plain functions over lists, and what it says that a slice in memory holds a list: the ground of this seat's proofs. Plain facts on the functions over lists of parts. Blocks of the call's own: what they hold, and that a store into one leaves the others. Appending to a slice of the call's own: lists of elements of several cells. Appending one list behind another one: as a step of the walk, and as a step of a region that draws its order. Owners and counts as plain data: their order, the lists that are added up, and that two lists in order with the same sums are one. Counts added up: a list in order with no nought is told by its sums. -/
import Derived.WalkKit
import Derived.ProofKit
import Derived.OpenShut
import Derived.Handy
import Derived.Deep.Light
import Derived.Deep.RegionHeld3
import Derived.Deep.QuietTactic
import Derived.BigQuiet
import Derived.WalkSmall
import Derived.Deep.RegionLaw
import Derived.Laws.AppendOwnNone
import Derived.Laws.Cover1
namespace Go.Proofs.Ytbjejnkeekndbaa
open Go.RowKit

/-- A part: Addr, From, Len. -/
structure Pt where
  a : Int
  f : Int
  n : Int

/-- The cells of a part. -/
def Pt.cs (p : Pt) : List Value := [.int .i64 p.a, .int .i64 p.f, .int .i64 p.n]

/-- An extent: Addr, Data. -/
structure Ex where
  a : Int
  d : ByteArray

/-- The cells of an extent. -/
def Ex.cs (p : Ex) : List Value := [.int .i64 p.a, .string p.d]

/-- The slice at address a, of n elements of sz cells each, holds the list l. -/
structure SlAt {α : Type} (cs : α → List Value) (sz : Nat) (w : World) (a : Option Addr) (n : Nat) (l : List α) : Prop where
  len : l.length = n
  cell : ∀ i x, l[i]? = some x → ∃ b o, a = some ⟨b, o, none⟩ ∧ ∀ j v, (cs x)[j]? = some v → w.cell? ⟨b, o + i * sz + j, none⟩ = some v

abbrev PtsAt := SlAt Pt.cs 3
abbrev ExsAt := SlAt Ex.cs 2
abbrev IntsAt := SlAt (fun x : Int => [Value.int .i64 x]) 1

theorem bcell {W w1 : World} (hb : Below W.heap.size W w1) {b o : Nat} {v : Value} (h : W.cell? ⟨b, o, none⟩ = some v) : w1.cell? ⟨b, o, none⟩ = some v := by
  rw [hb.cell (p := ⟨b, o, none⟩) (World.block_lt_of_cell? W _ h)]; exact h

theorem acell {w : World} {b o : Nat} {v : Value} (x : Obj) (h : w.cell? ⟨b, o, none⟩ = some v) : (w.alloc x).cell? ⟨b, o, none⟩ = some v := by
  rw [World.cell?_alloc_lt _ _ _ (World.block_lt_of_cell? w _ h)]; exact h

theorem SlAt.below {α : Type} {cs : α → List Value} {sz : Nat} {w w' : World} {a : Option Addr} {n : Nat} {l : List α} (h : SlAt cs sz w a n l) (hb : Below w.heap.size w w') : SlAt cs sz w' a n l :=
  ⟨h.len, fun i x hx => by
    obtain ⟨b, o, ha, hc⟩ := h.cell i x hx
    exact ⟨b, o, ha, fun j v hv => bcell hb (hc j v hv)⟩⟩

theorem SlAt.alloc {α : Type} {cs : α → List Value} {sz : Nat} {w : World} {a : Option Addr} {n : Nat} {l : List α} (h : SlAt cs sz w a n l) (x : Obj) : SlAt cs sz (w.alloc x) a n l :=
  h.below ((Below.refl _ _).alloc (Nat.le_refl _) _)

theorem SlAt.drew {α : Type} {cs : α → List Value} {sz : Nat} {w : World} {a : Option Addr} {n : Nat} {l : List α} (h : SlAt cs sz w a n l) : SlAt cs sz w.drew a n l :=
  h.below ((Below.refl _ _).drew)

/-- A part of such a slice, by its index. -/
theorem pts_at {w : World} {a : Option Addr} {n : Nat} {l : List Pt} (h : PtsAt w a n l) {k : Nat} (hk : k < n) :
    ∃ b o p, a = some ⟨b, o, none⟩ ∧ l[k]? = some p ∧ w.cell? ⟨b, o + k * 3, none⟩ = some (.int .i64 p.a) ∧ w.cell? ⟨b, o + k * 3 + 1, none⟩ = some (.int .i64 p.f) ∧ w.cell? ⟨b, o + k * 3 + 2, none⟩ = some (.int .i64 p.n) := by
  have hl : k < l.length := by rw [h.len]; exact hk
  have hx : l[k]? = some l[k] := by simp [hl]
  obtain ⟨b, o, ha, hc⟩ := h.cell k _ hx
  exact ⟨b, o, l[k], ha, hx, hc 0 _ rfl, hc 1 _ rfl, hc 2 _ rfl⟩

theorem exs_at {w : World} {a : Option Addr} {n : Nat} {l : List Ex} (h : ExsAt w a n l) {k : Nat} (hk : k < n) :
    ∃ b o p, a = some ⟨b, o, none⟩ ∧ l[k]? = some p ∧ w.cell? ⟨b, o + k * 2, none⟩ = some (.int .i64 p.a) ∧ w.cell? ⟨b, o + k * 2 + 1, none⟩ = some (.string p.d) := by
  have hl : k < l.length := by rw [h.len]; exact hk
  have hx : l[k]? = some l[k] := by simp [hl]
  obtain ⟨b, o, ha, hc⟩ := h.cell k _ hx
  exact ⟨b, o, l[k], ha, hx, hc 0 _ rfl, hc 1 _ rfl⟩

theorem ints_at' {w : World} {a : Option Addr} {n : Nat} {l : List Int} (h : IntsAt w a n l) {k : Nat} (hk : k < n) :
    ∃ b o p, a = some ⟨b, o, none⟩ ∧ l[k]? = some p ∧ w.cell? ⟨b, o + k, none⟩ = some (.int .i64 p) := by
  have hl : k < l.length := by rw [h.len]; exact hk
  have hx : l[k]? = some l[k] := by simp [hl]
  obtain ⟨b, o, ha, hc⟩ := h.cell k _ hx
  exact ⟨b, o, l[k], ha, hx, by simpa using hc 0 _ rfl⟩

/-- Behind a call that was made with a new box of three, two, one cells: the box, and what was there. -/
theorem box3 {w w1 : World} {x y z : Value} {t : TypeId} (hb : Below (w.alloc (.cells #[x, y, z] t)).heap.size (w.alloc (.cells #[x, y, z] t)) w1) :
    w1.cell? ⟨w.heap.size, 0, none⟩ = some x ∧ w1.cell? ⟨w.heap.size, 1, none⟩ = some y ∧ w1.cell? ⟨w.heap.size, 2, none⟩ = some z ∧ Below w.heap.size w w1 ∧ w.heap.size < w1.heap.size :=
  ⟨bcell hb (World.cell?_alloc_new _ _ _ 0), bcell hb (World.cell?_alloc_new _ _ _ 1), bcell hb (World.cell?_alloc_new _ _ _ 2),
    ((Below.refl _ _).alloc (Nat.le_refl _) _).trans (hb.mono (by simp)), by have := hb.size; simp at this; omega⟩
theorem box2 {w w1 : World} {x y : Value} {t : TypeId} (hb : Below (w.alloc (.cells #[x, y] t)).heap.size (w.alloc (.cells #[x, y] t)) w1) :
    w1.cell? ⟨w.heap.size, 0, none⟩ = some x ∧ w1.cell? ⟨w.heap.size, 1, none⟩ = some y ∧ Below w.heap.size w w1 ∧ w.heap.size < w1.heap.size :=
  ⟨bcell hb (World.cell?_alloc_new _ _ _ 0), bcell hb (World.cell?_alloc_new _ _ _ 1),
    ((Below.refl _ _).alloc (Nat.le_refl _) _).trans (hb.mono (by simp)), by have := hb.size; simp at this; omega⟩
theorem box1 {w w1 : World} {x : Value} {t : TypeId} (hb : Below (w.alloc (.cells #[x] t)).heap.size (w.alloc (.cells #[x] t)) w1) :
    w1.cell? ⟨w.heap.size, 0, none⟩ = some x ∧ Below w.heap.size w w1 ∧ w.heap.size < w1.heap.size :=
  ⟨bcell hb (World.cell?_alloc_new _ _ _ 0), ((Below.refl _ _).alloc (Nat.le_refl _) _).trans (hb.mono (by simp)), by have := hb.size; simp at this; omega⟩

theorem drewNB (w : World) (n : Nat) : Below w.heap.size w (w.drewN n) := below_drewN (Below.refl _ _) n
theorem undrew {w w1 : World} (h : Below w.drew.heap.size w.drew w1) : Below w.heap.size w w1 := ((Below.refl _ _).drew).trans h

/-- From the start over a middle world on. -/
theorem chain {w wr w1 : World} (h : Below w.heap.size w wr) (k : Below wr.heap.size wr w1) : Below w.heap.size w w1 := h.trans (k.mono h.size)

/-- A world that has grown from W: nothing of W has turned. -/
structure Grw (W : World) where
  w : World
  h : Below W.heap.size W w

theorem grw_ne (W : World) : Nonempty (Grw W) := ⟨⟨W, Below.refl _ _⟩⟩

theorem grw_out {W w' : World} (h : ∃ x : Grw W, w' = x.w) : Below W.heap.size W w' := by obtain ⟨x, rfl⟩ := h; exact x.h

theorem gcell {W : World} {b o : Nat} {v : Value} (h : W.cell? ⟨b, o, none⟩ = some v) : ∀ x : Grw W, x.w.cell? ⟨b, o, none⟩ = some v := fun x => bcell x.h h

/-- A region that draws its order, whose operations read what was there and whose calls may lay new memory: one walk of the text's order serves. -/
theorem wp_region_grow {P : Program} {id : Nat} {Q : Exit → Act → World → Prop} {a : Act} {W : World} {l : List Oper} (hm : P.follows .mixedOrders = true) (hB : Region.lexB .any l.toArray = true)
    (h : wpQuiet P l.toArray (fun w' => ∃ x : Grw W, w' = x.w) (fun a' => ∀ w', (∃ x : Grw W, w' = x.w) → Q .normal a' w') l a) : (Code.region id l.toArray true).wp P Q a W :=
  wp_region_quiet (C := fun w' => ∃ x : Grw W, w' = x.w) hm hB ⟨⟨_, (Below.refl _ _).drew⟩, rfl⟩ (by simpa using h)

theorem grow_of {P : Program} {f : FuncId} {args : Array Value} {W : World} {x : Grw W} {v : Value}
    (h : Calls P f args x.w fun e w' => e = .returned v ∧ Below x.w.heap.size x.w w') : Calls P f args x.w fun e w' => e = .returned v ∧ ∃ y : Grw W, w' = y.w :=
  h.mono fun _ w' ⟨he, hb⟩ => ⟨he, ⟨⟨w', chain x.h hb⟩, rfl⟩⟩
theorem grow_of_same {P : Program} {f : FuncId} {args : Array Value} {W : World} {x : Grw W} {v : Value}
    (h : Calls P f args x.w fun e w' => e = .returned v ∧ w' = x.w) : Calls P f args x.w fun e w' => e = .returned v ∧ ∃ y : Grw W, w' = y.w :=
  h.mono fun _ _ ⟨he, hb⟩ => ⟨he, ⟨x, hb⟩⟩

theorem drop_at {α : Type} {l : List α} {k : Nat} {x : α} (h : l[k]? = some x) : l.drop k = x :: l.drop (k + 1) := by
  obtain ⟨hk, rfl⟩ := List.getElem?_eq_some_iff.1 h
  exact List.drop_eq_getElem_cons hk

theorem ret_bool {x y : Bool} (h : x = y) : Ending.returned (.bool x) = .returned (.bool y) := by rw [h]
theorem ret_int {k : IntKind} {a b : Int} (h : a = b) : Ending.returned (.int k a) = .returned (.int k b) := by rw [h]

/-! ### Parts -/
/-- impl.partOk -/
def partOkB (p : Pt) : Bool := if p.a == 0 then p.f == 0 && decide (1 ≤ p.n) else decide (1 ≤ p.a) && decide (p.a ≤ 400) && decide (0 ≤ p.f) && decide (p.f < 20) && decide (1 ≤ p.n) && decide (p.n ≤ 20 - p.f)
/-- impl.goesOn -/
def goesOnB (p q : Pt) : Bool := q.a == p.a && (q.a == 0 || q.f == wrap64 (p.f + p.n))
/-- impl.PartsOk's rounds: the part ahead, what is left of the length, the parts to come. -/
def pgo : Option Pt → Int → List Pt → Bool
  | _, _, [] => true
  | none, left, p :: r => partOkB p && decide (p.n ≤ left) && pgo (some p) (left - p.n) r
  | some q, left, p :: r => partOkB p && decide (p.n ≤ left) && !goesOnB q p && pgo (some p) (left - p.n) r
def partsOkB (l : List Pt) : Bool := decide (l.length ≤ 16) && pgo none 100 l
/-- The part ahead of the k-th. -/
def ahead (l : List Pt) (k : Nat) : Option Pt := if k = 0 then none else l[k - 1]?
def sumN : List Pt → Int
  | [] => 0
  | p :: r => p.n + sumN r

theorem ahead_zero (l : List Pt) : ahead l 0 = none := rfl
theorem ahead_succ (l : List Pt) (k : Nat) : ahead l (k + 1) = l[k]? := by simp [ahead]
theorem partOkB_pos {p : Pt} (h : partOkB p = true) : 1 ≤ p.n := by
  unfold partOkB at h; split at h <;> simp at h <;> omega
end Go.Proofs.Ytbjejnkeekndbaa
namespace Go.Proofs.Ytbjejnkeekndbaa
open Go.RowKit

/-- The model's PartsOk, its rounds. -/
def sgo : Option Pt → Int → List Pt → Bool
  | _, s, [] => decide (s ≤ 100)
  | none, s, p :: r => (partOkB p && decide (p.n ≤ 100)) && sgo (some p) (s + p.n) r
  | some q, s, p :: r => (partOkB p && decide (p.n ≤ 100)) && !goesOnB q p && sgo (some p) (s + p.n) r

theorem sgo_over (l : List Pt) : ∀ (q : Option Pt) (s : Int), 100 < s → sgo q s l = false := by
  induction l with
  | nil => intro q s h; cases q <;> simp [sgo] <;> omega
  | cons p r ih =>
    intro q s h
    cases hp : partOkB p
    · cases q <;> simp [sgo, hp]
    · have := partOkB_pos hp
      cases q <;> simp [sgo, ih _ (s + p.n) (by omega)]

theorem sgo_pgo (l : List Pt) : ∀ (q : Option Pt) (s : Int), 0 ≤ s → s ≤ 100 → sgo q s l = pgo q (100 - s) l := by
  induction l with
  | nil => intro q s h0 h1; cases q <;> simp [sgo, pgo] <;> omega
  | cons p r ih =>
    intro q s h0 h1
    cases hp : partOkB p
    · cases q <;> simp [sgo, pgo, hp]
    · have hpos := partOkB_pos hp
      by_cases hle : p.n ≤ 100 - s
      · have e := ih (some p) (s + p.n) (by omega) (by omega)
        have e2 : 100 - (s + p.n) = 100 - s - p.n := by omega
        have h100 : p.n ≤ 100 := by omega
        rw [e2] at e
        cases q <;> simp [sgo, pgo, hp, e, hle, h100]
      · have e := sgo_over r (some p) (s + p.n) (by omega)
        cases q <;> simp [sgo, pgo, e, hle]

theorem pgo_all (l : List Pt) : ∀ (q : Option Pt) (s : Int), 0 ≤ s → pgo q s l = true → (∀ p ∈ l, partOkB p = true) ∧ sumN l ≤ s := by
  induction l with
  | nil => intro q s h0 _; exact ⟨by simp, by simpa [sumN] using h0⟩
  | cons p r ih =>
    intro q s h0 h
    have hh : partOkB p = true ∧ p.n ≤ s ∧ pgo (some p) (s - p.n) r = true := by
      cases q
      · simp [pgo] at h; exact ⟨h.1.1, h.1.2, h.2⟩
      · simp [pgo] at h; exact ⟨h.1.1.1, h.1.1.2, h.2⟩
    obtain ⟨a, b⟩ := ih (some p) (s - p.n) (by omega) hh.2.2
    refine ⟨?_, by simp [sumN]; omega⟩
    intro x hx
    rcases List.mem_cons.1 hx with rfl | hx
    · exact hh.1
    · exact a x hx

theorem sumN_nonneg (l : List Pt) (h : ∀ p ∈ l, partOkB p = true) : 0 ≤ sumN l := by
  induction l with
  | nil => simp [sumN]
  | cons p r ih =>
    have h1 := partOkB_pos (h p (by simp))
    have h2 := ih (fun x hx => h x (by simp [hx]))
    simp [sumN]; omega

theorem sumN_append (a b : List Pt) : sumN (a ++ b) = sumN a + sumN b := by
  induction a with
  | nil => simp [sumN]
  | cons p r ih => simp [sumN, ih]; omega

theorem take_at {α : Type} {l : List α} {k : Nat} {x : α} (h : l[k]? = some x) : l.take (k + 1) = l.take k ++ [x] := by
  rw [List.take_add_one, h]; rfl

theorem sumN_take {l : List Pt} {k : Nat} {p : Pt} (h : l[k]? = some p) : sumN (l.take (k + 1)) = sumN (l.take k) + p.n := by
  rw [take_at h, sumN_append]; simp [sumN]

theorem partsOkB_all {l : List Pt} (h : partsOkB l = true) : l.length ≤ 16 ∧ (∀ p ∈ l, partOkB p = true) ∧ sumN l ≤ 100 := by
  simp [partsOkB] at h
  exact ⟨h.1, pgo_all l none 100 (by omega) h.2⟩

theorem sumN_take_bd {l : List Pt} (h : ∀ p ∈ l, partOkB p = true) (k : Nat) : 0 ≤ sumN (l.take k) ∧ sumN (l.take k) ≤ sumN l := by
  have h1 := sumN_nonneg (l.take k) (fun p hp => h p (List.mem_of_mem_take hp))
  have h2 := sumN_nonneg (l.drop k) (fun p hp => h p (List.mem_of_mem_drop hp))
  have h3 := sumN_append (l.take k) (l.drop k)
  rw [List.take_append_drop] at h3
  omega
end Go.Proofs.Ytbjejnkeekndbaa
namespace Go.Proofs.Ytbjejnkeekndbaa
open Go.RowKit

/-- Block b is a row of these cells, none frozen. -/
def Blk (w : World) (b : Nat) (c : Array Value) (t : TypeId) : Prop := w.heap[b]? = some (.cells c t)

theorem Blk.lt {w : World} {b : Nat} {c : Array Value} {t : TypeId} (h : Blk w b c t) : b < w.heap.size := (Array.getElem?_eq_some_iff.1 h).1
theorem Blk.cell {w : World} {b : Nat} {c : Array Value} {t : TypeId} (h : Blk w b c t) (i : Nat) : w.cell? ⟨b, i, none⟩ = c[i]? := by
  unfold Blk at h; simp [World.cell?, h]
theorem Blk.frozen {w : World} {b : Nat} {c : Array Value} {t : TypeId} (h : Blk w b c t) (i : Nat) : w.frozen? ⟨b, i, none⟩ = false := by
  unfold Blk at h; simp [World.frozen?, h]
theorem Blk.has {w : World} {b : Nat} {c : Array Value} {t : TypeId} (h : Blk w b c t) {i : Nat} (hi : i < c.size) : ∃ v, w.cell? ⟨b, i, none⟩ = some v := ⟨c[i], by rw [h.cell]; simp [hi]⟩
theorem Blk.new (w : World) (c : Array Value) (t : TypeId) : Blk (w.alloc (.cells c t)) w.heap.size c t := heap_alloc_new w _
theorem Blk.below {w w' : World} {b : Nat} {c : Array Value} {t : TypeId} (h : Blk w b c t) (hb : Below w.heap.size w w') : Blk w' b c t := by
  unfold Blk; rw [hb.block b h.lt]; exact h
theorem Blk.grown {w w' : World} {b : Nat} {c : Array Value} {t : TypeId} {r : Nat} (h : Blk w b c t) (hg : w.grownBy w' (some r)) (hr : b ≠ r) : Blk w' b c t := by
  unfold Blk; rw [hg.block b h.lt (by simpa using hr)]; exact h
theorem Blk.set {w : World} {b : Nat} {c : Array Value} {t : TypeId} (h : Blk w b c t) (i : Nat) (v : Value) : Blk (w.setCell ⟨b, i, none⟩ v) b (c.setIfInBounds i v) t := by
  unfold Blk at *; simp [World.setCell, Array.getElem?_modify, h]
theorem Blk.alloc {w : World} {b : Nat} {c : Array Value} {t : TypeId} (h : Blk w b c t) (o : Obj) : Blk (w.alloc o) b c t := h.below ((Below.refl _ _).alloc (Nat.le_refl _) _)
theorem Blk.drew {w : World} {b : Nat} {c : Array Value} {t : TypeId} (h : Blk w b c t) : Blk w.drew b c t := h

/-- A store into block b turns no other. -/
theorem grown_set {w0 w : World} {b : Nat} (h : w0.grownBy w (some b)) (i : Nat) (v : Value) : w0.grownBy (w.setCell ⟨b, i, none⟩ v) (some b) :=
  ⟨h.os, h.tape, h.output, by simpa [World.setCell] using h.size, fun k hk hne => by
    rw [Below.heap_setCell _ _ _ _ (by simpa using hne)]; exact h.block k hk hne⟩
theorem grown_below {w0 w w' : World} {b : Nat} (h : w0.grownBy w (some b)) (hb : Below w.heap.size w w') : w0.grownBy w' (some b) :=
  ⟨hb.os.trans h.os, hb.tape.trans h.tape, hb.output.trans h.output, Nat.le_trans h.size hb.size, fun k hk hne => by
    rw [hb.block k (Nat.lt_of_lt_of_le hk h.size)]; exact h.block k hk hne⟩
theorem grown_trans {w0 w w' : World} {b : Nat} (h : w0.grownBy w (some b)) (hb : w.grownBy w' (some b)) : w0.grownBy w' (some b) :=
  ⟨hb.os.trans h.os, hb.tape.trans h.tape, hb.output.trans h.output, Nat.le_trans h.size hb.size, fun k hk hne => by
    rw [hb.block k (Nat.lt_of_lt_of_le hk h.size) hne]; exact h.block k hk hne⟩
/-- What turns one block that is new turns nothing old. -/
theorem below_grown {w w1 w' : World} {b : Nat} (hb : Below w.heap.size w w1) (hg : w1.grownBy w' (some b)) (hn : w.heap.size ≤ b) : Below w.heap.size w w' :=
  hb.grown hg hb.size (fun k e => by cases e; exact hn)

/-- Block b, which is the call's own, begins with the list l, n elements of sz cells each. -/
structure OwnAt {α : Type} (cs : α → List Value) (sz : Nat) (t : TypeId) (w : World) (b : Nat) (n : Nat) (l : List α) : Prop where
  len : l.length = n
  blk : ∃ c, Blk w b c t ∧ n * sz ≤ c.size ∧ ∀ i x, l[i]? = some x → ∀ j v, (cs x)[j]? = some v → c[i * sz + j]? = some v

theorem OwnAt.sl {α : Type} {cs : α → List Value} {sz : Nat} {t : TypeId} {w : World} {b n : Nat} {l : List α} (h : OwnAt cs sz t w b n l) : SlAt cs sz w (some ⟨b, 0, none⟩) n l := by
  obtain ⟨c, hb, _, hc⟩ := h.blk
  exact ⟨h.len, fun i x hx => ⟨b, 0, rfl, fun j v hv => by rw [hb.cell, Nat.zero_add]; exact hc i x hx j v hv⟩⟩
theorem OwnAt.below {α : Type} {cs : α → List Value} {sz : Nat} {t : TypeId} {w w' : World} {b n : Nat} {l : List α} (h : OwnAt cs sz t w b n l) (hb : Below w.heap.size w w') : OwnAt cs sz t w' b n l := by
  obtain ⟨c, hc, r⟩ := h.blk
  exact ⟨h.len, c, hc.below hb, r⟩
theorem OwnAt.grown {α : Type} {cs : α → List Value} {sz : Nat} {t : TypeId} {w w' : World} {b n r : Nat} {l : List α} (h : OwnAt cs sz t w b n l) (hg : w.grownBy w' (some r)) (hr : b ≠ r) : OwnAt cs sz t w' b n l := by
  obtain ⟨c, hc, q⟩ := h.blk
  exact ⟨h.len, c, hc.grown hg hr, q⟩
theorem OwnAt.lt {α : Type} {cs : α → List Value} {sz : Nat} {t : TypeId} {w : World} {b n : Nat} {l : List α} (h : OwnAt cs sz t w b n l) : b < w.heap.size := by
  obtain ⟨c, hc, _⟩ := h.blk
  exact hc.lt

/-- A slice in a block other than the one that was written. -/
theorem SlAt.grown {α : Type} {cs : α → List Value} {sz : Nat} {w w' : World} {a : Option Addr} {n r : Nat} {l : List α} (h : SlAt cs sz w a n l) (hg : w.grownBy w' (some r)) (hr : ∀ ad, a = some ad → ad.block ≠ r) : SlAt cs sz w' a n l :=
  ⟨h.len, fun i x hx => by
    obtain ⟨b, o, ha, hc⟩ := h.cell i x hx
    exact ⟨b, o, ha, fun j v hv => hg.cell (hc j v hv) (by have := hr _ ha; simpa using this)⟩⟩
end Go.Proofs.Ytbjejnkeekndbaa
namespace Go.Proofs.Ytbjejnkeekndbaa
open Go.RowKit

theorem flat_len {α : Type} {cs : α → List Value} {sz : Nat} (hsz : ∀ x, (cs x).length = sz) (l : List α) : (l.flatMap cs).length = l.length * sz := by
  induction l with
  | nil => simp
  | cons x r ih => simp [ih, hsz, Nat.add_mul]; omega

theorem flat_at {α : Type} {cs : α → List Value} {sz : Nat} (hsz : ∀ x, (cs x).length = sz) (l : List α) : ∀ {i j : Nat} {x : α} {v : Value}, l[i]? = some x → (cs x)[j]? = some v → (l.flatMap cs)[i * sz + j]? = some v := by
  induction l with
  | nil => intro i j x v h; simp at h
  | cons y r ih =>
    intro i j x v hx hv
    have hj : j < sz := by have := (List.getElem?_eq_some_iff.1 hv).1; rw [hsz] at this; exact this
    rw [List.flatMap_cons]
    cases i with
    | zero =>
      simp at hx
      subst hx
      rw [Nat.zero_mul, Nat.zero_add, List.getElem?_append_left (by rw [hsz]; exact hj)]
      exact hv
    | succ i =>
      simp at hx
      rw [List.getElem?_append_right (by rw [hsz, Nat.add_mul]; omega), hsz]
      have e : (i + 1) * sz + j - sz = i * sz + j := by rw [Nat.add_mul]; omega
      rw [e]
      exact ih hx hv

theorem flat_inv {α : Type} {cs : α → List Value} {sz : Nat} (hsz : ∀ x, (cs x).length = sz) (l : List α) : ∀ {t : Nat} {v : Value}, (l.flatMap cs)[t]? = some v → ∃ i x j, l[i]? = some x ∧ (cs x)[j]? = some v ∧ t = i * sz + j := by
  induction l with
  | nil => intro t v h; simp at h
  | cons y r ih =>
    intro t v h
    rw [List.flatMap_cons] at h
    by_cases ht : t < sz
    · rw [List.getElem?_append_left (by rw [hsz]; exact ht)] at h
      exact ⟨0, y, t, rfl, h, by omega⟩
    · rw [List.getElem?_append_right (by rw [hsz]; omega), hsz] at h
      obtain ⟨i, x, j, h1, h2, h3⟩ := ih h
      exact ⟨i + 1, x, j, by simpa using h1, h2, by rw [Nat.add_mul]; omega⟩

/-- The cells of such a slice, one behind the other. -/
theorem SlAt.src {α : Type} {cs : α → List Value} {sz : Nat} (hsz : ∀ x, (cs x).length = sz) {w : World} {b o n : Nat} {l : List α} (h : SlAt cs sz w (some ⟨b, o, none⟩) n l) :
    ∀ j u, (l.flatMap cs)[j]? = some u → w.cell? ((⟨b, o, none⟩ : Addr).add j) = some u := by
  intro t u hu
  obtain ⟨i, x, j, h1, h2, rfl⟩ := flat_inv hsz l hu
  obtain ⟨b', o', ha, hc⟩ := h.cell i x h1
  obtain ⟨rfl, rfl⟩ : b = b' ∧ o = o' := by simpa using ha
  rw [Addr.add_lit, ← Nat.add_assoc]
  exact hc j u h2

/-- An answer: nil, or a slice at the beginning of a block of the call's own. -/
structure ResAt {α : Type} (cs : α → List Value) (sz : Nat) (t : TypeId) (w : World) (B : Nat) (a : Option Addr) (n cap : Nat) (l : List α) : Prop where
  sl : SlAt cs sz w a n l
  own : (a = none ∧ n = 0 ∧ cap = 0) ∨ ∃ b, a = some ⟨b, 0, none⟩ ∧ B ≤ b ∧ n ≤ cap ∧ cap ≤ maxLen ∧ ∃ c, Blk w b c t ∧ c.size = cap * sz ∧ c.toList.take (n * sz) = l.flatMap cs

theorem ResAt.below {α : Type} {cs : α → List Value} {sz : Nat} {t : TypeId} {w w' : World} {B n cap : Nat} {a : Option Addr} {l : List α} (h : ResAt cs sz t w B a n cap l) (hb : Below w.heap.size w w') : ResAt cs sz t w' B a n cap l := by
  refine ⟨h.sl.below hb, ?_⟩
  rcases h.own with h0 | ⟨b, ha, hB, h1, h2, c, hc, q⟩
  · exact .inl h0
  · exact .inr ⟨b, ha, hB, h1, h2, c, hc.below hb, q⟩
theorem ResAt.mono {α : Type} {cs : α → List Value} {sz : Nat} {t : TypeId} {w : World} {B B' n cap : Nat} {a : Option Addr} {l : List α} (h : ResAt cs sz t w B a n cap l) (hb : B' ≤ B) : ResAt cs sz t w B' a n cap l := by
  refine ⟨h.sl, ?_⟩
  rcases h.own with h0 | ⟨b, ha, hB, q⟩
  · exact .inl h0
  · exact .inr ⟨b, ha, by omega, q⟩
/-- As the append laws want it. -/
theorem ResAt.row {α : Type} {cs : α → List Value} {sz : Nat} {t : TypeId} (hsz : ∀ x, (cs x).length = sz) {w : World} {B n cap : Nat} {a : Option Addr} {l : List α} (h : ResAt cs sz t w B a n cap l) : w.ownsRow B t sz (.slice a n cap) n (l.flatMap cs) := by
  refine ⟨by rw [flat_len hsz, h.sl.len], ?_⟩
  rcases h.own with ⟨rfl, rfl, rfl⟩ | ⟨b, rfl, hB, h1, h2, c, hc, hs, ht⟩
  · exact .inl ⟨rfl, rfl⟩
  · exact .inr ⟨b, cap, c, rfl, hB, hc, h1, h2, hs, ht⟩
theorem res_of_row {α : Type} {cs : α → List Value} {sz : Nat} {t : TypeId} (hsz : ∀ x, (cs x).length = sz) {w : World} {B n : Nat} {v : Value} {l : List α} (hn : l.length = n) (h : w.ownsRow B t sz v n (l.flatMap cs)) :
    ∃ a cap, v = .slice a n cap ∧ ResAt cs sz t w B a n cap l := by
  obtain ⟨_, h⟩ := h
  rcases h with ⟨rfl, rfl⟩ | ⟨g, cap, cur, rfl, hB, hh, h1, h2, hs, ht⟩
  · exact ⟨none, 0, rfl, ⟨hn, fun i x hx => by rw [List.eq_nil_of_length_eq_zero hn] at hx; simp at hx⟩, .inl ⟨rfl, rfl, rfl⟩⟩
  · refine ⟨some ⟨g, 0, none⟩, cap, rfl, ⟨hn, fun i x hx => ⟨g, 0, rfl, fun j u hu => ?_⟩⟩, .inr ⟨g, rfl, hB, h1, h2, cur, hh, hs, ht⟩⟩
    have hb : Blk w g cur t := hh
    rw [hb.cell, Nat.zero_add]
    have hf := flat_at hsz l hx hu
    rw [← ht] at hf
    have hlt : i * sz + j < n * sz := by
      have := (List.getElem?_eq_some_iff.1 hf).1
      simp at this
      omega
    rw [List.getElem?_take_of_lt hlt] at hf
    simpa using hf

theorem ResAt.block {α : Type} {cs : α → List Value} {sz : Nat} {t : TypeId} {w : World} {B n cap : Nat} {a : Option Addr} {l : List α} (h : ResAt cs sz t w B a n cap l) : ∀ ad, a = some ad → B ≤ ad.block ∧ ad.block < w.heap.size := by
  intro ad ha
  rcases h.own with ⟨rfl, _⟩ | ⟨b, rfl, hB, _, _, c, hc, _⟩
  · cases ha
  · cases ha
    exact ⟨hB, hc.lt⟩

theorem pcs_len (p : Pt) : p.cs.length = 3 := rfl
theorem ecs_len (p : Ex) : p.cs.length = 2 := rfl
theorem ics_len (x : Int) : [Value.int .i64 x].length = 1 := rfl
theorem pcs_one (l : List Pt) : ∀ u ∈ l.flatMap Pt.cs, u.oneCell' = true := by
  intro u hu
  obtain ⟨p, _, hp⟩ := List.mem_flatMap.1 hu
  simp [Pt.cs] at hp
  rcases hp with rfl | rfl | rfl <;> rfl
theorem ecs_one (l : List Ex) : ∀ u ∈ l.flatMap Ex.cs, u.oneCell' = true := by
  intro u hu
  obtain ⟨p, _, hp⟩ := List.mem_flatMap.1 hu
  simp [Ex.cs] at hp
  rcases hp with rfl | rfl <;> rfl
end Go.Proofs.Ytbjejnkeekndbaa
namespace Go.Proofs.Ytbjejnkeekndbaa
open Go.RowKit

/-- append(d, s...): d is the call's own, s whatever slice. -/
theorem wp_app {α : Type} {cs : α → List Value} {size : Nat} {P : Program} {o : Oper} {a : Act} {w : World} {K : Act → World → Prop} {Q : Exit → Act → World → Prop}
    (s x : Operand) (t : TypeId) (ho : o.op = .call { callee := .builtin .append, args := #[s, x], argTypes := #[t, t] })
    (B : Nat) (e : TypeId) (i : TypeInfo) (z : Value) (bytes : Nat) (ht : P.underlying t = some (.slice e)) (hi : P.info? e = some i) (hz : i.zero = some z) (hsize : i.size = size) (hby : i.bytes = bytes) (hzs : z.cells.size = size) (hpos : 0 < size)
    (hsz : ∀ y, (cs y).length = size) (hone : ∀ (l : List α), ∀ u ∈ l.flatMap cs, u.oneCell' = true)
    (da : Option Addr) (dn dcap : Nat) (ld : List α) (hs : a.eval s = .slice da dn dcap) (hd : ResAt cs size e w B da dn dcap ld)
    (sa : Option Addr) (sn scap : Nat) (ls : List α) (hx : a.eval x = .slice sa sn scap) (hsrc : SlAt cs size w sa sn ls) (hspot : ∀ ad, sa = some ad → ad.spot = none) (hnone : sa = none → scap = 0)
    (tot : Nat) (htot : dn + sn = tot) (h63 : tot ≤ maxLen) (hbytes : tot * bytes ≤ 140737488355328) (hbase : B ≤ w.heap.size)
    (h : ∀ a' cap' w', ResAt cs size e w' B a' tot cap' (ld ++ ls) → w.grownBy w' (Value.ownBlock (.slice da dn dcap)) → K (a.put o.dst (.slice a' tot cap')) w') : o.wp P a w K Q := by
  subst htot
  have hrow := hd.row hsz
  have hlen : (ld ++ ls).length = dn + sn := by rw [List.length_append, hd.sl.len, hsrc.len]
  cases sa with
  | none =>
    have h0 : sn = 0 := by
      cases ls with
      | nil => rw [← hsrc.len]; rfl
      | cons y r => obtain ⟨b, o', hb, _⟩ := hsrc.cell 0 y rfl; cases hb
    obtain rfl := h0
    obtain rfl := hnone rfl
    have hl0 : ls = [] := List.eq_nil_of_length_eq_zero hsrc.len
    subst hl0
    have hrun := run_append_owned_none (P := P) w B t o.type e i size ht hi (.slice da dn dcap) dn (ld.flatMap cs) hrow
    unfold Oper.wp
    simp [execOp, ho, resolve, invoke, builtin, hs, hx, hrun, Result.andThen]
    exact h da dcap w (by simpa using hd) (World.grownBy.refl _ _)
  | some ad =>
    obtain ⟨b, off, spot⟩ := ad
    have := hspot _ rfl
    simp only at this
    subst this
    refine wp_append_own w s x t ho B e i z size bytes ht hi hz hsize hby hzs hpos (.slice da dn dcap) dn (ld.flatMap cs) hs hrow ⟨b, off, none⟩ sn scap (ls.flatMap cs) hx (by rw [flat_len hsz, hsrc.len]) (SlAt.src hsz hsrc) (hone ls) h63 hbytes hbase ?_
    intro v' w' hrow' hg _
    rw [← List.flatMap_append] at hrow'
    obtain ⟨a', cap', rfl, hres⟩ := res_of_row hsz hlen hrow'
    exact h a' cap' w' hres hg

/-- The same as a step of a region that draws its order. -/
theorem step_app {P : Program} {ops : Array Oper} {o : Oper} {a : Act} {w : World} {K : Act → World → Prop} {Q : Exit → Act → World → Prop} {E : Prop} (hg : o.guard = none) (h : o.wp P a w K Q) :
    if Region.wanted o (yielded ops a.tmps) = true then Oper.wp P o a w K Q else E := by
  have hw : Region.wanted o (yielded ops a.tmps) = true := by simp [Region.wanted, hg]
  rw [if_pos hw]; exact h

theorem wpList_app {P : Program} {ops : Array Oper} {rest : List Oper} {o : Oper} {a : Act} {w : World} {Q : Exit → Act → World → Prop} (hg : o.guard = none)
    (h : ∀ K : Act → World → Prop, (∀ a w, wpList P ops Q rest a w → K a w) → o.wp P a w K Q) : wpList P ops Q (o :: rest) a w := wpList_plain hg h

theorem res_empty {α : Type} {cs : α → List Value} {sz : Nat} {t : TypeId} {w : World} {B b : Nat} (hb : Blk w b #[] t) (hB : B ≤ b) : ResAt cs sz t w B (some ⟨b, 0, none⟩) 0 0 ([] : List α) :=
  ⟨⟨rfl, fun i x hx => by simp at hx⟩, .inr ⟨b, rfl, hB, Nat.le_refl _, Nat.zero_le _, #[], hb, by simp, by simp⟩⟩
theorem res_nil {α : Type} {cs : α → List Value} {sz : Nat} {t : TypeId} {w : World} {B : Nat} : ResAt cs sz t w B none 0 0 ([] : List α) :=
  ⟨⟨rfl, fun i x hx => by simp at hx⟩, .inl ⟨rfl, rfl, rfl⟩⟩
theorem ResAt.grown {α : Type} {cs : α → List Value} {sz : Nat} {t : TypeId} {w w' : World} {B n cap r : Nat} {a : Option Addr} {l : List α} (h : ResAt cs sz t w B a n cap l) (hg : w.grownBy w' (some r)) (hr : ∀ ad, a = some ad → ad.block ≠ r) : ResAt cs sz t w' B a n cap l := by
  refine ⟨h.sl.grown hg hr, ?_⟩
  rcases h.own with h0 | ⟨b, ha, hB, h1, h2, c, hc, q⟩
  · exact .inl h0
  · exact .inr ⟨b, ha, hB, h1, h2, c, hc.grown hg (hr _ ha), q⟩
theorem ResAt.alloc {α : Type} {cs : α → List Value} {sz : Nat} {t : TypeId} {w : World} {B n cap : Nat} {a : Option Addr} {l : List α} (h : ResAt cs sz t w B a n cap l) (o : Obj) : ResAt cs sz t (w.alloc o) B a n cap l := h.below ((Below.refl _ _).alloc (Nat.le_refl _) _)
theorem sl_one {w : World} {b : Nat} {p : Pt} (h0 : w.cell? ⟨b, 0, none⟩ = some (.int .i64 p.a)) (h1 : w.cell? ⟨b, 1, none⟩ = some (.int .i64 p.f)) (h2 : w.cell? ⟨b, 2, none⟩ = some (.int .i64 p.n)) : PtsAt w (some ⟨b, 0, none⟩) 1 [p] := by
  refine ⟨rfl, fun i x hx => ⟨b, 0, rfl, fun j v hv => ?_⟩⟩
  have hi : i = 0 := by have := (List.getElem?_eq_some_iff.1 hx).1; simp at this; exact this
  subst hi
  simp at hx
  subst hx
  match j, hv with
  | 0, hv => obtain rfl := Option.some.inj hv; exact h0
  | 1, hv => obtain rfl := Option.some.inj hv; exact h1
  | 2, hv => obtain rfl := Option.some.inj hv; exact h2
  | j + 3, hv => simp [Pt.cs] at hv
theorem own_ne {a : Option Addr} {n cap x : Nat} (h : ∀ ad, a = some ad → x < ad.block) : some x ≠ Value.ownBlock (.slice a n cap) := by
  cases a with
  | none => simp [Value.ownBlock]
  | some ad => have := h ad rfl; simp [Value.ownBlock]; omega
theorem own_ge {a : Option Addr} {n cap B : Nat} (h : ∀ ad, a = some ad → B ≤ ad.block) : ∀ k, Value.ownBlock (.slice a n cap) = some k → B ≤ k := by
  intro k hk
  cases a with
  | none => simp [Value.ownBlock] at hk
  | some ad => have := h ad rfl; simp [Value.ownBlock] at hk; omega
/-- A new block with the cells of one part. -/
theorem Blk.new' (w : World) (c : Array Value) (t : TypeId) (b : Nat) (hb : b = w.heap.size) : Blk (w.alloc (.cells c t)) b c t := by subst hb; exact Blk.new _ _ _
theorem sl_new' (w : World) (p : Pt) (t : TypeId) (b : Nat) (hb : b = w.heap.size) : PtsAt (w.alloc (.cells #[.int .i64 p.a, .int .i64 p.f, .int .i64 p.n] t)) (some ⟨b, 0, none⟩) 1 [p] := by subst hb; exact sl_one (by simp) (by simp) (by simp)
theorem sl_new (w : World) (p : Pt) (t : TypeId) : PtsAt (w.alloc (.cells #[.int .i64 p.a, .int .i64 p.f, .int .i64 p.n] t)) (some ⟨w.heap.size, 0, none⟩) 1 [p] := sl_one (by simp) (by simp) (by simp)
end Go.Proofs.Ytbjejnkeekndbaa
namespace Go.Proofs.Ytbjejnkeekndbaa
open Go.RowKit

/-- An owner: Addr, Vol, File. -/
structure Ow where
  a : Int
  v : Int
  f : ByteArray

/-- A count: Owner, N. -/
structure Ct where
  o : Ow
  n : Int

def Ow.vs (o : Ow) : Array Value := #[.int .i64 o.a, .int .i64 o.v, .string o.f]
/-- The cells of a count. -/
def Ct.cs (c : Ct) : List Value := [.int .i64 c.o.a, .int .i64 c.o.v, .string c.o.f, .int .i64 c.n]

abbrev CtsAt := SlAt Ct.cs 4

theorem cts_at {w : World} {a : Option Addr} {n : Nat} {l : List Ct} (h : CtsAt w a n l) {k : Nat} (hk : k < n) :
    ∃ b o p, a = some ⟨b, o, none⟩ ∧ l[k]? = some p ∧ w.cell? ⟨b, o + k * 4, none⟩ = some (.int .i64 p.o.a) ∧ w.cell? ⟨b, o + k * 4 + 1, none⟩ = some (.int .i64 p.o.v) ∧ w.cell? ⟨b, o + k * 4 + 2, none⟩ = some (.string p.o.f) ∧ w.cell? ⟨b, o + k * 4 + 3, none⟩ = some (.int .i64 p.n) := by
  have hl : k < l.length := by rw [h.len]; exact hk
  have hx : l[k]? = some l[k] := by simp [hl]
  obtain ⟨b, o, ha, hc⟩ := h.cell k _ hx
  exact ⟨b, o, l[k], ha, hx, hc 0 _ rfl, hc 1 _ rfl, hc 2 _ rfl, hc 3 _ rfl⟩

/-! ### The order of texts -/
abbrev bl := Op.bytesLess

theorem bl_irrefl : ∀ x : List UInt8, bl x x = false
  | [] => rfl
  | a :: x => by simp [bl, Op.bytesLess]; exact bl_irrefl x
theorem bl_total : ∀ {x y : List UInt8}, bl x y = false → x ≠ y → bl y x = true
  | [], [], _, h => absurd rfl h
  | [], b :: y, h, _ => by simp [bl, Op.bytesLess] at h
  | a :: x, [], _, _ => rfl
  | a :: x, b :: y, h, hne => by
    simp only [bl, Op.bytesLess, Bool.or_eq_false_iff, Bool.and_eq_false_iff, decide_eq_false_iff_not] at h
    obtain ⟨h1, h2⟩ := h
    simp only [bl, Op.bytesLess, Bool.or_eq_true, Bool.and_eq_true, decide_eq_true_eq, beq_iff_eq]
    by_cases hab : a = b
    · subst hab
      right
      refine ⟨rfl, bl_total (h2.resolve_left (by simp)) (fun e => hne (by rw [e]))⟩
    · left
      have h1' : b.toNat ≤ a.toNat := by simpa [UInt8.lt_iff_toNat_lt] using h1
      have : a.toNat ≠ b.toNat := fun e => hab (UInt8.toNat_inj.1 e)
      rw [UInt8.lt_iff_toNat_lt]; omega
theorem bl_asymm : ∀ {x y : List UInt8}, bl x y = true → bl y x = false
  | [], [], h => by simp [bl, Op.bytesLess] at h
  | [], b :: y, _ => rfl
  | a :: x, [], h => by simp [bl, Op.bytesLess] at h
  | a :: x, b :: y, h => by
    simp only [bl, Op.bytesLess, Bool.or_eq_true, Bool.and_eq_true, decide_eq_true_eq, beq_iff_eq] at h
    simp only [bl, Op.bytesLess, Bool.or_eq_false_iff, Bool.and_eq_false_iff, decide_eq_false_iff_not, beq_eq_false_iff_ne]
    rcases h with h | ⟨rfl, h⟩
    · have h' := UInt8.lt_iff_toNat_lt.1 h
      refine ⟨fun k => by have := UInt8.lt_iff_toNat_lt.1 k; omega, .inl fun e => by subst e; omega⟩
    · exact ⟨fun k => by have := UInt8.lt_iff_toNat_lt.1 k; omega, .inr (bl_asymm h)⟩
theorem bl_trans : ∀ {x y z : List UInt8}, bl x y = true → bl y z = true → bl x z = true
  | [], [], _, h, _ => by simp [bl, Op.bytesLess] at h
  | [], b :: y, [], _, h => by simp [bl, Op.bytesLess] at h
  | [], b :: y, c :: z, _, _ => rfl
  | a :: x, [], _, h, _ => by simp [bl, Op.bytesLess] at h
  | a :: x, b :: y, [], _, h => by simp [bl, Op.bytesLess] at h
  | a :: x, b :: y, c :: z, h1, h2 => by
    simp only [bl, Op.bytesLess, Bool.or_eq_true, Bool.and_eq_true, decide_eq_true_eq, beq_iff_eq, UInt8.lt_iff_toNat_lt] at *
    rcases h1 with h1 | ⟨rfl, h1⟩
    · rcases h2 with h2 | ⟨rfl, h2⟩
      · left; omega
      · left; exact h1
    · rcases h2 with h2 | ⟨rfl, h2⟩
      · left; exact h2
      · right; exact ⟨rfl, bl_trans h1 h2⟩

theorem bytes_eq {x y : ByteArray} (h : x.toList = y.toList) : x = y := by
  rw [ByteArray.toList_eq, ByteArray.toList_eq] at h
  cases x; cases y
  congr 1
  exact Array.toList_inj.1 h

/-! ### The order of owners -/
def owEq (a b : Ow) : Bool := a.a == b.a && a.v == b.v && a.f.toList == b.f.toList
theorem owEq_iff {a b : Ow} : owEq a b = true ↔ a = b := by
  constructor
  · intro h
    simp [owEq] at h
    obtain ⟨⟨h1, h2⟩, h3⟩ := h
    cases a; cases b
    simp at *
    exact ⟨h1, h2, bytes_eq h3⟩
  · rintro rfl; simp [owEq]

def owLt (a b : Ow) : Bool := if a.a ≠ b.a then decide (a.a < b.a) else if a.v ≠ b.v then decide (a.v < b.v) else bl a.f.toList b.f.toList
theorem owLt_irrefl (a : Ow) : owLt a a = false := by simp [owLt, bl_irrefl]
theorem owLt_total {a b : Ow} (h : owLt a b = false) (hne : a ≠ b) : owLt b a = true := by
  by_cases h1 : a.a = b.a
  · by_cases h2 : a.v = b.v
    · have h3 : a.f.toList ≠ b.f.toList := fun e => hne (owEq_iff.1 (by simp [owEq, h1, h2, e]))
      simp only [owLt, h1, h2, ne_eq, not_true, if_false] at h ⊢
      exact bl_total h h3
    · simp only [owLt, h1, ne_eq, not_true, if_false, h2, not_false_eq_true, if_true, decide_eq_false_iff_not] at h
      simp only [owLt, h1, ne_eq, not_true, if_false, if_pos (Ne.symm h2), decide_eq_true_eq]; omega
  · simp only [owLt, ne_eq, h1, not_false_eq_true, if_true, decide_eq_false_iff_not] at h
    simp only [owLt, ne_eq, if_pos (Ne.symm h1), decide_eq_true_eq]; omega
theorem owLt_asymm {a b : Ow} (h : owLt a b = true) : owLt b a = false := by
  by_cases h1 : a.a = b.a
  · by_cases h2 : a.v = b.v
    · simp only [owLt, h1, h2, ne_eq, not_true, if_false] at h ⊢
      exact bl_asymm h
    · simp only [owLt, h1, ne_eq, not_true, if_false, h2, not_false_eq_true, if_true, decide_eq_true_eq] at h
      simp only [owLt, h1, ne_eq, not_true, if_false, if_pos (Ne.symm h2), decide_eq_false_iff_not]; omega
  · simp only [owLt, ne_eq, h1, not_false_eq_true, if_true, decide_eq_true_eq] at h
    simp only [owLt, ne_eq, if_pos (Ne.symm h1), decide_eq_false_iff_not]; omega
theorem owLt_iff {a b : Ow} : owLt a b = true ↔ a.a < b.a ∨ (a.a = b.a ∧ (a.v < b.v ∨ (a.v = b.v ∧ bl a.f.toList b.f.toList = true))) := by
  unfold owLt
  split
  · rename_i h; simp; omega
  · rename_i h
    split
    · rename_i k; simp; omega
    · rename_i k
      simp at h k
      constructor
      · intro e; exact .inr ⟨h, .inr ⟨k, e⟩⟩
      · rintro (e | ⟨_, e | ⟨_, e⟩⟩)
        · omega
        · omega
        · exact e
theorem owLt_trans {a b c : Ow} (h : owLt a b = true) (k : owLt b c = true) : owLt a c = true := by
  rw [owLt_iff] at *
  rcases h with h | ⟨h1, h | ⟨h2, h⟩⟩ <;> rcases k with k | ⟨k1, k | ⟨k2, k⟩⟩
  case inr.inr.inr.inr => exact .inr ⟨by omega, .inr ⟨by omega, bl_trans h k⟩⟩
  case inl.inl => exact .inl (by omega)
  case inl.inr.inl => exact .inl (by omega)
  case inl.inr.inr => exact .inl (by omega)
  case inr.inl.inl => exact .inl (by omega)
  case inr.inr.inl => exact .inl (by omega)
  case inr.inl.inr.inl => exact .inr ⟨by omega, .inl (by omega)⟩
  case inr.inl.inr.inr => exact .inr ⟨by omega, .inl (by omega)⟩
  case inr.inr.inr.inl => exact .inr ⟨by omega, .inl (by omega)⟩

/-! ### cmp.Compare, cmp.Or -/
def cmpI (x y : Int) : Int := if x < y then -1 else if y < x then 1 else 0
def cmpS (x y : ByteArray) : Int := if bl x.toList y.toList = true then -1 else if x.toList = y.toList then 0 else 1
def or3 (x y z : Int) : Int := if x ≠ 0 then x else if y ≠ 0 then y else z
def ordO (a b : Ow) : Int := or3 (cmpI a.a b.a) (cmpI a.v b.v) (cmpS a.f b.f)

theorem ordO_lt (a b : Ow) : decide (ordO a b < 0) = owLt a b := by
  rw [Bool.eq_iff_iff, owLt_iff, decide_eq_true_eq]
  unfold ordO or3 cmpI cmpS
  rcases Int.lt_trichotomy a.a b.a with h | h | h
  · rw [if_pos h, if_pos (by decide)]; constructor
    · intro _; exact .inl h
    · intro _; decide
  · rw [h, if_neg (Int.lt_irrefl _), if_neg (Int.lt_irrefl _), if_neg (by decide)]
    rcases Int.lt_trichotomy a.v b.v with k | k | k
    · rw [if_pos k, if_pos (by decide)]; constructor
      · intro _; exact .inr ⟨rfl, .inl k⟩
      · intro _; decide
    · rw [k, if_neg (Int.lt_irrefl _), if_neg (Int.lt_irrefl _), if_neg (by decide)]
      cases h5 : bl a.f.toList b.f.toList
      · constructor
        · intro e
          rw [if_neg (by decide)] at e
          split at e <;> omega
        · rintro (e | ⟨_, e | ⟨_, e⟩⟩)
          · omega
          · omega
          · cases e
      · constructor
        · intro _; exact .inr ⟨rfl, .inr ⟨rfl, rfl⟩⟩
        · intro _; rw [if_pos rfl]; decide
    · rw [if_neg (show ¬ a.v < b.v by omega), if_pos k, if_pos (by decide)]; constructor
      · intro e; omega
      · rintro (e | ⟨_, e | ⟨_, e⟩⟩) <;> omega
  · rw [if_neg (show ¬ a.a < b.a by omega), if_pos h, if_pos (by decide)]; constructor
    · intro e; omega
    · rintro (e | ⟨e, _⟩) <;> omega
end Go.Proofs.Ytbjejnkeekndbaa
namespace Go.Proofs.Ytbjejnkeekndbaa
open Go.RowKit

/-- l3Add, as a plain function. -/
def addC : List Ct → Ct → List Ct
  | [], c => [c]
  | x :: r, c => if owLt x.o c.o = true then x :: addC r c else if owEq x.o c.o = true then (if x.n + c.n ≠ 0 then ⟨c.o, x.n + c.n⟩ :: r else r) else c :: x :: r
def sumC (l more : List Ct) : List Ct := more.foldl addC l

/-- All N of one owner. -/
def tot (o : Ow) : List Ct → Int
  | [] => 0
  | c :: r => (if owEq c.o o = true then c.n else 0) + tot o r

def Rising (l : List Ct) : Prop := l.Pairwise (fun x y => owLt x.o y.o = true)
def NoZero (l : List Ct) : Prop := ∀ c ∈ l, c.n ≠ 0

theorem owEq_self (o : Ow) : owEq o o = true := owEq_iff.2 rfl
theorem owEq_of_lt {a b : Ow} (h : owLt a b = true) : owEq a b = false := by
  cases e : owEq a b
  · rfl
  · rw [owEq_iff.1 e, owLt_irrefl] at h; cases h
theorem owEq_symm {a b : Ow} (h : owEq a b = false) : owEq b a = false := by
  cases e : owEq b a
  · rfl
  · rw [owEq_iff.1 e, owEq_self] at h; cases h

theorem tot_zero {o : Ow} : ∀ {l : List Ct}, (∀ c ∈ l, owLt o c.o = true) → tot o l = 0
  | [], _ => rfl
  | c :: r, h => by
    have h1 := owEq_symm (owEq_of_lt (h c (by simp)))
    simp only [tot, h1, Bool.false_eq_true, if_false]
    rw [tot_zero (fun x hx => h x (by simp [hx]))]; rfl

theorem tot_append (o : Ow) : ∀ (l m : List Ct), tot o (l ++ m) = tot o l + tot o m
  | [], m => by simp [tot]
  | c :: r, m => by simp only [List.cons_append, tot, tot_append o r m]; omega

theorem tot_addC (o : Ow) (c : Ct) : ∀ l : List Ct, tot o (addC l c) = tot o l + (if owEq c.o o = true then c.n else 0)
  | [] => by simp [addC, tot]
  | x :: r => by
    unfold addC
    split
    · simp only [tot, tot_addC o c r]; omega
    · split
      · rename_i h1 h2
        have e := owEq_iff.1 h2
        split
        · simp only [tot, e]; split <;> omega
        · simp only [tot, e]; split <;> omega
      · simp only [tot]; omega

theorem all_addC {z : Ow} {c : Ct} (hc : owLt z c.o = true) : ∀ {l : List Ct}, (∀ x ∈ l, owLt z x.o = true) → ∀ x ∈ addC l c, owLt z x.o = true
  | [], _ => by intro x hx; simp [addC] at hx; subst hx; exact hc
  | y :: r, h => by
    have hy := h y (by simp)
    have hr : ∀ x ∈ r, owLt z x.o = true := fun x hx => h x (by simp [hx])
    unfold addC
    split
    · intro x hx
      rcases List.mem_cons.1 hx with rfl | hx
      · exact hy
      · exact all_addC hc hr x hx
    · split
      · split
        · intro x hx
          rcases List.mem_cons.1 hx with rfl | hx
          · exact hc
          · exact hr x hx
        · exact hr
      · intro x hx
        rcases List.mem_cons.1 hx with rfl | hx
        · exact hc
        · exact h x hx

theorem rising_addC (c : Ct) : ∀ {l : List Ct}, Rising l → Rising (addC l c)
  | [], _ => by simp [addC, Rising]
  | y :: r, h => by
    obtain ⟨h1, h2⟩ := List.pairwise_cons.1 h
    unfold addC
    split
    · rename_i k
      exact List.pairwise_cons.2 ⟨all_addC k h1, rising_addC c h2⟩
    · rename_i k
      split
      · rename_i e
        have e := owEq_iff.1 e
        split
        · exact List.pairwise_cons.2 ⟨fun x hx => by simp only [← e]; exact h1 x hx, h2⟩
        · exact h2
      · rename_i e
        have hcy : owLt c.o y.o = true := owLt_total (by simpa using k) (fun e' => e (owEq_iff.2 e'))
        refine List.pairwise_cons.2 ⟨fun x hx => ?_, h⟩
        rcases List.mem_cons.1 hx with rfl | hx
        · exact hcy
        · exact owLt_trans hcy (h1 x hx)

theorem nozero_addC {c : Ct} (hc : c.n ≠ 0) : ∀ {l : List Ct}, NoZero l → NoZero (addC l c)
  | [], _ => by intro x hx; simp [addC] at hx; subst hx; exact hc
  | y :: r, h => by
    have hy := h y (by simp)
    have hr : NoZero r := fun x hx => h x (by simp [hx])
    unfold addC
    split
    · intro x hx
      rcases List.mem_cons.1 hx with rfl | hx
      · exact hy
      · exact nozero_addC hc hr x hx
    · split
      · split
        · rename_i k
          intro x hx
          rcases List.mem_cons.1 hx with rfl | hx
          · exact k
          · exact hr x hx
        · exact hr
      · intro x hx
        rcases List.mem_cons.1 hx with rfl | hx
        · exact hc
        · exact h x hx

/-- Two lists in order, with no nought, whose sums are the same are one. -/
theorem rising_unique : ∀ {l m : List Ct}, Rising l → Rising m → NoZero l → NoZero m → (∀ o, tot o l = tot o m) → l = m
  | [], [], _, _, _, _, _ => rfl
  | [], y :: s, _, hm, _, zm, h => by
    have := h y.o
    have hs := tot_zero (List.pairwise_cons.1 hm).1
    simp only [tot, owEq_self, if_true, hs] at this
    exact absurd (by omega) (zm y (by simp))
  | x :: r, [], hl, _, zl, _, h => by
    have := h x.o
    have hr := tot_zero (List.pairwise_cons.1 hl).1
    simp only [tot, owEq_self, if_true, hr] at this
    exact absurd (by omega) (zl x (by simp))
  | x :: r, y :: s, hl, hm, zl, zm, h => by
    obtain ⟨hl1, hl2⟩ := List.pairwise_cons.1 hl
    obtain ⟨hm1, hm2⟩ := List.pairwise_cons.1 hm
    have hr := tot_zero hl1
    have hs := tot_zero hm1
    cases hxy : owLt x.o y.o
    · cases hyx : owLt y.o x.o
      · have e : x.o = y.o := by
          cases e : owEq x.o y.o
          · have := owLt_total hxy (fun e' => by rw [owEq_iff.2 e'] at e; cases e)
            rw [hyx] at this; cases this
          · exact owEq_iff.1 e
        have h1 := h x.o
        rw [← e] at hs
        simp only [tot, ← e, owEq_self, if_true, hr, hs] at h1
        have exy : x = y := by cases x; cases y; simp at e h1 ⊢; exact ⟨e, h1⟩
        subst exy
        have : r = s := rising_unique hl2 hm2 (fun c hc => zl c (by simp [hc])) (fun c hc => zm c (by simp [hc])) (fun o => by have := h o; simp only [tot] at this; omega)
        rw [this]
      · have h1 := h y.o
        have hz : tot y.o r = 0 := tot_zero (fun c hc => owLt_trans hyx (hl1 c hc))
        have hne := owEq_symm (owEq_of_lt hyx)
        simp only [tot, owEq_self, if_true, hs, hne, Bool.false_eq_true, if_false, hz] at h1
        exact absurd (by omega) (zm y (by simp))
    · have h1 := h x.o
      have hz : tot x.o s = 0 := tot_zero (fun c hc => owLt_trans hxy (hm1 c hc))
      have hne := owEq_symm (owEq_of_lt hxy)
      simp only [tot, owEq_self, if_true, hr, hne, Bool.false_eq_true, if_false, hz] at h1
      exact absurd (by omega) (zl x (by simp))

theorem sum_facts : ∀ {more l : List Ct}, Rising l → NoZero l → NoZero more → Rising (sumC l more) ∧ NoZero (sumC l more) ∧ ∀ o, tot o (sumC l more) = tot o l + tot o more
  | [], l, hl, zl, _ => ⟨hl, zl, fun o => by simp [sumC, tot]⟩
  | c :: r, l, hl, zl, zm => by
    obtain ⟨h1, h2, h3⟩ := sum_facts (more := r) (rising_addC c hl) (nozero_addC (zm c (by simp)) zl) (fun x hx => zm x (by simp [hx]))
    refine ⟨h1, h2, fun o => ?_⟩
    have := h3 o
    rw [tot_addC] at this
    simp only [sumC, List.foldl_cons, tot] at this ⊢
    omega
end Go.Proofs.Ytbjejnkeekndbaa
