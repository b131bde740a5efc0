/- Plain functions over lists, and what it says that a slice in memory holds a list: the ground of this seat's proofs. Blocks of the call's own: what they hold, and that a store into one leaves the others. The parts: partOk, goesOn, PartsOk of the program: each returns what the plain function gives, and turns nothing that was there. Plain facts on the functions over lists of parts. The parts, as the model has them, and the laws' own helpers for parts. The model's reader of drawn bytes: what it hands out lies within its bounds, and it turns nothing but its own block. The reader's words, and numbers near to or just outside of a range. -/
import Derived.WalkKit
import Derived.ProofKit
import Derived.OpenShut
import Derived.Handy
import Derived.Deep.Light
import Derived.Deep.RegionHeld3
import Derived.Deep.QuietTactic
import Derived.BigQuiet
import Derived.WalkSmall
import Derived.Test.YtckljlgojhloiaaProg
namespace Go.Proofs.Ytckljlgojhloiaa
open Go.RowKit

/-- A part: Addr, From, Len. -/
structure Pt where
  a : Int
  f : Int
  n : Int

/-- The cells of a part. -/
def Pt.cs (p : Pt) : List Value := [.int .i64 p.a, .int .i64 p.f, .int .i64 p.n]

/-- An extent: Addr, Data. -/
structure Ex where
  a : Int
  d : ByteArray

/-- The cells of an extent. -/
def Ex.cs (p : Ex) : List Value := [.int .i64 p.a, .string p.d]

/-- The slice at address a, of n elements of sz cells each, holds the list l. -/
structure SlAt {α : Type} (cs : α → List Value) (sz : Nat) (w : World) (a : Option Addr) (n : Nat) (l : List α) : Prop where
  len : l.length = n
  cell : ∀ i x, l[i]? = some x → ∃ b o, a = some ⟨b, o, none⟩ ∧ ∀ j v, (cs x)[j]? = some v → w.cell? ⟨b, o + i * sz + j, none⟩ = some v

abbrev PtsAt := SlAt Pt.cs 3
abbrev ExsAt := SlAt Ex.cs 2
abbrev IntsAt := SlAt (fun x : Int => [Value.int .i64 x]) 1

theorem bcell {W w1 : World} (hb : Below W.heap.size W w1) {b o : Nat} {v : Value} (h : W.cell? ⟨b, o, none⟩ = some v) : w1.cell? ⟨b, o, none⟩ = some v := by
  rw [hb.cell (p := ⟨b, o, none⟩) (World.block_lt_of_cell? W _ h)]; exact h

theorem acell {w : World} {b o : Nat} {v : Value} (x : Obj) (h : w.cell? ⟨b, o, none⟩ = some v) : (w.alloc x).cell? ⟨b, o, none⟩ = some v := by
  rw [World.cell?_alloc_lt _ _ _ (World.block_lt_of_cell? w _ h)]; exact h

theorem SlAt.below {α : Type} {cs : α → List Value} {sz : Nat} {w w' : World} {a : Option Addr} {n : Nat} {l : List α} (h : SlAt cs sz w a n l) (hb : Below w.heap.size w w') : SlAt cs sz w' a n l :=
  ⟨h.len, fun i x hx => by
    obtain ⟨b, o, ha, hc⟩ := h.cell i x hx
    exact ⟨b, o, ha, fun j v hv => bcell hb (hc j v hv)⟩⟩

theorem SlAt.alloc {α : Type} {cs : α → List Value} {sz : Nat} {w : World} {a : Option Addr} {n : Nat} {l : List α} (h : SlAt cs sz w a n l) (x : Obj) : SlAt cs sz (w.alloc x) a n l :=
  h.below ((Below.refl _ _).alloc (Nat.le_refl _) _)

theorem SlAt.drew {α : Type} {cs : α → List Value} {sz : Nat} {w : World} {a : Option Addr} {n : Nat} {l : List α} (h : SlAt cs sz w a n l) : SlAt cs sz w.drew a n l :=
  h.below ((Below.refl _ _).drew)

/-- A part of such a slice, by its index. -/
theorem pts_at {w : World} {a : Option Addr} {n : Nat} {l : List Pt} (h : PtsAt w a n l) {k : Nat} (hk : k < n) :
    ∃ b o p, a = some ⟨b, o, none⟩ ∧ l[k]? = some p ∧ w.cell? ⟨b, o + k * 3, none⟩ = some (.int .i64 p.a) ∧ w.cell? ⟨b, o + k * 3 + 1, none⟩ = some (.int .i64 p.f) ∧ w.cell? ⟨b, o + k * 3 + 2, none⟩ = some (.int .i64 p.n) := by
  have hl : k < l.length := by rw [h.len]; exact hk
  have hx : l[k]? = some l[k] := by simp [hl]
  obtain ⟨b, o, ha, hc⟩ := h.cell k _ hx
  exact ⟨b, o, l[k], ha, hx, hc 0 _ rfl, hc 1 _ rfl, hc 2 _ rfl⟩

theorem exs_at {w : World} {a : Option Addr} {n : Nat} {l : List Ex} (h : ExsAt w a n l) {k : Nat} (hk : k < n) :
    ∃ b o p, a = some ⟨b, o, none⟩ ∧ l[k]? = some p ∧ w.cell? ⟨b, o + k * 2, none⟩ = some (.int .i64 p.a) ∧ w.cell? ⟨b, o + k * 2 + 1, none⟩ = some (.string p.d) := by
  have hl : k < l.length := by rw [h.len]; exact hk
  have hx : l[k]? = some l[k] := by simp [hl]
  obtain ⟨b, o, ha, hc⟩ := h.cell k _ hx
  exact ⟨b, o, l[k], ha, hx, hc 0 _ rfl, hc 1 _ rfl⟩

theorem ints_at' {w : World} {a : Option Addr} {n : Nat} {l : List Int} (h : IntsAt w a n l) {k : Nat} (hk : k < n) :
    ∃ b o p, a = some ⟨b, o, none⟩ ∧ l[k]? = some p ∧ w.cell? ⟨b, o + k, none⟩ = some (.int .i64 p) := by
  have hl : k < l.length := by rw [h.len]; exact hk
  have hx : l[k]? = some l[k] := by simp [hl]
  obtain ⟨b, o, ha, hc⟩ := h.cell k _ hx
  exact ⟨b, o, l[k], ha, hx, by simpa using hc 0 _ rfl⟩

/-- Behind a call that was made with a new box of three, two, one cells: the box, and what was there. -/
theorem box3 {w w1 : World} {x y z : Value} {t : TypeId} (hb : Below (w.alloc (.cells #[x, y, z] t)).heap.size (w.alloc (.cells #[x, y, z] t)) w1) :
    w1.cell? ⟨w.heap.size, 0, none⟩ = some x ∧ w1.cell? ⟨w.heap.size, 1, none⟩ = some y ∧ w1.cell? ⟨w.heap.size, 2, none⟩ = some z ∧ Below w.heap.size w w1 ∧ w.heap.size < w1.heap.size :=
  ⟨bcell hb (World.cell?_alloc_new _ _ _ 0), bcell hb (World.cell?_alloc_new _ _ _ 1), bcell hb (World.cell?_alloc_new _ _ _ 2),
    ((Below.refl _ _).alloc (Nat.le_refl _) _).trans (hb.mono (by simp)), by have := hb.size; simp at this; omega⟩
theorem box2 {w w1 : World} {x y : Value} {t : TypeId} (hb : Below (w.alloc (.cells #[x, y] t)).heap.size (w.alloc (.cells #[x, y] t)) w1) :
    w1.cell? ⟨w.heap.size, 0, none⟩ = some x ∧ w1.cell? ⟨w.heap.size, 1, none⟩ = some y ∧ Below w.heap.size w w1 ∧ w.heap.size < w1.heap.size :=
  ⟨bcell hb (World.cell?_alloc_new _ _ _ 0), bcell hb (World.cell?_alloc_new _ _ _ 1),
    ((Below.refl _ _).alloc (Nat.le_refl _) _).trans (hb.mono (by simp)), by have := hb.size; simp at this; omega⟩
theorem box1 {w w1 : World} {x : Value} {t : TypeId} (hb : Below (w.alloc (.cells #[x] t)).heap.size (w.alloc (.cells #[x] t)) w1) :
    w1.cell? ⟨w.heap.size, 0, none⟩ = some x ∧ Below w.heap.size w w1 ∧ w.heap.size < w1.heap.size :=
  ⟨bcell hb (World.cell?_alloc_new _ _ _ 0), ((Below.refl _ _).alloc (Nat.le_refl _) _).trans (hb.mono (by simp)), by have := hb.size; simp at this; omega⟩

theorem drewNB (w : World) (n : Nat) : Below w.heap.size w (w.drewN n) := below_drewN (Below.refl _ _) n
theorem undrew {w w1 : World} (h : Below w.drew.heap.size w.drew w1) : Below w.heap.size w w1 := ((Below.refl _ _).drew).trans h

/-- From the start over a middle world on. -/
theorem chain {w wr w1 : World} (h : Below w.heap.size w wr) (k : Below wr.heap.size wr w1) : Below w.heap.size w w1 := h.trans (k.mono h.size)

/-- A world that has grown from W: nothing of W has turned. -/
structure Grw (W : World) where
  w : World
  h : Below W.heap.size W w

theorem grw_ne (W : World) : Nonempty (Grw W) := ⟨⟨W, Below.refl _ _⟩⟩

theorem grw_out {W w' : World} (h : ∃ x : Grw W, w' = x.w) : Below W.heap.size W w' := by obtain ⟨x, rfl⟩ := h; exact x.h

theorem gcell {W : World} {b o : Nat} {v : Value} (h : W.cell? ⟨b, o, none⟩ = some v) : ∀ x : Grw W, x.w.cell? ⟨b, o, none⟩ = some v := fun x => bcell x.h h

/-- A region that draws its order, whose operations read what was there and whose calls may lay new memory: one walk of the text's order serves. -/
theorem wp_region_grow {P : Program} {id : Nat} {Q : Exit → Act → World → Prop} {a : Act} {W : World} {l : List Oper} (hm : P.follows .mixedOrders = true) (hB : Region.lexB .any l.toArray = true)
    (h : wpQuiet P l.toArray (fun w' => ∃ x : Grw W, w' = x.w) (fun a' => ∀ w', (∃ x : Grw W, w' = x.w) → Q .normal a' w') l a) : (Code.region id l.toArray true).wp P Q a W :=
  wp_region_quiet (C := fun w' => ∃ x : Grw W, w' = x.w) hm hB ⟨⟨_, (Below.refl _ _).drew⟩, rfl⟩ (by simpa using h)

theorem grow_of {P : Program} {f : FuncId} {args : Array Value} {W : World} {x : Grw W} {v : Value}
    (h : Calls P f args x.w fun e w' => e = .returned v ∧ Below x.w.heap.size x.w w') : Calls P f args x.w fun e w' => e = .returned v ∧ ∃ y : Grw W, w' = y.w :=
  h.mono fun _ w' ⟨he, hb⟩ => ⟨he, ⟨⟨w', chain x.h hb⟩, rfl⟩⟩
theorem grow_of_same {P : Program} {f : FuncId} {args : Array Value} {W : World} {x : Grw W} {v : Value}
    (h : Calls P f args x.w fun e w' => e = .returned v ∧ w' = x.w) : Calls P f args x.w fun e w' => e = .returned v ∧ ∃ y : Grw W, w' = y.w :=
  h.mono fun _ _ ⟨he, hb⟩ => ⟨he, ⟨x, hb⟩⟩

theorem drop_at {α : Type} {l : List α} {k : Nat} {x : α} (h : l[k]? = some x) : l.drop k = x :: l.drop (k + 1) := by
  obtain ⟨hk, rfl⟩ := List.getElem?_eq_some_iff.1 h
  exact List.drop_eq_getElem_cons hk

theorem ret_bool {x y : Bool} (h : x = y) : Ending.returned (.bool x) = .returned (.bool y) := by rw [h]
theorem ret_int {k : IntKind} {a b : Int} (h : a = b) : Ending.returned (.int k a) = .returned (.int k b) := by rw [h]

/-! ### Parts -/
/-- impl.partOk -/
def partOkB (p : Pt) : Bool := if p.a == 0 then p.f == 0 && decide (1 ≤ p.n) else decide (1 ≤ p.a) && decide (p.a ≤ 400) && decide (0 ≤ p.f) && decide (p.f < 20) && decide (1 ≤ p.n) && decide (p.n ≤ 20 - p.f)
/-- impl.goesOn -/
def goesOnB (p q : Pt) : Bool := q.a == p.a && (q.a == 0 || q.f == wrap64 (p.f + p.n))
/-- impl.PartsOk's rounds: the part ahead, what is left of the length, the parts to come. -/
def pgo : Option Pt → Int → List Pt → Bool
  | _, _, [] => true
  | none, left, p :: r => partOkB p && decide (p.n ≤ left) && pgo (some p) (left - p.n) r
  | some q, left, p :: r => partOkB p && decide (p.n ≤ left) && !goesOnB q p && pgo (some p) (left - p.n) r
def partsOkB (l : List Pt) : Bool := decide (l.length ≤ 16) && pgo none 100 l
/-- The part ahead of the k-th. -/
def ahead (l : List Pt) (k : Nat) : Option Pt := if k = 0 then none else l[k - 1]?
def sumN : List Pt → Int
  | [] => 0
  | p :: r => p.n + sumN r

theorem ahead_zero (l : List Pt) : ahead l 0 = none := rfl
theorem ahead_succ (l : List Pt) (k : Nat) : ahead l (k + 1) = l[k]? := by simp [ahead]
theorem partOkB_pos {p : Pt} (h : partOkB p = true) : 1 ≤ p.n := by
  unfold partOkB at h; split at h <;> simp at h <;> omega
end Go.Proofs.Ytckljlgojhloiaa
namespace Go.Proofs.Ytckljlgojhloiaa
open Go.RowKit

/-- Block b is a row of these cells, none frozen. -/
def Blk (w : World) (b : Nat) (c : Array Value) (t : TypeId) : Prop := w.heap[b]? = some (.cells c t)

theorem Blk.lt {w : World} {b : Nat} {c : Array Value} {t : TypeId} (h : Blk w b c t) : b < w.heap.size := (Array.getElem?_eq_some_iff.1 h).1
theorem Blk.cell {w : World} {b : Nat} {c : Array Value} {t : TypeId} (h : Blk w b c t) (i : Nat) : w.cell? ⟨b, i, none⟩ = c[i]? := by
  unfold Blk at h; simp [World.cell?, h]
theorem Blk.frozen {w : World} {b : Nat} {c : Array Value} {t : TypeId} (h : Blk w b c t) (i : Nat) : w.frozen? ⟨b, i, none⟩ = false := by
  unfold Blk at h; simp [World.frozen?, h]
theorem Blk.has {w : World} {b : Nat} {c : Array Value} {t : TypeId} (h : Blk w b c t) {i : Nat} (hi : i < c.size) : ∃ v, w.cell? ⟨b, i, none⟩ = some v := ⟨c[i], by rw [h.cell]; simp [hi]⟩
theorem Blk.new (w : World) (c : Array Value) (t : TypeId) : Blk (w.alloc (.cells c t)) w.heap.size c t := heap_alloc_new w _
theorem Blk.below {w w' : World} {b : Nat} {c : Array Value} {t : TypeId} (h : Blk w b c t) (hb : Below w.heap.size w w') : Blk w' b c t := by
  unfold Blk; rw [hb.block b h.lt]; exact h
theorem Blk.grown {w w' : World} {b : Nat} {c : Array Value} {t : TypeId} {r : Nat} (h : Blk w b c t) (hg : w.grownBy w' (some r)) (hr : b ≠ r) : Blk w' b c t := by
  unfold Blk; rw [hg.block b h.lt (by simpa using hr)]; exact h
theorem Blk.set {w : World} {b : Nat} {c : Array Value} {t : TypeId} (h : Blk w b c t) (i : Nat) (v : Value) : Blk (w.setCell ⟨b, i, none⟩ v) b (c.setIfInBounds i v) t := by
  unfold Blk at *; simp [World.setCell, Array.getElem?_modify, h]
theorem Blk.alloc {w : World} {b : Nat} {c : Array Value} {t : TypeId} (h : Blk w b c t) (o : Obj) : Blk (w.alloc o) b c t := h.below ((Below.refl _ _).alloc (Nat.le_refl _) _)
theorem Blk.drew {w : World} {b : Nat} {c : Array Value} {t : TypeId} (h : Blk w b c t) : Blk w.drew b c t := h

/-- A store into block b turns no other. -/
theorem grown_set {w0 w : World} {b : Nat} (h : w0.grownBy w (some b)) (i : Nat) (v : Value) : w0.grownBy (w.setCell ⟨b, i, none⟩ v) (some b) :=
  ⟨h.os, h.tape, h.output, by simpa [World.setCell] using h.size, fun k hk hne => by
    rw [Below.heap_setCell _ _ _ _ (by simpa using hne)]; exact h.block k hk hne⟩
theorem grown_below {w0 w w' : World} {b : Nat} (h : w0.grownBy w (some b)) (hb : Below w.heap.size w w') : w0.grownBy w' (some b) :=
  ⟨hb.os.trans h.os, hb.tape.trans h.tape, hb.output.trans h.output, Nat.le_trans h.size hb.size, fun k hk hne => by
    rw [hb.block k (Nat.lt_of_lt_of_le hk h.size)]; exact h.block k hk hne⟩
theorem grown_trans {w0 w w' : World} {b : Nat} (h : w0.grownBy w (some b)) (hb : w.grownBy w' (some b)) : w0.grownBy w' (some b) :=
  ⟨hb.os.trans h.os, hb.tape.trans h.tape, hb.output.trans h.output, Nat.le_trans h.size hb.size, fun k hk hne => by
    rw [hb.block k (Nat.lt_of_lt_of_le hk h.size) hne]; exact h.block k hk hne⟩
/-- What turns one block that is new turns nothing old. -/
theorem below_grown {w w1 w' : World} {b : Nat} (hb : Below w.heap.size w w1) (hg : w1.grownBy w' (some b)) (hn : w.heap.size ≤ b) : Below w.heap.size w w' :=
  hb.grown hg hb.size (fun k e => by cases e; exact hn)

/-- Block b, which is the call's own, begins with the list l, n elements of sz cells each. -/
structure OwnAt {α : Type} (cs : α → List Value) (sz : Nat) (t : TypeId) (w : World) (b : Nat) (n : Nat) (l : List α) : Prop where
  len : l.length = n
  blk : ∃ c, Blk w b c t ∧ n * sz ≤ c.size ∧ ∀ i x, l[i]? = some x → ∀ j v, (cs x)[j]? = some v → c[i * sz + j]? = some v

theorem OwnAt.sl {α : Type} {cs : α → List Value} {sz : Nat} {t : TypeId} {w : World} {b n : Nat} {l : List α} (h : OwnAt cs sz t w b n l) : SlAt cs sz w (some ⟨b, 0, none⟩) n l := by
  obtain ⟨c, hb, _, hc⟩ := h.blk
  exact ⟨h.len, fun i x hx => ⟨b, 0, rfl, fun j v hv => by rw [hb.cell, Nat.zero_add]; exact hc i x hx j v hv⟩⟩
theorem OwnAt.below {α : Type} {cs : α → List Value} {sz : Nat} {t : TypeId} {w w' : World} {b n : Nat} {l : List α} (h : OwnAt cs sz t w b n l) (hb : Below w.heap.size w w') : OwnAt cs sz t w' b n l := by
  obtain ⟨c, hc, r⟩ := h.blk
  exact ⟨h.len, c, hc.below hb, r⟩
theorem OwnAt.grown {α : Type} {cs : α → List Value} {sz : Nat} {t : TypeId} {w w' : World} {b n r : Nat} {l : List α} (h : OwnAt cs sz t w b n l) (hg : w.grownBy w' (some r)) (hr : b ≠ r) : OwnAt cs sz t w' b n l := by
  obtain ⟨c, hc, q⟩ := h.blk
  exact ⟨h.len, c, hc.grown hg hr, q⟩
theorem OwnAt.lt {α : Type} {cs : α → List Value} {sz : Nat} {t : TypeId} {w : World} {b n : Nat} {l : List α} (h : OwnAt cs sz t w b n l) : b < w.heap.size := by
  obtain ⟨c, hc, _⟩ := h.blk
  exact hc.lt

/-- A slice in a block other than the one that was written. -/
theorem SlAt.grown {α : Type} {cs : α → List Value} {sz : Nat} {w w' : World} {a : Option Addr} {n r : Nat} {l : List α} (h : SlAt cs sz w a n l) (hg : w.grownBy w' (some r)) (hr : ∀ ad, a = some ad → ad.block ≠ r) : SlAt cs sz w' a n l :=
  ⟨h.len, fun i x hx => by
    obtain ⟨b, o, ha, hc⟩ := h.cell i x hx
    exact ⟨b, o, ha, fun j v hv => hg.cell (hc j v hv) (by have := hr _ ha; simpa using this)⟩⟩
end Go.Proofs.Ytckljlgojhloiaa
namespace Go.Proofs.Ytckljlgojhloiaa
open Go.RowKit

end Go.Proofs.Ytckljlgojhloiaa
namespace Go.Proofs.Ytckljlgojhloiaa
open Go.RowKit

/-- The model's PartsOk, its rounds. -/
def sgo : Option Pt → Int → List Pt → Bool
  | _, s, [] => decide (s ≤ 100)
  | none, s, p :: r => (partOkB p && decide (p.n ≤ 100)) && sgo (some p) (s + p.n) r
  | some q, s, p :: r => (partOkB p && decide (p.n ≤ 100)) && !goesOnB q p && sgo (some p) (s + p.n) r

theorem sgo_over (l : List Pt) : ∀ (q : Option Pt) (s : Int), 100 < s → sgo q s l = false := by
  induction l with
  | nil => intro q s h; cases q <;> simp [sgo] <;> omega
  | cons p r ih =>
    intro q s h
    cases hp : partOkB p
    · cases q <;> simp [sgo, hp]
    · have := partOkB_pos hp
      cases q <;> simp [sgo, ih _ (s + p.n) (by omega)]

theorem sgo_pgo (l : List Pt) : ∀ (q : Option Pt) (s : Int), 0 ≤ s → s ≤ 100 → sgo q s l = pgo q (100 - s) l := by
  induction l with
  | nil => intro q s h0 h1; cases q <;> simp [sgo, pgo] <;> omega
  | cons p r ih =>
    intro q s h0 h1
    cases hp : partOkB p
    · cases q <;> simp [sgo, pgo, hp]
    · have hpos := partOkB_pos hp
      by_cases hle : p.n ≤ 100 - s
      · have e := ih (some p) (s + p.n) (by omega) (by omega)
        have e2 : 100 - (s + p.n) = 100 - s - p.n := by omega
        have h100 : p.n ≤ 100 := by omega
        rw [e2] at e
        cases q <;> simp [sgo, pgo, hp, e, hle, h100]
      · have e := sgo_over r (some p) (s + p.n) (by omega)
        cases q <;> simp [sgo, pgo, e, hle]

theorem pgo_all (l : List Pt) : ∀ (q : Option Pt) (s : Int), 0 ≤ s → pgo q s l = true → (∀ p ∈ l, partOkB p = true) ∧ sumN l ≤ s := by
  induction l with
  | nil => intro q s h0 _; exact ⟨by simp, by simpa [sumN] using h0⟩
  | cons p r ih =>
    intro q s h0 h
    have hh : partOkB p = true ∧ p.n ≤ s ∧ pgo (some p) (s - p.n) r = true := by
      cases q
      · simp [pgo] at h; exact ⟨h.1.1, h.1.2, h.2⟩
      · simp [pgo] at h; exact ⟨h.1.1.1, h.1.1.2, h.2⟩
    obtain ⟨a, b⟩ := ih (some p) (s - p.n) (by omega) hh.2.2
    refine ⟨?_, by simp [sumN]; omega⟩
    intro x hx
    rcases List.mem_cons.1 hx with rfl | hx
    · exact hh.1
    · exact a x hx

theorem sumN_nonneg (l : List Pt) (h : ∀ p ∈ l, partOkB p = true) : 0 ≤ sumN l := by
  induction l with
  | nil => simp [sumN]
  | cons p r ih =>
    have h1 := partOkB_pos (h p (by simp))
    have h2 := ih (fun x hx => h x (by simp [hx]))
    simp [sumN]; omega

theorem sumN_append (a b : List Pt) : sumN (a ++ b) = sumN a + sumN b := by
  induction a with
  | nil => simp [sumN]
  | cons p r ih => simp [sumN, ih]; omega

theorem take_at {α : Type} {l : List α} {k : Nat} {x : α} (h : l[k]? = some x) : l.take (k + 1) = l.take k ++ [x] := by
  rw [List.take_add_one, h]; rfl

theorem sumN_take {l : List Pt} {k : Nat} {p : Pt} (h : l[k]? = some p) : sumN (l.take (k + 1)) = sumN (l.take k) + p.n := by
  rw [take_at h, sumN_append]; simp [sumN]

theorem partsOkB_all {l : List Pt} (h : partsOkB l = true) : l.length ≤ 16 ∧ (∀ p ∈ l, partOkB p = true) ∧ sumN l ≤ 100 := by
  simp [partsOkB] at h
  exact ⟨h.1, pgo_all l none 100 (by omega) h.2⟩

theorem sumN_take_bd {l : List Pt} (h : ∀ p ∈ l, partOkB p = true) (k : Nat) : 0 ≤ sumN (l.take k) ∧ sumN (l.take k) ≤ sumN l := by
  have h1 := sumN_nonneg (l.take k) (fun p hp => h p (List.mem_of_mem_take hp))
  have h2 := sumN_nonneg (l.drop k) (fun p hp => h p (List.mem_of_mem_drop hp))
  have h3 := sumN_append (l.take k) (l.drop k)
  rw [List.take_append_drop] at h3
  omega
end Go.Proofs.Ytckljlgojhloiaa
namespace Go.Proofs.Ytckljlgojhloiaa
open Go.RowKit

theorem spec_l1In (n lo hi : Int) (w : World) :
    Calls Try.prog 30 #[.int .i64 n, .int .i64 lo, .int .i64 hi] w fun e w' => e = .returned (.bool (decide (lo ≤ n) && decide (n ≤ hi))) ∧ w' = w := by
  go_enter Try.func30, Try.ntmps30
  go_wp2
  all_goals go_returns
  all_goals go_light
  all_goals refine ⟨?_, rfl⟩
  all_goals simp_all
  all_goals try omega

def eqPtB (p q : Pt) : Bool := p.a == q.a && p.f == q.f && p.n == q.n

end Go.Proofs.Ytckljlgojhloiaa
namespace Go.Proofs.Ytckljlgojhloiaa
open Go.RowKit Go.BigFrame

/-- The slice holds bytes. -/
def CodeAt (w : World) (a : Option Addr) (n : Nat) : Prop := ∀ i, i < n → ∃ b o, ∃ v : Int, a = some ⟨b, o, none⟩ ∧ 0 ≤ v ∧ v ≤ 255 ∧ w.cell? ⟨b, o + i, none⟩ = some (.int .u8 v)

/-- Block B is a reader over such a slice, which lies elsewhere. -/
def Rd (w : World) (B : Nat) : Prop := ∃ a n cap p, ∃ t : TypeId, Blk w B #[.slice a n cap, .int .i64 ((p : Nat) : Int)] t ∧ p ≤ n ∧ n ≤ 1048576 ∧ CodeAt w a n ∧ ∀ ad, 0 < n → a = some ad → ad.block < B

theorem CodeAt.below {w w' : World} {a : Option Addr} {n : Nat} (h : CodeAt w a n) (hb : Below w.heap.size w w') : CodeAt w' a n := fun i hi => by
  obtain ⟨b, o, v, ha, h0, h1, hc⟩ := h i hi
  exact ⟨b, o, v, ha, h0, h1, bcell hb hc⟩
theorem CodeAt.grown {w w' : World} {a : Option Addr} {n r : Nat} (h : CodeAt w a n) (hg : w.grownBy w' (some r)) (hr : ∀ ad, 0 < n → a = some ad → ad.block ≠ r) : CodeAt w' a n := fun i hi => by
  obtain ⟨b, o, v, ha, h0, h1, hc⟩ := h i hi
  exact ⟨b, o, v, ha, h0, h1, hg.cell hc (by have := hr _ (by omega) ha; simpa using this)⟩
theorem Rd.below {w w' : World} {B : Nat} (h : Rd w B) (hb : Below w.heap.size w w') : Rd w' B := by
  obtain ⟨a, n, cap, p, t, h1, h2, h3, h4, h5⟩ := h
  exact ⟨a, n, cap, p, t, h1.below hb, h2, h3, h4.below hb, h5⟩
theorem Rd.grown {w w' : World} {B r : Nat} (h : Rd w B) (hg : w.grownBy w' (some r)) (hr : B < r) : Rd w' B := by
  obtain ⟨a, n, cap, p, t, h1, h2, h3, h4, h5⟩ := h
  exact ⟨a, n, cap, p, t, h1.grown hg (by omega), h2, h3, h4.grown hg (fun ad h0 had => by have := h5 ad h0 had; omega), h5⟩
theorem Rd.lt {w : World} {B : Nat} (h : Rd w B) : B < w.heap.size := by
  obtain ⟨a, n, cap, p, t, h1, _⟩ := h
  exact h1.lt

theorem grown_refl (w : World) (B : Nat) : w.grownBy w (some B) := World.grownBy.refl _ _

theorem spec_l1Open (a : Option Addr) (n cap : Nat) (w : World) (h : CodeAt w a n) (hn : n ≤ 1048576) :
    Calls Try.prog 20 #[.slice a n cap] w fun e w' => e = .returned (.pointer (some ⟨w.heap.size, 0, none⟩)) ∧ Rd w' w.heap.size ∧ Below w.heap.size w w' := by
  go_enter Try.func20, Try.ntmps20
  go_wp2
  go_returns
  go_light
  refine ⟨rfl, ⟨a, n, cap, 0, _, Blk.new _ _ _, Nat.zero_le _, hn, h.below (by go_grown), fun ad h0 had => ?_⟩, by go_grown⟩
  obtain ⟨b, o, v, ha, _, _, hc⟩ := h 0 h0
  rw [had] at ha
  cases ha
  exact World.block_lt_of_cell? w _ hc

set_option maxHeartbeats 1000000 in
theorem spec_next (B : Nat) (w : World) (h : Rd w B) :
    Calls Try.prog 33 #[.pointer (some ⟨B, 0, none⟩)] w fun e w' => (∃ v : Int, e = .returned (.int .i64 v) ∧ 0 ≤ v ∧ v ≤ 255) ∧ Rd w' B ∧ w.grownBy w' (some B) := by
  have h' : Hid (Rd w B) := h
  obtain ⟨a, n, cap, p, t, hb, hp, hn, hc, hne⟩ := h
  have c0 : w.cell? ⟨B, 0, none⟩ = some (.slice a n cap) := hb.cell 0
  have c1 : w.cell? ⟨B, 1, none⟩ = some (.int .i64 (p : Int)) := hb.cell 1
  have f1 := hb.frozen 1
  by_cases hlt : p < n
  · obtain ⟨b, o, v, rfl, hv0, hv1, hcell⟩ := hc p hlt
    have hbB : b ≠ B := by have : b < B := hne _ (by omega) rfl; omega
    have hS : ∀ u : World, Below w.heap.size w u → u.grownBy u (some B) ∧ w.grownBy u (some B) := fun u hu => ⟨grown_refl u B, grown_below (grown_refl w B) hu⟩
    go_enter Try.func33, Try.ntmps33
    go_wp2_with fail
    go_quiet (fail)
    have hbq := hb.below (drewNB w nq)
    have hcq := hc.below (drewNB w nq)
    have c0q := bcell (drewNB w nq) c0
    have c1q := bcell (drewNB w nq) c1
    have f1q := hbq.frozen 1
    have hcellq := bcell (drewNB w nq) hcell
    have hgq : w.grownBy (w.drewN nq) (some B) := grown_below (grown_refl w B) (drewNB w nq)
    clear hb hc c0 c1 f1 hcell hS
    generalize w.drewN nq = wq at *
    go_wp2_with fail
    have hb2 := hbq.set 1 (.int .i64 ((p : Int) + 1))
    have hc2 := hcq.grown (grown_set (grown_refl wq B) 1 (.int .i64 ((p : Int) + 1))) (fun ad h0 had => by have := hne ad h0 had; omega)
    have hg2 := grown_trans hgq (grown_set (grown_refl wq B) 1 (.int .i64 ((p : Int) + 1)))
    have hcell2 : (wq.setCell ⟨B, 1, none⟩ (.int .i64 ((p : Int) + 1))).cell? ⟨b, o + p, none⟩ = some (.int .u8 v) := (grown_set (grown_refl wq B) 1 (.int .i64 ((p : Int) + 1))).cell hcellq (by simpa using hbB)
    clear hbq hcq c0q c1q f1q hcellq hgq
    generalize wq.setCell ⟨B, 1, none⟩ (.int .i64 ((p : Int) + 1)) = W2 at *
    have d0 : W2.cell? ⟨B, 0, none⟩ = some (.slice (some ⟨b, o, none⟩) n cap) := by rw [hb2.cell]; simp
    have d1 : W2.cell? ⟨B, 1, none⟩ = some (.int .i64 ((p : Int) + 1)) := by rw [hb2.cell]; simp
    have hR : Rd W2 B := ⟨some ⟨b, o, none⟩, n, cap, p + 1, t, by simpa using hb2, by omega, hn, hc2, hne⟩
    clear hb2 hc2 h' hne
    have hp1 : (p : Int) + 1 - 1 = p := by omega
    have hw1 : IntKind.i64.wrap ((p : Int) + 1 - 1) = (p : Int) := by rw [IntKind.wrap_i64]; omega
    have hw2 : IntKind.i64.wrap (p : Int) = (p : Int) := by rw [IntKind.wrap_i64]; omega
    have hwv : IntKind.i64.wrap v = v := by rw [IntKind.wrap_i64]; omega
    have hpn : (p : Int) < n := by omega
    have hp0 : (0 : Int) ≤ p := by omega
    go_quiet (fail)
    have hR2 := hR.below (drewNB W2 nq)
    go_wp2
    go_returns
    go_light
    exact ⟨⟨v, rfl, hv0, hv1⟩, hR2, grown_below hg2 (drewNB _ _)⟩
  · go_enter Try.func33, Try.ntmps33
    go_wp2_with fail
    go_quiet (fail)
    have hR2 := h'.out.below (drewNB w nq)
    go_wp2
    go_returns
    go_light
    exact ⟨⟨0, rfl, by omega, by omega⟩, hR2, grown_below (grown_refl w B) (drewNB _ _)⟩

set_option maxHeartbeats 1000000 in
theorem spec_below (B : Nat) (k : Int) (w : World) (h : Rd w B) (hk : k ≤ 65536) :
    Calls Try.prog 23 #[.pointer (some ⟨B, 0, none⟩), .int .i64 k] w fun e w' => (∃ v : Int, e = .returned (.int .i64 v) ∧ 0 ≤ v ∧ (v = 0 ∨ v < k)) ∧ Rd w' B ∧ w.grownBy w' (some B) := by
  by_cases h1 : k ≤ 1
  · go_enter Try.func23, Try.ntmps23
    go_wp2
    go_returns
    go_light
    exact ⟨⟨0, rfl, by omega, .inl rfl⟩, h, grown_refl w B⟩
  · by_cases h2 : k ≤ 256
    · go_enter Try.func23, Try.ntmps23
      go_wp2_with fail
      refine (spec_next B _ h).mono ?_
      rintro e w1 ⟨⟨v, rfl, hv0, hv1⟩, hR1, hg1⟩
      go_wp2
      go_returns
      go_light
      exact ⟨⟨v % k, rfl, Int.emod_nonneg _ (by omega), .inr (Int.emod_lt_of_pos _ (by omega))⟩, hR1, hg1⟩
    · go_enter Try.func23, Try.ntmps23
      go_wp2_with fail
      refine (spec_next B _ h).mono ?_
      rintro e w1 ⟨⟨v, rfl, hv0, hv1⟩, hR1, hg1⟩
      go_wp2_with fail
      refine (spec_next B _ hR1).mono ?_
      rintro e w2 ⟨⟨u, rfl, hu0, hu1⟩, hR2, hg2⟩
      have hg := grown_trans hg1 hg2
      have hx : 0 ≤ v * 256 + u := by omega
      go_wp2
      go_returns
      go_light
      exact ⟨⟨(v * 256 + u) % k, rfl, Int.emod_nonneg _ (by omega), .inr (Int.emod_lt_of_pos _ (by omega))⟩, hR2, hg⟩

theorem spec_belowN (B : Nat) (k : Int) (w : World) (h : Rd w B) (hk : k ≤ 65536) (h1 : 1 ≤ k) :
    Calls Try.prog 23 #[.pointer (some ⟨B, 0, none⟩), .int .i64 k] w fun e w' => (∃ v : Nat, e = .returned (.int .i64 v) ∧ (v : Int) < k) ∧ Rd w' B ∧ w.grownBy w' (some B) :=
  (spec_below B k w h hk).mono fun e w' ⟨⟨v, he, h0, hv⟩, r⟩ => by
    obtain ⟨m, rfl⟩ := Int.eq_ofNat_of_zero_le h0
    exact ⟨⟨m, he, by rcases hv with hv | hv <;> omega⟩, r⟩

theorem spec_once (B : Nat) (k : Int) (w : World) (h : Rd w B) (hk : k ≤ 65536) (h1 : 1 ≤ k) :
    Calls Try.prog 22 #[.pointer (some ⟨B, 0, none⟩), .int .i64 k] w fun e w' => (∃ v : Bool, e = .returned (.bool v)) ∧ Rd w' B ∧ w.grownBy w' (some B) := by
  go_enter Try.func22, Try.ntmps22
  go_wp2_with fail
  refine (spec_belowN B k _ h hk h1).mono ?_
  rintro e w1 ⟨⟨v, rfl, hv⟩, hR1, hg1⟩
  go_wp2
  go_returns
  go_light
  exact ⟨⟨_, rfl⟩, hR1, hg1⟩
end Go.Proofs.Ytckljlgojhloiaa
namespace Go.Proofs.Ytckljlgojhloiaa
open Go.RowKit Go.BigFrame

set_option maxHeartbeats 1000000 in
theorem spec_word (B : Nat) (w : World) (h : Rd w B) :
    Calls Try.prog 36 #[.pointer (some ⟨B, 0, none⟩)] w fun e w' => (∃ v : Int, e = .returned (.int .u64 v) ∧ 0 ≤ v ∧ v ≤ 18446744073709551615) ∧ Rd w' B ∧ w.grownBy w' (some B) := by
  go_enter Try.func36, Try.ntmps36
  go_wp2_with fail
  go_loopw [3, 4] (fun x ix wr => ∃ (k : Nat) (v : Int), k ≤ 8 ∧ ix = .int .i64 k ∧ x = .int .u64 v ∧ 0 ≤ v ∧ v ≤ 18446744073709551615 ∧ Rd wr B ∧ w.grownBy wr (some B)) (fun _ ix _ => 8 - (intOf ix).toNat)
  case atStart => exact ⟨0, 0, by omega, rfl, rfl, by omega, by omega, h, grown_refl w B⟩
  case round =>
    obtain ⟨k, v, hk, rfl, rfl, hv0, hv1, hR, hG⟩ := hrel
    by_cases hlt : k < 8
    · go_wp2_with fail
      refine (spec_next B _ hR).mono ?_
      rintro e w1 ⟨⟨u, rfl, hu0, hu1⟩, hR1, hg1⟩
      have hG1 := grown_trans hG hg1
      have hwf := bounds_u64 (wf_bits .or .u64 (IntKind.u64.wrap (v * 256)) u)
      go_wp2
      generalize bits BinOp.or IntKind.u64 (IntKind.u64.wrap (v * 256)) u = x at *
      go_roundw
      case rel => exact ⟨k + 1, x, by omega, by go_num, rfl, hwf.1, hwf.2, hR1, hG1⟩
      case measure => simp [intOf]; omega
    · obtain rfl : k = 8 := by omega
      go_wp2
      go_returns
      exact ⟨⟨v, rfl, hv0, hv1⟩, hR, hG⟩

set_option maxHeartbeats 1000000 in
theorem spec_near (B : Nat) (lo hi : Int) (w : World) (h : Rd w B) (h1 : -1000 ≤ lo) (h2 : lo ≤ hi) (h3 : hi ≤ 1000) :
    Calls Try.prog 35 #[.pointer (some ⟨B, 0, none⟩), .int .i64 lo, .int .i64 hi] w fun e w' => (∃ v : Int, e = .returned (.int .i64 v) ∧ lo ≤ v ∧ v ≤ hi) ∧ Rd w' B ∧ w.grownBy w' (some B) := by
  go_enter Try.func35, Try.ntmps35
  go_wp2_with fail
  refine (spec_belowN B 8 _ h (by omega) (by omega)).mono ?_
  rintro e w1 ⟨⟨x, rfl, hx⟩, hR1, hg1⟩
  by_cases hx0 : x = 0
  · subst hx0
    go_wp2
    go_returns
    exact ⟨⟨lo, rfl, by omega, h2⟩, hR1, hg1⟩
  · have b0 : ((x : Int) == 0) = false := by simp; omega
    by_cases hx1 : x = 1
    · subst hx1
      go_wp2
      go_returns
      exact ⟨⟨hi, rfl, h2, by omega⟩, hR1, hg1⟩
    · have b1 : ((x : Int) == 1) = false := by simp; omega
      have hns : ¬ hi < lo := by omega
      go_wp2_with fail
      refine (spec_word B _ hR1).mono ?_
      rintro e w2 ⟨⟨v, rfl, hv0, hv1⟩, hR2, hg2⟩
      have hG := grown_trans hg1 hg2
      have hm0 : 0 ≤ v / 2 % (hi - lo + 1) := Int.emod_nonneg _ (by omega)
      have hm1 : v / 2 % (hi - lo + 1) < hi - lo + 1 := Int.emod_lt_of_pos _ (by omega)
      go_wp2
      generalize v / 2 % (hi - lo + 1) = m at *
      have hw1 : wrap64 m = m := by unfold wrap64; omega
      have hw2 : wrap64 (lo + m) = lo + m := by unfold wrap64; omega
      go_returns
      exact ⟨⟨lo + m, rfl, by omega, by omega⟩, hR2, hG⟩

set_option maxHeartbeats 1000000 in
theorem spec_off (B : Nat) (lo hi : Int) (w : World) (h : Rd w B) (h1 : -1000 ≤ lo) (h2 : lo ≤ hi) (h3 : hi ≤ 1000) :
    Calls Try.prog 31 #[.pointer (some ⟨B, 0, none⟩), .int .i64 lo, .int .i64 hi] w fun e w' => (∃ v : Int, e = .returned (.int .i64 v) ∧ -9223372036854775808 ≤ v ∧ v ≤ 9223372036854775807) ∧ Rd w' B ∧ w.grownBy w' (some B) := by
  have hB := h.lt
  go_enter Try.func31, Try.ntmps31
  go_wp2_with fail
  refine (spec_once B 24 _ h (by omega) (by omega)).mono ?_
  rintro e w1 ⟨⟨x, rfl⟩, hR1, hg1⟩
  cases x
  · go_wp2_with fail
    refine (spec_near B lo hi _ hR1 h1 h2 h3).mono ?_
    rintro e w2 ⟨⟨v, rfl, hv0, hv1⟩, hR2, hg2⟩
    have hG := grown_trans hg1 hg2
    go_wp2
    go_returns
    exact ⟨⟨v, rfl, by omega, by omega⟩, hR2, hG⟩
  · go_wp2_with fail
    refine (spec_belowN B 4 _ (hR1.below (by go_grown)) (by omega) (by omega)).mono ?_
    rintro e w2 ⟨⟨v, rfl, hv⟩, hR2, hg2⟩
    have hb := (Blk.new w1 _ _).grown hg2 (by have := hR1.lt; omega)
    have hG : w.grownBy w2 (some B) := grown_trans (grown_below hg1 (by go_grown)) hg2
    have z0 := hb.cell 0
    have z1 := hb.cell 1
    have z2 := hb.cell 2
    have z3 := hb.cell 3
    simp only [List.getElem?_toArray, List.getElem?_cons_zero, List.getElem?_cons_succ] at z0 z1 z2 z3
    obtain ⟨y, hy, hy1, hy2⟩ : ∃ y : Int, w2.cell? ⟨w1.heap.size, v, none⟩ = some (.int .i64 y) ∧ -9223372036854775808 ≤ y ∧ y ≤ 9223372036854775807 := by
      rcases (show v = 0 ∨ v = 1 ∨ v = 2 ∨ v = 3 by omega) with rfl | rfl | rfl | rfl
      · exact ⟨_, z0, by omega, by omega⟩
      · exact ⟨_, z1, by omega, by omega⟩
      · exact ⟨_, z2, by omega, by omega⟩
      · exact ⟨_, z3, by omega, by omega⟩
    clear z0 z1 z2 z3 hb
    have hv4 : (v : Int) < 4 := by omega
    have hv5 : (0 : Int) ≤ v := by omega
    go_wp2
    go_returns
    exact ⟨⟨y, rfl, hy1, hy2⟩, hR2, hG⟩
end Go.Proofs.Ytckljlgojhloiaa
