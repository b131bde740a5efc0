/- Plain functions over lists, and what it says that a slice in memory holds a list: the ground of this seat's proofs. -/
import Derived.WalkKit
import Derived.ProofKit
import Derived.OpenShut
import Derived.Handy
import Derived.Deep.Light
import Derived.Deep.RegionHeld3
import Derived.Deep.QuietTactic
import Derived.BigQuiet
import Derived.WalkSmall
namespace Go.Proofs.Ytbmkedickkpjjaa
open Go.RowKit

/-- A part: Addr, From, Len. -/
structure Pt where
  a : Int
  f : Int
  n : Int

/-- The cells of a part. -/
def Pt.cs (p : Pt) : List Value := [.int .i64 p.a, .int .i64 p.f, .int .i64 p.n]

/-- An extent: Addr, Data. -/
structure Ex where
  a : Int
  d : ByteArray

/-- The cells of an extent. -/
def Ex.cs (p : Ex) : List Value := [.int .i64 p.a, .string p.d]

/-- The slice at address a, of n elements of sz cells each, holds the list l. -/
structure SlAt {α : Type} (cs : α → List Value) (sz : Nat) (w : World) (a : Option Addr) (n : Nat) (l : List α) : Prop where
  len : l.length = n
  cell : ∀ i x, l[i]? = some x → ∃ b o, a = some ⟨b, o, none⟩ ∧ ∀ j v, (cs x)[j]? = some v → w.cell? ⟨b, o + i * sz + j, none⟩ = some v

abbrev PtsAt := SlAt Pt.cs 3
abbrev ExsAt := SlAt Ex.cs 2
abbrev IntsAt := SlAt (fun x : Int => [Value.int .i64 x]) 1

theorem bcell {W w1 : World} (hb : Below W.heap.size W w1) {b o : Nat} {v : Value} (h : W.cell? ⟨b, o, none⟩ = some v) : w1.cell? ⟨b, o, none⟩ = some v := by
  rw [hb.cell (p := ⟨b, o, none⟩) (World.block_lt_of_cell? W _ h)]; exact h

theorem acell {w : World} {b o : Nat} {v : Value} (x : Obj) (h : w.cell? ⟨b, o, none⟩ = some v) : (w.alloc x).cell? ⟨b, o, none⟩ = some v := by
  rw [World.cell?_alloc_lt _ _ _ (World.block_lt_of_cell? w _ h)]; exact h

theorem SlAt.below {α : Type} {cs : α → List Value} {sz : Nat} {w w' : World} {a : Option Addr} {n : Nat} {l : List α} (h : SlAt cs sz w a n l) (hb : Below w.heap.size w w') : SlAt cs sz w' a n l :=
  ⟨h.len, fun i x hx => by
    obtain ⟨b, o, ha, hc⟩ := h.cell i x hx
    exact ⟨b, o, ha, fun j v hv => bcell hb (hc j v hv)⟩⟩

theorem SlAt.alloc {α : Type} {cs : α → List Value} {sz : Nat} {w : World} {a : Option Addr} {n : Nat} {l : List α} (h : SlAt cs sz w a n l) (x : Obj) : SlAt cs sz (w.alloc x) a n l :=
  h.below ((Below.refl _ _).alloc (Nat.le_refl _) _)

theorem SlAt.drew {α : Type} {cs : α → List Value} {sz : Nat} {w : World} {a : Option Addr} {n : Nat} {l : List α} (h : SlAt cs sz w a n l) : SlAt cs sz w.drew a n l :=
  h.below ((Below.refl _ _).drew)

/-- A part of such a slice, by its index. -/
theorem pts_at {w : World} {a : Option Addr} {n : Nat} {l : List Pt} (h : PtsAt w a n l) {k : Nat} (hk : k < n) :
    ∃ b o p, a = some ⟨b, o, none⟩ ∧ l[k]? = some p ∧ w.cell? ⟨b, o + k * 3, none⟩ = some (.int .i64 p.a) ∧ w.cell? ⟨b, o + k * 3 + 1, none⟩ = some (.int .i64 p.f) ∧ w.cell? ⟨b, o + k * 3 + 2, none⟩ = some (.int .i64 p.n) := by
  have hl : k < l.length := by rw [h.len]; exact hk
  have hx : l[k]? = some l[k] := by simp [hl]
  obtain ⟨b, o, ha, hc⟩ := h.cell k _ hx
  exact ⟨b, o, l[k], ha, hx, hc 0 _ rfl, hc 1 _ rfl, hc 2 _ rfl⟩

theorem exs_at {w : World} {a : Option Addr} {n : Nat} {l : List Ex} (h : ExsAt w a n l) {k : Nat} (hk : k < n) :
    ∃ b o p, a = some ⟨b, o, none⟩ ∧ l[k]? = some p ∧ w.cell? ⟨b, o + k * 2, none⟩ = some (.int .i64 p.a) ∧ w.cell? ⟨b, o + k * 2 + 1, none⟩ = some (.string p.d) := by
  have hl : k < l.length := by rw [h.len]; exact hk
  have hx : l[k]? = some l[k] := by simp [hl]
  obtain ⟨b, o, ha, hc⟩ := h.cell k _ hx
  exact ⟨b, o, l[k], ha, hx, hc 0 _ rfl, hc 1 _ rfl⟩

theorem ints_at' {w : World} {a : Option Addr} {n : Nat} {l : List Int} (h : IntsAt w a n l) {k : Nat} (hk : k < n) :
    ∃ b o p, a = some ⟨b, o, none⟩ ∧ l[k]? = some p ∧ w.cell? ⟨b, o + k, none⟩ = some (.int .i64 p) := by
  have hl : k < l.length := by rw [h.len]; exact hk
  have hx : l[k]? = some l[k] := by simp [hl]
  obtain ⟨b, o, ha, hc⟩ := h.cell k _ hx
  exact ⟨b, o, l[k], ha, hx, by simpa using hc 0 _ rfl⟩

/-- Behind a call that was made with a new box of three, two, one cells: the box, and what was there. -/
theorem box3 {w w1 : World} {x y z : Value} {t : TypeId} (hb : Below (w.alloc (.cells #[x, y, z] t)).heap.size (w.alloc (.cells #[x, y, z] t)) w1) :
    w1.cell? ⟨w.heap.size, 0, none⟩ = some x ∧ w1.cell? ⟨w.heap.size, 1, none⟩ = some y ∧ w1.cell? ⟨w.heap.size, 2, none⟩ = some z ∧ Below w.heap.size w w1 ∧ w.heap.size < w1.heap.size :=
  ⟨bcell hb (World.cell?_alloc_new _ _ _ 0), bcell hb (World.cell?_alloc_new _ _ _ 1), bcell hb (World.cell?_alloc_new _ _ _ 2),
    ((Below.refl _ _).alloc (Nat.le_refl _) _).trans (hb.mono (by simp)), by have := hb.size; simp at this; omega⟩
theorem box2 {w w1 : World} {x y : Value} {t : TypeId} (hb : Below (w.alloc (.cells #[x, y] t)).heap.size (w.alloc (.cells #[x, y] t)) w1) :
    w1.cell? ⟨w.heap.size, 0, none⟩ = some x ∧ w1.cell? ⟨w.heap.size, 1, none⟩ = some y ∧ Below w.heap.size w w1 ∧ w.heap.size < w1.heap.size :=
  ⟨bcell hb (World.cell?_alloc_new _ _ _ 0), bcell hb (World.cell?_alloc_new _ _ _ 1),
    ((Below.refl _ _).alloc (Nat.le_refl _) _).trans (hb.mono (by simp)), by have := hb.size; simp at this; omega⟩
theorem box1 {w w1 : World} {x : Value} {t : TypeId} (hb : Below (w.alloc (.cells #[x] t)).heap.size (w.alloc (.cells #[x] t)) w1) :
    w1.cell? ⟨w.heap.size, 0, none⟩ = some x ∧ Below w.heap.size w w1 ∧ w.heap.size < w1.heap.size :=
  ⟨bcell hb (World.cell?_alloc_new _ _ _ 0), ((Below.refl _ _).alloc (Nat.le_refl _) _).trans (hb.mono (by simp)), by have := hb.size; simp at this; omega⟩

theorem drewNB (w : World) (n : Nat) : Below w.heap.size w (w.drewN n) := below_drewN (Below.refl _ _) n
theorem undrew {w w1 : World} (h : Below w.drew.heap.size w.drew w1) : Below w.heap.size w w1 := ((Below.refl _ _).drew).trans h

/-- From the start over a middle world on. -/
theorem chain {w wr w1 : World} (h : Below w.heap.size w wr) (k : Below wr.heap.size wr w1) : Below w.heap.size w w1 := h.trans (k.mono h.size)

/-- A world that has grown from W: nothing of W has turned. -/
structure Grw (W : World) where
  w : World
  h : Below W.heap.size W w

theorem grw_ne (W : World) : Nonempty (Grw W) := ⟨⟨W, Below.refl _ _⟩⟩

theorem grw_out {W w' : World} (h : ∃ x : Grw W, w' = x.w) : Below W.heap.size W w' := by obtain ⟨x, rfl⟩ := h; exact x.h

theorem gcell {W : World} {b o : Nat} {v : Value} (h : W.cell? ⟨b, o, none⟩ = some v) : ∀ x : Grw W, x.w.cell? ⟨b, o, none⟩ = some v := fun x => bcell x.h h

/-- A region that draws its order, whose operations read what was there and whose calls may lay new memory: one walk of the text's order serves. -/
theorem wp_region_grow {P : Program} {id : Nat} {Q : Exit → Act → World → Prop} {a : Act} {W : World} {l : List Oper} (hm : P.follows .mixedOrders = true) (hB : Region.lexB .any l.toArray = true)
    (h : wpQuiet P l.toArray (fun w' => ∃ x : Grw W, w' = x.w) (fun a' => ∀ w', (∃ x : Grw W, w' = x.w) → Q .normal a' w') l a) : (Code.region id l.toArray true).wp P Q a W :=
  wp_region_quiet (C := fun w' => ∃ x : Grw W, w' = x.w) hm hB ⟨⟨_, (Below.refl _ _).drew⟩, rfl⟩ (by simpa using h)

theorem grow_of {P : Program} {f : FuncId} {args : Array Value} {W : World} {x : Grw W} {v : Value}
    (h : Calls P f args x.w fun e w' => e = .returned v ∧ Below x.w.heap.size x.w w') : Calls P f args x.w fun e w' => e = .returned v ∧ ∃ y : Grw W, w' = y.w :=
  h.mono fun _ w' ⟨he, hb⟩ => ⟨he, ⟨⟨w', chain x.h hb⟩, rfl⟩⟩
theorem grow_of_same {P : Program} {f : FuncId} {args : Array Value} {W : World} {x : Grw W} {v : Value}
    (h : Calls P f args x.w fun e w' => e = .returned v ∧ w' = x.w) : Calls P f args x.w fun e w' => e = .returned v ∧ ∃ y : Grw W, w' = y.w :=
  h.mono fun _ _ ⟨he, hb⟩ => ⟨he, ⟨x, hb⟩⟩

theorem drop_at {α : Type} {l : List α} {k : Nat} {x : α} (h : l[k]? = some x) : l.drop k = x :: l.drop (k + 1) := by
  obtain ⟨hk, rfl⟩ := List.getElem?_eq_some_iff.1 h
  exact List.drop_eq_getElem_cons hk

theorem ret_bool {x y : Bool} (h : x = y) : Ending.returned (.bool x) = .returned (.bool y) := by rw [h]
theorem ret_int {k : IntKind} {a b : Int} (h : a = b) : Ending.returned (.int k a) = .returned (.int k b) := by rw [h]

/-! ### Parts -/
/-- impl.partOk -/
def partOkB (p : Pt) : Bool := if p.a == 0 then p.f == 0 && decide (1 ≤ p.n) else decide (1 ≤ p.a) && decide (p.a ≤ 400) && decide (0 ≤ p.f) && decide (p.f < 20) && decide (1 ≤ p.n) && decide (p.n ≤ 20 - p.f)
/-- impl.goesOn -/
def goesOnB (p q : Pt) : Bool := q.a == p.a && (q.a == 0 || q.f == wrap64 (p.f + p.n))
/-- impl.PartsOk's rounds: the part ahead, what is left of the length, the parts to come. -/
def pgo : Option Pt → Int → List Pt → Bool
  | _, _, [] => true
  | none, left, p :: r => partOkB p && decide (p.n ≤ left) && pgo (some p) (left - p.n) r
  | some q, left, p :: r => partOkB p && decide (p.n ≤ left) && !goesOnB q p && pgo (some p) (left - p.n) r
def partsOkB (l : List Pt) : Bool := decide (l.length ≤ 16) && pgo none 100 l
/-- The part ahead of the k-th. -/
def ahead (l : List Pt) (k : Nat) : Option Pt := if k = 0 then none else l[k - 1]?
def sumN : List Pt → Int
  | [] => 0
  | p :: r => p.n + sumN r

theorem ahead_zero (l : List Pt) : ahead l 0 = none := rfl
theorem ahead_succ (l : List Pt) (k : Nat) : ahead l (k + 1) = l[k]? := by simp [ahead]
theorem partOkB_pos {p : Pt} (h : partOkB p = true) : 1 ≤ p.n := by
  unfold partOkB at h; split at h <;> simp at h <;> omega
end Go.Proofs.Ytbmkedickkpjjaa
