/- Plain functions over lists, and what it says that a slice in memory holds a list: the ground of this seat's proofs. How the laws' arguments, as they are read, lie in memory: lists of parts and of extents. What the program's own head says: read word by word, so that the kernel need not hold it all. The closed facts that a row asks of the program, with those of the program's head apart. -/
import Derived.WalkKit
import Derived.ProofKit
import Derived.OpenShut
import Derived.Handy
import Derived.Deep.Light
import Derived.Deep.RegionHeld3
import Derived.Deep.QuietTactic
import Derived.BigQuiet
import Derived.WalkSmall
import Derived.Test.YtpobgjkmcmkkeaaProg
import Derived.Deep.Strs
import Derived.Deep.Slices
import Derived.SizedLaws
import Derived.Test.YtpobgjkmcmkkeaaRows
import Derived.JoinedOf
namespace Go.Proofs.Ytpobgjkmcmkkeaa
open Go.RowKit

/-- A part: Addr, From, Len. -/
structure Pt where
  a : Int
  f : Int
  n : Int

/-- The cells of a part. -/
def Pt.cs (p : Pt) : List Value := [.int .i64 p.a, .int .i64 p.f, .int .i64 p.n]

/-- An extent: Addr, Data. -/
structure Ex where
  a : Int
  d : ByteArray

/-- The cells of an extent. -/
def Ex.cs (p : Ex) : List Value := [.int .i64 p.a, .string p.d]

/-- The slice at address a, of n elements of sz cells each, holds the list l. -/
structure SlAt {α : Type} (cs : α → List Value) (sz : Nat) (w : World) (a : Option Addr) (n : Nat) (l : List α) : Prop where
  len : l.length = n
  cell : ∀ i x, l[i]? = some x → ∃ b o, a = some ⟨b, o, none⟩ ∧ ∀ j v, (cs x)[j]? = some v → w.cell? ⟨b, o + i * sz + j, none⟩ = some v

abbrev PtsAt := SlAt Pt.cs 3
abbrev ExsAt := SlAt Ex.cs 2
abbrev IntsAt := SlAt (fun x : Int => [Value.int .i64 x]) 1

theorem bcell {W w1 : World} (hb : Below W.heap.size W w1) {b o : Nat} {v : Value} (h : W.cell? ⟨b, o, none⟩ = some v) : w1.cell? ⟨b, o, none⟩ = some v := by
  rw [hb.cell (p := ⟨b, o, none⟩) (World.block_lt_of_cell? W _ h)]; exact h

theorem acell {w : World} {b o : Nat} {v : Value} (x : Obj) (h : w.cell? ⟨b, o, none⟩ = some v) : (w.alloc x).cell? ⟨b, o, none⟩ = some v := by
  rw [World.cell?_alloc_lt _ _ _ (World.block_lt_of_cell? w _ h)]; exact h

theorem SlAt.below {α : Type} {cs : α → List Value} {sz : Nat} {w w' : World} {a : Option Addr} {n : Nat} {l : List α} (h : SlAt cs sz w a n l) (hb : Below w.heap.size w w') : SlAt cs sz w' a n l :=
  ⟨h.len, fun i x hx => by
    obtain ⟨b, o, ha, hc⟩ := h.cell i x hx
    exact ⟨b, o, ha, fun j v hv => bcell hb (hc j v hv)⟩⟩

theorem SlAt.alloc {α : Type} {cs : α → List Value} {sz : Nat} {w : World} {a : Option Addr} {n : Nat} {l : List α} (h : SlAt cs sz w a n l) (x : Obj) : SlAt cs sz (w.alloc x) a n l :=
  h.below ((Below.refl _ _).alloc (Nat.le_refl _) _)

theorem SlAt.drew {α : Type} {cs : α → List Value} {sz : Nat} {w : World} {a : Option Addr} {n : Nat} {l : List α} (h : SlAt cs sz w a n l) : SlAt cs sz w.drew a n l :=
  h.below ((Below.refl _ _).drew)

/-- A part of such a slice, by its index. -/
theorem pts_at {w : World} {a : Option Addr} {n : Nat} {l : List Pt} (h : PtsAt w a n l) {k : Nat} (hk : k < n) :
    ∃ b o p, a = some ⟨b, o, none⟩ ∧ l[k]? = some p ∧ w.cell? ⟨b, o + k * 3, none⟩ = some (.int .i64 p.a) ∧ w.cell? ⟨b, o + k * 3 + 1, none⟩ = some (.int .i64 p.f) ∧ w.cell? ⟨b, o + k * 3 + 2, none⟩ = some (.int .i64 p.n) := by
  have hl : k < l.length := by rw [h.len]; exact hk
  have hx : l[k]? = some l[k] := by simp [hl]
  obtain ⟨b, o, ha, hc⟩ := h.cell k _ hx
  exact ⟨b, o, l[k], ha, hx, hc 0 _ rfl, hc 1 _ rfl, hc 2 _ rfl⟩

theorem exs_at {w : World} {a : Option Addr} {n : Nat} {l : List Ex} (h : ExsAt w a n l) {k : Nat} (hk : k < n) :
    ∃ b o p, a = some ⟨b, o, none⟩ ∧ l[k]? = some p ∧ w.cell? ⟨b, o + k * 2, none⟩ = some (.int .i64 p.a) ∧ w.cell? ⟨b, o + k * 2 + 1, none⟩ = some (.string p.d) := by
  have hl : k < l.length := by rw [h.len]; exact hk
  have hx : l[k]? = some l[k] := by simp [hl]
  obtain ⟨b, o, ha, hc⟩ := h.cell k _ hx
  exact ⟨b, o, l[k], ha, hx, hc 0 _ rfl, hc 1 _ rfl⟩

theorem ints_at' {w : World} {a : Option Addr} {n : Nat} {l : List Int} (h : IntsAt w a n l) {k : Nat} (hk : k < n) :
    ∃ b o p, a = some ⟨b, o, none⟩ ∧ l[k]? = some p ∧ w.cell? ⟨b, o + k, none⟩ = some (.int .i64 p) := by
  have hl : k < l.length := by rw [h.len]; exact hk
  have hx : l[k]? = some l[k] := by simp [hl]
  obtain ⟨b, o, ha, hc⟩ := h.cell k _ hx
  exact ⟨b, o, l[k], ha, hx, by simpa using hc 0 _ rfl⟩

/-- Behind a call that was made with a new box of three, two, one cells: the box, and what was there. -/
theorem box3 {w w1 : World} {x y z : Value} {t : TypeId} (hb : Below (w.alloc (.cells #[x, y, z] t)).heap.size (w.alloc (.cells #[x, y, z] t)) w1) :
    w1.cell? ⟨w.heap.size, 0, none⟩ = some x ∧ w1.cell? ⟨w.heap.size, 1, none⟩ = some y ∧ w1.cell? ⟨w.heap.size, 2, none⟩ = some z ∧ Below w.heap.size w w1 ∧ w.heap.size < w1.heap.size :=
  ⟨bcell hb (World.cell?_alloc_new _ _ _ 0), bcell hb (World.cell?_alloc_new _ _ _ 1), bcell hb (World.cell?_alloc_new _ _ _ 2),
    ((Below.refl _ _).alloc (Nat.le_refl _) _).trans (hb.mono (by simp)), by have := hb.size; simp at this; omega⟩
theorem box2 {w w1 : World} {x y : Value} {t : TypeId} (hb : Below (w.alloc (.cells #[x, y] t)).heap.size (w.alloc (.cells #[x, y] t)) w1) :
    w1.cell? ⟨w.heap.size, 0, none⟩ = some x ∧ w1.cell? ⟨w.heap.size, 1, none⟩ = some y ∧ Below w.heap.size w w1 ∧ w.heap.size < w1.heap.size :=
  ⟨bcell hb (World.cell?_alloc_new _ _ _ 0), bcell hb (World.cell?_alloc_new _ _ _ 1),
    ((Below.refl _ _).alloc (Nat.le_refl _) _).trans (hb.mono (by simp)), by have := hb.size; simp at this; omega⟩
theorem box1 {w w1 : World} {x : Value} {t : TypeId} (hb : Below (w.alloc (.cells #[x] t)).heap.size (w.alloc (.cells #[x] t)) w1) :
    w1.cell? ⟨w.heap.size, 0, none⟩ = some x ∧ Below w.heap.size w w1 ∧ w.heap.size < w1.heap.size :=
  ⟨bcell hb (World.cell?_alloc_new _ _ _ 0), ((Below.refl _ _).alloc (Nat.le_refl _) _).trans (hb.mono (by simp)), by have := hb.size; simp at this; omega⟩

theorem drewNB (w : World) (n : Nat) : Below w.heap.size w (w.drewN n) := below_drewN (Below.refl _ _) n
theorem undrew {w w1 : World} (h : Below w.drew.heap.size w.drew w1) : Below w.heap.size w w1 := ((Below.refl _ _).drew).trans h

/-- From the start over a middle world on. -/
theorem chain {w wr w1 : World} (h : Below w.heap.size w wr) (k : Below wr.heap.size wr w1) : Below w.heap.size w w1 := h.trans (k.mono h.size)

/-- A world that has grown from W: nothing of W has turned. -/
structure Grw (W : World) where
  w : World
  h : Below W.heap.size W w

theorem grw_ne (W : World) : Nonempty (Grw W) := ⟨⟨W, Below.refl _ _⟩⟩

theorem grw_out {W w' : World} (h : ∃ x : Grw W, w' = x.w) : Below W.heap.size W w' := by obtain ⟨x, rfl⟩ := h; exact x.h

theorem gcell {W : World} {b o : Nat} {v : Value} (h : W.cell? ⟨b, o, none⟩ = some v) : ∀ x : Grw W, x.w.cell? ⟨b, o, none⟩ = some v := fun x => bcell x.h h

/-- A region that draws its order, whose operations read what was there and whose calls may lay new memory: one walk of the text's order serves. -/
theorem wp_region_grow {P : Program} {id : Nat} {Q : Exit → Act → World → Prop} {a : Act} {W : World} {l : List Oper} (hm : P.follows .mixedOrders = true) (hB : Region.lexB .any l.toArray = true)
    (h : wpQuiet P l.toArray (fun w' => ∃ x : Grw W, w' = x.w) (fun a' => ∀ w', (∃ x : Grw W, w' = x.w) → Q .normal a' w') l a) : (Code.region id l.toArray true).wp P Q a W :=
  wp_region_quiet (C := fun w' => ∃ x : Grw W, w' = x.w) hm hB ⟨⟨_, (Below.refl _ _).drew⟩, rfl⟩ (by simpa using h)

theorem grow_of {P : Program} {f : FuncId} {args : Array Value} {W : World} {x : Grw W} {v : Value}
    (h : Calls P f args x.w fun e w' => e = .returned v ∧ Below x.w.heap.size x.w w') : Calls P f args x.w fun e w' => e = .returned v ∧ ∃ y : Grw W, w' = y.w :=
  h.mono fun _ w' ⟨he, hb⟩ => ⟨he, ⟨⟨w', chain x.h hb⟩, rfl⟩⟩
theorem grow_of_same {P : Program} {f : FuncId} {args : Array Value} {W : World} {x : Grw W} {v : Value}
    (h : Calls P f args x.w fun e w' => e = .returned v ∧ w' = x.w) : Calls P f args x.w fun e w' => e = .returned v ∧ ∃ y : Grw W, w' = y.w :=
  h.mono fun _ _ ⟨he, hb⟩ => ⟨he, ⟨x, hb⟩⟩

theorem drop_at {α : Type} {l : List α} {k : Nat} {x : α} (h : l[k]? = some x) : l.drop k = x :: l.drop (k + 1) := by
  obtain ⟨hk, rfl⟩ := List.getElem?_eq_some_iff.1 h
  exact List.drop_eq_getElem_cons hk

theorem ret_bool {x y : Bool} (h : x = y) : Ending.returned (.bool x) = .returned (.bool y) := by rw [h]
theorem ret_int {k : IntKind} {a b : Int} (h : a = b) : Ending.returned (.int k a) = .returned (.int k b) := by rw [h]

/-! ### Parts -/
/-- impl.partOk -/
def partOkB (p : Pt) : Bool := if p.a == 0 then p.f == 0 && decide (1 ≤ p.n) else decide (1 ≤ p.a) && decide (p.a ≤ 400) && decide (0 ≤ p.f) && decide (p.f < 20) && decide (1 ≤ p.n) && decide (p.n ≤ 20 - p.f)
/-- impl.goesOn -/
def goesOnB (p q : Pt) : Bool := q.a == p.a && (q.a == 0 || q.f == wrap64 (p.f + p.n))
/-- impl.PartsOk's rounds: the part ahead, what is left of the length, the parts to come. -/
def pgo : Option Pt → Int → List Pt → Bool
  | _, _, [] => true
  | none, left, p :: r => partOkB p && decide (p.n ≤ left) && pgo (some p) (left - p.n) r
  | some q, left, p :: r => partOkB p && decide (p.n ≤ left) && !goesOnB q p && pgo (some p) (left - p.n) r
def partsOkB (l : List Pt) : Bool := decide (l.length ≤ 16) && pgo none 100 l
/-- The part ahead of the k-th. -/
def ahead (l : List Pt) (k : Nat) : Option Pt := if k = 0 then none else l[k - 1]?
def sumN : List Pt → Int
  | [] => 0
  | p :: r => p.n + sumN r

theorem ahead_zero (l : List Pt) : ahead l 0 = none := rfl
theorem ahead_succ (l : List Pt) (k : Nat) : ahead l (k + 1) = l[k]? := by simp [ahead]
theorem partOkB_pos {p : Pt} (h : partOkB p = true) : 1 ≤ p.n := by
  unfold partOkB at h; split at h <;> simp at h <;> omega
end Go.Proofs.Ytpobgjkmcmkkeaa
namespace Go.Proofs.Ytpobgjkmcmkkeaa
open Go.ChangeShapes Go.WideShapes Go.ChangeAt Go.RowKit Go.Deep

theorem laidOut : laidOutB Try.prog = true := by kernel_rfl
theorem own : ownKnob Try.prog.godebug = none := by kernel_rfl

/-- What a slice's cells say of its address. -/
theorem spotless {w : World} {a : Addr} {n : Nat} {v : Value} (h : w.cell? (a.add n) = some v) (hn : n = 0) : ∃ b o, a = ⟨b, o, none⟩ := by
  subst hn
  obtain ⟨b, off, spot⟩ := a
  have hspot : spot = none := by simpa [Addr.add] using World.cell?_spot h
  exact ⟨b, off, by rw [hspot]⟩

theorem c2 : Try.prog.cellsOf 2 = 1 := by kernel_rfl

end Go.Proofs.Ytpobgjkmcmkkeaa
namespace Go.Proofs.Ytpobgjkmcmkkeaa
open Go.ChangeShapes Go.WideShapes Go.ChangeAt Go.RowKit Go.Deep

theorem ws_app : ∀ (s r : List Char), s.all (fun c => !(c == Char.ofNat 32)) = true → wordsSigns (s ++ Char.ofNat 32 :: r) = s :: wordsSigns r
  | [], r, _ => rfl
  | c :: s, r, h => by
    simp only [List.all_cons, Bool.and_eq_true, Bool.not_eq_true', beq_eq_false_iff_ne] at h
    have ih := ws_app s r h.2
    have hc : c ≠ Char.ofNat 32 := h.1
    rw [List.cons_append]
    conv => lhs; unfold wordsSigns
    split
    · rename_i e; simp at e
    · rename_i e; simp at e; exact absurd e.1 hc
    · rename_i e
      simp at e
      obtain ⟨rfl, rfl⟩ := e
      rw [ih]

def headRest : List Nat := [97, 116, 32, 108, 111, 111, 112, 46, 101, 120, 97, 109, 112, 108, 101, 47, 103, 48, 48, 51, 51, 54, 47, 108, 97, 119, 115, 46, 70, 110, 67, 114, 97, 115, 104, 101, 100, 32, 108, 111, 111, 112, 46, 101, 120, 97, 109, 112, 108, 101, 47, 103, 48, 48, 51, 51, 54, 47, 108, 97, 119, 115, 46, 70, 110, 68, 111, 110, 101, 32, 108, 111, 111, 112, 46, 101, 120, 97, 109, 112, 108, 101, 47, 103, 48, 48, 51, 51, 54, 47, 108, 97, 119, 115, 46, 70, 110, 82, 101, 112, 108, 97, 99, 101, 100, 32, 108, 111, 111, 112, 46, 101, 120, 97, 109, 112, 108, 101, 47, 103, 48, 48, 51, 51, 54, 47, 108, 97, 119, 115, 46, 70, 110, 69, 120, 97, 99, 116, 68, 105, 115, 107, 79, 107, 32, 108, 111, 111, 112, 46, 101, 120, 97, 109, 112, 108, 101, 47, 103, 48, 48, 51, 51, 54, 47, 108, 97, 119, 115, 46, 70, 110, 69, 120, 97, 99, 116, 68, 111, 32, 108, 111, 111, 112, 46, 101, 120, 97, 109, 112, 108, 101, 47, 103, 48, 48, 51, 51, 54, 47, 108, 97, 119, 115, 46, 70, 110, 69, 120, 97, 99, 116, 83, 121, 110, 99, 32, 108, 111, 111, 112, 46, 101, 120, 97, 109, 112, 108, 101, 47, 103, 48, 48, 51, 51, 54, 47, 108, 97, 119, 115, 46, 70, 110, 69, 120, 97, 99, 116, 67, 114, 97, 115, 104, 32, 108, 111, 111, 112, 46, 101, 120, 97, 109, 112, 108, 101, 47, 103, 48, 48, 51, 51, 54, 47, 108, 97, 119, 115, 46, 70, 110, 69, 120, 97, 99, 116, 82, 101, 97, 100, 70, 105, 108, 101, 32, 108, 111, 111, 112, 46, 101, 120, 97, 109, 112, 108, 101, 47, 103, 48, 48, 51, 51, 54, 47, 108, 97, 119, 115, 46, 70, 110, 69, 120, 97, 99, 116, 82, 101, 112, 108, 97, 99, 101]
def headSum : List Nat := [57, 53, 52, 54, 100, 51, 52, 56, 48, 101, 55, 99, 99, 52, 55, 53, 51, 48, 48, 97, 98, 98, 97, 98, 97, 55, 97, 50, 49, 101, 51, 102, 101, 101, 97, 52, 101, 48, 57, 51, 57, 102, 48, 49, 56, 53, 100, 97, 51, 102, 51, 57, 98, 52, 97, 100, 51, 48, 50, 101, 100, 56, 102, 57]
theorem headIs : Try.prog.initOrder = String.ofList ([104, 97, 114, 110, 101, 115, 115].map Char.ofNat ++ Char.ofNat 32 :: (headSum.map Char.ofNat ++ Char.ofNat 32 :: ([99, 117, 116].map Char.ofNat ++ Char.ofNat 32 :: headRest.map Char.ofNat))) := by kernel_rfl
theorem headWords : behindMainWord (wordsSigns Try.prog.initOrder.toList) = "cut".toList :: wordsSigns (headRest.map Char.ofNat) := by
  rw [headIs, String.toList_ofList, ws_app _ _ (by decide +kernel), ws_app _ _ (by decide +kernel), ws_app _ _ (by decide +kernel)]
  dsimp only [behindMainWord]
  rw [if_pos (by decide +kernel)]
  rfl

theorem strip_cut (rr : List (List Char)) : stripLifts liftWords ("cut".toList :: rr) = ([], "cut".toList :: rr) := by
  simp only [liftWords]
  repeat (rw [stripLifts, if_neg (by decide +kernel)])
  rfl
theorem mayEnter_of {P : Program} {rr : List (List Char)} (h : behindMainWord (wordsSigns P.initOrder.toList) = "cut".toList :: rr) (h1 : P.laysLater = false) (h2 : P.bearsReflect = false) (h3 : P.doorFits [] = true) : P.mayEnter = true := by
  unfold Program.mayEnter
  rw [h]
  dsimp only
  rw [strip_cut]
  have e1 : ("cut".toList == "gc".toList) = false := by decide +kernel
  have e2 : ("cut".toList == "spec".toList) = false := by decide +kernel
  have e3 : ("cut".toList == "carried".toList) = false := by decide +kernel
  rw [e1, e2, e3, h1, h2, h3]
  rfl
theorem lifts_of {P : Program} {rr : List (List Char)} (h : behindMainWord (wordsSigns P.initOrder.toList) = "cut".toList :: rr) : P.headLifts = [] := by
  unfold Program.headLifts
  rw [h, strip_cut]
  rfl
theorem final_of {P : Program} {rr : List (List Char)} (h : behindMainWord (wordsSigns P.initOrder.toList) = "cut".toList :: rr) : P.liftsFinal = false := by
  have hl := lifts_of h
  unfold Program.liftsFinal
  rw [h, hl]
  have e3 : (("cut".toList :: rr).head? == some "carried".toList) = false := by
    show (some "cut".toList == some "carried".toList) = false
    decide +kernel
  dsimp only
  rw [e3]
  rfl
theorem make_of {P : Program} {rr : List (List Char)} (h : behindMainWord (wordsSigns P.initOrder.toList) = "cut".toList :: rr) : P.make = some .cut := by
  unfold Program.make
  rw [h]
  dsimp only
  rw [if_neg (by decide +kernel), if_pos]
  have : ("cut".toList == "cut".toList) = true := by decide +kernel
  rw [this]
  rfl

theorem mayEnterIs : Try.prog.mayEnter = true := mayEnter_of headWords (by kernel_rfl) (by kernel_rfl) (by kernel_rfl)
theorem finalIs : Try.prog.liftsFinal = false := final_of headWords
theorem makeIs : Try.prog.make = some .cut := make_of headWords
end Go.Proofs.Ytpobgjkmcmkkeaa
namespace Go.Proofs.Ytpobgjkmcmkkeaa
open Go.ChangeShapes Go.WideShapes Go.ChangeAt Go.RowKit Go.Deep

def restA (P : Program) (fn : Func) (s : ChangeSpec) (c : OpenClaim) : Bool :=
  c.wf (OpenSpec.ofChange s) && fn.params.all (P.readableRec ·) && namedTie P c.named s.vars && (c.stops == []) && (c.knobs == []) &&
  (c.maps == (fn.params.toList ++ s.plain.varTypes P).any (P.mapsRec ·)) && (c.ifaces == (fn.params.toList ++ s.plain.varTypes P).any (P.ifacesRec ·)) && (c.mapsOut == P.mapsAmong fn.resultTypes.toList) &&
  (c.loops == (fn.params.toList ++ s.plain.varTypes P).any (P.loopsFrom ·)) && (c.wideKeys == (fn.params.toList ++ s.plain.varTypes P ++ fn.resultTypes.toList).any (P.wideKeysFrom ·)) &&
  s.vars.all (P.varReadable ·) && fn.resultTypes.all (fun t => P.readableRec t && decide (t < P.types.size)) && (c.ifacesOut == fn.resultTypes.toList.any (P.ifacesRec ·)) && (c.loopsOut == fn.resultTypes.toList.any (P.loopsFrom ·)) && c.shortTexts.isNone && (c.kinds == (if c.domain.isEmpty then [] else fn.params.toList.map fun t => match P.underlying t with | some (.int k) => some k | _ => none)) && (c.pinned == c.pinnedBy) &&
  (c.veiled == (fn.params.toList ++ s.plain.varTypes P ++ fn.resultTypes.toList).any (P.veiledRec ·)) && c.veiledFits P fn.params.toList (fn.params.toList ++ s.plain.varTypes P ++ fn.resultTypes.toList)

theorem joined_gen {P : Program} {f : FuncId} {fn : Func} {s : ChangeSpec} {c : OpenClaim} (h2 : laidOutB P = true) (h3 : mapsRowed P = true) (h7 : (P.stops == []) = true) (h9 : (P.stopKnobs == []) = true) (h10 : (c.inPlace == P.inPlace f) = true) (h11 : (c.unfollowed == P.unfollowed f) = true) (h12 : (c.recurses == P.recurses f) = true) (h13 : (c.named == P.varsNamed f) = true)
    (h23 : (c.plainKeys == P.plainKeys) = true) (h25 : P.stopsHeard = true) (h26 : P.mayEnter = true) (h27 : (c.lifted == P.liftsFinal) = true) (h28 : (P.make == some c.make) = true) (h : restA P fn s c = true) : joinedFacts P f fn s c = true := by
  simp only [restA, Bool.and_eq_true] at h
  obtain ⟨⟨⟨⟨⟨⟨⟨⟨⟨⟨⟨⟨⟨⟨⟨⟨⟨⟨a1, a4⟩, a5⟩, a6⟩, a8⟩, a14⟩, a15⟩, a16⟩, a17⟩, a18⟩, a19⟩, a20⟩, a21⟩, a22⟩, a24⟩, a29⟩, a30⟩, a31⟩, a32⟩ := h
  simp only [joinedFacts, Bool.and_eq_true]
  exact ⟨⟨⟨⟨⟨⟨⟨⟨⟨⟨⟨⟨⟨⟨⟨⟨⟨⟨⟨⟨⟨⟨⟨⟨⟨⟨⟨⟨⟨⟨⟨a1, h2⟩, h3⟩, a4⟩, a5⟩, a6⟩, h7⟩, a8⟩, h9⟩, h10⟩, h11⟩, h12⟩, h13⟩, a14⟩, a15⟩, a16⟩, a17⟩, a18⟩, a19⟩, a20⟩, a21⟩, a22⟩, h23⟩, a24⟩, h25⟩, h26⟩, h27⟩, h28⟩, a29⟩, a30⟩, a31⟩, a32⟩

theorem mapsRowedIs : mapsRowed Try.prog = true := by kernel_rfl
theorem stopsIs : (Try.prog.stops == []) = true := by kernel_rfl
theorem stopKnobsIs : (Try.prog.stopKnobs == []) = true := by kernel_rfl
theorem plainKeysIs : Try.prog.plainKeys = true := by kernel_rfl
theorem stopsHeardIs : Try.prog.stopsHeard = true := by kernel_rfl

theorem joined_of {f : FuncId} {fn : Func} {s : ChangeSpec} {c : OpenClaim} (h10 : (c.inPlace == Try.prog.inPlace f) = true) (h11 : (c.unfollowed == Try.prog.unfollowed f) = true) (h12 : (c.recurses == Try.prog.recurses f) = true) (h13 : (c.named == Try.prog.varsNamed f) = true)
    (h23 : c.plainKeys = true) (h27 : c.lifted = false) (h28 : c.make = .cut) (h : restA Try.prog fn s c = true) : joinedFacts Try.prog f fn s c = true :=
  joined_gen laidOut mapsRowedIs stopsIs stopKnobsIs h10 h11 h12 h13 (by rw [h23, plainKeysIs]; rfl) stopsHeardIs mayEnterIs (by rw [h27, finalIs]; rfl) (by rw [h28, makeIs]; rfl) h
end Go.Proofs.Ytpobgjkmcmkkeaa
