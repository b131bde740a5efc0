/- Volumes and items as plain data, and how they lie in memory. A pool that is being made: lists of rows, each in a block of its own. Numbers in decimal, as texts (the model's). Numbers in decimal, read: plain. Words and lines, cut and joined: plain. -/
import Derived.Test.YtigldeccfpkdmaaGreatDoorCReadPoolx07
import Derived.Test.YtigldeccfpkdmaaGreatDoorCReadPoolx06
import Derived.Test.YtigldeccfpkdmaaGreatDoorCReadPoolx02
import Derived.Test.YtigldeccfpkdmaaGreatDoorCReadPoolx01
import Derived.Test.YtigldeccfpkdmaaGreatDoorProg
import Derived.Lib.ItoaNum
import Derived.Lib.Atoi
namespace Go.Proofs.YtigldeccfpkdmaaGreatDoor
open Go.RowKit
/-- A file: its name, its parts. -/
structure It where
  nm : ByteArray
  ps : List Pt
/-- A volume. -/
structure Vo where
  id : Int
  nm : ByteArray
  fx : Bool
  its : List It
/-- A pool. -/
structure Po where
  size : Int
  next : Int
  ex : List Ex
  vs : List Vo
  rf : List Ct
  lt : List Ct
/-- A slice's head; where B is not nought, one as the program itself makes them. -/
def Hd (B : Nat) (a : Option Addr) (n cap : Nat) : Prop := n ≤ cap ∧ cap ≤ 9223372036854775807 ∧ (0 < B → (a = none → cap = 0) ∧ ∀ ad, a = some ad → ad.spot = none)
theorem Hd.mono {B B' : Nat} {a : Option Addr} {n cap : Nat} (h : Hd B a n cap) (hb : B' ≤ B) : Hd B' a n cap := ⟨h.1, h.2.1, fun h0 => h.2.2 (by omega)⟩
/-- Where B is not nought: a slice lies at B or behind it, in a block that may be written. -/
def Sf (B : Nat) (w : World) (a : Option Addr) : Prop := 0 < B → ∀ ad, a = some ad → B ≤ ad.block ∧ ∃ c t, Blk w ad.block c t
theorem Sf.below {B : Nat} {w w' : World} {a : Option Addr} (h : Sf B w a) (hb : Below w.heap.size w w') : Sf B w' a := fun h0 ad e => by
  obtain ⟨h1, c, t, h2⟩ := h h0 ad e
  exact ⟨h1, c, t, h2.below hb⟩
theorem Sf.mono {B B' : Nat} {w : World} {a : Option Addr} (h : Sf B w a) (hb : B' ≤ B) : Sf B' w a := fun h0 ad e => by
  obtain ⟨h1, r⟩ := h (by omega) ad e
  exact ⟨by omega, r⟩
theorem Sf.grown {B r : Nat} {w w' : World} {a : Option Addr} (h : Sf B w a) (hg : w.grownBy w' (some r)) (hr : r < B) : Sf B w' a := fun h0 ad e => by
  obtain ⟨h1, c, t, h2⟩ := h h0 ad e
  exact ⟨h1, c, t, h2.grown hg (by simp only [ne_eq]; omega)⟩
theorem sf_own {B b : Nat} {w : World} {c : Array Value} {t : TypeId} (h : Blk w b c t) (hb : B ≤ b) : Sf B w (some ⟨b, 0, none⟩) := fun _ ad e => by cases e; exact ⟨hb, c, t, h⟩
/-- A slice holds these items; all that it reaches lies at B or behind it. -/
structure ItsAt (B : Nat) (w : World) (a : Option Addr) (n : Nat) (l : List It) : Prop where
  len : l.length = n
  cell : ∀ i x, l[i]? = some x → ∃ b o pa pn pc, a = some ⟨b, o, none⟩ ∧ w.cell? ⟨b, o + i * 2, none⟩ = some (.string x.nm) ∧ w.cell? ⟨b, o + i * 2 + 1, none⟩ = some (.slice pa pn pc) ∧ PtsAt w pa pn x.ps ∧ Hd B pa pn pc ∧ B ≤ b ∧ (∀ ad, pa = some ad → B ≤ ad.block) ∧ Sf B w pa ∧ Sf B w a
/-- A slice holds these volumes. -/
structure VsAt (B : Nat) (w : World) (a : Option Addr) (n : Nat) (l : List Vo) : Prop where
  len : l.length = n
  cell : ∀ i x, l[i]? = some x → ∃ b o pa pn pc, a = some ⟨b, o, none⟩ ∧ w.cell? ⟨b, o + i * 4, none⟩ = some (.int .i64 x.id) ∧ w.cell? ⟨b, o + i * 4 + 1, none⟩ = some (.string x.nm) ∧ w.cell? ⟨b, o + i * 4 + 2, none⟩ = some (.bool x.fx) ∧ w.cell? ⟨b, o + i * 4 + 3, none⟩ = some (.slice pa pn pc) ∧ ItsAt B w pa pn x.its ∧ Hd B pa pn pc ∧ B ≤ b ∧ Sf B w a
theorem ItsAt.below {B : Nat} {w w' : World} {a : Option Addr} {n : Nat} {l : List It} (h : ItsAt B w a n l) (hb : Below w.heap.size w w') : ItsAt B w' a n l :=
  ⟨h.len, fun i x hx => by
    obtain ⟨b, o, pa, pn, pc, ha, c0, c1, hp, hh, hB, hA, s1, s2⟩ := h.cell i x hx
    exact ⟨b, o, pa, pn, pc, ha, bcell hb c0, bcell hb c1, hp.below hb, hh, hB, hA, s1.below hb, s2.below hb⟩⟩
theorem VsAt.below {B : Nat} {w w' : World} {a : Option Addr} {n : Nat} {l : List Vo} (h : VsAt B w a n l) (hb : Below w.heap.size w w') : VsAt B w' a n l :=
  ⟨h.len, fun i x hx => by
    obtain ⟨b, o, pa, pn, pc, ha, c0, c1, c2, c3, hp, hh, hB, s2⟩ := h.cell i x hx
    exact ⟨b, o, pa, pn, pc, ha, bcell hb c0, bcell hb c1, bcell hb c2, bcell hb c3, hp.below hb, hh, hB, s2.below hb⟩⟩
theorem ItsAt.mono {B B' : Nat} {w : World} {a : Option Addr} {n : Nat} {l : List It} (h : ItsAt B w a n l) (hb : B' ≤ B) : ItsAt B' w a n l :=
  ⟨h.len, fun i x hx => by
    obtain ⟨b, o, pa, pn, pc, ha, c0, c1, hp, hh, hB, hA, s1, s2⟩ := h.cell i x hx
    exact ⟨b, o, pa, pn, pc, ha, c0, c1, hp, hh.mono hb, by omega, fun ad had => by have := hA ad had; omega, s1.mono hb, s2.mono hb⟩⟩
theorem VsAt.mono {B B' : Nat} {w : World} {a : Option Addr} {n : Nat} {l : List Vo} (h : VsAt B w a n l) (hb : B' ≤ B) : VsAt B' w a n l :=
  ⟨h.len, fun i x hx => by
    obtain ⟨b, o, pa, pn, pc, ha, c0, c1, c2, c3, hp, hh, hB, s2⟩ := h.cell i x hx
    exact ⟨b, o, pa, pn, pc, ha, c0, c1, c2, c3, hp.mono hb, hh.mono hb, by omega, s2.mono hb⟩⟩
theorem ItsAt.grown {B r : Nat} {w w' : World} {a : Option Addr} {n : Nat} {l : List It} (h : ItsAt B w a n l) (hg : w.grownBy w' (some r)) (hr : r < B) : ItsAt B w' a n l :=
  ⟨h.len, fun i x hx => by
    obtain ⟨b, o, pa, pn, pc, ha, c0, c1, hp, hh, hB, hA, s1, s2⟩ := h.cell i x hx
    exact ⟨b, o, pa, pn, pc, ha, hg.cell c0 (by simp; omega), hg.cell c1 (by simp; omega), hp.grown hg (fun ad had => by have := hA ad had; omega), hh, hB, hA, s1.grown hg hr, s2.grown hg hr⟩⟩
theorem its_at {B : Nat} {w : World} {a : Option Addr} {n : Nat} {l : List It} (h : ItsAt B w a n l) {k : Nat} (hk : k < n) :
    ∃ b o x pa pn pc, a = some ⟨b, o, none⟩ ∧ l[k]? = some x ∧ w.cell? ⟨b, o + k * 2, none⟩ = some (.string x.nm) ∧ w.cell? ⟨b, o + k * 2 + 1, none⟩ = some (.slice pa pn pc) ∧ PtsAt w pa pn x.ps ∧ Hd B pa pn pc ∧ B ≤ b ∧ ∀ ad, pa = some ad → B ≤ ad.block := by
  have hx : l[k]? = some (l[k]'(by rw [h.len]; exact hk)) := by simp [h.len, hk]
  obtain ⟨b, o, pa, pn, pc, ha, c0, c1, hp, hh, hB, hA, _⟩ := h.cell k _ hx
  exact ⟨b, o, _, pa, pn, pc, ha, hx, c0, c1, hp, hh, hB, hA⟩
theorem vs_at {B : Nat} {w : World} {a : Option Addr} {n : Nat} {l : List Vo} (h : VsAt B w a n l) {k : Nat} (hk : k < n) :
    ∃ b o x pa pn pc, a = some ⟨b, o, none⟩ ∧ l[k]? = some x ∧ w.cell? ⟨b, o + k * 4, none⟩ = some (.int .i64 x.id) ∧ w.cell? ⟨b, o + k * 4 + 1, none⟩ = some (.string x.nm) ∧ w.cell? ⟨b, o + k * 4 + 2, none⟩ = some (.bool x.fx) ∧ w.cell? ⟨b, o + k * 4 + 3, none⟩ = some (.slice pa pn pc) ∧ ItsAt B w pa pn x.its ∧ Hd B pa pn pc ∧ B ≤ b := by
  have hx : l[k]? = some (l[k]'(by rw [h.len]; exact hk)) := by simp [h.len, hk]
  obtain ⟨b, o, pa, pn, pc, ha, c0, c1, c2, c3, hp, hh, hB, _⟩ := h.cell k _ hx
  exact ⟨b, o, _, pa, pn, pc, ha, hx, c0, c1, c2, c3, hp, hh, hB⟩
/-- Strings and lists as short as memory has them. -/
def StrI (l : List It) : Prop := ∀ x ∈ l, x.nm.size ≤ 9223372036854775807 ∧ x.ps.length ≤ 4194304
def StrV (l : List Vo) : Prop := ∀ v ∈ l, v.nm.size ≤ 9223372036854775807 ∧ v.its.length ≤ 4194304 ∧ StrI v.its
/-- Items are right, behind the one ahead. -/
def igo (e : List Ex) : Option It → List It → Bool
  | _, [] => true
  | q, x :: r => nameB x.nm && (match q with | none => true | some p => bl p.nm.toList x.nm.toList) && (contentO x.ps e).isSome && igo e (some x) r
def itemsB (l : List It) (e : List Ex) : Bool := decide (l.length ≤ 5) && igo e none l
/-- Volumes have rising ids and are right. -/
def vgo (next : Int) (e : List Ex) : Int → List Vo → Bool
  | _, [] => true
  | last, v :: r => decide (last < v.id) && decide (v.id < next) && nameB v.nm && itemsB v.its e && vgo next e v.id r
def volsB (next : Int) (l : List Vo) (e : List Ex) : Bool := decide (l.length ≤ 6) && vgo next e 0 l
/-- What a file's parts, an item, a volume and all of them add to what is counted. -/
def partCs (vol : Int) (f : ByteArray) (ps : List Pt) : List Ct := (ps.filter (fun p => !(p.a == 0))).map (fun p => ⟨⟨p.a, vol, f⟩, 1⟩)
def volCs (v : Vo) : List Ct := v.its.flatMap (fun x => partCs v.id x.nm x.ps)
def allCs (l : List Vo) : List Ct := l.flatMap volCs
def walkL (l : List Vo) : List Ct := sumC [] (allCs l)
def namesB (l : List Vo) : Bool := decide ((l.map (·.nm.toList)).Nodup)
/-- Just the extents that somebody names. -/
def addrB (e : List Ex) (l : List Ct) : Bool := e.all (fun x => l.any (fun c => c.o.a == x.a)) && l.all (fun c => e.any (fun x => x.a == c.o.a))
/-- A right pool. -/
def poolB (p : Po) : Bool := spaceOkB p.size p.ex && decide (1 ≤ p.next) && decide (p.next ≤ 1000000000) && volsB p.next p.vs p.ex && namesB p.vs && (match flushedO p.rf p.lt with | none => false | some s => eqCts s (walkL p.vs)) && addrB p.ex (p.rf ++ p.lt)
end Go.Proofs.YtigldeccfpkdmaaGreatDoor
namespace Go.Proofs.YtigldeccfpkdmaaGreatDoor
open Go Go.RowKit Go.BigFrame
/-- An item's row, a volume's row with the rows of its items. -/
structure IR where
  nm : ByteArray
  a : Option Addr
  n : Nat
  c : Nat
structure VR where
  id : Int
  nm : ByteArray
  fx : Bool
  a : Option Addr
  n : Nat
  c : Nat
  irs : List IR
def IR.cs (x : IR) : List Value := [.string x.nm, .slice x.a x.n x.c]
def VR.cs (x : VR) : List Value := [.int .i64 x.id, .string x.nm, .bool x.fx, .slice x.a x.n x.c]
/-- Two lists, row by row. -/
inductive Al2 {α β : Type} (R : α → β → Prop) : List α → List β → Prop
  | nil : Al2 R [] []
  | cons {x : α} {y : β} {l : List α} {m : List β} : R x y → Al2 R l m → Al2 R (x :: l) (y :: m)
theorem Al2.len {α β : Type} {R : α → β → Prop} {l : List α} {m : List β} (h : Al2 R l m) : l.length = m.length := by
  induction h with
  | nil => rfl
  | cons _ _ ih => simp [ih]
theorem Al2.imp {α β : Type} {R S : α → β → Prop} {l : List α} {m : List β} (h : Al2 R l m) (hS : ∀ x ∈ l, ∀ y, R x y → S x y) : Al2 S l m := by
  induction h with
  | nil => exact .nil
  | cons hr _ ih => exact .cons (hS _ (by simp) _ hr) (ih fun x hx => hS x (by simp [hx]))
theorem Al2.snoc {α β : Type} {R : α → β → Prop} {l : List α} {m : List β} {x : α} {y : β} (h : Al2 R l m) (hr : R x y) : Al2 R (l ++ [x]) (m ++ [y]) := by
  induction h with
  | nil => exact .cons hr .nil
  | cons h1 _ ih => exact .cons h1 ih
theorem Al2.at {α β : Type} {R : α → β → Prop} {l : List α} {m : List β} (h : Al2 R l m) : ∀ {i : Nat} {y : β}, m[i]? = some y → ∃ x, l[i]? = some x ∧ R x y := by
  induction h with
  | nil => intro i y hy; simp at hy
  | cons hr _ ih =>
    intro i y hy
    cases i with
    | zero => obtain rfl := Option.some.inj hy; exact ⟨_, rfl, hr⟩
    | succ i => exact ih hy
abbrev tI : TypeId := 139
abbrev tV : TypeId := 128
abbrev tP : TypeId := 141
abbrev tE : TypeId := 136
abbrev tC : TypeId := 134
structure ItR (w : World) (B : Nat) (r : IR) (x : It) : Prop where
  nm : r.nm = x.nm
  ps : ResAt Pt.cs 3 tP w B r.a r.n r.c x.ps
structure VoR (w : World) (B : Nat) (r : VR) (v : Vo) : Prop where
  id : r.id = v.id
  nm : r.nm = v.nm
  fx : r.fx = v.fx
  rows : ResAt IR.cs 2 tI w B r.a r.n r.c r.irs
  its : Al2 (ItR w B) r.irs v.its
def blkO (a : Option Addr) : Option Nat := a.map (·.block)
def vblk (l : List VR) : List Nat := l.filterMap fun r => blkO r.a
def pblk (l : List VR) : List Nat := l.flatMap fun r => r.irs.filterMap fun x => blkO x.a
/-- A pool that the call itself is making: all its lists lie in blocks of their own, from B on. -/
structure PoolM (B : Nat) (w : World) (v : Value) (p : Po) : Prop where
  out : ∃ ea en ec va vn vc ra rn rc la ln lc vr, v = .agg #[.int .i64 p.size, .int .i64 p.next, .slice ea en ec, .slice va vn vc, .slice ra rn rc, .slice la ln lc] ∧
    ResAt Ex.cs 2 tE w B ea en ec p.ex ∧ ResAt VR.cs 4 tV w B va vn vc vr ∧ ResAt Ct.cs 4 tC w B ra rn rc p.rf ∧ ResAt Ct.cs 4 tC w B la ln lc p.lt ∧
    (∀ x y, ra = some x → la = some y → x.block ≠ y.block) ∧ Al2 (VoR w B) vr p.vs ∧ (vblk vr).Nodup ∧ (pblk vr).Nodup
theorem ItR.below {w w' : World} {B : Nat} {r : IR} {x : It} (h : ItR w B r x) (hb : Below w.heap.size w w') : ItR w' B r x := ⟨h.nm, h.ps.below hb⟩
theorem VoR.below {w w' : World} {B : Nat} {r : VR} {v : Vo} (h : VoR w B r v) (hb : Below w.heap.size w w') : VoR w' B r v := ⟨h.id, h.nm, h.fx, h.rows.below hb, h.its.imp fun _ _ _ h => h.below hb⟩
theorem PoolM.below {B : Nat} {w w' : World} {v : Value} {p : Po} (h : PoolM B w v p) (hb : Below w.heap.size w w') : PoolM B w' v p := by
  obtain ⟨ea, en, ec, va, vn, vc, ra, rn, rc, la, ln, lc, vr, e, h1, h2, h3, h4, h5, h6, h7, h8⟩ := h.out
  exact ⟨ea, en, ec, va, vn, vc, ra, rn, rc, la, ln, lc, vr, e, h1.below hb, h2.below hb, h3.below hb, h4.below hb, h5, h6.imp fun _ _ _ h => h.below hb, h7, h8⟩
theorem ItR.ty {w w' : World} {B : Nat} {row : Option Nat} {t : TypeId} {r : IR} {x : It} (h : ItR w B r x) (hg : w.grownBy w' row) (hr : RowTy w row t) (ht : tP ≠ t) : ItR w' B r x := ⟨h.nm, h.ps.ty hg hr ht⟩
theorem VoR.ty {w w' : World} {B : Nat} {row : Option Nat} {t : TypeId} {r : VR} {v : Vo} (h : VoR w B r v) (hg : w.grownBy w' row) (hr : RowTy w row t) (h1 : tI ≠ t) (h2 : tP ≠ t) : VoR w' B r v := ⟨h.id, h.nm, h.fx, h.rows.ty hg hr h1, h.its.imp fun _ _ _ h => h.ty hg hr h2⟩
theorem emptyM (B : Nat) (w : World) : PoolM B w (.agg #[.int .i64 0, .int .i64 0, .slice none 0 0, .slice none 0 0, .slice none 0 0, .slice none 0 0]) ⟨0, 0, [], [], [], []⟩ :=
  ⟨none, 0, 0, none, 0, 0, none, 0, 0, none, 0, 0, [], rfl, res_nil, res_nil, res_nil, res_nil, fun x y h => (by cases h), .nil, List.nodup_nil, List.nodup_nil⟩
theorem ir_one : ∀ (l : List IR), ∀ u ∈ l.flatMap IR.cs, u.oneCell' = true := by
  intro l u hu
  obtain ⟨x, _, hx⟩ := List.mem_flatMap.1 hu
  simp [IR.cs] at hx
  rcases hx with rfl | rfl <;> rfl
theorem vr_one : ∀ (l : List VR), ∀ u ∈ l.flatMap VR.cs, u.oneCell' = true := by
  intro l u hu
  obtain ⟨x, _, hx⟩ := List.mem_flatMap.1 hu
  simp [VR.cs] at hx
  rcases hx with rfl | rfl | rfl | rfl <;> rfl
end Go.Proofs.YtigldeccfpkdmaaGreatDoor
namespace Go.Proofs.YtigldeccfpkdmaaGreatDoor
open Go Go.RowKit Go.BigFrame
theorem ba_eqX {a b : ByteArray} (h : a.data.toList = b.data.toList) : a = b := by
  cases a; cases b; simp at h; rw [h]
/-- A number in decimal. -/
def decB (n : Int) : ByteArray := ⟨(Lib.itoa n).toArray⟩
/-- The digits of k ahead of o, one at least. -/
def ddGo (k : Nat) (o : ByteArray) : ByteArray := ⟨(Lib.decDigits k).toArray⟩ ++ o
theorem ddGo_step {k : Nat} (o : ByteArray) (h : 10 ≤ k) : ddGo k o = ddGo (k / 10) (strOfNums [48 + (k : Int) % 10] ++ o) := by
  unfold ddGo
  rw [Lib.decDigits, dif_neg (by omega)]
  have e : strOfNums [48 + (k : Int) % 10] = ⟨#[UInt8.ofNat (48 + k % 10)]⟩ := by
    unfold strOfNums
    have : (48 + (k : Int) % 10).toNat = 48 + k % 10 := by omega
    simp [this]
  rw [e]
  refine ba_eqX ?_
  simp [ByteArray.data_append]
theorem ddGo_last {k : Nat} (o : ByteArray) (h : k < 10) : ddGo k o = strOfNums [48 + (k : Int)] ++ o := by
  unfold ddGo
  rw [Lib.decDigits, dif_pos h]
  have e : strOfNums [48 + (k : Int)] = ⟨#[UInt8.ofNat (48 + k)]⟩ := by
    unfold strOfNums
    have : (48 + (k : Int)).toNat = 48 + k := by omega
    simp [this]
  rw [e]
end Go.Proofs.YtigldeccfpkdmaaGreatDoor
namespace Go.Proofs.YtigldeccfpkdmaaGreatDoor
open Go
abbrev By := List UInt8
def bA (l : By) : ByteArray := ⟨l.toArray⟩
theorem bA_data (b : ByteArray) : bA b.data.toList = b := by cases b; simp [bA]
theorem bA_list (l : By) : (bA l).data.toList = l := by simp [bA]
theorem decFrom_app : ∀ (a b : By) (k : Nat), Lib.decFrom k (a ++ b) = (Lib.decFrom k a).bind fun m => Lib.decFrom m b
  | [], b, k => rfl
  | x :: a, b, k => by
    simp only [List.cons_append, Lib.decFrom]
    cases Lib.digitVal x with
    | none => rfl
    | some d => exact decFrom_app a b _
theorem digit_of {d : Nat} (h : d < 10) : Lib.digitVal (UInt8.ofNat (48 + d)) = some d := by
  have e : (UInt8.ofNat (48 + d)).toNat = 48 + d := by simp; omega
  unfold Lib.digitVal
  rw [e, if_pos (by omega)]
  simp
theorem digit_val {b : UInt8} {d : Nat} (h : Lib.digitVal b = some d) : d < 10 ∧ b = UInt8.ofNat (48 + d) := by
  unfold Lib.digitVal at h
  split at h
  · next hb =>
    have h := Option.some.inj h
    refine ⟨by omega, ?_⟩
    apply UInt8.toNat_inj.1
    simp
    omega
  · cases h
theorem decFrom_dig (n : Nat) : Lib.decFrom 0 (Lib.decDigits n) = some n := by
  induction n using Nat.strongRecOn with
  | _ n ih =>
    rw [Lib.decDigits]
    split
    · next h => simp only [Lib.decFrom, digit_of h]; simp
    · next h =>
      rw [decFrom_app, ih (n / 10) (by omega)]
      simp only [Option.bind_some, Lib.decFrom, digit_of (show n % 10 < 10 by omega)]
      congr 1
      omega
theorem dig_ne (n : Nat) : Lib.decDigits n ≠ [] := by
  rw [Lib.decDigits]
  split <;> simp
theorem dig_zero {n : Nat} (h : (Lib.decDigits n).head? = some 48) : n = 0 := by
  induction n using Nat.strongRecOn with
  | _ n ih =>
    rw [Lib.decDigits] at h
    split at h
    · next hn =>
      simp at h
      have := congrArg UInt8.toNat h
      simp at this
      omega
    · next hn =>
      obtain ⟨x, l, hx⟩ : ∃ x l, Lib.decDigits (n / 10) = x :: l := by
        cases hc : Lib.decDigits (n / 10) with
        | nil => exact absurd hc (dig_ne _)
        | cons x l => exact ⟨x, l, rfl⟩
      have := ih (n / 10) (by omega) (by rw [hx] at h ⊢; simpa using h)
      omega
theorem dig_canon : ∀ (k : Nat) (t : By), t.length = k → t ≠ [] → (t.head? ≠ some 48 ∨ t.length = 1) → ∀ n, Lib.decFrom 0 t = some n → Lib.decDigits n = t := by
  intro k
  induction k with
  | zero => intro t h1 h2; exact absurd (List.eq_nil_of_length_eq_zero h1) h2
  | succ k ih =>
    intro t h1 h2 h3 n h4
    obtain ⟨a, b, rfl⟩ : ∃ a b, t = a ++ [b] := ⟨t.dropLast, t.getLast h2, (List.dropLast_concat_getLast h2).symm⟩
    rw [decFrom_app] at h4
    cases ha : Lib.decFrom 0 a with
    | none => rw [ha] at h4; cases h4
    | some m =>
      rw [ha] at h4
      simp only [Option.bind_some, Lib.decFrom] at h4
      cases hd : Lib.digitVal b with
      | none => rw [hd] at h4; cases h4
      | some d =>
        rw [hd] at h4
        simp only [Option.some.injEq] at h4
        obtain ⟨hd1, rfl⟩ := digit_val hd
        cases a with
        | nil =>
          simp [Lib.decFrom] at ha
          subst ha
          rw [Lib.decDigits, dif_pos (by omega)]
          simp at h4
          simp [← h4]
        | cons x r =>
          have h5 : (x :: r).head? ≠ some 48 := by
            rcases h3 with h3 | h3
            · simpa using h3
            · simp at h3
          have h6 := ih (x :: r) (by simpa using h1) (by simp) (.inl h5) m ha
          have hm : 1 ≤ m := by
            rcases Nat.eq_zero_or_pos m with rfl | h
            · rw [show Lib.decDigits 0 = [48] by rw [Lib.decDigits]; simp] at h6
              rw [← h6] at h5
              simp at h5
            · exact h
          rw [Lib.decDigits, dif_neg (by omega), show n / 10 = m by omega, show n % 10 = d by omega, h6]
/-- The number that a text of at most ten digits spells, just as it is written. -/
def numP (s : By) : Option Int :=
  match s with
  | 45 :: t => if t.length < 1 ∨ 10 < t.length ∨ t.head? = some 48 then none else (Lib.decFrom 0 t).map fun (n : Nat) => -(n : Int)
  | t => if t.length < 1 ∨ 10 < t.length ∨ (t.head? = some 48 ∧ 1 < t.length) then none else (Lib.decFrom 0 t).map fun (n : Nat) => (n : Int)
def Ten (n : Int) : Prop := -10000000000 < n ∧ n < 10000000000
theorem dig_len (m : Nat) : ∀ k, k < 10 ^ (m + 1) → (Lib.decDigits k).length ≤ m + 1 := by
  induction m with
  | zero => intro k h; rw [Lib.decDigits, dif_pos (by omega)]; simp
  | succ m ih =>
    intro k h
    rw [Lib.decDigits]
    split
    · simp
    · have := ih (k / 10) (by rw [Nat.pow_succ] at h; omega)
      simp; omega
theorem dig_head (n : Nat) : ∃ d r, Lib.decDigits n = UInt8.ofNat (48 + d) :: r ∧ d < 10 := by
  induction n using Nat.strongRecOn with
  | _ n ih =>
    rw [Lib.decDigits]
    split
    · next h => exact ⟨n, [], rfl, h⟩
    · next h =>
      obtain ⟨d, r, e, hd⟩ := ih (n / 10) (by omega)
      exact ⟨d, r ++ [UInt8.ofNat (48 + n % 10)], by rw [e]; rfl, hd⟩
theorem of_ne {d : Nat} (h : d < 10) : UInt8.ofNat (48 + d) ≠ 45 := fun e => by
  have := congrArg UInt8.toNat e
  simp at this
  omega
theorem numP_plain {t : By} (h : t.head? ≠ some 45) : numP t = if t.length < 1 ∨ 10 < t.length ∨ (t.head? = some 48 ∧ 1 < t.length) then none else (Lib.decFrom 0 t).map fun (n : Nat) => (n : Int) := by
  unfold numP
  split
  · simp at h
  · rfl
theorem numP_itoa {n : Int} (h : Ten n) : numP (Lib.itoa n) = some n := by
  obtain ⟨h1, h2⟩ := h
  unfold Lib.itoa
  split
  · next hn =>
    obtain ⟨k, rfl⟩ : ∃ k : Nat, n = -(k : Int) := ⟨n.natAbs, by omega⟩
    have e : (-(k : Int)).natAbs = k := by omega
    rw [e]
    unfold numP
    simp only
    have l1 := dig_len 9 k (by omega)
    have l2 := List.length_pos_iff.2 (dig_ne k)
    rw [if_neg, decFrom_dig]
    · rfl
    · rintro (h | h | h)
      · omega
      · omega
      · have := dig_zero h; omega
  · next hn =>
    obtain ⟨k, rfl⟩ : ∃ k : Nat, n = (k : Int) := ⟨n.toNat, by omega⟩
    have e : (k : Int).toNat = k := by omega
    rw [e]
    have l1 := dig_len 9 k (by omega)
    have l2 := List.length_pos_iff.2 (dig_ne k)
    rw [numP_plain, if_neg, decFrom_dig]
    · rfl
    · rintro (h | h | ⟨h, h'⟩)
      · omega
      · omega
      · have := dig_zero h
        subst this
        rw [show Lib.decDigits 0 = [48] by rw [Lib.decDigits]; simp] at h'
        simp at h'
    · obtain ⟨d, r, e, hd⟩ := dig_head k
      rw [e]
      simp only [List.head?_cons, ne_eq, Option.some.injEq]
      exact of_ne hd
theorem decFrom_lt : ∀ (t : By) (k n : Nat), Lib.decFrom k t = some n → n < (k + 1) * 10 ^ t.length
  | [], k, n, h => by simp [Lib.decFrom] at h; simp; omega
  | x :: t, k, n, h => by
    simp only [Lib.decFrom] at h
    cases hx : Lib.digitVal x with
    | none => rw [hx] at h; cases h
    | some d =>
      rw [hx] at h
      have h1 := decFrom_lt t _ n h
      have h2 := (digit_val hx).1
      have h3 : (k * 10 + d + 1) * 10 ^ t.length ≤ ((k + 1) * 10) * 10 ^ t.length := Nat.mul_le_mul_right _ (by omega)
      simp only [List.length_cons, Nat.pow_succ]
      rw [Nat.mul_assoc, Nat.mul_comm 10] at h3
      omega
theorem numP_some {s : By} {n : Int} (h : numP s = some n) : s = Lib.itoa n ∧ Ten n := by
  have hten : ∀ {t : By} {k : Nat}, ¬ 10 < t.length → Lib.decFrom 0 t = some k → k < 10000000000 := fun {t k} h1 h2 => by
    have := decFrom_lt t 0 k h2
    have h3 : 10 ^ t.length ≤ 10 ^ 10 := Nat.pow_le_pow_right (by omega) (by omega)
    omega
  unfold numP at h
  split at h
  · next t =>
    split at h
    · cases h
    · next hc =>
      rw [not_or, not_or] at hc
      obtain ⟨c1, c2, c3⟩ := hc
      cases hd : Lib.decFrom 0 t with
      | none => rw [hd] at h; cases h
      | some k =>
        rw [hd] at h
        obtain rfl : -(k : Int) = n := Option.some.inj h
        have e := dig_canon _ t rfl (fun e => by subst e; simp at c1) (.inl c3) k hd
        have hk : 0 < k := by
          rcases Nat.eq_zero_or_pos k with rfl | hk
          · rw [show Lib.decDigits 0 = [48] by rw [Lib.decDigits]; simp] at e
            rw [← e] at c3
            simp at c3
          · exact hk
        refine ⟨?_, by have := hten c2 hd; exact ⟨by omega, by omega⟩⟩
        unfold Lib.itoa
        rw [if_pos (by omega), show (-(k : Int)).natAbs = k by omega, e]
  · next t hs =>
    split at h
    · cases h
    · next hc =>
      rw [not_or, not_or] at hc
      obtain ⟨c1, c2, c3⟩ := hc
      cases hd : Lib.decFrom 0 s with
      | none => rw [hd] at h; cases h
      | some k =>
        rw [hd] at h
        obtain rfl : (k : Int) = n := Option.some.inj h
        have e := dig_canon _ s rfl (fun e => by subst e; simp at c1) (by
          by_cases h4 : s.head? = some 48
          · exact .inr (by have h6 : ¬ 1 < s.length := fun h5 => c3 ⟨h4, h5⟩
                           omega)
          · exact .inl h4) k hd
        refine ⟨?_, by have := hten c2 hd; exact ⟨by omega, by omega⟩⟩
        unfold Lib.itoa
        rw [if_neg (by omega), show (k : Int).toNat = k by omega, e]
end Go.Proofs.YtigldeccfpkdmaaGreatDoor
namespace Go.Proofs.YtigldeccfpkdmaaGreatDoor
open Go
/-- What stands ahead of the first c, and behind it. -/
def cutB (c : UInt8) : By → Option (By × By)
  | [] => none
  | x :: l => if x = c then some ([], l) else (cutB c l).map fun q => (x :: q.1, q.2)
theorem cutB_app {c : UInt8} : ∀ {a : By} (b : By), c ∉ a → cutB c (a ++ c :: b) = some (a, b)
  | [], b, _ => by simp [cutB]
  | x :: a, b, h => by
    have h1 : ¬ x = c := fun e => h (by simp [e])
    have h2 : c ∉ a := fun e => h (by simp [e])
    simp [cutB, h1, cutB_app b h2]
theorem cutB_none {c : UInt8} : ∀ {a : By}, c ∉ a → cutB c a = none
  | [], _ => rfl
  | x :: a, h => by
    have h1 : ¬ x = c := fun e => h (by simp [e])
    have h2 : c ∉ a := fun e => h (by simp [e])
    simp [cutB, h1, cutB_none h2]
theorem cutB_some {c : UInt8} : ∀ {l a b : By}, cutB c l = some (a, b) → l = a ++ c :: b ∧ c ∉ a
  | [], a, b, h => by cases h
  | x :: l, a, b, h => by
    unfold cutB at h
    split at h
    · next hx => obtain ⟨rfl, rfl⟩ := Prod.mk.inj (Option.some.inj h); simp [hx]
    · next hx =>
      cases hc : cutB c l with
      | none => rw [hc] at h; cases h
      | some q =>
        rw [hc] at h
        obtain ⟨rfl, rfl⟩ := Prod.mk.inj (Option.some.inj h)
        obtain ⟨h1, h2⟩ := cutB_some (a := q.1) (b := q.2) hc
        refine ⟨by rw [h1]; rfl, ?_⟩
        intro hm
        rcases List.mem_cons.1 hm with e | e
        · exact hx e.symm
        · exact h2 e
/-- Cut at the first k blanks. -/
def wdsN : Nat → By → List By
  | 0, l => [l]
  | k + 1, l => match cutB 32 l with
    | none => [l]
    | some q => q.1 :: wdsN k q.2
/-- Words with a blank between two. -/
def joW : List By → By
  | [] => []
  | [a] => a
  | a :: b :: l => a ++ 32 :: joW (b :: l)
theorem wdsN_ne (k : Nat) (l : By) : wdsN k l ≠ [] := by
  cases k with
  | zero => simp [wdsN]
  | succ k => unfold wdsN; split <;> simp
theorem joW_wds : ∀ (k : Nat) (l : By), joW (wdsN k l) = l
  | 0, l => rfl
  | k + 1, l => by
    unfold wdsN
    split
    · rfl
    · next q hq =>
      have h1 := joW_wds k q.2
      obtain ⟨h2, _⟩ := cutB_some (a := q.1) (b := q.2) hq
      cases hc : wdsN k q.2 with
      | nil => exact absurd hc (wdsN_ne _ _)
      | cons x r => rw [hc] at h1; rw [joW, h1, ← h2]
theorem wds_jo : ∀ (ws : List By) (x : By), (∀ w ∈ ws, (32 : UInt8) ∉ w) → wdsN ws.length (joW (ws ++ [x])) = ws ++ [x]
  | [], x, _ => rfl
  | w :: ws, x, h => by
    have ih := wds_jo ws x (fun w' hw => h w' (by simp [hw]))
    have h1 : joW (w :: ws ++ [x]) = w ++ 32 :: joW (ws ++ [x]) := by
      cases ws with
      | nil => rfl
      | cons a l => rfl
    rw [h1, List.length_cons, wdsN, cutB_app _ (h w (by simp))]
    simp [ih]
/-- A line begins with that word and a blank. -/
def ahP (wd l : By) : Bool := (wd ++ [32]).isPrefixOf l
theorem ahP_iff {wd l : By} : ahP wd l = true ↔ ∃ r, l = wd ++ 32 :: r := by
  unfold ahP
  rw [List.isPrefixOf_iff_prefix]
  constructor
  · rintro ⟨r, rfl⟩; exact ⟨r, by simp⟩
  · rintro ⟨r, rfl⟩; exact ⟨r, by simp⟩
theorem ahP_head {wd l : By} (h : ahP wd l = true) (hw : wd ≠ []) : l.head? = wd.head? := by
  obtain ⟨r, rfl⟩ := ahP_iff.1 h
  cases wd with
  | nil => exact absurd rfl hw
  | cons x t => rfl
theorem ahP_jo (wd x : By) (l : List By) : ahP wd (joW (wd :: x :: l)) = true := ahP_iff.2 ⟨_, rfl⟩
theorem wds_ah {wd l : By} (k : Nat) (h : ahP wd l = true) (hw : (32 : UInt8) ∉ wd) : ∃ r, l = wd ++ 32 :: r ∧ wdsN (k + 1) l = wd :: wdsN k r := by
  obtain ⟨r, rfl⟩ := ahP_iff.1 h
  exact ⟨r, rfl, by rw [wdsN, cutB_app _ hw]⟩
/-- Lines of a text, each with a byte 10 behind it. -/
def catL (ls : List By) : By := ls.flatMap (· ++ [10])
def lnsB : Nat → By → Option (List By)
  | 0, s => if s = [] then some [] else none
  | k + 1, s => if s = [] then some [] else match cutB 10 s with
    | none => none
    | some q => (lnsB k q.2).map (q.1 :: ·)
theorem lnsB_some : ∀ {k : Nat} {s : By} {ls : List By}, lnsB k s = some ls → s = catL ls ∧ ∀ l ∈ ls, (10 : UInt8) ∉ l
  | 0, s, ls, h => by
    unfold lnsB at h
    split at h
    · next hs => obtain rfl := Option.some.inj h; exact ⟨hs, fun l hl => by cases hl⟩
    · cases h
  | k + 1, s, ls, h => by
    unfold lnsB at h
    split at h
    · next hs => obtain rfl := Option.some.inj h; exact ⟨hs, fun l hl => by cases hl⟩
    · split at h
      · cases h
      · next q hq =>
        obtain ⟨h1, h2⟩ := cutB_some (a := q.1) (b := q.2) hq
        cases hc : lnsB k q.2 with
        | none => rw [hc] at h; cases h
        | some r =>
          rw [hc] at h
          obtain rfl := Option.some.inj h
          obtain ⟨h3, h4⟩ := lnsB_some hc
          refine ⟨?_, fun l hl => ?_⟩
          · rw [h1, h3]; simp [catL]
          · rcases List.mem_cons.1 hl with rfl | e
            · exact h2
            · exact h4 l e
theorem lnsB_cat : ∀ {k : Nat} {ls : List By}, (∀ l ∈ ls, (10 : UInt8) ∉ l) → (catL ls).length ≤ k → lnsB k (catL ls) = some ls
  | 0, [], _, _ => rfl
  | k + 1, [], _, _ => rfl
  | 0, l :: ls, _, h => by simp [catL] at h
  | k + 1, l :: ls, h, hk => by
    have e : catL (l :: ls) = l ++ 10 :: catL ls := by simp [catL]
    rw [e] at hk
    simp only [List.length_append, List.length_cons] at hk
    rw [e, lnsB, if_neg (by simp), cutB_app _ (h l (by simp))]
    simp [lnsB_cat (k := k) (ls := ls) (fun l' hl => h l' (by simp [hl])) (by omega)]
theorem catL_app (a b : List By) : catL (a ++ b) = catL a ++ catL b := by simp [catL]
theorem catL_cons (a : By) (b : List By) : catL (a :: b) = a ++ [10] ++ catL b := by simp [catL]
/-- All words. -/
def wdsA (l : By) : List By := wdsN l.length l
end Go.Proofs.YtigldeccfpkdmaaGreatDoor
