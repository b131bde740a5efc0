/- Merged and Flushed of the model. -/
import Derived.Test.YtnjefbkhibfgmaaGreatProg
import Derived.Test.YtnjefbkhibfgmaaGreatLDAskedx07
import Derived.Test.YtnjefbkhibfgmaaGreatLDAskedx08
import Derived.Laws.Rows
import Derived.Test.YtnjefbkhibfgmaaGreatLDAskedx01
import Derived.Test.YtnjefbkhibfgmaaGreatLDAskedx02
import Derived.Lib.SmallJoins
import Derived.Test.YtnjefbkhibfgmaaGreatLDAskedx00
import Derived.Test.YtnjefbkhibfgmaaGreatLDAskedx04
import Derived.Test.YtnjefbkhibfgmaaGreatLDAskedx05
namespace Go.Proofs.YtnjefbkhibfgmaaGreat
open Go.RowKit Go.BigFrame
def flushedO (refs late : List Ct) : Option (List Ct) := if refsOkB refs = true ∧ lateOkB late = true then (if refsOkB (sumC refs late) = true then some (sumC refs late) else none) else none
theorem late_bound {l : List Ct} (h : lateOkB l = true) : l.length ≤ 200 ∧ ∀ x ∈ l, -1000 ≤ x.n ∧ x.n ≤ 1000 := by
  simp only [lateOkB, Bool.and_eq_true, decide_eq_true_eq, List.all_eq_true] at h
  refine ⟨h.1, fun x hx => ?_⟩
  have := h.2 x hx
  simp only [lateB, Bool.and_eq_true, decide_eq_true_eq] at this
  exact ⟨this.1.1.2, this.1.2⟩
theorem str_addC {c : Ct} (hc : c.o.f.size ≤ 9223372036854775807) : ∀ {l : List Ct}, StrC l → StrC (addC l c)
  | [], _ => by intro x hx; simp [addC] at hx; subst hx; exact hc
  | y :: r, h => by
    have hy := h y (by simp)
    have hr : StrC r := fun x hx => h x (by simp [hx])
    unfold addC
    split
    · intro x hx
      rcases List.mem_cons.1 hx with rfl | hx
      · exact hy
      · exact str_addC hc hr x hx
    · split
      · split
        · intro x hx
          rcases List.mem_cons.1 hx with rfl | hx
          · exact hc
          · exact hr x hx
        · exact hr
      · intro x hx
        rcases List.mem_cons.1 hx with rfl | hx
        · exact hc
        · exact h x hx
theorem str_sumC : ∀ {more l : List Ct}, StrC l → StrC more → StrC (sumC l more)
  | [], l, h, _ => h
  | c :: r, l, h, hm => str_sumC (more := r) (l := addC l c) (str_addC (hm c (by simp)) h) (fun x hx => hm x (by simp [hx]))
theorem rgo_all : ∀ {l : List Ct} {q : Option Ct}, rgo q l = true → ∀ x ∈ l, refB x = true
  | [], _, _ => by simp
  | c :: r, q, h => by
    have h2 : refB c = true ∧ rgo (some c) r = true := by
      cases q
      · simpa only [rgo, Bool.and_eq_true] using h
      · simp only [rgo, Bool.and_eq_true] at h; exact ⟨h.1.1, h.2⟩
    intro x hx
    rcases List.mem_cons.1 hx with rfl | hx
    · exact h2.1
    · exact rgo_all h2.2 x hx
theorem refs_bound {l : List Ct} (h : refsOkB l = true) : l.length ≤ 200 ∧ ∀ x ∈ l, 1 ≤ x.n ∧ x.n ≤ 1000 := by
  simp only [refsOkB, Bool.and_eq_true, decide_eq_true_eq] at h
  refine ⟨h.1, fun x hx => ?_⟩
  have := rgo_all h.2 x hx
  simp only [refB, Bool.and_eq_true, decide_eq_true_eq] at this
  exact ⟨this.1.2, this.2⟩
def RetCts (B : Nat) (e : Ending) (w' : World) : Option (List Ct) → Prop
  | none => e = .returned (.tuple #[.slice none 0 0, .bool false])
  | some L => ∃ a n cap, e = .returned (.tuple #[.slice a n cap, .bool true]) ∧ ResAt Ct.cs 4 38 w' B a n cap L
set_option maxHeartbeats 2000000 in
set_option maxRecDepth 100000 in
theorem spec_Flushed (a : Option Addr) (n cap : Nat) (l : List Ct) (a' : Option Addr) (n' cap' : Nat) (more : List Ct) (w : World) (h : CtsAt w a n l) (ha1 : ∀ ad, a = some ad → ad.spot = none) (ha2 : a = none → cap = 0) (h' : CtsAt w a' n' more) (hstr : StrC l) (hstr' : StrC more) (hn : n ≤ 4194304) (hn' : n' ≤ 4194304) :
    Calls Tryz.prog 38 #[.slice a n cap, .slice a' n' cap'] w fun e w' => RetCts w.heap.size e w' (flushedO l more) ∧ Below w.heap.size w w' := by
  have hlen : Hid (l.length = n) := h.len
  have hlen' : Hid (more.length = n') := h'.len
  cases hok : refsOkB l
  · have hf : flushedO l more = none := by simp [flushedO, hok]
    rw [hf]
    go_enter Tryz.func38, Tryz.ntmps38
    go_wp2_with fail
    refine (spec_RefsOk a n cap l _ h hstr hn).mono ?_
    rintro e w1 ⟨rfl, hB1⟩
    rw [hok]
    go_wp2
    go_returns
    go_light
    exact ⟨rfl, hB1⟩
  · cases hok' : lateOkB more
    · have hf : flushedO l more = none := by simp [flushedO, hok']
      rw [hf]
      go_enter Tryz.func38, Tryz.ntmps38
      go_wp2_with fail
      refine (spec_RefsOk a n cap l _ h hstr hn).mono ?_
      rintro e w1 ⟨rfl, hB1⟩
      rw [hok]
      go_wp2_with fail
      refine (spec_LateOk a' n' cap' more _ (h'.below hB1) hstr' hn').mono ?_
      rintro e w2 ⟨rfl, hB2⟩
      rw [hok']
      have hB3 := chain hB1 hB2
      go_wp2
      go_returns
      go_light
      exact ⟨rfl, hB3⟩
    · obtain ⟨hl, hb⟩ := refs_bound hok
      obtain ⟨hl2, hb2⟩ := late_bound hok'
      have hl' : n ≤ 200 := by rw [← hlen.out]; exact hl
      have hl2' : n' ≤ 200 := by rw [← hlen'.out]; exact hl2
      have hss := str_sumC hstr hstr'
      cases hok3 : refsOkB (sumC l more)
      · have hf : flushedO l more = none := by simp [flushedO, hok, hok', hok3]
        rw [hf]
        clear hf
        go_enter Tryz.func38, Tryz.ntmps38
        go_wp2_with fail
        refine (spec_RefsOk a n cap l _ h hstr hn).mono ?_
        rintro e w1 ⟨rfl, hB1⟩
        rw [hok]
        go_wp2_with fail
        refine (spec_LateOk a' n' cap' more _ (h'.below hB1) hstr' hn').mono ?_
        rintro e w2 ⟨rfl, hB2⟩
        rw [hok']
        have hB3 := chain hB1 hB2
        go_wp2_with fail
        refine (spec_l3Sum a n cap l a' n' cap' more w2 (h.below hB3) ha1 ha2 (h'.below hB3) hl' hl2' (fun x hx => by have := hb x hx; omega) hb2).mono ?_
        rintro e w4 ⟨⟨a2, n2, cap2, rfl, hn2, R2⟩, hB4⟩
        have hB5 := chain hB3 hB4
        replace R2 := R2.mono hB3.size
        go_wp2_with fail
        refine (spec_RefsOk a2 n2 cap2 (sumC l more) _ R2.sl hss (by omega)).mono ?_
        rintro e w6 ⟨rfl, hB6⟩
        rw [hok3]
        have hB7 := chain hB5 hB6
        replace R2 := R2.below hB6
        go_wp2
        go_returns
        go_light
        exact ⟨rfl, hB7⟩
      · have hf : flushedO l more = some (sumC l more) := by simp [flushedO, hok, hok', hok3]
        rw [hf]
        clear hf
        go_enter Tryz.func38, Tryz.ntmps38
        go_wp2_with fail
        refine (spec_RefsOk a n cap l _ h hstr hn).mono ?_
        rintro e w1 ⟨rfl, hB1⟩
        rw [hok]
        go_wp2_with fail
        refine (spec_LateOk a' n' cap' more _ (h'.below hB1) hstr' hn').mono ?_
        rintro e w2 ⟨rfl, hB2⟩
        rw [hok']
        have hB3 := chain hB1 hB2
        go_wp2_with fail
        refine (spec_l3Sum a n cap l a' n' cap' more w2 (h.below hB3) ha1 ha2 (h'.below hB3) hl' hl2' (fun x hx => by have := hb x hx; omega) hb2).mono ?_
        rintro e w4 ⟨⟨a2, n2, cap2, rfl, hn2, R2⟩, hB4⟩
        have hB5 := chain hB3 hB4
        replace R2 := R2.mono hB3.size
        go_wp2_with fail
        refine (spec_RefsOk a2 n2 cap2 (sumC l more) _ R2.sl hss (by omega)).mono ?_
        rintro e w6 ⟨rfl, hB6⟩
        rw [hok3]
        have hB7 := chain hB5 hB6
        replace R2 := R2.below hB6
        go_wp2
        go_returns
        go_light
        exact ⟨⟨a2, n2, cap2, rfl, R2⟩, hB7⟩
end Go.Proofs.YtnjefbkhibfgmaaGreat
namespace Go.Proofs.YtnjefbkhibfgmaaGreat
open Go.RowKit Go.BigFrame
theorem Blk.other {w : World} {b : Nat} {c : Array Value} {t : TypeId} (h : Blk w b c t) (p : Addr) (v : Value) (hp : b ≠ p.block) : Blk (w.setCell p v) b c t := by
  unfold Blk at *; rw [Below.heap_setCell _ _ _ _ (by simpa using hp)]; exact h
def eqCt (p q : Ct) : Bool := owEq p.o q.o && p.n == q.n
end Go.Proofs.YtnjefbkhibfgmaaGreat
namespace Go.Proofs.YtnjefbkhibfgmaaGreat
open Go.RowKit Go.BigFrame
def eqCts : List Ct → List Ct → Bool
  | [], [] => true
  | p :: r, q :: s => eqCt p q && eqCts r s
  | _, _ => false
theorem eqCts_len {l : List Ct} : ∀ {m : List Ct}, l.length ≠ m.length → eqCts l m = false := by
  induction l with
  | nil => intro m h; cases m <;> simp [eqCts] at *
  | cons p r ih => intro m h; cases m <;> simp [eqCts] at *; exact fun _ => ih h
end Go.Proofs.YtnjefbkhibfgmaaGreat
namespace Go.Proofs.YtnjefbkhibfgmaaGreat
open Go.RowKit
structure It where
  nm : ByteArray
  ps : List Pt
structure Vo where
  id : Int
  nm : ByteArray
  fx : Bool
  its : List It
structure Po where
  size : Int
  next : Int
  ex : List Ex
  vs : List Vo
  rf : List Ct
  lt : List Ct
def Hd (B : Nat) (a : Option Addr) (n cap : Nat) : Prop := n ≤ cap ∧ cap ≤ 9223372036854775807 ∧ (0 < B → (a = none → cap = 0) ∧ ∀ ad, a = some ad → ad.spot = none)
theorem Hd.mono {B B' : Nat} {a : Option Addr} {n cap : Nat} (h : Hd B a n cap) (hb : B' ≤ B) : Hd B' a n cap := ⟨h.1, h.2.1, fun h0 => h.2.2 (by omega)⟩
def Sf (B : Nat) (w : World) (a : Option Addr) : Prop := 0 < B → ∀ ad, a = some ad → B ≤ ad.block ∧ ∃ c t, Blk w ad.block c t
theorem Sf.below {B : Nat} {w w' : World} {a : Option Addr} (h : Sf B w a) (hb : Below w.heap.size w w') : Sf B w' a := fun h0 ad e => by
  obtain ⟨h1, c, t, h2⟩ := h h0 ad e
  exact ⟨h1, c, t, h2.below hb⟩
theorem Sf.mono {B B' : Nat} {w : World} {a : Option Addr} (h : Sf B w a) (hb : B' ≤ B) : Sf B' w a := fun h0 ad e => by
  obtain ⟨h1, r⟩ := h (by omega) ad e
  exact ⟨by omega, r⟩
theorem Sf.grown {B r : Nat} {w w' : World} {a : Option Addr} (h : Sf B w a) (hg : w.grownBy w' (some r)) (hr : r < B) : Sf B w' a := fun h0 ad e => by
  obtain ⟨h1, c, t, h2⟩ := h h0 ad e
  exact ⟨h1, c, t, h2.grown hg (by simp only [ne_eq]; omega)⟩
structure ItsAt (B : Nat) (w : World) (a : Option Addr) (n : Nat) (l : List It) : Prop where
  len : l.length = n
  cell : ∀ i x, l[i]? = some x → ∃ b o pa pn pc, a = some ⟨b, o, none⟩ ∧ w.cell? ⟨b, o + i * 2, none⟩ = some (.string x.nm) ∧ w.cell? ⟨b, o + i * 2 + 1, none⟩ = some (.slice pa pn pc) ∧ PtsAt w pa pn x.ps ∧ Hd B pa pn pc ∧ B ≤ b ∧ (∀ ad, pa = some ad → B ≤ ad.block) ∧ Sf B w pa ∧ Sf B w a
structure VsAt (B : Nat) (w : World) (a : Option Addr) (n : Nat) (l : List Vo) : Prop where
  len : l.length = n
  cell : ∀ i x, l[i]? = some x → ∃ b o pa pn pc, a = some ⟨b, o, none⟩ ∧ w.cell? ⟨b, o + i * 4, none⟩ = some (.int .i64 x.id) ∧ w.cell? ⟨b, o + i * 4 + 1, none⟩ = some (.string x.nm) ∧ w.cell? ⟨b, o + i * 4 + 2, none⟩ = some (.bool x.fx) ∧ w.cell? ⟨b, o + i * 4 + 3, none⟩ = some (.slice pa pn pc) ∧ ItsAt B w pa pn x.its ∧ Hd B pa pn pc ∧ B ≤ b ∧ Sf B w a
theorem ItsAt.below {B : Nat} {w w' : World} {a : Option Addr} {n : Nat} {l : List It} (h : ItsAt B w a n l) (hb : Below w.heap.size w w') : ItsAt B w' a n l :=
  ⟨h.len, fun i x hx => by
    obtain ⟨b, o, pa, pn, pc, ha, c0, c1, hp, hh, hB, hA, s1, s2⟩ := h.cell i x hx
    exact ⟨b, o, pa, pn, pc, ha, bcell hb c0, bcell hb c1, hp.below hb, hh, hB, hA, s1.below hb, s2.below hb⟩⟩
theorem VsAt.below {B : Nat} {w w' : World} {a : Option Addr} {n : Nat} {l : List Vo} (h : VsAt B w a n l) (hb : Below w.heap.size w w') : VsAt B w' a n l :=
  ⟨h.len, fun i x hx => by
    obtain ⟨b, o, pa, pn, pc, ha, c0, c1, c2, c3, hp, hh, hB, s2⟩ := h.cell i x hx
    exact ⟨b, o, pa, pn, pc, ha, bcell hb c0, bcell hb c1, bcell hb c2, bcell hb c3, hp.below hb, hh, hB, s2.below hb⟩⟩
theorem ItsAt.mono {B B' : Nat} {w : World} {a : Option Addr} {n : Nat} {l : List It} (h : ItsAt B w a n l) (hb : B' ≤ B) : ItsAt B' w a n l :=
  ⟨h.len, fun i x hx => by
    obtain ⟨b, o, pa, pn, pc, ha, c0, c1, hp, hh, hB, hA, s1, s2⟩ := h.cell i x hx
    exact ⟨b, o, pa, pn, pc, ha, c0, c1, hp, hh.mono hb, by omega, fun ad had => by have := hA ad had; omega, s1.mono hb, s2.mono hb⟩⟩
theorem VsAt.mono {B B' : Nat} {w : World} {a : Option Addr} {n : Nat} {l : List Vo} (h : VsAt B w a n l) (hb : B' ≤ B) : VsAt B' w a n l :=
  ⟨h.len, fun i x hx => by
    obtain ⟨b, o, pa, pn, pc, ha, c0, c1, c2, c3, hp, hh, hB, s2⟩ := h.cell i x hx
    exact ⟨b, o, pa, pn, pc, ha, c0, c1, c2, c3, hp.mono hb, hh.mono hb, by omega, s2.mono hb⟩⟩
theorem ItsAt.grown {B r : Nat} {w w' : World} {a : Option Addr} {n : Nat} {l : List It} (h : ItsAt B w a n l) (hg : w.grownBy w' (some r)) (hr : r < B) : ItsAt B w' a n l :=
  ⟨h.len, fun i x hx => by
    obtain ⟨b, o, pa, pn, pc, ha, c0, c1, hp, hh, hB, hA, s1, s2⟩ := h.cell i x hx
    exact ⟨b, o, pa, pn, pc, ha, hg.cell c0 (by simp; omega), hg.cell c1 (by simp; omega), hp.grown hg (fun ad had => by have := hA ad had; omega), hh, hB, hA, s1.grown hg hr, s2.grown hg hr⟩⟩
theorem its_at {B : Nat} {w : World} {a : Option Addr} {n : Nat} {l : List It} (h : ItsAt B w a n l) {k : Nat} (hk : k < n) :
    ∃ b o x pa pn pc, a = some ⟨b, o, none⟩ ∧ l[k]? = some x ∧ w.cell? ⟨b, o + k * 2, none⟩ = some (.string x.nm) ∧ w.cell? ⟨b, o + k * 2 + 1, none⟩ = some (.slice pa pn pc) ∧ PtsAt w pa pn x.ps ∧ Hd B pa pn pc ∧ B ≤ b ∧ ∀ ad, pa = some ad → B ≤ ad.block := by
  have hx : l[k]? = some (l[k]'(by rw [h.len]; exact hk)) := by simp [h.len, hk]
  obtain ⟨b, o, pa, pn, pc, ha, c0, c1, hp, hh, hB, hA, _⟩ := h.cell k _ hx
  exact ⟨b, o, _, pa, pn, pc, ha, hx, c0, c1, hp, hh, hB, hA⟩
theorem vs_at {B : Nat} {w : World} {a : Option Addr} {n : Nat} {l : List Vo} (h : VsAt B w a n l) {k : Nat} (hk : k < n) :
    ∃ b o x pa pn pc, a = some ⟨b, o, none⟩ ∧ l[k]? = some x ∧ w.cell? ⟨b, o + k * 4, none⟩ = some (.int .i64 x.id) ∧ w.cell? ⟨b, o + k * 4 + 1, none⟩ = some (.string x.nm) ∧ w.cell? ⟨b, o + k * 4 + 2, none⟩ = some (.bool x.fx) ∧ w.cell? ⟨b, o + k * 4 + 3, none⟩ = some (.slice pa pn pc) ∧ ItsAt B w pa pn x.its ∧ Hd B pa pn pc ∧ B ≤ b := by
  have hx : l[k]? = some (l[k]'(by rw [h.len]; exact hk)) := by simp [h.len, hk]
  obtain ⟨b, o, pa, pn, pc, ha, c0, c1, c2, c3, hp, hh, hB, _⟩ := h.cell k _ hx
  exact ⟨b, o, _, pa, pn, pc, ha, hx, c0, c1, c2, c3, hp, hh, hB⟩
def StrI (l : List It) : Prop := ∀ x ∈ l, x.nm.size ≤ 9223372036854775807 ∧ x.ps.length ≤ 4194304
def StrV (l : List Vo) : Prop := ∀ v ∈ l, v.nm.size ≤ 9223372036854775807 ∧ v.its.length ≤ 4194304 ∧ StrI v.its
def igo (e : List Ex) : Option It → List It → Bool
  | _, [] => true
  | q, x :: r => nameB x.nm && (match q with | none => true | some p => bl p.nm.toList x.nm.toList) && (contentO x.ps e).isSome && igo e (some x) r
def itemsB (l : List It) (e : List Ex) : Bool := decide (l.length ≤ 5) && igo e none l
def vgo (next : Int) (e : List Ex) : Int → List Vo → Bool
  | _, [] => true
  | last, v :: r => decide (last < v.id) && decide (v.id < next) && nameB v.nm && itemsB v.its e && vgo next e v.id r
def volsB (next : Int) (l : List Vo) (e : List Ex) : Bool := decide (l.length ≤ 6) && vgo next e 0 l
def partCs (vol : Int) (f : ByteArray) (ps : List Pt) : List Ct := (ps.filter (fun p => !(p.a == 0))).map (fun p => ⟨⟨p.a, vol, f⟩, 1⟩)
def volCs (v : Vo) : List Ct := v.its.flatMap (fun x => partCs v.id x.nm x.ps)
def allCs (l : List Vo) : List Ct := l.flatMap volCs
def walkL (l : List Vo) : List Ct := sumC [] (allCs l)
def namesB (l : List Vo) : Bool := decide ((l.map (·.nm.toList)).Nodup)
def addrB (e : List Ex) (l : List Ct) : Bool := e.all (fun x => l.any (fun c => c.o.a == x.a)) && l.all (fun c => e.any (fun x => x.a == c.o.a))
def poolB (p : Po) : Bool := spaceOkB p.size p.ex && decide (1 ≤ p.next) && decide (p.next ≤ 1000000000) && volsB p.next p.vs p.ex && namesB p.vs && (match flushedO p.rf p.lt with | none => false | some s => eqCts s (walkL p.vs)) && addrB p.ex (p.rf ++ p.lt)
end Go.Proofs.YtnjefbkhibfgmaaGreat
namespace Go.Proofs.YtnjefbkhibfgmaaGreat
open Go.RowKit Go.BigFrame
theorem gset (w : World) (b i : Nat) (v : Value) : w.grownBy (w.setCell ⟨b, i, none⟩ v) (some b) := grown_set (World.grownBy.refl _ _) i v
def FillI (B : Nat) (w : World) (c : Array Value) (l : List It) (k : Nat) : Prop :=
  ∀ i x, i < k → l[i]? = some x → ∃ pa pn pc, c[i * 2]? = some (.string x.nm) ∧ c[i * 2 + 1]? = some (.slice pa pn pc) ∧ PtsAt w pa pn x.ps ∧ Hd B pa pn pc ∧ (∀ ad, pa = some ad → B ≤ ad.block) ∧ Sf B w pa
theorem FillI.below {B : Nat} {w w' : World} {c : Array Value} {l : List It} {k : Nat} (h : FillI B w c l k) (hb : Below w.heap.size w w') : FillI B w' c l k := fun i x hi hx => by
  obtain ⟨pa, pn, pc, c0, c1, hp, hh, hA, sf⟩ := h i x hi hx
  exact ⟨pa, pn, pc, c0, c1, hp.below hb, hh, hA, sf.below hb⟩
theorem FillI.grown {B r : Nat} {w w' : World} {c : Array Value} {l : List It} {k : Nat} (h : FillI B w c l k) (hg : w.grownBy w' (some r)) (hr : r < B) : FillI B w' c l k := fun i x hi hx => by
  obtain ⟨pa, pn, pc, c0, c1, hp, hh, hA, sf⟩ := h i x hi hx
  exact ⟨pa, pn, pc, c0, c1, hp.grown hg (fun ad had => by have := hA ad had; omega), hh, hA, sf.grown hg hr⟩
end Go.Proofs.YtnjefbkhibfgmaaGreat
namespace Go.Proofs.YtnjefbkhibfgmaaGreat
open Go.RowKit Go.BigFrame
def FillV (B : Nat) (w : World) (c : Array Value) (l : List Vo) (k : Nat) : Prop :=
  ∀ i x, i < k → l[i]? = some x → ∃ pa pn pc, c[i * 4]? = some (.int .i64 x.id) ∧ c[i * 4 + 1]? = some (.string x.nm) ∧ c[i * 4 + 2]? = some (.bool x.fx) ∧ c[i * 4 + 3]? = some (.slice pa pn pc) ∧ ItsAt B w pa pn x.its ∧ Hd B pa pn pc
theorem FillV.below {B : Nat} {w w' : World} {c : Array Value} {l : List Vo} {k : Nat} (h : FillV B w c l k) (hb : Below w.heap.size w w') : FillV B w' c l k := fun i x hi hx => by
  obtain ⟨pa, pn, pc, c0, c1, c2, c3, hp, r⟩ := h i x hi hx
  exact ⟨pa, pn, pc, c0, c1, c2, c3, hp.below hb, r⟩
theorem FillV.grown {B r : Nat} {w w' : World} {c : Array Value} {l : List Vo} {k : Nat} (h : FillV B w c l k) (hg : w.grownBy w' (some r)) (hr : r < B) : FillV B w' c l k := fun i x hi hx => by
  obtain ⟨pa, pn, pc, c0, c1, c2, c3, hp, hh⟩ := h i x hi hx
  exact ⟨pa, pn, pc, c0, c1, c2, c3, hp.grown hg hr, hh⟩
end Go.Proofs.YtnjefbkhibfgmaaGreat
namespace Go.Proofs.YtnjefbkhibfgmaaGreat
open Go.RowKit Go.BigFrame
theorem VsAt.grown {B r : Nat} {w w' : World} {a : Option Addr} {n : Nat} {l : List Vo} (h : VsAt B w a n l) (hg : w.grownBy w' (some r)) (hr : r < B) : VsAt B w' a n l :=
  ⟨h.len, fun i x hx => by
    obtain ⟨b, o, pa, pn, pc, ha, c0, c1, c2, c3, hp, hh, hB, s2⟩ := h.cell i x hx
    exact ⟨b, o, pa, pn, pc, ha, hg.cell c0 (by simp; omega), hg.cell c1 (by simp; omega), hg.cell c2 (by simp; omega), hg.cell c3 (by simp; omega), hp.grown hg hr, hh, hB, s2.grown hg hr⟩⟩
def PoolAt (B : Nat) (w : World) (v : Value) (p : Po) : Prop :=
  ∃ ea en ec va vn vc ra rn rc la ln lc, v = .agg #[.int .i64 p.size, .int .i64 p.next, .slice ea en ec, .slice va vn vc, .slice ra rn rc, .slice la ln lc] ∧
    (ExsAt w ea en p.ex ∧ Hd B ea en ec ∧ Sf B w ea) ∧ (VsAt B w va vn p.vs ∧ Hd B va vn vc) ∧ (CtsAt w ra rn p.rf ∧ Hd B ra rn rc ∧ Sf B w ra) ∧ (CtsAt w la ln p.lt ∧ Hd B la ln lc ∧ Sf B w la)
theorem PoolAt.below {B : Nat} {w w' : World} {v : Value} {p : Po} (h : PoolAt B w v p) (hb : Below w.heap.size w w') : PoolAt B w' v p := by
  obtain ⟨ea, en, ec, va, vn, vc, ra, rn, rc, la, ln, lc, hv, ⟨h1, k1⟩, ⟨h2, k2⟩, ⟨h3, k3⟩, h4, k4⟩ := h
  exact ⟨ea, en, ec, va, vn, vc, ra, rn, rc, la, ln, lc, hv, ⟨h1.below hb, k1.1, k1.2.below hb⟩, ⟨h2.below hb, k2⟩, ⟨h3.below hb, k3.1, k3.2.below hb⟩, h4.below hb, k4.1, k4.2.below hb⟩
theorem PoolAt.mono {B B' : Nat} {w : World} {v : Value} {p : Po} (h : PoolAt B w v p) (hb : B' ≤ B) : PoolAt B' w v p := by
  obtain ⟨ea, en, ec, va, vn, vc, ra, rn, rc, la, ln, lc, hv, ⟨h1, k1⟩, ⟨h2, k2⟩, ⟨h3, k3⟩, h4, k4⟩ := h
  exact ⟨ea, en, ec, va, vn, vc, ra, rn, rc, la, ln, lc, hv, ⟨h1, k1.1.mono hb, k1.2.mono hb⟩, ⟨h2.mono hb, k2.mono hb⟩, ⟨h3, k3.1.mono hb, k3.2.mono hb⟩, h4, k4.1.mono hb, k4.2.mono hb⟩
end Go.Proofs.YtnjefbkhibfgmaaGreat
namespace Go.Proofs.YtnjefbkhibfgmaaGreat
open Go.RowKit Go.BigFrame
structure IR where
  nm : ByteArray
  pa : Option Addr
  pn : Nat
  pc : Nat
structure VR where
  id : Int
  nm : ByteArray
  fx : Bool
  pa : Option Addr
  pn : Nat
  pc : Nat
def irs (r : IR) : List Value := [.string r.nm, .slice r.pa r.pn r.pc]
def vrs (r : VR) : List Value := [.int .i64 r.id, .string r.nm, .bool r.fx, .slice r.pa r.pn r.pc]
theorem irs_len (r : IR) : (irs r).length = 2 := rfl
theorem vrs_len (r : VR) : (vrs r).length = 4 := rfl
theorem irs_one (l : List IR) : ∀ u ∈ l.flatMap irs, u.oneCell' = true := by
  intro u hu
  obtain ⟨p, _, hp⟩ := List.mem_flatMap.1 hu
  simp [irs] at hp
  rcases hp with rfl | rfl <;> rfl
theorem vrs_one (l : List VR) : ∀ u ∈ l.flatMap vrs, u.oneCell' = true := by
  intro u hu
  obtain ⟨p, _, hp⟩ := List.mem_flatMap.1 hu
  simp [vrs] at hp
  rcases hp with rfl | rfl | rfl | rfl <;> rfl
theorem Sf.grownO {B : Nat} {w w' : World} {a : Option Addr} {row : Option Nat} (h : Sf B w a) (hg : w.grownBy w' row) (hr : ∀ ad, a = some ad → some ad.block ≠ row) : Sf B w' a := fun h0 ad e => by
  obtain ⟨h1, c, t, h2⟩ := h h0 ad e
  exact ⟨h1, c, t, (hg.block _ h2.lt (hr ad e)).trans h2⟩
structure RowI (B : Nat) (w : World) (r : IR) (y : It) : Prop where
  nm : r.nm = y.nm
  ps : PtsAt w r.pa r.pn y.ps
  hd : Hd B r.pa r.pn r.pc
  ge : ∀ ad, r.pa = some ad → B ≤ ad.block
  lt : ∀ ad, r.pa = some ad → ad.block < w.heap.size
  sf : Sf B w r.pa
theorem RowI.below {B : Nat} {w w' : World} {r : IR} {y : It} (h : RowI B w r y) (hb : Below w.heap.size w w') : RowI B w' r y :=
  ⟨h.nm, h.ps.below hb, h.hd, h.ge, fun ad e => Nat.lt_of_lt_of_le (h.lt ad e) hb.size, h.sf.below hb⟩
theorem RowI.grownO {B : Nat} {w w' : World} {r : IR} {y : It} {row : Option Nat} (h : RowI B w r y) (hg : w.grownBy w' row) (hr : ∀ ad, r.pa = some ad → some ad.block ≠ row) : RowI B w' r y :=
  ⟨h.nm, h.ps.grownO hg hr, h.hd, h.ge, fun ad e => Nat.lt_of_lt_of_le (h.lt ad e) hg.size, h.sf.grownO hg hr⟩
structure RowsI (B : Nat) (w : World) (rows : List IR) (l : List It) : Prop where
  len : rows.length = l.length
  at' : ∀ (i : Nat) r y, rows[i]? = some r → l[i]? = some y → RowI B w r y
theorem RowsI.nil (B : Nat) (w : World) : RowsI B w [] [] := ⟨rfl, fun i r y h => by simp at h⟩
theorem RowsI.below {B : Nat} {w w' : World} {rows : List IR} {l : List It} (h : RowsI B w rows l) (hb : Below w.heap.size w w') : RowsI B w' rows l := ⟨h.len, fun i r y h1 h2 => (h.at' i r y h1 h2).below hb⟩
theorem RowsI.grownO {B : Nat} {w w' : World} {rows : List IR} {l : List It} {row : Option Nat} (h : RowsI B w rows l) (hg : w.grownBy w' row) (hr : ∀ r ∈ rows, ∀ ad, r.pa = some ad → some ad.block ≠ row) : RowsI B w' rows l := ⟨h.len, fun i r y h1 h2 => (h.at' i r y h1 h2).grownO hg (hr r (List.mem_of_getElem? h1))⟩
theorem RowsI.snoc {B : Nat} {w : World} {rows : List IR} {l : List It} {r : IR} {y : It} (h : RowsI B w rows l) (h' : RowI B w r y) : RowsI B w (rows ++ [r]) (l ++ [y]) := by
  refine ⟨by simp [h.len], fun i q z h1 h2 => ?_⟩
  by_cases hi : i < rows.length
  · rw [List.getElem?_append_left hi] at h1
    rw [List.getElem?_append_left (by rw [← h.len]; exact hi)] at h2
    exact h.at' i q z h1 h2
  · rw [List.getElem?_append_right (by omega)] at h1
    rw [List.getElem?_append_right (by rw [← h.len]; omega)] at h2
    have h0 : i - rows.length = 0 := by have := (List.getElem?_eq_some_iff.1 h1).1; simp at this; omega
    rw [h0] at h1
    rw [← h.len, h0] at h2
    simp at h1 h2
    subst h1 h2
    exact h'
theorem RowsI.its {B n cap : Nat} {w : World} {a : Option Addr} {rows : List IR} {l : List It} {t : TypeId} (R : ResAt irs 2 t w B a n cap rows) (h : RowsI B w rows l) : ItsAt B w a n l := by
  refine ⟨by rw [← h.len]; exact R.sl.len, fun i y hy => ?_⟩
  have hi : i < rows.length := by rw [h.len]; exact (List.getElem?_eq_some_iff.1 hy).1
  have hr : rows[i]? = some rows[i] := by simp [hi]
  obtain ⟨b, o, ha, hc⟩ := R.sl.cell i _ hr
  have hR := h.at' i _ y hr hy
  have hsf : Sf B w a := fun _ ad e => by
    rcases R.own with ⟨h0, _⟩ | ⟨b', h1, h2, _, _, c, h3, _⟩
    · rw [h0] at e; cases e
    · rw [h1] at e; cases e; exact ⟨h2, c, t, h3⟩
  have hBb : B ≤ b := by
    rcases R.own with ⟨h0, _⟩ | ⟨b', h1, h2, _⟩
    · rw [h0] at ha; cases ha
    · rw [h1] at ha; cases ha; exact h2
  refine ⟨b, o, rows[i].pa, rows[i].pn, rows[i].pc, ha, ?_, hc 1 _ rfl, hR.ps, hR.hd, hBb, hR.ge, hR.sf, hsf⟩
  have := hc 0 _ rfl
  rw [← hR.nm]
  exact this
structure RowV (B : Nat) (w : World) (r : VR) (y : Vo) : Prop where
  id : r.id = y.id
  nm : r.nm = y.nm
  fx : r.fx = y.fx
  its : ItsAt B w r.pa r.pn y.its
  hd : Hd B r.pa r.pn r.pc
theorem RowV.below {B : Nat} {w w' : World} {r : VR} {y : Vo} (h : RowV B w r y) (hb : Below w.heap.size w w') : RowV B w' r y := ⟨h.id, h.nm, h.fx, h.its.below hb, h.hd⟩
structure RowsV (B : Nat) (w : World) (rows : List VR) (l : List Vo) : Prop where
  len : rows.length = l.length
  at' : ∀ (i : Nat) r y, rows[i]? = some r → l[i]? = some y → RowV B w r y
theorem RowsV.nil (B : Nat) (w : World) : RowsV B w [] [] := ⟨rfl, fun i r y h => by simp at h⟩
theorem RowsV.below {B : Nat} {w w' : World} {rows : List VR} {l : List Vo} (h : RowsV B w rows l) (hb : Below w.heap.size w w') : RowsV B w' rows l := ⟨h.len, fun i r y h1 h2 => (h.at' i r y h1 h2).below hb⟩
theorem RowsV.snoc {B : Nat} {w : World} {rows : List VR} {l : List Vo} {r : VR} {y : Vo} (h : RowsV B w rows l) (h' : RowV B w r y) : RowsV B w (rows ++ [r]) (l ++ [y]) := by
  refine ⟨by simp [h.len], fun i q z h1 h2 => ?_⟩
  by_cases hi : i < rows.length
  · rw [List.getElem?_append_left hi] at h1
    rw [List.getElem?_append_left (by rw [← h.len]; exact hi)] at h2
    exact h.at' i q z h1 h2
  · rw [List.getElem?_append_right (by omega)] at h1
    rw [List.getElem?_append_right (by rw [← h.len]; omega)] at h2
    have h0 : i - rows.length = 0 := by have := (List.getElem?_eq_some_iff.1 h1).1; simp at this; omega
    rw [h0] at h1
    rw [← h.len, h0] at h2
    simp at h1 h2
    subst h1 h2
    exact h'
theorem RowsV.vs {B n cap : Nat} {w : World} {a : Option Addr} {rows : List VR} {l : List Vo} {t : TypeId} (R : ResAt vrs 4 t w B a n cap rows) (h : RowsV B w rows l) : VsAt B w a n l := by
  refine ⟨by rw [← h.len]; exact R.sl.len, fun i y hy => ?_⟩
  have hi : i < rows.length := by rw [h.len]; exact (List.getElem?_eq_some_iff.1 hy).1
  have hr : rows[i]? = some rows[i] := by simp [hi]
  obtain ⟨b, o, ha, hc⟩ := R.sl.cell i _ hr
  have hR := h.at' i _ y hr hy
  have hsf : Sf B w a := fun _ ad e => by
    rcases R.own with ⟨h0, _⟩ | ⟨b', h1, h2, _, _, c, h3, _⟩
    · rw [h0] at e; cases e
    · rw [h1] at e; cases e; exact ⟨h2, c, t, h3⟩
  have hBb : B ≤ b := by
    rcases R.own with ⟨h0, _⟩ | ⟨b', h1, h2, _⟩
    · rw [h0] at ha; cases ha
    · rw [h1] at ha; cases ha; exact h2
  have c0 := hc 0 _ rfl
  have c1 := hc 1 _ rfl
  have c2 := hc 2 _ rfl
  have c3 := hc 3 _ rfl
  refine ⟨b, o, rows[i].pa, rows[i].pn, rows[i].pc, ha, ?_, ?_, ?_, c3, hR.its, hR.hd, hBb, hsf⟩
  · rw [← hR.id]; exact c0
  · rw [← hR.nm]; exact c1
  · rw [← hR.fx]; exact c2
end Go.Proofs.YtnjefbkhibfgmaaGreat
