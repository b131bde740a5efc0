/- The laws' sizes, copies and comparisons of lists of counts. Volumes and items as plain data, and how they lie in memory. -/
import Derived.Test.YtigldeccfpkdmaaGreatDoorProg
import Derived.Test.YtigldeccfpkdmaaGreatDoorCSuperTextx08
import Derived.Test.YtigldeccfpkdmaaGreatDoorCSuperTextx02
import Derived.Test.YtigldeccfpkdmaaGreatDoorCSuperTextx07
import Derived.Test.YtigldeccfpkdmaaGreatDoorCSuperTextx03
namespace Go.Proofs.YtigldeccfpkdmaaGreatDoor
open Go.RowKit Go.BigFrame
def szC (left : Int) (p : Ct) : Int := if left - p.o.f.size < 0 then -1 else left - p.o.f.size
theorem laws_szCounted (p : Ct) (left : Int) (w : World) (h0 : 0 ≤ left) (h1 : left ≤ 1048576) (hd : p.o.f.size ≤ 9223372036854775807) :
    Calls Tryz.prog 114 #[.agg #[.int .i64 p.o.a, .int .i64 p.o.v, .string p.o.f, .int .i64 p.n], .int .i64 left] w fun e w' => e = .returned (.int .i64 (szC left p)) ∧ Below w.heap.size w w' := by
  by_cases h : left - (p.o.f.size : Int) < 0
  · have hf : Hid (szC left p = -1) := by show _ = _; simp [szC]; omega
    generalize szC left p = R at *
    obtain ⟨⟨a, v, d⟩, n⟩ := p
    simp only at *
    go_enter Tryz.func114, Tryz.ntmps114
    go_wp2_with fail
    refine (laws_szOwner ⟨a, v, d⟩ left _ h0 h1 hd).mono ?_
    rintro e w1 ⟨rfl, hB1⟩
    have hB2 : Below w.heap.size w w1 := chain (by go_grown) hB1
    clear hB1
    simp only [if_pos h]
    go_wp2
    go_returns
    go_light
    exact ⟨ret_int hf.out.symm, hB2⟩
  · have hf : Hid (szC left p = left - p.o.f.size) := by show _ = _; simp [szC]; omega
    generalize szC left p = R at *
    obtain ⟨⟨a, v, d⟩, n⟩ := p
    simp only at *
    go_enter Tryz.func114, Tryz.ntmps114
    go_wp2_with fail
    refine (laws_szOwner ⟨a, v, d⟩ left _ h0 h1 hd).mono ?_
    rintro e w1 ⟨rfl, hB1⟩
    have hB2 : Below w.heap.size w w1 := chain (by go_grown) hB1
    clear hB1
    simp only [if_neg (Int.not_lt.2 h)]
    go_wp2
    go_returns
    go_light
    exact ⟨ret_int hf.out.symm, hB2⟩
/-- A list of counts that is within the budget. -/
def SmallC (n : Nat) (l : List Ct) : Prop := n ≤ 1048576 ∧ ∀ e ∈ l, e.o.f.size ≤ 1048576
theorem SmallC.strs {n : Nat} {l : List Ct} (h : SmallC n l) : StrC l := fun e he => by have := h.2 e he; omega
set_option maxHeartbeats 1000000 in
theorem laws_szCountedS (a : Option Addr) (n cap : Nat) (l : List Ct) (L : Int) (w : World) (h : CtsAt w a n l) (hstr : StrC l) (hn : n ≤ 9223372036854775807) (hL0 : 0 ≤ L) (hL : L ≤ 1048576) :
    Calls Tryz.prog 53 #[.slice a n cap, .int .i64 L] w fun e w' => (∃ r : Int, e = .returned (.int .i64 r) ∧ (r = -1 ∨ (0 ≤ r ∧ r ≤ 1048576 ∧ SmallC n l))) ∧ Below w.heap.size w w' := by
  have hlen : Hid (l.length = n) := h.len
  by_cases hb : L - (n : Int) < 0
  · go_enter Tryz.func53, Tryz.ntmps53
    go_wp2
    go_returns
    go_light
    exact ⟨⟨_, rfl, .inl rfl⟩, Below.refl _ _⟩
  · go_enter Tryz.func53, Tryz.ntmps53
    go_wp2_with fail
    go_loopw [1, 5] (fun lf ix wr => ∃ (k : Nat) (r : Int), k ≤ n ∧ ix = .int .i64 k ∧ lf = .int .i64 r ∧ 0 ≤ r ∧ r ≤ 1048576 ∧ Hid (∀ i e, i < k → l[i]? = some e → e.o.f.size ≤ 1048576) ∧ Below w.heap.size w wr) (fun _ ix _ => n - (intOf ix).toNat)
    case atStart => exact ⟨0, _, Nat.zero_le _, rfl, rfl, by omega, by omega, fun i e hi => by omega, Below.refl _ _⟩
    case round =>
      obtain ⟨k, r, hk, rfl, rfl, hr0, hr1, hI, hB⟩ := hrel
      by_cases hlt : k < n
      · obtain ⟨b, o, p, rfl, hp, c0, c1, c2, c3⟩ := cts_at (h.below hB) hlt
        have hp' : Hid (l[k]? = some p) := hp
        have hsz := hstr.at hp
        clear hp
        by_cases hs : r - (p.o.f.size : Int) < 0
        · have hf : Hid (szC r p = -1) := by show _ = _; simp [szC]; omega
          go_wp2_with fail
          refine (laws_szCounted p r _ hr0 hr1 hsz).mono ?_
          rintro e w1 ⟨rfl, hB1⟩
          rw [hf.out]
          go_wp2
          go_returns
          go_light
          exact ⟨⟨_, rfl, .inl rfl⟩, chain hB hB1⟩
        · have hf : Hid (szC r p = r - p.o.f.size) := by show _ = _; simp [szC]; omega
          go_wp2_with fail
          refine (laws_szCounted p r _ hr0 hr1 hsz).mono ?_
          rintro e w1 ⟨rfl, hB1⟩
          rw [hf.out]
          go_wp2
          go_roundw
          case rel =>
            refine ⟨k + 1, r - p.o.f.size, by omega, by go_num, rfl, by omega, by omega, ?_, chain hB hB1⟩
            intro i e hi he
            by_cases hik : i = k
            · subst hik
              rw [hp'.out] at he
              obtain rfl := Option.some.inj he
              omega
            · exact hI.out i e (by omega) he
          case measure => simp [intOf]; omega
      · obtain rfl : k = n := by omega
        go_wp2
        go_returns
        go_light
        refine ⟨⟨_, rfl, .inr ⟨hr0, hr1, by omega, ?_⟩⟩, hB⟩
        intro e he
        obtain ⟨i, hi⟩ := List.mem_iff_getElem?.1 he
        refine hI.out i e ?_ hi
        have := (List.getElem?_eq_some_iff.1 hi).1
        rw [hlen.out] at this; exact this
def eqCts : List Ct → List Ct → Bool
  | [], [] => true
  | p :: r, q :: s => eqCt p q && eqCts r s
  | _, _ => false
theorem eqCts_refl (l : List Ct) : eqCts l l = true := by
  induction l with
  | nil => rfl
  | cons p r ih => simp [eqCts, eqCt, owEq, ih]
theorem eqCts_len {l : List Ct} : ∀ {m : List Ct}, l.length ≠ m.length → eqCts l m = false := by
  induction l with
  | nil => intro m h; cases m <;> simp [eqCts] at *
  | cons p r ih => intro m h; cases m <;> simp [eqCts] at *; exact fun _ => ih h
set_option maxHeartbeats 1000000 in
theorem laws_eqCountedS (a : Option Addr) (n cap : Nat) (l : List Ct) (a' : Option Addr) (n' cap' : Nat) (m : List Ct) (w : World) (h : CtsAt w a n l) (h' : CtsAt w a' n' m) (hn : n ≤ 4194304) (hn' : n' ≤ 4194304) :
    Calls Tryz.prog 44 #[.slice a n cap, .slice a' n' cap'] w fun e w' => e = .returned (.bool (eqCts l m)) ∧ Below w.heap.size w w' := by
  have hlen : Hid (l.length = n) := h.len
  have hlen' : Hid (m.length = n') := h'.len
  by_cases hne : n = n'
  · subst hne
    have hbn : ((n : Int) != (n : Int)) = false := by simp
    go_enter Tryz.func44, Tryz.ntmps44
    go_wp2_with fail
    go_loopw [5] (fun ix wr => ∃ (k : Nat), k ≤ n ∧ ix = .int .i64 k ∧ Hid (eqCts l m = eqCts (l.drop k) (m.drop k)) ∧ Below w.heap.size w wr) (fun ix _ => n - (intOf ix).toNat)
    case atStart => exact ⟨0, Nat.zero_le _, rfl, rfl, Below.refl _ _⟩
    case round =>
      obtain ⟨k, hk, rfl, hI, hB⟩ := hrel
      by_cases hlt : k < n
      · obtain ⟨b, o, p, rfl, hp, c0, c1, c2, c3⟩ := cts_at (h.below hB) hlt
        obtain ⟨b', o', q, rfl, hq, d0, d1, d2, d3⟩ := cts_at (h'.below hB) hlt
        have hd : Hid (l.drop k = p :: l.drop (k + 1)) := drop_at hp
        have hd' : Hid (m.drop k = q :: m.drop (k + 1)) := drop_at hq
        clear hp hq
        have hk1 : (k : Int) < n := by omega
        have hk2 : (0 : Int) ≤ k := by omega
        cases hpq : eqCt p q
        all_goals
          go_wp2_with fail
          have g0 := gcell c0
          have g1 := gcell c1
          have g2 := gcell c2
          have g3 := gcell c3
          have g4 := gcell d0
          have g5 := gcell d1
          have g6 := gcell d2
          have g7 := gcell d3
          have hne := grw_ne wr
          refine wp_region_grow (by kernel_rfl) (by kernel_rfl) ?_
          repeat (go_big_quiet_step (first | (go_at_call 108; have qq := laws_eqCounted p q; rw [hpq] at qq; exact grow_of (qq _))))
          refine wpQuiet_nil ?_
          intro w2 hx
          have hB2 := grw_out hx
          clear hx
          go_wp2
        · go_returns
          go_light
          refine ⟨ret_bool ?_, chain hB hB2⟩
          rw [hI.out, hd.out, hd'.out]; simp only [eqCts, hpq, Bool.false_and]
        · go_roundw
          case rel => exact ⟨k + 1, by omega, by go_num, by show _ = _; rw [hI.out, hd.out, hd'.out]; simp only [eqCts, hpq, Bool.true_and], chain hB hB2⟩
          case measure => simp [intOf]; omega
      · obtain rfl : k = n := by omega
        go_wp2
        go_returns
        go_light
        refine ⟨ret_bool ?_, hB⟩
        rw [hI.out, List.drop_of_length_le (Nat.le_of_eq hlen.out), List.drop_of_length_le (Nat.le_of_eq hlen'.out)]; rfl
  · have hbn : ((n : Int) != (n' : Int)) = true := by simp; omega
    go_enter Tryz.func44, Tryz.ntmps44
    go_wp2
    go_returns
    go_light
    refine ⟨ret_bool ?_, Below.refl _ _⟩
    rw [eqCts_len (by rw [hlen.out, hlen'.out]; exact hne)]
end Go.Proofs.YtigldeccfpkdmaaGreatDoor
namespace Go.Proofs.YtigldeccfpkdmaaGreatDoor
open Go.RowKit
/-- A file: its name, its parts. -/
structure It where
  nm : ByteArray
  ps : List Pt
/-- A volume. -/
structure Vo where
  id : Int
  nm : ByteArray
  fx : Bool
  its : List It
/-- A pool. -/
structure Po where
  size : Int
  next : Int
  ex : List Ex
  vs : List Vo
  rf : List Ct
  lt : List Ct
/-- A slice's head; where B is not nought, one as the program itself makes them. -/
def Hd (B : Nat) (a : Option Addr) (n cap : Nat) : Prop := n ≤ cap ∧ cap ≤ 9223372036854775807 ∧ (0 < B → (a = none → cap = 0) ∧ ∀ ad, a = some ad → ad.spot = none)
theorem Hd.mono {B B' : Nat} {a : Option Addr} {n cap : Nat} (h : Hd B a n cap) (hb : B' ≤ B) : Hd B' a n cap := ⟨h.1, h.2.1, fun h0 => h.2.2 (by omega)⟩
theorem hd_own {B : Nat} (b n : Nat) (h : n ≤ 9223372036854775807) : Hd B (some ⟨b, 0, none⟩) n n := ⟨Nat.le_refl _, h, fun _ => ⟨(fun e => by cases e), fun ad e => by cases e; rfl⟩⟩
/-- Where B is not nought: a slice lies at B or behind it, in a block that may be written. -/
def Sf (B : Nat) (w : World) (a : Option Addr) : Prop := 0 < B → ∀ ad, a = some ad → B ≤ ad.block ∧ ∃ c t, Blk w ad.block c t
theorem Sf.below {B : Nat} {w w' : World} {a : Option Addr} (h : Sf B w a) (hb : Below w.heap.size w w') : Sf B w' a := fun h0 ad e => by
  obtain ⟨h1, c, t, h2⟩ := h h0 ad e
  exact ⟨h1, c, t, h2.below hb⟩
theorem Sf.mono {B B' : Nat} {w : World} {a : Option Addr} (h : Sf B w a) (hb : B' ≤ B) : Sf B' w a := fun h0 ad e => by
  obtain ⟨h1, r⟩ := h (by omega) ad e
  exact ⟨by omega, r⟩
theorem Sf.grown {B r : Nat} {w w' : World} {a : Option Addr} (h : Sf B w a) (hg : w.grownBy w' (some r)) (hr : r < B) : Sf B w' a := fun h0 ad e => by
  obtain ⟨h1, c, t, h2⟩ := h h0 ad e
  exact ⟨h1, c, t, h2.grown hg (by simp only [ne_eq]; omega)⟩
theorem sf_own {B b : Nat} {w : World} {c : Array Value} {t : TypeId} (h : Blk w b c t) (hb : B ≤ b) : Sf B w (some ⟨b, 0, none⟩) := fun _ ad e => by cases e; exact ⟨hb, c, t, h⟩
theorem sf_zero {w : World} {a : Option Addr} : Sf 0 w a := fun h => absurd h (by omega)
/-- A slice holds these items; all that it reaches lies at B or behind it. -/
structure ItsAt (B : Nat) (w : World) (a : Option Addr) (n : Nat) (l : List It) : Prop where
  len : l.length = n
  cell : ∀ i x, l[i]? = some x → ∃ b o pa pn pc, a = some ⟨b, o, none⟩ ∧ w.cell? ⟨b, o + i * 2, none⟩ = some (.string x.nm) ∧ w.cell? ⟨b, o + i * 2 + 1, none⟩ = some (.slice pa pn pc) ∧ PtsAt w pa pn x.ps ∧ Hd B pa pn pc ∧ B ≤ b ∧ (∀ ad, pa = some ad → B ≤ ad.block) ∧ Sf B w pa ∧ Sf B w a
/-- A slice holds these volumes. -/
structure VsAt (B : Nat) (w : World) (a : Option Addr) (n : Nat) (l : List Vo) : Prop where
  len : l.length = n
  cell : ∀ i x, l[i]? = some x → ∃ b o pa pn pc, a = some ⟨b, o, none⟩ ∧ w.cell? ⟨b, o + i * 4, none⟩ = some (.int .i64 x.id) ∧ w.cell? ⟨b, o + i * 4 + 1, none⟩ = some (.string x.nm) ∧ w.cell? ⟨b, o + i * 4 + 2, none⟩ = some (.bool x.fx) ∧ w.cell? ⟨b, o + i * 4 + 3, none⟩ = some (.slice pa pn pc) ∧ ItsAt B w pa pn x.its ∧ Hd B pa pn pc ∧ B ≤ b ∧ Sf B w a
theorem ItsAt.below {B : Nat} {w w' : World} {a : Option Addr} {n : Nat} {l : List It} (h : ItsAt B w a n l) (hb : Below w.heap.size w w') : ItsAt B w' a n l :=
  ⟨h.len, fun i x hx => by
    obtain ⟨b, o, pa, pn, pc, ha, c0, c1, hp, hh, hB, hA, s1, s2⟩ := h.cell i x hx
    exact ⟨b, o, pa, pn, pc, ha, bcell hb c0, bcell hb c1, hp.below hb, hh, hB, hA, s1.below hb, s2.below hb⟩⟩
theorem VsAt.below {B : Nat} {w w' : World} {a : Option Addr} {n : Nat} {l : List Vo} (h : VsAt B w a n l) (hb : Below w.heap.size w w') : VsAt B w' a n l :=
  ⟨h.len, fun i x hx => by
    obtain ⟨b, o, pa, pn, pc, ha, c0, c1, c2, c3, hp, hh, hB, s2⟩ := h.cell i x hx
    exact ⟨b, o, pa, pn, pc, ha, bcell hb c0, bcell hb c1, bcell hb c2, bcell hb c3, hp.below hb, hh, hB, s2.below hb⟩⟩
theorem ItsAt.mono {B B' : Nat} {w : World} {a : Option Addr} {n : Nat} {l : List It} (h : ItsAt B w a n l) (hb : B' ≤ B) : ItsAt B' w a n l :=
  ⟨h.len, fun i x hx => by
    obtain ⟨b, o, pa, pn, pc, ha, c0, c1, hp, hh, hB, hA, s1, s2⟩ := h.cell i x hx
    exact ⟨b, o, pa, pn, pc, ha, c0, c1, hp, hh.mono hb, by omega, fun ad had => by have := hA ad had; omega, s1.mono hb, s2.mono hb⟩⟩
theorem VsAt.mono {B B' : Nat} {w : World} {a : Option Addr} {n : Nat} {l : List Vo} (h : VsAt B w a n l) (hb : B' ≤ B) : VsAt B' w a n l :=
  ⟨h.len, fun i x hx => by
    obtain ⟨b, o, pa, pn, pc, ha, c0, c1, c2, c3, hp, hh, hB, s2⟩ := h.cell i x hx
    exact ⟨b, o, pa, pn, pc, ha, c0, c1, c2, c3, hp.mono hb, hh.mono hb, by omega, s2.mono hb⟩⟩
theorem ItsAt.grown {B r : Nat} {w w' : World} {a : Option Addr} {n : Nat} {l : List It} (h : ItsAt B w a n l) (hg : w.grownBy w' (some r)) (hr : r < B) : ItsAt B w' a n l :=
  ⟨h.len, fun i x hx => by
    obtain ⟨b, o, pa, pn, pc, ha, c0, c1, hp, hh, hB, hA, s1, s2⟩ := h.cell i x hx
    exact ⟨b, o, pa, pn, pc, ha, hg.cell c0 (by simp; omega), hg.cell c1 (by simp; omega), hp.grown hg (fun ad had => by have := hA ad had; omega), hh, hB, hA, s1.grown hg hr, s2.grown hg hr⟩⟩
theorem its_at {B : Nat} {w : World} {a : Option Addr} {n : Nat} {l : List It} (h : ItsAt B w a n l) {k : Nat} (hk : k < n) :
    ∃ b o x pa pn pc, a = some ⟨b, o, none⟩ ∧ l[k]? = some x ∧ w.cell? ⟨b, o + k * 2, none⟩ = some (.string x.nm) ∧ w.cell? ⟨b, o + k * 2 + 1, none⟩ = some (.slice pa pn pc) ∧ PtsAt w pa pn x.ps ∧ Hd B pa pn pc ∧ B ≤ b ∧ ∀ ad, pa = some ad → B ≤ ad.block := by
  have hx : l[k]? = some (l[k]'(by rw [h.len]; exact hk)) := by simp [h.len, hk]
  obtain ⟨b, o, pa, pn, pc, ha, c0, c1, hp, hh, hB, hA, _⟩ := h.cell k _ hx
  exact ⟨b, o, _, pa, pn, pc, ha, hx, c0, c1, hp, hh, hB, hA⟩
theorem vs_at {B : Nat} {w : World} {a : Option Addr} {n : Nat} {l : List Vo} (h : VsAt B w a n l) {k : Nat} (hk : k < n) :
    ∃ b o x pa pn pc, a = some ⟨b, o, none⟩ ∧ l[k]? = some x ∧ w.cell? ⟨b, o + k * 4, none⟩ = some (.int .i64 x.id) ∧ w.cell? ⟨b, o + k * 4 + 1, none⟩ = some (.string x.nm) ∧ w.cell? ⟨b, o + k * 4 + 2, none⟩ = some (.bool x.fx) ∧ w.cell? ⟨b, o + k * 4 + 3, none⟩ = some (.slice pa pn pc) ∧ ItsAt B w pa pn x.its ∧ Hd B pa pn pc ∧ B ≤ b := by
  have hx : l[k]? = some (l[k]'(by rw [h.len]; exact hk)) := by simp [h.len, hk]
  obtain ⟨b, o, pa, pn, pc, ha, c0, c1, c2, c3, hp, hh, hB, _⟩ := h.cell k _ hx
  exact ⟨b, o, _, pa, pn, pc, ha, hx, c0, c1, c2, c3, hp, hh, hB⟩
/-- Strings and lists as short as memory has them. -/
def StrI (l : List It) : Prop := ∀ x ∈ l, x.nm.size ≤ 9223372036854775807 ∧ x.ps.length ≤ 4194304
def StrV (l : List Vo) : Prop := ∀ v ∈ l, v.nm.size ≤ 9223372036854775807 ∧ v.its.length ≤ 4194304 ∧ StrI v.its
/-- Items are right, behind the one ahead. -/
def igo (e : List Ex) : Option It → List It → Bool
  | _, [] => true
  | q, x :: r => nameB x.nm && (match q with | none => true | some p => bl p.nm.toList x.nm.toList) && (contentO x.ps e).isSome && igo e (some x) r
def itemsB (l : List It) (e : List Ex) : Bool := decide (l.length ≤ 5) && igo e none l
/-- Volumes have rising ids and are right. -/
def vgo (next : Int) (e : List Ex) : Int → List Vo → Bool
  | _, [] => true
  | last, v :: r => decide (last < v.id) && decide (v.id < next) && nameB v.nm && itemsB v.its e && vgo next e v.id r
def volsB (next : Int) (l : List Vo) (e : List Ex) : Bool := decide (l.length ≤ 6) && vgo next e 0 l
/-- What a file's parts, an item, a volume and all of them add to what is counted. -/
def partCs (vol : Int) (f : ByteArray) (ps : List Pt) : List Ct := (ps.filter (fun p => !(p.a == 0))).map (fun p => ⟨⟨p.a, vol, f⟩, 1⟩)
def volCs (v : Vo) : List Ct := v.its.flatMap (fun x => partCs v.id x.nm x.ps)
def allCs (l : List Vo) : List Ct := l.flatMap volCs
def walkL (l : List Vo) : List Ct := sumC [] (allCs l)
def namesB (l : List Vo) : Bool := decide ((l.map (·.nm.toList)).Nodup)
/-- Just the extents that somebody names. -/
def addrB (e : List Ex) (l : List Ct) : Bool := e.all (fun x => l.any (fun c => c.o.a == x.a)) && l.all (fun c => e.any (fun x => x.a == c.o.a))
/-- A right pool. -/
def poolB (p : Po) : Bool := spaceOkB p.size p.ex && decide (1 ≤ p.next) && decide (p.next ≤ 1000000000) && volsB p.next p.vs p.ex && namesB p.vs && (match flushedO p.rf p.lt with | none => false | some s => eqCts s (walkL p.vs)) && addrB p.ex (p.rf ++ p.lt)
end Go.Proofs.YtigldeccfpkdmaaGreatDoor
