/- Volumes and items as plain data, and how they lie in memory. Volumes of the model: l4Vol. What is found by going through all volumes, by the model. -/
import Derived.Test.YtllbojcjdpelnaaGreatKd
import Derived.Test.YtllbojcjdpelnaaGreatKk
import Derived.Test.YtllbojcjdpelnaaGreatProg
import Derived.Test.YtllbojcjdpelnaaGreatKe
import Derived.StillTailTactics
namespace Go.Proofs.YtllbojcjdpelnaaGreat
open Go.RowKit

/-- A file: its name, its parts. -/
structure It where
  nm : ByteArray
  ps : List Pt
/-- A volume. -/
structure Vo where
  id : Int
  nm : ByteArray
  fx : Bool
  its : List It
/-- A pool. -/
structure Po where
  size : Int
  next : Int
  ex : List Ex
  vs : List Vo
  rf : List Ct
  lt : List Ct

/-- A slice's head; where B is not nought, one as the program itself makes them. -/
def Hd (B : Nat) (a : Option Addr) (n cap : Nat) : Prop := n ≤ cap ∧ cap ≤ 9223372036854775807 ∧ (0 < B → (a = none → cap = 0) ∧ ∀ ad, a = some ad → ad.spot = none)
theorem Hd.mono {B B' : Nat} {a : Option Addr} {n cap : Nat} (h : Hd B a n cap) (hb : B' ≤ B) : Hd B' a n cap := ⟨h.1, h.2.1, fun h0 => h.2.2 (by omega)⟩
theorem hd_own {B : Nat} (b n : Nat) (h : n ≤ 9223372036854775807) : Hd B (some ⟨b, 0, none⟩) n n := ⟨Nat.le_refl _, h, fun _ => ⟨(fun e => by cases e), fun ad e => by cases e; rfl⟩⟩

/-- Where B is not nought: a slice lies at B or behind it, in a block that may be written. -/
def Sf (B : Nat) (w : World) (a : Option Addr) : Prop := 0 < B → ∀ ad, a = some ad → B ≤ ad.block ∧ ∃ c t, Blk w ad.block c t
theorem Sf.below {B : Nat} {w w' : World} {a : Option Addr} (h : Sf B w a) (hb : Below w.heap.size w w') : Sf B w' a := fun h0 ad e => by
  obtain ⟨h1, c, t, h2⟩ := h h0 ad e
  exact ⟨h1, c, t, h2.below hb⟩
theorem Sf.mono {B B' : Nat} {w : World} {a : Option Addr} (h : Sf B w a) (hb : B' ≤ B) : Sf B' w a := fun h0 ad e => by
  obtain ⟨h1, r⟩ := h (by omega) ad e
  exact ⟨by omega, r⟩
theorem Sf.grown {B r : Nat} {w w' : World} {a : Option Addr} (h : Sf B w a) (hg : w.grownBy w' (some r)) (hr : r < B) : Sf B w' a := fun h0 ad e => by
  obtain ⟨h1, c, t, h2⟩ := h h0 ad e
  exact ⟨h1, c, t, h2.grown hg (by simp only [ne_eq]; omega)⟩
theorem sf_own {B b : Nat} {w : World} {c : Array Value} {t : TypeId} (h : Blk w b c t) (hb : B ≤ b) : Sf B w (some ⟨b, 0, none⟩) := fun _ ad e => by cases e; exact ⟨hb, c, t, h⟩
theorem sf_zero {w : World} {a : Option Addr} : Sf 0 w a := fun h => absurd h (by omega)

/-- A slice holds these items; all that it reaches lies at B or behind it. -/
structure ItsAt (B : Nat) (w : World) (a : Option Addr) (n : Nat) (l : List It) : Prop where
  len : l.length = n
  cell : ∀ i x, l[i]? = some x → ∃ b o pa pn pc, a = some ⟨b, o, none⟩ ∧ w.cell? ⟨b, o + i * 2, none⟩ = some (.string x.nm) ∧ w.cell? ⟨b, o + i * 2 + 1, none⟩ = some (.slice pa pn pc) ∧ PtsAt w pa pn x.ps ∧ Hd B pa pn pc ∧ B ≤ b ∧ (∀ ad, pa = some ad → B ≤ ad.block) ∧ Sf B w pa ∧ Sf B w a
/-- A slice holds these volumes. -/
structure VsAt (B : Nat) (w : World) (a : Option Addr) (n : Nat) (l : List Vo) : Prop where
  len : l.length = n
  cell : ∀ i x, l[i]? = some x → ∃ b o pa pn pc, a = some ⟨b, o, none⟩ ∧ w.cell? ⟨b, o + i * 4, none⟩ = some (.int .i64 x.id) ∧ w.cell? ⟨b, o + i * 4 + 1, none⟩ = some (.string x.nm) ∧ w.cell? ⟨b, o + i * 4 + 2, none⟩ = some (.bool x.fx) ∧ w.cell? ⟨b, o + i * 4 + 3, none⟩ = some (.slice pa pn pc) ∧ ItsAt B w pa pn x.its ∧ Hd B pa pn pc ∧ B ≤ b ∧ Sf B w a

theorem ItsAt.below {B : Nat} {w w' : World} {a : Option Addr} {n : Nat} {l : List It} (h : ItsAt B w a n l) (hb : Below w.heap.size w w') : ItsAt B w' a n l :=
  ⟨h.len, fun i x hx => by
    obtain ⟨b, o, pa, pn, pc, ha, c0, c1, hp, hh, hB, hA, s1, s2⟩ := h.cell i x hx
    exact ⟨b, o, pa, pn, pc, ha, bcell hb c0, bcell hb c1, hp.below hb, hh, hB, hA, s1.below hb, s2.below hb⟩⟩
theorem VsAt.below {B : Nat} {w w' : World} {a : Option Addr} {n : Nat} {l : List Vo} (h : VsAt B w a n l) (hb : Below w.heap.size w w') : VsAt B w' a n l :=
  ⟨h.len, fun i x hx => by
    obtain ⟨b, o, pa, pn, pc, ha, c0, c1, c2, c3, hp, hh, hB, s2⟩ := h.cell i x hx
    exact ⟨b, o, pa, pn, pc, ha, bcell hb c0, bcell hb c1, bcell hb c2, bcell hb c3, hp.below hb, hh, hB, s2.below hb⟩⟩
theorem ItsAt.mono {B B' : Nat} {w : World} {a : Option Addr} {n : Nat} {l : List It} (h : ItsAt B w a n l) (hb : B' ≤ B) : ItsAt B' w a n l :=
  ⟨h.len, fun i x hx => by
    obtain ⟨b, o, pa, pn, pc, ha, c0, c1, hp, hh, hB, hA, s1, s2⟩ := h.cell i x hx
    exact ⟨b, o, pa, pn, pc, ha, c0, c1, hp, hh.mono hb, by omega, fun ad had => by have := hA ad had; omega, s1.mono hb, s2.mono hb⟩⟩
theorem VsAt.mono {B B' : Nat} {w : World} {a : Option Addr} {n : Nat} {l : List Vo} (h : VsAt B w a n l) (hb : B' ≤ B) : VsAt B' w a n l :=
  ⟨h.len, fun i x hx => by
    obtain ⟨b, o, pa, pn, pc, ha, c0, c1, c2, c3, hp, hh, hB, s2⟩ := h.cell i x hx
    exact ⟨b, o, pa, pn, pc, ha, c0, c1, c2, c3, hp.mono hb, hh.mono hb, by omega, s2.mono hb⟩⟩
theorem ItsAt.grown {B r : Nat} {w w' : World} {a : Option Addr} {n : Nat} {l : List It} (h : ItsAt B w a n l) (hg : w.grownBy w' (some r)) (hr : r < B) : ItsAt B w' a n l :=
  ⟨h.len, fun i x hx => by
    obtain ⟨b, o, pa, pn, pc, ha, c0, c1, hp, hh, hB, hA, s1, s2⟩ := h.cell i x hx
    exact ⟨b, o, pa, pn, pc, ha, hg.cell c0 (by simp; omega), hg.cell c1 (by simp; omega), hp.grown hg (fun ad had => by have := hA ad had; omega), hh, hB, hA, s1.grown hg hr, s2.grown hg hr⟩⟩

theorem its_at {B : Nat} {w : World} {a : Option Addr} {n : Nat} {l : List It} (h : ItsAt B w a n l) {k : Nat} (hk : k < n) :
    ∃ b o x pa pn pc, a = some ⟨b, o, none⟩ ∧ l[k]? = some x ∧ w.cell? ⟨b, o + k * 2, none⟩ = some (.string x.nm) ∧ w.cell? ⟨b, o + k * 2 + 1, none⟩ = some (.slice pa pn pc) ∧ PtsAt w pa pn x.ps ∧ Hd B pa pn pc ∧ B ≤ b ∧ ∀ ad, pa = some ad → B ≤ ad.block := by
  have hx : l[k]? = some (l[k]'(by rw [h.len]; exact hk)) := by simp [h.len, hk]
  obtain ⟨b, o, pa, pn, pc, ha, c0, c1, hp, hh, hB, hA, _⟩ := h.cell k _ hx
  exact ⟨b, o, _, pa, pn, pc, ha, hx, c0, c1, hp, hh, hB, hA⟩
theorem vs_at {B : Nat} {w : World} {a : Option Addr} {n : Nat} {l : List Vo} (h : VsAt B w a n l) {k : Nat} (hk : k < n) :
    ∃ b o x pa pn pc, a = some ⟨b, o, none⟩ ∧ l[k]? = some x ∧ w.cell? ⟨b, o + k * 4, none⟩ = some (.int .i64 x.id) ∧ w.cell? ⟨b, o + k * 4 + 1, none⟩ = some (.string x.nm) ∧ w.cell? ⟨b, o + k * 4 + 2, none⟩ = some (.bool x.fx) ∧ w.cell? ⟨b, o + k * 4 + 3, none⟩ = some (.slice pa pn pc) ∧ ItsAt B w pa pn x.its ∧ Hd B pa pn pc ∧ B ≤ b := by
  have hx : l[k]? = some (l[k]'(by rw [h.len]; exact hk)) := by simp [h.len, hk]
  obtain ⟨b, o, pa, pn, pc, ha, c0, c1, c2, c3, hp, hh, hB, _⟩ := h.cell k _ hx
  exact ⟨b, o, _, pa, pn, pc, ha, hx, c0, c1, c2, c3, hp, hh, hB⟩

/-- Strings and lists as short as memory has them. -/
def StrI (l : List It) : Prop := ∀ x ∈ l, x.nm.size ≤ 9223372036854775807 ∧ x.ps.length ≤ 4194304
def StrV (l : List Vo) : Prop := ∀ v ∈ l, v.nm.size ≤ 9223372036854775807 ∧ v.its.length ≤ 4194304 ∧ StrI v.its

/-- Items are right, behind the one ahead. -/
def igo (e : List Ex) : Option It → List It → Bool
  | _, [] => true
  | q, x :: r => nameB x.nm && (match q with | none => true | some p => bl p.nm.toList x.nm.toList) && (contentO x.ps e).isSome && igo e (some x) r
def itemsB (l : List It) (e : List Ex) : Bool := decide (l.length ≤ 5) && igo e none l
/-- Volumes have rising ids and are right. -/
def vgo (next : Int) (e : List Ex) : Int → List Vo → Bool
  | _, [] => true
  | last, v :: r => decide (last < v.id) && decide (v.id < next) && nameB v.nm && itemsB v.its e && vgo next e v.id r
def volsB (next : Int) (l : List Vo) (e : List Ex) : Bool := decide (l.length ≤ 6) && vgo next e 0 l

/-- What a file's parts, an item, a volume and all of them add to what is counted. -/
def partCs (vol : Int) (f : ByteArray) (ps : List Pt) : List Ct := (ps.filter (fun p => !(p.a == 0))).map (fun p => ⟨⟨p.a, vol, f⟩, 1⟩)
def volCs (v : Vo) : List Ct := v.its.flatMap (fun x => partCs v.id x.nm x.ps)
def allCs (l : List Vo) : List Ct := l.flatMap volCs
def walkL (l : List Vo) : List Ct := sumC [] (allCs l)

def namesB (l : List Vo) : Bool := decide ((l.map (·.nm.toList)).Nodup)
/-- Just the extents that somebody names. -/
def addrB (e : List Ex) (l : List Ct) : Bool := e.all (fun x => l.any (fun c => c.o.a == x.a)) && l.all (fun c => e.any (fun x => x.a == c.o.a))
/-- A right pool. -/
def poolB (p : Po) : Bool := spaceOkB p.size p.ex && decide (1 ≤ p.next) && decide (p.next ≤ 1000000000) && volsB p.next p.vs p.ex && namesB p.vs && (match flushedO p.rf p.lt with | none => false | some s => eqCts s (walkL p.vs)) && addrB p.ex (p.rf ++ p.lt)
end Go.Proofs.YtllbojcjdpelnaaGreat
namespace Go.Proofs.YtllbojcjdpelnaaGreat
open Go.RowKit Go.BigFrame

def prevI (l : List It) (k : Nat) : Option It := if k = 0 then none else l[k - 1]?
theorem prevI_succ (l : List It) (k : Nat) : prevI l (k + 1) = l[k]? := by simp [prevI]

theorem content_some {ps : List Pt} {e : List Ex} (h : spaceOkB 400 e = true) : (contentO ps e).isSome = (partsOkB ps && (cgo e ⟨#[]⟩ ps).isSome) := by
  unfold contentO
  cases hp : partsOkB ps <;> simp [h]

set_option maxHeartbeats 2000000 in
set_option maxRecDepth 100000 in
theorem spec_l4Vol (B : Nat) (v : Vo) (pa : Option Addr) (pn pc : Nat) (ea : Option Addr) (en ec : Nat) (e : List Ex) (w : World) (h : ItsAt B w pa pn v.its) (he : ExsAt w ea en e) (hstr : Strs e) (hen : en ≤ 4194304) (hsp : spaceOkB 400 e = true) (hnm : v.nm.size ≤ 9223372036854775807) (hpn : pn ≤ 4194304) (hI : StrI v.its) :
    Calls Tryz.prog 51 #[.agg #[.int .i64 v.id, .string v.nm, .bool v.fx, .slice pa pn pc], .slice ea en ec] w fun x w' => x = .returned (.bool (nameB v.nm && itemsB v.its e)) ∧ Below w.heap.size w w' := by
  obtain ⟨id, nm, fx, its⟩ := v
  simp only at h hnm hI ⊢
  have hlen : Hid (its.length = pn) := h.len
  cases hn1 : nameB nm
  · go_enter Tryz.func51, Tryz.ntmps51
    go_wp2_with fail
    refine (spec_NameOk nm _ hnm).mono ?_
    rintro x w1 ⟨rfl, rfl⟩
    rw [hn1]
    go_wp2
    go_returns
    exact ⟨rfl, by go_grown⟩
  · have hR : Hid ((true && itemsB its e) = (decide (its.length ≤ 5) && igo e none its)) := by show _ = _; rw [Bool.true_and]; rfl
    generalize (true && itemsB its e) = R at *
    by_cases h5 : pn ≤ 5
    · rw [hlen.out, decide_eq_true h5, Bool.true_and] at hR
      go_enter Tryz.func51, Tryz.ntmps51
      go_wp2_with fail
      refine (spec_NameOk nm _ hnm).mono ?_
      rintro x w1 ⟨rfl, hw1⟩
      rw [hn1]
      have hB1 : Below w.heap.size w w1 := by rw [hw1]; go_grown
      have C : Blk w1 w.heap.size #[.int .i64 id, .string nm, .bool fx, .slice pa pn pc] 80 := by rw [hw1]; exact Blk.new w _ _
      have hlt := C.lt
      clear hw1
      have c3 := C.cell 3
      simp only [List.getElem?_toArray, List.getElem?_cons_zero, List.getElem?_cons_succ] at c3
      go_wp2_with fail
      go_loopw [5] (fun ix wr => ∃ (k : Nat), k ≤ pn ∧ ix = .int .i64 k ∧ Hid (R = igo e (prevI its k) (its.drop k)) ∧ Blk wr w.heap.size #[.int .i64 id, .string nm, .bool fx, .slice pa pn pc] 80 ∧ Below w.heap.size w wr) (fun ix _ => pn - (intOf ix).toNat)
      case atStart => exact ⟨0, Nat.zero_le _, rfl, hR, C, hB1⟩
      case round =>
        clear c3
        obtain ⟨k, hk, rfl, hv, C', hB⟩ := hrel
        have c3 := C'.cell 3
        simp only [List.getElem?_toArray, List.getElem?_cons_zero, List.getElem?_cons_succ] at c3
        by_cases hlt : k < pn
        · obtain ⟨b, o, x, qa, qn, qc, rfl, hx, c0, c1, hP, _, _, _⟩ := its_at (h.below hB) hlt
          have hst : Hid (R = (nameB x.nm && (match prevI its k with | none => true | some p => bl p.nm.toList x.nm.toList) && (contentO x.ps e).isSome && igo e (prevI its (k + 1)) (its.drop (k + 1)))) := by
            show _ = _
            rw [hv.out, drop_at hx, prevI_succ, hx]
            rfl
          rw [content_some hsp] at hst
          obtain ⟨m1, m2⟩ := hI x (List.mem_of_getElem? hx)
          have hqn : x.ps.length = qn := hP.len
          rw [hqn] at m2
          have hk1 : (k : Int) < pn := by omega
          have hk2 : (0 : Int) ≤ k := by omega
          have hprev : 0 < k → ∃ y, prevI its k = some y ∧ wr.cell? ⟨b, o + (k - 1) * 2, none⟩ = some (.string y.nm) := fun h0 => by
            obtain ⟨b', o', y, _, _, _, hbo, hy, d0, _⟩ := its_at (h.below hB) (show k - 1 < pn by omega)
            obtain ⟨rfl, rfl⟩ : b = b' ∧ o = o' := by simpa using hbo
            exact ⟨y, by unfold prevI; rw [if_neg (by omega)]; exact hy, d0⟩
          have hend : ∀ u : World, Below wr.heap.size wr u → Below w.heap.size w u := fun u hu => chain hB hu
          clear hx hv hqn
          have hname := fun u : World => spec_NameOk x.nm u m1
          have hparts := fun (u : World) (hu : Below wr.heap.size wr u) => spec_PartsOk qa qn qc x.ps u (hP.below hu) m2
          have hW0 : Below wr.heap.size wr (wr.alloc (.cells #[.string x.nm, .slice qa qn qc] 96)) := by go_grown
          have X := Blk.new wr #[.string x.nm, .slice qa qn qc] 96
          have x0 : ∀ g : Grw (wr.alloc (.cells #[.string x.nm, .slice qa qn qc] 96)), g.w.cell? ⟨wr.heap.size, 0, none⟩ = some (.string x.nm) := gcell (X.cell 0)
          have x1 : ∀ g : Grw (wr.alloc (.cells #[.string x.nm, .slice qa qn qc] 96)), g.w.cell? ⟨wr.heap.size, 1, none⟩ = some (.slice qa qn qc) := gcell (X.cell 1)
          have x3 := gcell (bcell hW0 c3)
          have hne := grw_ne (wr.alloc (.cells #[.string x.nm, .slice qa qn qc] 96))
          cases hnx : nameB x.nm
          · rw [hnx] at hst
            go_wp2_with fail
            refine wp_region_grow (by kernel_rfl) (by kernel_rfl) ?_
            repeat (go_big_quiet_step (first | (go_at_call 87; have qq := hname; rw [hnx] at qq; exact grow_of_same (qq _))))
            refine wpQuiet_nil ?_
            intro w2 hx
            have hB2 := chain hW0 (grw_out hx)
            clear hx
            go_wp2
            go_returns
            exact ⟨by rw [hst.out]; simp, hend _ hB2⟩
          · rw [hnx, Bool.true_and] at hst
            by_cases hk0 : 0 < k
            · obtain ⟨y, hy, d0⟩ := hprev hk0
              have y0 := gcell (bcell hW0 d0)
              rw [hy] at hst
              have hk0' : decide ((0 : Int) < (k : Int)) = true := decide_eq_true (by omega)
              have hk9 : ((k : Int) - 1).toNat = k - 1 := by omega
              cases hbl : bl y.nm.toList x.nm.toList
              · simp only [hbl, Bool.false_and] at hst
                go_wp2_with fail
                refine wp_region_grow (by kernel_rfl) (by kernel_rfl) ?_
                repeat (go_big_quiet_step (first | (go_at_call 87; have qq := hname; rw [hnx] at qq; exact grow_of_same (qq _))))
                refine wpQuiet_nil ?_
                intro w2 hx
                have hB2 := chain hW0 (grw_out hx)
                have x1' := bcell (grw_out hx) (show (wr.alloc (.cells #[.string x.nm, .slice qa qn qc] 96)).cell? ⟨wr.heap.size, 1, none⟩ = some (.slice qa qn qc) from X.cell 1)
                have C2 := C'.below hB2
                clear hx
                go_wp2
                go_returns
                exact ⟨by rw [hst.out]; rfl, hend _ hB2⟩
              · simp only [hbl, Bool.true_and] at hst
                cases hpk : partsOkB x.ps
                · rw [hpk, Bool.false_and, Bool.false_and] at hst
                  go_wp2_with fail
                  refine wp_region_grow (by kernel_rfl) (by kernel_rfl) ?_
                  repeat (go_big_quiet_step (first | (go_at_call 87; have qq := hname; rw [hnx] at qq; exact grow_of_same (qq _)) | (go_at_call 88; have qq := fun (u : World) (hu : Below wr.heap.size wr u) => hparts u hu; rw [hpk] at qq; exact grow_of (qq _ (chain hW0 (Grw.h _))))))
                  refine wpQuiet_nil ?_
                  intro w2 hx
                  have hB2 := chain hW0 (grw_out hx)
                  have x1' := bcell (grw_out hx) (show (wr.alloc (.cells #[.string x.nm, .slice qa qn qc] 96)).cell? ⟨wr.heap.size, 1, none⟩ = some (.slice qa qn qc) from X.cell 1)
                  have C2 := C'.below hB2
                  clear hx
                  go_wp2
                  go_returns
                  exact ⟨by rw [hst.out]; rfl, hend _ hB2⟩
                · rw [hpk, Bool.true_and] at hst
                  obtain ⟨hl16, hall⟩ := parts_all hpk
                  rw [hP.len] at hl16
                  go_wp2_with fail
                  refine wp_region_grow (by kernel_rfl) (by kernel_rfl) ?_
                  repeat (go_big_quiet_step (first | (go_at_call 87; have qq := hname; rw [hnx] at qq; exact grow_of_same (qq _)) | (go_at_call 88; have qq := fun (u : World) (hu : Below wr.heap.size wr u) => hparts u hu; rw [hpk] at qq; exact grow_of (qq _ (chain hW0 (Grw.h _))))))
                  refine wpQuiet_nil ?_
                  intro w2 hx
                  have hB2 := chain hW0 (grw_out hx)
                  have x1' := bcell (grw_out hx) (show (wr.alloc (.cells #[.string x.nm, .slice qa qn qc] 96)).cell? ⟨wr.heap.size, 1, none⟩ = some (.slice qa qn qc) from X.cell 1)
                  have C2 := C'.below hB2
                  clear hx
                  go_wp2_with fail
                  refine (spec_l2Content qa qn qc x.ps ea en ec e _ (hP.below hB2) (he.below (hend _ hB2)) hstr hl16 hen hall).mono ?_
                  rintro e1 w3 ⟨hret, hB3⟩
                  replace C2 := C2.below hB3
                  replace hB3 := chain hB2 hB3
                  cases hcg : cgo e ⟨#[]⟩ x.ps with
                  | none =>
                    rw [hcg] at hret hst
                    replace hret : e1 = .returned (.tuple #[.string ⟨#[]⟩, .bool false]) := hret
                    subst hret
                    clear hcg
                    go_wp2
                    go_returns
                    exact ⟨by rw [hst.out]; rfl, hend _ hB3⟩
                  | some s =>
                    rw [hcg] at hret hst
                    replace hret : e1 = .returned (.tuple #[.string s, .bool true]) := hret
                    subst hret
                    clear hcg
                    go_wp2
                    go_roundw
                    case rel => exact ⟨k + 1, by omega, by go_num, by show _ = _; rw [hst.out]; rfl, C2, hend _ hB3⟩
                    case measure => simp [intOf]; omega
            · have hpv : prevI its k = none := by unfold prevI; rw [if_pos (by omega)]
              have hk0' : decide ((0 : Int) < (k : Int)) = false := decide_eq_false (by omega)
              rw [hpv] at hst
              simp only [Bool.true_and] at hst
              cases hpk : partsOkB x.ps
              · rw [hpk, Bool.false_and, Bool.false_and] at hst
                go_wp2_with fail
                refine wp_region_grow (by kernel_rfl) (by kernel_rfl) ?_
                repeat (go_big_quiet_step (first | (go_at_call 87; have qq := hname; rw [hnx] at qq; exact grow_of_same (qq _)) | (go_at_call 88; have qq := fun (u : World) (hu : Below wr.heap.size wr u) => hparts u hu; rw [hpk] at qq; exact grow_of (qq _ (chain hW0 (Grw.h _))))))
                refine wpQuiet_nil ?_
                intro w2 hx
                have hB2 := chain hW0 (grw_out hx)
                have x1' := bcell (grw_out hx) (show (wr.alloc (.cells #[.string x.nm, .slice qa qn qc] 96)).cell? ⟨wr.heap.size, 1, none⟩ = some (.slice qa qn qc) from X.cell 1)
                have C2 := C'.below hB2
                clear hx
                go_wp2
                go_returns
                exact ⟨by rw [hst.out]; rfl, hend _ hB2⟩
              · rw [hpk, Bool.true_and] at hst
                obtain ⟨hl16, hall⟩ := parts_all hpk
                rw [hP.len] at hl16
                go_wp2_with fail
                refine wp_region_grow (by kernel_rfl) (by kernel_rfl) ?_
                repeat (go_big_quiet_step (first | (go_at_call 87; have qq := hname; rw [hnx] at qq; exact grow_of_same (qq _)) | (go_at_call 88; have qq := fun (u : World) (hu : Below wr.heap.size wr u) => hparts u hu; rw [hpk] at qq; exact grow_of (qq _ (chain hW0 (Grw.h _))))))
                refine wpQuiet_nil ?_
                intro w2 hx
                have hB2 := chain hW0 (grw_out hx)
                have x1' := bcell (grw_out hx) (show (wr.alloc (.cells #[.string x.nm, .slice qa qn qc] 96)).cell? ⟨wr.heap.size, 1, none⟩ = some (.slice qa qn qc) from X.cell 1)
                have C2 := C'.below hB2
                clear hx
                go_wp2_with fail
                refine (spec_l2Content qa qn qc x.ps ea en ec e _ (hP.below hB2) (he.below (hend _ hB2)) hstr hl16 hen hall).mono ?_
                rintro e1 w3 ⟨hret, hB3⟩
                replace C2 := C2.below hB3
                replace hB3 := chain hB2 hB3
                cases hcg : cgo e ⟨#[]⟩ x.ps with
                | none =>
                  rw [hcg] at hret hst
                  replace hret : e1 = .returned (.tuple #[.string ⟨#[]⟩, .bool false]) := hret
                  subst hret
                  clear hcg
                  go_wp2
                  go_returns
                  exact ⟨by rw [hst.out]; rfl, hend _ hB3⟩
                | some s =>
                  rw [hcg] at hret hst
                  replace hret : e1 = .returned (.tuple #[.string s, .bool true]) := hret
                  subst hret
                  clear hcg
                  go_wp2
                  go_roundw
                  case rel => exact ⟨k + 1, by omega, by go_num, by show _ = _; rw [hst.out]; rfl, C2, hend _ hB3⟩
                  case measure => simp [intOf]; omega
        · obtain rfl : k = pn := by omega
          go_wp2
          go_returns
          exact ⟨by rw [hv.out, List.drop_of_length_le (Nat.le_of_eq hlen.out)]; rfl, hB⟩
    · rw [hlen.out, decide_eq_false h5, Bool.false_and] at hR
      go_enter Tryz.func51, Tryz.ntmps51
      go_wp2_with fail
      refine (spec_NameOk nm _ hnm).mono ?_
      rintro x w1 ⟨rfl, rfl⟩
      rw [hn1]
      go_wp2
      go_returns
      exact ⟨by rw [hR.out]; rfl, by go_grown⟩
end Go.Proofs.YtllbojcjdpelnaaGreat
namespace Go.Proofs.YtllbojcjdpelnaaGreat
open Go.RowKit Go.BigFrame

/-- Volumes as small as right ones are. -/
def TinyV (l : List Vo) : Prop := l.length ≤ 6 ∧ ∀ v ∈ l, v.its.length ≤ 5 ∧ ∀ x ∈ v.its, x.ps.length ≤ 16 ∧ ∀ p ∈ x.ps, 0 ≤ p.a

theorem sumC_app (l a b : List Ct) : sumC l (a ++ b) = sumC (sumC l a) b := by simp [sumC]
theorem partCs_take {id : Int} {nm : ByteArray} {ps : List Pt} {j : Nat} {p : Pt} (h : ps[j]? = some p) : partCs id nm (ps.take (j + 1)) = partCs id nm (ps.take j) ++ (if p.a == 0 then [] else [⟨⟨p.a, id, nm⟩, 1⟩]) := by
  unfold partCs
  rw [take_at h, List.filter_append, List.map_append]
  cases hp : (p.a == 0) <;> simp [hp]
def itsCs (v : Vo) (l : List It) : List Ct := l.flatMap (fun x => partCs v.id x.nm x.ps)
theorem itsCs_take {v : Vo} {l : List It} {k : Nat} {x : It} (h : l[k]? = some x) : itsCs v (l.take (k + 1)) = itsCs v (l.take k) ++ partCs v.id x.nm x.ps := by
  unfold itsCs
  rw [take_at h, List.flatMap_append]; simp
theorem allCs_take {l : List Vo} {i : Nat} {v : Vo} (h : l[i]? = some v) : allCs (l.take (i + 1)) = allCs (l.take i) ++ itsCs v v.its := by
  unfold allCs
  rw [take_at h, List.flatMap_append]; simp [volCs, itsCs]

/-- What is found so far: the list, how many at most. -/
structure Fnd (w : World) (B : Nat) (out : Value) (L : List Ct) (M : Nat) : Prop where
  at' : ∃ a n cap, out = .slice a n cap ∧ n ≤ M ∧ ResAt Ct.cs 4 70 w B a n cap L
  bd : ∀ x ∈ L, -(1000 * (M : Int)) ≤ x.n ∧ x.n ≤ 1000 * (M : Int)
theorem Fnd.below {w w' : World} {B : Nat} {out : Value} {L : List Ct} {M : Nat} (h : Fnd w B out L M) (hb : Below w.heap.size w w') : Fnd w' B out L M := by
  obtain ⟨⟨a, n, cap, e, hn, R⟩, hbd⟩ := h
  exact ⟨⟨a, n, cap, e, hn, R.below hb⟩, hbd⟩
theorem Fnd.mono {w : World} {B : Nat} {out : Value} {L : List Ct} {M M' : Nat} (h : Fnd w B out L M) (hM : M ≤ M') : Fnd w B out L M' := by
  obtain ⟨⟨a, n, cap, e, hn, R⟩, hbd⟩ := h
  exact ⟨⟨a, n, cap, e, by omega, R⟩, fun x hx => by have := hbd x hx; omega⟩

set_option maxHeartbeats 2000000 in
set_option maxRecDepth 100000 in
theorem spec_l4Walked (B : Nat) (a : Option Addr) (n cap : Nat) (vs : List Vo) (w : World) (h : VsAt B w a n vs) (ht : TinyV vs) :
    Calls Tryz.prog 37 #[.slice a n cap] w fun e w' => (∃ a' n' cap', e = .returned (.slice a' n' cap') ∧ n' ≤ 480 ∧ ResAt Ct.cs 4 70 w' w.heap.size a' n' cap' (walkL vs)) ∧ Below w.heap.size w w' := by
  have hlen : Hid (vs.length = n) := h.len
  have hn6 : n ≤ 6 := by rw [← hlen.out]; exact ht.1
  go_enter Tryz.func37, Tryz.ntmps37
  go_wp2_with fail
  go_loopw [3, 4] (fun out ix wr => ∃ (i : Nat), i ≤ n ∧ ix = .int .i64 i ∧ Fnd wr w.heap.size out (sumC [] (allCs (vs.take i))) (80 * i) ∧ Below w.heap.size w wr) (fun _ ix _ => n - (intOf ix).toNat)
  case atStart => exact ⟨0, Nat.zero_le _, rfl, ⟨⟨_, 0, 0, rfl, Nat.zero_le _, res_empty (Blk.new' _ _ _ _ rfl) (Nat.le_refl _)⟩, fun x hx => by cases hx⟩, (Below.refl _ _).alloc (Nat.le_refl _) _⟩
  case round =>
    obtain ⟨i, hi, rfl, hF, hB⟩ := hrel
    obtain ⟨wi, hwi⟩ : ∃ x, x = wr := ⟨_, rfl⟩
    subst hwi
    by_cases hlt : i < n
    · obtain ⟨b, o, v, ia, inn, icp, rfl, hv, c0, c1, c2, c3, hI, _, _⟩ := vs_at (h.below hB) hlt
      obtain ⟨t1, t2⟩ := ht.2 v (List.mem_of_getElem? hv)
      have hil : Hid (v.its.length = inn) := hI.len
      rw [hil.out] at t1
      have hi1 : (i : Int) < n := by omega
      have hi2 : (0 : Int) ≤ i := by omega
      have hall : Hid (allCs (vs.take (i + 1)) = allCs (vs.take i) ++ itsCs v v.its) := allCs_take hv
      clear hv
      generalize allCs (vs.take i) = PA at *
      go_wp2_with fail
      go_loopw [3, 5] (fun out ix wk => ∃ (k : Nat), k ≤ inn ∧ ix = .int .i64 k ∧ Fnd wk w.heap.size out (sumC [] (PA ++ itsCs v (v.its.take k))) (80 * i + 16 * k) ∧ Below wi.heap.size wi wk) (fun _ ix _ => inn - (intOf ix).toNat)
      case atStart => exact ⟨0, Nat.zero_le _, rfl, by simpa [itsCs] using hF, Below.refl _ _⟩
      case round =>
        clear hF
        obtain ⟨k, hk, rfl, hF, hBk⟩ := hrel
        obtain ⟨wk, hwk⟩ : ∃ x, x = wr := ⟨_, rfl⟩
        subst hwk
        have e0 := bcell hBk c0
        have e3 := bcell hBk c3
        by_cases hlk : k < inn
        · obtain ⟨b', o', x, pa, pn, pc, rfl, hx, d0, d1, hP, _, _, _⟩ := its_at (hI.below hBk) hlk
          obtain ⟨u1, u2⟩ := t2 x (List.mem_of_getElem? hx)
          have hpl : Hid (x.ps.length = pn) := hP.len
          rw [hpl.out] at u1
          have hk1 : (k : Int) < inn := by omega
          have hk2 : (0 : Int) ≤ k := by omega
          have hits : Hid (itsCs v (v.its.take (k + 1)) = itsCs v (v.its.take k) ++ partCs v.id x.nm x.ps) := itsCs_take hx
          clear hx
          generalize itsCs v (v.its.take k) = PI at *
          go_wp2_with fail
          have hW0 : Below wk.heap.size wk (wk.alloc (.cells #[.string x.nm, .slice pa pn pc] 96)) := by go_grown
          have X0 : (wk.alloc (.cells #[.string x.nm, .slice pa pn pc] 96)).cell? ⟨wk.heap.size, 0, none⟩ = some (.string x.nm) := (Blk.new wk #[.string x.nm, .slice pa pn pc] 96).cell 0
          have X1 : (wk.alloc (.cells #[.string x.nm, .slice pa pn pc] 96)).cell? ⟨wk.heap.size, 1, none⟩ = some (.slice pa pn pc) := (Blk.new wk #[.string x.nm, .slice pa pn pc] 96).cell 1
          have E0 := bcell hW0 e0
          have hP0 := hP.below hW0
          have hF0 := hF.below hW0
          generalize wk.alloc (.cells #[.string x.nm, .slice pa pn pc] 96) = W0 at *
          go_loopw [3, 7] (fun out ix wj => ∃ (j : Nat), j ≤ pn ∧ ix = .int .i64 j ∧ Fnd wj w.heap.size out (sumC [] (PA ++ PI ++ partCs v.id x.nm (x.ps.take j))) (80 * i + 16 * k + j) ∧ Below W0.heap.size W0 wj) (fun _ ix _ => pn - (intOf ix).toNat)
          case atStart => exact ⟨0, Nat.zero_le _, rfl, by simpa [partCs] using hF0, Below.refl _ _⟩
          case round =>
            clear hF hF0
            obtain ⟨j, hj, rfl, hF, hBj⟩ := hrel
            have x0 := bcell hBj X0
            have x1 := bcell hBj X1
            have y0 := bcell hBj E0
            by_cases hlj : j < pn
            · obtain ⟨b2, o2, p, rfl, hp, f0, f1, f2⟩ := pts_at (hP0.below hBj) hlj
              have hpa := u2 p (List.mem_of_getElem? hp)
              have hpt : Hid (partCs v.id x.nm (x.ps.take (j + 1)) = partCs v.id x.nm (x.ps.take j) ++ (if p.a == 0 then [] else [⟨⟨p.a, v.id, x.nm⟩, 1⟩])) := partCs_take hp
              clear hp
              generalize partCs v.id x.nm (x.ps.take j) = PP at *
              have hj1 : (j : Int) < pn := by omega
              have hj2 : (0 : Int) ≤ j := by omega
              by_cases hz : 0 < p.a
              · have hne : (p.a == 0) = false := beq_eq_false_iff_ne.2 (by omega)
                rw [hne] at hpt
                simp only [Bool.false_eq_true, if_false] at hpt
                obtain ⟨⟨a2, n2, cap2, rfl, hn2, R⟩, hbd⟩ := hF
                go_wp2_with fail
                refine wp_region_tail 16 (by kernel_rfl) (by kernel_rfl) ?_
                simp only [List.take_succ_cons, List.take_zero, List.drop_succ_cons, List.drop_zero]
                repeat still_step
                refine wpStill_nil ?_
                go_wp2_with fail
                have hBd := (Below.refl wr.heap.size wr).drew
                refine (spec_l3Add a2 n2 cap2 _ ⟨⟨p.a, v.id, x.nm⟩, 1⟩ _ (R.sl.below hBd) (by omega) (fun z hz' => by have := hbd z hz'; omega) (by simp)).mono ?_
                rintro e w3 ⟨⟨a3, n3, cap3, rfl, hn3, R3⟩, hB3⟩
                have hB4 : Below wr.heap.size wr w3 := chain hBd hB3
                have hz0 := hB.size
                have hz1 := hBk.size
                have hz2 := hW0.size
                have hz3 := hBj.size
                have hz4 := hBd.size
                go_wp2
                go_roundw
                case rel =>
                  refine ⟨j + 1, by omega, by go_num, ⟨⟨a3, n3, cap3, rfl, by omega, ?_⟩, ?_⟩, chain hBj hB4⟩
                  · rw [hpt.out, ← List.append_assoc, sumC_app]
                    exact R3.mono (by omega)
                  · rw [hpt.out, ← List.append_assoc, sumC_app]
                    intro z hz'
                    have := bound_addC (B := 1000 * ((80 * i + 16 * k + j : Nat) : Int)) (by omega) (c := ⟨⟨p.a, v.id, x.nm⟩, 1⟩) (by simp) (by simp) hbd z hz'
                    omega
                case measure => simp [intOf]; omega
              · have hne : (p.a == 0) = true := by simp; omega
                rw [hne] at hpt
                simp only [if_true, List.append_nil] at hpt
                go_wp2
                go_roundw
                case rel => exact ⟨j + 1, by omega, by go_num, by rw [hpt.out]; exact hF.mono (by omega), hBj⟩
                case measure => simp [intOf]; omega
            · obtain rfl : j = pn := by omega
              go_wp2
              go_roundw
              case rel =>
                refine ⟨k + 1, by omega, by go_num, ?_, chain hBk (chain hW0 hBj)⟩
                rw [hits.out, ← List.append_assoc]
                rw [List.take_of_length_le (Nat.le_of_eq hpl.out)] at hF
                exact hF.mono (by omega)
              case measure => simp [intOf]; omega
        · obtain rfl : k = inn := by omega
          go_wp2
          go_roundw
          case rel =>
            refine ⟨i + 1, by omega, by go_num, ?_, chain hB hBk⟩
            rw [hall.out, ← List.take_of_length_le (l := v.its) (Nat.le_of_eq hil.out)]
            exact hF.mono (by omega)
          case measure => simp [intOf]; omega
    · obtain rfl : i = n := by omega
      obtain ⟨⟨a2, n2, cap2, rfl, hn2, R⟩, _⟩ := hF
      go_wp2
      go_returns
      refine ⟨⟨a2, n2, cap2, rfl, by omega, ?_⟩, hB⟩
      rw [List.take_of_length_le (Nat.le_of_eq hlen.out)] at R
      exact R
end Go.Proofs.YtllbojcjdpelnaaGreat
