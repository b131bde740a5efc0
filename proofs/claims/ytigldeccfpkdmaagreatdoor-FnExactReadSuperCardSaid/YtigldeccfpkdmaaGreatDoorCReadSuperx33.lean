/- Copies of a disk, by the program. The laws' marks of disks: written into them, and held against them. Marks of a disk. A region, cut behind it: what it leaves in its slots, whatever came up first. -/
import Derived.Test.YtigldeccfpkdmaaGreatDoorCReadSuperx32
import Derived.Test.YtigldeccfpkdmaaGreatDoorCReadSuperx31
namespace Go.Proofs.YtigldeccfpkdmaaGreatDoor
open Go Go.RowKit Go.BigFrame
/-- A disk whose three lists are answers that lie apart. -/
def DiskS (B : Nat) (w : World) (v : Value) (d : Dk) : Prop := ∃ la ln lc sa sn sc oa on oc, v = .agg #[.slice la ln lc, .slice sa sn sc, .slice oa on oc] ∧ ResAt Fl.cs 2 123 w B la ln lc d.live ∧ ResAt Fl.cs 2 123 w B sa sn sc d.safe ∧ ResAt Dp.cs 4 120 w B oa on oc d.ops ∧ ∀ x y, la = some x → sa = some y → x.block ≠ y.block
theorem DiskS.below {B : Nat} {w w' : World} {v : Value} {d : Dk} (h : DiskS B w v d) (hb : Below w.heap.size w w') : DiskS B w' v d := by
  obtain ⟨la, ln, lc, sa, sn, sc, oa, on, oc, hv, h1, h2, h3, h4⟩ := h
  exact ⟨la, ln, lc, sa, sn, sc, oa, on, oc, hv, h1.below hb, h2.below hb, h3.below hb, h4⟩
theorem DiskS.mono {B B' : Nat} {w : World} {v : Value} {d : Dk} (h : DiskS B w v d) (hb : B' ≤ B) : DiskS B' w v d := by
  obtain ⟨la, ln, lc, sa, sn, sc, oa, on, oc, hv, h1, h2, h3, h4⟩ := h
  exact ⟨la, ln, lc, sa, sn, sc, oa, on, oc, hv, h1.mono hb, h2.mono hb, h3.mono hb, h4⟩
theorem DiskS.r {B : Nat} {w : World} {v : Value} {d : Dk} (h : DiskS B w v d) : DiskR B w v d := by
  obtain ⟨la, ln, lc, sa, sn, sc, oa, on, oc, hv, h1, h2, h3, _⟩ := h
  exact ⟨la, ln, lc, sa, sn, sc, oa, on, oc, hv, h1, h2, h3⟩
theorem DiskS.wr {B : Nat} {w : World} {v : Value} {d : Dk} (h : DiskS B w v d) : DiskW B w v d := by
  obtain ⟨la, ln, lc, sa, sn, sc, oa, on, oc, hv, h1, h2, h3, h4⟩ := h
  exact ⟨la, ln, lc, sa, sn, sc, oa, on, oc, hv, h1.wr, h2.wr, h3.wr, h4⟩
theorem DiskS.off {B b : Nat} {w w' : World} {v : Value} {d : Dk} (h : DiskS B w v d) (hg : w.grownBy w' (some b)) (hb : b < B) : DiskS B w' v d := by
  obtain ⟨la, ln, lc, sa, sn, sc, oa, on, oc, hv, h1, h2, h3, h4⟩ := h
  exact ⟨la, ln, lc, sa, sn, sc, oa, on, oc, hv, h1.grown hg (fun ad e => by have := (h1.block ad e).1; omega), h2.grown hg (fun ad e => by have := (h2.block ad e).1; omega), h3.grown hg (fun ad e => by have := (h3.block ad e).1; omega), h4⟩
theorem SlH.zero {α : Type} {cs : α → List Value} {sz : Nat} {w : World} {a : Option Addr} {n cap : Nat} {l : List α} (h : SlH cs sz w a n cap l) : a = none → n = 0 ∧ cap = 0 := fun e => by
  refine ⟨?_, h.nil e⟩
  have hl := h.sl.len
  cases l with
  | nil => simpa using hl.symm
  | cons x r => obtain ⟨b, o, e2, _⟩ := h.sl.cell 0 x rfl; rw [e] at e2; cases e2
end Go.Proofs.YtigldeccfpkdmaaGreatDoor
namespace Go.Proofs.YtigldeccfpkdmaaGreatDoor
open Go.RowKit Go.BigFrame
/-- The slice holds the marks from k0 on. -/
def MarkF (w : World) (a : Option Addr) (n k0 : Nat) : Prop := ∀ j, j < n → ∃ b, a = some ⟨b, 0, none⟩ ∧ w.cell? ⟨b, j * 2, none⟩ = some (.string (markT (k0 + 2 * j))) ∧ w.cell? ⟨b, j * 2 + 1, none⟩ = some (.string (markT (k0 + 2 * j + 1)))
theorem MarkF.below {w w' : World} {a : Option Addr} {n k0 : Nat} (h : MarkF w a n k0) (hb : Below w.heap.size w w') : MarkF w' a n k0 := fun j hj => by
  obtain ⟨b, ha, c0, c1⟩ := h j hj
  exact ⟨b, ha, bcell hb c0, bcell hb c1⟩
theorem MarkF.off {w w' : World} {a : Option Addr} {n k0 : Nat} {row : Option Nat} (h : MarkF w a n k0) (hg : w.grownBy w' row) (hr : 0 < n → ∀ ad, a = some ad → some ad.block ≠ row) : MarkF w' a n k0 := fun j hj => by
  obtain ⟨b, ha, c0, c1⟩ := h j hj
  have hne := hr (by omega) _ ha
  exact ⟨b, ha, hg.cell c0 hne, hg.cell c1 hne⟩
/-- The slice holds the marks from k0 on. -/
def MarkD (w : World) (a : Option Addr) (n k0 : Nat) : Prop := ∀ j, j < n → ∃ b, a = some ⟨b, 0, none⟩ ∧ w.cell? ⟨b, j * 4, none⟩ = some (.int .i64 ((k0 + 4 * j : Nat) : Int)) ∧ w.cell? ⟨b, j * 4 + 1, none⟩ = some (.string (markT (k0 + 4 * j + 1))) ∧ w.cell? ⟨b, j * 4 + 2, none⟩ = some (.string (markT (k0 + 4 * j + 2))) ∧ w.cell? ⟨b, j * 4 + 3, none⟩ = some (.string (markT (k0 + 4 * j + 3)))
theorem MarkD.below {w w' : World} {a : Option Addr} {n k0 : Nat} (h : MarkD w a n k0) (hb : Below w.heap.size w w') : MarkD w' a n k0 := fun j hj => by
  obtain ⟨b, ha, c0, c1, c2, c3⟩ := h j hj
  exact ⟨b, ha, bcell hb c0, bcell hb c1, bcell hb c2, bcell hb c3⟩
theorem MarkD.off {w w' : World} {a : Option Addr} {n k0 : Nat} {row : Option Nat} (h : MarkD w a n k0) (hg : w.grownBy w' row) (hr : 0 < n → ∀ ad, a = some ad → some ad.block ≠ row) : MarkD w' a n k0 := fun j hj => by
  obtain ⟨b, ha, c0, c1, c2, c3⟩ := h j hj
  have hne := hr (by omega) _ ha
  exact ⟨b, ha, hg.cell c0 hne, hg.cell c1 hne, hg.cell c2 hne, hg.cell c3 hne⟩
end Go.Proofs.YtigldeccfpkdmaaGreatDoor
namespace Go.Proofs.YtigldeccfpkdmaaGreatDoor
open Go Go.RowKit Go.BigFrame
/-- All is as it was but what lies from B up to T. -/
structure FrD (B T : Nat) (w w' : World) : Prop where
  os : w'.os = w.os
  tape : w'.tape = w.tape
  output : w'.output = w.output
  size : w.heap.size ≤ w'.heap.size
  block : ∀ k, k < w.heap.size → (k < B ∨ T ≤ k) → w'.heap[k]? = w.heap[k]?
theorem FrD.of {B T : Nat} {w w' : World} (h : Below w.heap.size w w') : FrD B T w w' := ⟨h.os, h.tape, h.output, h.size, fun k hk _ => h.block k hk⟩
theorem FrD.grown {B T : Nat} {w w1 w2 : World} {row : Option Nat} (h : FrD B T w w1) (hg : w1.grownBy w2 row) (hr : ∀ k, row = some k → B ≤ k ∧ k < T) : FrD B T w w2 :=
  ⟨hg.os.trans h.os, hg.tape.trans h.tape, hg.output.trans h.output, Nat.le_trans h.size hg.size, fun k hk hkk => by
    rw [hg.block k (Nat.lt_of_lt_of_le hk h.size) (fun e => by have := hr k e.symm; omega)]
    exact h.block k hk hkk⟩
theorem FrD.low {B T B' : Nat} {w w' : World} (h : FrD B T w w') (hb : B' ≤ B) (hw : B' ≤ w.heap.size) : Below B' w w' := ⟨h.os, h.tape, h.output, h.size, fun k hk => h.block k (by omega) (.inl (by omega))⟩
theorem FrD.blk {B T : Nat} {w w' : World} (h : FrD B T w w') {k : Nat} {c : Array Value} {t : TypeId} (hk : Blk w k c t) (hh : k < B ∨ T ≤ k) : Blk w' k c t := by
  unfold Blk; rw [h.block k hk.lt hh]; exact hk
theorem WrAt.ty {α : Type} {cs : α → List Value} {sz : Nat} {t t' : TypeId} {w w' : World} {B n cap : Nat} {a : Option Addr} {l : List α} {row : Option Nat} (h : WrAt cs sz t w B a n cap l) (hg : w.grownBy w' row) (hr : RowTy w row t') (ht : t ≠ t') : WrAt cs sz t w' B a n cap l := by
  refine h.off hg (fun ad e hc => ?_)
  obtain ⟨c', h'⟩ := hr _ hc.symm
  rcases h.own with ⟨h0, _⟩ | ⟨b, c, ha, _, hb, _⟩
  · rw [h0] at e; cases e
  · rw [ha] at e; cases e; exact ht (blk_type hb h')
theorem WrAt.ne {α β : Type} {cs : α → List Value} {cs' : β → List Value} {sz sz' : Nat} {t t' : TypeId} {w : World} {B n cap B' n' cap' : Nat} {a a' : Option Addr} {l : List α} {l' : List β} (h : WrAt cs sz t w B a n cap l) (h' : WrAt cs' sz' t' w B' a' n' cap' l') (ht : t ≠ t') : ∀ ad ad', a = some ad → a' = some ad' → ad.block ≠ ad'.block := by
  intro ad ad' e e' hh
  rcases h.own with ⟨h0, _⟩ | ⟨b, c, ha, _, hb, _⟩
  · rw [h0] at e; cases e
  · rcases h'.own with ⟨h0, _⟩ | ⟨b', c', ha', _, hb', _⟩
    · rw [h0] at e'; cases e'
    · rw [ha] at e; rw [ha'] at e'
      cases e; cases e'
      simp only at hh
      subst hh
      exact ht (blk_type hb hb')
/-- The disk holds its marks. -/
def MarkDk (w : World) (v : Value) (d : Dk) : Prop := ∃ la ln lc sa sn sc oa on oc, v = .agg #[.slice la ln lc, .slice sa sn sc, .slice oa on oc] ∧ (d.live.length = ln ∧ d.safe.length = sn ∧ d.ops.length = on) ∧ MarkF w la ln 1 ∧ MarkF w sa sn (1 + 2 * ln) ∧ MarkD w oa on (1 + 2 * ln + 2 * sn)
theorem MarkDk.below {w w' : World} {v : Value} {d : Dk} (h : MarkDk w v d) (hb : Below w.heap.size w w') : MarkDk w' v d := by
  obtain ⟨la, ln, lc, sa, sn, sc, oa, on, oc, hv, h0, h1, h2, h3⟩ := h
  exact ⟨la, ln, lc, sa, sn, sc, oa, on, oc, hv, h0, h1.below hb, h2.below hb, h3.below hb⟩
end Go.Proofs.YtigldeccfpkdmaaGreatDoor
namespace Go.Proofs.YtigldeccfpkdmaaGreatDoor
open Go Go.RowKit Go.BigFrame
theorem twoLJ {P : Program} {Q : Exit → Act → World → Prop} {md : Region.Mode} {S : World → Prop} {l : List Oper} {i j : Nat} {o o' : Oper} {fuel : Nat} {listed : Array Bool} {a : Act} {w : World} (hr : Region.ready md l.toArray listed = [i, j]) (hi : l[i]? = some o) (hj : l[j]? = some o')
    (h : ∀ K' : Act → World → Prop, Shut (∀ a w, S w → (S w → wpAnyH P md l.toArray Q S fuel (listed.setIfInBounds i true) a w) → K' a w) → if Region.wanted o (yielded l.toArray a.tmps) = true then Oper.wp P o a w K' Q else K' (a.put o.dst undef) w)
    (h' : ∀ K' : Act → World → Prop, Shut (∀ a w, S w → (S w → wpAnyH P md l.toArray Q S fuel (listed.setIfInBounds j true) a w) → K' a w) → if Region.wanted o' (yielded l.toArray a.tmps) = true then Oper.wp P o' a w K' Q else K' (a.put o'.dst undef) w) :
    wpAnyH P md l.toArray Q S (fuel + 1) listed a w :=
  wpAnyH_ready hr (by simp) (AllReadyH.cons (by simpa using hi) h (AllReadyH.cons (by simpa using hj) h' AllReadyH.nil))
end Go.Proofs.YtigldeccfpkdmaaGreatDoor
