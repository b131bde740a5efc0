/- What is drawn for the laws over pools. What the laws over pools have in common. The laws' marks of texts. The laws' marks in a pool: cells of the same kinds, the slices as they were, nothing else turned. The laws' marks of counts: written into a slice, and held against it. Walked of both; answers that marks leave alone. OwnersOf of both. OnlyOf of the program: a closure that calls itself. Plain facts for the laws over drawn pools: all counts of what is found, together; what is the same is one list. Drawn lists of counts; lists of counts that are the same; what Flushed undoes. -/
import Derived.Test.YtnjefbkhibfgmaaGreatK42
import Derived.Test.YtnjefbkhibfgmaaGreatK09
import Derived.Lib.SmallJoins
import Derived.Test.YtnjefbkhibfgmaaGreatK00
import Derived.Test.YtnjefbkhibfgmaaGreatProg
import Derived.Test.YtnjefbkhibfgmaaGreatK47
import Derived.Laws.BytesArg
import Derived.Test.YtnjefbkhibfgmaaGreatK01
import Derived.Test.YtnjefbkhibfgmaaGreatK06
import Derived.Test.YtnjefbkhibfgmaaGreatK04
import Derived.Laws.EntriesVeiled
import Derived.Test.YtnjefbkhibfgmaaGreatK02
import Derived.Test.YtnjefbkhibfgmaaGreatK45
import Derived.Laws.StructEq
import Derived.Laws.Rows
import Derived.Test.YtnjefbkhibfgmaaGreatK03
import Derived.Test.YtnjefbkhibfgmaaGreatK44
import Derived.Test.YtnjefbkhibfgmaaGreatK38
namespace Go.Proofs.YtnjefbkhibfgmaaGreat
open Go Go.RowKit Go.BigFrame
set_option maxHeartbeats 4000000 in
set_option maxRecDepth 100000 in
theorem spec_DrawWalked (a : Option Addr) (n cap : Nat) (w : World) (h : CodeAt w a n) (hn : n ≤ 1048576) :
    Calls Tryz.prog 7 #[.slice a n cap] w fun e w' => (∃ v p, e = .returned v ∧ PoolT (w.heap.size + 1) w' v p ∧ DimQ p) ∧ Below w.heap.size w w' := by
  go_enter Tryz.func7, Tryz.ntmps7
  go_wp2_with fail
  have hA0 : Below w.heap.size w (w.alloc (.cells #[.int .i64 0, .int .i64 0, .slice none 0 0, .slice none 0 0, .slice none 0 0, .slice none 0 0] 28)) := by go_grown
  have D0 := Blk.new w #[.int .i64 0, .int .i64 0, .slice none 0 0, .slice none 0 0, .slice none 0 0, .slice none 0 0] 28
  have hz0 : (w.alloc (.cells #[.int .i64 0, .int .i64 0, .slice none 0 0, .slice none 0 0, .slice none 0 0, .slice none 0 0] 28)).heap.size = w.heap.size + 1 := by simp
  have h0 := h.below hA0
  generalize w.alloc (.cells #[.int .i64 0, .int .i64 0, .slice none 0 0, .slice none 0 0, .slice none 0 0, .slice none 0 0] 28) = w0 at *
  refine (spec_l1Open a n cap w0 h0 hn).mono ?_
  rintro e w1 ⟨rfl, hR1, hB1⟩
  rw [hz0] at hR1 ⊢
  have D1 := D0.below hB1
  have hC1 := chain hA0 hB1
  have hs1 := hR1.lt
  clear D0 hB1 hA0 h0 hz0 w0
  go_wp2_with fail
  refine (spec_pool (w.heap.size + 1) 14 (by omega) (by omega) _ hR1).mono ?_
  rintro e w2 ⟨⟨v, p, rfl, PT, hd⟩, hR2, hg2⟩
  have PT2 := PT.mono (show w.heap.size + 2 ≤ w1.heap.size by omega)
  obtain ⟨ea, en, ec, va, vn, vc, ra, rn, rc, la, ln, lc, rows, rfl, _⟩ := PT
  have D2 := D1.grown hg2 (by omega)
  have hC2 := below_grown hC1 hg2 (by omega)
  have hs2 := hg2.size
  clear D1 hC1 hg2 hR1
  obtain ⟨x0, x1, x2, x3, x4, x5⟩ := D2.six'
  have f0 := D2.frozen 0
  have f1 := D2.frozen 1
  have f2 := D2.frozen 2
  have f3 := D2.frozen 3
  have f4 := D2.frozen 4
  have f5 := D2.frozen 5
  go_wp2
  obtain ⟨W0, hg0⟩ := set6 D2 (.int .i64 p.size) (.int .i64 p.next) (.slice ea en ec) (.slice va vn vc) (.slice ra rn rc) (.slice la ln lc)
  have PF := (PT2.tyP hg0 (rowTy_blk D2)).mono (show w.heap.size + 1 ≤ w.heap.size + 2 by omega)
  have hCW := below_grown hC2 hg0 (Nat.le_refl _)
  generalize ((((((w2.setCell ⟨w.heap.size, 0, none⟩ (.int .i64 p.size)).setCell ⟨w.heap.size, 1, none⟩ (.int .i64 p.next)).setCell ⟨w.heap.size, 2, none⟩ (.slice ea en ec)).setCell ⟨w.heap.size, 3, none⟩ (.slice va vn vc)).setCell ⟨w.heap.size, 4, none⟩ (.slice ra rn rc)).setCell ⟨w.heap.size, 5, none⟩ (.slice la ln lc)) = W8 at *
  refine bodyPost_ret (results_cell_row rfl _ W8 w.heap.size _ _ _ _ rfl W0 Tryz.underlying28 rfl (by kernel_rfl)) rfl ?_
  exact ⟨⟨_, p, rfl, PF, hd⟩, hCW⟩
end Go.Proofs.YtnjefbkhibfgmaaGreat
namespace Go.Proofs.YtnjefbkhibfgmaaGreat
open Go.RowKit Go.BigFrame
theorem PoolAt.cells {B : Nat} {w : World} {v : Value} {p : Po} (h : PoolAt B w v p) : ∃ ea en ec va vn vc ra rn rc la ln lc, v = .agg #[.int .i64 p.size, .int .i64 p.next, .slice ea en ec, .slice va vn vc, .slice ra rn rc, .slice la ln lc] := by
  obtain ⟨ea, en, ec, va, vn, vc, ra, rn, rc, la, ln, lc, rfl, _⟩ := h
  exact ⟨_, _, _, _, _, _, _, _, _, _, _, _, rfl⟩
/-- The six cells of a block that holds a pool. -/
theorem Blk.six {w : World} {b : Nat} {c0 c1 c2 c3 c4 c5 : Value} {t : TypeId} (h : Blk w b #[c0, c1, c2, c3, c4, c5] t) : w.cell? ⟨b, 0, none⟩ = some c0 ∧ w.cell? ⟨b, 1, none⟩ = some c1 ∧ w.cell? ⟨b, 2, none⟩ = some c2 ∧ w.cell? ⟨b, 3, none⟩ = some c3 ∧ w.cell? ⟨b, 4, none⟩ = some c4 ∧ w.cell? ⟨b, 5, none⟩ = some c5 :=
  ⟨h.cell 0, h.cell 1, h.cell 2, h.cell 3, h.cell 4, h.cell 5⟩
end Go.Proofs.YtnjefbkhibfgmaaGreat
namespace Go.Proofs.YtnjefbkhibfgmaaGreat
open Go.RowKit Go.BigFrame
/-- The digits of k ahead of o. -/
def mtGo (k : Nat) (o : ByteArray) : ByteArray := if k = 0 then o else mtGo (k / 10) (strOfNums [48 + (k : Int) % 10] ++ o)
termination_by k
decreasing_by omega
def markT (k : Nat) : ByteArray := ByteArray.mk #[109] ++ mtGo k .empty
end Go.Proofs.YtnjefbkhibfgmaaGreat
namespace Go.Proofs.YtnjefbkhibfgmaaGreat
open Go.RowKit Go.BigFrame
def SameK : Value → Value → Prop
  | .slice a n c, v' => v' = .slice a n c
  | .int k _, v' => ∃ y, v' = .int k y
  | .string _, v' => ∃ s, v' = .string s
  | .bool _, v' => ∃ b, v' = .bool b
  | _, _ => True
theorem SameK.refl (v : Value) : SameK v v := by cases v <;> simp [SameK]
/-- From w0 on, blocks at B or behind it have kept the kinds of their cells. -/
structure Kp (B : Nat) (w0 w1 : World) : Prop where
  size : w0.heap.size ≤ w1.heap.size
  blk : ∀ b c t, B ≤ b → Blk w0 b c t → ∃ c', Blk w1 b c' t ∧ ∀ (i : Nat) (v : Value), c[i]? = some v → ∃ v', c'[i]? = some v' ∧ SameK v v'
/-- Blocks ahead of B, or at T or behind it, are as they were. -/
structure Fr (B T : Nat) (w w' : World) : Prop where
  size : w.heap.size ≤ w'.heap.size
  blk : ∀ b, b < w.heap.size → (b < B ∨ T ≤ b) → w'.heap[b]? = w.heap[b]?
  os : w'.os = w.os
  tape : w'.tape = w.tape
  output : w'.output = w.output
theorem Kp.below {B : Nat} {w0 w1 w2 : World} (h : Kp B w0 w1) (hb : Below w1.heap.size w1 w2) : Kp B w0 w2 := ⟨Nat.le_trans h.size hb.size, fun b c t h0 h1 => by
  obtain ⟨c', h2, h3⟩ := h.blk b c t h0 h1
  exact ⟨c', h2.below hb, h3⟩⟩
theorem Kp.set {B b j : Nat} {w0 w1 : World} {c : Array Value} {t : TypeId} {v x : Value} (h : Kp B w0 w1) (hb : Blk w0 b c t) (hv : w0.cell? ⟨b, j, none⟩ = some v) (hk : SameK v x) : Kp B w0 (w1.setCell ⟨b, j, none⟩ x) :=
  ⟨by simpa using h.size, fun b' c' t' h0 h1 => by
    obtain ⟨d, h2, h3⟩ := h.blk b' c' t' h0 h1
    by_cases e : b' = b
    · subst e
      refine ⟨_, h2.set j x, fun i u hu => ?_⟩
      obtain ⟨u', hu', hk'⟩ := h3 i u hu
      by_cases ei : j = i
      · subst ei
        have hin : j < d.size := (Array.getElem?_eq_some_iff.1 hu').1
        refine ⟨x, by simp [hin], ?_⟩
        have : w0.cell? ⟨b', j, none⟩ = some u := by rw [h1.cell]; exact hu
        rw [hv] at this
        obtain rfl := Option.some.inj this
        exact hk
      · exact ⟨u', by rw [Array.getElem?_setIfInBounds_ne ei]; exact hu', hk'⟩
    · exact ⟨d, h2.other ⟨b, j, none⟩ x e, h3⟩⟩
/-- A cell that may be marked. -/
theorem Kp.at {B b o j : Nat} {w0 w1 : World} {v : Value} (h : Kp B w0 w1) (hB : 0 < B) (sf : Sf B w0 (some ⟨b, o, none⟩)) (hv : w0.cell? ⟨b, j, none⟩ = some v) :
    (∃ c t, Blk w0 b c t) ∧ B ≤ b ∧ b < w0.heap.size ∧ w1.frozen? ⟨b, j, none⟩ = false ∧ ∃ v', w1.cell? ⟨b, j, none⟩ = some v' ∧ SameK v v' := by
  obtain ⟨h1, c, t, h2⟩ := sf hB _ rfl
  obtain ⟨c', h3, h4⟩ := h.blk b c t h1 h2
  rw [h2.cell] at hv
  obtain ⟨v', h5, h6⟩ := h4 j v hv
  exact ⟨⟨c, t, h2⟩, h1, h2.lt, h3.frozen j, v', by rw [h3.cell]; exact h5, h6⟩
theorem Fr.refl (B T : Nat) (w : World) : Fr B T w w := ⟨Nat.le_refl _, fun _ _ _ => rfl, rfl, rfl, rfl⟩
theorem Fr.below {B T : Nat} {w w1 w2 : World} (h : Fr B T w w1) (hb : Below w1.heap.size w1 w2) : Fr B T w w2 := ⟨Nat.le_trans h.size hb.size, fun b h0 h1 => by
  rw [hb.block b (Nat.lt_of_lt_of_le h0 h.size), h.blk b h0 h1], by rw [hb.os, h.os], by rw [hb.tape, h.tape], by rw [hb.output, h.output]⟩
theorem Fr.trans {B T : Nat} {w w1 w2 : World} (h : Fr B T w w1) (h' : Fr B T w1 w2) : Fr B T w w2 := ⟨Nat.le_trans h.size h'.size, fun b h0 h1 => by
  rw [h'.blk b (Nat.lt_of_lt_of_le h0 h.size) h1, h.blk b h0 h1], by rw [h'.os, h.os], by rw [h'.tape, h.tape], by rw [h'.output, h.output]⟩
theorem Fr.set {B T b j : Nat} {w w1 : World} {x : Value} (h : Fr B T w w1) (hB : B ≤ b) (hT : b < T) : Fr B T w (w1.setCell ⟨b, j, none⟩ x) :=
  ⟨by simpa using h.size, fun b' h0 h1 => by rw [Below.heap_setCell _ _ _ _ (by show b' ≠ b; omega)]; exact h.blk b' h0 h1, h.os, h.tape, h.output⟩
end Go.Proofs.YtnjefbkhibfgmaaGreat
namespace Go.Proofs.YtnjefbkhibfgmaaGreat
open Go.RowKit Go.BigFrame
/-- The slice holds the marks. -/
def MarkC (w : World) (a : Option Addr) (n : Nat) : Prop := ∀ j, j < n → ∃ b, a = some ⟨b, 0, none⟩ ∧ w.cell? ⟨b, j * 4, none⟩ = some (.int .i64 (1 + 4 * (j : Int))) ∧ w.cell? ⟨b, j * 4 + 1, none⟩ = some (.int .i64 (1 + 4 * (j : Int) + 1)) ∧ w.cell? ⟨b, j * 4 + 2, none⟩ = some (.string (markT (3 + 4 * j))) ∧ w.cell? ⟨b, j * 4 + 3, none⟩ = some (.int .i64 (1 + 4 * (j : Int) + 1 + 1 + 1))
theorem MarkC.below {w w' : World} {a : Option Addr} {n : Nat} (h : MarkC w a n) (hb : Below w.heap.size w w') : MarkC w' a n := fun j hj => by
  obtain ⟨b, ha, h0, h1, h2, h3⟩ := h j hj
  exact ⟨b, ha, bcell hb h0, bcell hb h1, bcell hb h2, bcell hb h3⟩
end Go.Proofs.YtnjefbkhibfgmaaGreat
namespace Go.Proofs.YtnjefbkhibfgmaaGreat
open Go.RowKit Go.BigFrame
theorem ResAt.same {α : Type} {cs : α → List Value} {sz : Nat} {t : TypeId} {w w' : World} {B n cap : Nat} {a : Option Addr} {l : List α} (h : ResAt cs sz t w B a n cap l) (he : ∀ ad, a = some ad → w'.heap[ad.block]? = w.heap[ad.block]?) : ResAt cs sz t w' B a n cap l := by
  have hcell : ∀ b o, a = some ⟨b, o, none⟩ → ∀ j, w'.cell? ⟨b, j, none⟩ = w.cell? ⟨b, j, none⟩ := fun b o ha j => by
    have := he _ ha
    simp only [World.cell?]
    rw [this]
  refine ⟨⟨h.sl.len, fun i x hx => ?_⟩, ?_⟩
  · obtain ⟨b, o, ha, hc⟩ := h.sl.cell i x hx
    exact ⟨b, o, ha, fun j v hv => by rw [hcell b o ha]; exact hc j v hv⟩
  · rcases h.own with h0 | ⟨b, ha, hB, h1, h2, c, hc, q⟩
    · exact .inl h0
    · exact .inr ⟨b, ha, hB, h1, h2, c, (he _ ha).trans hc, q⟩
theorem Fr.blkAt {w w' : World} {B0 T b : Nat} {c : Array Value} {t : TypeId} (hF : Fr B0 T w w') (h : Blk w b c t) (hb : b < B0 ∨ T ≤ b) : Blk w' b c t := (hF.blk _ h.lt hb).trans h
theorem addC_lenB (c : Ct) : ∀ (l : List Ct), (addC l c).length ≤ l.length + 1
  | [] => by simp [addC]
  | y :: r => by
    have := addC_lenB c r
    unfold addC
    split
    · simp only [List.length_cons]; omega
    · split
      · split
        · simp only [List.length_cons]; omega
        · simp only [List.length_cons]; omega
      · simp only [List.length_cons]; omega
theorem sumC_lenB : ∀ (m l : List Ct), (sumC l m).length ≤ l.length + m.length
  | [], l => Nat.le_refl _
  | c :: r, l => by
    have h1 := sumC_lenB r (addC l c)
    have h2 := addC_lenB c l
    show (sumC (addC l c) r).length ≤ _
    simp only [List.length_cons]
    omega
theorem flat_le {α β : Type} (f : α → List β) (k : Nat) : ∀ (l : List α), (∀ x ∈ l, (f x).length ≤ k) → (l.flatMap f).length ≤ l.length * k
  | [], _ => by simp
  | x :: r, h => by
    have h1 := h x (by simp)
    have h2 := flat_le f k r (fun y hy => h y (by simp [hy]))
    rw [List.flatMap_cons, List.length_append, List.length_cons, Nat.add_mul]
    omega
theorem walk480 {l : List Vo} (h : TinyV l) : (walkL l).length ≤ 480 := by
  have h1 := sumC_lenB (allCs l) []
  have hv : ∀ v ∈ l, (volCs v).length ≤ 80 := fun v hv => by
    have hi : ∀ x ∈ v.its, (partCs v.id x.nm x.ps).length ≤ 16 := fun x hx => by
      unfold partCs
      rw [List.length_map]
      exact Nat.le_trans (List.length_filter_le _ _) ((h.2 v hv).2 x hx).1
    have := flat_le _ 16 v.its hi
    have h5 := (h.2 v hv).1
    unfold volCs
    omega
  have h2 := flat_le volCs 80 l hv
  have h6 := h.1
  unfold walkL
  unfold allCs at h1 ⊢
  simp only [List.length_nil] at h1
  omega
/-- What is found in a right pool. -/
def walkedL (p : Po) : List Ct := if poolB p = true then walkL p.vs else []
set_option maxHeartbeats 2000000 in
set_option maxRecDepth 100000 in
theorem spec_Walked (B : Nat) (hB0 : 0 < B) (v : Value) (p : Po) (w : World) (h : PoolAt B w v p) (hd : DimP p) :
    Calls Tryz.prog 10 #[v] w fun e w' => (∃ a n cap, e = .returned (.slice a n cap) ∧ n ≤ 480 ∧ ResAt Ct.cs 4 38 w' w.heap.size a n cap (walkedL p)) ∧ Below w.heap.size w w' := by
  obtain ⟨ea, en, ec, va, vn, vc, ra, rn, rc, la, ln, lc, rfl, hrest⟩ := h
  have h : PoolAt B w (.agg #[.int .i64 p.size, .int .i64 p.next, .slice ea en ec, .slice va vn vc, .slice ra rn rc, .slice la ln lc]) p := ⟨ea, en, ec, va, vn, vc, ra, rn, rc, la, ln, lc, rfl, hrest⟩
  have h2 := hrest.2.1.1
  clear hrest
  have C := (Blk.new w #[.int .i64 p.size, .int .i64 p.next, .slice ea en ec, .slice va vn vc, .slice ra rn rc, .slice la ln lc] 28)
  have hBw : Below w.heap.size w (w.alloc (.cells #[.int .i64 p.size, .int .i64 p.next, .slice ea en ec, .slice va vn vc, .slice ra rn rc, .slice la ln lc] 28)) := by go_grown
  have hT : Hid (poolB p = true → walkedL p = walkL p.vs) := fun e => by simp [walkedL, e]
  have hF : Hid (poolB p = false → walkedL p = []) := fun e => by simp [walkedL, e]
  have hty := fun e : poolB p = true => tiny_of (poolB_vs e).1 (poolB_vs e).2.1
  generalize walkedL p = R at *
  go_enter Tryz.func10, Tryz.ntmps10
  go_wp2_with fail
  generalize w.alloc (.cells #[.int .i64 p.size, .int .i64 p.next, .slice ea en ec, .slice va vn vc, .slice ra rn rc, .slice la ln lc] 28) = W0 at *
  refine (spec_PoolOk B hB0 _ p _ (h.below hBw) hd).mono ?_
  rintro e w1 ⟨rfl, hB1⟩
  have C1 := C.below hB1
  replace hB1 := chain hBw hB1
  clear C hBw
  cases hpk : poolB p
  · have hR := hF.out hpk
    subst hR
    clear hpk hT hF hty
    have hs1 := hB1.size
    go_wp2
    go_returns
    exact ⟨⟨_, 0, 0, rfl, by omega, res_empty (Blk.new' w1 _ _ _ rfl) hs1⟩, hB1.alloc hs1 _⟩
  · have hR := hT.out hpk
    subst hR
    have hty' := hty hpk
    clear hpk hT hF hty
    have d3 := C1.cell 3
    simp only [lgA, lgB, lgC] at d3
    go_wp2_with fail
    refine (spec_l4Walked B va vn vc p.vs _ (h2.below hB1) hty').mono ?_
    rintro e w2 ⟨⟨a2, n2, cap2, rfl, hn2, R2⟩, hB2⟩
    have hs1 := hB1.size
    replace hB2 := chain hB1 hB2
    go_wp2
    go_returns
    exact ⟨⟨a2, n2, cap2, rfl, by rw [← R2.sl.len]; exact walk480 hty', R2.mono hs1⟩, hB2⟩
set_option maxHeartbeats 2000000 in
set_option maxRecDepth 100000 in
theorem impl_Walked (B : Nat) (v : Value) (p : Po) (w : World) (h : PoolAt B w v p) (hd : DimP p) :
    Calls Tryz.prog 8 #[v] w fun e w' => (∃ a n cap, e = .returned (.slice a n cap) ∧ n ≤ 480 ∧ ResAt Ct.cs 4 38 w' w.heap.size a n cap (walkedL p)) ∧ Below w.heap.size w w' := by
  obtain ⟨ea, en, ec, va, vn, vc, ra, rn, rc, la, ln, lc, rfl, hrest⟩ := h
  have h : PoolAt B w (.agg #[.int .i64 p.size, .int .i64 p.next, .slice ea en ec, .slice va vn vc, .slice ra rn rc, .slice la ln lc]) p := ⟨ea, en, ec, va, vn, vc, ra, rn, rc, la, ln, lc, rfl, hrest⟩
  have h2 := hrest.2.1.1
  have z3 := hd.2.2.1
  have z4 := hd.2.2.2.1
  rw [h2.len] at z3
  clear hrest
  obtain ⟨pb, po, hpb⟩ : ∃ pb po, 0 < vn → va = some ⟨pb, po, none⟩ := by
    by_cases h0 : 0 < vn
    · obtain ⟨b, o, _, _, _, _, hv, _⟩ := vs_at h2 h0
      exact ⟨b, o, fun _ => hv⟩
    · exact ⟨0, 0, fun h => absurd h h0⟩
  have C := (Blk.new w #[.int .i64 p.size, .int .i64 p.next, .slice ea en ec, .slice va vn vc, .slice ra rn rc, .slice la ln lc] 28)
  have hBw : Below w.heap.size w (w.alloc (.cells #[.int .i64 p.size, .int .i64 p.next, .slice ea en ec, .slice va vn vc, .slice ra rn rc, .slice la ln lc] 28)) := by go_grown
  have hT : Hid (poolB p = true → walkedL p = walkL p.vs) := fun e => by simp [walkedL, e]
  have hF : Hid (poolB p = false → walkedL p = []) := fun e => by simp [walkedL, e]
  have hpv := fun e : poolB p = true => poolB_vs e
  generalize walkedL p = R at *
  go_enter Tryz.func8, Tryz.ntmps8
  go_wp2_with fail
  generalize w.alloc (.cells #[.int .i64 p.size, .int .i64 p.next, .slice ea en ec, .slice va vn vc, .slice ra rn rc, .slice la ln lc] 28) = W0 at *
  refine (impl_PoolOk B _ p _ (h.below hBw) hd).mono ?_
  rintro e w1 ⟨rfl, hB1⟩
  have C1 := C.below hB1
  replace hB1 := chain hBw hB1
  clear C hBw
  cases hpk : poolB p
  · have hR := hF.out hpk
    subst hR
    clear hpk hT hF hpv
    go_wp2
    go_returns
    exact ⟨⟨none, 0, 0, rfl, by omega, res_nil⟩, hB1⟩
  · have hR := hT.out hpk
    subst hR
    obtain ⟨q1, q2, q3, q4, q5⟩ := hpv hpk
    clear hpk hT hF hpv
    obtain ⟨d0, d1, d2, d3, d4, d5⟩ := C1.six
    go_wp2_with fail
    refine (impl_volumesOf B p.size p.next ea en ec va vn vc ra rn rc la ln lc p.vs pb po hpb _ (h2.below hB1) z3 z4).mono ?_
    rintro e w2 ⟨⟨mb, D, rfl, hmb, hO, hV⟩, hB2⟩
    replace hB2 := chain hB1 hB2
    clear d0 d1 d2 d3 d4 d5 C1 hB1
    go_wp2_with fail
    refine (impl_found B mb pb po D va vn p.vs hpb _ hO hV q5 (h2.below hB2) (tiny_of q1 q2) (wfV_of q3 q2)).mono ?_
    rintro e w3 ⟨⟨a3, n3, cap3, rfl, hn3, R3⟩, hB3⟩
    have hs2 := hB2.size
    replace hB3 := chain hB2 hB3
    go_wp2
    go_returns
    exact ⟨⟨a3, n3, cap3, rfl, hn3, R3.mono hs2⟩, hB3⟩
end Go.Proofs.YtnjefbkhibfgmaaGreat
namespace Go.Proofs.YtnjefbkhibfgmaaGreat
open Go.RowKit Go.BigFrame
theorem poolB_fl {p : Po} (h : poolB p = true) : flushedO p.rf p.lt = some (sumC p.rf p.lt) ∧ refsOkB p.rf = true ∧ lateOkB p.lt = true := by
  simp only [poolB, Bool.and_eq_true] at h
  have h1 := h.1.2
  unfold flushedO at h1 ⊢
  split at h1
  · rename_i hh
    split at hh
    · split at hh <;> cases h1
    · cases h1
  · rename_i s hh
    split at hh
    · rename_i h2
      split at hh
      · rename_i h3
        rw [if_pos h2, if_pos h3]
        exact ⟨rfl, h2⟩
      · cases hh
    · cases hh
end Go.Proofs.YtnjefbkhibfgmaaGreat
namespace Go.Proofs.YtnjefbkhibfgmaaGreat
open Go.RowKit Go.BigFrame
/-- What the closure has at hand. -/
structure EnvO (w : World) (pbx vbx kbx : Nat) (fv : Value) (ea : Option Addr) (en ec : Nat) (ex : List Ex) (b o : Nat) (id : Int) : Prop where
  p : w.cell? ⟨pbx, 2, none⟩ = some (.slice ea en ec)
  ex : ExsAt w ea en ex
  v : w.cell? ⟨vbx, 0, none⟩ = some (.pointer (some ⟨b, o, none⟩))
  id : w.cell? ⟨b, o, none⟩ = some (.int .i64 id)
  k : w.cell? ⟨kbx, 0, none⟩ = some fv
theorem EnvO.below {w w' : World} {pbx vbx kbx : Nat} {fv : Value} {ea : Option Addr} {en ec : Nat} {ex : List Ex} {b o : Nat} {id : Int} (h : EnvO w pbx vbx kbx fv ea en ec ex b o id) (hb : Below w.heap.size w w') : EnvO w' pbx vbx kbx fv ea en ec ex b o id :=
  ⟨bcell hb h.p, h.ex.below hb, bcell hb h.v, bcell hb h.id, bcell hb h.k⟩
end Go.Proofs.YtnjefbkhibfgmaaGreat
namespace Go.Proofs.YtnjefbkhibfgmaaGreat
open Go.RowKit Go.BigFrame
/-- All counts together. -/
def sumAll : List Ct → Int
  | [] => 0
  | c :: r => c.n + sumAll r
theorem sumAll_addC (c : Ct) : ∀ l : List Ct, sumAll (addC l c) = sumAll l + c.n
  | [] => by simp [addC, sumAll]
  | x :: r => by
    unfold addC
    split
    · simp only [sumAll, sumAll_addC c r]; omega
    · split
      · split
        · simp only [sumAll]; omega
        · rename_i h
          have : x.n + c.n = 0 := Classical.byContradiction h
          simp only [sumAll]; omega
      · simp only [sumAll]; omega
theorem sumAll_sumC : ∀ (m l : List Ct), sumAll (sumC l m) = sumAll l + sumAll m
  | [], l => by simp [sumC, sumAll]
  | c :: r, l => by
    have e : sumC l (c :: r) = sumC (addC l c) r := rfl
    rw [e, sumAll_sumC r, sumAll_addC]
    simp only [sumAll]; omega
theorem sumAll_ones : ∀ {l : List Ct}, (∀ c ∈ l, c.n = 1) → sumAll l = l.length
  | [], _ => rfl
  | c :: r, h => by
    have ih := sumAll_ones (l := r) (fun d hd => h d (by simp [hd]))
    have h1 := h c (by simp)
    simp only [sumAll, List.length_cons]
    omega
/-- What is found has, all together, as many counts as parts name an extent. -/
theorem sum_walk (l : List Vo) : sumAll (walkL l) = (allCs l).length := by
  unfold walkL
  rw [sumAll_sumC, sumAll_ones (one_all l)]
  simp [sumAll]
theorem eqCt_iff {p q : Ct} (h : eqCt p q = true) : p = q := by
  unfold eqCt at h
  simp only [Bool.and_eq_true, beq_iff_eq] at h
  obtain ⟨o, n⟩ := p
  obtain ⟨o', n'⟩ := q
  simp only at h
  rw [owEq_iff.1 h.1, h.2]
theorem eqCts_iff : ∀ {l m : List Ct}, eqCts l m = true → l = m
  | [], [], _ => rfl
  | [], _ :: _, h => by simp [eqCts] at h
  | _ :: _, [], h => by simp [eqCts] at h
  | x :: r, y :: s, h => by
    simp only [eqCts, Bool.and_eq_true] at h
    rw [eqCt_iff h.1, eqCts_iff h.2]
/-- In a right pool what is found is what is counted, with what is late. -/
theorem pool_walk {p : Po} (h : poolB p = true) : sumC p.rf p.lt = walkL p.vs := by
  have h1 := (poolB_fl h).1
  simp only [poolB, Bool.and_eq_true] at h
  have h2 := h.1.2
  rw [h1] at h2
  exact eqCts_iff h2
end Go.Proofs.YtnjefbkhibfgmaaGreat
namespace Go.Proofs.YtnjefbkhibfgmaaGreat
open Go.RowKit Go.BigFrame
theorem eqO_in (o : Ow) (w : World) : (Op.equalIn 9999 36 (.agg #[.int .i64 o.a, .int .i64 o.v, .string o.f]) (.agg #[.int .i64 o.a, .int .i64 o.v, .string o.f])).run Tryz.prog w = .ok true w := by
  have u2 := Tryz.underlying2
  have u9 := Tryz.underlying9
  have a2 := Tryz.isAgg2
  have a9 := Tryz.isAgg9
  have z2 := Tryz.sizeOf2
  have z9 := Tryz.sizeOf9
  have hS : Tryz.prog.underlying 36 = some (.struct (Tryz.prog.fieldsOf 36)) := by kernel_rfl
  have hp : Tryz.prog.stoodInHeld 36 = false := by kernel_rfl
  rw [show (9999 : Nat) = 9998 + 1 from rfl, run_equalIn_agg w 9998 36 _ _ hS hp]
  simp only [Program.fieldsOf, Tryz.underlying36]
  clear hS hp
  go_simp
theorem neqC (p : Ct) (w : World) : (binOp .neq 38 (.agg #[.int .i64 p.o.a, .int .i64 p.o.v, .string p.o.f, .int .i64 p.n]) (.agg #[.int .i64 p.o.a, .int .i64 p.o.v, .string p.o.f, .int .i64 p.n])).run Tryz.prog w = .ok (.bool false) w := by
  have he := eqO_in p.o
  have u2 := Tryz.underlying2
  have a2 := Tryz.isAgg2
  have z2 := Tryz.sizeOf2
  have hz := Tryz.sizeOf36
  have ha := Tryz.isAgg36
  have hS : Tryz.prog.underlying 38 = some (.struct (Tryz.prog.fieldsOf 38)) := by kernel_rfl
  have hp : Tryz.prog.stoodInHeld 38 = false := by kernel_rfl
  rw [run_neq_struct, show (10000 : Nat) = 9999 + 1 from rfl, run_equalIn_agg w 9999 38 _ _ hS hp]
  simp only [Program.fieldsOf, Tryz.underlying38]
  clear hS hp
  go_simp
set_option maxHeartbeats 1000000 in
theorem laws_sameCounts (a : Option Addr) (n cap : Nat) (l : List Ct) (a' : Option Addr) (n' cap' : Nat) (w : World) (h : CtsAt w a n l) (h' : CtsAt w a' n' l) (hn : n ≤ 4194304) :
    Calls Tryz.prog 9 #[.slice a n cap, .slice a' n' cap'] w fun e w' => e = .returned (.bool true) ∧ Below w.heap.size w w' := by
  obtain rfl : n = n' := by rw [← h.len, ← h'.len]
  have hbn : ((n : Int) != (n : Int)) = false := by simp
  go_enter Tryz.func9, Tryz.ntmps9
  go_wp2_with fail
  go_loopw [5] (fun ix wr => ∃ (k : Nat), k ≤ n ∧ ix = .int .i64 k ∧ Below w.heap.size w wr) (fun ix _ => n - (intOf ix).toNat)
  case atStart => exact ⟨0, Nat.zero_le _, rfl, Below.refl _ _⟩
  case round =>
    obtain ⟨k, hk, rfl, hB⟩ := hrel
    by_cases hlt : k < n
    · obtain ⟨b, o, p, rfl, hp, c0, c1, c2, c3⟩ := cts_at (h.below hB) hlt
      obtain ⟨b', o', q, rfl, hq, d0, d1, d2, d3⟩ := cts_at (h'.below hB) hlt
      rw [hp] at hq
      obtain rfl := Option.some.inj hq
      have hk1 : (k : Int) < n := by omega
      have hk2 : (0 : Int) ≤ k := by omega
      have hne := neqC p
      clear hp hq
      go_wp2_with fail
      go_quiet (fail)
      have hB2 := below_drewN hB nq
      go_wp2
      go_roundw
      case rel => exact ⟨k + 1, by omega, by go_num, hB2⟩
      case measure => simp [intOf]; omega
    · obtain rfl : k = n := by omega
      go_wp2
      go_returns
      exact ⟨rfl, hB⟩
end Go.Proofs.YtnjefbkhibfgmaaGreat
