/- The order of owners: cmp.Compare, cmp.Or, ownerOrder, OwnerAhead of the program; OwnerAhead of the model. ownerOrder, OwnerAhead. The gaps of a space, told by a range over a function: the iterator of the program. RoomOf of the program and of the model. The laws' comparison of two lists of parts. The row in the making: (*row).add. The model's l2Add. Answers' blocks, and what is kept while one of them is written. The gaps of the model: l1Gaps, GapsOf. -/
import Derived.Test.YtigldeccfpkdmaaGreatDoorProg
import Derived.Test.YtigldeccfpkdmaaGreatDoorCSuperTextx04
import Derived.Test.YtigldeccfpkdmaaGreatDoorCSuperTextx01
import Derived.RangeFuncNested
import Derived.RangeFuncBound
import Derived.RangeFuncCalls
import Derived.RangeFuncLeaves
import Derived.RangeFuncBox
import Derived.Shelf.Abstract
import Derived.Shelf.RegionOpen
import Derived.WalkKit
import Derived.OwnWalkIn
import Derived.TacticsInMore
import Derived.LoopNIn
import Derived.LoopIn
import Derived.RangeFuncFrom
import Derived.Test.YtigldeccfpkdmaaGreatDoorCSuperTextx02
import Derived.Test.YtigldeccfpkdmaaGreatDoorCSuperTextx03
import Derived.StillTailTactics
import Derived.Maps.AppendAt
namespace Go.Proofs.YtigldeccfpkdmaaGreatDoor
open Go.RowKit Go.BigFrame
theorem cmp_isNaN_int (x : Int) (w : World) :
    Calls Tryz.prog 270 #[.int .i64 x] w fun e w' => e = .returned (.bool false) ∧ w' = w := by
  have hx : (x != x) = false := by simp
  go_enter Tryz.func270, Tryz.ntmps270
  go_wp2
  go_returns
  go_light
  exact ⟨by simp, rfl⟩
theorem cmp_isNaN_str (x : ByteArray) (w : World) :
    Calls Tryz.prog 271 #[.string x] w fun e w' => e = .returned (.bool false) ∧ w' = w := by
  go_enter Tryz.func271, Tryz.ntmps271
  go_wp2
  go_returns
  go_light
  exact ⟨by simp, rfl⟩
theorem cmp_Compare_int (x y : Int) (w : World) :
    Calls Tryz.prog 239 #[.int .i64 x, .int .i64 y] w fun e w' => e = .returned (.int .i64 (cmpI x y)) ∧ w' = w := by
  go_enter Tryz.func239, Tryz.ntmps239
  go_wp2_with fail
  refine (cmp_isNaN_int _ _).mono ?_
  rintro e w1 ⟨rfl, rfl⟩
  go_wp2_with fail
  refine (cmp_isNaN_int _ _).mono ?_
  rintro e w1 ⟨rfl, rfl⟩
  go_wp2
  all_goals go_returns
  all_goals go_light
  all_goals refine ⟨ret_int ?_, rfl⟩
  all_goals simp [cmpI]
  all_goals omega
theorem cmp_Compare_str (x y : ByteArray) (w : World) :
    Calls Tryz.prog 240 #[.string x, .string y] w fun e w' => e = .returned (.int .i64 (cmpS x y)) ∧ w' = w := by
  go_enter Tryz.func240, Tryz.ntmps240
  go_wp2_with fail
  refine (cmp_isNaN_str _ _).mono ?_
  rintro e w1 ⟨rfl, rfl⟩
  go_wp2_with fail
  refine (cmp_isNaN_str _ _).mono ?_
  rintro e w1 ⟨rfl, rfl⟩
  go_wp2
  all_goals go_returns
  all_goals go_light
  all_goals refine ⟨ret_int ?_, rfl⟩
  all_goals simp_all [cmpS, bl]
theorem cmp_Or3 (x y z : Int) (b : Nat) (cap : Nat) (w : World) (h0 : w.cell? ⟨b, 0, none⟩ = some (.int .i64 x)) (h1 : w.cell? ⟨b, 1, none⟩ = some (.int .i64 y)) (h2 : w.cell? ⟨b, 2, none⟩ = some (.int .i64 z)) :
    Calls Tryz.prog 238 #[.slice (some ⟨b, 0, none⟩) 3 cap] w fun e w' => e = .returned (.int .i64 (or3 x y z)) ∧ w' = w := by
  by_cases hx : x = 0
  · have hx' : (x != 0) = false := by simp [hx]
    by_cases hy : y = 0
    · have hy' : (y != 0) = false := by simp [hy]
      by_cases hz : z = 0
      · have hz' : (z != 0) = false := by simp [hz]
        have hf : Hid (or3 x y z = 0) := by show _ = _; simp [or3, hx, hy, hz]
        clear hx hy hz
        go_enter Tryz.func238, Tryz.ntmps238
        go_wp2_with fail
        go_rounds 4
        go_returns
        go_light
        exact ⟨ret_int hf.out.symm, rfl⟩
      · have hz' : (z != 0) = true := by simp [hz]
        have hf : Hid (or3 x y z = z) := by show _ = _; simp [or3, hx, hy]
        clear hx hy hz
        go_enter Tryz.func238, Tryz.ntmps238
        go_wp2_with fail
        go_rounds 3
        go_returns
        go_light
        exact ⟨ret_int hf.out.symm, rfl⟩
    · have hy' : (y != 0) = true := by simp [hy]
      have hf : Hid (or3 x y z = y) := by show _ = _; simp [or3, hx, hy]
      clear hx hy
      go_enter Tryz.func238, Tryz.ntmps238
      go_wp2_with fail
      go_rounds 2
      go_returns
      go_light
      exact ⟨ret_int hf.out.symm, rfl⟩
  · have hx' : (x != 0) = true := by simp [hx]
    have hf : Hid (or3 x y z = x) := by show _ = _; simp [or3, hx]
    clear hx
    go_enter Tryz.func238, Tryz.ntmps238
    go_wp2_with fail
    go_rounds 1
    go_returns
    go_light
    exact ⟨ret_int hf.out.symm, rfl⟩
end Go.Proofs.YtigldeccfpkdmaaGreatDoor
namespace Go.Proofs.YtigldeccfpkdmaaGreatDoor
open Go.RowKit Go.BigFrame
theorem new3 (w : World) (x y z : Value) (t : TypeId) : (w.alloc (.cells #[x, y, z] t)).drew.cell? ⟨w.heap.size, 0, none⟩ = some x ∧ (w.alloc (.cells #[x, y, z] t)).drew.cell? ⟨w.heap.size, 1, none⟩ = some y ∧ (w.alloc (.cells #[x, y, z] t)).drew.cell? ⟨w.heap.size, 2, none⟩ = some z :=
  ⟨World.cell?_alloc_new _ _ _ 0, World.cell?_alloc_new _ _ _ 1, World.cell?_alloc_new _ _ _ 2⟩
set_option maxHeartbeats 1000000 in
theorem impl_ownerOrder (p q : Ow) (w : World) :
    Calls Tryz.prog 208 #[.agg #[.int .i64 p.a, .int .i64 p.v, .string p.f], .agg #[.int .i64 q.a, .int .i64 q.v, .string q.f]] w fun e w' => e = .returned (.int .i64 (ordO p q)) ∧ Below w.heap.size w w' := by
  have hfin : Hid (ordO p q = or3 (cmpI p.a q.a) (cmpI p.v q.v) (cmpS p.f q.f)) := rfl
  generalize ordO p q = R at *
  obtain ⟨a, v, f⟩ := p
  obtain ⟨b, u, g⟩ := q
  simp only at hfin
  go_enter Tryz.func208, Tryz.ntmps208
  go_wp2_with fail
  have x0 : ((w.alloc (.cells #[.int .i64 a, .int .i64 v, .string f] 132)).alloc (.cells #[.int .i64 b, .int .i64 u, .string g] 132)).cell? ⟨w.heap.size, 0, none⟩ = some (.int .i64 a) := acell _ (by simp)
  have x1 : ((w.alloc (.cells #[.int .i64 a, .int .i64 v, .string f] 132)).alloc (.cells #[.int .i64 b, .int .i64 u, .string g] 132)).cell? ⟨w.heap.size, 1, none⟩ = some (.int .i64 v) := acell _ (by simp)
  have x2 : ((w.alloc (.cells #[.int .i64 a, .int .i64 v, .string f] 132)).alloc (.cells #[.int .i64 b, .int .i64 u, .string g] 132)).cell? ⟨w.heap.size, 2, none⟩ = some (.string f) := acell _ (by simp)
  have y0 : ((w.alloc (.cells #[.int .i64 a, .int .i64 v, .string f] 132)).alloc (.cells #[.int .i64 b, .int .i64 u, .string g] 132)).cell? ⟨w.heap.size + 1, 0, none⟩ = some (.int .i64 b) := by simp
  have y1 : ((w.alloc (.cells #[.int .i64 a, .int .i64 v, .string f] 132)).alloc (.cells #[.int .i64 b, .int .i64 u, .string g] 132)).cell? ⟨w.heap.size + 1, 1, none⟩ = some (.int .i64 u) := by simp
  have y2 : ((w.alloc (.cells #[.int .i64 a, .int .i64 v, .string f] 132)).alloc (.cells #[.int .i64 b, .int .i64 u, .string g] 132)).cell? ⟨w.heap.size + 1, 2, none⟩ = some (.string g) := by simp
  have hB0 : Below w.heap.size w ((w.alloc (.cells #[.int .i64 a, .int .i64 v, .string f] 132)).alloc (.cells #[.int .i64 b, .int .i64 u, .string g] 132)) := by go_grown
  generalize (w.alloc (.cells #[.int .i64 a, .int .i64 v, .string f] 132)).alloc (.cells #[.int .i64 b, .int .i64 u, .string g] 132) = W0 at *
  go_region_held3 (fun u' => u'.cell? ⟨w.heap.size, 0, none⟩ = some (.int .i64 a) ∧ u'.cell? ⟨w.heap.size, 1, none⟩ = some (.int .i64 v) ∧ u'.cell? ⟨w.heap.size, 2, none⟩ = some (.string f) ∧ u'.cell? ⟨w.heap.size + 1, 0, none⟩ = some (.int .i64 b) ∧ u'.cell? ⟨w.heap.size + 1, 1, none⟩ = some (.int .i64 u) ∧ u'.cell? ⟨w.heap.size + 1, 2, none⟩ = some (.string g)) (go_keep)
    (first | (go_at_call 239; refine (cmp_Compare_int _ _ _).mono ?_; rintro e w2 ⟨rfl, rfl⟩) | (go_at_call 240; refine (cmp_Compare_str _ _ _).mono ?_; rintro e w2 ⟨rfl, rfl⟩) | (go_at_call 238; refine (cmp_Or3 (cmpI a b) (cmpI v u) (cmpS f g) W0.heap.size 3 _ (new3 W0 _ _ _ _).1 (new3 W0 _ _ _ _).2.1 (new3 W0 _ _ _ _).2.2).mono ?_; rintro e w2 ⟨rfl, rfl⟩))
  go_wp2
  go_returns
  go_light
  exact ⟨ret_int hfin.out.symm, (hB0.alloc hB0.size _).drew⟩
theorem impl_OwnerAhead (p q : Ow) (w : World) :
    Calls Tryz.prog 205 #[.agg #[.int .i64 p.a, .int .i64 p.v, .string p.f], .agg #[.int .i64 q.a, .int .i64 q.v, .string q.f]] w fun e w' => e = .returned (.bool (owLt p q)) ∧ Below w.heap.size w w' := by
  have hfin : Hid (owLt p q = decide (ordO p q < 0)) := (ordO_lt p q).symm
  obtain ⟨a, v, f⟩ := p
  obtain ⟨b, u, g⟩ := q
  go_enter Tryz.func205, Tryz.ntmps205
  go_wp2_with fail
  refine (impl_ownerOrder ⟨a, v, f⟩ ⟨b, u, g⟩ _).mono ?_
  rintro e w1 ⟨rfl, hB1⟩
  have hB2 : Below w.heap.size w w1 := chain (by go_grown) hB1
  go_wp2
  go_returns
  go_light
  exact ⟨ret_bool hfin.out.symm, hB2⟩
theorem spec_OwnerAhead (p q : Ow) (w : World) :
    Calls Tryz.prog 214 #[.agg #[.int .i64 p.a, .int .i64 p.v, .string p.f], .agg #[.int .i64 q.a, .int .i64 q.v, .string q.f]] w fun e w' => e = .returned (.bool (owLt p q)) ∧ Below w.heap.size w w' := by
  obtain ⟨a, v, f⟩ := p
  obtain ⟨b, u, g⟩ := q
  go_enter Tryz.func214, Tryz.ntmps214
  go_wp2
  all_goals go_returns
  all_goals go_light
  all_goals refine ⟨?_, by go_grown⟩
  all_goals simp_all [owLt]
end Go.Proofs.YtigldeccfpkdmaaGreatDoor
namespace Go.Proofs.YtigldeccfpkdmaaGreatDoor
open Go.RowKit Go.Shelf
attribute [local go_sem] Oper.semAt_some
/-- What a round that goes on keeps, for the iterator: what lay below n₀, its own copies of extents, the size's box. -/
def KpG (n₀ Bs : Nat) (t : TypeId) (A B : World) : Prop := Below n₀ A B ∧ (∀ b c, Blk A b c t → Blk B b c t) ∧ (∀ v, A.cell? ⟨Bs, 0, none⟩ = some v → B.cell? ⟨Bs, 0, none⟩ = some v)
theorem KpG.t {n₀ Bs : Nat} {t : TypeId} {A B C : World} (h : KpG n₀ Bs t A B) (k : KpG n₀ Bs t B C) : KpG n₀ Bs t A C :=
  ⟨h.1.trans k.1, fun b c hb => k.2.1 b c (h.2.1 b c hb), fun v hv => k.2.2 v (h.2.2 v hv)⟩
theorem KpG.b {n₀ Bs : Nat} {t : TypeId} {w : World} (hn : n₀ ≤ w.heap.size) (hs : Bs < w.heap.size) (W : World) (l : Nat) (o o' : Obj) (hl : w.heap.size ≤ l) (h : W.heap[l]? = some o) (hc : o.isCells = false) (hw : o.isWalk = false) : KpG n₀ Bs t W (W.putObj l o') := by
  refine ⟨belowK_b hn W l o o' hl h hc hw, fun b c hb => ?_, fun v hv => ?_⟩
  · have hbl : b ≠ l := fun e => by subst e; unfold Blk at hb; rw [h] at hb; cases hb; cases hc
    exact Blk.grown hb (grownBy_putObj' W l o') hbl
  · exact (grownBy_putObj' W l o').cell hv (by simp; omega)
end Go.Proofs.YtigldeccfpkdmaaGreatDoor
namespace Go.Proofs.YtigldeccfpkdmaaGreatDoor
open Go.RowKit Go.Shelf
attribute [local go_sem] Oper.semAt_some
theorem ok_parts {size : Int} {l : List Ex} (h : spaceOkB size l = true) : 1 ≤ size ∧ size ≤ 400 ∧ l.length ≤ 60 ∧ xgo size 1 l = true := by
  simp only [spaceOkB, Bool.and_eq_true, decide_eq_true_eq] at h
  exact ⟨h.1.1.1, h.1.1.2, h.1.2, h.2⟩
end Go.Proofs.YtigldeccfpkdmaaGreatDoor
namespace Go.Proofs.YtigldeccfpkdmaaGreatDoor
open Go.RowKit Go.BigFrame
def eqPts : List Pt → List Pt → Bool
  | [], [] => true
  | p :: r, q :: s => eqPtB p q && eqPts r s
  | _, _ => false
theorem eqPtB_iff (p q : Pt) : eqPtB p q = true ↔ p = q := by
  cases p; cases q; simp [eqPtB, and_assoc]
theorem eqPts_iff (l : List Pt) : ∀ m, eqPts l m = true ↔ l = m := by
  induction l with
  | nil => intro m; cases m <;> simp [eqPts]
  | cons p r ih => intro m; cases m <;> simp [eqPts, eqPtB_iff, ih]
theorem eqPts_refl (l : List Pt) : eqPts l l = true := (eqPts_iff l l).2 rfl
theorem eqPts_len {l : List Pt} : ∀ {m : List Pt}, l.length ≠ m.length → eqPts l m = false := by
  induction l with
  | nil => intro m h; cases m <;> simp [eqPts] at *
  | cons p r ih => intro m h; cases m <;> simp [eqPts] at *; exact fun _ => ih h
set_option maxHeartbeats 1000000 in
theorem laws_eqPartS (a : Option Addr) (n cap : Nat) (l : List Pt) (a' : Option Addr) (n' cap' : Nat) (m : List Pt) (w : World) (h : PtsAt w a n l) (h' : PtsAt w a' n' m) (hn : n ≤ 4194304) (hn' : n' ≤ 4194304) :
    Calls Tryz.prog 241 #[.slice a n cap, .slice a' n' cap'] w fun e w' => e = .returned (.bool (eqPts l m)) ∧ Below w.heap.size w w' := by
  have hlen : Hid (l.length = n) := h.len
  have hlen' : Hid (m.length = n') := h'.len
  by_cases hne : n = n'
  · subst hne
    have hbn : ((n : Int) != (n : Int)) = false := by simp
    go_enter Tryz.func241, Tryz.ntmps241
    go_wp2_with fail
    go_loopw [5] (fun ix wr => ∃ (k : Nat), k ≤ n ∧ ix = .int .i64 k ∧ Hid (eqPts l m = eqPts (l.drop k) (m.drop k)) ∧ Below w.heap.size w wr) (fun ix _ => n - (intOf ix).toNat)
    case atStart => exact ⟨0, Nat.zero_le _, rfl, rfl, Below.refl _ _⟩
    case round =>
      obtain ⟨k, hk, rfl, hI, hB⟩ := hrel
      by_cases hlt : k < n
      · obtain ⟨b, o, p, rfl, hp, c0, c1, c2⟩ := pts_at (h.below hB) hlt
        obtain ⟨b', o', q, rfl, hq, d0, d1, d2⟩ := pts_at (h'.below hB) hlt
        have hd : Hid (l.drop k = p :: l.drop (k + 1)) := drop_at hp
        have hd' : Hid (m.drop k = q :: m.drop (k + 1)) := drop_at hq
        clear hp hq
        have hk1 : (k : Int) < n := by omega
        have hk2 : (0 : Int) ≤ k := by omega
        cases hpq : eqPtB p q
        all_goals
          go_wp2_with fail
          have g0 := gcell c0
          have g1 := gcell c1
          have g2 := gcell c2
          have g3 := gcell d0
          have g4 := gcell d1
          have g5 := gcell d2
          have hne := grw_ne wr
          refine wp_region_grow (by kernel_rfl) (by kernel_rfl) ?_
          repeat (go_big_quiet_step (first | (go_at_call 272; have qq := laws_eqPart p q; rw [hpq] at qq; exact grow_of (qq _))))
          refine wpQuiet_nil ?_
          intro w2 hx
          have hB2 := grw_out hx
          clear hx
          go_wp2
        · go_returns
          go_light
          refine ⟨ret_bool ?_, chain hB hB2⟩
          rw [hI.out, hd.out, hd'.out]; simp only [eqPts, hpq, Bool.false_and]
        · go_roundw
          case rel => exact ⟨k + 1, by omega, by go_num, by show _ = _; rw [hI.out, hd.out, hd'.out]; simp only [eqPts, hpq, Bool.true_and], chain hB hB2⟩
          case measure => simp [intOf]; omega
      · obtain rfl : k = n := by omega
        go_wp2
        go_returns
        go_light
        refine ⟨ret_bool ?_, hB⟩
        rw [hI.out, List.drop_of_length_le (Nat.le_of_eq hlen.out), List.drop_of_length_le (Nat.le_of_eq hlen'.out)]; rfl
  · have hbn : ((n : Int) != (n' : Int)) = true := by simp; omega
    go_enter Tryz.func241, Tryz.ntmps241
    go_wp2
    go_returns
    go_light
    refine ⟨ret_bool ?_, Below.refl _ _⟩
    rw [eqPts_len (by rw [hlen.out, hlen'.out]; exact hne)]
end Go.Proofs.YtigldeccfpkdmaaGreatDoor
namespace Go.Proofs.YtigldeccfpkdmaaGreatDoor
open Go.RowKit Go.BigFrame
/-- A region that draws its order, whose first n operations only read, what is left coming behind them in its own order. -/
theorem wp_region_tail {P : Program} {id : Nat} {Q : Exit → Act → World → Prop} {a : Act} {w : World} {l : List Oper} (n : Nat) (hm : P.follows .mixedOrders = true) (hB : Region.lexTailB .any l.toArray n = true)
    (h : wpStill P l.toArray w.drew (fun a' => wpList P l.toArray Q (l.drop n) a' w.drew) (l.take n) a) : (Code.region id l.toArray true).wp P Q a w :=
  wp_region_still_tail n hm hB h
/-- A row in the making: its parts, all lengths together, whether it grew too great. -/
structure RSt where
  L : List Pt
  s : Int
  ov : Bool
end Go.Proofs.YtigldeccfpkdmaaGreatDoor
namespace Go.Proofs.YtigldeccfpkdmaaGreatDoor
open Go.RowKit Go.BigFrame
/-- A slice value as Go has it. -/
structure ArgOk (a : Option Addr) (cap : Nat) : Prop where
  spot : ∀ ad, a = some ad → ad.spot = none
  nil : a = none → cap = 0
end Go.Proofs.YtigldeccfpkdmaaGreatDoor
namespace Go.Proofs.YtigldeccfpkdmaaGreatDoor
open Go.RowKit Go.BigFrame
/-- The row that a slice of the call's own lies in. -/
def rowB : Option Addr → Option Nat
  | none => none
  | some ad => some ad.block
theorem below_grownO {w w1 w' : World} {row : Option Nat} (hb : Below w.heap.size w w1) (hg : w1.grownBy w' row) (hn : ∀ k, row = some k → w.heap.size ≤ k) : Below w.heap.size w w' := hb.grown hg hb.size hn
theorem rowB_ge {a : Option Addr} {B : Nat} (h : ∀ ad, a = some ad → B ≤ ad.block) : ∀ k, rowB a = some k → B ≤ k := by
  intro k hk
  cases a with
  | none => cases hk
  | some ad => have := h ad rfl; simp [rowB] at hk; omega
end Go.Proofs.YtigldeccfpkdmaaGreatDoor
namespace Go.Proofs.YtigldeccfpkdmaaGreatDoor
open Go.RowKit Go.BigFrame
theorem own_ne' {a : Option Addr} {n cap x B : Nat} (h : ∀ ad, a = some ad → B ≤ ad.block) (hx : x < B) : some x ≠ Value.ownBlock (.slice a n cap) := by
  cases a with
  | none => simp [Value.ownBlock]
  | some ad => have := h ad rfl; simp [Value.ownBlock]; omega
end Go.Proofs.YtigldeccfpkdmaaGreatDoor
