/- The gaps of a space, told by a range over a function: the iterator of the program. -/
import Derived.RangeFuncNested
import Derived.RangeFuncBound
import Derived.RangeFuncCalls
import Derived.RangeFuncLeaves
import Derived.RangeFuncBox
import Derived.Shelf.Abstract
import Derived.Shelf.RegionOpen
import Derived.WalkKit
import Derived.OwnWalkIn
import Derived.TacticsInMore
import Derived.LoopNIn
import Derived.LoopIn
import Derived.Test.YtbmkedickkpjjaaProg
import Derived.Test.YtbmkedickkpjjaaXa
namespace Go.Proofs.Ytbmkedickkpjjaa
open Go.RowKit Go.Shelf

attribute [local go_sem] Oper.semAt_some

/-- The gaps from next on: first byte, and how many. -/
def ggo (size : Int) : Int → List Ex → List (Int × Int)
  | next, [] => if next ≤ size then [(next, size + 1 - next)] else []
  | next, e :: r => (if next < e.a then [(next, e.a - next)] else []) ++ ggo size (e.a + e.d.size) r

/-- What a round that goes on keeps, for the iterator: what lay below n₀, its own copies of extents, the size's box. -/
def KpG (n₀ Bs : Nat) (t : TypeId) (A B : World) : Prop := Below n₀ A B ∧ (∀ b c, Blk A b c t → Blk B b c t) ∧ (∀ v, A.cell? ⟨Bs, 0, none⟩ = some v → B.cell? ⟨Bs, 0, none⟩ = some v)

theorem KpG.t {n₀ Bs : Nat} {t : TypeId} {A B C : World} (h : KpG n₀ Bs t A B) (k : KpG n₀ Bs t B C) : KpG n₀ Bs t A C :=
  ⟨h.1.trans k.1, fun b c hb => k.2.1 b c (h.2.1 b c hb), fun v hv => k.2.2 v (h.2.2 v hv)⟩

theorem KpG.b {n₀ Bs : Nat} {t : TypeId} {w : World} (hn : n₀ ≤ w.heap.size) (hs : Bs < w.heap.size) (W : World) (l : Nat) (o o' : Obj) (hl : w.heap.size ≤ l) (h : W.heap[l]? = some o) (hc : o.isCells = false) (hw : o.isWalk = false) : KpG n₀ Bs t W (W.putObj l o') := by
  refine ⟨belowK_b hn W l o o' hl h hc hw, fun b c hb => ?_, fun v hv => ?_⟩
  · have hbl : b ≠ l := fun e => by subst e; unfold Blk at hb; rw [h] at hb; cases hb; cases hc
    exact Blk.grown hb (grownBy_putObj' W l o') hbl
  · exact (grownBy_putObj' W l o').cell hv (by simp; omega)

/-- The slice's cells lie below n₀. -/
def ExsB (n₀ : Nat) (w : World) (a : Option Addr) (n : Nat) (l : List Ex) : Prop := ExsAt w a n l ∧ ∀ ad, 0 < n → a = some ad → ad.block < n₀

theorem exsB_at {n₀ : Nat} {w w' : World} {a : Option Addr} {n : Nat} {l : List Ex} (h : ExsB n₀ w a n l) (hb : Below n₀ w w') {k : Nat} (hk : k < n) :
    ∃ b o p, a = some ⟨b, o, none⟩ ∧ l[k]? = some p ∧ w'.cell? ⟨b, o + k * 2, none⟩ = some (.int .i64 p.a) ∧ w'.cell? ⟨b, o + k * 2 + 1, none⟩ = some (.string p.d) := by
  obtain ⟨b, o, p, ha, hp, c0, c1⟩ := exs_at h.1 hk
  have hlt : b < n₀ := h.2 _ (by omega) ha
  exact ⟨b, o, p, ha, hp, (hb.cell (p := ⟨b, o + k * 2, none⟩) hlt).trans c0, (hb.cell (p := ⟨b, o + k * 2 + 1, none⟩) hlt).trans c1⟩

set_option maxRecDepth 100000 in
set_option maxHeartbeats 4000000 in
theorem gaps1_in (n : Nat) (hn : 1 ≤ n) (l Bl Bs n₀ N : Nat) (size : Int) (a : Option Addr) (nn cap : Nat) (L : List Ex) (J Jx : List (Int × Int) → World → Prop) (W : World) (hJ : AbidesFrom W.heap.size J)
    (hY : ∀ pre x W1, J pre W1 → pre.length < N → YieldAt Fence.wide (n - 1) Try.prog l #[.int .i64 x.1, .int .i64 x.2] W1 fun e W' =>
      (e = .returned (.bool true) ∧ J (pre ++ [x]) W' ∧ KpG n₀ Bs 125 W1 W') ∨ (e = .returned (.bool false) ∧ Jx (pre ++ [x]) W'))
    (hBl : W.cell? ⟨Bl, 0, none⟩ = some (.slice a nn cap)) (hBs : W.cell? ⟨Bs, 0, none⟩ = some (.int .i64 size)) (hL : ExsB n₀ W a nn L) (hx : xgo size 1 L = true) (hs1 : 1 ≤ size) (hs2 : size ≤ 400) (hnn : nn ≤ 60) (hN : 61 ≤ N) (hn0 : n₀ ≤ W.heap.size) (h0 : J [] W) :
    CallsIn Fence.wide n Try.prog 164 #[.func (.yield l) #[] #[], .pointer (some ⟨Bl, 0, none⟩), .pointer (some ⟨Bs, 0, none⟩)] W fun e W' => (∃ v, e = .returned v) ∧
      ((∃ ys, ys = ggo size 1 L ∧ J ys W') ∨ (∃ pre, pre <+: ggo size 1 L ∧ Jx pre W')) := by
  have hlen : Hid (L.length = nn) := hL.1.len
  refine callsIn_of_wp Try.func164 rfl trivial ?_ rfl
  simp only [Try.ntmps164, List.size_toArray, List.length_cons, List.length_nil, Nat.reduceAdd, Nat.reduceSub, Array.replicate_succ, Array.replicate_zero, List.push_toArray, List.append_toArray, List.nil_append, List.cons_append]
  gi_wp2
  gi_loopw [4, 9] (fun nx ix wr => ∃ (k : Nat) (next : Int) (pre : List (Int × Int)), k ≤ nn ∧ ix = .int .i64 k ∧ nx = .int .i64 next ∧ 1 ≤ next ∧ next ≤ 421 ∧ pre.length ≤ k ∧ Hid (ggo size 1 L = pre ++ ggo size next (L.drop k)) ∧ Hid (xgo size next (L.drop k) = true) ∧ J pre wr ∧ Below n₀ W wr ∧ wr.cell? ⟨Bs, 0, none⟩ = some (.int .i64 size))
    (fun _ ix _ => nn - (intOf ix).toNat)
  case atStart => exact ⟨0, 1, [], Nat.zero_le _, rfl, rfl, by omega, by omega, Nat.le_refl _, by show _ = _; simp, hx, h0, Below.refl _ _, hBs⟩
  case round =>
    obtain ⟨k, next, pre, hk, rfl, rfl, hx1, hx2, hpl, hI, hX, hJs, hB, hBs'⟩ := hrel
    by_cases hlt : k < nn
    · obtain ⟨b, o, p, rfl, hp, c0, c1⟩ := exsB_at hL hB hlt
      have hd : Hid (L.drop k = p :: L.drop (k + 1)) := drop_at hp
      clear hp
      have hX' := hX.out
      rw [hd.out] at hX'
      simp only [xgo, Bool.and_eq_true, decide_eq_true_eq] at hX'
      obtain ⟨⟨⟨hdo, ha1⟩, ha2⟩, hX2⟩ := hX'
      have hd20 : 1 ≤ p.d.size ∧ p.d.size ≤ 20 := by simp [dataOkB] at hdo; exact hdo.1
      obtain ⟨hd1, hd2⟩ := hd20
      have hX3 : Hid (xgo size (p.a + p.d.size) (L.drop (k + 1)) = true) := hX2
      clear hX2 hX hdo
      have hJa : J pre (wr.alloc (.cells #[.int .i64 p.a, .string p.d] 125)) := hJ pre wr _ none hJs (World.grownBy_alloc wr _ none) (fun r e => by cases e)
      by_cases hgt : next < p.a
      · obtain ⟨fn, tmps, assign, body, hy, hR⟩ := hY pre (next, p.a - next) _ hJa (by omega)
        have hst : Hid (ggo size 1 L = (pre ++ [(next, p.a - next)]) ++ ggo size (p.a + p.d.size) (L.drop (k + 1))) := by show _ = _; rw [hI.out, hd.out, ggo, if_pos hgt]; simp
        dsimp only at hy
        gi_wp2
        refine hR.mono ?_
        rintro e W3 (⟨rfl, hJ3, hK3⟩ | ⟨rfl, hJx3⟩)
        · have hbx := hK3.2.1 _ _ (Blk.new wr #[.int .i64 p.a, .string p.d] 125)
          have e0 : W3.cell? ⟨wr.heap.size, 0, none⟩ = some (.int .i64 p.a) := hbx.cell 0
          have e1 : W3.cell? ⟨wr.heap.size, 1, none⟩ = some (.string p.d) := hbx.cell 1
          have hB3 : Below n₀ W W3 := (hB.alloc (Nat.le_trans hn0 hB.size) _).trans hK3.1
          have hs3 := hK3.2.2 _ (acell _ hBs')
          clear hK3 hbx hy hR
          gi_wp2
          go_roundw
          case rel => exact ⟨k + 1, p.a + p.d.size, pre ++ [(next, p.a - next)], by omega, by go_num, by go_num, by omega, by omega, by simp; omega, hst, hX3, hJ3, hB3, hs3⟩
          case measure => simp [intOf]; omega
        · clear hy hR
          gi_wp2
          refine bodyPost_ret (results_none rfl _ _ _) rfl ?_
          exact ⟨⟨_, rfl⟩, .inr ⟨_, ⟨_, hst.out.symm⟩, hJx3⟩⟩
      · have hst : Hid (ggo size 1 L = pre ++ ggo size (p.a + p.d.size) (L.drop (k + 1))) := by show _ = _; rw [hI.out, hd.out, ggo, if_neg hgt]; simp
        have hB3 : Below n₀ W (wr.alloc (.cells #[.int .i64 p.a, .string p.d] 125)) := hB.alloc (Nat.le_trans hn0 hB.size) _
        have hs3 : (wr.alloc (.cells #[.int .i64 p.a, .string p.d] 125)).cell? ⟨Bs, 0, none⟩ = some (.int .i64 size) := acell _ hBs'
        gi_wp2
        refine ⟨fun _ h => (by cases h), ?_⟩
        gi_wp2
        go_roundw
        case rel => exact ⟨k + 1, p.a + p.d.size, pre, by omega, by go_num, by go_num, by omega, by omega, by omega, hst, hX3, hJa, hB3, hs3⟩
        case measure => simp [intOf]; omega
    · obtain rfl : k = nn := by omega
      have hst := hI.out
      rw [List.drop_of_length_le (Nat.le_of_eq hlen.out)] at hst
      by_cases hle : next ≤ size
      · have hst2 : Hid (ggo size 1 L = pre ++ [(next, size + 1 - next)]) := by show _ = _; rw [hst, ggo, if_pos hle]
        obtain ⟨fn, tmps, assign, body, hy, hR⟩ := hY pre (next, size + 1 - next) wr hJs (by omega)
        clear hst hI hX
        dsimp only at hy
        gi_wp2
        refine hR.mono ?_
        rintro e W3 (⟨rfl, hJ3, hK3⟩ | ⟨rfl, hJx3⟩)
        · gi_wp2
          go_end0
          exact ⟨⟨_, rfl⟩, .inl ⟨_, hst2.out.symm, hJ3⟩⟩
        · gi_wp2
          go_end0
          exact ⟨⟨_, rfl⟩, .inr ⟨_, ⟨[], by rw [hst2.out]; simp⟩, hJx3⟩⟩
      · have hst2 : Hid (ggo size 1 L = pre) := by show _ = _; rw [hst, ggo, if_neg hle]; simp
        clear hst hI hX
        gi_wp2
        go_end0
        exact ⟨⟨_, rfl⟩, .inl (by rw [hst2.out]; exact hJs)⟩

set_option maxHeartbeats 1000000 in
/-- impl.gaps: the size and the slice are boxed; the function value has both. -/
theorem gaps_in (n : Nat) (size : Int) (a : Option Addr) (nn cap : Nat) (w : World) :
    CallsIn Fence.wide n Try.prog 114 #[.int .i64 size, .slice a nn cap] w fun e w' => e = .returned (.func (.func 164) #[] #[.pointer (some ⟨w.heap.size + 1, 0, none⟩), .pointer (some ⟨w.heap.size, 0, none⟩)]) ∧ w' = (w.alloc (.cells #[.int .i64 size] 2)).alloc (.cells #[.slice a nn cap] 24) := by
  refine callsIn_of_wp Try.func114 rfl trivial ?_ rfl
  simp only [Try.ntmps114, List.size_toArray, List.length_cons, List.length_nil, Nat.reduceAdd, Nat.reduceSub, Array.replicate_succ, Array.replicate_zero, List.push_toArray, List.append_toArray, List.nil_append, List.cons_append]
  gi_wp2
  go_ret
  exact ⟨rfl, rfl⟩

theorem gaps_stops (n : Nat) (hn : 1 ≤ n) (Bl Bs n₀ : Nat) (size : Int) (a : Option Addr) (nn cap : Nat) (L : List Ex) (w : World) (hn₀ : n₀ ≤ w.heap.size)
    (cl : w.cell? ⟨Bl, 0, none⟩ = some (.slice a nn cap)) (cs : w.cell? ⟨Bs, 0, none⟩ = some (.int .i64 size)) (hL : ExsB n₀ w a nn L) (hx : xgo size 1 L = true) (hs1 : 1 ≤ size) (hs2 : size ≤ 400) (hnn : nn ≤ 60) :
    SeqStopsK Fence.wide n Try.prog 164 #[.pointer (some ⟨Bl, 0, none⟩), .pointer (some ⟨Bs, 0, none⟩)] (fun x : Int × Int => #[Value.int .i64 x.1, Value.int .i64 x.2]) (KpG n₀ Bs 125) (fun ys => ys = ggo size 1 L) (fun pre => pre <+: ggo size 1 L) 61 w := fun l J Jx W hW hJ _ hY h0 => by
  have hL' : ExsB n₀ W a nn L := ⟨⟨hL.1.len, fun i x hx => by
    obtain ⟨b, o, ha, hc⟩ := hL.1.cell i x hx
    exact ⟨b, o, ha, fun j v hv => bcell hW (hc j v hv)⟩⟩, hL.2⟩
  exact gaps1_in n hn l Bl Bs n₀ 61 size a nn cap L J Jx W hJ hY (bcell hW cl) (bcell hW cs) hL' hx hs1 hs2 hnn (Nat.le_refl _) (Nat.le_trans hn₀ hW.size) h0
end Go.Proofs.Ytbmkedickkpjjaa
