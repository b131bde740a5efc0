/- The gaps of a space, told by a range over a function: the iterator of the program. RoomOf of the program and of the model. GapsOf of the program. Appending one element: the row that comes of it is the old one, or new. The gaps of the model: l1Gaps, GapsOf. -/
import Derived.RangeFuncNested
import Derived.RangeFuncBound
import Derived.RangeFuncCalls
import Derived.RangeFuncLeaves
import Derived.RangeFuncBox
import Derived.Shelf.Abstract
import Derived.Shelf.RegionOpen
import Derived.WalkKit
import Derived.OwnWalkIn
import Derived.TacticsInMore
import Derived.LoopNIn
import Derived.LoopIn
import Derived.Test.YtckljlgojhloiaaProg
import Derived.Test.YtckljlgojhloiaaKc
import Derived.RangeFuncFrom
import Derived.Test.YtckljlgojhloiaaKb
import Derived.Maps.AppendAt
namespace Go.Proofs.Ytckljlgojhloiaa
open Go.RowKit Go.Shelf

attribute [local go_sem] Oper.semAt_some

/-- The gaps from next on: first byte, and how many. -/
def ggo (size : Int) : Int → List Ex → List (Int × Int)
  | next, [] => if next ≤ size then [(next, size + 1 - next)] else []
  | next, e :: r => (if next < e.a then [(next, e.a - next)] else []) ++ ggo size (e.a + e.d.size) r

/-- What a round that goes on keeps, for the iterator: what lay below n₀, its own copies of extents, the size's box. -/
def KpG (n₀ Bs : Nat) (t : TypeId) (A B : World) : Prop := Below n₀ A B ∧ (∀ b c, Blk A b c t → Blk B b c t) ∧ (∀ v, A.cell? ⟨Bs, 0, none⟩ = some v → B.cell? ⟨Bs, 0, none⟩ = some v)

theorem KpG.t {n₀ Bs : Nat} {t : TypeId} {A B C : World} (h : KpG n₀ Bs t A B) (k : KpG n₀ Bs t B C) : KpG n₀ Bs t A C :=
  ⟨h.1.trans k.1, fun b c hb => k.2.1 b c (h.2.1 b c hb), fun v hv => k.2.2 v (h.2.2 v hv)⟩

theorem KpG.b {n₀ Bs : Nat} {t : TypeId} {w : World} (hn : n₀ ≤ w.heap.size) (hs : Bs < w.heap.size) (W : World) (l : Nat) (o o' : Obj) (hl : w.heap.size ≤ l) (h : W.heap[l]? = some o) (hc : o.isCells = false) (hw : o.isWalk = false) : KpG n₀ Bs t W (W.putObj l o') := by
  refine ⟨belowK_b hn W l o o' hl h hc hw, fun b c hb => ?_, fun v hv => ?_⟩
  · have hbl : b ≠ l := fun e => by subst e; unfold Blk at hb; rw [h] at hb; cases hb; cases hc
    exact Blk.grown hb (grownBy_putObj' W l o') hbl
  · exact (grownBy_putObj' W l o').cell hv (by simp; omega)

/-- The slice's cells lie below n₀. -/
def ExsB (n₀ : Nat) (w : World) (a : Option Addr) (n : Nat) (l : List Ex) : Prop := ExsAt w a n l ∧ ∀ ad, 0 < n → a = some ad → ad.block < n₀

theorem exsB_at {n₀ : Nat} {w w' : World} {a : Option Addr} {n : Nat} {l : List Ex} (h : ExsB n₀ w a n l) (hb : Below n₀ w w') {k : Nat} (hk : k < n) :
    ∃ b o p, a = some ⟨b, o, none⟩ ∧ l[k]? = some p ∧ w'.cell? ⟨b, o + k * 2, none⟩ = some (.int .i64 p.a) ∧ w'.cell? ⟨b, o + k * 2 + 1, none⟩ = some (.string p.d) := by
  obtain ⟨b, o, p, ha, hp, c0, c1⟩ := exs_at h.1 hk
  have hlt : b < n₀ := h.2 _ (by omega) ha
  exact ⟨b, o, p, ha, hp, (hb.cell (p := ⟨b, o + k * 2, none⟩) hlt).trans c0, (hb.cell (p := ⟨b, o + k * 2 + 1, none⟩) hlt).trans c1⟩

set_option maxRecDepth 100000 in
set_option maxHeartbeats 4000000 in
theorem gaps1_in (n : Nat) (hn : 1 ≤ n) (l Bl Bs n₀ N : Nat) (size : Int) (a : Option Addr) (nn cap : Nat) (L : List Ex) (J Jx : List (Int × Int) → World → Prop) (W : World) (hJ : AbidesFrom W.heap.size J)
    (hY : ∀ pre x W1, J pre W1 → pre.length < N → YieldAt Fence.wide (n - 1) Try.prog l #[.int .i64 x.1, .int .i64 x.2] W1 fun e W' =>
      (e = .returned (.bool true) ∧ J (pre ++ [x]) W' ∧ KpG n₀ Bs 52 W1 W') ∨ (e = .returned (.bool false) ∧ Jx (pre ++ [x]) W'))
    (hBl : W.cell? ⟨Bl, 0, none⟩ = some (.slice a nn cap)) (hBs : W.cell? ⟨Bs, 0, none⟩ = some (.int .i64 size)) (hL : ExsB n₀ W a nn L) (hx : xgo size 1 L = true) (hs1 : 1 ≤ size) (hs2 : size ≤ 400) (hnn : nn ≤ 60) (hN : 61 ≤ N) (hn0 : n₀ ≤ W.heap.size) (h0 : J [] W) :
    CallsIn Fence.wide n Try.prog 34 #[.func (.yield l) #[] #[], .pointer (some ⟨Bl, 0, none⟩), .pointer (some ⟨Bs, 0, none⟩)] W fun e W' => (∃ v, e = .returned v) ∧
      ((∃ ys, ys = ggo size 1 L ∧ J ys W') ∨ (∃ pre, pre <+: ggo size 1 L ∧ Jx pre W')) := by
  have hlen : Hid (L.length = nn) := hL.1.len
  refine callsIn_of_wp Try.func34 rfl trivial ?_ rfl
  simp only [Try.ntmps34, List.size_toArray, List.length_cons, List.length_nil, Nat.reduceAdd, Nat.reduceSub, Array.replicate_succ, Array.replicate_zero, List.push_toArray, List.append_toArray, List.nil_append, List.cons_append]
  gi_wp2
  gi_loopw [4, 9] (fun nx ix wr => ∃ (k : Nat) (next : Int) (pre : List (Int × Int)), k ≤ nn ∧ ix = .int .i64 k ∧ nx = .int .i64 next ∧ 1 ≤ next ∧ next ≤ 421 ∧ pre.length ≤ k ∧ Hid (ggo size 1 L = pre ++ ggo size next (L.drop k)) ∧ Hid (xgo size next (L.drop k) = true) ∧ J pre wr ∧ Below n₀ W wr ∧ wr.cell? ⟨Bs, 0, none⟩ = some (.int .i64 size))
    (fun _ ix _ => nn - (intOf ix).toNat)
  case atStart => exact ⟨0, 1, [], Nat.zero_le _, rfl, rfl, by omega, by omega, Nat.le_refl _, by show _ = _; simp, hx, h0, Below.refl _ _, hBs⟩
  case round =>
    obtain ⟨k, next, pre, hk, rfl, rfl, hx1, hx2, hpl, hI, hX, hJs, hB, hBs'⟩ := hrel
    by_cases hlt : k < nn
    · obtain ⟨b, o, p, rfl, hp, c0, c1⟩ := exsB_at hL hB hlt
      have hd : Hid (L.drop k = p :: L.drop (k + 1)) := drop_at hp
      clear hp
      have hX' := hX.out
      rw [hd.out] at hX'
      simp only [xgo, Bool.and_eq_true, decide_eq_true_eq] at hX'
      obtain ⟨⟨⟨hdo, ha1⟩, ha2⟩, hX2⟩ := hX'
      have hd20 : 1 ≤ p.d.size ∧ p.d.size ≤ 20 := by simp [dataOkB] at hdo; exact hdo.1
      obtain ⟨hd1, hd2⟩ := hd20
      have hX3 : Hid (xgo size (p.a + p.d.size) (L.drop (k + 1)) = true) := hX2
      clear hX2 hX hdo
      have hJa : J pre (wr.alloc (.cells #[.int .i64 p.a, .string p.d] 52)) := hJ pre wr _ none hJs (World.grownBy_alloc wr _ none) (fun r e => by cases e)
      by_cases hgt : next < p.a
      · obtain ⟨fn, tmps, assign, body, hy, hR⟩ := hY pre (next, p.a - next) _ hJa (by omega)
        have hst : Hid (ggo size 1 L = (pre ++ [(next, p.a - next)]) ++ ggo size (p.a + p.d.size) (L.drop (k + 1))) := by show _ = _; rw [hI.out, hd.out, ggo, if_pos hgt]; simp
        dsimp only at hy
        gi_wp2
        refine hR.mono ?_
        rintro e W3 (⟨rfl, hJ3, hK3⟩ | ⟨rfl, hJx3⟩)
        · have hbx := hK3.2.1 _ _ (Blk.new wr #[.int .i64 p.a, .string p.d] 52)
          have e0 : W3.cell? ⟨wr.heap.size, 0, none⟩ = some (.int .i64 p.a) := hbx.cell 0
          have e1 : W3.cell? ⟨wr.heap.size, 1, none⟩ = some (.string p.d) := hbx.cell 1
          have hB3 : Below n₀ W W3 := (hB.alloc (Nat.le_trans hn0 hB.size) _).trans hK3.1
          have hs3 := hK3.2.2 _ (acell _ hBs')
          clear hK3 hbx hy hR
          gi_wp2
          go_roundw
          case rel => exact ⟨k + 1, p.a + p.d.size, pre ++ [(next, p.a - next)], by omega, by go_num, by go_num, by omega, by omega, by simp; omega, hst, hX3, hJ3, hB3, hs3⟩
          case measure => simp [intOf]; omega
        · clear hy hR
          gi_wp2
          refine bodyPost_ret (results_none rfl _ _ _) rfl ?_
          exact ⟨⟨_, rfl⟩, .inr ⟨_, ⟨_, hst.out.symm⟩, hJx3⟩⟩
      · have hst : Hid (ggo size 1 L = pre ++ ggo size (p.a + p.d.size) (L.drop (k + 1))) := by show _ = _; rw [hI.out, hd.out, ggo, if_neg hgt]; simp
        have hB3 : Below n₀ W (wr.alloc (.cells #[.int .i64 p.a, .string p.d] 52)) := hB.alloc (Nat.le_trans hn0 hB.size) _
        have hs3 : (wr.alloc (.cells #[.int .i64 p.a, .string p.d] 52)).cell? ⟨Bs, 0, none⟩ = some (.int .i64 size) := acell _ hBs'
        gi_wp2
        refine ⟨fun _ h => (by cases h), ?_⟩
        gi_wp2
        go_roundw
        case rel => exact ⟨k + 1, p.a + p.d.size, pre, by omega, by go_num, by go_num, by omega, by omega, by omega, hst, hX3, hJa, hB3, hs3⟩
        case measure => simp [intOf]; omega
    · obtain rfl : k = nn := by omega
      have hst := hI.out
      rw [List.drop_of_length_le (Nat.le_of_eq hlen.out)] at hst
      by_cases hle : next ≤ size
      · have hst2 : Hid (ggo size 1 L = pre ++ [(next, size + 1 - next)]) := by show _ = _; rw [hst, ggo, if_pos hle]
        obtain ⟨fn, tmps, assign, body, hy, hR⟩ := hY pre (next, size + 1 - next) wr hJs (by omega)
        clear hst hI hX
        dsimp only at hy
        gi_wp2
        refine hR.mono ?_
        rintro e W3 (⟨rfl, hJ3, hK3⟩ | ⟨rfl, hJx3⟩)
        · gi_wp2
          go_end0
          exact ⟨⟨_, rfl⟩, .inl ⟨_, hst2.out.symm, hJ3⟩⟩
        · gi_wp2
          go_end0
          exact ⟨⟨_, rfl⟩, .inr ⟨_, ⟨[], by rw [hst2.out]; simp⟩, hJx3⟩⟩
      · have hst2 : Hid (ggo size 1 L = pre) := by show _ = _; rw [hst, ggo, if_neg hle]; simp
        clear hst hI hX
        gi_wp2
        go_end0
        exact ⟨⟨_, rfl⟩, .inl (by rw [hst2.out]; exact hJs)⟩

set_option maxHeartbeats 1000000 in
/-- impl.gaps: the size and the slice are boxed; the function value has both. -/
theorem gaps_in (n : Nat) (size : Int) (a : Option Addr) (nn cap : Nat) (w : World) :
    CallsIn Fence.wide n Try.prog 26 #[.int .i64 size, .slice a nn cap] w fun e w' => e = .returned (.func (.func 34) #[] #[.pointer (some ⟨w.heap.size + 1, 0, none⟩), .pointer (some ⟨w.heap.size, 0, none⟩)]) ∧ w' = (w.alloc (.cells #[.int .i64 size] 2)).alloc (.cells #[.slice a nn cap] 24) := by
  refine callsIn_of_wp Try.func26 rfl trivial ?_ rfl
  simp only [Try.ntmps26, List.size_toArray, List.length_cons, List.length_nil, Nat.reduceAdd, Nat.reduceSub, Array.replicate_succ, Array.replicate_zero, List.push_toArray, List.append_toArray, List.nil_append, List.cons_append]
  gi_wp2
  go_ret
  exact ⟨rfl, rfl⟩

theorem gaps_stops (n : Nat) (hn : 1 ≤ n) (Bl Bs n₀ : Nat) (size : Int) (a : Option Addr) (nn cap : Nat) (L : List Ex) (w : World) (hn₀ : n₀ ≤ w.heap.size)
    (cl : w.cell? ⟨Bl, 0, none⟩ = some (.slice a nn cap)) (cs : w.cell? ⟨Bs, 0, none⟩ = some (.int .i64 size)) (hL : ExsB n₀ w a nn L) (hx : xgo size 1 L = true) (hs1 : 1 ≤ size) (hs2 : size ≤ 400) (hnn : nn ≤ 60) :
    SeqStopsK Fence.wide n Try.prog 34 #[.pointer (some ⟨Bl, 0, none⟩), .pointer (some ⟨Bs, 0, none⟩)] (fun x : Int × Int => #[Value.int .i64 x.1, Value.int .i64 x.2]) (KpG n₀ Bs 52) (fun ys => ys = ggo size 1 L) (fun pre => pre <+: ggo size 1 L) 61 w := fun l J Jx W hW hJ _ hY h0 => by
  have hL' : ExsB n₀ W a nn L := ⟨⟨hL.1.len, fun i x hx => by
    obtain ⟨b, o, ha, hc⟩ := hL.1.cell i x hx
    exact ⟨b, o, ha, fun j v hv => bcell hW (hc j v hv)⟩⟩, hL.2⟩
  exact gaps1_in n hn l Bl Bs n₀ 61 size a nn cap L J Jx W hJ hY (bcell hW cl) (bcell hW cs) hL' hx hs1 hs2 hnn (Nat.le_refl _) (Nat.le_trans hn₀ hW.size) h0
end Go.Proofs.Ytckljlgojhloiaa
namespace Go.Proofs.Ytckljlgojhloiaa
open Go.RowKit Go.Shelf

attribute [local go_sem] Oper.semAt_some

def sumG : List (Int × Int) → Int
  | [] => 0
  | x :: r => x.2 + sumG r
/-- All of it, as the program adds it up. -/
def sumW (l : List (Int × Int)) : Int := l.foldl (fun s x => wrap64 (s + x.2)) 0
theorem sumW_snoc (l : List (Int × Int)) (x : Int × Int) : sumW (l ++ [x]) = wrap64 (sumW l + x.2) := by simp [sumW]
def sumD : List Ex → Int
  | [] => 0
  | e :: r => e.d.size + sumD r

theorem foldW : ∀ (l : List (Int × Int)) (s : Int), (∀ x ∈ l, 0 ≤ x.2) → 0 ≤ s → s + sumG l ≤ 1000 → l.foldl (fun s x => wrap64 (s + x.2)) s = s + sumG l
  | [], s, _, _, _ => by simp [sumG]
  | x :: r, s, h, h0, h1 => by
    have hx := h x (by simp)
    have hr : ∀ y ∈ r, 0 ≤ y.2 := fun y hy => h y (by simp [hy])
    have hsum : ∀ (r : List (Int × Int)), (∀ y ∈ r, 0 ≤ y.2) → 0 ≤ sumG r := by
      intro r
      induction r with
      | nil => intro _; simp [sumG]
      | cons y t ih => intro hy; have := ih (fun z hz => hy z (by simp [hz])); have := hy y (by simp); simp only [sumG]; omega
    have h2 := hsum r hr
    simp only [sumG] at h1
    rw [List.foldl_cons, show wrap64 (s + x.2) = s + x.2 by unfold wrap64; omega, foldW r (s + x.2) hr (by omega) (by omega)]
    simp only [sumG]; omega

theorem ggo_facts {size : Int} : ∀ {L : List Ex} {next : Int}, xgo size next L = true → next ≤ size + 1 → (∀ x ∈ ggo size next L, 1 ≤ x.2) ∧ sumG (ggo size next L) = size + 1 - next - sumD L
  | [], next, _, hn => by
    rw [ggo]
    split
    · simp [sumG, sumD]; omega
    · simp [sumG, sumD]; omega
  | e :: r, next, h, hn => by
    simp only [xgo, Bool.and_eq_true, decide_eq_true_eq] at h
    obtain ⟨⟨⟨h1, h2⟩, h3⟩, h4⟩ := h
    obtain ⟨q1, q2⟩ := ggo_facts h4 (by omega)
    rw [ggo]
    split
    · refine ⟨fun x hx => ?_, ?_⟩
      · rcases List.mem_append.1 hx with hx | hx
        · simp at hx; subst hx; simp; omega
        · exact q1 x hx
      · simp only [List.singleton_append, sumG, q2, sumD]; omega
    · refine ⟨fun x hx => q1 x (by simpa using hx), ?_⟩
      simp only [List.nil_append, q2, sumD]; omega

theorem sumD_nonneg : ∀ l : List Ex, 0 ≤ sumD l
  | [] => by simp [sumD]
  | e :: r => by have := sumD_nonneg r; simp only [sumD]; omega

def roomV (size : Int) (l : List Ex) : Int := if spaceOkB size l = true then size - sumD l else -1

theorem ok_parts {size : Int} {l : List Ex} (h : spaceOkB size l = true) : 1 ≤ size ∧ size ≤ 400 ∧ l.length ≤ 60 ∧ xgo size 1 l = true := by
  simp only [spaceOkB, Bool.and_eq_true, decide_eq_true_eq] at h
  exact ⟨h.1.1.1, h.1.1.2, h.1.2, h.2⟩

theorem sumW_room {size : Int} {l : List Ex} (h : spaceOkB size l = true) : sumW (ggo size 1 l) = size - sumD l := by
  obtain ⟨h1, h2, _, h4⟩ := ok_parts h
  obtain ⟨q1, q2⟩ := ggo_facts h4 (by omega)
  have := sumD_nonneg l
  unfold sumW
  rw [foldW _ 0 (fun x hx => by have := q1 x hx; omega) (by omega) (by omega), q2]; omega

set_option maxRecDepth 100000 in
set_option maxHeartbeats 2000000 in
theorem impl_RoomOf_in (size : Int) (a : Option Addr) (n cap : Nat) (l : List Ex) (w : World) (h : ExsAt w a n l) (hstr : Strs l) (hn : n ≤ 4194304) (hl : ∀ ad, 0 < n → a = some ad → ad.block < w.heap.size) :
    CallsIn Fence.wide 5 Try.prog 16 #[.int .i64 size, .slice a n cap] w fun e W' => e = .returned (.int .i64 (roomV size l)) ∧ Below w.heap.size w W' := by
  refine callsIn_of_wp_marks Try.func16 rfl trivial ?_ rfl
  simp only [Try.ntmps16, List.size_toArray, List.length_cons, List.length_nil, Nat.reduceAdd, Nat.reduceSub, Array.replicate_succ, Array.replicate_zero, List.push_toArray, List.append_toArray, List.nil_append, List.cons_append]
  have f41 : Fence.wide.fn 15 := trivial
  have f114 : Fence.wide.fn 26 := trivial
  cases hok : spaceOkB size l
  · have hf : roomV size l = -1 := by simp [roomV, hok]
    rw [hf]
    gi_wp2_with (gi_at_call 15; refine (callsIn_wide.2 (impl_SpaceOk size a n cap l _ h hstr hn)).mono ?_; rintro e w1 ⟨rfl, hB1⟩; rw [hok])
    exact ⟨_, results_tmp rfl _ _ _, rfl, hB1⟩
  · have hf : roomV size l = sumW (ggo size 1 l) := by rw [sumW_room hok]; simp [roomV, hok]
    rw [hf]
    gi_wp2_with (first | (gi_at_call 15; refine (callsIn_wide.2 (impl_SpaceOk size a n cap l _ h hstr hn)).mono ?_; rintro e w1 ⟨rfl, hB1⟩; rw [hok]) | (gi_at_call 26; refine (gaps_in _ size a n cap _).mono ?_; rintro e w2 ⟨rfl, rfl⟩))
    obtain ⟨hs1, hs2, hln, hxg⟩ := ok_parts hok
    have hlen := h.len
    have hz := hB1.size
    have hB0 : Below w.heap.size w (((w1.alloc (.cells #[.int .i64 0] 2)).alloc (.cells #[.int .i64 size] 2)).alloc (.cells #[.slice a n cap] 24)) := ((hB1.alloc hz _).alloc (by simp; omega) _).alloc (by simp; omega) _
    have bR : Boxed (((w1.alloc (.cells #[.int .i64 0] 2)).alloc (.cells #[.int .i64 size] 2)).alloc (.cells #[.slice a n cap] 24)) w1.heap.size 2 (.int .i64 0) := ((Boxed.new w1 2 _).alloc _).alloc _
    have bS : Boxed (((w1.alloc (.cells #[.int .i64 0] 2)).alloc (.cells #[.int .i64 size] 2)).alloc (.cells #[.slice a n cap] 24)) (w1.heap.size + 1) 2 (.int .i64 size) := by
      have := (Boxed.new (w1.alloc (.cells #[.int .i64 0] 2)) 2 (.int .i64 size)).alloc (.cells #[.slice a n cap] 24)
      simpa using this
    have bL : Boxed (((w1.alloc (.cells #[.int .i64 0] 2)).alloc (.cells #[.int .i64 size] 2)).alloc (.cells #[.slice a n cap] 24)) (w1.heap.size + 1 + 1) 24 (.slice a n cap) := by
      have := Boxed.new ((w1.alloc (.cells #[.int .i64 0] 2)).alloc (.cells #[.int .i64 size] 2)) 24 (.slice a n cap)
      simpa using this
    have hszW : (((w1.alloc (.cells #[.int .i64 0] 2)).alloc (.cells #[.int .i64 size] 2)).alloc (.cells #[.slice a n cap] 24)).heap.size = w1.heap.size + 1 + 1 + 1 := by simp
    generalize ((w1.alloc (.cells #[.int .i64 0] 2)).alloc (.cells #[.int .i64 size] 2)).alloc (.cells #[.slice a n cap] 24) = W0 at *
    refine wpIn_rangeFunc_ownF rfl (by omega) (gf := 34) (lb := #[.pointer (some ⟨w1.heap.size + 1 + 1, 0, none⟩), .pointer (some ⟨w1.heap.size + 1, 0, none⟩)]) rfl trivial (enters_of Try.func34 (by kernel_rfl) rfl)
      (gaps_stops (5 - 1) (by omega) (w1.heap.size + 1 + 1) (w1.heap.size + 1) w.heap.size size a n cap l W0 (by omega) bL.cell bS.cell ⟨h.below hB0, hl⟩ hxg hs1 hs2 (by omega)) KpG.t (KpG.b (by omega) (by omega)) (Below.refl _ _) (fun _ => rfl)
      (fun pre W => Boxed W w1.heap.size 2 (.int .i64 (sumW pre)) ∧ Below w.heap.size w W)
      (fun _ _ _ => False)
      (OwnFrom.and (Own.from (boxed_own _ _ _) _) (ownFrom_below (Nat.le_refl _) (by omega)))
      (fun _ _ _ _ _ hs _ _ => hs)
      ⟨bR, hB0⟩
      (fun x => { tmps := #[.int .i64 size, .slice a n cap, undef, undef, .int .i64 0, .pointer (some ⟨w1.heap.size, 0, none⟩), undef, .int .i64 x.2, .int .i64 size, .slice a n cap, .bool true, .bool false, .int .i64 size, .slice a n cap, .func (.func 34) #[] #[.pointer (some ⟨w1.heap.size + 1 + 1, 0, none⟩), .pointer (some ⟨w1.heap.size + 1, 0, none⟩)], .int .i64 x.1, .int .i64 x.2, undef, undef, undef, undef], defers := [] }) ?assign ?body ?done ?stop
    case assign =>
      intro l x W K hK
      gi_wp2
      exact hK
    case body =>
      rintro l pre x W ⟨hc, hB⟩ _
      have c0 := hc.cell
      have f0 := hc.frozen
      gi_wp2
      refine ⟨KeepsOthers.setCell _ _ _, ⟨(Below.refl w.heap.size W).setCell (p := ⟨w1.heap.size, 0, none⟩) hz _, fun b c hb => ?_, fun v hv => ?_⟩, by rw [sumW_snoc]; exact hc.set _, hB.setCell (p := ⟨w1.heap.size, 0, none⟩) hz _⟩
      · have hbR : b ≠ w1.heap.size := fun e => by subst e; unfold Blk at hb; rw [show W.heap[w1.heap.size]? = _ from hc] at hb; cases hb
        exact hb.grown (grownBy_setCell' W w1.heap.size _) hbR
      · exact (grownBy_setCell' W w1.heap.size _).cell hv (by simp)
    case done =>
      rintro D ys W hD rfl ⟨hc, hB⟩ hK
      have c0 := hc.cell
      gi_wp2
      refine ⟨by simp, .inl ⟨_, _, rfl, run_takeDeferred hK, ?_⟩⟩
      exact ⟨_, results_tmp rfl _ _ _, rfl, hB.trans (belowK_b (w := w) (Nat.le_refl _) W D _ _ (by omega) hK rfl rfl)⟩
    case stop =>
      rintro D c pre W _ _ h _
      exact h.elim

theorem impl_RoomOf (size : Int) (a : Option Addr) (n cap : Nat) (l : List Ex) (w : World) (h : ExsAt w a n l) (hstr : Strs l) (hn : n ≤ 4194304) (hl : ∀ ad, 0 < n → a = some ad → ad.block < w.heap.size) :
    Calls Try.prog 16 #[.int .i64 size, .slice a n cap] w fun e W' => e = .returned (.int .i64 (roomV size l)) ∧ Below w.heap.size w W' :=
  callsIn_wide.1 (impl_RoomOf_in size a n cap l w h hstr hn hl)

theorem sumD_take {l : List Ex} : ∀ {k : Nat} {p : Ex}, l[k]? = some p → sumD (l.take (k + 1)) = sumD (l.take k) + p.d.size := by
  induction l with
  | nil => intro k p h; simp at h
  | cons e r ih =>
    intro k p h
    cases k with
    | zero => simp at h; subst h; simp [sumD]
    | succ k => simp at h; have := ih h; simp only [List.take_succ_cons, sumD, this]; omega

theorem xgo_sum {size : Int} : ∀ {L : List Ex} {next : Int}, xgo size next L = true → next ≤ size + 1 → sumD L ≤ size + 1 - next
  | [], next, _, hn => by simp [sumD]; omega
  | e :: r, next, h, hn => by
    simp only [xgo, Bool.and_eq_true, decide_eq_true_eq] at h
    obtain ⟨⟨⟨h1, h2⟩, h3⟩, h4⟩ := h
    have := xgo_sum h4 (by omega)
    simp only [sumD]; omega

theorem sumD_take_le : ∀ (l : List Ex) (k : Nat), sumD (l.take k) ≤ sumD l
  | [], k => by simp
  | e :: r, 0 => by have := sumD_nonneg (e :: r); simpa [sumD] using this
  | e :: r, k + 1 => by have := sumD_take_le r k; simp only [List.take_succ_cons, sumD]; omega

set_option maxHeartbeats 1000000 in
theorem spec_RoomOf (size : Int) (a : Option Addr) (n cap : Nat) (l : List Ex) (w : World) (h : ExsAt w a n l) (hstr : Strs l) (hn : n ≤ 4194304) :
    Calls Try.prog 19 #[.int .i64 size, .slice a n cap] w fun e w' => e = .returned (.int .i64 (roomV size l)) ∧ w' = w := by
  have hlen : Hid (l.length = n) := h.len
  cases hok : spaceOkB size l
  · have hf : roomV size l = -1 := by simp [roomV, hok]
    rw [hf]
    go_enter Try.func19, Try.ntmps19
    go_wp2_with fail
    refine (spec_SpaceOk size a n cap l _ h hstr hn).mono ?_
    rintro e w1 ⟨rfl, rfl⟩
    rw [hok]
    go_wp2
    go_returns
    exact ⟨rfl, rfl⟩
  · have hf : Hid (roomV size l = size - sumD l) := by show _ = _; simp [roomV, hok]
    obtain ⟨hs1, hs2, hln, hxg⟩ := ok_parts hok
    have hsum := xgo_sum hxg (by omega)
    generalize roomV size l = R at *
    go_enter Try.func19, Try.ntmps19
    go_wp2_with fail
    refine (spec_SpaceOk size a n cap l _ h hstr hn).mono ?_
    rintro e w1 ⟨rfl, rfl⟩
    rw [hok]
    go_wp2_with fail
    go_loop [5, 6] (fun nv ix => ∃ (k : Nat), k ≤ n ∧ ix = .int .i64 k ∧ nv = .int .i64 (size - sumD (l.take k))) (fun _ ix => n - (intOf ix).toNat)
    case atStart => exact ⟨0, Nat.zero_le _, rfl, by simp [sumD]⟩
    case round =>
      obtain ⟨k, hk, rfl, rfl⟩ := hrel
      by_cases hlt : k < n
      · obtain ⟨b, o, p, rfl, hp, c0, c1⟩ := exs_at h hlt
        have hst : Hid (sumD (l.take (k + 1)) = sumD (l.take k) + p.d.size) := sumD_take hp
        have hle := sumD_take_le l k
        have hle2 := sumD_take_le l (k + 1)
        rw [hst.out] at hle2
        have hnn := sumD_nonneg (l.take k)
        clear hp
        generalize sumD (l.take k) = sk at *
        go_wp2
        go_round
        case rel => exact ⟨k + 1, by omega, by go_num, by rw [hst.out]; show Value.int IntKind.i64 _ = Value.int IntKind.i64 _; congr 1; omega⟩
        case measure => simp [intOf]; omega
      · obtain rfl : k = n := by omega
        rw [List.take_of_length_le (Nat.le_of_eq hlen.out)]
        go_wp2
        go_returns
        go_light
        exact ⟨ret_int hf.out.symm, rfl⟩
end Go.Proofs.Ytckljlgojhloiaa
namespace Go.Proofs.Ytckljlgojhloiaa
open Go.RowKit Go.Shelf

attribute [local go_sem] Oper.semAt_some

abbrev ics : Int → List Value := fun x => [Value.int .i64 x]
theorem infoI : (Try.prog.info? 2).map (fun i => (i.zero, i.size, i.bytes)) = some (some (.int .i64 0), 1, 8) := by kernel_rfl
theorem flat_ics (l : List Int) : l.flatMap ics = l.map (Value.int .i64) := by
  induction l with
  | nil => rfl
  | cons x r ih => simp [List.flatMap_cons, ih]

theorem Boxed.appended2 {W w1 : World} {base B : Nat} {t e : TypeId} {size : Nat} {v v' : Value} {k m : Nat} {xs ys : List Value} {tmp : Obj}
    (hv : Boxed W B t v) (hte : t ≠ e) (hrow : W.ownsRow base e size v k xs) (hown' : w1.ownsRow base e size v' m ys) (hgrow : (W.alloc tmp).grownBy w1 v.ownBlock) :
    Boxed w1 B t v ∧ Boxed (w1.setCell ⟨B, 0, none⟩ v') B t v' ∧ (w1.setCell ⟨B, 0, none⟩ v').ownsRow base e size v' m ys ∧ KeepsOthers W (w1.setCell ⟨B, 0, none⟩ v') ∧
      (∀ b c t', Blk W b c t' → t' ≠ e → t' ≠ t → Blk (w1.setCell ⟨B, 0, none⟩ v') b c t') ∧
      (∀ n₁, n₁ ≤ base → n₁ ≤ B → n₁ ≤ W.heap.size → Below n₁ W (w1.setCell ⟨B, 0, none⟩ v')) ∧
      (∀ s u, s < base → s ≠ B → W.cell? ⟨s, 0, none⟩ = some u → (w1.setCell ⟨B, 0, none⟩ v').cell? ⟨s, 0, none⟩ = some u) := by
  have hv1 : Boxed w1 B t v := (hv.alloc tmp).kept hgrow (hv.not_row hte hrow)
  have hlow : ∀ j, v.ownBlock = some j → base ≤ j := by
    intro j ej
    rcases hrow.2 with ⟨rfl, _⟩ | ⟨g, cap, cur, rfl, hb, _, _⟩
    · simp [Value.ownBlock] at ej
    · obtain rfl : g = j := by simpa [Value.ownBlock] using ej
      exact hb
  refine ⟨hv1, hv1.set v', hown'.kept (grownBy_setCell' w1 B v') (.inr (hv1.not_row hte hown').symm), ?_, ?_, ?_, ?_⟩
  · refine ((KeepsOthers.alloc W tmp).trans (KeepsOthers.of_grownBy hgrow fun j o ej hj => ?_)).trans (KeepsOthers.setCell _ _ _)
    rcases (hrow.alloc tmp).2 with ⟨rfl, _⟩ | ⟨g, cap, cur, rfl, _, hgb, _⟩
    · simp [Value.ownBlock] at ej
    · obtain rfl : g = j := by simpa [Value.ownBlock] using ej
      rw [hgb] at hj; cases hj; rfl
  · intro b c t' hb h1 h2
    have hne : some b ≠ v.ownBlock := by
      intro e'
      rcases hrow.2 with ⟨rfl, _⟩ | ⟨g, cap, cur, rfl, _, hgb, _⟩
      · simp [Value.ownBlock] at e'
      · obtain rfl : b = g := by simpa [Value.ownBlock] using e'
        have := (show W.heap[b]? = _ from hb).symm.trans hgb
        simp at this
        exact h1 this.2
    have hb1 : Blk w1 b c t' := by
      have hb0 := hb.alloc tmp
      show w1.heap[b]? = _
      rw [hgrow.block b hb0.lt hne]; exact hb0
    refine hb1.grown (grownBy_setCell' w1 B v') (fun e' => ?_)
    subst e'
    have := (show w1.heap[b]? = _ from hb1).symm.trans hv1
    simp at this
    exact h2 this.2
  · intro n₁ h1 h2 h3
    exact (((Below.refl n₁ W).alloc h3 tmp).grown hgrow (by simp; omega) fun j ej => Nat.le_trans h1 (hlow j ej)).setCell (p := ⟨B, 0, none⟩) h2 v'
  · intro s u hs hsB hc
    have hc1 : w1.cell? ⟨s, 0, none⟩ = some u := hgrow.cell (acell tmp hc) (fun e' => by have := hlow s e'.symm; omega)
    exact (grownBy_setCell' w1 B v').cell hc1 (by simpa using hsB)

theorem own_mono {W : World} {b b' : Nat} {e : TypeId} {size : Nat} {v : Value} {k : Nat} {xs : List Value} (hb : b ≤ b') (h : W.ownsRow b' e size v k xs) : W.ownsRow b e size v k xs :=
  ⟨h.1, h.2.imp id (fun ⟨g, cap, cur, e1, e2, r⟩ => ⟨g, cap, cur, e1, Nat.le_trans hb e2, r⟩)⟩

def gapsV (size : Int) (l : List Ex) : List Int := if spaceOkB size l = true then (ggo size 1 l).map (·.2) else []

set_option maxRecDepth 100000 in
set_option maxHeartbeats 4000000 in
theorem impl_GapsOf_in (size : Int) (a : Option Addr) (n cap : Nat) (l : List Ex) (w : World) (h : ExsAt w a n l) (hstr : Strs l) (hn : n ≤ 4194304) (hl : ∀ ad, 0 < n → a = some ad → ad.block < w.heap.size) :
    CallsIn Fence.wide 5 Try.prog 9 #[.int .i64 size, .slice a n cap] w fun e W' => (∃ v, e = .returned v ∧ W'.ownsRow w.heap.size 2 1 v (gapsV size l).length ((gapsV size l).map (Value.int .i64))) ∧ Below w.heap.size w W' := by
  have f41 : Fence.wide.fn 15 := trivial
  have f114 : Fence.wide.fn 26 := trivial
  obtain ⟨i0, hi, hz0, hz1, hz2⟩ := info_parts infoI
  cases hok : spaceOkB size l
  · have hf : gapsV size l = [] := by simp [gapsV, hok]
    rw [hf]
    refine callsIn_of_wp_marks Try.func9 rfl trivial ?_ rfl
    simp only [Try.ntmps9, List.size_toArray, List.length_cons, List.length_nil, Nat.reduceAdd, Nat.reduceSub, Array.replicate_succ, Array.replicate_zero, List.push_toArray, List.append_toArray, List.nil_append, List.cons_append]
    gi_wp2_with (gi_at_call 15; refine (callsIn_wide.2 (impl_SpaceOk size a n cap l _ h hstr hn)).mono ?_; rintro e w1 ⟨rfl, hB1⟩; rw [hok])
    exact ⟨_, results_tmp rfl _ _ _, ⟨_, rfl, World.ownsRow_nil _ _ _ _⟩, hB1⟩
  · have hf : gapsV size l = (ggo size 1 l).map (·.2) := by simp [gapsV, hok]
    rw [hf]
    refine callsIn_of_wp_marks Try.func9 rfl trivial ?_ rfl
    simp only [Try.ntmps9, List.size_toArray, List.length_cons, List.length_nil, Nat.reduceAdd, Nat.reduceSub, Array.replicate_succ, Array.replicate_zero, List.push_toArray, List.append_toArray, List.nil_append, List.cons_append]
    gi_wp2_with (first | (gi_at_call 15; refine (callsIn_wide.2 (impl_SpaceOk size a n cap l _ h hstr hn)).mono ?_; rintro e w1 ⟨rfl, hB1⟩; rw [hok]) | (gi_at_call 26; refine (gaps_in _ size a n cap _).mono ?_; rintro e w2 ⟨rfl, rfl⟩))
    obtain ⟨hs1, hs2, hln, hxg⟩ := ok_parts hok
    have hlen := h.len
    have hz := hB1.size
    have hB0 : Below w.heap.size w (((w1.alloc (.cells #[.slice none 0 0] 29)).alloc (.cells #[.int .i64 size] 2)).alloc (.cells #[.slice a n cap] 24)) := ((hB1.alloc hz _).alloc (by simp; omega) _).alloc (by simp; omega) _
    have bR : Boxed (((w1.alloc (.cells #[.slice none 0 0] 29)).alloc (.cells #[.int .i64 size] 2)).alloc (.cells #[.slice a n cap] 24)) w1.heap.size 29 (.slice none 0 0) := ((Boxed.new w1 29 _).alloc _).alloc _
    have bS : Boxed (((w1.alloc (.cells #[.slice none 0 0] 29)).alloc (.cells #[.int .i64 size] 2)).alloc (.cells #[.slice a n cap] 24)) (w1.heap.size + 1) 2 (.int .i64 size) := by
      have := (Boxed.new (w1.alloc (.cells #[.slice none 0 0] 29)) 2 (.int .i64 size)).alloc (.cells #[.slice a n cap] 24)
      simpa using this
    have bL : Boxed (((w1.alloc (.cells #[.slice none 0 0] 29)).alloc (.cells #[.int .i64 size] 2)).alloc (.cells #[.slice a n cap] 24)) (w1.heap.size + 1 + 1) 24 (.slice a n cap) := by
      have := Boxed.new ((w1.alloc (.cells #[.slice none 0 0] 29)).alloc (.cells #[.int .i64 size] 2)) 24 (.slice a n cap)
      simpa using this
    have hszW : (((w1.alloc (.cells #[.slice none 0 0] 29)).alloc (.cells #[.int .i64 size] 2)).alloc (.cells #[.slice a n cap] 24)).heap.size = w1.heap.size + 1 + 1 + 1 := by simp
    generalize ((w1.alloc (.cells #[.slice none 0 0] 29)).alloc (.cells #[.int .i64 size] 2)).alloc (.cells #[.slice a n cap] 24) = W0 at *
    refine wpIn_rangeFunc_ownF rfl (by omega) (gf := 34) (lb := #[.pointer (some ⟨w1.heap.size + 1 + 1, 0, none⟩), .pointer (some ⟨w1.heap.size + 1, 0, none⟩)]) rfl trivial (enters_of Try.func34 (by kernel_rfl) rfl)
      (gaps_stops (5 - 1) (by omega) (w1.heap.size + 1 + 1) (w1.heap.size + 1) w.heap.size size a n cap l W0 (by omega) bL.cell bS.cell ⟨h.below hB0, hl⟩ hxg hs1 hs2 (by omega)) KpG.t (KpG.b (by omega) (by omega)) (Below.refl _ _) (fun _ => rfl)
      (fun pre W => (∃ v, Boxed W w1.heap.size 29 v ∧ W.ownsRow W0.heap.size 2 1 v pre.length (pre.map (fun x => Value.int .i64 x.2)) ∧ True) ∧ W0.heap.size ≤ W.heap.size ∧ Below w.heap.size w W)
      (fun _ _ _ => False)
      (OwnFrom.and (Own.from (holdsRow_own W0.heap.size w1.heap.size 29 2 1 (fun pre : List (Int × Int) => pre.length) (fun pre => pre.map (fun x => Value.int .i64 x.2)) (fun _ _ => True)) _) (OwnFrom.and (fun _ _ _ _ hs hg _ => Nat.le_trans hs hg.size) (ownFrom_below (Nat.le_refl _) (by omega))))
      (fun _ _ _ _ _ hs _ _ => hs)
      ⟨⟨_, bR, World.ownsRow_nil _ _ _ _, trivial⟩, Nat.le_refl _, hB0⟩
      (fun x => { tmps := #[.int .i64 size, .slice a n cap, undef, undef, .slice none 0 0, .pointer (some ⟨w1.heap.size, 0, none⟩), undef, .int .i64 x.2, .int .i64 size, .slice a n cap, .bool true, .bool false, .int .i64 size, .slice a n cap, .func (.func 34) #[] #[.pointer (some ⟨w1.heap.size + 1 + 1, 0, none⟩), .pointer (some ⟨w1.heap.size + 1, 0, none⟩)], .int .i64 x.1, .int .i64 x.2, undef, undef, undef, undef, undef], defers := [] }) ?assign ?body ?done ?stop
    case assign =>
      intro l x W K hK
      gi_wp2
      exact hK
    case body =>
      rintro l pre x W ⟨⟨v, hv, hrow, _⟩, hszB, hB⟩ hlt
      have hc := hv.cell
      gi_wp2_with (gi_at_builtin; refine wpListIn_append_own _ rfl _ _ 29 rfl W0.heap.size 2 i0 (.int .i64 0) 1 8 Try.underlying29 hi hz0 hz1 hz2 rfl (by decide) _ _ _ rfl (hrow.alloc _) ⟨W.heap.size, 0, none⟩ 1 1 [.int .i64 x.2] rfl rfl (cell_one_new _ _ _) (by simp [Value.oneCell']) (by unfold maxLen; omega) (by omega) (by simp; omega) ?_; intro v' w3 hown' hgrow _; obtain ⟨g', cap', rfl⟩ := ownsRow_succ hown'; obtain ⟨hv1, hv2, hr2, hk2, hb2, hbl2, hs2⟩ := Boxed.appended2 hv (by decide) hrow hown' hgrow; have hc1 := hv1.cell; have hf1 := hv1.frozen)
      have hbl := hbl2 w.heap.size (by omega) hz (by omega)
      exact ⟨hk2, ⟨hbl, fun b c hb => hb2 b c _ hb (by decide) (by decide), fun u hu => hs2 _ u (by omega) (by omega) hu⟩, ⟨_, hv2, by simpa using hr2, trivial⟩, Nat.le_trans hszB hbl.size, hB.trans hbl⟩
    case done =>
      rintro D ys W hD rfl ⟨⟨v, hv, hrow, _⟩, _, hB⟩ hK
      have hc := hv.cell
      gi_wp2
      refine ⟨by simp, .inl ⟨_, _, rfl, run_takeDeferred hK, ?_⟩⟩
      refine ⟨_, results_tmp rfl _ _ _, ⟨v, rfl, ?_⟩, hB.trans (belowK_b (w := w) (Nat.le_refl _) W D _ _ (by omega) hK rfl rfl)⟩
      have := ownsRow_putObj hrow (.deferred none) hK rfl
      simpa [List.map_map, Function.comp_def] using own_mono (by omega : w.heap.size ≤ W0.heap.size) this
    case stop =>
      rintro D c pre W _ _ h _
      exact h.elim

theorem impl_GapsOf (size : Int) (a : Option Addr) (n cap : Nat) (l : List Ex) (w : World) (h : ExsAt w a n l) (hstr : Strs l) (hn : n ≤ 4194304) (hl : ∀ ad, 0 < n → a = some ad → ad.block < w.heap.size) :
    Calls Try.prog 9 #[.int .i64 size, .slice a n cap] w fun e W' => (∃ a' n' cap', e = .returned (.slice a' n' cap') ∧ ResAt ics 1 2 W' w.heap.size a' n' cap' (gapsV size l)) ∧ Below w.heap.size w W' :=
  (callsIn_wide.1 (impl_GapsOf_in size a n cap l w h hstr hn hl)).mono fun e W' ⟨⟨v, he, ho⟩, hB⟩ => by
    have ho' : W'.ownsRow w.heap.size 2 1 v (gapsV size l).length ((gapsV size l).flatMap ics) := by rw [flat_ics]; exact ho
    obtain ⟨a', cap', rfl, hr⟩ := res_of_row ics_len rfl ho'
    exact ⟨⟨a', _, cap', he, hr⟩, hB⟩
end Go.Proofs.Ytckljlgojhloiaa
namespace Go.Proofs.Ytckljlgojhloiaa
open Go.RowKit

theorem app_fresh {P : Program} {w w' : World} {v v' : Value} (base : Nat) (t ty e : TypeId) (i : TypeInfo) (z : Value) (size bytes : Nat) (ht : P.underlying t = some (.slice e)) (hi : P.info? e = some i) (hz : i.zero = some z)
    (hsize : i.size = size) (hby : i.bytes = bytes) (n : Nat) (xs : List Value) (hown : w.ownsRow base e size v n xs)
    (a : Addr) (m c : Nat) (news : List Value) (hm : 0 < m) (hl : news.length = m * size) (hnews : ∀ j u, news[j]? = some u → w.cell? (a.add j) = some u) (h1 : ∀ u ∈ news, u.oneCell' = true)
    (h63 : n + m ≤ maxLen) (hbytes : (n + m) * bytes ≤ 140737488355328) (hr : (Builtin.append_ #[t, t] ty #[v, .slice (some a) m c]).run P w = .ok v' w') :
    ∀ g, v'.ownBlock = some g → v.ownBlock = some g ∨ w.heap.size ≤ g := by
  subst hsize
  subst hby
  have hsmall : n + m ≤ 9223372036854775807 := by simp only [maxLen] at h63; omega
  intro g' hg'
  rcases hown.2 with ⟨rfl, rfl⟩ | ⟨g, cap, cur, rfl, hbg, hg, hnc, hcm, hcs, htake⟩
  · have hr2 := run_append_nil (P := P) w t ty e i z ht hi hz a m c news hl hnews (by omega) (by omega) (by have hb := hbytes; simp only [Nat.zero_add] at hb; omega)
    rw [hr] at hr2
    cases hr2
    right
    simp [Value.ownBlock] at hg'
    omega
  · by_cases hroom : n + m ≤ cap
    · have hfit : n * i.size + news.length ≤ cur.size := by rw [hl, hcs, ← Nat.add_mul]; exact Nat.mul_le_mul_right _ hroom
      have hr2 := run_append_room (P := P) w t ty e i ht hi g n cap cur hg a m c news hl hnews h1 hroom hfit
      rw [hr] at hr2
      cases hr2
      left
      simpa [Value.ownBlock] using hg'
    · have holds : ∀ j u, xs[j]? = some u → w.cell? ((⟨g, 0, none⟩ : Addr).add j) = some u := hown.cells (g := g) rfl
      have hr2 := run_append_grow (P := P) w t ty e i z ht hi hz ⟨g, 0, none⟩ n cap xs hown.1 holds a m c news hl hnews (by omega) (by omega) (growslice_fits (by omega) hbytes)
      rw [hr] at hr2
      cases hr2
      right
      simp [Value.ownBlock] at hg'
      omega

/-- append(d, x): as wp_app, and where the row lies that comes of it. -/
theorem wp_app1 {α : Type} {cs : α → List Value} {size : Nat} {P : Program} {o : Oper} {a : Act} {w : World} {K : Act → World → Prop} {Q : Exit → Act → World → Prop}
    (s x : Operand) (t : TypeId) (ho : o.op = .call { callee := .builtin .append, args := #[s, x], argTypes := #[t, t] })
    (B : Nat) (e : TypeId) (i : TypeInfo) (z : Value) (bytes : Nat) (ht : P.underlying t = some (.slice e)) (hi : P.info? e = some i) (hz : i.zero = some z) (hsize : i.size = size) (hby : i.bytes = bytes) (hzs : z.cells.size = size) (hpos : 0 < size)
    (hsz : ∀ y, (cs y).length = size) (hone : ∀ (l : List α), ∀ u ∈ l.flatMap cs, u.oneCell' = true)
    (da : Option Addr) (dn dcap : Nat) (ld : List α) (hs : a.eval s = .slice da dn dcap) (hd : ResAt cs size e w B da dn dcap ld)
    (b off : Nat) (ls : List α) (hx : a.eval x = .slice (some ⟨b, off, none⟩) 1 1) (hsrc : SlAt cs size w (some ⟨b, off, none⟩) 1 ls)
    (h63 : dn + 1 ≤ maxLen) (hbytes : (dn + 1) * bytes ≤ 140737488355328) (hbase : B ≤ w.heap.size)
    (h : ∀ a' cap' w', ResAt cs size e w' B a' (dn + 1) cap' (ld ++ ls) → w.grownBy w' (Value.ownBlock (.slice da dn dcap)) → (∀ ad', a' = some ad' → (∃ ad, da = some ad ∧ ad.block = ad'.block) ∨ w.heap.size ≤ ad'.block) → K (a.put o.dst (.slice a' (dn + 1) cap')) w') : o.wp P a w K Q := by
  have hrow := hd.row hsz
  have hlen : (ld ++ ls).length = dn + 1 := by rw [List.length_append, hd.sl.len, hsrc.len]
  have hnl : (ls.flatMap cs).length = 1 * size := by rw [flat_len hsz, hsrc.len]
  obtain ⟨v', w', hr, hrow', hg, _⟩ := run_append_own (P := P) w B t o.type e i z size bytes ht hi hz hsize hby hzs hpos (.slice da dn dcap) dn (ld.flatMap cs) hrow ⟨b, off, none⟩ 1 1 (ls.flatMap cs) hnl (SlAt.src hsz hsrc) (hone ls) h63 hbytes hbase
  have hfr := app_fresh (P := P) B t o.type e i z size bytes ht hi hz hsize hby dn (ld.flatMap cs) hrow ⟨b, off, none⟩ 1 1 (ls.flatMap cs) (by omega) hnl (SlAt.src hsz hsrc) (hone ls) h63 hbytes hr
  rw [← List.flatMap_append] at hrow'
  obtain ⟨a', cap', rfl, hres⟩ := res_of_row hsz hlen hrow'
  unfold Oper.wp
  simp [execOp, ho, resolve, invoke, builtin, hs, hx, hr, Result.andThen]
  refine h a' cap' w' hres hg (fun ad' had' => ?_)
  subst had'
  rcases hfr ad'.block (by simp [Value.ownBlock]) with h1 | h1
  · cases da with
    | none => simp [Value.ownBlock] at h1
    | some ad => exact .inl ⟨ad, rfl, by simpa [Value.ownBlock] using h1⟩
  · exact .inr h1
end Go.Proofs.Ytckljlgojhloiaa
namespace Go.Proofs.Ytckljlgojhloiaa
open Go.RowKit Go.BigFrame

theorem ics_one : ∀ (l : List Int), ∀ u ∈ l.flatMap ics, u.oneCell' = true := by
  intro l u hu
  obtain ⟨x, _, hx⟩ := List.mem_flatMap.1 hu
  simp at hx
  subst hx
  rfl
theorem sl_newI' (w : World) (x : Int) (t : TypeId) (b : Nat) (hb : b = w.heap.size) : SlAt ics 1 (w.alloc (.cells #[.int .i64 x] t)) (some ⟨b, 0, none⟩) 1 [x] := by
  subst hb
  refine ⟨rfl, fun i y hy => ⟨w.heap.size, 0, rfl, fun j v hv => ?_⟩⟩
  have hi : i = 0 := by have := (List.getElem?_eq_some_iff.1 hy).1; simp at this; exact this
  subst hi
  simp at hy
  subst hy
  match j, hv with
  | 0, hv => obtain rfl := Option.some.inj hv; simp
  | j + 1, hv => simp at hv

theorem own_ne' {a : Option Addr} {n cap x B : Nat} (h : ∀ ad, a = some ad → B ≤ ad.block) (hx : x < B) : some x ≠ Value.ownBlock (.slice a n cap) := by
  cases a with
  | none => simp [Value.ownBlock]
  | some ad => have := h ad rfl; simp [Value.ownBlock]; omega

/-- All gaps, those of nought too. -/
def gl (size : Int) : Int → List Ex → List Int
  | next, [] => [size + 1 - next]
  | next, e :: r => (e.a - next) :: gl size (e.a + e.d.size) r
/-- How long the gaps ahead of the first k extents are, and the byte behind these. -/
def glA (size : Int) (l : List Ex) : Nat → List Int × Int
  | 0 => ([], 1)
  | k + 1 => match l[k]? with
    | none => glA size l k
    | some e => ((glA size l k).1 ++ [e.a - (glA size l k).2], e.a + e.d.size)
theorem glA_succ {size : Int} {l : List Ex} {k : Nat} {p : Ex} (h : l[k]? = some p) : glA size l (k + 1) = ((glA size l k).1 ++ [p.a - (glA size l k).2], p.a + p.d.size) := by simp [glA, h]
theorem glA_gl {size : Int} {l : List Ex} : ∀ k, k ≤ l.length → gl size 1 l = (glA size l k).1 ++ gl size (glA size l k).2 (l.drop k)
  | 0, _ => by simp [glA]
  | k + 1, h => by
    have hk : l[k]? = some l[k] := by simp [show k < l.length by omega]
    rw [glA_gl k (by omega), drop_at hk, glA_succ hk]
    simp [gl]
theorem glA_len {size : Int} {l : List Ex} : ∀ k, k ≤ l.length → (glA size l k).1.length = k
  | 0, _ => rfl
  | k + 1, h => by
    have hk : l[k]? = some l[k] := by simp [show k < l.length by omega]
    rw [glA_succ hk]
    simp [glA_len (size := size) (l := l) k (by omega)]
theorem glA_bd {size : Int} {l : List Ex} (hs : size ≤ 400) : ∀ k, k ≤ l.length → xgo size 1 l = true → 1 ≤ (glA size l k).2 ∧ (glA size l k).2 ≤ 421 ∧ xgo size (glA size l k).2 (l.drop k) = true
  | 0, _, h => ⟨by simp [glA], by simp [glA], by simpa [glA] using h⟩
  | k + 1, hk', h => by
    have hk : l[k]? = some l[k] := by simp [show k < l.length by omega]
    obtain ⟨q1, q2, q3⟩ := glA_bd hs k (by omega) h
    rw [drop_at hk] at q3
    simp only [xgo, Bool.and_eq_true, decide_eq_true_eq] at q3
    obtain ⟨⟨⟨h1, h2⟩, h3⟩, h4⟩ := q3
    have h20 : l[k].d.size ≤ 20 := by simp [dataOkB] at h1; omega
    rw [glA_succ hk]
    exact ⟨by simp; omega, by simp; omega, h4⟩

theorem gl_filter {size : Int} : ∀ {L : List Ex} {next : Int}, xgo size next L = true → (gl size next L).filter (fun x => decide (0 < x)) = (ggo size next L).map (·.2)
  | [], next, _ => by
    rw [gl, ggo]
    by_cases h : next ≤ size
    · have h1 : decide ((0 : Int) < size + 1 - next) = true := by simp; omega
      rw [if_pos h, List.filter_cons, if_pos h1]; rfl
    · have h1 : decide ((0 : Int) < size + 1 - next) = false := by simp; omega
      rw [if_neg h, List.filter_cons, h1]; rfl
  | e :: r, next, h => by
    simp only [xgo, Bool.and_eq_true, decide_eq_true_eq] at h
    have ih := gl_filter h.2
    rw [gl, ggo]
    by_cases hg : next < e.a
    · have h1 : decide ((0 : Int) < e.a - next) = true := by simp; omega
      rw [if_pos hg, List.filter_cons, if_pos h1, ih]; rfl
    · have h1 : decide ((0 : Int) < e.a - next) = false := by simp; omega
      rw [if_neg hg, List.filter_cons, h1, if_neg (by decide), List.nil_append]; exact ih

set_option maxHeartbeats 2000000 in
set_option maxRecDepth 100000 in
theorem spec_l1Gaps (size : Int) (a : Option Addr) (n cap : Nat) (l : List Ex) (w : World) (h : ExsAt w a n l) (hn : n ≤ 60) (hs1 : 1 ≤ size) (hs2 : size ≤ 400) (hx : xgo size 1 l = true) :
    Calls Try.prog 29 #[.int .i64 size, .slice a n cap] w fun e w' => (∃ a' n' cap', e = .returned (.slice a' n' cap') ∧ ResAt ics 1 2 w' w.heap.size a' n' cap' (gl size 1 l)) ∧ Below w.heap.size w w' := by
  have hlen : Hid (l.length = n) := h.len
  obtain ⟨i0, hi, hz0, hz1, hz2⟩ := info_parts infoI
  go_enter Try.func29, Try.ntmps29
  go_wp2_with fail
  go_loopw [5, 6, 7] (fun out nx ix wr => ∃ (k : Nat) (a2 : Option Addr) (n2 cap2 : Nat), k ≤ n ∧ ix = .int .i64 k ∧ nx = .int .i64 (glA size l k).2 ∧ out = .slice a2 n2 cap2 ∧ n2 = k ∧ ResAt ics 1 2 wr w.heap.size a2 n2 cap2 (glA size l k).1 ∧ Below w.heap.size w wr) (fun _ _ ix _ => n - (intOf ix).toNat)
  case atStart => exact ⟨0, _, 0, 0, Nat.zero_le _, rfl, rfl, rfl, rfl, res_empty (Blk.new _ _ _) (Nat.le_refl _), by go_grown⟩
  case round =>
    obtain ⟨k, a2, n2, cap2, hk, rfl, rfl, rfl, rfl, R2, hB⟩ := hrel
    have hsz := hB.size
    obtain ⟨q1, q2, q3⟩ := glA_bd (k := n2) hs2 (by rw [hlen.out]; exact hk) hx
    by_cases hlt : n2 < n
    · obtain ⟨b, o, p, rfl, hp, c0, c1⟩ := exs_at (h.below hB) hlt
      have hst : Hid (glA size l (n2 + 1) = ((glA size l n2).1 ++ [p.a - (glA size l n2).2], p.a + p.d.size)) := glA_succ hp
      rw [drop_at hp] at q3
      simp only [xgo, Bool.and_eq_true, decide_eq_true_eq] at q3
      obtain ⟨⟨⟨h1, h2⟩, h3⟩, _⟩ := q3
      have h20 : p.d.size ≤ 20 := by simp [dataOkB] at h1; omega
      have hlb : b < wr.heap.size := World.block_lt_of_cell? wr _ c0
      have hbw : b < w.heap.size := by
        obtain ⟨b', o', p', hbo, _, d0, _⟩ := exs_at h hlt
        obtain ⟨rfl, rfl⟩ : b = b' ∧ o = o' := by simpa using hbo
        exact World.block_lt_of_cell? w _ d0
      clear hp h1
      generalize glA size l n2 = G at *
      obtain ⟨gk, nk⟩ := G
      simp only at *
      have hk1 : (n2 : Int) < n := by omega
      have hk2 : (0 : Int) ≤ n2 := by omega
      go_wp2_with (at_builtin; refine wpList_app rfl (fun K hK => wp_app _ _ 29 rfl w.heap.size 2 i0 (.int .i64 0) 8 Try.underlying29 hi hz0 hz1 hz2 rfl (by decide) ics_len ics_one a2 n2 cap2 gk rfl (R2.alloc _) _ 1 1 [p.a - nk] rfl (sl_newI' _ _ _ _ (by simp)) (fun ad h => (by cases h; rfl)) (fun h => (by cases h)) (n2 + 1) rfl (by unfold maxLen; omega) (by omega) (by simp; omega) (fun a3 cap3 w3 R3 hg3 => hK _ _ ?_)))
      have hB3 : Below w.heap.size w w3 := Below.grown (hB.alloc hsz _) hg3 (by simp; omega) (own_ge fun ad had => (R2.block ad had).1)
      have d0 := hg3.cell (acell (.cells #[.int .i64 (p.a - nk)] 2) c0) (own_ne' (fun ad had => (R2.block ad had).1) hbw)
      have d1 := hg3.cell (acell (.cells #[.int .i64 (p.a - nk)] 2) c1) (own_ne' (fun ad had => (R2.block ad had).1) hbw)
      clear c0 c1 hK
      go_wp2_with fail
      go_quiet (fail)
      have R4 := R3.below (drewNB w3 nq)
      have hB4 := chain hB3 (drewNB w3 nq)
      go_wp2
      go_roundw
      case rel => exact ⟨n2 + 1, a3, n2 + 1, cap3, by omega, by go_num, by rw [hst.out], rfl, rfl, by rw [hst.out]; exact R4, hB4⟩
      case measure => simp [intOf]; omega
    · obtain rfl : n2 = n := by omega
      have hst : Hid (gl size 1 l = (glA size l n2).1 ++ [size + 1 - (glA size l n2).2]) := by
        show _ = _
        rw [glA_gl n2 (by rw [hlen.out]; omega), List.drop_of_length_le (Nat.le_of_eq hlen.out), gl]
      clear q3
      generalize glA size l n2 = G at *
      obtain ⟨gk, nk⟩ := G
      simp only at *
      go_wp2_with (at_builtin; refine wpList_app rfl (fun K hK => wp_app _ _ 29 rfl w.heap.size 2 i0 (.int .i64 0) 8 Try.underlying29 hi hz0 hz1 hz2 rfl (by decide) ics_len ics_one a2 n2 cap2 gk rfl (R2.alloc _) _ 1 1 [size + 1 - nk] rfl (sl_newI' _ _ _ _ (by simp)) (fun ad h => (by cases h; rfl)) (fun h => (by cases h)) (n2 + 1) rfl (by unfold maxLen; omega) (by omega) (by simp; omega) (fun a3 cap3 w3 R3 hg3 => hK _ _ ?_)))
      have hB3 : Below w.heap.size w w3 := Below.grown (hB.alloc hsz _) hg3 (by simp; omega) (own_ge fun ad had => (R2.block ad had).1)
      go_returns
      exact ⟨⟨a3, n2 + 1, cap3, rfl, by rw [hst.out]; exact R3⟩, hB3⟩

theorem filt_at {l : List Int} {k : Nat} {p : Int} (h : l[k]? = some p) : (l.take (k + 1)).filter (fun x => decide (0 < x)) = (l.take k).filter (fun x => decide (0 < x)) ++ (if 0 < p then [p] else []) := by
  rw [List.take_add_one, h, List.filter_append]
  by_cases hp : 0 < p <;> simp [hp]

theorem gl_len {size : Int} : ∀ {L : List Ex} {next : Int}, (gl size next L).length = L.length + 1
  | [], _ => rfl
  | e :: r, next => by simp [gl, gl_len (L := r)]

set_option maxHeartbeats 2000000 in
set_option maxRecDepth 100000 in
theorem spec_GapsOf (size : Int) (a : Option Addr) (n cap : Nat) (l : List Ex) (w : World) (h : ExsAt w a n l) (hstr : Strs l) (hn : n ≤ 4194304) :
    Calls Try.prog 12 #[.int .i64 size, .slice a n cap] w fun e w' => (∃ a' n' cap', e = .returned (.slice a' n' cap') ∧ ResAt ics 1 2 w' w.heap.size a' n' cap' (gapsV size l)) ∧ Below w.heap.size w w' := by
  have hlen : Hid (l.length = n) := h.len
  obtain ⟨i0, hi, hz0, hz1, hz2⟩ := info_parts infoI
  cases hok : spaceOkB size l
  · have hf : gapsV size l = [] := by simp [gapsV, hok]
    rw [hf]
    go_enter Try.func12, Try.ntmps12
    go_wp2_with fail
    refine (spec_SpaceOk size a n cap l _ (h.below (by go_grown)) hstr hn).mono ?_
    rintro e w1 ⟨rfl, rfl⟩
    rw [hok]
    go_wp2
    go_returns
    exact ⟨⟨_, 0, 0, rfl, res_empty (Blk.new _ _ _) (Nat.le_refl _)⟩, by go_grown⟩
  · obtain ⟨hs1, hs2, hln, hxg⟩ := ok_parts hok
    have hf : Hid (gapsV size l = (gl size 1 l).filter (fun x => decide (0 < x))) := by show _ = _; rw [gl_filter hxg]; simp [gapsV, hok]
    have hgl := gl_len (size := size) (L := l) (next := 1)
    rw [hlen.out] at hln hgl
    generalize gapsV size l = R at *
    go_enter Try.func12, Try.ntmps12
    go_wp2_with fail
    refine (spec_SpaceOk size a n cap l _ (h.below (by go_grown)) hstr hn).mono ?_
    rintro e w1 ⟨rfl, rfl⟩
    rw [hok]
    go_wp2_with fail
    refine (spec_l1Gaps size a n cap l _ (h.below (by go_grown)) (by omega) hs1 hs2 hxg).mono ?_
    rintro e w2 ⟨⟨ag, ng, capg, rfl, Rg⟩, hB2⟩
    have hng := Rg.sl.len
    have hb0 := (Blk.new w #[] 2).below hB2
    have hsz2 := hB2.size
    simp only [World.size_alloc] at hsz2
    have hB20 : Below w.heap.size w w2 := chain (by go_grown) hB2
    have Rgb := Rg.block
    simp only [World.size_alloc] at Rgb
    generalize gl size 1 l = g at *
    go_wp2_with fail
    go_loopw [5, 7] (fun out ix wr => ∃ (k : Nat) (a2 : Option Addr) (n2 cap2 : Nat), k ≤ ng ∧ ix = .int .i64 k ∧ out = .slice a2 n2 cap2 ∧ n2 ≤ k ∧ ResAt ics 1 2 wr w.heap.size a2 n2 cap2 ((g.take k).filter (fun x => decide (0 < x))) ∧ (∀ ad, a2 = some ad → ∀ ad', ag = some ad' → ad.block ≠ ad'.block) ∧ SlAt ics 1 wr ag ng g ∧ Below w.heap.size w wr) (fun _ ix _ => ng - (intOf ix).toNat)
    case atStart => exact ⟨0, _, 0, 0, Nat.zero_le _, rfl, rfl, Nat.le_refl _, res_empty hb0 (Nat.le_refl _), fun ad had ad' had' => by cases had; have := (Rgb ad' had').1; simp; omega, Rg.sl, hB20⟩
    case round =>
      obtain ⟨k, a2, n2, cap2, hk, rfl, rfl, hn2, R2, hne, hG, hB⟩ := hrel
      have hsz := hB.size
      by_cases hlt : k < ng
      · obtain ⟨b, o, x, hag, hp, c0⟩ := ints_at' hG hlt
        have hst : Hid ((g.take (k + 1)).filter (fun x => decide (0 < x)) = (g.take k).filter (fun x => decide (0 < x)) ++ (if 0 < x then [x] else [])) := filt_at hp
        clear hp
        have hbw : b < wr.heap.size := World.block_lt_of_cell? wr _ c0
        subst hag
        generalize (g.take k).filter (fun x => decide (0 < x)) = lk at *
        have hk1 : (k : Int) < ng := by omega
        have hk2 : (0 : Int) ≤ k := by omega
        by_cases hpos : 0 < x
        · go_wp2_with (at_builtin; refine wpList_app rfl (fun K hK => wp_app1 _ _ 29 rfl w.heap.size 2 i0 (.int .i64 0) 8 Try.underlying29 hi hz0 hz1 hz2 rfl (by decide) ics_len ics_one a2 n2 cap2 lk rfl (R2.alloc _) _ _ [x] rfl (sl_newI' _ _ _ _ (by simp)) (by unfold maxLen; omega) (by omega) (by simp; omega) (fun a3 cap3 w3 R3 hg3 hf3 => hK _ _ ?_)))
          have hB3 : Below w.heap.size w w3 := Below.grown (hB.alloc hsz _) hg3 (by simp; omega) (own_ge fun ad had => (R2.block ad had).1)
          have hG3 : SlAt ics 1 w3 (some ⟨b, o, none⟩) ng g := (hG.alloc _).grownO hg3 (fun ad had => by
            cases had
            cases a2 with
            | none => simp [Value.ownBlock]
            | some ad2 => have := hne ad2 rfl ⟨b, o, none⟩ rfl; simp [Value.ownBlock]; exact fun e => this e.symm)
          have hne3 : ∀ ad, a3 = some ad → ∀ ad', some (⟨b, o, none⟩ : Addr) = some ad' → ad.block ≠ ad'.block := by
            intro ad had ad' had'
            cases had'
            rcases hf3 ad had with ⟨ad2, h2, h3⟩ | h2
            · have := hne ad2 h2 _ rfl; simp at this ⊢; omega
            · simp at h2 ⊢; omega
          go_roundw
          case rel => exact ⟨k + 1, a3, n2 + 1, cap3, by omega, by go_num, rfl, by omega, by rw [hst.out]; simpa [hpos] using R3, hne3, hG3, hB3⟩
          case measure => simp [intOf]; omega
        · go_wp2
          go_roundw
          case rel => exact ⟨k + 1, a2, n2, cap2, by omega, by go_num, rfl, by omega, by rw [hst.out]; simpa [hpos] using R2, hne, hG, hB⟩
          case measure => simp [intOf]; omega
      · obtain rfl : k = ng := by omega
        rw [List.take_of_length_le (Nat.le_of_eq hng)] at R2
        go_wp2
        go_returns
        exact ⟨⟨a2, n2, cap2, rfl, by rw [hf.out]; exact R2⟩, hB⟩
end Go.Proofs.Ytckljlgojhloiaa
