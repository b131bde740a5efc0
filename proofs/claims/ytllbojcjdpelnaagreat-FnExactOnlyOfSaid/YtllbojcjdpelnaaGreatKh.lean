/- The laws' comparison of two lists of parts. The row in the making: (*row).add. The row in the making: addAll, within, addSlice. The row told; Slice, Joined, Laid of the program. Joined, Laid of the program. -/
import Derived.Test.YtllbojcjdpelnaaGreatProg
import Derived.Test.YtllbojcjdpelnaaGreatKe
import Derived.StillTailTactics
import Derived.Test.YtllbojcjdpelnaaGreatKc
namespace Go.Proofs.YtllbojcjdpelnaaGreat
open Go.RowKit Go.BigFrame

def eqPts : List Pt → List Pt → Bool
  | [], [] => true
  | p :: r, q :: s => eqPtB p q && eqPts r s
  | _, _ => false

theorem eqPtB_iff (p q : Pt) : eqPtB p q = true ↔ p = q := by
  cases p; cases q; simp [eqPtB, and_assoc]
theorem eqPts_iff (l : List Pt) : ∀ m, eqPts l m = true ↔ l = m := by
  induction l with
  | nil => intro m; cases m <;> simp [eqPts]
  | cons p r ih => intro m; cases m <;> simp [eqPts, eqPtB_iff, ih]
theorem eqPts_refl (l : List Pt) : eqPts l l = true := (eqPts_iff l l).2 rfl
theorem eqPts_len {l : List Pt} : ∀ {m : List Pt}, l.length ≠ m.length → eqPts l m = false := by
  induction l with
  | nil => intro m h; cases m <;> simp [eqPts] at *
  | cons p r ih => intro m h; cases m <;> simp [eqPts] at *; exact fun _ => ih h

set_option maxHeartbeats 1000000 in
theorem laws_eqPartS (a : Option Addr) (n cap : Nat) (l : List Pt) (a' : Option Addr) (n' cap' : Nat) (m : List Pt) (w : World) (h : PtsAt w a n l) (h' : PtsAt w a' n' m) (hn : n ≤ 4194304) (hn' : n' ≤ 4194304) :
    Calls Tryz.prog 143 #[.slice a n cap, .slice a' n' cap'] w fun e w' => e = .returned (.bool (eqPts l m)) ∧ Below w.heap.size w w' := by
  have hlen : Hid (l.length = n) := h.len
  have hlen' : Hid (m.length = n') := h'.len
  by_cases hne : n = n'
  · subst hne
    have hbn : ((n : Int) != (n : Int)) = false := by simp
    go_enter Tryz.func143, Tryz.ntmps143
    go_wp2_with fail
    go_loopw [5] (fun ix wr => ∃ (k : Nat), k ≤ n ∧ ix = .int .i64 k ∧ Hid (eqPts l m = eqPts (l.drop k) (m.drop k)) ∧ Below w.heap.size w wr) (fun ix _ => n - (intOf ix).toNat)
    case atStart => exact ⟨0, Nat.zero_le _, rfl, rfl, Below.refl _ _⟩
    case round =>
      obtain ⟨k, hk, rfl, hI, hB⟩ := hrel
      by_cases hlt : k < n
      · obtain ⟨b, o, p, rfl, hp, c0, c1, c2⟩ := pts_at (h.below hB) hlt
        obtain ⟨b', o', q, rfl, hq, d0, d1, d2⟩ := pts_at (h'.below hB) hlt
        have hd : Hid (l.drop k = p :: l.drop (k + 1)) := drop_at hp
        have hd' : Hid (m.drop k = q :: m.drop (k + 1)) := drop_at hq
        clear hp hq
        have hk1 : (k : Int) < n := by omega
        have hk2 : (0 : Int) ≤ k := by omega
        cases hpq : eqPtB p q
        all_goals
          go_wp2_with fail
          have g0 := gcell c0
          have g1 := gcell c1
          have g2 := gcell c2
          have g3 := gcell d0
          have g4 := gcell d1
          have g5 := gcell d2
          have hne := grw_ne wr
          refine wp_region_grow (by kernel_rfl) (by kernel_rfl) ?_
          repeat (go_big_quiet_step (first | (go_at_call 150; have qq := laws_eqPart p q; rw [hpq] at qq; exact grow_of (qq _))))
          refine wpQuiet_nil ?_
          intro w2 hx
          have hB2 := grw_out hx
          clear hx
          go_wp2
        · go_returns
          go_light
          refine ⟨ret_bool ?_, chain hB hB2⟩
          rw [hI.out, hd.out, hd'.out]; simp only [eqPts, hpq, Bool.false_and]
        · go_roundw
          case rel => exact ⟨k + 1, by omega, by go_num, by show _ = _; rw [hI.out, hd.out, hd'.out]; simp only [eqPts, hpq, Bool.true_and], chain hB hB2⟩
          case measure => simp [intOf]; omega
      · obtain rfl : k = n := by omega
        go_wp2
        go_returns
        go_light
        refine ⟨ret_bool ?_, hB⟩
        rw [hI.out, List.drop_of_length_le (Nat.le_of_eq hlen.out), List.drop_of_length_le (Nat.le_of_eq hlen'.out)]; rfl
  · have hbn : ((n : Int) != (n' : Int)) = true := by simp; omega
    go_enter Tryz.func143, Tryz.ntmps143
    go_wp2
    go_returns
    go_light
    refine ⟨ret_bool ?_, Below.refl _ _⟩
    rw [eqPts_len (by rw [hlen.out, hlen'.out]; exact hne)]
end Go.Proofs.YtllbojcjdpelnaaGreat
namespace Go.Proofs.YtllbojcjdpelnaaGreat
open Go.RowKit Go.BigFrame

/-- A region that draws its order, whose first n operations only read, what is left coming behind them in its own order. -/
theorem wp_region_tail {P : Program} {id : Nat} {Q : Exit → Act → World → Prop} {a : Act} {w : World} {l : List Oper} (n : Nat) (hm : P.follows .mixedOrders = true) (hB : Region.lexTailB .any l.toArray n = true)
    (h : wpStill P l.toArray w.drew (fun a' => wpList P l.toArray Q (l.drop n) a' w.drew) (l.take n) a) : (Code.region id l.toArray true).wp P Q a w :=
  wp_region_still_tail n hm hB h

/-- A row in the making: its parts, all lengths together, whether it grew too great. -/
structure RSt where
  L : List Pt
  s : Int
  ov : Bool

/-- Block b holds such a row. -/
structure RowAt (w : World) (b : Nat) (r : RSt) : Prop where
  le : r.L.length ≤ 16
  blk : ∃ c : Array Value, Blk w b c 137 ∧ c.size = 51 ∧ (∀ i p, r.L[i]? = some p → c[i * 3]? = some (.int .i64 p.a) ∧ c[i * 3 + 1]? = some (.int .i64 p.f) ∧ c[i * 3 + 2]? = some (.int .i64 p.n)) ∧
    c[48]? = some (.int .i64 r.L.length) ∧ c[49]? = some (.int .i64 r.s) ∧ c[50]? = some (.bool r.ov)

/-- What a part adds to it. -/
def radd (r : RSt) (p : Pt) : RSt :=
  if 100 < r.s + p.n then ⟨r.L, r.s + p.n, true⟩ else
  match r.L.getLast? with
  | none => ⟨[p], r.s + p.n, r.ov⟩
  | some q => if goesOnB q p then ⟨r.L.dropLast ++ [⟨q.a, q.f, q.n + p.n⟩], r.s + p.n, r.ov⟩ else
    if r.L.length < 16 then ⟨r.L ++ [p], r.s + p.n, r.ov⟩ else ⟨r.L, r.s + p.n, true⟩

theorem radd_merge {r : RSt} {p q : Pt} (hA : r.s + p.n ≤ 100) (hl : r.L.getLast? = some q) (hg : goesOnB q p = true) : radd r p = ⟨r.L.dropLast ++ [⟨q.a, q.f, q.n + p.n⟩], r.s + p.n, r.ov⟩ := by
  have : ¬ 100 < r.s + p.n := by omega
  simp [radd, this, hl, hg]
theorem radd_app {r : RSt} {p q : Pt} (hA : r.s + p.n ≤ 100) (hl : r.L.getLast? = some q) (hg : goesOnB q p = false) (hf : r.L.length < 16) : radd r p = ⟨r.L ++ [p], r.s + p.n, r.ov⟩ := by
  have : ¬ 100 < r.s + p.n := by omega
  simp [radd, this, hl, hg, hf]
theorem radd_full {r : RSt} {p q : Pt} (hA : r.s + p.n ≤ 100) (hl : r.L.getLast? = some q) (hg : goesOnB q p = false) (hf : ¬ r.L.length < 16) : radd r p = ⟨r.L, r.s + p.n, true⟩ := by
  have : ¬ 100 < r.s + p.n := by omega
  simp [radd, this, hl, hg, hf]

/-- Lengths that add up. -/
def RInv (r : RSt) : Prop := 0 ≤ r.s ∧ ∀ q ∈ r.L, 1 ≤ q.n ∧ q.n ≤ r.s

set_option maxHeartbeats 1000000 in
set_option maxRecDepth 100000 in
theorem impl_add (b : Nat) (r : RSt) (p : Pt) (w : World) (h : RowAt w b r) (hi : RInv r) (hs : r.s ≤ 1000000) (hp1 : 1 ≤ p.n) (hp2 : p.n ≤ 1000000) :
    Calls Tryz.prog 119 #[.pointer (some ⟨b, 0, none⟩), .agg #[.int .i64 p.a, .int .i64 p.f, .int .i64 p.n]] w fun e w' => e = .returned (.tuple #[]) ∧ RowAt w' b (radd r p) ∧ w.grownBy w' (some b) := by
  obtain ⟨hle, c, hblk, hcs, hcp, e48, e49, e50⟩ := h
  obtain ⟨hi0, hi1⟩ := hi
  have hbw := hblk.lt
  have c48 := hblk.cell 48
  have c49 := hblk.cell 49
  have c50 := hblk.cell 50
  rw [e48] at c48
  rw [e49] at c49
  rw [e50] at c50
  have f48 := hblk.frozen 48
  have f49 := hblk.frozen 49
  have f50 := hblk.frozen 50
  by_cases hA : 100 < r.s + p.n
  · have hr : Hid (radd r p = ⟨r.L, r.s + p.n, true⟩) := by show _ = _; simp [radd, hA]
    go_enter Tryz.func119, Tryz.ntmps119
    go_wp2_with fail
    refine wp_region_tail 9 (by kernel_rfl) (by kernel_rfl) ?_
    simp only [List.take_succ_cons, List.take_zero, List.drop_succ_cons, List.drop_zero]
    repeat still_step
    refine wpStill_nil ?_
    go_wp2
    go_returns
    go_light
    refine ⟨rfl, ?_, ?_⟩
    · rw [hr.out]
      refine ⟨hle, _, (((hblk.set 49 _).set 50 _).alloc _).drew, by simp [hcs], ?_, ?_, ?_, ?_⟩
      · intro i q hq
        have hlt : i < r.L.length := (List.getElem?_eq_some_iff.1 hq).1
        obtain ⟨r0, r1, r2⟩ := hcp i q hq
        refine ⟨?_, ?_, ?_⟩
        all_goals (rw [Array.getElem?_setIfInBounds_ne (by omega), Array.getElem?_setIfInBounds_ne (by omega)]; assumption)
      · rw [Array.getElem?_setIfInBounds_ne (by omega), Array.getElem?_setIfInBounds_ne (by omega)]; exact e48
      · rw [Array.getElem?_setIfInBounds_ne (by omega), Array.getElem?_setIfInBounds_self_of_lt (by omega)]
      · rw [Array.getElem?_setIfInBounds_self_of_lt (by simp [hcs])]
    · exact grown_below (grown_set (grown_set (World.grownBy.refl _ _) _ _) _ _) (((Below.refl _ _).alloc (Nat.le_refl _) _).drew)
  · have hwr : IntKind.i64.wrap (r.s + p.n) = r.s + p.n := by rw [IntKind.wrap_i64]; omega
    have hb5 : Blk ((w.setCell ⟨b, 49, none⟩ (.int .i64 (r.s + p.n))).alloc (.cells #[.int .i64 p.a, .int .i64 p.f, .int .i64 p.n] 113)).drew b (c.setIfInBounds 49 (.int .i64 (r.s + p.n))) 137 := ((hblk.set 49 _).alloc _).drew
    have hg5 : w.grownBy ((w.setCell ⟨b, 49, none⟩ (.int .i64 (r.s + p.n))).alloc (.cells #[.int .i64 p.a, .int .i64 p.f, .int .i64 p.n] 113)).drew (some b) := grown_below (grown_set (World.grownBy.refl _ _) _ _) (((Below.refl _ _).alloc (Nat.le_refl _) _).drew)
    have k48 : (c.setIfInBounds 49 (.int .i64 (r.s + p.n)))[48]? = some (.int .i64 r.L.length) := by rw [Array.getElem?_setIfInBounds_ne (by omega)]; exact e48
    have k49 : (c.setIfInBounds 49 (.int .i64 (r.s + p.n)))[49]? = some (.int .i64 (r.s + p.n)) := by rw [Array.getElem?_setIfInBounds_self_of_lt (by omega)]
    have k50 : (c.setIfInBounds 49 (.int .i64 (r.s + p.n)))[50]? = some (.bool r.ov) := by rw [Array.getElem?_setIfInBounds_ne (by omega)]; exact e50
    have kp : ∀ i q, r.L[i]? = some q → (c.setIfInBounds 49 (.int .i64 (r.s + p.n)))[i * 3]? = some (.int .i64 q.a) ∧ (c.setIfInBounds 49 (.int .i64 (r.s + p.n)))[i * 3 + 1]? = some (.int .i64 q.f) ∧ (c.setIfInBounds 49 (.int .i64 (r.s + p.n)))[i * 3 + 2]? = some (.int .i64 q.n) := by
      intro i q hq
      have hlt : i < r.L.length := (List.getElem?_eq_some_iff.1 hq).1
      obtain ⟨r0, r1, r2⟩ := hcp i q hq
      refine ⟨?_, ?_, ?_⟩
      all_goals (rw [Array.getElem?_setIfInBounds_ne (by omega)]; assumption)
    have ks : (c.setIfInBounds 49 (.int .i64 (r.s + p.n))).size = 51 := by simp [hcs]
    have x0 : ((w.setCell ⟨b, 49, none⟩ (.int .i64 (r.s + p.n))).alloc (.cells #[.int .i64 p.a, .int .i64 p.f, .int .i64 p.n] 113)).drew.cell? ⟨w.heap.size, 0, none⟩ = some (.int .i64 p.a) := by simp [go_sem]
    have x1 : ((w.setCell ⟨b, 49, none⟩ (.int .i64 (r.s + p.n))).alloc (.cells #[.int .i64 p.a, .int .i64 p.f, .int .i64 p.n] 113)).drew.cell? ⟨w.heap.size, 1, none⟩ = some (.int .i64 p.f) := by simp [go_sem]
    have x2 : ((w.setCell ⟨b, 49, none⟩ (.int .i64 (r.s + p.n))).alloc (.cells #[.int .i64 p.a, .int .i64 p.f, .int .i64 p.n] 113)).drew.cell? ⟨w.heap.size, 2, none⟩ = some (.int .i64 p.n) := by simp [go_sem]
    have hsz : w.heap.size < ((w.setCell ⟨b, 49, none⟩ (.int .i64 (r.s + p.n))).alloc (.cells #[.int .i64 p.a, .int .i64 p.f, .int .i64 p.n] 113)).drew.heap.size := by simp
    go_enter Tryz.func119, Tryz.ntmps119
    go_wp2_with fail
    refine wp_region_tail 9 (by kernel_rfl) (by kernel_rfl) ?_
    simp only [List.take_succ_cons, List.take_zero, List.drop_succ_cons, List.drop_zero]
    repeat still_step
    refine wpStill_nil ?_
    go_wp2_with fail
    generalize hW5 : ((w.setCell ⟨b, 49, none⟩ (.int .i64 (r.s + p.n))).alloc (.cells #[.int .i64 p.a, .int .i64 p.f, .int .i64 p.n] 113)).drew = W5 at hb5 hg5 x0 x1 x2 hsz ⊢
    generalize hc5 : c.setIfInBounds 49 (.int .i64 (r.s + p.n)) = c5 at hb5 k48 k49 k50 kp ks
    clear hW5 hc5 c48 c49 c50 f48 f49 f50 e48 e49 e50 hcp hcs hblk
    have c48 := (hb5.cell 48).trans k48
    rcases List.eq_nil_or_concat r.L with hL | ⟨L', q, hL⟩
    · have hr : Hid (radd r p = ⟨[p], r.s + p.n, r.ov⟩) := by show _ = _; simp [radd, hA, hL]
      rw [hL] at c48 k48
      simp at c48 k48
      -- the row is empty: the part is its first
      go_quiet (fail)
      have hb6 := hb5.below (drewNB W5 nq)
      have hg6 := grown_below hg5 (drewNB W5 nq)
      have c48' := (hb6.cell 48).trans k48
      have f48 := hb6.frozen 48
      obtain ⟨v0, y0⟩ := hb6.has (i := 0) (by omega)
      obtain ⟨v1, y1⟩ := hb6.has (i := 1) (by omega)
      obtain ⟨v2, y2⟩ := hb6.has (i := 2) (by omega)
      have f0 := hb6.frozen 0
      have f1 := hb6.frozen 1
      have f2 := hb6.frozen 2
      replace x0 := bcell (drewNB W5 nq) x0
      replace x1 := bcell (drewNB W5 nq) x1
      replace x2 := bcell (drewNB W5 nq) x2
      generalize W5.drewN nq = W6 at *
      clear c48 hb5 hg5
      go_wp2_with fail
      refine wp_region_tail 9 (by kernel_rfl) (by kernel_rfl) ?_
      simp only [List.take_succ_cons, List.take_zero, List.drop_succ_cons, List.drop_zero]
      repeat still_step
      refine wpStill_nil ?_
      go_wp2
      go_returns
      go_light
      refine ⟨rfl, ?_, ?_⟩
      · rw [hr.out]
        refine ⟨by simp, _, ((((hb6.set 0 _).set 1 _).set 2 _).set 48 _).drew, by simp [ks], ?_, ?_, ?_, ?_⟩
        · intro i x hx
          have : i = 0 := by have := (List.getElem?_eq_some_iff.1 hx).1; simp at this; exact this
          subst this
          simp at hx
          subst hx
          refine ⟨?_, ?_, ?_⟩
          all_goals (simp [ks])
        · simp [ks]
        · simp [k49]
        · simp [k50]
      · exact grown_below (grown_set (grown_set (grown_set (grown_set hg6 _ _) _ _) _ _) _ _) ((Below.refl _ _).drew)
    · -- there is a last part
      have hLl : r.L.length = L'.length + 1 := by rw [hL]; simp
      have hq : r.L[L'.length]? = some q := by rw [hL]; simp
      have hlast : r.L.getLast? = some q := by rw [hL]; simp
      have hdl : r.L.dropLast = L' := by rw [hL]; simp
      have hj16 : L'.length < 16 := by omega
      obtain ⟨q0, q1, q2⟩ := kp _ q hq
      have hqi := hi1 q (List.mem_of_getElem? hq)
      rw [hLl] at c48 k48
      generalize hj : L'.length = j at *
      have d0 := (hb5.cell (j * 3)).trans q0
      have d1 := (hb5.cell (j * 3 + 1)).trans q1
      have d2 := (hb5.cell (j * 3 + 2)).trans q2
      have c48i : W5.cell? ⟨b, 48, none⟩ = some (.int .i64 ((j : Int) + 1)) := by rw [c48]; simp
      have hw1 : IntKind.i64.wrap ((j : Int) + 1 - 1) = (j : Int) := by rw [IntKind.wrap_i64]; omega
      have hj0 : (0 : Int) < (j : Int) + 1 := by omega
      have hj15 : (j : Int) < 16 := by omega
      have hjn : (0 : Int) ≤ (j : Int) := by omega
      clear c48
      have g48 := gcell c48i
      have g0 := gcell d0
      have g1 := gcell d1
      have g2 := gcell d2
      have g3 := gcell x0
      have g4 := gcell x1
      have g5 := gcell x2
      have hne := grw_ne W5
      cases hgo : goesOnB q p
      all_goals
        refine wp_region_grow (by kernel_rfl) (by kernel_rfl) ?_
        repeat (go_big_quiet_step (first | (go_at_call 118; have qq := impl_goesOn q p; rw [hgo] at qq; exact grow_of (qq _))))
        refine wpQuiet_nil ?_
        intro W6 hx
        have hB6 := grw_out hx
        clear hx g48 g0 g1 g2 g3 g4 g5 hne
        have hb6 := hb5.below hB6
        have hg6 := grown_below hg5 hB6
        have c48' := bcell hB6 c48i
        have f48 := hb6.frozen 48
        replace x0 := bcell hB6 x0
        replace x1 := bcell hB6 x1
        replace x2 := bcell hB6 x2
        clear hb5 hg5 hB6 hsz
      · by_cases hfull : j + 1 < 16
        · have hr : Hid (radd r p = ⟨r.L ++ [p], r.s + p.n, r.ov⟩) := radd_app (by omega) hlast hgo (by omega)
          obtain ⟨v0, y0⟩ := hb6.has (i := (j + 1) * 3) (by omega)
          obtain ⟨v1, y1⟩ := hb6.has (i := (j + 1) * 3 + 1) (by omega)
          obtain ⟨v2, y2⟩ := hb6.has (i := (j + 1) * 3 + 2) (by omega)
          have f0 := hb6.frozen ((j + 1) * 3)
          have f1 := hb6.frozen ((j + 1) * 3 + 1)
          have f2 := hb6.frozen ((j + 1) * 3 + 2)
          have n0 : ¬ (48 = (j + 1) * 3) := by omega
          have n1 : ¬ (48 = (j + 1) * 3 + 1) := by omega
          have n2 : ¬ (48 = (j + 1) * 3 + 2) := by omega
          have hfi : (j : Int) + 1 < 16 := by omega
          have hfj : (0 : Int) ≤ (j : Int) + 1 := by omega
          have hfk : ((j : Int) + 1).toNat = j + 1 := by omega
          clear d0 d1 d2 hw1 hj0 hj15 hjn
          go_wp2_with fail
          refine wp_region_tail 9 (by kernel_rfl) (by kernel_rfl) ?_
          simp only [List.take_succ_cons, List.take_zero, List.drop_succ_cons, List.drop_zero]
          repeat still_step
          refine wpStill_nil ?_
          go_wp2
          go_returns
          go_light
          refine ⟨rfl, ?_, ?_⟩
          · rw [hr.out]
            refine ⟨by simp; omega, _, ((((hb6.set ((j + 1) * 3) _).set ((j + 1) * 3 + 1) _).set ((j + 1) * 3 + 2) _).set 48 _).drew, by simp [ks], ?_, ?_, ?_, ?_⟩
            · intro i x hx
              have hil : i < j + 2 := by have := (List.getElem?_eq_some_iff.1 hx).1; simp [hLl] at this; omega
              by_cases hie : i = j + 1
              · subst hie
                rw [List.getElem?_append_right (by omega), hLl] at hx
                simp at hx
                subst hx
                refine ⟨?_, ?_, ?_⟩
                · rw [Array.getElem?_setIfInBounds_ne (by omega), Array.getElem?_setIfInBounds_ne (by omega), Array.getElem?_setIfInBounds_ne (by omega), Array.getElem?_setIfInBounds_self_of_lt (by omega)]
                · rw [Array.getElem?_setIfInBounds_ne (by omega), Array.getElem?_setIfInBounds_ne (by omega), Array.getElem?_setIfInBounds_self_of_lt (by simp; omega)]
                · rw [Array.getElem?_setIfInBounds_ne (by omega), Array.getElem?_setIfInBounds_self_of_lt (by simp; omega)]
              · rw [List.getElem?_append_left (by omega)] at hx
                obtain ⟨r0, r1, r2⟩ := kp i x hx
                refine ⟨?_, ?_, ?_⟩
                all_goals (rw [Array.getElem?_setIfInBounds_ne (by omega), Array.getElem?_setIfInBounds_ne (by omega), Array.getElem?_setIfInBounds_ne (by omega), Array.getElem?_setIfInBounds_ne (by omega)]; assumption)
            · rw [Array.getElem?_setIfInBounds_self_of_lt (by simp; omega)]; simp [hLl]
            · rw [Array.getElem?_setIfInBounds_ne (by omega), Array.getElem?_setIfInBounds_ne (by omega), Array.getElem?_setIfInBounds_ne (by omega), Array.getElem?_setIfInBounds_ne (by omega)]; exact k49
            · rw [Array.getElem?_setIfInBounds_ne (by omega), Array.getElem?_setIfInBounds_ne (by omega), Array.getElem?_setIfInBounds_ne (by omega), Array.getElem?_setIfInBounds_ne (by omega)]; exact k50
          · exact grown_below (grown_set (grown_set (grown_set (grown_set hg6 _ _) _ _) _ _) _ _) ((Below.refl _ _).drew)
        · have hr : Hid (radd r p = ⟨r.L, r.s + p.n, true⟩) := radd_full (by omega) hlast hgo (by omega)
          have f50 := hb6.frozen 50
          have c50 := (hb6.cell 50).trans k50
          have hfi : ¬ (j : Int) + 1 < 16 := by omega
          clear d0 d1 d2 hw1 hj0 hj15 hjn
          go_wp2
          go_returns
          go_light
          refine ⟨rfl, ?_, ?_⟩
          · rw [hr.out]
            refine ⟨hle, _, hb6.set 50 _, by simp [ks], ?_, ?_, ?_, ?_⟩
            · intro i x hx
              have hlt : i < r.L.length := (List.getElem?_eq_some_iff.1 hx).1
              obtain ⟨r0, r1, r2⟩ := kp i x hx
              refine ⟨?_, ?_, ?_⟩
              all_goals (rw [Array.getElem?_setIfInBounds_ne (by omega)]; assumption)
            · rw [Array.getElem?_setIfInBounds_ne (by omega), k48, hLl]
            · rw [Array.getElem?_setIfInBounds_ne (by omega)]; exact k49
            · rw [Array.getElem?_setIfInBounds_self_of_lt (by omega)]
          · exact grown_set hg6 _ _
      · have hr : Hid (radd r p = ⟨r.L.dropLast ++ [⟨q.a, q.f, q.n + p.n⟩], r.s + p.n, r.ov⟩) := radd_merge (by omega) hlast hgo
        have f2 := hb6.frozen (j * 3 + 2)
        have z2 := (hb6.cell (j * 3 + 2)).trans q2
        have hw2 : IntKind.i64.wrap (q.n + p.n) = q.n + p.n := by rw [IntKind.wrap_i64]; omega
        have hw3 : IntKind.i64.wrap (j : Int) = (j : Int) := by rw [IntKind.wrap_i64]; omega
        clear d0 d1 d2
        go_wp2_with fail
        refine wp_region_tail 18 (by kernel_rfl) (by kernel_rfl) ?_
        simp only [List.take_succ_cons, List.take_zero, List.drop_succ_cons, List.drop_zero]
        repeat still_step
        refine wpStill_nil ?_
        go_wp2
        go_returns
        go_light
        refine ⟨rfl, ?_, ?_⟩
        · rw [hr.out]
          refine ⟨by simp [hLl]; omega, _, (hb6.set (j * 3 + 2) _).drew, by simp [ks], ?_, ?_, ?_, ?_⟩
          · intro i x hx
            have hil : i < j + 1 := by have := (List.getElem?_eq_some_iff.1 hx).1; simp [hLl] at this; omega
            rw [hdl] at hx
            by_cases hie : i = j
            · subst hie
              rw [List.getElem?_append_right (by omega), hj] at hx
              simp at hx
              subst hx
              refine ⟨?_, ?_, ?_⟩
              · rw [Array.getElem?_setIfInBounds_ne (by omega)]; exact q0
              · rw [Array.getElem?_setIfInBounds_ne (by omega)]; exact q1
              · rw [Array.getElem?_setIfInBounds_self_of_lt (by omega)]
            · rw [List.getElem?_append_left (by omega)] at hx
              obtain ⟨r0, r1, r2⟩ := kp i x (by rw [hL, List.concat_eq_append, List.getElem?_append_left (by omega)]; exact hx)
              refine ⟨?_, ?_, ?_⟩
              all_goals (rw [Array.getElem?_setIfInBounds_ne (by omega)]; assumption)
          · rw [Array.getElem?_setIfInBounds_ne (by omega), k48]; simp [hdl, hj]
          · rw [Array.getElem?_setIfInBounds_ne (by omega)]; exact k49
          · rw [Array.getElem?_setIfInBounds_ne (by omega)]; exact k50
        · exact grown_below (grown_set hg6 _ _) ((Below.refl _ _).drew)
end Go.Proofs.YtllbojcjdpelnaaGreat
namespace Go.Proofs.YtllbojcjdpelnaaGreat
open Go.RowKit Go.BigFrame

def rall (r : RSt) (l : List Pt) : RSt := l.foldl radd r

theorem radd_s (r : RSt) (p : Pt) : (radd r p).s = r.s + p.n := by
  unfold radd
  split
  · rfl
  · split
    · rfl
    · split
      · rfl
      · split <;> rfl

theorem radd_inv {r : RSt} {p : Pt} (h : RInv r) (hp : 1 ≤ p.n) : RInv (radd r p) := by
  obtain ⟨h0, h1⟩ := h
  have hold : ∀ q ∈ r.L, 1 ≤ q.n ∧ q.n ≤ r.s + p.n := fun q hq => by have := h1 q hq; omega
  refine ⟨by rw [radd_s]; omega, ?_⟩
  rw [radd_s]
  unfold radd
  split
  · exact hold
  · split
    · rename_i hl
      intro q hq
      simp at hq
      subst hq
      omega
    · rename_i q0 hl
      have hq0 := h1 q0 (List.mem_of_getLast? hl)
      split
      · intro q hq
        simp only [List.mem_append, List.mem_singleton] at hq
        rcases hq with hq | rfl
        · exact hold q (List.dropLast_subset _ hq)
        · show 1 ≤ q0.n + p.n ∧ q0.n + p.n ≤ r.s + p.n
          omega
      · split
        · intro q hq
          simp only [List.mem_append, List.mem_singleton] at hq
          rcases hq with hq | rfl
          · exact hold q hq
          · omega
        · exact hold

theorem rall_at {r : RSt} {l : List Pt} {k : Nat} {p : Pt} (h : l[k]? = some p) : rall r (l.take (k + 1)) = radd (rall r (l.take k)) p := by
  unfold rall; rw [take_at h, List.foldl_append]; rfl

/-- A part box behind which the row is added to: the row's block, and the slice, are as they were. -/
theorem RowAt.below {w w' : World} {b : Nat} {r : RSt} (h : RowAt w b r) (hb : Below w.heap.size w w') : RowAt w' b r := by
  obtain ⟨hle, c, hc, q⟩ := h
  exact ⟨hle, c, hc.below hb, q⟩
theorem RowAt.lt {w : World} {b : Nat} {r : RSt} (h : RowAt w b r) : b < w.heap.size := by
  obtain ⟨_, c, hc, _⟩ := h
  exact hc.lt

/-- The piece x .. y - 1 of a part. -/
def cutP (p : Pt) (x y : Int) : Pt := if p.a == 0 then ⟨0, 0, y - x⟩ else ⟨p.a, p.f + x, y - x⟩

theorem impl_within (p : Pt) (x y : Int) (w : World) (hf : -1000 ≤ p.f) (hf' : p.f ≤ 1000) (hx0 : 0 ≤ x) (hx1 : x ≤ 1000) (hy0 : 0 ≤ y) (hy1 : y ≤ 1000) :
    Calls Tryz.prog 120 #[.agg #[.int .i64 p.a, .int .i64 p.f, .int .i64 p.n], .int .i64 x, .int .i64 y] w fun e w' => e = .returned (.agg #[.int .i64 (cutP p x y).a, .int .i64 (cutP p x y).f, .int .i64 (cutP p x y).n]) ∧ Below w.heap.size w w' := by
  obtain ⟨a, f, n⟩ := p
  simp only at hf hf'
  cases ha : (a == 0)
  · have hc : Hid (cutP ⟨a, f, n⟩ x y = ⟨a, f + x, y - x⟩) := by show _ = _; simp [cutP, ha]
    go_enter Tryz.func120, Tryz.ntmps120
    go_wp2
    go_returns
    go_light
    refine ⟨?_, by go_grown⟩
    rw [hc.out]
  · have hc : Hid (cutP ⟨a, f, n⟩ x y = ⟨0, 0, y - x⟩) := by show _ = _; simp [cutP, ha]
    go_enter Tryz.func120, Tryz.ntmps120
    go_wp2
    go_returns
    go_light
    refine ⟨?_, by go_grown⟩
    rw [hc.out]

/-- The pieces that make up the bytes from .. to - 1, the parts beginning at st. -/
def slp (fr to : Int) : Int → List Pt → List Pt
  | _, [] => []
  | st, p :: r => if max (fr - st) 0 < min (to - st) p.n then cutP p (max (fr - st) 0) (min (to - st) p.n) :: slp fr to (st + p.n) r else slp fr to (st + p.n) r

theorem cutP_n (p : Pt) (x y : Int) : (cutP p x y).n = y - x := by unfold cutP; split <;> rfl
theorem slp_yes {fr to st x y : Int} {p : Pt} {r : List Pt} (hx : max (fr - st) 0 = x) (hy : min (to - st) p.n = y) (h : x < y) : slp fr to st (p :: r) = cutP p x y :: slp fr to (st + p.n) r := by
  subst hx hy; simp only [slp, h, if_true]
theorem slp_step {rk : RSt} {fr to st x y : Int} {p : Pt} {r : List Pt} (hx : max (fr - st) 0 = x) (hy : min (to - st) p.n = y) (h : x < y) : rall rk (slp fr to st (p :: r)) = rall (radd rk (cutP p x y)) (slp fr to (st + p.n) r) := by
  rw [slp_yes hx hy h]; rfl
theorem slp_no {fr to st : Int} {p : Pt} {r : List Pt} (h : ¬ max (fr - st) 0 < min (to - st) p.n) : slp fr to st (p :: r) = slp fr to (st + p.n) r := by
  simp only [slp, h, if_false]

set_option maxHeartbeats 4000000 in
theorem impl_addSlice (b : Nat) (r : RSt) (a : Option Addr) (n cap : Nat) (l : List Pt) (fr to : Int) (w : World) (hR : RowAt w b r) (hi : RInv r) (hs : r.s ≤ 900000) (h : PtsAt w a n l) (hne : ∀ ad, a = some ad → ad.block ≠ b) (hn : n ≤ 16) (hl : ∀ p ∈ l, 1 ≤ p.n ∧ p.n ≤ 100 ∧ 0 ≤ p.f ∧ p.f ≤ 100) (hf0 : 0 ≤ fr) (hf1 : fr ≤ 10000) (ht0 : 0 ≤ to) (ht1 : to ≤ 10000) :
    Calls Tryz.prog 100 #[.pointer (some ⟨b, 0, none⟩), .slice a n cap, .int .i64 fr, .int .i64 to] w fun e w' => e = .returned (.tuple #[]) ∧ RowAt w' b (rall r (slp fr to 0 l)) ∧ RInv (rall r (slp fr to 0 l)) ∧ (rall r (slp fr to 0 l)).s ≤ r.s + 1600 ∧ w.grownBy w' (some b) := by
  have hlen : Hid (l.length = n) := h.len
  go_enter Tryz.func100, Tryz.ntmps100
  go_wp2_with fail
  go_loopw [8, 15] (fun s ix wr => ∃ (k : Nat) (st : Int) (rk : RSt), k ≤ n ∧ ix = .int .i64 k ∧ s = .int .i64 st ∧ 0 ≤ st ∧ st ≤ 100 * k ∧ RowAt wr b rk ∧ RInv rk ∧ rk.s ≤ r.s + 100 * k ∧ Hid (rall r (slp fr to 0 l) = rall rk (slp fr to st (l.drop k))) ∧ w.grownBy wr (some b)) (fun _ ix _ => n - (intOf ix).toNat)
  case atStart => exact ⟨0, 0, r, Nat.zero_le _, rfl, rfl, by omega, by omega, hR, hi, by omega, rfl, World.grownBy.refl _ _⟩
  case round =>
    obtain ⟨k, st, rk, hk, rfl, rfl, hs0, hs1, hRk, hik, hsk, hI, hg⟩ := hrel
    by_cases hlt : k < n
    · obtain ⟨b', o, p, rfl, hp, c0, c1, c2⟩ := pts_at (h.grown hg hne) hlt
      have hd : Hid (l.drop k = p :: l.drop (k + 1)) := drop_at hp
      obtain ⟨hp1, hp2, hp3, hp4⟩ := hl p (List.mem_of_getElem? hp)
      clear hp
      have hbl := hRk.lt
      by_cases hxy : max (fr - st) 0 < min (to - st) p.n
      · by_cases hx : fr - st < 0
        all_goals by_cases hy : p.n < to - st
        all_goals
          go_wp2_with fail
          refine (impl_within p _ _ _ (by omega) (by omega) (by omega) (by omega) (by omega) (by omega)).mono ?_
          rintro e w1 ⟨rfl, hB1⟩
          obtain ⟨x0, x1, x2, hB1', hs1⟩ := box3 hB1
          clear hB1
          go_wp2_with fail
          refine (impl_add b rk (cutP p _ _) _ (hRk.below hB1') hik (by omega) (by rw [cutP_n]; omega) (by rw [cutP_n]; omega)).mono ?_
          rintro e w2 ⟨rfl, hR2, hg2⟩
          have z2 := hg2.cell x2 (by simp; omega)
          have hg3 := grown_trans (grown_below hg hB1') hg2
          clear x0 x1 x2 hB1' c0 c1 c2
          go_wp2
          go_roundw
          case rel => exact ⟨k + 1, st + p.n, _, by omega, by go_num, by go_num, by omega, by omega, hR2, radd_inv hik (by rw [cutP_n]; omega), by rw [radd_s, cutP_n]; omega, by show _ = _; rw [hI.out, hd.out]; exact slp_step (by omega) (by omega) (by omega), hg3⟩
          case measure => simp [intOf]; omega
      · by_cases hx : fr - st < 0
        all_goals by_cases hy : p.n < to - st
        all_goals try (exfalso; omega)
        all_goals
          go_wp2
          go_roundw
          case rel => exact ⟨k + 1, st + p.n, rk, by omega, by go_num, by go_num, by omega, by omega, hRk.below ((Below.refl _ _).alloc (Nat.le_refl _) _), hik, by omega, by show _ = _; rw [hI.out, hd.out, slp_no hxy], grown_below hg ((Below.refl _ _).alloc (Nat.le_refl _) _)⟩
          case measure => simp [intOf]; omega
    · obtain rfl : k = n := by omega
      go_wp2
      go_returns
      go_light
      rw [List.drop_of_length_le (Nat.le_of_eq hlen.out)] at hI
      rw [hI.out]
      exact ⟨rfl, hRk, hik, by show rk.s ≤ _; omega, hg⟩
end Go.Proofs.YtllbojcjdpelnaaGreat
namespace Go.Proofs.YtllbojcjdpelnaaGreat
open Go.RowKit Go.BigFrame

theorem infoP : (Tryz.prog.info? 113).map (fun i => (i.zero, i.size, i.bytes)) = some (some (.agg #[.int .i64 0, .int .i64 0, .int .i64 0]), 3, 24) := by kernel_rfl

theorem impl_told_over (b : Nat) (r : RSt) (w : World) (hR : RowAt w b r) (hov : r.ov = true) :
    Calls Tryz.prog 101 #[.pointer (some ⟨b, 0, none⟩)] w fun e w' => e = .returned (.tuple #[.slice none 0 0, .bool false]) ∧ w' = w := by
  obtain ⟨hle, c, hblk, hcs, hcp, e48, e49, e50⟩ := hR
  have c50 := (hblk.cell 50).trans e50
  rw [hov] at c50
  go_enter Tryz.func101, Tryz.ntmps101
  go_wp2
  go_returns
  exact ⟨rfl, rfl⟩

theorem RowAt.sl {w : World} {b : Nat} {r : RSt} (h : RowAt w b r) : PtsAt w (some ⟨b, 0, none⟩) r.L.length r.L := by
  obtain ⟨hle, c, hblk, hcs, hcp, _⟩ := h
  refine ⟨rfl, fun i x hx => ⟨b, 0, rfl, fun j v hv => ?_⟩⟩
  obtain ⟨r0, r1, r2⟩ := hcp i x hx
  rw [hblk.cell, Nat.zero_add]
  match j, hv with
  | 0, hv => obtain rfl := Option.some.inj hv; exact r0
  | 1, hv => obtain rfl := Option.some.inj hv; exact r1
  | 2, hv => obtain rfl := Option.some.inj hv; exact r2
  | j + 3, hv => simp [Pt.cs] at hv

set_option maxHeartbeats 1000000 in
set_option maxRecDepth 100000 in
theorem impl_told (b : Nat) (r : RSt) (w : World) (hR : RowAt w b r) (hov : r.ov = false) :
    Calls Tryz.prog 101 #[.pointer (some ⟨b, 0, none⟩)] w fun e w' => ∃ a cap, e = .returned (.tuple #[.slice a r.L.length cap, .bool true]) ∧ ResAt Pt.cs 3 113 w' w.heap.size a r.L.length cap r.L ∧ Below w.heap.size w w' := by
  have hsl := hR.sl
  obtain ⟨hle, c, hblk, hcs, hcp, e48, e49, e50⟩ := hR
  have c50 := (hblk.cell 50).trans e50
  have c48 := (hblk.cell 48).trans e48
  rw [hov] at c50
  obtain ⟨i0, hi, hz0, hz1, hz2⟩ := info_parts infoP
  have hli : (r.L.length : Int) ≤ 16 := by omega
  have hl0 : (0 : Int) ≤ r.L.length := by omega
  generalize hn : r.L.length = n at *
  go_enter Tryz.func101, Tryz.ntmps101
  go_wp2_with fail
  refine wp_region_tail 8 (by kernel_rfl) (by kernel_rfl) ?_
  simp only [List.take_succ_cons, List.take_zero, List.drop_succ_cons, List.drop_zero]
  repeat still_step
  refine wpStill_nil ?_
  refine wpList_append_own _ rfl _ _ 88 rfl w.heap.size 113 i0 (.agg #[.int .i64 0, .int .i64 0, .int .i64 0]) 3 24 Tryz.underlying88 hi hz0 hz1 hz2 rfl (by decide) (.slice none 0 0) 0 [] rfl (World.ownsRow_nil _ _ _ _) ⟨b, 0, none⟩ n 16 (r.L.flatMap Pt.cs) rfl (by rw [flat_len pcs_len, hn]) (SlAt.src pcs_len hsl.drew) (pcs_one _) (by unfold maxLen; omega) (by omega) (by simp) ?_
  intro v' w1 hrow hg _
  simp only [Nat.zero_add, List.nil_append] at hrow
  obtain ⟨a, cap, rfl, hres⟩ := res_of_row pcs_len hn hrow
  have hB : Below w.heap.size w w1 := ((Below.refl _ _).drew).grown hg (by simp) (fun k e => by simp [Value.ownBlock] at e)
  go_wp2
  go_returns
  exact ⟨a, cap, rfl, hres, hB⟩

/-- Slice, as a plain function: the row that comes of it. -/
def rowOf (l : List Pt) : RSt := rall ⟨[], 0, false⟩ l

theorem pos_of {l : List Pt} (h : partsOkB l = true) : ∀ p ∈ l, 1 ≤ p.n ∧ p.n ≤ 100 ∧ 0 ≤ p.f ∧ p.f ≤ 100 := by
  intro p hp
  obtain ⟨_, h1, h2⟩ := partsOkB_all h
  have hk := h1 p hp
  have hpos := partOkB_pos hk
  have h3 : p.n ≤ sumN l := by
    obtain ⟨i, hi⟩ := List.mem_iff_getElem?.1 hp
    have e := sumN_take hi
    have b1 := sumN_take_bd h1 i
    have b2 := sumN_take_bd h1 (i + 1)
    omega
  unfold partOkB at hk
  split at hk <;> simp at hk <;> omega

theorem row_new (w : World) : RowAt (w.alloc (.cells #[.int .i64 0, .int .i64 0, .int .i64 0, .int .i64 0, .int .i64 0, .int .i64 0, .int .i64 0, .int .i64 0, .int .i64 0, .int .i64 0, .int .i64 0, .int .i64 0, .int .i64 0, .int .i64 0, .int .i64 0, .int .i64 0, .int .i64 0, .int .i64 0, .int .i64 0, .int .i64 0, .int .i64 0, .int .i64 0, .int .i64 0, .int .i64 0, .int .i64 0, .int .i64 0, .int .i64 0, .int .i64 0, .int .i64 0, .int .i64 0, .int .i64 0, .int .i64 0, .int .i64 0, .int .i64 0, .int .i64 0, .int .i64 0, .int .i64 0, .int .i64 0, .int .i64 0, .int .i64 0, .int .i64 0, .int .i64 0, .int .i64 0, .int .i64 0, .int .i64 0, .int .i64 0, .int .i64 0, .int .i64 0, .int .i64 0, .int .i64 0, .bool false] 137)) w.heap.size ⟨[], 0, false⟩ :=
  ⟨Nat.zero_le _, _, Blk.new _ _ _, rfl, fun i p hp => by simp at hp, rfl, rfl, rfl⟩

theorem inv_new : RInv ⟨[], 0, false⟩ := ⟨Int.le_refl _, fun q hq => by simp at hq⟩

/-- What a row tells. -/
def outc (r : RSt) : Option (List Pt) := if r.ov then none else some r.L

/-- A list of parts and a flag, as an answer: nothing and false, or a list in new memory and true. -/
def RetPts (B : Nat) (e : Ending) (w' : World) : Option (List Pt) → Prop
  | none => e = .returned (.tuple #[.slice none 0 0, .bool false])
  | some L => ∃ a n cap, e = .returned (.tuple #[.slice a n cap, .bool true]) ∧ ResAt Pt.cs 3 113 w' B a n cap L

/-- The row told, whatever it holds. -/
theorem impl_told_any (B b : Nat) (r : RSt) (w : World) (hR : RowAt w b r) (hB : B ≤ w.heap.size) :
    Calls Tryz.prog 101 #[.pointer (some ⟨b, 0, none⟩)] w fun e w' => RetPts B e w' (outc r) ∧ Below w.heap.size w w' := by
  cases hov : r.ov
  · refine (impl_told b r w hR hov).mono ?_
    rintro e w' ⟨a, cap, rfl, hres, hb⟩
    exact ⟨by simp only [outc, hov]; exact ⟨a, _, cap, rfl, hres.mono hB⟩, hb⟩
  · refine (impl_told_over b r w hR hov).mono ?_
    rintro e w' ⟨rfl, rfl⟩
    exact ⟨by simp only [outc, hov]; rfl, Below.refl _ _⟩

def sliceO (l : List Pt) (fr to : Int) : Option (List Pt) :=
  if partsOkB l = true ∧ 0 ≤ fr ∧ fr ≤ sumN l ∧ fr ≤ to ∧ to ≤ sumN l then outc (rowOf (slp fr to 0 l)) else none

set_option maxHeartbeats 1000000 in
set_option maxRecDepth 100000 in
theorem impl_Slice (a : Option Addr) (n cap : Nat) (l : List Pt) (fr to : Int) (w : World) (h : PtsAt w a n l) (hn : n ≤ 4194304) (hb : ∀ ad, a = some ad → ad.block < w.heap.size) :
    Calls Tryz.prog 65 #[.slice a n cap, .int .i64 fr, .int .i64 to] w fun e w' => RetPts w.heap.size e w' (sliceO l fr to) ∧ Below w.heap.size w w' := by
  cases hok : partsOkB l
  · have hf : sliceO l fr to = none := by simp [sliceO, hok]
    rw [hf]
    go_enter Tryz.func65, Tryz.ntmps65
    go_wp2_with fail
    refine (impl_PartsOk a n cap l _ h hn).mono ?_
    rintro e w1 ⟨rfl, hB1⟩
    rw [hok]
    go_wp2
    go_returns
    exact ⟨rfl, hB1⟩
  · have hs : Hid (lenB l = sumN l) := by show _ = _; simp [lenB, hok]
    have h100 := (partsOkB_all hok).2.2
    have hnn := sumN_nonneg l (partsOkB_all hok).2.1
    have h16 : n ≤ 16 := by rw [← h.len]; exact (partsOkB_all hok).1
    by_cases hr : 0 ≤ fr ∧ fr ≤ sumN l ∧ fr ≤ to ∧ to ≤ sumN l
    · have hf : sliceO l fr to = outc (rowOf (slp fr to 0 l)) := by simp [sliceO, hok, hr]
      rw [hf]
      clear hf
      generalize hoo' : outc (rowOf (slp fr to 0 l)) = oo
      have hoo : Hid (outc (rowOf (slp fr to 0 l)) = oo) := hoo'
      clear hoo'
      obtain ⟨r1, r2, r3, r4⟩ := hr
      go_enter Tryz.func65, Tryz.ntmps65
      go_wp2_with fail
      refine (impl_PartsOk a n cap l _ h hn).mono ?_
      rintro e w1 ⟨rfl, hB1⟩
      rw [hok]
      go_wp2_with fail
      refine (impl_LenOf a n cap l _ (h.below hB1) hn).mono ?_
      rintro e w2 ⟨rfl, hB2⟩
      rw [hs.out]
      replace hB2 := chain hB1 hB2
      go_wp2_with fail
      refine (impl_addSlice w2.heap.size _ a n cap l fr to _ (row_new w2) inv_new (by show (0 : Int) ≤ _; omega) ((h.below hB2).alloc _) (fun ad had => by have := hb ad had; have := hB2.size; omega) h16 (pos_of hok) (by omega) (by omega) (by omega) (by omega)).mono ?_
      rintro e w3 ⟨rfl, hR3, _, _, hg3⟩
      have hB3 : Below w.heap.size w w3 := below_grown (chain hB2 ((Below.refl _ _).alloc (Nat.le_refl _) _)) hg3 hB2.size
      go_wp2_with fail
      refine (impl_told_any w.heap.size _ _ _ hR3 hB3.size).mono ?_
      rintro e w4 ⟨hret, hB4⟩
      replace hB4 := chain hB3 hB4
      change RetPts _ _ _ (outc (rowOf (slp fr to 0 l))) at hret
      rw [hoo.out] at hret
      clear hoo
      cases oo with
      | none =>
        obtain rfl := hret
        go_wp2
        go_returns
        exact ⟨rfl, hB4⟩
      | some L =>
        obtain ⟨a', n', cap', rfl, hres⟩ := hret
        go_wp2
        go_returns
        exact ⟨⟨a', n', cap', rfl, hres⟩, hB4⟩
    · have hf : sliceO l fr to = none := by simp only [sliceO, hok, true_and]; rw [if_neg hr]
      rw [hf]
      clear hf
      go_enter Tryz.func65, Tryz.ntmps65
      go_wp2_with fail
      refine (impl_PartsOk a n cap l _ h hn).mono ?_
      rintro e w1 ⟨rfl, hB1⟩
      rw [hok]
      go_wp2_with fail
      refine (impl_LenOf a n cap l _ (h.below hB1) hn).mono ?_
      rintro e w2 ⟨rfl, hB2⟩
      rw [hs.out]
      replace hB2 := chain hB1 hB2
      go_wp2
      all_goals go_returns
      all_goals exact ⟨rfl, hB2⟩
end Go.Proofs.YtllbojcjdpelnaaGreat
namespace Go.Proofs.YtllbojcjdpelnaaGreat
open Go.RowKit Go.BigFrame

theorem rall_append (r : RSt) (a b : List Pt) : rall (rall r a) b = rall r (a ++ b) := by simp [rall, List.foldl_append]

def joinedO (l m : List Pt) : Option (List Pt) := if partsOkB l = true ∧ partsOkB m = true then outc (rowOf (l ++ m)) else none

theorem pos2 {l : List Pt} (h : partsOkB l = true) : ∀ p ∈ l, 1 ≤ p.n ∧ p.n ≤ 100 := fun p hp => ⟨(pos_of h p hp).1, (pos_of h p hp).2.1⟩

/-- The parts that are laid, one behind the other. -/
def laidL (l : List Pt) (at' : Int) (m : List Pt) : List Pt :=
  slp 0 (min at' (sumN l)) 0 l ++ (if sumN l < at' then [⟨0, 0, at' - sumN l⟩] else []) ++ m ++ slp (min (at' + sumN m) (sumN l)) (sumN l) 0 l
def laidO (l : List Pt) (at' : Int) (m : List Pt) : Option (List Pt) := if partsOkB l = true ∧ 0 ≤ at' ∧ at' ≤ 100 ∧ partsOkB m = true then outc (rowOf (laidL l at' m)) else none

end Go.Proofs.YtllbojcjdpelnaaGreat
