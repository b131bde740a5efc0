/- The row in the making: (*row).add. The row in the making: addAll, within, addSlice. The row told; Slice, Joined, Laid of the program. Joined, Laid of the program. The model's l2Add. The model's l2Join, l2Slice, l2Laid. Slice, Joined, Laid of the model. Answers' blocks, and what is kept while one of them is written. Plain facts: a row in the making tells what the model's joining gives. What an answer of a list and a flag is to the laws. -/
import Derived.Test.YtbjejnkeekndbaaProg
import Derived.Test.YtbjejnkeekndbaaKb
import Derived.StillTailTactics
import Derived.Test.YtbjejnkeekndbaaKa
namespace Go.Proofs.Ytbjejnkeekndbaa
open Go.RowKit Go.BigFrame

/-- A region that draws its order, whose first n operations only read, what is left coming behind them in its own order. -/
theorem wp_region_tail {P : Program} {id : Nat} {Q : Exit → Act → World → Prop} {a : Act} {w : World} {l : List Oper} (n : Nat) (hm : P.follows .mixedOrders = true) (hB : Region.lexTailB .any l.toArray n = true)
    (h : wpStill P l.toArray w.drew (fun a' => wpList P l.toArray Q (l.drop n) a' w.drew) (l.take n) a) : (Code.region id l.toArray true).wp P Q a w :=
  wp_region_still_tail n hm hB h

/-- A row in the making: its parts, all lengths together, whether it grew too great. -/
structure RSt where
  L : List Pt
  s : Int
  ov : Bool

/-- Block b holds such a row. -/
structure RowAt (w : World) (b : Nat) (r : RSt) : Prop where
  le : r.L.length ≤ 16
  blk : ∃ c : Array Value, Blk w b c 122 ∧ c.size = 51 ∧ (∀ i p, r.L[i]? = some p → c[i * 3]? = some (.int .i64 p.a) ∧ c[i * 3 + 1]? = some (.int .i64 p.f) ∧ c[i * 3 + 2]? = some (.int .i64 p.n)) ∧
    c[48]? = some (.int .i64 r.L.length) ∧ c[49]? = some (.int .i64 r.s) ∧ c[50]? = some (.bool r.ov)

/-- What a part adds to it. -/
def radd (r : RSt) (p : Pt) : RSt :=
  if 100 < r.s + p.n then ⟨r.L, r.s + p.n, true⟩ else
  match r.L.getLast? with
  | none => ⟨[p], r.s + p.n, r.ov⟩
  | some q => if goesOnB q p then ⟨r.L.dropLast ++ [⟨q.a, q.f, q.n + p.n⟩], r.s + p.n, r.ov⟩ else
    if r.L.length < 16 then ⟨r.L ++ [p], r.s + p.n, r.ov⟩ else ⟨r.L, r.s + p.n, true⟩

theorem radd_merge {r : RSt} {p q : Pt} (hA : r.s + p.n ≤ 100) (hl : r.L.getLast? = some q) (hg : goesOnB q p = true) : radd r p = ⟨r.L.dropLast ++ [⟨q.a, q.f, q.n + p.n⟩], r.s + p.n, r.ov⟩ := by
  have : ¬ 100 < r.s + p.n := by omega
  simp [radd, this, hl, hg]
theorem radd_app {r : RSt} {p q : Pt} (hA : r.s + p.n ≤ 100) (hl : r.L.getLast? = some q) (hg : goesOnB q p = false) (hf : r.L.length < 16) : radd r p = ⟨r.L ++ [p], r.s + p.n, r.ov⟩ := by
  have : ¬ 100 < r.s + p.n := by omega
  simp [radd, this, hl, hg, hf]
theorem radd_full {r : RSt} {p q : Pt} (hA : r.s + p.n ≤ 100) (hl : r.L.getLast? = some q) (hg : goesOnB q p = false) (hf : ¬ r.L.length < 16) : radd r p = ⟨r.L, r.s + p.n, true⟩ := by
  have : ¬ 100 < r.s + p.n := by omega
  simp [radd, this, hl, hg, hf]

/-- Lengths that add up. -/
def RInv (r : RSt) : Prop := 0 ≤ r.s ∧ ∀ q ∈ r.L, 1 ≤ q.n ∧ q.n ≤ r.s

set_option maxHeartbeats 1000000 in
set_option maxRecDepth 100000 in
theorem impl_add (b : Nat) (r : RSt) (p : Pt) (w : World) (h : RowAt w b r) (hi : RInv r) (hs : r.s ≤ 1000000) (hp1 : 1 ≤ p.n) (hp2 : p.n ≤ 1000000) :
    Calls Try.prog 104 #[.pointer (some ⟨b, 0, none⟩), .agg #[.int .i64 p.a, .int .i64 p.f, .int .i64 p.n]] w fun e w' => e = .returned (.tuple #[]) ∧ RowAt w' b (radd r p) ∧ w.grownBy w' (some b) := by
  obtain ⟨hle, c, hblk, hcs, hcp, e48, e49, e50⟩ := h
  obtain ⟨hi0, hi1⟩ := hi
  have hbw := hblk.lt
  have c48 := hblk.cell 48
  have c49 := hblk.cell 49
  have c50 := hblk.cell 50
  rw [e48] at c48
  rw [e49] at c49
  rw [e50] at c50
  have f48 := hblk.frozen 48
  have f49 := hblk.frozen 49
  have f50 := hblk.frozen 50
  by_cases hA : 100 < r.s + p.n
  · have hr : Hid (radd r p = ⟨r.L, r.s + p.n, true⟩) := by show _ = _; simp [radd, hA]
    go_enter Try.func104, Try.ntmps104
    go_wp2_with fail
    refine wp_region_tail 9 (by kernel_rfl) (by kernel_rfl) ?_
    simp only [List.take_succ_cons, List.take_zero, List.drop_succ_cons, List.drop_zero]
    repeat still_step
    refine wpStill_nil ?_
    go_wp2
    go_returns
    go_light
    refine ⟨rfl, ?_, ?_⟩
    · rw [hr.out]
      refine ⟨hle, _, (((hblk.set 49 _).set 50 _).alloc _).drew, by simp [hcs], ?_, ?_, ?_, ?_⟩
      · intro i q hq
        have hlt : i < r.L.length := (List.getElem?_eq_some_iff.1 hq).1
        obtain ⟨r0, r1, r2⟩ := hcp i q hq
        refine ⟨?_, ?_, ?_⟩
        all_goals (rw [Array.getElem?_setIfInBounds_ne (by omega), Array.getElem?_setIfInBounds_ne (by omega)]; assumption)
      · rw [Array.getElem?_setIfInBounds_ne (by omega), Array.getElem?_setIfInBounds_ne (by omega)]; exact e48
      · rw [Array.getElem?_setIfInBounds_ne (by omega), Array.getElem?_setIfInBounds_self_of_lt (by omega)]
      · rw [Array.getElem?_setIfInBounds_self_of_lt (by simp [hcs])]
    · exact grown_below (grown_set (grown_set (World.grownBy.refl _ _) _ _) _ _) (((Below.refl _ _).alloc (Nat.le_refl _) _).drew)
  · have hwr : IntKind.i64.wrap (r.s + p.n) = r.s + p.n := by rw [IntKind.wrap_i64]; omega
    have hb5 : Blk ((w.setCell ⟨b, 49, none⟩ (.int .i64 (r.s + p.n))).alloc (.cells #[.int .i64 p.a, .int .i64 p.f, .int .i64 p.n] 119)).drew b (c.setIfInBounds 49 (.int .i64 (r.s + p.n))) 122 := ((hblk.set 49 _).alloc _).drew
    have hg5 : w.grownBy ((w.setCell ⟨b, 49, none⟩ (.int .i64 (r.s + p.n))).alloc (.cells #[.int .i64 p.a, .int .i64 p.f, .int .i64 p.n] 119)).drew (some b) := grown_below (grown_set (World.grownBy.refl _ _) _ _) (((Below.refl _ _).alloc (Nat.le_refl _) _).drew)
    have k48 : (c.setIfInBounds 49 (.int .i64 (r.s + p.n)))[48]? = some (.int .i64 r.L.length) := by rw [Array.getElem?_setIfInBounds_ne (by omega)]; exact e48
    have k49 : (c.setIfInBounds 49 (.int .i64 (r.s + p.n)))[49]? = some (.int .i64 (r.s + p.n)) := by rw [Array.getElem?_setIfInBounds_self_of_lt (by omega)]
    have k50 : (c.setIfInBounds 49 (.int .i64 (r.s + p.n)))[50]? = some (.bool r.ov) := by rw [Array.getElem?_setIfInBounds_ne (by omega)]; exact e50
    have kp : ∀ i q, r.L[i]? = some q → (c.setIfInBounds 49 (.int .i64 (r.s + p.n)))[i * 3]? = some (.int .i64 q.a) ∧ (c.setIfInBounds 49 (.int .i64 (r.s + p.n)))[i * 3 + 1]? = some (.int .i64 q.f) ∧ (c.setIfInBounds 49 (.int .i64 (r.s + p.n)))[i * 3 + 2]? = some (.int .i64 q.n) := by
      intro i q hq
      have hlt : i < r.L.length := (List.getElem?_eq_some_iff.1 hq).1
      obtain ⟨r0, r1, r2⟩ := hcp i q hq
      refine ⟨?_, ?_, ?_⟩
      all_goals (rw [Array.getElem?_setIfInBounds_ne (by omega)]; assumption)
    have ks : (c.setIfInBounds 49 (.int .i64 (r.s + p.n))).size = 51 := by simp [hcs]
    have x0 : ((w.setCell ⟨b, 49, none⟩ (.int .i64 (r.s + p.n))).alloc (.cells #[.int .i64 p.a, .int .i64 p.f, .int .i64 p.n] 119)).drew.cell? ⟨w.heap.size, 0, none⟩ = some (.int .i64 p.a) := by simp [go_sem]
    have x1 : ((w.setCell ⟨b, 49, none⟩ (.int .i64 (r.s + p.n))).alloc (.cells #[.int .i64 p.a, .int .i64 p.f, .int .i64 p.n] 119)).drew.cell? ⟨w.heap.size, 1, none⟩ = some (.int .i64 p.f) := by simp [go_sem]
    have x2 : ((w.setCell ⟨b, 49, none⟩ (.int .i64 (r.s + p.n))).alloc (.cells #[.int .i64 p.a, .int .i64 p.f, .int .i64 p.n] 119)).drew.cell? ⟨w.heap.size, 2, none⟩ = some (.int .i64 p.n) := by simp [go_sem]
    have hsz : w.heap.size < ((w.setCell ⟨b, 49, none⟩ (.int .i64 (r.s + p.n))).alloc (.cells #[.int .i64 p.a, .int .i64 p.f, .int .i64 p.n] 119)).drew.heap.size := by simp
    go_enter Try.func104, Try.ntmps104
    go_wp2_with fail
    refine wp_region_tail 9 (by kernel_rfl) (by kernel_rfl) ?_
    simp only [List.take_succ_cons, List.take_zero, List.drop_succ_cons, List.drop_zero]
    repeat still_step
    refine wpStill_nil ?_
    go_wp2_with fail
    generalize hW5 : ((w.setCell ⟨b, 49, none⟩ (.int .i64 (r.s + p.n))).alloc (.cells #[.int .i64 p.a, .int .i64 p.f, .int .i64 p.n] 119)).drew = W5 at hb5 hg5 x0 x1 x2 hsz ⊢
    generalize hc5 : c.setIfInBounds 49 (.int .i64 (r.s + p.n)) = c5 at hb5 k48 k49 k50 kp ks
    clear hW5 hc5 c48 c49 c50 f48 f49 f50 e48 e49 e50 hcp hcs hblk
    have c48 := (hb5.cell 48).trans k48
    rcases List.eq_nil_or_concat r.L with hL | ⟨L', q, hL⟩
    · have hr : Hid (radd r p = ⟨[p], r.s + p.n, r.ov⟩) := by show _ = _; simp [radd, hA, hL]
      rw [hL] at c48 k48
      simp at c48 k48
      -- the row is empty: the part is its first
      go_quiet (fail)
      have hb6 := hb5.below (drewNB W5 nq)
      have hg6 := grown_below hg5 (drewNB W5 nq)
      have c48' := (hb6.cell 48).trans k48
      have f48 := hb6.frozen 48
      obtain ⟨v0, y0⟩ := hb6.has (i := 0) (by omega)
      obtain ⟨v1, y1⟩ := hb6.has (i := 1) (by omega)
      obtain ⟨v2, y2⟩ := hb6.has (i := 2) (by omega)
      have f0 := hb6.frozen 0
      have f1 := hb6.frozen 1
      have f2 := hb6.frozen 2
      replace x0 := bcell (drewNB W5 nq) x0
      replace x1 := bcell (drewNB W5 nq) x1
      replace x2 := bcell (drewNB W5 nq) x2
      generalize W5.drewN nq = W6 at *
      clear c48 hb5 hg5
      go_wp2_with fail
      refine wp_region_tail 9 (by kernel_rfl) (by kernel_rfl) ?_
      simp only [List.take_succ_cons, List.take_zero, List.drop_succ_cons, List.drop_zero]
      repeat still_step
      refine wpStill_nil ?_
      go_wp2
      go_returns
      go_light
      refine ⟨rfl, ?_, ?_⟩
      · rw [hr.out]
        refine ⟨by simp, _, ((((hb6.set 0 _).set 1 _).set 2 _).set 48 _).drew, by simp [ks], ?_, ?_, ?_, ?_⟩
        · intro i x hx
          have : i = 0 := by have := (List.getElem?_eq_some_iff.1 hx).1; simp at this; exact this
          subst this
          simp at hx
          subst hx
          refine ⟨?_, ?_, ?_⟩
          all_goals (simp [ks])
        · simp [ks]
        · simp [k49]
        · simp [k50]
      · exact grown_below (grown_set (grown_set (grown_set (grown_set hg6 _ _) _ _) _ _) _ _) ((Below.refl _ _).drew)
    · -- there is a last part
      have hLl : r.L.length = L'.length + 1 := by rw [hL]; simp
      have hq : r.L[L'.length]? = some q := by rw [hL]; simp
      have hlast : r.L.getLast? = some q := by rw [hL]; simp
      have hdl : r.L.dropLast = L' := by rw [hL]; simp
      have hj16 : L'.length < 16 := by omega
      obtain ⟨q0, q1, q2⟩ := kp _ q hq
      have hqi := hi1 q (List.mem_of_getElem? hq)
      rw [hLl] at c48 k48
      generalize hj : L'.length = j at *
      have d0 := (hb5.cell (j * 3)).trans q0
      have d1 := (hb5.cell (j * 3 + 1)).trans q1
      have d2 := (hb5.cell (j * 3 + 2)).trans q2
      have c48i : W5.cell? ⟨b, 48, none⟩ = some (.int .i64 ((j : Int) + 1)) := by rw [c48]; simp
      have hw1 : IntKind.i64.wrap ((j : Int) + 1 - 1) = (j : Int) := by rw [IntKind.wrap_i64]; omega
      have hj0 : (0 : Int) < (j : Int) + 1 := by omega
      have hj15 : (j : Int) < 16 := by omega
      have hjn : (0 : Int) ≤ (j : Int) := by omega
      clear c48
      have g48 := gcell c48i
      have g0 := gcell d0
      have g1 := gcell d1
      have g2 := gcell d2
      have g3 := gcell x0
      have g4 := gcell x1
      have g5 := gcell x2
      have hne := grw_ne W5
      cases hgo : goesOnB q p
      all_goals
        refine wp_region_grow (by kernel_rfl) (by kernel_rfl) ?_
        repeat (go_big_quiet_step (first | (go_at_call 102; have qq := impl_goesOn q p; rw [hgo] at qq; exact grow_of (qq _))))
        refine wpQuiet_nil ?_
        intro W6 hx
        have hB6 := grw_out hx
        clear hx g48 g0 g1 g2 g3 g4 g5 hne
        have hb6 := hb5.below hB6
        have hg6 := grown_below hg5 hB6
        have c48' := bcell hB6 c48i
        have f48 := hb6.frozen 48
        replace x0 := bcell hB6 x0
        replace x1 := bcell hB6 x1
        replace x2 := bcell hB6 x2
        clear hb5 hg5 hB6 hsz
      · by_cases hfull : j + 1 < 16
        · have hr : Hid (radd r p = ⟨r.L ++ [p], r.s + p.n, r.ov⟩) := radd_app (by omega) hlast hgo (by omega)
          obtain ⟨v0, y0⟩ := hb6.has (i := (j + 1) * 3) (by omega)
          obtain ⟨v1, y1⟩ := hb6.has (i := (j + 1) * 3 + 1) (by omega)
          obtain ⟨v2, y2⟩ := hb6.has (i := (j + 1) * 3 + 2) (by omega)
          have f0 := hb6.frozen ((j + 1) * 3)
          have f1 := hb6.frozen ((j + 1) * 3 + 1)
          have f2 := hb6.frozen ((j + 1) * 3 + 2)
          have n0 : ¬ (48 = (j + 1) * 3) := by omega
          have n1 : ¬ (48 = (j + 1) * 3 + 1) := by omega
          have n2 : ¬ (48 = (j + 1) * 3 + 2) := by omega
          have hfi : (j : Int) + 1 < 16 := by omega
          have hfj : (0 : Int) ≤ (j : Int) + 1 := by omega
          have hfk : ((j : Int) + 1).toNat = j + 1 := by omega
          clear d0 d1 d2 hw1 hj0 hj15 hjn
          go_wp2_with fail
          refine wp_region_tail 9 (by kernel_rfl) (by kernel_rfl) ?_
          simp only [List.take_succ_cons, List.take_zero, List.drop_succ_cons, List.drop_zero]
          repeat still_step
          refine wpStill_nil ?_
          go_wp2
          go_returns
          go_light
          refine ⟨rfl, ?_, ?_⟩
          · rw [hr.out]
            refine ⟨by simp; omega, _, ((((hb6.set ((j + 1) * 3) _).set ((j + 1) * 3 + 1) _).set ((j + 1) * 3 + 2) _).set 48 _).drew, by simp [ks], ?_, ?_, ?_, ?_⟩
            · intro i x hx
              have hil : i < j + 2 := by have := (List.getElem?_eq_some_iff.1 hx).1; simp [hLl] at this; omega
              by_cases hie : i = j + 1
              · subst hie
                rw [List.getElem?_append_right (by omega), hLl] at hx
                simp at hx
                subst hx
                refine ⟨?_, ?_, ?_⟩
                · rw [Array.getElem?_setIfInBounds_ne (by omega), Array.getElem?_setIfInBounds_ne (by omega), Array.getElem?_setIfInBounds_ne (by omega), Array.getElem?_setIfInBounds_self_of_lt (by omega)]
                · rw [Array.getElem?_setIfInBounds_ne (by omega), Array.getElem?_setIfInBounds_ne (by omega), Array.getElem?_setIfInBounds_self_of_lt (by simp; omega)]
                · rw [Array.getElem?_setIfInBounds_ne (by omega), Array.getElem?_setIfInBounds_self_of_lt (by simp; omega)]
              · rw [List.getElem?_append_left (by omega)] at hx
                obtain ⟨r0, r1, r2⟩ := kp i x hx
                refine ⟨?_, ?_, ?_⟩
                all_goals (rw [Array.getElem?_setIfInBounds_ne (by omega), Array.getElem?_setIfInBounds_ne (by omega), Array.getElem?_setIfInBounds_ne (by omega), Array.getElem?_setIfInBounds_ne (by omega)]; assumption)
            · rw [Array.getElem?_setIfInBounds_self_of_lt (by simp; omega)]; simp [hLl]
            · rw [Array.getElem?_setIfInBounds_ne (by omega), Array.getElem?_setIfInBounds_ne (by omega), Array.getElem?_setIfInBounds_ne (by omega), Array.getElem?_setIfInBounds_ne (by omega)]; exact k49
            · rw [Array.getElem?_setIfInBounds_ne (by omega), Array.getElem?_setIfInBounds_ne (by omega), Array.getElem?_setIfInBounds_ne (by omega), Array.getElem?_setIfInBounds_ne (by omega)]; exact k50
          · exact grown_below (grown_set (grown_set (grown_set (grown_set hg6 _ _) _ _) _ _) _ _) ((Below.refl _ _).drew)
        · have hr : Hid (radd r p = ⟨r.L, r.s + p.n, true⟩) := radd_full (by omega) hlast hgo (by omega)
          have f50 := hb6.frozen 50
          have c50 := (hb6.cell 50).trans k50
          have hfi : ¬ (j : Int) + 1 < 16 := by omega
          clear d0 d1 d2 hw1 hj0 hj15 hjn
          go_wp2
          go_returns
          go_light
          refine ⟨rfl, ?_, ?_⟩
          · rw [hr.out]
            refine ⟨hle, _, hb6.set 50 _, by simp [ks], ?_, ?_, ?_, ?_⟩
            · intro i x hx
              have hlt : i < r.L.length := (List.getElem?_eq_some_iff.1 hx).1
              obtain ⟨r0, r1, r2⟩ := kp i x hx
              refine ⟨?_, ?_, ?_⟩
              all_goals (rw [Array.getElem?_setIfInBounds_ne (by omega)]; assumption)
            · rw [Array.getElem?_setIfInBounds_ne (by omega), k48, hLl]
            · rw [Array.getElem?_setIfInBounds_ne (by omega)]; exact k49
            · rw [Array.getElem?_setIfInBounds_self_of_lt (by omega)]
          · exact grown_set hg6 _ _
      · have hr : Hid (radd r p = ⟨r.L.dropLast ++ [⟨q.a, q.f, q.n + p.n⟩], r.s + p.n, r.ov⟩) := radd_merge (by omega) hlast hgo
        have f2 := hb6.frozen (j * 3 + 2)
        have z2 := (hb6.cell (j * 3 + 2)).trans q2
        have hw2 : IntKind.i64.wrap (q.n + p.n) = q.n + p.n := by rw [IntKind.wrap_i64]; omega
        have hw3 : IntKind.i64.wrap (j : Int) = (j : Int) := by rw [IntKind.wrap_i64]; omega
        clear d0 d1 d2
        go_wp2_with fail
        refine wp_region_tail 18 (by kernel_rfl) (by kernel_rfl) ?_
        simp only [List.take_succ_cons, List.take_zero, List.drop_succ_cons, List.drop_zero]
        repeat still_step
        refine wpStill_nil ?_
        go_wp2
        go_returns
        go_light
        refine ⟨rfl, ?_, ?_⟩
        · rw [hr.out]
          refine ⟨by simp [hLl]; omega, _, (hb6.set (j * 3 + 2) _).drew, by simp [ks], ?_, ?_, ?_, ?_⟩
          · intro i x hx
            have hil : i < j + 1 := by have := (List.getElem?_eq_some_iff.1 hx).1; simp [hLl] at this; omega
            rw [hdl] at hx
            by_cases hie : i = j
            · subst hie
              rw [List.getElem?_append_right (by omega), hj] at hx
              simp at hx
              subst hx
              refine ⟨?_, ?_, ?_⟩
              · rw [Array.getElem?_setIfInBounds_ne (by omega)]; exact q0
              · rw [Array.getElem?_setIfInBounds_ne (by omega)]; exact q1
              · rw [Array.getElem?_setIfInBounds_self_of_lt (by omega)]
            · rw [List.getElem?_append_left (by omega)] at hx
              obtain ⟨r0, r1, r2⟩ := kp i x (by rw [hL, List.concat_eq_append, List.getElem?_append_left (by omega)]; exact hx)
              refine ⟨?_, ?_, ?_⟩
              all_goals (rw [Array.getElem?_setIfInBounds_ne (by omega)]; assumption)
          · rw [Array.getElem?_setIfInBounds_ne (by omega), k48]; simp [hdl, hj]
          · rw [Array.getElem?_setIfInBounds_ne (by omega)]; exact k49
          · rw [Array.getElem?_setIfInBounds_ne (by omega)]; exact k50
        · exact grown_below (grown_set hg6 _ _) ((Below.refl _ _).drew)
end Go.Proofs.Ytbjejnkeekndbaa
namespace Go.Proofs.Ytbjejnkeekndbaa
open Go.RowKit Go.BigFrame

def rall (r : RSt) (l : List Pt) : RSt := l.foldl radd r

theorem radd_s (r : RSt) (p : Pt) : (radd r p).s = r.s + p.n := by
  unfold radd
  split
  · rfl
  · split
    · rfl
    · split
      · rfl
      · split <;> rfl

theorem radd_inv {r : RSt} {p : Pt} (h : RInv r) (hp : 1 ≤ p.n) : RInv (radd r p) := by
  obtain ⟨h0, h1⟩ := h
  have hold : ∀ q ∈ r.L, 1 ≤ q.n ∧ q.n ≤ r.s + p.n := fun q hq => by have := h1 q hq; omega
  refine ⟨by rw [radd_s]; omega, ?_⟩
  rw [radd_s]
  unfold radd
  split
  · exact hold
  · split
    · rename_i hl
      intro q hq
      simp at hq
      subst hq
      omega
    · rename_i q0 hl
      have hq0 := h1 q0 (List.mem_of_getLast? hl)
      split
      · intro q hq
        simp only [List.mem_append, List.mem_singleton] at hq
        rcases hq with hq | rfl
        · exact hold q (List.dropLast_subset _ hq)
        · show 1 ≤ q0.n + p.n ∧ q0.n + p.n ≤ r.s + p.n
          omega
      · split
        · intro q hq
          simp only [List.mem_append, List.mem_singleton] at hq
          rcases hq with hq | rfl
          · exact hold q hq
          · omega
        · exact hold

theorem rall_at {r : RSt} {l : List Pt} {k : Nat} {p : Pt} (h : l[k]? = some p) : rall r (l.take (k + 1)) = radd (rall r (l.take k)) p := by
  unfold rall; rw [take_at h, List.foldl_append]; rfl

/-- A part box behind which the row is added to: the row's block, and the slice, are as they were. -/
theorem RowAt.below {w w' : World} {b : Nat} {r : RSt} (h : RowAt w b r) (hb : Below w.heap.size w w') : RowAt w' b r := by
  obtain ⟨hle, c, hc, q⟩ := h
  exact ⟨hle, c, hc.below hb, q⟩
theorem RowAt.lt {w : World} {b : Nat} {r : RSt} (h : RowAt w b r) : b < w.heap.size := by
  obtain ⟨_, c, hc, _⟩ := h
  exact hc.lt

set_option maxHeartbeats 1000000 in
theorem impl_addAll (b : Nat) (r : RSt) (a : Option Addr) (n cap : Nat) (l : List Pt) (w : World) (hR : RowAt w b r) (hi : RInv r) (hs : r.s ≤ 900000) (h : PtsAt w a n l) (hne : ∀ ad, a = some ad → ad.block ≠ b) (hn : n ≤ 16) (hl : ∀ p ∈ l, 1 ≤ p.n ∧ p.n ≤ 100) :
    Calls Try.prog 98 #[.pointer (some ⟨b, 0, none⟩), .slice a n cap] w fun e w' => e = .returned (.tuple #[]) ∧ RowAt w' b (rall r l) ∧ RInv (rall r l) ∧ (rall r l).s ≤ r.s + 1600 ∧ w.grownBy w' (some b) := by
  have hlen : Hid (l.length = n) := h.len
  go_enter Try.func98, Try.ntmps98
  go_wp2_with fail
  go_loopw [8] (fun ix wr => ∃ (k : Nat), k ≤ n ∧ ix = .int .i64 k ∧ RowAt wr b (rall r (l.take k)) ∧ RInv (rall r (l.take k)) ∧ (rall r (l.take k)).s ≤ r.s + 100 * k ∧ w.grownBy wr (some b)) (fun ix _ => n - (intOf ix).toNat)
  case atStart => exact ⟨0, Nat.zero_le _, rfl, hR, hi, by simp [rall], World.grownBy.refl _ _⟩
  case round =>
    obtain ⟨k, hk, rfl, hRk, hik, hsk, hg⟩ := hrel
    by_cases hlt : k < n
    · obtain ⟨b', o, p, rfl, hp, c0, c1, c2⟩ := pts_at (h.grown hg hne) hlt
      have hst : Hid (rall r (l.take (k + 1)) = radd (rall r (l.take k)) p) := rall_at hp
      have hpl := hl p (List.mem_of_getElem? hp)
      have hsum := radd_s (rall r (l.take k)) p
      have hinv := radd_inv hik hpl.1
      clear hp
      generalize rall r (l.take k) = r1 at *
      go_wp2_with fail
      refine (impl_add b r1 p _ (hRk.below ((Below.refl _ _).alloc (Nat.le_refl _) _)) hik (by omega) hpl.1 (by omega)).mono ?_
      rintro e w1 ⟨rfl, hR1, hg1⟩
      have hg2 := grown_trans (grown_below hg ((Below.refl _ _).alloc (Nat.le_refl _) _)) hg1
      go_wp2
      go_roundw
      case rel => exact ⟨k + 1, by omega, by go_num, by rw [hst.out]; exact hR1, by rw [hst.out]; exact hinv, by rw [hst.out, hsum]; omega, hg2⟩
      case measure => simp [intOf]; omega
    · obtain rfl : k = n := by omega
      go_wp2
      go_returns
      go_light
      rw [List.take_of_length_le (Nat.le_of_eq hlen.out)] at hRk hik hsk
      exact ⟨rfl, hRk, hik, by omega, hg⟩

/-- The piece x .. y - 1 of a part. -/
def cutP (p : Pt) (x y : Int) : Pt := if p.a == 0 then ⟨0, 0, y - x⟩ else ⟨p.a, p.f + x, y - x⟩

theorem impl_within (p : Pt) (x y : Int) (w : World) (hf : -1000 ≤ p.f) (hf' : p.f ≤ 1000) (hx0 : 0 ≤ x) (hx1 : x ≤ 1000) (hy0 : 0 ≤ y) (hy1 : y ≤ 1000) :
    Calls Try.prog 138 #[.agg #[.int .i64 p.a, .int .i64 p.f, .int .i64 p.n], .int .i64 x, .int .i64 y] w fun e w' => e = .returned (.agg #[.int .i64 (cutP p x y).a, .int .i64 (cutP p x y).f, .int .i64 (cutP p x y).n]) ∧ Below w.heap.size w w' := by
  obtain ⟨a, f, n⟩ := p
  simp only at hf hf'
  cases ha : (a == 0)
  · have hc : Hid (cutP ⟨a, f, n⟩ x y = ⟨a, f + x, y - x⟩) := by show _ = _; simp [cutP, ha]
    go_enter Try.func138, Try.ntmps138
    go_wp2
    go_returns
    go_light
    refine ⟨?_, by go_grown⟩
    rw [hc.out]
  · have hc : Hid (cutP ⟨a, f, n⟩ x y = ⟨0, 0, y - x⟩) := by show _ = _; simp [cutP, ha]
    go_enter Try.func138, Try.ntmps138
    go_wp2
    go_returns
    go_light
    refine ⟨?_, by go_grown⟩
    rw [hc.out]

/-- The pieces that make up the bytes from .. to - 1, the parts beginning at st. -/
def slp (fr to : Int) : Int → List Pt → List Pt
  | _, [] => []
  | st, p :: r => if max (fr - st) 0 < min (to - st) p.n then cutP p (max (fr - st) 0) (min (to - st) p.n) :: slp fr to (st + p.n) r else slp fr to (st + p.n) r

theorem cutP_n (p : Pt) (x y : Int) : (cutP p x y).n = y - x := by unfold cutP; split <;> rfl
theorem slp_yes {fr to st x y : Int} {p : Pt} {r : List Pt} (hx : max (fr - st) 0 = x) (hy : min (to - st) p.n = y) (h : x < y) : slp fr to st (p :: r) = cutP p x y :: slp fr to (st + p.n) r := by
  subst hx hy; simp only [slp, h, if_true]
theorem slp_step {rk : RSt} {fr to st x y : Int} {p : Pt} {r : List Pt} (hx : max (fr - st) 0 = x) (hy : min (to - st) p.n = y) (h : x < y) : rall rk (slp fr to st (p :: r)) = rall (radd rk (cutP p x y)) (slp fr to (st + p.n) r) := by
  rw [slp_yes hx hy h]; rfl
theorem slp_no {fr to st : Int} {p : Pt} {r : List Pt} (h : ¬ max (fr - st) 0 < min (to - st) p.n) : slp fr to st (p :: r) = slp fr to (st + p.n) r := by
  simp only [slp, h, if_false]

set_option maxHeartbeats 4000000 in
theorem impl_addSlice (b : Nat) (r : RSt) (a : Option Addr) (n cap : Nat) (l : List Pt) (fr to : Int) (w : World) (hR : RowAt w b r) (hi : RInv r) (hs : r.s ≤ 900000) (h : PtsAt w a n l) (hne : ∀ ad, a = some ad → ad.block ≠ b) (hn : n ≤ 16) (hl : ∀ p ∈ l, 1 ≤ p.n ∧ p.n ≤ 100 ∧ 0 ≤ p.f ∧ p.f ≤ 100) (hf0 : 0 ≤ fr) (hf1 : fr ≤ 10000) (ht0 : 0 ≤ to) (ht1 : to ≤ 10000) :
    Calls Try.prog 93 #[.pointer (some ⟨b, 0, none⟩), .slice a n cap, .int .i64 fr, .int .i64 to] w fun e w' => e = .returned (.tuple #[]) ∧ RowAt w' b (rall r (slp fr to 0 l)) ∧ RInv (rall r (slp fr to 0 l)) ∧ (rall r (slp fr to 0 l)).s ≤ r.s + 1600 ∧ w.grownBy w' (some b) := by
  have hlen : Hid (l.length = n) := h.len
  go_enter Try.func93, Try.ntmps93
  go_wp2_with fail
  go_loopw [8, 15] (fun s ix wr => ∃ (k : Nat) (st : Int) (rk : RSt), k ≤ n ∧ ix = .int .i64 k ∧ s = .int .i64 st ∧ 0 ≤ st ∧ st ≤ 100 * k ∧ RowAt wr b rk ∧ RInv rk ∧ rk.s ≤ r.s + 100 * k ∧ Hid (rall r (slp fr to 0 l) = rall rk (slp fr to st (l.drop k))) ∧ w.grownBy wr (some b)) (fun _ ix _ => n - (intOf ix).toNat)
  case atStart => exact ⟨0, 0, r, Nat.zero_le _, rfl, rfl, by omega, by omega, hR, hi, by omega, rfl, World.grownBy.refl _ _⟩
  case round =>
    obtain ⟨k, st, rk, hk, rfl, rfl, hs0, hs1, hRk, hik, hsk, hI, hg⟩ := hrel
    by_cases hlt : k < n
    · obtain ⟨b', o, p, rfl, hp, c0, c1, c2⟩ := pts_at (h.grown hg hne) hlt
      have hd : Hid (l.drop k = p :: l.drop (k + 1)) := drop_at hp
      obtain ⟨hp1, hp2, hp3, hp4⟩ := hl p (List.mem_of_getElem? hp)
      clear hp
      have hbl := hRk.lt
      by_cases hxy : max (fr - st) 0 < min (to - st) p.n
      · by_cases hx : fr - st < 0
        all_goals by_cases hy : p.n < to - st
        all_goals
          go_wp2_with fail
          refine (impl_within p _ _ _ (by omega) (by omega) (by omega) (by omega) (by omega) (by omega)).mono ?_
          rintro e w1 ⟨rfl, hB1⟩
          obtain ⟨x0, x1, x2, hB1', hs1⟩ := box3 hB1
          clear hB1
          go_wp2_with fail
          refine (impl_add b rk (cutP p _ _) _ (hRk.below hB1') hik (by omega) (by rw [cutP_n]; omega) (by rw [cutP_n]; omega)).mono ?_
          rintro e w2 ⟨rfl, hR2, hg2⟩
          have z2 := hg2.cell x2 (by simp; omega)
          have hg3 := grown_trans (grown_below hg hB1') hg2
          clear x0 x1 x2 hB1' c0 c1 c2
          go_wp2
          go_roundw
          case rel => exact ⟨k + 1, st + p.n, _, by omega, by go_num, by go_num, by omega, by omega, hR2, radd_inv hik (by rw [cutP_n]; omega), by rw [radd_s, cutP_n]; omega, by show _ = _; rw [hI.out, hd.out]; exact slp_step (by omega) (by omega) (by omega), hg3⟩
          case measure => simp [intOf]; omega
      · by_cases hx : fr - st < 0
        all_goals by_cases hy : p.n < to - st
        all_goals try (exfalso; omega)
        all_goals
          go_wp2
          go_roundw
          case rel => exact ⟨k + 1, st + p.n, rk, by omega, by go_num, by go_num, by omega, by omega, hRk.below ((Below.refl _ _).alloc (Nat.le_refl _) _), hik, by omega, by show _ = _; rw [hI.out, hd.out, slp_no hxy], grown_below hg ((Below.refl _ _).alloc (Nat.le_refl _) _)⟩
          case measure => simp [intOf]; omega
    · obtain rfl : k = n := by omega
      go_wp2
      go_returns
      go_light
      rw [List.drop_of_length_le (Nat.le_of_eq hlen.out)] at hI
      rw [hI.out]
      exact ⟨rfl, hRk, hik, by show rk.s ≤ _; omega, hg⟩
end Go.Proofs.Ytbjejnkeekndbaa
namespace Go.Proofs.Ytbjejnkeekndbaa
open Go.RowKit Go.BigFrame

theorem infoP : (Try.prog.info? 119).map (fun i => (i.zero, i.size, i.bytes)) = some (some (.agg #[.int .i64 0, .int .i64 0, .int .i64 0]), 3, 24) := by kernel_rfl

theorem impl_told_over (b : Nat) (r : RSt) (w : World) (hR : RowAt w b r) (hov : r.ov = true) :
    Calls Try.prog 94 #[.pointer (some ⟨b, 0, none⟩)] w fun e w' => e = .returned (.tuple #[.slice none 0 0, .bool false]) ∧ w' = w := by
  obtain ⟨hle, c, hblk, hcs, hcp, e48, e49, e50⟩ := hR
  have c50 := (hblk.cell 50).trans e50
  rw [hov] at c50
  go_enter Try.func94, Try.ntmps94
  go_wp2
  go_returns
  exact ⟨rfl, rfl⟩

theorem RowAt.sl {w : World} {b : Nat} {r : RSt} (h : RowAt w b r) : PtsAt w (some ⟨b, 0, none⟩) r.L.length r.L := by
  obtain ⟨hle, c, hblk, hcs, hcp, _⟩ := h
  refine ⟨rfl, fun i x hx => ⟨b, 0, rfl, fun j v hv => ?_⟩⟩
  obtain ⟨r0, r1, r2⟩ := hcp i x hx
  rw [hblk.cell, Nat.zero_add]
  match j, hv with
  | 0, hv => obtain rfl := Option.some.inj hv; exact r0
  | 1, hv => obtain rfl := Option.some.inj hv; exact r1
  | 2, hv => obtain rfl := Option.some.inj hv; exact r2
  | j + 3, hv => simp [Pt.cs] at hv

set_option maxHeartbeats 1000000 in
set_option maxRecDepth 100000 in
theorem impl_told (b : Nat) (r : RSt) (w : World) (hR : RowAt w b r) (hov : r.ov = false) :
    Calls Try.prog 94 #[.pointer (some ⟨b, 0, none⟩)] w fun e w' => ∃ a cap, e = .returned (.tuple #[.slice a r.L.length cap, .bool true]) ∧ ResAt Pt.cs 3 119 w' w.heap.size a r.L.length cap r.L ∧ Below w.heap.size w w' := by
  have hsl := hR.sl
  obtain ⟨hle, c, hblk, hcs, hcp, e48, e49, e50⟩ := hR
  have c50 := (hblk.cell 50).trans e50
  have c48 := (hblk.cell 48).trans e48
  rw [hov] at c50
  obtain ⟨i0, hi, hz0, hz1, hz2⟩ := info_parts infoP
  have hli : (r.L.length : Int) ≤ 16 := by omega
  have hl0 : (0 : Int) ≤ r.L.length := by omega
  generalize hn : r.L.length = n at *
  go_enter Try.func94, Try.ntmps94
  go_wp2_with fail
  refine wp_region_tail 8 (by kernel_rfl) (by kernel_rfl) ?_
  simp only [List.take_succ_cons, List.take_zero, List.drop_succ_cons, List.drop_zero]
  repeat still_step
  refine wpStill_nil ?_
  refine wpList_append_own _ rfl _ _ 39 rfl w.heap.size 119 i0 (.agg #[.int .i64 0, .int .i64 0, .int .i64 0]) 3 24 Try.underlying39 hi hz0 hz1 hz2 rfl (by decide) (.slice none 0 0) 0 [] rfl (World.ownsRow_nil _ _ _ _) ⟨b, 0, none⟩ n 16 (r.L.flatMap Pt.cs) rfl (by rw [flat_len pcs_len, hn]) (SlAt.src pcs_len hsl.drew) (pcs_one _) (by unfold maxLen; omega) (by omega) (by simp) ?_
  intro v' w1 hrow hg _
  simp only [Nat.zero_add, List.nil_append] at hrow
  obtain ⟨a, cap, rfl, hres⟩ := res_of_row pcs_len hn hrow
  have hB : Below w.heap.size w w1 := ((Below.refl _ _).drew).grown hg (by simp) (fun k e => by simp [Value.ownBlock] at e)
  go_wp2
  go_returns
  exact ⟨a, cap, rfl, hres, hB⟩

/-- Slice, as a plain function: the row that comes of it. -/
def rowOf (l : List Pt) : RSt := rall ⟨[], 0, false⟩ l

theorem pos_of {l : List Pt} (h : partsOkB l = true) : ∀ p ∈ l, 1 ≤ p.n ∧ p.n ≤ 100 ∧ 0 ≤ p.f ∧ p.f ≤ 100 := by
  intro p hp
  obtain ⟨_, h1, h2⟩ := partsOkB_all h
  have hk := h1 p hp
  have hpos := partOkB_pos hk
  have h3 : p.n ≤ sumN l := by
    obtain ⟨i, hi⟩ := List.mem_iff_getElem?.1 hp
    have e := sumN_take hi
    have b1 := sumN_take_bd h1 i
    have b2 := sumN_take_bd h1 (i + 1)
    omega
  unfold partOkB at hk
  split at hk <;> simp at hk <;> omega

theorem row_new (w : World) : RowAt (w.alloc (.cells #[.int .i64 0, .int .i64 0, .int .i64 0, .int .i64 0, .int .i64 0, .int .i64 0, .int .i64 0, .int .i64 0, .int .i64 0, .int .i64 0, .int .i64 0, .int .i64 0, .int .i64 0, .int .i64 0, .int .i64 0, .int .i64 0, .int .i64 0, .int .i64 0, .int .i64 0, .int .i64 0, .int .i64 0, .int .i64 0, .int .i64 0, .int .i64 0, .int .i64 0, .int .i64 0, .int .i64 0, .int .i64 0, .int .i64 0, .int .i64 0, .int .i64 0, .int .i64 0, .int .i64 0, .int .i64 0, .int .i64 0, .int .i64 0, .int .i64 0, .int .i64 0, .int .i64 0, .int .i64 0, .int .i64 0, .int .i64 0, .int .i64 0, .int .i64 0, .int .i64 0, .int .i64 0, .int .i64 0, .int .i64 0, .int .i64 0, .int .i64 0, .bool false] 122)) w.heap.size ⟨[], 0, false⟩ :=
  ⟨Nat.zero_le _, _, Blk.new _ _ _, rfl, fun i p hp => by simp at hp, rfl, rfl, rfl⟩

theorem inv_new : RInv ⟨[], 0, false⟩ := ⟨Int.le_refl _, fun q hq => by simp at hq⟩

/-- What a row tells. -/
def outc (r : RSt) : Option (List Pt) := if r.ov then none else some r.L

/-- A list of parts and a flag, as an answer: nothing and false, or a list in new memory and true. -/
def RetPts (B : Nat) (e : Ending) (w' : World) : Option (List Pt) → Prop
  | none => e = .returned (.tuple #[.slice none 0 0, .bool false])
  | some L => ∃ a n cap, e = .returned (.tuple #[.slice a n cap, .bool true]) ∧ ResAt Pt.cs 3 119 w' B a n cap L

/-- The row told, whatever it holds. -/
theorem impl_told_any (B b : Nat) (r : RSt) (w : World) (hR : RowAt w b r) (hB : B ≤ w.heap.size) :
    Calls Try.prog 94 #[.pointer (some ⟨b, 0, none⟩)] w fun e w' => RetPts B e w' (outc r) ∧ Below w.heap.size w w' := by
  cases hov : r.ov
  · refine (impl_told b r w hR hov).mono ?_
    rintro e w' ⟨a, cap, rfl, hres, hb⟩
    exact ⟨by simp only [outc, hov]; exact ⟨a, _, cap, rfl, hres.mono hB⟩, hb⟩
  · refine (impl_told_over b r w hR hov).mono ?_
    rintro e w' ⟨rfl, rfl⟩
    exact ⟨by simp only [outc, hov]; rfl, Below.refl _ _⟩

def sliceO (l : List Pt) (fr to : Int) : Option (List Pt) :=
  if partsOkB l = true ∧ 0 ≤ fr ∧ fr ≤ sumN l ∧ fr ≤ to ∧ to ≤ sumN l then outc (rowOf (slp fr to 0 l)) else none

set_option maxHeartbeats 1000000 in
set_option maxRecDepth 100000 in
theorem impl_Slice (a : Option Addr) (n cap : Nat) (l : List Pt) (fr to : Int) (w : World) (h : PtsAt w a n l) (hn : n ≤ 4194304) (hb : ∀ ad, a = some ad → ad.block < w.heap.size) :
    Calls Try.prog 32 #[.slice a n cap, .int .i64 fr, .int .i64 to] w fun e w' => RetPts w.heap.size e w' (sliceO l fr to) ∧ Below w.heap.size w w' := by
  cases hok : partsOkB l
  · have hf : sliceO l fr to = none := by simp [sliceO, hok]
    rw [hf]
    go_enter Try.func32, Try.ntmps32
    go_wp2_with fail
    refine (impl_PartsOk a n cap l _ h hn).mono ?_
    rintro e w1 ⟨rfl, hB1⟩
    rw [hok]
    go_wp2
    go_returns
    exact ⟨rfl, hB1⟩
  · have hs : Hid (lenB l = sumN l) := by show _ = _; simp [lenB, hok]
    have h100 := (partsOkB_all hok).2.2
    have hnn := sumN_nonneg l (partsOkB_all hok).2.1
    have h16 : n ≤ 16 := by rw [← h.len]; exact (partsOkB_all hok).1
    by_cases hr : 0 ≤ fr ∧ fr ≤ sumN l ∧ fr ≤ to ∧ to ≤ sumN l
    · have hf : sliceO l fr to = outc (rowOf (slp fr to 0 l)) := by simp [sliceO, hok, hr]
      rw [hf]
      clear hf
      generalize hoo' : outc (rowOf (slp fr to 0 l)) = oo
      have hoo : Hid (outc (rowOf (slp fr to 0 l)) = oo) := hoo'
      clear hoo'
      obtain ⟨r1, r2, r3, r4⟩ := hr
      go_enter Try.func32, Try.ntmps32
      go_wp2_with fail
      refine (impl_PartsOk a n cap l _ h hn).mono ?_
      rintro e w1 ⟨rfl, hB1⟩
      rw [hok]
      go_wp2_with fail
      refine (impl_LenOf a n cap l _ (h.below hB1) hn).mono ?_
      rintro e w2 ⟨rfl, hB2⟩
      rw [hs.out]
      replace hB2 := chain hB1 hB2
      go_wp2_with fail
      refine (impl_addSlice w2.heap.size _ a n cap l fr to _ (row_new w2) inv_new (by show (0 : Int) ≤ _; omega) ((h.below hB2).alloc _) (fun ad had => by have := hb ad had; have := hB2.size; omega) h16 (pos_of hok) (by omega) (by omega) (by omega) (by omega)).mono ?_
      rintro e w3 ⟨rfl, hR3, _, _, hg3⟩
      have hB3 : Below w.heap.size w w3 := below_grown (chain hB2 ((Below.refl _ _).alloc (Nat.le_refl _) _)) hg3 hB2.size
      go_wp2_with fail
      refine (impl_told_any w.heap.size _ _ _ hR3 hB3.size).mono ?_
      rintro e w4 ⟨hret, hB4⟩
      replace hB4 := chain hB3 hB4
      change RetPts _ _ _ (outc (rowOf (slp fr to 0 l))) at hret
      rw [hoo.out] at hret
      clear hoo
      cases oo with
      | none =>
        obtain rfl := hret
        go_wp2
        go_returns
        exact ⟨rfl, hB4⟩
      | some L =>
        obtain ⟨a', n', cap', rfl, hres⟩ := hret
        go_wp2
        go_returns
        exact ⟨⟨a', n', cap', rfl, hres⟩, hB4⟩
    · have hf : sliceO l fr to = none := by simp only [sliceO, hok, true_and]; rw [if_neg hr]
      rw [hf]
      clear hf
      go_enter Try.func32, Try.ntmps32
      go_wp2_with fail
      refine (impl_PartsOk a n cap l _ h hn).mono ?_
      rintro e w1 ⟨rfl, hB1⟩
      rw [hok]
      go_wp2_with fail
      refine (impl_LenOf a n cap l _ (h.below hB1) hn).mono ?_
      rintro e w2 ⟨rfl, hB2⟩
      rw [hs.out]
      replace hB2 := chain hB1 hB2
      go_wp2
      all_goals go_returns
      all_goals exact ⟨rfl, hB2⟩
end Go.Proofs.Ytbjejnkeekndbaa
namespace Go.Proofs.Ytbjejnkeekndbaa
open Go.RowKit Go.BigFrame

theorem rall_append (r : RSt) (a b : List Pt) : rall (rall r a) b = rall r (a ++ b) := by simp [rall, List.foldl_append]

def joinedO (l m : List Pt) : Option (List Pt) := if partsOkB l = true ∧ partsOkB m = true then outc (rowOf (l ++ m)) else none

theorem pos2 {l : List Pt} (h : partsOkB l = true) : ∀ p ∈ l, 1 ≤ p.n ∧ p.n ≤ 100 := fun p hp => ⟨(pos_of h p hp).1, (pos_of h p hp).2.1⟩

set_option maxHeartbeats 1000000 in
set_option maxRecDepth 100000 in
theorem impl_Joined (a : Option Addr) (n cap : Nat) (l : List Pt) (a' : Option Addr) (n' cap' : Nat) (m : List Pt) (w : World) (h : PtsAt w a n l) (hn : n ≤ 4194304) (hb : ∀ ad, a = some ad → ad.block < w.heap.size) (h' : PtsAt w a' n' m) (hn' : n' ≤ 4194304) (hb' : ∀ ad, a' = some ad → ad.block < w.heap.size) :
    Calls Try.prog 37 #[.slice a n cap, .slice a' n' cap'] w fun e w' => RetPts w.heap.size e w' (joinedO l m) ∧ Below w.heap.size w w' := by
  cases hok : partsOkB l
  · have hf : joinedO l m = none := by simp [joinedO, hok]
    rw [hf]
    go_enter Try.func37, Try.ntmps37
    go_wp2_with fail
    refine (impl_PartsOk a n cap l _ h hn).mono ?_
    rintro e w1 ⟨rfl, hB1⟩
    rw [hok]
    go_wp2
    go_returns
    exact ⟨rfl, hB1⟩
  · cases hok' : partsOkB m
    · have hf : joinedO l m = none := by simp [joinedO, hok']
      rw [hf]
      go_enter Try.func37, Try.ntmps37
      go_wp2_with fail
      refine (impl_PartsOk a n cap l _ h hn).mono ?_
      rintro e w1 ⟨rfl, hB1⟩
      rw [hok]
      go_wp2_with fail
      refine (impl_PartsOk a' n' cap' m _ (h'.below hB1) hn').mono ?_
      rintro e w2 ⟨rfl, hB2⟩
      rw [hok']
      replace hB2 := chain hB1 hB2
      go_wp2
      go_returns
      exact ⟨rfl, hB2⟩
    · have h16 : n ≤ 16 := by rw [← h.len]; exact (partsOkB_all hok).1
      have h16' : n' ≤ 16 := by rw [← h'.len]; exact (partsOkB_all hok').1
      have hf : joinedO l m = outc (rowOf (l ++ m)) := by simp [joinedO, hok, hok']
      rw [hf]
      clear hf
      generalize hoo' : outc (rowOf (l ++ m)) = oo
      have hoo : Hid (outc (rowOf (l ++ m)) = oo) := hoo'
      clear hoo'
      go_enter Try.func37, Try.ntmps37
      go_wp2_with fail
      refine (impl_PartsOk a n cap l _ h hn).mono ?_
      rintro e w1 ⟨rfl, hB1⟩
      rw [hok]
      go_wp2_with fail
      refine (impl_PartsOk a' n' cap' m _ (h'.below hB1) hn').mono ?_
      rintro e w2 ⟨rfl, hB2⟩
      rw [hok']
      replace hB2 := chain hB1 hB2
      go_wp2_with fail
      refine (impl_addAll w2.heap.size _ a n cap l _ (row_new w2) inv_new (by show (0 : Int) ≤ _; omega) ((h.below hB2).alloc _) (fun ad had => by have := hb ad had; have := hB2.size; omega) h16 (pos2 hok)).mono ?_
      rintro e w3 ⟨rfl, hR3, hi3, hs3, hg3⟩
      have hB3 : Below w.heap.size w w3 := below_grown (chain hB2 ((Below.refl _ _).alloc (Nat.le_refl _) _)) hg3 hB2.size
      simp only [Int.zero_add] at hs3
      go_wp2_with fail
      refine (impl_addAll w2.heap.size _ a' n' cap' m _ hR3 hi3 (by omega) (h'.below hB3) (fun ad had => by have := hb' ad had; have := hB2.size; omega) h16' (pos2 hok')).mono ?_
      rintro e w4 ⟨rfl, hR4, _, _, hg4⟩
      have hB4 : Below w.heap.size w w4 := below_grown hB3 hg4 hB2.size
      go_wp2_with fail
      refine (impl_told_any w.heap.size _ _ _ hR4 hB4.size).mono ?_
      rintro e w5 ⟨hret, hB5⟩
      replace hB5 := chain hB4 hB5
      rw [rall_append] at hret
      change RetPts _ _ _ (outc (rowOf (l ++ m))) at hret
      rw [hoo.out] at hret
      clear hoo
      cases oo with
      | none =>
        obtain rfl := hret
        go_wp2
        go_returns
        exact ⟨rfl, hB5⟩
      | some L =>
        obtain ⟨a', n', cap', rfl, hres⟩ := hret
        go_wp2
        go_returns
        exact ⟨⟨a', n', cap', rfl, hres⟩, hB5⟩

/-- The parts that are laid, one behind the other. -/
def laidL (l : List Pt) (at' : Int) (m : List Pt) : List Pt :=
  slp 0 (min at' (sumN l)) 0 l ++ (if sumN l < at' then [⟨0, 0, at' - sumN l⟩] else []) ++ m ++ slp (min (at' + sumN m) (sumN l)) (sumN l) 0 l
def laidO (l : List Pt) (at' : Int) (m : List Pt) : Option (List Pt) := if partsOkB l = true ∧ 0 ≤ at' ∧ at' ≤ 100 ∧ partsOkB m = true then outc (rowOf (laidL l at' m)) else none

set_option maxHeartbeats 2000000 in
set_option maxRecDepth 100000 in
theorem impl_Laid_ok (a : Option Addr) (n cap : Nat) (l : List Pt) (at' : Int) (a' : Option Addr) (n' cap' : Nat) (m : List Pt) (w : World) (h : PtsAt w a n l) (hn : n ≤ 4194304) (hb : ∀ ad, a = some ad → ad.block < w.heap.size) (h' : PtsAt w a' n' m) (hn' : n' ≤ 4194304) (hb' : ∀ ad, a' = some ad → ad.block < w.heap.size) (hok : partsOkB l = true) (hok' : partsOkB m = true) (h0 : 0 ≤ at') (h1 : at' ≤ 100) :
    Calls Try.prog 45 #[.slice a n cap, .int .i64 at', .slice a' n' cap'] w fun e w' => RetPts w.heap.size e w' (laidO l at' m) ∧ Below w.heap.size w w' := by
  have h16 : n ≤ 16 := by rw [← h.len]; exact (partsOkB_all hok).1
  have h16' : n' ≤ 16 := by rw [← h'.len]; exact (partsOkB_all hok').1
  have hs : Hid (lenB l = sumN l) := by show _ = _; simp [lenB, hok]
  have hs' : Hid (lenB m = sumN m) := by show _ = _; simp [lenB, hok']
  have h100 := (partsOkB_all hok).2.2
  have hnn := sumN_nonneg l (partsOkB_all hok).2.1
  have h100' := (partsOkB_all hok').2.2
  have hnn' := sumN_nonneg m (partsOkB_all hok').2.1
  have hf : laidO l at' m = outc (rowOf (laidL l at' m)) := by simp [laidO, hok, hok', h0, h1]
  rw [hf]
  clear hf
  generalize hoo' : outc (rowOf (laidL l at' m)) = oo
  have hoo : Hid (outc (rowOf (laidL l at' m)) = oo) := hoo'
  clear hoo'
  by_cases hgt : sumN l < at'
  · have hll : Hid (laidL l at' m = slp 0 (sumN l) 0 l ++ [⟨0, 0, at' - sumN l⟩] ++ m ++ slp (min (at' + sumN m) (sumN l)) (sumN l) 0 l) := by
      show _ = _; simp only [laidL, hgt, if_true]; rw [Int.min_eq_right (by omega)]
    have hmn : ¬ at' < sumN l := by omega
    have hmin : Hid (min (at' + sumN m) (sumN l) = sumN l) := Int.min_eq_right (by omega)
    go_enter Try.func45, Try.ntmps45
    go_wp2_with fail
    refine (impl_PartsOk a n cap l _ h hn).mono ?_
    rintro e w1 ⟨rfl, hB1⟩
    rw [hok]
    go_wp2_with fail
    refine (impl_PartsOk a' n' cap' m _ (h'.below hB1) hn').mono ?_
    rintro e w2 ⟨rfl, hB2⟩
    rw [hok']
    replace hB2 := chain hB1 hB2
    go_wp2_with fail
    refine (impl_LenOf a n cap l _ (h.below hB2) hn).mono ?_
    rintro e w3 ⟨rfl, hB3⟩
    rw [hs.out]
    replace hB3 := chain hB2 hB3
    go_wp2_with fail
    refine (impl_addSlice w3.heap.size _ a n cap l 0 (sumN l) _ (row_new w3) inv_new (by show (0 : Int) ≤ _; omega) ((h.below hB3).alloc _) (fun ad had => by have := hb ad had; have := hB3.size; omega) h16 (pos_of hok) (by omega) (by omega) (by omega) (by omega)).mono ?_
    rintro e w4 ⟨rfl, hR4, hi4, hs4, hg4⟩
    have hB4 : Below w.heap.size w w4 := below_grown (chain hB3 ((Below.refl _ _).alloc (Nat.le_refl _) _)) hg4 hB3.size
    simp only [Int.zero_add] at hs4
    go_wp2_with fail
    refine (impl_add w3.heap.size _ ⟨0, 0, at' - sumN l⟩ _ hR4 hi4 (by omega) (by show (1 : Int) ≤ at' - sumN l; omega) (by show at' - sumN l ≤ (1000000 : Int); omega)).mono ?_
    rintro e w5 ⟨rfl, hR5, hg5⟩
    have hB5 : Below w.heap.size w w5 := below_grown hB4 hg5 hB3.size
    have hi5 := radd_inv hi4 (p := ⟨0, 0, at' - sumN l⟩) (by show (1 : Int) ≤ at' - sumN l; omega)
    have hs5 := radd_s (rall ⟨[], 0, false⟩ (slp 0 (sumN l) 0 l)) ⟨0, 0, at' - sumN l⟩
    simp only at hs5
    go_wp2_with fail
    refine (impl_addAll w3.heap.size _ a' n' cap' m _ hR5 hi5 (by omega) (h'.below hB5) (fun ad had => by have := hb' ad had; have := hB3.size; omega) h16' (pos2 hok')).mono ?_
    rintro e w6 ⟨rfl, hR6, hi6, hs6, hg6⟩
    have hB6 : Below w.heap.size w w6 := below_grown hB5 hg6 hB3.size
    go_wp2_with fail
    refine (impl_LenOf a' n' cap' m _ (h'.below hB6) hn').mono ?_
    rintro e w7 ⟨rfl, hB7'⟩
    rw [hs'.out]
    have hR7 := hR6.below hB7'
    have hB7 := chain hB6 hB7'
    have hgt2 : sumN l < at' + sumN m := by omega
    go_wp2_with fail
    refine (impl_addSlice w3.heap.size _ a n cap l (sumN l) (sumN l) _ hR7 hi6 (by omega) (h.below hB7) (fun ad had => by have := hb ad had; have := hB3.size; omega) h16 (pos_of hok) (by omega) (by omega) (by omega) (by omega)).mono ?_
    rintro e w8 ⟨rfl, hR8, _, _, hg8⟩
    have hB8' : Below w.heap.size w w8 := below_grown hB7 hg8 hB3.size
    go_wp2_with fail
    refine (impl_told_any w.heap.size _ _ _ hR8 hB8'.size).mono ?_
    rintro e w9 ⟨hret, hB9⟩
    have hB8 := chain hB8' hB9
    have hrow : Hid (rall (rall (radd (rall ⟨[], 0, false⟩ (slp 0 (sumN l) 0 l)) ⟨0, 0, at' - sumN l⟩) m) (slp (sumN l) (sumN l) 0 l) = rowOf (laidL l at' m)) := by
      show _ = _
      rw [hll.out, hmin.out]; simp [rowOf, rall, List.foldl_append]
    rw [hrow.out, hoo.out] at hret
    clear hoo hrow
    cases oo with
    | none =>
      obtain rfl := hret
      go_wp2
      go_returns
      exact ⟨rfl, hB8⟩
    | some L =>
      obtain ⟨a', n', cap', rfl, hres⟩ := hret
      go_wp2
      go_returns
      exact ⟨⟨a', n', cap', rfl, hres⟩, hB8⟩
  · by_cases hm2 : sumN l < at' + sumN m
    · have hll : Hid (laidL l at' m = slp 0 at' 0 l ++ m ++ slp (sumN l) (sumN l) 0 l) := by
        show _ = _; simp only [laidL, hgt, if_false]; rw [Int.min_eq_left (by omega), Int.min_eq_right (by omega)]; simp
      go_enter Try.func45, Try.ntmps45
      go_wp2_with fail
      refine (impl_PartsOk a n cap l _ h hn).mono ?_
      rintro e w1 ⟨rfl, hB1⟩
      rw [hok]
      go_wp2_with fail
      refine (impl_PartsOk a' n' cap' m _ (h'.below hB1) hn').mono ?_
      rintro e w2 ⟨rfl, hB2⟩
      rw [hok']
      replace hB2 := chain hB1 hB2
      go_wp2_with fail
      refine (impl_LenOf a n cap l _ (h.below hB2) hn).mono ?_
      rintro e w3 ⟨rfl, hB3⟩
      rw [hs.out]
      replace hB3 := chain hB2 hB3
      go_wp2_with fail
      refine (impl_addSlice w3.heap.size _ a n cap l 0 at' _ (row_new w3) inv_new (by show (0 : Int) ≤ _; omega) ((h.below hB3).alloc _) (fun ad had => by have := hb ad had; have := hB3.size; omega) h16 (pos_of hok) (by omega) (by omega) (by omega) (by omega)).mono ?_
      rintro e w4 ⟨rfl, hR4, hi4, hs4, hg4⟩
      have hB4 : Below w.heap.size w w4 := below_grown (chain hB3 ((Below.refl _ _).alloc (Nat.le_refl _) _)) hg4 hB3.size
      simp only [Int.zero_add] at hs4
      go_wp2_with fail
      refine (impl_addAll w3.heap.size _ a' n' cap' m _ hR4 hi4 (by omega) (h'.below hB4) (fun ad had => by have := hb' ad had; have := hB3.size; omega) h16' (pos2 hok')).mono ?_
      rintro e w6 ⟨rfl, hR6, hi6, hs6, hg6⟩
      have hB6 : Below w.heap.size w w6 := below_grown hB4 hg6 hB3.size
      go_wp2_with fail
      refine (impl_LenOf a' n' cap' m _ (h'.below hB6) hn').mono ?_
      rintro e w7 ⟨rfl, hB7'⟩
      rw [hs'.out]
      have hR7 := hR6.below hB7'
      have hB7 := chain hB6 hB7'
      go_wp2_with fail
      refine (impl_addSlice w3.heap.size _ a n cap l (sumN l) (sumN l) _ hR7 hi6 (by omega) (h.below hB7) (fun ad had => by have := hb ad had; have := hB3.size; omega) h16 (pos_of hok) (by omega) (by omega) (by omega) (by omega)).mono ?_
      rintro e w8 ⟨rfl, hR8, _, _, hg8⟩
      have hB8' : Below w.heap.size w w8 := below_grown hB7 hg8 hB3.size
      go_wp2_with fail
      refine (impl_told_any w.heap.size _ _ _ hR8 hB8'.size).mono ?_
      rintro e w9 ⟨hret, hB9⟩
      have hB8 := chain hB8' hB9
      have hrow : Hid (rall (rall (rall ⟨[], 0, false⟩ (slp 0 at' 0 l)) m) (slp (sumN l) (sumN l) 0 l) = rowOf (laidL l at' m)) := by
        show _ = _
        rw [hll.out]; simp [rowOf, rall, List.foldl_append]
      rw [hrow.out, hoo.out] at hret
      clear hoo hrow
      cases oo with
      | none =>
        obtain rfl := hret
        go_wp2
        go_returns
        exact ⟨rfl, hB8⟩
      | some L =>
        obtain ⟨a', n', cap', rfl, hres⟩ := hret
        go_wp2
        go_returns
        exact ⟨⟨a', n', cap', rfl, hres⟩, hB8⟩
    · have hll : Hid (laidL l at' m = slp 0 at' 0 l ++ m ++ slp (at' + sumN m) (sumN l) 0 l) := by
        show _ = _; simp only [laidL, hgt, if_false]; rw [Int.min_eq_left (by omega), Int.min_eq_left (by omega)]; simp
      go_enter Try.func45, Try.ntmps45
      go_wp2_with fail
      refine (impl_PartsOk a n cap l _ h hn).mono ?_
      rintro e w1 ⟨rfl, hB1⟩
      rw [hok]
      go_wp2_with fail
      refine (impl_PartsOk a' n' cap' m _ (h'.below hB1) hn').mono ?_
      rintro e w2 ⟨rfl, hB2⟩
      rw [hok']
      replace hB2 := chain hB1 hB2
      go_wp2_with fail
      refine (impl_LenOf a n cap l _ (h.below hB2) hn).mono ?_
      rintro e w3 ⟨rfl, hB3⟩
      rw [hs.out]
      replace hB3 := chain hB2 hB3
      go_wp2_with fail
      refine (impl_addSlice w3.heap.size _ a n cap l 0 at' _ (row_new w3) inv_new (by show (0 : Int) ≤ _; omega) ((h.below hB3).alloc _) (fun ad had => by have := hb ad had; have := hB3.size; omega) h16 (pos_of hok) (by omega) (by omega) (by omega) (by omega)).mono ?_
      rintro e w4 ⟨rfl, hR4, hi4, hs4, hg4⟩
      have hB4 : Below w.heap.size w w4 := below_grown (chain hB3 ((Below.refl _ _).alloc (Nat.le_refl _) _)) hg4 hB3.size
      simp only [Int.zero_add] at hs4
      go_wp2_with fail
      refine (impl_addAll w3.heap.size _ a' n' cap' m _ hR4 hi4 (by omega) (h'.below hB4) (fun ad had => by have := hb' ad had; have := hB3.size; omega) h16' (pos2 hok')).mono ?_
      rintro e w6 ⟨rfl, hR6, hi6, hs6, hg6⟩
      have hB6 : Below w.heap.size w w6 := below_grown hB4 hg6 hB3.size
      go_wp2_with fail
      refine (impl_LenOf a' n' cap' m _ (h'.below hB6) hn').mono ?_
      rintro e w7 ⟨rfl, hB7'⟩
      rw [hs'.out]
      have hR7 := hR6.below hB7'
      have hB7 := chain hB6 hB7'
      go_wp2_with fail
      refine (impl_addSlice w3.heap.size _ a n cap l (at' + sumN m) (sumN l) _ hR7 hi6 (by omega) (h.below hB7) (fun ad had => by have := hb ad had; have := hB3.size; omega) h16 (pos_of hok) (by omega) (by omega) (by omega) (by omega)).mono ?_
      rintro e w8 ⟨rfl, hR8, _, _, hg8⟩
      have hB8' : Below w.heap.size w w8 := below_grown hB7 hg8 hB3.size
      go_wp2_with fail
      refine (impl_told_any w.heap.size _ _ _ hR8 hB8'.size).mono ?_
      rintro e w9 ⟨hret, hB9⟩
      have hB8 := chain hB8' hB9
      have hrow : Hid (rall (rall (rall ⟨[], 0, false⟩ (slp 0 at' 0 l)) m) (slp (at' + sumN m) (sumN l) 0 l) = rowOf (laidL l at' m)) := by
        show _ = _
        rw [hll.out]; simp [rowOf, rall, List.foldl_append]
      rw [hrow.out, hoo.out] at hret
      clear hoo hrow
      cases oo with
      | none =>
        obtain rfl := hret
        go_wp2
        go_returns
        exact ⟨rfl, hB8⟩
      | some L =>
        obtain ⟨a', n', cap', rfl, hres⟩ := hret
        go_wp2
        go_returns
        exact ⟨⟨a', n', cap', rfl, hres⟩, hB8⟩

set_option maxHeartbeats 2000000 in
set_option maxRecDepth 100000 in
theorem impl_Laid (a : Option Addr) (n cap : Nat) (l : List Pt) (at' : Int) (a' : Option Addr) (n' cap' : Nat) (m : List Pt) (w : World) (h : PtsAt w a n l) (hn : n ≤ 4194304) (hb : ∀ ad, a = some ad → ad.block < w.heap.size) (h' : PtsAt w a' n' m) (hn' : n' ≤ 4194304) (hb' : ∀ ad, a' = some ad → ad.block < w.heap.size) :
    Calls Try.prog 45 #[.slice a n cap, .int .i64 at', .slice a' n' cap'] w fun e w' => RetPts w.heap.size e w' (laidO l at' m) ∧ Below w.heap.size w w' := by
  by_cases hall : partsOkB l = true ∧ 0 ≤ at' ∧ at' ≤ 100 ∧ partsOkB m = true
  · exact impl_Laid_ok a n cap l at' a' n' cap' m w h hn hb h' hn' hb' hall.1 hall.2.2.2 hall.2.1 hall.2.2.1
  · have hf : laidO l at' m = none := by simp only [laidO]; rw [if_neg hall]
    rw [hf]
    clear hf
    cases hok : partsOkB l
    · go_enter Try.func45, Try.ntmps45
      go_wp2_with fail
      refine (impl_PartsOk a n cap l _ h hn).mono ?_
      rintro e w1 ⟨rfl, hB1⟩
      rw [hok]
      go_wp2
      go_returns
      exact ⟨rfl, hB1⟩
    · by_cases hat : 0 ≤ at' ∧ at' ≤ 100
      · have hok' : partsOkB m = false := by cases hm : partsOkB m <;> simp_all
        clear hall
        obtain ⟨h0, h1⟩ := hat
        go_enter Try.func45, Try.ntmps45
        go_wp2_with fail
        refine (impl_PartsOk a n cap l _ h hn).mono ?_
        rintro e w1 ⟨rfl, hB1⟩
        rw [hok]
        go_wp2_with fail
        refine (impl_PartsOk a' n' cap' m _ (h'.below hB1) hn').mono ?_
        rintro e w2 ⟨rfl, hB2⟩
        rw [hok']
        replace hB2 := chain hB1 hB2
        go_wp2
        go_returns
        exact ⟨rfl, hB2⟩
      · clear hall
        go_enter Try.func45, Try.ntmps45
        go_wp2_with fail
        refine (impl_PartsOk a n cap l _ h hn).mono ?_
        rintro e w1 ⟨rfl, hB1⟩
        rw [hok]
        go_wp2_with fail
        all_goals first | (exfalso; omega) | skip
        all_goals go_returns
        all_goals exact ⟨rfl, hB1⟩
end Go.Proofs.Ytbjejnkeekndbaa
namespace Go.Proofs.Ytbjejnkeekndbaa
open Go.RowKit Go.BigFrame

/-- l2Add, as a plain function. -/
def addL (l : List Pt) (p : Pt) : List Pt :=
  match l.getLast? with
  | none => [p]
  | some q => if goesOnB q p then l.dropLast ++ [⟨q.a, q.f, wrap64 (q.n + p.n)⟩] else l ++ [p]

/-- A slice value as Go has it. -/
structure ArgOk (a : Option Addr) (cap : Nat) : Prop where
  spot : ∀ ad, a = some ad → ad.spot = none
  nil : a = none → cap = 0

theorem ResAt.arg {α : Type} {cs : α → List Value} {sz : Nat} {t : TypeId} {w : World} {B n cap : Nat} {a : Option Addr} {l : List α} (h : ResAt cs sz t w B a n cap l) : ArgOk a cap := by
  rcases h.own with ⟨rfl, _, rfl⟩ | ⟨b, rfl, _⟩
  · exact ⟨fun ad h => (by cases h), fun _ => rfl⟩
  · exact ⟨fun ad h => (by cases h; rfl), fun h => (by cases h)⟩
theorem arg_own (b cap : Nat) : ArgOk (some ⟨b, 0, none⟩) cap := ⟨fun ad h => (by cases h; rfl), fun h => (by cases h)⟩

set_option maxHeartbeats 2000000 in
set_option maxRecDepth 100000 in
theorem spec_l2Add (a : Option Addr) (n cap : Nat) (l : List Pt) (p : Pt) (w : World) (h : PtsAt w a n l) (hn : n ≤ 4194304) (ha : ArgOk a cap) :
    Calls Try.prog 136 #[.slice a n cap, .agg #[.int .i64 p.a, .int .i64 p.f, .int .i64 p.n]] w fun e w' => (∃ a' n' cap', e = .returned (.slice a' n' cap') ∧ ResAt Pt.cs 3 119 w' w.heap.size a' n' cap' (addL l p)) ∧ Below w.heap.size w w' := by
  have hlen := h.len
  obtain ⟨i0, hi, hz0, hz1, hz2⟩ := info_parts infoP
  have x0 : (w.alloc (.cells #[.int .i64 p.a, .int .i64 p.f, .int .i64 p.n] 119)).cell? ⟨w.heap.size, 0, none⟩ = some (.int .i64 p.a) := by simp
  have x1 : (w.alloc (.cells #[.int .i64 p.a, .int .i64 p.f, .int .i64 p.n] 119)).cell? ⟨w.heap.size, 1, none⟩ = some (.int .i64 p.f) := by simp
  have x2 : (w.alloc (.cells #[.int .i64 p.a, .int .i64 p.f, .int .i64 p.n] 119)).cell? ⟨w.heap.size, 2, none⟩ = some (.int .i64 p.n) := by simp
  have hB1 : Below w.heap.size w (w.alloc (.cells #[.int .i64 p.a, .int .i64 p.f, .int .i64 p.n] 119)) := (Below.refl _ _).alloc (Nat.le_refl _) _
  rcases List.eq_nil_or_concat l with hL | ⟨L', q, hL⟩
  · have hr : Hid (addL l p = [] ++ l ++ [p]) := by show _ = _; rw [hL]; rfl
    obtain rfl : n = 0 := by rw [← hlen, hL]; rfl
    go_enter Try.func136, Try.ntmps136
    go_wp2_with fail
    go_quiet (fail)
    replace x0 := bcell (drewNB _ nq) x0
    replace x1 := bcell (drewNB _ nq) x1
    replace x2 := bcell (drewNB _ nq) x2
    have hB6 := chain hB1 (drewNB _ nq)
    clear hB1
    generalize (w.alloc (.cells #[.int .i64 p.a, .int .i64 p.f, .int .i64 p.n] 119)).drewN nq = W6 at *
    have h6 := h.below hB6
    have hs6 := hB6.size
    go_wp2_with fail
    have hlt6 : w.heap.size < W6.heap.size := World.block_lt_of_cell? W6 ⟨w.heap.size, 0, none⟩ x0
    go_region_held3 (fun u => u.cell? ⟨w.heap.size, 0, none⟩ = some (.int .i64 p.a) ∧ u.cell? ⟨w.heap.size, 1, none⟩ = some (.int .i64 p.f) ∧ u.cell? ⟨w.heap.size, 2, none⟩ = some (.int .i64 p.n)) (go_keep) (first | (refine step_app rfl (wp_app _ _ 39 rfl (w.heap.size + 1) 119 i0 (.agg #[.int .i64 0, .int .i64 0, .int .i64 0]) 24 Try.underlying39 hi hz0 hz1 hz2 rfl (by decide) pcs_len pcs_one _ 0 0 [] rfl (res_empty (by first | exact (Blk.new' _ _ _ _ (by simp)).drew | exact ((Blk.new' _ _ _ _ (by simp)).alloc _).drew) (by first | omega | (simp; omega))) a 0 cap l rfl (h6.below (by go_grown)) ha.spot ha.nil 0 (Nat.zero_add _) (by unfold maxLen; omega) (by omega) (by first | omega | (simp; omega)) ?_); intro a1 cap1 w1 hr1 hg1; have z0 := hg1.cell (a := ⟨w.heap.size, 0, none⟩) (by first | exact acell _ x0 | exact acell _ (acell _ x0)) (by simp [Value.ownBlock]; omega); have z1 := hg1.cell (a := ⟨w.heap.size, 1, none⟩) (by first | exact acell _ x1 | exact acell _ (acell _ x1)) (by simp [Value.ownBlock]; omega); have z2 := hg1.cell (a := ⟨w.heap.size, 2, none⟩) (by first | exact acell _ x2 | exact acell _ (acell _ x2)) (by simp [Value.ownBlock]; omega)) | (refine step_app rfl (wp_app _ _ 39 rfl (w.heap.size + 1) 119 i0 (.agg #[.int .i64 0, .int .i64 0, .int .i64 0]) 24 Try.underlying39 hi hz0 hz1 hz2 rfl (by decide) pcs_len pcs_one a1 0 cap1 ([] ++ l) rfl (by first | exact hr1 | exact hr1.alloc _) _ 1 1 [p] rfl (by first | exact sl_new' _ p _ _ (by simp) | (refine SlAt.grown (r := W6.heap.size) (sl_new' _ p _ _ (by simp)).drew hg1 ?_; intro ad h; cases h; first | (simp; done) | (simp; omega) | omega) | (refine SlAt.grown (r := W6.heap.size + 1) ((sl_new' _ p _ _ (by simp)).alloc _).drew hg1 ?_; intro ad h; cases h; first | (simp; done) | (simp; omega) | omega)) (fun ad h => (by cases h; rfl)) (fun h => (by cases h)) (0 + 1) rfl (by unfold maxLen; omega) (by omega) (by have := hg1.size; simp at this; first | omega | (simp; omega)) ?_); intro a2 cap2 w2 hr2 hg2; have y0 := hg2.cell (a := ⟨w.heap.size, 0, none⟩) (by first | exact z0 | exact acell _ z0) (own_ne fun ad h => (hr1.block ad h).1); have y1 := hg2.cell (a := ⟨w.heap.size, 1, none⟩) (by first | exact z1 | exact acell _ z1) (own_ne fun ad h => (hr1.block ad h).1); have y2 := hg2.cell (a := ⟨w.heap.size, 2, none⟩) (by first | exact z2 | exact acell _ z2) (own_ne fun ad h => (hr1.block ad h).1)))
    all_goals
      have hb1 : Below w.heap.size w w1 := Below.grown (by go_grown) hg1 (by first | omega | (simp; omega)) (fun k e => by simp [Value.ownBlock] at e; omega)
      have hb2 : Below w.heap.size w w2 := Below.grown (by first | exact hb1 | exact hb1.alloc hb1.size _) hg2 (by have := hb1.size; first | omega | (simp; omega)) (own_ge fun ad h => by have := (hr1.block ad h).1; omega)
      have hr3 : ResAt Pt.cs 3 119 w2 w.heap.size a2 (0 + 1) cap2 (addL l p) := by rw [hr.out]; exact hr2.mono (by omega)
      go_wp2
      go_returns
      exact ⟨⟨a2, _, cap2, rfl, hr3⟩, hb2⟩
  · -- there is a last part
    have hLl : l.length = L'.length + 1 := by rw [hL]; simp
    have hq : l[L'.length]? = some q := by rw [hL]; simp
    have hlast : l.getLast? = some q := by rw [hL]; simp
    have hdl : l.dropLast = L' := by rw [hL]; simp
    obtain ⟨j, rfl⟩ : ∃ j, n = j + 1 := ⟨L'.length, by omega⟩
    have hjl : L'.length = j := by omega
    rw [hjl] at hq
    obtain ⟨b, o, q', rfl, hq', d0, d1, d2⟩ := pts_at (h.below hB1) (k := j) (by omega)
    obtain rfl : q = q' := by rw [hq] at hq'; exact Option.some.inj hq'
    have hw1 : wrap64 ((j : Int) + 1 - 1) = (j : Int) := by unfold wrap64; omega
    have hj0 : (0 : Int) ≤ (j : Int) := by omega
    have hj1 : (j : Int) < (j : Int) + 1 := by omega
    have g0 := gcell d0
    have g1 := gcell d1
    have g2 := gcell d2
    have g3 := gcell x0
    have g4 := gcell x1
    have g5 := gcell x2
    have hne := grw_ne (w.alloc (.cells #[.int .i64 p.a, .int .i64 p.f, .int .i64 p.n] 119))
    cases hgo : goesOnB q p
    all_goals
      go_enter Try.func136, Try.ntmps136
      go_wp2_with fail
      refine wp_region_grow (by kernel_rfl) (by kernel_rfl) ?_
      repeat (go_big_quiet_step (first | (go_at_call 140; have qq := spec_l2Next q p; rw [hgo] at qq; exact grow_of (qq _))))
      refine wpQuiet_nil ?_
      intro W6 hx
      have hBx := grw_out hx
      clear hx g0 g1 g2 g3 g4 g5 hne
      replace x0 := bcell hBx x0
      replace x1 := bcell hBx x1
      replace x2 := bcell hBx x2
      replace d0 := bcell hBx d0
      replace d1 := bcell hBx d1
      replace d2 := bcell hBx d2
      have hB6 := chain hB1 hBx
      clear hB1 hBx
      have h6 := h.below hB6
      have hs6 := hB6.size
      have hlt6 : w.heap.size < W6.heap.size := World.block_lt_of_cell? W6 ⟨w.heap.size, 0, none⟩ x0
    · have hr : Hid (addL l p = [] ++ l ++ [p]) := by show _ = _; simp [addL, hlast, hgo]
      go_wp2_with fail
      go_region_held3 (fun u => u.cell? ⟨w.heap.size, 0, none⟩ = some (.int .i64 p.a) ∧ u.cell? ⟨w.heap.size, 1, none⟩ = some (.int .i64 p.f) ∧ u.cell? ⟨w.heap.size, 2, none⟩ = some (.int .i64 p.n)) (go_keep) (first | (refine step_app rfl (wp_app _ _ 39 rfl (w.heap.size + 1) 119 i0 (.agg #[.int .i64 0, .int .i64 0, .int .i64 0]) 24 Try.underlying39 hi hz0 hz1 hz2 rfl (by decide) pcs_len pcs_one _ 0 0 [] rfl (res_empty (by first | exact (Blk.new' _ _ _ _ (by simp)).drew | exact ((Blk.new' _ _ _ _ (by simp)).alloc _).drew) (by first | omega | (simp; omega))) (some ⟨b, o, none⟩) (j + 1) cap l rfl (h6.below (by go_grown)) ha.spot ha.nil (j + 1) (Nat.zero_add _) (by unfold maxLen; omega) (by omega) (by first | omega | (simp; omega)) ?_); intro a1 cap1 w1 hr1 hg1; have z0 := hg1.cell (a := ⟨w.heap.size, 0, none⟩) (by first | exact acell _ x0 | exact acell _ (acell _ x0)) (by simp [Value.ownBlock]; omega); have z1 := hg1.cell (a := ⟨w.heap.size, 1, none⟩) (by first | exact acell _ x1 | exact acell _ (acell _ x1)) (by simp [Value.ownBlock]; omega); have z2 := hg1.cell (a := ⟨w.heap.size, 2, none⟩) (by first | exact acell _ x2 | exact acell _ (acell _ x2)) (by simp [Value.ownBlock]; omega)) | (refine step_app rfl (wp_app _ _ 39 rfl (w.heap.size + 1) 119 i0 (.agg #[.int .i64 0, .int .i64 0, .int .i64 0]) 24 Try.underlying39 hi hz0 hz1 hz2 rfl (by decide) pcs_len pcs_one a1 (j + 1) cap1 ([] ++ l) rfl (by first | exact hr1 | exact hr1.alloc _) _ 1 1 [p] rfl (by first | exact sl_new' _ p _ _ (by simp) | (refine SlAt.grown (r := W6.heap.size) (sl_new' _ p _ _ (by simp)).drew hg1 ?_; intro ad h; cases h; first | (simp; done) | (simp; omega) | omega) | (refine SlAt.grown (r := W6.heap.size + 1) ((sl_new' _ p _ _ (by simp)).alloc _).drew hg1 ?_; intro ad h; cases h; first | (simp; done) | (simp; omega) | omega)) (fun ad h => (by cases h; rfl)) (fun h => (by cases h)) (j + 1 + 1) rfl (by unfold maxLen; omega) (by omega) (by have := hg1.size; simp at this; first | omega | (simp; omega)) ?_); intro a2 cap2 w2 hr2 hg2; have y0 := hg2.cell (a := ⟨w.heap.size, 0, none⟩) (by first | exact z0 | exact acell _ z0) (own_ne fun ad h => (hr1.block ad h).1); have y1 := hg2.cell (a := ⟨w.heap.size, 1, none⟩) (by first | exact z1 | exact acell _ z1) (own_ne fun ad h => (hr1.block ad h).1); have y2 := hg2.cell (a := ⟨w.heap.size, 2, none⟩) (by first | exact z2 | exact acell _ z2) (own_ne fun ad h => (hr1.block ad h).1)))
      all_goals
        have hb1 : Below w.heap.size w w1 := Below.grown (by go_grown) hg1 (by first | omega | (simp; omega)) (fun k e => by simp [Value.ownBlock] at e; omega)
        have hb2 : Below w.heap.size w w2 := Below.grown (by first | exact hb1 | exact hb1.alloc hb1.size _) hg2 (by have := hb1.size; first | omega | (simp; omega)) (own_ge fun ad h => by have := (hr1.block ad h).1; omega)
        have hr3 : ResAt Pt.cs 3 119 w2 w.heap.size a2 (j + 1 + 1) cap2 (addL l p) := by rw [hr.out]; exact hr2.mono (by omega)
        go_wp2
        go_returns
        exact ⟨⟨a2, _, cap2, rfl, hr3⟩, hb2⟩
    · have hr : Hid (addL l p = l.dropLast ++ [⟨q.a, q.f, wrap64 (q.n + p.n)⟩]) := by show _ = _; simp [addL, hlast, hgo]
      go_wp2_with (at_builtin; refine wpList_app rfl (fun K hK => wp_app _ _ 39 rfl (w.heap.size + 1) 119 i0 (.agg #[.int .i64 0, .int .i64 0, .int .i64 0]) 24 Try.underlying39 hi hz0 hz1 hz2 rfl (by decide) pcs_len pcs_one _ 0 0 [] rfl (res_empty (Blk.new' _ _ _ _ (by simp)) (by omega)) (some ⟨b, o, none⟩) (j + 1) cap l rfl (h6.below (by go_grown)) ha.spot ha.nil (j + 1) (Nat.zero_add _) (by unfold maxLen; omega) (by omega) (by simp; omega) (fun a1 cap1 w1 hr1 hg1 => hK _ _ ?_)))
      have hb1 : Below w.heap.size w w1 := Below.grown (by go_grown) hg1 (by simp; omega) (fun k e => by simp [Value.ownBlock] at e; omega)
      rcases hr1.own with ⟨_, h0, _⟩ | ⟨g, rfl, hgB, hgc, hgm, c, hgb, hgs, hgt⟩
      · exact absurd h0 (by omega)
      have z2 := hg1.cell (a := ⟨w.heap.size, 2, none⟩) (acell _ x2) (by simp [Value.ownBlock]; omega)
      obtain ⟨b', o', q', hbo, hq', e0, e1, e2⟩ := pts_at hr1.sl (k := j) (by omega)
      obtain ⟨rfl, rfl⟩ : g = b' ∧ 0 = o' := by simpa using hbo
      obtain rfl : q = q' := by simp only [List.nil_append] at hq'; rw [hq] at hq'; exact Option.some.inj hq'
      simp only [Nat.zero_add] at e0 e1 e2
      have f2 := hgb.frozen (j * 3 + 2)
      clear hbo
      refine wp_region_tail 12 (by kernel_rfl) (by kernel_rfl) ?_
      simp only [List.take_succ_cons, List.take_zero, List.drop_succ_cons, List.drop_zero]
      repeat still_step
      refine wpStill_nil ?_
      go_wp2
      go_returns
      go_light
      refine ⟨⟨some ⟨g, 0, none⟩, j + 1, cap1, rfl, ?_⟩, ((hb1.setCell (by show w.heap.size ≤ g; omega) _).drew)⟩
      rw [hr.out, hdl]
      have hfl : (L'.flatMap Pt.cs).length = j * 3 := by rw [flat_len pcs_len, hjl]
      have htk : (c.setIfInBounds (j * 3 + 2) (.int .i64 (wrap64 (q.n + p.n)))).toList.take ((j + 1) * 3) = (L' ++ [(⟨q.a, q.f, wrap64 (q.n + p.n)⟩ : Pt)]).flatMap Pt.cs := by
        rw [Array.toList_setIfInBounds, List.take_set, hgt, hL, List.nil_append, List.concat_eq_append, List.flatMap_append, List.flatMap_append, List.set_append_right _ _ (by omega), hfl]
        simp [Pt.cs]
      obtain ⟨a2, cap2, hv, hres⟩ := res_of_row (w := (w1.setCell ⟨g, j * 3 + 2, none⟩ (.int .i64 (wrap64 (q.n + p.n)))).drew) (B := w.heap.size) (t := 119) (n := j + 1) (v := .slice (some ⟨g, 0, none⟩) (j + 1) cap1) (l := L' ++ [(⟨q.a, q.f, wrap64 (q.n + p.n)⟩ : Pt)]) pcs_len (by simp [hjl])
        ⟨by rw [flat_len pcs_len]; simp [hjl], .inr ⟨g, cap1, _, rfl, by omega, (hgb.set _ _).drew, hgc, hgm, by simp [hgs], htk⟩⟩
      cases hv
      exact hres
end Go.Proofs.Ytbjejnkeekndbaa
namespace Go.Proofs.Ytbjejnkeekndbaa
open Go.RowKit Go.BigFrame

def joinL (l m : List Pt) : List Pt := m.foldl addL l

theorem addL_len (l : List Pt) (p : Pt) : (addL l p).length ≤ l.length + 1 := by
  unfold addL
  split
  · simp
  · split
    · simp only [List.length_append, List.length_dropLast, List.length_cons, List.length_nil]; omega
    · simp
theorem joinL_at {l m : List Pt} {k : Nat} {p : Pt} (h : m[k]? = some p) : joinL l (m.take (k + 1)) = addL (joinL l (m.take k)) p := by
  unfold joinL; rw [take_at h, List.foldl_append]; rfl

set_option maxHeartbeats 1000000 in
theorem spec_l2Join (a : Option Addr) (n cap : Nat) (l : List Pt) (a' : Option Addr) (n' cap' : Nat) (m : List Pt) (w : World) (h : PtsAt w a n l) (hn : n ≤ 1100000) (ha : ArgOk a cap) (h' : PtsAt w a' n' m) (hn' : n' ≤ 1100000) :
    Calls Try.prog 103 #[.slice a n cap, .slice a' n' cap'] w fun e w' => (∃ a1 n1 cap1, e = .returned (.slice a1 n1 cap1) ∧ n1 ≤ n + n' ∧ ResAt Pt.cs 3 119 w' w.heap.size a1 n1 cap1 (joinL l m)) ∧ Below w.heap.size w w' := by
  have hlen' : Hid (m.length = n') := h'.len
  obtain ⟨i0, hi, hz0, hz1, hz2⟩ := info_parts infoP
  go_enter Try.func103, Try.ntmps103
  go_wp2_with (at_builtin; refine wpList_app rfl (fun K hK => wp_app _ _ 39 rfl w.heap.size 119 i0 (.agg #[.int .i64 0, .int .i64 0, .int .i64 0]) 24 Try.underlying39 hi hz0 hz1 hz2 rfl (by decide) pcs_len pcs_one _ 0 0 [] rfl (res_empty (Blk.new' _ _ _ _ (by simp)) (by omega)) a n cap l rfl (h.below (by go_grown)) ha.spot ha.nil n (Nat.zero_add _) (by unfold maxLen; omega) (by omega) (by simp) (fun a1 cap1 w1 hr1 hg1 => hK _ _ ?_)))
  have hb1 : Below w.heap.size w w1 := Below.grown (by go_grown) hg1 (by simp) (fun k e => by simp [Value.ownBlock] at e; omega)
  simp only [List.nil_append] at hr1
  clear hg1 hi hz0 hz1 hz2
  go_loopw [5, 6] (fun out ix wr => ∃ (k : Nat) (a2 : Option Addr) (n2 cap2 : Nat), k ≤ n' ∧ ix = .int .i64 k ∧ out = .slice a2 n2 cap2 ∧ n2 ≤ n + k ∧ ResAt Pt.cs 3 119 wr w.heap.size a2 n2 cap2 (joinL l (m.take k)) ∧ Below w.heap.size w wr) (fun _ ix _ => n' - (intOf ix).toNat)
  case atStart => exact ⟨0, a1, n, cap1, Nat.zero_le _, rfl, rfl, by omega, hr1, hb1⟩
  case round =>
    obtain ⟨k, a2, n2, cap2, hk, rfl, rfl, hn2, hr2, hB⟩ := hrel
    by_cases hlt : k < n'
    · obtain ⟨b, o, p, rfl, hp, c0, c1, c2⟩ := pts_at (h'.below hB) hlt
      have hst : Hid (joinL l (m.take (k + 1)) = addL (joinL l (m.take k)) p) := joinL_at hp
      clear hp
      generalize joinL l (m.take k) = lk at *
      have hal := addL_len lk p
      rw [hr2.sl.len] at hal
      go_wp2_with fail
      refine (spec_l2Add a2 n2 cap2 lk p _ hr2.sl (by omega) hr2.arg).mono ?_
      rintro e w3 ⟨⟨a3, n3, cap3, rfl, hr3⟩, hB3⟩
      have hn3 := hr3.sl.len
      go_wp2
      go_roundw
      case rel => exact ⟨k + 1, a3, n3, cap3, by omega, by go_num, rfl, by omega, by rw [hst.out]; exact hr3.mono hB.size, chain hB hB3⟩
      case measure => simp [intOf]; omega
    · obtain rfl : k = n' := by omega
      go_wp2
      go_returns
      go_light
      rw [List.take_of_length_le (Nat.le_of_eq hlen'.out)] at hr2
      exact ⟨⟨a2, n2, cap2, rfl, hn2, hr2⟩, hB⟩

/-- Parts as right ones are: a hole begins at 0. -/
def Holes (l : List Pt) : Prop := ∀ p ∈ l, (1 ≤ p.n ∧ p.n ≤ 100 ∧ 0 ≤ p.f ∧ p.f ≤ 100) ∧ ((p.a = 0 ∧ p.f = 0) ∨ 0 < p.a)

theorem cut_hole {p : Pt} {x y : Int} (h : p.a = 0) (hf : p.f = 0) : cutP p x y = ⟨p.a, p.f, y - x⟩ := by simp [cutP, h, hf]
theorem cut_ext {p : Pt} {x y : Int} (h : 0 < p.a) : cutP p x y = ⟨p.a, p.f + x, y - x⟩ := by
  have : (p.a == 0) = false := beq_eq_false_iff_ne.2 (by omega)
  simp [cutP, this]
theorem slj_step {lk : List Pt} {fr to st x y : Int} {p : Pt} {r : List Pt} (hx : max (fr - st) 0 = x) (hy : min (to - st) p.n = y) (h : x < y) : joinL lk (slp fr to st (p :: r)) = joinL (addL lk (cutP p x y)) (slp fr to (st + p.n) r) := by
  rw [slp_yes hx hy h]; rfl

theorem slj_hole {lk : List Pt} {fr to st z : Int} {p : Pt} {r : List Pt} (h : max (fr - st) 0 < min (to - st) p.n) (ha : p.a = 0 ∧ p.f = 0) (hz : min (to - st) p.n - max (fr - st) 0 = z) : joinL lk (slp fr to st (p :: r)) = joinL (addL lk ⟨p.a, p.f, z⟩) (slp fr to (st + p.n) r) := by
  rw [slj_step rfl rfl h, cut_hole ha.1 ha.2, hz]
theorem slj_ext {lk : List Pt} {fr to st z f : Int} {p : Pt} {r : List Pt} (h : max (fr - st) 0 < min (to - st) p.n) (ha : 0 < p.a) (hf : p.f + max (fr - st) 0 = f) (hz : min (to - st) p.n - max (fr - st) 0 = z) : joinL lk (slp fr to st (p :: r)) = joinL (addL lk ⟨p.a, f, z⟩) (slp fr to (st + p.n) r) := by
  rw [slj_step rfl rfl h, cut_ext ha, hz, hf]
theorem addL_res {l : List Pt} {p : Pt} {n m : Nat} (h1 : (addL l p).length = n) (h2 : l.length = m) : n ≤ m + 1 := by
  have := addL_len l p; omega

set_option maxHeartbeats 8000000 in
set_option maxRecDepth 100000 in
theorem spec_l2Slice (a : Option Addr) (n cap : Nat) (l : List Pt) (fr to : Int) (w : World) (h : PtsAt w a n l) (hn : n ≤ 16) (hl : Holes l) (hf0 : 0 ≤ fr) (hf1 : fr ≤ 10000) (ht0 : 0 ≤ to) (ht1 : to ≤ 10000) :
    Calls Try.prog 97 #[.slice a n cap, .int .i64 fr, .int .i64 to] w fun e w' => (∃ a1 n1 cap1, e = .returned (.slice a1 n1 cap1) ∧ n1 ≤ n ∧ ResAt Pt.cs 3 119 w' w.heap.size a1 n1 cap1 (joinL [] (slp fr to 0 l))) ∧ Below w.heap.size w w' := by
  have hlen : Hid (l.length = n) := h.len
  go_enter Try.func97, Try.ntmps97
  go_wp2_with fail
  go_loopw [7, 8, 9] (fun out s ix wr => ∃ (k : Nat) (st : Int) (a2 : Option Addr) (n2 cap2 : Nat) (lk : List Pt), k ≤ n ∧ ix = .int .i64 k ∧ s = .int .i64 st ∧ 0 ≤ st ∧ st ≤ 100 * k ∧ out = .slice a2 n2 cap2 ∧ n2 ≤ k ∧ ResAt Pt.cs 3 119 wr w.heap.size a2 n2 cap2 lk ∧ Hid (joinL [] (slp fr to 0 l) = joinL lk (slp fr to st (l.drop k))) ∧ Below w.heap.size w wr) (fun _ _ ix _ => n - (intOf ix).toNat)
  case atStart => exact ⟨0, 0, _, 0, 0, [], Nat.zero_le _, rfl, rfl, by omega, by omega, rfl, by omega, res_empty (Blk.new _ _ _) (Nat.le_refl _), rfl, (Below.refl _ _).alloc (Nat.le_refl _) _⟩
  case round =>
    obtain ⟨k, st, a2, n2, cap2, lk, hk, rfl, rfl, hs0, hs1, rfl, hn2, hr2, hI, hB⟩ := hrel
    by_cases hlt : k < n
    · obtain ⟨b, o, p, rfl, hp, c0, c1, c2⟩ := pts_at (h.below hB) hlt
      have hd : Hid (l.drop k = p :: l.drop (k + 1)) := drop_at hp
      obtain ⟨⟨hp1, hp2, hp3, hp4⟩, hpa⟩ := hl p (List.mem_of_getElem? hp)
      clear hp
      have hsz := hB.size
      by_cases hxy : max (fr - st) 0 < min (to - st) p.n
      · rcases hpa with ⟨hpa, hpf⟩ | hpa
        · have hpa' : ¬ 0 < p.a := by omega
          have hHa : Hid (p.a = 0 ∧ p.f = 0) := ⟨hpa, hpf⟩
          clear hpa hpf
          by_cases hx : fr < st
          · by_cases hy : st + p.n < to
            · go_wp2_with fail
              refine (spec_l2Add a2 n2 cap2 lk ⟨p.a, p.f, (st + p.n) - st⟩ _ (hr2.sl.alloc _) (by omega) hr2.arg).mono ?_
              rintro e w3 ⟨⟨a3, n3, cap3, rfl, hr3⟩, hB3⟩
              have hal := addL_res hr3.sl.len hr2.sl.len
              obtain ⟨_, _, _, hB3', _⟩ := box3 hB3
              have y2 := bcell hB3' c2
              have hfin : Hid (joinL lk (slp fr to st (p :: l.drop (k + 1))) = joinL (addL lk ⟨p.a, p.f, (st + p.n) - st⟩) (slp fr to (st + p.n) (l.drop (k + 1)))) := slj_hole hxy hHa.out (by omega)
              clear hxy
              go_wp2
              go_roundw
              case rel => exact ⟨k + 1, st + p.n, a3, n3, cap3, _, by omega, by go_num, by go_num, by omega, by omega, rfl, by omega, hr3.mono (by simp; omega), by show _ = _; rw [hI.out, hd.out]; exact hfin.out, chain hB hB3'⟩
              case measure => simp [intOf]; omega
            · go_wp2_with fail
              refine (spec_l2Add a2 n2 cap2 lk ⟨p.a, p.f, to - st⟩ _ (hr2.sl.alloc _) (by omega) hr2.arg).mono ?_
              rintro e w3 ⟨⟨a3, n3, cap3, rfl, hr3⟩, hB3⟩
              have hal := addL_res hr3.sl.len hr2.sl.len
              obtain ⟨_, _, _, hB3', _⟩ := box3 hB3
              have y2 := bcell hB3' c2
              have hfin : Hid (joinL lk (slp fr to st (p :: l.drop (k + 1))) = joinL (addL lk ⟨p.a, p.f, to - st⟩) (slp fr to (st + p.n) (l.drop (k + 1)))) := slj_hole hxy hHa.out (by omega)
              clear hxy
              go_wp2
              go_roundw
              case rel => exact ⟨k + 1, st + p.n, a3, n3, cap3, _, by omega, by go_num, by go_num, by omega, by omega, rfl, by omega, hr3.mono (by simp; omega), by show _ = _; rw [hI.out, hd.out]; exact hfin.out, chain hB hB3'⟩
              case measure => simp [intOf]; omega
          · by_cases hy : st + p.n < to
            · go_wp2_with fail
              refine (spec_l2Add a2 n2 cap2 lk ⟨p.a, p.f, (st + p.n) - fr⟩ _ (hr2.sl.alloc _) (by omega) hr2.arg).mono ?_
              rintro e w3 ⟨⟨a3, n3, cap3, rfl, hr3⟩, hB3⟩
              have hal := addL_res hr3.sl.len hr2.sl.len
              obtain ⟨_, _, _, hB3', _⟩ := box3 hB3
              have y2 := bcell hB3' c2
              have hfin : Hid (joinL lk (slp fr to st (p :: l.drop (k + 1))) = joinL (addL lk ⟨p.a, p.f, (st + p.n) - fr⟩) (slp fr to (st + p.n) (l.drop (k + 1)))) := slj_hole hxy hHa.out (by omega)
              clear hxy
              go_wp2
              go_roundw
              case rel => exact ⟨k + 1, st + p.n, a3, n3, cap3, _, by omega, by go_num, by go_num, by omega, by omega, rfl, by omega, hr3.mono (by simp; omega), by show _ = _; rw [hI.out, hd.out]; exact hfin.out, chain hB hB3'⟩
              case measure => simp [intOf]; omega
            · go_wp2_with fail
              refine (spec_l2Add a2 n2 cap2 lk ⟨p.a, p.f, to - fr⟩ _ (hr2.sl.alloc _) (by omega) hr2.arg).mono ?_
              rintro e w3 ⟨⟨a3, n3, cap3, rfl, hr3⟩, hB3⟩
              have hal := addL_res hr3.sl.len hr2.sl.len
              obtain ⟨_, _, _, hB3', _⟩ := box3 hB3
              have y2 := bcell hB3' c2
              have hfin : Hid (joinL lk (slp fr to st (p :: l.drop (k + 1))) = joinL (addL lk ⟨p.a, p.f, to - fr⟩) (slp fr to (st + p.n) (l.drop (k + 1)))) := slj_hole hxy hHa.out (by omega)
              clear hxy
              go_wp2
              go_roundw
              case rel => exact ⟨k + 1, st + p.n, a3, n3, cap3, _, by omega, by go_num, by go_num, by omega, by omega, rfl, by omega, hr3.mono (by simp; omega), by show _ = _; rw [hI.out, hd.out]; exact hfin.out, chain hB hB3'⟩
              case measure => simp [intOf]; omega
        · by_cases hx : fr < st
          · by_cases hy : st + p.n < to
            · go_wp2_with fail
              refine (spec_l2Add a2 n2 cap2 lk ⟨p.a, p.f, (st + p.n) - st⟩ _ (hr2.sl.alloc _) (by omega) hr2.arg).mono ?_
              rintro e w3 ⟨⟨a3, n3, cap3, rfl, hr3⟩, hB3⟩
              have hal := addL_res hr3.sl.len hr2.sl.len
              obtain ⟨_, _, _, hB3', _⟩ := box3 hB3
              have y2 := bcell hB3' c2
              have hfin : Hid (joinL lk (slp fr to st (p :: l.drop (k + 1))) = joinL (addL lk ⟨p.a, p.f, (st + p.n) - st⟩) (slp fr to (st + p.n) (l.drop (k + 1)))) := slj_ext hxy hpa (by omega) (by omega)
              clear hxy
              go_wp2
              go_roundw
              case rel => exact ⟨k + 1, st + p.n, a3, n3, cap3, _, by omega, by go_num, by go_num, by omega, by omega, rfl, by omega, hr3.mono (by simp; omega), by show _ = _; rw [hI.out, hd.out]; exact hfin.out, chain hB hB3'⟩
              case measure => simp [intOf]; omega
            · go_wp2_with fail
              refine (spec_l2Add a2 n2 cap2 lk ⟨p.a, p.f, to - st⟩ _ (hr2.sl.alloc _) (by omega) hr2.arg).mono ?_
              rintro e w3 ⟨⟨a3, n3, cap3, rfl, hr3⟩, hB3⟩
              have hal := addL_res hr3.sl.len hr2.sl.len
              obtain ⟨_, _, _, hB3', _⟩ := box3 hB3
              have y2 := bcell hB3' c2
              have hfin : Hid (joinL lk (slp fr to st (p :: l.drop (k + 1))) = joinL (addL lk ⟨p.a, p.f, to - st⟩) (slp fr to (st + p.n) (l.drop (k + 1)))) := slj_ext hxy hpa (by omega) (by omega)
              clear hxy
              go_wp2
              go_roundw
              case rel => exact ⟨k + 1, st + p.n, a3, n3, cap3, _, by omega, by go_num, by go_num, by omega, by omega, rfl, by omega, hr3.mono (by simp; omega), by show _ = _; rw [hI.out, hd.out]; exact hfin.out, chain hB hB3'⟩
              case measure => simp [intOf]; omega
          · by_cases hy : st + p.n < to
            · go_wp2_with fail
              refine (spec_l2Add a2 n2 cap2 lk ⟨p.a, p.f + fr - st, (st + p.n) - fr⟩ _ (hr2.sl.alloc _) (by omega) hr2.arg).mono ?_
              rintro e w3 ⟨⟨a3, n3, cap3, rfl, hr3⟩, hB3⟩
              have hal := addL_res hr3.sl.len hr2.sl.len
              obtain ⟨_, _, _, hB3', _⟩ := box3 hB3
              have y2 := bcell hB3' c2
              have hfin : Hid (joinL lk (slp fr to st (p :: l.drop (k + 1))) = joinL (addL lk ⟨p.a, p.f + fr - st, (st + p.n) - fr⟩) (slp fr to (st + p.n) (l.drop (k + 1)))) := slj_ext hxy hpa (by omega) (by omega)
              clear hxy
              go_wp2
              go_roundw
              case rel => exact ⟨k + 1, st + p.n, a3, n3, cap3, _, by omega, by go_num, by go_num, by omega, by omega, rfl, by omega, hr3.mono (by simp; omega), by show _ = _; rw [hI.out, hd.out]; exact hfin.out, chain hB hB3'⟩
              case measure => simp [intOf]; omega
            · go_wp2_with fail
              refine (spec_l2Add a2 n2 cap2 lk ⟨p.a, p.f + fr - st, to - fr⟩ _ (hr2.sl.alloc _) (by omega) hr2.arg).mono ?_
              rintro e w3 ⟨⟨a3, n3, cap3, rfl, hr3⟩, hB3⟩
              have hal := addL_res hr3.sl.len hr2.sl.len
              obtain ⟨_, _, _, hB3', _⟩ := box3 hB3
              have y2 := bcell hB3' c2
              have hfin : Hid (joinL lk (slp fr to st (p :: l.drop (k + 1))) = joinL (addL lk ⟨p.a, p.f + fr - st, to - fr⟩) (slp fr to (st + p.n) (l.drop (k + 1)))) := slj_ext hxy hpa (by omega) (by omega)
              clear hxy
              go_wp2
              go_roundw
              case rel => exact ⟨k + 1, st + p.n, a3, n3, cap3, _, by omega, by go_num, by go_num, by omega, by omega, rfl, by omega, hr3.mono (by simp; omega), by show _ = _; rw [hI.out, hd.out]; exact hfin.out, chain hB hB3'⟩
              case measure => simp [intOf]; omega
      · by_cases hx : fr < st
        all_goals by_cases hy : st + p.n < to
        all_goals try (exfalso; omega)
        all_goals
          go_wp2
          go_roundw
          case rel => exact ⟨k + 1, st + p.n, a2, n2, cap2, lk, by omega, by go_num, by go_num, by omega, by omega, rfl, by omega, hr2, by show _ = _; rw [hI.out, hd.out, slp_no hxy], hB⟩
          case measure => simp [intOf]; omega
    · obtain rfl : k = n := by omega
      go_wp2
      go_returns
      go_light
      rw [List.drop_of_length_le (Nat.le_of_eq hlen.out)] at hI
      rw [hI.out]
      exact ⟨⟨a2, n2, cap2, rfl, hn2, hr2⟩, hB⟩
end Go.Proofs.Ytbjejnkeekndbaa
namespace Go.Proofs.Ytbjejnkeekndbaa
open Go.RowKit Go.BigFrame

theorem holes_of {l : List Pt} (h : partsOkB l = true) : Holes l := by
  intro p hp
  refine ⟨pos_of h p hp, ?_⟩
  have hk := (partsOkB_all h).2.1 p hp
  unfold partOkB at hk
  split at hk
  · rename_i ha
    simp at ha hk
    exact .inl ⟨ha, hk.1⟩
  · simp at hk
    exact .inr (by omega)

def sliceS (l : List Pt) (fr to : Int) : Option (List Pt) :=
  if partsOkB l = true ∧ 0 ≤ fr ∧ fr ≤ sumN l ∧ fr ≤ to ∧ to ≤ sumN l then some (joinL [] (slp fr to 0 l)) else none

set_option maxHeartbeats 1000000 in
set_option maxRecDepth 100000 in
theorem spec_Slice (a : Option Addr) (n cap : Nat) (l : List Pt) (fr to : Int) (w : World) (h : PtsAt w a n l) (hn : n ≤ 4194304) :
    Calls Try.prog 33 #[.slice a n cap, .int .i64 fr, .int .i64 to] w fun e w' => RetPts w.heap.size e w' (sliceS l fr to) ∧ Below w.heap.size w w' := by
  cases hok : partsOkB l
  · have hf : sliceS l fr to = none := by simp [sliceS, hok]
    rw [hf]
    go_enter Try.func33, Try.ntmps33
    go_wp2_with fail
    refine (spec_PartsOk a n cap l _ h hn).mono ?_
    rintro e w1 ⟨rfl, hB1⟩
    rw [hok]
    go_wp2
    go_returns
    exact ⟨rfl, hB1⟩
  · have hs : Hid (∀ k, 0 ≤ sumN (l.take k) ∧ sumN (l.take k) ≤ 100) := sums_of hok
    have h100 := (partsOkB_all hok).2.2
    have hnn := sumN_nonneg l (partsOkB_all hok).2.1
    have h16 : n ≤ 16 := by rw [← h.len]; exact (partsOkB_all hok).1
    cases hr1 : (decide (0 ≤ fr) && decide (fr ≤ sumN l))
    · have hf : sliceS l fr to = none := by
        simp only [sliceS, hok, true_and]
        rw [if_neg]
        intro hc
        simp [hc.1, hc.2.1] at hr1
      rw [hf]
      clear hf
      go_enter Try.func33, Try.ntmps33
      go_wp2_with fail
      refine (spec_PartsOk a n cap l _ h hn).mono ?_
      rintro e w1 ⟨rfl, hB1⟩
      rw [hok]
      go_wp2_with fail
      refine (spec_l2Len a n cap l _ (h.below hB1) hn hs.out).mono ?_
      rintro e w2 ⟨rfl, rfl⟩
      go_wp2_with fail
      refine (spec_l1In _ _ _ _).mono ?_
      rintro e w2 ⟨rfl, rfl⟩
      rw [hr1]
      go_wp2
      go_returns
      exact ⟨rfl, hB1⟩
    · cases hr2 : (decide (fr ≤ to) && decide (to ≤ sumN l))
      · have hf : sliceS l fr to = none := by
          simp only [sliceS, hok, true_and]
          rw [if_neg]
          intro hc
          simp [hc.2.2.1, hc.2.2.2] at hr2
        rw [hf]
        clear hf
        go_enter Try.func33, Try.ntmps33
        go_wp2_with fail
        refine (spec_PartsOk a n cap l _ h hn).mono ?_
        rintro e w1 ⟨rfl, hB1⟩
        rw [hok]
        go_wp2_with fail
        refine (spec_l2Len a n cap l _ (h.below hB1) hn hs.out).mono ?_
        rintro e w2 ⟨rfl, rfl⟩
        go_wp2_with fail
        refine (spec_l1In _ _ _ _).mono ?_
        rintro e w2 ⟨rfl, rfl⟩
        rw [hr1]
        go_wp2_with fail
        refine (spec_l2Len a n cap l _ (h.below hB1) hn hs.out).mono ?_
        rintro e w2 ⟨rfl, rfl⟩
        go_wp2_with fail
        refine (spec_l1In _ _ _ _).mono ?_
        rintro e w2 ⟨rfl, rfl⟩
        rw [hr2]
        go_wp2
        go_returns
        exact ⟨rfl, hB1⟩
      · have q1 := hr1
        have q2 := hr2
        simp at q1 q2
        have hf : sliceS l fr to = some (joinL [] (slp fr to 0 l)) := by simp [sliceS, hok, q1, q2]
        rw [hf]
        clear hf
        go_enter Try.func33, Try.ntmps33
        go_wp2_with fail
        refine (spec_PartsOk a n cap l _ h hn).mono ?_
        rintro e w1 ⟨rfl, hB1⟩
        rw [hok]
        go_wp2_with fail
        refine (spec_l2Len a n cap l _ (h.below hB1) hn hs.out).mono ?_
        rintro e w2 ⟨rfl, rfl⟩
        go_wp2_with fail
        refine (spec_l1In _ _ _ _).mono ?_
        rintro e w2 ⟨rfl, rfl⟩
        rw [hr1]
        go_wp2_with fail
        refine (spec_l2Len a n cap l _ (h.below hB1) hn hs.out).mono ?_
        rintro e w2 ⟨rfl, rfl⟩
        go_wp2_with fail
        refine (spec_l1In _ _ _ _).mono ?_
        rintro e w2 ⟨rfl, rfl⟩
        rw [hr2]
        go_wp2_with fail
        refine (spec_l2Slice a n cap l fr to _ (h.below hB1) h16 (holes_of hok) (by omega) (by omega) (by omega) (by omega)).mono ?_
        rintro e w3 ⟨⟨a3, n3, cap3, rfl, _, hr3⟩, hB3⟩
        replace hr3 := hr3.mono hB1.size
        replace hB3 := chain hB1 hB3
        go_wp2
        go_returns
        exact ⟨⟨a3, n3, cap3, rfl, hr3⟩, hB3⟩

def joinedS (l m : List Pt) : Option (List Pt) := if partsOkB l = true ∧ partsOkB m = true ∧ partsOkB (joinL l m) = true then some (joinL l m) else none

set_option maxHeartbeats 1000000 in
set_option maxRecDepth 100000 in
theorem spec_Joined (a : Option Addr) (n cap : Nat) (l : List Pt) (a' : Option Addr) (n' cap' : Nat) (m : List Pt) (w : World) (h : PtsAt w a n l) (hn : n ≤ 1100000) (ha : ArgOk a cap) (h' : PtsAt w a' n' m) (hn' : n' ≤ 1100000) :
    Calls Try.prog 43 #[.slice a n cap, .slice a' n' cap'] w fun e w' => RetPts w.heap.size e w' (joinedS l m) ∧ Below w.heap.size w w' := by
  cases hok : partsOkB l
  · have hf : joinedS l m = none := by simp [joinedS, hok]
    rw [hf]
    go_enter Try.func43, Try.ntmps43
    go_wp2_with fail
    refine (spec_l2Join a n cap l a' n' cap' m _ h hn ha h' hn').mono ?_
    rintro e w1 ⟨⟨a1, n1, cap1, rfl, hn1, hr1⟩, hB1⟩
    go_wp2_with fail
    refine (spec_PartsOk a n cap l _ (h.below hB1) (by omega)).mono ?_
    rintro e w2 ⟨rfl, hB2⟩
    rw [hok]
    replace hB2 := chain hB1 hB2
    go_wp2
    go_returns
    exact ⟨rfl, hB2⟩
  · cases hok' : partsOkB m
    · have hf : joinedS l m = none := by simp [joinedS, hok']
      rw [hf]
      go_enter Try.func43, Try.ntmps43
      go_wp2_with fail
      refine (spec_l2Join a n cap l a' n' cap' m _ h hn ha h' hn').mono ?_
      rintro e w1 ⟨⟨a1, n1, cap1, rfl, hn1, hr1⟩, hB1⟩
      go_wp2_with fail
      refine (spec_PartsOk a n cap l _ (h.below hB1) (by omega)).mono ?_
      rintro e w2 ⟨rfl, hB2⟩
      rw [hok]
      replace hB2 := chain hB1 hB2
      go_wp2_with fail
      refine (spec_PartsOk a' n' cap' m _ (h'.below hB2) (by omega)).mono ?_
      rintro e w3 ⟨rfl, hB3⟩
      rw [hok']
      replace hB3 := chain hB2 hB3
      go_wp2
      go_returns
      exact ⟨rfl, hB3⟩
    · cases hok3 : partsOkB (joinL l m)
      all_goals
        go_enter Try.func43, Try.ntmps43
        go_wp2_with fail
        refine (spec_l2Join a n cap l a' n' cap' m _ h hn ha h' hn').mono ?_
        rintro e w1 ⟨⟨a1, n1, cap1, rfl, hn1, hr1⟩, hB1⟩
        go_wp2_with fail
        refine (spec_PartsOk a n cap l _ (h.below hB1) (by omega)).mono ?_
        rintro e w2 ⟨rfl, hB2'⟩
        rw [hok]
        have hr2 := hr1.below hB2'
        have hB2 := chain hB1 hB2'
        go_wp2_with fail
        refine (spec_PartsOk a' n' cap' m _ (h'.below hB2) (by omega)).mono ?_
        rintro e w3 ⟨rfl, hB3'⟩
        rw [hok']
        have hr3 := hr2.below hB3'
        have hB3 := chain hB2 hB3'
        go_wp2_with fail
        refine (spec_PartsOk a1 n1 cap1 (joinL l m) _ hr3.sl (by omega)).mono ?_
        rintro e w4 ⟨rfl, hB4'⟩
        rw [hok3]
        have hr4 := hr3.below hB4'
        have hB4 := chain hB3 hB4'
        go_wp2
        go_returns
      · have hf : joinedS l m = none := by simp [joinedS, hok3]
        rw [hf]
        exact ⟨rfl, hB4⟩
      · have hf : joinedS l m = some (joinL l m) := by simp [joinedS, hok, hok', hok3]
        rw [hf]
        exact ⟨⟨a1, n1, cap1, rfl, hr4⟩, hB4⟩
end Go.Proofs.Ytbjejnkeekndbaa
namespace Go.Proofs.Ytbjejnkeekndbaa
open Go.RowKit Go.BigFrame

/-- The row that a slice of the call's own lies in. -/
def rowB : Option Addr → Option Nat
  | none => none
  | some ad => some ad.block

theorem SlAt.grownO {α : Type} {cs : α → List Value} {sz : Nat} {w w' : World} {a : Option Addr} {n : Nat} {l : List α} {row : Option Nat} (h : SlAt cs sz w a n l) (hg : w.grownBy w' row) (hr : ∀ ad, a = some ad → some ad.block ≠ row) : SlAt cs sz w' a n l :=
  ⟨h.len, fun i x hx => by
    obtain ⟨b, o, ha, hc⟩ := h.cell i x hx
    exact ⟨b, o, ha, fun j v hv => hg.cell (hc j v hv) (hr ⟨b, o, none⟩ ha)⟩⟩
theorem below_grownO {w w1 w' : World} {row : Option Nat} (hb : Below w.heap.size w w1) (hg : w1.grownBy w' row) (hn : ∀ k, row = some k → w.heap.size ≤ k) : Below w.heap.size w w' := hb.grown hg hb.size hn
theorem rowB_ge {a : Option Addr} {B : Nat} (h : ∀ ad, a = some ad → B ≤ ad.block) : ∀ k, rowB a = some k → B ≤ k := by
  intro k hk
  cases a with
  | none => cases hk
  | some ad => have := h ad rfl; simp [rowB] at hk; omega
theorem rowB_ne {a a' : Option Addr} {B : Nat} (h : ∀ ad, a = some ad → ad.block < B) (h' : ∀ ad, a' = some ad → B ≤ ad.block) : ∀ ad, a = some ad → some ad.block ≠ rowB a' := by
  intro ad had he
  have := h ad had
  have := rowB_ge h' ad.block he.symm
  omega
end Go.Proofs.Ytbjejnkeekndbaa
namespace Go.Proofs.Ytbjejnkeekndbaa
open Go.RowKit

def RJ (r : RSt) (J : List Pt) : Prop := (r.ov = false → r.L = J ∧ r.s ≤ 100 ∧ J.length ≤ 16) ∧ (r.ov = true → 100 < r.s ∨ 16 < J.length)

theorem addL_ge (l : List Pt) (p : Pt) : l.length ≤ (addL l p).length := by
  unfold addL
  split
  · rename_i h
    rw [List.getLast?_eq_none_iff] at h
    simp [h]
  · rename_i q h
    split
    · have : 0 < l.length := List.length_pos_of_mem (List.mem_of_getLast? h)
      simp only [List.length_append, List.length_dropLast, List.length_cons, List.length_nil]; omega
    · simp

theorem wrap_small {x : Int} (h0 : 0 ≤ x) (h1 : x ≤ 1000000) : wrap64 x = x := by unfold wrap64; omega

theorem rj_step {r : RSt} {J : List Pt} {p : Pt} (hi : RInv r) (hp : 1 ≤ p.n) (h : RJ r J) : RJ (radd r p) (addL J p) := by
  have hge := addL_ge J p
  have hs := radd_s r p
  cases hov : r.ov
  · obtain ⟨hL, h100, h16⟩ := h.1 hov
    subst hL
    by_cases hA : 100 < r.s + p.n
    · have e : radd r p = ⟨r.L, r.s + p.n, true⟩ := by simp [radd, hA]
      rw [e]
      exact ⟨fun h => (by cases h), fun _ => .inl hA⟩
    · cases hl : r.L.getLast? with
      | none =>
        have e : radd r p = ⟨[p], r.s + p.n, r.ov⟩ := by simp [radd, hA, hl]
        have e2 : addL r.L p = [p] := by simp [addL, hl]
        rw [e, e2, hov]
        exact ⟨fun _ => ⟨rfl, (by show r.s + p.n ≤ 100; omega), (by simp)⟩, fun h => (by cases h)⟩
      | some q =>
        have hqm := hi.2 q (List.mem_of_getLast? hl)
        cases hg : goesOnB q p
        · have e2 : addL r.L p = r.L ++ [p] := by simp [addL, hl, hg]
          by_cases hf : r.L.length < 16
          · rw [radd_app (by omega) hl hg hf, e2, hov]
            exact ⟨fun _ => ⟨rfl, (by show r.s + p.n ≤ 100; omega), (by simp; omega)⟩, fun h => (by cases h)⟩
          · rw [radd_full (by omega) hl hg hf, e2]
            exact ⟨fun h => (by cases h), fun _ => .inr (by simp; omega)⟩
        · have e2 : addL r.L p = r.L.dropLast ++ [⟨q.a, q.f, q.n + p.n⟩] := by
            simp only [addL, hl, hg, if_true]
            rw [wrap_small (by omega) (by omega)]
          rw [radd_merge (by omega) hl hg, e2, hov]
          refine ⟨fun _ => ⟨rfl, (by show r.s + p.n ≤ 100; omega), ?_⟩, fun h => (by cases h)⟩
          simp only [List.length_append, List.length_dropLast, List.length_cons, List.length_nil]; omega
  · have hov' : (radd r p).ov = true := by
      unfold radd
      split
      · rfl
      · split
        · exact hov
        · split
          · exact hov
          · split
            · exact hov
            · rfl
    refine ⟨fun h => (by rw [hov'] at h; cases h), fun _ => ?_⟩
    rw [hs]
    rcases h.2 hov with h | h
    · exact .inl (by omega)
    · exact .inr (by omega)

theorem rj_all (ps : List Pt) : ∀ (r : RSt) (J : List Pt), RInv r → (∀ p ∈ ps, 1 ≤ p.n) → RJ r J → RJ (rall r ps) (joinL J ps) ∧ (rall r ps).s = r.s + sumN ps := by
  induction ps with
  | nil => intro r J _ _ h; exact ⟨h, by simp [rall, sumN]⟩
  | cons p t ih =>
    intro r J hi hp h
    have hp1 := hp p (by simp)
    have := ih (radd r p) (addL J p) (radd_inv hi hp1) (fun q hq => hp q (by simp [hq])) (rj_step hi hp1 h)
    refine ⟨this.1, ?_⟩
    have e := this.2
    rw [radd_s] at e
    show (rall (radd r p) t).s = _
    rw [e]; simp [sumN]; omega

theorem outc_row {ps : List Pt} (h : ∀ p ∈ ps, 1 ≤ p.n) : outc (rowOf ps) = if sumN ps ≤ 100 ∧ (joinL [] ps).length ≤ 16 then some (joinL [] ps) else none := by
  obtain ⟨h1, h2⟩ := rj_all ps ⟨[], 0, false⟩ [] inv_new h ⟨fun _ => ⟨rfl, by simp, by simp⟩, fun h => (by cases h)⟩
  simp only [Int.zero_add] at h2
  unfold outc rowOf
  cases hov : (rall ⟨[], 0, false⟩ ps).ov
  · obtain ⟨e1, e2, e3⟩ := h1.1 hov
    simp only [Bool.false_eq_true, if_false]
    rw [if_pos ⟨by omega, e3⟩, e1]
  · have := h1.2 hov
    simp only [if_true]
    rw [if_neg (by omega)]

theorem cutP_bd {fr to st : Int} {p : Pt} (h : max (fr - st) 0 < min (to - st) p.n) : 1 ≤ (cutP p (max (fr - st) 0) (min (to - st) p.n)).n ∧ (cutP p (max (fr - st) 0) (min (to - st) p.n)).n ≤ p.n := by
  rw [cutP_n]; omega

theorem slp_bd (fr to : Int) (l : List Pt) : ∀ st, (∀ p ∈ l, 1 ≤ p.n) → (∀ p ∈ slp fr to st l, 1 ≤ p.n) ∧ sumN (slp fr to st l) ≤ sumN l ∧ (slp fr to st l).length ≤ l.length ∧ 0 ≤ sumN l := by
  induction l with
  | nil => intro st _; simp [slp, sumN]
  | cons p r ih =>
    intro st h
    have hp := h p (by simp)
    obtain ⟨h1, h2, h3, h4⟩ := ih (st + p.n) (fun q hq => h q (by simp [hq]))
    by_cases hx : max (fr - st) 0 < min (to - st) p.n
    · have hb := cutP_bd hx
      rw [slp_yes rfl rfl hx]
      refine ⟨?_, by simp only [sumN]; omega, by simp; omega, by simp only [sumN]; omega⟩
      intro q hq
      rcases List.mem_cons.1 hq with rfl | hq
      · exact hb.1
      · exact h1 q hq
    · rw [slp_no hx]
      exact ⟨h1, by simp only [sumN]; omega, by simp; omega, by simp only [sumN]; omega⟩

theorem joinL_len (m : List Pt) : ∀ l, (joinL l m).length ≤ l.length + m.length := by
  induction m with
  | nil => intro l; simp [joinL]
  | cons p t ih =>
    intro l
    have h1 := ih (addL l p)
    have h2 := addL_len l p
    show (joinL (addL l p) t).length ≤ _
    simp only [List.length_cons]; omega

theorem slice_eq (l : List Pt) (fr to : Int) : (if partsOkB l = true ∧ 0 ≤ fr ∧ fr ≤ sumN l ∧ fr ≤ to ∧ to ≤ sumN l then outc (rowOf (slp fr to 0 l)) else none) = if partsOkB l = true ∧ 0 ≤ fr ∧ fr ≤ sumN l ∧ fr ≤ to ∧ to ≤ sumN l then some (joinL [] (slp fr to 0 l)) else none := by
  split
  · rename_i h
    have hp := fun p hp => (pos_of h.1 p hp).1
    obtain ⟨b1, b2, b3, _⟩ := slp_bd fr to l 0 hp
    obtain ⟨c1, _, c3⟩ := partsOkB_all h.1
    have hj := joinL_len (slp fr to 0 l) []
    rw [outc_row b1, if_pos ⟨by omega, by simp at hj; omega⟩]
  · rfl
end Go.Proofs.Ytbjejnkeekndbaa
namespace Go.Proofs.Ytbjejnkeekndbaa
open Go.RowKit

theorem ret_out {B : Nat} {e : Ending} {w' : World} {oo : Option (List Pt)} (h : RetPts B e w' oo) : ∃ a n cap, e = .returned (.tuple #[.slice a n cap, .bool oo.isSome]) ∧ ResAt Pt.cs 3 119 w' B a n cap (oo.getD []) := by
  cases oo with
  | none => exact ⟨none, 0, 0, h, res_nil⟩
  | some L => obtain ⟨a, n, cap, he, hr⟩ := h; exact ⟨a, n, cap, he, hr⟩

theorem outc_len {ps : List Pt} (h : ∀ p ∈ ps, 1 ≤ p.n) : ((outc (rowOf ps)).getD []).length ≤ 16 := by
  rw [outc_row h]
  split
  · rename_i h; exact h.2
  · simp

theorem OwnAt.arg {α : Type} {cs : α → List Value} {sz : Nat} {t : TypeId} {w : World} {b n : Nat} {l : List α} (_ : OwnAt cs sz t w b n l) (cap : Nat) : ArgOk (some ⟨b, 0, none⟩) cap := arg_own b cap
theorem OwnAt.blkLt {α : Type} {cs : α → List Value} {sz : Nat} {t : TypeId} {w : World} {b n : Nat} {l : List α} (h : OwnAt cs sz t w b n l) : ∀ ad, some (⟨b, 0, none⟩ : Addr) = some ad → ad.block < w.heap.size := fun ad had => by
  cases had; exact h.lt
theorem ResAt.grownO {α : Type} {cs : α → List Value} {sz : Nat} {t : TypeId} {w w' : World} {B n cap : Nat} {a : Option Addr} {l : List α} {row : Option Nat} (h : ResAt cs sz t w B a n cap l) (hg : w.grownBy w' row) (hr : ∀ ad, a = some ad → some ad.block ≠ row) : ResAt cs sz t w' B a n cap l := by
  refine ⟨h.sl.grownO hg hr, ?_⟩
  rcases h.own with h0 | ⟨b, ha, hB, h1, h2, c, hc, q⟩
  · exact .inl h0
  · refine .inr ⟨b, ha, hB, h1, h2, c, ?_, q⟩
    show w'.heap[b]? = _
    rw [hg.block b hc.lt (hr _ ha)]; exact hc
theorem sliceO_len (l : List Pt) (fr to : Int) : ((sliceO l fr to).getD []).length ≤ 16 := by
  unfold sliceO
  split
  · rename_i h
    exact outc_len (slp_bd fr to l 0 (fun p hp => (pos_of h.1 p hp).1)).1
  · simp
end Go.Proofs.Ytbjejnkeekndbaa
