/- The laws' copies of lists of counts; how the laws' arguments, as they are read, lie in memory: owners and lists of counts. The laws' sizes, copies and comparisons of pools. The laws' copies and comparisons of pools. -/
import Derived.Lib.SmallJoins
import Derived.Test.YtigldeccfpkdmaaGreatDoorCSuperTextx09
import Derived.Test.YtigldeccfpkdmaaGreatDoorCSuperTextx17
import Derived.Test.YtigldeccfpkdmaaGreatDoorProg
import Derived.Test.YtigldeccfpkdmaaGreatDoorCSuperTextx16
namespace Go.Proofs.YtigldeccfpkdmaaGreatDoor
open Go.ChangeShapes Go.WideShapes Go.ChangeAt Go.RowKit Go.Deep Go.BigFrame
set_option maxHeartbeats 1000000 in
theorem laws_toCountedS (a : Option Addr) (n cap : Nat) (l : List Ct) (w : World) (h : CtsAt w a n l) (hn : n ≤ 4194304) :
    Calls Tryz.prog 59 #[.slice a n cap] w fun e w' => e = .returned (.slice (some ⟨w.heap.size, 0, none⟩) n n) ∧ OwnAt Ct.cs 4 134 w' w.heap.size n l ∧ Below w.heap.size w w' := by
  have hlen' : Hid (l.length = n) := h.len
  have hinfo : (Tryz.prog.info? 134).map (fun i => (i.zero, i.size, i.bytes)) = some (some (.agg #[.int .i64 0, .int .i64 0, .string .empty, .int .i64 0]), 4, 40) := by kernel_rfl
  obtain ⟨i0, hi, hz0, hz1, hz2⟩ := info_parts hinfo
  have hmk : ∀ u : World, (Instr.makeSlice 24 (.int .i64 (n : Int)) (.int .i64 (n : Int))).run Tryz.prog u =
      .ok (.slice (some ⟨u.heap.size, 0, none⟩) n n) (u.alloc (.cells (madeCells #[.int .i64 0, .int .i64 0, .string .empty, .int .i64 0] (n * 4)) 134)) := fun u => by
    have hm := run_make (P := Tryz.prog) u 24 134 i0 (.agg #[.int .i64 0, .int .i64 0, .string .empty, .int .i64 0]) Tryz.underlying24 hi hz0 .i64 .i64 (n : Int) (n : Int) (by omega) (Int.le_refl _) (by rw [hz2]; omega) (by omega)
    simpa [hz1, Value.cells] using hm
  clear hinfo hi hz0 hz1 hz2
  go_enter Tryz.func59, Tryz.ntmps59
  go_wp2_with fail
  go_loopw [4] (fun ix wr => ∃ (k : Nat) (c : Array Value), k ≤ n ∧ ix = .int .i64 k ∧ Blk wr w.heap.size c 134 ∧ Hid (c.size = n * 4) ∧ Hid (∀ i p, i < k → l[i]? = some p → c[i * 4]? = some (.int .i64 p.o.a) ∧ c[i * 4 + 1]? = some (.int .i64 p.o.v) ∧ c[i * 4 + 2]? = some (.string p.o.f) ∧ c[i * 4 + 3]? = some (.int .i64 p.n)) ∧ Below w.heap.size w wr) (fun ix _ => n - (intOf ix).toNat)
  case atStart => exact ⟨0, _, Nat.zero_le _, rfl, Blk.new _ _ _, size_madeCells _ _, fun i p hi => by omega, (Below.refl _ _).alloc (Nat.le_refl _) _⟩
  case round =>
    obtain ⟨k, c, hk, rfl, hblk, hcs, hcc, hB⟩ := hrel
    by_cases hlt : k < n
    · obtain ⟨b, o, p, rfl, hp, c0, c1, c2, c3⟩ := cts_at (h.below hB) hlt
      have hp' : Hid (l[k]? = some p) := hp
      clear hp hmk
      go_wp2_with fail
      refine (laws_toCounted p _).mono ?_
      rintro e w1 ⟨rfl, hB1⟩
      have hb1 := hblk.below hB1
      have f0 := hb1.frozen (k * 4)
      have f1 := hb1.frozen (k * 4 + 1)
      have f2 := hb1.frozen (k * 4 + 2)
      have f3 := hb1.frozen (k * 4 + 3)
      have hsz := hB.size
      obtain ⟨v0, y0⟩ := hb1.has (i := k * 4) (by rw [hcs.out]; omega)
      obtain ⟨v1, y1⟩ := hb1.has (i := k * 4 + 1) (by rw [hcs.out]; omega)
      obtain ⟨v2, y2⟩ := hb1.has (i := k * 4 + 2) (by rw [hcs.out]; omega)
      obtain ⟨v3, y3⟩ := hb1.has (i := k * 4 + 3) (by rw [hcs.out]; omega)
      go_wp2
      go_roundw
      case rel =>
        refine ⟨k + 1, _, by omega, by go_num, (((hb1.set _ _).set _ _).set _ _).set _ _, by show _ = _; simp [hcs.out], ?_, ?_⟩
        · intro i q hi hq
          have hcs' := hcs.out
          by_cases hik : i = k
          · subst hik
            obtain rfl : p = q := by rw [hp'.out] at hq; exact Option.some.inj hq
            refine ⟨?_, ?_, ?_, ?_⟩
            all_goals (simp [Array.getElem?_setIfInBounds]; omega)
          · obtain ⟨r0, r1, r2, r3⟩ := hcc.out i q (by omega) hq
            refine ⟨?_, ?_, ?_, ?_⟩
            all_goals (rw [Array.getElem?_setIfInBounds_ne (by omega), Array.getElem?_setIfInBounds_ne (by omega), Array.getElem?_setIfInBounds_ne (by omega), Array.getElem?_setIfInBounds_ne (by omega)]; assumption)
        · exact ((((chain hB hB1).setCell (by simp) _).setCell (by simp) _).setCell (by simp) _).setCell (by simp) _
      case measure => simp [intOf]; omega
    · obtain rfl : k = n := by omega
      go_wp2
      go_returns
      go_light
      refine ⟨rfl, ⟨hlen'.out, c, hblk, Nat.le_of_eq hcs.out.symm, ?_⟩, hB⟩
      intro i x hx j v hv
      have hi : i < k := by have := (List.getElem?_eq_some_iff.1 hx).1; rw [hlen'.out] at this; exact this
      obtain ⟨r0, r1, r2, r3⟩ := hcc.out i x hi hx
      match j, hv with
      | 0, hv => obtain rfl := Option.some.inj hv; exact r0
      | 1, hv => obtain rfl := Option.some.inj hv; exact r1
      | 2, hv => obtain rfl := Option.some.inj hv; exact r2
      | 3, hv => obtain rfl := Option.some.inj hv; exact r3
      | j + 4, hv => simp [Ct.cs] at hv
theorem cellsC : Tryz.prog.cellsOf 167 = 4 := by kernel_rfl
theorem cellsO : Tryz.prog.cellsOf 165 = 3 := by kernel_rfl
set_option maxRecDepth 100000 in
/-- An argument that is a list of counts. -/
theorem open_cts {H : Type} {enc : TypeId × Value → H} {w : World} {spare : Nat → Bool} {held : Bool} {a : Option Addr} {n cap : Nat} {d : DataW H} {p : List MemPlace}
    (h : DataW.Trod enc Tryz.prog w 0 spare held 34 (.slice a n cap) d p) : n ≤ maxLen ∧ ∃ l : List Ct, CtsAt w a n l ∧ ∀ e ∈ l, e.o.f.size ≤ maxLen := by
  obtain ⟨fuel, hf⟩ := h
  rcases open_slice Tryz.underlying34 hf with ⟨hcs, _⟩ | ⟨ad, len, cap', m, n', D, Pl, hcs, _, hl, hm, hmm, _, hel⟩
  · simp [Value.cells] at hcs
    obtain ⟨rfl, rfl, rfl⟩ := hcs
    exact ⟨Nat.zero_le _, [], ⟨rfl, fun i x hx => by simp at hx⟩, by simp⟩
  · simp [Value.cells] at hcs
    obtain ⟨rfl, rfl, rfl⟩ := hcs
    have hle : n ≤ m := by rw [hmm]; split <;> omega
    refine ⟨Nat.le_trans hl hm, ?_⟩
    have hone : ∀ i, i < n → ∃ q : Ct, q.o.f.size ≤ maxLen ∧ ∀ j v, q.cs[j]? = some v → w.cell? (ad.add (i * 4 + j)) = some v := by
      intro i hi
      obtain ⟨cs', h1, h2⟩ := hel i (by omega)
      rw [cellsC] at h1
      obtain ⟨_, hlen, hcell⟩ := World.cells?_some h1
      obtain ⟨y0, y1, _, _, _, t0, t1⟩ := trod_struct2 Tryz.underlying167 h2
      obtain ⟨z0, e0, _, _⟩ := DataW.trod_int Tryz.underlying2 t1
      obtain ⟨u0, u1, u2, _, _, _, s0, s1, s2⟩ := trod_struct3 Tryz.underlying165 t0
      obtain ⟨z1, e1, _, _⟩ := DataW.trod_int Tryz.underlying2 s0
      obtain ⟨z2, e2, _, _⟩ := DataW.trod_int Tryz.underlying2 s1
      obtain ⟨z3, e3, _, hz⟩ := DataW.trod_string Tryz.underlying9 s2
      match cs', hlen with
      | [x0, x1, x2, x3], _ =>
        simp [c2, c9, cellsO] at e0 e1 e2 e3
        subst e0 e1 e2 e3
        refine ⟨⟨⟨z1, z2, z3⟩, z0⟩, hz, fun j v hv => ?_⟩
        have hj : j < 4 := by have := (List.getElem?_eq_some_iff.1 hv).1; simpa [Ct.cs] using this
        have := hcell j hj
        rw [Addr.add_add] at this
        rw [this]; exact hv
    have hinh : Inhabited Ct := ⟨⟨⟨0, 0, .empty⟩, 0⟩⟩
    obtain ⟨L, hL⟩ := choose_lt (α := Ct) (p := fun i q => q.o.f.size ≤ maxLen ∧ ∀ j v, q.cs[j]? = some v → w.cell? (ad.add (i * 4 + j)) = some v) hone
    refine ⟨(List.range n).map L, ⟨by simp, fun i x hx => ?_⟩, ?_⟩
    · have hi : i < n := by have := (List.getElem?_eq_some_iff.1 hx).1; simpa using this
      simp [hi] at hx
      subst hx
      have h00 := (hL 0 (by omega)).2 0 _ rfl
      obtain ⟨b, o, rfl⟩ := spotless h00 rfl
      exact ⟨b, o, rfl, fun j v hv => by have := (hL i hi).2 j v hv; rw [Addr.add_lit] at this; rw [Nat.add_assoc]; exact this⟩
    · intro e he
      obtain ⟨i, hi, rfl⟩ := List.mem_map.1 he
      exact (hL i (by simpa using hi)).1
end Go.Proofs.YtigldeccfpkdmaaGreatDoor
namespace Go.Proofs.YtigldeccfpkdmaaGreatDoor
open Go.RowKit Go.BigFrame
theorem VsAt.grown {B r : Nat} {w w' : World} {a : Option Addr} {n : Nat} {l : List Vo} (h : VsAt B w a n l) (hg : w.grownBy w' (some r)) (hr : r < B) : VsAt B w' a n l :=
  ⟨h.len, fun i x hx => by
    obtain ⟨b, o, pa, pn, pc, ha, c0, c1, c2, c3, hp, hh, hB, s2⟩ := h.cell i x hx
    exact ⟨b, o, pa, pn, pc, ha, hg.cell c0 (by simp; omega), hg.cell c1 (by simp; omega), hg.cell c2 (by simp; omega), hg.cell c3 (by simp; omega), hp.grown hg hr, hh, hB, s2.grown hg hr⟩⟩
/-- A pool's value, and what its slices hold. -/
def PoolAt (B : Nat) (w : World) (v : Value) (p : Po) : Prop :=
  ∃ ea en ec va vn vc ra rn rc la ln lc, v = .agg #[.int .i64 p.size, .int .i64 p.next, .slice ea en ec, .slice va vn vc, .slice ra rn rc, .slice la ln lc] ∧
    (ExsAt w ea en p.ex ∧ Hd B ea en ec ∧ Sf B w ea) ∧ (VsAt B w va vn p.vs ∧ Hd B va vn vc) ∧ (CtsAt w ra rn p.rf ∧ Hd B ra rn rc ∧ Sf B w ra) ∧ (CtsAt w la ln p.lt ∧ Hd B la ln lc ∧ Sf B w la)
theorem PoolAt.below {B : Nat} {w w' : World} {v : Value} {p : Po} (h : PoolAt B w v p) (hb : Below w.heap.size w w') : PoolAt B w' v p := by
  obtain ⟨ea, en, ec, va, vn, vc, ra, rn, rc, la, ln, lc, hv, ⟨h1, k1⟩, ⟨h2, k2⟩, ⟨h3, k3⟩, h4, k4⟩ := h
  exact ⟨ea, en, ec, va, vn, vc, ra, rn, rc, la, ln, lc, hv, ⟨h1.below hb, k1.1, k1.2.below hb⟩, ⟨h2.below hb, k2⟩, ⟨h3.below hb, k3.1, k3.2.below hb⟩, h4.below hb, k4.1, k4.2.below hb⟩
theorem PoolAt.mono {B B' : Nat} {w : World} {v : Value} {p : Po} (h : PoolAt B w v p) (hb : B' ≤ B) : PoolAt B' w v p := by
  obtain ⟨ea, en, ec, va, vn, vc, ra, rn, rc, la, ln, lc, hv, ⟨h1, k1⟩, ⟨h2, k2⟩, ⟨h3, k3⟩, h4, k4⟩ := h
  exact ⟨ea, en, ec, va, vn, vc, ra, rn, rc, la, ln, lc, hv, ⟨h1, k1.1.mono hb, k1.2.mono hb⟩, ⟨h2.mono hb, k2.mono hb⟩, ⟨h3, k3.1.mono hb, k3.2.mono hb⟩, h4, k4.1.mono hb, k4.2.mono hb⟩
/-- Lists and strings as long as memory has them, and within the budget. -/
def BigP (p : Po) : Prop := p.ex.length ≤ 9223372036854775807 ∧ Strs p.ex ∧ p.vs.length ≤ 9223372036854775807 ∧ BigV p.vs ∧ p.rf.length ≤ 9223372036854775807 ∧ StrC p.rf ∧ p.lt.length ≤ 9223372036854775807 ∧ StrC p.lt
def SmallP (p : Po) : Prop := Small p.ex.length p.ex ∧ SmallV p.vs.length p.vs ∧ SmallC p.rf.length p.rf ∧ SmallC p.lt.length p.lt
set_option maxHeartbeats 2000000 in
set_option maxRecDepth 100000 in
theorem laws_szPool (B : Nat) (v : Value) (p : Po) (w : World) (h : PoolAt B w v p) (hb : BigP p) :
    Calls Tryz.prog 14 #[v, .int .i64 1048576] w fun e w' => (∃ r : Int, e = .returned (.int .i64 r) ∧ (r = -1 ∨ (0 ≤ r ∧ r ≤ 1048576 ∧ SmallP p))) ∧ Below w.heap.size w w' := by
  obtain ⟨ea, en, ec, va, vn, vc, ra, rn, rc, la, ln, lc, rfl, ⟨h1, k1⟩, ⟨h2, k2⟩, ⟨h3, k3⟩, h4, k4⟩ := h
  obtain ⟨z1, z2, z3, z4, z5, z6, z7, z8⟩ := hb
  rw [h1.len] at z1
  rw [h2.len] at z3
  rw [h3.len] at z5
  rw [h4.len] at z7
  unfold SmallP
  rw [h1.len, h2.len, h3.len, h4.len]
  obtain ⟨size, next, ex, vs, rf, lt⟩ := p
  simp only at *
  go_enter Tryz.func14, Tryz.ntmps14
  go_wp2_with fail
  refine (laws_szExtentS ea en ec ex 1048576 _ (h1.below (by go_grown)) z2 z1 (by omega) (by omega)).mono ?_
  rintro e w1 ⟨⟨r, rfl, hr⟩, hB1⟩
  have C : Blk w1 w.heap.size _ _ := (Blk.new w _ _).below hB1
  replace hB1 : Below w.heap.size w w1 := chain (by go_grown) hB1
  rcases hr with rfl | ⟨r0, r1, r2⟩
  · go_wp2
    go_returns
    exact ⟨⟨-1, rfl, .inl rfl⟩, hB1⟩
  · have c3 := C.cell 3
    simp only [lgA, lgB, lgC] at c3
    go_wp2_with fail
    refine (laws_szVolumeS B va vn vc vs r _ (h2.below hB1) z4 z3 (by omega) (by omega)).mono ?_
    rintro e w2 ⟨⟨q, rfl, hq⟩, hB2⟩
    replace C := C.below hB2
    replace hB2 := chain hB1 hB2
    clear c3
    rcases hq with rfl | ⟨q0, q1, q2⟩
    · go_wp2
      go_returns
      exact ⟨⟨-1, rfl, .inl rfl⟩, hB2⟩
    · have c4 := C.cell 4
      simp only [lgA, lgB, lgC] at c4
      go_wp2_with fail
      refine (laws_szCountedS ra rn rc rf q _ (h3.below hB2) z6 z5 (by omega) (by omega)).mono ?_
      rintro e w3 ⟨⟨s, rfl, hs⟩, hB3⟩
      replace C := C.below hB3
      replace hB3 := chain hB2 hB3
      clear c4
      rcases hs with rfl | ⟨s0, s1, s2⟩
      · go_wp2
        go_returns
        exact ⟨⟨-1, rfl, .inl rfl⟩, hB3⟩
      · have c5 := C.cell 5
        simp only [lgA, lgB, lgC] at c5
        go_wp2_with fail
        refine (laws_szCountedS la ln lc lt s _ (h4.below hB3) z8 z7 (by omega) (by omega)).mono ?_
        rintro e w4 ⟨⟨t, rfl, ht⟩, hB4⟩
        replace hB4 := chain hB3 hB4
        clear c5
        rcases ht with rfl | ⟨t0, t1, t2⟩
        · go_wp2
          go_returns
          exact ⟨⟨-1, rfl, .inl rfl⟩, hB4⟩
        · go_wp2
          go_returns
          exact ⟨⟨t, rfl, .inr ⟨t0, t1, r2, q2, s2, t2⟩⟩, hB4⟩
end Go.Proofs.YtigldeccfpkdmaaGreatDoor
namespace Go.Proofs.YtigldeccfpkdmaaGreatDoor
open Go.RowKit Go.BigFrame
theorem box_2 {w w1 : World} {c0 c1 : Array Value} {t0 t1 : TypeId} (hb : Below ((w.alloc (.cells c0 t0)).alloc (.cells c1 t1)).heap.size ((w.alloc (.cells c0 t0)).alloc (.cells c1 t1)) w1) :
    Blk w1 w.heap.size c0 t0 ∧ Blk w1 (w.heap.size + 1) c1 t1 ∧ Below w.heap.size w w1 := by
  refine ⟨?_, ?_, chain (by go_grown) hb⟩
  · exact ((Blk.new w c0 t0).alloc (.cells c1 t1)).below hb
  · have := (Blk.new (w.alloc (.cells c0 t0)) c1 t1).below hb
    simpa using this
theorem SmallP.dims {p : Po} (h : SmallP p) : p.ex.length ≤ 1048576 ∧ p.vs.length ≤ 1048576 ∧ (∀ v ∈ p.vs, v.its.length ≤ 1048576 ∧ ∀ x ∈ v.its, x.ps.length ≤ 4194304) ∧ p.rf.length ≤ 1048576 ∧ p.lt.length ≤ 1048576 := by
  obtain ⟨h1, h2, h3, h4⟩ := h
  exact ⟨h1.1, h2.1, fun v hv => ⟨(h2.2 v hv).2.1, fun x hx => by have := ((h2.2 v hv).2.2 x hx).2; omega⟩, h3.1, h4.1⟩
set_option maxHeartbeats 2000000 in
set_option maxRecDepth 100000 in
theorem laws_toPool (B : Nat) (v : Value) (p : Po) (w : World) (h : PoolAt B w v p) (hs : SmallP p) :
    Calls Tryz.prog 16 #[v] w fun e w' => (∃ v', e = .returned v' ∧ PoolAt (w.heap.size + 1) w' v' p) ∧ Below w.heap.size w w' := by
  obtain ⟨ea, en, ec, va, vn, vc, ra, rn, rc, la, ln, lc, rfl, ⟨h1, k1⟩, ⟨h2, k2⟩, ⟨h3, k3⟩, h4, k4⟩ := h
  obtain ⟨d1, d2, d3, d4, d5⟩ := hs.dims
  rw [h1.len] at d1
  rw [h2.len] at d2
  rw [h3.len] at d4
  rw [h4.len] at d5
  clear hs k1 k2 k3 k4
  obtain ⟨size, next, ex, vs, rf, lt⟩ := p
  simp only at *
  go_enter Tryz.func16, Tryz.ntmps16
  go_wp2_with fail
  refine (laws_toExtentS ea en ec ex _ (h1.below (by go_grown)) (by omega)).mono ?_
  rintro e w1 ⟨rfl, o1, hB1⟩
  obtain ⟨K0, K1, K2, hB2⟩ := box_3 hB1
  have hz1 := hB1.size
  have hl1 := o1.lt
  have S1 : OwnAt Ex.cs 2 136 w1 (w.heap.size + 1 + 1 + 1) en ex := by simpa [World.size_alloc] using o1
  simp only [World.size_alloc] at hz1 hl1 ⊢
  clear hB1 o1
  have g2 := K2.frozen 2
  have y2 := K2.cell 2
  have x3 := K0.cell 3
  simp only [lgA, lgB, lgC] at y2 x3
  have T0 := K0.other ⟨w.heap.size + 1 + 1, 2, none⟩ (.slice (some ⟨w.heap.size + 1 + 1 + 1, 0, none⟩) en en) (by simp only [ne_eq]; omega)
  have T1 := K1.other ⟨w.heap.size + 1 + 1, 2, none⟩ (.slice (some ⟨w.heap.size + 1 + 1 + 1, 0, none⟩) en en) (by simp only [ne_eq]; omega)
  have T2 := K2.set 2 (.slice (some ⟨w.heap.size + 1 + 1 + 1, 0, none⟩) en en)
  have Q1 := S1.grown (gset _ (w.heap.size + 1 + 1) 2 (.slice (some ⟨w.heap.size + 1 + 1 + 1, 0, none⟩) en en)) (by simp only [ne_eq]; omega)
  have hBu : Below w.heap.size w (w1.setCell ⟨w.heap.size + 1 + 1, 2, none⟩ (.slice (some ⟨w.heap.size + 1 + 1 + 1, 0, none⟩) en en)) := hB2.setCell (by simp; omega) _
  have hzu : w.heap.size + 1 + 1 + 1 ≤ (w1.setCell ⟨w.heap.size + 1 + 1, 2, none⟩ (.slice (some ⟨w.heap.size + 1 + 1 + 1, 0, none⟩) en en)).heap.size := by simpa using hz1
  clear K0 K1 K2 S1 hB2 hz1
  go_wp2_with fail
  clear g2 y2 x3
  generalize w1.setCell ⟨w.heap.size + 1 + 1, 2, none⟩ (.slice (some ⟨w.heap.size + 1 + 1 + 1, 0, none⟩) en en) = u1 at *
  refine (laws_toVolumeS B va vn vc vs _ (h2.below hBu) d2 d3).mono ?_
  rintro e w2 ⟨⟨rfl, S2⟩, hB2⟩
  replace T0 := T0.below hB2
  replace T1 := T1.below hB2
  replace T2 := T2.below hB2
  replace Q1 := Q1.below hB2
  have hz2 := hB2.size
  replace hB2 := chain hBu hB2
  clear hBu
  have g2 := T2.frozen 3
  have y2 := T2.cell 3
  have x3 := T0.cell 4
  simp only [List.getElem?_toArray, List.getElem?_cons_zero, List.getElem?_cons_succ, List.setIfInBounds_toArray, List.set_cons_succ, List.set_cons_zero] at y2 x3
  have V0 := T0.other ⟨w.heap.size + 1 + 1, 3, none⟩ (.slice (some ⟨u1.heap.size, 0, none⟩) vn vn) (by simp only [ne_eq]; omega)
  have V1 := T1.other ⟨w.heap.size + 1 + 1, 3, none⟩ (.slice (some ⟨u1.heap.size, 0, none⟩) vn vn) (by simp only [ne_eq]; omega)
  have V2 := T2.set 3 (.slice (some ⟨u1.heap.size, 0, none⟩) vn vn)
  have R1 := Q1.grown (gset _ (w.heap.size + 1 + 1) 3 (.slice (some ⟨u1.heap.size, 0, none⟩) vn vn)) (by simp only [ne_eq]; omega)
  have Q2 := S2.grown (gset _ (w.heap.size + 1 + 1) 3 (.slice (some ⟨u1.heap.size, 0, none⟩) vn vn)) (by omega)
  have hBu : Below w.heap.size w (w2.setCell ⟨w.heap.size + 1 + 1, 3, none⟩ (.slice (some ⟨u1.heap.size, 0, none⟩) vn vn)) := hB2.setCell (by simp; omega) _
  have hzu2 : u1.heap.size ≤ (w2.setCell ⟨w.heap.size + 1 + 1, 3, none⟩ (.slice (some ⟨u1.heap.size, 0, none⟩) vn vn)).heap.size := by simpa using hz2
  clear T0 T1 T2 Q1 S2 hB2 hz2
  go_wp2_with fail
  clear g2 y2 x3
  generalize w2.setCell ⟨w.heap.size + 1 + 1, 3, none⟩ (.slice (some ⟨u1.heap.size, 0, none⟩) vn vn) = u2 at *
  refine (laws_toCountedS ra rn rc rf _ (h3.below hBu) (by omega)).mono ?_
  rintro e w3 ⟨rfl, o3, hB3⟩
  replace V0 := V0.below hB3
  replace V1 := V1.below hB3
  replace V2 := V2.below hB3
  replace R1 := R1.below hB3
  replace Q2 := Q2.below hB3
  have S3 := o3
  have hz3 := hB3.size
  replace hB3 := chain hBu hB3
  clear hBu o3
  have g2 := V2.frozen 4
  have y2 := V2.cell 4
  have x3 := V0.cell 5
  simp only [List.getElem?_toArray, List.getElem?_cons_zero, List.getElem?_cons_succ, List.setIfInBounds_toArray, List.set_cons_succ, List.set_cons_zero] at y2 x3
  have X0 := V0.other ⟨w.heap.size + 1 + 1, 4, none⟩ (.slice (some ⟨u2.heap.size, 0, none⟩) rn rn) (by simp only [ne_eq]; omega)
  have X1 := V1.other ⟨w.heap.size + 1 + 1, 4, none⟩ (.slice (some ⟨u2.heap.size, 0, none⟩) rn rn) (by simp only [ne_eq]; omega)
  have X2 := V2.set 4 (.slice (some ⟨u2.heap.size, 0, none⟩) rn rn)
  have P1 := R1.grown (gset _ (w.heap.size + 1 + 1) 4 (.slice (some ⟨u2.heap.size, 0, none⟩) rn rn)) (by simp only [ne_eq]; omega)
  have P2 := Q2.grown (gset _ (w.heap.size + 1 + 1) 4 (.slice (some ⟨u2.heap.size, 0, none⟩) rn rn)) (by omega)
  have P3 := S3.grown (gset _ (w.heap.size + 1 + 1) 4 (.slice (some ⟨u2.heap.size, 0, none⟩) rn rn)) (by simp only [ne_eq]; omega)
  have hBu : Below w.heap.size w (w3.setCell ⟨w.heap.size + 1 + 1, 4, none⟩ (.slice (some ⟨u2.heap.size, 0, none⟩) rn rn)) := hB3.setCell (by simp; omega) _
  have hzu3 : u2.heap.size ≤ (w3.setCell ⟨w.heap.size + 1 + 1, 4, none⟩ (.slice (some ⟨u2.heap.size, 0, none⟩) rn rn)).heap.size := by simpa using hz3
  clear V0 V1 V2 R1 Q2 S3 hB3 hz3
  go_wp2_with fail
  clear g2 y2 x3
  generalize w3.setCell ⟨w.heap.size + 1 + 1, 4, none⟩ (.slice (some ⟨u2.heap.size, 0, none⟩) rn rn) = u3 at *
  refine (laws_toCountedS la ln lc lt _ (h4.below hBu) (by omega)).mono ?_
  rintro e w4 ⟨rfl, o4, hB4⟩
  replace X1 := X1.below hB4
  replace X2 := X2.below hB4
  replace P1 := P1.below hB4
  replace P2 := P2.below hB4
  replace P3 := P3.below hB4
  have P4 := o4
  have hz4 := hB4.size
  replace hB4 := chain hBu hB4
  clear hBu o4 X0
  have g2 := X2.frozen 5
  have y0 := X2.cell 0
  have y1 := X2.cell 1
  have y2 := X2.cell 2
  have y3 := X2.cell 3
  have y4 := X2.cell 4
  have y5 := X2.cell 5
  have f0 := X1.frozen 0
  have f1 := X1.frozen 1
  have f2 := X1.frozen 2
  have f3 := X1.frozen 3
  have f4 := X1.frozen 4
  have f5 := X1.frozen 5
  have z0 := X1.cell 0
  have z1 := X1.cell 1
  have z2 := X1.cell 2
  have z3 := X1.cell 3
  have z4 := X1.cell 4
  have z5 := X1.cell 5
  simp only [List.getElem?_toArray, List.getElem?_cons_zero, List.getElem?_cons_succ, List.setIfInBounds_toArray, List.set_cons_succ, List.set_cons_zero] at y0 y1 y2 y3 y4 y5 z0 z1 z2 z3 z4 z5
  have hgr : ∀ (u : World) (i : Nat) (x : Value) (bb : Nat) (hbb : bb = w.heap.size + 1 ∨ bb = w.heap.size + 1 + 1), Below w.heap.size w u ∧ OwnAt Ex.cs 2 136 u (w.heap.size + 1 + 1 + 1) en ex ∧ VsAt u1.heap.size u (some ⟨u1.heap.size, 0, none⟩) vn vs ∧ OwnAt Ct.cs 4 134 u u2.heap.size rn rf ∧ OwnAt Ct.cs 4 134 u u3.heap.size ln lt →
      Below w.heap.size w (u.setCell ⟨bb, i, none⟩ x) ∧ OwnAt Ex.cs 2 136 (u.setCell ⟨bb, i, none⟩ x) (w.heap.size + 1 + 1 + 1) en ex ∧ VsAt u1.heap.size (u.setCell ⟨bb, i, none⟩ x) (some ⟨u1.heap.size, 0, none⟩) vn vs ∧ OwnAt Ct.cs 4 134 (u.setCell ⟨bb, i, none⟩ x) u2.heap.size rn rf ∧ OwnAt Ct.cs 4 134 (u.setCell ⟨bb, i, none⟩ x) u3.heap.size ln lt := by
    rintro u i x bb hbb ⟨q0, q1, q2, q3, q4⟩
    refine ⟨q0.setCell (by simp; omega) _, q1.grown (gset _ bb i x) (by simp only [ne_eq]; omega), q2.grown (gset _ bb i x) (by omega), q3.grown (gset _ bb i x) (by simp only [ne_eq]; omega), q4.grown (gset _ bb i x) (by simp only [ne_eq]; omega)⟩
  have E := hgr _ 5 (.slice (some ⟨u3.heap.size, 0, none⟩) ln ln) (w.heap.size + 1) (.inl rfl) (hgr _ 4 (.slice (some ⟨u2.heap.size, 0, none⟩) rn rn) (w.heap.size + 1) (.inl rfl) (hgr _ 3 (.slice (some ⟨u1.heap.size, 0, none⟩) vn vn) (w.heap.size + 1) (.inl rfl) (hgr _ 2 (.slice (some ⟨w.heap.size + 1 + 1 + 1, 0, none⟩) en en) (w.heap.size + 1) (.inl rfl) (hgr _ 1 (.int .i64 next) (w.heap.size + 1) (.inl rfl) (hgr _ 0 (.int .i64 size) (w.heap.size + 1) (.inl rfl) (hgr _ 5 (.slice (some ⟨u3.heap.size, 0, none⟩) ln ln) (w.heap.size + 1 + 1) (.inr rfl) ⟨hB4, P1, P2, P3, P4⟩))))))
  have hW := ((((((X1.other ⟨w.heap.size + 1 + 1, 5, none⟩ (.slice (some ⟨u3.heap.size, 0, none⟩) ln ln) (by simp only [ne_eq]; omega)).set 0 (.int .i64 size)).set 1 (.int .i64 next)).set 2 (.slice (some ⟨w.heap.size + 1 + 1 + 1, 0, none⟩) en en)).set 3 (.slice (some ⟨u1.heap.size, 0, none⟩) vn vn)).set 4 (.slice (some ⟨u2.heap.size, 0, none⟩) rn rn)).set 5 (.slice (some ⟨u3.heap.size, 0, none⟩) ln ln)
  simp only [List.setIfInBounds_toArray, List.set_cons_succ, List.set_cons_zero] at hW
  clear X1 X2 P1 P2 P3 P4 hgr hB4
  go_wp2
  generalize ((((((w4.setCell ⟨w.heap.size + 1 + 1, 5, none⟩ (.slice (some ⟨u3.heap.size, 0, none⟩) ln ln)).setCell ⟨w.heap.size + 1, 0, none⟩ (.int .i64 size)).setCell ⟨w.heap.size + 1, 1, none⟩ (.int .i64 next)).setCell ⟨w.heap.size + 1, 2, none⟩ (.slice (some ⟨w.heap.size + 1 + 1 + 1, 0, none⟩) en en)).setCell ⟨w.heap.size + 1, 3, none⟩ (.slice (some ⟨u1.heap.size, 0, none⟩) vn vn)).setCell ⟨w.heap.size + 1, 4, none⟩ (.slice (some ⟨u2.heap.size, 0, none⟩) rn rn)).setCell ⟨w.heap.size + 1, 5, none⟩ (.slice (some ⟨u3.heap.size, 0, none⟩) ln ln) = W8 at *
  refine bodyPost_ret (results_cell_row rfl _ W8 (w.heap.size + 1) _ _ _ _ rfl hW Tryz.underlying26 rfl (by kernel_rfl)) rfl ?_
  obtain ⟨E0, E1, E2, E3, E4⟩ := E
  obtain ⟨q1, b1, _⟩ := E1.blk
  obtain ⟨q3, b3, _⟩ := E3.blk
  obtain ⟨q4, b4, _⟩ := E4.blk
  exact ⟨⟨_, rfl, _, _, _, _, _, _, _, _, _, _, _, _, rfl, ⟨E1.sl, hd_own _ en (by omega), sf_own b1 (by omega)⟩, ⟨E2.mono (by omega), hd_own _ vn (by omega)⟩, ⟨E3.sl, hd_own _ rn (by omega), sf_own b3 (by omega)⟩, E4.sl, hd_own _ ln (by omega), sf_own b4 (by omega)⟩, E0⟩
set_option maxHeartbeats 2000000 in
set_option maxRecDepth 100000 in
theorem laws_eqPool (B B' : Nat) (v v' : Value) (p : Po) (w : World) (h : PoolAt B w v p) (h' : PoolAt B' w v' p) (hs : SmallP p) :
    Calls Tryz.prog 11 #[v, v'] w fun e w' => e = .returned (.bool true) ∧ Below w.heap.size w w' := by
  obtain ⟨ea, en, ec, va, vn, vc, ra, rn, rc, la, ln, lc, rfl, ⟨h1, k1⟩, ⟨h2, k2⟩, ⟨h3, k3⟩, h4, k4⟩ := h
  obtain ⟨ea', en', ec', va', vn', vc', ra', rn', rc', la', ln', lc', rfl, ⟨h1', k1'⟩, ⟨h2', k2'⟩, ⟨h3', k3'⟩, h4', k4'⟩ := h'
  obtain ⟨d1, d2, d3, d4, d5⟩ := hs.dims
  clear hs k1 k2 k3 k4 k1' k2' k3' k4'
  have n1 := h1.len
  have n2 := h2.len
  have n3 := h3.len
  have n4 := h4.len
  have n1' := h1'.len
  have n2' := h2'.len
  have n3' := h3'.len
  have n4' := h4'.len
  obtain ⟨size, next, ex, vs, rf, lt⟩ := p
  simp only at *
  have q1 : (size != size) = false := by simp
  have q2 : (next != next) = false := by simp
  go_enter Tryz.func11, Tryz.ntmps11
  go_wp2_with fail
  refine (laws_eqExtentS ea en ec ex ea' en' ec' ex _ (h1.below (by go_grown)) (h1'.below (by go_grown)) (by omega) (by omega)).mono ?_
  rintro e w1 ⟨rfl, hB1⟩
  rw [eqExs_refl]
  obtain ⟨C, D, hB1'⟩ := box_2 hB1
  clear hB1
  have hB1 := hB1'
  clear hB1'
  have c3 := C.cell 3
  have d3' := D.cell 3
  have c4 := C.cell 4
  have d4' := D.cell 4
  have c5 := C.cell 5
  have d5' := D.cell 5
  simp only [lgA, lgB, lgC] at c3 d3' c4 d4' c5 d5'
  clear C D
  go_wp2_with fail
  refine (laws_eqVolumeS B B' va vn vc va' vn' vc' vs _ (h2.below hB1) (h2'.below hB1) (by omega) (fun v hv => ⟨by have := (d3 v hv).1; omega, (d3 v hv).2⟩)).mono ?_
  rintro e w2 ⟨rfl, hB2⟩
  replace c4 := bcell hB2 c4
  replace d4' := bcell hB2 d4'
  replace c5 := bcell hB2 c5
  replace d5' := bcell hB2 d5'
  replace hB2 := chain hB1 hB2
  clear c3 d3' hB1
  go_wp2_with fail
  refine (laws_eqCountedS ra rn rc rf ra' rn' rc' rf _ (h3.below hB2) (h3'.below hB2) (by omega) (by omega)).mono ?_
  rintro e w3 ⟨rfl, hB3⟩
  rw [eqCts_refl]
  replace c5 := bcell hB3 c5
  replace d5' := bcell hB3 d5'
  replace hB3 := chain hB2 hB3
  clear c4 d4' hB2
  go_wp2_with fail
  refine (laws_eqCountedS la ln lc lt la' ln' lc' lt _ (h4.below hB3) (h4'.below hB3) (by omega) (by omega)).mono ?_
  rintro e w4 ⟨rfl, hB4⟩
  rw [eqCts_refl]
  replace hB4 := chain hB3 hB4
  go_wp2
  go_returns
  exact ⟨rfl, hB4⟩
end Go.Proofs.YtigldeccfpkdmaaGreatDoor
