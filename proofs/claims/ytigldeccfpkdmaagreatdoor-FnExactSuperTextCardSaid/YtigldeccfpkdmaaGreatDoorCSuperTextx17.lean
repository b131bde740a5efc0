/- The laws' copies of lists of items and volumes. The laws' copies of volumes. The laws' comparisons of lists of items and volumes, where they are the same. How the laws' arguments, as they are read, lie in memory: lists of extents. -/
import Derived.Test.YtigldeccfpkdmaaGreatDoorProg
import Derived.Test.YtigldeccfpkdmaaGreatDoorCSuperTextx09
import Derived.Test.YtigldeccfpkdmaaGreatDoorCSuperTextx00
namespace Go.Proofs.YtigldeccfpkdmaaGreatDoor
open Go.RowKit Go.BigFrame
theorem gset (w : World) (b i : Nat) (v : Value) : w.grownBy (w.setCell ⟨b, i, none⟩ v) (some b) := grown_set (World.grownBy.refl _ _) i v
theorem box_3 {w w1 : World} {c0 c1 c2 : Array Value} {t0 t1 t2 : TypeId} (hb : Below (((w.alloc (.cells c0 t0)).alloc (.cells c1 t1)).alloc (.cells c2 t2)).heap.size (((w.alloc (.cells c0 t0)).alloc (.cells c1 t1)).alloc (.cells c2 t2)) w1) :
    Blk w1 w.heap.size c0 t0 ∧ Blk w1 (w.heap.size + 1) c1 t1 ∧ Blk w1 (w.heap.size + 1 + 1) c2 t2 ∧ Below w.heap.size w w1 := by
  refine ⟨?_, ?_, ?_, chain (by go_grown) hb⟩
  · have := (((Blk.new w c0 t0).alloc (.cells c1 t1)).alloc (.cells c2 t2)).below hb
    simpa using this
  · have := ((Blk.new (w.alloc (.cells c0 t0)) c1 t1).alloc (.cells c2 t2)).below hb
    simpa using this
  · have := (Blk.new ((w.alloc (.cells c0 t0)).alloc (.cells c1 t1)) c2 t2).below hb
    simpa using this
set_option maxHeartbeats 1000000 in
theorem laws_toItem (nm : ByteArray) (pa : Option Addr) (pn pc : Nat) (ps : List Pt) (w : World) (h : PtsAt w pa pn ps) (hn : pn ≤ 4194304) :
    Calls Tryz.prog 215 #[.agg #[.string nm, .slice pa pn pc]] w fun e w' => (∃ b, w.heap.size ≤ b ∧ e = .returned (.agg #[.string nm, .slice (some ⟨b, 0, none⟩) pn pn]) ∧ OwnAt Pt.cs 3 141 w' b pn ps) ∧ Below w.heap.size w w' := by
  go_enter Tryz.func215, Tryz.ntmps215
  go_wp2_with fail
  refine (laws_toPartS pa pn pc ps _ (h.below (by go_grown)) hn).mono ?_
  rintro e w1 ⟨rfl, o1, hB1⟩
  obtain ⟨k0, k1, k2, hB2⟩ := box_3 hB1
  clear hB1
  have S := o1
  simp only [World.size_alloc] at S ⊢
  have hlt := o1.lt
  simp only [World.size_alloc] at hlt
  have g1 := k2.frozen 1
  have y0 : w1.cell? ⟨w.heap.size + 1 + 1, 0, none⟩ = some (.string nm) := k2.cell 0
  have y1 : w1.cell? ⟨w.heap.size + 1 + 1, 1, none⟩ = some (.slice none 0 0) := k2.cell 1
  have f0 := k1.frozen 0
  have f1 := k1.frozen 1
  have z0 : w1.cell? ⟨w.heap.size + 1, 0, none⟩ = some (.string ⟨#[]⟩) := k1.cell 0
  have z1 : w1.cell? ⟨w.heap.size + 1, 1, none⟩ = some (.slice none 0 0) := k1.cell 1
  have hW : Blk (((w1.setCell ⟨w.heap.size + 1 + 1, 1, none⟩ (.slice (some ⟨w.heap.size + 1 + 1 + 1, 0, none⟩) pn pn)).setCell ⟨w.heap.size + 1, 0, none⟩ (.string nm)).setCell ⟨w.heap.size + 1, 1, none⟩ (.slice (some ⟨w.heap.size + 1 + 1 + 1, 0, none⟩) pn pn)) (w.heap.size + 1) #[.string nm, (.slice (some ⟨w.heap.size + 1 + 1 + 1, 0, none⟩) pn pn)] 139 := by
    have := ((k1.other ⟨w.heap.size + 1 + 1, 1, none⟩ (.slice (some ⟨w.heap.size + 1 + 1 + 1, 0, none⟩) pn pn) (by simp)).set 0 (.string nm)).set 1 (.slice (some ⟨w.heap.size + 1 + 1 + 1, 0, none⟩) pn pn)
    simpa using this
  have hBW : Below w.heap.size w (((w1.setCell ⟨w.heap.size + 1 + 1, 1, none⟩ (.slice (some ⟨w.heap.size + 1 + 1 + 1, 0, none⟩) pn pn)).setCell ⟨w.heap.size + 1, 0, none⟩ (.string nm)).setCell ⟨w.heap.size + 1, 1, none⟩ (.slice (some ⟨w.heap.size + 1 + 1 + 1, 0, none⟩) pn pn)) := by
    refine ((hB2.setCell ?_ _).setCell ?_ _).setCell ?_ _
    all_goals (simp; try omega)
  have hS : OwnAt Pt.cs 3 141 (((w1.setCell ⟨w.heap.size + 1 + 1, 1, none⟩ (.slice (some ⟨w.heap.size + 1 + 1 + 1, 0, none⟩) pn pn)).setCell ⟨w.heap.size + 1, 0, none⟩ (.string nm)).setCell ⟨w.heap.size + 1, 1, none⟩ (.slice (some ⟨w.heap.size + 1 + 1 + 1, 0, none⟩) pn pn)) (w.heap.size + 1 + 1 + 1) pn ps :=
    ((S.grown (gset _ (w.heap.size + 1 + 1) 1 (.slice (some ⟨w.heap.size + 1 + 1 + 1, 0, none⟩) pn pn)) (by simp only [ne_eq]; omega)).grown (gset _ (w.heap.size + 1) 0 (.string nm)) (by simp only [ne_eq]; omega)).grown (gset _ (w.heap.size + 1) 1 (.slice (some ⟨w.heap.size + 1 + 1 + 1, 0, none⟩) pn pn)) (by simp only [ne_eq]; omega)
  clear k0 k1 k2 S o1
  go_wp2
  generalize ((w1.setCell ⟨w.heap.size + 1 + 1, 1, none⟩ (.slice (some ⟨w.heap.size + 1 + 1 + 1, 0, none⟩) pn pn)).setCell ⟨w.heap.size + 1, 0, none⟩ (.string nm)).setCell ⟨w.heap.size + 1, 1, none⟩ (.slice (some ⟨w.heap.size + 1 + 1 + 1, 0, none⟩) pn pn) = W8 at *
  refine bodyPost_ret (results_cell_row rfl _ W8 (w.heap.size + 1) _ _ _ _ rfl hW Tryz.underlying139 rfl (by kernel_rfl)) rfl ?_
  exact ⟨⟨w.heap.size + 1 + 1 + 1, by omega, rfl, hS⟩, hBW⟩
/-- Cells of a block that is being filled with items. -/
def FillI (B : Nat) (w : World) (c : Array Value) (l : List It) (k : Nat) : Prop :=
  ∀ i x, i < k → l[i]? = some x → ∃ pa pn pc, c[i * 2]? = some (.string x.nm) ∧ c[i * 2 + 1]? = some (.slice pa pn pc) ∧ PtsAt w pa pn x.ps ∧ Hd B pa pn pc ∧ (∀ ad, pa = some ad → B ≤ ad.block) ∧ Sf B w pa
theorem FillI.below {B : Nat} {w w' : World} {c : Array Value} {l : List It} {k : Nat} (h : FillI B w c l k) (hb : Below w.heap.size w w') : FillI B w' c l k := fun i x hi hx => by
  obtain ⟨pa, pn, pc, c0, c1, hp, hh, hA, sf⟩ := h i x hi hx
  exact ⟨pa, pn, pc, c0, c1, hp.below hb, hh, hA, sf.below hb⟩
theorem FillI.grown {B r : Nat} {w w' : World} {c : Array Value} {l : List It} {k : Nat} (h : FillI B w c l k) (hg : w.grownBy w' (some r)) (hr : r < B) : FillI B w' c l k := fun i x hi hx => by
  obtain ⟨pa, pn, pc, c0, c1, hp, hh, hA, sf⟩ := h i x hi hx
  exact ⟨pa, pn, pc, c0, c1, hp.grown hg (fun ad had => by have := hA ad had; omega), hh, hA, sf.grown hg hr⟩
set_option maxHeartbeats 1000000 in
theorem laws_toItemS (B : Nat) (a : Option Addr) (n cap : Nat) (l : List It) (w : World) (h : ItsAt B w a n l) (hn : n ≤ 1048576) (hps : ∀ x ∈ l, x.ps.length ≤ 4194304) :
    Calls Tryz.prog 185 #[.slice a n cap] w fun e w' => (e = .returned (.slice (some ⟨w.heap.size, 0, none⟩) n n) ∧ ItsAt w.heap.size w' (some ⟨w.heap.size, 0, none⟩) n l) ∧ Below w.heap.size w w' := by
  have hlen' : Hid (l.length = n) := h.len
  have hinfo : (Tryz.prog.info? 139).map (fun i => (i.zero, i.size, i.bytes)) = some (some (.agg #[.string .empty, .slice none 0 0]), 2, 40) := by kernel_rfl
  obtain ⟨i0, hi, hz0, hz1, hz2⟩ := info_parts hinfo
  have hmk : ∀ u : World, (Instr.makeSlice 126 (.int .i64 (n : Int)) (.int .i64 (n : Int))).run Tryz.prog u =
      .ok (.slice (some ⟨u.heap.size, 0, none⟩) n n) (u.alloc (.cells (madeCells #[.string .empty, .slice none 0 0] (n * 2)) 139)) := fun u => by
    have hm := run_make (P := Tryz.prog) u 126 139 i0 (.agg #[.string .empty, .slice none 0 0]) Tryz.underlying126 hi hz0 .i64 .i64 (n : Int) (n : Int) (by omega) (Int.le_refl _) (by rw [hz2]; omega) (by omega)
    simpa [hz1, Value.cells] using hm
  clear hinfo hi hz0 hz1 hz2
  go_enter Tryz.func185, Tryz.ntmps185
  go_wp2_with fail
  go_loopw [4] (fun ix wr => ∃ (k : Nat) (c : Array Value), k ≤ n ∧ ix = .int .i64 k ∧ Blk wr w.heap.size c 139 ∧ Hid (c.size = n * 2) ∧ FillI (w.heap.size + 1) wr c l k ∧ Below w.heap.size w wr) (fun ix _ => n - (intOf ix).toNat)
  case atStart => exact ⟨0, _, Nat.zero_le _, rfl, Blk.new _ _ _, size_madeCells _ _, fun i p hi => by omega, (Below.refl _ _).alloc (Nat.le_refl _) _⟩
  case round =>
    obtain ⟨k, c, hk, rfl, hblk, hcs, hcc, hB⟩ := hrel
    by_cases hlt : k < n
    · obtain ⟨b, o, x, pa, pn, pc, rfl, hp, c0, c1, hP, _, _, _⟩ := its_at (h.below hB) hlt
      have hp' : Hid (l[k]? = some x) := hp
      have hpn : pn ≤ 4194304 := by have := hps x (List.mem_of_getElem? hp); rw [hP.len] at this; exact this
      have hbl := hblk.lt
      clear hp hmk
      go_wp2_with fail
      refine (laws_toItem x.nm pa pn pc x.ps _ hP hpn).mono ?_
      rintro e w1 ⟨⟨nb, hnb, rfl, hQ⟩, hB1⟩
      have hb1 := hblk.below hB1
      have hc1 := hcc.below hB1
      have f0 := hb1.frozen (k * 2)
      have f1 := hb1.frozen (k * 2 + 1)
      have hsz := hB.size
      obtain ⟨v0, y0⟩ := hb1.has (i := k * 2) (by rw [hcs.out]; omega)
      obtain ⟨v1, y1⟩ := hb1.has (i := k * 2 + 1) (by rw [hcs.out]; omega)
      go_wp2
      go_roundw
      case rel =>
        refine ⟨k + 1, _, by omega, by go_num, (hb1.set _ _).set _ _, by show _ = _; simp [hcs.out], ?_, ?_⟩
        · have hc2 := (hc1.grown (gset _ w.heap.size (k * 2) (.string x.nm)) (by omega)).grown (gset _ w.heap.size (k * 2 + 1) (.slice (some ⟨nb, 0, none⟩) pn pn)) (by omega)
          have hQ2 := (hQ.grown (gset _ w.heap.size (k * 2) (.string x.nm)) (by simp only [ne_eq]; omega)).grown (gset _ w.heap.size (k * 2 + 1) (.slice (some ⟨nb, 0, none⟩) pn pn)) (by simp only [ne_eq]; omega)
          intro i q hi hq
          have hcs' := hcs.out
          by_cases hik : i = k
          · subst hik
            obtain rfl : x = q := by rw [hp'.out] at hq; exact Option.some.inj hq
            obtain ⟨cq, hcq, _⟩ := hQ2.blk
            refine ⟨some ⟨nb, 0, none⟩, pn, pn, ?_, ?_, hQ2.sl, hd_own nb pn (by omega), fun ad e => (by cases e; show _ ≤ nb; omega), sf_own hcq (by omega)⟩
            all_goals (simp [Array.getElem?_setIfInBounds]; omega)
          · obtain ⟨qa, qn, qc, r0, r1, r2⟩ := hc2 i q (by omega) hq
            refine ⟨qa, qn, qc, ?_, ?_, r2⟩
            all_goals (rw [Array.getElem?_setIfInBounds_ne (by omega), Array.getElem?_setIfInBounds_ne (by omega)]; assumption)
        · exact ((chain hB hB1).setCell (by simp) _).setCell (by simp) _
      case measure => simp [intOf]; omega
    · obtain rfl : k = n := by omega
      go_wp2
      go_returns
      go_light
      refine ⟨⟨rfl, hlen'.out, fun i x hx => ?_⟩, hB⟩
      have hi : i < k := by have := (List.getElem?_eq_some_iff.1 hx).1; rw [hlen'.out] at this; exact this
      obtain ⟨pa, pn, pc, r0, r1, r2, r3, r4, r5⟩ := hcc i x hi hx
      refine ⟨w.heap.size, 0, pa, pn, pc, rfl, ?_, ?_, r2, r3.mono (by omega), Nat.le_refl _, fun ad had => (by have := r4 ad had; omega), r5.mono (by omega), sf_own hblk (Nat.le_refl _)⟩
      · rw [Nat.zero_add, hblk.cell]; exact r0
      · rw [Nat.zero_add, hblk.cell]; exact r1
end Go.Proofs.YtigldeccfpkdmaaGreatDoor
namespace Go.Proofs.YtigldeccfpkdmaaGreatDoor
open Go.RowKit Go.BigFrame
set_option maxHeartbeats 1000000 in
theorem laws_toVolume (B : Nat) (v : Vo) (pa : Option Addr) (pn pc : Nat) (w : World) (h : ItsAt B w pa pn v.its) (hn : pn ≤ 1048576) (hps : ∀ x ∈ v.its, x.ps.length ≤ 4194304) :
    Calls Tryz.prog 125 #[.agg #[.int .i64 v.id, .string v.nm, .bool v.fx, .slice pa pn pc]] w fun e w' => (∃ b, w.heap.size ≤ b ∧ e = .returned (.agg #[.int .i64 v.id, .string v.nm, .bool v.fx, .slice (some ⟨b, 0, none⟩) pn pn]) ∧ ItsAt b w' (some ⟨b, 0, none⟩) pn v.its) ∧ Below w.heap.size w w' := by
  obtain ⟨id, nm, fx, its⟩ := v
  simp only at h hps ⊢
  go_enter Tryz.func125, Tryz.ntmps125
  go_wp2_with fail
  refine (laws_toItemS B pa pn pc its _ (h.below (by go_grown)) hn hps).mono ?_
  rintro e w1 ⟨⟨rfl, S⟩, hB1⟩
  obtain ⟨k0, k1, k2, hB2⟩ := box_3 hB1
  have hlt := hB1.size
  clear hB1
  simp only [World.size_alloc] at S hlt ⊢
  have g3 := k2.frozen 3
  have y0 : w1.cell? ⟨w.heap.size + 1 + 1, 0, none⟩ = some (.int .i64 id) := k2.cell 0
  have y1 : w1.cell? ⟨w.heap.size + 1 + 1, 1, none⟩ = some (.string nm) := k2.cell 1
  have y2 : w1.cell? ⟨w.heap.size + 1 + 1, 2, none⟩ = some (.bool fx) := k2.cell 2
  have y3 : w1.cell? ⟨w.heap.size + 1 + 1, 3, none⟩ = some (.slice none 0 0) := k2.cell 3
  have f0 := k1.frozen 0
  have f1 := k1.frozen 1
  have f2 := k1.frozen 2
  have f3 := k1.frozen 3
  have z0 : w1.cell? ⟨w.heap.size + 1, 0, none⟩ = some (.int .i64 0) := k1.cell 0
  have z1 : w1.cell? ⟨w.heap.size + 1, 1, none⟩ = some (.string ⟨#[]⟩) := k1.cell 1
  have z2 : w1.cell? ⟨w.heap.size + 1, 2, none⟩ = some (.bool false) := k1.cell 2
  have z3 : w1.cell? ⟨w.heap.size + 1, 3, none⟩ = some (.slice none 0 0) := k1.cell 3
  have hW : Blk (((((w1.setCell ⟨w.heap.size + 1 + 1, 3, none⟩ (.slice (some ⟨w.heap.size + 1 + 1 + 1, 0, none⟩) pn pn)).setCell ⟨w.heap.size + 1, 0, none⟩ (.int .i64 id)).setCell ⟨w.heap.size + 1, 1, none⟩ (.string nm)).setCell ⟨w.heap.size + 1, 2, none⟩ (.bool fx)).setCell ⟨w.heap.size + 1, 3, none⟩ (.slice (some ⟨w.heap.size + 1 + 1 + 1, 0, none⟩) pn pn)) (w.heap.size + 1) #[.int .i64 id, .string nm, .bool fx, .slice (some ⟨w.heap.size + 1 + 1 + 1, 0, none⟩) pn pn] 128 := by
    have := ((((k1.other ⟨w.heap.size + 1 + 1, 3, none⟩ (.slice (some ⟨w.heap.size + 1 + 1 + 1, 0, none⟩) pn pn) (by simp)).set 0 (.int .i64 id)).set 1 (.string nm)).set 2 (.bool fx)).set 3 (.slice (some ⟨w.heap.size + 1 + 1 + 1, 0, none⟩) pn pn)
    simpa using this
  have hBW : Below w.heap.size w (((((w1.setCell ⟨w.heap.size + 1 + 1, 3, none⟩ (.slice (some ⟨w.heap.size + 1 + 1 + 1, 0, none⟩) pn pn)).setCell ⟨w.heap.size + 1, 0, none⟩ (.int .i64 id)).setCell ⟨w.heap.size + 1, 1, none⟩ (.string nm)).setCell ⟨w.heap.size + 1, 2, none⟩ (.bool fx)).setCell ⟨w.heap.size + 1, 3, none⟩ (.slice (some ⟨w.heap.size + 1 + 1 + 1, 0, none⟩) pn pn)) := by
    refine ((((hB2.setCell ?_ _).setCell ?_ _).setCell ?_ _).setCell ?_ _).setCell ?_ _
    all_goals (simp; try omega)
  have hS : ItsAt (w.heap.size + 1 + 1 + 1) (((((w1.setCell ⟨w.heap.size + 1 + 1, 3, none⟩ (.slice (some ⟨w.heap.size + 1 + 1 + 1, 0, none⟩) pn pn)).setCell ⟨w.heap.size + 1, 0, none⟩ (.int .i64 id)).setCell ⟨w.heap.size + 1, 1, none⟩ (.string nm)).setCell ⟨w.heap.size + 1, 2, none⟩ (.bool fx)).setCell ⟨w.heap.size + 1, 3, none⟩ (.slice (some ⟨w.heap.size + 1 + 1 + 1, 0, none⟩) pn pn)) (some ⟨w.heap.size + 1 + 1 + 1, 0, none⟩) pn its :=
    ((((S.grown (gset _ (w.heap.size + 1 + 1) 3 _) (by omega)).grown (gset _ (w.heap.size + 1) 0 _) (by omega)).grown (gset _ (w.heap.size + 1) 1 _) (by omega)).grown (gset _ (w.heap.size + 1) 2 _) (by omega)).grown (gset _ (w.heap.size + 1) 3 _) (by omega)
  clear k0 k1 k2 S
  go_wp2
  generalize ((((w1.setCell ⟨w.heap.size + 1 + 1, 3, none⟩ (.slice (some ⟨w.heap.size + 1 + 1 + 1, 0, none⟩) pn pn)).setCell ⟨w.heap.size + 1, 0, none⟩ (.int .i64 id)).setCell ⟨w.heap.size + 1, 1, none⟩ (.string nm)).setCell ⟨w.heap.size + 1, 2, none⟩ (.bool fx)).setCell ⟨w.heap.size + 1, 3, none⟩ (.slice (some ⟨w.heap.size + 1 + 1 + 1, 0, none⟩) pn pn) = W8 at *
  refine bodyPost_ret (results_cell_row rfl _ W8 (w.heap.size + 1) _ _ _ _ rfl hW Tryz.underlying128 rfl (by kernel_rfl)) rfl ?_
  exact ⟨⟨w.heap.size + 1 + 1 + 1, by omega, rfl, hS⟩, hBW⟩
/-- Cells of a block that is being filled with volumes. -/
def FillV (B : Nat) (w : World) (c : Array Value) (l : List Vo) (k : Nat) : Prop :=
  ∀ i x, i < k → l[i]? = some x → ∃ pa pn pc, c[i * 4]? = some (.int .i64 x.id) ∧ c[i * 4 + 1]? = some (.string x.nm) ∧ c[i * 4 + 2]? = some (.bool x.fx) ∧ c[i * 4 + 3]? = some (.slice pa pn pc) ∧ ItsAt B w pa pn x.its ∧ Hd B pa pn pc
theorem FillV.below {B : Nat} {w w' : World} {c : Array Value} {l : List Vo} {k : Nat} (h : FillV B w c l k) (hb : Below w.heap.size w w') : FillV B w' c l k := fun i x hi hx => by
  obtain ⟨pa, pn, pc, c0, c1, c2, c3, hp, r⟩ := h i x hi hx
  exact ⟨pa, pn, pc, c0, c1, c2, c3, hp.below hb, r⟩
theorem FillV.grown {B r : Nat} {w w' : World} {c : Array Value} {l : List Vo} {k : Nat} (h : FillV B w c l k) (hg : w.grownBy w' (some r)) (hr : r < B) : FillV B w' c l k := fun i x hi hx => by
  obtain ⟨pa, pn, pc, c0, c1, c2, c3, hp, hh⟩ := h i x hi hx
  exact ⟨pa, pn, pc, c0, c1, c2, c3, hp.grown hg hr, hh⟩
set_option maxHeartbeats 1000000 in
theorem laws_toVolumeS (B : Nat) (a : Option Addr) (n cap : Nat) (l : List Vo) (w : World) (h : VsAt B w a n l) (hn : n ≤ 1048576) (hps : ∀ v ∈ l, v.its.length ≤ 1048576 ∧ ∀ x ∈ v.its, x.ps.length ≤ 4194304) :
    Calls Tryz.prog 58 #[.slice a n cap] w fun e w' => (e = .returned (.slice (some ⟨w.heap.size, 0, none⟩) n n) ∧ VsAt w.heap.size w' (some ⟨w.heap.size, 0, none⟩) n l) ∧ Below w.heap.size w w' := by
  have hlen' : Hid (l.length = n) := h.len
  have hinfo : (Tryz.prog.info? 128).map (fun i => (i.zero, i.size, i.bytes)) = some (some (.agg #[.int .i64 0, .string .empty, .bool false, .slice none 0 0]), 4, 56) := by kernel_rfl
  obtain ⟨i0, hi, hz0, hz1, hz2⟩ := info_parts hinfo
  have hmk : ∀ u : World, (Instr.makeSlice 23 (.int .i64 (n : Int)) (.int .i64 (n : Int))).run Tryz.prog u =
      .ok (.slice (some ⟨u.heap.size, 0, none⟩) n n) (u.alloc (.cells (madeCells #[.int .i64 0, .string .empty, .bool false, .slice none 0 0] (n * 4)) 128)) := fun u => by
    have hm := run_make (P := Tryz.prog) u 23 128 i0 (.agg #[.int .i64 0, .string .empty, .bool false, .slice none 0 0]) Tryz.underlying23 hi hz0 .i64 .i64 (n : Int) (n : Int) (by omega) (Int.le_refl _) (by rw [hz2]; omega) (by omega)
    simpa [hz1, Value.cells] using hm
  clear hinfo hi hz0 hz1 hz2
  go_enter Tryz.func58, Tryz.ntmps58
  go_wp2_with fail
  go_loopw [4] (fun ix wr => ∃ (k : Nat) (c : Array Value), k ≤ n ∧ ix = .int .i64 k ∧ Blk wr w.heap.size c 128 ∧ Hid (c.size = n * 4) ∧ FillV (w.heap.size + 1) wr c l k ∧ Below w.heap.size w wr) (fun ix _ => n - (intOf ix).toNat)
  case atStart => exact ⟨0, _, Nat.zero_le _, rfl, Blk.new _ _ _, size_madeCells _ _, fun i p hi => by omega, (Below.refl _ _).alloc (Nat.le_refl _) _⟩
  case round =>
    obtain ⟨k, c, hk, rfl, hblk, hcs, hcc, hB⟩ := hrel
    by_cases hlt : k < n
    · obtain ⟨b, o, x, pa, pn, pc, rfl, hp, c0, c1, c2, c3, hP, _, _⟩ := vs_at (h.below hB) hlt
      have hp' : Hid (l[k]? = some x) := hp
      obtain ⟨q1, q2⟩ := hps x (List.mem_of_getElem? hp)
      rw [hP.len] at q1
      have hbl := hblk.lt
      clear hp hmk
      go_wp2_with fail
      refine (laws_toVolume B x pa pn pc _ hP q1 q2).mono ?_
      rintro e w1 ⟨⟨nb, hnb, rfl, hQ⟩, hB1⟩
      have hb1 := hblk.below hB1
      have hc1 := hcc.below hB1
      have f0 := hb1.frozen (k * 4)
      have f1 := hb1.frozen (k * 4 + 1)
      have f2 := hb1.frozen (k * 4 + 2)
      have f3 := hb1.frozen (k * 4 + 3)
      have hsz := hB.size
      obtain ⟨v0, y0⟩ := hb1.has (i := k * 4) (by rw [hcs.out]; omega)
      obtain ⟨v1, y1⟩ := hb1.has (i := k * 4 + 1) (by rw [hcs.out]; omega)
      obtain ⟨v2, y2⟩ := hb1.has (i := k * 4 + 2) (by rw [hcs.out]; omega)
      obtain ⟨v3, y3⟩ := hb1.has (i := k * 4 + 3) (by rw [hcs.out]; omega)
      go_wp2
      go_roundw
      case rel =>
        refine ⟨k + 1, _, by omega, by go_num, (((hb1.set _ _).set _ _).set _ _).set _ _, by show _ = _; simp [hcs.out], ?_, ?_⟩
        · have hc2 := (((hc1.grown (gset _ w.heap.size (k * 4) (.int .i64 x.id)) (by omega)).grown (gset _ w.heap.size (k * 4 + 1) (.string x.nm)) (by omega)).grown (gset _ w.heap.size (k * 4 + 2) (.bool x.fx)) (by omega)).grown (gset _ w.heap.size (k * 4 + 3) (.slice (some ⟨nb, 0, none⟩) pn pn)) (by omega)
          have hQ2 := ((((hQ.mono (show w.heap.size + 1 ≤ nb by omega)).grown (gset _ w.heap.size (k * 4) (.int .i64 x.id)) (by omega)).grown (gset _ w.heap.size (k * 4 + 1) (.string x.nm)) (by omega)).grown (gset _ w.heap.size (k * 4 + 2) (.bool x.fx)) (by omega)).grown (gset _ w.heap.size (k * 4 + 3) (.slice (some ⟨nb, 0, none⟩) pn pn)) (by omega)
          intro i q hi hq
          have hcs' := hcs.out
          by_cases hik : i = k
          · subst hik
            obtain rfl : x = q := by rw [hp'.out] at hq; exact Option.some.inj hq
            refine ⟨some ⟨nb, 0, none⟩, pn, pn, ?_, ?_, ?_, ?_, hQ2, hd_own nb pn (by omega)⟩
            all_goals (simp [Array.getElem?_setIfInBounds]; omega)
          · obtain ⟨qa, qn, qc, r0, r1, r2, r3, r4⟩ := hc2 i q (by omega) hq
            refine ⟨qa, qn, qc, ?_, ?_, ?_, ?_, r4⟩
            all_goals (rw [Array.getElem?_setIfInBounds_ne (by omega), Array.getElem?_setIfInBounds_ne (by omega), Array.getElem?_setIfInBounds_ne (by omega), Array.getElem?_setIfInBounds_ne (by omega)]; assumption)
        · exact ((((chain hB hB1).setCell (by simp) _).setCell (by simp) _).setCell (by simp) _).setCell (by simp) _
      case measure => simp [intOf]; omega
    · obtain rfl : k = n := by omega
      go_wp2
      go_returns
      go_light
      refine ⟨⟨rfl, hlen'.out, fun i x hx => ?_⟩, hB⟩
      have hi : i < k := by have := (List.getElem?_eq_some_iff.1 hx).1; rw [hlen'.out] at this; exact this
      obtain ⟨pa, pn, pc, r0, r1, r2, r3, r4, r5⟩ := hcc i x hi hx
      refine ⟨w.heap.size, 0, pa, pn, pc, rfl, ?_, ?_, ?_, ?_, r4.mono (by omega), r5.mono (by omega), Nat.le_refl _, sf_own hblk (Nat.le_refl _)⟩
      · rw [Nat.zero_add, hblk.cell]; exact r0
      · rw [Nat.zero_add, hblk.cell]; exact r1
      · rw [Nat.zero_add, hblk.cell]; exact r2
      · rw [Nat.zero_add, hblk.cell]; exact r3
end Go.Proofs.YtigldeccfpkdmaaGreatDoor
namespace Go.Proofs.YtigldeccfpkdmaaGreatDoor
open Go.RowKit Go.BigFrame
set_option maxHeartbeats 1000000 in
theorem laws_eqItem (nm : ByteArray) (ps : List Pt) (pa : Option Addr) (pn pc : Nat) (pa' : Option Addr) (pn' pc' : Nat) (w : World) (h : PtsAt w pa pn ps) (h' : PtsAt w pa' pn' ps) (hn : pn ≤ 4194304) :
    Calls Tryz.prog 209 #[.agg #[.string nm, .slice pa pn pc], .agg #[.string nm, .slice pa' pn' pc']] w fun e w' => e = .returned (.bool true) ∧ Below w.heap.size w w' := by
  have hn' : pn' ≤ 4194304 := by rw [← h'.len, h.len]; exact hn
  go_enter Tryz.func209, Tryz.ntmps209
  go_wp2_with fail
  refine (laws_eqPartS pa pn pc ps pa' pn' pc' ps _ (h.below (by go_grown)) (h'.below (by go_grown)) hn hn').mono ?_
  rintro e w1 ⟨rfl, hB1⟩
  rw [eqPts_refl]
  replace hB1 : Below w.heap.size w w1 := chain (by go_grown) hB1
  go_wp2
  go_returns
  exact ⟨rfl, hB1⟩
set_option maxHeartbeats 1000000 in
theorem laws_eqItemS (B B' : Nat) (a : Option Addr) (n cap : Nat) (a' : Option Addr) (n' cap' : Nat) (l : List It) (w : World) (h : ItsAt B w a n l) (h' : ItsAt B' w a' n' l) (hn : n ≤ 4194304) (hps : ∀ x ∈ l, x.ps.length ≤ 4194304) :
    Calls Tryz.prog 171 #[.slice a n cap, .slice a' n' cap'] w fun e w' => e = .returned (.bool true) ∧ Below w.heap.size w w' := by
  obtain rfl : n = n' := by rw [← h.len, ← h'.len]
  have hbn : ((n : Int) != (n : Int)) = false := by simp
  go_enter Tryz.func171, Tryz.ntmps171
  go_wp2_with fail
  go_loopw [5] (fun ix wr => ∃ (k : Nat), k ≤ n ∧ ix = .int .i64 k ∧ Below w.heap.size w wr) (fun ix _ => n - (intOf ix).toNat)
  case atStart => exact ⟨0, Nat.zero_le _, rfl, Below.refl _ _⟩
  case round =>
    obtain ⟨k, hk, rfl, hB⟩ := hrel
    by_cases hlt : k < n
    · obtain ⟨b, o, x, pa, pn, pc, rfl, hp, c0, c1, hP, _, _, _⟩ := its_at (h.below hB) hlt
      obtain ⟨b', o', y, qa, qn, qc, rfl, hq, d0, d1, hQ, _, _, _⟩ := its_at (h'.below hB) hlt
      rw [hp] at hq
      obtain rfl := Option.some.inj hq
      have hpn : pn ≤ 4194304 := by have := hps x (List.mem_of_getElem? hp); rw [hP.len] at this; exact this
      have hk1 : (k : Int) < n := by omega
      have hk2 : (0 : Int) ≤ k := by omega
      clear hp hq
      have qq := fun (u : World) (hu : Below wr.heap.size wr u) => laws_eqItem x.nm x.ps pa pn pc qa qn qc u (hP.below hu) (hQ.below hu) hpn
      go_wp2_with fail
      have g0 := gcell c0
      have g1 := gcell c1
      have g3 := gcell d0
      have g4 := gcell d1
      have hne := grw_ne wr
      refine wp_region_grow (by kernel_rfl) (by kernel_rfl) ?_
      repeat (go_big_quiet_step (first | (go_at_call 209; exact grow_of (qq _ (Grw.h _)))))
      refine wpQuiet_nil ?_
      intro w2 hx
      have hB2 := grw_out hx
      clear hx
      go_wp2
      go_roundw
      case rel => exact ⟨k + 1, by omega, by go_num, chain hB hB2⟩
      case measure => simp [intOf]; omega
    · obtain rfl : k = n := by omega
      go_wp2
      go_returns
      exact ⟨rfl, hB⟩
set_option maxHeartbeats 1000000 in
theorem laws_eqVolume (B B' : Nat) (v : Vo) (pa : Option Addr) (pn pc : Nat) (pa' : Option Addr) (pn' pc' : Nat) (w : World) (h : ItsAt B w pa pn v.its) (h' : ItsAt B' w pa' pn' v.its) (hn : pn ≤ 4194304) (hps : ∀ x ∈ v.its, x.ps.length ≤ 4194304) :
    Calls Tryz.prog 107 #[.agg #[.int .i64 v.id, .string v.nm, .bool v.fx, .slice pa pn pc], .agg #[.int .i64 v.id, .string v.nm, .bool v.fx, .slice pa' pn' pc']] w fun e w' => e = .returned (.bool true) ∧ Below w.heap.size w w' := by
  obtain ⟨id, nm, fx, its⟩ := v
  simp only at h h' hps
  have hid : (id != id) = false := by simp
  have hfx : (fx != fx) = false := by simp
  go_enter Tryz.func107, Tryz.ntmps107
  go_wp2_with fail
  refine (laws_eqItemS B B' pa pn pc pa' pn' pc' its _ (h.below (by go_grown)) (h'.below (by go_grown)) hn hps).mono ?_
  rintro e w1 ⟨rfl, hB1⟩
  replace hB1 : Below w.heap.size w w1 := chain (by go_grown) hB1
  go_wp2
  go_returns
  exact ⟨rfl, hB1⟩
set_option maxHeartbeats 1000000 in
theorem laws_eqVolumeS (B B' : Nat) (a : Option Addr) (n cap : Nat) (a' : Option Addr) (n' cap' : Nat) (l : List Vo) (w : World) (h : VsAt B w a n l) (h' : VsAt B' w a' n' l) (hn : n ≤ 4194304) (hps : ∀ v ∈ l, v.its.length ≤ 4194304 ∧ ∀ x ∈ v.its, x.ps.length ≤ 4194304) :
    Calls Tryz.prog 43 #[.slice a n cap, .slice a' n' cap'] w fun e w' => e = .returned (.bool true) ∧ Below w.heap.size w w' := by
  obtain rfl : n = n' := by rw [← h.len, ← h'.len]
  have hbn : ((n : Int) != (n : Int)) = false := by simp
  go_enter Tryz.func43, Tryz.ntmps43
  go_wp2_with fail
  go_loopw [5] (fun ix wr => ∃ (k : Nat), k ≤ n ∧ ix = .int .i64 k ∧ Below w.heap.size w wr) (fun ix _ => n - (intOf ix).toNat)
  case atStart => exact ⟨0, Nat.zero_le _, rfl, Below.refl _ _⟩
  case round =>
    obtain ⟨k, hk, rfl, hB⟩ := hrel
    by_cases hlt : k < n
    · obtain ⟨b, o, x, pa, pn, pc, rfl, hp, c0, c1, c2, c3, hP, _, _⟩ := vs_at (h.below hB) hlt
      obtain ⟨b', o', y, qa, qn, qc, rfl, hq, d0, d1, d2, d3, hQ, _, _⟩ := vs_at (h'.below hB) hlt
      rw [hp] at hq
      obtain rfl := Option.some.inj hq
      obtain ⟨m1, m2⟩ := hps x (List.mem_of_getElem? hp)
      rw [hP.len] at m1
      have hk1 : (k : Int) < n := by omega
      have hk2 : (0 : Int) ≤ k := by omega
      clear hp hq
      have qq := fun (u : World) (hu : Below wr.heap.size wr u) => laws_eqVolume B B' x pa pn pc qa qn qc u (hP.below hu) (hQ.below hu) m1 m2
      go_wp2_with fail
      have g0 := gcell c0
      have g1 := gcell c1
      have g2 := gcell c2
      have g3 := gcell c3
      have e0 := gcell d0
      have e1 := gcell d1
      have e2 := gcell d2
      have e3 := gcell d3
      have hne := grw_ne wr
      refine wp_region_grow (by kernel_rfl) (by kernel_rfl) ?_
      repeat (go_big_quiet_step (first | (go_at_call 107; exact grow_of (qq _ (Grw.h _)))))
      refine wpQuiet_nil ?_
      intro w2 hx
      have hB2 := grw_out hx
      clear hx
      go_wp2
      go_roundw
      case rel => exact ⟨k + 1, by omega, by go_num, chain hB hB2⟩
      case measure => simp [intOf]; omega
    · obtain rfl : k = n := by omega
      go_wp2
      go_returns
      exact ⟨rfl, hB⟩
end Go.Proofs.YtigldeccfpkdmaaGreatDoor
namespace Go.Proofs.YtigldeccfpkdmaaGreatDoor
open Go.ChangeShapes Go.WideShapes Go.ChangeAt Go.RowKit Go.Deep
theorem cells32 : Tryz.prog.cellsOf 159 = 2 := by kernel_rfl
theorem c9 : Tryz.prog.cellsOf 9 = 1 := by kernel_rfl
set_option maxRecDepth 100000 in
/-- An argument that is a list of extents. -/
theorem open_exs {H : Type} {enc : TypeId × Value → H} {w : World} {spare : Nat → Bool} {held : Bool} {a : Option Addr} {n cap : Nat} {d : DataW H} {p : List MemPlace}
    (h : DataW.Trod enc Tryz.prog w 0 spare held 32 (.slice a n cap) d p) : n ≤ maxLen ∧ ∃ l : List Ex, ExsAt w a n l ∧ ∀ e ∈ l, e.d.size ≤ maxLen := by
  obtain ⟨fuel, hf⟩ := h
  rcases open_slice Tryz.underlying32 hf with ⟨hcs, _⟩ | ⟨ad, len, cap', m, n', D, Pl, hcs, _, hl, hm, hmm, _, hel⟩
  · simp [Value.cells] at hcs
    obtain ⟨rfl, rfl, rfl⟩ := hcs
    exact ⟨Nat.zero_le _, [], ⟨rfl, fun i x hx => by simp at hx⟩, by simp⟩
  · simp [Value.cells] at hcs
    obtain ⟨rfl, rfl, rfl⟩ := hcs
    have hle : n ≤ m := by rw [hmm]; split <;> omega
    refine ⟨Nat.le_trans hl hm, ?_⟩
    have hone : ∀ i, i < n → ∃ q : Ex, q.d.size ≤ maxLen ∧ ∀ j v, q.cs[j]? = some v → w.cell? (ad.add (i * 2 + j)) = some v := by
      intro i hi
      obtain ⟨cs', h1, h2⟩ := hel i (by omega)
      rw [cells32] at h1
      obtain ⟨_, hlen, hcell⟩ := World.cells?_some h1
      obtain ⟨y0, y1, _, _, _, t0, t1⟩ := trod_struct2 Tryz.underlying159 h2
      obtain ⟨z0, e0, _, _⟩ := DataW.trod_int Tryz.underlying2 t0
      obtain ⟨z1, e1, _, hz⟩ := DataW.trod_string Tryz.underlying9 t1
      match cs', hlen with
      | [x0, x1], _ =>
        simp [c2, c9] at e0 e1
        subst e0 e1
        refine ⟨⟨z0, z1⟩, hz, fun j v hv => ?_⟩
        have hj : j < 2 := by have := (List.getElem?_eq_some_iff.1 hv).1; simpa [Ex.cs] using this
        have := hcell j hj
        rw [Addr.add_add] at this
        rw [this]; exact hv
    have hinh : Inhabited Ex := ⟨⟨0, .empty⟩⟩
    obtain ⟨L, hL⟩ := choose_lt (α := Ex) (p := fun i q => q.d.size ≤ maxLen ∧ ∀ j v, q.cs[j]? = some v → w.cell? (ad.add (i * 2 + j)) = some v) hone
    refine ⟨(List.range n).map L, ⟨by simp, fun i x hx => ?_⟩, ?_⟩
    · have hi : i < n := by have := (List.getElem?_eq_some_iff.1 hx).1; simpa using this
      simp [hi] at hx
      subst hx
      have h00 := (hL 0 (by omega)).2 0 _ rfl
      obtain ⟨b, o, rfl⟩ := spotless h00 rfl
      exact ⟨b, o, rfl, fun j v hv => by have := (hL i hi).2 j v hv; rw [Addr.add_lit] at this; rw [Nat.add_assoc]; exact this⟩
    · intro e he
      obtain ⟨i, hi, rfl⟩ := List.mem_map.1 he
      exact (hL i (by simpa using hi)).1
end Go.Proofs.YtigldeccfpkdmaaGreatDoor
