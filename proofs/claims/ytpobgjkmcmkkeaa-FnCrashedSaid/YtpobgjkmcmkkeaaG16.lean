/- The laws' copy of a disk; a disk that is an argument. How the laws' arguments, as they are read, lie in memory: disks. -/
import Derived.Test.YtpobgjkmcmkkeaaG15
namespace Go.Proofs.Ytpobgjkmcmkkeaa
open Go Go.RowKit Go.BigFrame
open Go.ChangeShapes Go.WideShapes Go.ChangeAt Go.Deep Go.Joins

theorem setOldB {w w' : World} {b i : Nat} {x : Value} (h : Below w.heap.size w w') (hb : w.heap.size ≤ b) : Below w.heap.size w (w'.setCell ⟨b, i, none⟩ x) := h.setCell (by simpa using hb) _
theorem OwnAt.set {α : Type} {cs : α → List Value} {sz : Nat} {t : TypeId} {w : World} {b n c i : Nat} {x : Value} {l : List α} (h : OwnAt cs sz t w b n l) (hb : b ≠ c) : OwnAt cs sz t (w.setCell ⟨c, i, none⟩ x) b n l := h.grown (grown_set (World.grownBy.refl _ _) _ _) hb
theorem Blk.setO {w : World} {b c i : Nat} {cc : Array Value} {t : TypeId} {x : Value} (h : Blk w b cc t) (hb : b ≠ c) : Blk (w.setCell ⟨c, i, none⟩ x) b cc t := h.grown (grown_set (World.grownBy.refl _ _) _ _) hb

set_option maxHeartbeats 2000000 in
set_option maxRecDepth 100000 in
theorem laws_toDisk (v : Value) (d : Dk) (w : World) (h : DiskL w v d) (hs : SmallDk d) :
    Calls Try.prog 27 #[v] w fun e w' => (∃ v', e = .returned v' ∧ DiskW (w.heap.size + 1) w' v' d) ∧ Below w.heap.size w w' := by
  obtain ⟨la, ln, lc, sa, sn, sc, oa, on, oc, rfl, h1, h2, h3⟩ := h
  obtain ⟨d1, d2, d3⟩ := hs.dims
  rw [h1.len] at d1
  rw [h2.len] at d2
  rw [h3.len] at d3
  clear hs
  obtain ⟨live, safe, ops⟩ := d
  simp only at *
  obtain ⟨W0, hW0⟩ : ∃ W0, W0 = ((w.alloc (.cells #[.slice la ln lc, .slice sa sn sc, .slice oa on oc] 50)).alloc (.cells #[.slice none 0 0, .slice none 0 0, .slice none 0 0] 27)).alloc (.cells #[.slice none 0 0, .slice none 0 0, .slice none 0 0] 27) := ⟨_, rfl⟩
  have hB0 : Below w.heap.size w W0 := by rw [hW0]; go_grown
  have K0 : Blk W0 w.heap.size #[.slice la ln lc, .slice sa sn sc, .slice oa on oc] 50 := by rw [hW0]; exact ((Blk.new w _ _).alloc _).alloc _
  have K1 : Blk W0 (w.heap.size + 1) #[.slice none 0 0, .slice none 0 0, .slice none 0 0] 27 := by rw [hW0]; exact (Blk.new' _ _ _ _ (by simp)).alloc _
  have K2 : Blk W0 (w.heap.size + 1 + 1) #[.slice none 0 0, .slice none 0 0, .slice none 0 0] 27 := by rw [hW0]; exact Blk.new' _ _ _ _ (by simp)
  have hz0 : W0.heap.size = w.heap.size + 1 + 1 + 1 := by rw [hW0]; simp
  go_enter Try.func27, Try.ntmps27
  go_wp2_with fail
  rw [← hW0]
  clear hW0
  refine (laws_toFileS la ln lc live W0 (h1.below hB0) (by omega)).mono ?_
  rintro e w1 ⟨rfl, O1, hB1⟩
  have hz1 := hB1.size
  simp only [hz0] at O1 hz1 ⊢
  replace K0 := K0.below hB1
  replace K1 := K1.below hB1
  replace K2 := K2.below hB1
  replace hB1 := chain hB0 hB1
  have g0 := K2.frozen 0
  have y0 := K2.three.1
  have x1 := K0.three.2.1
  have x1' : (w1.setCell ⟨w.heap.size + 1 + 1, 0, none⟩ (.slice (some ⟨w.heap.size + 1 + 1 + 1, 0, none⟩) ln ln)).cell? ⟨w.heap.size, 1, none⟩ = some (.slice sa sn sc) := (K0.setO (by omega)).three.2.1
  go_wp2_with fail
  have T0 := K0.setO (c := w.heap.size + 1 + 1) (i := 0) (x := .slice (some ⟨w.heap.size + 1 + 1 + 1, 0, none⟩) ln ln) (by omega)
  have T1 := K1.setO (c := w.heap.size + 1 + 1) (i := 0) (x := .slice (some ⟨w.heap.size + 1 + 1 + 1, 0, none⟩) ln ln) (by omega)
  have T2 := K2.set 0 (.slice (some ⟨w.heap.size + 1 + 1 + 1, 0, none⟩) ln ln)
  have P1 := O1.set (c := w.heap.size + 1 + 1) (i := 0) (x := .slice (some ⟨w.heap.size + 1 + 1 + 1, 0, none⟩) ln ln) (by omega)
  have hB2 := setOldB (h := hB1) (b := w.heap.size + 1 + 1) (i := 0) (x := .slice (some ⟨w.heap.size + 1 + 1 + 1, 0, none⟩) ln ln) (by omega)
  have hz2 : w.heap.size + 1 + 1 + 1 < (w1.setCell ⟨w.heap.size + 1 + 1, 0, none⟩ (.slice (some ⟨w.heap.size + 1 + 1 + 1, 0, none⟩) ln ln)).heap.size := P1.lt
  simp only [List.setIfInBounds_toArray, List.set_cons_zero] at T2
  generalize w1.setCell ⟨w.heap.size + 1 + 1, 0, none⟩ (.slice (some ⟨w.heap.size + 1 + 1 + 1, 0, none⟩) ln ln) = u1 at *
  clear K0 K1 K2 O1 hB1 g0 y0 x1 x1' hz1
  refine (laws_toFileS sa sn sc safe u1 (h2.below hB2) (by omega)).mono ?_
  rintro e w2 ⟨rfl, O2, hB3⟩
  replace T0 := T0.below hB3
  replace T1 := T1.below hB3
  replace T2 := T2.below hB3
  replace P1 := P1.below hB3
  replace hB3 := chain hB2 hB3
  have g0 := T2.frozen 1
  have y0 := T2.three.2.1
  have x1' : (w2.setCell ⟨w.heap.size + 1 + 1, 1, none⟩ (.slice (some ⟨u1.heap.size, 0, none⟩) sn sn)).cell? ⟨w.heap.size, 2, none⟩ = some (.slice oa on oc) := (T0.setO (by omega)).three.2.2
  go_wp2_with fail
  have V0 := T0.setO (c := w.heap.size + 1 + 1) (i := 1) (x := .slice (some ⟨u1.heap.size, 0, none⟩) sn sn) (by omega)
  have V1 := T1.setO (c := w.heap.size + 1 + 1) (i := 1) (x := .slice (some ⟨u1.heap.size, 0, none⟩) sn sn) (by omega)
  have V2 := T2.set 1 (.slice (some ⟨u1.heap.size, 0, none⟩) sn sn)
  have Q1 := P1.set (c := w.heap.size + 1 + 1) (i := 1) (x := .slice (some ⟨u1.heap.size, 0, none⟩) sn sn) (by omega)
  have Q2 := O2.set (c := w.heap.size + 1 + 1) (i := 1) (x := .slice (some ⟨u1.heap.size, 0, none⟩) sn sn) (by omega)
  have hB4 := setOldB (h := hB3) (b := w.heap.size + 1 + 1) (i := 1) (x := .slice (some ⟨u1.heap.size, 0, none⟩) sn sn) (by omega)
  have hz3 : u1.heap.size < (w2.setCell ⟨w.heap.size + 1 + 1, 1, none⟩ (.slice (some ⟨u1.heap.size, 0, none⟩) sn sn)).heap.size := Q2.lt
  simp only [List.setIfInBounds_toArray, List.set_cons_zero, List.set_cons_succ] at V2
  generalize w2.setCell ⟨w.heap.size + 1 + 1, 1, none⟩ (.slice (some ⟨u1.heap.size, 0, none⟩) sn sn) = u2 at *
  clear T0 T1 T2 P1 O2 hB3 g0 y0 x1' hB2
  refine (laws_toDOpS oa on oc ops u2 (h3.below hB4) (by omega)).mono ?_
  rintro e w3 ⟨rfl, O3, hB5⟩
  replace V1 := V1.below hB5
  replace V2 := V2.below hB5
  replace Q1 := Q1.below hB5
  replace Q2 := Q2.below hB5
  replace hB5 := chain hB4 hB5
  have g2 := V2.frozen 2
  obtain ⟨y0, y1, y2⟩ := V2.three
  obtain ⟨z0, z1, z2⟩ := V1.three
  have f0 := V1.frozen 0
  have f1 := V1.frozen 1
  have f2 := V1.frozen 2
  have hne : ¬ w.heap.size + 1 = w.heap.size + 1 + 1 := by omega
  have hne' : ¬ w.heap.size + 1 + 1 = w.heap.size + 1 := by omega
  go_wp2
  have X1 := (((V1.setO (c := w.heap.size + 1 + 1) (i := 2) (x := .slice (some ⟨u2.heap.size, 0, none⟩) on on) (by omega)).set 0 (.slice (some ⟨w.heap.size + 1 + 1 + 1, 0, none⟩) ln ln)).set 1 (.slice (some ⟨u1.heap.size, 0, none⟩) sn sn)).set 2 (.slice (some ⟨u2.heap.size, 0, none⟩) on on)
  simp only [List.setIfInBounds_toArray, List.set_cons_succ, List.set_cons_zero] at X1
  have R1 := (((Q1.set (c := w.heap.size + 1 + 1) (i := 2) (x := .slice (some ⟨u2.heap.size, 0, none⟩) on on) (by omega)).set (c := w.heap.size + 1) (i := 0) (x := .slice (some ⟨w.heap.size + 1 + 1 + 1, 0, none⟩) ln ln) (by omega)).set (c := w.heap.size + 1) (i := 1) (x := .slice (some ⟨u1.heap.size, 0, none⟩) sn sn) (by omega)).set (c := w.heap.size + 1) (i := 2) (x := .slice (some ⟨u2.heap.size, 0, none⟩) on on) (by omega)
  have R2 := (((Q2.set (c := w.heap.size + 1 + 1) (i := 2) (x := .slice (some ⟨u2.heap.size, 0, none⟩) on on) (by omega)).set (c := w.heap.size + 1) (i := 0) (x := .slice (some ⟨w.heap.size + 1 + 1 + 1, 0, none⟩) ln ln) (by omega)).set (c := w.heap.size + 1) (i := 1) (x := .slice (some ⟨u1.heap.size, 0, none⟩) sn sn) (by omega)).set (c := w.heap.size + 1) (i := 2) (x := .slice (some ⟨u2.heap.size, 0, none⟩) on on) (by omega)
  have R3 := (((O3.set (c := w.heap.size + 1 + 1) (i := 2) (x := .slice (some ⟨u2.heap.size, 0, none⟩) on on) (by omega)).set (c := w.heap.size + 1) (i := 0) (x := .slice (some ⟨w.heap.size + 1 + 1 + 1, 0, none⟩) ln ln) (by omega)).set (c := w.heap.size + 1) (i := 1) (x := .slice (some ⟨u1.heap.size, 0, none⟩) sn sn) (by omega)).set (c := w.heap.size + 1) (i := 2) (x := .slice (some ⟨u2.heap.size, 0, none⟩) on on) (by omega)
  have hB6 := setOldB (h := (setOldB (h := (setOldB (h := (setOldB (h := hB5) (b := w.heap.size + 1 + 1) (i := 2) (x := .slice (some ⟨u2.heap.size, 0, none⟩) on on) (by omega))) (b := w.heap.size + 1) (i := 0) (x := .slice (some ⟨w.heap.size + 1 + 1 + 1, 0, none⟩) ln ln) (by omega))) (b := w.heap.size + 1) (i := 1) (x := .slice (some ⟨u1.heap.size, 0, none⟩) sn sn) (by omega))) (b := w.heap.size + 1) (i := 2) (x := .slice (some ⟨u2.heap.size, 0, none⟩) on on) (by omega)
  generalize (((w3.setCell ⟨w.heap.size + 1 + 1, 2, none⟩ (.slice (some ⟨u2.heap.size, 0, none⟩) on on)).setCell ⟨w.heap.size + 1, 0, none⟩ (.slice (some ⟨w.heap.size + 1 + 1 + 1, 0, none⟩) ln ln)).setCell ⟨w.heap.size + 1, 1, none⟩ (.slice (some ⟨u1.heap.size, 0, none⟩) sn sn)).setCell ⟨w.heap.size + 1, 2, none⟩ (.slice (some ⟨u2.heap.size, 0, none⟩) on on) = W8 at *
  refine bodyPost_ret (results_cell_row rfl _ W8 (w.heap.size + 1) _ _ _ _ rfl X1 Try.underlying27 rfl (by kernel_rfl)) rfl ?_
  exact ⟨⟨_, rfl, _, _, _, _, _, _, _, _, _, rfl, R1.wr (by omega), R2.wr (by omega), R3.wr (by omega), fun x y ex ey => by cases ex; cases ey; show w.heap.size + 1 + 1 + 1 ≠ u1.heap.size; omega⟩, hB6⟩
end Go.Proofs.Ytpobgjkmcmkkeaa
namespace Go.Proofs.Ytpobgjkmcmkkeaa
open Go.ChangeShapes Go.WideShapes Go.ChangeAt Go.RowKit Go.Deep Go.Joins
theorem cS1 : Try.prog.cellsOf 9 = 1 := by kernel_rfl
theorem cI1 : Try.prog.cellsOf 2 = 1 := by kernel_rfl

set_option maxRecDepth 100000 in
theorem open_fls {H : Type} {enc : TypeId × Value → H} {w : World} {spare : Nat → Bool} {held : Bool} {a : Option Addr} {n cap : Nat} {d : DataW H} {p : List MemPlace}
    (h : DataW.Trod enc Try.prog w 0 spare held 47 (.slice a n cap) d p) : n ≤ maxLen ∧ ∃ l : List Fl, FlsAt w a n l ∧ ∀ e ∈ l, e.nm.size ≤ maxLen ∧ e.d.size ≤ maxLen := by
  obtain ⟨fuel, hf⟩ := h
  rcases open_slice Try.underlying47 hf with ⟨hcs, _⟩ | ⟨ad, len, cap', m, n', D, Pl, hcs, _, hl, hm, hmm, _, hel⟩
  · simp [Value.cells] at hcs
    obtain ⟨rfl, rfl, rfl⟩ := hcs
    exact ⟨Nat.zero_le _, [], ⟨rfl, fun i x hx => by simp at hx⟩, by simp⟩
  · simp [Value.cells] at hcs
    obtain ⟨rfl, rfl, rfl⟩ := hcs
    have hle : n ≤ m := by rw [hmm]; split <;> omega
    refine ⟨Nat.le_trans hl hm, ?_⟩
    have hone : ∀ i, i < n → ∃ q : Fl, (q.nm.size ≤ maxLen ∧ q.d.size ≤ maxLen) ∧ ∀ j v, q.cs[j]? = some v → w.cell? (ad.add (i * 2 + j)) = some v := by
      intro i hi
      obtain ⟨cs', h1, h2⟩ := hel i (by omega)
      rw [show Try.prog.cellsOf 126 = 2 by kernel_rfl] at h1
      obtain ⟨_, hlen, hcell⟩ := World.cells?_some h1
      obtain ⟨y0, y1, _, _, _, t0, t1⟩ := trod_struct2 Try.underlying126 h2
      obtain ⟨z0, e0, _, hz0⟩ := DataW.trod_string Try.underlying9 t0
      obtain ⟨z1, e1, _, hz1⟩ := DataW.trod_string Try.underlying9 t1
      match cs', hlen with
      | [x0, x1], _ =>
        simp [cS1] at e0 e1
        subst e0 e1
        refine ⟨⟨z0, z1⟩, ⟨hz0, hz1⟩, fun j v hv => ?_⟩
        have hj : j < 2 := by have := (List.getElem?_eq_some_iff.1 hv).1; simpa [Fl.cs] using this
        have := hcell j hj
        rw [Addr.add_add] at this
        rw [this]; exact hv
    have hinh : Inhabited Fl := ⟨⟨.empty, .empty⟩⟩
    obtain ⟨L, hL⟩ := choose_lt (α := Fl) (p := fun i q => (q.nm.size ≤ maxLen ∧ q.d.size ≤ maxLen) ∧ ∀ j v, q.cs[j]? = some v → w.cell? (ad.add (i * 2 + j)) = some v) hone
    refine ⟨(List.range n).map L, ⟨by simp, fun i x hx => ?_⟩, ?_⟩
    · have hi : i < n := by have := (List.getElem?_eq_some_iff.1 hx).1; simpa using this
      simp [hi] at hx
      subst hx
      have h00 := (hL 0 (by omega)).2 0 _ rfl
      obtain ⟨b, o, rfl⟩ := spotless h00 rfl
      exact ⟨b, o, rfl, fun j v hv => by have := (hL i hi).2 j v hv; rw [Addr.add_lit] at this; rw [Nat.add_assoc]; exact this⟩
    · intro e he
      obtain ⟨i, hi, rfl⟩ := List.mem_map.1 he
      exact (hL i (by simpa using hi)).1

set_option maxRecDepth 100000 in
theorem open_dps {H : Type} {enc : TypeId × Value → H} {w : World} {spare : Nat → Bool} {held : Bool} {a : Option Addr} {n cap : Nat} {d : DataW H} {p : List MemPlace}
    (h : DataW.Trod enc Try.prog w 0 spare held 48 (.slice a n cap) d p) : n ≤ maxLen ∧ ∃ l : List Dp, DpsAt w a n l ∧ ∀ e ∈ l, e.nm.size ≤ maxLen ∧ e.tt.size ≤ maxLen ∧ e.d.size ≤ maxLen := by
  obtain ⟨fuel, hf⟩ := h
  rcases open_slice Try.underlying48 hf with ⟨hcs, _⟩ | ⟨ad, len, cap', m, n', D, Pl, hcs, _, hl, hm, hmm, _, hel⟩
  · simp [Value.cells] at hcs
    obtain ⟨rfl, rfl, rfl⟩ := hcs
    exact ⟨Nat.zero_le _, [], ⟨rfl, fun i x hx => by simp at hx⟩, by simp⟩
  · simp [Value.cells] at hcs
    obtain ⟨rfl, rfl, rfl⟩ := hcs
    have hle : n ≤ m := by rw [hmm]; split <;> omega
    refine ⟨Nat.le_trans hl hm, ?_⟩
    have hone : ∀ i, i < n → ∃ q : Dp, (q.nm.size ≤ maxLen ∧ q.tt.size ≤ maxLen ∧ q.d.size ≤ maxLen) ∧ ∀ j v, q.cs[j]? = some v → w.cell? (ad.add (i * 4 + j)) = some v := by
      intro i hi
      obtain ⟨cs', h1, h2⟩ := hel i (by omega)
      rw [show Try.prog.cellsOf 55 = 4 by kernel_rfl] at h1
      obtain ⟨_, hlen, hcell⟩ := World.cells?_some h1
      obtain ⟨y0, y1, y2, y3, _, _, _, t0, t1, t2, t3⟩ := trod_struct4 Try.underlying55 h2
      obtain ⟨z0, e0, _, _⟩ := DataW.trod_int Try.underlying2 t0
      obtain ⟨z1, e1, _, hz1⟩ := DataW.trod_string Try.underlying9 t1
      obtain ⟨z2, e2, _, hz2⟩ := DataW.trod_string Try.underlying9 t2
      obtain ⟨z3, e3, _, hz3⟩ := DataW.trod_string Try.underlying9 t3
      match cs', hlen with
      | [x0, x1, x2, x3], _ =>
        simp [cS1, cI1] at e0 e1 e2 e3
        subst e0 e1 e2 e3
        refine ⟨⟨z0, z1, z2, z3⟩, ⟨hz1, hz2, hz3⟩, fun j v hv => ?_⟩
        have hj : j < 4 := by have := (List.getElem?_eq_some_iff.1 hv).1; simpa [Dp.cs] using this
        have := hcell j hj
        rw [Addr.add_add] at this
        rw [this]; exact hv
    have hinh : Inhabited Dp := ⟨⟨0, .empty, .empty, .empty⟩⟩
    obtain ⟨L, hL⟩ := choose_lt (α := Dp) (p := fun i q => (q.nm.size ≤ maxLen ∧ q.tt.size ≤ maxLen ∧ q.d.size ≤ maxLen) ∧ ∀ j v, q.cs[j]? = some v → w.cell? (ad.add (i * 4 + j)) = some v) hone
    refine ⟨(List.range n).map L, ⟨by simp, fun i x hx => ?_⟩, ?_⟩
    · have hi : i < n := by have := (List.getElem?_eq_some_iff.1 hx).1; simpa using this
      simp [hi] at hx
      subst hx
      have h00 := (hL 0 (by omega)).2 0 _ rfl
      obtain ⟨b, o, rfl⟩ := spotless h00 rfl
      exact ⟨b, o, rfl, fun j v hv => by have := (hL i hi).2 j v hv; rw [Addr.add_lit] at this; rw [Nat.add_assoc]; exact this⟩
    · intro e he
      obtain ⟨i, hi, rfl⟩ := List.mem_map.1 he
      exact (hL i (by simpa using hi)).1

theorem DiskL.cells {w : World} {v : Value} {d : Dk} (h : DiskL w v d) : ∃ la ln lc sa sn sc oa on oc, v = .agg #[.slice la ln lc, .slice sa sn sc, .slice oa on oc] := by
  obtain ⟨la, ln, lc, sa, sn, sc, oa, on, oc, rfl, _⟩ := h
  exact ⟨_, _, _, _, _, _, _, _, _, rfl⟩
theorem slice_cellD {H : Type} {enc : TypeId × Value → H} {P : Program} {w : World} {spare : Nat → Bool} {held : Bool} {t e : TypeId} {fuel : Nat} {x : Value} {y : DataW H × List MemPlace} (ht : P.underlying t = some (.slice e)) (h : DataW.trod enc P w 0 spare held fuel t [x] = some y) :
    ∃ a n cap, x = .slice a n cap := by
  rcases open_slice ht h with ⟨hcs, _⟩ | ⟨ad, len, cap', m, n', D, Pl, hcs, _, hl, hm, _⟩
  · exact ⟨none, 0, 0, by simpa using hcs⟩
  · exact ⟨some ad, len, cap', by simpa using hcs⟩
theorem array3 {α : Type} {cs : Array α} (h : cs.size = 3) : ∃ c0 c1 c2, cs = #[c0, c1, c2] := by
  obtain ⟨l⟩ := cs
  match l, h with
  | [c0, c1, c2], _ => exact ⟨c0, c1, c2, rfl⟩
set_option maxRecDepth 100000 in
/-- An argument that is a disk. -/
theorem open_disk {H : Type} {enc : TypeId × Value → H} {W : World} {r : Reach} {b0 : Nat} {spare : Nat → Bool} {held : Bool} {v : Value} {d : DataW H} {p : List MemPlace}
    (hv : Value.okWide Try.prog W r b0 50 v) (h : DataW.Trod enc Try.prog W 0 spare held 50 v d p) :
    ∃ q : Dk, DiskL W v q ∧ BigD q := by
  have hc : Try.prog.cellsOf 50 = 3 := by kernel_rfl
  have hcF : Try.prog.cellsOf 47 = 1 := by kernel_rfl
  have hcD : Try.prog.cellsOf 48 = 1 := by kernel_rfl
  obtain ⟨cs, rfl, hsz⟩ := okWide_struct Try.underlying50 hv
  obtain ⟨c0, c1, c2, rfl⟩ := array3 (hsz.trans hc)
  obtain ⟨fuel, hf⟩ := h
  obtain ⟨xs, n, _, _, _, hlen, hx⟩ := DataW.trod_struct Try.underlying50 hf
  have len3 : xs.length = 3 := hlen
  have q0 : DataW.trod enc Try.prog W 0 spare held n 47 [c0] = some (xs[0]'(by omega)) := by
    have := hx 0 _ rfl
    rw [List.getElem?_eq_getElem (by omega)] at this
    simpa [Value.cells, hcF] using this
  have q1 : DataW.trod enc Try.prog W 0 spare held n 47 [c1] = some (xs[1]'(by omega)) := by
    have := hx 1 _ rfl
    rw [List.getElem?_eq_getElem (by omega)] at this
    simpa [Value.cells, hcF] using this
  have q2 : DataW.trod enc Try.prog W 0 spare held n 48 [c2] = some (xs[2]'(by omega)) := by
    have := hx 2 _ rfl
    rw [List.getElem?_eq_getElem (by omega)] at this
    simpa [Value.cells, hcD] using this
  obtain ⟨la, ln, lc, rfl⟩ := slice_cellD Try.underlying47 q0
  obtain ⟨sa, sn, sc, rfl⟩ := slice_cellD Try.underlying47 q1
  obtain ⟨oa, on, oc, rfl⟩ := slice_cellD Try.underlying48 q2
  obtain ⟨m1, live, h1, s1⟩ := open_fls (d := (xs[0]'(by omega)).1) (p := (xs[0]'(by omega)).2) ⟨_, q0⟩
  obtain ⟨m2, safe, h2, s2⟩ := open_fls (d := (xs[1]'(by omega)).1) (p := (xs[1]'(by omega)).2) ⟨_, q1⟩
  obtain ⟨m3, ops, h3, s3⟩ := open_dps (d := (xs[2]'(by omega)).1) (p := (xs[2]'(by omega)).2) ⟨_, q2⟩
  unfold maxLen at s1 s2 s3 m1 m2 m3
  refine ⟨⟨live, safe, ops⟩, ⟨la, ln, lc, sa, sn, sc, oa, on, oc, rfl, h1, h2, h3⟩, ⟨?_, ?_⟩, ⟨?_, ?_⟩, ?_, ?_⟩
  · show live.length ≤ _; rw [h1.len]; omega
  · exact fun e he => by have := s1 e he; exact ⟨by omega, by omega⟩
  · show safe.length ≤ _; rw [h2.len]; omega
  · exact fun e he => by have := s2 e he; exact ⟨by omega, by omega⟩
  · show ops.length ≤ _; rw [h3.len]; omega
  · exact fun e he => by have := s3 e he; exact ⟨by omega, by omega, by omega⟩
end Go.Proofs.Ytpobgjkmcmkkeaa
