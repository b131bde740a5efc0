/- An op on a right disk, Do and Sync, by the model. Do and Sync, by the model. -/
import Derived.Test.YtigldeccfpkdmaaGreatDoorCStoreNewx23
namespace Go.Proofs.YtigldeccfpkdmaaGreatDoor
open Go Go.RowKit Go.BigFrame
/-- A goal that the walk leaves alone. -/
structure Held (p : Prop) : Prop where
  out : p
/-- What an op comes to on a right disk. -/
def actD (d : Dk) (o : Dp) : Dk × Int :=
  if formB o = false then (d, 2) else if (doF d.live o).2 = false then (d, 3) else if (decide (d.ops.length = 200) || !filesB (doF d.live o).1) = true then (d, 4) else (⟨(doF d.live o).1, d.safe, d.ops ++ [o]⟩, 0)
def noD : Dk := ⟨[], [], []⟩
def syncD (d : Dk) : Dk := if diskB d = true then ⟨d.live, d.live, []⟩ else noD
theorem noD_R (B : Nat) (w : World) : DiskR B w (.agg #[.slice none 0 0, .slice none 0 0, .slice none 0 0]) noD := ⟨_, _, _, _, _, _, _, _, _, rfl, res_nil, res_nil, res_nil⟩
theorem blk_three {w : World} {b : Nat} {c0 c1 c2 : Value} {t : TypeId} (h : Blk w b #[c0, c1, c2] t) : (w.cell? ⟨b, 0, none⟩ = some c0 ∧ w.cell? ⟨b, 1, none⟩ = some c1 ∧ w.cell? ⟨b, 2, none⟩ = some c2) ∧ w.frozen? ⟨b, 0, none⟩ = false ∧ w.frozen? ⟨b, 1, none⟩ = false ∧ w.frozen? ⟨b, 2, none⟩ = false := ⟨h.three, h.frozen 0, h.frozen 1, h.frozen 2⟩
theorem blk_four {w : World} {b : Nat} {c0 c1 c2 c3 : Value} {t : TypeId} (h : Blk w b #[c0, c1, c2, c3] t) : w.cell? ⟨b, 0, none⟩ = some c0 ∧ w.cell? ⟨b, 1, none⟩ = some c1 ∧ w.cell? ⟨b, 2, none⟩ = some c2 ∧ w.cell? ⟨b, 3, none⟩ = some c3 := ⟨h.cell 0, h.cell 1, h.cell 2, h.cell 3⟩
theorem sl_newDp (w : World) (r : Dp) (t : TypeId) (b : Nat) (hb : b = w.heap.size) : SlAt Dp.cs 4 (w.alloc (.cells #[.int .i64 r.k, .string r.nm, .string r.tt, .string r.d] t)) (some ⟨b, 0, none⟩) 1 [r] := by
  subst hb
  exact sl_blk (x := r) dpcs_len (Blk.new w (Dp.cs r).toArray t)
/-- A struct in a cell, and a value. -/
theorem results_cell_tmpJ {P : Program} {fn : Func} {p q : Tmp} {ty : TypeId} (h : fn.results = #[.cell p ty, .tmp q]) (tmps : Array Value) (w : World) (g : Nat) (t : TypeId) (cs : Array Value) (fr : Nat × Nat) (d : TypeDesc) (v : Value)
    (hp : tmps.getD p undef = .pointer (some ⟨g, 0, none⟩)) (hg : w.heap[g]? = some (.cells cs t fr))
    (hu : P.underlying ty = some d) (hd : (match d with | .struct _ | .array _ _ => true | _ => false) = true) (hi : (P.info? ty).map (·.size) = some cs.size) (hq : tmps.getD q undef = v) :
    (results fn tmps).run P w = .ok (.tuple #[.agg cs, v]) w := by
  have hp' : tmps[p]?.getD undef = .pointer (some ⟨g, 0, none⟩) := by simpa using hp
  have hq' : tmps[q]?.getD undef = v := by simpa using hq
  simp [results, h, hp', hq', asAddr, run_loadVar_row w g t ty cs fr d hg hu hd hi]
/-- The files that are seen and those that are safe lie apart. -/
def SepD (v : Value) : Prop := ∀ la ln lc sa sn sc o, v = .agg #[.slice la ln lc, .slice sa sn sc, o] → ∀ x y, la = some x → sa = some y → x.block ≠ y.block
theorem sepD_mk {la sa : Option Addr} {ln lc sn sc : Nat} {o : Value} (h : ∀ x y, la = some x → sa = some y → x.block ≠ y.block) : SepD (.agg #[.slice la ln lc, .slice sa sn sc, o]) := by
  intro la' ln' lc' sa' sn' sc' o' e x y hx hy
  cases e
  exact h x y hx hy
set_option maxHeartbeats 4000000 in
set_option maxRecDepth 100000 in
theorem spec_l8ActS (v : Value) (d : Dk) (o : Dp) (w : World) (h : DiskAt w v d) (hd : DimD d) (hf : filesB d.live = true) (ho : StrD o ∧ o.d.size ≤ 10000000) :
    Calls Tryz.prog 81 #[v, .agg #[.int .i64 o.k, .string o.nm, .string o.tt, .string o.d]] w fun e w' => (∃ v', e = .returned (.tuple #[v', .int .i64 (actD d o).2]) ∧ DiskR (w.heap.size + 1) w' v' (actD d o).1 ∧ ((actD d o).2 = 0 → SepD v')) ∧ Below w.heap.size w w' := by
  have hD := h
  obtain ⟨la, ln, lc, sa, sn, sc, oa, on, oc, rfl, hL, hS, hO⟩ := h
  have hlen : d.live.length ≤ 4000000 ∧ d.safe.length ≤ 4000000 ∧ d.ops.length ≤ 4000000 := ⟨hd.live.1, hd.safe.1, hd.ops.1⟩
  have hln : ln ≤ 60 := by rw [← hL.sl.len]; exact (filesB_all hf).1
  have hon : on ≤ 4000000 := by rw [← hO.sl.len]; exact hd.ops.1
  have hcb : ∀ f ∈ d.live, f.d.size ≤ 100000000 := fun f hm => by have := sumB_mem hm; have := (filesB_all hf).2.1; omega
  have hbn := doF_bnd hf ho.1 ho.2
  have hdl := doF_len d.live o
  have lL : Hid (d.live.length = ln) := hL.sl.len
  have lO : Hid (d.ops.length = on) := hO.sl.len
  have hact : Hid (actD d o = if formB o = false then (d, 2) else if (doF d.live o).2 = false then (d, 3) else if (decide (d.ops.length = 200) || !filesB (doF d.live o).1) = true then (d, 4) else (⟨(doF d.live o).1, d.safe, d.ops ++ [o]⟩, 0)) := rfl
  obtain ⟨W0, hW0⟩ : ∃ W0, W0 = ((w.alloc (.cells #[.slice la ln lc, .slice sa sn sc, .slice oa on oc] 52)).alloc (.cells #[.int .i64 o.k, .string o.nm, .string o.tt, .string o.d] 120)).alloc (.cells #[.slice none 0 0, .slice none 0 0, .slice none 0 0] 52) := ⟨_, rfl⟩
  have hB0 : Below w.heap.size w W0 := by rw [hW0]; go_grown
  have K0 : Blk W0 w.heap.size #[.slice la ln lc, .slice sa sn sc, .slice oa on oc] 52 := by rw [hW0]; exact ((Blk.new w _ _).alloc _).alloc _
  have K1 : Blk W0 (w.heap.size + 1) #[.int .i64 o.k, .string o.nm, .string o.tt, .string o.d] 120 := by rw [hW0]; exact (Blk.new' _ _ _ _ (by simp)).alloc _
  have K2 : Blk W0 (w.heap.size + 1 + 1) #[.slice none 0 0, .slice none 0 0, .slice none 0 0] 52 := by rw [hW0]; exact Blk.new' _ _ _ _ (by simp)
  have hz0 : Hid (W0.heap.size = w.heap.size + 1 + 1 + 1) := by show _ = _; rw [hW0]; simp
  go_enter Tryz.func81, Tryz.ntmps81
  go_wp2_with fail
  rw [← hW0]
  clear hW0
  refine (spec_l8Form o W0 ho.1).mono ?_
  rintro e w1 ⟨rfl, hB1⟩
  replace K0 := K0.below hB1
  replace K1 := K1.below hB1
  replace K2 := K2.below hB1
  have hz1 : Hid (w.heap.size + 1 + 1 + 1 ≤ w1.heap.size) := by have := hB1.size; have := hz0.out; show _ ≤ _; omega
  replace hB1 := chain hB0 hB1
  clear hB0 hz0
  cases hfo : formB o
  · rw [hfo] at hact
    have hact2 : Hid (actD d o = (d, 2)) := hact.out
    clear hact
    obtain ⟨x0, x1, x2⟩ := K0.three
    go_wp2_with fail
    refine (spec_l8Copy _ d w1 (hD.below hB1) hlen).mono ?_
    rintro e w9 ⟨⟨v9, rfl, R9⟩, hB9⟩
    have hz9 := hB9.size
    replace K2 := K2.below hB9
    replace hB9 := chain hB1 hB9
    obtain ⟨la9, ln9, lc9, sa9, sn9, sc9, oa9, on9, oc9, rfl⟩ := R9.at.l.cells
    obtain ⟨⟨z0, z1, z2⟩, f0, f1, f2⟩ := blk_three K2
    clear x0 x1 x2
    go_wp2
    have E8 := K2.put3 (x := .slice la9 ln9 lc9) (y := .slice sa9 sn9 sc9) (z := .slice oa9 on9 oc9)
    have hg8 := grown_put3 w9 (w.heap.size + 1 + 1) (.slice la9 ln9 lc9) (.slice sa9 sn9 sc9) (.slice oa9 on9 oc9)
    have DR8 := R9.off hg8 (by have := hz1.out; omega)
    have hB8 := below_grown hB9 hg8 (by omega)
    generalize ((w9.setCell ⟨w.heap.size + 1 + 1, 0, none⟩ (.slice la9 ln9 lc9)).setCell ⟨w.heap.size + 1 + 1, 1, none⟩ (.slice sa9 sn9 sc9)).setCell ⟨w.heap.size + 1 + 1, 2, none⟩ (.slice oa9 on9 oc9) = W8 at *
    refine bodyPost_ret (results_cell_tmpJ rfl _ W8 (w.heap.size + 1 + 1) _ _ _ _ _ rfl E8 Tryz.underlying52 rfl (by kernel_rfl) rfl) rfl ?_
    exact ⟨⟨_, by rw [hact2.out] <;> rfl, by rw [hact2.out]; exact DR8.mono (by have := hz1.out; omega), fun h0 => by rw [hact2.out] at h0; simp at h0⟩, hB8⟩
  · rw [hfo] at hact
    replace hact : Hid (actD d o = if (doF d.live o).2 = false then (d, 3) else if (decide (d.ops.length = 200) || !filesB (doF d.live o).1) = true then (d, 4) else (⟨(doF d.live o).1, d.safe, d.ops ++ [o]⟩, 0)) := by show _ = _; rw [hact.out]; simp
    obtain ⟨x0, x1, x2⟩ := K0.three
    obtain ⟨y0, y1, y2, y3⟩ := blk_four K1
    go_wp2_with fail
    refine (spec_l8Do la ln lc d.live o w1 (hL.sl.below hB1) hL.spot hL.nil (by omega) hcb (by omega)).mono ?_
    rintro e w2 ⟨⟨a2, n2, c2, rfl, R2⟩, hB2⟩
    have hz2 := hB2.size
    replace K0 := K0.below hB2
    replace K1 := K1.below hB2
    replace K2 := K2.below hB2
    replace hB2 := chain hB1 hB2
    have hn2 : n2 ≤ 61 := by rw [← R2.sl.len]; have := lL.out; omega
    clear x0 x1 x2 y0 y1 y2 y3 hB1
    cases hok : (doF d.live o).2
    · have hact2 : Hid (actD d o = (d, 3)) := by show _ = _; rw [hact.out, hok]; simp
      clear hact
      obtain ⟨x0, x1, x2⟩ := K0.three
      go_wp2_with fail
      refine (spec_l8Copy _ d w2 (hD.below hB2) hlen).mono ?_
      rintro e w9 ⟨⟨v9, rfl, R9⟩, hB9⟩
      have hz9 := hB9.size
      replace K2 := K2.below hB9
      replace hB9 := chain hB2 hB9
      obtain ⟨la9, ln9, lc9, sa9, sn9, sc9, oa9, on9, oc9, rfl⟩ := R9.at.l.cells
      obtain ⟨⟨z0, z1, z2⟩, f0, f1, f2⟩ := blk_three K2
      clear x0 x1 x2
      go_wp2
      have E8 := K2.put3 (x := .slice la9 ln9 lc9) (y := .slice sa9 sn9 sc9) (z := .slice oa9 on9 oc9)
      have hg8 := grown_put3 w9 (w.heap.size + 1 + 1) (.slice la9 ln9 lc9) (.slice sa9 sn9 sc9) (.slice oa9 on9 oc9)
      have DR8 := R9.off hg8 (by have := hz1.out; omega)
      have hB8 := below_grown hB9 hg8 (by omega)
      generalize ((w9.setCell ⟨w.heap.size + 1 + 1, 0, none⟩ (.slice la9 ln9 lc9)).setCell ⟨w.heap.size + 1 + 1, 1, none⟩ (.slice sa9 sn9 sc9)).setCell ⟨w.heap.size + 1 + 1, 2, none⟩ (.slice oa9 on9 oc9) = W8 at *
      refine bodyPost_ret (results_cell_tmpJ rfl _ W8 (w.heap.size + 1 + 1) _ _ _ _ _ rfl E8 Tryz.underlying52 rfl (by kernel_rfl) rfl) rfl ?_
      exact ⟨⟨_, by rw [hact2.out] <;> rfl, by rw [hact2.out]; exact DR8.mono (by have := hz1.out; omega), fun h0 => by rw [hact2.out] at h0; simp at h0⟩, hB8⟩
    · replace hact : Hid (actD d o = if (decide (d.ops.length = 200) || !filesB (doF d.live o).1) = true then (d, 4) else (⟨(doF d.live o).1, d.safe, d.ops ++ [o]⟩, 0)) := by show _ = _; rw [hact.out, hok]; simp
      by_cases h200 : on = 200
      · have hact2 : Hid (actD d o = (d, 4)) := by show _ = _; rw [hact.out, lO.out, h200]; simp
        clear hact
        subst h200
        obtain ⟨x0, x1, x2⟩ := K0.three
        go_wp2_with fail
        clear x0 x1 x2
        obtain ⟨x0, x1, x2⟩ := K0.three
        refine (spec_l8Copy _ d w2 (hD.below hB2) hlen).mono ?_
        rintro e w9 ⟨⟨v9, rfl, R9⟩, hB9⟩
        have hz9 := hB9.size
        replace K2 := K2.below hB9
        replace hB9 := chain hB2 hB9
        obtain ⟨la9, ln9, lc9, sa9, sn9, sc9, oa9, on9, oc9, rfl⟩ := R9.at.l.cells
        obtain ⟨⟨z0, z1, z2⟩, f0, f1, f2⟩ := blk_three K2
        clear x0 x1 x2
        go_wp2
        have E8 := K2.put3 (x := .slice la9 ln9 lc9) (y := .slice sa9 sn9 sc9) (z := .slice oa9 on9 oc9)
        have hg8 := grown_put3 w9 (w.heap.size + 1 + 1) (.slice la9 ln9 lc9) (.slice sa9 sn9 sc9) (.slice oa9 on9 oc9)
        have DR8 := R9.off hg8 (by have := hz1.out; omega)
        have hB8 := below_grown hB9 hg8 (by omega)
        generalize ((w9.setCell ⟨w.heap.size + 1 + 1, 0, none⟩ (.slice la9 ln9 lc9)).setCell ⟨w.heap.size + 1 + 1, 1, none⟩ (.slice sa9 sn9 sc9)).setCell ⟨w.heap.size + 1 + 1, 2, none⟩ (.slice oa9 on9 oc9) = W8 at *
        refine bodyPost_ret (results_cell_tmpJ rfl _ W8 (w.heap.size + 1 + 1) _ _ _ _ _ rfl E8 Tryz.underlying52 rfl (by kernel_rfl) rfl) rfl ?_
        exact ⟨⟨_, by rw [hact2.out] <;> rfl, by rw [hact2.out]; exact DR8.mono (by have := hz1.out; omega), fun h0 => by rw [hact2.out] at h0; simp at h0⟩, hB8⟩
      · have h2i : ¬ (on : Int) = 200 := by omega
        have h2b : ((on : Int) == 200) = false := by simpa using h2i
        obtain ⟨x0, x1, x2⟩ := K0.three
        go_wp2_with fail
        refine (spec_l8Files a2 n2 c2 (doF d.live o).1 w2 R2.sl hbn (by omega)).mono ?_
        rintro e w3 ⟨rfl, hB3⟩
        have hz3 := hB3.size
        replace K0 := K0.below hB3
        replace K1 := K1.below hB3
        replace K2 := K2.below hB3
        replace R2 := R2.below hB3
        replace hB3 := chain hB2 hB3
        clear x0 x1 x2
        cases hfn : filesB (doF d.live o).1
        · have hact2 : Hid (actD d o = (d, 4)) := by show _ = _; rw [hact.out, hfn]; simp
          clear hact
          obtain ⟨x0, x1, x2⟩ := K0.three
          go_wp2_with fail
          refine (spec_l8Copy _ d w3 (hD.below hB3) hlen).mono ?_
          rintro e w9 ⟨⟨v9, rfl, R9⟩, hB9⟩
          have hz9 := hB9.size
          replace K2 := K2.below hB9
          replace hB9 := chain hB3 hB9
          obtain ⟨la9, ln9, lc9, sa9, sn9, sc9, oa9, on9, oc9, rfl⟩ := R9.at.l.cells
          obtain ⟨⟨z0, z1, z2⟩, f0, f1, f2⟩ := blk_three K2
          clear x0 x1 x2
          go_wp2
          have E8 := K2.put3 (x := .slice la9 ln9 lc9) (y := .slice sa9 sn9 sc9) (z := .slice oa9 on9 oc9)
          have hg8 := grown_put3 w9 (w.heap.size + 1 + 1) (.slice la9 ln9 lc9) (.slice sa9 sn9 sc9) (.slice oa9 on9 oc9)
          have DR8 := R9.off hg8 (by have := hz1.out; omega)
          have hB8 := below_grown hB9 hg8 (by omega)
          generalize ((w9.setCell ⟨w.heap.size + 1 + 1, 0, none⟩ (.slice la9 ln9 lc9)).setCell ⟨w.heap.size + 1 + 1, 1, none⟩ (.slice sa9 sn9 sc9)).setCell ⟨w.heap.size + 1 + 1, 2, none⟩ (.slice oa9 on9 oc9) = W8 at *
          refine bodyPost_ret (results_cell_tmpJ rfl _ W8 (w.heap.size + 1 + 1) _ _ _ _ _ rfl E8 Tryz.underlying52 rfl (by kernel_rfl) rfl) rfl ?_
          exact ⟨⟨_, by rw [hact2.out] <;> rfl, by rw [hact2.out]; exact DR8.mono (by have := hz1.out; omega), fun h0 => by rw [hact2.out] at h0; simp at h0⟩, hB8⟩
        · have hact2 : Hid (actD d o = (⟨(doF d.live o).1, d.safe, d.ops ++ [o]⟩, 0)) := by show _ = _; rw [hact.out, hfn, lO.out, decide_eq_false h200]; simp
          clear hact
          generalize (doF d.live o).1 = nx at *
          obtain ⟨x0, x1, x2⟩ := K0.three
          go_wp2_with fail
          refine (spec_l8Copy _ d w3 (hD.below hB3) hlen).mono ?_
          rintro e w4 ⟨⟨v4, rfl, R4⟩, hB4⟩
          have hz4 := hB4.size
          have hr2b : Hid (∀ x, a2 = some x → x.block < w3.heap.size) := fun x hx => (R2.block x hx).2
          replace K1 := K1.below hB4
          replace K2 := K2.below hB4
          replace R2 := R2.below hB4
          replace hB4 := chain hB3 hB4
          obtain ⟨la4, ln4, lc4, sa4, sn4, sc4, oa4, on4, oc4, rfl, RL4, RS4, RO4⟩ := R4
          have hsep : Hid (∀ x y, a2 = some x → sa4 = some y → x.block ≠ y.block) := fun x y hx hy => by have h1 := hr2b.out x hx; have h2 := (RS4.block y hy).1; omega
          have hon4 : on4 = on := by rw [← RO4.sl.len, lO.out]
          subst hon4
          clear x0 x1 x2 K0 hB2
          have hA5 : Below w4.heap.size w4 ((w4.alloc (.cells #[.slice a2 n2 c2, .slice sa4 sn4 sc4, .slice oa4 on4 oc4] 52)).alloc (.cells #[.int .i64 o.k, .string o.nm, .string o.tt, .string o.d] 120)) := by go_grown
          obtain ⟨y0, y1, y2, y3⟩ := blk_four K1
          have ya0 := fun ob => acell (w := w4) ob y0
          have ya1 := fun ob => acell (w := w4) ob y1
          have ya2 := fun ob => acell (w := w4) ob y2
          have ya3 := fun ob => acell (w := w4) ob y3
          go_wp2_with (at_builtin; refine wpList_app rfl (fun K hK => wp_appDp _ _ rfl (w3.heap.size + 2) oa4 on4 oc4 d.ops rfl (RO4.below hA5) _ 1 1 [o] rfl (sl_newDp _ o _ _ (by simp)) (fun ad h => (by cases h; rfl)) (fun h => (by cases h)) (on4 + 1) rfl (by omega) (by simp only [World.size_alloc]; omega) (fun a6 c6 w6 R6 hg6 => hK _ _ ?_)); refine Held.out ?_)
          refine Held.mk ?_
          have hty := (RO4.below hA5).rowTy (m := on4) (k := oc4)
          have D5 : Blk ((w4.alloc (.cells #[.slice a2 n2 c2, .slice sa4 sn4 sc4, .slice oa4 on4 oc4] 52)).alloc (.cells #[.int .i64 o.k, .string o.nm, .string o.tt, .string o.d] 120)) w4.heap.size _ _ := (Blk.new w4 #[.slice a2 n2 c2, .slice sa4 sn4 sc4, .slice oa4 on4 oc4] 52).alloc _
          have D6 := D5.ty hg6 hty (by decide)
          have K6 := (K2.below hA5).ty hg6 hty (by decide)
          have RN6 := (R2.below hA5).ty hg6 hty (by decide)
          have RS6 := (RS4.below hA5).ty hg6 hty (by decide)
          have hB6 : Below w.heap.size w w6 := (chain hB4 hA5).grown hg6 (chain hB4 hA5).size (own_ge fun ad e => by have := (RO4.block ad e).1; have := hz1.out; omega)
          clear hty hg6 hA5 D5 K2 K1 R2 RS4 RL4 RO4 ya0 ya1 ya2 ya3 y0 y1 y2 y3
          obtain ⟨⟨p0, p1, p2⟩, q0, q1, q2⟩ := blk_three D6
          obtain ⟨⟨z0, z1, z2⟩, f0, f1, f2⟩ := blk_three K6
          have m1 : ¬ w4.heap.size = w.heap.size + 1 + 1 := by have := hz1.out; omega
          have m2 : ¬ w.heap.size + 1 + 1 = w4.heap.size := by have := hz1.out; omega
          go_wp2
          have hg7 : w6.grownBy (w6.setCell ⟨w4.heap.size, 2, none⟩ (.slice a6 (on4 + 1) c6)) (some w4.heap.size) := grown_set (World.grownBy.refl _ _) _ _
          have K7 := K6.grown hg7 m2
          have RN7 := RN6.ty hg7 (rowTy_blk D6) (by decide)
          have RS7 := RS6.ty hg7 (rowTy_blk D6) (by decide)
          have RO7 := R6.ty hg7 (rowTy_blk D6) (by decide)
          have hB7 := below_grown hB6 hg7 (by have := hz1.out; omega)
          generalize w6.setCell ⟨w4.heap.size, 2, none⟩ (.slice a6 (on4 + 1) c6) = W7 at *
          have DR7 : DiskR (w.heap.size + 1 + 1 + 1) W7 (.agg #[.slice a2 n2 c2, .slice sa4 sn4 sc4, .slice a6 (on4 + 1) c6]) ⟨nx, d.safe, d.ops ++ [o]⟩ := ⟨_, _, _, _, _, _, _, _, _, rfl, RN7.mono (by have := hz1.out; omega), RS7.mono (by have := hz1.out; omega), RO7.mono (by have := hz1.out; omega)⟩
          have E8 := K7.put3 (x := .slice a2 n2 c2) (y := .slice sa4 sn4 sc4) (z := .slice a6 (on4 + 1) c6)
          have hg8 := grown_put3 W7 (w.heap.size + 1 + 1) (.slice a2 n2 c2) (.slice sa4 sn4 sc4) (.slice a6 (on4 + 1) c6)
          have DR8 := DR7.off hg8 (by omega)
          have hB8 := below_grown hB7 hg8 (by omega)
          generalize ((W7.setCell ⟨w.heap.size + 1 + 1, 0, none⟩ (.slice a2 n2 c2)).setCell ⟨w.heap.size + 1 + 1, 1, none⟩ (.slice sa4 sn4 sc4)).setCell ⟨w.heap.size + 1 + 1, 2, none⟩ (.slice a6 (on4 + 1) c6) = W8 at *
          refine bodyPost_ret (results_cell_tmpJ rfl _ W8 (w.heap.size + 1 + 1) _ _ _ _ _ rfl E8 Tryz.underlying52 rfl (by kernel_rfl) rfl) rfl ?_
          exact ⟨⟨_, by rw [hact2.out] <;> rfl, by rw [hact2.out]; exact DR8.mono (by omega), fun _ => sepD_mk hsep.out⟩, hB8⟩
end Go.Proofs.YtigldeccfpkdmaaGreatDoor
namespace Go.Proofs.YtigldeccfpkdmaaGreatDoor
open Go Go.RowKit Go.BigFrame
theorem syncD_no {d : Dk} (h : diskB d = false) : syncD d = noD := by simp [syncD, h]
theorem syncD_yes {d : Dk} (h : diskB d = true) : syncD d = ⟨d.live, d.live, []⟩ := by simp [syncD, h]
set_option maxHeartbeats 4000000 in
set_option maxRecDepth 100000 in
theorem spec_Sync (v : Value) (d : Dk) (w : World) (h : DiskAt w v d) (hd : DimD d) :
    Calls Tryz.prog 82 #[v] w fun e w' => (∃ v', e = .returned v' ∧ DiskR (w.heap.size + 1) w' v' (syncD d)) ∧ Below w.heap.size w w' := by
  have hD := h
  obtain ⟨la, ln, lc, sa, sn, sc, oa, on, oc, rfl, hL, hS, hO⟩ := h
  have hn1 : ln ≤ 4000000 := by rw [← hL.sl.len]; exact hd.live.1
  obtain ⟨W0, hW0⟩ : ∃ W0, W0 = (w.alloc (.cells #[.slice la ln lc, .slice sa sn sc, .slice oa on oc] 52)).alloc (.cells #[.slice none 0 0, .slice none 0 0, .slice none 0 0] 52) := ⟨_, rfl⟩
  have hB0 : Below w.heap.size w W0 := by rw [hW0]; go_grown
  have C : Blk W0 w.heap.size #[.slice la ln lc, .slice sa sn sc, .slice oa on oc] 52 := by rw [hW0]; exact (Blk.new w _ _).alloc _
  have E : Blk W0 (w.heap.size + 1) #[.slice none 0 0, .slice none 0 0, .slice none 0 0] 52 := by rw [hW0]; exact Blk.new' _ _ _ _ (by simp)
  have hz0 : Hid (W0.heap.size = w.heap.size + 2) := by show _ = _; rw [hW0]; simp
  go_enter Tryz.func82, Tryz.ntmps82
  go_wp2_with fail
  rw [← hW0]
  clear hW0
  refine (spec_DiskOk _ d W0 (hD.below hB0) hd).mono ?_
  rintro e W ⟨rfl, hB1⟩
  replace C := C.below hB1
  replace E := E.below hB1
  have hsz : w.heap.size + 2 ≤ W.heap.size := by have := hB1.size; have := hz0.out; omega
  replace hB1 := chain hB0 hB1
  clear hB0 hz0
  cases hdb : diskB d
  · have hr : Hid (syncD d = noD) := syncD_no hdb
    obtain ⟨⟨z0, z1, z2⟩, f0, f1, f2⟩ := blk_three E
    have NR := noD_R (w.heap.size + 2) W
    go_wp2
    have E8 := E.put3 (x := .slice none 0 0) (y := .slice none 0 0) (z := .slice none 0 0)
    have hg8 := grown_put3 W (w.heap.size + 1) (.slice none 0 0) (.slice none 0 0) (.slice none 0 0)
    have DR8 := NR.off hg8 (by omega)
    have hB8 := below_grown hB1 hg8 (by omega)
    generalize ((W.setCell ⟨w.heap.size + 1, 0, none⟩ (.slice none 0 0)).setCell ⟨w.heap.size + 1, 1, none⟩ (.slice none 0 0)).setCell ⟨w.heap.size + 1, 2, none⟩ (.slice none 0 0) = W8 at *
    refine bodyPost_ret (results_cell_row rfl _ W8 (w.heap.size + 1) _ _ _ _ rfl E8 Tryz.underlying52 rfl (by kernel_rfl)) rfl ?_
    exact ⟨⟨_, rfl, by rw [hr.out]; exact DR8.mono (by omega)⟩, hB8⟩
  · have hr : Hid (syncD d = ⟨d.live, d.live, []⟩) := syncD_yes hdb
    have hL1 := hL.below hB1
    obtain ⟨c0, c1, c2⟩ := C.three
    generalize d.live = live at *
    have hSB : ∀ u, Below W.heap.size W u → (fun u => u.cell? ⟨w.heap.size, 0, none⟩ = some (.slice la ln lc)) u := fun u hu => bcell hu c0
    have hWd : Below W.heap.size W W.drew := (Below.refl _ _).drew
    go_wp2_with fail
    have hS0 : (fun u => u.cell? ⟨w.heap.size, 0, none⟩ = some (.slice la ln lc)) W.drew := hSB _ hWd
    refine wp_region_last (S := (fun u => u.cell? ⟨w.heap.size, 0, none⟩ = some (.slice la ln lc))) 9 (by kernel_rfl) (by kernel_rfl) ?_
    refine takeQ (i := 1) (v := ?vq28001) rfl (by kernel_rfl) (fun _ _ _ h => h) (by rfl) ?hq28001 (by assumption) ?rq28001
    case hq28001 => (intro u hu; (try dsimp only at hu); go_simp <;> with_reducible rfl)
    try simp only [Act.put, lsA, lsB, lsC]
    refine takeQ (i := 2) (v := ?vq28002) rfl (by kernel_rfl) (fun _ _ _ h => h) (by rfl) ?hq28002 (by assumption) ?rq28002
    case hq28002 => (intro u hu; (try dsimp only at hu); go_simp <;> with_reducible rfl)
    try simp only [Act.put, lsA, lsB, lsC]
    refine takeQ (i := 5) (v := ?vq28003) rfl (by kernel_rfl) (fun _ _ _ h => h) (by rfl) ?hq28003 (by assumption) ?rq28003
    case hq28003 => (intro u hu; (try dsimp only at hu); go_simp <;> with_reducible rfl)
    try simp only [Act.put, lsA, lsB, lsC]
    refine takeQ (i := 6) (v := ?vq28004) rfl (by kernel_rfl) (fun _ _ _ h => h) (by rfl) ?hq28004 (by assumption) ?rq28004
    case hq28004 => (intro u hu; (try dsimp only at hu); go_simp <;> with_reducible rfl)
    try simp only [Act.put, lsA, lsB, lsC]
    refine wpAnyH_float W [7, 10, 11, 14, 15] [0, 3, 4, 7, 8] (fun i => [7, 0, 0, 10, 11, 0, 0, 14, 15].getD i 0) (fun b x u => (b 0 = true → LitJ (w.heap.size + 2) 123 u (x 7)) ∧ (b 3 = true → ResJ Fl.cs 2 123 (w.heap.size + 2) ln live u (x 10)) ∧ (b 4 = true → LitJ (w.heap.size + 2) 123 u (x 11)) ∧ (b 7 = true → ResJ Fl.cs 2 123 (w.heap.size + 2) ln live u (x 14)) ∧ (b 8 = true → ∃ y0 y1, x 15 = .agg #[y0, y1, .slice none 0 0] ∧ ResJ Fl.cs 2 123 (w.heap.size + 2) ln live u y0 ∧ ResJ Fl.cs 2 123 (w.heap.size + 2) ln live u y1)) (by kernel_rfl) (by kernel_rfl) (by kernel_rfl) (by kernel_rfl) (Nat.le_of_eq (by kernel_rfl)) hSB hWd ?init ?step ?done
    case init => exact ⟨(fun h => by cases h), (fun h => by cases h), (fun h => by cases h), (fun h => by cases h), (fun h => by cases h)⟩
    case step =>
      intro i hi b a u hA hB hG hbi hdep
      obtain ⟨g0, g3, g4, g7, g8⟩ := hG
      simp only [List.mem_cons, List.not_mem_nil, or_false] at hi
      rcases hi with rfl | rfl | rfl | rfl | rfl
      · refine wpOp_atJ rfl rfl (fun K hK => ?_)
        have hb : Below u.heap.size u (u.alloc (.cells #[] 123)) := (Below.refl _ _).alloc (Nat.le_refl _) _
        go_simp
        exact hK.out _ _ ⟨_, rfl, hb, ⟨(fun _ => (by simpa using litJ_new (by have := hB.size; omega))), (fun h => (by simpa using (g3 (by simpa using h)).below hb)), (fun h => (by simpa using (g4 (by simpa using h)).below hb)), (fun h => (by simpa using (g7 (by simpa using h)).below hb)), (fun h => (by obtain ⟨y0, y1, e0, e1, e2⟩ := g8 (by simpa using h); exact ⟨y0, y1, by simpa using e0, e1.below hb, e2.below hb⟩))⟩⟩
      · obtain ⟨lb, e1, L1, l2⟩ := g0 (hdep _ rfl ⟨0, .data⟩ (by simp) rfl)
        refine wpOp_atJ rfl rfl (fun K hK => ?_)
        obtain ⟨i0, hi0, hz0, hz1, hz2⟩ := info_parts infoFl
        refine wp_appLitJ (.tmp 7) (.tmp 9) 49 rfl ((w.heap.size + 2)) 123 i0 _ 32 Tryz.underlying49 hi0 hz0 hz1 hz2 rfl (by decide) flcs_len flcs_one lb e1 L1 l2 la ln lc live (by rw [hA.eval (by decide)]; rfl) (hL1.sl.below hB) hL1.spot hL1.nil (by unfold maxLen; omega) (by omega) (by have := hB.size; omega) (fun a3 c3 u3 R3 hb _ _ => ?_)
        exact hK.out _ _ ⟨_, rfl, hb, ⟨(fun h => (by simpa using (g0 (by simpa using h)).below hb)), (fun _ => (by simpa using resJ_of R3)), (fun h => (by simpa using (g4 (by simpa using h)).below hb)), (fun h => (by simpa using (g7 (by simpa using h)).below hb)), (fun h => (by obtain ⟨y0, y1, e0, e1, e2⟩ := g8 (by simpa using h); exact ⟨y0, y1, by simpa using e0, e1.below hb, e2.below hb⟩))⟩⟩
      · refine wpOp_atJ rfl rfl (fun K hK => ?_)
        have hb : Below u.heap.size u (u.alloc (.cells #[] 123)) := (Below.refl _ _).alloc (Nat.le_refl _) _
        go_simp
        exact hK.out _ _ ⟨_, rfl, hb, ⟨(fun h => (by simpa using (g0 (by simpa using h)).below hb)), (fun h => (by simpa using (g3 (by simpa using h)).below hb)), (fun _ => (by simpa using litJ_new (by have := hB.size; omega))), (fun h => (by simpa using (g7 (by simpa using h)).below hb)), (fun h => (by obtain ⟨y0, y1, e0, e1, e2⟩ := g8 (by simpa using h); exact ⟨y0, y1, by simpa using e0, e1.below hb, e2.below hb⟩))⟩⟩
      · obtain ⟨lb, e1, L1, l2⟩ := g4 (hdep _ rfl ⟨4, .data⟩ (by simp) rfl)
        refine wpOp_atJ rfl rfl (fun K hK => ?_)
        obtain ⟨i0, hi0, hz0, hz1, hz2⟩ := info_parts infoFl
        refine wp_appLitJ (.tmp 11) (.tmp 13) 49 rfl ((w.heap.size + 2)) 123 i0 _ 32 Tryz.underlying49 hi0 hz0 hz1 hz2 rfl (by decide) flcs_len flcs_one lb e1 L1 l2 la ln lc live (by rw [hA.eval (by decide)]; rfl) (hL1.sl.below hB) hL1.spot hL1.nil (by unfold maxLen; omega) (by omega) (by have := hB.size; omega) (fun a3 c3 u3 R3 hb _ _ => ?_)
        exact hK.out _ _ ⟨_, rfl, hb, ⟨(fun h => (by simpa using (g0 (by simpa using h)).below hb)), (fun h => (by simpa using (g3 (by simpa using h)).below hb)), (fun h => (by simpa using (g4 (by simpa using h)).below hb)), (fun _ => (by simpa using resJ_of R3)), (fun h => (by obtain ⟨y0, y1, e0, e1, e2⟩ := g8 (by simpa using h); exact ⟨y0, y1, by simpa using e0, e1.below hb, e2.below hb⟩))⟩⟩
      · refine wpOp_atJ rfl rfl (fun K hK => ?_)
        have r0 := g3 (hdep _ rfl ⟨3, .data⟩ (by simp) rfl)
        have r1 := g7 (hdep _ rfl ⟨7, .data⟩ (by simp) rfl)
        have hb : Below u.heap.size u u := Below.refl _ _
        have hev : ∀ k, a.eval (.tmp k) = a.tmps.getD k undef := fun _ => rfl
        obtain ⟨ya0, yc0, ey0, ry0⟩ := r0
        have ez0 : a.tmps[10]?.getD undef = .slice ya0 ln yc0 := by simpa [Act.eval] using ey0
        obtain ⟨ya1, yc1, ey1, ry1⟩ := r1
        have ez1 : a.tmps[14]?.getD undef = .slice ya1 ln yc1 := by simpa [Act.eval] using ey1
        go_simp
        refine hK.out _ _ ⟨_, rfl, hb, ⟨(fun h => (by simpa using (g0 (by simpa using h)).below hb)), (fun h => (by simpa using (g3 (by simpa using h)).below hb)), (fun h => (by simpa using (g4 (by simpa using h)).below hb)), (fun h => (by simpa using (g7 (by simpa using h)).below hb)), (fun _ => ⟨_, _, rfl, resJ_of ry0, resJ_of ry1⟩)⟩⟩
    case done =>
      rintro b x u hB ⟨_, _, _, _, g8⟩ hall
      obtain ⟨y0, y1, e0, ⟨a0, k0, rfl, R0⟩, ⟨a1, k1, rfl, R1⟩⟩ := g8 (hall 8 (by simp))
      refine lastL rfl ?_
      simp only [putAll, List.foldl_cons, List.foldl_nil, e0]
      try simp only [Act.put, lsA, lsB, lsC]
      have E1 := E.below hB
      have hBw := chain hB1 hB
      obtain ⟨⟨z0, z1, z2⟩, f0, f1, f2⟩ := blk_three E1
      clear C c0 c1 c2 hSB hS0
      have DR : DiskR (w.heap.size + 2) u (.agg #[.slice a0 ln k0, .slice a1 ln k1, .slice none 0 0]) ⟨live, live, []⟩ := ⟨_, _, _, _, _, _, _, _, _, rfl, R0, R1, res_nil⟩
      go_wp2
      have E8 := E1.put3 (x := .slice a0 ln k0) (y := .slice a1 ln k1) (z := .slice none 0 0)
      have hg8 := grown_put3 u (w.heap.size + 1) (.slice a0 ln k0) (.slice a1 ln k1) (.slice none 0 0)
      have DR8 := DR.off hg8 (by omega)
      have hB8 := below_grown hBw hg8 (by omega)
      generalize ((u.setCell ⟨w.heap.size + 1, 0, none⟩ (.slice a0 ln k0)).setCell ⟨w.heap.size + 1, 1, none⟩ (.slice a1 ln k1)).setCell ⟨w.heap.size + 1, 2, none⟩ (.slice none 0 0) = W8 at *
      refine bodyPost_ret (results_cell_row rfl _ W8 (w.heap.size + 1) _ _ _ _ rfl E8 Tryz.underlying52 rfl (by kernel_rfl)) rfl ?_
      exact ⟨⟨_, rfl, by rw [hr.out]; exact DR8.mono (by omega)⟩, hB8⟩
end Go.Proofs.YtigldeccfpkdmaaGreatDoor
