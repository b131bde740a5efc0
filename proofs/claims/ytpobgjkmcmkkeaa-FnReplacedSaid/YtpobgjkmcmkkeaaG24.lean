/- What is replaced: plain. What is replaced, by the model. -/
import Derived.Test.YtpobgjkmcmkkeaaG20
namespace Go.Proofs.Ytpobgjkmcmkkeaa
open Go Go.RowKit Go.BigFrame

theorem ba_ext {a b : ByteArray} (h : a.toList = b.toList) : a = b := by
  rw [ByteArray.toList_eq, ByteArray.toList_eq] at h
  exact ByteArray.ext (Array.toList_inj.1 h)
theorem eqFl_eq {p q : Fl} (h : eqFl p q = true) : p = q := by
  simp only [eqFl, Bool.and_eq_true, beq_iff_eq] at h
  obtain ⟨a, b⟩ := p
  obtain ⟨c, e⟩ := q
  simp only at h
  rw [ba_ext h.1, ba_ext h.2]
theorem eqFls_eq : ∀ {l m : List Fl}, eqFls l m = true → l = m
  | [], [], _ => rfl
  | [], _ :: _, h => by simp [eqFls] at h
  | _ :: _, [], h => by simp [eqFls] at h
  | p :: l, q :: m, h => by
    simp only [eqFls, Bool.and_eq_true] at h
    rw [eqFl_eq h.1, eqFls_eq h.2]
theorem runF_app : ∀ (ops : List Dp) (l : List Fl) (o : Dp), runF l (ops ++ [o]) = match runF l ops with | none => none | some m => runF m [o]
  | [], l, o => rfl
  | p :: r, l, o => by
    rw [List.cons_append]
    show (if _ then runF (doF l p).1 (r ++ [o]) else none) = match (if _ then runF (doF l p).1 r else none) with | none => none | some m => runF m [o]
    split
    · exact runF_app r (doF l p).1 o
    · rfl
theorem diskB_run {d : Dk} (h : diskB d = true) : runF d.safe d.ops = some d.live := by
  simp only [diskB, Bool.and_eq_true] at h
  have h2 := h.2
  cases hq : runF d.safe d.ops with
  | none => rw [hq] at h2; cases h2
  | some l => rw [hq] at h2; rw [eqFls_eq h2]
/-- An op that was done leaves a right disk. -/
theorem act_right {d : Dk} {o : Dp} (h : diskB d = true) (h0 : (actD d o).2 = 0) : diskB (actD d o).1 = true ∧ actD d o = (⟨(doF d.live o).1, d.safe, d.ops ++ [o]⟩, 0) ∧ filesB (doF d.live o).1 = true := by
  obtain ⟨h1, h2, h3⟩ := diskB_all h
  have hr := diskB_run h
  unfold actD at h0 ⊢
  cases hf : formB o
  · simp [hf] at h0
  · cases hk : (doF d.live o).2
    · simp [hf, hk] at h0
    · cases hc : (decide (d.ops.length = 200) || !filesB (doF d.live o).1)
      · simp only [Bool.or_eq_false_iff, decide_eq_false_iff_not, Bool.not_eq_false'] at hc
        rw [if_neg (by simp), if_neg (by simp), if_neg (by simp)]
        refine ⟨?_, rfl, hc.2⟩
        have hlen : (d.ops ++ [o]).length ≤ 200 := by simp; omega
        have hrun : runF d.safe (d.ops ++ [o]) = some (doF d.live o).1 := by
          rw [runF_app, hr]
          show (if ((doF d.live o).2 && formB o && filesB (doF d.live o).1) = true then some (doF d.live o).1 else none) = _
          rw [hk, hf, hc.2]; rfl
        show (filesB (doF d.live o).1 && filesB d.safe && decide ((d.ops ++ [o]).length ≤ 200) && (match runF d.safe (d.ops ++ [o]) with | none => false | some l => eqFls l (doF d.live o).1)) = true
        rw [hc.2, h2, decide_eq_true hlen, hrun]
        exact eqFls_refl _
      · rw [hc] at h0
        simp [hf, hk] at h0
theorem act_dim {d : Dk} {o : Dp} (h : diskB d = true) (hd : DimD d) (ho : StrD o ∧ o.d.size ≤ 10000000) (h0 : (actD d o).2 = 0) : DimD (actD d o).1 := by
  obtain ⟨_, e, hf⟩ := act_right h h0
  obtain ⟨_, _, h3⟩ := diskB_all h
  rw [e]
  refine ⟨⟨?_, doF_bnd (diskB_all h).1 ho.1 ho.2⟩, hd.safe, ?_, fun p hp => ?_⟩
  · have := (filesB_all hf).1; show (doF d.live o).1.length ≤ _; omega
  · show (d.ops ++ [o]).length ≤ _; simp; omega
  · rcases List.mem_append.1 hp with hp | hp
    · exact hd.ops.2 p hp
    · simp at hp; subst hp; exact ho
/-- Ops one behind the other, as far as they are done. -/
def seqD : Dk → List Dp → Dk × Int
  | d, [] => (d, 0)
  | d, o :: r => if (actD d o).2 = 0 then seqD (actD d o).1 r else (noD, (actD d o).2)
def freshB (nm : ByteArray) : ByteArray := nm ++ ⟨#[46, 110, 101, 119]⟩
def repOps (nm data : ByteArray) (there : Bool) : List Dp := (if there = true then [⟨3, freshB nm, ⟨#[]⟩, ⟨#[]⟩⟩] else []) ++ [⟨1, freshB nm, ⟨#[]⟩, data⟩, ⟨2, freshB nm, nm, ⟨#[]⟩⟩]
def repA (d : Dk) (r : Dk × Int) : Dk × Int := if r.2 = 0 then (r.1, 0) else (d, r.2)
def repD (d : Dk) (nm data : ByteArray) : Dk × Int := if diskB d = true then repA d (seqD d (repOps nm data (atF d.live (freshB nm)).isSome)) else (noD, 1)
theorem rep_ops {nm data : ByteArray} {there : Bool} (h1 : nm.size ≤ 1048576) (h2 : data.size ≤ 1048576) : ∀ o ∈ repOps nm data there, StrD o ∧ o.d.size ≤ 10000000 := by
  intro o ho
  have hf : (freshB nm).size = nm.size + 4 := by unfold freshB; rw [ByteArray.size_append]; rfl
  have he : (⟨#[]⟩ : ByteArray).size = 0 := rfl
  unfold repOps at ho
  simp only [List.mem_append, List.mem_cons, List.not_mem_nil, or_false] at ho
  rcases ho with ho | rfl | rfl
  · split at ho
    · simp at ho; subst ho; exact ⟨⟨by simp only; omega, by simp only; omega, by simp only; omega⟩, by simp only; omega⟩
    · cases ho
  · exact ⟨⟨by simp only; omega, by simp only; omega, by simp only; omega⟩, by simp only; omega⟩
  · exact ⟨⟨by simp only; omega, by simp only; omega, by simp only; omega⟩, by simp only; omega⟩
end Go.Proofs.Ytpobgjkmcmkkeaa
namespace Go.Proofs.Ytpobgjkmcmkkeaa
open Go Go.RowKit Go.BigFrame

set_option maxHeartbeats 8000000 in
set_option maxRecDepth 100000 in
theorem spec_Replace (v : Value) (d : Dk) (nm data : ByteArray) (w : World) (h : DiskAt w v d) (hd : DimD d) (hn1 : nm.size ≤ 1048576) (hn2 : data.size ≤ 1048576) :
    Calls Try.prog 25 #[v, .string nm, .string data] w fun e w' => (∃ v', e = .returned (.tuple #[v', .int .i64 (repD d nm data).2]) ∧ DiskR (w.heap.size + 1) w' v' (repD d nm data).1) ∧ Below w.heap.size w w' := by
  have hD := h
  obtain ⟨la, ln, lc, sa, sn, sc, oa, on, oc, rfl, hL, hS, hO⟩ := h
  have hlen : d.live.length ≤ 4000000 ∧ d.safe.length ≤ 4000000 ∧ d.ops.length ≤ 4000000 := ⟨hd.live.1, hd.safe.1, hd.ops.1⟩
  have hln : ln ≤ 4000000 := by rw [← hL.sl.len]; exact hd.live.1
  have hoa := rep_ops (there := true) hn1 hn2 ⟨1, freshB nm, ⟨#[]⟩, data⟩ (by simp [repOps])
  have hor := rep_ops (there := true) hn1 hn2 ⟨2, freshB nm, nm, ⟨#[]⟩⟩ (by simp [repOps])
  have hom := rep_ops (there := true) hn1 hn2 ⟨3, freshB nm, ⟨#[]⟩, ⟨#[]⟩⟩ (by simp [repOps])
  obtain ⟨W0, hW0⟩ : ∃ W0, W0 = (w.alloc (.cells #[.slice la ln lc, .slice sa sn sc, .slice oa on oc] 27)).alloc (.cells #[.slice none 0 0, .slice none 0 0, .slice none 0 0] 27) := ⟨_, rfl⟩
  have hB0 : Below w.heap.size w W0 := by rw [hW0]; go_grown
  have K : Blk W0 w.heap.size #[.slice la ln lc, .slice sa sn sc, .slice oa on oc] 27 := by rw [hW0]; exact (Blk.new w _ _).alloc _
  have E : Blk W0 (w.heap.size + 1) #[.slice none 0 0, .slice none 0 0, .slice none 0 0] 27 := by rw [hW0]; exact Blk.new' _ _ _ _ (by simp)
  have hz0 : Hid (W0.heap.size = w.heap.size + 2) := by show _ = _; rw [hW0]; simp
  go_enter Try.func25, Try.ntmps25
  go_wp2_with fail
  rw [← hW0]
  clear hW0
  refine (spec_DiskOk _ d W0 (hD.below hB0) hd).mono ?_
  rintro e w1 ⟨rfl, hB1⟩
  replace K := K.below hB1
  replace E := E.below hB1
  have hz1 : Hid (w.heap.size + 2 ≤ w1.heap.size) := by have := hB1.size; have := hz0.out; show _ ≤ _; omega
  replace hB1 := chain hB0 hB1
  clear hB0 hz0
  cases hdb : diskB d
  · have hr : Hid (repD d nm data = (noD, 1)) := by show _ = _; simp [repD, hdb]
    obtain ⟨⟨z0, z1, z2⟩, f0, f1, f2⟩ := blk_three E
    have NR := noD_R (w.heap.size + 2) w1
    go_wp2
    have E8 := E.put3 (x := .slice none 0 0) (y := .slice none 0 0) (z := .slice none 0 0)
    have hg8 := grown_put3 w1 (w.heap.size + 1) (.slice none 0 0) (.slice none 0 0) (.slice none 0 0)
    have DR8 := NR.off hg8 (by omega)
    have hB8 := below_grown hB1 hg8 (by omega)
    generalize ((w1.setCell ⟨w.heap.size + 1, 0, none⟩ (.slice none 0 0)).setCell ⟨w.heap.size + 1, 1, none⟩ (.slice none 0 0)).setCell ⟨w.heap.size + 1, 2, none⟩ (.slice none 0 0) = W8 at *
    refine bodyPost_ret (results_cell_tmpJ rfl _ W8 (w.heap.size + 1) _ _ _ _ _ rfl E8 Try.underlying27 rfl (by kernel_rfl) rfl) rfl ?_
    exact ⟨⟨_, by rw [hr.out] <;> rfl, by rw [hr.out]; exact DR8.mono (by omega)⟩, hB8⟩
  have hrep : Hid (repD d nm data = repA d (seqD d (repOps nm data (atF d.live (freshB nm)).isSome))) := by show _ = _; unfold repD; rw [hdb]; rfl
  have hA : Below w1.heap.size w1 (w1.alloc (.cells #[.slice la ln lc, .slice sa sn sc, .slice oa on oc] 27)) := (Below.refl _ _).alloc (Nat.le_refl _) _
  have NB := Blk.new w1 #[.slice la ln lc, .slice sa sn sc, .slice oa on oc] 27
  have hmne : ¬ w.heap.size = w1.heap.size := by have := hz1.out; omega
  have hmne2 : ¬ w1.heap.size = w.heap.size := by have := hz1.out; omega
  obtain ⟨k0, k1, k2⟩ := K.three
  have ka0 := fun ob => acell (w := w1) ob k0
  go_wp2_with fail
  clear k0 k1 k2 ka0
  replace K := K.below hA
  replace E := E.below hA
  have hBW := chain hB1 hA
  have hzW : w1.heap.size < (w1.alloc (.cells #[.slice la ln lc, .slice sa sn sc, .slice oa on oc] 27)).heap.size := by simp
  generalize w1.alloc (.cells #[.slice la ln lc, .slice sa sn sc, .slice oa on oc] 27) = W2 at *
  clear hA
  refine (spec_l8At la ln lc d.live (freshB nm) W2 (hL.sl.below hBW) (by omega)).mono ?_
  rintro e w2 ⟨rfl, rfl⟩
  cases hat : atF d.live (freshB nm) with
  | none =>
    have hseq : Hid (repD d nm data = repA d (seqD d [⟨1, freshB nm, ⟨#[]⟩, data⟩, ⟨2, freshB nm, nm, ⟨#[]⟩⟩])) := by show _ = _; rw [hrep.out, hat]; rfl
    have hp : plF (none : Option Nat) = -1 := rfl
    rw [hp]
    obtain ⟨⟨n0, n1, n2⟩, m0, m1, m2⟩ := blk_three NB
    obtain ⟨k0, k1, k2⟩ := K.three
    go_wp2_with fail
    clear n0 n1 n2 m0 m1 m2 k0 k1 k2
    refine (spec_l8Act _ d ⟨1, freshB nm, ⟨#[]⟩, data⟩ w2 (hD.below hBW) hd (diskB_all hdb).1 hoa).mono ?_
    rintro e wa ⟨⟨vwa, rfl, Rwa⟩, hBwa⟩
    replace K := K.below hBwa
    replace E := E.below hBwa
    replace NB := NB.below hBwa
    have hzwa := hBwa.size
    replace hBwa := chain hBW hBwa
    obtain ⟨lawa, lnwa, lcwa, sawa, snwa, scwa, oawa, onwa, ocwa, rfl⟩ := Rwa.at.l.cells
    cases hcwa : decide ((actD d ⟨1, freshB nm, ⟨#[]⟩, data⟩).2 = 0)
    · have hne : ¬ (actD d ⟨1, freshB nm, ⟨#[]⟩, data⟩).2 = 0 := by simpa using hcwa
      have hr : Hid (repD d nm data = (d, (actD d ⟨1, freshB nm, ⟨#[]⟩, data⟩).2)) := by show _ = _; rw [hseq.out]; simp only [seqD, repA, hne, if_false]
      have hneb : ((actD d ⟨1, freshB nm, ⟨#[]⟩, data⟩).2 == 0) = false := by simpa using hne
      have hneq : ((actD d ⟨1, freshB nm, ⟨#[]⟩, data⟩).2 != 0) = true := by simp [hne]
      generalize (actD d ⟨1, freshB nm, ⟨#[]⟩, data⟩).2 = cc at *
      obtain ⟨⟨n0, n1, n2⟩, m0, m1, m2⟩ := blk_three NB
      obtain ⟨k0, k1, k2⟩ := K.three
      go_wp2_with fail
      clear n0 n1 n2 m0 m1 m2 k0 k1 k2
      have hgn := grown_put3 wa w1.heap.size (.slice lawa lnwa lcwa) (.slice sawa snwa scwa) (.slice oawa onwa ocwa)
      replace K := K.grown hgn (by have := hz1.out; omega)
      replace E := E.grown hgn (by have := hz1.out; omega)
      have Rwa' := Rwa.off hgn (by omega)
      replace hBwa := below_grown hBwa hgn (by have := hz1.out; omega)
      replace NB := NB.put3 (x := (.slice lawa lnwa lcwa)) (y := (.slice sawa snwa scwa)) (z := (.slice oawa onwa ocwa))
      generalize ((wa.setCell ⟨w1.heap.size, 0, none⟩ (.slice lawa lnwa lcwa)).setCell ⟨w1.heap.size, 1, none⟩ (.slice sawa snwa scwa)).setCell ⟨w1.heap.size, 2, none⟩ (.slice oawa onwa ocwa) = Uwa at *
      have hzUwa : w1.heap.size < Uwa.heap.size := NB.lt
      clear hgn
      refine (spec_l8Copy _ d Uwa (hD.below hBwa) hlen).mono ?_
      rintro e w9 ⟨⟨v9, rfl, R9⟩, hB9⟩
      have hz9 := hB9.size
      replace E := E.below hB9
      replace hB9 := chain hBwa hB9
      obtain ⟨la9, ln9, lc9, sa9, sn9, sc9, oa9, on9, oc9, rfl⟩ := R9.at.l.cells
      obtain ⟨⟨z0, z1, z2⟩, f0, f1, f2⟩ := blk_three E
      go_wp2
      have E8 := E.put3 (x := .slice la9 ln9 lc9) (y := .slice sa9 sn9 sc9) (z := .slice oa9 on9 oc9)
      have hg8 := grown_put3 w9 (w.heap.size + 1) (.slice la9 ln9 lc9) (.slice sa9 sn9 sc9) (.slice oa9 on9 oc9)
      have DR8 := R9.off hg8 (by have := hz1.out; omega)
      have hB8 := below_grown hB9 hg8 (by omega)
      generalize ((w9.setCell ⟨w.heap.size + 1, 0, none⟩ (.slice la9 ln9 lc9)).setCell ⟨w.heap.size + 1, 1, none⟩ (.slice sa9 sn9 sc9)).setCell ⟨w.heap.size + 1, 2, none⟩ (.slice oa9 on9 oc9) = W8 at *
      refine bodyPost_ret (results_cell_tmpJ rfl _ W8 (w.heap.size + 1) _ _ _ _ _ rfl E8 Try.underlying27 rfl (by kernel_rfl) rfl) rfl ?_
      exact ⟨⟨_, by rw [hr.out] <;> rfl, by rw [hr.out]; exact DR8.mono (by have := hz1.out; omega)⟩, hB8⟩
    · have he : (actD d ⟨1, freshB nm, ⟨#[]⟩, data⟩).2 = 0 := by simpa using hcwa
      obtain ⟨hdbda, _, _⟩ := act_right hdb he
      have hdimda := act_dim hdb hd hoa he
      have hseqda : Hid (repD d nm data = repA d (seqD (actD d ⟨1, freshB nm, ⟨#[]⟩, data⟩).1 [⟨2, freshB nm, nm, ⟨#[]⟩⟩])) := by show _ = _; rw [hseq.out]; simp only [seqD, he, if_true]
      rw [he]
      generalize (actD d ⟨1, freshB nm, ⟨#[]⟩, data⟩).1 = da at *
      obtain ⟨⟨n0, n1, n2⟩, m0, m1, m2⟩ := blk_three NB
      obtain ⟨k0, k1, k2⟩ := K.three
      go_wp2_with fail
      clear n0 n1 n2 m0 m1 m2 k0 k1 k2
      have hgn := grown_put3 wa w1.heap.size (.slice lawa lnwa lcwa) (.slice sawa snwa scwa) (.slice oawa onwa ocwa)
      replace K := K.grown hgn (by have := hz1.out; omega)
      replace E := E.grown hgn (by have := hz1.out; omega)
      have Rwa' := Rwa.off hgn (by omega)
      replace hBwa := below_grown hBwa hgn (by have := hz1.out; omega)
      replace NB := NB.put3 (x := (.slice lawa lnwa lcwa)) (y := (.slice sawa snwa scwa)) (z := (.slice oawa onwa ocwa))
      generalize ((wa.setCell ⟨w1.heap.size, 0, none⟩ (.slice lawa lnwa lcwa)).setCell ⟨w1.heap.size, 1, none⟩ (.slice sawa snwa scwa)).setCell ⟨w1.heap.size, 2, none⟩ (.slice oawa onwa ocwa) = Uwa at *
      have hzUwa : w1.heap.size < Uwa.heap.size := NB.lt
      clear hgn
      refine (spec_l8Act _ da ⟨2, freshB nm, nm, ⟨#[]⟩⟩ Uwa Rwa'.at hdimda (diskB_all hdbda).1 hor).mono ?_
      rintro e wb ⟨⟨vwb, rfl, Rwb⟩, hBwb⟩
      replace K := K.below hBwb
      replace E := E.below hBwb
      replace NB := NB.below hBwb
      have hzwb := hBwb.size
      replace hBwb := chain hBwa hBwb
      obtain ⟨lawb, lnwb, lcwb, sawb, snwb, scwb, oawb, onwb, ocwb, rfl⟩ := Rwb.at.l.cells
      cases hcwb : decide ((actD da ⟨2, freshB nm, nm, ⟨#[]⟩⟩).2 = 0)
      · have hne : ¬ (actD da ⟨2, freshB nm, nm, ⟨#[]⟩⟩).2 = 0 := by simpa using hcwb
        have hr : Hid (repD d nm data = (d, (actD da ⟨2, freshB nm, nm, ⟨#[]⟩⟩).2)) := by show _ = _; rw [hseqda.out]; simp only [seqD, repA, hne, if_false]
        have hneb : ((actD da ⟨2, freshB nm, nm, ⟨#[]⟩⟩).2 == 0) = false := by simpa using hne
        have hneq : ((actD da ⟨2, freshB nm, nm, ⟨#[]⟩⟩).2 != 0) = true := by simp [hne]
        generalize (actD da ⟨2, freshB nm, nm, ⟨#[]⟩⟩).2 = cc at *
        obtain ⟨⟨n0, n1, n2⟩, m0, m1, m2⟩ := blk_three NB
        obtain ⟨k0, k1, k2⟩ := K.three
        go_wp2_with fail
        clear n0 n1 n2 m0 m1 m2 k0 k1 k2
        have hgn := grown_put3 wb w1.heap.size (.slice lawb lnwb lcwb) (.slice sawb snwb scwb) (.slice oawb onwb ocwb)
        replace K := K.grown hgn (by have := hz1.out; omega)
        replace E := E.grown hgn (by have := hz1.out; omega)
        have Rwb' := Rwb.off hgn (by omega)
        replace hBwb := below_grown hBwb hgn (by have := hz1.out; omega)
        replace NB := NB.put3 (x := (.slice lawb lnwb lcwb)) (y := (.slice sawb snwb scwb)) (z := (.slice oawb onwb ocwb))
        generalize ((wb.setCell ⟨w1.heap.size, 0, none⟩ (.slice lawb lnwb lcwb)).setCell ⟨w1.heap.size, 1, none⟩ (.slice sawb snwb scwb)).setCell ⟨w1.heap.size, 2, none⟩ (.slice oawb onwb ocwb) = Uwb at *
        have hzUwb : w1.heap.size < Uwb.heap.size := NB.lt
        clear hgn
        refine (spec_l8Copy _ d Uwb (hD.below hBwb) hlen).mono ?_
        rintro e w9 ⟨⟨v9, rfl, R9⟩, hB9⟩
        have hz9 := hB9.size
        replace E := E.below hB9
        replace hB9 := chain hBwb hB9
        obtain ⟨la9, ln9, lc9, sa9, sn9, sc9, oa9, on9, oc9, rfl⟩ := R9.at.l.cells
        obtain ⟨⟨z0, z1, z2⟩, f0, f1, f2⟩ := blk_three E
        go_wp2
        have E8 := E.put3 (x := .slice la9 ln9 lc9) (y := .slice sa9 sn9 sc9) (z := .slice oa9 on9 oc9)
        have hg8 := grown_put3 w9 (w.heap.size + 1) (.slice la9 ln9 lc9) (.slice sa9 sn9 sc9) (.slice oa9 on9 oc9)
        have DR8 := R9.off hg8 (by have := hz1.out; omega)
        have hB8 := below_grown hB9 hg8 (by omega)
        generalize ((w9.setCell ⟨w.heap.size + 1, 0, none⟩ (.slice la9 ln9 lc9)).setCell ⟨w.heap.size + 1, 1, none⟩ (.slice sa9 sn9 sc9)).setCell ⟨w.heap.size + 1, 2, none⟩ (.slice oa9 on9 oc9) = W8 at *
        refine bodyPost_ret (results_cell_tmpJ rfl _ W8 (w.heap.size + 1) _ _ _ _ _ rfl E8 Try.underlying27 rfl (by kernel_rfl) rfl) rfl ?_
        exact ⟨⟨_, by rw [hr.out] <;> rfl, by rw [hr.out]; exact DR8.mono (by have := hz1.out; omega)⟩, hB8⟩
      · have he : (actD da ⟨2, freshB nm, nm, ⟨#[]⟩⟩).2 = 0 := by simpa using hcwb
        obtain ⟨hdbb, _, _⟩ := act_right hdbda he
        have hdimb := act_dim hdbda hdimda hor he
        have hr : Hid (repD d nm data = ((actD da ⟨2, freshB nm, nm, ⟨#[]⟩⟩).1, 0)) := by show _ = _; rw [hseqda.out]; simp only [seqD, repA, he, if_true]
        rw [he]
        generalize (actD da ⟨2, freshB nm, nm, ⟨#[]⟩⟩).1 = db at *
        obtain ⟨⟨n0, n1, n2⟩, m0, m1, m2⟩ := blk_three NB
        obtain ⟨k0, k1, k2⟩ := K.three
        go_wp2_with fail
        clear n0 n1 n2 m0 m1 m2 k0 k1 k2
        have hgn := grown_put3 wb w1.heap.size (.slice lawb lnwb lcwb) (.slice sawb snwb scwb) (.slice oawb onwb ocwb)
        replace K := K.grown hgn (by have := hz1.out; omega)
        replace E := E.grown hgn (by have := hz1.out; omega)
        have Rwb' := Rwb.off hgn (by omega)
        replace hBwb := below_grown hBwb hgn (by have := hz1.out; omega)
        replace NB := NB.put3 (x := (.slice lawb lnwb lcwb)) (y := (.slice sawb snwb scwb)) (z := (.slice oawb onwb ocwb))
        generalize ((wb.setCell ⟨w1.heap.size, 0, none⟩ (.slice lawb lnwb lcwb)).setCell ⟨w1.heap.size, 1, none⟩ (.slice sawb snwb scwb)).setCell ⟨w1.heap.size, 2, none⟩ (.slice oawb onwb ocwb) = Uwb at *
        have hzUwb : w1.heap.size < Uwb.heap.size := NB.lt
        clear hgn
        refine (spec_l8Copy _ db Uwb Rwb'.at ⟨hdimb.live.1, hdimb.safe.1, hdimb.ops.1⟩).mono ?_
        rintro e w9 ⟨⟨v9, rfl, R9⟩, hB9⟩
        have hz9 := hB9.size
        replace E := E.below hB9
        replace hB9 := chain hBwb hB9
        obtain ⟨la9, ln9, lc9, sa9, sn9, sc9, oa9, on9, oc9, rfl⟩ := R9.at.l.cells
        obtain ⟨⟨z0, z1, z2⟩, f0, f1, f2⟩ := blk_three E
        go_wp2
        have E8 := E.put3 (x := .slice la9 ln9 lc9) (y := .slice sa9 sn9 sc9) (z := .slice oa9 on9 oc9)
        have hg8 := grown_put3 w9 (w.heap.size + 1) (.slice la9 ln9 lc9) (.slice sa9 sn9 sc9) (.slice oa9 on9 oc9)
        have DR8 := R9.off hg8 (by have := hz1.out; omega)
        have hB8 := below_grown hB9 hg8 (by omega)
        generalize ((w9.setCell ⟨w.heap.size + 1, 0, none⟩ (.slice la9 ln9 lc9)).setCell ⟨w.heap.size + 1, 1, none⟩ (.slice sa9 sn9 sc9)).setCell ⟨w.heap.size + 1, 2, none⟩ (.slice oa9 on9 oc9) = W8 at *
        refine bodyPost_ret (results_cell_tmpJ rfl _ W8 (w.heap.size + 1) _ _ _ _ _ rfl E8 Try.underlying27 rfl (by kernel_rfl) rfl) rfl ?_
        exact ⟨⟨_, by rw [hr.out] <;> rfl, by rw [hr.out]; exact DR8.mono (by have := hz1.out; omega)⟩, hB8⟩
  | some i =>
    have hseq : Hid (repD d nm data = repA d (seqD d [⟨3, freshB nm, ⟨#[]⟩, ⟨#[]⟩⟩, ⟨1, freshB nm, ⟨#[]⟩, data⟩, ⟨2, freshB nm, nm, ⟨#[]⟩⟩])) := by show _ = _; rw [hrep.out, hat]; rfl
    have hp : plF (some i) = (i : Int) := rfl
    rw [hp]
    have hi0 : (0 : Int) ≤ i := by omega
    obtain ⟨⟨n0, n1, n2⟩, m0, m1, m2⟩ := blk_three NB
    obtain ⟨k0, k1, k2⟩ := K.three
    go_wp2_with fail
    clear n0 n1 n2 m0 m1 m2 k0 k1 k2
    refine (spec_l8Act _ d ⟨3, freshB nm, ⟨#[]⟩, ⟨#[]⟩⟩ w2 (hD.below hBW) hd (diskB_all hdb).1 hom).mono ?_
    rintro e wm ⟨⟨vwm, rfl, Rwm⟩, hBwm⟩
    replace K := K.below hBwm
    replace E := E.below hBwm
    replace NB := NB.below hBwm
    have hzwm := hBwm.size
    replace hBwm := chain hBW hBwm
    obtain ⟨lawm, lnwm, lcwm, sawm, snwm, scwm, oawm, onwm, ocwm, rfl⟩ := Rwm.at.l.cells
    cases hcwm : decide ((actD d ⟨3, freshB nm, ⟨#[]⟩, ⟨#[]⟩⟩).2 = 0)
    · have hne : ¬ (actD d ⟨3, freshB nm, ⟨#[]⟩, ⟨#[]⟩⟩).2 = 0 := by simpa using hcwm
      have hr : Hid (repD d nm data = (d, (actD d ⟨3, freshB nm, ⟨#[]⟩, ⟨#[]⟩⟩).2)) := by show _ = _; rw [hseq.out]; simp only [seqD, repA, hne, if_false]
      have hneb : ((actD d ⟨3, freshB nm, ⟨#[]⟩, ⟨#[]⟩⟩).2 == 0) = false := by simpa using hne
      have hneq : ((actD d ⟨3, freshB nm, ⟨#[]⟩, ⟨#[]⟩⟩).2 != 0) = true := by simp [hne]
      generalize (actD d ⟨3, freshB nm, ⟨#[]⟩, ⟨#[]⟩⟩).2 = cc at *
      obtain ⟨⟨n0, n1, n2⟩, m0, m1, m2⟩ := blk_three NB
      obtain ⟨k0, k1, k2⟩ := K.three
      go_wp2_with fail
      clear n0 n1 n2 m0 m1 m2 k0 k1 k2
      have hgn := grown_put3 wm w1.heap.size (.slice lawm lnwm lcwm) (.slice sawm snwm scwm) (.slice oawm onwm ocwm)
      replace K := K.grown hgn (by have := hz1.out; omega)
      replace E := E.grown hgn (by have := hz1.out; omega)
      have Rwm' := Rwm.off hgn (by omega)
      replace hBwm := below_grown hBwm hgn (by have := hz1.out; omega)
      replace NB := NB.put3 (x := (.slice lawm lnwm lcwm)) (y := (.slice sawm snwm scwm)) (z := (.slice oawm onwm ocwm))
      generalize ((wm.setCell ⟨w1.heap.size, 0, none⟩ (.slice lawm lnwm lcwm)).setCell ⟨w1.heap.size, 1, none⟩ (.slice sawm snwm scwm)).setCell ⟨w1.heap.size, 2, none⟩ (.slice oawm onwm ocwm) = Uwm at *
      have hzUwm : w1.heap.size < Uwm.heap.size := NB.lt
      clear hgn
      refine (spec_l8Copy _ d Uwm (hD.below hBwm) hlen).mono ?_
      rintro e w9 ⟨⟨v9, rfl, R9⟩, hB9⟩
      have hz9 := hB9.size
      replace E := E.below hB9
      replace hB9 := chain hBwm hB9
      obtain ⟨la9, ln9, lc9, sa9, sn9, sc9, oa9, on9, oc9, rfl⟩ := R9.at.l.cells
      obtain ⟨⟨z0, z1, z2⟩, f0, f1, f2⟩ := blk_three E
      go_wp2
      have E8 := E.put3 (x := .slice la9 ln9 lc9) (y := .slice sa9 sn9 sc9) (z := .slice oa9 on9 oc9)
      have hg8 := grown_put3 w9 (w.heap.size + 1) (.slice la9 ln9 lc9) (.slice sa9 sn9 sc9) (.slice oa9 on9 oc9)
      have DR8 := R9.off hg8 (by have := hz1.out; omega)
      have hB8 := below_grown hB9 hg8 (by omega)
      generalize ((w9.setCell ⟨w.heap.size + 1, 0, none⟩ (.slice la9 ln9 lc9)).setCell ⟨w.heap.size + 1, 1, none⟩ (.slice sa9 sn9 sc9)).setCell ⟨w.heap.size + 1, 2, none⟩ (.slice oa9 on9 oc9) = W8 at *
      refine bodyPost_ret (results_cell_tmpJ rfl _ W8 (w.heap.size + 1) _ _ _ _ _ rfl E8 Try.underlying27 rfl (by kernel_rfl) rfl) rfl ?_
      exact ⟨⟨_, by rw [hr.out] <;> rfl, by rw [hr.out]; exact DR8.mono (by have := hz1.out; omega)⟩, hB8⟩
    · have he : (actD d ⟨3, freshB nm, ⟨#[]⟩, ⟨#[]⟩⟩).2 = 0 := by simpa using hcwm
      obtain ⟨hdbdm, _, _⟩ := act_right hdb he
      have hdimdm := act_dim hdb hd hom he
      have hseqdm : Hid (repD d nm data = repA d (seqD (actD d ⟨3, freshB nm, ⟨#[]⟩, ⟨#[]⟩⟩).1 [⟨1, freshB nm, ⟨#[]⟩, data⟩, ⟨2, freshB nm, nm, ⟨#[]⟩⟩])) := by show _ = _; rw [hseq.out]; simp only [seqD, he, if_true]
      rw [he]
      generalize (actD d ⟨3, freshB nm, ⟨#[]⟩, ⟨#[]⟩⟩).1 = dm at *
      obtain ⟨⟨n0, n1, n2⟩, m0, m1, m2⟩ := blk_three NB
      obtain ⟨k0, k1, k2⟩ := K.three
      go_wp2_with fail
      clear n0 n1 n2 m0 m1 m2 k0 k1 k2
      have hgn := grown_put3 wm w1.heap.size (.slice lawm lnwm lcwm) (.slice sawm snwm scwm) (.slice oawm onwm ocwm)
      replace K := K.grown hgn (by have := hz1.out; omega)
      replace E := E.grown hgn (by have := hz1.out; omega)
      have Rwm' := Rwm.off hgn (by omega)
      replace hBwm := below_grown hBwm hgn (by have := hz1.out; omega)
      replace NB := NB.put3 (x := (.slice lawm lnwm lcwm)) (y := (.slice sawm snwm scwm)) (z := (.slice oawm onwm ocwm))
      generalize ((wm.setCell ⟨w1.heap.size, 0, none⟩ (.slice lawm lnwm lcwm)).setCell ⟨w1.heap.size, 1, none⟩ (.slice sawm snwm scwm)).setCell ⟨w1.heap.size, 2, none⟩ (.slice oawm onwm ocwm) = Uwm at *
      have hzUwm : w1.heap.size < Uwm.heap.size := NB.lt
      clear hgn
      refine (spec_l8Act _ dm ⟨1, freshB nm, ⟨#[]⟩, data⟩ Uwm Rwm'.at hdimdm (diskB_all hdbdm).1 hoa).mono ?_
      rintro e wa ⟨⟨vwa, rfl, Rwa⟩, hBwa⟩
      replace K := K.below hBwa
      replace E := E.below hBwa
      replace NB := NB.below hBwa
      have hzwa := hBwa.size
      replace hBwa := chain hBwm hBwa
      obtain ⟨lawa, lnwa, lcwa, sawa, snwa, scwa, oawa, onwa, ocwa, rfl⟩ := Rwa.at.l.cells
      cases hcwa : decide ((actD dm ⟨1, freshB nm, ⟨#[]⟩, data⟩).2 = 0)
      · have hne : ¬ (actD dm ⟨1, freshB nm, ⟨#[]⟩, data⟩).2 = 0 := by simpa using hcwa
        have hr : Hid (repD d nm data = (d, (actD dm ⟨1, freshB nm, ⟨#[]⟩, data⟩).2)) := by show _ = _; rw [hseqdm.out]; simp only [seqD, repA, hne, if_false]
        have hneb : ((actD dm ⟨1, freshB nm, ⟨#[]⟩, data⟩).2 == 0) = false := by simpa using hne
        have hneq : ((actD dm ⟨1, freshB nm, ⟨#[]⟩, data⟩).2 != 0) = true := by simp [hne]
        generalize (actD dm ⟨1, freshB nm, ⟨#[]⟩, data⟩).2 = cc at *
        obtain ⟨⟨n0, n1, n2⟩, m0, m1, m2⟩ := blk_three NB
        obtain ⟨k0, k1, k2⟩ := K.three
        go_wp2_with fail
        clear n0 n1 n2 m0 m1 m2 k0 k1 k2
        have hgn := grown_put3 wa w1.heap.size (.slice lawa lnwa lcwa) (.slice sawa snwa scwa) (.slice oawa onwa ocwa)
        replace K := K.grown hgn (by have := hz1.out; omega)
        replace E := E.grown hgn (by have := hz1.out; omega)
        have Rwa' := Rwa.off hgn (by omega)
        replace hBwa := below_grown hBwa hgn (by have := hz1.out; omega)
        replace NB := NB.put3 (x := (.slice lawa lnwa lcwa)) (y := (.slice sawa snwa scwa)) (z := (.slice oawa onwa ocwa))
        generalize ((wa.setCell ⟨w1.heap.size, 0, none⟩ (.slice lawa lnwa lcwa)).setCell ⟨w1.heap.size, 1, none⟩ (.slice sawa snwa scwa)).setCell ⟨w1.heap.size, 2, none⟩ (.slice oawa onwa ocwa) = Uwa at *
        have hzUwa : w1.heap.size < Uwa.heap.size := NB.lt
        clear hgn
        refine (spec_l8Copy _ d Uwa (hD.below hBwa) hlen).mono ?_
        rintro e w9 ⟨⟨v9, rfl, R9⟩, hB9⟩
        have hz9 := hB9.size
        replace E := E.below hB9
        replace hB9 := chain hBwa hB9
        obtain ⟨la9, ln9, lc9, sa9, sn9, sc9, oa9, on9, oc9, rfl⟩ := R9.at.l.cells
        obtain ⟨⟨z0, z1, z2⟩, f0, f1, f2⟩ := blk_three E
        go_wp2
        have E8 := E.put3 (x := .slice la9 ln9 lc9) (y := .slice sa9 sn9 sc9) (z := .slice oa9 on9 oc9)
        have hg8 := grown_put3 w9 (w.heap.size + 1) (.slice la9 ln9 lc9) (.slice sa9 sn9 sc9) (.slice oa9 on9 oc9)
        have DR8 := R9.off hg8 (by have := hz1.out; omega)
        have hB8 := below_grown hB9 hg8 (by omega)
        generalize ((w9.setCell ⟨w.heap.size + 1, 0, none⟩ (.slice la9 ln9 lc9)).setCell ⟨w.heap.size + 1, 1, none⟩ (.slice sa9 sn9 sc9)).setCell ⟨w.heap.size + 1, 2, none⟩ (.slice oa9 on9 oc9) = W8 at *
        refine bodyPost_ret (results_cell_tmpJ rfl _ W8 (w.heap.size + 1) _ _ _ _ _ rfl E8 Try.underlying27 rfl (by kernel_rfl) rfl) rfl ?_
        exact ⟨⟨_, by rw [hr.out] <;> rfl, by rw [hr.out]; exact DR8.mono (by have := hz1.out; omega)⟩, hB8⟩
      · have he : (actD dm ⟨1, freshB nm, ⟨#[]⟩, data⟩).2 = 0 := by simpa using hcwa
        obtain ⟨hdbda, _, _⟩ := act_right hdbdm he
        have hdimda := act_dim hdbdm hdimdm hoa he
        have hseqda : Hid (repD d nm data = repA d (seqD (actD dm ⟨1, freshB nm, ⟨#[]⟩, data⟩).1 [⟨2, freshB nm, nm, ⟨#[]⟩⟩])) := by show _ = _; rw [hseqdm.out]; simp only [seqD, he, if_true]
        rw [he]
        generalize (actD dm ⟨1, freshB nm, ⟨#[]⟩, data⟩).1 = da at *
        obtain ⟨⟨n0, n1, n2⟩, m0, m1, m2⟩ := blk_three NB
        obtain ⟨k0, k1, k2⟩ := K.three
        go_wp2_with fail
        clear n0 n1 n2 m0 m1 m2 k0 k1 k2
        have hgn := grown_put3 wa w1.heap.size (.slice lawa lnwa lcwa) (.slice sawa snwa scwa) (.slice oawa onwa ocwa)
        replace K := K.grown hgn (by have := hz1.out; omega)
        replace E := E.grown hgn (by have := hz1.out; omega)
        have Rwa' := Rwa.off hgn (by omega)
        replace hBwa := below_grown hBwa hgn (by have := hz1.out; omega)
        replace NB := NB.put3 (x := (.slice lawa lnwa lcwa)) (y := (.slice sawa snwa scwa)) (z := (.slice oawa onwa ocwa))
        generalize ((wa.setCell ⟨w1.heap.size, 0, none⟩ (.slice lawa lnwa lcwa)).setCell ⟨w1.heap.size, 1, none⟩ (.slice sawa snwa scwa)).setCell ⟨w1.heap.size, 2, none⟩ (.slice oawa onwa ocwa) = Uwa at *
        have hzUwa : w1.heap.size < Uwa.heap.size := NB.lt
        clear hgn
        refine (spec_l8Act _ da ⟨2, freshB nm, nm, ⟨#[]⟩⟩ Uwa Rwa'.at hdimda (diskB_all hdbda).1 hor).mono ?_
        rintro e wb ⟨⟨vwb, rfl, Rwb⟩, hBwb⟩
        replace K := K.below hBwb
        replace E := E.below hBwb
        replace NB := NB.below hBwb
        have hzwb := hBwb.size
        replace hBwb := chain hBwa hBwb
        obtain ⟨lawb, lnwb, lcwb, sawb, snwb, scwb, oawb, onwb, ocwb, rfl⟩ := Rwb.at.l.cells
        cases hcwb : decide ((actD da ⟨2, freshB nm, nm, ⟨#[]⟩⟩).2 = 0)
        · have hne : ¬ (actD da ⟨2, freshB nm, nm, ⟨#[]⟩⟩).2 = 0 := by simpa using hcwb
          have hr : Hid (repD d nm data = (d, (actD da ⟨2, freshB nm, nm, ⟨#[]⟩⟩).2)) := by show _ = _; rw [hseqda.out]; simp only [seqD, repA, hne, if_false]
          have hneb : ((actD da ⟨2, freshB nm, nm, ⟨#[]⟩⟩).2 == 0) = false := by simpa using hne
          have hneq : ((actD da ⟨2, freshB nm, nm, ⟨#[]⟩⟩).2 != 0) = true := by simp [hne]
          generalize (actD da ⟨2, freshB nm, nm, ⟨#[]⟩⟩).2 = cc at *
          obtain ⟨⟨n0, n1, n2⟩, m0, m1, m2⟩ := blk_three NB
          obtain ⟨k0, k1, k2⟩ := K.three
          go_wp2_with fail
          clear n0 n1 n2 m0 m1 m2 k0 k1 k2
          have hgn := grown_put3 wb w1.heap.size (.slice lawb lnwb lcwb) (.slice sawb snwb scwb) (.slice oawb onwb ocwb)
          replace K := K.grown hgn (by have := hz1.out; omega)
          replace E := E.grown hgn (by have := hz1.out; omega)
          have Rwb' := Rwb.off hgn (by omega)
          replace hBwb := below_grown hBwb hgn (by have := hz1.out; omega)
          replace NB := NB.put3 (x := (.slice lawb lnwb lcwb)) (y := (.slice sawb snwb scwb)) (z := (.slice oawb onwb ocwb))
          generalize ((wb.setCell ⟨w1.heap.size, 0, none⟩ (.slice lawb lnwb lcwb)).setCell ⟨w1.heap.size, 1, none⟩ (.slice sawb snwb scwb)).setCell ⟨w1.heap.size, 2, none⟩ (.slice oawb onwb ocwb) = Uwb at *
          have hzUwb : w1.heap.size < Uwb.heap.size := NB.lt
          clear hgn
          refine (spec_l8Copy _ d Uwb (hD.below hBwb) hlen).mono ?_
          rintro e w9 ⟨⟨v9, rfl, R9⟩, hB9⟩
          have hz9 := hB9.size
          replace E := E.below hB9
          replace hB9 := chain hBwb hB9
          obtain ⟨la9, ln9, lc9, sa9, sn9, sc9, oa9, on9, oc9, rfl⟩ := R9.at.l.cells
          obtain ⟨⟨z0, z1, z2⟩, f0, f1, f2⟩ := blk_three E
          go_wp2
          have E8 := E.put3 (x := .slice la9 ln9 lc9) (y := .slice sa9 sn9 sc9) (z := .slice oa9 on9 oc9)
          have hg8 := grown_put3 w9 (w.heap.size + 1) (.slice la9 ln9 lc9) (.slice sa9 sn9 sc9) (.slice oa9 on9 oc9)
          have DR8 := R9.off hg8 (by have := hz1.out; omega)
          have hB8 := below_grown hB9 hg8 (by omega)
          generalize ((w9.setCell ⟨w.heap.size + 1, 0, none⟩ (.slice la9 ln9 lc9)).setCell ⟨w.heap.size + 1, 1, none⟩ (.slice sa9 sn9 sc9)).setCell ⟨w.heap.size + 1, 2, none⟩ (.slice oa9 on9 oc9) = W8 at *
          refine bodyPost_ret (results_cell_tmpJ rfl _ W8 (w.heap.size + 1) _ _ _ _ _ rfl E8 Try.underlying27 rfl (by kernel_rfl) rfl) rfl ?_
          exact ⟨⟨_, by rw [hr.out] <;> rfl, by rw [hr.out]; exact DR8.mono (by have := hz1.out; omega)⟩, hB8⟩
        · have he : (actD da ⟨2, freshB nm, nm, ⟨#[]⟩⟩).2 = 0 := by simpa using hcwb
          obtain ⟨hdbb, _, _⟩ := act_right hdbda he
          have hdimb := act_dim hdbda hdimda hor he
          have hr : Hid (repD d nm data = ((actD da ⟨2, freshB nm, nm, ⟨#[]⟩⟩).1, 0)) := by show _ = _; rw [hseqda.out]; simp only [seqD, repA, he, if_true]
          rw [he]
          generalize (actD da ⟨2, freshB nm, nm, ⟨#[]⟩⟩).1 = db at *
          obtain ⟨⟨n0, n1, n2⟩, m0, m1, m2⟩ := blk_three NB
          obtain ⟨k0, k1, k2⟩ := K.three
          go_wp2_with fail
          clear n0 n1 n2 m0 m1 m2 k0 k1 k2
          have hgn := grown_put3 wb w1.heap.size (.slice lawb lnwb lcwb) (.slice sawb snwb scwb) (.slice oawb onwb ocwb)
          replace K := K.grown hgn (by have := hz1.out; omega)
          replace E := E.grown hgn (by have := hz1.out; omega)
          have Rwb' := Rwb.off hgn (by omega)
          replace hBwb := below_grown hBwb hgn (by have := hz1.out; omega)
          replace NB := NB.put3 (x := (.slice lawb lnwb lcwb)) (y := (.slice sawb snwb scwb)) (z := (.slice oawb onwb ocwb))
          generalize ((wb.setCell ⟨w1.heap.size, 0, none⟩ (.slice lawb lnwb lcwb)).setCell ⟨w1.heap.size, 1, none⟩ (.slice sawb snwb scwb)).setCell ⟨w1.heap.size, 2, none⟩ (.slice oawb onwb ocwb) = Uwb at *
          have hzUwb : w1.heap.size < Uwb.heap.size := NB.lt
          clear hgn
          refine (spec_l8Copy _ db Uwb Rwb'.at ⟨hdimb.live.1, hdimb.safe.1, hdimb.ops.1⟩).mono ?_
          rintro e w9 ⟨⟨v9, rfl, R9⟩, hB9⟩
          have hz9 := hB9.size
          replace E := E.below hB9
          replace hB9 := chain hBwb hB9
          obtain ⟨la9, ln9, lc9, sa9, sn9, sc9, oa9, on9, oc9, rfl⟩ := R9.at.l.cells
          obtain ⟨⟨z0, z1, z2⟩, f0, f1, f2⟩ := blk_three E
          go_wp2
          have E8 := E.put3 (x := .slice la9 ln9 lc9) (y := .slice sa9 sn9 sc9) (z := .slice oa9 on9 oc9)
          have hg8 := grown_put3 w9 (w.heap.size + 1) (.slice la9 ln9 lc9) (.slice sa9 sn9 sc9) (.slice oa9 on9 oc9)
          have DR8 := R9.off hg8 (by have := hz1.out; omega)
          have hB8 := below_grown hB9 hg8 (by omega)
          generalize ((w9.setCell ⟨w.heap.size + 1, 0, none⟩ (.slice la9 ln9 lc9)).setCell ⟨w.heap.size + 1, 1, none⟩ (.slice sa9 sn9 sc9)).setCell ⟨w.heap.size + 1, 2, none⟩ (.slice oa9 on9 oc9) = W8 at *
          refine bodyPost_ret (results_cell_tmpJ rfl _ W8 (w.heap.size + 1) _ _ _ _ _ rfl E8 Try.underlying27 rfl (by kernel_rfl) rfl) rfl ?_
          exact ⟨⟨_, by rw [hr.out] <;> rfl, by rw [hr.out]; exact DR8.mono (by have := hz1.out; omega)⟩, hB8⟩
end Go.Proofs.Ytpobgjkmcmkkeaa
