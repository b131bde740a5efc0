/- What is replaced, by the program. -/
import Derived.Test.YtpobgjkmcmkkeaaG24
import Derived.Test.YtpobgjkmcmkkeaaG23
import Derived.Test.YtpobgjkmcmkkeaaG22
import Derived.Test.YtpobgjkmcmkkeaaG17
namespace Go.Proofs.Ytpobgjkmcmkkeaa
open Go Go.RowKit Go.BigFrame

/-- What is left to be said with these ops to come. -/
def resI (d : Dk) (ops : List Dp) (cur : Dk) : Dk × Int := if diskB cur = true then repA d (seqD cur ops) else (noD, 1)
theorem rd_some {d : Dk} {nm : ByteArray} (h : diskB d = true) : (rdD d nm).2 = (atF d.live nm).isSome := by
  rw [rdD_yes nm h]
  unfold rdL
  cases hq : atF d.live nm with
  | none => rfl
  | some i =>
    obtain ⟨f, hf, _⟩ := atF_lt hq
    simp only [hf]; rfl
theorem rep_res {d : Dk} {nm data : ByteArray} {th : Bool} (h : (rdD d (freshB nm)).2 = th) : repD d nm data = resI d (repOps nm data th) d := by
  unfold repD resI
  cases hd : diskB d
  · simp
  · rw [← h, rd_some hd]
theorem actD_code (d : Dk) (o : Dp) : (actD d o).2 ≠ 1 := by
  unfold actD
  split
  · simp
  · split
    · simp
    · split <;> simp
/-- One round. -/
theorem resI_wrong {d cur : Dk} {o : Dp} {r : List Dp} (h : diskB cur = false) : resI d (o :: r) cur = (noD, 1) ∧ doD cur o = (noD, 1) := ⟨by simp [resI, h], doD_no o h⟩
theorem resI_fail {d cur : Dk} {o : Dp} {r : List Dp} (h : diskB cur = true) (h0 : ¬ (doD cur o).2 = 0) : resI d (o :: r) cur = (d, (doD cur o).2) ∧ (doD cur o).2 ≠ 1 := by
  rw [doD_yes o h] at h0 ⊢
  refine ⟨?_, actD_code cur o⟩
  unfold resI repA seqD
  rw [if_pos h, if_neg h0]
  simp only [h0, if_false]
theorem resI_next {d cur : Dk} {o : Dp} {r : List Dp} (h : diskB cur = true) (h0 : (doD cur o).2 = 0) : resI d (o :: r) cur = resI d r (doD cur o).1 ∧ diskB (doD cur o).1 = true := by
  rw [doD_yes o h] at h0 ⊢
  have hr := (act_right h h0).1
  refine ⟨?_, hr⟩
  unfold resI
  rw [if_pos h, if_pos hr]
  show repA d (if (actD cur o).2 = 0 then seqD (actD cur o).1 r else _) = _
  rw [if_pos h0]
theorem resI_end {d cur : Dk} (h : diskB cur = true) : resI d [] cur = (cur, 0) := by simp [resI, h, repA, seqD]

set_option maxHeartbeats 8000000 in
set_option maxRecDepth 100000 in
theorem impl_Replace (v : Value) (d : Dk) (nm data : ByteArray) (w : World) (h : DiskAt w v d) (hd : DimD d) (hn1 : nm.size ≤ 1048576) (hn2 : data.size ≤ 1048576) :
    Calls Try.prog 24 #[v, .string nm, .string data] w fun e w' => (∃ v', e = .returned (.tuple #[v', .int .i64 (repD d nm data).2]) ∧ DiskS (w.heap.size + 1) w' v' (repD d nm data).1) ∧ Below w.heap.size w w' := by
  have hD := h
  obtain ⟨la, ln, lc, sa, sn, sc, oa, on, oc, rfl⟩ := h.l.cells
  have hlen : d.live.length ≤ 4000000 ∧ d.safe.length ≤ 4000000 ∧ d.ops.length ≤ 4000000 := ⟨hd.live.1, hd.safe.1, hd.ops.1⟩
  obtain ⟨W0, hW0⟩ : ∃ W0, W0 = ((w.alloc (.cells #[.slice la ln lc, .slice sa sn sc, .slice oa on oc] 27)).alloc (.cells #[.slice none 0 0, .slice none 0 0, .slice none 0 0] 27)).alloc (.cells #[.int .i64 1, .string (freshB nm), .string ⟨#[]⟩, .string data, .int .i64 2, .string (freshB nm), .string nm, .string ⟨#[]⟩] 36) := ⟨_, rfl⟩
  have hB0 : Below w.heap.size w W0 := by rw [hW0]; go_grown
  have K : Blk W0 w.heap.size #[.slice la ln lc, .slice sa sn sc, .slice oa on oc] 27 := by rw [hW0]; exact ((Blk.new w _ _).alloc _).alloc _
  have E : Blk W0 (w.heap.size + 1) #[.slice none 0 0, .slice none 0 0, .slice none 0 0] 27 := by rw [hW0]; exact (Blk.new' _ _ _ _ (by simp)).alloc _
  have OB : Blk W0 (w.heap.size + 1 + 1) #[.int .i64 1, .string (freshB nm), .string ⟨#[]⟩, .string data, .int .i64 2, .string (freshB nm), .string nm, .string ⟨#[]⟩] 36 := by rw [hW0]; exact Blk.new' _ _ _ _ (by simp)
  have RO : ResAt Dp.cs 4 36 W0 (w.heap.size + 1 + 1) (some ⟨w.heap.size + 1 + 1, 0, none⟩) 2 2 [⟨1, freshB nm, ⟨#[]⟩, data⟩, ⟨2, freshB nm, nm, ⟨#[]⟩⟩] := res_of_cells (l := [⟨1, freshB nm, ⟨#[]⟩, data⟩, ⟨2, freshB nm, nm, ⟨#[]⟩⟩]) dpcs_len OB (Nat.le_refl _) rfl (Nat.le_refl _) (by unfold maxLen; omega) rfl rfl
  have hz0 : Hid (W0.heap.size = w.heap.size + 1 + 1 + 1) := by show _ = _; rw [hW0]; simp
  have hfr2 : nm ++ ⟨#[46, 110, 101, 119]⟩ = freshB nm := rfl
  go_enter Try.func24, Try.ntmps24
  go_wp2_with fail
  rw [← hW0]
  clear hW0 OB hfr2
  refine (impl_ReadFile _ d (freshB nm) W0 (hD.below hB0) hd).mono ?_
  rintro e w1 ⟨rfl, hB1⟩
  replace K := K.below hB1
  replace E := E.below hB1
  replace RO := RO.below hB1
  have hz1 : Hid (w.heap.size + 1 + 1 + 1 ≤ w1.heap.size) := by have := hB1.size; have := hz0.out; show _ ≤ _; omega
  replace hB1 := chain hB0 hB1
  clear hB0 hz0
  generalize (rdD d (freshB nm)).1 = rdata
  cases hth : (rdD d (freshB nm)).2
  · have hro : Hid (repD d nm data = resI d [⟨1, freshB nm, ⟨#[]⟩, data⟩, ⟨2, freshB nm, nm, ⟨#[]⟩⟩] d) := rep_res hth
    have hoo := rep_ops (there := false) hn1 hn2
    have hA : Below w1.heap.size w1 (w1.alloc (.cells #[.slice la ln lc, .slice sa sn sc, .slice oa on oc] 27)) := (Below.refl _ _).alloc (Nat.le_refl _) _
    have NB := Blk.new w1 #[.slice la ln lc, .slice sa sn sc, .slice oa on oc] 27
    obtain ⟨k0, k1, k2⟩ := K.three
    go_wp2_with fail
    clear k0 k1 k2
    replace K := K.below hA
    replace E := E.below hA
    replace RO := RO.below hA
    have hBW := chain hB1 hA
    have hzW : Hid (w1.heap.size < (w1.alloc (.cells #[.slice la ln lc, .slice sa sn sc, .slice oa on oc] 27)).heap.size) := NB.lt
    obtain ⟨eb, heb⟩ : ∃ eb, eb = w1.heap.size := ⟨_, rfl⟩
    rw [← heb] at NB
    have hebH : Hid (w.heap.size + 1 + 1 < eb) := by have := hz1.out; show _ < _; omega
    simp only [← heb]
    generalize w1.alloc (.cells #[.slice la ln lc, .slice sa sn sc, .slice oa on oc] 27) = W2 at *
    clear heb hA
    have hLn : Hid (([⟨1, freshB nm, ⟨#[]⟩, data⟩, ⟨2, freshB nm, nm, ⟨#[]⟩⟩] : List Dp).length = 2) := rfl
    have hstart : DiskAt W2 (.agg #[.slice la ln lc, .slice sa sn sc, .slice oa on oc]) d := hD.below hBW
    go_loopw [41] (fun ix wr => ∃ (k : Nat) (cur : Dk) (la5 : Option Addr) (ln5 lc5 : Nat) (sa5 : Option Addr) (sn5 sc5 : Nat) (oa5 : Option Addr) (on5 oc5 : Nat), k ≤ 2 ∧ ix = .int .i64 k ∧ Blk wr eb #[.slice la5 ln5 lc5, .slice sa5 sn5 sc5, .slice oa5 on5 oc5] 27 ∧ DiskAt wr (.agg #[.slice la5 ln5 lc5, .slice sa5 sn5 sc5, .slice oa5 on5 oc5]) cur ∧ DimD cur ∧ (0 < k → diskB cur = true ∧ DiskS (w.heap.size + 1 + 1) wr (.agg #[.slice la5 ln5 lc5, .slice sa5 sn5 sc5, .slice oa5 on5 oc5]) cur) ∧ Hid (repD d nm data = resI d (([⟨1, freshB nm, ⟨#[]⟩, data⟩, ⟨2, freshB nm, nm, ⟨#[]⟩⟩] : List Dp).drop k) cur) ∧ Blk wr w.heap.size #[.slice la ln lc, .slice sa sn sc, .slice oa on oc] 27 ∧ Blk wr (w.heap.size + 1) #[.slice none 0 0, .slice none 0 0, .slice none 0 0] 27 ∧ ResAt Dp.cs 4 36 wr (w.heap.size + 1 + 1) (some ⟨w.heap.size + 1 + 1, 0, none⟩) 2 2 [⟨1, freshB nm, ⟨#[]⟩, data⟩, ⟨2, freshB nm, nm, ⟨#[]⟩⟩] ∧ eb < wr.heap.size ∧ Below w.heap.size w wr) (fun ix _ => 2 - (intOf ix).toNat)
    case atStart => exact ⟨0, d, la, ln, lc, sa, sn, sc, oa, on, oc, Nat.zero_le _, rfl, NB, hstart, hd, fun h => absurd h (by omega), hro, K, E, RO, NB.lt, hBW⟩
    case round =>
      clear NB hstart K E RO hBW hzW
      obtain ⟨k, cur, la5, ln5, lc5, sa5, sn5, sc5, oa5, on5, oc5, hk, rfl, NB, hcur, hdc, hS, hI, K, E, RO, hlt2, hBr⟩ := hrel
      by_cases hlt : k < 2
      · obtain ⟨b, off, o, hab, hp, c0, c1, c2', c3⟩ := dp_at RO.sl hlt
        have hoi := hoo o (List.mem_of_getElem? hp)
        have hdr : Hid (([⟨1, freshB nm, ⟨#[]⟩, data⟩, ⟨2, freshB nm, nm, ⟨#[]⟩⟩] : List Dp).drop k = o :: ([⟨1, freshB nm, ⟨#[]⟩, data⟩, ⟨2, freshB nm, nm, ⟨#[]⟩⟩] : List Dp).drop (k + 1)) := drop_at hp
        clear hp
        have hk1 : (k : Int) < 2 := by omega
        have hk2 : (0 : Int) ≤ k := by omega
        obtain ⟨n0, n1, n2⟩ := NB.three
        have hA3 : Below wr.heap.size wr (wr.alloc (.cells #[.int .i64 o.k, .string o.nm, .string o.tt, .string o.d] 36)) := (Below.refl _ _).alloc (Nat.le_refl _) _
        have na0 := fun ob => acell (w := wr) ob n0
        have na1 := fun ob => acell (w := wr) ob n1
        have na2 := fun ob => acell (w := wr) ob n2
        cases hab
        try simp only [Nat.zero_add] at c0 c1 c2' c3
        go_wp2_with fail
        clear n0 n1 n2 na0 na1 na2 c0 c1 c2' c3
        refine (impl_Do _ cur o _ (hcur.below hA3) hdc hoi).mono ?_
        rintro e w5 ⟨⟨v5, rfl, S5⟩, hB5⟩
        have hC5 := chain hA3 hB5
        replace K := K.below hC5
        replace E := E.below hC5
        replace NB := NB.below hC5
        replace RO := RO.below hC5
        have hz5 := hC5.size
        have hzb := hBr.size
        have hBr5 := chain hBr hC5
        obtain ⟨la6, ln6, lc6, sa6, sn6, sc6, oa6, on6, oc6, rfl⟩ := S5.r.at.l.cells
        replace S5 := S5.mono (show w.heap.size + 1 + 1 ≤ _ by have := hebH.out; simp only [World.size_alloc]; omega)
        have hA6 : Below w5.heap.size w5 (w5.alloc (.cells #[.slice la6 ln6 lc6, .slice sa6 sn6 sc6, .slice oa6 on6 oc6] 27)) := (Below.refl _ _).alloc (Nat.le_refl _) _
        clear hA3 hB5 hC5
        cases hdb : diskB cur
        · obtain ⟨hr0, hdo⟩ := resI_wrong (d := d) (o := o) (r := ([⟨1, freshB nm, ⟨#[]⟩, data⟩, ⟨2, freshB nm, nm, ⟨#[]⟩⟩] : List Dp).drop (k + 1)) hdb
          have hr : Hid (repD d nm data = (noD, 1)) := by show _ = _; rw [hI.out, hdr.out, hr0]
          rw [hdo]
          replace E := E.below hA6
          have hBr6 := chain hBr5 hA6
          obtain ⟨⟨z0, z1, z2⟩, f0, f1, f2⟩ := blk_three E
          have NR := noD_S (w.heap.size + 1 + 1) (w5.alloc (.cells #[.slice la6 ln6 lc6, .slice sa6 sn6 sc6, .slice oa6 on6 oc6] 27))
          have hzz : (w5.alloc (.cells #[.slice la6 ln6 lc6, .slice sa6 sn6 sc6, .slice oa6 on6 oc6] 27)).heap.size = w5.heap.size + 1 := by simp
          go_wp2
          generalize w5.alloc (.cells #[.slice la6 ln6 lc6, .slice sa6 sn6 sc6, .slice oa6 on6 oc6] 27) = w6 at *
          have E8 := E.put3 (x := .slice none 0 0) (y := .slice none 0 0) (z := .slice none 0 0)
          have hg8 := grown_put3 w6 (w.heap.size + 1) (.slice none 0 0) (.slice none 0 0) (.slice none 0 0)
          have DR8 := NR.off hg8 (by omega)
          have hB8 := below_grown hBr6 hg8 (by omega)
          generalize ((w6.setCell ⟨w.heap.size + 1, 0, none⟩ (.slice none 0 0)).setCell ⟨w.heap.size + 1, 1, none⟩ (.slice none 0 0)).setCell ⟨w.heap.size + 1, 2, none⟩ (.slice none 0 0) = W8 at *
          refine bodyPost_ret (results_cell_tmpJ rfl _ W8 (w.heap.size + 1) _ _ _ _ _ rfl E8 Try.underlying27 rfl (by kernel_rfl) rfl) rfl ?_
          exact ⟨⟨_, by rw [hr.out] <;> rfl, by rw [hr.out]; exact DR8.mono (by omega)⟩, hB8⟩
        · by_cases h0 : (doD cur o).2 = 0
          · obtain ⟨hrn, hdn⟩ := resI_next (d := d) (r := ([⟨1, freshB nm, ⟨#[]⟩, data⟩, ⟨2, freshB nm, nm, ⟨#[]⟩⟩] : List Dp).drop (k + 1)) hdb h0
            have hIn : Hid (repD d nm data = resI d (([⟨1, freshB nm, ⟨#[]⟩, data⟩, ⟨2, freshB nm, nm, ⟨#[]⟩⟩] : List Dp).drop (k + 1)) (doD cur o).1) := by show _ = _; rw [hI.out, hdr.out, hrn]
            have hdn2 : DimD (doD cur o).1 := by rw [doD_yes o hdb] at h0 ⊢; exact act_dim hdb hdc hoi h0
            rw [h0]
            generalize (doD cur o).1 = nx at *
            obtain ⟨⟨n0, n1, n2⟩, m0, m1, m2⟩ := blk_three (NB.below hA6)
            have hne : ¬ eb = w5.heap.size := by omega
            have hne2 : ¬ w5.heap.size = eb := by omega
            go_wp2
            clear n0 n1 n2 m0 m1 m2
            replace K := K.below hA6
            replace E := E.below hA6
            replace NB := NB.below hA6
            replace RO := RO.below hA6
            replace S5 := S5.below hA6
            have hBr6 := chain hBr5 hA6
            have hzz : (w5.alloc (.cells #[.slice la6 ln6 lc6, .slice sa6 sn6 sc6, .slice oa6 on6 oc6] 27)).heap.size = w5.heap.size + 1 := by simp
            generalize w5.alloc (.cells #[.slice la6 ln6 lc6, .slice sa6 sn6 sc6, .slice oa6 on6 oc6] 27) = w6 at *
            have hgn := grown_put3 w6 eb (.slice la6 ln6 lc6) (.slice sa6 sn6 sc6) (.slice oa6 on6 oc6)
            have K7 := K.grown hgn (by have := hebH.out; omega)
            have E7 := E.grown hgn (by have := hebH.out; omega)
            have R7 := RO.ty hgn (rowTy_blk NB) (by decide)
            have S7 := S5.ofTy hgn NB
            have B7 := below_grown hBr6 hgn (by have := hebH.out; omega)
            have N7 := NB.put3 (x := .slice la6 ln6 lc6) (y := .slice sa6 sn6 sc6) (z := .slice oa6 on6 oc6)
            go_roundw
            case rel => exact ⟨k + 1, nx, la6, ln6, lc6, sa6, sn6, sc6, oa6, on6, oc6, by omega, by go_num, N7, S7.r.at, hdn2, fun _ => ⟨hdn, S7⟩, hIn, K7, E7, R7, N7.lt, B7⟩
            case measure => simp [intOf]; omega
          · obtain ⟨hrf, hc1⟩ := resI_fail (d := d) (r := ([⟨1, freshB nm, ⟨#[]⟩, data⟩, ⟨2, freshB nm, nm, ⟨#[]⟩⟩] : List Dp).drop (k + 1)) hdb h0
            have hr : Hid (repD d nm data = (d, (doD cur o).2)) := by show _ = _; rw [hI.out, hdr.out, hrf]
            have e1 : ((doD cur o).2 == 1) = false := by simpa using hc1
            have e0 : ((doD cur o).2 != 0) = true := by simp [h0]
            generalize (doD cur o).2 = cc at *
            replace K := K.below hA6
            replace E := E.below hA6
            have hBr6 := chain hBr5 hA6
            obtain ⟨k0, k1, k2⟩ := K.three
            go_wp2_with fail
            generalize w5.alloc (.cells #[.slice la6 ln6 lc6, .slice sa6 sn6 sc6, .slice oa6 on6 oc6] 27) = w6 at *
            clear k0 k1 k2
            refine (impl_copyDisk _ d w6 (hD.below hBr6) hlen).mono ?_
            rintro e w9 ⟨⟨v9, rfl, R9⟩, hB9⟩
            have hz9 := hB9.size
            have hz6 := hBr6.size
            have hz66 := E.lt
            replace E := E.below hB9
            replace hB9 := chain hBr6 hB9
            obtain ⟨la9, ln9, lc9, sa9, sn9, sc9, oa9, on9, oc9, rfl⟩ := R9.r.at.l.cells
            obtain ⟨⟨z0, z1, z2⟩, f0, f1, f2⟩ := blk_three E
            go_wp2
            have E8 := E.put3 (x := .slice la9 ln9 lc9) (y := .slice sa9 sn9 sc9) (z := .slice oa9 on9 oc9)
            have hg8 := grown_put3 w9 (w.heap.size + 1) (.slice la9 ln9 lc9) (.slice sa9 sn9 sc9) (.slice oa9 on9 oc9)
            have DR8 := R9.off hg8 (by omega)
            have hB8 := below_grown hB9 hg8 (by omega)
            generalize ((w9.setCell ⟨w.heap.size + 1, 0, none⟩ (.slice la9 ln9 lc9)).setCell ⟨w.heap.size + 1, 1, none⟩ (.slice sa9 sn9 sc9)).setCell ⟨w.heap.size + 1, 2, none⟩ (.slice oa9 on9 oc9) = W8 at *
            refine bodyPost_ret (results_cell_tmpJ rfl _ W8 (w.heap.size + 1) _ _ _ _ _ rfl E8 Try.underlying27 rfl (by kernel_rfl) rfl) rfl ?_
            exact ⟨⟨_, by rw [hr.out] <;> rfl, by rw [hr.out]; exact DR8.mono (by omega)⟩, hB8⟩
      · obtain rfl : k = 2 := by omega
        obtain ⟨hdb, S5⟩ := hS (by omega)
        have hr : Hid (repD d nm data = (cur, 0)) := by show _ = _; rw [hI.out]; exact resI_end hdb
        obtain ⟨n0, n1, n2⟩ := NB.three
        obtain ⟨⟨z0, z1, z2⟩, f0, f1, f2⟩ := blk_three E
        clear hI
        go_wp2
        have E8 := E.put3 (x := .slice la5 ln5 lc5) (y := .slice sa5 sn5 sc5) (z := .slice oa5 on5 oc5)
        have hg8 := grown_put3 wr (w.heap.size + 1) (.slice la5 ln5 lc5) (.slice sa5 sn5 sc5) (.slice oa5 on5 oc5)
        have DR8 := S5.off hg8 (by omega)
        have hB8 := below_grown hBr hg8 (by omega)
        generalize ((wr.setCell ⟨w.heap.size + 1, 0, none⟩ (.slice la5 ln5 lc5)).setCell ⟨w.heap.size + 1, 1, none⟩ (.slice sa5 sn5 sc5)).setCell ⟨w.heap.size + 1, 2, none⟩ (.slice oa5 on5 oc5) = W8 at *
        refine bodyPost_ret (results_cell_tmpJ rfl _ W8 (w.heap.size + 1) _ _ _ _ _ rfl E8 Try.underlying27 rfl (by kernel_rfl) rfl) rfl ?_
        exact ⟨⟨_, by rw [hr.out] <;> rfl, by rw [hr.out]; exact DR8.mono (by omega)⟩, hB8⟩
  · have hro : Hid (repD d nm data = resI d [⟨3, freshB nm, ⟨#[]⟩, ⟨#[]⟩⟩, ⟨1, freshB nm, ⟨#[]⟩, data⟩, ⟨2, freshB nm, nm, ⟨#[]⟩⟩] d) := rep_res hth
    have hoo := rep_ops (there := true) hn1 hn2
    have hA1 : Below w1.heap.size w1 (w1.alloc (.cells #[.int .i64 3, .string (freshB nm), .string ⟨#[]⟩, .string ⟨#[]⟩] 36)) := (Below.refl _ _).alloc (Nat.le_refl _) _
    have MB : Blk (w1.alloc (.cells #[.int .i64 3, .string (freshB nm), .string ⟨#[]⟩, .string ⟨#[]⟩] 36)) w1.heap.size (Dp.cs ⟨3, freshB nm, ⟨#[]⟩, ⟨#[]⟩⟩).toArray 36 := Blk.new w1 #[.int .i64 3, .string (freshB nm), .string ⟨#[]⟩, .string ⟨#[]⟩] 36
    go_wp2_with fail
    refine (dop_Insert (w.heap.size + 1 + 1) (some ⟨w.heap.size + 1 + 1, 0, none⟩) 2 2 0 w1.heap.size [⟨1, freshB nm, ⟨#[]⟩, data⟩, ⟨2, freshB nm, nm, ⟨#[]⟩⟩] ⟨3, freshB nm, ⟨#[]⟩, ⟨#[]⟩⟩ _ (RO.below hA1) MB (fun ad e => by cases e; have := hz1.out; show w1.heap.size ≠ w.heap.size + 1 + 1; omega) (by omega) (by have := hz1.out; simp only [World.size_alloc]; omega) (by omega)).mono ?_
    rintro e w2 ⟨⟨a2, c2, rfl, RO2⟩, hg2⟩
    have K2 := (K.below hA1).ty hg2 ((RO.below hA1).rowTy (m := 2) (k := 2)) (by decide)
    have E2 := (E.below hA1).ty hg2 ((RO.below hA1).rowTy (m := 2) (k := 2)) (by decide)
    have hB2 : Below w.heap.size w w2 := (chain hB1 hA1).grown hg2 (chain hB1 hA1).size (own_ge fun ad e => by cases e; show w.heap.size ≤ w.heap.size + 1 + 1; omega)
    have hz2 : Hid (w.heap.size + 1 + 1 + 1 ≤ w2.heap.size) := by have h1 := hz1.out; have h2 := hg2.size; have h3 := hA1.size; show _ ≤ _; omega
    clear hg2 hA1 MB RO K E hB1 hz1
    have K := K2
    have E := E2
    have hz1 := hz2
    have RO : ResAt Dp.cs 4 36 w2 (w.heap.size + 1 + 1) a2 3 c2 [⟨3, freshB nm, ⟨#[]⟩, ⟨#[]⟩⟩, ⟨1, freshB nm, ⟨#[]⟩, data⟩, ⟨2, freshB nm, nm, ⟨#[]⟩⟩] := RO2
    clear K2 E2 hz2 RO2
    have hA : Below w2.heap.size w2 (w2.alloc (.cells #[.slice la ln lc, .slice sa sn sc, .slice oa on oc] 27)) := (Below.refl _ _).alloc (Nat.le_refl _) _
    have NB := Blk.new w2 #[.slice la ln lc, .slice sa sn sc, .slice oa on oc] 27
    obtain ⟨k0, k1, k2⟩ := K.three
    go_wp2_with fail
    clear k0 k1 k2
    replace K := K.below hA
    replace E := E.below hA
    replace RO := RO.below hA
    have hBW := chain hB2 hA
    have hzW : Hid (w2.heap.size < (w2.alloc (.cells #[.slice la ln lc, .slice sa sn sc, .slice oa on oc] 27)).heap.size) := NB.lt
    obtain ⟨eb, heb⟩ : ∃ eb, eb = w2.heap.size := ⟨_, rfl⟩
    rw [← heb] at NB
    have hebH : Hid (w.heap.size + 1 + 1 < eb) := by have := hz1.out; show _ < _; omega
    simp only [← heb]
    generalize w2.alloc (.cells #[.slice la ln lc, .slice sa sn sc, .slice oa on oc] 27) = W2 at *
    clear heb hA
    have hLn : Hid (([⟨3, freshB nm, ⟨#[]⟩, ⟨#[]⟩⟩, ⟨1, freshB nm, ⟨#[]⟩, data⟩, ⟨2, freshB nm, nm, ⟨#[]⟩⟩] : List Dp).length = 3) := rfl
    have hstart : DiskAt W2 (.agg #[.slice la ln lc, .slice sa sn sc, .slice oa on oc]) d := hD.below hBW
    go_loopw [41] (fun ix wr => ∃ (k : Nat) (cur : Dk) (la5 : Option Addr) (ln5 lc5 : Nat) (sa5 : Option Addr) (sn5 sc5 : Nat) (oa5 : Option Addr) (on5 oc5 : Nat), k ≤ 3 ∧ ix = .int .i64 k ∧ Blk wr eb #[.slice la5 ln5 lc5, .slice sa5 sn5 sc5, .slice oa5 on5 oc5] 27 ∧ DiskAt wr (.agg #[.slice la5 ln5 lc5, .slice sa5 sn5 sc5, .slice oa5 on5 oc5]) cur ∧ DimD cur ∧ (0 < k → diskB cur = true ∧ DiskS (w.heap.size + 1 + 1) wr (.agg #[.slice la5 ln5 lc5, .slice sa5 sn5 sc5, .slice oa5 on5 oc5]) cur) ∧ Hid (repD d nm data = resI d (([⟨3, freshB nm, ⟨#[]⟩, ⟨#[]⟩⟩, ⟨1, freshB nm, ⟨#[]⟩, data⟩, ⟨2, freshB nm, nm, ⟨#[]⟩⟩] : List Dp).drop k) cur) ∧ Blk wr w.heap.size #[.slice la ln lc, .slice sa sn sc, .slice oa on oc] 27 ∧ Blk wr (w.heap.size + 1) #[.slice none 0 0, .slice none 0 0, .slice none 0 0] 27 ∧ ResAt Dp.cs 4 36 wr (w.heap.size + 1 + 1) a2 3 c2 [⟨3, freshB nm, ⟨#[]⟩, ⟨#[]⟩⟩, ⟨1, freshB nm, ⟨#[]⟩, data⟩, ⟨2, freshB nm, nm, ⟨#[]⟩⟩] ∧ eb < wr.heap.size ∧ Below w.heap.size w wr) (fun ix _ => 3 - (intOf ix).toNat)
    case atStart => exact ⟨0, d, la, ln, lc, sa, sn, sc, oa, on, oc, Nat.zero_le _, rfl, NB, hstart, hd, fun h => absurd h (by omega), hro, K, E, RO, NB.lt, hBW⟩
    case round =>
      clear NB hstart K E RO hBW hzW
      obtain ⟨k, cur, la5, ln5, lc5, sa5, sn5, sc5, oa5, on5, oc5, hk, rfl, NB, hcur, hdc, hS, hI, K, E, RO, hlt2, hBr⟩ := hrel
      by_cases hlt : k < 3
      · obtain ⟨b, off, o, hab, hp, c0, c1, c2', c3⟩ := dp_at RO.sl hlt
        have hoi := hoo o (List.mem_of_getElem? hp)
        have hdr : Hid (([⟨3, freshB nm, ⟨#[]⟩, ⟨#[]⟩⟩, ⟨1, freshB nm, ⟨#[]⟩, data⟩, ⟨2, freshB nm, nm, ⟨#[]⟩⟩] : List Dp).drop k = o :: ([⟨3, freshB nm, ⟨#[]⟩, ⟨#[]⟩⟩, ⟨1, freshB nm, ⟨#[]⟩, data⟩, ⟨2, freshB nm, nm, ⟨#[]⟩⟩] : List Dp).drop (k + 1)) := drop_at hp
        clear hp
        have hk1 : (k : Int) < 3 := by omega
        have hk2 : (0 : Int) ≤ k := by omega
        obtain ⟨n0, n1, n2⟩ := NB.three
        have hA3 : Below wr.heap.size wr (wr.alloc (.cells #[.int .i64 o.k, .string o.nm, .string o.tt, .string o.d] 36)) := (Below.refl _ _).alloc (Nat.le_refl _) _
        have na0 := fun ob => acell (w := wr) ob n0
        have na1 := fun ob => acell (w := wr) ob n1
        have na2 := fun ob => acell (w := wr) ob n2
        cases hab
        try simp only [Nat.zero_add] at c0 c1 c2' c3
        go_wp2_with fail
        clear n0 n1 n2 na0 na1 na2 c0 c1 c2' c3
        refine (impl_Do _ cur o _ (hcur.below hA3) hdc hoi).mono ?_
        rintro e w5 ⟨⟨v5, rfl, S5⟩, hB5⟩
        have hC5 := chain hA3 hB5
        replace K := K.below hC5
        replace E := E.below hC5
        replace NB := NB.below hC5
        replace RO := RO.below hC5
        have hz5 := hC5.size
        have hzb := hBr.size
        have hBr5 := chain hBr hC5
        obtain ⟨la6, ln6, lc6, sa6, sn6, sc6, oa6, on6, oc6, rfl⟩ := S5.r.at.l.cells
        replace S5 := S5.mono (show w.heap.size + 1 + 1 ≤ _ by have := hebH.out; simp only [World.size_alloc]; omega)
        have hA6 : Below w5.heap.size w5 (w5.alloc (.cells #[.slice la6 ln6 lc6, .slice sa6 sn6 sc6, .slice oa6 on6 oc6] 27)) := (Below.refl _ _).alloc (Nat.le_refl _) _
        clear hA3 hB5 hC5
        cases hdb : diskB cur
        · obtain ⟨hr0, hdo⟩ := resI_wrong (d := d) (o := o) (r := ([⟨3, freshB nm, ⟨#[]⟩, ⟨#[]⟩⟩, ⟨1, freshB nm, ⟨#[]⟩, data⟩, ⟨2, freshB nm, nm, ⟨#[]⟩⟩] : List Dp).drop (k + 1)) hdb
          have hr : Hid (repD d nm data = (noD, 1)) := by show _ = _; rw [hI.out, hdr.out, hr0]
          rw [hdo]
          replace E := E.below hA6
          have hBr6 := chain hBr5 hA6
          obtain ⟨⟨z0, z1, z2⟩, f0, f1, f2⟩ := blk_three E
          have NR := noD_S (w.heap.size + 1 + 1) (w5.alloc (.cells #[.slice la6 ln6 lc6, .slice sa6 sn6 sc6, .slice oa6 on6 oc6] 27))
          have hzz : (w5.alloc (.cells #[.slice la6 ln6 lc6, .slice sa6 sn6 sc6, .slice oa6 on6 oc6] 27)).heap.size = w5.heap.size + 1 := by simp
          go_wp2
          generalize w5.alloc (.cells #[.slice la6 ln6 lc6, .slice sa6 sn6 sc6, .slice oa6 on6 oc6] 27) = w6 at *
          have E8 := E.put3 (x := .slice none 0 0) (y := .slice none 0 0) (z := .slice none 0 0)
          have hg8 := grown_put3 w6 (w.heap.size + 1) (.slice none 0 0) (.slice none 0 0) (.slice none 0 0)
          have DR8 := NR.off hg8 (by omega)
          have hB8 := below_grown hBr6 hg8 (by omega)
          generalize ((w6.setCell ⟨w.heap.size + 1, 0, none⟩ (.slice none 0 0)).setCell ⟨w.heap.size + 1, 1, none⟩ (.slice none 0 0)).setCell ⟨w.heap.size + 1, 2, none⟩ (.slice none 0 0) = W8 at *
          refine bodyPost_ret (results_cell_tmpJ rfl _ W8 (w.heap.size + 1) _ _ _ _ _ rfl E8 Try.underlying27 rfl (by kernel_rfl) rfl) rfl ?_
          exact ⟨⟨_, by rw [hr.out] <;> rfl, by rw [hr.out]; exact DR8.mono (by omega)⟩, hB8⟩
        · by_cases h0 : (doD cur o).2 = 0
          · obtain ⟨hrn, hdn⟩ := resI_next (d := d) (r := ([⟨3, freshB nm, ⟨#[]⟩, ⟨#[]⟩⟩, ⟨1, freshB nm, ⟨#[]⟩, data⟩, ⟨2, freshB nm, nm, ⟨#[]⟩⟩] : List Dp).drop (k + 1)) hdb h0
            have hIn : Hid (repD d nm data = resI d (([⟨3, freshB nm, ⟨#[]⟩, ⟨#[]⟩⟩, ⟨1, freshB nm, ⟨#[]⟩, data⟩, ⟨2, freshB nm, nm, ⟨#[]⟩⟩] : List Dp).drop (k + 1)) (doD cur o).1) := by show _ = _; rw [hI.out, hdr.out, hrn]
            have hdn2 : DimD (doD cur o).1 := by rw [doD_yes o hdb] at h0 ⊢; exact act_dim hdb hdc hoi h0
            rw [h0]
            generalize (doD cur o).1 = nx at *
            obtain ⟨⟨n0, n1, n2⟩, m0, m1, m2⟩ := blk_three (NB.below hA6)
            have hne : ¬ eb = w5.heap.size := by omega
            have hne2 : ¬ w5.heap.size = eb := by omega
            go_wp2
            clear n0 n1 n2 m0 m1 m2
            replace K := K.below hA6
            replace E := E.below hA6
            replace NB := NB.below hA6
            replace RO := RO.below hA6
            replace S5 := S5.below hA6
            have hBr6 := chain hBr5 hA6
            have hzz : (w5.alloc (.cells #[.slice la6 ln6 lc6, .slice sa6 sn6 sc6, .slice oa6 on6 oc6] 27)).heap.size = w5.heap.size + 1 := by simp
            generalize w5.alloc (.cells #[.slice la6 ln6 lc6, .slice sa6 sn6 sc6, .slice oa6 on6 oc6] 27) = w6 at *
            have hgn := grown_put3 w6 eb (.slice la6 ln6 lc6) (.slice sa6 sn6 sc6) (.slice oa6 on6 oc6)
            have K7 := K.grown hgn (by have := hebH.out; omega)
            have E7 := E.grown hgn (by have := hebH.out; omega)
            have R7 := RO.ty hgn (rowTy_blk NB) (by decide)
            have S7 := S5.ofTy hgn NB
            have B7 := below_grown hBr6 hgn (by have := hebH.out; omega)
            have N7 := NB.put3 (x := .slice la6 ln6 lc6) (y := .slice sa6 sn6 sc6) (z := .slice oa6 on6 oc6)
            go_roundw
            case rel => exact ⟨k + 1, nx, la6, ln6, lc6, sa6, sn6, sc6, oa6, on6, oc6, by omega, by go_num, N7, S7.r.at, hdn2, fun _ => ⟨hdn, S7⟩, hIn, K7, E7, R7, N7.lt, B7⟩
            case measure => simp [intOf]; omega
          · obtain ⟨hrf, hc1⟩ := resI_fail (d := d) (r := ([⟨3, freshB nm, ⟨#[]⟩, ⟨#[]⟩⟩, ⟨1, freshB nm, ⟨#[]⟩, data⟩, ⟨2, freshB nm, nm, ⟨#[]⟩⟩] : List Dp).drop (k + 1)) hdb h0
            have hr : Hid (repD d nm data = (d, (doD cur o).2)) := by show _ = _; rw [hI.out, hdr.out, hrf]
            have e1 : ((doD cur o).2 == 1) = false := by simpa using hc1
            have e0 : ((doD cur o).2 != 0) = true := by simp [h0]
            generalize (doD cur o).2 = cc at *
            replace K := K.below hA6
            replace E := E.below hA6
            have hBr6 := chain hBr5 hA6
            obtain ⟨k0, k1, k2⟩ := K.three
            go_wp2_with fail
            generalize w5.alloc (.cells #[.slice la6 ln6 lc6, .slice sa6 sn6 sc6, .slice oa6 on6 oc6] 27) = w6 at *
            clear k0 k1 k2
            refine (impl_copyDisk _ d w6 (hD.below hBr6) hlen).mono ?_
            rintro e w9 ⟨⟨v9, rfl, R9⟩, hB9⟩
            have hz9 := hB9.size
            have hz6 := hBr6.size
            have hz66 := E.lt
            replace E := E.below hB9
            replace hB9 := chain hBr6 hB9
            obtain ⟨la9, ln9, lc9, sa9, sn9, sc9, oa9, on9, oc9, rfl⟩ := R9.r.at.l.cells
            obtain ⟨⟨z0, z1, z2⟩, f0, f1, f2⟩ := blk_three E
            go_wp2
            have E8 := E.put3 (x := .slice la9 ln9 lc9) (y := .slice sa9 sn9 sc9) (z := .slice oa9 on9 oc9)
            have hg8 := grown_put3 w9 (w.heap.size + 1) (.slice la9 ln9 lc9) (.slice sa9 sn9 sc9) (.slice oa9 on9 oc9)
            have DR8 := R9.off hg8 (by omega)
            have hB8 := below_grown hB9 hg8 (by omega)
            generalize ((w9.setCell ⟨w.heap.size + 1, 0, none⟩ (.slice la9 ln9 lc9)).setCell ⟨w.heap.size + 1, 1, none⟩ (.slice sa9 sn9 sc9)).setCell ⟨w.heap.size + 1, 2, none⟩ (.slice oa9 on9 oc9) = W8 at *
            refine bodyPost_ret (results_cell_tmpJ rfl _ W8 (w.heap.size + 1) _ _ _ _ _ rfl E8 Try.underlying27 rfl (by kernel_rfl) rfl) rfl ?_
            exact ⟨⟨_, by rw [hr.out] <;> rfl, by rw [hr.out]; exact DR8.mono (by omega)⟩, hB8⟩
      · obtain rfl : k = 3 := by omega
        obtain ⟨hdb, S5⟩ := hS (by omega)
        have hr : Hid (repD d nm data = (cur, 0)) := by show _ = _; rw [hI.out]; exact resI_end hdb
        obtain ⟨n0, n1, n2⟩ := NB.three
        obtain ⟨⟨z0, z1, z2⟩, f0, f1, f2⟩ := blk_three E
        clear hI
        go_wp2
        have E8 := E.put3 (x := .slice la5 ln5 lc5) (y := .slice sa5 sn5 sc5) (z := .slice oa5 on5 oc5)
        have hg8 := grown_put3 wr (w.heap.size + 1) (.slice la5 ln5 lc5) (.slice sa5 sn5 sc5) (.slice oa5 on5 oc5)
        have DR8 := S5.off hg8 (by omega)
        have hB8 := below_grown hBr hg8 (by omega)
        generalize ((wr.setCell ⟨w.heap.size + 1, 0, none⟩ (.slice la5 ln5 lc5)).setCell ⟨w.heap.size + 1, 1, none⟩ (.slice sa5 sn5 sc5)).setCell ⟨w.heap.size + 1, 2, none⟩ (.slice oa5 on5 oc5) = W8 at *
        refine bodyPost_ret (results_cell_tmpJ rfl _ W8 (w.heap.size + 1) _ _ _ _ _ rfl E8 Try.underlying27 rfl (by kernel_rfl) rfl) rfl ?_
        exact ⟨⟨_, by rw [hr.out] <;> rfl, by rw [hr.out]; exact DR8.mono (by omega)⟩, hB8⟩
end Go.Proofs.Ytpobgjkmcmkkeaa
