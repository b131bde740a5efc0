/- Power that is lost, by the model. -/
import Derived.Test.YtpobgjkmcmkkeaaKz1
namespace Go.Proofs.Ytpobgjkmcmkkeaa
open Go Go.RowKit Go.BigFrame

def BndC (S : Nat) (l : List Fl) : Prop := ∀ x ∈ l, x.nm.size ≤ 9223372036854775807 ∧ x.d.size ≤ S
theorem bndC_do {l : List Fl} {o : Dp} {S T : Nat} (hm : BndC S l) (ho : StrD o) (hd : o.d.size ≤ T) : BndC (S + T) (doF l o).1 := by
  have hb : BndC (S + T) l := fun x hx => ⟨(hm x hx).1, by have := (hm x hx).2; omega⟩
  obtain ⟨g1, g2, g3⟩ := ho
  unfold doF
  split
  · split
    · intro x hx
      rcases putF_mem hx with rfl | hx
      · exact ⟨g1, by show o.d.size ≤ _; omega⟩
      · exact hb x hx
    · exact hb
  · split
    · exact hb
    · rename_i f hfi
      have hfm := hm f (List.mem_of_getElem? hfi)
      split
      · intro x hx
        rcases putF_mem hx with rfl | hx
        · refine ⟨g1, ?_⟩
          show (f.d ++ o.d).size ≤ _
          rw [ByteArray.size_append]
          omega
        · exact hb x hx
      · split
        · intro x hx
          rcases putF_mem hx with rfl | hx
          · exact ⟨g2, by show f.d.size ≤ _; omega⟩
          · exact hb x (List.mem_filter.1 hx).1
        · exact fun x hx => hb x (List.mem_filter.1 hx).1
theorem torn_str {o : Dp} (t : Int) (h : StrD o) : StrD (tornO o t) := by
  unfold tornO
  split
  · obtain ⟨g1, g2, g3⟩ := h
    refine ⟨g1, g2, ?_⟩
    show (o.d.extract 0 t.toNat).size ≤ _
    rw [ByteArray.size_extract]
    omega
  · exact h
theorem plc_next {m q x : Int} {r : List Int} (h1 : q ≤ x) (h2 : x < m) : plcB m q (x :: r) = plcB m (x + 1) r := by simp [plcB, h1, h2]
theorem plc_low {m q x : Int} {r : List Int} (h1 : x < q) : plcB m q (x :: r) = false := by simp [plcB]; omega
theorem plc_high {m q x : Int} {r : List Int} (h1 : m ≤ x) : plcB m q (x :: r) = false := by simp [plcB]; omega

set_option maxHeartbeats 8000000 in
set_option maxRecDepth 100000 in
theorem spec_Crash (v : Value) (d : Dk) (ka : Option Addr) (kn kc : Nat) (keep : List Int) (t : Int) (w : World) (h : DiskAt w v d) (hd : DimD d) (hk : IntsAt w ka kn keep) (hkn : kn ≤ 4194304) :
    Calls Try.prog 34 #[v, .slice ka kn kc, .int .i64 t] w fun e w' => (∃ v', e = .returned (.tuple #[v', .bool (crashD d keep t).2]) ∧ DiskR (w.heap.size + 1) w' v' (crashD d keep t).1) ∧ Below w.heap.size w w' := by
  have hD := h
  obtain ⟨la, ln, lc, sa, sn, sc, oa, on, oc, rfl, hL, hS, hO⟩ := h
  have hon : on ≤ 4000000 := by rw [← hO.sl.len]; exact hd.ops.1
  have hsn : sn ≤ 4000000 := by rw [← hS.sl.len]; exact hd.safe.1
  have lO : Hid (d.ops.length = on) := hO.sl.len
  have lS : Hid (d.safe.length = sn) := hS.sl.len
  have lK : Hid (keep.length = kn) := hk.len
  obtain ⟨W0, hW0⟩ : ∃ W0, W0 = (w.alloc (.cells #[.slice la ln lc, .slice sa sn sc, .slice oa on oc] 27)).alloc (.cells #[.slice none 0 0, .slice none 0 0, .slice none 0 0] 27) := ⟨_, rfl⟩
  have hB0 : Below w.heap.size w W0 := by rw [hW0]; go_grown
  have K : Blk W0 w.heap.size #[.slice la ln lc, .slice sa sn sc, .slice oa on oc] 27 := by rw [hW0]; exact (Blk.new w _ _).alloc _
  have E : Blk W0 (w.heap.size + 1) #[.slice none 0 0, .slice none 0 0, .slice none 0 0] 27 := by rw [hW0]; exact Blk.new' _ _ _ _ (by simp)
  have hz0 : Hid (W0.heap.size = w.heap.size + 2) := by show _ = _; rw [hW0]; simp
  go_enter Try.func34, Try.ntmps34
  go_wp2_with fail
  rw [← hW0]
  clear hW0
  refine (spec_DiskOk _ d W0 (hD.below hB0) hd).mono ?_
  rintro e w1 ⟨rfl, hB1⟩
  replace K := K.below hB1
  replace E := E.below hB1
  have hz1 : Hid (w.heap.size + 2 ≤ w1.heap.size) := by have := hB1.size; have := hz0.out; show _ ≤ _; omega
  replace hB1 := chain hB0 hB1
  clear hB0 hz0
  cases hdb : diskB d
  · have hr : Hid (crashD d keep t = (noD, false)) := crash_no (by rw [hdb]; rfl)
    obtain ⟨⟨z0, z1, z2⟩, f0, f1, f2⟩ := blk_three E
    have NR := noD_R (w.heap.size + 2) w1
    go_wp2
    have E8 := E.put3 (x := .slice none 0 0) (y := .slice none 0 0) (z := .slice none 0 0)
    have hg8 := grown_put3 w1 (w.heap.size + 1) (.slice none 0 0) (.slice none 0 0) (.slice none 0 0)
    have DR8 := NR.off hg8 (by omega)
    have hB8 := below_grown hB1 hg8 (by omega)
    generalize ((w1.setCell ⟨w.heap.size + 1, 0, none⟩ (.slice none 0 0)).setCell ⟨w.heap.size + 1, 1, none⟩ (.slice none 0 0)).setCell ⟨w.heap.size + 1, 2, none⟩ (.slice none 0 0) = W8 at *
    refine bodyPost_ret (results_cell_tmpJ rfl _ W8 (w.heap.size + 1) _ _ _ _ _ rfl E8 Try.underlying27 rfl (by kernel_rfl) rfl) rfl ?_
    exact ⟨⟨_, by rw [hr.out] <;> rfl, by rw [hr.out]; exact DR8.mono (by omega)⟩, hB8⟩
  by_cases ht : t < 0
  · have hr : Hid (crashD d keep t = (noD, false)) := crash_no (by rw [decide_eq_false (show ¬ 0 ≤ t by omega), Bool.and_false])
    obtain ⟨⟨z0, z1, z2⟩, f0, f1, f2⟩ := blk_three E
    have NR := noD_R (w.heap.size + 2) w1
    go_wp2
    have E8 := E.put3 (x := .slice none 0 0) (y := .slice none 0 0) (z := .slice none 0 0)
    have hg8 := grown_put3 w1 (w.heap.size + 1) (.slice none 0 0) (.slice none 0 0) (.slice none 0 0)
    have DR8 := NR.off hg8 (by omega)
    have hB8 := below_grown hB1 hg8 (by omega)
    generalize ((w1.setCell ⟨w.heap.size + 1, 0, none⟩ (.slice none 0 0)).setCell ⟨w.heap.size + 1, 1, none⟩ (.slice none 0 0)).setCell ⟨w.heap.size + 1, 2, none⟩ (.slice none 0 0) = W8 at *
    refine bodyPost_ret (results_cell_tmpJ rfl _ W8 (w.heap.size + 1) _ _ _ _ _ rfl E8 Try.underlying27 rfl (by kernel_rfl) rfl) rfl ?_
    exact ⟨⟨_, by rw [hr.out] <;> rfl, by rw [hr.out]; exact DR8.mono (by omega)⟩, hB8⟩
  have hE0 : Hid (plcB on 0 keep = false → crashD d keep t = (noD, false)) := fun hpl => crash_no (by rw [hdb, lO.out, hpl]; rfl)
  have hall : Hid (plcB on 0 keep = true → (diskB d && plcB d.ops.length 0 keep && decide (0 ≤ t)) = true) := fun hpl => by rw [hdb, lO.out, hpl, decide_eq_true (show 0 ≤ t by omega)]; rfl
  go_wp2_with fail
  go_loopw [8] (fun ix wr => ∃ (k : Nat) (q : Int), k ≤ kn ∧ ix = .int .i64 k ∧ Hid (k = 0 → q = 0) ∧ Hid (∀ y, 0 < k → keep[k - 1]? = some y → q = y + 1) ∧ Hid (plcB on 0 keep = plcB on q (keep.drop k)) ∧ Hid (0 ≤ q) ∧ Below w1.heap.size w1 wr) (fun ix _ => kn - (intOf ix).toNat)
  case atStart => exact ⟨0, 0, Nat.zero_le _, rfl, fun _ => rfl, fun y h => absurd h (by omega), rfl, Int.le_refl _, Below.refl _ _⟩
  case round =>
    obtain ⟨k, q, hkk, rfl, hq0, hq1, hI, hqq, hB⟩ := hrel
    have hC := chain hB1 hB
    have K3 := K.below hB
    by_cases hlt : k < kn
    · obtain ⟨kb, ko, x, rfl, hx, cx⟩ := ints_at' (hk.below hC) hlt
      have hdr : Hid (keep.drop k = x :: keep.drop (k + 1)) := drop_at hx
      have hk1 : (k : Int) < kn := by omega
      have hk2 : (0 : Int) ≤ k := by omega
      obtain ⟨k0, k1, k2⟩ := K3.three
      go_wp2_with fail
      by_cases hix : 0 ≤ x ∧ x ≤ (on : Int) - 1
      · have hin : (decide ((0 : Int) ≤ x) && decide (x ≤ (on : Int) - 1)) = true := by simp; omega
        by_cases hk0 : k = 0
        · have hnx : Hid (plcB on 0 keep = plcB on (x + 1) (keep.drop (k + 1))) := by
            show _ = _
            rw [hI.out, hdr.out]
            exact plc_next (by have := hq0.out hk0; omega) (by omega)
          have hkp : ¬ (0 : Int) < k := by omega
          have hkd : decide ((0 : Int) < k) = false := by simpa using hkp
          have hkq : ¬ 0 < k := by omega
          clear hk0
          have g2 := gcell k2
          have gx := gcell cx
          have hne := grw_ne wr
          refine wp_region_grow (by kernel_rfl) (by kernel_rfl) ?_
          repeat (go_big_quiet_step (first | (go_at_call 73; have qq := spec_l1InD x 0 (on - 1); rw [hin] at qq; exact grow_of_same (qq _))))
          refine wpQuiet_nil ?_
          intro w2 hx2
          have hB2 := grw_out hx2
          clear hx2 g2 gx hne
          go_wp2
          go_roundw
          case rel => exact ⟨k + 1, x + 1, by omega, by go_num, fun h => absurd h (by omega), fun y _ hy => (by rw [show k + 1 - 1 = k from rfl, hx] at hy; cases hy; rfl), hnx, by show _ ≤ _; omega, chain hB hB2⟩
          case measure => simp [intOf]; omega
        · obtain ⟨kb2, ko2, y, hab, hy, cy⟩ := ints_at' (hk.below hC) (show k - 1 < kn by omega)
          obtain ⟨rfl, rfl⟩ : kb2 = kb ∧ ko2 = ko := by cases hab; exact ⟨rfl, rfl⟩
          have hqy : Hid (q = y + 1) := hq1.out y (by omega) hy
          have hkp : (0 : Int) < k := by omega
          have hkd : decide ((0 : Int) < k) = true := by simpa using hkp
          have hkq : 0 < k := by omega
          have hkm : (((k : Int) - 1).toNat) = k - 1 := by omega
          have hkm0 : (0 : Int) ≤ (k : Int) - 1 := by omega
          have hkm1 : (k : Int) - 1 < kn := by omega
          by_cases hxy : x ≤ y
          · have hxd : decide (x ≤ y) = true := by simpa using hxy
            have hr : Hid (crashD d keep t = (noD, false)) := hE0.out (by rw [hI.out, hdr.out]; exact plc_low (by have := hqy.out; omega))
            have g2 := gcell k2
            have gx := gcell cx
            have gy := gcell cy
            have hne := grw_ne wr
            refine wp_region_grow (by kernel_rfl) (by kernel_rfl) ?_
            repeat (go_big_quiet_step (first | (go_at_call 73; have qq := spec_l1InD x 0 (on - 1); rw [hin] at qq; exact grow_of_same (qq _))))
            refine wpQuiet_nil ?_
            intro w2 hx2
            have hB2 := grw_out hx2
            clear hx2 g2 gx hne
            clear gy k0 k1 k2 cx cy
            replace E := (E.below hB).below hB2
            replace hB2 := chain hC hB2
            obtain ⟨⟨z0, z1, z2⟩, f0, f1, f2⟩ := blk_three E
            have NR := noD_R (w.heap.size + 2) w2
            go_wp2
            have E8 := E.put3 (x := .slice none 0 0) (y := .slice none 0 0) (z := .slice none 0 0)
            have hg8 := grown_put3 w2 (w.heap.size + 1) (.slice none 0 0) (.slice none 0 0) (.slice none 0 0)
            have DR8 := NR.off hg8 (by omega)
            have hB8 := below_grown hB2 hg8 (by omega)
            generalize ((w2.setCell ⟨w.heap.size + 1, 0, none⟩ (.slice none 0 0)).setCell ⟨w.heap.size + 1, 1, none⟩ (.slice none 0 0)).setCell ⟨w.heap.size + 1, 2, none⟩ (.slice none 0 0) = W8 at *
            refine bodyPost_ret (results_cell_tmpJ rfl _ W8 (w.heap.size + 1) _ _ _ _ _ rfl E8 Try.underlying27 rfl (by kernel_rfl) rfl) rfl ?_
            exact ⟨⟨_, by rw [hr.out] <;> rfl, by rw [hr.out]; exact DR8.mono (by omega)⟩, hB8⟩
          · have hxd : decide (x ≤ y) = false := by simp; omega
            have hnx : Hid (plcB on 0 keep = plcB on (x + 1) (keep.drop (k + 1))) := by
              show _ = _
              rw [hI.out, hdr.out]
              exact plc_next (by have := hqy.out; omega) (by omega)
            have g2 := gcell k2
            have gx := gcell cx
            have gy := gcell cy
            have hne := grw_ne wr
            refine wp_region_grow (by kernel_rfl) (by kernel_rfl) ?_
            repeat (go_big_quiet_step (first | (go_at_call 73; have qq := spec_l1InD x 0 (on - 1); rw [hin] at qq; exact grow_of_same (qq _))))
            refine wpQuiet_nil ?_
            intro w2 hx2
            have hB2 := grw_out hx2
            clear hx2 g2 gx hne
            clear gy
            go_wp2
            go_roundw
            case rel => exact ⟨k + 1, x + 1, by omega, by go_num, fun h => absurd h (by omega), fun y _ hy => (by rw [show k + 1 - 1 = k from rfl, hx] at hy; cases hy; rfl), hnx, by show _ ≤ _; omega, chain hB hB2⟩
            case measure => simp [intOf]; omega
      · have hin : (decide ((0 : Int) ≤ x) && decide (x ≤ (on : Int) - 1)) = false := by simp; omega
        have hr : Hid (crashD d keep t = (noD, false)) := hE0.out (by
          rw [hI.out, hdr.out]
          by_cases hx0 : x < 0
          · exact plc_low (by have := hqq.out; omega)
          · exact plc_high (by omega))
        have g2 := gcell k2
        have gx := gcell cx
        have hne := grw_ne wr
        refine wp_region_grow (by kernel_rfl) (by kernel_rfl) ?_
        repeat (go_big_quiet_step (first | (go_at_call 73; have qq := spec_l1InD x 0 (on - 1); rw [hin] at qq; exact grow_of_same (qq _))))
        refine wpQuiet_nil ?_
        intro w2 hx2
        have hB2 := grw_out hx2
        clear hx2 g2 gx hne
        clear k0 k1 k2 cx
        replace E := (E.below hB).below hB2
        replace hB2 := chain hC hB2
        obtain ⟨⟨z0, z1, z2⟩, f0, f1, f2⟩ := blk_three E
        have NR := noD_R (w.heap.size + 2) w2
        go_wp2
        have E8 := E.put3 (x := .slice none 0 0) (y := .slice none 0 0) (z := .slice none 0 0)
        have hg8 := grown_put3 w2 (w.heap.size + 1) (.slice none 0 0) (.slice none 0 0) (.slice none 0 0)
        have DR8 := NR.off hg8 (by omega)
        have hB8 := below_grown hB2 hg8 (by omega)
        generalize ((w2.setCell ⟨w.heap.size + 1, 0, none⟩ (.slice none 0 0)).setCell ⟨w.heap.size + 1, 1, none⟩ (.slice none 0 0)).setCell ⟨w.heap.size + 1, 2, none⟩ (.slice none 0 0) = W8 at *
        refine bodyPost_ret (results_cell_tmpJ rfl _ W8 (w.heap.size + 1) _ _ _ _ _ rfl E8 Try.underlying27 rfl (by kernel_rfl) rfl) rfl ?_
        exact ⟨⟨_, by rw [hr.out] <;> rfl, by rw [hr.out]; exact DR8.mono (by omega)⟩, hB8⟩
    · obtain rfl : k = kn := by omega
      have hpl : plcB on 0 keep = true := by rw [hI.out, List.drop_of_length_le (Nat.le_of_eq lK.out)]; rfl
      replace hall := hall.out hpl
      have hE1 : Hid (_ → _) := fun h2 => crash_full hall h2
      have hE2 : Hid (_ → _) := fun h2 => crash_ok hall h2
      clear hall hE0 hI hq0 hq1 hqq
      obtain ⟨hin, hkl⟩ := plcB_all hpl
      have hops := disk_ops hdb
      obtain ⟨_, hfs, ho200⟩ := diskB_all hdb
      obtain ⟨hs60, hssum, hgs⟩ := filesB_all hfs
      have hkn2 : k ≤ 200 := by have := hkl (by omega); rw [lK.out] at this; rw [lO.out] at ho200; omega
      rw [lS.out] at hs60
      have hokk : ¬ (k : Int) < k := by omega
      have hbn0 : BndC 200000 d.safe := fun x hx => by
        have h1 := fgo_names hgs x hx
        have h2 := sumB_mem hx
        simp only [nmB, Bool.and_eq_true, decide_eq_true_eq] at h1
        omega
      have hzr : Hid (w1.heap.size ≤ wr.heap.size) := hB.size
      obtain ⟨k0, k1, k2⟩ := K3.three
      have ka1 := fun ob => acell (w := wr) ob k1
      have hA4 : Below wr.heap.size wr (wr.alloc (.cells #[] 82)) := (Below.refl _ _).alloc (Nat.le_refl _) _
      go_wp2_with (at_builtin; refine wpList_app rfl (fun KK hKK => wp_appFl _ _ rfl (w.heap.size + 2) _ 0 0 [] rfl (res_empty (Blk.new' _ _ _ _ (by simp)) (by have := hz1.out; have := hzr.out; first | omega | (simp; omega))) sa sn sc d.safe rfl ((hS.sl.below hC).below hA4) hS.spot hS.nil sn (Nat.zero_add _) (by omega) (by have := hz1.out; have := hzr.out; first | omega | (simp; omega)) (fun a3 cap3 w3 R3 hg3 => hKK _ _ ?_)); refine Held.out ?_)
      refine Held.mk ?_
      have hB4 : Below wr.heap.size wr w3 := Below.grown hA4 hg3 hA4.size (fun j e => by simp [Value.ownBlock] at e; omega)
      have R4 : ResAt Fl.cs 2 82 w3 (w.heap.size + 2) a3 sn cap3 d.safe := by simpa using R3
      have hB5 := chain hB hB4
      clear R3 hg3 hA4 hB4 k0 k1 k2 ka1 K3 hC
      go_wp2_with fail
      go_loopw [9, 10] (fun now ix wr => ∃ (j : Nat) (a2 : Option Addr) (n2 c2 : Nat) (cur : List Fl), j ≤ k ∧ ix = .int .i64 j ∧ now = .slice a2 n2 c2 ∧ ResAt Fl.cs 2 82 wr (w.heap.size + 2) a2 n2 c2 cur ∧ Hid (BndC (200000 + 200000 * j) cur) ∧ n2 ≤ 60 + j ∧ Hid (crL d keep t = crF cur (selK d.ops t (keep.drop j))) ∧ Below w1.heap.size w1 wr) (fun _ ix _ => k - (intOf ix).toNat)
      case atStart => exact ⟨0, a3, sn, cap3, d.safe, Nat.zero_le _, rfl, rfl, R4, (by show BndC _ _; rw [Nat.mul_zero, Nat.add_zero]; exact hbn0), by omega, rfl, hB5⟩
      case round =>
        clear R4 hB5 hB hzr
        obtain ⟨j, a2, n2, c2, cur, hjj, rfl, rfl, N, hb, hn2, hI, hB⟩ := hrel
        have hC := chain hB1 hB
        have K3 := K.below hB
        have lN : Hid (cur.length = n2) := N.sl.len
        have hzr : Hid (w1.heap.size ≤ wr.heap.size) := hB.size
        by_cases hlt : j < k
        · obtain ⟨kb, ko, x, rfl, hx, cx⟩ := ints_at' (hk.below hC) hlt
          obtain ⟨hx0, hx1⟩ := hin x (List.mem_of_getElem? hx)
          have hxn : x.toNat < on := by omega
          obtain ⟨b, off, o, hab, hp, c0, c1, c2', c3'⟩ := dp_at (hO.sl.below hC) hxn
          obtain ⟨hfo, hod⟩ := hops o (List.mem_of_getElem? hp)
          have hso := (hd.ops.2 o (List.mem_of_getElem? hp)).1
          have hdr : keep.drop j = x :: keep.drop (j + 1) := drop_at hx
          have hsel : Hid (selK d.ops t (keep.drop j) = (if keep.drop (j + 1) = [] then tornO o t else o) :: selK d.ops t (keep.drop (j + 1))) := by
            show _ = _
            rw [hdr]
            show (match d.ops[x.toNat]? with | some o => [if keep.drop (j + 1) = [] then tornO o t else o] | none => []) ++ _ = _
            rw [hp]; rfl
          have hlast : Hid (keep.drop (j + 1) = [] ↔ j + 1 = k) := by
            show _ ↔ _
            rw [List.drop_eq_nil_iff, lK.out]; omega
          clear hp hx hdr
          have hk1 : (j : Int) < k := by omega
          have hk2 : (0 : Int) ≤ j := by omega
          have hx2 : x < on := hx1
          have hxt : (x.toNat : Int) = x := by omega
          subst hab
          obtain ⟨k0, k1, k2⟩ := K3.three
          go_wp2_with fail
          have hS0 : (fun u => u.cell? ⟨w.heap.size, 2, none⟩ = some (.slice (some ⟨b, off, none⟩) on oc) ∧ u.cell? ⟨kb, ko + j, none⟩ = some (.int .i64 x) ∧ u.cell? ⟨b, off + x.toNat * 4, none⟩ = some (.int .i64 o.k) ∧ u.cell? ⟨b, off + x.toNat * 4 + 1, none⟩ = some (.string o.nm) ∧ u.cell? ⟨b, off + x.toNat * 4 + 2, none⟩ = some (.string o.tt) ∧ u.cell? ⟨b, off + x.toNat * 4 + 3, none⟩ = some (.string o.d)) wr.drew := ⟨k2, cx, c0, c1, c2', c3'⟩
          refine wp_region_last (S := (fun u => u.cell? ⟨w.heap.size, 2, none⟩ = some (.slice (some ⟨b, off, none⟩) on oc) ∧ u.cell? ⟨kb, ko + j, none⟩ = some (.int .i64 x) ∧ u.cell? ⟨b, off + x.toNat * 4, none⟩ = some (.int .i64 o.k) ∧ u.cell? ⟨b, off + x.toNat * 4 + 1, none⟩ = some (.string o.nm) ∧ u.cell? ⟨b, off + x.toNat * 4 + 2, none⟩ = some (.string o.tt) ∧ u.cell? ⟨b, off + x.toNat * 4 + 3, none⟩ = some (.string o.d))) 9 (by kernel_rfl) (by kernel_rfl) ?_
          refine takeL (i := 0) (v := ?vq1) rfl (by kernel_rfl) (by kernel_rfl) (by kernel_rfl) (fun _ _ _ h => h) (Or.inl ⟨by rfl, ?hyq1⟩) (by assumption) ?restq1
          case hyq1 => (intro u hu; (try dsimp only at hu); go_simp <;> with_reducible rfl)
          try simp only [Act.put, List.setIfInBounds_toArray, List.set_cons_zero, List.set_cons_succ]
          refine takeL (i := 1) (v := ?vq2) rfl (by kernel_rfl) (by kernel_rfl) (by kernel_rfl) (fun _ _ _ h => h) (Or.inl ⟨by rfl, ?hyq2⟩) (by assumption) ?restq2
          case hyq2 => (intro u hu; (try dsimp only at hu); go_simp <;> with_reducible rfl)
          try simp only [Act.put, List.setIfInBounds_toArray, List.set_cons_zero, List.set_cons_succ]
          refine takeL (i := 2) (v := ?vq3) rfl (by kernel_rfl) (by kernel_rfl) (by kernel_rfl) (fun _ _ _ h => h) (Or.inl ⟨by rfl, ?hyq3⟩) (by assumption) ?restq3
          case hyq3 => (intro u hu; (try dsimp only at hu); go_simp <;> with_reducible rfl)
          try simp only [Act.put, List.setIfInBounds_toArray, List.set_cons_zero, List.set_cons_succ]
          refine takeL (i := 3) (v := ?vq4) rfl (by kernel_rfl) (by kernel_rfl) (by kernel_rfl) (fun _ _ _ h => h) (Or.inl ⟨by rfl, ?hyq4⟩) (by assumption) ?restq4
          case hyq4 => (intro u hu; (try dsimp only at hu); go_simp <;> with_reducible rfl)
          try simp only [Act.put, List.setIfInBounds_toArray, List.set_cons_zero, List.set_cons_succ]
          refine takeL (i := 4) (v := ?vq5) rfl (by kernel_rfl) (by kernel_rfl) (by kernel_rfl) (fun _ _ _ h => h) (Or.inl ⟨by rfl, ?hyq5⟩) (by assumption) ?restq5
          case hyq5 => (intro u hu; (try dsimp only at hu); go_simp <;> with_reducible rfl)
          try simp only [Act.put, List.setIfInBounds_toArray, List.set_cons_zero, List.set_cons_succ]
          refine takeL (i := 5) (v := ?vq6) rfl (by kernel_rfl) (by kernel_rfl) (by kernel_rfl) (fun _ _ _ h => h) (Or.inl ⟨by rfl, ?hyq6⟩) (by assumption) ?restq6
          case hyq6 => (intro u hu; (try dsimp only at hu); go_simp <;> with_reducible rfl)
          try simp only [Act.put, List.setIfInBounds_toArray, List.set_cons_zero, List.set_cons_succ]
          refine takeL (i := 6) (v := ?vq7) rfl (by kernel_rfl) (by kernel_rfl) (by kernel_rfl) (fun _ _ _ h => h) (Or.inl ⟨by rfl, ?hyq7⟩) (by assumption) ?restq7
          case hyq7 => (intro u hu; (try dsimp only at hu); go_simp <;> with_reducible rfl)
          try simp only [Act.put, List.setIfInBounds_toArray, List.set_cons_zero, List.set_cons_succ]
          refine takeL (i := 7) (v := ?vq8) rfl (by kernel_rfl) (by kernel_rfl) (by kernel_rfl) (fun _ _ _ h => h) (Or.inl ⟨by rfl, ?hyq8⟩) (by assumption) ?restq8
          case hyq8 => (intro u hu; (try dsimp only at hu); go_simp <;> with_reducible rfl)
          try simp only [Act.put, List.setIfInBounds_toArray, List.set_cons_zero, List.set_cons_succ]
          refine oneL (i := 8) (by kernel_rfl) rfl (fun K hK => ?_)
          go_simp
          have hA5 : Below wr.heap.size wr (wr.alloc (.cells #[.int .i64 0, .string ⟨#[]⟩, .string ⟨#[]⟩, .string ⟨#[]⟩] 36)).drew := ((Below.refl _ _).alloc (Nat.le_refl _) _).drew
          have V5 : Blk (wr.alloc (.cells #[.int .i64 0, .string ⟨#[]⟩, .string ⟨#[]⟩, .string ⟨#[]⟩] 36)).drew wr.heap.size #[.int .i64 0, .string ⟨#[]⟩, .string ⟨#[]⟩, .string ⟨#[]⟩] 36 := (Blk.new wr _ _).drew
          generalize (wr.alloc (.cells #[.int .i64 0, .string ⟨#[]⟩, .string ⟨#[]⟩, .string ⟨#[]⟩] 36)).drew = W5 at *
          refine hK.out _ _ ⟨(K3.below hA5).cell 2, bcell hA5 cx, bcell hA5 c0, bcell hA5 c1, bcell hA5 c2', bcell hA5 c3'⟩ (fun hHeld => ?_)
          clear hK K
          try simp only [Act.put, List.setIfInBounds_toArray, List.set_cons_zero, List.set_cons_succ]
          refine wpAnyH_done (by kernel_rfl) ?_ _
          refine lastL rfl ?_
          clear hHeld k0 k1 k2 cx c0 c1 c2' c3'
          obtain ⟨v0, v1, v2, v3⟩ := blk_four V5
          have e0 := V5.frozen 0
          have e1 := V5.frozen 1
          have e2 := V5.frozen 2
          have e3 := V5.frozen 3
          by_cases hla : j + 1 = k
          · have hki : (j : Int) = (k : Int) - 1 := by omega
            have hke : ((j : Int) == (k : Int) - 1) = true := by simp; omega
            by_cases hok1 : o.k = 1
            · have hob : (o.k == 1) = true := by simpa using hok1
              by_cases htt : t < o.d.size
              · have htd : decide (t < (o.d.size : Int)) = true := by simpa using htt
                have htn : t.toNat ≤ o.d.size := by omega
                have ht0 : 0 ≤ t := by omega
                have hto : tornO o t = ⟨o.k, o.nm, o.tt, o.d.extract 0 t.toNat⟩ := by unfold tornO; rw [if_pos ⟨hok1, htt⟩]
                have hnx : Hid (crL d keep t = crF (doF cur ⟨o.k, o.nm, o.tt, o.d.extract 0 t.toNat⟩).1 (selK d.ops t (keep.drop (j + 1)))) := by
                  show _ = _
                  rw [hI.out, hsel.out, if_pos (hlast.out.2 hla), hto]
                  rfl
                have hod3 : (o.d.extract 0 t.toNat).size ≤ 200000 := by rw [ByteArray.size_extract]; omega
                have hod2 : Hid ((o.d.extract 0 t.toNat).size ≤ 100000000) := by show _ ≤ _; omega
                have hbn : Hid (BndC (200000 + 200000 * (j + 1)) (doF cur ⟨o.k, o.nm, o.tt, o.d.extract 0 t.toNat⟩).1) := by
                  show BndC _ _
                  rw [show 200000 + 200000 * (j + 1) = 200000 + 200000 * j + 200000 by omega]
                  exact bndC_do hb.out (hto ▸ torn_str t hso) hod3
                clear hto hod3
                clear hok1
                iterate 82 (try (first | go_values | go_skip | go_guarded | go_step | go_upon | go_back))
                generalize o.d.extract 0 t.toNat = dx at *
                have hg6 : W5.grownBy (((((W5.setCell ⟨wr.heap.size, 0, none⟩ (.int .i64 o.k)).setCell ⟨wr.heap.size, 1, none⟩ (.string o.nm)).setCell ⟨wr.heap.size, 2, none⟩ (.string o.tt)).setCell ⟨wr.heap.size, 3, none⟩ (.string o.d)).setCell ⟨wr.heap.size, 3, none⟩ (.string dx)) (some wr.heap.size) := (grown_set (grown_set (grown_set (grown_set (grown_set (World.grownBy.refl _ _) _ _) _ _) _ _) _ _) _ _)
                have V6 : Blk (((((W5.setCell ⟨wr.heap.size, 0, none⟩ (.int .i64 o.k)).setCell ⟨wr.heap.size, 1, none⟩ (.string o.nm)).setCell ⟨wr.heap.size, 2, none⟩ (.string o.tt)).setCell ⟨wr.heap.size, 3, none⟩ (.string o.d)).setCell ⟨wr.heap.size, 3, none⟩ (.string dx)) wr.heap.size #[.int .i64 o.k, .string o.nm, .string o.tt, .string dx] 36 := by
                  have := ((((V5.set 0 (.int .i64 o.k)).set 1 (.string o.nm)).set 2 (.string o.tt)).set 3 (.string o.d)).set 3 (.string dx)
                  simpa using this
                have hB6 := below_grown hA5 hg6 (Nat.le_refl _)
                clear hg6 v0 v1 v2 v3 e0 e1 e2 e3
                generalize (((((W5.setCell ⟨wr.heap.size, 0, none⟩ (.int .i64 o.k)).setCell ⟨wr.heap.size, 1, none⟩ (.string o.nm)).setCell ⟨wr.heap.size, 2, none⟩ (.string o.tt)).setCell ⟨wr.heap.size, 3, none⟩ (.string o.d)).setCell ⟨wr.heap.size, 3, none⟩ (.string dx)) = W6 at *
                obtain ⟨v0, v1, v2, v3⟩ := blk_four V6
                go_wp2_with fail
                clear v0 v1 v2 v3 V6
                refine (spec_l8Do a2 n2 c2 cur ⟨o.k, o.nm, o.tt, dx⟩ W6 (N.sl.below hB6) N.slH.spot N.slH.nil (by omega) (fun f hf => by have := (hb.out f hf).2; omega) hod2.out).mono ?_
                rintro e w7 ⟨⟨a7, n7, c7, rfl, R7⟩, hB7⟩
                have hB8 := chain (chain hB hB6) hB7
                have hz6 := hB6.size
                have hn7 : n7 ≤ 60 + (j + 1) := by rw [← R7.sl.len]; have := doF_len cur ⟨o.k, o.nm, o.tt, dx⟩; have := lN.out; omega
                generalize (doF cur ⟨o.k, o.nm, o.tt, dx⟩).1 = nx at *
                generalize (doF cur ⟨o.k, o.nm, o.tt, dx⟩).2 = ok at *
                clear hB6 hB7 N hI V5 hA5 K3
                go_wp2
                go_roundw
                case rel => exact ⟨j + 1, a7, n7, c7, nx, by omega, by go_num, rfl, R7.mono (by have := hz1.out; have := hzr.out; omega), hbn, hn7, hnx, hB8⟩
                case measure => simp [intOf]; omega
              · have htd : decide (t < (o.d.size : Int)) = false := by simpa using htt
                have hplain : (if keep.drop (j + 1) = [] then tornO o t else o) = o := by
                  rw [if_pos (hlast.out.2 hla)]
                  unfold tornO
                  rw [if_neg (fun c => htt c.2)]
                clear hok1
                have hnx : Hid (crL d keep t = crF (doF cur o).1 (selK d.ops t (keep.drop (j + 1)))) := by
                  show _ = _
                  rw [hI.out, hsel.out, hplain]
                  rfl
                have hod2 : Hid (o.d.size ≤ 100000000) := by show _ ≤ _; omega
                have hbn : Hid (BndC (200000 + 200000 * (j + 1)) (doF cur o).1) := by
                  show BndC _ _
                  rw [show 200000 + 200000 * (j + 1) = 200000 + 200000 * j + 200000 by omega]
                  exact bndC_do hb.out hso hod
                go_wp2_with fail
                have hg6 : W5.grownBy ((((W5.setCell ⟨wr.heap.size, 0, none⟩ (.int .i64 o.k)).setCell ⟨wr.heap.size, 1, none⟩ (.string o.nm)).setCell ⟨wr.heap.size, 2, none⟩ (.string o.tt)).setCell ⟨wr.heap.size, 3, none⟩ (.string o.d)) (some wr.heap.size) := (grown_set (grown_set (grown_set (grown_set (World.grownBy.refl _ _) _ _) _ _) _ _) _ _)
                have hB6 := below_grown hA5 hg6 (Nat.le_refl _)
                clear hg6 v0 v1 v2 v3 e0 e1 e2 e3
                generalize ((((W5.setCell ⟨wr.heap.size, 0, none⟩ (.int .i64 o.k)).setCell ⟨wr.heap.size, 1, none⟩ (.string o.nm)).setCell ⟨wr.heap.size, 2, none⟩ (.string o.tt)).setCell ⟨wr.heap.size, 3, none⟩ (.string o.d)) = W6 at *
                refine (spec_l8Do a2 n2 c2 cur o W6 (N.sl.below hB6) N.slH.spot N.slH.nil (by omega) (fun f hf => by have := (hb.out f hf).2; omega) hod2.out).mono ?_
                rintro e w7 ⟨⟨a7, n7, c7, rfl, R7⟩, hB7⟩
                have hB8 := chain (chain hB hB6) hB7
                have hz6 := hB6.size
                have hn7 : n7 ≤ 60 + (j + 1) := by rw [← R7.sl.len]; have := doF_len cur o; have := lN.out; omega
                generalize (doF cur o).1 = nx at *
                generalize (doF cur o).2 = ok at *
                clear hB6 hB7 N hI V5 hA5 K3
                go_wp2
                go_roundw
                case rel => exact ⟨j + 1, a7, n7, c7, nx, by omega, by go_num, rfl, R7.mono (by have := hz1.out; have := hzr.out; omega), hbn, hn7, hnx, hB8⟩
                case measure => simp [intOf]; omega
            · have hob : (o.k == 1) = false := by simpa using hok1
              have hplain : (if keep.drop (j + 1) = [] then tornO o t else o) = o := by
                rw [if_pos (hlast.out.2 hla)]
                unfold tornO
                rw [if_neg (fun c => hok1 c.1)]
              have hnx : Hid (crL d keep t = crF (doF cur o).1 (selK d.ops t (keep.drop (j + 1)))) := by
                show _ = _
                rw [hI.out, hsel.out, hplain]
                rfl
              have hod2 : Hid (o.d.size ≤ 100000000) := by show _ ≤ _; omega
              have hbn : Hid (BndC (200000 + 200000 * (j + 1)) (doF cur o).1) := by
                show BndC _ _
                rw [show 200000 + 200000 * (j + 1) = 200000 + 200000 * j + 200000 by omega]
                exact bndC_do hb.out hso hod
              go_wp2_with fail
              have hg6 : W5.grownBy ((((W5.setCell ⟨wr.heap.size, 0, none⟩ (.int .i64 o.k)).setCell ⟨wr.heap.size, 1, none⟩ (.string o.nm)).setCell ⟨wr.heap.size, 2, none⟩ (.string o.tt)).setCell ⟨wr.heap.size, 3, none⟩ (.string o.d)) (some wr.heap.size) := (grown_set (grown_set (grown_set (grown_set (World.grownBy.refl _ _) _ _) _ _) _ _) _ _)
              have hB6 := below_grown hA5 hg6 (Nat.le_refl _)
              clear hg6 v0 v1 v2 v3 e0 e1 e2 e3
              generalize ((((W5.setCell ⟨wr.heap.size, 0, none⟩ (.int .i64 o.k)).setCell ⟨wr.heap.size, 1, none⟩ (.string o.nm)).setCell ⟨wr.heap.size, 2, none⟩ (.string o.tt)).setCell ⟨wr.heap.size, 3, none⟩ (.string o.d)) = W6 at *
              refine (spec_l8Do a2 n2 c2 cur o W6 (N.sl.below hB6) N.slH.spot N.slH.nil (by omega) (fun f hf => by have := (hb.out f hf).2; omega) hod2.out).mono ?_
              rintro e w7 ⟨⟨a7, n7, c7, rfl, R7⟩, hB7⟩
              have hB8 := chain (chain hB hB6) hB7
              have hz6 := hB6.size
              have hn7 : n7 ≤ 60 + (j + 1) := by rw [← R7.sl.len]; have := doF_len cur o; have := lN.out; omega
              generalize (doF cur o).1 = nx at *
              generalize (doF cur o).2 = ok at *
              clear hB6 hB7 N hI V5 hA5 K3
              go_wp2
              go_roundw
              case rel => exact ⟨j + 1, a7, n7, c7, nx, by omega, by go_num, rfl, R7.mono (by have := hz1.out; have := hzr.out; omega), hbn, hn7, hnx, hB8⟩
              case measure => simp [intOf]; omega
          · have hki : ¬ (j : Int) = (k : Int) - 1 := by omega
            have hke : ((j : Int) == (k : Int) - 1) = false := by simpa using hki
            have hplain : (if keep.drop (j + 1) = [] then tornO o t else o) = o := by rw [if_neg (fun c => hla (hlast.out.1 c))]
            have hnx : Hid (crL d keep t = crF (doF cur o).1 (selK d.ops t (keep.drop (j + 1)))) := by
              show _ = _
              rw [hI.out, hsel.out, hplain]
              rfl
            have hod2 : Hid (o.d.size ≤ 100000000) := by show _ ≤ _; omega
            have hbn : Hid (BndC (200000 + 200000 * (j + 1)) (doF cur o).1) := by
              show BndC _ _
              rw [show 200000 + 200000 * (j + 1) = 200000 + 200000 * j + 200000 by omega]
              exact bndC_do hb.out hso hod
            go_wp2_with fail
            have hg6 : W5.grownBy ((((W5.setCell ⟨wr.heap.size, 0, none⟩ (.int .i64 o.k)).setCell ⟨wr.heap.size, 1, none⟩ (.string o.nm)).setCell ⟨wr.heap.size, 2, none⟩ (.string o.tt)).setCell ⟨wr.heap.size, 3, none⟩ (.string o.d)) (some wr.heap.size) := (grown_set (grown_set (grown_set (grown_set (World.grownBy.refl _ _) _ _) _ _) _ _) _ _)
            have hB6 := below_grown hA5 hg6 (Nat.le_refl _)
            clear hg6 v0 v1 v2 v3 e0 e1 e2 e3
            generalize ((((W5.setCell ⟨wr.heap.size, 0, none⟩ (.int .i64 o.k)).setCell ⟨wr.heap.size, 1, none⟩ (.string o.nm)).setCell ⟨wr.heap.size, 2, none⟩ (.string o.tt)).setCell ⟨wr.heap.size, 3, none⟩ (.string o.d)) = W6 at *
            refine (spec_l8Do a2 n2 c2 cur o W6 (N.sl.below hB6) N.slH.spot N.slH.nil (by omega) (fun f hf => by have := (hb.out f hf).2; omega) hod2.out).mono ?_
            rintro e w7 ⟨⟨a7, n7, c7, rfl, R7⟩, hB7⟩
            have hB8 := chain (chain hB hB6) hB7
            have hz6 := hB6.size
            have hn7 : n7 ≤ 60 + (j + 1) := by rw [← R7.sl.len]; have := doF_len cur o; have := lN.out; omega
            generalize (doF cur o).1 = nx at *
            generalize (doF cur o).2 = ok at *
            clear hB6 hB7 N hI V5 hA5 K3
            go_wp2
            go_roundw
            case rel => exact ⟨j + 1, a7, n7, c7, nx, by omega, by go_num, rfl, R7.mono (by have := hz1.out; have := hzr.out; omega), hbn, hn7, hnx, hB8⟩
            case measure => simp [intOf]; omega
        · obtain rfl : j = k := by omega
          have hend : crL d keep t = cur := by
            rw [hI.out, List.drop_of_length_le (Nat.le_of_eq lK.out)]; rfl
          rw [hend] at hE1 hE2
          have hbf : BndF cur := fun x hx => by have := hb.out x hx; exact ⟨this.1, by omega⟩
          replace E := E.below hB
          have hokk : ¬ (j : Int) < j := by omega
          clear hend hI K3
          go_wp2_with fail
          refine (spec_l8Files a2 n2 c2 cur wr N.sl hbf (by omega)).mono ?_
          rintro e w7 ⟨rfl, hB7⟩
          replace E := E.below hB7
          have hC7 := chain hC hB7
          have N7 := N.below hB7
          have hz7 : Hid (wr.heap.size ≤ w7.heap.size) := hB7.size
          cases hft : filesB cur
          · have hr : Hid (crashD d keep t = (noD, false)) := hE1.out hft
            clear hE1 hE2
            obtain ⟨⟨z0, z1, z2⟩, f0, f1, f2⟩ := blk_three E
            have NR := noD_R (w.heap.size + 2) w7
            go_wp2
            have E8 := E.put3 (x := .slice none 0 0) (y := .slice none 0 0) (z := .slice none 0 0)
            have hg8 := grown_put3 w7 (w.heap.size + 1) (.slice none 0 0) (.slice none 0 0) (.slice none 0 0)
            have DR8 := NR.off hg8 (by omega)
            have hB8 := below_grown hC7 hg8 (by omega)
            generalize ((w7.setCell ⟨w.heap.size + 1, 0, none⟩ (.slice none 0 0)).setCell ⟨w.heap.size + 1, 1, none⟩ (.slice none 0 0)).setCell ⟨w.heap.size + 1, 2, none⟩ (.slice none 0 0) = W8 at *
            refine bodyPost_ret (results_cell_tmpJ rfl _ W8 (w.heap.size + 1) _ _ _ _ _ rfl E8 Try.underlying27 rfl (by kernel_rfl) rfl) rfl ?_
            exact ⟨⟨_, by rw [hr.out] <;> rfl, by rw [hr.out]; exact DR8.mono (by omega)⟩, hB8⟩
          · have hr : Hid (crashD d keep t = (⟨cur, cur, []⟩, true)) := hE2.out hft
            clear hE1 hE2
            have hA8 : Below w7.heap.size w7 (w7.alloc (.cells #[] 82)) := (Below.refl _ _).alloc (Nat.le_refl _) _
            have hz78 : w.heap.size + 2 ≤ w7.heap.size := by have := hz1.out; have := hzr.out; have := hz7.out; omega
            go_wp2_with (at_builtin; refine wpList_app rfl (fun KK hKK => wp_appFl _ _ rfl (w.heap.size + 2) _ 0 0 [] rfl (res_empty (Blk.new' _ _ _ _ (by simp)) (by first | omega | (simp; omega))) a2 n2 c2 cur rfl (N7.sl.below hA8) N7.slH.spot N7.slH.nil n2 (Nat.zero_add _) (by omega) (by first | omega | (simp; omega)) (fun a4 cap4 w8 R8 hg8 => hKK _ _ ?_)); refine Held.out ?_)
            refine Held.mk ?_
            have hB8' : Below w7.heap.size w7 w8 := Below.grown hA8 hg8 hA8.size (fun j e => by simp [Value.ownBlock] at e; omega)
            have R9 : ResAt Fl.cs 2 82 w8 (w.heap.size + 2) a4 n2 cap4 cur := by simpa using R8
            have N9 := N7.below hB8'
            have hC9 := chain hC7 hB8'
            replace E := E.below hB8'
            clear R8 hg8 hA8 N7 N hC7
            obtain ⟨⟨z0, z1, z2⟩, f0, f1, f2⟩ := blk_three E
            have DR : DiskR (w.heap.size + 2) w8 (.agg #[.slice a2 n2 c2, .slice a4 n2 cap4, .slice none 0 0]) ⟨cur, cur, []⟩ := ⟨_, _, _, _, _, _, _, _, _, rfl, N9, R9, res_nil⟩
            go_wp2
            have E8 := E.put3 (x := .slice a2 n2 c2) (y := .slice a4 n2 cap4) (z := .slice none 0 0)
            have hg8 := grown_put3 w8 (w.heap.size + 1) (.slice a2 n2 c2) (.slice a4 n2 cap4) (.slice none 0 0)
            have DR8 := DR.off hg8 (by omega)
            have hB8 := below_grown hC9 hg8 (by omega)
            generalize ((w8.setCell ⟨w.heap.size + 1, 0, none⟩ (.slice a2 n2 c2)).setCell ⟨w.heap.size + 1, 1, none⟩ (.slice a4 n2 cap4)).setCell ⟨w.heap.size + 1, 2, none⟩ (.slice none 0 0) = W8 at *
            refine bodyPost_ret (results_cell_tmpJ rfl _ W8 (w.heap.size + 1) _ _ _ _ _ rfl E8 Try.underlying27 rfl (by kernel_rfl) rfl) rfl ?_
            exact ⟨⟨_, by rw [hr.out] <;> rfl, by rw [hr.out]; exact DR8.mono (by omega)⟩, hB8⟩
end Go.Proofs.Ytpobgjkmcmkkeaa
