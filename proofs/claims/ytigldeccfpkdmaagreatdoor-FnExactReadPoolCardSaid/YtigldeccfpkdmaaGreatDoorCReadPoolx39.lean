/- A line of a pool's text, by the model. -/
import Derived.Deep.DeepCutAuto
import Derived.Test.YtigldeccfpkdmaaGreatDoorCReadPoolx10
import Derived.Test.YtigldeccfpkdmaaGreatDoorCReadPoolx35
import Derived.Test.YtigldeccfpkdmaaGreatDoorCReadPoolx20
namespace Go.Proofs.YtigldeccfpkdmaaGreatDoor
open Go Go.RowKit Go.BigFrame
set_option maxHeartbeats 8000000 in
set_option maxRecDepth 100000 in
theorem spec_l7Line3 (B K : Nat) (v : Value) (p : Po) (line : ByteArray) (w : World) (h : PoolM B w v p) (hB : B ≤ w.heap.size) (hK : K ≤ 60000) (hd : DimM K p) (hl : line.size ≤ 60000) (hgk : grpL (wordQ (wdsA line.data.toList) 0) = 3) :
    Calls Tryz.prog 36 #[v, .string line] w fun e w' => (∃ v', e = .returned v' ∧ PoolM B w' v' (lineF p line.data.toList)) ∧ Below B w w' := by
  obtain ⟨ea, en, ec, va, vn, vc, ra, rn, rc, la, ln, lc, vr, rfl, E1, V1, C1, C2, hap, AL, N1, N2⟩ := h.out
  clear h
  obtain ⟨ws, hws⟩ : ∃ ws, Hid (wdsA line.data.toList = ws) := ⟨_, rfl⟩
  have kW := fun (u : World) => spec_l7Words line u (by omega)
  rw [hws.out] at kW
  have hwn0 : Hid (ws ≠ []) := by show _ ≠ _; rw [← hws.out]; exact wdsN_ne _ _
  have hwl : ∀ x ∈ ws.map bA, x.size ≤ 100000 := by
    intro x hx
    obtain ⟨y, hy, rfl⟩ := List.mem_map.1 hx
    rw [← hws.out] at hy
    have := wds_short y hy
    rw [Lib.size_eq, bA_list]
    have h2 := Lib.size_eq line
    omega
  have PB0 := Blk.new w #[.int .i64 p.size, .int .i64 p.next, .slice ea en ec, .slice va vn vc, .slice ra rn rc, .slice la ln lc] 26
  have hA0 : Below w.heap.size w ((w.alloc (.cells #[.int .i64 p.size, .int .i64 p.next, .slice ea en ec, .slice va vn vc, .slice ra rn rc, .slice la ln lc] 26)).alloc (.cells #[.int .i64 0, .int .i64 0, .slice none 0 0, .slice none 0 0, .slice none 0 0, .slice none 0 0] 26)) := by go_grown
  have PB : Blk ((w.alloc (.cells #[.int .i64 p.size, .int .i64 p.next, .slice ea en ec, .slice va vn vc, .slice ra rn rc, .slice la ln lc] 26)).alloc (.cells #[.int .i64 0, .int .i64 0, .slice none 0 0, .slice none 0 0, .slice none 0 0, .slice none 0 0] 26)) w.heap.size #[.int .i64 p.size, .int .i64 p.next, .slice ea en ec, .slice va vn vc, .slice ra rn rc, .slice la ln lc] 26 := PB0.below ((Below.refl _ _).alloc (Nat.le_refl _) _)
  have RB : Blk ((w.alloc (.cells #[.int .i64 p.size, .int .i64 p.next, .slice ea en ec, .slice va vn vc, .slice ra rn rc, .slice la ln lc] 26)).alloc (.cells #[.int .i64 0, .int .i64 0, .slice none 0 0, .slice none 0 0, .slice none 0 0, .slice none 0 0] 26)) (w.heap.size + 1) #[.int .i64 0, .int .i64 0, .slice none 0 0, .slice none 0 0, .slice none 0 0, .slice none 0 0] 26 := Blk.new' _ _ _ _ (by simp)
  clear PB0
  go_enter Tryz.func36, Tryz.ntmps36
  go_wp2_with fail
  generalize (w.alloc (.cells #[.int .i64 p.size, .int .i64 p.next, .slice ea en ec, .slice va vn vc, .slice ra rn rc, .slice la ln lc] 26)).alloc (.cells #[.int .i64 0, .int .i64 0, .slice none 0 0, .slice none 0 0, .slice none 0 0, .slice none 0 0] 26) = W0 at *
  refine (kW W0).mono ?_
  rintro e w1 ⟨⟨wa, wn, wq, rfl, hwn, R1⟩, hB1⟩
  have hz0 : Hid (w.heap.size + 1 < W0.heap.size) := RB.lt
  replace PB := PB.below hB1
  replace RB := RB.below hB1
  replace hB1 := chain hA0 hB1
  clear hA0 kW
  replace E1 := E1.below hB1
  replace V1 := V1.below hB1
  replace C1 := C1.below hB1
  replace C2 := C2.below hB1
  replace AL : Al2 (VoR w1 B) vr p.vs := AL.imp fun _ _ _ h => h.below hB1
  have hvn : Hid (vr.length = vn) := V1.sl.len
  have hvk : vn ≤ 60000 := by rw [← hvn.out, AL.len]; exact Nat.le_trans hd.vs hK
  obtain ⟨b0, b1, b2, b3, b4, b5⟩ := PB.sixM
  go_upto_if 22 with fail
  obtain ⟨xv, hxv⟩ : ∃ xv, Hid (lastX vr = xv) := ⟨_, rfl⟩
  go_cut [7] (fun x wc => x = .int .i64 xv ∧ wc = w1)
  case first =>
    rcases Nat.eq_zero_or_pos vn with h0 | h0
    · subst h0
      have hx : xv = -1 := by rw [← hxv.out, lastX, List.eq_nil_of_length_eq_zero hvn.out]; rfl
      go_wp2
      go_meet
      exact ⟨by rw [hx], rfl⟩
    · obtain ⟨k, rfl⟩ : ∃ k, vn = k + 1 := ⟨vn - 1, by omega⟩
      obtain ⟨l', r, rfl, hlk⟩ := last_snoc hvn.out
      have hr : (l' ++ [r])[k]? = some r := by rw [← hlk]; simp
      obtain ⟨vb, rfl, hvb, c3⟩ := vr_at V1 hr
      have hx : Hid (xv = (r.n : Int) - 1) := by show _ = _; rw [← hxv.out, lastX]; simp
      have hrn : r.n ≤ 60000 := by
        obtain ⟨m', y, hm, _, hv⟩ := AL.lastL
        have h1 := (hd.its y (by rw [hm]; simp)).1
        rw [← hv.its.len, hv.rows.sl.len] at h1
        omega
      have hkk : ((k + 1 : Nat) : Int) - 1 = k := by omega
      go_wp2
      go_meet
      exact ⟨by rw [hx.out], rfl⟩
  case rest =>
    obtain ⟨rfl, rfl⟩ := hcut
    have kN := fun (i : Nat) (x : World) (hx : Below wc.heap.size wc x) => spec_l7Num wa wn wq (ws.map bA) i x (R1.sl.below hx) hwl
    have kW := fun (i : Nat) (x : World) (hx : Below wc.heap.size wc x) => spec_l7Word wa wn wq (ws.map bA) i x (R1.sl.below hx)
    have k1 := kN 1
    have k2 := kN 2
    have k3 := kW 3
    have k4 := kW 4
    simp only [idxN_q] at k1 k2
    simp only [idxW_q] at k3 k4
    obtain ⟨n1, hn1⟩ : ∃ z, Hid (numQ ws 1 = z) := ⟨_, rfl⟩
    obtain ⟨n2, hn2⟩ : ∃ z, Hid (numQ ws 2 = z) := ⟨_, rfl⟩
    obtain ⟨t3, ht3⟩ : ∃ z, Hid (bA (wordQ ws 3) = z) := ⟨_, rfl⟩
    obtain ⟨t4, ht4⟩ : ∃ z, Hid (bA (wordQ ws 4) = z) := ⟨_, rfl⟩
    rw [hn1.out] at k1
    rw [hn2.out] at k2
    rw [ht3.out] at k3
    rw [ht4.out] at k4
    have ht4s : t4.size ≤ 100000 := by
      rw [← ht4.out]
      have := idxW_q ws 4
      rw [← this]
      unfold idxW
      cases hc : (ws.map bA)[4]? with
      | none => show (0 : Nat) ≤ _; omega
      | some x => exact hwl x (List.mem_of_getElem? hc)
    obtain ⟨n4, hn4⟩ : ∃ z, Hid ((numP (wordQ ws 4)).getD 0 = z) := ⟨_, rfl⟩
    have hi4 : Hid (intV (numP t4.data.toList) = .tuple #[.int .i64 n4, .bool (numP t4.data.toList).isSome]) := by
      show _ = _
      rw [← hn4.out, ← ht4.out, bA_list]
      cases numP (wordQ ws 4) <;> rfl
    obtain ⟨k0, wr, hk0⟩ : ∃ k0 r, ws = k0 :: r := by
      cases hc : ws with
      | nil => exact absurd hc hwn0.out
      | cons a r => exact ⟨a, r, rfl⟩
    obtain ⟨wb, wo, sx, rfl, hsx, cw⟩ := tts_at R1.sl (k := 0) (by rw [← R1.sl.len, hk0]; simp)
    have hsx2 : Hid (sx = bA k0) := by show _ = _; rw [hk0] at hsx; exact (Option.some.inj hsx).symm
    clear kN kW hsx
    go_wp2_with fail
    refine (k1 _ (Below.refl _ _)).mono ?_
    rintro e u ⟨rfl, hu⟩
    subst hu
    go_wp2_with fail
    refine (k2 _ (Below.refl _ _)).mono ?_
    rintro e u ⟨rfl, hu⟩
    subst hu
    go_wp2_with fail
    refine (k3 _ (Below.refl _ _)).mono ?_
    rintro e u ⟨rfl, hu⟩
    subst hu
    go_wp2_with fail
    have hA2 : Below u.heap.size u (u.alloc (.cells #[.int .i64 n1, .int .i64 n2, .string t3, .int .i64 0] 134)) := by go_grown
    have CB := Blk.new u #[.int .i64 n1, .int .i64 n2, .string t3, .int .i64 0] 134
    generalize u.alloc (.cells #[.int .i64 n1, .int .i64 n2, .string t3, .int .i64 0] 134) = W2 at *
    refine (k4 _ hA2).mono ?_
    rintro e x ⟨rfl, hu⟩
    obtain rfl : W2 = x := hu.symm
    go_wp2_with fail
    refine (spec_l1Int t4 _ (by omega)).mono ?_
    rintro e x' ⟨rfl, hu⟩
    obtain rfl : W2 = x' := hu.symm
    rw [hi4.out]
    have y3 := CB.cell 3
    have f3 := CB.frozen 3
    go_upto_region 8 with fail
    have hg3 : W2.grownBy (W2.setCell ⟨u.heap.size, 3, none⟩ (.int .i64 n4)) (some u.heap.size) := grown_set (World.grownBy.refl _ _) _ _
    have CB3 : Blk (W2.setCell ⟨u.heap.size, 3, none⟩ (.int .i64 n4)) u.heap.size #[.int .i64 n1, .int .i64 n2, .string t3, .int .i64 n4] 134 := by simpa using CB.set 3 (.int .i64 n4)
    have hA3 := below_grown hA2 hg3 (Nat.le_refl _)
    generalize W2.setCell ⟨u.heap.size, 3, none⟩ (.int .i64 n4) = W3 at *
    clear hg3 CB y3 f3 hA2 W2 b0 b1 b2 b3 b4 b5
    replace PB := PB.below hA3
    replace RB := RB.below hA3
    replace E1 := E1.below hA3
    replace V1 := V1.below hA3
    replace C1 := C1.below hA3
    replace C2 := C2.below hA3
    replace R1 := R1.below hA3
    replace AL : Al2 (VoR W3 B) vr p.vs := AL.imp fun _ _ _ h => h.below hA3
    replace cw := bcell hA3 cw
    rw [Nat.add_zero] at cw
    have hwp : 0 < wn := by rw [← R1.sl.len, hk0]; simp
    replace hB1 := chain hB1 hA3
    clear hA3
    have M3 : PoolM B W3 (.agg #[.int .i64 p.size, .int .i64 p.next, .slice ea en ec, .slice va vn vc, .slice ra rn rc, .slice la ln lc]) p := ⟨ea, en, ec, va, vn, vc, ra, rn, rc, la, ln, lc, vr, rfl, E1, V1, C1, C2, hap, AL, N1, N2⟩
    have hB3 : Below B w W3 := hB1.mono hB
    have hF : Hid (lineF p line.data.toList = lineG p k0 ws line.data.toList) := by
      show _ = _
      unfold lineF
      rw [hws.out, hk0]
      rfl
    replace hgk : grpL k0 = 3 := by rw [hws.out, hk0] at hgk; exact hgk
    have hsl : sx.toList = k0 := by rw [hsx2.out, ByteArray.toList_eq, bA_list]
    by_cases hk : k0 = poolK
    · rw [hk] at hgk
      exact absurd hgk (by decide)
    have hkpoolK : ¬ k0 = poolK := hk
    by_cases hkexK : k0 = exK
    · skip
      rw [hkexK] at hgk
      exact absurd hgk (by decide)
    by_cases hkvolK : k0 = volK
    · skip
      rw [hkvolK] at hgk
      exact absurd hgk (by decide)
    by_cases hkfileK : k0 = fileK
    · skip
      rw [hkfileK] at hgk
      exact absurd hgk (by decide)
    by_cases hkpartK : k0 = partK
    · skip
      rw [hkpartK] at hgk
      exact absurd hgk (by decide)
    by_cases hkrefK : k0 = refK
    · skip
      have epoolK : ¬ sx.toList = [112, 111, 111, 108] := fun e => hkpoolK (by rw [← hsl, e]; rfl)
      have eexK : ¬ sx.toList = [101, 120, 116, 101, 110, 116] := fun e => hkexK (by rw [← hsl, e]; rfl)
      have evolK : ¬ sx.toList = [118, 111, 108, 117, 109, 101] := fun e => hkvolK (by rw [← hsl, e]; rfl)
      have efileK : ¬ sx.toList = [102, 105, 108, 101] := fun e => hkfileK (by rw [← hsl, e]; rfl)
      have epartK : ¬ sx.toList = [112, 97, 114, 116] := fun e => hkpartK (by rw [← hsl, e]; rfl)
      have erefK : sx.toList = [114, 101, 102] := by rw [hsl, hkrefK]; rfl
      have hP : Hid (lineF p line.data.toList = { p with rf := p.rf ++ [(⟨⟨n1, n2, t3⟩, n4⟩ : Ct)] }) := by
        show _ = _
        rw [hF.out]
        unfold lineG
        rw [if_neg hkpoolK, if_neg hkexK, if_neg hkvolK, if_neg hkfileK, if_neg hkpartK, if_pos hkrefK]
        unfold ctQ; rw [hn1.out, hn2.out, ht3.out, hn4.out]
      clear hsl hF
      have hdk : rn ≤ 60000 := by rw [← C1.sl.len]; exact Nat.le_trans hd.rf hK
      obtain ⟨i0, hi0, hz0, hz1, hz2⟩ := info_parts infMC
      obtain ⟨c0, c1, c2, c3⟩ := cbx CB3
      obtain ⟨p0, p1, p2, p3, p4, p5⟩ := PB.sixM
      have q4 := PB.frozen 4
      have hWA : Below W3.heap.size W3 (W3.alloc (.cells (Ct.cs (⟨⟨n1, n2, t3⟩, n4⟩ : Ct)).toArray tC)) := (Below.refl _ _).alloc (Nat.le_refl _) _
      go_wp2_with (at_builtin; refine wpList_app rfl (fun K hK => wp_appM _ _ 24 rfl B tC i0 (.agg #[.int .i64 0, .int .i64 0, .string .empty, .int .i64 0]) 40 Tryz.underlying24 hi0 hz0 hz1 hz2 rfl (by decide) ctm_len ctm_one ra rn rc _ rfl (C1.alloc _) _ 1 1 [(⟨⟨n1, n2, t3⟩, n4⟩ : Ct)] rfl (sl_newG ctm_len _ (⟨⟨n1, n2, t3⟩, n4⟩ : Ct) _ _ rfl) (fun ad h => (by cases h; rfl)) (fun h => (by cases h)) (rn + 1) rfl (by unfold maxLen; omega) (by omega) (by have := hB3.size; simp; omega) (fun a4 cap4 w4 R4 hg4 hf4 => hK _ _ (HeldM.out ?_))))
      refine HeldM.mk ?_
      have hty := (C1.below hWA).rowTy (m := rn) (k := rc)
      have E5 := (E1.below hWA).ty hg4 hty (by decide)
      have V5 := (V1.below hWA).ty hg4 hty (by decide)
      have AL5 : Al2 (VoR w4 B) vr p.vs := AL.imp fun _ _ _ h => (h.below hWA).ty hg4 hty (by decide) (by decide)
      have O5 := (C2.below hWA).off hg4 (fun ad e => own_neM (fun ad' e' => hap ad' ad e' e))
      have PB5 := (PB.below hWA).ty hg4 hty (by decide)
      have RB5 := (RB.below hWA).ty hg4 hty (by decide)
      have hB5 : Below B w w4 := (hB3.alloc (Nat.le_trans hB hB3.size) _).grown hg4 (by have := hB3.size; simp; omega) (own_geM fun ad e => (C1.block ad e).1)
      have hap5 : ∀ x y, a4 = some x → la = some y → x.block ≠ y.block := fun x y hx hy => by
        rcases hf4 x hx with ⟨ad, e, q⟩ | q
        · rw [← q]; exact hap ad y e hy
        · have := (C2.block y hy).2; simp at q; omega
      have M5 : PoolM B w4 (.agg #[.int .i64 p.size, .int .i64 p.next, .slice ea en ec, .slice va vn vc, .slice a4 (rn + 1) cap4, .slice la ln lc]) { p with rf := p.rf ++ [(⟨⟨n1, n2, t3⟩, n4⟩ : Ct)] } := ⟨ea, en, ec, va, vn, vc, a4, rn + 1, cap4, la, ln, lc, vr, rfl, E5, V5, R4, O5, hap5, AL5, N1, N2⟩
      clear hty hg4 hf4 hWA hap5 E5 V5 AL5 O5 R4 p0 p1 p2 p3 p4 p5 q4 c0 c1 c2 c3
      have p4 := PB5.cell 4
      have q4 := PB5.frozen 4
      go_upto_region 28 with fail
      obtain ⟨PB6, M6, hB6, hg6⟩ := put1_all PB5 hB5 hB M5 4 (.slice a4 (rn + 1) cap4)
      have RB6 := RB5.grown hg6 (by omega)
      simp only [List.setIfInBounds_toArray, List.set_cons_zero, List.set_cons_succ] at PB6
      generalize w4.setCell ⟨w.heap.size, 4, none⟩ (.slice a4 (rn + 1) cap4) = W6 at *
      clear hg6 p4 q4 cw
      obtain ⟨v0, v1, v2, v3, v4, v5⟩ := PB6.sixM
      obtain ⟨r0, r1, r2, r3, r4, r5⟩ := RB6.sixM
      have g0 := RB6.frozen 0
      have g1 := RB6.frozen 1
      have g2 := RB6.frozen 2
      have g3 := RB6.frozen 3
      have g4 := RB6.frozen 4
      have g5 := RB6.frozen 5
      go_wp2
      obtain ⟨E8, M8, hB8⟩ := put6_all RB6 hB6 (by omega) (M6)
      change bodyPost _ _ _ _ _ (put6 W6 (w.heap.size + 1) (.int .i64 p.size) (.int .i64 p.next) (.slice ea en ec) (.slice va vn vc) (.slice a4 (rn + 1) cap4) (.slice la ln lc))
      generalize put6 W6 (w.heap.size + 1) (.int .i64 p.size) (.int .i64 p.next) (.slice ea en ec) (.slice va vn vc) (.slice a4 (rn + 1) cap4) (.slice la ln lc) = W8 at *
      refine bodyPost_ret (results_cell_row rfl _ W8 (w.heap.size + 1) _ _ _ _ rfl E8 Tryz.underlying26 rfl (by kernel_rfl)) rfl ?_
      exact ⟨⟨_, rfl, by rw [hP.out]; exact M8⟩, hB8⟩
    by_cases hklateK : k0 = lateK
    · skip
      have epoolK : ¬ sx.toList = [112, 111, 111, 108] := fun e => hkpoolK (by rw [← hsl, e]; rfl)
      have eexK : ¬ sx.toList = [101, 120, 116, 101, 110, 116] := fun e => hkexK (by rw [← hsl, e]; rfl)
      have evolK : ¬ sx.toList = [118, 111, 108, 117, 109, 101] := fun e => hkvolK (by rw [← hsl, e]; rfl)
      have efileK : ¬ sx.toList = [102, 105, 108, 101] := fun e => hkfileK (by rw [← hsl, e]; rfl)
      have epartK : ¬ sx.toList = [112, 97, 114, 116] := fun e => hkpartK (by rw [← hsl, e]; rfl)
      have erefK : ¬ sx.toList = [114, 101, 102] := fun e => hkrefK (by rw [← hsl, e]; rfl)
      have elateK : sx.toList = [108, 97, 116, 101] := by rw [hsl, hklateK]; rfl
      have hP : Hid (lineF p line.data.toList = { p with lt := p.lt ++ [(⟨⟨n1, n2, t3⟩, n4⟩ : Ct)] }) := by
        show _ = _
        rw [hF.out]
        unfold lineG
        rw [if_neg hkpoolK, if_neg hkexK, if_neg hkvolK, if_neg hkfileK, if_neg hkpartK, if_neg hkrefK, if_pos hklateK]
        unfold ctQ; rw [hn1.out, hn2.out, ht3.out, hn4.out]
      clear hsl hF
      have hdk : ln ≤ 60000 := by rw [← C2.sl.len]; exact Nat.le_trans hd.lt hK
      obtain ⟨i0, hi0, hz0, hz1, hz2⟩ := info_parts infMC
      obtain ⟨c0, c1, c2, c3⟩ := cbx CB3
      obtain ⟨p0, p1, p2, p3, p4, p5⟩ := PB.sixM
      have q4 := PB.frozen 5
      have hWA : Below W3.heap.size W3 (W3.alloc (.cells (Ct.cs (⟨⟨n1, n2, t3⟩, n4⟩ : Ct)).toArray tC)) := (Below.refl _ _).alloc (Nat.le_refl _) _
      go_wp2_with (at_builtin; refine wpList_app rfl (fun K hK => wp_appM _ _ 24 rfl B tC i0 (.agg #[.int .i64 0, .int .i64 0, .string .empty, .int .i64 0]) 40 Tryz.underlying24 hi0 hz0 hz1 hz2 rfl (by decide) ctm_len ctm_one la ln lc _ rfl (C2.alloc _) _ 1 1 [(⟨⟨n1, n2, t3⟩, n4⟩ : Ct)] rfl (sl_newG ctm_len _ (⟨⟨n1, n2, t3⟩, n4⟩ : Ct) _ _ rfl) (fun ad h => (by cases h; rfl)) (fun h => (by cases h)) (ln + 1) rfl (by unfold maxLen; omega) (by omega) (by have := hB3.size; simp; omega) (fun a4 cap4 w4 R4 hg4 hf4 => hK _ _ (HeldM.out ?_))))
      refine HeldM.mk ?_
      have hty := (C2.below hWA).rowTy (m := ln) (k := lc)
      have E5 := (E1.below hWA).ty hg4 hty (by decide)
      have V5 := (V1.below hWA).ty hg4 hty (by decide)
      have AL5 : Al2 (VoR w4 B) vr p.vs := AL.imp fun _ _ _ h => (h.below hWA).ty hg4 hty (by decide) (by decide)
      have O5 := (C1.below hWA).off hg4 (fun ad e => own_neM (fun ad' e' => (hap ad ad' e e').symm))
      have PB5 := (PB.below hWA).ty hg4 hty (by decide)
      have RB5 := (RB.below hWA).ty hg4 hty (by decide)
      have hB5 : Below B w w4 := (hB3.alloc (Nat.le_trans hB hB3.size) _).grown hg4 (by have := hB3.size; simp; omega) (own_geM fun ad e => (C2.block ad e).1)
      have hap5 : ∀ x y, ra = some x → a4 = some y → x.block ≠ y.block := fun x y hx hy => by
        rcases hf4 y hy with ⟨ad, e, q⟩ | q
        · rw [← q]; exact hap x ad hx e
        · have := (C1.block x hx).2; simp at q; omega
      have M5 : PoolM B w4 (.agg #[.int .i64 p.size, .int .i64 p.next, .slice ea en ec, .slice va vn vc, .slice ra rn rc, .slice a4 (ln + 1) cap4]) { p with lt := p.lt ++ [(⟨⟨n1, n2, t3⟩, n4⟩ : Ct)] } := ⟨ea, en, ec, va, vn, vc, ra, rn, rc, a4, ln + 1, cap4, vr, rfl, E5, V5, O5, R4, hap5, AL5, N1, N2⟩
      clear hty hg4 hf4 hWA hap5 E5 V5 AL5 O5 R4 p0 p1 p2 p3 p4 p5 q4 c0 c1 c2 c3
      have p4 := PB5.cell 5
      have q4 := PB5.frozen 5
      go_upto_region 28 with fail
      obtain ⟨PB6, M6, hB6, hg6⟩ := put1_all PB5 hB5 hB M5 5 (.slice a4 (ln + 1) cap4)
      have RB6 := RB5.grown hg6 (by omega)
      simp only [List.setIfInBounds_toArray, List.set_cons_zero, List.set_cons_succ] at PB6
      generalize w4.setCell ⟨w.heap.size, 5, none⟩ (.slice a4 (ln + 1) cap4) = W6 at *
      clear hg6 p4 q4 cw
      obtain ⟨v0, v1, v2, v3, v4, v5⟩ := PB6.sixM
      obtain ⟨r0, r1, r2, r3, r4, r5⟩ := RB6.sixM
      have g0 := RB6.frozen 0
      have g1 := RB6.frozen 1
      have g2 := RB6.frozen 2
      have g3 := RB6.frozen 3
      have g4 := RB6.frozen 4
      have g5 := RB6.frozen 5
      go_wp2
      obtain ⟨E8, M8, hB8⟩ := put6_all RB6 hB6 (by omega) (M6)
      change bodyPost _ _ _ _ _ (put6 W6 (w.heap.size + 1) (.int .i64 p.size) (.int .i64 p.next) (.slice ea en ec) (.slice va vn vc) (.slice ra rn rc) (.slice a4 (ln + 1) cap4))
      generalize put6 W6 (w.heap.size + 1) (.int .i64 p.size) (.int .i64 p.next) (.slice ea en ec) (.slice va vn vc) (.slice ra rn rc) (.slice a4 (ln + 1) cap4) = W8 at *
      refine bodyPost_ret (results_cell_row rfl _ W8 (w.heap.size + 1) _ _ _ _ rfl E8 Tryz.underlying26 rfl (by kernel_rfl)) rfl ?_
      exact ⟨⟨_, rfl, by rw [hP.out]; exact M8⟩, hB8⟩
    rw [grpL, if_neg hkpoolK, if_neg hkexK, if_neg hkvolK, if_neg hkfileK, if_neg hkpartK, if_neg hkrefK, if_neg hklateK] at hgk
    exact absurd hgk (by decide)
end Go.Proofs.YtigldeccfpkdmaaGreatDoor
