/- The laws' marks of volumes: written. -/
import Derived.Test.YtigldeccfpkdmaaGreatDoorCReadSuperx47
namespace Go.Proofs.YtigldeccfpkdmaaGreatDoor
open Go Go.RowKit Go.BigFrame
/-- All blocks of volumes. -/
def vbl (vr : List VR) : List Nat := vr.flatMap fun r => (blkO r.a).toList ++ ibl r.irs
theorem vbl_take {vr : List VR} {i : Nat} {x : VR} (h : vr[i]? = some x) : vbl (vr.take (i + 1)) = vbl (vr.take i) ++ ((blkO x.a).toList ++ ibl x.irs) := by
  unfold vbl
  rw [List.take_add_one, h]
  simp
theorem vbl_v {vr : List VR} {x : VR} {ad : Addr} (h : x ∈ vr) (ha : x.a = some ad) : ad.block ∈ vbl vr := List.mem_flatMap.2 ⟨x, h, List.mem_append_left _ (by simp [blkO, ha])⟩
theorem vbl_p {vr : List VR} {x : VR} {y : IR} {ad : Addr} (h : x ∈ vr) (hy : y ∈ x.irs) (ha : y.a = some ad) : ad.block ∈ vbl vr := List.mem_flatMap.2 ⟨x, h, List.mem_append_right _ (ibl_mem hy ha)⟩
theorem vbl_cases {vr : List VR} {b : Nat} (h : b ∈ vbl vr) : (∃ x ∈ vr, ∃ ad, x.a = some ad ∧ ad.block = b) ∨ ∃ x ∈ vr, ∃ y ∈ x.irs, ∃ ad, y.a = some ad ∧ ad.block = b := by
  obtain ⟨x, hx, hb⟩ := List.mem_flatMap.1 h
  rcases List.mem_append.1 hb with hb | hb
  · left
    cases ha : x.a with
    | none => rw [ha] at hb; simp [blkO] at hb
    | some ad => rw [ha] at hb; simp [blkO] at hb; exact ⟨x, hx, ad, ha, hb.symm⟩
  · right
    obtain ⟨y, hy, e⟩ := List.mem_filterMap.1 hb
    cases ha : y.a with
    | none => rw [ha] at e; cases e
    | some ad => rw [ha] at e; exact ⟨x, hx, y, hy, ad, ha, Option.some.inj e⟩
/-- Another volume's blocks are others. -/
theorem vbl_no {w : World} {B : Nat} {vr : List VR} {vs : List Vo} {i : Nat} {x : VR} (AL : Al2 (VoR w B) vr vs) (N1 : (vblk vr).Nodup) (N2 : (pblk vr).Nodup) (h : vr[i]? = some x) : (∀ ad, x.a = some ad → ad.block ∉ vbl (vr.take i)) ∧ ∀ y ∈ x.irs, ∀ ad, y.a = some ad → ad.block ∉ vbl (vr.take i) := by
  have hsp : vr.take (i + 1) = vr.take i ++ [x] := by rw [List.take_add_one, h]; rfl
  have h1 : (vblk (vr.take i ++ [x])).Nodup := by rw [← hsp]; exact List.Nodup.sublist ((List.take_sublist _ _).filterMap _) N1
  have h2 : (pblk (vr.take i ++ [x])).Nodup := by
    rw [← hsp]
    unfold pblk at N2 ⊢
    have e := congrArg (fun l : List VR => l.flatMap fun r => r.irs.filterMap fun x => blkO x.a) (List.take_append_drop (i + 1) vr)
    simp only [List.flatMap_append] at e
    rw [← e] at N2
    exact (List.nodup_append.1 N2).1
  rw [vblk_app] at h1
  rw [pblk_app] at h2
  have hxm := List.mem_of_getElem? h
  obtain ⟨v, hv⟩ := al_mem AL hxm
  have hm : ∀ z ∈ vr.take i, z ∈ vr := fun z hz => List.mem_of_mem_take hz
  have hpt : ∀ z ∈ vr, ∀ y ∈ z.irs, ∃ ps, ResAt Pt.cs 3 tP w B y.a y.n y.c ps := fun z hz y hy => by
    obtain ⟨u, hu⟩ := al_mem AL hz
    obtain ⟨t, ht⟩ := al_mem hu.its hy
    exact ⟨_, ht.ps⟩
  constructor
  · intro ad e hb
    rcases vbl_cases hb with ⟨z, hz, az, ez, eb⟩ | ⟨z, hz, y, hy, ay, ey, eb⟩
    · exact (List.nodup_append.1 h1).2.2 _ (mem_vblk hz ez) ad.block (by simp [blkO, e]) eb
    · obtain ⟨ps, hp⟩ := hpt z (hm z hz) y hy
      exact res_ne hp hv.rows (by decide) ey e eb
  · intro y hy ad e hb
    rcases vbl_cases hb with ⟨z, hz, az, ez, eb⟩ | ⟨z, hz, y', hy', ay, ey, eb⟩
    · obtain ⟨ps, hp⟩ := hpt x hxm y hy
      obtain ⟨u, hu⟩ := al_mem AL (hm z hz)
      exact res_ne hp hu.rows (by decide) e ez eb.symm
    · exact (List.nodup_append.1 h2).2.2 _ (mem_pblk hz hy' ey) ad.block (ibl_mem hy e) eb
theorem ResAt.chgA {w w' : World} {B : Nat} {L : List Nat} {irs : List IR} {its : List It} (h : Al2 (ItR w B) irs its) (hc : Chg L w w') (hn : ∀ x ∈ irs, ∀ ad, x.a = some ad → ad.block ∉ L) : Al2 (ItR w' B) irs its := h.imp fun x hx _ hr => ⟨hr.nm, hr.ps.chg hc (hn x hx)⟩
set_option maxHeartbeats 4000000 in
set_option maxRecDepth 100000 in
theorem laws_markVolM (B : Nat) (a : Option Addr) (n cap k0 : Nat) (vr : List VR) (vs : List Vo) (w : World) (RV : ResAt VR.cs 4 tV w B a n cap vr) (AL : Al2 (VoR w B) vr vs) (N1 : (vblk vr).Nodup) (N2 : (pblk vr).Nodup) (hn : n ≤ 4194304) (hpn : ∀ x ∈ vr, x.n ≤ 4194304 ∧ ∀ y ∈ x.irs, y.n ≤ 4194304) (hk1 : 1 ≤ k0) (hk2 : kVo k0 vr ≤ 40000000) :
    Calls Tryz.prog 46 #[.slice a n cap, .int .i64 ((k0 : Nat) : Int)] w fun e w' => e = .returned (.int .i64 ((kVo k0 vr : Nat) : Int)) ∧ MkV w' a vr k0 ∧ Chg ((blkO a).toList ++ vbl vr) w w' := by
  have hlen := RV.sl.len
  rcases RV.own with ⟨rfl, rfl, rfl⟩ | ⟨vb, rfl, hB, hnc, hcm, c, hc, hs, _⟩
  · obtain rfl := List.eq_nil_of_length_eq_zero hlen
    go_enter Tryz.func46, Tryz.ntmps46
    go_wp2_with fail
    go_rounds 1
    go_returns
    exact ⟨rfl, fun j x hx => (by simp at hx), Chg.refl _ _⟩
  · have hsl : Hid (∀ j x, vr[j]? = some x → c[j * 4 + 3]? = some (.slice x.a x.n x.c)) := fun j x hx => by
      obtain ⟨b, o, e, hq⟩ := RV.sl.cell j x hx
      cases e
      have := hq 3 _ rfl
      rw [hc.cell] at this
      simpa using this
    have hV : Hid (∀ x ∈ vr, ∃ v, VoR w B x v) := fun x hx => al_mem AL hx
    have hne : Hid (∀ x ∈ vr, (∀ ad, x.a = some ad → ad.block ≠ vb) ∧ ∀ y ∈ x.irs, ∀ ad, y.a = some ad → ad.block ≠ vb) := fun x hx => by
      obtain ⟨v, hv⟩ := hV.out x hx
      refine ⟨fun ad e => res_ne hv.rows RV (by decide) e rfl, fun y hy ad e => ?_⟩
      obtain ⟨t, ht⟩ := al_mem hv.its hy
      exact res_ne ht.ps RV (by decide) e rfl
    have hNi : Hid (∀ x ∈ vr, (ibl x.irs).Nodup) := fun x hx => by
      obtain ⟨l1, l2, e⟩ := List.append_of_mem hx
      have h3 := N2
      rw [e] at h3
      unfold pblk at h3
      rw [List.flatMap_append, List.flatMap_cons] at h3
      exact (List.nodup_append.1 (List.nodup_append.1 h3).2.1).1
    have hkl : Hid (∀ i, kVo k0 (vr.take i) ≤ 40000000) := fun i => Nat.le_trans (kVo_le i) hk2
    have hkg : Hid (∀ i, 1 ≤ kVo k0 (vr.take i)) := fun i => Nat.le_trans hk1 (kVo_ge _ _)
    obtain ⟨kE, hkE⟩ : ∃ kE, Hid (kVo k0 vr = kE) := ⟨_, rfl⟩
    rw [hkE.out]
    go_enter Tryz.func46, Tryz.ntmps46
    go_wp2_with fail
    go_loopw [1, 5] (fun kk ix wr => ∃ (i : Nat) (c' : Array Value), i ≤ n ∧ ix = .int .i64 i ∧ kk = .int .i64 ((kVo k0 (vr.take i) : Nat) : Int) ∧ Blk wr vb c' tV ∧ Hid (c'.size = c.size) ∧ Hid (∀ j x, vr[j]? = some x → c'[j * 4 + 3]? = some (.slice x.a x.n x.c)) ∧ Hid (∀ j, j < i → c'[j * 4]? = some (.int .i64 ((kVo k0 (vr.take j) : Nat) : Int)) ∧ c'[j * 4 + 1]? = some (.string (markT (kVo k0 (vr.take j) + 1))) ∧ c'[j * 4 + 2]? = some (.bool ((((kVo k0 (vr.take j) : Nat) : Int) + 1 + 1) % 3 == 0))) ∧ Hid (∀ j x, j < i → vr[j]? = some x → MkI wr x.a x.irs (kVo k0 (vr.take j) + 3)) ∧ Chg (vb :: vbl (vr.take i)) w wr) (fun _ ix _ => n - (intOf ix).toNat)
    case atStart => exact ⟨0, c, Nat.zero_le _, rfl, rfl, hc, rfl, hsl.out, fun j hj => (by omega), fun j x hj => (by omega), Chg.refl _ _⟩
    case round =>
      obtain ⟨i, c', hi, rfl, rfl, hblk, hcs, hcc, hcm1, hmk, hC⟩ := hrel
      by_cases hlt : i < n
      · obtain ⟨x, hx⟩ : ∃ x, vr[i]? = some x := ⟨vr[i]'(by omega), by simp⟩
        have hxm := List.mem_of_getElem? hx
        obtain ⟨v, hv⟩ := hV.out x hxm
        have hc3 : i * 4 + 3 < c'.size := by rw [hcs.out, hs]; have := Nat.mul_le_mul_right 4 hnc; omega
        have hi1 : (i : Int) < n := by omega
        have hi2 : (0 : Int) ≤ i := by omega
        obtain ⟨q, hq⟩ : ∃ q, Hid (kVo k0 (vr.take i) = q) := ⟨_, rfl⟩
        have hq1 : 1 ≤ q := by rw [← hq.out]; exact hkg.out i
        have hq3 : Hid (kVo k0 (vr.take (i + 1)) = kIt (q + 3) x.irs) := by show _ = _; rw [kVo_take hx, hq.out]
        have hq4 : kIt (q + 3) x.irs ≤ 40000000 := by rw [← hq3.out]; exact hkl.out (i + 1)
        have hq2 : q + 3 ≤ 40000000 := Nat.le_trans (kIt_ge _ _) hq4
        have hxn := hpn x hxm
        rw [hq.out]
        obtain ⟨v0, y0⟩ := hblk.has (i := i * 4) (by omega)
        have f0 := hblk.frozen (i * 4)
        go_wp2_with fail
        refine (laws_markTextZ (q + 1) _ (by omega) _ (by omega) (by omega)).mono ?_
        rintro e w1 ⟨rfl, hB1⟩
        have b0 := hblk.set (i * 4) (.int .i64 ((q : Nat) : Int))
        have C01 : Chg [vb] wr w1 := (Chg.ofG (grown_set (World.grownBy.refl _ _) _ _) (fun b e => by cases e; simp)).trans (Chg.ofB hB1)
        have b1 := b0.below hB1
        clear y0 f0 b0 hB1
        obtain ⟨v1, y1⟩ := b1.has (i := i * 4 + 1) (by simp; omega)
        have f1 := b1.frozen (i * 4 + 1)
        obtain ⟨v2, y2⟩ := b1.has (i := i * 4 + 2) (by simp; omega)
        have f2 := b1.frozen (i * 4 + 2)
        have y3 : w1.cell? ⟨vb, i * 4 + 3, none⟩ = some (.slice x.a x.n x.c) := by rw [b1.cell, Array.getElem?_setIfInBounds_ne (by omega)]; exact hcc.out i x hx
        go_wp2_with fail
        rw [show ((q : Nat) : Int) + 1 + 1 + 1 = ((q + 3 : Nat) : Int) by omega]
        have b2 := (b1.set (i * 4 + 1) (.string (markT (q + 1)))).set (i * 4 + 2) (.bool ((((q : Nat) : Int) + 1 + 1) % 3 == 0))
        have C12 : Chg [vb] wr ((w1.setCell ⟨vb, i * 4 + 1, none⟩ (.string (markT (q + 1)))).setCell ⟨vb, i * 4 + 2, none⟩ (.bool ((((q : Nat) : Int) + 1 + 1) % 3 == 0))) := C01.trans (Chg.ofG (grown_set (grown_set (World.grownBy.refl _ _) _ _) _ _) (fun b e => by cases e; simp))
        generalize (w1.setCell ⟨vb, i * 4 + 1, none⟩ (.string (markT (q + 1)))).setCell ⟨vb, i * 4 + 2, none⟩ (.bool ((((q : Nat) : Int) + 1 + 1) % 3 == 0)) = W2 at *
        clear y1 y2 y3 f1 f2 b1 C01
        have hC2 : Chg (vb :: vbl (vr.take i)) w W2 := hC.trans (C12.mono (by simp))
        obtain ⟨hno1, hno2⟩ := vbl_no AL N1 N2 hx
        obtain ⟨hn1, hn2⟩ := hne.out x hxm
        have RI2 := hv.rows.chg hC2 (fun ad e => by
          simp only [List.mem_cons, not_or]
          exact ⟨hn1 ad e, hno1 ad e⟩)
        have IL2 := ResAt.chgA hv.its hC2 (fun y hy ad e => by
          simp only [List.mem_cons, not_or]
          exact ⟨hn2 y hy ad e, hno2 y hy ad e⟩)
        refine (laws_markItemM B x.a x.n x.c (q + 3) x.irs v.its W2 RI2 IL2 (hNi.out x hxm) hxn.1 hxn.2 (by omega) hq4).mono ?_
        rintro e w3 ⟨rfl, hMk, C23⟩
        have hvn : vb ∉ (blkO x.a).toList ++ ibl x.irs := fun hm => by
          rcases List.mem_append.1 hm with hm | hm
          · cases hxa : x.a with
            | none => rw [hxa] at hm; simp [blkO] at hm
            | some ad => rw [hxa] at hm; simp [blkO] at hm; exact hn1 ad hxa hm.symm
          · obtain ⟨y, hy, e⟩ := List.mem_filterMap.1 hm
            cases hya : y.a with
            | none => rw [hya] at e; cases e
            | some ad => rw [hya] at e; exact hn2 y hy ad hya (Option.some.inj e)
        have b3 := C23.blk b2 hvn
        have hC3 : Chg (vb :: vbl (vr.take (i + 1))) w w3 := (hC2.mono (fun k hk => by
          rw [vbl_take hx]
          rcases List.mem_cons.1 hk with rfl | hk
          · simp
          · exact List.mem_cons_of_mem _ (List.mem_append_left _ hk))).trans (C23.mono (fun k hk => by rw [vbl_take hx]; exact List.mem_cons_of_mem _ (List.mem_append_right _ hk)))
        have hin : ∀ b, b ∈ vbl (vr.take i) → b ∉ (blkO x.a).toList ++ ibl x.irs := fun b hb hm => by
          rcases List.mem_append.1 hm with hm | hm
          · cases hxa : x.a with
            | none => rw [hxa] at hm; simp [blkO] at hm
            | some ad => rw [hxa] at hm; simp [blkO] at hm; exact hno1 ad hxa (hm ▸ hb)
          · obtain ⟨y, hy, e⟩ := List.mem_filterMap.1 hm
            cases hya : y.a with
            | none => rw [hya] at e; cases e
            | some ad => rw [hya] at e; exact hno2 y hy ad hya (by rw [show ad.block = b from Option.some.inj e]; exact hb)
        have hmk3 : Hid (∀ j z, j < i + 1 → vr[j]? = some z → MkI w3 z.a z.irs (kVo k0 (vr.take j) + 3)) := fun j z hj hz => by
          by_cases hji : j = i
          · subst hji
            obtain rfl : x = z := Option.some.inj (hx.symm.trans hz)
            rw [hq.out]
            exact hMk
          · have hzm := List.mem_of_getElem? hz
            have hzt : z ∈ vr.take i := List.mem_of_getElem? (i := j) (by rw [List.getElem?_take_of_lt (by omega)]; exact hz)
            obtain ⟨hz1, hz2⟩ := hne.out z hzm
            have h1 := hmk.out j z (by omega) hz
            exact (h1.chg C12 (fun ad e => by simpa using hz1 ad e) (fun y hy ad e => by simpa using hz2 y hy ad e)).chg C23 (fun ad e => hin _ (vbl_v hzt e)) (fun y hy ad e => hin _ (vbl_p hzt hy e))
        clear hMk C23 hC2 C12 hblk b2 RI2 IL2 hno1 hno2 hn1 hn2 hvn hin
        obtain ⟨qe, hqe⟩ : ∃ qe, Hid (kIt (q + 3) x.irs = qe) := ⟨_, rfl⟩
        rw [hqe.out]
        go_wp2
        go_roundw
        case rel =>
          refine ⟨i + 1, _, by omega, by go_num, ?_, b3, by show _ = _; simp [hcs.out], ?_, ?_, hmk3, hC3⟩
          · rw [hq3.out, hqe.out]
          · intro j z hz
            rw [Array.getElem?_setIfInBounds_ne (by omega), Array.getElem?_setIfInBounds_ne (by omega), Array.getElem?_setIfInBounds_ne (by omega)]
            exact hcc.out j z hz
          · intro j hj
            by_cases hji : j = i
            · subst hji
              refine ⟨?_, ?_, ?_⟩
              · rw [Array.getElem?_setIfInBounds_ne (by omega), Array.getElem?_setIfInBounds_ne (by omega), Array.getElem?_setIfInBounds_self_of_lt (by omega), hq.out]
              · rw [Array.getElem?_setIfInBounds_ne (by omega), Array.getElem?_setIfInBounds_self_of_lt (by simp; omega), hq.out]
              · rw [Array.getElem?_setIfInBounds_self_of_lt (by simp; omega), hq.out]
            · obtain ⟨r0, r1, r2⟩ := hcm1.out j (by omega)
              refine ⟨?_, ?_, ?_⟩
              all_goals (rw [Array.getElem?_setIfInBounds_ne (by omega), Array.getElem?_setIfInBounds_ne (by omega), Array.getElem?_setIfInBounds_ne (by omega)]; assumption)
        case measure => simp [intOf]; omega
      · obtain rfl : i = n := by omega
        have ht : vr.take i = vr := List.take_of_length_le (by omega)
        rw [ht] at hC ⊢
        rw [hkE.out]
        go_wp2
        go_returns
        refine ⟨rfl, fun j x hx => ?_, hC⟩
        have hj : j < i := by rw [← hlen]; exact (List.getElem?_eq_some_iff.1 hx).1
        obtain ⟨r0, r1, r2⟩ := hcm1.out j hj
        exact ⟨vb, rfl, by rw [hblk.cell]; exact r0, by rw [hblk.cell]; exact r1, by rw [hblk.cell]; exact r2, by rw [hblk.cell]; exact hcc.out j x hx, hmk.out j x hj hx⟩
set_option maxHeartbeats 4000000 in
set_option maxRecDepth 100000 in
theorem laws_heldVolM (a : Option Addr) (n cap k0 : Nat) (vr : List VR) (w : World) (h : MkV w a vr k0) (hlen : vr.length = n) (hil : ∀ x ∈ vr, x.irs.length = x.n) (hn : n ≤ 4194304) (hpn : ∀ x ∈ vr, x.n ≤ 4194304 ∧ ∀ y ∈ x.irs, y.n ≤ 4194304) (hk1 : 1 ≤ k0) (hk2 : kVo k0 vr ≤ 40000000) :
    Calls Tryz.prog 49 #[.slice a n cap, .int .i64 ((k0 : Nat) : Int)] w fun e w' => e = .returned (.int .i64 ((kVo k0 vr : Nat) : Int)) ∧ Below w.heap.size w w' := by
  have hkl : Hid (∀ i, kVo k0 (vr.take i) ≤ 40000000) := fun i => Nat.le_trans (kVo_le i) hk2
  have hkg : Hid (∀ i, 1 ≤ kVo k0 (vr.take i)) := fun i => Nat.le_trans hk1 (kVo_ge _ _)
  obtain ⟨kE, hkE⟩ : ∃ kE, Hid (kVo k0 vr = kE) := ⟨_, rfl⟩
  rw [hkE.out]
  go_enter Tryz.func49, Tryz.ntmps49
  go_wp2_with fail
  go_loopw [1, 5] (fun kk ix wr => ∃ (i : Nat), i ≤ n ∧ ix = .int .i64 i ∧ kk = .int .i64 ((kVo k0 (vr.take i) : Nat) : Int) ∧ Below w.heap.size w wr) (fun _ ix _ => n - (intOf ix).toNat)
  case atStart => exact ⟨0, Nat.zero_le _, rfl, rfl, Below.refl _ _⟩
  case round =>
    obtain ⟨i, hi, rfl, rfl, hB⟩ := hrel
    by_cases hlt : i < n
    · obtain ⟨x, hx⟩ : ∃ x, vr[i]? = some x := ⟨vr[i]'(by omega), by simp⟩
      have hxm := List.mem_of_getElem? hx
      obtain ⟨b, rfl, c0, c1, c2, c3, hm⟩ := h i x hx
      have hi1 : (i : Int) < n := by omega
      have hi2 : (0 : Int) ≤ i := by omega
      obtain ⟨q, hq⟩ : ∃ q, Hid (kVo k0 (vr.take i) = q) := ⟨_, rfl⟩
      have hq1 : 1 ≤ q := by rw [← hq.out]; exact hkg.out i
      have hq3 : Hid (kVo k0 (vr.take (i + 1)) = kIt (q + 3) x.irs) := by show _ = _; rw [kVo_take hx, hq.out]
      have hq4 : kIt (q + 3) x.irs ≤ 40000000 := by rw [← hq3.out]; exact hkl.out (i + 1)
      have hq2 : q + 3 ≤ 40000000 := Nat.le_trans (kIt_ge _ _) hq4
      have hxn := hpn x hxm
      rw [hq.out] at c0 c1 c2 hm ⊢
      replace c0 := bcell hB c0
      replace c1 := bcell hB c1
      replace c2 := bcell hB c2
      replace c3 := bcell hB c3
      replace hm := hm.below hB
      have e0 : (((q : Nat) : Int) != ((q : Nat) : Int)) = false := by simp
      have e1 : (!((markT (q + 1)).toList == (markT (q + 1)).toList)) = false := by simp
      go_wp2_with fail
      have g1 := gcell c1
      have hne := grw_ne wr
      refine wp_region_grow (by kernel_rfl) (by kernel_rfl) ?_
      repeat (go_big_quiet_step (first | (go_at_call 109; exact grow_of (laws_markTextZ (q + 1) (((q : Nat) : Int) + 1) (by omega) _ (by omega) (by omega)))))
      refine wpQuiet_nil ?_
      intro w2 hxx
      have hB2 := grw_out hxx
      clear hxx g1 hne e1
      replace c2 := bcell hB2 c2
      replace c3 := bcell hB2 c3
      replace hm := hm.below hB2
      have hC2 := chain hB hB2
      go_wp2_with fail
      rw [show ((q : Nat) : Int) + 1 + 1 + 1 = ((q + 3 : Nat) : Int) by omega]
      refine (laws_heldItemM x.a x.n x.c (q + 3) x.irs w2 hm (hil x hxm) hxn.1 hxn.2 (by omega) hq4).mono ?_
      rintro e w3 ⟨rfl, hB3⟩
      have hC3 := chain hC2 hB3
      obtain ⟨qq, hqq⟩ : ∃ qq : Int, ((kIt (q + 3) x.irs : Nat) : Int) = qq := ⟨_, rfl⟩
      have hqh : Hid (((kIt (q + 3) x.irs : Nat) : Int) = qq) := hqq
      have hq5 : 0 ≤ qq := by omega
      have hq6 : ¬ qq < 0 := by omega
      have hq7 : qq ≤ 40000000 := by omega
      rw [hqq]
      clear hqq
      go_wp2
      go_roundw
      case rel => exact ⟨i + 1, by omega, by go_num, by rw [← hqh.out, hq3.out], hC3⟩
      case measure => simp [intOf]; omega
    · obtain rfl : i = n := by omega
      have ht : vr.take i = vr := List.take_of_length_le (by omega)
      rw [ht, hkE.out]
      go_wp2
      go_returns
      exact ⟨rfl, hB⟩
end Go.Proofs.YtigldeccfpkdmaaGreatDoor
