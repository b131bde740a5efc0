/- The laws' marks of volumes: written. A number read by the program, plain. A contract of the library, laid at this program. A contract of the library, laid at this program. -/
import Derived.Test.YtigldeccfpkdmaaGreatDoorCReadPoolx14
import Derived.Lib.AtoiTie
import Derived.Lib.ParseIntBTie
import Derived.Lib.Strings
import Derived.Test.YtigldeccfpkdmaaGreatDoorCReadPoolx08
import Derived.Test.YtigldeccfpkdmaaGreatDoorProg
import Derived.Shelf.Strconv.ErrVarParseInt
import Derived.Shelf.Strings.Prefix
namespace Go.Proofs.YtigldeccfpkdmaaGreatDoor
open Go Go.RowKit Go.BigFrame
/-- All blocks of volumes. -/
def vbl (vr : List VR) : List Nat := vr.flatMap fun r => (blkO r.a).toList ++ ibl r.irs
theorem vbl_take {vr : List VR} {i : Nat} {x : VR} (h : vr[i]? = some x) : vbl (vr.take (i + 1)) = vbl (vr.take i) ++ ((blkO x.a).toList ++ ibl x.irs) := by
  unfold vbl
  rw [List.take_add_one, h]
  simp
theorem vbl_v {vr : List VR} {x : VR} {ad : Addr} (h : x ∈ vr) (ha : x.a = some ad) : ad.block ∈ vbl vr := List.mem_flatMap.2 ⟨x, h, List.mem_append_left _ (by simp [blkO, ha])⟩
theorem vbl_p {vr : List VR} {x : VR} {y : IR} {ad : Addr} (h : x ∈ vr) (hy : y ∈ x.irs) (ha : y.a = some ad) : ad.block ∈ vbl vr := List.mem_flatMap.2 ⟨x, h, List.mem_append_right _ (ibl_mem hy ha)⟩
theorem vbl_cases {vr : List VR} {b : Nat} (h : b ∈ vbl vr) : (∃ x ∈ vr, ∃ ad, x.a = some ad ∧ ad.block = b) ∨ ∃ x ∈ vr, ∃ y ∈ x.irs, ∃ ad, y.a = some ad ∧ ad.block = b := by
  obtain ⟨x, hx, hb⟩ := List.mem_flatMap.1 h
  rcases List.mem_append.1 hb with hb | hb
  · left
    cases ha : x.a with
    | none => rw [ha] at hb; simp [blkO] at hb
    | some ad => rw [ha] at hb; simp [blkO] at hb; exact ⟨x, hx, ad, ha, hb.symm⟩
  · right
    obtain ⟨y, hy, e⟩ := List.mem_filterMap.1 hb
    cases ha : y.a with
    | none => rw [ha] at e; cases e
    | some ad => rw [ha] at e; exact ⟨x, hx, y, hy, ad, ha, Option.some.inj e⟩
/-- Another volume's blocks are others. -/
theorem vbl_no {w : World} {B : Nat} {vr : List VR} {vs : List Vo} {i : Nat} {x : VR} (AL : Al2 (VoR w B) vr vs) (N1 : (vblk vr).Nodup) (N2 : (pblk vr).Nodup) (h : vr[i]? = some x) : (∀ ad, x.a = some ad → ad.block ∉ vbl (vr.take i)) ∧ ∀ y ∈ x.irs, ∀ ad, y.a = some ad → ad.block ∉ vbl (vr.take i) := by
  have hsp : vr.take (i + 1) = vr.take i ++ [x] := by rw [List.take_add_one, h]; rfl
  have h1 : (vblk (vr.take i ++ [x])).Nodup := by rw [← hsp]; exact List.Nodup.sublist ((List.take_sublist _ _).filterMap _) N1
  have h2 : (pblk (vr.take i ++ [x])).Nodup := by
    rw [← hsp]
    unfold pblk at N2 ⊢
    have e := congrArg (fun l : List VR => l.flatMap fun r => r.irs.filterMap fun x => blkO x.a) (List.take_append_drop (i + 1) vr)
    simp only [List.flatMap_append] at e
    rw [← e] at N2
    exact (List.nodup_append.1 N2).1
  rw [vblk_app] at h1
  rw [pblk_app] at h2
  have hxm := List.mem_of_getElem? h
  obtain ⟨v, hv⟩ := al_mem AL hxm
  have hm : ∀ z ∈ vr.take i, z ∈ vr := fun z hz => List.mem_of_mem_take hz
  have hpt : ∀ z ∈ vr, ∀ y ∈ z.irs, ∃ ps, ResAt Pt.cs 3 tP w B y.a y.n y.c ps := fun z hz y hy => by
    obtain ⟨u, hu⟩ := al_mem AL hz
    obtain ⟨t, ht⟩ := al_mem hu.its hy
    exact ⟨_, ht.ps⟩
  constructor
  · intro ad e hb
    rcases vbl_cases hb with ⟨z, hz, az, ez, eb⟩ | ⟨z, hz, y, hy, ay, ey, eb⟩
    · exact (List.nodup_append.1 h1).2.2 _ (mem_vblk hz ez) ad.block (by simp [blkO, e]) eb
    · obtain ⟨ps, hp⟩ := hpt z (hm z hz) y hy
      exact res_ne hp hv.rows (by decide) ey e eb
  · intro y hy ad e hb
    rcases vbl_cases hb with ⟨z, hz, az, ez, eb⟩ | ⟨z, hz, y', hy', ay, ey, eb⟩
    · obtain ⟨ps, hp⟩ := hpt x hxm y hy
      obtain ⟨u, hu⟩ := al_mem AL (hm z hz)
      exact res_ne hp hu.rows (by decide) e ez eb.symm
    · exact (List.nodup_append.1 h2).2.2 _ (mem_pblk hz hy' ey) ad.block (ibl_mem hy e) eb
theorem ResAt.chgA {w w' : World} {B : Nat} {L : List Nat} {irs : List IR} {its : List It} (h : Al2 (ItR w B) irs its) (hc : Chg L w w') (hn : ∀ x ∈ irs, ∀ ad, x.a = some ad → ad.block ∉ L) : Al2 (ItR w' B) irs its := h.imp fun x hx _ hr => ⟨hr.nm, hr.ps.chg hc (hn x hx)⟩
set_option maxHeartbeats 4000000 in
set_option maxRecDepth 100000 in
theorem laws_markVolM (B : Nat) (a : Option Addr) (n cap k0 : Nat) (vr : List VR) (vs : List Vo) (w : World) (RV : ResAt VR.cs 4 tV w B a n cap vr) (AL : Al2 (VoR w B) vr vs) (N1 : (vblk vr).Nodup) (N2 : (pblk vr).Nodup) (hn : n ≤ 4194304) (hpn : ∀ x ∈ vr, x.n ≤ 4194304 ∧ ∀ y ∈ x.irs, y.n ≤ 4194304) (hk1 : 1 ≤ k0) (hk2 : kVo k0 vr ≤ 40000000) :
    Calls Tryz.prog 46 #[.slice a n cap, .int .i64 ((k0 : Nat) : Int)] w fun e w' => e = .returned (.int .i64 ((kVo k0 vr : Nat) : Int)) ∧ MkV w' a vr k0 ∧ Chg ((blkO a).toList ++ vbl vr) w w' := by
  have hlen := RV.sl.len
  rcases RV.own with ⟨rfl, rfl, rfl⟩ | ⟨vb, rfl, hB, hnc, hcm, c, hc, hs, _⟩
  · obtain rfl := List.eq_nil_of_length_eq_zero hlen
    go_enter Tryz.func46, Tryz.ntmps46
    go_wp2_with fail
    go_rounds 1
    go_returns
    exact ⟨rfl, fun j x hx => (by simp at hx), Chg.refl _ _⟩
  · have hsl : Hid (∀ j x, vr[j]? = some x → c[j * 4 + 3]? = some (.slice x.a x.n x.c)) := fun j x hx => by
      obtain ⟨b, o, e, hq⟩ := RV.sl.cell j x hx
      cases e
      have := hq 3 _ rfl
      rw [hc.cell] at this
      simpa using this
    have hV : Hid (∀ x ∈ vr, ∃ v, VoR w B x v) := fun x hx => al_mem AL hx
    have hne : Hid (∀ x ∈ vr, (∀ ad, x.a = some ad → ad.block ≠ vb) ∧ ∀ y ∈ x.irs, ∀ ad, y.a = some ad → ad.block ≠ vb) := fun x hx => by
      obtain ⟨v, hv⟩ := hV.out x hx
      refine ⟨fun ad e => res_ne hv.rows RV (by decide) e rfl, fun y hy ad e => ?_⟩
      obtain ⟨t, ht⟩ := al_mem hv.its hy
      exact res_ne ht.ps RV (by decide) e rfl
    have hNi : Hid (∀ x ∈ vr, (ibl x.irs).Nodup) := fun x hx => by
      obtain ⟨l1, l2, e⟩ := List.append_of_mem hx
      have h3 := N2
      rw [e] at h3
      unfold pblk at h3
      rw [List.flatMap_append, List.flatMap_cons] at h3
      exact (List.nodup_append.1 (List.nodup_append.1 h3).2.1).1
    have hkl : Hid (∀ i, kVo k0 (vr.take i) ≤ 40000000) := fun i => Nat.le_trans (kVo_le i) hk2
    have hkg : Hid (∀ i, 1 ≤ kVo k0 (vr.take i)) := fun i => Nat.le_trans hk1 (kVo_ge _ _)
    obtain ⟨kE, hkE⟩ : ∃ kE, Hid (kVo k0 vr = kE) := ⟨_, rfl⟩
    rw [hkE.out]
    go_enter Tryz.func46, Tryz.ntmps46
    go_wp2_with fail
    go_loopw [1, 5] (fun kk ix wr => ∃ (i : Nat) (c' : Array Value), i ≤ n ∧ ix = .int .i64 i ∧ kk = .int .i64 ((kVo k0 (vr.take i) : Nat) : Int) ∧ Blk wr vb c' tV ∧ Hid (c'.size = c.size) ∧ Hid (∀ j x, vr[j]? = some x → c'[j * 4 + 3]? = some (.slice x.a x.n x.c)) ∧ Hid (∀ j, j < i → c'[j * 4]? = some (.int .i64 ((kVo k0 (vr.take j) : Nat) : Int)) ∧ c'[j * 4 + 1]? = some (.string (markT (kVo k0 (vr.take j) + 1))) ∧ c'[j * 4 + 2]? = some (.bool ((((kVo k0 (vr.take j) : Nat) : Int) + 1 + 1) % 3 == 0))) ∧ Hid (∀ j x, j < i → vr[j]? = some x → MkI wr x.a x.irs (kVo k0 (vr.take j) + 3)) ∧ Chg (vb :: vbl (vr.take i)) w wr) (fun _ ix _ => n - (intOf ix).toNat)
    case atStart => exact ⟨0, c, Nat.zero_le _, rfl, rfl, hc, rfl, hsl.out, fun j hj => (by omega), fun j x hj => (by omega), Chg.refl _ _⟩
    case round =>
      obtain ⟨i, c', hi, rfl, rfl, hblk, hcs, hcc, hcm1, hmk, hC⟩ := hrel
      by_cases hlt : i < n
      · obtain ⟨x, hx⟩ : ∃ x, vr[i]? = some x := ⟨vr[i]'(by omega), by simp⟩
        have hxm := List.mem_of_getElem? hx
        obtain ⟨v, hv⟩ := hV.out x hxm
        have hc3 : i * 4 + 3 < c'.size := by rw [hcs.out, hs]; have := Nat.mul_le_mul_right 4 hnc; omega
        have hi1 : (i : Int) < n := by omega
        have hi2 : (0 : Int) ≤ i := by omega
        obtain ⟨q, hq⟩ : ∃ q, Hid (kVo k0 (vr.take i) = q) := ⟨_, rfl⟩
        have hq1 : 1 ≤ q := by rw [← hq.out]; exact hkg.out i
        have hq3 : Hid (kVo k0 (vr.take (i + 1)) = kIt (q + 3) x.irs) := by show _ = _; rw [kVo_take hx, hq.out]
        have hq4 : kIt (q + 3) x.irs ≤ 40000000 := by rw [← hq3.out]; exact hkl.out (i + 1)
        have hq2 : q + 3 ≤ 40000000 := Nat.le_trans (kIt_ge _ _) hq4
        have hxn := hpn x hxm
        rw [hq.out]
        obtain ⟨v0, y0⟩ := hblk.has (i := i * 4) (by omega)
        have f0 := hblk.frozen (i * 4)
        go_wp2_with fail
        refine (laws_markTextZ (q + 1) _ (by omega) _ (by omega) (by omega)).mono ?_
        rintro e w1 ⟨rfl, hB1⟩
        have b0 := hblk.set (i * 4) (.int .i64 ((q : Nat) : Int))
        have C01 : Chg [vb] wr w1 := (Chg.ofG (grown_set (World.grownBy.refl _ _) _ _) (fun b e => by cases e; simp)).trans (Chg.ofB hB1)
        have b1 := b0.below hB1
        clear y0 f0 b0 hB1
        obtain ⟨v1, y1⟩ := b1.has (i := i * 4 + 1) (by simp; omega)
        have f1 := b1.frozen (i * 4 + 1)
        obtain ⟨v2, y2⟩ := b1.has (i := i * 4 + 2) (by simp; omega)
        have f2 := b1.frozen (i * 4 + 2)
        have y3 : w1.cell? ⟨vb, i * 4 + 3, none⟩ = some (.slice x.a x.n x.c) := by rw [b1.cell, Array.getElem?_setIfInBounds_ne (by omega)]; exact hcc.out i x hx
        go_wp2_with fail
        rw [show ((q : Nat) : Int) + 1 + 1 + 1 = ((q + 3 : Nat) : Int) by omega]
        have b2 := (b1.set (i * 4 + 1) (.string (markT (q + 1)))).set (i * 4 + 2) (.bool ((((q : Nat) : Int) + 1 + 1) % 3 == 0))
        have C12 : Chg [vb] wr ((w1.setCell ⟨vb, i * 4 + 1, none⟩ (.string (markT (q + 1)))).setCell ⟨vb, i * 4 + 2, none⟩ (.bool ((((q : Nat) : Int) + 1 + 1) % 3 == 0))) := C01.trans (Chg.ofG (grown_set (grown_set (World.grownBy.refl _ _) _ _) _ _) (fun b e => by cases e; simp))
        generalize (w1.setCell ⟨vb, i * 4 + 1, none⟩ (.string (markT (q + 1)))).setCell ⟨vb, i * 4 + 2, none⟩ (.bool ((((q : Nat) : Int) + 1 + 1) % 3 == 0)) = W2 at *
        clear y1 y2 y3 f1 f2 b1 C01
        have hC2 : Chg (vb :: vbl (vr.take i)) w W2 := hC.trans (C12.mono (by simp))
        obtain ⟨hno1, hno2⟩ := vbl_no AL N1 N2 hx
        obtain ⟨hn1, hn2⟩ := hne.out x hxm
        have RI2 := hv.rows.chg hC2 (fun ad e => by
          simp only [List.mem_cons, not_or]
          exact ⟨hn1 ad e, hno1 ad e⟩)
        have IL2 := ResAt.chgA hv.its hC2 (fun y hy ad e => by
          simp only [List.mem_cons, not_or]
          exact ⟨hn2 y hy ad e, hno2 y hy ad e⟩)
        refine (laws_markItemM B x.a x.n x.c (q + 3) x.irs v.its W2 RI2 IL2 (hNi.out x hxm) hxn.1 hxn.2 (by omega) hq4).mono ?_
        rintro e w3 ⟨rfl, hMk, C23⟩
        have hvn : vb ∉ (blkO x.a).toList ++ ibl x.irs := fun hm => by
          rcases List.mem_append.1 hm with hm | hm
          · cases hxa : x.a with
            | none => rw [hxa] at hm; simp [blkO] at hm
            | some ad => rw [hxa] at hm; simp [blkO] at hm; exact hn1 ad hxa hm.symm
          · obtain ⟨y, hy, e⟩ := List.mem_filterMap.1 hm
            cases hya : y.a with
            | none => rw [hya] at e; cases e
            | some ad => rw [hya] at e; exact hn2 y hy ad hya (Option.some.inj e)
        have b3 := C23.blk b2 hvn
        have hC3 : Chg (vb :: vbl (vr.take (i + 1))) w w3 := (hC2.mono (fun k hk => by
          rw [vbl_take hx]
          rcases List.mem_cons.1 hk with rfl | hk
          · simp
          · exact List.mem_cons_of_mem _ (List.mem_append_left _ hk))).trans (C23.mono (fun k hk => by rw [vbl_take hx]; exact List.mem_cons_of_mem _ (List.mem_append_right _ hk)))
        have hin : ∀ b, b ∈ vbl (vr.take i) → b ∉ (blkO x.a).toList ++ ibl x.irs := fun b hb hm => by
          rcases List.mem_append.1 hm with hm | hm
          · cases hxa : x.a with
            | none => rw [hxa] at hm; simp [blkO] at hm
            | some ad => rw [hxa] at hm; simp [blkO] at hm; exact hno1 ad hxa (hm ▸ hb)
          · obtain ⟨y, hy, e⟩ := List.mem_filterMap.1 hm
            cases hya : y.a with
            | none => rw [hya] at e; cases e
            | some ad => rw [hya] at e; exact hno2 y hy ad hya (by rw [show ad.block = b from Option.some.inj e]; exact hb)
        have hmk3 : Hid (∀ j z, j < i + 1 → vr[j]? = some z → MkI w3 z.a z.irs (kVo k0 (vr.take j) + 3)) := fun j z hj hz => by
          by_cases hji : j = i
          · subst hji
            obtain rfl : x = z := Option.some.inj (hx.symm.trans hz)
            rw [hq.out]
            exact hMk
          · have hzm := List.mem_of_getElem? hz
            have hzt : z ∈ vr.take i := List.mem_of_getElem? (i := j) (by rw [List.getElem?_take_of_lt (by omega)]; exact hz)
            obtain ⟨hz1, hz2⟩ := hne.out z hzm
            have h1 := hmk.out j z (by omega) hz
            exact (h1.chg C12 (fun ad e => by simpa using hz1 ad e) (fun y hy ad e => by simpa using hz2 y hy ad e)).chg C23 (fun ad e => hin _ (vbl_v hzt e)) (fun y hy ad e => hin _ (vbl_p hzt hy e))
        clear hMk C23 hC2 C12 hblk b2 RI2 IL2 hno1 hno2 hn1 hn2 hvn hin
        obtain ⟨qe, hqe⟩ : ∃ qe, Hid (kIt (q + 3) x.irs = qe) := ⟨_, rfl⟩
        rw [hqe.out]
        go_wp2
        go_roundw
        case rel =>
          refine ⟨i + 1, _, by omega, by go_num, ?_, b3, by show _ = _; simp [hcs.out], ?_, ?_, hmk3, hC3⟩
          · rw [hq3.out, hqe.out]
          · intro j z hz
            rw [Array.getElem?_setIfInBounds_ne (by omega), Array.getElem?_setIfInBounds_ne (by omega), Array.getElem?_setIfInBounds_ne (by omega)]
            exact hcc.out j z hz
          · intro j hj
            by_cases hji : j = i
            · subst hji
              refine ⟨?_, ?_, ?_⟩
              · rw [Array.getElem?_setIfInBounds_ne (by omega), Array.getElem?_setIfInBounds_ne (by omega), Array.getElem?_setIfInBounds_self_of_lt (by omega), hq.out]
              · rw [Array.getElem?_setIfInBounds_ne (by omega), Array.getElem?_setIfInBounds_self_of_lt (by simp; omega), hq.out]
              · rw [Array.getElem?_setIfInBounds_self_of_lt (by simp; omega), hq.out]
            · obtain ⟨r0, r1, r2⟩ := hcm1.out j (by omega)
              refine ⟨?_, ?_, ?_⟩
              all_goals (rw [Array.getElem?_setIfInBounds_ne (by omega), Array.getElem?_setIfInBounds_ne (by omega), Array.getElem?_setIfInBounds_ne (by omega)]; assumption)
        case measure => simp [intOf]; omega
      · obtain rfl : i = n := by omega
        have ht : vr.take i = vr := List.take_of_length_le (by omega)
        rw [ht] at hC ⊢
        rw [hkE.out]
        go_wp2
        go_returns
        refine ⟨rfl, fun j x hx => ?_, hC⟩
        have hj : j < i := by rw [← hlen]; exact (List.getElem?_eq_some_iff.1 hx).1
        obtain ⟨r0, r1, r2⟩ := hcm1.out j hj
        exact ⟨vb, rfl, by rw [hblk.cell]; exact r0, by rw [hblk.cell]; exact r1, by rw [hblk.cell]; exact r2, by rw [hblk.cell]; exact hcc.out j x hx, hmk.out j x hj hx⟩
set_option maxHeartbeats 4000000 in
set_option maxRecDepth 100000 in
theorem laws_heldVolM (a : Option Addr) (n cap k0 : Nat) (vr : List VR) (w : World) (h : MkV w a vr k0) (hlen : vr.length = n) (hil : ∀ x ∈ vr, x.irs.length = x.n) (hn : n ≤ 4194304) (hpn : ∀ x ∈ vr, x.n ≤ 4194304 ∧ ∀ y ∈ x.irs, y.n ≤ 4194304) (hk1 : 1 ≤ k0) (hk2 : kVo k0 vr ≤ 40000000) :
    Calls Tryz.prog 49 #[.slice a n cap, .int .i64 ((k0 : Nat) : Int)] w fun e w' => e = .returned (.int .i64 ((kVo k0 vr : Nat) : Int)) ∧ Below w.heap.size w w' := by
  have hkl : Hid (∀ i, kVo k0 (vr.take i) ≤ 40000000) := fun i => Nat.le_trans (kVo_le i) hk2
  have hkg : Hid (∀ i, 1 ≤ kVo k0 (vr.take i)) := fun i => Nat.le_trans hk1 (kVo_ge _ _)
  obtain ⟨kE, hkE⟩ : ∃ kE, Hid (kVo k0 vr = kE) := ⟨_, rfl⟩
  rw [hkE.out]
  go_enter Tryz.func49, Tryz.ntmps49
  go_wp2_with fail
  go_loopw [1, 5] (fun kk ix wr => ∃ (i : Nat), i ≤ n ∧ ix = .int .i64 i ∧ kk = .int .i64 ((kVo k0 (vr.take i) : Nat) : Int) ∧ Below w.heap.size w wr) (fun _ ix _ => n - (intOf ix).toNat)
  case atStart => exact ⟨0, Nat.zero_le _, rfl, rfl, Below.refl _ _⟩
  case round =>
    obtain ⟨i, hi, rfl, rfl, hB⟩ := hrel
    by_cases hlt : i < n
    · obtain ⟨x, hx⟩ : ∃ x, vr[i]? = some x := ⟨vr[i]'(by omega), by simp⟩
      have hxm := List.mem_of_getElem? hx
      obtain ⟨b, rfl, c0, c1, c2, c3, hm⟩ := h i x hx
      have hi1 : (i : Int) < n := by omega
      have hi2 : (0 : Int) ≤ i := by omega
      obtain ⟨q, hq⟩ : ∃ q, Hid (kVo k0 (vr.take i) = q) := ⟨_, rfl⟩
      have hq1 : 1 ≤ q := by rw [← hq.out]; exact hkg.out i
      have hq3 : Hid (kVo k0 (vr.take (i + 1)) = kIt (q + 3) x.irs) := by show _ = _; rw [kVo_take hx, hq.out]
      have hq4 : kIt (q + 3) x.irs ≤ 40000000 := by rw [← hq3.out]; exact hkl.out (i + 1)
      have hq2 : q + 3 ≤ 40000000 := Nat.le_trans (kIt_ge _ _) hq4
      have hxn := hpn x hxm
      rw [hq.out] at c0 c1 c2 hm ⊢
      replace c0 := bcell hB c0
      replace c1 := bcell hB c1
      replace c2 := bcell hB c2
      replace c3 := bcell hB c3
      replace hm := hm.below hB
      have e0 : (((q : Nat) : Int) != ((q : Nat) : Int)) = false := by simp
      have e1 : (!((markT (q + 1)).toList == (markT (q + 1)).toList)) = false := by simp
      go_wp2_with fail
      have g1 := gcell c1
      have hne := grw_ne wr
      refine wp_region_grow (by kernel_rfl) (by kernel_rfl) ?_
      repeat (go_big_quiet_step (first | (go_at_call 109; exact grow_of (laws_markTextZ (q + 1) (((q : Nat) : Int) + 1) (by omega) _ (by omega) (by omega)))))
      refine wpQuiet_nil ?_
      intro w2 hxx
      have hB2 := grw_out hxx
      clear hxx g1 hne e1
      replace c2 := bcell hB2 c2
      replace c3 := bcell hB2 c3
      replace hm := hm.below hB2
      have hC2 := chain hB hB2
      go_wp2_with fail
      rw [show ((q : Nat) : Int) + 1 + 1 + 1 = ((q + 3 : Nat) : Int) by omega]
      refine (laws_heldItemM x.a x.n x.c (q + 3) x.irs w2 hm (hil x hxm) hxn.1 hxn.2 (by omega) hq4).mono ?_
      rintro e w3 ⟨rfl, hB3⟩
      have hC3 := chain hC2 hB3
      obtain ⟨qq, hqq⟩ : ∃ qq : Int, ((kIt (q + 3) x.irs : Nat) : Int) = qq := ⟨_, rfl⟩
      have hqh : Hid (((kIt (q + 3) x.irs : Nat) : Int) = qq) := hqq
      have hq5 : 0 ≤ qq := by omega
      have hq6 : ¬ qq < 0 := by omega
      have hq7 : qq ≤ 40000000 := by omega
      rw [hqq]
      clear hqq
      go_wp2
      go_roundw
      case rel => exact ⟨i + 1, by omega, by go_num, by rw [← hqh.out, hq3.out], hC3⟩
      case measure => simp [intOf]; omega
    · obtain rfl : i = n := by omega
      have ht : vr.take i = vr := List.take_of_length_le (by omega)
      rw [ht, hkE.out]
      go_wp2
      go_returns
      exact ⟨rfl, hB⟩
end Go.Proofs.YtigldeccfpkdmaaGreatDoor
namespace Go.Proofs.YtigldeccfpkdmaaGreatDoor
open Go
theorem decNat_of {t : By} (h : t ≠ []) : Lib.decNat t = Lib.decFrom 0 t := by
  unfold Lib.decNat
  cases t with
  | nil => exact absurd rfl h
  | cons x l => rfl
theorem atoi_itoa (n : Int) : Lib.atoi (Lib.itoa n) = some n := by
  unfold Lib.itoa
  split
  · next hn =>
    obtain ⟨k, rfl⟩ : ∃ k : Nat, n = -(k : Int) := ⟨n.natAbs, by omega⟩
    rw [show (-(k : Int)).natAbs = k by omega]
    unfold Lib.atoi
    simp only [beq_self_eq_true, if_true]
    rw [decNat_of (dig_ne k), decFrom_dig]
    rfl
  · next hn =>
    obtain ⟨k, rfl⟩ : ∃ k : Nat, n = (k : Int) := ⟨n.toNat, by omega⟩
    rw [show (k : Int).toNat = k by omega]
    obtain ⟨d, r, e, hd⟩ := dig_head k
    have h2 := decNat_of (dig_ne k)
    rw [decFrom_dig, e] at h2
    rw [e]
    unfold Lib.atoi
    have h43 : (UInt8.ofNat (48 + d) == 43) = false := by
      rw [beq_eq_false_iff_ne]
      intro e
      have := congrArg UInt8.toNat e
      simp at this
      omega
    have h45 : (UInt8.ofNat (48 + d) == 45) = false := by
      rw [beq_eq_false_iff_ne]
      exact of_ne hd
    simp only [h43, h45]
    rw [h2]
    rfl
/-- Without a sign. -/
def trimN (s : By) : By := Lib.trimPrefix s [45]
theorem trimN_neg (t : By) : trimN (45 :: t) = t := by simp [trimN, Lib.trimPrefix, Lib.hasPrefix]
theorem trimN_pos {t : By} (h : t.head? ≠ some 45) : trimN t = t := by
  unfold trimN Lib.trimPrefix Lib.hasPrefix
  cases t with
  | nil => rfl
  | cons x l =>
    have : ¬ x = 45 := fun e => h (by simp [e])
    rw [if_neg]
    simp
    exact fun e => this e.symm
theorem trim_itoa (n : Int) : trimN (Lib.itoa n) = Lib.decDigits n.natAbs := by
  unfold Lib.itoa
  split
  · exact trimN_neg _
  · next hn =>
    obtain ⟨k, rfl⟩ : ∃ k : Nat, n = (k : Int) := ⟨n.toNat, by omega⟩
    rw [show (k : Int).toNat = k by omega, show (k : Int).natAbs = k by omega]
    obtain ⟨d, r, e, hd⟩ := dig_head k
    exact trimN_pos (by rw [e]; simp only [List.head?_cons, ne_eq, Option.some.injEq]; exact of_ne hd)
theorem ten_of {n : Int} (h : (trimN (Lib.itoa n)).length ≤ 10) : Ten n := by
  rw [trim_itoa] at h
  have h1 := decFrom_lt _ 0 _ (decFrom_dig n.natAbs)
  have h2 : 10 ^ (Lib.decDigits n.natAbs).length ≤ 10 ^ 10 := Nat.pow_le_pow_right (by omega) h
  have h3 : (10 : Nat) ^ 10 = 10000000000 := by decide
  unfold Ten
  omega
theorem ten_len {n : Int} (h : Ten n) : (trimN (Lib.itoa n)).length ≤ 10 := by
  rw [trim_itoa]
  obtain ⟨h1, h2⟩ := h
  exact dig_len 9 _ (by omega)
theorem numP_long {s : By} (h : 10 < (trimN s).length) : numP s = none := by
  cases hc : numP s with
  | none => rfl
  | some n =>
    obtain ⟨rfl, h2⟩ := numP_some hc
    have := ten_len h2
    omega
theorem numP_bad {s : By} (h : Lib.atoi s = none) : numP s = none := by
  cases hc : numP s with
  | none => rfl
  | some n =>
    obtain ⟨rfl, h2⟩ := numP_some hc
    rw [atoi_itoa] at h
    cases h
theorem numP_other {s : By} {n : Int} (h : Lib.atoi s = some n) (h2 : Lib.itoa n ≠ s) : numP s = none := by
  cases hc : numP s with
  | none => rfl
  | some m =>
    obtain ⟨rfl, _⟩ := numP_some hc
    rw [atoi_itoa] at h
    obtain rfl := Option.some.inj h
    exact absurd rfl h2
theorem numP_good {s : By} {n : Int} (h1 : (trimN s).length ≤ 10) (h2 : Lib.itoa n = s) : numP s = some n := by
  subst h2
  exact numP_itoa (ten_of h1)
theorem trim_len (s : By) : s.length ≤ (trimN s).length + 1 := by
  unfold trimN Lib.trimPrefix
  split
  · simp; omega
  · simp
theorem parse_short {s : By} (h : (trimN s).length ≤ 10) : Lib.parseIntB 64 s = Lib.NumEnd.ofOption (Lib.atoi s) := by
  have := trim_len s
  rw [Lib.parseIntB_64, Lib.atoiAll_short s (by omega)]
end Go.Proofs.YtigldeccfpkdmaaGreatDoor
namespace Go.Proofs.YtigldeccfpkdmaaGreatDoor
open Go.Shelf Go.RowKit Go.Lib
def piL_ren : Go.Shelf.Ren := ⟨fun | 174 => 134 | 247 => 193 | 245 => 194 | 287 => 226 | 279 => 227 | 280 => 228 | 281 => 229 | 282 => 230 | 321 => 253 | 322 => 254 | 316 => 255 | 171 => 257 | 205 => 256 | 243 => 277 | 246 => 190 | 283 => 218 | 284 => 219 | 285 => 220 | 286 => 221 | 129 => 247 | 317 => 246 | 318 => 248 | 319 => 249 | 320 => 250 | 337 => 275 | 338 => 276 | n => n, fun | 9 => 9 | 3 => 3 | 2 => 2 | 75 => 75 | 85 => 189 | 4 => 4 | 167 => 281 | 5 => 5 | 53 => 274 | 175 => 282 | 46 => 172 | 168 => 284 | 37 => 173 | 0 => 0 | 210 => 308 | 21 => 21 | 127 => 247 | 145 => 325 | 143 => 323 | 171 => 273 | 173 => 277 | 212 => 301 | 51 => 98 | 20 => 20 | 213 => 302 | 232 => 336 | 233 => 337 | 80 => 186 | n => n, fun | 15 => 3 | 16 => 4 | 17 => 2 | 18 => 7 | 19 => 8 | n => n⟩
set_option maxRecDepth 100000 in
theorem piL : LaysC.n174 Tryz.prog piL_ren where
  mixed := by kernel_rfl
  f129 := Tryz.func247.trans (congrArg some (by kernel_rfl))
  f171 := Tryz.func257.trans (congrArg some (by kernel_rfl))
  f174 := Tryz.func134.trans (congrArg some (by kernel_rfl))
  f205 := Tryz.func256.trans (congrArg some (by kernel_rfl))
  f243 := Tryz.func277.trans (congrArg some (by kernel_rfl))
  f245 := Tryz.func194.trans (congrArg some (by kernel_rfl))
  f246 := Tryz.func190.trans (congrArg some (by kernel_rfl))
  f247 := Tryz.func193.trans (congrArg some (by kernel_rfl))
  f279 := Tryz.func227.trans (congrArg some (by kernel_rfl))
  f280 := Tryz.func228.trans (congrArg some (by kernel_rfl))
  f281 := Tryz.func229.trans (congrArg some (by kernel_rfl))
  f282 := Tryz.func230.trans (congrArg some (by kernel_rfl))
  f283 := Tryz.func218.trans (congrArg some (by kernel_rfl))
  f284 := Tryz.func219.trans (congrArg some (by kernel_rfl))
  f285 := Tryz.func220.trans (congrArg some (by kernel_rfl))
  f286 := Tryz.func221.trans (congrArg some (by kernel_rfl))
  f287 := Tryz.func226.trans (congrArg some (by kernel_rfl))
  f316 := Tryz.func255.trans (congrArg some (by kernel_rfl))
  f317 := Tryz.func246.trans (congrArg some (by kernel_rfl))
  f318 := Tryz.func248.trans (congrArg some (by kernel_rfl))
  f319 := Tryz.func249.trans (congrArg some (by kernel_rfl))
  f320 := Tryz.func250.trans (congrArg some (by kernel_rfl))
  f321 := Tryz.func253.trans (congrArg some (by kernel_rfl))
  f322 := Tryz.func254.trans (congrArg some (by kernel_rfl))
  f337 := Tryz.func275.trans (congrArg some (by kernel_rfl))
  f338 := Tryz.func276.trans (congrArg some (by kernel_rfl))
  t0 := Tryz.underlying0
  a0 := Tryz.isAgg0
  z0 := Tryz.sizeOf0
  v0 := Tryz.zeroValue0
  t2 := Tryz.underlying2
  a2 := Tryz.isAgg2
  z2 := Tryz.sizeOf2
  v2 := Tryz.zeroValue2
  t3 := Tryz.underlying3
  a3 := Tryz.isAgg3
  z3 := Tryz.sizeOf3
  v3 := Tryz.zeroValue3
  t4 := Tryz.underlying4
  a4 := Tryz.isAgg4
  z4 := Tryz.sizeOf4
  v4 := Tryz.zeroValue4
  t5 := Tryz.underlying5
  a5 := Tryz.isAgg5
  z5 := Tryz.sizeOf5
  v5 := Tryz.zeroValue5
  t9 := Tryz.underlying9
  a9 := Tryz.isAgg9
  z9 := Tryz.sizeOf9
  v9 := Tryz.zeroValue9
  t20 := Tryz.underlying20
  a20 := Tryz.isAgg20
  z20 := Tryz.sizeOf20
  v20 := Tryz.zeroValue20
  t21 := Tryz.underlying21
  a21 := Tryz.isAgg21
  z21 := Tryz.sizeOf21
  v21 := Tryz.zeroValue21
  t37 := Tryz.underlying173
  a37 := Tryz.isAgg173
  z37 := Tryz.sizeOf173
  v37 := Tryz.zeroValue173
  t46 := Tryz.underlying172
  a46 := Tryz.isAgg172
  z46 := Tryz.sizeOf172
  v46 := Tryz.zeroValue172
  t51 := Tryz.underlying98
  a51 := Tryz.isAgg98
  z51 := Tryz.sizeOf98
  v51 := Tryz.zeroValue98
  t53 := Tryz.underlying274
  a53 := Tryz.isAgg274
  z53 := Tryz.sizeOf274
  v53 := Tryz.zeroValue274
  t75 := Tryz.underlying75
  a75 := Tryz.isAgg75
  z75 := Tryz.sizeOf75
  v75 := Tryz.zeroValue75
  t85 := Tryz.underlying189
  a85 := Tryz.isAgg189
  z85 := Tryz.sizeOf189
  v85 := Tryz.zeroValue189
  t127 := Tryz.underlying247
  a127 := Tryz.isAgg247
  z127 := Tryz.sizeOf247
  v127 := Tryz.zeroValue247
  t143 := Tryz.underlying323
  a143 := Tryz.isAgg323
  z143 := Tryz.sizeOf323
  v143 := Tryz.zeroValue323
  t145 := Tryz.underlying325
  a145 := Tryz.isAgg325
  z145 := Tryz.sizeOf325
  v145 := Tryz.zeroValue325
  t167 := Tryz.underlying281
  a167 := Tryz.isAgg281
  z167 := Tryz.sizeOf281
  v167 := Tryz.zeroValue281
  t168 := Tryz.underlying284
  a168 := Tryz.isAgg284
  z168 := Tryz.sizeOf284
  v168 := Tryz.zeroValue284
  t171 := Tryz.underlying273
  a171 := Tryz.isAgg273
  z171 := Tryz.sizeOf273
  v171 := Tryz.zeroValue273
  t173 := Tryz.underlying277
  a173 := Tryz.isAgg277
  z173 := Tryz.sizeOf277
  v173 := Tryz.zeroValue277
  t175 := Tryz.underlying282
  a175 := Tryz.isAgg282
  z175 := Tryz.sizeOf282
  v175 := Tryz.zeroValue282
  t210 := Tryz.underlying308
  a210 := Tryz.isAgg308
  z210 := Tryz.sizeOf308
  v210 := Tryz.zeroValue308
  t212 := Tryz.underlying301
  a212 := Tryz.isAgg301
  z212 := Tryz.sizeOf301
  v212 := Tryz.zeroValue301
  t213 := Tryz.underlying302
  a213 := Tryz.isAgg302
  z213 := Tryz.sizeOf302
  t232 := Tryz.underlying336
  a232 := Tryz.isAgg336
  z232 := Tryz.sizeOf336
  v232 := Tryz.zeroValue336
  t233 := Tryz.underlying337
  a233 := Tryz.isAgg337
  z233 := Tryz.sizeOf337
  v233 := Tryz.zeroValue337
  g15 := by kernel_rfl
  g16 := by kernel_rfl
  g17 := by kernel_rfl
  g18 := by kernel_rfl
  g19 := by kernel_rfl
  t80 := Tryz.underlying186
  a80 := Tryz.isAgg186
  z80 := Tryz.sizeOf186
  v80 := Tryz.zeroValue186
  i0 := by kernel_rfl
  i2 := by kernel_rfl
  i3 := by kernel_rfl
  i4 := by kernel_rfl
  i5 := by kernel_rfl
  i9 := by kernel_rfl
  i20 := by kernel_rfl
  i21 := by kernel_rfl
  i37 := by kernel_rfl
  i46 := by kernel_rfl
  i51 := by kernel_rfl
  i53 := by kernel_rfl
  i75 := by kernel_rfl
  i80 := by kernel_rfl
  i85 := by kernel_rfl
  i127 := by kernel_rfl
  i143 := by kernel_rfl
  i145 := by kernel_rfl
  i167 := by kernel_rfl
  i168 := by kernel_rfl
  i171 := by kernel_rfl
  i173 := by kernel_rfl
  i175 := by kernel_rfl
  i210 := by kernel_rfl
  i212 := by kernel_rfl
  i232 := by kernel_rfl
  i233 := by kernel_rfl
  m15 := by kernel_rfl
  m16 := by kernel_rfl
  m17 := by kernel_rfl
  m18 := by kernel_rfl
  m19 := by kernel_rfl
  c0 := by kernel_rfl
  c2 := by kernel_rfl
  c3 := by kernel_rfl
  c4 := by kernel_rfl
  c5 := by kernel_rfl
  c9 := by kernel_rfl
  c20 := by kernel_rfl
  c21 := by kernel_rfl
  c37 := by kernel_rfl
  c46 := by kernel_rfl
  c51 := by kernel_rfl
  c53 := by kernel_rfl
  c75 := by kernel_rfl
  c80 := by kernel_rfl
  c85 := by kernel_rfl
  c127 := by kernel_rfl
  c143 := by kernel_rfl
  c145 := by kernel_rfl
  c167 := by kernel_rfl
  c168 := by kernel_rfl
  c171 := by kernel_rfl
  c173 := by kernel_rfl
  c175 := by kernel_rfl
  c210 := by kernel_rfl
  c212 := by kernel_rfl
  c213 := by kernel_rfl
  c232 := by kernel_rfl
  c233 := by kernel_rfl
end Go.Proofs.YtigldeccfpkdmaaGreatDoor
namespace Go.Proofs.YtigldeccfpkdmaaGreatDoor
open Go.Shelf Go.RowKit Go.Lib
def tpL_ren : Go.Shelf.Ren := ⟨fun | 101 => 133 | 208 => 192 | 206 => 202 | n => n, fun | 9 => 9 | 4 => 4 | 3 => 3 | n => n, fun | n => n⟩
set_option maxRecDepth 100000 in
theorem tpL : Lays.n101 Tryz.prog tpL_ren where
  mixed := by kernel_rfl
  f101 := Tryz.func133.trans (congrArg some (by kernel_rfl))
  f206 := Tryz.func202.trans (congrArg some (by kernel_rfl))
  f208 := Tryz.func192.trans (congrArg some (by kernel_rfl))
  t3 := Tryz.underlying3
  a3 := Tryz.isAgg3
  z3 := Tryz.sizeOf3
  v3 := Tryz.zeroValue3
  t4 := Tryz.underlying4
  a4 := Tryz.isAgg4
  z4 := Tryz.sizeOf4
  v4 := Tryz.zeroValue4
  t9 := Tryz.underlying9
  a9 := Tryz.isAgg9
  z9 := Tryz.sizeOf9
  v9 := Tryz.zeroValue9
end Go.Proofs.YtigldeccfpkdmaaGreatDoor
