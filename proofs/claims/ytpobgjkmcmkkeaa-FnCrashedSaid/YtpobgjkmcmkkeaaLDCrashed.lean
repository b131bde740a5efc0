/- At every code: when power is lost on the disk that is drawn and all ops are kept, whole, the files are those that were seen; when none is, those that were synced; and nothing is left to be synced: no condition. -/
import Derived.Test.YtpobgjkmcmkkeaaRows
import Derived.Test.YtpobgjkmcmkkeaaG01
import Derived.Test.YtpobgjkmcmkkeaaG40
import Derived.Test.YtpobgjkmcmkkeaaG47
import Derived.Test.YtpobgjkmcmkkeaaG45
import Derived.Test.YtpobgjkmcmkkeaaG26
import Derived.Test.YtpobgjkmcmkkeaaG46
namespace Go.Proofs.Ytpobgjkmcmkkeaa
open Go.ChangeShapes Go.WideShapes Go.ChangeAt Go.RowKit Go.Deep Go.BigFrame

theorem at_ops {w : World} {la : Option Addr} {ln lc : Nat} {sa : Option Addr} {sn sc : Nat} {oa : Option Addr} {on oc : Nat} {d : Dk} (h : DiskAt w (.agg #[.slice la ln lc, .slice sa sn sc, .slice oa on oc]) d) (hd : DimD d) : on ≤ 4000000 ∧ d.ops.length = on := by
  obtain ⟨lax, lnx, lcx, sax, snx, scx, oax, onx, ocx, hex, HL, HS, HO⟩ := h
  obtain ⟨⟨rfl, rfl, rfl⟩, ⟨rfl, rfl, rfl⟩, rfl, rfl, rfl⟩ : (la = lax ∧ ln = lnx ∧ lc = lcx) ∧ (sa = sax ∧ sn = snx ∧ sc = scx) ∧ oa = oax ∧ on = onx ∧ oc = ocx := by simpa using hex
  exact ⟨by rw [← HO.sl.len]; exact hd.ops.1, HO.sl.len⟩

set_option maxHeartbeats 8000000 in
set_option maxRecDepth 100000 in
theorem walkDCrashed (a : Option Addr) (n cap : Nat) (w : World) (h : CodeAt w a n) (hm : n ≤ 9223372036854775807) :
    Calls Try.prog 3 #[.slice a n cap] w fun e w' => e = .returned (.bool true) ∧ Below w.heap.size w w' := by
  by_cases hn : n ≤ 1048576
  · have hb : decide (1048576 < n) = false := by simp; omega
    go_enter Try.func3, Try.ntmps3
    go_wp2_with fail
    refine (laws_bigC a n cap _ hm).mono ?_
    rintro e w1 ⟨rfl, rfl⟩
    rw [hb]
    go_wp2_with fail
    refine (spec_DrawDiskOk a n cap _ h hn).mono ?_
    rintro e w2 ⟨⟨v, d, rfl, DT, hd⟩, hB2⟩
    have hD := DT.at
    clear DT
    obtain ⟨la, ln, lc, sa, sn, sc, oa, on, oc, rfl⟩ := hD.l.cells
    have hA : Below w2.heap.size w2 (w2.alloc (.cells #[.slice la ln lc, .slice sa sn sc, .slice oa on oc] 27)) := (Below.refl _ _).alloc (Nat.le_refl _) _
    have P := Blk.new w2 #[.slice la ln lc, .slice sa sn sc, .slice oa on oc] 27
    go_wp2_with fail
    have hC := chain hB2 hA
    replace hD := hD.below hA
    obtain ⟨pb, hpb⟩ : ∃ pb, pb = w2.heap.size := ⟨_, rfl⟩
    generalize w2.alloc (.cells #[.slice la ln lc, .slice sa sn sc, .slice oa on oc] 27) = w3 at *
    rw [← hpb] at P ⊢
    clear hA hB2 hpb
    have g0 := gcell P.three.1
    have g1 := gcell P.three.2.1
    have g2 := gcell P.three.2.2
    have hbb : (diskB d != diskB d) = false := by simp
    have hne := grw_ne w3
    refine wp_region_grow (by kernel_rfl) (by kernel_rfl) ?_
    repeat (go_big_quiet_step (first | (go_at_call 14; exact grow_of (impl_DiskOk _ d _ (hD.below (Grw.h _)) hd)) | (go_at_call 15; exact grow_of (spec_DiskOk _ d _ (hD.below (Grw.h _)) hd))))
    refine wpQuiet_nil ?_
    intro w4 hx4
    have hB4 := grw_out hx4
    replace P := P.below hB4
    replace hD := hD.below hB4
    replace hC := chain hC hB4
    clear hx4 hB4 g0 g1 g2
    obtain ⟨p0, p1, p2⟩ := P.three
    have hD4 := hD
    have hC4 := hC
    have hA : Below w4.heap.size w4 (w4.alloc (.cells #[] 2)) := (Below.refl _ _).alloc (Nat.le_refl _) _
    have R5 : ResAt (fun x : Int => [Value.int .i64 x]) 1 2 (w4.alloc (.cells #[] 2)) w4.heap.size (some ⟨w4.heap.size, 0, none⟩) 0 0 ([] : List Int) := res_empty (Blk.new w4 #[] 2) (Nat.le_refl _)
    go_wp2_with fail
    have b3 : on ≤ 4000000 ∧ d.ops.length = on := at_ops hD hd
    replace P := P.below hA
    replace hD := hD.below hA
    replace hC := chain hC hA
    have hA5 := hA
    generalize w4.alloc (.cells #[] 2) = w5 at *
    have hz5 := hA.size
    clear hA p0 p1 p2
    go_loopw [4, 5] (fun acc ix wr => ∃ (k : Nat) (a4 : Option Addr) (c4 : Nat), k ≤ on ∧ ix = .int .i64 k ∧ acc = .slice a4 k c4 ∧ ResAt (fun x : Int => [Value.int .i64 x]) 1 2 wr w4.heap.size a4 k c4 (fromK 0 k) ∧ Blk wr pb #[.slice la ln lc, .slice sa sn sc, .slice oa on oc] 27 ∧ DiskAt wr (.agg #[.slice la ln lc, .slice sa sn sc, .slice oa on oc]) d ∧ Below w1.heap.size w1 wr ∧ Below w4.heap.size w4 wr) (fun _ ix _ => on - (intOf ix).toNat)
    case atStart => exact ⟨0, _, 0, Nat.zero_le _, rfl, rfl, R5, P, hD, hC, hA5⟩
    case round =>
      clear P hD hC R5 hA5
      obtain ⟨k, a4, c4, hk, rfl, rfl, R, P, hD, hC, hW⟩ := hrel
      obtain ⟨p0, p1, p2⟩ := P.three
      by_cases hlt : k < on
      · have hk1 : (k : Int) < on := by omega
        have hA : Below wr.heap.size wr (wr.alloc (.cells #[.int .i64 (k : Int)] 2)) := (Below.refl _ _).alloc (Nat.le_refl _) _
        go_wp2_with (at_builtin; refine wpList_app rfl (fun K hK => wp_appI _ _ rfl w4.heap.size a4 k c4 (fromK 0 k) rfl (R.below hA) wr.heap.size (k : Int) rfl (Blk.new wr _ _) (by omega) (by have := hW.size; have := hA.size; omega) (fun a6 c6 w6 R6 hg6 => hK _ _ ?_)); refine Held.out ?_)
        refine Held.mk ?_
        have hty := (R.below hA).rowTy (m := k) (k := c4)
        have P6 := (P.below hA).ty hg6 hty (by decide)
        have hW6 : Below w4.heap.size w4 w6 := (chain hW hA).grown hg6 (chain hW hA).size (own_ge fun ad e => (R.block ad e).1)
        have hD6 := hD4.below hW6
        have hC6 := chain hC4 hW6
        rw [show fromK 0 k ++ [(k : Int)] = fromK 0 (k + 1) by rw [fromK_snoc, Nat.zero_add]] at R6
        clear p0 p1 p2 hK
        go_wp2
        go_roundw
        case rel => exact ⟨k + 1, a6, c6, by omega, by go_num, rfl, R6, P6, hD6, hC6, hW6⟩
        case measure => simp [intOf]; omega
      · obtain rfl : k = on := by omega
        have hk1 : ¬ (k : Int) < k := by omega
        have hlen := b3.2
        have hb3 := b3.1
        have hIn := R.sl
        clear R b3
        cases hdb : diskB d
        · have e1 : crashD d (fromK 0 k) 1099511627776 = (noD, false) := by exact crash_bad hdb
          have e2 : crashD d [] 0 = (noD, false) := by exact crash_bad hdb
          clear hlen
          go_wp2_with fail
          refine (impl_Crash _ d a4 k c4 (fromK 0 k) 1099511627776 wr hD hd hIn (by omega)).mono ?_
          rintro e w6 ⟨⟨v6, rfl, S6⟩, hB⟩
          rw [e1] at S6 ⊢
          replace S6 := S6.r
          obtain ⟨la6, ln6, lc6, sa6, sn6, sc6, oa6, on6, oc6, rfl⟩ := S6.at.l.cells
          replace P := P.below hB
          replace hD := hD.below hB
          replace hC := chain hC hB
          clear hB
          have hA : Below w6.heap.size w6 (w6.alloc (.cells #[.slice la6 ln6 lc6, .slice sa6 sn6 sc6, .slice oa6 on6 oc6] 27)) := (Below.refl _ _).alloc (Nat.le_refl _) _
          have E6 := Blk.new w6 #[.slice la6 ln6 lc6, .slice sa6 sn6 sc6, .slice oa6 on6 oc6] 27
          clear p0 p1 p2
          have p0 := fun ob => acell (w := w6) ob P.three.1
          have p1 := fun ob => acell (w := w6) ob P.three.2.1
          have p2 := fun ob => acell (w := w6) ob P.three.2.2
          dsimp only
          go_wp2_with fail
          clear p0 p1 p2
          replace P := P.below hA
          replace hD := hD.below hA
          replace hC := chain hC hA
          replace S6 := S6.below hA
          obtain ⟨eb6, heb6⟩ : ∃ b, b = w6.heap.size := ⟨_, rfl⟩
          rw [← heb6] at E6
          generalize w6.alloc (.cells #[.slice la6 ln6 lc6, .slice sa6 sn6 sc6, .slice oa6 on6 oc6] 27) = w7 at *
          rw [← heb6]
          clear hA heb6
          refine (impl_Crash _ d none 0 0 [] 0 w7 hD hd (res_nil (cs := (fun x : Int => [Value.int .i64 x])) (sz := 1) (t := 2) (B := 0)).sl (by omega)).mono ?_
          rintro e w8 ⟨⟨v8, rfl, S8⟩, hB⟩
          rw [e2] at S8 ⊢
          replace S8 := S8.r
          obtain ⟨la8, ln8, lc8, sa8, sn8, sc8, oa8, on8, oc8, rfl⟩ := S8.at.l.cells
          replace P := P.below hB
          replace hD := hD.below hB
          replace E6 := E6.below hB
          replace hC := chain hC hB
          replace S6 := S6.below hB
          clear hB
          have hA : Below w8.heap.size w8 (w8.alloc (.cells #[.slice la8 ln8 lc8, .slice sa8 sn8 sc8, .slice oa8 on8 oc8] 27)) := (Below.refl _ _).alloc (Nat.le_refl _) _
          have E8 := Blk.new w8 #[.slice la8 ln8 lc8, .slice sa8 sn8 sc8, .slice oa8 on8 oc8] 27
          have p0 := fun ob => acell (w := w8) ob P.three.1
          have p1 := fun ob => acell (w := w8) ob P.three.2.1
          have p2 := fun ob => acell (w := w8) ob P.three.2.2
          dsimp only
          go_wp2_with fail
          clear p0 p1 p2
          replace P := P.below hA
          replace hD := hD.below hA
          replace E6 := E6.below hA
          replace hC := chain hC hA
          replace S6 := S6.below hA
          replace S8 := S8.below hA
          obtain ⟨eb8, heb8⟩ : ∃ b, b = w8.heap.size := ⟨_, rfl⟩
          rw [← heb8] at E8
          generalize w8.alloc (.cells #[.slice la8 ln8 lc8, .slice sa8 sn8 sc8, .slice oa8 on8 oc8] 27) = w9 at *
          rw [← heb8]
          clear hA heb8
          refine (impl_DiskOk _ d w9 hD hd).mono ?_
          rintro e w10 ⟨rfl, hB⟩
          rw [hdb]
          replace P := P.below hB
          replace hD := hD.below hB
          replace E6 := E6.below hB
          replace E8 := E8.below hB
          replace hC := chain hC hB
          replace S6 := S6.below hB
          replace S8 := S8.below hB
          clear hB
          obtain ⟨p0, p1, p2⟩ := P.three
          obtain ⟨e60, e61, e62⟩ := E6.three
          obtain ⟨e80, e81, e82⟩ := E8.three
          obtain ⟨la6x, ln6x, lc6x, sa6x, sn6x, sc6x, oa6x, on6x, oc6x, he, RL6, RS6, RO6⟩ := S6
          obtain ⟨⟨rfl, rfl, rfl⟩, ⟨rfl, rfl, rfl⟩, rfl, rfl, rfl⟩ : (la6 = la6x ∧ ln6 = ln6x ∧ lc6 = lc6x) ∧ (sa6 = sa6x ∧ sn6 = sn6x ∧ sc6 = sc6x) ∧ oa6 = oa6x ∧ on6 = on6x ∧ oc6 = oc6x := by simpa using he
          clear he
          have l6 : ln6 = 0 := by rw [← RL6.sl.len]; rfl
          subst l6
          go_wp2
          go_returns
          exact ⟨rfl, hC⟩
        · have e1 : crashD d (fromK 0 k) 1099511627776 = (⟨d.live, d.live, []⟩, true) := by rw [← hlen]; exact crash_all hdb (by omega)
          have e2 : crashD d [] 0 = (⟨d.safe, d.safe, []⟩, true) := by exact crash_none hdb
          clear hlen
          go_wp2_with fail
          refine (impl_Crash _ d a4 k c4 (fromK 0 k) 1099511627776 wr hD hd hIn (by omega)).mono ?_
          rintro e w6 ⟨⟨v6, rfl, S6⟩, hB⟩
          rw [e1] at S6 ⊢
          replace S6 := S6.r
          obtain ⟨la6, ln6, lc6, sa6, sn6, sc6, oa6, on6, oc6, rfl⟩ := S6.at.l.cells
          replace P := P.below hB
          replace hD := hD.below hB
          replace hC := chain hC hB
          clear hB
          have hA : Below w6.heap.size w6 (w6.alloc (.cells #[.slice la6 ln6 lc6, .slice sa6 sn6 sc6, .slice oa6 on6 oc6] 27)) := (Below.refl _ _).alloc (Nat.le_refl _) _
          have E6 := Blk.new w6 #[.slice la6 ln6 lc6, .slice sa6 sn6 sc6, .slice oa6 on6 oc6] 27
          clear p0 p1 p2
          have p0 := fun ob => acell (w := w6) ob P.three.1
          have p1 := fun ob => acell (w := w6) ob P.three.2.1
          have p2 := fun ob => acell (w := w6) ob P.three.2.2
          dsimp only
          go_wp2_with fail
          clear p0 p1 p2
          replace P := P.below hA
          replace hD := hD.below hA
          replace hC := chain hC hA
          replace S6 := S6.below hA
          obtain ⟨eb6, heb6⟩ : ∃ b, b = w6.heap.size := ⟨_, rfl⟩
          rw [← heb6] at E6
          generalize w6.alloc (.cells #[.slice la6 ln6 lc6, .slice sa6 sn6 sc6, .slice oa6 on6 oc6] 27) = w7 at *
          rw [← heb6]
          clear hA heb6
          refine (impl_Crash _ d none 0 0 [] 0 w7 hD hd (res_nil (cs := (fun x : Int => [Value.int .i64 x])) (sz := 1) (t := 2) (B := 0)).sl (by omega)).mono ?_
          rintro e w8 ⟨⟨v8, rfl, S8⟩, hB⟩
          rw [e2] at S8 ⊢
          replace S8 := S8.r
          obtain ⟨la8, ln8, lc8, sa8, sn8, sc8, oa8, on8, oc8, rfl⟩ := S8.at.l.cells
          replace P := P.below hB
          replace hD := hD.below hB
          replace E6 := E6.below hB
          replace hC := chain hC hB
          replace S6 := S6.below hB
          clear hB
          have hA : Below w8.heap.size w8 (w8.alloc (.cells #[.slice la8 ln8 lc8, .slice sa8 sn8 sc8, .slice oa8 on8 oc8] 27)) := (Below.refl _ _).alloc (Nat.le_refl _) _
          have E8 := Blk.new w8 #[.slice la8 ln8 lc8, .slice sa8 sn8 sc8, .slice oa8 on8 oc8] 27
          have p0 := fun ob => acell (w := w8) ob P.three.1
          have p1 := fun ob => acell (w := w8) ob P.three.2.1
          have p2 := fun ob => acell (w := w8) ob P.three.2.2
          dsimp only
          go_wp2_with fail
          clear p0 p1 p2
          replace P := P.below hA
          replace hD := hD.below hA
          replace E6 := E6.below hA
          replace hC := chain hC hA
          replace S6 := S6.below hA
          replace S8 := S8.below hA
          obtain ⟨eb8, heb8⟩ : ∃ b, b = w8.heap.size := ⟨_, rfl⟩
          rw [← heb8] at E8
          generalize w8.alloc (.cells #[.slice la8 ln8 lc8, .slice sa8 sn8 sc8, .slice oa8 on8 oc8] 27) = w9 at *
          rw [← heb8]
          clear hA heb8
          refine (impl_DiskOk _ d w9 hD hd).mono ?_
          rintro e w10 ⟨rfl, hB⟩
          rw [hdb]
          replace P := P.below hB
          replace hD := hD.below hB
          replace E6 := E6.below hB
          replace E8 := E8.below hB
          replace hC := chain hC hB
          replace S6 := S6.below hB
          replace S8 := S8.below hB
          clear hB
          obtain ⟨p0, p1, p2⟩ := P.three
          obtain ⟨e60, e61, e62⟩ := E6.three
          obtain ⟨e80, e81, e82⟩ := E8.three
          go_wp2_with fail
          clear e60 e61 e62 e80 e81 e82
          refine (impl_Sync _ d w10 hD hd).mono ?_
          rintro e w11 ⟨⟨v11, rfl, S11⟩, hB⟩
          rw [syncD_yes hdb] at S11
          replace S11 := S11.r
          obtain ⟨la11, ln11, lc11, sa11, sn11, sc11, oa11, on11, oc11, rfl⟩ := S11.at.l.cells
          replace P := P.below hB
          replace hD := hD.below hB
          replace E6 := E6.below hB
          replace E8 := E8.below hB
          replace hC := chain hC hB
          replace S6 := S6.below hB
          replace S8 := S8.below hB
          clear hB p0 p1 p2
          have hA : Below w11.heap.size w11 (w11.alloc (.cells #[.slice la11 ln11 lc11, .slice sa11 sn11 sc11, .slice oa11 on11 oc11] 27)) := (Below.refl _ _).alloc (Nat.le_refl _) _
          have E11 := Blk.new w11 #[.slice la11 ln11 lc11, .slice sa11 sn11 sc11, .slice oa11 on11 oc11] 27
          replace P := P.below hA
          replace hD := hD.below hA
          replace E6 := E6.below hA
          replace E8 := E8.below hA
          replace S6 := S6.below hA
          replace S8 := S8.below hA
          replace S11 := S11.below hA
          replace hC := chain hC hA
          have p0 := P.three.1
          have p1 := P.three.2.1
          have e60 := E6.three.1
          have e61 := E6.three.2.1
          have e62 := E6.three.2.2
          have e80 := E8.three.1
          have e82 := E8.three.2.2
          have e111 := E11.three.2.1
          have e112 := E11.three.2.2
          obtain ⟨la6x, ln6x, lc6x, sa6x, sn6x, sc6x, oa6x, on6x, oc6x, he, RL6, RS6, RO6⟩ := S6
          obtain ⟨⟨rfl, rfl, rfl⟩, ⟨rfl, rfl, rfl⟩, rfl, rfl, rfl⟩ : (la6 = la6x ∧ ln6 = ln6x ∧ lc6 = lc6x) ∧ (sa6 = sa6x ∧ sn6 = sn6x ∧ sc6 = sc6x) ∧ oa6 = oa6x ∧ on6 = on6x ∧ oc6 = oc6x := by simpa using he
          clear he
          obtain ⟨la8x, ln8x, lc8x, sa8x, sn8x, sc8x, oa8x, on8x, oc8x, he, RL8, RS8, RO8⟩ := S8
          obtain ⟨⟨rfl, rfl, rfl⟩, ⟨rfl, rfl, rfl⟩, rfl, rfl, rfl⟩ : (la8 = la8x ∧ ln8 = ln8x ∧ lc8 = lc8x) ∧ (sa8 = sa8x ∧ sn8 = sn8x ∧ sc8 = sc8x) ∧ oa8 = oa8x ∧ on8 = on8x ∧ oc8 = oc8x := by simpa using he
          clear he
          obtain ⟨la11x, ln11x, lc11x, sa11x, sn11x, sc11x, oa11x, on11x, oc11x, he, RL11, RS11, RO11⟩ := S11
          obtain ⟨⟨rfl, rfl, rfl⟩, ⟨rfl, rfl, rfl⟩, rfl, rfl, rfl⟩ : (la11 = la11x ∧ ln11 = ln11x ∧ lc11 = lc11x) ∧ (sa11 = sa11x ∧ sn11 = sn11x ∧ sc11 = sc11x) ∧ oa11 = oa11x ∧ on11 = on11x ∧ oc11 = oc11x := by simpa using he
          clear he
          obtain ⟨lax, lnx, lcx, sax, snx, scx, oax, onx, ocx, hex, HL, HS, HO⟩ := hD
          obtain ⟨⟨rfl, rfl, rfl⟩, ⟨rfl, rfl, rfl⟩, rfl, rfl, rfl⟩ : (la = lax ∧ ln = lnx ∧ lc = lcx) ∧ (sa = sax ∧ sn = snx ∧ sc = scx) ∧ oa = oax ∧ k = onx ∧ oc = ocx := by simpa using hex
          clear hex
          have z6 : on6 = 0 := by rw [← RO6.sl.len]; rfl
          have z8 : on8 = 0 := by rw [← RO8.sl.len]; rfl
          have z11 : on11 = 0 := by rw [← RO11.sl.len]; rfl
          subst z6
          subst z8
          subst z11
          have bl : ln ≤ 4000000 := by rw [← HL.sl.len]; exact hd.live.1
          have bs : sn ≤ 4000000 := by rw [← HS.sl.len]; exact hd.safe.1
          have b6 : ln6 ≤ 4000000 := by rw [← RL6.sl.len]; exact hd.live.1
          have b7 : sn6 ≤ 4000000 := by rw [← RS6.sl.len]; exact hd.live.1
          have b8 : ln8 ≤ 4000000 := by rw [← RL8.sl.len]; exact hd.safe.1
          have b11 : sn11 ≤ 4000000 := by rw [← RS11.sl.len]; exact hd.live.1
          obtain ⟨eb11, heb11⟩ : ∃ b, b = w11.heap.size := ⟨_, rfl⟩
          rw [← heb11] at E11 e111 e112
          go_wp2_with fail
          generalize w11.alloc (.cells #[.slice la11 ln11 lc11, .slice sa11 sn11 sc11, .slice oa11 0 oc11] 27) = w12 at *
          rw [← heb11]
          clear hA heb11
          refine (laws_sameFiles la6 ln6 lc6 d.live la ln lc d.live w12 RL6.sl HL.sl (by omega) (by omega)).mono ?_
          rintro e w13 ⟨rfl, hB⟩
          rw [eqFls_refl]
          replace P := P.below hB
          replace E6 := E6.below hB
          replace E8 := E8.below hB
          replace E11 := E11.below hB
          replace hC := chain hC hB
          replace RS6 := RS6.below hB
          replace RL8 := RL8.below hB
          replace RS11 := RS11.below hB
          replace HL := HL.below hB
          replace HS := HS.below hB
          clear hB p0 p1 e60 e61 e62 e80 e82 e111 e112
          have p0 := P.three.1
          have p1 := P.three.2.1
          have e60 := E6.three.1
          have e61 := E6.three.2.1
          have e62 := E6.three.2.2
          have e80 := E8.three.1
          have e82 := E8.three.2.2
          have e111 := E11.three.2.1
          have e112 := E11.three.2.2
          go_wp2_with fail
          refine (laws_sameFiles sa6 sn6 sc6 d.live la ln lc d.live w13 RS6.sl HL.sl (by omega) (by omega)).mono ?_
          rintro e w14 ⟨rfl, hB⟩
          rw [eqFls_refl]
          replace P := P.below hB
          replace E6 := E6.below hB
          replace E8 := E8.below hB
          replace E11 := E11.below hB
          replace hC := chain hC hB
          replace RS6 := RS6.below hB
          replace RL8 := RL8.below hB
          replace RS11 := RS11.below hB
          replace HL := HL.below hB
          replace HS := HS.below hB
          clear hB p0 p1 e60 e61 e62 e80 e82 e111 e112
          have p0 := P.three.1
          have p1 := P.three.2.1
          have e60 := E6.three.1
          have e61 := E6.three.2.1
          have e62 := E6.three.2.2
          have e80 := E8.three.1
          have e82 := E8.three.2.2
          have e111 := E11.three.2.1
          have e112 := E11.three.2.2
          go_wp2_with fail
          refine (laws_sameFiles la8 ln8 lc8 d.safe sa sn sc d.safe w14 RL8.sl HS.sl (by omega) (by omega)).mono ?_
          rintro e w15 ⟨rfl, hB⟩
          rw [eqFls_refl]
          replace P := P.below hB
          replace E6 := E6.below hB
          replace E8 := E8.below hB
          replace E11 := E11.below hB
          replace hC := chain hC hB
          replace RS6 := RS6.below hB
          replace RL8 := RL8.below hB
          replace RS11 := RS11.below hB
          replace HL := HL.below hB
          replace HS := HS.below hB
          clear hB p0 p1 e60 e61 e62 e80 e82 e111 e112
          have p0 := P.three.1
          have p1 := P.three.2.1
          have e60 := E6.three.1
          have e61 := E6.three.2.1
          have e62 := E6.three.2.2
          have e80 := E8.three.1
          have e82 := E8.three.2.2
          have e111 := E11.three.2.1
          have e112 := E11.three.2.2
          go_wp2_with fail
          refine (laws_sameFiles sa11 sn11 sc11 d.live la ln lc d.live w15 RS11.sl HL.sl (by omega) (by omega)).mono ?_
          rintro e w16 ⟨rfl, hB⟩
          rw [eqFls_refl]
          replace P := P.below hB
          replace E6 := E6.below hB
          replace E8 := E8.below hB
          replace E11 := E11.below hB
          replace hC := chain hC hB
          replace RS6 := RS6.below hB
          replace RL8 := RL8.below hB
          replace RS11 := RS11.below hB
          replace HL := HL.below hB
          replace HS := HS.below hB
          clear hB p0 p1 e60 e61 e62 e80 e82 e111 e112
          have p0 := P.three.1
          have p1 := P.three.2.1
          have e60 := E6.three.1
          have e61 := E6.three.2.1
          have e62 := E6.three.2.2
          have e80 := E8.three.1
          have e82 := E8.three.2.2
          have e111 := E11.three.2.1
          have e112 := E11.three.2.2
          go_wp2
          go_returns
          exact ⟨rfl, hC⟩
  · have hb : decide (1048576 < n) = true := by simp; omega
    go_enter Try.func3, Try.ntmps3
    go_wp2_with fail
    refine (laws_bigC a n cap _ hm).mono ?_
    rintro e w1 ⟨rfl, rfl⟩
    rw [hb]
    go_wp2
    go_returns
    exact ⟨rfl, Below.refl _ _⟩

set_option maxRecDepth 100000 in
theorem liftedDCrashed (os : Os) (started : os.Started) (H : Type) (enc : TypeId × Value → H) :
    ReturnsInHanded {} Try.checked os 3 .any (Rows.fnCrashedSpec.pre6 enc Try.prog Try.f3 Rows.fnCrashedRow.domain false) (Rows.fnCrashedSpec.post enc Try.prog Try.f3 false true false false) := by
  refine returnsInHanded_of_change (C := Try.checked) own started (by kernel_rfl) Try.func3
    (ChangeSpec.witness6 (enc := enc) (C := Try.checked) false ⟨#[], #[.slice none 0 0], []⟩ 8 (by kernel_rfl) (by kernel_rfl) (by kernel_rfl) (by kernel_rfl)) ?_
  intro W base args ds gs before hval0 hW _ _
  have hval : ∀ (j : Nat) t v, Try.f3.params[j]? = some t → args[j]? = some v → Value.okWide Try.prog W .any base t v := hval0
  have hW' := hW
  obtain ⟨p, q, hA0, hV, rfl, _, _⟩ := hW
  have hA : DataW.TrodAll enc Try.prog W 0 (fun _ => true) true Try.f3.params.toList args.toList ds p := hA0
  rw [Try.params3] at hA hval
  obtain ⟨v0, vs0, d0, ds0, p0, q0, hargs, rfl, rfl, h0, r0⟩ := trodAll_cons hA
  obtain ⟨rfl, rfl, rfl⟩ := trodAll_nil r0
  obtain rfl : args = #[v0] := by cases args; simp_all
  obtain ⟨rfl, rfl⟩ := trodVars_none hV
  clear hA0 hval0
  simp only [List.append_nil] at hW'
  have hlt : ∀ x ∈ p0, x.block < W.heap.size := fun x hx => by simpa using hW'.lt x hx
  obtain ⟨a0, len, cap, rfl⟩ := okWide_slice Try.underlying22 (hval 0 22 v0 rfl rfl)
  obtain ⟨hmx, hl⟩ := open_code h0
  unfold maxLen at hmx
  refine (walkDCrashed a0 len cap W hl (by omega)).mono fun e W' ⟨he, hB⟩ => ?_
  subst he
  have hargs : DataW.Trod enc Try.prog W' 0 (fun b => decide (b < W.heap.size)) true 22 (.slice a0 len cap) d0 p0 :=
    Below.trod laidOut (by kernel_rfl) (of_decide_eq_true (by kernel_rfl)) h0 hB hlt
  exact ⟨_, rfl, ⟨_, _, _, [], _, [], hW', trodAll_mk1 (shut_bool Try.underlying4 _), trodAll_mk1 hargs, rfl, hB.frame _, fun h => by cases h⟩⟩

theorem holdsDCrashed : Rows.FnCrashedSaid :=
  OpenClaim.holds_of_wide 3 Try.f3 rfl rfl rfl rfl rfl rfl rfl ⟨rfl, rfl, rfl, rfl, rfl⟩ rfl rfl rfl rfl rfl (by kernel_rfl) Try.func3 (joined_of (by kernel_rfl) (by kernel_rfl) (by kernel_rfl) (by kernel_rfl) rfl rfl rfl (by kernel_rfl))
    (of_decide_eq_true (by kernel_rfl)) (by unfold Func.isWrapper; first | (rw [if_pos (by decide +kernel)]; kernel_rfl) | (rw [if_neg (by decide +kernel)]; exact ⟨rfl, rfl⟩))
    (fun os started H enc _ => liftedDCrashed os started H enc)
end Go.Proofs.Ytpobgjkmcmkkeaa
