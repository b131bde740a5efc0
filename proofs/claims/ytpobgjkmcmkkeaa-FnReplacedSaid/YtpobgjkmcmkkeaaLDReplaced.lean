/- At every code: a file of the disk that is drawn, replaced, is behind any loss of power the old one or the new one: no condition. -/
import Derived.Test.YtpobgjkmcmkkeaaRows
import Derived.Test.YtpobgjkmcmkkeaaG01
import Derived.Test.YtpobgjkmcmkkeaaG40
import Derived.Test.YtpobgjkmcmkkeaaG47
import Derived.Test.YtpobgjkmcmkkeaaG45
import Derived.Test.YtpobgjkmcmkkeaaG25
import Derived.Test.YtpobgjkmcmkkeaaG24
import Derived.Test.YtpobgjkmcmkkeaaG26
namespace Go.Proofs.Ytpobgjkmcmkkeaa
open Go.ChangeShapes Go.WideShapes Go.ChangeAt Go.RowKit Go.Deep Go.BigFrame

theorem at_ops {w : World} {la : Option Addr} {ln lc : Nat} {sa : Option Addr} {sn sc : Nat} {oa : Option Addr} {on oc : Nat} {d : Dk} (h : DiskAt w (.agg #[.slice la ln lc, .slice sa sn sc, .slice oa on oc]) d) (hd : DimD d) : on ≤ 4000000 ∧ d.ops.length = on := by
  obtain ⟨lax, lnx, lcx, sax, snx, scx, oax, onx, ocx, hex, HL, HS, HO⟩ := h
  obtain ⟨⟨rfl, rfl, rfl⟩, ⟨rfl, rfl, rfl⟩, rfl, rfl, rfl⟩ : (la = lax ∧ ln = lnx ∧ lc = lcx) ∧ (sa = sax ∧ sn = snx ∧ sc = scx) ∧ oa = oax ∧ on = onx ∧ oc = ocx := by simpa using hex
  exact ⟨by rw [← HO.sl.len]; exact hd.ops.1, HO.sl.len⟩
theorem rep_db {d d6 : Dk} {nm data : ByteArray} (h : repD d nm data = (d6, 0)) : diskB d = true := by
  unfold repD at h
  split at h
  · assumption
  · cases congrArg Prod.snd h
theorem files_bnd {l : List Fl} (h : filesB l = true) : l.length ≤ 60 ∧ BndF l := by
  obtain ⟨h1, h2, h3⟩ := filesB_all h
  refine ⟨h1, fun x hx => ?_⟩
  have q1 := fgo_names h3 x hx
  have q2 := sumB_mem hx
  simp only [nmB, Bool.and_eq_true, decide_eq_true_eq] at q1
  omega
theorem dim_right {d : Dk} (h : diskB d = true) (ho : ∀ o ∈ d.ops, StrD o ∧ o.d.size ≤ 10000000) : DimD d := by
  obtain ⟨h1, h2, h3⟩ := diskB_all h
  have q1 := files_bnd h1
  have q2 := files_bnd h2
  exact ⟨⟨by omega, q1.2⟩, ⟨by omega, q2.2⟩, by omega, ho⟩
theorem rep_dim {d d6 : Dk} {nm data : ByteArray} {L : List Fl} (h1 : nm.size ≤ 1048576) (h2 : data.size ≤ 1048576) (_ : DimD d) (_ : repD d nm data = (d6, 0)) (h6 : (d6, (0 : Int)) = (⟨L, d.safe, [⟨1, freshB nm, ⟨#[]⟩, data⟩, ⟨2, freshB nm, nm, ⟨#[]⟩⟩]⟩, 0)) (hr : diskB d6 = true) : DimD d6 := by
  refine dim_right hr (fun o ho => rep_ops (there := false) h1 h2 o ?_)
  rw [(Prod.mk.inj h6).1] at ho
  exact ho

/-- The places that are kept of two ops, as far as they were gone through. -/
def KeepK (k : Nat) (keep : List Int) : Prop := (k = 0 ∧ keep = []) ∨ (k = 1 ∧ (keep = [] ∨ keep = [0])) ∨ (k = 2 ∧ (keep = [] ∨ keep = [0] ∨ keep = [1] ∨ keep = [0, 1]))
theorem KeepK.skip {k : Nat} {keep : List Int} (h : KeepK k keep) (hk : k < 2) : KeepK (k + 1) keep := by
  rcases h with ⟨rfl, rfl⟩ | ⟨rfl, rfl | rfl⟩ | ⟨rfl, _⟩
  · exact .inr (.inl ⟨rfl, .inl rfl⟩)
  · exact .inr (.inr ⟨rfl, .inl rfl⟩)
  · exact .inr (.inr ⟨rfl, .inr (.inl rfl)⟩)
  · omega
theorem KeepK.take {k : Nat} {keep : List Int} (h : KeepK k keep) (hk : k < 2) : KeepK (k + 1) (keep ++ [(k : Int)]) := by
  rcases h with ⟨rfl, rfl⟩ | ⟨rfl, rfl | rfl⟩ | ⟨rfl, _⟩
  · exact .inr (.inl ⟨rfl, .inr rfl⟩)
  · exact .inr (.inr ⟨rfl, .inr (.inr (.inl rfl))⟩)
  · exact .inr (.inr ⟨rfl, .inr (.inr (.inr rfl))⟩)
  · omega
theorem crash_dim {d : Dk} {keep : List Int} {t : Int} : DimD (crashD d keep t).1 := by
  cases h : (diskB d && plcB d.ops.length 0 keep && decide (0 ≤ t))
  · rw [crash_no h]; exact dim_no
  · cases h2 : filesB (crL d keep t)
    · rw [crash_full h h2]; exact dim_no
    · rw [crash_ok h h2]
      have := files_bnd h2
      exact ⟨⟨by show (crL d keep t).length ≤ _; omega, this.2⟩, ⟨by show (crL d keep t).length ≤ _; omega, this.2⟩, Nat.zero_le _, fun x h => by cases h⟩
set_option maxHeartbeats 8000000 in
set_option maxRecDepth 100000 in
theorem walkDReplaced (a : Option Addr) (n cap : Nat) (w : World) (h : CodeAt w a n) (hm : n ≤ 9223372036854775807) :
    Calls Try.prog 5 #[.slice a n cap] w fun e w' => e = .returned (.bool true) ∧ Below w.heap.size w w' := by
  by_cases hn : n ≤ 1048576
  · have hb : decide (1048576 < n) = false := by simp; omega
    go_enter Try.func5, Try.ntmps5
    go_wp2_with fail
    refine (laws_bigC a n cap _ hm).mono ?_
    rintro e w1 ⟨rfl, rfl⟩
    rw [hb]
    go_wp2_with fail
    refine (spec_DrawReplace a n cap _ h hn).mono ?_
    rintro e w2 ⟨⟨v, d0, nm, data, rfl, DT, hd0, hnm, hdata⟩, hB2⟩
    have hD0 := DT.at
    clear DT
    obtain ⟨la, ln, lc, sa, sn, sc, oa, on, oc, rfl⟩ := hD0.l.cells
    have hA : Below w2.heap.size w2 (w2.alloc (.cells #[.slice la ln lc, .slice sa sn sc, .slice oa on oc] 27)) := (Below.refl _ _).alloc (Nat.le_refl _) _
    have P := Blk.new w2 #[.slice la ln lc, .slice sa sn sc, .slice oa on oc] 27
    go_wp2_with fail
    have hC := chain hB2 hA
    replace hD0 := hD0.below hA
    obtain ⟨pb, hpb⟩ : ∃ pb, pb = w2.heap.size := ⟨_, rfl⟩
    generalize w2.alloc (.cells #[.slice la ln lc, .slice sa sn sc, .slice oa on oc] 27) = w3 at *
    rw [← hpb] at P ⊢
    have hpb1 : w1.heap.size ≤ pb := by rw [hpb]; exact hB2.size
    clear hA hB2 hpb
    refine (impl_Sync _ d0 w3 hD0 hd0).mono ?_
    rintro e w4 ⟨⟨v4, rfl, S4⟩, hB⟩
    replace S4 := S4.r
    obtain ⟨la4, ln4, lc4, sa4, sn4, sc4, oa4, on4, oc4, rfl⟩ := S4.at.l.cells
    have hlt4 := P.lt
    have S4b := S4.mono (show pb + 1 ≤ w3.heap.size + 1 by omega)
    replace P := P.below hB
    replace hC := chain hC hB
    clear hB S4 hD0
    have hd := dim_sync hd0
    have hops : (syncD d0).ops = [] := by unfold syncD; split <;> rfl
    have hsl : (syncD d0).safe = (syncD d0).live := by unfold syncD; split <;> rfl
    generalize syncD d0 = d at *
    clear hd0
    obtain ⟨⟨p0, p1, p2⟩, f0, f1, f2⟩ := blk_three P
    go_wp2_with fail
    have P5 := P.put3 (x := .slice la4 ln4 lc4) (y := .slice sa4 sn4 sc4) (z := .slice oa4 on4 oc4)
    have hg5 := grown_put3 w4 pb (.slice la4 ln4 lc4) (.slice sa4 sn4 sc4) (.slice oa4 on4 oc4)
    have hD := (S4b.off hg5 (by omega)).at
    replace hC := below_grown hC hg5 hpb1
    clear p0 p1 p2 f0 f1 f2 S4b P
    generalize ((w4.setCell ⟨pb, 0, none⟩ (.slice la4 ln4 lc4)).setCell ⟨pb, 1, none⟩ (.slice sa4 sn4 sc4)).setCell ⟨pb, 2, none⟩ (.slice oa4 on4 oc4) = w5 at *
    have P := P5
    clear P5 hg5
    refine (impl_Replace _ d nm data w5 hD hd (by omega) (by omega)).mono ?_
    rintro e w6 ⟨⟨v6, rfl, S6⟩, hB⟩
    replace S6 := S6.r
    obtain ⟨la6, ln6, lc6, sa6, sn6, sc6, oa6, on6, oc6, rfl⟩ := S6.at.l.cells
    replace P := P.below hB
    replace hD := hD.below hB
    replace hC := chain hC hB
    clear hB
    have hrc := @rep_crash d nm data (n % 4 : Nat)
    have hr2 := @rep_two d nm data
    obtain ⟨AD, hAD⟩ : ∃ AD, repD d nm data = AD := ⟨_, rfl⟩
    rw [hAD] at S6 ⊢
    simp only [hAD] at hrc hr2
    have hA : Below w6.heap.size w6 (w6.alloc (.cells #[.slice la6 ln6 lc6, .slice sa6 sn6 sc6, .slice oa6 on6 oc6] 27)) := (Below.refl _ _).alloc (Nat.le_refl _) _
    have E := Blk.new w6 #[.slice la6 ln6 lc6, .slice sa6 sn6 sc6, .slice oa6 on6 oc6] 27
    have p0 := fun ob => acell (w := w6) ob P.three.1
    have p1 := fun ob => acell (w := w6) ob P.three.2.1
    have p2 := fun ob => acell (w := w6) ob P.three.2.2
    go_wp2_with fail
    replace P := P.below hA
    replace hD := hD.below hA
    replace S6 := S6.below hA
    replace hC := chain hC hA
    obtain ⟨ab, hab⟩ : ∃ b, b = w6.heap.size := ⟨_, rfl⟩
    rw [← hab] at E
    generalize w6.alloc (.cells #[.slice la6 ln6 lc6, .slice sa6 sn6 sc6, .slice oa6 on6 oc6] 27) = w7 at *
    rw [← hab]
    clear hA hab p0 p1 p2
    refine (spec_Replace _ d nm data w7 hD hd (by omega) (by omega)).mono ?_
    rintro e w8 ⟨⟨v8, rfl, S8⟩, hB⟩
    obtain ⟨la8, ln8, lc8, sa8, sn8, sc8, oa8, on8, oc8, rfl⟩ := S8.at.l.cells
    clear S8
    rw [hAD]
    replace P := P.below hB
    replace hD := hD.below hB
    replace S6 := S6.below hB
    replace E := E.below hB
    replace hC := chain hC hB
    clear hB
    obtain ⟨d6, c6⟩ := AD
    dsimp only at S6 hrc hr2 ⊢
    have hA : Below w8.heap.size w8 (w8.alloc (.cells #[.slice la8 ln8 lc8, .slice sa8 sn8 sc8, .slice oa8 on8 oc8] 27)) := (Below.refl _ _).alloc (Nat.le_refl _) _
    have p0 := fun ob => acell (w := w8) ob P.three.1
    have p1 := fun ob => acell (w := w8) ob P.three.2.1
    have p2 := fun ob => acell (w := w8) ob P.three.2.2
    have hcc : (c6 != c6) = false := by simp
    have hce : (c6 == c6) = true := by simp
    by_cases hc0 : c6 = 0
    · subst hc0
      have hdb : diskB d = true := rep_db hAD
      have hf4 : nm.size + 4 ≤ 9223372036854775807 := by omega
      go_wp2_with fail
      replace P := P.below hA
      replace hD := hD.below hA
      replace S6 := S6.below hA
      replace E := E.below hA
      replace hC := chain hC hA
      generalize w8.alloc (.cells #[.slice la8 ln8 lc8, .slice sa8 sn8 sc8, .slice oa8 on8 oc8] 27) = w9 at *
      clear hA p0 p1 p2
      refine (impl_ReadFile _ d (freshB nm) w9 hD hd).mono ?_
      rintro e w10 ⟨rfl, hB⟩
      replace P := P.below hB
      replace hD := hD.below hB
      replace S6 := S6.below hB
      replace E := E.below hB
      replace hC := chain hC hB
      clear hB
      have hrs := rd_some (nm := freshB nm) hdb
      obtain ⟨FR, hFR⟩ : ∃ FR, rdD d (freshB nm) = FR := ⟨_, rfl⟩
      rw [hFR] at hrs ⊢
      clear hFR
      obtain ⟨s10, b10⟩ := FR
      dsimp only at hrs ⊢
      obtain ⟨p0, p1, p2⟩ := P.three
      obtain ⟨e0, e1, e2⟩ := E.three
      cases b10
      · have hnone : atF d.live (freshB nm) = none := Option.not_isSome_iff_eq_none.1 (by rw [← hrs]; simp)
        obtain ⟨h6, hr6, _, hf6⟩ := hr2 hdb hops hnone (by simp)
        have hd6 : DimD d6 := rep_dim (by omega) (by omega) hd hAD h6 hr6
        have hon6 : on6 = 2 := (at_ops S6.at hd6).2.symm.trans (by rw [(Prod.mk.inj h6).1]; rfl)
        subst hon6
        have hrd := fun keep => hrc (keep := keep) hdb hops hsl hnone (by simp) (by omega)
        clear hrc hr2 hnone hrs hf6 h6
        go_wp2_with fail
        refine (impl_ReadFile _ d nm w10 hD hd).mono ?_
        rintro e w11 ⟨rfl, hB⟩
        replace P := P.below hB
        replace S6 := S6.below hB
        replace E := E.below hB
        replace hC := chain hC hB
        clear hB p0 p1 p2 e0 e1 e2 hD
        obtain ⟨OL, hOL⟩ : ∃ OL, rdD d nm = OL := ⟨_, rfl⟩
        rw [hOL]
        simp only [hOL] at hrd
        obtain ⟨sO, bO⟩ := OL
        dsimp only
        clear hOL hAD hcc hce P
        have hA : Below w11.heap.size w11 (w11.alloc (.cells #[] 2)) := (Below.refl _ _).alloc (Nat.le_refl _) _
        have R5 : ResAt (fun x : Int => [Value.int .i64 x]) 1 2 (w11.alloc (.cells #[] 2)) w11.heap.size (some ⟨w11.heap.size, 0, none⟩) 0 0 ([] : List Int) := res_empty (Blk.new w11 #[] 2) (Nat.le_refl _)
        have E11 := E
        have S11 := S6
        have C11 := hC
        go_wp2_with fail
        generalize w11.alloc (.cells #[] 2) = w12 at *
        go_loopw [14, 15] (fun acc ix wr => ∃ (k : Nat) (a4 : Option Addr) (n4 c4 : Nat) (keep : List Int), k ≤ 2 ∧ ix = .int .i64 k ∧ acc = .slice a4 n4 c4 ∧ n4 ≤ k ∧ ResAt (fun x : Int => [Value.int .i64 x]) 1 2 wr w11.heap.size a4 n4 c4 keep ∧ KeepK k keep ∧ Blk wr ab #[.slice la6 ln6 lc6, .slice sa6 sn6 sc6, .slice oa6 2 oc6] 27 ∧ Below w11.heap.size w11 wr) (fun _ ix _ => 2 - (intOf ix).toNat)
        case atStart => exact ⟨0, _, 0, 0, [], by omega, rfl, rfl, Nat.le_refl _, R5, .inl ⟨rfl, rfl⟩, E.below hA, hA⟩
        case round =>
          clear R5 hA E hC S6
          obtain ⟨k, a4, n4, c4, keep, hk, rfl, rfl, hn4, R, hkk, E, hW⟩ := hrel
          obtain ⟨e0, e1, e2⟩ := E.three
          have hcode := h.below (chain C11 hW)
          by_cases hlt : k < 2
          · have hk1 : (k : Int) < 2 := by omega
            by_cases hn0 : 0 < n
            · have hn1 : (0 : Int) < n := by omega
              obtain ⟨cb, co, cv, rfl, hv0, hv1, hcc⟩ := hcode (k % n) (Nat.mod_lt _ hn0)
              have hrm : ((k : Int).tmod n) = ((k % n : Nat) : Int) := by rw [Int.tmod_eq_emod_of_nonneg (by omega)]; exact (Int.natCast_emod k n).symm
              have hrl : ((k % n : Nat) : Int) < n := by have := Nat.mod_lt k hn0; omega
              have hr8 : ((k : Int).tmod 8) = (k : Int) := by rw [Int.tmod_eq_emod_of_nonneg (by omega)]; omega
              generalize k % n = j at *
              have hA : Below wr.heap.size wr (wr.alloc (.cells #[.int .i64 (k : Int)] 2)) := (Below.refl _ _).alloc (Nat.le_refl _) _
              go_wp2_with (at_builtin; refine wpList_app rfl (fun K hK => wp_appI _ _ rfl w11.heap.size a4 n4 c4 keep rfl (R.below hA) wr.heap.size (k : Int) rfl (Blk.new wr _ _) (by omega) (by have := hW.size; have := hA.size; omega) (fun a6 c6 w6 R6 hg6 => hK _ _ ?_)); refine Held.out ?_)
              all_goals first
                | (refine Held.mk ?_
                   have hty := (R.below hA).rowTy (m := n4) (k := c4)
                   have E6 := (E.below hA).ty hg6 hty (by decide)
                   have hW6 : Below w11.heap.size w11 w6 := (chain hW hA).grown hg6 (chain hW hA).size (own_ge fun ad e => (R.block ad e).1)
                   have hkk2 := hkk.take hlt
                   clear hK
                   go_wp2
                   go_roundw
                   case rel => exact ⟨k + 1, a6, n4 + 1, c6, _, by omega, by go_num, rfl, by omega, R6, hkk2, E6, hW6⟩
                   case measure => simp [intOf]; omega)
                | (go_roundw
                   case rel => exact ⟨k + 1, a4, n4, c4, keep, by omega, by go_num, rfl, by omega, R, hkk.skip hlt, E, hW⟩
                   case measure => simp [intOf]; omega)
            · obtain rfl : n = 0 := by omega
              go_wp2
              go_roundw
              case rel => exact ⟨k + 1, a4, n4, c4, keep, by omega, by go_num, rfl, by omega, R, hkk.skip hlt, E, hW⟩
              case measure => simp [intOf]; omega
          · obtain rfl : k = 2 := by omega
            have hkeep : keep = [] ∨ keep = [0] ∨ keep = [1] ∨ keep = [0, 1] := by rcases hkk with ⟨h1, _⟩ | ⟨h1, _⟩ | ⟨_, h2⟩; · omega
                                                                                   · omega
                                                                                   · exact h2
            obtain ⟨q1, q2, q3⟩ := hrd keep hkeep
            have S13 := S11.below hW
            have hm4 : ((n : Int).tmod 4) = ((n % 4 : Nat) : Int) := by rw [Int.tmod_eq_emod_of_nonneg (by omega)]; exact (Int.natCast_emod n 4).symm
            have hC := chain C11 hW
            have hIn := R.sl
            clear hrd hkk hkeep R hcode hW C11 S11 E11
            go_wp2_with fail
            refine (impl_Crash _ d6 a4 n4 c4 keep ((n % 4 : Nat) : Int) wr S13.at hd6 hIn (by omega)).mono ?_
            rintro e w14 ⟨⟨v14, rfl, S14⟩, hB⟩
            replace S14 := S14.r
            obtain ⟨la14, ln14, lc14, sa14, sn14, sc14, oa14, on14, oc14, rfl⟩ := S14.at.l.cells
            replace E := E.below hB
            replace S13 := S13.below hB
            replace hC := chain hC hB
            clear hB hIn e0 e1 e2
            have hd14 : DimD (crashD d6 keep ((n % 4 : Nat) : Int)).1 := crash_dim
            obtain ⟨CR, hCR⟩ : ∃ CR, crashD d6 keep ((n % 4 : Nat) : Int) = CR := ⟨_, rfl⟩
            simp only [hCR] at S14 q2 q3 hd14 ⊢
            clear hCR
            obtain ⟨d14, b14⟩ := CR
            dsimp only at S14 q2 q3 hd14 ⊢
            subst q2
            have hA : Below w14.heap.size w14 (w14.alloc (.cells #[.slice la14 ln14 lc14, .slice sa14 sn14 sc14, .slice oa14 on14 oc14] 27)) := (Below.refl _ _).alloc (Nat.le_refl _) _
            have F := Blk.new w14 #[.slice la14 ln14 lc14, .slice sa14 sn14 sc14, .slice oa14 on14 oc14] 27
            go_wp2_with fail
            replace E := E.below hA
            replace S13 := S13.below hA
            replace S14 := S14.below hA
            replace hC := chain hC hA
            obtain ⟨fb, hfb⟩ : ∃ b, b = w14.heap.size := ⟨_, rfl⟩
            rw [← hfb] at F
            generalize w14.alloc (.cells #[.slice la14 ln14 lc14, .slice sa14 sn14 sc14, .slice oa14 on14 oc14] 27) = w15 at *
            rw [← hfb]
            clear hA hfb
            refine (impl_ReadFile _ d14 nm w15 S14.at hd14).mono ?_
            rintro e w16 ⟨rfl, hB⟩
            replace E := E.below hB
            replace S13 := S13.below hB
            replace hC := chain hC hB
            clear hB
            obtain ⟨e0, e1, e2⟩ := E.three
            have q4 : Hid (rdD d14 nm = (sO, bO) ∨ rdD d14 nm = (data, true)) := q3
            clear q3
            go_wp2_with fail
            refine (impl_ReadFile _ d6 nm w16 S13.at hd6).mono ?_
            rintro e w17 ⟨rfl, hB⟩
            rw [q1]
            replace hC := chain hC hB
            clear hB e0 e1 e2
            have hdd : (data.toList == data.toList) = true := by simp
            rcases q4.out with q5 | q5
            · rw [q5]
              have hoo : (sO.toList == sO.toList) = true := by simp
              have hbo : (bO == bO) = true := by simp
              go_wp2
              go_returns
              exact ⟨rfl, hC⟩
            · rw [q5]
              cases bO
              · go_wp2
                go_returns
                exact ⟨rfl, hC⟩
              · cases hq : (data.toList == sO.toList)
                · go_wp2
                  go_returns
                  exact ⟨rfl, hC⟩
                · go_wp2
                  go_returns
                  exact ⟨rfl, hC⟩
      · clear hrs hrc hr2
        go_wp2
        go_returns
        exact ⟨rfl, hC⟩
    · have hc1 : (c6 == 0) = false := by simpa using hc0
      have hc2 : (c6 != 0) = true := by simp [hc0]
      go_wp2
      go_returns
      exact ⟨rfl, chain hC hA⟩
  · have hb : decide (1048576 < n) = true := by simp; omega
    go_enter Try.func5, Try.ntmps5
    go_wp2_with fail
    refine (laws_bigC a n cap _ hm).mono ?_
    rintro e w1 ⟨rfl, rfl⟩
    rw [hb]
    go_wp2
    go_returns
    exact ⟨rfl, Below.refl _ _⟩

set_option maxRecDepth 100000 in
theorem liftedDReplaced (os : Os) (started : os.Started) (H : Type) (enc : TypeId × Value → H) :
    ReturnsInHanded {} Try.checked os 5 .any (Rows.fnReplacedSpec.pre6 enc Try.prog Try.f5 Rows.fnReplacedRow.domain false) (Rows.fnReplacedSpec.post enc Try.prog Try.f5 false true false false) := by
  refine returnsInHanded_of_change (C := Try.checked) own started (by kernel_rfl) Try.func5
    (ChangeSpec.witness6 (enc := enc) (C := Try.checked) false ⟨#[], #[.slice none 0 0], []⟩ 8 (by kernel_rfl) (by kernel_rfl) (by kernel_rfl) (by kernel_rfl)) ?_
  intro W base args ds gs before hval0 hW _ _
  have hval : ∀ (j : Nat) t v, Try.f5.params[j]? = some t → args[j]? = some v → Value.okWide Try.prog W .any base t v := hval0
  have hW' := hW
  obtain ⟨p, q, hA0, hV, rfl, _, _⟩ := hW
  have hA : DataW.TrodAll enc Try.prog W 0 (fun _ => true) true Try.f5.params.toList args.toList ds p := hA0
  rw [Try.params5] at hA hval
  obtain ⟨v0, vs0, d0, ds0, p0, q0, hargs, rfl, rfl, h0, r0⟩ := trodAll_cons hA
  obtain ⟨rfl, rfl, rfl⟩ := trodAll_nil r0
  obtain rfl : args = #[v0] := by cases args; simp_all
  obtain ⟨rfl, rfl⟩ := trodVars_none hV
  clear hA0 hval0
  simp only [List.append_nil] at hW'
  have hlt : ∀ x ∈ p0, x.block < W.heap.size := fun x hx => by simpa using hW'.lt x hx
  obtain ⟨a0, len, cap, rfl⟩ := okWide_slice Try.underlying22 (hval 0 22 v0 rfl rfl)
  obtain ⟨hmx, hl⟩ := open_code h0
  unfold maxLen at hmx
  refine (walkDReplaced a0 len cap W hl (by omega)).mono fun e W' ⟨he, hB⟩ => ?_
  subst he
  have hargs : DataW.Trod enc Try.prog W' 0 (fun b => decide (b < W.heap.size)) true 22 (.slice a0 len cap) d0 p0 :=
    Below.trod laidOut (by kernel_rfl) (of_decide_eq_true (by kernel_rfl)) h0 hB hlt
  exact ⟨_, rfl, ⟨_, _, _, [], _, [], hW', trodAll_mk1 (shut_bool Try.underlying4 _), trodAll_mk1 hargs, rfl, hB.frame _, fun h => by cases h⟩⟩

theorem holdsDReplaced : Rows.FnReplacedSaid :=
  OpenClaim.holds_of_wide 5 Try.f5 rfl rfl rfl rfl rfl rfl rfl ⟨rfl, rfl, rfl, rfl, rfl⟩ rfl rfl rfl rfl rfl (by kernel_rfl) Try.func5 (joined_of (by kernel_rfl) (by kernel_rfl) (by kernel_rfl) (by kernel_rfl) rfl rfl rfl (by kernel_rfl))
    (of_decide_eq_true (by kernel_rfl)) (by unfold Func.isWrapper; first | (rw [if_pos (by decide +kernel)]; kernel_rfl) | (rw [if_neg (by decide +kernel)]; exact ⟨rfl, rfl⟩))
    (fun os started H enc _ => liftedDReplaced os started H enc)
end Go.Proofs.Ytpobgjkmcmkkeaa
