/- At every code: what is done on the disk that is drawn is seen, and not safe yet; what is refused changes nothing: no condition. -/
import Derived.Test.YtpobgjkmcmkkeaaRows
import Derived.Test.YtpobgjkmcmkkeaaG01
import Derived.Test.YtpobgjkmcmkkeaaG40
import Derived.Test.YtpobgjkmcmkkeaaG44
import Derived.Test.YtpobgjkmcmkkeaaG45
import Derived.Test.YtpobgjkmcmkkeaaG46
namespace Go.Proofs.Ytpobgjkmcmkkeaa
open Go.ChangeShapes Go.WideShapes Go.ChangeAt Go.RowKit Go.Deep Go.BigFrame

theorem act_same {d d5 : Dk} {o : Dp} {c : Int} (h : actD d o = (d5, c)) (hc : ¬ c = 0) : d5 = d := by
  unfold actD at h
  split at h
  · exact (congrArg Prod.fst h).symm
  · split at h
    · exact (congrArg Prod.fst h).symm
    · split at h
      · exact (congrArg Prod.fst h).symm
      · exact absurd (congrArg Prod.snd h).symm hc
theorem act_done {d d5 : Dk} {o : Dp} (h : actD d o = (d5, 0)) : formB o = true ∧ (doF d.live o).2 = true := by
  unfold actD at h
  split at h
  · cases congrArg Prod.snd h
  · rename_i h1
    split at h
    · cases congrArg Prod.snd h
    · rename_i h2
      exact ⟨by simpa using h1, by simpa using h2⟩
theorem rd_bnd {l : List Fl} {nm : ByteArray} (h : BndF l) : (rdL l nm).1.size ≤ 100000000 := by
  unfold rdL
  split
  · show (⟨#[]⟩ : ByteArray).size ≤ _
    decide
  · rename_i i hi
    cases hf : l[i]? with
    | none => show (⟨#[]⟩ : ByteArray).size ≤ _; decide
    | some f => exact (h f (List.mem_of_getElem? hf)).2
theorem form_kind {o : Dp} (h : formB o = true) : o.k = 1 ∨ o.k = 2 ∨ o.k = 3 := by
  unfold formB at h
  simp only [Bool.and_eq_true, decide_eq_true_eq] at h
  omega
set_option maxHeartbeats 8000000 in
set_option maxRecDepth 100000 in
theorem walkDDone (a : Option Addr) (n cap : Nat) (w : World) (h : CodeAt w a n) (hm : n ≤ 9223372036854775807) :
    Calls Try.prog 4 #[.slice a n cap] w fun e w' => e = .returned (.bool true) ∧ Below w.heap.size w w' := by
  by_cases hn : n ≤ 1048576
  · have hb : decide (1048576 < n) = false := by simp; omega
    go_enter Try.func4, Try.ntmps4
    go_wp2_with fail
    refine (laws_bigC a n cap _ hm).mono ?_
    rintro e w1 ⟨rfl, rfl⟩
    rw [hb]
    go_wp2_with fail
    refine (spec_DrawDo a n cap _ h hn).mono ?_
    rintro e w2 ⟨⟨v, d, o, rfl, DT, hd, hso, hsd⟩, hB2⟩
    have hD := DT.at
    clear DT
    obtain ⟨la, ln, lc, sa, sn, sc, oa, on, oc, rfl⟩ := hD.l.cells
    go_wp2_with fail
    have hA : Below w2.heap.size w2 ((w2.alloc (.cells #[.slice la ln lc, .slice sa sn sc, .slice oa on oc] 27)).alloc (.cells #[.int .i64 o.k, .string o.nm, .string o.tt, .string o.d] 36)) := by go_grown
    have P := (Blk.new w2 #[.slice la ln lc, .slice sa sn sc, .slice oa on oc] 27).alloc (.cells #[.int .i64 o.k, .string o.nm, .string o.tt, .string o.d] 36)
    have Q : Blk ((w2.alloc (.cells #[.slice la ln lc, .slice sa sn sc, .slice oa on oc] 27)).alloc (.cells #[.int .i64 o.k, .string o.nm, .string o.tt, .string o.d] 36)) (w2.heap.size + 1) #[.int .i64 o.k, .string o.nm, .string o.tt, .string o.d] 36 := Blk.new' _ _ _ _ (by simp)
    have hC := chain hB2 hA
    replace hD := hD.below hA
    obtain ⟨pb, hpb⟩ : ∃ pb, pb = w2.heap.size := ⟨_, rfl⟩
    generalize (w2.alloc (.cells #[.slice la ln lc, .slice sa sn sc, .slice oa on oc] 27)).alloc (.cells #[.int .i64 o.k, .string o.nm, .string o.tt, .string o.d] 36) = w3 at *
    rw [← hpb] at P Q ⊢
    clear hA hB2 hpb
    refine (impl_Do _ d o w3 hD hd ⟨hso, hsd⟩).mono ?_
    rintro e w4 ⟨⟨v5, rfl, S5⟩, hB4⟩
    replace S5 := S5.r
    obtain ⟨la5, ln5, lc5, sa5, sn5, sc5, oa5, on5, oc5, rfl⟩ := S5.at.l.cells
    replace P := P.below hB4
    replace Q := Q.below hB4
    replace hD := hD.below hB4
    replace hC := chain hC hB4
    clear hB4
    obtain ⟨AD, hAD⟩ : ∃ AD, doD d o = AD := ⟨_, rfl⟩
    rw [hAD] at S5 ⊢
    have hA : Below w4.heap.size w4 (w4.alloc (.cells #[.slice la5 ln5 lc5, .slice sa5 sn5 sc5, .slice oa5 on5 oc5] 27)) := (Below.refl _ _).alloc (Nat.le_refl _) _
    have E := Blk.new w4 #[.slice la5 ln5 lc5, .slice sa5 sn5 sc5, .slice oa5 on5 oc5] 27
    have p0 := fun ob => acell (w := w4) ob P.three.1
    have p1 := fun ob => acell (w := w4) ob P.three.2.1
    have p2 := fun ob => acell (w := w4) ob P.three.2.2
    have q0 := fun ob => acell (w := w4) ob (blk_four Q).1
    have q1 := fun ob => acell (w := w4) ob (blk_four Q).2.1
    have q2 := fun ob => acell (w := w4) ob (blk_four Q).2.2.1
    have q3 := fun ob => acell (w := w4) ob (blk_four Q).2.2.2
    go_wp2_with fail
    replace P := P.below hA
    replace Q := Q.below hA
    replace hD := hD.below hA
    replace S5 := S5.below hA
    replace hC := chain hC hA
    obtain ⟨ab, hab⟩ : ∃ ab, ab = w4.heap.size := ⟨_, rfl⟩
    rw [← hab] at E
    generalize w4.alloc (.cells #[.slice la5 ln5 lc5, .slice sa5 sn5 sc5, .slice oa5 on5 oc5] 27) = w5 at *
    rw [← hab]
    clear hA hab p0 p1 p2 q0 q1 q2 q3
    refine (spec_Do _ d o w5 hD hd ⟨hso, hsd⟩).mono ?_
    rintro e w6 ⟨⟨v6, rfl, R6⟩, hB6⟩
    obtain ⟨la6, ln6, lc6, sa6, sn6, sc6, oa6, on6, oc6, rfl⟩ := R6.at.l.cells
    clear R6
    rw [hAD]
    replace P := P.below hB6
    replace Q := Q.below hB6
    replace hD := hD.below hB6
    replace S5 := S5.below hB6
    replace E := E.below hB6
    replace hC := chain hC hB6
    clear hB6
    obtain ⟨d5, c5⟩ := AD
    dsimp only at S5 ⊢
    have hA : Below w6.heap.size w6 (w6.alloc (.cells #[.slice la6 ln6 lc6, .slice sa6 sn6 sc6, .slice oa6 on6 oc6] 27)) := (Below.refl _ _).alloc (Nat.le_refl _) _
    have p0 := fun ob => acell (w := w6) ob P.three.1
    have p1 := fun ob => acell (w := w6) ob P.three.2.1
    have p2 := fun ob => acell (w := w6) ob P.three.2.2
    have hcc : (c5 != c5) = false := by simp
    go_wp2_with fail
    replace P := P.below hA
    replace Q := Q.below hA
    replace hD := hD.below hA
    replace S5 := S5.below hA
    replace E := E.below hA
    replace hC := chain hC hA
    generalize w6.alloc (.cells #[.slice la6 ln6 lc6, .slice sa6 sn6 sc6, .slice oa6 on6 oc6] 27) = w7 at *
    clear hA p0 p1 p2
    refine (spec_DiskOk _ d w7 hD hd).mono ?_
    rintro e w8 ⟨rfl, hB8⟩
    replace P := P.below hB8
    replace Q := Q.below hB8
    replace hD := hD.below hB8
    replace S5 := S5.below hB8
    replace E := E.below hB8
    replace hC := chain hC hB8
    clear hB8
    obtain ⟨p0, p1, p2⟩ := P.three
    obtain ⟨q0, q1, q2, q3⟩ := blk_four Q
    obtain ⟨e0, e1, e2⟩ := E.three
    have hce : (c5 == c5) = true := by simp
    cases hdb : diskB d
    · go_wp2
      go_returns
      exact ⟨rfl, hC⟩
    · have hact : actD d o = (d5, c5) := by rw [← doD_yes o hdb]; exact hAD
      clear hAD
      obtain ⟨la5x, ln5x, lc5x, sa5x, sn5x, sc5x, oa5x, on5x, oc5x, he5, RL5, RS5, RO5⟩ := S5
      obtain ⟨⟨rfl, rfl, rfl⟩, ⟨rfl, rfl, rfl⟩, rfl, rfl, rfl⟩ : (la5 = la5x ∧ ln5 = ln5x ∧ lc5 = lc5x) ∧ (sa5 = sa5x ∧ sn5 = sn5x ∧ sc5 = sc5x) ∧ oa5 = oa5x ∧ on5 = on5x ∧ oc5 = oc5x := by simpa using he5
      clear he5
      obtain ⟨lax, lnx, lcx, sax, snx, scx, oax, onx, ocx, hex, HL, HS, HO⟩ := hD
      obtain ⟨⟨rfl, rfl, rfl⟩, ⟨rfl, rfl, rfl⟩, rfl, rfl, rfl⟩ : (la = lax ∧ ln = lnx ∧ lc = lcx) ∧ (sa = sax ∧ sn = snx ∧ sc = scx) ∧ oa = oax ∧ on = onx ∧ oc = ocx := by simpa using hex
      clear hex
      have hD : DiskAt w8 (.agg #[.slice la ln lc, .slice sa sn sc, .slice oa on oc]) d := ⟨_, _, _, _, _, _, _, _, _, rfl, HL, HS, HO⟩
      by_cases hc0 : c5 = 0
      · subst hc0
        obtain ⟨hr5, hee, hff⟩ := act_right hdb (by rw [hact])
        have hd5 := act_dim hdb hd ⟨hso, hsd⟩ (by rw [hact])
        rw [hact] at hr5 hd5
        have h5 : d5 = ⟨(doF d.live o).1, d.safe, d.ops ++ [o]⟩ := by rw [hact] at hee; exact (Prod.mk.injEq .. ▸ hee).1
        have hA5 : DiskAt w8 (.agg #[.slice la5 ln5 lc5, .slice sa5 sn5 sc5, .slice oa5 on5 oc5]) d5 := ⟨_, _, _, _, _, _, _, _, _, rfl, RL5.slH, RS5.slH, RO5.slH⟩
        obtain ⟨hfo, hdo⟩ := act_done hact
        have hsafe : d5.safe = d.safe := by rw [h5]
        have hlen : on5 = on + 1 := by rw [← RO5.sl.len, ← HO.sl.len, h5]; simp
        have b2 : sn ≤ 4000000 := by rw [← HS.sl.len]; exact hd.safe.1
        have n2 : sn5 = sn := by rw [← RS5.sl.len, ← HS.sl.len, hsafe]
        have b3 : on ≤ 4000000 := by rw [← HO.sl.len]; exact hd.ops.1
        rw [hsafe] at RS5
        subst n2
        subst hlen
        have kk := form_kind hfo
        obtain ⟨A5, hA5e⟩ : ∃ A5, rdD d5 o.nm = A5 := ⟨_, rfl⟩
        obtain ⟨A6, hA6e⟩ : ∃ A6, rdD d5 o.tt = A6 := ⟨_, rfl⟩
        obtain ⟨A0, hA0e⟩ : ∃ A0, rdD d o.nm = A0 := ⟨_, rfl⟩
        have k1 := @do_app d.live o
        have k2 := @do_ren d.live o
        have k3 := @do_rem d.live o
        rw [show rdL (doF d.live o).1 o.nm = A5 by rw [← hA5e, rdD_yes _ hr5, h5]] at k1 k2 k3
        rw [show rdL d.live o.nm = A0 by rw [← hA0e, rdD_yes _ hdb]] at k1 k2
        rw [show rdL (doF d.live o).1 o.tt = A6 by rw [← hA6e, rdD_yes _ hr5, h5]] at k2
        have hs0 := rd_bnd (nm := o.nm) hd.live.2
        rw [show rdL d.live o.nm = A0 by rw [← hA0e, rdD_yes _ hdb]] at hs0
        clear h5 hee hff hact hfo hso hsafe
        go_wp2_with fail
        refine (impl_ReadFile _ d5 o.nm w8 hA5 hd5).mono ?_
        rintro e w9 ⟨rfl, hB9⟩
        rw [hA5e]
        replace P := P.below hB9
        replace Q := Q.below hB9
        replace E := E.below hB9
        replace hA5 := hA5.below hB9
        replace hD := hD.below hB9
        replace RS5 := RS5.below hB9
        replace HS := HS.below hB9
        replace hC := chain hC hB9
        clear p0 p1 p2 q0 q1 q2 q3 e0 e1 e2 hB9
        obtain ⟨p0, p1, p2⟩ := P.three
        obtain ⟨q0, q1, q2, q3⟩ := blk_four Q
        obtain ⟨e0, e1, e2⟩ := E.three
        go_wp2_with fail
        refine (impl_ReadFile _ d o.nm w9 hD hd).mono ?_
        rintro e w10 ⟨rfl, hB10⟩
        rw [hA0e]
        replace P := P.below hB10
        replace Q := Q.below hB10
        replace E := E.below hB10
        replace hA5 := hA5.below hB10
        replace hD := hD.below hB10
        replace RS5 := RS5.below hB10
        replace HS := HS.below hB10
        replace hC := chain hC hB10
        clear p0 p1 p2 q0 q1 q2 q3 e0 e1 e2 hB10
        obtain ⟨p0, p1, p2⟩ := P.three
        obtain ⟨q0, q1, q2, q3⟩ := blk_four Q
        obtain ⟨e0, e1, e2⟩ := E.three
        clear hA5e hA0e
        obtain ⟨s5, b5⟩ := A5
        obtain ⟨s6, b6⟩ := A6
        obtain ⟨s0, b0⟩ := A0
        dsimp only at k1 k2 k3 ⊢
        rcases kk with hk | hk | hk
        · have hk1 := k1 hk
          injection hk1 with e1 e2
          subst e1
          subst e2
          rw [hk] at q0
          clear k1 k2 k3 hA6e
          have hsum : s0.size + o.d.size ≤ 9223372036854775807 := by dsimp only at hs0; omega
          go_wp2_with fail
          refine (impl_DiskOk _ d5 w10 hA5 hd5).mono ?_
          rintro e w11 ⟨rfl, hB⟩
          rw [hr5]
          replace P := P.below hB
          replace E := E.below hB
          replace RS5 := RS5.below hB
          replace HS := HS.below hB
          replace hC := chain hC hB
          clear p0 p1 p2 e0 e1 e2 hB
          obtain ⟨p0, p1, p2⟩ := P.three
          obtain ⟨e0, e1, e2⟩ := E.three
          go_wp2_with fail
          refine (laws_sameFiles sa5 sn5 sc5 d.safe sa sn5 sc d.safe w11 RS5.sl HS.sl (by omega) (by omega)).mono ?_
          rintro e w12 ⟨rfl, hB⟩
          rw [eqFls_refl]
          replace P := P.below hB
          replace E := E.below hB
          replace hC := chain hC hB
          clear p0 p1 p2 e0 e1 e2 hB
          obtain ⟨p0, p1, p2⟩ := P.three
          obtain ⟨e0, e1, e2⟩ := E.three
          go_wp2
          go_returns
          exact ⟨rfl, hC⟩
        · have hk2 := k2 hk hdo
          obtain ⟨h6, h7⟩ := hk2
          injection h6 with e1 e2
          subst e1
          subst e2
          subst h7
          rw [hk] at q0
          clear k1 k2 k3
          go_wp2_with fail
          refine (impl_ReadFile _ d5 o.tt w10 hA5 hd5).mono ?_
          rintro e w11 ⟨rfl, hB11⟩
          rw [hA6e]
          replace P := P.below hB11
          replace Q := Q.below hB11
          replace E := E.below hB11
          replace hA5 := hA5.below hB11
          replace hD := hD.below hB11
          replace RS5 := RS5.below hB11
          replace HS := HS.below hB11
          replace hC := chain hC hB11
          clear p0 p1 p2 q0 q1 q2 q3 e0 e1 e2 hB11
          obtain ⟨p0, p1, p2⟩ := P.three
          obtain ⟨q0, q1, q2, q3⟩ := blk_four Q
          obtain ⟨e0, e1, e2⟩ := E.three
          rw [hk] at q0
          by_cases htn : o.tt.toList = o.nm.toList
          · have htb : (o.tt.toList == o.nm.toList) = true := by simpa using htn
            rw [decide_eq_true htn]
            go_wp2_with fail
            refine (impl_DiskOk _ d5 w11 hA5 hd5).mono ?_
            rintro e w12 ⟨rfl, hB⟩
            rw [hr5]
            replace P := P.below hB
            replace E := E.below hB
            replace RS5 := RS5.below hB
            replace HS := HS.below hB
            replace hC := chain hC hB
            clear p0 p1 p2 e0 e1 e2 hB
            obtain ⟨p0, p1, p2⟩ := P.three
            obtain ⟨e0, e1, e2⟩ := E.three
            go_wp2_with fail
            refine (laws_sameFiles sa5 sn5 sc5 d.safe sa sn5 sc d.safe w12 RS5.sl HS.sl (by omega) (by omega)).mono ?_
            rintro e w13 ⟨rfl, hB⟩
            rw [eqFls_refl]
            replace P := P.below hB
            replace E := E.below hB
            replace hC := chain hC hB
            clear p0 p1 p2 e0 e1 e2 hB
            obtain ⟨p0, p1, p2⟩ := P.three
            obtain ⟨e0, e1, e2⟩ := E.three
            go_wp2
            go_returns
            exact ⟨rfl, hC⟩
          · have htb : (o.tt.toList == o.nm.toList) = false := by simpa using htn
            rw [decide_eq_false htn]
            go_wp2_with fail
            refine (impl_DiskOk _ d5 w11 hA5 hd5).mono ?_
            rintro e w12 ⟨rfl, hB⟩
            rw [hr5]
            replace P := P.below hB
            replace E := E.below hB
            replace RS5 := RS5.below hB
            replace HS := HS.below hB
            replace hC := chain hC hB
            clear p0 p1 p2 e0 e1 e2 hB
            obtain ⟨p0, p1, p2⟩ := P.three
            obtain ⟨e0, e1, e2⟩ := E.three
            go_wp2_with fail
            refine (laws_sameFiles sa5 sn5 sc5 d.safe sa sn5 sc d.safe w12 RS5.sl HS.sl (by omega) (by omega)).mono ?_
            rintro e w13 ⟨rfl, hB⟩
            rw [eqFls_refl]
            replace P := P.below hB
            replace E := E.below hB
            replace hC := chain hC hB
            clear p0 p1 p2 e0 e1 e2 hB
            obtain ⟨p0, p1, p2⟩ := P.three
            obtain ⟨e0, e1, e2⟩ := E.three
            go_wp2
            go_returns
            exact ⟨rfl, hC⟩
        · have hk3 := k3 hk hdo
          subst hk3
          rw [hk] at q0
          clear k1 k2 k3 hA6e
          go_wp2_with fail
          refine (impl_DiskOk _ d5 w10 hA5 hd5).mono ?_
          rintro e w11 ⟨rfl, hB⟩
          rw [hr5]
          replace P := P.below hB
          replace E := E.below hB
          replace RS5 := RS5.below hB
          replace HS := HS.below hB
          replace hC := chain hC hB
          clear p0 p1 p2 e0 e1 e2 hB
          obtain ⟨p0, p1, p2⟩ := P.three
          obtain ⟨e0, e1, e2⟩ := E.three
          go_wp2_with fail
          refine (laws_sameFiles sa5 sn5 sc5 d.safe sa sn5 sc d.safe w11 RS5.sl HS.sl (by omega) (by omega)).mono ?_
          rintro e w12 ⟨rfl, hB⟩
          rw [eqFls_refl]
          replace P := P.below hB
          replace E := E.below hB
          replace hC := chain hC hB
          clear p0 p1 p2 e0 e1 e2 hB
          obtain ⟨p0, p1, p2⟩ := P.three
          obtain ⟨e0, e1, e2⟩ := E.three
          go_wp2
          go_returns
          exact ⟨rfl, hC⟩
      · have hc1 : (c5 == 0) = false := by simpa using hc0
        have hc2 : (c5 != 0) = true := by simp [hc0]
        have h5 : d5 = d := act_same hact hc0
        subst h5
        have n1 : ln5 = ln := by rw [← RL5.sl.len, HL.sl.len]
        have n2 : sn5 = sn := by rw [← RS5.sl.len, HS.sl.len]
        have n3 : on5 = on := by rw [← RO5.sl.len, HO.sl.len]
        subst n1
        subst n2
        subst n3
        have b1 : ln5 ≤ 4000000 := by rw [← HL.sl.len]; exact hd.live.1
        have b2 : sn5 ≤ 4000000 := by rw [← HS.sl.len]; exact hd.safe.1
        go_wp2_with fail
        refine (laws_sameFiles la5 ln5 lc5 d5.live la ln5 lc d5.live w8 RL5.sl HL.sl (by omega) (by omega)).mono ?_
        rintro e w9 ⟨rfl, hB9⟩
        rw [eqFls_refl]
        replace P := P.below hB9
        replace E := E.below hB9
        replace hC := chain hC hB9
        replace RS5 := RS5.below hB9
        replace HS := HS.below hB9
        clear p0 p1 p2 e0 e1 e2 hB9
        obtain ⟨p0, p1, p2⟩ := P.three
        obtain ⟨e0, e1, e2⟩ := E.three
        go_wp2_with fail
        refine (laws_sameFiles sa5 sn5 sc5 d5.safe sa sn5 sc d5.safe w9 RS5.sl HS.sl (by omega) (by omega)).mono ?_
        rintro e w10 ⟨rfl, hB10⟩
        rw [eqFls_refl]
        replace P := P.below hB10
        replace E := E.below hB10
        replace hC := chain hC hB10
        clear p0 p1 p2 e0 e1 e2 hB10
        obtain ⟨p0, p1, p2⟩ := P.three
        obtain ⟨e0, e1, e2⟩ := E.three
        go_wp2
        go_returns
        exact ⟨rfl, hC⟩
  · have hb : decide (1048576 < n) = true := by simp; omega
    go_enter Try.func4, Try.ntmps4
    go_wp2_with fail
    refine (laws_bigC a n cap _ hm).mono ?_
    rintro e w1 ⟨rfl, rfl⟩
    rw [hb]
    go_wp2
    go_returns
    exact ⟨rfl, Below.refl _ _⟩

set_option maxRecDepth 100000 in
theorem liftedDDone (os : Os) (started : os.Started) (H : Type) (enc : TypeId × Value → H) :
    ReturnsInHanded {} Try.checked os 4 .any (Rows.fnDoneSpec.pre6 enc Try.prog Try.f4 Rows.fnDoneRow.domain false) (Rows.fnDoneSpec.post enc Try.prog Try.f4 false true false false) := by
  refine returnsInHanded_of_change (C := Try.checked) own started (by kernel_rfl) Try.func4
    (ChangeSpec.witness6 (enc := enc) (C := Try.checked) false ⟨#[], #[.slice none 0 0], []⟩ 8 (by kernel_rfl) (by kernel_rfl) (by kernel_rfl) (by kernel_rfl)) ?_
  intro W base args ds gs before hval0 hW _ _
  have hval : ∀ (j : Nat) t v, Try.f4.params[j]? = some t → args[j]? = some v → Value.okWide Try.prog W .any base t v := hval0
  have hW' := hW
  obtain ⟨p, q, hA0, hV, rfl, _, _⟩ := hW
  have hA : DataW.TrodAll enc Try.prog W 0 (fun _ => true) true Try.f4.params.toList args.toList ds p := hA0
  rw [Try.params4] at hA hval
  obtain ⟨v0, vs0, d0, ds0, p0, q0, hargs, rfl, rfl, h0, r0⟩ := trodAll_cons hA
  obtain ⟨rfl, rfl, rfl⟩ := trodAll_nil r0
  obtain rfl : args = #[v0] := by cases args; simp_all
  obtain ⟨rfl, rfl⟩ := trodVars_none hV
  clear hA0 hval0
  simp only [List.append_nil] at hW'
  have hlt : ∀ x ∈ p0, x.block < W.heap.size := fun x hx => by simpa using hW'.lt x hx
  obtain ⟨a0, len, cap, rfl⟩ := okWide_slice Try.underlying22 (hval 0 22 v0 rfl rfl)
  obtain ⟨hmx, hl⟩ := open_code h0
  unfold maxLen at hmx
  refine (walkDDone a0 len cap W hl (by omega)).mono fun e W' ⟨he, hB⟩ => ?_
  subst he
  have hargs : DataW.Trod enc Try.prog W' 0 (fun b => decide (b < W.heap.size)) true 22 (.slice a0 len cap) d0 p0 :=
    Below.trod laidOut (by kernel_rfl) (of_decide_eq_true (by kernel_rfl)) h0 hB hlt
  exact ⟨_, rfl, ⟨_, _, _, [], _, [], hW', trodAll_mk1 (shut_bool Try.underlying4 _), trodAll_mk1 hargs, rfl, hB.frame _, fun h => by cases h⟩⟩

theorem holdsDDone : Rows.FnDoneSaid :=
  OpenClaim.holds_of_wide 4 Try.f4 rfl rfl rfl rfl rfl rfl rfl ⟨rfl, rfl, rfl, rfl, rfl⟩ rfl rfl rfl rfl rfl (by kernel_rfl) Try.func4 (joined_of (by kernel_rfl) (by kernel_rfl) (by kernel_rfl) (by kernel_rfl) rfl rfl rfl (by kernel_rfl))
    (of_decide_eq_true (by kernel_rfl)) (by unfold Func.isWrapper; first | (rw [if_pos (by decide +kernel)]; kernel_rfl) | (rw [if_neg (by decide +kernel)]; exact ⟨rfl, rfl⟩))
    (fun os started H enc _ => liftedDDone os started H enc)
end Go.Proofs.Ytpobgjkmcmkkeaa
