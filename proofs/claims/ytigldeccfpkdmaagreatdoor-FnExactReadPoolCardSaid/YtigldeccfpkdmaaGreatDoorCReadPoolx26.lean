/- PoolOk of the program. The text of a pool, by the model: flags and counts. -/
import Derived.Test.YtigldeccfpkdmaaGreatDoorCReadPoolx20
import Derived.Test.YtigldeccfpkdmaaGreatDoorCReadPoolx21
import Derived.Test.YtigldeccfpkdmaaGreatDoorCReadPoolx25
import Derived.Test.YtigldeccfpkdmaaGreatDoorCReadPoolx10
namespace Go.Proofs.YtigldeccfpkdmaaGreatDoor
open Go.RowKit Go.BigFrame
theorem own_below {P : Program} {k : TypeId} {R : Value → Option (DataW Unit × List MemPlace)} {w w' : World} {b n : Nat} {D : DataW Unit} (h : w.ownsMap P k R b n D) (hb : Below w.heap.size w w') : w'.ownsMap P k R b n D := by
  have hlt := h.lt
  obtain ⟨es, clock, h1, r⟩ := h
  exact ⟨es, clock, (hb.block b hlt).trans h1, r⟩
theorem xgo_bound {size : Int} : ∀ {l : List Ex} {next : Int}, 0 ≤ next → size ≤ 400 → xgo size next l = true → ∀ x ∈ l, 0 ≤ x.a ∧ x.a ≤ 400
  | [], _, _, _, _, _, hx => by simp at hx
  | e :: r, next, h0, hs, h, x, hx => by
    simp only [xgo, Bool.and_eq_true, decide_eq_true_eq] at h
    obtain ⟨⟨⟨h1, h2⟩, h3⟩, h4⟩ := h
    have hd : 1 ≤ e.d.size := by
      simp only [dataOkB, Bool.and_eq_true, decide_eq_true_eq] at h1
      exact h1.1.1
    rcases List.mem_cons.1 hx with rfl | hx
    · omega
    · exact xgo_bound (by omega) hs h4 x hx
theorem space_wf {size : Int} {l : List Ex} (h : spaceOkB size l = true) : ∀ x ∈ l, (Lit.int .i64 x.a).wf = true := fun x hx => by
  simp only [spaceOkB, Bool.and_eq_true, decide_eq_true_eq] at h
  have := xgo_bound (by omega) h.1.1.2 h.2 x hx
  exact WalkArith.wf_i64 (by omega)
theorem parts_wf {ps : List Pt} {e : List Ex} (h : (contentO ps e).isSome = true) : ∀ p ∈ ps, (Lit.int .i64 p.a).wf = true := fun p hp => by
  have hk : partsOkB ps = true := by
    unfold contentO at h
    split at h
    · rename_i hh; exact hh.1
    · cases h
  obtain ⟨_, q2, _⟩ := partsOkB_all hk
  have := q2 p hp
  unfold partOkB at this
  split at this
  · rename_i h0
    have : p.a = 0 := by simpa using h0
    exact WalkArith.wf_i64 (by omega)
  · simp only [Bool.and_eq_true, decide_eq_true_eq] at this
    exact WalkArith.wf_i64 (by omega)
theorem name_small {s : ByteArray} (h : nameB s = true) : s.size ≤ maxLen := by
  simp only [nameB, Bool.and_eq_true, decide_eq_true_eq] at h
  unfold maxLen
  omega
theorem igo_name {e : List Ex} : ∀ {l : List It} {q : Option It}, igo e q l = true → ∀ x ∈ l, nameB x.nm = true
  | [], _, _, x, hx => by simp at hx
  | y :: r, q, h, x, hx => by
    simp only [igo, Bool.and_eq_true] at h
    rcases List.mem_cons.1 hx with rfl | hx
    · exact h.1.1.1
    · exact igo_name h.2 x hx
theorem wfV_of {next : Int} {e : List Ex} {l : List Vo} (hn : next ≤ 1000000000) (h : vgo next e 0 l = true) : WfV l := by
  intro v hv
  obtain ⟨h1, h2, h3, h4⟩ := vgo_each h v hv
  refine ⟨WalkArith.wf_i64 (by omega), fun x hx => ?_⟩
  simp only [itemsB, Bool.and_eq_true] at h1
  exact ⟨name_small (igo_name h1.2 x hx), parts_wf (igo_each h1.2 x hx)⟩
set_option maxHeartbeats 4000000 in
set_option maxRecDepth 100000 in
theorem impl_PoolOk (B : Nat) (v : Value) (p : Po) (w : World) (h : PoolAt B w v p) (hd : DimP p) :
    Calls Tryz.prog 41 #[v] w fun e w' => e = .returned (.bool (poolB p)) ∧ Below w.heap.size w w' := by
  obtain ⟨ea, en, ec, va, vn, vc, ra, rn, rc, la, ln, lc, rfl, ⟨h1, k1⟩, ⟨h2, k2⟩, ⟨h3, k3⟩, h4, k4⟩ := h
  obtain ⟨z1, z2, z3, z4, z5, z6, z7, z8⟩ := hd
  rw [h1.len] at z1
  rw [h2.len] at z3
  rw [h3.len] at z5
  rw [h4.len] at z7
  have n2 : Hid (p.vs.length = vn) := h2.len
  have n3 : Hid (p.rf.length = rn) := h3.len
  have n4 : Hid (p.lt.length = ln) := h4.len
  obtain ⟨size, next, ex, vs, rf, lt⟩ := p
  simp only at h1 h2 h3 h4 z2 z4 z6 z8 n2 n3 n4
  obtain ⟨pb, po, hpb⟩ : ∃ pb po, 0 < vn → va = some ⟨pb, po, none⟩ := by
    by_cases h0 : 0 < vn
    · obtain ⟨b, o, _, _, _, _, hv, _⟩ := vs_at h2 h0
      exact ⟨b, o, fun _ => hv⟩
    · exact ⟨0, 0, fun h => absurd h h0⟩
  have hR : Hid (poolB ⟨size, next, ex, vs, rf, lt⟩ = (spaceOkB size ex && decide (1 ≤ next) && decide (next ≤ 1000000000) && volsB next vs ex && namesB vs && (match flushedO rf lt with | none => false | some s => eqCts s (walkL vs)) && addrB ex (rf ++ lt))) := rfl
  generalize poolB ⟨size, next, ex, vs, rf, lt⟩ = R at *
  have C := (Blk.new w #[.int .i64 size, .int .i64 next, .slice ea en ec, .slice va vn vc, .slice ra rn rc, .slice la ln lc] 26)
  have hB0 : Below w.heap.size w (w.alloc (.cells #[.int .i64 size, .int .i64 next, .slice ea en ec, .slice va vn vc, .slice ra rn rc, .slice la ln lc] 26)) := by go_grown
  cases hok : spaceOkB size ex
  · rw [hok] at hR
    simp only [Bool.false_and] at hR
    go_enter Tryz.func41, Tryz.ntmps41
    go_wp2_with fail
    generalize w.alloc (.cells #[.int .i64 size, .int .i64 next, .slice ea en ec, .slice va vn vc, .slice ra rn rc, .slice la ln lc] 26) = W0 at *
    refine (impl_SpaceOk size ea en ec ex _ (h1.below hB0) z2 z1).mono ?_
    rintro e w1 ⟨rfl, hB1⟩
    rw [hok]
    go_wp2
    go_returns
    exact ⟨by rw [hR.out]; rfl, chain hB0 hB1⟩
  · rw [hok, Bool.true_and] at hR
    go_enter Tryz.func41, Tryz.ntmps41
    go_wp2_with fail
    generalize w.alloc (.cells #[.int .i64 size, .int .i64 next, .slice ea en ec, .slice va vn vc, .slice ra rn rc, .slice la ln lc] 26) = W0 at *
    refine (impl_SpaceOk size ea en ec ex _ (h1.below hB0) z2 z1).mono ?_
    rintro e w1 ⟨rfl, hB1⟩
    rw [hok]
    have C1 := C.below hB1
    replace hB1 := chain hB0 hB1
    clear C hB0
    have d0 := C1.cell 0
    have d1 := C1.cell 1
    have d2 := C1.cell 2
    have d3 := C1.cell 3
    have d4 := C1.cell 4
    have d5 := C1.cell 5
    simp only [lgA, lgB, lgC] at d0 d1 d2 d3 d4 d5
    by_cases hn1 : 1 ≤ next
    · rw [decide_eq_true hn1, Bool.true_and] at hR
      by_cases hn2 : next ≤ 1000000000
      · rw [decide_eq_true hn2, Bool.true_and] at hR
        have hvgo : Hid (volsB next vs ex = true → vs.length ≤ 6 ∧ vgo next ex 0 vs = true) := fun h => by simpa [volsB] using h
        go_wp2_with fail
        refine (impl_volsOk B size next ea en ec va vn vc ra rn rc la ln lc ex vs _ (h1.below hB1) (h2.below hB1) z1 z2 z3 z4).mono ?_
        rintro e w2 ⟨rfl, hB2⟩
        have C2 := C1.below hB2
        replace hB2 := chain hB1 hB2
        clear d0 d1 d2 d3 d4 d5 C1 hB1
        have d0 := C2.cell 0
        have d1 := C2.cell 1
        have d2 := C2.cell 2
        have d3 := C2.cell 3
        have d4 := C2.cell 4
        have d5 := C2.cell 5
        simp only [lgA, lgB, lgC] at d0 d1 d2 d3 d4 d5
        cases hvk : volsB next vs ex
        · rw [hvk] at hR
          simp only [Bool.false_and] at hR
          clear hvk
          go_wp2
          go_returns
          exact ⟨by rw [hR.out]; rfl, hB2⟩
        · obtain ⟨h6, hvg⟩ := hvgo.out hvk
          rw [hvk, Bool.true_and] at hR
          have hty := tiny_of h6 hvg
          have hwv := wfV_of hn2 hvg
          clear hvk hvgo
          go_wp2_with fail
          refine (impl_volumesOf B size next ea en ec va vn vc ra rn rc la ln lc vs pb po hpb _ (h2.below hB2) z3 z4).mono ?_
          rintro e w3 ⟨⟨mb, D, rfl, hmb, hO, hV⟩, hB3⟩
          have C3 := C2.below hB3
          replace hB3 := chain hB2 hB3
          clear d0 d1 d2 d3 d4 d5 C2 hB2
          have d3 := C3.cell 3
          have d4 := C3.cell 4
          have d5 := C3.cell 5
          simp only [lgA, lgB, lgC] at d3 d4 d5
          have hln := hO.len Tryz.underlying148 3
          have hfu := hV.full
          have hsz := hV.size
          rw [n2.out] at hfu hsz
          have hnb : Hid (namesB vs = decide (Maps.size D = vn)) := by show _ = _; unfold namesB; rw [decide_eq_decide]; exact hfu.symm
          rw [hnb.out] at hR
          by_cases hse : Maps.size D = vn
          · rw [decide_eq_true hse, Bool.true_and] at hR
            have hnd := hfu.1 hse
            rw [hse] at hln
            have hbn : ((vn : Int) != (vn : Int)) = false := by simp
            clear hfu hsz hnb hse
            go_wp2_with fail
            refine (impl_Flushed ra rn rc rf la ln lc lt _ (h3.below hB3) (h4.below hB3) z6 z8 z5 z7).mono ?_
            rintro e w4 ⟨hret, hB4⟩
            have C4 := C3.below hB4
            replace hO := own_below hO hB4
            replace hB4 := chain hB3 hB4
            clear d3 d4 d5 C3 hB3 hln
            cases hfl : flushedO rf lt with
            | none =>
              rw [hfl] at hret hR
              replace hret : e = .returned (.tuple #[.slice none 0 0, .bool false]) := hret
              subst hret
              clear hfl
              go_wp2
              go_returns
              exact ⟨by rw [hR.out]; rfl, hB4⟩
            | some sm =>
              rw [hfl] at hret hR
              replace hR : Hid (R = (eqCts sm (walkL vs) && addrB ex (rf ++ lt))) := hR
              obtain ⟨a4, n4', cap4, rfl, hn4, R4⟩ := hret
              have hrl : refsOkB rf = true ∧ lateOkB lt = true := by
                unfold flushedO at hfl
                split at hfl
                · rename_i hh; exact hh
                · cases hfl
              clear hfl
              go_wp2_with fail
              refine (impl_found B mb pb po D va vn vs hpb _ hO hV hnd (h2.below hB4) hty hwv).mono ?_
              rintro e w5 ⟨⟨a5, n5, cap5, rfl, hn5, R5⟩, hB5⟩
              replace R4 := R4.below hB5
              have C5 := C4.below hB5
              replace hB5 := chain hB4 hB5
              clear C4 hB4 hO
              go_wp2_with fail
              refine (slices_Equal a4 n4' cap4 sm a5 n5 cap5 (walkL vs) _ R4.sl R5.sl (by omega) (by omega)).mono ?_
              rintro e w6 ⟨rfl, hB6⟩
              have C6 := C5.below hB6
              replace hB6 := chain hB5 hB6
              clear R4 R5 C5 hB5
              have d0 := C6.cell 0
              have d1 := C6.cell 1
              have d2 := C6.cell 2
              have d3 := C6.cell 3
              have d4 := C6.cell 4
              have d5 := C6.cell 5
              simp only [lgA, lgB, lgC] at d0 d1 d2 d3 d4 d5
              cases hM : eqCts sm (walkL vs)
              · rw [hM] at hR
                simp only [Bool.false_and] at hR
                clear hM
                go_wp2
                go_returns
                exact ⟨by rw [hR.out]; rfl, hB6⟩
              · rw [hM, Bool.true_and] at hR
                have hrw := (refs_wf hrl.1).1
                have hlw := (late_wf hrl.2).1
                have hr2 := (refs_bound hrl.1).1
                have hl2 := (late_bound hrl.2).1
                rw [n3.out] at hr2
                rw [n4.out] at hl2
                clear hM
                go_wp2_with fail
                refine (impl_addrsOk size next ea en ec va vn vc ra rn rc la ln lc ex rf lt _ (h1.below hB6) (h3.below hB6) (h4.below hB6) z1 hr2 hl2 (space_wf hok) (fun c hc => (hrw c hc).a) (fun c hc => (hlw c hc).a) (space_nodup hok)).mono ?_
                rintro e w7 ⟨rfl, hB7⟩
                go_wp2
                go_returns
                exact ⟨by rw [hR.out]; rfl, chain hB6 hB7⟩
          · rw [decide_eq_false hse] at hR
            simp only [Bool.false_and] at hR
            have hbn : ((Maps.size D : Int) != (vn : Int)) = true := by simp; omega
            go_wp2
            go_returns
            exact ⟨by rw [hR.out]; rfl, hB3⟩
      · rw [decide_eq_false hn2] at hR
        simp only [Bool.false_and] at hR
        go_wp2
        go_returns
        exact ⟨by rw [hR.out]; rfl, hB1⟩
    · rw [decide_eq_false hn1] at hR
      simp only [Bool.false_and] at hR
      go_wp2
      go_returns
      exact ⟨by rw [hR.out]; rfl, hB1⟩
end Go.Proofs.YtigldeccfpkdmaaGreatDoor
namespace Go.Proofs.YtigldeccfpkdmaaGreatDoor
open Go Go.RowKit Go.BigFrame Go.Shelf
theorem cat_dn {a b : ByteArray} (h : (a ++ b).size ≤ 1000000) : ¬ 9223372036854775807 < a.size + b.size ∧ a.size ≤ 1000000 := by
  rw [app_size] at h; omega
theorem spec_l7Flag (b : Bool) (w : World) : Calls Tryz.prog 157 #[.bool b] w fun e w' => e = .returned (.string (flagB b)) ∧ w' = w := by
  cases b <;> (go_enter Tryz.func157, Tryz.ntmps157; go_wp2; go_returns; exact ⟨rfl, rfl⟩)
theorem ct_line (s word da dv f dn : ByteArray) : s ++ word ++ ⟨#[32]⟩ ++ da ++ ⟨#[32]⟩ ++ dv ++ ⟨#[32]⟩ ++ f ++ ⟨#[32]⟩ ++ dn ++ ⟨#[10]⟩ = (⟨(s.data.toList ++ lineL [word, da, dv, f, dn]).toArray⟩ : ByteArray) := by
  refine ba_eqX ?_
  unfold lineL
  simp [word_step, word_one, ByteArray.data_append]
theorem ctsW_take {word : ByteArray} {l : List Ct} {k : Nat} {c : Ct} (h : l[k]? = some c) : ctsW word (l.take (k + 1)) = ctsW word (l.take k) ++ lineL (ctL word c) := flat_step h
set_option maxHeartbeats 4000000 in
set_option maxRecDepth 100000 in
theorem spec_l7Counts (word : ByteArray) (a : Option Addr) (n cap : Nat) (l : List Ct) (w : World) (h : CtsAt w a n l) (hn : n ≤ 4194304) (hN : ∀ c ∈ l, Num c.o.a ∧ Num c.o.v ∧ Num c.n) (hlen : (ctsW word l).length ≤ 1000000) :
    Calls Tryz.prog 158 #[.string word, .slice a n cap] w fun e w' => e = .returned (.string ⟨(ctsW word l).toArray⟩) ∧ Below w.heap.size w w' := by
  have hll : Hid (l.length = n) := h.len
  obtain ⟨R, hR⟩ : ∃ R, Hid (ctsW word l = R) := ⟨_, rfl⟩
  have hlen' := Hid.mk' hlen
  rw [hR.out]
  clear hlen
  go_enter Tryz.func158, Tryz.ntmps158
  go_wp2_with fail
  go_loopw [5, 6] (fun s ix wr => ∃ (k : Nat) (o : ByteArray), k ≤ n ∧ ix = .int .i64 k ∧ s = .string o ∧ Hid (o.data.toList = ctsW word (l.take k)) ∧ Below w.heap.size w wr) (fun _ ix _ => n - (intOf ix).toNat)
  case atStart => exact ⟨0, .empty, Nat.zero_le _, rfl, rfl, rfl, Below.refl _ _⟩
  case round =>
    obtain ⟨k, o, hk, rfl, rfl, ho, hB⟩ := hrel
    by_cases hlt : k < n
    · obtain ⟨b, q, c, rfl, hc, c0, c1, c2, c3⟩ := cts_at (h.below hB) hlt
      obtain ⟨⟨na1, na2⟩, ⟨nv1, nv2⟩, nn1, nn2⟩ := hN c (List.mem_of_getElem? hc)
      have hst : Hid (ctsW word (l.take (k + 1)) = ctsW word (l.take k) ++ lineL (ctL word c)) := ctsW_take hc
      have hlp := flat_len1 (P := []) (f := fun c => lineL (ctL word c)) hc (by simpa [ctsW] using hlen'.out)
      have hol : o.size = (ctsW word (l.take k)).length := by rw [← ho.out]; rfl
      have hcl := ct_line o word (decB c.o.a) (decB c.o.v) c.o.f (decB c.n)
      have hcs := congrArg ByteArray.size hcl
      have hrs : ((⟨(o.data.toList ++ lineL [word, decB c.o.a, decB c.o.v, c.o.f, decB c.n]).toArray⟩ : ByteArray)).size ≤ 1000000 := by
        show (o.data.toList ++ lineL _).toArray.size ≤ _
        rw [List.size_toArray, ho.out]
        simpa [ctsW, ctL] using hlp
      rw [← hcs] at hrs
      have hcl' : Hid (o ++ word ++ ⟨#[32]⟩ ++ decB c.o.a ++ ⟨#[32]⟩ ++ decB c.o.v ++ ⟨#[32]⟩ ++ c.o.f ++ ⟨#[32]⟩ ++ decB c.n ++ ⟨#[10]⟩ = (⟨(o.data.toList ++ lineL (ctL word c)).toArray⟩ : ByteArray)) := hcl
      obtain ⟨d1, hd1⟩ : ∃ z, Hid (decB c.o.a = z) := ⟨_, rfl⟩
      obtain ⟨d2, hd2⟩ : ∃ z, Hid (decB c.o.v = z) := ⟨_, rfl⟩
      obtain ⟨d3, hd3⟩ : ∃ z, Hid (decB c.n = z) := ⟨_, rfl⟩
      have k1 : ∀ u : World, Calls Tryz.prog 122 #[.int .i64 c.o.a] u fun e w' => e = .returned (.string d1) ∧ Below u.heap.size u w' := fun u => by rw [← hd1.out]; exact spec_l1Dec c.o.a u na1 na2
      have k2 : ∀ u : World, Calls Tryz.prog 122 #[.int .i64 c.o.v] u fun e w' => e = .returned (.string d2) ∧ Below u.heap.size u w' := fun u => by rw [← hd2.out]; exact spec_l1Dec c.o.v u nv1 nv2
      have k3 : ∀ u : World, Calls Tryz.prog 122 #[.int .i64 c.n] u fun e w' => e = .returned (.string d3) ∧ Below u.heap.size u w' := fun u => by rw [← hd3.out]; exact spec_l1Dec c.n u nn1 nn2
      rw [hd1.out, hd2.out, hd3.out] at hrs
      unfold Hid at hcl'
      rw [hd1.out, hd2.out, hd3.out] at hcl'
      obtain ⟨o', ho'⟩ : ∃ z, Hid (z = (⟨(o.data.toList ++ lineL (ctL word c)).toArray⟩ : ByteArray)) := ⟨_, rfl⟩
      replace hcl' : Hid (_ = o') := hcl'.trans ho'.out.symm
      obtain ⟨ff, hff⟩ : ∃ z, c.o.f = z := ⟨_, rfl⟩
      rw [hff] at hrs hcl' c2
      clear hcl hcs hlp hol hst
      replace hrs : (o ++ word ++ ⟨#[32]⟩ ++ d1 ++ ⟨#[32]⟩ ++ d2 ++ ⟨#[32]⟩ ++ ff ++ ⟨#[32]⟩ ++ d3 ++ ⟨#[10]⟩).size ≤ 1000000 := hrs
      obtain ⟨e10, hrs⟩ := cat_dn hrs
      obtain ⟨e9, hrs⟩ := cat_dn hrs
      obtain ⟨e8, hrs⟩ := cat_dn hrs
      obtain ⟨e7, hrs⟩ := cat_dn hrs
      obtain ⟨e6, hrs⟩ := cat_dn hrs
      obtain ⟨e5, hrs⟩ := cat_dn hrs
      obtain ⟨e4, hrs⟩ := cat_dn hrs
      obtain ⟨e3, hrs⟩ := cat_dn hrs
      obtain ⟨e2, hrs⟩ := cat_dn hrs
      obtain ⟨e1, hrs⟩ := cat_dn hrs
      have hlt' : (k : Int) < n := by omega
      have q0 := gcell c0
      have q1 := gcell c1
      have q2 := gcell c2
      have q3 := gcell c3
      go_wp2_with fail
      refine wp_region_grow (by kernel_rfl) (by kernel_rfl) ?_
      have hne := grw_ne wr
      iterate 11 (go_big_quiet_step (first | (go_at_call 122; exact grow_of (k1 _))))
      iterate 9 (go_big_quiet_step (first | (go_at_call 122; exact grow_of (k2 _))))
      iterate 19 (go_big_quiet_step (first | (go_at_call 122; exact grow_of (k3 _))))
      refine wpQuiet_nil ?_
      intro w2 hx2
      have hB2 := chain hB (grw_out hx2)
      clear hx2
      go_wp2
      go_roundw
      case rel =>
        refine ⟨k + 1, _, by omega, by go_num, rfl, ?_, hB2⟩
        show _ = _
        rw [hcl'.out, ho'.out, ctsW_take hc, ← ho.out]
      case measure => simp [intOf]; omega
    · obtain rfl : k = n := by omega
      have hlt' : ¬ (k : Int) < k := by omega
      go_wp2
      go_returns
      rw [List.take_of_length_le (by rw [hll.out]; exact Nat.le_refl _), hR.out] at ho
      have hoR : o = ⟨R.toArray⟩ := ba_eqX (by simpa using ho.out)
      subst hoR
      exact ⟨rfl, hB⟩
end Go.Proofs.YtigldeccfpkdmaaGreatDoor
