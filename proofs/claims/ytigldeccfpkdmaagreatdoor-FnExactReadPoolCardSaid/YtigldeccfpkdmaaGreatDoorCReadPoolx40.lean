/- A pool read by the model. -/
import Derived.Test.YtigldeccfpkdmaaGreatDoorCReadPoolx36
import Derived.Test.YtigldeccfpkdmaaGreatDoorCReadPoolx37
import Derived.Test.YtigldeccfpkdmaaGreatDoorCReadPoolx38
import Derived.Test.YtigldeccfpkdmaaGreatDoorCReadPoolx39
import Derived.Test.YtigldeccfpkdmaaGreatDoorCReadPoolx21
import Derived.Test.YtigldeccfpkdmaaGreatDoorCReadPoolx28
namespace Go.Proofs.YtigldeccfpkdmaaGreatDoor
open Go Go.RowKit Go.BigFrame
theorem spec_l7Line (B K : Nat) (v : Value) (p : Po) (line : ByteArray) (w : World) (h : PoolM B w v p) (hB : B ≤ w.heap.size) (hK : K ≤ 60000) (hd : DimM K p) (hl : line.size ≤ 60000) :
    Calls Tryz.prog 36 #[v, .string line] w fun e w' => (∃ v', e = .returned v' ∧ PoolM B w' v' (lineF p line.data.toList)) ∧ Below B w w' := by
  obtain ⟨g, hg⟩ : ∃ g, grpL (wordQ (wdsA line.data.toList) 0) = g := ⟨_, rfl⟩
  have h4 : g = 0 ∨ g = 1 ∨ g = 2 ∨ g = 3 := by
    rw [← hg]
    unfold grpL
    repeat' (first | (split) | (simp; done))
  rcases h4 with rfl | rfl | rfl | rfl
  · exact spec_l7Line0 B K v p line w h hB hK hd hl hg
  · exact spec_l7Line1 B K v p line w h hB hK hd hl hg
  · exact spec_l7Line2 B K v p line w h hB hK hd hl hg
  · exact spec_l7Line3 B K v p line w h hB hK hd hl hg
theorem PoolM.mono {B B' : Nat} {w : World} {v : Value} {p : Po} (h : PoolM B w v p) (hb : B' ≤ B) : PoolM B' w v p := by
  obtain ⟨ea, en, ec, va, vn, vc, ra, rn, rc, la, ln, lc, vr, e, h1, h2, h3, h4, h5, h6, h7, h8⟩ := h.out
  exact ⟨ea, en, ec, va, vn, vc, ra, rn, rc, la, ln, lc, vr, e, h1.mono hb, h2.mono hb, h3.mono hb, h4.mono hb, h5, h6.imp fun _ _ _ h => ⟨h.id, h.nm, h.fx, h.rows.mono hb, h.its.imp fun _ _ _ h => ⟨h.nm, h.ps.mono hb⟩⟩, h7, h8⟩
theorem PoolM.agg6 {B : Nat} {w : World} {v : Value} {p : Po} (h : PoolM B w v p) : ∃ x0 x1 x2 x3 x4 x5, v = .agg #[x0, x1, x2, x3, x4, x5] := by
  obtain ⟨ea, en, ec, va, vn, vc, ra, rn, rc, la, ln, lc, vr, e, _⟩ := h.out
  exact ⟨_, _, _, _, _, _, e⟩
theorem results_cell_tmpM {P : Program} {fn : Func} {p q : Tmp} {ty : TypeId} (h : fn.results = #[.cell p ty, .tmp q]) (tmps : Array Value) (w : World) (g : Nat) (t : TypeId) (cs : Array Value) (fr : Nat × Nat) (d : TypeDesc) (v : Value)
    (hp : tmps.getD p undef = .pointer (some ⟨g, 0, none⟩)) (hq : tmps.getD q undef = v) (hg : w.heap[g]? = some (.cells cs t fr))
    (hu : P.underlying ty = some d) (hd : (match d with | .struct _ | .array _ _ => true | _ => false) = true) (hi : (P.info? ty).map (·.size) = some cs.size) :
    (results fn tmps).run P w = .ok (.tuple #[.agg cs, v]) w := by
  have hp' : tmps[p]?.getD undef = .pointer (some ⟨g, 0, none⟩) := by simpa using hp
  have hq' : tmps[q]?.getD undef = v := by simpa using hq
  simp [results, h, hp', hq', asAddr, run_loadVar_row w g t ty cs fr d hg hu hd hi]
theorem lnsB_fuel : ∀ (n k k' : Nat) (l : By), l.length ≤ n → l.length ≤ k → l.length ≤ k' → lnsB k l = lnsB k' l
  | 0, k, k', l, h, _, _ => by
    obtain rfl := List.eq_nil_of_length_eq_zero (Nat.le_zero.1 h)
    cases k <;> cases k' <;> rfl
  | n + 1, k, k', l, h, h1, h2 => by
    by_cases hl : l = []
    · subst hl
      cases k <;> cases k' <;> rfl
    · have hp : 0 < l.length := List.length_pos_iff.2 hl
      obtain ⟨k, rfl⟩ : ∃ j, k = j + 1 := ⟨k - 1, by omega⟩
      obtain ⟨k', rfl⟩ : ∃ j, k' = j + 1 := ⟨k' - 1, by omega⟩
      rw [lnsB, lnsB, if_neg hl, if_neg hl]
      cases hc : cutB 10 l with
      | none => rfl
      | some q =>
        have : q.2.length < l.length := by
          obtain ⟨h1, _⟩ := cutB_some (a := q.1) (b := q.2) hc
          rw [h1]; simp; omega
        simp only
        rw [lnsB_fuel n k k' q.2 (by omega) (by omega) (by omega)]
theorem lnsB_none {l : By} (h : l ≠ []) (hc : cutB 10 l = none) : lnsB l.length l = none := by
  have hp : 0 < l.length := List.length_pos_iff.2 h
  obtain ⟨k, hk⟩ : ∃ j, l.length = j + 1 := ⟨l.length - 1, by omega⟩
  rw [hk, lnsB, if_neg h, hc]
theorem lnsB_cons {l : By} {q : By × By} (h : l ≠ []) (hc : cutB 10 l = some q) : lnsB l.length l = (lnsB q.2.length q.2).map (q.1 :: ·) ∧ q.2.length < l.length ∧ q.1.length < l.length := by
  obtain ⟨h1, _⟩ := cutB_some (a := q.1) (b := q.2) hc
  have h2 := congrArg List.length h1
  simp at h2
  obtain ⟨k, hk⟩ : ∃ j, l.length = j + 1 := ⟨l.length - 1, by omega⟩
  refine ⟨?_, by omega, by omega⟩
  rw [hk, lnsB, if_neg h, hc]
  simp only
  rw [lnsB_fuel _ k q.2.length q.2 (Nat.le_refl _) (by omega) (Nat.le_refl _)]
/-- What is answered of a text. -/
noncomputable def ansO (s : By) : Option Po := if s.length ≤ 60000 then readO s else none
theorem readO_nil : readO [] = none := by rw [readI_o]; rfl
theorem text_empty : textO emptyP = ⟨#[]⟩ := by
  unfold textO
  rw [if_neg]
  intro h
  have := nice_of h
  simp only [poolB, Bool.and_eq_true, decide_eq_true_eq] at h
  have h1 := h.1.1.1.1.1.2
  simp [emptyP] at h1
set_option maxHeartbeats 8000000 in
set_option maxRecDepth 100000 in
theorem spec_ReadPool (s : ByteArray) (w : World) (hs : s.size ≤ 2000000) (hw : 0 < w.heap.size) :
    Calls Tryz.prog 9 #[.string s] w fun e w' => (∃ v, e = .returned (.tuple #[v, .bool (ansO s.data.toList).isSome]) ∧ PoolM w.heap.size w' v ((ansO s.data.toList).getD emptyP)) ∧ Below w.heap.size w w' := by
  obtain ⟨A, hA⟩ : ∃ A, Hid (ansO s.data.toList = A) := ⟨_, rfl⟩
  rw [hA.out]
  have hsz : Hid (s.size = s.data.toList.length) := Lib.size_eq s
  go_enter Tryz.func9, Tryz.ntmps9
  go_wp2_with fail
  go_loopw [5] (fun sv wr => ∃ (rest : ByteArray) (p : Po) (k : Nat) (x0 x1 x2 x3 x4 x5 : Value), sv = .string rest ∧ Blk wr w.heap.size #[.int .i64 0, .int .i64 0, .slice none 0 0, .slice none 0 0, .slice none 0 0, .slice none 0 0] 26 ∧ Blk wr (w.heap.size + 1) #[x0, x1, x2, x3, x4, x5] 26 ∧ PoolM (w.heap.size + 2) wr (.agg #[x0, x1, x2, x3, x4, x5]) p ∧ DimM k p ∧ DimS 60000 p ∧ k ≤ 60000 ∧ (s.size ≤ 60000 → k + rest.size ≤ s.size) ∧ (60000 < s.size → rest = s ∧ p = emptyP) ∧ Hid (s.size ≤ 60000 → readM s.data.toList = (lnsB rest.data.toList.length rest.data.toList).map (·.foldl lineF p)) ∧ Below w.heap.size w wr) (fun sv _ => match sv with | .string r => r.size | _ => 0)
  case atStart =>
    refine ⟨s, emptyP, 0, _, _, _, _, _, _, rfl, ?_, ?_, emptyM _ _, dim_empty.1, dim_empty.2, by omega, fun _ => by omega, fun _ => ⟨rfl, rfl⟩, fun _ => rfl, by go_grown⟩
    · exact (Blk.new w _ _).below ((Below.refl _ _).alloc (Nat.le_refl _) _)
    · exact Blk.new' _ _ _ _ (by simp)
  case round =>
    obtain ⟨rest, p, k, x0, x1, x2, x3, x4, x5, rfl, RB, PB, M, hd, hS, hk, hsm, hbg, hI, hB⟩ := hrel
    rcases Nat.lt_or_ge 60000 s.size with hb | hb
    · obtain ⟨rfl, rfl⟩ := hbg hb
      have hAn : A = none := by rw [← hA.out, ansO, if_neg (by have := hsz.out; omega)]
      subst hAn
      have hne : rest.toList.isEmpty = false := Bool.eq_false_iff.2 fun e => by
        rw [ByteArray.toList_eq] at e
        have hsz := hsz.out
        rw [List.isEmpty_iff.1 e] at hsz
        simp only [List.length_nil] at hsz
        omega
      have hneP : ¬ rest.toList = [] := fun e => by rw [e] at hne; cases hne
      generalize hp : emptyP = p at *
      obtain ⟨v0, v1, v2, v3, v4, v5⟩ := PB.sixM
      have q := spec_PoolText (w.heap.size + 2) (by omega) _ p wr M.at (hd.dimP hk hS) numO_of
      obtain ⟨T, hT⟩ : ∃ T, Hid (textO p = T) := ⟨_, rfl⟩
      rw [hT.out] at q
      go_wp2_with fail
      refine q.mono ?_
      rintro e w1 ⟨rfl, hb1⟩
      clear q v0 v1 v2 v3 v4 v5
      replace RB := RB.below hb1
      replace PB := PB.below hb1
      replace M := M.below hb1
      replace hB := chain hB hb1
      clear hb1
      obtain ⟨r0, r1, r2, r3, r4, r5⟩ := RB.sixM
      have g0 := RB.frozen 0
      have g1 := RB.frozen 1
      have g2 := RB.frozen 2
      have g3 := RB.frozen 3
      have g4 := RB.frozen 4
      have g5 := RB.frozen 5
      obtain ⟨v0, v1, v2, v3, v4, v5⟩ := PB.sixM
      have hTn : (T.toList == rest.toList) = false := by
        rw [beq_eq_false_iff_ne, ByteArray.toList_eq, ByteArray.toList_eq, ← hT.out, ← hp, text_empty]
        intro e
        have hsz := hsz.out
        rw [← e] at hsz
        simp only [List.length_nil] at hsz
        omega
      go_wp2
      subst hp
      obtain ⟨E8, M8, hB8⟩ := put6_all (p := emptyP) RB hB (Nat.le_refl _) (emptyM w.heap.size w1)
      change bodyPost _ _ _ _ _ (put6 w1 w.heap.size (.int .i64 0) (.int .i64 0) (.slice none 0 0) (.slice none 0 0) (.slice none 0 0) (.slice none 0 0))
      generalize put6 w1 w.heap.size (.int .i64 0) (.int .i64 0) (.slice none 0 0) (.slice none 0 0) (.slice none 0 0) (.slice none 0 0) = W8 at *
      refine bodyPost_ret (results_cell_tmpM rfl _ W8 w.heap.size _ _ _ _ _ rfl rfl E8 Tryz.underlying26 rfl (by kernel_rfl)) rfl ?_
      exact ⟨⟨_, rfl, M8⟩, hB8⟩
    · have hIr := hI.out hb
      by_cases hr : rest.data.toList = []
      · have hreP : rest.toList = [] := by rw [ByteArray.toList_eq, hr]
        have hre : rest.toList.isEmpty = true := by rw [ByteArray.toList_eq, hr]; rfl
        rw [hr] at hIr
        have hRM : readM s.data.toList = some p := by rw [hIr]; rfl
        clear hIr hI
        by_cases hse : s.data.toList = []
        · have hseP : s.toList = [] := by rw [ByteArray.toList_eq, hse]
          have hse2 : s.toList.isEmpty = true := by rw [ByteArray.toList_eq, hse]; rfl
          have hAn : A = none := by rw [← hA.out, ansO, if_pos (by have := hsz.out; omega), hse, readO_nil]
          subst hAn
          obtain ⟨r0, r1, r2, r3, r4, r5⟩ := RB.sixM
          have g0 := RB.frozen 0
          have g1 := RB.frozen 1
          have g2 := RB.frozen 2
          have g3 := RB.frozen 3
          have g4 := RB.frozen 4
          have g5 := RB.frozen 5
          go_wp2
          obtain ⟨E8, M8, hB8⟩ := put6_all (p := emptyP) RB hB (Nat.le_refl _) (emptyM w.heap.size wr)
          change bodyPost _ _ _ _ _ (put6 wr w.heap.size (.int .i64 0) (.int .i64 0) (.slice none 0 0) (.slice none 0 0) (.slice none 0 0) (.slice none 0 0))
          generalize put6 wr w.heap.size (.int .i64 0) (.int .i64 0) (.slice none 0 0) (.slice none 0 0) (.slice none 0 0) (.slice none 0 0) = W8 at *
          refine bodyPost_ret (results_cell_tmpM rfl _ W8 w.heap.size _ _ _ _ _ rfl rfl E8 Tryz.underlying26 rfl (by kernel_rfl)) rfl ?_
          exact ⟨⟨_, rfl, M8⟩, hB8⟩
        · have hseP : ¬ s.toList = [] := by rw [ByteArray.toList_eq]; exact hse
          have hse2 : s.toList.isEmpty = false := Bool.eq_false_iff.2 fun e => hse (by rw [ByteArray.toList_eq] at e; exact List.isEmpty_iff.1 e)
          have hAe : Hid (A = if textO p = s then some p else none) := by
            show _ = _
            rw [← hA.out, ansO, if_pos (by have := hsz.out; omega), readM_o s hse, hRM]
            rfl
          clear hRM
          obtain ⟨v0, v1, v2, v3, v4, v5⟩ := PB.sixM
          have q := spec_PoolText (w.heap.size + 2) (by omega) _ p wr M.at (hd.dimP hk hS) numO_of
          obtain ⟨T, hT⟩ : ∃ T, Hid (textO p = T) := ⟨_, rfl⟩
          rw [hT.out] at q
          go_wp2_with fail
          refine q.mono ?_
          rintro e w1 ⟨rfl, hb1⟩
          clear q v0 v1 v2 v3 v4 v5
          replace RB := RB.below hb1
          replace PB := PB.below hb1
          replace M := M.below hb1
          replace hB := chain hB hb1
          clear hb1
          obtain ⟨r0, r1, r2, r3, r4, r5⟩ := RB.sixM
          have g0 := RB.frozen 0
          have g1 := RB.frozen 1
          have g2 := RB.frozen 2
          have g3 := RB.frozen 3
          have g4 := RB.frozen 4
          have g5 := RB.frozen 5
          obtain ⟨v0, v1, v2, v3, v4, v5⟩ := PB.sixM
          rw [hT.out] at hAe
          by_cases hTs : T = s
          · have hTn : (T.toList == s.toList) = true := by rw [hTs]; simp
            rw [if_pos hTs] at hAe
            have := hAe.out
            subst this
            obtain ⟨ea, en, ec, va, vn, vc, ra, rn, rc, la, ln, lc, vr, ev, _⟩ := M.out
            cases ev
            go_wp2
            obtain ⟨E8, M8, hB8⟩ := put6_all RB hB (Nat.le_refl _) (M.mono (by omega))
            change bodyPost _ _ _ _ _ (put6 w1 w.heap.size (.int .i64 p.size) (.int .i64 p.next) (.slice ea en ec) (.slice va vn vc) (.slice ra rn rc) (.slice la ln lc))
            generalize put6 w1 w.heap.size (.int .i64 p.size) (.int .i64 p.next) (.slice ea en ec) (.slice va vn vc) (.slice ra rn rc) (.slice la ln lc) = W8 at *
            refine bodyPost_ret (results_cell_tmpM rfl _ W8 w.heap.size _ _ _ _ _ rfl rfl E8 Tryz.underlying26 rfl (by kernel_rfl)) rfl ?_
            exact ⟨⟨_, rfl, M8⟩, hB8⟩
          · have hTn : (T.toList == s.toList) = false := by
              rw [beq_eq_false_iff_ne, ByteArray.toList_eq, ByteArray.toList_eq]
              exact fun e => hTs (ByteArray.ext (Array.ext' e))
            rw [if_neg hTs] at hAe
            have := hAe.out
            subst this
            go_wp2
            obtain ⟨E8, M8, hB8⟩ := put6_all (p := emptyP) RB hB (Nat.le_refl _) (emptyM w.heap.size w1)
            change bodyPost _ _ _ _ _ (put6 w1 w.heap.size (.int .i64 0) (.int .i64 0) (.slice none 0 0) (.slice none 0 0) (.slice none 0 0) (.slice none 0 0))
            generalize put6 w1 w.heap.size (.int .i64 0) (.int .i64 0) (.slice none 0 0) (.slice none 0 0) (.slice none 0 0) (.slice none 0 0) = W8 at *
            refine bodyPost_ret (results_cell_tmpM rfl _ W8 w.heap.size _ _ _ _ _ rfl rfl E8 Tryz.underlying26 rfl (by kernel_rfl)) rfl ?_
            exact ⟨⟨_, rfl, M8⟩, hB8⟩
      · have hreP : ¬ rest.toList = [] := by rw [ByteArray.toList_eq]; exact hr
        have hre : rest.toList.isEmpty = false := Bool.eq_false_iff.2 fun e => hr (by rw [ByteArray.toList_eq] at e; exact List.isEmpty_iff.1 e)
        have hrz : Hid (rest.size = rest.data.toList.length) := Lib.size_eq rest
        have hks := hsm hb
        go_wp2_with fail
        refine (spec_l1Cut 10 rest wr (by omega)).mono ?_
        rintro e w1 ⟨rfl, hb1⟩
        replace RB := RB.below hb1
        replace PB := PB.below hb1
        replace M := M.below hb1
        replace hB := chain hB hb1
        clear hb1
        cases hc : cutB 10 rest.data.toList with
        | none =>
          have hv : cutV 10 rest = .tuple #[.string rest, .string ⟨#[]⟩, .bool false] := by unfold cutV; rw [hc]
          have hAn : A = none := by
            rw [← hA.out, ansO, if_pos (by have := hsz.out; omega), readM_o s (by intro e; have hsz := hsz.out; rw [e] at hsz; simp only [List.length_nil] at hsz; rw [hrz.out] at hks; have := List.length_pos_iff.2 hr; omega), hIr, lnsB_none hr hc]
            rfl
          subst hAn
          rw [hv]
          clear hv hc hI hIr
          obtain ⟨r0, r1, r2, r3, r4, r5⟩ := RB.sixM
          have g0 := RB.frozen 0
          have g1 := RB.frozen 1
          have g2 := RB.frozen 2
          have g3 := RB.frozen 3
          have g4 := RB.frozen 4
          have g5 := RB.frozen 5
          go_wp2
          obtain ⟨E8, M8, hB8⟩ := put6_all (p := emptyP) RB hB (Nat.le_refl _) (emptyM w.heap.size w1)
          change bodyPost _ _ _ _ _ (put6 w1 w.heap.size (.int .i64 0) (.int .i64 0) (.slice none 0 0) (.slice none 0 0) (.slice none 0 0) (.slice none 0 0))
          generalize put6 w1 w.heap.size (.int .i64 0) (.int .i64 0) (.slice none 0 0) (.slice none 0 0) (.slice none 0 0) (.slice none 0 0) = W8 at *
          refine bodyPost_ret (results_cell_tmpM rfl _ W8 w.heap.size _ _ _ _ _ rfl rfl E8 Tryz.underlying26 rfl (by kernel_rfl)) rfl ?_
          exact ⟨⟨_, rfl, M8⟩, hB8⟩
        | some q =>
          have hv : cutV 10 rest = .tuple #[.string (bA q.1), .string (bA q.2), .bool true] := by unfold cutV; rw [hc]
          obtain ⟨hq1, hq2, hq3⟩ := lnsB_cons hr hc
          rw [hq1] at hIr
          obtain ⟨line, hln⟩ : ∃ x, Hid (bA q.1 = x) := ⟨_, rfl⟩
          obtain ⟨more, hmo⟩ : ∃ x, Hid (bA q.2 = x) := ⟨_, rfl⟩
          have hl1 : line.data.toList = q.1 := by rw [← hln.out, bA_list]
          have hm1 : more.data.toList = q.2 := by rw [← hmo.out, bA_list]
          have hlz : line.size ≤ 60000 := by rw [Lib.size_eq, hl1]; have := hrz.out; omega
          have hmz : more.size + 1 ≤ rest.size := by rw [Lib.size_eq, hm1, hrz.out]; omega
          have hI2 : Hid (s.size ≤ 60000 → readM s.data.toList = (lnsB more.data.toList.length more.data.toList).map (·.foldl lineF (lineF p line.data.toList))) := fun _ => by
            rw [hIr, hm1, hl1]
            cases lnsB q.2.length q.2 <;> rfl
          have hd2 := hd.line line.data.toList
          have hS2 := hS.line line.data.toList (by rw [← Lib.size_eq]; exact hlz)
          rw [hln.out, hmo.out] at hv
          rw [hv]
          clear hv hc hI hIr hq1 hln hmo hl1 hm1
          obtain ⟨v0, v1, v2, v3, v4, v5⟩ := PB.sixM
          have hw1 := hB.size
          have hwp := PB.lt
          go_wp2_with fail
          refine (spec_l7Line (w.heap.size + 2) k _ p line w1 M (by omega) (by omega) hd hlz).mono ?_
          rintro e w2 ⟨⟨v', rfl, M2⟩, hb2⟩
          obtain ⟨y0, y1, y2, y3, y4, y5, rfl⟩ := M2.agg6
          clear v0 v1 v2 v3 v4 v5
          have RB2 : Blk w2 w.heap.size #[.int .i64 0, .int .i64 0, .slice none 0 0, .slice none 0 0, .slice none 0 0, .slice none 0 0] 26 := (hb2.block _ (by omega)).trans RB
          have PB2 : Blk w2 (w.heap.size + 1) #[x0, x1, x2, x3, x4, x5] 26 := (hb2.block _ (by omega)).trans PB
          obtain ⟨ea, en, ec, va, vn, vc, ra, rn, rc, la, ln, lc, vr, ev, _⟩ := M2.out
          obtain ⟨P0, hP0⟩ : ∃ P0, Hid (lineF p line.data.toList = P0) := ⟨_, rfl⟩
          rw [hP0.out] at M2 hd2 hS2 hI2 ev
          cases ev
          have hB2 : Below w.heap.size w w2 := hB.trans (hb2.mono (by omega))
          clear RB PB hB M hb2
          obtain ⟨v0, v1, v2, v3, v4, v5⟩ := PB2.sixM
          have g0 := PB2.frozen 0
          have g1 := PB2.frozen 1
          have g2 := PB2.frozen 2
          have g3 := PB2.frozen 3
          have g4 := PB2.frozen 4
          have g5 := PB2.frozen 5
          go_wp2
          have hg9 : w2.grownBy (put6 w2 (w.heap.size + 1) (.int .i64 P0.size) (.int .i64 P0.next) (.slice ea en ec) (.slice va vn vc) (.slice ra rn rc) (.slice la ln lc)) (some (w.heap.size + 1)) := grown_set (grown_set (grown_set (grown_set (grown_set (grown_set (World.grownBy.refl _ _) _ _) _ _) _ _) _ _) _ _) _ _
          obtain ⟨P9, _, hB9⟩ := put6_all (p := P0) PB2 hB2 (by omega) (M2.mono (by omega))
          have M9 := M2.box hg9 PB2
          have R9 := RB2.grown hg9 (by simp)
          go_roundw
          case rel => exact ⟨more, P0, k + 1, _, _, _, _, _, _, rfl, R9, P9, M9, hd2, hS2, by omega, fun _ => by omega, fun h => absurd h (by omega), hI2, hB9⟩
          case measure => simp; omega
end Go.Proofs.YtigldeccfpkdmaaGreatDoor
