/- ReadAt of both. -/
import Derived.Test.YtllbojcjdpelnaaGreatAb
import Derived.Test.YtllbojcjdpelnaaGreatKh
import Derived.Test.YtllbojcjdpelnaaGreatWm
import Derived.Test.YtllbojcjdpelnaaGreatWl
namespace Go.Proofs.YtllbojcjdpelnaaGreat
open Go.RowKit Go.BigFrame

set_option maxHeartbeats 1000000 in
theorem impl_addSlice0 (b : Nat) (a : Option Addr) (cap : Nat) (fr to : Int) (w : World) :
    Calls Tryz.prog 100 #[.pointer (some ⟨b, 0, none⟩), .slice a 0 cap, .int .i64 fr, .int .i64 to] w fun e w' => e = .returned (.tuple #[]) ∧ w' = w := by
  go_enter Tryz.func100, Tryz.ntmps100
  go_wp2_with fail
  go_loopw [15] (fun ix wr => ix = .int .i64 0 ∧ wr = w) (fun _ _ => 0)
  case atStart => exact ⟨rfl, rfl⟩
  case round =>
    obtain ⟨rfl, rfl⟩ := hrel
    go_wp2
    go_returns
    exact ⟨rfl, rfl⟩

set_option maxHeartbeats 1000000 in
set_option maxRecDepth 100000 in
theorem impl_Slice0 (a : Option Addr) (cap : Nat) (fr to : Int) (w : World) (h : PtsAt w a 0 []) :
    Calls Tryz.prog 65 #[.slice a 0 cap, .int .i64 fr, .int .i64 to] w fun e w' => RetPts w.heap.size e w' (sliceO [] fr to) ∧ Below w.heap.size w w' := by
  have hok : partsOkB [] = true := rfl
  have hs : lenB [] = 0 := rfl
  by_cases hr : 0 ≤ fr ∧ fr ≤ 0 ∧ fr ≤ to ∧ to ≤ 0
  · have hf : sliceO [] fr to = some [] := by unfold sliceO; rw [if_pos ⟨hok, hr.1, hr.2.1, hr.2.2.1, hr.2.2.2⟩]; rfl
    rw [hf]
    clear hf
    obtain ⟨r1, r2, r3, r4⟩ := hr
    go_enter Tryz.func65, Tryz.ntmps65
    go_wp2_with fail
    refine (impl_PartsOk a 0 cap [] _ h (by omega)).mono ?_
    rintro e w1 ⟨rfl, hB1⟩
    rw [hok]
    go_wp2_with fail
    refine (impl_LenOf a 0 cap [] _ (h.below hB1) (by omega)).mono ?_
    rintro e w2 ⟨rfl, hB2⟩
    rw [hs]
    replace hB2 := chain hB1 hB2
    have hR2 := row_new w2
    have hB3 : Below w.heap.size w (w2.alloc (.cells #[.int .i64 0, .int .i64 0, .int .i64 0, .int .i64 0, .int .i64 0, .int .i64 0, .int .i64 0, .int .i64 0, .int .i64 0, .int .i64 0, .int .i64 0, .int .i64 0, .int .i64 0, .int .i64 0, .int .i64 0, .int .i64 0, .int .i64 0, .int .i64 0, .int .i64 0, .int .i64 0, .int .i64 0, .int .i64 0, .int .i64 0, .int .i64 0, .int .i64 0, .int .i64 0, .int .i64 0, .int .i64 0, .int .i64 0, .int .i64 0, .int .i64 0, .int .i64 0, .int .i64 0, .int .i64 0, .int .i64 0, .int .i64 0, .int .i64 0, .int .i64 0, .int .i64 0, .int .i64 0, .int .i64 0, .int .i64 0, .int .i64 0, .int .i64 0, .int .i64 0, .int .i64 0, .int .i64 0, .int .i64 0, .int .i64 0, .int .i64 0, .bool false] 137)) := chain hB2 ((Below.refl _ _).alloc (Nat.le_refl _) _)
    go_wp2_with fail
    refine (impl_addSlice0 w2.heap.size a cap fr to _).mono ?_
    rintro e w3 ⟨rfl, rfl⟩
    go_wp2_with fail
    refine (impl_told_any w.heap.size _ _ _ hR2 hB3.size).mono ?_
    rintro e w4 ⟨hret, hB4⟩
    replace hB4 := chain hB3 hB4
    obtain ⟨a', n', cap', rfl, hres⟩ := hret
    go_wp2
    go_returns
    exact ⟨⟨a', n', cap', rfl, hres⟩, hB4⟩
  · have hf : sliceO [] fr to = none := by unfold sliceO; rw [if_neg (fun h => hr h.2)]
    rw [hf]
    clear hf
    go_enter Tryz.func65, Tryz.ntmps65
    go_wp2_with fail
    refine (impl_PartsOk a 0 cap [] _ h (by omega)).mono ?_
    rintro e w1 ⟨rfl, hB1⟩
    rw [hok]
    go_wp2_with fail
    refine (impl_LenOf a 0 cap [] _ (h.below hB1) (by omega)).mono ?_
    rintro e w2 ⟨rfl, hB2⟩
    rw [hs]
    replace hB2 := chain hB1 hB2
    go_wp2
    all_goals go_returns
    all_goals exact ⟨rfl, hB2⟩

theorem impl_SliceA (a : Option Addr) (n cap : Nat) (l : List Pt) (fr to : Int) (w : World) (h : PtsAt w a n l) (hn : n ≤ 4194304) :
    Calls Tryz.prog 65 #[.slice a n cap, .int .i64 fr, .int .i64 to] w fun e w' => RetPts w.heap.size e w' (sliceO l fr to) ∧ Below w.heap.size w w' := by
  by_cases h0 : n = 0
  · subst h0
    obtain rfl : l = [] := List.eq_nil_of_length_eq_zero h.len
    exact impl_Slice0 a cap fr to w h
  · refine impl_Slice a n cap l fr to w h hn (fun ad had => ?_)
    obtain ⟨b, o, p, e, _, c0, _⟩ := pts_at h (k := 0) (by omega)
    rw [e] at had
    obtain rfl := Option.some.inj had
    exact World.block_lt_of_cell? w _ c0

/-- What is read: the text, and whether there is one. -/
def readO (p : Po) (vol file : ByteArray) (fr to : Int) : ByteArray × Bool :=
  match askedO p vol file with
  | none => (⟨#[]⟩, false)
  | some ps => if 0 ≤ fr ∧ fr ≤ sumN ps ∧ fr ≤ to ∧ to ≤ sumN ps then (((contentO ps p.ex).getD ⟨#[]⟩).extract fr.toNat to.toNat, true) else (⟨#[]⟩, false)

theorem asked_right {p : Po} {vol file : ByteArray} {ps : List Pt} (h : askedO p vol file = some ps) : poolB p = true ∧ partsO p.vs vol file = some ps := by
  unfold askedO at h
  split at h
  · rename_i hh; exact ⟨hh, h⟩
  · cases h

set_option maxHeartbeats 2000000 in
set_option maxRecDepth 100000 in
theorem impl_ReadAt (B : Nat) (_hB0 : 0 < B) (v : Value) (p : Po) (vol file : ByteArray) (fr to : Int) (w : World) (h : PoolAt B w v p) (hd : DimP p) (hvol : vol.size ≤ 1048576) :
    Calls Tryz.prog 22 #[v, .string vol, .string file, .int .i64 fr, .int .i64 to] w fun e w' => e = .returned (.tuple #[.string (readO p vol file fr to).1, .bool (readO p vol file fr to).2]) ∧ Below w.heap.size w w' := by
  obtain ⟨ea, en, ec, va, vn, vc, ra, rn, rc, la, ln, lc, rfl, hrest⟩ := h
  have h : PoolAt B w (.agg #[.int .i64 p.size, .int .i64 p.next, .slice ea en ec, .slice va vn vc, .slice ra rn rc, .slice la ln lc]) p := ⟨ea, en, ec, va, vn, vc, ra, rn, rc, la, ln, lc, rfl, hrest⟩
  have h1 := hrest.1.1
  have z1 := hd.1
  have z2 := hd.2.1
  rw [h1.len] at z1
  clear hrest
  have C := (Blk.new w #[.int .i64 p.size, .int .i64 p.next, .slice ea en ec, .slice va vn vc, .slice ra rn rc, .slice la ln lc] 33)
  have hBw : Below w.heap.size w (w.alloc (.cells #[.int .i64 p.size, .int .i64 p.next, .slice ea en ec, .slice va vn vc, .slice ra rn rc, .slice la ln lc] 33)) := by go_grown
  have hR : Hid (readO p vol file fr to = (match askedO p vol file with
    | none => (⟨#[]⟩, false)
    | some ps => if 0 ≤ fr ∧ fr ≤ sumN ps ∧ fr ≤ to ∧ to ≤ sumN ps then (((contentO ps p.ex).getD ⟨#[]⟩).extract fr.toNat to.toNat, true) else (⟨#[]⟩, false))) := rfl
  generalize readO p vol file fr to = R at *
  go_enter Tryz.func22, Tryz.ntmps22
  go_wp2_with fail
  generalize w.alloc (.cells #[.int .i64 p.size, .int .i64 p.next, .slice ea en ec, .slice va vn vc, .slice ra rn rc, .slice la ln lc] 33) = W0 at *
  refine (impl_askedFile B _ p vol file _ (h.below hBw) hd hvol).mono ?_
  rintro e w1 ⟨hret, hB1⟩
  have C1 := C.below hB1
  replace hB1 := chain hBw hB1
  clear C hBw
  cases hps : askedO p vol file with
  | none =>
    rw [hps] at hret hR
    replace hret : e = .returned (.tuple #[.slice none 0 0, .bool false]) := hret
    replace hR : Hid (R = (⟨#[]⟩, false)) := hR
    subst hret
    clear hps
    go_wp2
    go_returns
    exact ⟨by rw [hR.out]; rfl, hB1⟩
  | some ps =>
    rw [hps] at hret hR
    obtain ⟨hpk, hpo⟩ := asked_right hps
    obtain ⟨hpr, hcs⟩ := parts_right hpk hpo
    obtain ⟨s, hs⟩ := Option.isSome_iff_exists.1 hcs
    replace hR : Hid (R = if 0 ≤ fr ∧ fr ≤ sumN ps ∧ fr ≤ to ∧ to ≤ sumN ps then (s.extract fr.toNat to.toNat, true) else (⟨#[]⟩, false)) := by show _ = _; rw [hR.out]; dsimp only; rw [hs]; rfl
    obtain ⟨pa, pn, pc, rfl, hPt, hH, hpl⟩ := hret
    rw [hPt.len] at hpl
    clear hps hpk hpo hcs
    go_wp2_with fail
    refine (impl_SliceA pa pn pc ps fr to _ hPt hpl).mono ?_
    rintro e w2 ⟨hret, hB2⟩
    have C2 := C1.below hB2
    replace hB2 := chain hB1 hB2
    clear C1 hB1
    by_cases hr : 0 ≤ fr ∧ fr ≤ sumN ps ∧ fr ≤ to ∧ to ≤ sumN ps
    · rw [if_pos hr] at hR
      rw [slices hpr hr.1 hr.2.2.1 hr.2.2.2] at hret
      obtain ⟨a3, n3, cap3, rfl, R3⟩ := hret
      have hsc := slice_content hs hr.1 hr.2.2.1 hr.2.2.2
      have hn3 : n3 ≤ 4194304 := by
        rw [← R3.sl.len]
        have := (partsOkB_all (slice_right hpr fr to)).1
        omega
      have d2 := C2.cell 2
      simp only [List.getElem?_toArray, List.getElem?_cons_zero, List.getElem?_cons_succ] at d2
      go_wp2_with fail
      refine (impl_Content a3 n3 cap3 _ ea en ec p.ex _ R3.sl (h1.below hB2) z2 hn3 z1).mono ?_
      rintro e w3 ⟨hret, hB3⟩
      rw [hsc] at hret
      replace hret : e = .returned (.tuple #[.string (s.extract fr.toNat to.toNat), .bool true]) := hret
      subst hret
      replace hB3 := chain hB2 hB3
      go_wp2
      go_returns
      exact ⟨by rw [hR.out]; rfl, hB3⟩
    · rw [if_neg hr] at hR
      have hsn : sliceO ps fr to = none := by unfold sliceO; rw [if_neg (fun h => hr h.2)]
      rw [hsn] at hret
      replace hret : e = .returned (.tuple #[.slice none 0 0, .bool false]) := hret
      subst hret
      go_wp2
      go_returns
      exact ⟨by rw [hR.out]; rfl, hB2⟩

set_option maxHeartbeats 2000000 in
set_option maxRecDepth 100000 in
theorem spec_ReadAt (B : Nat) (hB0 : 0 < B) (v : Value) (p : Po) (vol file : ByteArray) (fr to : Int) (w : World) (h : PoolAt B w v p) (hd : DimP p) :
    Calls Tryz.prog 21 #[v, .string vol, .string file, .int .i64 fr, .int .i64 to] w fun e w' => e = .returned (.tuple #[.string (readO p vol file fr to).1, .bool (readO p vol file fr to).2]) ∧ Below w.heap.size w w' := by
  obtain ⟨ea, en, ec, va, vn, vc, ra, rn, rc, la, ln, lc, rfl, hrest⟩ := h
  have h : PoolAt B w (.agg #[.int .i64 p.size, .int .i64 p.next, .slice ea en ec, .slice va vn vc, .slice ra rn rc, .slice la ln lc]) p := ⟨ea, en, ec, va, vn, vc, ra, rn, rc, la, ln, lc, rfl, hrest⟩
  have h1 := hrest.1.1
  have z1 := hd.1
  have z2 := hd.2.1
  rw [h1.len] at z1
  clear hrest
  have C := (Blk.new w #[.int .i64 p.size, .int .i64 p.next, .slice ea en ec, .slice va vn vc, .slice ra rn rc, .slice la ln lc] 33)
  have hBw : Below w.heap.size w (w.alloc (.cells #[.int .i64 p.size, .int .i64 p.next, .slice ea en ec, .slice va vn vc, .slice ra rn rc, .slice la ln lc] 33)) := by go_grown
  have hS : Hid (∀ ps, poolB p = true → partsO p.vs vol file = some ps → readO p vol file fr to = if 0 ≤ fr ∧ fr ≤ sumN ps ∧ fr ≤ to ∧ to ≤ sumN ps then (((contentO ps p.ex).getD ⟨#[]⟩).extract fr.toNat to.toNat, true) else (⟨#[]⟩, false)) := fun ps h1 h2 => by simp [readO, askedO, h1, h2]
  have hN : Hid (partsO p.vs vol file = none → readO p vol file fr to = (⟨#[]⟩, false)) := fun h2 => by unfold readO askedO; rw [h2]; split <;> rename_i h3 <;> (split at h3 <;> first | rfl | cases h3)
  have hF : Hid (poolB p = false → readO p vol file fr to = (⟨#[]⟩, false)) := fun h2 => by simp [readO, askedO, h2]
  have hrt := fun ps (h1 : poolB p = true) (h2 : partsO p.vs vol file = some ps) => parts_right h1 h2
  generalize readO p vol file fr to = R at *
  go_enter Tryz.func21, Tryz.ntmps21
  go_wp2_with fail
  generalize w.alloc (.cells #[.int .i64 p.size, .int .i64 p.next, .slice ea en ec, .slice va vn vc, .slice ra rn rc, .slice la ln lc] 33) = W0 at *
  refine (spec_l5Parts B _ p vol file _ (h.below hBw) hd).mono ?_
  rintro e w1 ⟨hret, hB1⟩
  have C1 := C.below hB1
  replace hB1 := chain hBw hB1
  clear C hBw
  obtain ⟨d0, d1, d2, d3, d4, d5⟩ : w1.cell? ⟨w.heap.size, 0, none⟩ = some (.int .i64 p.size) ∧ w1.cell? ⟨w.heap.size, 1, none⟩ = some (.int .i64 p.next) ∧ w1.cell? ⟨w.heap.size, 2, none⟩ = some (.slice ea en ec) ∧ w1.cell? ⟨w.heap.size, 3, none⟩ = some (.slice va vn vc) ∧ w1.cell? ⟨w.heap.size, 4, none⟩ = some (.slice ra rn rc) ∧ w1.cell? ⟨w.heap.size, 5, none⟩ = some (.slice la ln lc) := ⟨C1.cell 0, C1.cell 1, C1.cell 2, C1.cell 3, C1.cell 4, C1.cell 5⟩
  cases hps : partsO p.vs vol file with
  | none =>
    rw [hps] at hret
    replace hret : e = .returned (.tuple #[.slice none 0 0, .bool false]) := hret
    subst hret
    have hRf := hN.out hps
    go_wp2_with fail
    refine (spec_PoolOk B hB0 _ p _ (h.below hB1) hd).mono ?_
    rintro e w2 ⟨rfl, hB2⟩
    replace hB2 := chain hB1 hB2
    clear hps
    cases hpk : poolB p
    all_goals clear hpk
    all_goals go_wp2
    all_goals go_returns
    all_goals exact ⟨by rw [hRf]; rfl, hB2⟩
  | some ps =>
    rw [hps] at hret
    obtain ⟨pa, pn, pc, rfl, hPt, hH, hpl⟩ := hret
    rw [hPt.len] at hpl
    go_wp2_with fail
    refine (spec_PoolOk B hB0 _ p _ (h.below hB1) hd).mono ?_
    rintro e w2 ⟨rfl, hB2⟩
    have hPt2 := hPt.below hB2
    have C2 := C1.below hB2
    replace hB2 := chain hB1 hB2
    cases hpk : poolB p
    · have hRf := hF.out hpk
      clear hpk hps
      go_wp2
      go_returns
      exact ⟨by rw [hRf]; rfl, hB2⟩
    · have hRf : Hid (R = if 0 ≤ fr ∧ fr ≤ sumN ps ∧ fr ≤ to ∧ to ≤ sumN ps then (((contentO ps p.ex).getD ⟨#[]⟩).extract fr.toNat to.toNat, true) else (⟨#[]⟩, false)) := hS.out ps hpk hps
      obtain ⟨hok, hcs⟩ := hrt ps hpk hps
      have hsp := space_400 (poolB_vs hpk).2.2.2.1
      obtain ⟨s, hs⟩ := Option.isSome_iff_exists.1 hcs
      rw [hs] at hRf
      have hsl := content_lenJ hs
      clear hpk hps hcs d0 d1 d2 d3 d4 d5 hS hN hF
      have hlen := fun u (hu : PtsAt u pa pn ps) => spec_l2Len pa pn pc ps u hu hpl (sums_of hok)
      have hnn := sumN_nonneg ps (partsOkB_all hok).2.1
      generalize hsum : sumN ps = L at *
      go_wp2_with fail
      refine (hlen _ hPt2).mono ?_
      rintro e w3 ⟨rfl, rfl⟩
      go_wp2_with fail
      refine (spec_l1In fr 0 L _).mono ?_
      rintro e w4 ⟨rfl, rfl⟩
      by_cases h3 : 0 ≤ fr ∧ fr ≤ L
      · have h3' : (decide (0 ≤ fr) && decide (fr ≤ L)) = true := by simp [h3]
        rw [h3']
        go_wp2_with fail
        refine (hlen _ hPt2).mono ?_
        rintro e w5 ⟨rfl, rfl⟩
        go_wp2_with fail
        refine (spec_l1In to fr L _).mono ?_
        rintro e w6 ⟨rfl, rfl⟩
        by_cases h5 : fr ≤ to ∧ to ≤ L
        · have h5' : (decide (fr ≤ to) && decide (to ≤ L)) = true := by simp [h5]
          rw [h5']
          rw [if_pos ⟨h3.1, h3.2, h5.1, h5.2⟩] at hRf
          replace hRf : Hid (R = (s.extract fr.toNat to.toNat, true)) := hRf
          obtain ⟨hl16, hall⟩ := parts_all hok
          rw [hPt2.len] at hl16
          have d2 := C2.cell 2
          simp only [List.getElem?_toArray, List.getElem?_cons_zero, List.getElem?_cons_succ] at d2
          have hcg : cgo p.ex ⟨#[]⟩ ps = some s := by rw [← hs]; simp [contentO, hok, hsp]
          go_wp2_with fail
          refine (spec_l2Content pa pn pc ps ea en ec p.ex _ hPt2 (h1.below hB2) z2 hl16 z1 hall).mono ?_
          rintro e w7 ⟨hret, hB7⟩
          rw [hcg] at hret
          replace hret : e = .returned (.tuple #[.string s, .bool true]) := hret
          subst hret
          replace hB7 := chain hB2 hB7
          obtain ⟨hsl1, _⟩ := hsl
          clear hcg hs
          go_wp2
          go_returns
          exact ⟨by rw [hRf.out]; rfl, hB7⟩
        · have h5' : (decide (fr ≤ to) && decide (to ≤ L)) = false := by
            rw [Bool.eq_false_iff]; simpa using h5
          rw [h5']
          rw [if_neg (fun h => h5 h.2.2)] at hRf
          go_wp2
          go_returns
          exact ⟨by rw [hRf.out]; rfl, hB2⟩
      · have h3' : (decide (0 ≤ fr) && decide (fr ≤ L)) = false := by
          rw [Bool.eq_false_iff]; simpa using h3
        rw [h3']
        rw [if_neg (fun h => h3 ⟨h.1, h.2.1⟩)] at hRf
        go_wp2
        go_returns
        exact ⟨by rw [hRf.out]; rfl, hB2⟩
end Go.Proofs.YtllbojcjdpelnaaGreat
