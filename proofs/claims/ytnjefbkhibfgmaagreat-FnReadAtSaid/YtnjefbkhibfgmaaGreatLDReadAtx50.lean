/- At every code: what is read of the pool that is drawn is what its model tells; in two pieces it is what is read in one, and all of it is as long as the file's size: no condition. -/
import Derived.Test.YtnjefbkhibfgmaaGreatK47
import Derived.Test.YtnjefbkhibfgmaaGreatK05
import Derived.Test.YtnjefbkhibfgmaaGreatLDReadAtx49
import Derived.Test.YtnjefbkhibfgmaaGreatRows
import Derived.Test.YtnjefbkhibfgmaaGreatLDReadAtx48
import Derived.Test.YtnjefbkhibfgmaaGreatK00
import Derived.Test.YtnjefbkhibfgmaaGreatK01
namespace Go.Proofs.YtnjefbkhibfgmaaGreat
open Go.RowKit Go.BigFrame
set_option maxHeartbeats 1000000 in
theorem impl_addSlice0 (b : Nat) (a : Option Addr) (cap : Nat) (fr tz : Int) (w : World) :
    Calls Tryz.prog 85 #[.pointer (some ⟨b, 0, none⟩), .slice a 0 cap, .int .i64 fr, .int .i64 tz] w fun e w' => e = .returned (.tuple #[]) ∧ w' = w := by
  go_enter Tryz.func85, Tryz.ntmps85
  go_wp2_with fail
  go_loopw [15] (fun ix wr => ix = .int .i64 0 ∧ wr = w) (fun _ _ => 0)
  case atStart => exact ⟨rfl, rfl⟩
  case round =>
    obtain ⟨rfl, rfl⟩ := hrel
    go_wp2
    go_returns
    exact ⟨rfl, rfl⟩
set_option maxHeartbeats 1000000 in
set_option maxRecDepth 100000 in
theorem impl_Slice0 (a : Option Addr) (cap : Nat) (fr tz : Int) (w : World) (h : PtsAt w a 0 []) :
    Calls Tryz.prog 50 #[.slice a 0 cap, .int .i64 fr, .int .i64 tz] w fun e w' => RetPts w.heap.size e w' (sliceO [] fr tz) ∧ Below w.heap.size w w' := by
  have hok : partsOkB [] = true := rfl
  have hs : lenB [] = 0 := rfl
  by_cases hr : 0 ≤ fr ∧ fr ≤ 0 ∧ fr ≤ tz ∧ tz ≤ 0
  · have hf : sliceO [] fr tz = some [] := by unfold sliceO; rw [if_pos ⟨hok, hr.1, hr.2.1, hr.2.2.1, hr.2.2.2⟩]; rfl
    rw [hf]
    clear hf
    obtain ⟨r1, r2, r3, r4⟩ := hr
    go_enter Tryz.func50, Tryz.ntmps50
    go_wp2_with fail
    refine (impl_PartsOk a 0 cap [] _ h (by omega)).mono ?_
    rintro e w1 ⟨rfl, hB1⟩
    rw [hok]
    go_wp2_with fail
    refine (impl_LenOf a 0 cap [] _ (h.below hB1) (by omega)).mono ?_
    rintro e w2 ⟨rfl, hB2⟩
    rw [hs]
    replace hB2 := chain hB1 hB2
    have hR2 := row_new w2
    have hB3 : Below w.heap.size w (w2.alloc (.cells #[.int .i64 0, .int .i64 0, .int .i64 0, .int .i64 0, .int .i64 0, .int .i64 0, .int .i64 0, .int .i64 0, .int .i64 0, .int .i64 0, .int .i64 0, .int .i64 0, .int .i64 0, .int .i64 0, .int .i64 0, .int .i64 0, .int .i64 0, .int .i64 0, .int .i64 0, .int .i64 0, .int .i64 0, .int .i64 0, .int .i64 0, .int .i64 0, .int .i64 0, .int .i64 0, .int .i64 0, .int .i64 0, .int .i64 0, .int .i64 0, .int .i64 0, .int .i64 0, .int .i64 0, .int .i64 0, .int .i64 0, .int .i64 0, .int .i64 0, .int .i64 0, .int .i64 0, .int .i64 0, .int .i64 0, .int .i64 0, .int .i64 0, .int .i64 0, .int .i64 0, .int .i64 0, .int .i64 0, .int .i64 0, .int .i64 0, .int .i64 0, .bool false] 120)) := chain hB2 ((Below.refl _ _).alloc (Nat.le_refl _) _)
    go_wp2_with fail
    refine (impl_addSlice0 w2.heap.size a cap fr tz _).mono ?_
    rintro e w3 ⟨rfl, rfl⟩
    go_wp2_with fail
    refine (impl_told_any w.heap.size _ _ _ hR2 hB3.size).mono ?_
    rintro e w4 ⟨hret, hB4⟩
    replace hB4 := chain hB3 hB4
    obtain ⟨a', n', cap', rfl, hres⟩ := hret
    go_wp2
    go_returns
    exact ⟨⟨a', n', cap', rfl, hres⟩, hB4⟩
  · have hf : sliceO [] fr tz = none := by unfold sliceO; rw [if_neg (fun h => hr h.2)]
    rw [hf]
    clear hf
    go_enter Tryz.func50, Tryz.ntmps50
    go_wp2_with fail
    refine (impl_PartsOk a 0 cap [] _ h (by omega)).mono ?_
    rintro e w1 ⟨rfl, hB1⟩
    rw [hok]
    go_wp2_with fail
    refine (impl_LenOf a 0 cap [] _ (h.below hB1) (by omega)).mono ?_
    rintro e w2 ⟨rfl, hB2⟩
    rw [hs]
    replace hB2 := chain hB1 hB2
    go_wp2
    all_goals go_returns
    all_goals exact ⟨rfl, hB2⟩
theorem impl_SliceA (a : Option Addr) (n cap : Nat) (l : List Pt) (fr tz : Int) (w : World) (h : PtsAt w a n l) (hn : n ≤ 4194304) :
    Calls Tryz.prog 50 #[.slice a n cap, .int .i64 fr, .int .i64 tz] w fun e w' => RetPts w.heap.size e w' (sliceO l fr tz) ∧ Below w.heap.size w w' := by
  by_cases h0 : n = 0
  · subst h0
    obtain rfl : l = [] := List.eq_nil_of_length_eq_zero h.len
    exact impl_Slice0 a cap fr tz w h
  · refine impl_Slice a n cap l fr tz w h hn (fun ad had => ?_)
    obtain ⟨b, o, p, e, _, c0, _⟩ := pts_at h (k := 0) (by omega)
    rw [e] at had
    obtain rfl := Option.some.inj had
    exact World.block_lt_of_cell? w _ c0
/-- What is read: the text, and whether there is one. -/
def readO (p : Po) (vol file : ByteArray) (fr tz : Int) : ByteArray × Bool :=
  match askedO p vol file with
  | none => (⟨#[]⟩, false)
  | some ps => if 0 ≤ fr ∧ fr ≤ sumN ps ∧ fr ≤ tz ∧ tz ≤ sumN ps then (((contentO ps p.ex).getD ⟨#[]⟩).extract fr.toNat tz.toNat, true) else (⟨#[]⟩, false)
theorem asked_right {p : Po} {vol file : ByteArray} {ps : List Pt} (h : askedO p vol file = some ps) : poolB p = true ∧ partsO p.vs vol file = some ps := by
  unfold askedO at h
  split at h
  · rename_i hh; exact ⟨hh, h⟩
  · cases h
set_option maxHeartbeats 2000000 in
set_option maxRecDepth 100000 in
theorem impl_ReadAt (B : Nat) (_hB0 : 0 < B) (v : Value) (p : Po) (vol file : ByteArray) (fr tz : Int) (w : World) (h : PoolAt B w v p) (hd : DimP p) (hvol : vol.size ≤ 1048576) :
    Calls Tryz.prog 15 #[v, .string vol, .string file, .int .i64 fr, .int .i64 tz] w fun e w' => e = .returned (.tuple #[.string (readO p vol file fr tz).1, .bool (readO p vol file fr tz).2]) ∧ Below w.heap.size w w' := by
  obtain ⟨ea, en, ec, va, vn, vc, ra, rn, rc, la, ln, lc, rfl, hrest⟩ := h
  have h : PoolAt B w (.agg #[.int .i64 p.size, .int .i64 p.next, .slice ea en ec, .slice va vn vc, .slice ra rn rc, .slice la ln lc]) p := ⟨ea, en, ec, va, vn, vc, ra, rn, rc, la, ln, lc, rfl, hrest⟩
  have h1 := hrest.1.1
  have z1 := hd.1
  have z2 := hd.2.1
  rw [h1.len] at z1
  clear hrest
  have C := (Blk.new w #[.int .i64 p.size, .int .i64 p.next, .slice ea en ec, .slice va vn vc, .slice ra rn rc, .slice la ln lc] 28)
  have hBw : Below w.heap.size w (w.alloc (.cells #[.int .i64 p.size, .int .i64 p.next, .slice ea en ec, .slice va vn vc, .slice ra rn rc, .slice la ln lc] 28)) := by go_grown
  have hR : Hid (readO p vol file fr tz = (match askedO p vol file with
    | none => (⟨#[]⟩, false)
    | some ps => if 0 ≤ fr ∧ fr ≤ sumN ps ∧ fr ≤ tz ∧ tz ≤ sumN ps then (((contentO ps p.ex).getD ⟨#[]⟩).extract fr.toNat tz.toNat, true) else (⟨#[]⟩, false))) := rfl
  generalize readO p vol file fr tz = R at *
  go_enter Tryz.func15, Tryz.ntmps15
  go_wp2_with fail
  generalize w.alloc (.cells #[.int .i64 p.size, .int .i64 p.next, .slice ea en ec, .slice va vn vc, .slice ra rn rc, .slice la ln lc] 28) = W0 at *
  refine (impl_askedFile B _ p vol file _ (h.below hBw) hd hvol).mono ?_
  rintro e w1 ⟨hret, hB1⟩
  have C1 := C.below hB1
  replace hB1 := chain hBw hB1
  clear C hBw
  cases hps : askedO p vol file with
  | none =>
    rw [hps] at hret hR
    replace hret : e = .returned (.tuple #[.slice none 0 0, .bool false]) := hret
    replace hR : Hid (R = (⟨#[]⟩, false)) := hR
    subst hret
    clear hps
    go_wp2
    go_returns
    exact ⟨by rw [hR.out]; rfl, hB1⟩
  | some ps =>
    rw [hps] at hret hR
    obtain ⟨hpk, hpo⟩ := asked_right hps
    obtain ⟨hpr, hcs⟩ := parts_right hpk hpo
    obtain ⟨s, hs⟩ := Option.isSome_iff_exists.1 hcs
    replace hR : Hid (R = if 0 ≤ fr ∧ fr ≤ sumN ps ∧ fr ≤ tz ∧ tz ≤ sumN ps then (s.extract fr.toNat tz.toNat, true) else (⟨#[]⟩, false)) := by show _ = _; rw [hR.out]; dsimp only; rw [hs]; rfl
    obtain ⟨pa, pn, pc, rfl, hPt, hH, hpl⟩ := hret
    rw [hPt.len] at hpl
    clear hps hpk hpo hcs
    go_wp2_with fail
    refine (impl_SliceA pa pn pc ps fr tz _ hPt hpl).mono ?_
    rintro e w2 ⟨hret, hB2⟩
    have C2 := C1.below hB2
    replace hB2 := chain hB1 hB2
    clear C1 hB1
    by_cases hr : 0 ≤ fr ∧ fr ≤ sumN ps ∧ fr ≤ tz ∧ tz ≤ sumN ps
    · rw [if_pos hr] at hR
      rw [slices hpr hr.1 hr.2.2.1 hr.2.2.2] at hret
      obtain ⟨a3, n3, cap3, rfl, R3⟩ := hret
      have hsc := slice_content hs hr.1 hr.2.2.1 hr.2.2.2
      have hn3 : n3 ≤ 4194304 := by
        rw [← R3.sl.len]
        have := (partsOkB_all (slice_right hpr fr tz)).1
        omega
      have d2 := C2.cell 2
      simp only [lgA, lgB, lgC] at d2
      go_wp2_with fail
      refine (impl_Content a3 n3 cap3 _ ea en ec p.ex _ R3.sl (h1.below hB2) z2 hn3 z1).mono ?_
      rintro e w3 ⟨hret, hB3⟩
      rw [hsc] at hret
      replace hret : e = .returned (.tuple #[.string (s.extract fr.toNat tz.toNat), .bool true]) := hret
      subst hret
      replace hB3 := chain hB2 hB3
      go_wp2
      go_returns
      exact ⟨by rw [hR.out]; rfl, hB3⟩
    · rw [if_neg hr] at hR
      have hsn : sliceO ps fr tz = none := by unfold sliceO; rw [if_neg (fun h => hr h.2)]
      rw [hsn] at hret
      replace hret : e = .returned (.tuple #[.slice none 0 0, .bool false]) := hret
      subst hret
      go_wp2
      go_returns
      exact ⟨by rw [hR.out]; rfl, hB2⟩
set_option maxHeartbeats 2000000 in
set_option maxRecDepth 100000 in
theorem spec_ReadAt (B : Nat) (hB0 : 0 < B) (v : Value) (p : Po) (vol file : ByteArray) (fr tz : Int) (w : World) (h : PoolAt B w v p) (hd : DimP p) :
    Calls Tryz.prog 16 #[v, .string vol, .string file, .int .i64 fr, .int .i64 tz] w fun e w' => e = .returned (.tuple #[.string (readO p vol file fr tz).1, .bool (readO p vol file fr tz).2]) ∧ Below w.heap.size w w' := by
  obtain ⟨ea, en, ec, va, vn, vc, ra, rn, rc, la, ln, lc, rfl, hrest⟩ := h
  have h : PoolAt B w (.agg #[.int .i64 p.size, .int .i64 p.next, .slice ea en ec, .slice va vn vc, .slice ra rn rc, .slice la ln lc]) p := ⟨ea, en, ec, va, vn, vc, ra, rn, rc, la, ln, lc, rfl, hrest⟩
  have h1 := hrest.1.1
  have z1 := hd.1
  have z2 := hd.2.1
  rw [h1.len] at z1
  clear hrest
  have C := (Blk.new w #[.int .i64 p.size, .int .i64 p.next, .slice ea en ec, .slice va vn vc, .slice ra rn rc, .slice la ln lc] 28)
  have hBw : Below w.heap.size w (w.alloc (.cells #[.int .i64 p.size, .int .i64 p.next, .slice ea en ec, .slice va vn vc, .slice ra rn rc, .slice la ln lc] 28)) := by go_grown
  have hS : Hid (∀ ps, poolB p = true → partsO p.vs vol file = some ps → readO p vol file fr tz = if 0 ≤ fr ∧ fr ≤ sumN ps ∧ fr ≤ tz ∧ tz ≤ sumN ps then (((contentO ps p.ex).getD ⟨#[]⟩).extract fr.toNat tz.toNat, true) else (⟨#[]⟩, false)) := fun ps h1 h2 => by simp [readO, askedO, h1, h2]
  have hN : Hid (partsO p.vs vol file = none → readO p vol file fr tz = (⟨#[]⟩, false)) := fun h2 => by unfold readO askedO; rw [h2]; split <;> rename_i h3 <;> (split at h3 <;> first | rfl | cases h3)
  have hF : Hid (poolB p = false → readO p vol file fr tz = (⟨#[]⟩, false)) := fun h2 => by simp [readO, askedO, h2]
  have hrt := fun ps (h1 : poolB p = true) (h2 : partsO p.vs vol file = some ps) => parts_right h1 h2
  generalize readO p vol file fr tz = R at *
  go_enter Tryz.func16, Tryz.ntmps16
  go_wp2_with fail
  generalize w.alloc (.cells #[.int .i64 p.size, .int .i64 p.next, .slice ea en ec, .slice va vn vc, .slice ra rn rc, .slice la ln lc] 28) = W0 at *
  refine (spec_l5Parts B _ p vol file _ (h.below hBw) hd).mono ?_
  rintro e w1 ⟨hret, hB1⟩
  have C1 := C.below hB1
  replace hB1 := chain hBw hB1
  clear C hBw
  obtain ⟨d0, d1, d2, d3, d4, d5⟩ : w1.cell? ⟨w.heap.size, 0, none⟩ = some (.int .i64 p.size) ∧ w1.cell? ⟨w.heap.size, 1, none⟩ = some (.int .i64 p.next) ∧ w1.cell? ⟨w.heap.size, 2, none⟩ = some (.slice ea en ec) ∧ w1.cell? ⟨w.heap.size, 3, none⟩ = some (.slice va vn vc) ∧ w1.cell? ⟨w.heap.size, 4, none⟩ = some (.slice ra rn rc) ∧ w1.cell? ⟨w.heap.size, 5, none⟩ = some (.slice la ln lc) := ⟨C1.cell 0, C1.cell 1, C1.cell 2, C1.cell 3, C1.cell 4, C1.cell 5⟩
  cases hps : partsO p.vs vol file with
  | none =>
    rw [hps] at hret
    replace hret : e = .returned (.tuple #[.slice none 0 0, .bool false]) := hret
    subst hret
    have hRf := hN.out hps
    go_wp2_with fail
    refine (spec_PoolOk B hB0 _ p _ (h.below hB1) hd).mono ?_
    rintro e w2 ⟨rfl, hB2⟩
    replace hB2 := chain hB1 hB2
    clear hps
    cases hpk : poolB p
    all_goals clear hpk
    all_goals go_wp2
    all_goals go_returns
    all_goals exact ⟨by rw [hRf]; rfl, hB2⟩
  | some ps =>
    rw [hps] at hret
    obtain ⟨pa, pn, pc, rfl, hPt, hH, hpl⟩ := hret
    rw [hPt.len] at hpl
    go_wp2_with fail
    refine (spec_PoolOk B hB0 _ p _ (h.below hB1) hd).mono ?_
    rintro e w2 ⟨rfl, hB2⟩
    have hPt2 := hPt.below hB2
    have C2 := C1.below hB2
    replace hB2 := chain hB1 hB2
    cases hpk : poolB p
    · have hRf := hF.out hpk
      clear hpk hps
      go_wp2
      go_returns
      exact ⟨by rw [hRf]; rfl, hB2⟩
    · have hRf : Hid (R = if 0 ≤ fr ∧ fr ≤ sumN ps ∧ fr ≤ tz ∧ tz ≤ sumN ps then (((contentO ps p.ex).getD ⟨#[]⟩).extract fr.toNat tz.toNat, true) else (⟨#[]⟩, false)) := hS.out ps hpk hps
      obtain ⟨hok, hcs⟩ := hrt ps hpk hps
      have hsp := space_400 (poolB_vs hpk).2.2.2.1
      obtain ⟨s, hs⟩ := Option.isSome_iff_exists.1 hcs
      rw [hs] at hRf
      have hsl := content_lenJ hs
      clear hpk hps hcs d0 d1 d2 d3 d4 d5 hS hN hF
      have hlen := fun u (hu : PtsAt u pa pn ps) => spec_l2Len pa pn pc ps u hu hpl (sums_of hok)
      have hnn := sumN_nonneg ps (partsOkB_all hok).2.1
      generalize hsum : sumN ps = L at *
      go_wp2_with fail
      refine (hlen _ hPt2).mono ?_
      rintro e w3 ⟨rfl, rfl⟩
      go_wp2_with fail
      refine (spec_l1In fr 0 L _).mono ?_
      rintro e w4 ⟨rfl, rfl⟩
      by_cases h3 : 0 ≤ fr ∧ fr ≤ L
      · have h3' : (decide (0 ≤ fr) && decide (fr ≤ L)) = true := by simp [h3]
        rw [h3']
        go_wp2_with fail
        refine (hlen _ hPt2).mono ?_
        rintro e w5 ⟨rfl, rfl⟩
        go_wp2_with fail
        refine (spec_l1In tz fr L _).mono ?_
        rintro e w6 ⟨rfl, rfl⟩
        by_cases h5 : fr ≤ tz ∧ tz ≤ L
        · have h5' : (decide (fr ≤ tz) && decide (tz ≤ L)) = true := by simp [h5]
          rw [h5']
          rw [if_pos ⟨h3.1, h3.2, h5.1, h5.2⟩] at hRf
          replace hRf : Hid (R = (s.extract fr.toNat tz.toNat, true)) := hRf
          obtain ⟨hl16, hall⟩ := parts_all hok
          rw [hPt2.len] at hl16
          have d2 := C2.cell 2
          simp only [lgA, lgB, lgC] at d2
          have hcg : cgo p.ex ⟨#[]⟩ ps = some s := by rw [← hs]; simp [contentO, hok, hsp]
          go_wp2_with fail
          refine (spec_l2Content pa pn pc ps ea en ec p.ex _ hPt2 (h1.below hB2) z2 hl16 z1 hall).mono ?_
          rintro e w7 ⟨hret, hB7⟩
          rw [hcg] at hret
          replace hret : e = .returned (.tuple #[.string s, .bool true]) := hret
          subst hret
          replace hB7 := chain hB2 hB7
          obtain ⟨hsl1, _⟩ := hsl
          clear hcg hs
          go_wp2
          go_returns
          exact ⟨by rw [hRf.out]; rfl, hB7⟩
        · have h5' : (decide (fr ≤ tz) && decide (tz ≤ L)) = false := by
            rw [Bool.eq_false_iff]; simpa using h5
          rw [h5']
          rw [if_neg (fun h => h5 h.2.2)] at hRf
          go_wp2
          go_returns
          exact ⟨by rw [hRf.out]; rfl, hB2⟩
      · have h3' : (decide (0 ≤ fr) && decide (fr ≤ L)) = false := by
          rw [Bool.eq_false_iff]; simpa using h3
        rw [h3']
        rw [if_neg (fun h => h3 ⟨h.1, h.2.1⟩)] at hRf
        go_wp2
        go_returns
        exact ⟨by rw [hRf.out]; rfl, hB2⟩
end Go.Proofs.YtnjefbkhibfgmaaGreat
namespace Go.Proofs.YtnjefbkhibfgmaaGreat
open Go.ChangeShapes Go.WideShapes Go.ChangeAt Go.RowKit Go.Deep Go.BigFrame
theorem read_right {p : Po} {vol file : ByteArray} {fr tt : Int} (h : (readO p vol file fr tt).2 = true) : ∃ c : ByteArray, c.size ≤ 100 ∧ 0 ≤ fr ∧ fr ≤ tt ∧ tt ≤ c.size ∧ sizeO p vol file = ((c.size : Int), true) ∧ ∀ a b : Int, 0 ≤ a → a ≤ b → b ≤ c.size → readO p vol file a b = (c.extract a.toNat b.toNat, true) := by
  cases hk : askedO p vol file with
  | none => unfold readO at h; rw [hk] at h; cases h
  | some ps =>
    have hr : ∀ a b : Int, readO p vol file a b = if 0 ≤ a ∧ a ≤ sumN ps ∧ a ≤ b ∧ b ≤ sumN ps then (((contentO ps p.ex).getD ⟨#[]⟩).extract a.toNat b.toNat, true) else (⟨#[]⟩, false) := fun a b => by unfold readO; rw [hk]
    obtain ⟨hp, hps⟩ := asked_right hk
    obtain ⟨hok, hc⟩ := parts_right hp hps
    obtain ⟨c, hcc⟩ := Option.isSome_iff_exists.1 hc
    obtain ⟨hl1, hl2⟩ := content_lenJ hcc
    rw [hr] at h
    split at h
    · rename_i hb
      refine ⟨c, hl2, hb.1, hb.2.2.1, by omega, ?_, fun a b h0 h1 h2 => ?_⟩
      · unfold sizeO
        rw [if_pos hp, hps]
        simp only [lenB, hok, if_true, hl1]
      · rw [hr, if_pos ⟨h0, by omega, h1, by omega⟩, hcc]
        rfl
    · cases h
theorem two_pieces (c : ByteArray) {i j k : Nat} (h1 : i ≤ j) (h2 : j ≤ k) : c.extract i j ++ c.extract j k = c.extract i k := by
  apply ByteArray.ext
  simp only [ByteArray.data_append, ByteArray.data_extract]
  rw [Array.extract_append_extract]
  congr 1 <;> omega
set_option maxHeartbeats 8000000 in
set_option maxRecDepth 100000 in
theorem walkDReadAt (a : Option Addr) (n cap : Nat) (w : World) (h : CodeAt w a n) (hm : n ≤ 9223372036854775807) :
    Calls Tryz.prog 4 #[.slice a n cap] w fun e w' => e = .returned (.bool true) ∧ Below w.heap.size w w' := by
  by_cases hn : n ≤ 1048576
  · have hb : decide (1048576 < n) = false := by simp; omega
    go_enter Tryz.func4, Tryz.ntmps4
    go_wp2_with fail
    refine (laws_bigC a n cap _ hm).mono ?_
    rintro e w1 ⟨rfl, rfl⟩
    rw [hb]
    go_wp2_with fail
    refine (spec_DrawReadAt a n cap _ h hn).mono ?_
    rintro e w2 ⟨⟨v, p, vol, file, fr, tt, rfl, PT, hd, hvol, hfile⟩, hB2⟩
    have PT2 := PT
    obtain ⟨ea, en, ec, va, vn, vc, ra, rn, rc, la, ln, lc, rows, rfl, hjunk⟩ := PT
    clear hjunk
    have hAl : Below w2.heap.size w2 (w2.alloc (.cells #[.int .i64 p.size, .int .i64 p.next, .slice ea en ec, .slice va vn vc, .slice ra rn rc, .slice la ln lc] 28)) := (Below.refl _ _).alloc (Nat.le_refl _) _
    have P3 := Blk.new w2 #[.int .i64 p.size, .int .i64 p.next, .slice ea en ec, .slice va vn vc, .slice ra rn rc, .slice la ln lc] 28
    go_wp2_with fail
    have hA3 := (PT2.below hAl).at'
    have hC3 := chain hB2 hAl
    generalize w2.alloc (.cells #[.int .i64 p.size, .int .i64 p.next, .slice ea en ec, .slice va vn vc, .slice ra rn rc, .slice la ln lc] 28) = w3 at *
    clear hAl hB2 PT2
    have hrr := read_right (p := p) (vol := vol) (file := file) (fr := fr) (tt := tt)
    obtain ⟨rd, hrd⟩ : ∃ rd, readO p vol file fr tt = rd := ⟨_, rfl⟩
    obtain ⟨sz, hsz⟩ : ∃ sz, sizeO p vol file = sz := ⟨_, rfl⟩
    obtain ⟨x0, x1, x2, x3, x4, x5⟩ := P3.six'
    refine (impl_ReadAt (w1.heap.size + 1) (by omega) _ p vol file fr tt _ hA3 hd.1 (Nat.le_trans hvol (by decide))).mono ?_
    rintro e w4 ⟨rfl, hB4⟩
    rw [hrd]
    have P4 := P3.below hB4
    have hA4 := hA3.below hB4
    have hC4 := chain hC3 hB4
    clear x0 x1 x2 x3 x4 x5 P3 hA3 hC3 hB4
    obtain ⟨x0, x1, x2, x3, x4, x5⟩ := P4.six'
    go_wp2_with fail
    refine (spec_ReadAt (w1.heap.size + 1) (by omega) _ p vol file fr tt _ hA4 hd.1).mono ?_
    rintro e w5 ⟨rfl, hB5⟩
    rw [hrd]
    have P5 := P4.below hB5
    have hA5 := hA4.below hB5
    have hC5 := chain hC4 hB5
    clear x0 x1 x2 x3 x4 x5 P4 hA4 hC4 hB5
    obtain ⟨x0, x1, x2, x3, x4, x5⟩ := P5.six'
    go_wp2_with fail
    refine (impl_SizeOf (w1.heap.size + 1) _ p vol file _ hA5 hd.1 (Nat.le_trans hvol (by decide))).mono ?_
    rintro e w6 ⟨rfl, hB6⟩
    rw [hsz]
    have P6 := P5.below hB6
    have hA6 := hA5.below hB6
    have hC6 := chain hC5 hB6
    clear x0 x1 x2 x3 x4 x5 P5 hA5 hC5 hB6
    obtain ⟨x0, x1, x2, x3, x4, x5⟩ := P6.six'
    go_wp2_with fail
    refine (spec_SizeOf (w1.heap.size + 1) (by omega) _ p vol file _ hA6 hd.1).mono ?_
    rintro e w7 ⟨rfl, hB7⟩
    rw [hsz]
    have P7 := P6.below hB7
    have hA7 := hA6.below hB7
    have hC7 := chain hC6 hB7
    clear x0 x1 x2 x3 x4 x5 P6 hA6 hC6 hB7
    obtain ⟨x0, x1, x2, x3, x4, x5⟩ := P7.six'
    obtain ⟨s0, b0⟩ := rd
    obtain ⟨n0, t0⟩ := sz
    simp only
    rw [hrd] at hrr
    cases b0
    · clear hrr hrd hsz
      cases t0
      all_goals go_wp2
      all_goals go_returns
      all_goals exact ⟨rfl, hC7⟩
    · obtain ⟨c, hc100, hf0, hft, htc, hsc, hall⟩ := hrr rfl
      rw [hsz] at hsc
      obtain ⟨rfl, rfl⟩ : n0 = (c.size : Int) ∧ t0 = true := by simpa using hsc
      have hs0 : c.extract fr.toNat tt.toNat = s0 := by have := hall fr tt hf0 hft htc; rw [hrd] at this; simpa using this.symm
      clear hsc hrd hsz
      subst hs0
      go_wp2_with fail
      have hm1 : fr ≤ fr + (tt - fr) / 2 ∧ fr + (tt - fr) / 2 ≤ tt := by omega
      generalize fr + (tt - fr) / 2 = M at hm1 ⊢
      obtain ⟨hm1, hm2⟩ := hm1
      have e1 := hall fr M hf0 hm1 (by omega)
      have e2 := hall M tt (by omega) hm2 htc
      have e3 : readO p vol file 0 c.size = (c, true) := by
        rw [hall 0 c.size (by omega) (by omega) (Int.le_refl _)]
        simp
      clear hall
      refine (impl_ReadAt (w1.heap.size + 1) (by omega) _ p vol file fr M w7 hA7 hd.1 (Nat.le_trans hvol (by decide))).mono ?_
      rintro e w8 ⟨rfl, hB8⟩
      rw [e1]
      have P8 := P7.below hB8
      have hA8 := hA7.below hB8
      have hC8 := chain hC7 hB8
      clear e1 x0 x1 x2 x3 x4 x5 P7 hA7 hC7 hB8
      obtain ⟨x0, x1, x2, x3, x4, x5⟩ := P8.six'
      go_wp2_with fail
      refine (impl_ReadAt (w1.heap.size + 1) (by omega) _ p vol file M tt w8 hA8 hd.1 (Nat.le_trans hvol (by decide))).mono ?_
      rintro e w9 ⟨rfl, hB9⟩
      rw [e2]
      have P9 := P8.below hB9
      have hA9 := hA8.below hB9
      have hC9 := chain hC8 hB9
      clear e2 x0 x1 x2 x3 x4 x5 P8 hA8 hC8 hB9
      obtain ⟨x0, x1, x2, x3, x4, x5⟩ := P9.six'
      go_wp2_with fail
      refine (impl_ReadAt (w1.heap.size + 1) (by omega) _ p vol file 0 c.size w9 hA9 hd.1 (Nat.le_trans hvol (by decide))).mono ?_
      rintro e w10 ⟨rfl, hB10⟩
      rw [e3]
      have hC10 := chain hC9 hB10
      clear e3 x0 x1 x2 x3 x4 x5 P9 hA9 hC9 hB10
      have hcat := two_pieces c (i := fr.toNat) (j := M.toNat) (k := tt.toNat) (by omega) (by omega)
      have hz1 : (c.extract fr.toNat M.toNat).size ≤ 100 := by simp; omega
      have hz2 : (c.extract M.toNat tt.toNat).size ≤ 100 := by simp; omega
      simp only
      go_wp2
      go_returns
      exact ⟨rfl, hC10⟩
  · have hb : decide (1048576 < n) = true := by simp; omega
    go_enter Tryz.func4, Tryz.ntmps4
    go_wp2_with fail
    refine (laws_bigC a n cap _ hm).mono ?_
    rintro e w1 ⟨rfl, rfl⟩
    rw [hb]
    go_wp2
    go_returns
    exact ⟨rfl, Below.refl _ _⟩
set_option maxRecDepth 100000 in
theorem liftedDReadAt (os : Os) (started : os.Started) (H : Type) (enc : TypeId × Value → H) :
    ReturnsInHanded {} Tryz.checked os 4 .any (Rows.fnReadAtSpec.pre6 enc Tryz.prog Tryz.f4 Rows.fnReadAtRow.domain false) (Rows.fnReadAtSpec.post enc Tryz.prog Tryz.f4 false true false false) := by
  refine returnsInHanded_of_change (C := Tryz.checked) own started (by kernel_rfl) Tryz.func4
    (ChangeSpec.witness6 (enc := enc) (C := Tryz.checked) false ⟨#[], #[.slice none 0 0], []⟩ 8 (by kernel_rfl) (by kernel_rfl) (by kernel_rfl) (by kernel_rfl)) ?_
  intro W base args ds gs before hval0 hW _ _
  have hval : ∀ (j : Nat) t v, Tryz.f4.params[j]? = some t → args[j]? = some v → Value.okWide Tryz.prog W .any base t v := hval0
  have hW' := hW
  obtain ⟨p, q, hA0, hV, rfl, _, _⟩ := hW
  have hA : DataW.TrodAll enc Tryz.prog W 0 (fun _ => true) true Tryz.f4.params.toList args.toList ds p := hA0
  rw [Tryz.params4] at hA hval
  obtain ⟨v0, vs0, d0, ds0, p0, q0, hargs, rfl, rfl, h0, r0⟩ := trodAll_cons hA
  obtain ⟨rfl, rfl, rfl⟩ := trodAll_nil r0
  obtain rfl : args = #[v0] := by cases args; simp_all
  obtain ⟨rfl, rfl⟩ := trodVars_none hV
  clear hA0 hval0
  simp only [List.append_nil] at hW'
  have hlt : ∀ x ∈ p0, x.block < W.heap.size := fun x hx => by simpa using hW'.lt x hx
  obtain ⟨a0, len, cap, rfl⟩ := okWide_slice Tryz.underlying22 (hval 0 22 v0 rfl rfl)
  obtain ⟨hmx, hl⟩ := open_code h0
  unfold maxLen at hmx
  refine (walkDReadAt a0 len cap W hl (by omega)).mono fun e W' ⟨he, hB⟩ => ?_
  subst he
  have hargs : DataW.Trod enc Tryz.prog W' 0 (fun b => decide (b < W.heap.size)) true 22 (.slice a0 len cap) d0 p0 :=
    Below.trod laidOut (by kernel_rfl) (of_decide_eq_true (by kernel_rfl)) h0 hB hlt
  exact ⟨_, rfl, ⟨_, _, _, [], _, [], hW', trodAll_mk1 (shut_bool Tryz.underlying4 _), trodAll_mk1 hargs, rfl, hB.frame _, fun h => by cases h⟩⟩
theorem holdsDReadAt : Rows.FnReadAtSaid :=
  OpenClaim.holds_of_wide 4 Tryz.f4 rfl rfl rfl rfl rfl rfl rfl ⟨rfl, rfl, rfl, rfl, rfl⟩ rfl rfl rfl rfl rfl (by kernel_rfl) Tryz.func4 (joined_of (by kernel_rfl) (by kernel_rfl) (by kernel_rfl) (by kernel_rfl) rfl rfl rfl (by kernel_rfl))
    (of_decide_eq_true (by kernel_rfl)) (by unfold Func.isWrapper; first | (rw [if_pos (by decide +kernel)]; kernel_rfl) | (rw [if_neg (by decide +kernel)]; exact ⟨rfl, rfl⟩))
    (fun os started H enc _ => liftedDReadAt os started H enc)
end Go.Proofs.YtnjefbkhibfgmaaGreat
