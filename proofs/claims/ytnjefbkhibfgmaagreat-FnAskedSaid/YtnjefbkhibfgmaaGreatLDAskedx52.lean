/- At every code: the owners of an extent of the pool that is drawn, and what only one volume has, are what the model tells; where the pool is right the owners are those that are found, and what only one volume has is no more than there is: no condition. -/
import Derived.Test.YtnjefbkhibfgmaaGreatRows
import Derived.Test.YtnjefbkhibfgmaaGreatLDAskedx50
import Derived.Test.YtnjefbkhibfgmaaGreatLDAskedx43
import Derived.Test.YtnjefbkhibfgmaaGreatLDAskedx00
import Derived.Test.YtnjefbkhibfgmaaGreatLDAskedx01
import Derived.Test.YtnjefbkhibfgmaaGreatLDAskedx51
namespace Go.Proofs.YtnjefbkhibfgmaaGreat
open Go.ChangeShapes Go.WideShapes Go.ChangeAt Go.RowKit Go.Deep Go.BigFrame
theorem sumD_map : ∀ ex : List Ex, sumD ex = (ex.map (fun x => (x.d.size : Int))).sum
  | [] => rfl
  | e :: r => by simp only [sumD, List.map_cons, List.sum_cons, sumD_map r]
theorem only_right {p : Po} {vol : ByteArray} (h : poolB p = true) : 0 ≤ (onlyO p vol).1 ∧ (onlyO p vol).1 ≤ sumD p.ex ∧ roomV p.size p.ex = p.size - sumD p.ex ∧ 1 ≤ p.size ∧ p.size ≤ 400 ∧ 0 ≤ sumD p.ex ∧ sumD p.ex ≤ p.size := by
  have hs := (pool_right h).1
  obtain ⟨s1, s2, _, s4⟩ := ok_parts hs
  have h9 := xgo_sum s4 (by omega)
  have h0 : 0 ≤ sumD p.ex := by
    have := (onlyS_le 0 [] p.ex)
    rw [sumD_map]
    omega
  refine ⟨?_, ?_, by unfold roomV; rw [if_pos hs], s1, s2, h0, by omega⟩
  · unfold onlyO
    rw [if_pos h]
    split
    · exact Int.le_refl _
    · exact (onlyS_le _ _ _).1
  · unfold onlyO
    rw [if_pos h]
    split
    · exact h0
    · rw [sumD_map]; exact (onlyS_le _ _ _).2
theorem filtC_at {l : List Ct} {f : Ct → Bool} {i : Nat} {c : Ct} (h : l[i]? = some c) (hf : f c = true) : (l.filter f)[((l.take i).filter f).length]? = some c := by
  have e : l.filter f = (l.take i).filter f ++ ((l.drop i).filter f) := by rw [← List.filter_append, List.take_append_drop]
  rw [e, List.getElem?_append_right (Nat.le_refl _), Nat.sub_self, drop_at h]
  simp [hf]
set_option maxHeartbeats 8000000 in
set_option maxRecDepth 100000 in
theorem walkDAsked (a : Option Addr) (n cap : Nat) (w : World) (h : CodeAt w a n) (hm : n ≤ 9223372036854775807) :
    Calls Tryz.prog 5 #[.slice a n cap] w fun e w' => e = .returned (.bool true) ∧ Below w.heap.size w w' := by
  by_cases hn : n ≤ 1048576
  · have hb : decide (1048576 < n) = false := by simp; omega
    go_enter Tryz.func5, Tryz.ntmps5
    go_wp2_with fail
    refine (laws_bigC a n cap _ hm).mono ?_
    rintro e w1 ⟨rfl, rfl⟩
    rw [hb]
    go_wp2_with fail
    refine (spec_DrawOwnersOf a n cap _ h hn).mono ?_
    rintro e w2 ⟨⟨v, p, addr, rfl, PT, hd⟩, hB2⟩
    have PT2 := PT
    obtain ⟨ea, en, ec, va, vn, vc, ra, rn, rc, la, ln, lc, rows, rfl, hjunk⟩ := PT
    clear hjunk
    have hAl : Below w2.heap.size w2 (w2.alloc (.cells #[.int .i64 p.size, .int .i64 p.next, .slice ea en ec, .slice va vn vc, .slice ra rn rc, .slice la ln lc] 28)) := (Below.refl _ _).alloc (Nat.le_refl _) _
    have P3 := Blk.new w2 #[.int .i64 p.size, .int .i64 p.next, .slice ea en ec, .slice va vn vc, .slice ra rn rc, .slice la ln lc] 28
    go_wp2_with fail
    have hA3 := (PT2.below hAl).at'
    have hC3 := chain hB2 hAl
    generalize w2.alloc (.cells #[.int .i64 p.size, .int .i64 p.next, .slice ea en ec, .slice va vn vc, .slice ra rn rc, .slice la ln lc] 28) = w3 at *
    clear hAl hB2 PT2
    obtain ⟨x0, x1, x2, x3, x4, x5⟩ := P3.six'
    refine (impl_OwnersOf (w1.heap.size + 1) _ p addr _ hA3 hd.1).mono ?_
    rintro e w4 ⟨⟨oa, on, oc, rfl, hon, RO4⟩, hB4⟩
    have P4 := P3.below hB4
    have hA4 := hA3.below hB4
    have hC4 := chain hC3 hB4
    clear x0 x1 x2 x3 x4 x5 P3 hA3 hC3 hB4
    obtain ⟨x0, x1, x2, x3, x4, x5⟩ := P4.six'
    go_wp2_with fail
    refine (spec_DrawOnlyOf a n cap _ (h.below hC4) hn).mono ?_
    rintro e w5 ⟨⟨v2, p2, vol, rfl, PTq, _, hvol⟩, hB5⟩
    obtain ⟨ea2, en2, ec2, va2, vn2, vc2, ra2, rn2, rc2, la2, ln2, lc2, rows2, rfl, hjunk⟩ := PTq
    clear hjunk
    have hAl : Below w5.heap.size w5 (w5.alloc (.cells #[.int .i64 p2.size, .int .i64 p2.next, .slice ea2 en2 ec2, .slice va2 vn2 vc2, .slice ra2 rn2 rc2, .slice la2 ln2 lc2] 28)) := (Below.refl _ _).alloc (Nat.le_refl _) _
    have hB6 := chain hB5 hAl
    have P6 := P4.below hB6
    have hA6 := hA4.below hB6
    have hC6 := chain hC4 hB6
    have RO6 := RO4.below hB6
    clear x0 x1 x2 x3 x4 x5 P4 hA4 hC4 RO4 hB5
    obtain ⟨x0, x1, x2, x3, x4, x5⟩ := P6.six'
    go_wp2_with fail
    generalize w5.alloc (.cells #[.int .i64 p2.size, .int .i64 p2.next, .slice ea2 en2 ec2, .slice va2 vn2 vc2, .slice ra2 rn2 rc2, .slice la2 ln2 lc2] 28) = w6 at *
    obtain ⟨ou, hou⟩ : ∃ ou, onlyO p vol = ou := ⟨_, rfl⟩
    have hor := only_right (p := p) (vol := vol)
    rw [hou] at hor
    refine (impl_OnlyOf (w1.heap.size + 1) (by omega) _ p vol _ hA6 hd.1 (Nat.le_trans hvol (by decide))).mono ?_
    rintro e w7 ⟨rfl, hB7⟩
    rw [hou]
    have P7 := P6.below hB7
    have hA7 := hA6.below hB7
    have hC7 := chain hC6 hB7
    have RO7 := RO6.below hB7
    clear x0 x1 x2 x3 x4 x5 P6 hA6 hC6 hB7
    obtain ⟨x0, x1, x2, x3, x4, x5⟩ := P7.six'
    go_wp2_with fail
    refine (spec_OnlyOf (w1.heap.size + 1) (by omega) _ p vol _ hA7 hd.1).mono ?_
    rintro e w8 ⟨rfl, hB8⟩
    rw [hou]
    have P8 := P7.below hB8
    have hA8 := hA7.below hB8
    have hC8 := chain hC7 hB8
    have RO8 := RO7.below hB8
    clear x0 x1 x2 x3 x4 x5 P7 hA7 hC7 hB8
    obtain ⟨x0, x1, x2, x3, x4, x5⟩ := P8.six'
    clear RO6 RO7 hAl hB6 hou
    obtain ⟨n0, t0⟩ := ou
    simp only at hor ⊢
    go_wp2_with fail
    refine (spec_OwnersOf (w1.heap.size + 1) (by omega) _ p addr _ hA8 hd.1).mono ?_
    rintro e w9 ⟨⟨xa, xn, xc, rfl, hxn, RX⟩, hB9⟩
    have P9 := P8.below hB9
    have hA9 := hA8.below hB9
    have hC9 := chain hC8 hB9
    have RO9 := RO8.below hB9
    clear x0 x1 x2 x3 x4 x5 P8 hA8 hC8 hB9
    obtain ⟨x0, x1, x2, x3, x4, x5⟩ := P9.six'
    go_wp2_with fail
    refine (laws_sameCounts oa on oc (ownersL p addr) xa xn xc w9 RO9.sl RX.sl (by omega)).mono ?_
    rintro e w10 ⟨rfl, hB10⟩
    have P10 := P9.below hB10
    have hA10 := hA9.below hB10
    have hC10 := chain hC9 hB10
    have RO10 := RO9.below hB10
    clear x0 x1 x2 x3 x4 x5 P9 hA9 hC9 hB10
    obtain ⟨x0, x1, x2, x3, x4, x5⟩ := P10.six'
    clear RX RO8 RO9
    go_wp2_with fail
    refine (spec_PoolOk (w1.heap.size + 1) (by omega) _ p w10 hA10 hd.1).mono ?_
    rintro e w11 ⟨rfl, hB11⟩
    have P11 := P10.below hB11
    have hA11 := hA10.below hB11
    have hC11 := chain hC10 hB11
    have RO11 := RO10.below hB11
    clear x0 x1 x2 x3 x4 x5 P10 hA10 hC10 hB11
    obtain ⟨x0, x1, x2, x3, x4, x5⟩ := P11.six'
    clear RO10
    cases hpk : poolB p
    · go_wp2_with fail
      refine (spec_OwnersOf (w1.heap.size + 1) (by omega) _ p addr _ hA11 hd.1).mono ?_
      rintro e w12 ⟨⟨xa, xn, xc, rfl, hxn, RX⟩, hB12⟩
      have RO12 := RO11.below hB12
      have hC12 := chain hC11 hB12
      go_wp2_with fail
      refine (laws_sameCounts oa on oc (ownersL p addr) xa xn xc w12 RO12.sl RX.sl (by omega)).mono ?_
      rintro e w13 ⟨rfl, hB13⟩
      go_wp2
      go_returns
      exact ⟨rfl, chain hC12 hB13⟩
    · have hwl : walkedL p = walkL p.vs := by unfold walkedL; rw [if_pos hpk]
      have hol : ownersL p addr = (walkL p.vs).filter (fun c => c.o.a == addr) := by unfold ownersL; rw [if_pos hpk, pool_walk hpk]
      rw [hol] at RO11
      obtain ⟨o1, o2, o3, o4, o5, o6, o7⟩ := hor hpk
      clear hor hol
      go_wp2_with fail
      refine (impl_Walked (w1.heap.size + 1) _ p _ hA11 hd.1).mono ?_
      rintro e w12 ⟨⟨wa, wn, wc, rfl, hwn, RW⟩, hB12⟩
      rw [hwl] at RW
      have RO := RO11.below hB12
      have P12 := P11.below hB12
      have hA12 := hA11.below hB12
      have hC12 := chain hC11 hB12
      clear x0 x1 x2 x3 x4 x5 P11 hA11 hC11 hB12
      obtain ⟨x0, x1, x2, x3, x4, x5⟩ := P12.six'
      clear RO11 hwl
      have hlw : Hid ((walkL p.vs).length = wn) := RW.sl.len
      have hlo : Hid (((walkL p.vs).filter (fun c => c.o.a == addr)).length = on) := RO.sl.len
      go_wp2_with fail
      go_loopw [12, 14] (fun kv ix wr => ∃ i : Nat, i ≤ wn ∧ ix = .int .i64 i ∧ kv = .int .i64 ((((walkL p.vs).take i).filter (fun c => c.o.a == addr)).length : Int) ∧ Below w12.heap.size w12 wr) (fun _ ix _ => wn - (intOf ix).toNat)
      case atStart => exact ⟨0, Nat.zero_le _, rfl, by simp, Below.refl _ _⟩
      case round =>
        obtain ⟨i, hi, rfl, rfl, hBr⟩ := hrel
        clear x0 x1 x2 x3 x4 x5
        by_cases hlt : i < wn
        · obtain ⟨b, o, c, rfl, hc, c0, c1, c2, c3⟩ := cts_at (RW.sl.below hBr) hlt
          have hi1 : (i : Int) < wn := by omega
          have hi2 : (0 : Int) ≤ i := by omega
          have hft := filter_take (f := fun c => c.o.a == addr) hc
          by_cases hca : c.o.a = addr
          · have hcb : (c.o.a == addr) = true := by simp [hca]
            have hcn : (c.o.a != addr) = false := by simp [hca]
            have hk := filtC_at (f := fun c => c.o.a == addr) hc hcb
            have hlen : Hid ((((walkL p.vs).take (i + 1)).filter (fun c => c.o.a == addr)).length = (((walkL p.vs).take i).filter (fun c => c.o.a == addr)).length + 1) := by
              show _ = _
              rw [hft]; simp [hcb]
            have hklt := (List.getElem?_eq_some_iff.1 hk).1
            rw [hlo.out] at hklt
            clear hft hc
            generalize (((walkL p.vs).take i).filter (fun c => c.o.a == addr)).length = k at *
            obtain ⟨b', o', c', rfl, hc', d0, d1, d2, d3⟩ := cts_at (RO.sl.below hBr) hklt
            rw [hk] at hc'
            cases hc'
            clear hk
            have hk1 : (k : Int) < on := by omega
            have hk2 : (0 : Int) ≤ k := by omega
            have hk3 : ¬ (on : Int) ≤ k := by omega
            have hk4 : decide ((on : Int) ≤ k) = false := by simp; omega
            have hk5 : on ≤ k ↔ False := iff_false_intro (by omega)
            have hk6 : decide (on ≤ k) = false := by simp; omega
            go_wp2_with fail
            have hS0 : (fun u => u.cell? ⟨b', o' + k * 4, none⟩ = some (.int .i64 c.o.a) ∧ u.cell? ⟨b', o' + k * 4 + 1, none⟩ = some (.int .i64 c.o.v) ∧ u.cell? ⟨b', o' + k * 4 + 2, none⟩ = some (.string c.o.f) ∧ u.cell? ⟨b', o' + k * 4 + 3, none⟩ = some (.int .i64 c.n) ∧ u.cell? ⟨b, o + i * 4, none⟩ = some (.int .i64 c.o.a) ∧ u.cell? ⟨b, o + i * 4 + 1, none⟩ = some (.int .i64 c.o.v) ∧ u.cell? ⟨b, o + i * 4 + 2, none⟩ = some (.string c.o.f) ∧ u.cell? ⟨b, o + i * 4 + 3, none⟩ = some (.int .i64 c.n)) wr.drew := ⟨d0, d1, d2, d3, c0, c1, c2, c3⟩
            refine wp_region_heldN (S := (fun u => u.cell? ⟨b', o' + k * 4, none⟩ = some (.int .i64 c.o.a) ∧ u.cell? ⟨b', o' + k * 4 + 1, none⟩ = some (.int .i64 c.o.v) ∧ u.cell? ⟨b', o' + k * 4 + 2, none⟩ = some (.string c.o.f) ∧ u.cell? ⟨b', o' + k * 4 + 3, none⟩ = some (.int .i64 c.n) ∧ u.cell? ⟨b, o + i * 4, none⟩ = some (.int .i64 c.o.a) ∧ u.cell? ⟨b, o + i * 4 + 1, none⟩ = some (.int .i64 c.o.v) ∧ u.cell? ⟨b, o + i * 4 + 2, none⟩ = some (.string c.o.f) ∧ u.cell? ⟨b, o + i * 4 + 3, none⟩ = some (.int .i64 c.n))) 15 (by kernel_rfl) rfl ?_
            refine takeQ (i := 0) (v := ?vq9001) rfl (by kernel_rfl) (fun _ _ _ h => h) (by rfl) ?hq9001 (by assumption) ?rq9001
            case hq9001 => (intro u hu; (try dsimp only at hu); go_simp <;> with_reducible rfl)
            try simp only [Act.put, lsA, lsB, lsC]
            refine takeQ (i := 1) (v := ?vq9002) rfl (by kernel_rfl) (fun _ _ _ h => h) (by rfl) ?hq9002 (by assumption) ?rq9002
            case hq9002 => (intro u hu; (try dsimp only at hu); go_simp <;> with_reducible rfl)
            try simp only [Act.put, lsA, lsB, lsC]
            refine takeQ (i := 2) (v := ?vq9003) rfl (by kernel_rfl) (fun _ _ _ h => h) (by rfl) ?hq9003 (by assumption) ?rq9003
            case hq9003 => (intro u hu; (try dsimp only at hu); go_simp <;> with_reducible rfl)
            try simp only [Act.put, lsA, lsB, lsC]
            refine takeQ (i := 3) (v := ?vq9004) rfl (by kernel_rfl) (fun _ _ _ h => h) (by rfl) ?hq9004 (by assumption) ?rq9004
            case hq9004 => (intro u hu; (try dsimp only at hu); go_simp <;> with_reducible rfl)
            try simp only [Act.put, lsA, lsB, lsC]
            refine takeQ (i := 4) (v := ?vq9005) rfl (by kernel_rfl) (fun _ _ _ h => h) (by rfl) ?hq9005 (by assumption) ?rq9005
            case hq9005 => (intro u hu; (try dsimp only at hu); go_simp <;> with_reducible rfl)
            try simp only [Act.put, lsA, lsB, lsC]
            refine takeQ (i := 5) (v := ?vq9006) rfl (by kernel_rfl) (fun _ _ _ h => h) (by rfl) ?hq9006 (by assumption) ?rq9006
            case hq9006 => (intro u hu; (try dsimp only at hu); go_simp <;> with_reducible rfl)
            try simp only [Act.put, lsA, lsB, lsC]
            refine takeQ (i := 6) (v := ?vq9007) rfl (by kernel_rfl) (fun _ _ _ h => h) (by rfl) ?hq9007 (by assumption) ?rq9007
            case hq9007 => (intro u hu; (try dsimp only at hu); go_simp <;> with_reducible rfl)
            try simp only [Act.put, lsA, lsB, lsC]
            refine takeQ (i := 7) (v := ?vq9008) rfl (by kernel_rfl) (fun _ _ _ h => h) (by rfl) ?hq9008 (by assumption) ?rq9008
            case hq9008 => (intro u hu; (try dsimp only at hu); go_simp <;> with_reducible rfl)
            try simp only [Act.put, lsA, lsB, lsC]
            refine takeQ (i := 8) (v := ?vq9009) rfl (by kernel_rfl) (fun _ _ _ h => h) (by rfl) ?hq9009 (by assumption) ?rq9009
            case hq9009 => (intro u hu; (try dsimp only at hu); go_simp <;> with_reducible rfl)
            try simp only [Act.put, lsA, lsB, lsC]
            refine takeQ (i := 9) (v := ?vq9010) rfl (by kernel_rfl) (fun _ _ _ h => h) (by rfl) ?hq9010 (by assumption) ?rq9010
            case hq9010 => (intro u hu; (try dsimp only at hu); go_simp <;> with_reducible rfl)
            try simp only [Act.put, lsA, lsB, lsC]
            refine takeQ (i := 10) (v := ?vq9011) rfl (by kernel_rfl) (fun _ _ _ h => h) (by rfl) ?hq9011 (by assumption) ?rq9011
            case hq9011 => (intro u hu; (try dsimp only at hu); go_simp <;> with_reducible rfl)
            try simp only [Act.put, lsA, lsB, lsC]
            refine takeQ (i := 11) (v := ?vq9012) rfl (by kernel_rfl) (fun _ _ _ h => h) (by rfl) ?hq9012 (by assumption) ?rq9012
            case hq9012 => (intro u hu; (try dsimp only at hu); go_simp <;> with_reducible rfl)
            try simp only [Act.put, lsA, lsB, lsC]
            refine takeQ (i := 12) (v := ?vq9013) rfl (by kernel_rfl) (fun _ _ _ h => h) (by rfl) ?hq9013 (by assumption) ?rq9013
            case hq9013 => (intro u hu; (try dsimp only at hu); go_simp <;> with_reducible rfl)
            try simp only [Act.put, lsA, lsB, lsC]
            refine takeQ (i := 13) (v := ?vq9014) rfl (by kernel_rfl) (fun _ _ _ h => h) (by rfl) ?hq9014 (by assumption) ?rq9014
            case hq9014 => (intro u hu; (try dsimp only at hu); go_simp <;> with_reducible rfl)
            try simp only [Act.put, lsA, lsB, lsC]
            refine takeQ (i := 14) (v := ?vq9015) rfl (by kernel_rfl) (fun _ _ _ h => h) (by rfl) ?hq9015 (by assumption) ?rq9015
            case hq9015 => (intro u hu; (try dsimp only at hu); go_simp <;> with_reducible rfl)
            try simp only [Act.put, lsA, lsB, lsC]
            refine wpAnyH_done (by kernel_rfl) ?_ _
            go_wp2
            go_roundw
            case rel => exact ⟨i + 1, by omega, by go_num, by rw [hlen.out]; go_num, chain hBr ((Below.refl _ _).drew)⟩
            case measure => simp [intOf]; omega
          · have hcb : (c.o.a == addr) = false := by simp [hca]
            have hcn : (c.o.a != addr) = true := by simp [hca]
            have hlen : Hid ((((walkL p.vs).take (i + 1)).filter (fun c => c.o.a == addr)).length = (((walkL p.vs).take i).filter (fun c => c.o.a == addr)).length) := by
              show _ = _
              rw [hft]; simp [hcb]
            clear hft hc
            generalize (((walkL p.vs).take i).filter (fun c => c.o.a == addr)).length = k at *
            go_wp2
            go_roundw
            case rel => exact ⟨i + 1, by omega, by go_num, by rw [hlen.out], hBr⟩
            case measure => simp [intOf]; omega
        · obtain rfl : i = wn := by omega
          rw [List.take_of_length_le (Nat.le_of_eq hlw.out), hlo.out]
          have P13 := P12.below hBr
          have hA13 := hA12.below hBr
          have hC13 := chain hC12 hBr
          obtain ⟨x0, x1, x2, x3, x4, x5⟩ := P13.six'
          go_wp2_with fail
          have hSB : ∀ u, Below wr.heap.size wr u → (fun u => u.cell? ⟨w2.heap.size, 0, none⟩ = some (.int .i64 p.size) ∧ u.cell? ⟨w2.heap.size, 1, none⟩ = some (.int .i64 p.next) ∧ u.cell? ⟨w2.heap.size, 2, none⟩ = some (.slice ea en ec) ∧ u.cell? ⟨w2.heap.size, 3, none⟩ = some (.slice va vn vc) ∧ u.cell? ⟨w2.heap.size, 4, none⟩ = some (.slice ra rn rc) ∧ u.cell? ⟨w2.heap.size, 5, none⟩ = some (.slice la ln lc)) u := fun u hu => ⟨bcell hu x0, bcell hu x1, bcell hu x2, bcell hu x3, bcell hu x4, bcell hu x5⟩
          have hS0 : (fun u => u.cell? ⟨w2.heap.size, 0, none⟩ = some (.int .i64 p.size) ∧ u.cell? ⟨w2.heap.size, 1, none⟩ = some (.int .i64 p.next) ∧ u.cell? ⟨w2.heap.size, 2, none⟩ = some (.slice ea en ec) ∧ u.cell? ⟨w2.heap.size, 3, none⟩ = some (.slice va vn vc) ∧ u.cell? ⟨w2.heap.size, 4, none⟩ = some (.slice ra rn rc) ∧ u.cell? ⟨w2.heap.size, 5, none⟩ = some (.slice la ln lc)) wr.drew := ⟨x0, x1, x2, x3, x4, x5⟩
          have hon' : ((on : Int) == (on : Int)) = true := by simp
          cases t0
          · refine wp_region_heldN (S := (fun u => u.cell? ⟨w2.heap.size, 0, none⟩ = some (.int .i64 p.size) ∧ u.cell? ⟨w2.heap.size, 1, none⟩ = some (.int .i64 p.next) ∧ u.cell? ⟨w2.heap.size, 2, none⟩ = some (.slice ea en ec) ∧ u.cell? ⟨w2.heap.size, 3, none⟩ = some (.slice va vn vc) ∧ u.cell? ⟨w2.heap.size, 4, none⟩ = some (.slice ra rn rc) ∧ u.cell? ⟨w2.heap.size, 5, none⟩ = some (.slice la ln lc))) 25 (by kernel_rfl) rfl ?_
            refine takeQ (i := 0) (v := ?vq9016) rfl (by kernel_rfl) (fun _ _ _ h => h) (by rfl) ?hq9016 (by assumption) ?rq9016
            case hq9016 => (intro u hu; (try dsimp only at hu); go_simp <;> with_reducible rfl)
            try simp only [Act.put, lsA, lsB, lsC]
            refine takeQ (i := 1) (v := ?vq9017) rfl (by kernel_rfl) (fun _ _ _ h => h) (by rfl) ?hq9017 (by assumption) ?rq9017
            case hq9017 => (intro u hu; (try dsimp only at hu); go_simp <;> with_reducible rfl)
            try simp only [Act.put, lsA, lsB, lsC]
            refine takeQ (i := 2) (v := ?vq9018) rfl (by kernel_rfl) (fun _ _ _ h => h) (by rfl) ?hq9018 (by assumption) ?rq9018
            case hq9018 => (intro u hu; (try dsimp only at hu); go_simp <;> with_reducible rfl)
            try simp only [Act.put, lsA, lsB, lsC]
            refine takeQ (i := 3) (v := ?vq9019) rfl (by kernel_rfl) (fun _ _ _ h => h) (by rfl) ?hq9019 (by assumption) ?rq9019
            case hq9019 => (intro u hu; (try dsimp only at hu); go_simp <;> with_reducible rfl)
            try simp only [Act.put, lsA, lsB, lsC]
            refine takeQ (i := 4) (v := ?vq9020) rfl (by kernel_rfl) (fun _ _ _ h => h) (by rfl) ?hq9020 (by assumption) ?rq9020
            case hq9020 => (intro u hu; (try dsimp only at hu); go_simp <;> with_reducible rfl)
            try simp only [Act.put, lsA, lsB, lsC]
            refine takeQ (i := 5) (v := ?vq9021) rfl (by kernel_rfl) (fun _ _ _ h => h) (by rfl) ?hq9021 (by assumption) ?rq9021
            case hq9021 => (intro u hu; (try dsimp only at hu); go_simp <;> with_reducible rfl)
            try simp only [Act.put, lsA, lsB, lsC]
            refine takeQ (i := 6) (v := ?vq9022) rfl (by kernel_rfl) (fun _ _ _ h => h) (by rfl) ?hq9022 (by assumption) ?rq9022
            case hq9022 => (intro u hu; (try dsimp only at hu); go_simp <;> with_reducible rfl)
            try simp only [Act.put, lsA, lsB, lsC]
            refine takeQ (i := 7) (v := ?vq9023) rfl (by kernel_rfl) (fun _ _ _ h => h) (by rfl) ?hq9023 (by assumption) ?rq9023
            case hq9023 => (intro u hu; (try dsimp only at hu); go_simp <;> with_reducible rfl)
            try simp only [Act.put, lsA, lsB, lsC]
            refine takeL (i := 8) (v := undef) rfl (by kernel_rfl) (by kernel_rfl) (by kernel_rfl) (fun _ _ _ h => h) (Or.inr ⟨by rfl, rfl⟩) (by assumption) ?_
            try simp only [Act.put, lsA, lsB, lsC]
            refine takeL (i := 9) (v := undef) rfl (by kernel_rfl) (by kernel_rfl) (by kernel_rfl) (fun _ _ _ h => h) (Or.inr ⟨by rfl, rfl⟩) (by assumption) ?_
            try simp only [Act.put, lsA, lsB, lsC]
            refine takeL (i := 10) (v := undef) rfl (by kernel_rfl) (by kernel_rfl) (by kernel_rfl) (fun _ _ _ h => h) (Or.inr ⟨by rfl, rfl⟩) (by assumption) ?_
            try simp only [Act.put, lsA, lsB, lsC]
            refine takeL (i := 11) (v := undef) rfl (by kernel_rfl) (by kernel_rfl) (by kernel_rfl) (fun _ _ _ h => h) (Or.inr ⟨by rfl, rfl⟩) (by assumption) ?_
            try simp only [Act.put, lsA, lsB, lsC]
            refine takeL (i := 12) (v := undef) rfl (by kernel_rfl) (by kernel_rfl) (by kernel_rfl) (fun _ _ _ h => h) (Or.inr ⟨by rfl, rfl⟩) (by assumption) ?_
            try simp only [Act.put, lsA, lsB, lsC]
            refine takeL (i := 13) (v := undef) rfl (by kernel_rfl) (by kernel_rfl) (by kernel_rfl) (fun _ _ _ h => h) (Or.inr ⟨by rfl, rfl⟩) (by assumption) ?_
            try simp only [Act.put, lsA, lsB, lsC]
            refine takeL (i := 14) (v := undef) rfl (by kernel_rfl) (by kernel_rfl) (by kernel_rfl) (fun _ _ _ h => h) (Or.inr ⟨by rfl, rfl⟩) (by assumption) ?_
            try simp only [Act.put, lsA, lsB, lsC]
            refine takeL (i := 15) (v := undef) rfl (by kernel_rfl) (by kernel_rfl) (by kernel_rfl) (fun _ _ _ h => h) (Or.inr ⟨by rfl, rfl⟩) (by assumption) ?_
            try simp only [Act.put, lsA, lsB, lsC]
            refine takeL (i := 16) (v := undef) rfl (by kernel_rfl) (by kernel_rfl) (by kernel_rfl) (fun _ _ _ h => h) (Or.inr ⟨by rfl, rfl⟩) (by assumption) ?_
            try simp only [Act.put, lsA, lsB, lsC]
            refine takeL (i := 17) (v := undef) rfl (by kernel_rfl) (by kernel_rfl) (by kernel_rfl) (fun _ _ _ h => h) (Or.inr ⟨by rfl, rfl⟩) (by assumption) ?_
            try simp only [Act.put, lsA, lsB, lsC]
            refine takeL (i := 18) (v := undef) rfl (by kernel_rfl) (by kernel_rfl) (by kernel_rfl) (fun _ _ _ h => h) (Or.inr ⟨by rfl, rfl⟩) (by assumption) ?_
            try simp only [Act.put, lsA, lsB, lsC]
            refine takeL (i := 19) (v := undef) rfl (by kernel_rfl) (by kernel_rfl) (by kernel_rfl) (fun _ _ _ h => h) (Or.inr ⟨by rfl, rfl⟩) (by assumption) ?_
            try simp only [Act.put, lsA, lsB, lsC]
            refine takeL (i := 20) (v := undef) rfl (by kernel_rfl) (by kernel_rfl) (by kernel_rfl) (fun _ _ _ h => h) (Or.inr ⟨by rfl, rfl⟩) (by assumption) ?_
            try simp only [Act.put, lsA, lsB, lsC]
            refine takeL (i := 21) (v := undef) rfl (by kernel_rfl) (by kernel_rfl) (by kernel_rfl) (fun _ _ _ h => h) (Or.inr ⟨by rfl, rfl⟩) (by assumption) ?_
            try simp only [Act.put, lsA, lsB, lsC]
            refine takeQ (i := 22) (v := ?vq9024) rfl (by kernel_rfl) (fun _ _ _ h => h) (by rfl) ?hq9024 (by assumption) ?rq9024
            case hq9024 => (intro u hu; (try dsimp only at hu); go_simp <;> with_reducible rfl)
            try simp only [Act.put, lsA, lsB, lsC]
            refine takeQ (i := 23) (v := ?vq9025) rfl (by kernel_rfl) (fun _ _ _ h => h) (by rfl) ?hq9025 (by assumption) ?rq9025
            case hq9025 => (intro u hu; (try dsimp only at hu); go_simp <;> with_reducible rfl)
            try simp only [Act.put, lsA, lsB, lsC]
            refine takeQ (i := 24) (v := ?vq9026) rfl (by kernel_rfl) (fun _ _ _ h => h) (by rfl) ?hq9026 (by assumption) ?rq9026
            case hq9026 => (intro u hu; (try dsimp only at hu); go_simp <;> with_reducible rfl)
            try simp only [Act.put, lsA, lsB, lsC]
            refine wpAnyH_done (by kernel_rfl) ?_ _
            go_wp2
            go_returns
            exact ⟨rfl, chain hC13 ((Below.refl _ _).drew)⟩
          · have hn0 : ¬ n0 < 0 := by omega
            have hge : decide (0 ≤ n0) = true := by simp; omega
            have hw19 : IntKind.i64.wrap (p.size - (p.size - sumD p.ex)) = p.size - (p.size - sumD p.ex) := by rw [IntKind.wrap_i64]; omega
            have hle : decide (n0 ≤ p.size - (p.size - sumD p.ex)) = true := by simp; omega
            obtain ⟨_, _, _, _, _, _, _, _, _, _, _, _, hv9, ⟨h1, k1⟩, _⟩ := hA13
            simp only [Value.agg.injEq, Array.mk.injEq, List.cons.injEq, Value.slice.injEq, and_true, true_and] at hv9
            obtain ⟨⟨rfl, rfl, rfl⟩, ⟨rfl, rfl, rfl⟩, ⟨rfl, rfl, rfl⟩, ⟨rfl, rfl, rfl⟩⟩ := hv9
            have hen4 : en ≤ 4194304 := by rw [← h1.len]; exact hd.1.1
            have hbl : ∀ (u : World), Below wr.heap.size wr u → ∀ ad, 0 < en → ea = some ad → ad.block < u.heap.size := fun u hu ad h0 had => by
              obtain ⟨b, o, q, hbo, _, hc, _⟩ := exs_at (h1.below hu) h0
              rw [had] at hbo
              cases hbo
              exact World.block_lt_of_cell? _ _ hc
            refine wp_region_heldN (S := (fun u => u.cell? ⟨w2.heap.size, 0, none⟩ = some (.int .i64 p.size) ∧ u.cell? ⟨w2.heap.size, 1, none⟩ = some (.int .i64 p.next) ∧ u.cell? ⟨w2.heap.size, 2, none⟩ = some (.slice ea en ec) ∧ u.cell? ⟨w2.heap.size, 3, none⟩ = some (.slice va vn vc) ∧ u.cell? ⟨w2.heap.size, 4, none⟩ = some (.slice ra rn rc) ∧ u.cell? ⟨w2.heap.size, 5, none⟩ = some (.slice la ln lc))) 25 (by kernel_rfl) rfl ?_
            refine takeQ (i := 0) (v := ?vq9027) rfl (by kernel_rfl) (fun _ _ _ h => h) (by rfl) ?hq9027 (by assumption) ?rq9027
            case hq9027 => (intro u hu; (try dsimp only at hu); go_simp <;> with_reducible rfl)
            try simp only [Act.put, lsA, lsB, lsC]
            refine takeQ (i := 1) (v := ?vq9028) rfl (by kernel_rfl) (fun _ _ _ h => h) (by rfl) ?hq9028 (by assumption) ?rq9028
            case hq9028 => (intro u hu; (try dsimp only at hu); go_simp <;> with_reducible rfl)
            try simp only [Act.put, lsA, lsB, lsC]
            refine takeQ (i := 2) (v := ?vq9029) rfl (by kernel_rfl) (fun _ _ _ h => h) (by rfl) ?hq9029 (by assumption) ?rq9029
            case hq9029 => (intro u hu; (try dsimp only at hu); go_simp <;> with_reducible rfl)
            try simp only [Act.put, lsA, lsB, lsC]
            refine takeQ (i := 3) (v := ?vq9030) rfl (by kernel_rfl) (fun _ _ _ h => h) (by rfl) ?hq9030 (by assumption) ?rq9030
            case hq9030 => (intro u hu; (try dsimp only at hu); go_simp <;> with_reducible rfl)
            try simp only [Act.put, lsA, lsB, lsC]
            refine takeQ (i := 4) (v := ?vq9031) rfl (by kernel_rfl) (fun _ _ _ h => h) (by rfl) ?hq9031 (by assumption) ?rq9031
            case hq9031 => (intro u hu; (try dsimp only at hu); go_simp <;> with_reducible rfl)
            try simp only [Act.put, lsA, lsB, lsC]
            refine takeQ (i := 5) (v := ?vq9032) rfl (by kernel_rfl) (fun _ _ _ h => h) (by rfl) ?hq9032 (by assumption) ?rq9032
            case hq9032 => (intro u hu; (try dsimp only at hu); go_simp <;> with_reducible rfl)
            try simp only [Act.put, lsA, lsB, lsC]
            refine takeQ (i := 6) (v := ?vq9033) rfl (by kernel_rfl) (fun _ _ _ h => h) (by rfl) ?hq9033 (by assumption) ?rq9033
            case hq9033 => (intro u hu; (try dsimp only at hu); go_simp <;> with_reducible rfl)
            try simp only [Act.put, lsA, lsB, lsC]
            refine takeQ (i := 7) (v := ?vq9034) rfl (by kernel_rfl) (fun _ _ _ h => h) (by rfl) ?hq9034 (by assumption) ?rq9034
            case hq9034 => (intro u hu; (try dsimp only at hu); go_simp <;> with_reducible rfl)
            try simp only [Act.put, lsA, lsB, lsC]
            refine takeQ (i := 8) (v := ?vq9035) rfl (by kernel_rfl) (fun _ _ _ h => h) (by rfl) ?hq9035 (by assumption) ?rq9035
            case hq9035 => (intro u hu; (try dsimp only at hu); go_simp <;> with_reducible rfl)
            try simp only [Act.put, lsA, lsB, lsC]
            refine takeQ (i := 9) (v := ?vq9036) rfl (by kernel_rfl) (fun _ _ _ h => h) (by rfl) ?hq9036 (by assumption) ?rq9036
            case hq9036 => (intro u hu; (try dsimp only at hu); go_simp <;> with_reducible rfl)
            try simp only [Act.put, lsA, lsB, lsC]
            refine takeQ (i := 10) (v := ?vq9037) rfl (by kernel_rfl) (fun _ _ _ h => h) (by rfl) ?hq9037 (by assumption) ?rq9037
            case hq9037 => (intro u hu; (try dsimp only at hu); go_simp <;> with_reducible rfl)
            try simp only [Act.put, lsA, lsB, lsC]
            refine takeQ (i := 11) (v := ?vq9038) rfl (by kernel_rfl) (fun _ _ _ h => h) (by rfl) ?hq9038 (by assumption) ?rq9038
            case hq9038 => (intro u hu; (try dsimp only at hu); go_simp <;> with_reducible rfl)
            try simp only [Act.put, lsA, lsB, lsC]
            refine takeQ (i := 12) (v := ?vq9039) rfl (by kernel_rfl) (fun _ _ _ h => h) (by rfl) ?hq9039 (by assumption) ?rq9039
            case hq9039 => (intro u hu; (try dsimp only at hu); go_simp <;> with_reducible rfl)
            try simp only [Act.put, lsA, lsB, lsC]
            refine takeQ (i := 13) (v := ?vq9040) rfl (by kernel_rfl) (fun _ _ _ h => h) (by rfl) ?hq9040 (by assumption) ?rq9040
            case hq9040 => (intro u hu; (try dsimp only at hu); go_simp <;> with_reducible rfl)
            try simp only [Act.put, lsA, lsB, lsC]
            refine takeQ (i := 14) (v := ?vq9041) rfl (by kernel_rfl) (fun _ _ _ h => h) (by rfl) ?hq9041 (by assumption) ?rq9041
            case hq9041 => (intro u hu; (try dsimp only at hu); go_simp <;> with_reducible rfl)
            try simp only [Act.put, lsA, lsB, lsC]
            refine takeQ (i := 15) (v := ?vq9042) rfl (by kernel_rfl) (fun _ _ _ h => h) (by rfl) ?hq9042 (by assumption) ?rq9042
            case hq9042 => (intro u hu; (try dsimp only at hu); go_simp <;> with_reducible rfl)
            try simp only [Act.put, lsA, lsB, lsC]
            refine takeQ (i := 16) (v := ?vq9043) rfl (by kernel_rfl) (fun _ _ _ h => h) (by rfl) ?hq9043 (by assumption) ?rq9043
            case hq9043 => (intro u hu; (try dsimp only at hu); go_simp <;> with_reducible rfl)
            try simp only [Act.put, lsA, lsB, lsC]
            refine takeQ (i := 17) (v := ?vq9044) rfl (by kernel_rfl) (fun _ _ _ h => h) (by rfl) ?hq9044 (by assumption) ?rq9044
            case hq9044 => (intro u hu; (try dsimp only at hu); go_simp <;> with_reducible rfl)
            try simp only [Act.put, lsA, lsB, lsC]
            refine oneL (i := 18) (by kernel_rfl) rfl (fun K hK => ?_)
            go_simp
            refine (impl_RoomOf p.size ea en ec p.ex _ (h1.below ((Below.refl _ _).drew)) hd.1.2.1 hen4 (hbl _ ((Below.refl _ _).drew))).mono ?_
            rintro e w14 ⟨rfl, hB14'⟩
            have hB14 := chain ((Below.refl wr.heap.size wr).drew) hB14'
            rw [o3]
            dsimp only
            refine hK.out _ _ (hSB _ hB14) (fun hHeld => ?_)
            clear hK K
            try simp only [Act.put, lsA, lsB, lsC]
            refine takeQ (i := 19) (v := ?vq9045) rfl (by kernel_rfl) (fun _ _ _ h => h) (by rfl) ?hq9045 (by assumption) ?rq9045
            case hq9045 => (intro u hu; (try dsimp only at hu); go_simp <;> with_reducible rfl)
            try simp only [Act.put, lsA, lsB, lsC]
            refine takeQ (i := 20) (v := ?vq9046) rfl (by kernel_rfl) (fun _ _ _ h => h) (by rfl) ?hq9046 (by assumption) ?rq9046
            case hq9046 => (intro u hu; (try dsimp only at hu); go_simp <;> with_reducible rfl)
            try simp only [Act.put, lsA, lsB, lsC]
            refine takeQ (i := 21) (v := ?vq9047) rfl (by kernel_rfl) (fun _ _ _ h => h) (by rfl) ?hq9047 (by assumption) ?rq9047
            case hq9047 => (intro u hu; (try dsimp only at hu); go_simp <;> with_reducible rfl)
            try simp only [Act.put, lsA, lsB, lsC]
            refine takeQ (i := 22) (v := ?vq9048) rfl (by kernel_rfl) (fun _ _ _ h => h) (by rfl) ?hq9048 (by assumption) ?rq9048
            case hq9048 => (intro u hu; (try dsimp only at hu); go_simp <;> with_reducible rfl)
            try simp only [Act.put, lsA, lsB, lsC]
            refine takeQ (i := 23) (v := ?vq9049) rfl (by kernel_rfl) (fun _ _ _ h => h) (by rfl) ?hq9049 (by assumption) ?rq9049
            case hq9049 => (intro u hu; (try dsimp only at hu); go_simp <;> with_reducible rfl)
            try simp only [Act.put, lsA, lsB, lsC]
            refine takeQ (i := 24) (v := ?vq9050) rfl (by kernel_rfl) (fun _ _ _ h => h) (by rfl) ?hq9050 (by assumption) ?rq9050
            case hq9050 => (intro u hu; (try dsimp only at hu); go_simp <;> with_reducible rfl)
            try simp only [Act.put, lsA, lsB, lsC]
            refine wpAnyH_done (by kernel_rfl) ?_ _
            go_wp2
            go_returns
            exact ⟨rfl, chain hC13 hB14⟩
  · have hb : decide (1048576 < n) = true := by simp; omega
    go_enter Tryz.func5, Tryz.ntmps5
    go_wp2_with fail
    refine (laws_bigC a n cap _ hm).mono ?_
    rintro e w1 ⟨rfl, rfl⟩
    rw [hb]
    go_wp2
    go_returns
    exact ⟨rfl, Below.refl _ _⟩
set_option maxRecDepth 100000 in
theorem liftedDAsked (os : Os) (started : os.Started) (H : Type) (enc : TypeId × Value → H) :
    ReturnsInHanded {} Tryz.checked os 5 .any (Rows.fnAskedSpec.pre6 enc Tryz.prog Tryz.f5 Rows.fnAskedRow.domain false) (Rows.fnAskedSpec.post enc Tryz.prog Tryz.f5 false true false false) := by
  refine returnsInHanded_of_change (C := Tryz.checked) own started (by kernel_rfl) Tryz.func5
    (ChangeSpec.witness6 (enc := enc) (C := Tryz.checked) false ⟨#[], #[.slice none 0 0], []⟩ 8 (by kernel_rfl) (by kernel_rfl) (by kernel_rfl) (by kernel_rfl)) ?_
  intro W base args ds gs before hval0 hW _ _
  have hval : ∀ (j : Nat) t v, Tryz.f5.params[j]? = some t → args[j]? = some v → Value.okWide Tryz.prog W .any base t v := hval0
  have hW' := hW
  obtain ⟨p, q, hA0, hV, rfl, _, _⟩ := hW
  have hA : DataW.TrodAll enc Tryz.prog W 0 (fun _ => true) true Tryz.f5.params.toList args.toList ds p := hA0
  rw [Tryz.params5] at hA hval
  obtain ⟨v0, vs0, d0, ds0, p0, q0, hargs, rfl, rfl, h0, r0⟩ := trodAll_cons hA
  obtain ⟨rfl, rfl, rfl⟩ := trodAll_nil r0
  obtain rfl : args = #[v0] := by cases args; simp_all
  obtain ⟨rfl, rfl⟩ := trodVars_none hV
  clear hA0 hval0
  simp only [List.append_nil] at hW'
  have hlt : ∀ x ∈ p0, x.block < W.heap.size := fun x hx => by simpa using hW'.lt x hx
  obtain ⟨a0, len, cap, rfl⟩ := okWide_slice Tryz.underlying22 (hval 0 22 v0 rfl rfl)
  obtain ⟨hmx, hl⟩ := open_code h0
  unfold maxLen at hmx
  refine (walkDAsked a0 len cap W hl (by omega)).mono fun e W' ⟨he, hB⟩ => ?_
  subst he
  have hargs : DataW.Trod enc Tryz.prog W' 0 (fun b => decide (b < W.heap.size)) true 22 (.slice a0 len cap) d0 p0 :=
    Below.trod laidOut (by kernel_rfl) (of_decide_eq_true (by kernel_rfl)) h0 hB hlt
  exact ⟨_, rfl, ⟨_, _, _, [], _, [], hW', trodAll_mk1 (shut_bool Tryz.underlying4 _), trodAll_mk1 hargs, rfl, hB.frame _, fun h => by cases h⟩⟩
theorem holdsDAsked : Rows.FnAskedSaid :=
  OpenClaim.holds_of_wide 5 Tryz.f5 rfl rfl rfl rfl rfl rfl rfl ⟨rfl, rfl, rfl, rfl, rfl⟩ rfl rfl rfl rfl rfl (by kernel_rfl) Tryz.func5 (joined_of (by kernel_rfl) (by kernel_rfl) (by kernel_rfl) (by kernel_rfl) rfl rfl rfl (by kernel_rfl))
    (of_decide_eq_true (by kernel_rfl)) (by unfold Func.isWrapper; first | (rw [if_pos (by decide +kernel)]; kernel_rfl) | (rw [if_neg (by decide +kernel)]; exact ⟨rfl, rfl⟩))
    (fun os started H enc _ => liftedDAsked os started H enc)
end Go.Proofs.YtnjefbkhibfgmaaGreat
