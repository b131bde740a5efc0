/- At every size the program's StoreNew answers as its model does, and owns what it answers: the tied card. -/
import Derived.Test.YtigldeccfpkdmaaGreatDoorCStoreNewx22
import Derived.Test.YtigldeccfpkdmaaGreatDoorCStoreNewx26
import Derived.Test.YtigldeccfpkdmaaGreatDoorCStoreNewx28
import Derived.Test.YtigldeccfpkdmaaGreatDoorRows
import Derived.Lib.SmallJoins
import Derived.Test.YtigldeccfpkdmaaGreatDoorCStoreNewx00
import Derived.ChangeSame
import Derived.ChangeVars
import Derived.JoinedOf
import Derived.RowKitTokens
import Derived.LaidLaws
import Derived.LaidHandle
import Derived.Lib.LaidTab
import Derived.SevenTiedAt
import Derived.Test.YtigldeccfpkdmaaGreatDoorCards
import Derived.Test.YtigldeccfpkdmaaGreatDoorTie
namespace Go.Proofs.YtigldeccfpkdmaaGreatDoor
open Go Go.RowKit Go.BigFrame Go.Shelf
theorem markPool_newK (s n k : Int) (w : World) : Calls Tryz.prog 12 #[poolV s n, .int .i64 k] w fun e w' => e = .returned (.int .i64 k) ∧ Below w.heap.size w w' := by
  unfold poolV
  go_enter Tryz.func12, Tryz.ntmps12
  go_wp2_with (first | (go_at_call 45; refine (nil_markExtentS _ _).mono ?_; rintro e w1 ⟨rfl, rfl⟩) | (go_at_call 46; refine (nil_markVolumeS _ _).mono ?_; rintro e w1 ⟨rfl, rfl⟩) | (go_at_call 47; refine (nil_markCountedS _ _).mono ?_; rintro e w1 ⟨rfl, rfl⟩))
  go_returns
  go_light
  exact ⟨rfl, by go_grown⟩
theorem heldPool_newK (s n k : Int) (w : World) (hk : ¬ k < 0) : Calls Tryz.prog 13 #[poolV s n, .int .i64 k] w fun e w' => e = .returned (.int .i64 k) ∧ Below w.heap.size w w' := by
  unfold poolV
  go_enter Tryz.func13, Tryz.ntmps13
  go_wp2_with (first | (go_at_call 48; refine (nil_heldExtentS _ _).mono ?_; rintro e w1 ⟨rfl, rfl⟩) | (go_at_call 49; refine (nil_heldVolumeS _ _).mono ?_; rintro e w1 ⟨rfl, rfl⟩) | (go_at_call 50; refine (nil_heldCountedS _ _).mono ?_; rintro e w1 ⟨rfl, rfl⟩))
  go_returns
  go_light
  exact ⟨rfl, by go_grown⟩
set_option maxHeartbeats 4000000 in
set_option maxRecDepth 100000 in
theorem laws_eqStoreN (la : Option Addr) (ln lc : Nat) (sa : Option Addr) (sn sc : Nat) (oa : Option Addr) (on oc : Nat) (la' : Option Addr) (ln' lc' : Nat) (sa' : Option Addr) (sn' sc' : Nat) (oa' : Option Addr) (on' oc' : Nat) (s n m : Int) (d : Dk) (w : World) (h : DiskL w (.agg #[.slice la ln lc, .slice sa sn sc, .slice oa on oc]) d) (h' : DiskL w (.agg #[.slice la' ln' lc', .slice sa' sn' sc', .slice oa' on' oc']) d) (hn : d.live.length ≤ 4194304 ∧ d.safe.length ≤ 4194304 ∧ d.ops.length ≤ 4194304) :
    Calls Tryz.prog 28 #[.agg #[.slice la ln lc, .slice sa sn sc, .slice oa on oc, .int .i64 s, .int .i64 n, .slice none 0 0, .slice none 0 0, .slice none 0 0, .slice none 0 0, .int .i64 m], .agg #[.slice la' ln' lc', .slice sa' sn' sc', .slice oa' on' oc', .int .i64 s, .int .i64 n, .slice none 0 0, .slice none 0 0, .slice none 0 0, .slice none 0 0, .int .i64 m]] w fun e w' => e = .returned (.bool true) ∧ Below w.heap.size w w' := by
  have hee := eqDk_refl d
  have e3 : (m != m) = false := by simp
  go_enter Tryz.func28, Tryz.ntmps28
  have hA : Below w.heap.size w ((w.alloc (.cells #[.slice la ln lc, .slice sa sn sc, .slice oa on oc, .int .i64 s, .int .i64 n, .slice none 0 0, .slice none 0 0, .slice none 0 0, .slice none 0 0, .int .i64 m] 58)).alloc (.cells #[.slice la' ln' lc', .slice sa' sn' sc', .slice oa' on' oc', .int .i64 s, .int .i64 n, .slice none 0 0, .slice none 0 0, .slice none 0 0, .slice none 0 0, .int .i64 m] 58)) := by go_grown
  have K1 : Blk ((w.alloc (.cells #[.slice la ln lc, .slice sa sn sc, .slice oa on oc, .int .i64 s, .int .i64 n, .slice none 0 0, .slice none 0 0, .slice none 0 0, .slice none 0 0, .int .i64 m] 58)).alloc (.cells #[.slice la' ln' lc', .slice sa' sn' sc', .slice oa' on' oc', .int .i64 s, .int .i64 n, .slice none 0 0, .slice none 0 0, .slice none 0 0, .slice none 0 0, .int .i64 m] 58)) w.heap.size #[.slice la ln lc, .slice sa sn sc, .slice oa on oc, .int .i64 s, .int .i64 n, .slice none 0 0, .slice none 0 0, .slice none 0 0, .slice none 0 0, .int .i64 m] 58 := (Blk.new w _ _).below ((Below.refl _ _).alloc (Nat.le_refl _) _)
  have K2 : Blk ((w.alloc (.cells #[.slice la ln lc, .slice sa sn sc, .slice oa on oc, .int .i64 s, .int .i64 n, .slice none 0 0, .slice none 0 0, .slice none 0 0, .slice none 0 0, .int .i64 m] 58)).alloc (.cells #[.slice la' ln' lc', .slice sa' sn' sc', .slice oa' on' oc', .int .i64 s, .int .i64 n, .slice none 0 0, .slice none 0 0, .slice none 0 0, .slice none 0 0, .int .i64 m] 58)) (w.heap.size + 1) #[.slice la' ln' lc', .slice sa' sn' sc', .slice oa' on' oc', .int .i64 s, .int .i64 n, .slice none 0 0, .slice none 0 0, .slice none 0 0, .slice none 0 0, .int .i64 m] 58 := Blk.new' _ _ _ _ (by simp)
  go_wp2_with fail
  generalize (w.alloc (.cells #[.slice la ln lc, .slice sa sn sc, .slice oa on oc, .int .i64 s, .int .i64 n, .slice none 0 0, .slice none 0 0, .slice none 0 0, .slice none 0 0, .int .i64 m] 58)).alloc (.cells #[.slice la' ln' lc', .slice sa' sn' sc', .slice oa' on' oc', .int .i64 s, .int .i64 n, .slice none 0 0, .slice none 0 0, .slice none 0 0, .slice none 0 0, .int .i64 m] 58) = W at *
  refine (laws_eqDisk _ _ d d W (h.below hA) (h'.below hA) hn hn).mono ?_
  rintro e w1 ⟨rfl, hB1⟩
  rw [hee]
  have hs := hB1.size
  obtain ⟨⟨c0, c1, c2, c3, c4, c5, c6, c7, c8, c9⟩, _⟩ := blk_ten (K1.below hB1)
  obtain ⟨⟨x0, x1, x2, x3, x4, x5, x6, x7, x8, x9⟩, _⟩ := blk_ten (K2.below hB1)
  have hC1 := chain hA hB1
  have K1' : Hid (Blk w1 w.heap.size #[.slice la ln lc, .slice sa sn sc, .slice oa on oc, .int .i64 s, .int .i64 n, .slice none 0 0, .slice none 0 0, .slice none 0 0, .slice none 0 0, .int .i64 m] 58) := K1.below hB1
  have K2' : Hid (Blk w1 (w.heap.size + 1) #[.slice la' ln' lc', .slice sa' sn' sc', .slice oa' on' oc', .int .i64 s, .int .i64 n, .slice none 0 0, .slice none 0 0, .slice none 0 0, .slice none 0 0, .int .i64 m] 58) := K2.below hB1
  clear K1 K2 hA
  go_wp2_with fail
  refine (eqPool_new s n w1).mono ?_
  rintro e w2 ⟨rfl, hB2⟩
  have y9 := (K1'.out.below hB2).cell 9
  have z9 := (K2'.out.below hB2).cell 9
  clear c0 c1 c2 c3 c4 c5 c6 c7 c8 c9 x0 x1 x2 x3 x4 x5 x6 x7 x8 x9
  go_wp2
  go_returns
  exact ⟨rfl, chain hC1 hB2⟩
set_option maxHeartbeats 4000000 in
set_option maxRecDepth 100000 in
theorem laws_markStoreN (B T : Nat) (la : Option Addr) (ln lc : Nat) (sa : Option Addr) (sn sc : Nat) (oa : Option Addr) (on oc : Nat) (s n m : Int) (d : Dk) (w : World) (h : DiskW B w (.agg #[.slice la ln lc, .slice sa sn sc, .slice oa on oc]) d) (hi : InB B T (.agg #[.slice la ln lc, .slice sa sn sc, .slice oa on oc])) (hT : T ≤ w.heap.size) (hn : d.live.length ≤ 4194304 ∧ d.safe.length ≤ 4194304 ∧ d.ops.length ≤ 4194304) :
    Calls Tryz.prog 29 #[.agg #[.slice la ln lc, .slice sa sn sc, .slice oa on oc, .int .i64 s, .int .i64 n, .slice none 0 0, .slice none 0 0, .slice none 0 0, .slice none 0 0, .int .i64 m], .int .i64 1] w fun e w' => e = .returned (.int .i64 ((markN d : Nat) : Int)) ∧ MarkDk w' (.agg #[.slice la ln lc, .slice sa sn sc, .slice oa on oc]) d ∧ FrD B T w w' := by
  go_enter Tryz.func29, Tryz.ntmps29
  have hA : Below w.heap.size w (w.alloc (.cells #[.slice la ln lc, .slice sa sn sc, .slice oa on oc, .int .i64 s, .int .i64 n, .slice none 0 0, .slice none 0 0, .slice none 0 0, .slice none 0 0, .int .i64 m] 58)) := by go_grown
  have K1 := Blk.new w #[.slice la ln lc, .slice sa sn sc, .slice oa on oc, .int .i64 s, .int .i64 n, .slice none 0 0, .slice none 0 0, .slice none 0 0, .slice none 0 0, .int .i64 m] 58
  go_wp2_with fail
  generalize w.alloc (.cells #[.slice la ln lc, .slice sa sn sc, .slice oa on oc, .int .i64 s, .int .i64 n, .slice none 0 0, .slice none 0 0, .slice none 0 0, .slice none 0 0, .int .i64 m] 58) = W at *
  refine (laws_markDisk B T _ d W (h.below hA) hi (Nat.le_trans hT hA.size) hn).mono ?_
  rintro e w1 ⟨rfl, M1, F1⟩
  obtain ⟨k, hk⟩ : ∃ k : Int, Hid (((markN d : Nat) : Int) = k) := ⟨_, rfl⟩
  rw [hk.out]
  have F0 : FrD B T w W := FrD.of hA
  have hF : FrD B T w w1 := ⟨F1.os.trans F0.os, F1.tape.trans F0.tape, F1.output.trans F0.output, Nat.le_trans F0.size F1.size, fun j hj hh => (F1.block j (Nat.lt_of_lt_of_le hj F0.size) hh).trans (F0.block j hj hh)⟩
  obtain ⟨⟨c0, c1, c2, c3, c4, c5, c6, c7, c8, c9⟩, _⟩ := blk_ten (F1.blk K1 (.inr hT))
  clear K1 hA F1 F0
  go_wp2_with fail
  refine (markPool_newK s n k w1).mono ?_
  rintro e w2 ⟨rfl, hB2⟩
  go_wp2
  go_returns
  exact ⟨by rw [hk.out]; rfl, M1.below hB2, ⟨hB2.os.trans hF.os, hB2.tape.trans hF.tape, hB2.output.trans hF.output, Nat.le_trans hF.size hB2.size, fun j hj hh => (hB2.block j (Nat.lt_of_lt_of_le hj hF.size)).trans (hF.block j hj hh)⟩⟩
set_option maxHeartbeats 4000000 in
set_option maxRecDepth 100000 in
theorem laws_heldStoreN (la : Option Addr) (ln lc : Nat) (sa : Option Addr) (sn sc : Nat) (oa : Option Addr) (on oc : Nat) (s n m : Int) (d : Dk) (w : World) (h : MarkDk w (.agg #[.slice la ln lc, .slice sa sn sc, .slice oa on oc]) d) (hn : d.live.length ≤ 4194304 ∧ d.safe.length ≤ 4194304 ∧ d.ops.length ≤ 4194304) :
    Calls Tryz.prog 30 #[.agg #[.slice la ln lc, .slice sa sn sc, .slice oa on oc, .int .i64 s, .int .i64 n, .slice none 0 0, .slice none 0 0, .slice none 0 0, .slice none 0 0, .int .i64 m], .int .i64 1] w fun e w' => e = .returned (.int .i64 ((markN d : Nat) : Int)) ∧ Below w.heap.size w w' := by
  go_enter Tryz.func30, Tryz.ntmps30
  have hA : Below w.heap.size w (w.alloc (.cells #[.slice la ln lc, .slice sa sn sc, .slice oa on oc, .int .i64 s, .int .i64 n, .slice none 0 0, .slice none 0 0, .slice none 0 0, .slice none 0 0, .int .i64 m] 58)) := by go_grown
  have K1 := Blk.new w #[.slice la ln lc, .slice sa sn sc, .slice oa on oc, .int .i64 s, .int .i64 n, .slice none 0 0, .slice none 0 0, .slice none 0 0, .slice none 0 0, .int .i64 m] 58
  go_wp2_with fail
  generalize w.alloc (.cells #[.slice la ln lc, .slice sa sn sc, .slice oa on oc, .int .i64 s, .int .i64 n, .slice none 0 0, .slice none 0 0, .slice none 0 0, .slice none 0 0, .int .i64 m] 58) = W at *
  refine (laws_heldDisk _ d W (h.below hA) hn).mono ?_
  rintro e w1 ⟨rfl, hB1⟩
  obtain ⟨k, hk⟩ : ∃ k : Int, Hid (((markN d : Nat) : Int) = k) := ⟨_, rfl⟩
  have hk0 : ¬ k < 0 := by rw [← hk.out]; omega
  rw [hk.out]
  obtain ⟨⟨c0, c1, c2, c3, c4, c5, c6, c7, c8, c9⟩, _⟩ := blk_ten (K1.below hB1)
  have hC1 := chain hA hB1
  clear K1 hA
  go_wp2_with fail
  refine (heldPool_newK s n k w1 (by omega)).mono ?_
  rintro e w2 ⟨rfl, hB2⟩
  go_wp2
  go_returns
  exact ⟨by rw [hk.out]; rfl, chain hC1 hB2⟩
end Go.Proofs.YtigldeccfpkdmaaGreatDoor
namespace Go.Proofs.YtigldeccfpkdmaaGreatDoor
open Go.ChangeShapes Go.WideShapes Go.ChangeAt Go.RowKit Go.Deep Go.Joins
def dN (size : Int) : Dk := if newB size = true then newD (newF size) else noD
def sN (size : Int) : Int := if newB size = true then size else 0
def nN (size : Int) : Int := if newB size = true then 1 else 0
theorem spec_StoreNewU (size : Int) (w : World) :
    Calls Tryz.prog 26 #[.int .i64 size] w fun e w' => (∃ la ln lc sa sn sc oa on oc, e = .returned (.tuple #[.agg #[.slice la ln lc, .slice sa sn sc, .slice oa on oc, .int .i64 (sN size), .int .i64 (nN size), .slice none 0 0, .slice none 0 0, .slice none 0 0, .slice none 0 0, .int .i64 0], .bool (newB size)]) ∧ DiskR 0 w' (.agg #[.slice la ln lc, .slice sa sn sc, .slice oa on oc]) (dN size)) ∧ Below w.heap.size w w' := by
  refine (spec_StoreNew size w).mono ?_
  rintro e w' ⟨h, hB⟩
  refine ⟨?_, hB⟩
  rcases h with ⟨hn, rfl⟩ | ⟨hn, la, ln, lc, sa, sn, sc, oa, on, oc, rfl, R⟩
  · exact ⟨none, 0, 0, none, 0, 0, none, 0, 0, by simp [sN, nN, hn, stZ, stC10], by simp only [dN, hn]; exact noD_R 0 w'⟩
  · exact ⟨la, ln, lc, sa, sn, sc, oa, on, oc, by simp [sN, nN, hn, stC10], by simp only [dN, hn, if_true]; exact R.mono (Nat.zero_le _)⟩
theorem impl_StoreNewU (size : Int) (w : World) (ht : TabP w) (hg : 9 ≤ w.heap.size) :
    Calls Tryz.prog 27 #[.int .i64 size] w fun e w' => (∃ la ln lc sa sn sc oa on oc, e = .returned (.tuple #[.agg #[.slice la ln lc, .slice sa sn sc, .slice oa on oc, .int .i64 (sN size), .int .i64 (nN size), .slice none 0 0, .slice none 0 0, .slice none 0 0, .slice none 0 0, .int .i64 0], .bool (newB size)]) ∧ DiskS (w.heap.size + 1) w' (.agg #[.slice la ln lc, .slice sa sn sc, .slice oa on oc]) (dN size)) ∧ Below w.heap.size w w' := by
  refine (impl_StoreNew size w ht hg).mono ?_
  rintro e w' ⟨h, hB⟩
  refine ⟨?_, hB⟩
  rcases h with ⟨hn, rfl⟩ | ⟨hn, la, ln, lc, sa, sn, sc, oa, on, oc, rfl, R⟩
  · exact ⟨none, 0, 0, none, 0, 0, none, 0, 0, by simp [sN, nN, hn, stZ, stC10], by simp only [dN, hn]; exact noD_S _ w'⟩
  · exact ⟨la, ln, lc, sa, sn, sc, oa, on, oc, by simp [sN, nN, hn, stC10], by simp only [dN, hn, if_true]; exact R⟩
theorem dN_len (size : Int) : (dN size).live.length ≤ 4194304 ∧ (dN size).safe.length ≤ 4194304 ∧ (dN size).ops.length ≤ 4194304 := by
  unfold dN
  split
  · simp [newD]
  · simp [noD]
set_option maxHeartbeats 4000000 in
set_option maxRecDepth 100000 in
theorem walkStoreNew (size : Int) (w : World) (ht : TabP w) (hg : 9 ≤ w.heap.size) :
    Calls Tryz.prog 7 #[.int .i64 size] w fun e w' => e = .returned (.bool true) ∧ Below w.heap.size w w' := by
  have hn := dN_len size
  have kS := fun (u : World) => spec_StoreNewU size u
  have kI := fun (u : World) (hu : Below w.heap.size w u) => impl_StoreNewU size u (tab_low ht hu hg) (by have := hu.size; omega)
  obtain ⟨d, hd⟩ : ∃ d, dN size = d := ⟨_, rfl⟩
  obtain ⟨s, hs⟩ : ∃ d, sN size = d := ⟨_, rfl⟩
  obtain ⟨n, hnn⟩ : ∃ d, nN size = d := ⟨_, rfl⟩
  obtain ⟨b, hb⟩ : ∃ d, newB size = d := ⟨_, rfl⟩
  rw [hd] at hn
  rw [hd, hs, hnn, hb] at kS kI
  clear hd hs hnn hb
  have hbb : (b != b) = false := by simp
  go_enter Tryz.func7, Tryz.ntmps7
  go_wp2_with fail
  refine (kS w).mono ?_
  rintro e w1 ⟨⟨la1, ln1, lc1, sa1, sn1, sc1, oa1, on1, oc1, rfl, R1⟩, hB1⟩
  have A1 := Blk.new w1 #[.slice la1 ln1 lc1, .slice sa1 sn1 sc1, .slice oa1 on1 oc1, .int .i64 s, .int .i64 n, .slice none 0 0, .slice none 0 0, .slice none 0 0, .slice none 0 0, .int .i64 0] 58
  have hA1 : Below w1.heap.size w1 (w1.alloc (.cells #[.slice la1 ln1 lc1, .slice sa1 sn1 sc1, .slice oa1 on1 oc1, .int .i64 s, .int .i64 n, .slice none 0 0, .slice none 0 0, .slice none 0 0, .slice none 0 0, .int .i64 0] 58)) := by go_grown
  go_wp2_with fail
  generalize w1.alloc (.cells #[.slice la1 ln1 lc1, .slice sa1 sn1 sc1, .slice oa1 on1 oc1, .int .i64 s, .int .i64 n, .slice none 0 0, .slice none 0 0, .slice none 0 0, .slice none 0 0, .int .i64 0] 58) = W1 at *
  have hz0 := hB1.size
  replace hB1 := chain hB1 hA1
  have Z1 : Below w1.heap.size w1 W1 := hA1
  have hz1 : Hid (w.heap.size ≤ w1.heap.size ∧ w1.heap.size < W1.heap.size) := ⟨hz0, A1.lt⟩
  clear hA1
  refine (kI W1 hB1).mono ?_
  rintro e w2 ⟨⟨la2, ln2, lc2, sa2, sn2, sc2, oa2, on2, oc2, rfl, S2⟩, hB2⟩
  have I2 := S2.wr.inB
  have hz2 := hB2.size
  have A2 := A1.below hB2
  replace Z1 := chain Z1 hB2
  replace hB2 := chain hB1 hB2
  clear A1 hB1
  have hA2 : Below w2.heap.size w2 (w2.alloc (.cells #[.slice la2 ln2 lc2, .slice sa2 sn2 sc2, .slice oa2 on2 oc2, .int .i64 s, .int .i64 n, .slice none 0 0, .slice none 0 0, .slice none 0 0, .slice none 0 0, .int .i64 0] 58)) := by go_grown
  have G2 := Blk.new w2 #[.slice la2 ln2 lc2, .slice sa2 sn2 sc2, .slice oa2 on2 oc2, .int .i64 s, .int .i64 n, .slice none 0 0, .slice none 0 0, .slice none 0 0, .slice none 0 0, .int .i64 0] 58
  obtain ⟨⟨a0, a1, a2, a3, a4, a5, a6, a7, a8, a9⟩, _⟩ := blk_ten (A2.below hA2)
  go_wp2_with fail
  generalize w2.alloc (.cells #[.slice la2 ln2 lc2, .slice sa2 sn2 sc2, .slice oa2 on2 oc2, .int .i64 s, .int .i64 n, .slice none 0 0, .slice none 0 0, .slice none 0 0, .slice none 0 0, .int .i64 0] 58) = W2 at *
  clear a0 a1 a2 a3 a4 a5 a6 a7 a8 a9
  replace A2 := A2.below hA2
  replace S2 := S2.below hA2
  replace Z1 := chain Z1 hA2
  replace hB2 := chain hB2 hA2
  have hz3 := hA2.size
  clear hA2
  refine (laws_eqStoreN la2 ln2 lc2 sa2 sn2 sc2 oa2 on2 oc2 la1 ln1 lc1 sa1 sn1 sc1 oa1 on1 oc1 s n 0 d W2 S2.r.at.l (R1.below Z1).at.l hn).mono ?_
  rintro e w3 ⟨rfl, hB3⟩
  have A3 := A2.below hB3
  have G3 := G2.below hB3
  have S3 := S2.below hB3
  have hz4 := hB3.size
  replace Z1 := chain Z1 hB3
  replace hB3 := chain hB2 hB3
  clear A2 G2 S2 hB2
  obtain ⟨⟨g0, g1, g2, g3, g4, g5, g6, g7, g8, g9⟩, _⟩ := blk_ten G3
  go_wp2_with fail
  clear g0 g1 g2 g3 g4 g5 g6 g7 g8 g9
  refine (laws_markStoreN (W1.heap.size + 1) w2.heap.size la2 ln2 lc2 sa2 sn2 sc2 oa2 on2 oc2 s n 0 d w3 S3.wr I2 (by omega) hn).mono ?_
  rintro e w4 ⟨rfl, M4, F4⟩
  have hz1' := hz1.out
  have A4 := F4.blk A3 (.inl (by omega))
  have G4 := F4.blk G3 (.inr (Nat.le_refl _))
  have Z4 : Below w1.heap.size w1 w4 := Z1.trans (F4.low (by omega) (by omega))
  have hB4 : Below w.heap.size w w4 := hB3.trans (F4.low (by omega) (by omega))
  have hz5 := F4.size
  clear A3 G3 S3 Z1 hB3 F4 hz1'
  obtain ⟨KM, hKM⟩ : ∃ KM : Int, KM = ((markN d : Nat) : Int) := ⟨_, rfl⟩
  have hH := fun (u : World) (hu : MarkDk u (.agg #[.slice la2 ln2 lc2, .slice sa2 sn2 sc2, .slice oa2 on2 oc2]) d) => laws_heldStoreN la2 ln2 lc2 sa2 sn2 sc2 oa2 on2 oc2 s n 0 d u hu hn
  rw [← hKM] at hH
  rw [← hKM]
  have hKM0 : ¬ KM < 0 := by omega
  have hKK : (KM != KM) = false := by simp
  clear hKM
  obtain ⟨⟨g0, g1, g2, g3, g4, g5, g6, g7, g8, g9⟩, _⟩ := blk_ten G4
  go_wp2_with fail
  clear g0 g1 g2 g3 g4 g5 g6 g7 g8 g9
  refine (hH w4 M4).mono ?_
  rintro e w5 ⟨rfl, hB5⟩
  have A5 := A4.below hB5
  have G5 := G4.below hB5
  have M5 := M4.below hB5
  have hz6 := hB5.size
  have Z5 := chain Z4 hB5
  replace hB5 := chain hB4 hB5
  clear A4 G4 M4 Z4 hB4
  go_wp2_with fail
  refine (kI w5 hB5).mono ?_
  rintro e w6 ⟨⟨la6, ln6, lc6, sa6, sn6, sc6, oa6, on6, oc6, rfl, S6⟩, hB6⟩
  have A6 := A5.below hB6
  have G6 := G5.below hB6
  have M6 := M5.below hB6
  have Z6 := chain Z5 hB6
  replace hB6 := chain hB5 hB6
  clear A5 G5 M5 Z5 hB5
  have hA6 : Below w6.heap.size w6 (w6.alloc (.cells #[.slice la6 ln6 lc6, .slice sa6 sn6 sc6, .slice oa6 on6 oc6, .int .i64 s, .int .i64 n, .slice none 0 0, .slice none 0 0, .slice none 0 0, .slice none 0 0, .int .i64 0] 58)) := by go_grown
  obtain ⟨⟨a0, a1, a2, a3, a4, a5, a6, a7, a8, a9⟩, _⟩ := blk_ten (A6.below hA6)
  go_wp2_with fail
  generalize w6.alloc (.cells #[.slice la6 ln6 lc6, .slice sa6 sn6 sc6, .slice oa6 on6 oc6, .int .i64 s, .int .i64 n, .slice none 0 0, .slice none 0 0, .slice none 0 0, .slice none 0 0, .int .i64 0] 58) = W6 at *
  clear a0 a1 a2 a3 a4 a5 a6 a7 a8 a9
  replace G6 := G6.below hA6
  replace M6 := M6.below hA6
  replace S6 := S6.below hA6
  replace Z6 := chain Z6 hA6
  replace hB6 := chain hB6 hA6
  clear hA6 A6
  refine (laws_eqStoreN la6 ln6 lc6 sa6 sn6 sc6 oa6 on6 oc6 la1 ln1 lc1 sa1 sn1 sc1 oa1 on1 oc1 s n 0 d W6 S6.r.at.l (R1.below Z6).at.l hn).mono ?_
  rintro e w7 ⟨rfl, hB7⟩
  have G7 := G6.below hB7
  have M7 := M6.below hB7
  replace hB7 := chain hB6 hB7
  clear G6 M6 Z6 hB6 S6
  obtain ⟨⟨g0, g1, g2, g3, g4, g5, g6, g7, g8, g9⟩, _⟩ := blk_ten G7
  go_wp2_with fail
  clear g0 g1 g2 g3 g4 g5 g6 g7 g8 g9
  refine (hH w7 M7).mono ?_
  rintro e w8 ⟨rfl, hB8⟩
  go_wp2
  go_returns
  exact ⟨rfl, chain hB7 hB8⟩
end Go.Proofs.YtigldeccfpkdmaaGreatDoor
namespace Go.Proofs.YtigldeccfpkdmaaGreatDoor
open Go.ChangeShapes Go.WideShapes Go.ChangeAt Go.RowKit Go.Deep Go.Joins
theorem laid_tailT {P : Program} {x : String × DataW Unit} {r : List (String × DataW Unit)} {w : World} (h : laidMet P (x :: r) w) : laidMet P r w := by
  obtain ⟨ps, hv, hnd, hrows⟩ := h
  obtain ⟨n, d⟩ := x
  obtain ⟨g, t, cs, fuel, p, q, a1, a2, a3, a4, b5, rfl⟩ := hv
  have hs : q.Sublist (MemPlace.row ⟨g, 0, none⟩ cs.size ++ p ++ q) := List.sublist_append_right _ _
  exact ⟨q, b5, hnd.sublist hs, fun b off hm => hrows b off (hs.subset hm)⟩
theorem tabIs_ltT {W : World} {zs : List Int} {k : IntKind} {name : String} {g : Nat} (hg : Tryz.prog.globalNamed name = some g) (h : Lib.TabIs Tryz.prog W name k zs) (h0 : 0 < zs.length) : g < W.heap.size := by
  have := h.cell hg 0 h0
  unfold World.cell? at this
  by_cases hl : g < W.heap.size
  · exact hl
  · simp [Array.getElem?_eq_none (Nat.le_of_not_lt hl)] at this
def tabZ : DataW Unit → List Int
  | .agg l => l.map fun | .lit (.int _ n) => n | _ => 0
  | _ => []
theorem tab_ofT {W : World} (h : laidMetH Tryz.prog Rows.fnExactStoreNewRow.laid W) : TabP W ∧ 9 ≤ W.heap.size := by
  have h' : laidMet Tryz.prog Rows.fnExactStoreNewRow.laid W := h
  have h2 : laidMet Tryz.prog (("math/bits.deBruijn64tab", Lib.tabData .u8 (tabZ Rows.laid_math_bits_deBruijn64tab)) :: [("internal/strconv.uint64pow10", Rows.laid_internal_strconv_uint64pow10)]) W := laid_tailT h'
  have h3 : laidMet Tryz.prog (("internal/strconv.uint64pow10", Lib.tabData .u64 Lib.pow10Tab) :: []) W := laid_tailT h2
  have g2 : Tryz.prog.globalNamed "math/bits.deBruijn64tab" = some 8 := by kernel_rfl
  have t2 : Lib.TabIs Tryz.prog W "math/bits.deBruijn64tab" .u8 (tabZ Rows.laid_math_bits_deBruijn64tab) := Lib.tabIs_of_head (n := 64) (e := 5) (t := 337) (g := 8) g2 (by kernel_rfl) (by kernel_rfl) Tryz.underlying5 (by kernel_rfl) (by kernel_rfl) h2
  have := tabIs_ltT g2 t2 (by decide)
  exact ⟨Lib.tabIs_of_head (n := 20) (e := 274) (t := 301) (g := 2) (by kernel_rfl) (by kernel_rfl) (by kernel_rfl) (by kernel_rfl) (by kernel_rfl) (by kernel_rfl) h3, this⟩
/-- A world that meets the condition. -/
def tabC (k : IntKind) (d : DataW Unit) : Array Value := ((tabZ d).map fun z => Value.int k z).toArray
noncomputable def laidWorldT (os : Os) : World :=
  let w0 := World.holding Tryz.prog os ⟨#[], #[], []⟩
  { w0 with heap := ((w0.heap.modify 7 fun
      | .cells _ t frozen => .cells (tabC .u8 Rows.laid_math_bits_deBruijn32tab) t frozen
      | o => o).modify 8 fun
      | .cells _ t frozen => .cells (tabC .u8 Rows.laid_math_bits_deBruijn64tab) t frozen
      | o => o).modify 2 fun
      | .cells _ t frozen => .cells (tabC .u64 Rows.laid_internal_strconv_uint64pow10) t frozen
      | o => o }
theorem laidWorldT_met (os : Os) (args : Array Value) : laidMetH Tryz.prog Rows.fnExactStoreNewRow.laid ((laidWorldT os).forCall (fun _ _ => 0) ⟨#[], args, []⟩).memory :=
  show laidMet Tryz.prog Rows.fnExactStoreNewRow.laid _ from laidMet_of_run' 8 (by kernel_rfl) (by kernel_rfl)
set_option maxRecDepth 100000 in
theorem liftedStoreNew (os : Os) (started : os.Started) (H : Type) (enc : TypeId × Value → H) :
    ReturnsInHanded {} Tryz.checked os 7 .any (fun w args => (Rows.fnExactStoreNewSpec.pre enc Tryz.prog Tryz.f7 [] false w args ∧ laidMetH Tryz.prog Rows.fnExactStoreNewRow.laid w) ∧ sizedMet enc Tryz.prog Tryz.f7 (OpenSpec.ofChange Rows.fnExactStoreNewSpec) false w args)
      (Rows.fnExactStoreNewSpec.post enc Tryz.prog Tryz.f7 false true false false) := by
  refine returnsInHanded_of_change_and (C := Tryz.checked) (X := fun w _ => laidMetH Tryz.prog Rows.fnExactStoreNewRow.laid w) (fun _ _ _ hh h => h.of_heap hh) own started (by kernel_rfl) Tryz.func7
    (ChangeSpec.witness_at (enc := enc) (C := Tryz.checked) (os := os) (X := fun w _ => laidMetH Tryz.prog Rows.fnExactStoreNewRow.laid w) false (laidWorldT os) #[.int .i64 0] 8 rfl (by kernel_rfl) (by kernel_rfl) (by kernel_rfl) (by kernel_rfl) (by kernel_rfl) (laidWorldT_met os _)) ?_
  intro W base args ds gs before hval0 hW _ _ hL _
  have hval : ∀ (j : Nat) t v, Tryz.f7.params[j]? = some t → args[j]? = some v → Value.okWide Tryz.prog W .any base t v := hval0
  have hW' := hW
  obtain ⟨p, q, hA0, hV, rfl, _, _⟩ := hW
  have hA : DataW.TrodAll enc Tryz.prog W 0 (fun _ => true) true Tryz.f7.params.toList args.toList ds p := hA0
  rw [Tryz.params7] at hA hval
  obtain ⟨v0, vs0, d0, ds0, p0, q0, hargs, rfl, rfl, h0, r0⟩ := trodAll_cons hA
  obtain ⟨rfl, rfl, rfl⟩ := trodAll_nil r0
  obtain rfl : args = #[v0] := by cases args; simp_all
  obtain ⟨rfl, rfl⟩ := trodVars_none hV
  clear hA0 hval0
  obtain ⟨x0, rfl, rfl, rfl, wx0⟩ := open_int Tryz.underlying2 (hval 0 2 v0 rfl rfl) h0
  simp only [List.append_nil] at hW'
  obtain ⟨hT, hG⟩ := tab_ofT hL
  refine (walkStoreNew x0 W hT hG).mono fun e W' ⟨he, hB⟩ => ?_
  subst he
  exact ⟨_, rfl, ⟨_, _, _, [], _, [], hW', trodAll_mk1 (shut_bool Tryz.underlying4 _), trodAll_mk1 (shut_int Tryz.underlying2 wx0), rfl, hB.frame _, fun h => by cases h⟩⟩
theorem holdsStoreNew : Rows.FnExactStoreNewSaid :=
  OpenClaim.holds_of_wide 7 Tryz.f7 rfl rfl rfl rfl rfl rfl rfl ⟨rfl, rfl, rfl, rfl, rfl⟩ rfl rfl rfl rfl rfl (by kernel_rfl) Tryz.func7 (joined_of (by kernel_rfl) (by kernel_rfl) (by kernel_rfl) (by kernel_rfl) rfl rfl rfl (by kernel_rfl))
    (of_decide_eq_true (by kernel_rfl)) (by unfold Func.isWrapper; first | (rw [if_pos (by decide +kernel)]; kernel_rfl) | (rw [if_neg (by decide +kernel)]; exact ⟨rfl, rfl⟩))
    (fun os started H enc _ => liftedStoreNew os started H enc)
end Go.Proofs.YtigldeccfpkdmaaGreatDoor
namespace Go.Proofs.YtigldeccfpkdmaaGreatDoor
open Go.ChangeShapes Go.WideShapes Go.ChangeAt Go.RowKit Go.Deep Go.Joins
theorem cardStoreNew : Rows.FnExactStoreNewCardSaid :=
  Claim7.holds_tied_plain_at .later [] [.data, .data, .data] true Rows.fnExactStoreNewCard.stood.harness true
    holdsStoreNew (fun _ h => by cases h) (by kernel_rfl) (fun _ h => by cases h) fnExactStoreNew_row_tie rfl ⟨rfl, rfl⟩ (by kernel_rfl) rfl
    (fun f fn hf hfn => by
      obtain rfl : f = 7 := Option.some.inj ((show Tryz.prog.funcNamed "loop.example/g00336/laws.FnExactStoreNew" = some 7 by kernel_rfl).symm.trans hf) |>.symm
      obtain rfl : fn = Tryz.f7 := (Option.some.inj (Tryz.func7.symm.trans hfn)).symm
      exact ⟨by kernel_rfl, fun j t ht => by
        rw [Tryz.params7] at ht
        have h3 : t = 2 := by
          rcases j with _ | j
          · simpa using ht.symm
          · simp at ht
        subst h3
        exact (show Tryz.prog.wantsStandIn 2 = false by kernel_rfl)⟩)
    (by kernel_rfl)
end Go.Proofs.YtigldeccfpkdmaaGreatDoor
