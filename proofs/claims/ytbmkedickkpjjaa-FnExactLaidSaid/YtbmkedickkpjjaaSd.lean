/- Laid of the model. -/
import Derived.Test.YtbmkedickkpjjaaProg
import Derived.Test.YtbmkedickkpjjaaSc
namespace Go.Proofs.Ytbmkedickkpjjaa
open Go.RowKit Go.BigFrame

/-- l2Laid, as a plain function. -/
def laidJ (l : List Pt) (at' : Int) (m : List Pt) : List Pt :=
  joinL (joinL (if sumN l < at' then addL (joinL [] (slp 0 (min at' (sumN l)) 0 l)) ⟨0, 0, at' - sumN l⟩ else joinL [] (slp 0 (min at' (sumN l)) 0 l)) m) (joinL [] (slp (min (sumN l) (at' + sumN m)) (sumN l) 0 l))

set_option maxHeartbeats 2000000 in
set_option maxRecDepth 100000 in
theorem spec_l2Laid (a : Option Addr) (n cap : Nat) (l : List Pt) (at' : Int) (a' : Option Addr) (n' cap' : Nat) (m : List Pt) (w : World) (h : PtsAt w a n l) (h' : PtsAt w a' n' m) (hok : partsOkB l = true) (hok' : partsOkB m = true) (h0 : 0 ≤ at') (h1 : at' ≤ 100) :
    Calls Try.prog 133 #[.slice a n cap, .int .i64 at', .slice a' n' cap'] w fun e w' => (∃ a1 n1 cap1, e = .returned (.slice a1 n1 cap1) ∧ n1 ≤ 1000 ∧ ResAt Pt.cs 3 131 w' w.heap.size a1 n1 cap1 (laidJ l at' m)) ∧ Below w.heap.size w w' := by
  have h16 : n ≤ 16 := by rw [← h.len]; exact (partsOkB_all hok).1
  have h16' : n' ≤ 16 := by rw [← h'.len]; exact (partsOkB_all hok').1
  have hs : Hid (∀ k, 0 ≤ sumN (l.take k) ∧ sumN (l.take k) ≤ 100) := sums_of hok
  have hs' : Hid (∀ k, 0 ≤ sumN (m.take k) ∧ sumN (m.take k) ≤ 100) := sums_of hok'
  have h100 := (partsOkB_all hok).2.2
  have hnn := sumN_nonneg l (partsOkB_all hok).2.1
  have h100' := (partsOkB_all hok').2.2
  have hnn' := sumN_nonneg m (partsOkB_all hok').2.1
  have hho := holes_of hok
  by_cases hgt : sumN l < at'
  · have hll : Hid (laidJ l at' m = joinL (joinL (addL (joinL [] (slp 0 (sumN l) 0 l)) ⟨0, 0, at' - sumN l⟩) m) (joinL [] (slp (sumN l) (sumN l) 0 l))) := by
      show _ = _; simp only [laidJ, hgt, if_true]; rw [Int.min_eq_right (by omega), Int.min_eq_left (by omega)]
    have hgt2 : ¬ at' + sumN m < sumN l := by omega
    go_enter Try.func133, Try.ntmps133
    go_wp2_with fail
    refine (spec_l2Len a n cap l _ h (by omega) hs.out).mono ?_
    rintro e w1 ⟨rfl, rfl⟩
    go_wp2_with fail
    refine (spec_l2Slice a n cap l 0 (sumN l) _ h h16 hho (by omega) (by omega) (by omega) (by omega)).mono ?_
    rintro e w2 ⟨⟨a2, n2, cap2, rfl, hn2, R2⟩, hB2⟩
    go_wp2_with fail
    refine (spec_l2Add a2 n2 cap2 _ ⟨0, 0, at' - sumN l⟩ _ R2.sl (by omega) R2.arg).mono ?_
    rintro e w3 ⟨⟨a3, n3, cap3, rfl, R3⟩, hB3'⟩
    have hal := addL_res R3.sl.len R2.sl.len
    have hB3 := chain hB2 hB3'
    go_wp2_with fail
    refine (spec_l2Join a3 n3 cap3 _ a' n' cap' m _ R3.sl (by omega) R3.arg (h'.below hB3) (by omega)).mono ?_
    rintro e w4 ⟨⟨a4, n4, cap4, rfl, hn4, R4⟩, hB4'⟩
    have hB4 := chain hB3 hB4'
    go_wp2_with fail
    refine (spec_l2Len a' n' cap' m _ (h'.below hB4) (by omega) hs'.out).mono ?_
    rintro e w5 ⟨rfl, rfl⟩
    go_wp2_with fail
    refine (spec_l2Slice a n cap l (sumN l) (sumN l) _ (h.below hB4) h16 hho (by omega) (by omega) (by omega) (by omega)).mono ?_
    rintro e w6 ⟨⟨a6, n6, cap6, rfl, hn6, R6⟩, hB6'⟩
    have R6b := R4.below hB6'
    have hB6 := chain hB4 hB6'
    go_wp2_with fail
    refine (spec_l2Join a4 n4 cap4 _ a6 n6 cap6 _ _ R6b.sl (by omega) R6b.arg R6.sl (by omega)).mono ?_
    rintro e w7 ⟨⟨a7, n7, cap7, rfl, hn7, R7⟩, hB7'⟩
    have hB7 := chain hB6 hB7'
    go_wp2
    go_returns
    exact ⟨⟨a7, n7, cap7, rfl, by omega, by rw [hll.out]; exact R7.mono hB6.size⟩, hB7⟩
  · by_cases hm2 : at' + sumN m < sumN l
    · have hll : Hid (laidJ l at' m = joinL (joinL (joinL [] (slp 0 at' 0 l)) m) (joinL [] (slp (at' + sumN m) (sumN l) 0 l))) := by
        show _ = _; simp only [laidJ, hgt, if_false]; rw [Int.min_eq_left (by omega), Int.min_eq_right (by omega)]
      go_enter Try.func133, Try.ntmps133
      go_wp2_with fail
      refine (spec_l2Len a n cap l _ h (by omega) hs.out).mono ?_
      rintro e w1 ⟨rfl, rfl⟩
      go_wp2_with fail
      refine (spec_l2Slice a n cap l 0 at' _ h h16 hho (by omega) (by omega) (by omega) (by omega)).mono ?_
      rintro e w2 ⟨⟨a3, n3, cap3, rfl, hn3, R3⟩, hB3⟩
      go_wp2_with fail
      refine (spec_l2Join a3 n3 cap3 _ a' n' cap' m _ R3.sl (by omega) R3.arg (h'.below hB3) (by omega)).mono ?_
      rintro e w4 ⟨⟨a4, n4, cap4, rfl, hn4, R4⟩, hB4'⟩
      have hB4 := chain hB3 hB4'
      go_wp2_with fail
      refine (spec_l2Len a' n' cap' m _ (h'.below hB4) (by omega) hs'.out).mono ?_
      rintro e w5 ⟨rfl, rfl⟩
      go_wp2_with fail
      refine (spec_l2Slice a n cap l (at' + sumN m) (sumN l) _ (h.below hB4) h16 hho (by omega) (by omega) (by omega) (by omega)).mono ?_
      rintro e w6 ⟨⟨a6, n6, cap6, rfl, hn6, R6⟩, hB6'⟩
      have R6b := R4.below hB6'
      have hB6 := chain hB4 hB6'
      go_wp2_with fail
      refine (spec_l2Join a4 n4 cap4 _ a6 n6 cap6 _ _ R6b.sl (by omega) R6b.arg R6.sl (by omega)).mono ?_
      rintro e w7 ⟨⟨a7, n7, cap7, rfl, hn7, R7⟩, hB7'⟩
      have hB7 := chain hB6 hB7'
      go_wp2
      go_returns
      exact ⟨⟨a7, n7, cap7, rfl, by omega, by rw [hll.out]; exact R7.mono hB6.size⟩, hB7⟩
    · have hll : Hid (laidJ l at' m = joinL (joinL (joinL [] (slp 0 at' 0 l)) m) (joinL [] (slp (sumN l) (sumN l) 0 l))) := by
        show _ = _; simp only [laidJ, hgt, if_false]; rw [Int.min_eq_left (by omega), Int.min_eq_left (by omega)]
      go_enter Try.func133, Try.ntmps133
      go_wp2_with fail
      refine (spec_l2Len a n cap l _ h (by omega) hs.out).mono ?_
      rintro e w1 ⟨rfl, rfl⟩
      go_wp2_with fail
      refine (spec_l2Slice a n cap l 0 at' _ h h16 hho (by omega) (by omega) (by omega) (by omega)).mono ?_
      rintro e w2 ⟨⟨a3, n3, cap3, rfl, hn3, R3⟩, hB3⟩
      go_wp2_with fail
      refine (spec_l2Join a3 n3 cap3 _ a' n' cap' m _ R3.sl (by omega) R3.arg (h'.below hB3) (by omega)).mono ?_
      rintro e w4 ⟨⟨a4, n4, cap4, rfl, hn4, R4⟩, hB4'⟩
      have hB4 := chain hB3 hB4'
      go_wp2_with fail
      refine (spec_l2Len a' n' cap' m _ (h'.below hB4) (by omega) hs'.out).mono ?_
      rintro e w5 ⟨rfl, rfl⟩
      go_wp2_with fail
      refine (spec_l2Slice a n cap l (sumN l) (sumN l) _ (h.below hB4) h16 hho (by omega) (by omega) (by omega) (by omega)).mono ?_
      rintro e w6 ⟨⟨a6, n6, cap6, rfl, hn6, R6⟩, hB6'⟩
      have R6b := R4.below hB6'
      have hB6 := chain hB4 hB6'
      go_wp2_with fail
      refine (spec_l2Join a4 n4 cap4 _ a6 n6 cap6 _ _ R6b.sl (by omega) R6b.arg R6.sl (by omega)).mono ?_
      rintro e w7 ⟨⟨a7, n7, cap7, rfl, hn7, R7⟩, hB7'⟩
      have hB7 := chain hB6 hB7'
      go_wp2
      go_returns
      exact ⟨⟨a7, n7, cap7, rfl, by omega, by rw [hll.out]; exact R7.mono hB6.size⟩, hB7⟩

def laidS (l : List Pt) (at' : Int) (m : List Pt) : Option (List Pt) := if (partsOkB l = true ∧ 0 ≤ at' ∧ at' ≤ 100 ∧ partsOkB m = true) ∧ partsOkB (laidJ l at' m) = true then some (laidJ l at' m) else none

set_option maxHeartbeats 2000000 in
set_option maxRecDepth 100000 in
theorem spec_Laid (a : Option Addr) (n cap : Nat) (l : List Pt) (at' : Int) (a' : Option Addr) (n' cap' : Nat) (m : List Pt) (w : World) (h : PtsAt w a n l) (hn : n ≤ 4194304) (h' : PtsAt w a' n' m) (hn' : n' ≤ 4194304) :
    Calls Try.prog 61 #[.slice a n cap, .int .i64 at', .slice a' n' cap'] w fun e w' => RetPts w.heap.size e w' (laidS l at' m) ∧ Below w.heap.size w w' := by
  cases hok : partsOkB l
  · have hf : laidS l at' m = none := by simp [laidS, hok]
    rw [hf]
    clear hf
    go_enter Try.func61, Try.ntmps61
    go_wp2_with fail
    refine (spec_PartsOk a n cap l _ h hn).mono ?_
    rintro e w1 ⟨rfl, hB1⟩
    rw [hok]
    go_wp2
    go_returns
    exact ⟨rfl, hB1⟩
  · cases hin : (decide (0 ≤ at') && decide (at' ≤ 100))
    · have hf : laidS l at' m = none := by
        unfold laidS
        rw [if_neg]
        intro hc
        simp [hc.1.2.1, hc.1.2.2.1] at hin
      rw [hf]
      clear hf
      go_enter Try.func61, Try.ntmps61
      go_wp2_with fail
      refine (spec_PartsOk a n cap l _ h hn).mono ?_
      rintro e w1 ⟨rfl, hB1⟩
      rw [hok]
      go_wp2_with fail
      refine (spec_l1In _ _ _ _).mono ?_
      rintro e w2 ⟨rfl, rfl⟩
      rw [hin]
      go_wp2
      go_returns
      exact ⟨rfl, hB1⟩
    · have hin2 := hin
      simp at hin2
      obtain ⟨h0, h1⟩ := hin2
      cases hok' : partsOkB m
      · have hf : laidS l at' m = none := by simp [laidS, hok']
        rw [hf]
        clear hf
        go_enter Try.func61, Try.ntmps61
        go_wp2_with fail
        refine (spec_PartsOk a n cap l _ h hn).mono ?_
        rintro e w1 ⟨rfl, hB1⟩
        rw [hok]
        go_wp2_with fail
        refine (spec_l1In _ _ _ _).mono ?_
        rintro e w2 ⟨rfl, rfl⟩
        rw [hin]
        go_wp2_with fail
        refine (spec_PartsOk a' n' cap' m _ (h'.below hB1) hn').mono ?_
        rintro e w3 ⟨rfl, hB3⟩
        rw [hok']
        replace hB3 := chain hB1 hB3
        go_wp2
        go_returns
        exact ⟨rfl, hB3⟩
      · cases hok3 : partsOkB (laidJ l at' m)
        all_goals
          go_enter Try.func61, Try.ntmps61
          go_wp2_with fail
          refine (spec_PartsOk a n cap l _ h hn).mono ?_
          rintro e w1 ⟨rfl, hB1⟩
          rw [hok]
          go_wp2_with fail
          refine (spec_l1In _ _ _ _).mono ?_
          rintro e w2 ⟨rfl, rfl⟩
          rw [hin]
          go_wp2_with fail
          refine (spec_PartsOk a' n' cap' m _ (h'.below hB1) hn').mono ?_
          rintro e w3 ⟨rfl, hB3⟩
          rw [hok']
          replace hB3 := chain hB1 hB3
          go_wp2_with fail
          refine (spec_l2Laid a n cap l at' a' n' cap' m _ (h.below hB3) (h'.below hB3) hok hok' h0 h1).mono ?_
          rintro e w4 ⟨⟨a4, n4, cap4, rfl, hn4, R4⟩, hB4'⟩
          have hB4 := chain hB3 hB4'
          go_wp2_with fail
          refine (spec_PartsOk a4 n4 cap4 _ _ R4.sl (by omega)).mono ?_
          rintro e w5 ⟨rfl, hB5'⟩
          rw [hok3]
          have R5 := (R4.below hB5').mono hB3.size
          have hB5 := chain hB4 hB5'
          go_wp2
          go_returns
        · have hf : laidS l at' m = none := by simp [laidS, hok3]
          rw [hf]
          exact ⟨rfl, hB5⟩
        · have hf : laidS l at' m = some (laidJ l at' m) := by simp [laidS, hok, hok', hok3, h0, h1]
          rw [hf]
          exact ⟨⟨a4, n4, cap4, rfl, R5⟩, hB5⟩
end Go.Proofs.Ytbmkedickkpjjaa
