/- Slice, Joined, Laid of the model. -/
import Derived.Test.YtbmkedickkpjjaaProg
import Derived.Test.YtbmkedickkpjjaaSb
namespace Go.Proofs.Ytbmkedickkpjjaa
open Go.RowKit Go.BigFrame

theorem holes_of {l : List Pt} (h : partsOkB l = true) : Holes l := by
  intro p hp
  refine ⟨pos_of h p hp, ?_⟩
  have hk := (partsOkB_all h).2.1 p hp
  unfold partOkB at hk
  split at hk
  · rename_i ha
    simp at ha hk
    exact .inl ⟨ha, hk.1⟩
  · simp at hk
    exact .inr (by omega)

def sliceS (l : List Pt) (fr to : Int) : Option (List Pt) :=
  if partsOkB l = true ∧ 0 ≤ fr ∧ fr ≤ sumN l ∧ fr ≤ to ∧ to ≤ sumN l then some (joinL [] (slp fr to 0 l)) else none

set_option maxHeartbeats 1000000 in
set_option maxRecDepth 100000 in
theorem spec_Slice (a : Option Addr) (n cap : Nat) (l : List Pt) (fr to : Int) (w : World) (h : PtsAt w a n l) (hn : n ≤ 4194304) :
    Calls Try.prog 48 #[.slice a n cap, .int .i64 fr, .int .i64 to] w fun e w' => RetPts w.heap.size e w' (sliceS l fr to) ∧ Below w.heap.size w w' := by
  cases hok : partsOkB l
  · have hf : sliceS l fr to = none := by simp [sliceS, hok]
    rw [hf]
    go_enter Try.func48, Try.ntmps48
    go_wp2_with fail
    refine (spec_PartsOk a n cap l _ h hn).mono ?_
    rintro e w1 ⟨rfl, hB1⟩
    rw [hok]
    go_wp2
    go_returns
    exact ⟨rfl, hB1⟩
  · have hs : Hid (∀ k, 0 ≤ sumN (l.take k) ∧ sumN (l.take k) ≤ 100) := sums_of hok
    have h100 := (partsOkB_all hok).2.2
    have hnn := sumN_nonneg l (partsOkB_all hok).2.1
    have h16 : n ≤ 16 := by rw [← h.len]; exact (partsOkB_all hok).1
    cases hr1 : (decide (0 ≤ fr) && decide (fr ≤ sumN l))
    · have hf : sliceS l fr to = none := by
        simp only [sliceS, hok, true_and]
        rw [if_neg]
        intro hc
        simp [hc.1, hc.2.1] at hr1
      rw [hf]
      clear hf
      go_enter Try.func48, Try.ntmps48
      go_wp2_with fail
      refine (spec_PartsOk a n cap l _ h hn).mono ?_
      rintro e w1 ⟨rfl, hB1⟩
      rw [hok]
      go_wp2_with fail
      refine (spec_l2Len a n cap l _ (h.below hB1) hn hs.out).mono ?_
      rintro e w2 ⟨rfl, rfl⟩
      go_wp2_with fail
      refine (spec_l1In _ _ _ _).mono ?_
      rintro e w2 ⟨rfl, rfl⟩
      rw [hr1]
      go_wp2
      go_returns
      exact ⟨rfl, hB1⟩
    · cases hr2 : (decide (fr ≤ to) && decide (to ≤ sumN l))
      · have hf : sliceS l fr to = none := by
          simp only [sliceS, hok, true_and]
          rw [if_neg]
          intro hc
          simp [hc.2.2.1, hc.2.2.2] at hr2
        rw [hf]
        clear hf
        go_enter Try.func48, Try.ntmps48
        go_wp2_with fail
        refine (spec_PartsOk a n cap l _ h hn).mono ?_
        rintro e w1 ⟨rfl, hB1⟩
        rw [hok]
        go_wp2_with fail
        refine (spec_l2Len a n cap l _ (h.below hB1) hn hs.out).mono ?_
        rintro e w2 ⟨rfl, rfl⟩
        go_wp2_with fail
        refine (spec_l1In _ _ _ _).mono ?_
        rintro e w2 ⟨rfl, rfl⟩
        rw [hr1]
        go_wp2_with fail
        refine (spec_l2Len a n cap l _ (h.below hB1) hn hs.out).mono ?_
        rintro e w2 ⟨rfl, rfl⟩
        go_wp2_with fail
        refine (spec_l1In _ _ _ _).mono ?_
        rintro e w2 ⟨rfl, rfl⟩
        rw [hr2]
        go_wp2
        go_returns
        exact ⟨rfl, hB1⟩
      · have q1 := hr1
        have q2 := hr2
        simp at q1 q2
        have hf : sliceS l fr to = some (joinL [] (slp fr to 0 l)) := by simp [sliceS, hok, q1, q2]
        rw [hf]
        clear hf
        go_enter Try.func48, Try.ntmps48
        go_wp2_with fail
        refine (spec_PartsOk a n cap l _ h hn).mono ?_
        rintro e w1 ⟨rfl, hB1⟩
        rw [hok]
        go_wp2_with fail
        refine (spec_l2Len a n cap l _ (h.below hB1) hn hs.out).mono ?_
        rintro e w2 ⟨rfl, rfl⟩
        go_wp2_with fail
        refine (spec_l1In _ _ _ _).mono ?_
        rintro e w2 ⟨rfl, rfl⟩
        rw [hr1]
        go_wp2_with fail
        refine (spec_l2Len a n cap l _ (h.below hB1) hn hs.out).mono ?_
        rintro e w2 ⟨rfl, rfl⟩
        go_wp2_with fail
        refine (spec_l1In _ _ _ _).mono ?_
        rintro e w2 ⟨rfl, rfl⟩
        rw [hr2]
        go_wp2_with fail
        refine (spec_l2Slice a n cap l fr to _ (h.below hB1) h16 (holes_of hok) (by omega) (by omega) (by omega) (by omega)).mono ?_
        rintro e w3 ⟨⟨a3, n3, cap3, rfl, _, hr3⟩, hB3⟩
        replace hr3 := hr3.mono hB1.size
        replace hB3 := chain hB1 hB3
        go_wp2
        go_returns
        exact ⟨⟨a3, n3, cap3, rfl, hr3⟩, hB3⟩

def joinedS (l m : List Pt) : Option (List Pt) := if partsOkB l = true ∧ partsOkB m = true ∧ partsOkB (joinL l m) = true then some (joinL l m) else none

set_option maxHeartbeats 1000000 in
set_option maxRecDepth 100000 in
theorem spec_Joined (a : Option Addr) (n cap : Nat) (l : List Pt) (a' : Option Addr) (n' cap' : Nat) (m : List Pt) (w : World) (h : PtsAt w a n l) (hn : n ≤ 1100000) (ha : ArgOk a cap) (h' : PtsAt w a' n' m) (hn' : n' ≤ 1100000) :
    Calls Try.prog 58 #[.slice a n cap, .slice a' n' cap'] w fun e w' => RetPts w.heap.size e w' (joinedS l m) ∧ Below w.heap.size w w' := by
  cases hok : partsOkB l
  · have hf : joinedS l m = none := by simp [joinedS, hok]
    rw [hf]
    go_enter Try.func58, Try.ntmps58
    go_wp2_with fail
    refine (spec_l2Join a n cap l a' n' cap' m _ h hn ha h' hn').mono ?_
    rintro e w1 ⟨⟨a1, n1, cap1, rfl, hn1, hr1⟩, hB1⟩
    go_wp2_with fail
    refine (spec_PartsOk a n cap l _ (h.below hB1) (by omega)).mono ?_
    rintro e w2 ⟨rfl, hB2⟩
    rw [hok]
    replace hB2 := chain hB1 hB2
    go_wp2
    go_returns
    exact ⟨rfl, hB2⟩
  · cases hok' : partsOkB m
    · have hf : joinedS l m = none := by simp [joinedS, hok']
      rw [hf]
      go_enter Try.func58, Try.ntmps58
      go_wp2_with fail
      refine (spec_l2Join a n cap l a' n' cap' m _ h hn ha h' hn').mono ?_
      rintro e w1 ⟨⟨a1, n1, cap1, rfl, hn1, hr1⟩, hB1⟩
      go_wp2_with fail
      refine (spec_PartsOk a n cap l _ (h.below hB1) (by omega)).mono ?_
      rintro e w2 ⟨rfl, hB2⟩
      rw [hok]
      replace hB2 := chain hB1 hB2
      go_wp2_with fail
      refine (spec_PartsOk a' n' cap' m _ (h'.below hB2) (by omega)).mono ?_
      rintro e w3 ⟨rfl, hB3⟩
      rw [hok']
      replace hB3 := chain hB2 hB3
      go_wp2
      go_returns
      exact ⟨rfl, hB3⟩
    · cases hok3 : partsOkB (joinL l m)
      all_goals
        go_enter Try.func58, Try.ntmps58
        go_wp2_with fail
        refine (spec_l2Join a n cap l a' n' cap' m _ h hn ha h' hn').mono ?_
        rintro e w1 ⟨⟨a1, n1, cap1, rfl, hn1, hr1⟩, hB1⟩
        go_wp2_with fail
        refine (spec_PartsOk a n cap l _ (h.below hB1) (by omega)).mono ?_
        rintro e w2 ⟨rfl, hB2'⟩
        rw [hok]
        have hr2 := hr1.below hB2'
        have hB2 := chain hB1 hB2'
        go_wp2_with fail
        refine (spec_PartsOk a' n' cap' m _ (h'.below hB2) (by omega)).mono ?_
        rintro e w3 ⟨rfl, hB3'⟩
        rw [hok']
        have hr3 := hr2.below hB3'
        have hB3 := chain hB2 hB3'
        go_wp2_with fail
        refine (spec_PartsOk a1 n1 cap1 (joinL l m) _ hr3.sl (by omega)).mono ?_
        rintro e w4 ⟨rfl, hB4'⟩
        rw [hok3]
        have hr4 := hr3.below hB4'
        have hB4 := chain hB3 hB4'
        go_wp2
        go_returns
      · have hf : joinedS l m = none := by simp [joinedS, hok3]
        rw [hf]
        exact ⟨rfl, hB4⟩
      · have hf : joinedS l m = some (joinL l m) := by simp [joinedS, hok, hok', hok3]
        rw [hf]
        exact ⟨⟨a1, n1, cap1, rfl, hr4⟩, hB4⟩
end Go.Proofs.Ytbmkedickkpjjaa
