/- Joined, Laid of the program. -/
import Derived.Test.YtbmkedickkpjjaaProg
import Derived.Test.YtbmkedickkpjjaaRc
namespace Go.Proofs.Ytbmkedickkpjjaa
open Go.RowKit Go.BigFrame

theorem rall_append (r : RSt) (a b : List Pt) : rall (rall r a) b = rall r (a ++ b) := by simp [rall, List.foldl_append]

def joinedO (l m : List Pt) : Option (List Pt) := if partsOkB l = true ∧ partsOkB m = true then outc (rowOf (l ++ m)) else none

theorem pos2 {l : List Pt} (h : partsOkB l = true) : ∀ p ∈ l, 1 ≤ p.n ∧ p.n ≤ 100 := fun p hp => ⟨(pos_of h p hp).1, (pos_of h p hp).2.1⟩

set_option maxHeartbeats 1000000 in
set_option maxRecDepth 100000 in
theorem impl_Joined (a : Option Addr) (n cap : Nat) (l : List Pt) (a' : Option Addr) (n' cap' : Nat) (m : List Pt) (w : World) (h : PtsAt w a n l) (hn : n ≤ 4194304) (hb : ∀ ad, a = some ad → ad.block < w.heap.size) (h' : PtsAt w a' n' m) (hn' : n' ≤ 4194304) (hb' : ∀ ad, a' = some ad → ad.block < w.heap.size) :
    Calls Try.prog 52 #[.slice a n cap, .slice a' n' cap'] w fun e w' => RetPts w.heap.size e w' (joinedO l m) ∧ Below w.heap.size w w' := by
  cases hok : partsOkB l
  · have hf : joinedO l m = none := by simp [joinedO, hok]
    rw [hf]
    go_enter Try.func52, Try.ntmps52
    go_wp2_with fail
    refine (impl_PartsOk a n cap l _ h hn).mono ?_
    rintro e w1 ⟨rfl, hB1⟩
    rw [hok]
    go_wp2
    go_returns
    exact ⟨rfl, hB1⟩
  · cases hok' : partsOkB m
    · have hf : joinedO l m = none := by simp [joinedO, hok']
      rw [hf]
      go_enter Try.func52, Try.ntmps52
      go_wp2_with fail
      refine (impl_PartsOk a n cap l _ h hn).mono ?_
      rintro e w1 ⟨rfl, hB1⟩
      rw [hok]
      go_wp2_with fail
      refine (impl_PartsOk a' n' cap' m _ (h'.below hB1) hn').mono ?_
      rintro e w2 ⟨rfl, hB2⟩
      rw [hok']
      replace hB2 := chain hB1 hB2
      go_wp2
      go_returns
      exact ⟨rfl, hB2⟩
    · have h16 : n ≤ 16 := by rw [← h.len]; exact (partsOkB_all hok).1
      have h16' : n' ≤ 16 := by rw [← h'.len]; exact (partsOkB_all hok').1
      have hf : joinedO l m = outc (rowOf (l ++ m)) := by simp [joinedO, hok, hok']
      rw [hf]
      clear hf
      generalize hoo' : outc (rowOf (l ++ m)) = oo
      have hoo : Hid (outc (rowOf (l ++ m)) = oo) := hoo'
      clear hoo'
      go_enter Try.func52, Try.ntmps52
      go_wp2_with fail
      refine (impl_PartsOk a n cap l _ h hn).mono ?_
      rintro e w1 ⟨rfl, hB1⟩
      rw [hok]
      go_wp2_with fail
      refine (impl_PartsOk a' n' cap' m _ (h'.below hB1) hn').mono ?_
      rintro e w2 ⟨rfl, hB2⟩
      rw [hok']
      replace hB2 := chain hB1 hB2
      go_wp2_with fail
      refine (impl_addAll w2.heap.size _ a n cap l _ (row_new w2) inv_new (by show (0 : Int) ≤ _; omega) ((h.below hB2).alloc _) (fun ad had => by have := hb ad had; have := hB2.size; omega) h16 (pos2 hok)).mono ?_
      rintro e w3 ⟨rfl, hR3, hi3, hs3, hg3⟩
      have hB3 : Below w.heap.size w w3 := below_grown (chain hB2 ((Below.refl _ _).alloc (Nat.le_refl _) _)) hg3 hB2.size
      simp only [Int.zero_add] at hs3
      go_wp2_with fail
      refine (impl_addAll w2.heap.size _ a' n' cap' m _ hR3 hi3 (by omega) (h'.below hB3) (fun ad had => by have := hb' ad had; have := hB2.size; omega) h16' (pos2 hok')).mono ?_
      rintro e w4 ⟨rfl, hR4, _, _, hg4⟩
      have hB4 : Below w.heap.size w w4 := below_grown hB3 hg4 hB2.size
      go_wp2_with fail
      refine (impl_told_any w.heap.size _ _ _ hR4 hB4.size).mono ?_
      rintro e w5 ⟨hret, hB5⟩
      replace hB5 := chain hB4 hB5
      rw [rall_append] at hret
      change RetPts _ _ _ (outc (rowOf (l ++ m))) at hret
      rw [hoo.out] at hret
      clear hoo
      cases oo with
      | none =>
        obtain rfl := hret
        go_wp2
        go_returns
        exact ⟨rfl, hB5⟩
      | some L =>
        obtain ⟨a', n', cap', rfl, hres⟩ := hret
        go_wp2
        go_returns
        exact ⟨⟨a', n', cap', rfl, hres⟩, hB5⟩

/-- The parts that are laid, one behind the other. -/
def laidL (l : List Pt) (at' : Int) (m : List Pt) : List Pt :=
  slp 0 (min at' (sumN l)) 0 l ++ (if sumN l < at' then [⟨0, 0, at' - sumN l⟩] else []) ++ m ++ slp (min (at' + sumN m) (sumN l)) (sumN l) 0 l
def laidO (l : List Pt) (at' : Int) (m : List Pt) : Option (List Pt) := if partsOkB l = true ∧ 0 ≤ at' ∧ at' ≤ 100 ∧ partsOkB m = true then outc (rowOf (laidL l at' m)) else none

set_option maxHeartbeats 2000000 in
set_option maxRecDepth 100000 in
theorem impl_Laid_ok (a : Option Addr) (n cap : Nat) (l : List Pt) (at' : Int) (a' : Option Addr) (n' cap' : Nat) (m : List Pt) (w : World) (h : PtsAt w a n l) (hn : n ≤ 4194304) (hb : ∀ ad, a = some ad → ad.block < w.heap.size) (h' : PtsAt w a' n' m) (hn' : n' ≤ 4194304) (hb' : ∀ ad, a' = some ad → ad.block < w.heap.size) (hok : partsOkB l = true) (hok' : partsOkB m = true) (h0 : 0 ≤ at') (h1 : at' ≤ 100) :
    Calls Try.prog 60 #[.slice a n cap, .int .i64 at', .slice a' n' cap'] w fun e w' => RetPts w.heap.size e w' (laidO l at' m) ∧ Below w.heap.size w w' := by
  have h16 : n ≤ 16 := by rw [← h.len]; exact (partsOkB_all hok).1
  have h16' : n' ≤ 16 := by rw [← h'.len]; exact (partsOkB_all hok').1
  have hs : Hid (lenB l = sumN l) := by show _ = _; simp [lenB, hok]
  have hs' : Hid (lenB m = sumN m) := by show _ = _; simp [lenB, hok']
  have h100 := (partsOkB_all hok).2.2
  have hnn := sumN_nonneg l (partsOkB_all hok).2.1
  have h100' := (partsOkB_all hok').2.2
  have hnn' := sumN_nonneg m (partsOkB_all hok').2.1
  have hf : laidO l at' m = outc (rowOf (laidL l at' m)) := by simp [laidO, hok, hok', h0, h1]
  rw [hf]
  clear hf
  generalize hoo' : outc (rowOf (laidL l at' m)) = oo
  have hoo : Hid (outc (rowOf (laidL l at' m)) = oo) := hoo'
  clear hoo'
  by_cases hgt : sumN l < at'
  · have hll : Hid (laidL l at' m = slp 0 (sumN l) 0 l ++ [⟨0, 0, at' - sumN l⟩] ++ m ++ slp (min (at' + sumN m) (sumN l)) (sumN l) 0 l) := by
      show _ = _; simp only [laidL, hgt, if_true]; rw [Int.min_eq_right (by omega)]
    have hmn : ¬ at' < sumN l := by omega
    have hmin : Hid (min (at' + sumN m) (sumN l) = sumN l) := Int.min_eq_right (by omega)
    go_enter Try.func60, Try.ntmps60
    go_wp2_with fail
    refine (impl_PartsOk a n cap l _ h hn).mono ?_
    rintro e w1 ⟨rfl, hB1⟩
    rw [hok]
    go_wp2_with fail
    refine (impl_PartsOk a' n' cap' m _ (h'.below hB1) hn').mono ?_
    rintro e w2 ⟨rfl, hB2⟩
    rw [hok']
    replace hB2 := chain hB1 hB2
    go_wp2_with fail
    refine (impl_LenOf a n cap l _ (h.below hB2) hn).mono ?_
    rintro e w3 ⟨rfl, hB3⟩
    rw [hs.out]
    replace hB3 := chain hB2 hB3
    go_wp2_with fail
    refine (impl_addSlice w3.heap.size _ a n cap l 0 (sumN l) _ (row_new w3) inv_new (by show (0 : Int) ≤ _; omega) ((h.below hB3).alloc _) (fun ad had => by have := hb ad had; have := hB3.size; omega) h16 (pos_of hok) (by omega) (by omega) (by omega) (by omega)).mono ?_
    rintro e w4 ⟨rfl, hR4, hi4, hs4, hg4⟩
    have hB4 : Below w.heap.size w w4 := below_grown (chain hB3 ((Below.refl _ _).alloc (Nat.le_refl _) _)) hg4 hB3.size
    simp only [Int.zero_add] at hs4
    go_wp2_with fail
    refine (impl_add w3.heap.size _ ⟨0, 0, at' - sumN l⟩ _ hR4 hi4 (by omega) (by show (1 : Int) ≤ at' - sumN l; omega) (by show at' - sumN l ≤ (1000000 : Int); omega)).mono ?_
    rintro e w5 ⟨rfl, hR5, hg5⟩
    have hB5 : Below w.heap.size w w5 := below_grown hB4 hg5 hB3.size
    have hi5 := radd_inv hi4 (p := ⟨0, 0, at' - sumN l⟩) (by show (1 : Int) ≤ at' - sumN l; omega)
    have hs5 := radd_s (rall ⟨[], 0, false⟩ (slp 0 (sumN l) 0 l)) ⟨0, 0, at' - sumN l⟩
    simp only at hs5
    go_wp2_with fail
    refine (impl_addAll w3.heap.size _ a' n' cap' m _ hR5 hi5 (by omega) (h'.below hB5) (fun ad had => by have := hb' ad had; have := hB3.size; omega) h16' (pos2 hok')).mono ?_
    rintro e w6 ⟨rfl, hR6, hi6, hs6, hg6⟩
    have hB6 : Below w.heap.size w w6 := below_grown hB5 hg6 hB3.size
    go_wp2_with fail
    refine (impl_LenOf a' n' cap' m _ (h'.below hB6) hn').mono ?_
    rintro e w7 ⟨rfl, hB7'⟩
    rw [hs'.out]
    have hR7 := hR6.below hB7'
    have hB7 := chain hB6 hB7'
    have hgt2 : sumN l < at' + sumN m := by omega
    go_wp2_with fail
    refine (impl_addSlice w3.heap.size _ a n cap l (sumN l) (sumN l) _ hR7 hi6 (by omega) (h.below hB7) (fun ad had => by have := hb ad had; have := hB3.size; omega) h16 (pos_of hok) (by omega) (by omega) (by omega) (by omega)).mono ?_
    rintro e w8 ⟨rfl, hR8, _, _, hg8⟩
    have hB8' : Below w.heap.size w w8 := below_grown hB7 hg8 hB3.size
    go_wp2_with fail
    refine (impl_told_any w.heap.size _ _ _ hR8 hB8'.size).mono ?_
    rintro e w9 ⟨hret, hB9⟩
    have hB8 := chain hB8' hB9
    have hrow : Hid (rall (rall (radd (rall ⟨[], 0, false⟩ (slp 0 (sumN l) 0 l)) ⟨0, 0, at' - sumN l⟩) m) (slp (sumN l) (sumN l) 0 l) = rowOf (laidL l at' m)) := by
      show _ = _
      rw [hll.out, hmin.out]; simp [rowOf, rall, List.foldl_append]
    rw [hrow.out, hoo.out] at hret
    clear hoo hrow
    cases oo with
    | none =>
      obtain rfl := hret
      go_wp2
      go_returns
      exact ⟨rfl, hB8⟩
    | some L =>
      obtain ⟨a', n', cap', rfl, hres⟩ := hret
      go_wp2
      go_returns
      exact ⟨⟨a', n', cap', rfl, hres⟩, hB8⟩
  · by_cases hm2 : sumN l < at' + sumN m
    · have hll : Hid (laidL l at' m = slp 0 at' 0 l ++ m ++ slp (sumN l) (sumN l) 0 l) := by
        show _ = _; simp only [laidL, hgt, if_false]; rw [Int.min_eq_left (by omega), Int.min_eq_right (by omega)]; simp
      go_enter Try.func60, Try.ntmps60
      go_wp2_with fail
      refine (impl_PartsOk a n cap l _ h hn).mono ?_
      rintro e w1 ⟨rfl, hB1⟩
      rw [hok]
      go_wp2_with fail
      refine (impl_PartsOk a' n' cap' m _ (h'.below hB1) hn').mono ?_
      rintro e w2 ⟨rfl, hB2⟩
      rw [hok']
      replace hB2 := chain hB1 hB2
      go_wp2_with fail
      refine (impl_LenOf a n cap l _ (h.below hB2) hn).mono ?_
      rintro e w3 ⟨rfl, hB3⟩
      rw [hs.out]
      replace hB3 := chain hB2 hB3
      go_wp2_with fail
      refine (impl_addSlice w3.heap.size _ a n cap l 0 at' _ (row_new w3) inv_new (by show (0 : Int) ≤ _; omega) ((h.below hB3).alloc _) (fun ad had => by have := hb ad had; have := hB3.size; omega) h16 (pos_of hok) (by omega) (by omega) (by omega) (by omega)).mono ?_
      rintro e w4 ⟨rfl, hR4, hi4, hs4, hg4⟩
      have hB4 : Below w.heap.size w w4 := below_grown (chain hB3 ((Below.refl _ _).alloc (Nat.le_refl _) _)) hg4 hB3.size
      simp only [Int.zero_add] at hs4
      go_wp2_with fail
      refine (impl_addAll w3.heap.size _ a' n' cap' m _ hR4 hi4 (by omega) (h'.below hB4) (fun ad had => by have := hb' ad had; have := hB3.size; omega) h16' (pos2 hok')).mono ?_
      rintro e w6 ⟨rfl, hR6, hi6, hs6, hg6⟩
      have hB6 : Below w.heap.size w w6 := below_grown hB4 hg6 hB3.size
      go_wp2_with fail
      refine (impl_LenOf a' n' cap' m _ (h'.below hB6) hn').mono ?_
      rintro e w7 ⟨rfl, hB7'⟩
      rw [hs'.out]
      have hR7 := hR6.below hB7'
      have hB7 := chain hB6 hB7'
      go_wp2_with fail
      refine (impl_addSlice w3.heap.size _ a n cap l (sumN l) (sumN l) _ hR7 hi6 (by omega) (h.below hB7) (fun ad had => by have := hb ad had; have := hB3.size; omega) h16 (pos_of hok) (by omega) (by omega) (by omega) (by omega)).mono ?_
      rintro e w8 ⟨rfl, hR8, _, _, hg8⟩
      have hB8' : Below w.heap.size w w8 := below_grown hB7 hg8 hB3.size
      go_wp2_with fail
      refine (impl_told_any w.heap.size _ _ _ hR8 hB8'.size).mono ?_
      rintro e w9 ⟨hret, hB9⟩
      have hB8 := chain hB8' hB9
      have hrow : Hid (rall (rall (rall ⟨[], 0, false⟩ (slp 0 at' 0 l)) m) (slp (sumN l) (sumN l) 0 l) = rowOf (laidL l at' m)) := by
        show _ = _
        rw [hll.out]; simp [rowOf, rall, List.foldl_append]
      rw [hrow.out, hoo.out] at hret
      clear hoo hrow
      cases oo with
      | none =>
        obtain rfl := hret
        go_wp2
        go_returns
        exact ⟨rfl, hB8⟩
      | some L =>
        obtain ⟨a', n', cap', rfl, hres⟩ := hret
        go_wp2
        go_returns
        exact ⟨⟨a', n', cap', rfl, hres⟩, hB8⟩
    · have hll : Hid (laidL l at' m = slp 0 at' 0 l ++ m ++ slp (at' + sumN m) (sumN l) 0 l) := by
        show _ = _; simp only [laidL, hgt, if_false]; rw [Int.min_eq_left (by omega), Int.min_eq_left (by omega)]; simp
      go_enter Try.func60, Try.ntmps60
      go_wp2_with fail
      refine (impl_PartsOk a n cap l _ h hn).mono ?_
      rintro e w1 ⟨rfl, hB1⟩
      rw [hok]
      go_wp2_with fail
      refine (impl_PartsOk a' n' cap' m _ (h'.below hB1) hn').mono ?_
      rintro e w2 ⟨rfl, hB2⟩
      rw [hok']
      replace hB2 := chain hB1 hB2
      go_wp2_with fail
      refine (impl_LenOf a n cap l _ (h.below hB2) hn).mono ?_
      rintro e w3 ⟨rfl, hB3⟩
      rw [hs.out]
      replace hB3 := chain hB2 hB3
      go_wp2_with fail
      refine (impl_addSlice w3.heap.size _ a n cap l 0 at' _ (row_new w3) inv_new (by show (0 : Int) ≤ _; omega) ((h.below hB3).alloc _) (fun ad had => by have := hb ad had; have := hB3.size; omega) h16 (pos_of hok) (by omega) (by omega) (by omega) (by omega)).mono ?_
      rintro e w4 ⟨rfl, hR4, hi4, hs4, hg4⟩
      have hB4 : Below w.heap.size w w4 := below_grown (chain hB3 ((Below.refl _ _).alloc (Nat.le_refl _) _)) hg4 hB3.size
      simp only [Int.zero_add] at hs4
      go_wp2_with fail
      refine (impl_addAll w3.heap.size _ a' n' cap' m _ hR4 hi4 (by omega) (h'.below hB4) (fun ad had => by have := hb' ad had; have := hB3.size; omega) h16' (pos2 hok')).mono ?_
      rintro e w6 ⟨rfl, hR6, hi6, hs6, hg6⟩
      have hB6 : Below w.heap.size w w6 := below_grown hB4 hg6 hB3.size
      go_wp2_with fail
      refine (impl_LenOf a' n' cap' m _ (h'.below hB6) hn').mono ?_
      rintro e w7 ⟨rfl, hB7'⟩
      rw [hs'.out]
      have hR7 := hR6.below hB7'
      have hB7 := chain hB6 hB7'
      go_wp2_with fail
      refine (impl_addSlice w3.heap.size _ a n cap l (at' + sumN m) (sumN l) _ hR7 hi6 (by omega) (h.below hB7) (fun ad had => by have := hb ad had; have := hB3.size; omega) h16 (pos_of hok) (by omega) (by omega) (by omega) (by omega)).mono ?_
      rintro e w8 ⟨rfl, hR8, _, _, hg8⟩
      have hB8' : Below w.heap.size w w8 := below_grown hB7 hg8 hB3.size
      go_wp2_with fail
      refine (impl_told_any w.heap.size _ _ _ hR8 hB8'.size).mono ?_
      rintro e w9 ⟨hret, hB9⟩
      have hB8 := chain hB8' hB9
      have hrow : Hid (rall (rall (rall ⟨[], 0, false⟩ (slp 0 at' 0 l)) m) (slp (at' + sumN m) (sumN l) 0 l) = rowOf (laidL l at' m)) := by
        show _ = _
        rw [hll.out]; simp [rowOf, rall, List.foldl_append]
      rw [hrow.out, hoo.out] at hret
      clear hoo hrow
      cases oo with
      | none =>
        obtain rfl := hret
        go_wp2
        go_returns
        exact ⟨rfl, hB8⟩
      | some L =>
        obtain ⟨a', n', cap', rfl, hres⟩ := hret
        go_wp2
        go_returns
        exact ⟨⟨a', n', cap', rfl, hres⟩, hB8⟩

set_option maxHeartbeats 2000000 in
set_option maxRecDepth 100000 in
theorem impl_Laid (a : Option Addr) (n cap : Nat) (l : List Pt) (at' : Int) (a' : Option Addr) (n' cap' : Nat) (m : List Pt) (w : World) (h : PtsAt w a n l) (hn : n ≤ 4194304) (hb : ∀ ad, a = some ad → ad.block < w.heap.size) (h' : PtsAt w a' n' m) (hn' : n' ≤ 4194304) (hb' : ∀ ad, a' = some ad → ad.block < w.heap.size) :
    Calls Try.prog 60 #[.slice a n cap, .int .i64 at', .slice a' n' cap'] w fun e w' => RetPts w.heap.size e w' (laidO l at' m) ∧ Below w.heap.size w w' := by
  by_cases hall : partsOkB l = true ∧ 0 ≤ at' ∧ at' ≤ 100 ∧ partsOkB m = true
  · exact impl_Laid_ok a n cap l at' a' n' cap' m w h hn hb h' hn' hb' hall.1 hall.2.2.2 hall.2.1 hall.2.2.1
  · have hf : laidO l at' m = none := by simp only [laidO]; rw [if_neg hall]
    rw [hf]
    clear hf
    cases hok : partsOkB l
    · go_enter Try.func60, Try.ntmps60
      go_wp2_with fail
      refine (impl_PartsOk a n cap l _ h hn).mono ?_
      rintro e w1 ⟨rfl, hB1⟩
      rw [hok]
      go_wp2
      go_returns
      exact ⟨rfl, hB1⟩
    · by_cases hat : 0 ≤ at' ∧ at' ≤ 100
      · have hok' : partsOkB m = false := by cases hm : partsOkB m <;> simp_all
        clear hall
        obtain ⟨h0, h1⟩ := hat
        go_enter Try.func60, Try.ntmps60
        go_wp2_with fail
        refine (impl_PartsOk a n cap l _ h hn).mono ?_
        rintro e w1 ⟨rfl, hB1⟩
        rw [hok]
        go_wp2_with fail
        refine (impl_PartsOk a' n' cap' m _ (h'.below hB1) hn').mono ?_
        rintro e w2 ⟨rfl, hB2⟩
        rw [hok']
        replace hB2 := chain hB1 hB2
        go_wp2
        go_returns
        exact ⟨rfl, hB2⟩
      · clear hall
        go_enter Try.func60, Try.ntmps60
        go_wp2_with fail
        refine (impl_PartsOk a n cap l _ h hn).mono ?_
        rintro e w1 ⟨rfl, hB1⟩
        rw [hok]
        go_wp2_with fail
        all_goals first | (exfalso; omega) | skip
        all_goals go_returns
        all_goals exact ⟨rfl, hB1⟩
end Go.Proofs.Ytbmkedickkpjjaa
