/- Plain facts: what the model's joining of right parts is right for. Laid of the model. Plain facts: slices of right parts are right; what is laid. What joining does to the content: nothing. What Joined, Slice and Laid are tried at; lists of parts that are the same. What the laws of parts need: how long a content is, what answers are. -/
import Derived.Test.YtbjejnkeekndbaaKd
import Derived.Test.YtbjejnkeekndbaaProg
import Derived.Test.YtbjejnkeekndbaaKq
import Derived.Test.YtbjejnkeekndbaaKr
import Derived.Laws.StructEq
namespace Go.Proofs.Ytbjejnkeekndbaa
open Go.RowKit

theorem pgo_split {q : Option Pt} {B : Int} {p : Pt} {r : List Pt} : pgo q B (p :: r) = true ↔ partOkB p = true ∧ p.n ≤ B ∧ (∀ x, q = some x → goesOnB x p = false) ∧ pgo (some p) (B - p.n) r = true := by
  cases q with
  | none => simp [pgo, and_assoc]
  | some x => simp [pgo, and_assoc]

theorem joinL_acc (l : List Pt) : ∀ (acc : List Pt) (q : Pt) (B : Int), acc.getLast? = some q → pgo (some q) B l = true → joinL acc l = acc ++ l := by
  induction l with
  | nil => intro acc q B _ _; simp [joinL]
  | cons p r ih =>
    intro acc q B hl h
    obtain ⟨h1, h2, h3, h4⟩ := pgo_split.1 h
    have e : addL acc p = acc ++ [p] := by simp [addL, hl, h3 q rfl]
    show joinL (addL acc p) r = _
    rw [e, ih (acc ++ [p]) p _ (by simp) h4]
    simp

theorem joinL_self {l : List Pt} {B : Int} (h : pgo none B l = true) : joinL [] l = l := by
  cases l with
  | nil => rfl
  | cons p r =>
    obtain ⟨_, _, _, h4⟩ := pgo_split.1 h
    show joinL (addL [] p) r = _
    have e : addL [] p = [p] := rfl
    rw [e, joinL_acc r [p] p _ rfl h4]
    rfl

theorem pgo_cap (l : List Pt) : ∀ (q : Option Pt) (B c : Int), pgo q B l = true → sumN l ≤ c → 0 ≤ c → pgo q c l = true := by
  induction l with
  | nil => intro q B c _ _ _; cases q <;> rfl
  | cons p r ih =>
    intro q B c h hs hc
    obtain ⟨h1, h2, h3, h4⟩ := pgo_split.1 h
    simp only [sumN] at hs
    have hall := pgo_all r (some p) (B - p.n) (by omega) h4
    have hr := sumN_nonneg r hall.1
    exact pgo_split.2 ⟨h1, by omega, h3, ih (some p) (B - p.n) (c - p.n) h4 (by omega) (by omega)⟩

theorem pgo_snoc (l : List Pt) : ∀ (q : Option Pt) (B : Int) (p : Pt), pgo q B l = true → partOkB p = true → sumN l + p.n ≤ B → (∀ x, (l.getLast?.or q) = some x → goesOnB x p = false) → pgo q B (l ++ [p]) = true := by
  induction l with
  | nil =>
    intro q B p _ hp hs hx
    simp only [sumN] at hs
    exact pgo_split.2 ⟨hp, by omega, fun x hq => hx x (by simpa using hq), rfl⟩
  | cons y r ih =>
    intro q B p h hp hs hx
    obtain ⟨h1, h2, h3, h4⟩ := pgo_split.1 h
    simp only [sumN] at hs
    refine pgo_split.2 ⟨h1, h2, h3, ih (some y) (B - y.n) p h4 hp (by omega) ?_⟩
    intro x hxx
    refine hx x ?_
    cases r with
    | nil => simpa using hxx
    | cons z t =>
      obtain ⟨v, hv⟩ : ∃ v, (z :: t).getLast? = some v := ⟨_, List.getLast?_cons⟩
      rw [hv] at hxx
      rw [List.getLast?_cons_cons, hv]
      exact hxx

theorem pgo_init (l : List Pt) : ∀ (q : Option Pt) (B : Int) (p : Pt), pgo q B (l ++ [p]) = true → pgo q B l = true ∧ partOkB p = true ∧ sumN l + p.n ≤ B ∧ (∀ x, (l.getLast?.or q) = some x → goesOnB x p = false) := by
  induction l with
  | nil =>
    intro q B p h
    obtain ⟨h1, h2, h3, _⟩ := pgo_split.1 h
    exact ⟨by cases q <;> rfl, h1, by simp only [sumN]; omega, fun x hx => h3 x (by simpa using hx)⟩
  | cons y r ih =>
    intro q B p h
    obtain ⟨h1, h2, h3, h4⟩ := pgo_split.1 h
    obtain ⟨k1, k2, k3, k4⟩ := ih (some y) (B - y.n) p h4
    refine ⟨pgo_split.2 ⟨h1, h2, h3, k1⟩, k2, by simp only [sumN]; omega, ?_⟩
    intro x hx
    refine k4 x ?_
    cases r with
    | nil => simpa using hx
    | cons z t =>
      obtain ⟨v, hv⟩ : ∃ v, (z :: t).getLast? = some v := ⟨_, List.getLast?_cons⟩
      rw [List.getLast?_cons_cons, hv] at hx
      rw [hv]
      exact hx

theorem merged_ok {x p : Pt} (hx : partOkB x = true) (hp : partOkB p = true) (hg : goesOnB x p = true) : partOkB ⟨x.a, x.f, x.n + p.n⟩ = true := by
  have h1 := partOkB_pos hx
  have h2 := partOkB_pos hp
  simp only [goesOnB, Bool.and_eq_true, Bool.or_eq_true, beq_iff_eq] at hg
  obtain ⟨ha, hg⟩ := hg
  unfold partOkB at *
  by_cases h0 : x.a = 0
  · simp [h0] at hx ⊢
    omega
  · have h0' : (x.a == 0) = false := by simp [h0]
    have hp0 : (p.a == 0) = false := by simp; omega
    simp only [h0', hp0, Bool.false_eq_true, if_false, Bool.and_eq_true, decide_eq_true_eq] at hx hp ⊢
    rcases hg with hg | hg
    · omega
    · rw [wrap_small (by omega) (by omega)] at hg
      omega

/-- One part more: right but for the length and the count. -/
theorem addL_ok {l : List Pt} {p : Pt} {B : Int} (h : pgo none B l = true) (hp : partOkB p = true) (hs : sumN l + p.n ≤ B) (hB : B ≤ 1000) (h0 : 0 ≤ B) : pgo none B (addL l p) = true ∧ sumN (addL l p) = sumN l + p.n := by
  rcases List.eq_nil_or_concat l with rfl | ⟨L, x, rfl⟩
  · simp only [sumN] at hs
    exact ⟨pgo_split.2 ⟨hp, by omega, fun x hx => (by cases hx), rfl⟩, by simp [addL, sumN]⟩
  · rw [List.concat_eq_append] at *
    have hl : (L ++ [x]).getLast? = some x := by simp
    cases hg : goesOnB x p
    · have e : addL (L ++ [x]) p = L ++ [x] ++ [p] := by simp [addL, hg]
      rw [e]
      exact ⟨pgo_snoc _ none B p h hp hs (fun y hy => by simp at hy; subst hy; exact hg), by rw [sumN_append]; simp [sumN]⟩
    · obtain ⟨k1, k2, k3, k4⟩ := pgo_init L none B x h
      rw [sumN_append] at hs
      simp only [sumN] at hs
      have hL := sumN_nonneg L (pgo_all L none B h0 k1).1
      have hx1 := partOkB_pos k2
      have hp1 := partOkB_pos hp
      have e : addL (L ++ [x]) p = L ++ [⟨x.a, x.f, x.n + p.n⟩] := by
        simp only [addL, hl, hg, if_true, List.dropLast_concat]
        rw [wrap_small (by omega) (by omega)]
      rw [e]
      refine ⟨pgo_snoc L none B _ k1 (merged_ok k2 hp hg) (by show sumN L + (x.n + p.n) ≤ B; omega) k4, ?_⟩
      rw [sumN_append, sumN_append]; simp [sumN]; omega

theorem joinL_ok (m : List Pt) : ∀ (l : List Pt) (B : Int), pgo none B l = true → (∀ p ∈ m, partOkB p = true) → sumN l + sumN m ≤ B → B ≤ 1000 → 0 ≤ B → pgo none B (joinL l m) = true ∧ sumN (joinL l m) = sumN l + sumN m := by
  induction m with
  | nil => intro l B h _ _ _ _; exact ⟨h, by simp [joinL, sumN]⟩
  | cons p t ih =>
    intro l B h hm hs hB h0
    simp only [sumN] at hs
    have ht := sumN_nonneg t (fun q hq => hm q (by simp [hq]))
    obtain ⟨a1, a2⟩ := addL_ok h (hm p (by simp)) (by omega) hB h0
    obtain ⟨b1, b2⟩ := ih (addL l p) B a1 (fun q hq => hm q (by simp [hq])) (by omega) hB h0
    exact ⟨b1, by show sumN (joinL (addL l p) t) = _; rw [b2, a2]; simp [sumN]; omega⟩

theorem partsOkB_pgo {l : List Pt} (h : partsOkB l = true) : pgo none 100 l = true := by
  simp [partsOkB] at h; exact h.2

theorem partsOkB_join {l m : List Pt} (hl : partsOkB l = true) (hm : partsOkB m = true) : partsOkB (joinL l m) = decide (sumN l + sumN m ≤ 100 ∧ (joinL l m).length ≤ 16) := by
  have sl := partsOkB_all hl
  have sm := partsOkB_all hm
  have nl := sumN_nonneg l sl.2.1
  have nm := sumN_nonneg m sm.2.1
  obtain ⟨b1, b2⟩ := joinL_ok m l 200 (by
    have hp := partsOkB_pgo hl
    exact pgo_cap l none 100 200 hp (by omega) (by omega)) sm.2.1 (by omega) (by omega) (by omega)
  rw [Bool.eq_iff_iff]
  simp only [partsOkB, Bool.and_eq_true, decide_eq_true_eq]
  constructor
  · rintro ⟨h1, h2⟩
    have := pgo_all _ none 100 (by omega) h2
    exact ⟨by omega, h1⟩
  · rintro ⟨h1, h2⟩
    exact ⟨h2, pgo_cap _ none 200 100 b1 (by omega) (by omega)⟩

theorem joined_eq (l m : List Pt) : joinedO l m = if partsOkB l = true ∧ partsOkB m = true ∧ partsOkB (joinL l m) = true then some (joinL l m) else none := by
  unfold joinedO
  by_cases h : partsOkB l = true ∧ partsOkB m = true
  · rw [if_pos h]
    have hp : ∀ p ∈ l ++ m, 1 ≤ p.n := by
      intro p hp
      rcases List.mem_append.1 hp with hp | hp
      · exact (pos_of h.1 p hp).1
      · exact (pos_of h.2 p hp).1
    have e : joinL [] (l ++ m) = joinL l m := by
      have : joinL [] (l ++ m) = joinL (joinL [] l) m := by simp [joinL, List.foldl_append]
      rw [this, joinL_self (partsOkB_pgo h.1)]
    rw [outc_row hp, e, sumN_append]
    simp only [h.1, h.2, true_and, partsOkB_join h.1 h.2, decide_eq_true_eq]
  · rw [if_neg h, if_neg (fun hc => h ⟨hc.1, hc.2.1⟩)]
end Go.Proofs.Ytbjejnkeekndbaa
namespace Go.Proofs.Ytbjejnkeekndbaa
open Go.RowKit Go.BigFrame

/-- l2Laid, as a plain function. -/
def laidJ (l : List Pt) (at' : Int) (m : List Pt) : List Pt :=
  joinL (joinL (if sumN l < at' then addL (joinL [] (slp 0 (min at' (sumN l)) 0 l)) ⟨0, 0, at' - sumN l⟩ else joinL [] (slp 0 (min at' (sumN l)) 0 l)) m) (joinL [] (slp (min (sumN l) (at' + sumN m)) (sumN l) 0 l))

set_option maxHeartbeats 2000000 in
set_option maxRecDepth 100000 in
theorem spec_l2Laid (a : Option Addr) (n cap : Nat) (l : List Pt) (at' : Int) (a' : Option Addr) (n' cap' : Nat) (m : List Pt) (w : World) (h : PtsAt w a n l) (h' : PtsAt w a' n' m) (hok : partsOkB l = true) (hok' : partsOkB m = true) (h0 : 0 ≤ at') (h1 : at' ≤ 100) :
    Calls Try.prog 105 #[.slice a n cap, .int .i64 at', .slice a' n' cap'] w fun e w' => (∃ a1 n1 cap1, e = .returned (.slice a1 n1 cap1) ∧ n1 ≤ 1000 ∧ ResAt Pt.cs 3 119 w' w.heap.size a1 n1 cap1 (laidJ l at' m)) ∧ Below w.heap.size w w' := by
  have h16 : n ≤ 16 := by rw [← h.len]; exact (partsOkB_all hok).1
  have h16' : n' ≤ 16 := by rw [← h'.len]; exact (partsOkB_all hok').1
  have hs : Hid (∀ k, 0 ≤ sumN (l.take k) ∧ sumN (l.take k) ≤ 100) := sums_of hok
  have hs' : Hid (∀ k, 0 ≤ sumN (m.take k) ∧ sumN (m.take k) ≤ 100) := sums_of hok'
  have h100 := (partsOkB_all hok).2.2
  have hnn := sumN_nonneg l (partsOkB_all hok).2.1
  have h100' := (partsOkB_all hok').2.2
  have hnn' := sumN_nonneg m (partsOkB_all hok').2.1
  have hho := holes_of hok
  by_cases hgt : sumN l < at'
  · have hll : Hid (laidJ l at' m = joinL (joinL (addL (joinL [] (slp 0 (sumN l) 0 l)) ⟨0, 0, at' - sumN l⟩) m) (joinL [] (slp (sumN l) (sumN l) 0 l))) := by
      show _ = _; simp only [laidJ, hgt, if_true]; rw [Int.min_eq_right (by omega), Int.min_eq_left (by omega)]
    have hgt2 : ¬ at' + sumN m < sumN l := by omega
    go_enter Try.func105, Try.ntmps105
    go_wp2_with fail
    refine (spec_l2Len a n cap l _ h (by omega) hs.out).mono ?_
    rintro e w1 ⟨rfl, rfl⟩
    go_wp2_with fail
    refine (spec_l2Slice a n cap l 0 (sumN l) _ h h16 hho (by omega) (by omega) (by omega) (by omega)).mono ?_
    rintro e w2 ⟨⟨a2, n2, cap2, rfl, hn2, R2⟩, hB2⟩
    go_wp2_with fail
    refine (spec_l2Add a2 n2 cap2 _ ⟨0, 0, at' - sumN l⟩ _ R2.sl (by omega) R2.arg).mono ?_
    rintro e w3 ⟨⟨a3, n3, cap3, rfl, R3⟩, hB3'⟩
    have hal := addL_res R3.sl.len R2.sl.len
    have hB3 := chain hB2 hB3'
    go_wp2_with fail
    refine (spec_l2Join a3 n3 cap3 _ a' n' cap' m _ R3.sl (by omega) R3.arg (h'.below hB3) (by omega)).mono ?_
    rintro e w4 ⟨⟨a4, n4, cap4, rfl, hn4, R4⟩, hB4'⟩
    have hB4 := chain hB3 hB4'
    go_wp2_with fail
    refine (spec_l2Len a' n' cap' m _ (h'.below hB4) (by omega) hs'.out).mono ?_
    rintro e w5 ⟨rfl, rfl⟩
    go_wp2_with fail
    refine (spec_l2Slice a n cap l (sumN l) (sumN l) _ (h.below hB4) h16 hho (by omega) (by omega) (by omega) (by omega)).mono ?_
    rintro e w6 ⟨⟨a6, n6, cap6, rfl, hn6, R6⟩, hB6'⟩
    have R6b := R4.below hB6'
    have hB6 := chain hB4 hB6'
    go_wp2_with fail
    refine (spec_l2Join a4 n4 cap4 _ a6 n6 cap6 _ _ R6b.sl (by omega) R6b.arg R6.sl (by omega)).mono ?_
    rintro e w7 ⟨⟨a7, n7, cap7, rfl, hn7, R7⟩, hB7'⟩
    have hB7 := chain hB6 hB7'
    go_wp2
    go_returns
    exact ⟨⟨a7, n7, cap7, rfl, by omega, by rw [hll.out]; exact R7.mono hB6.size⟩, hB7⟩
  · by_cases hm2 : at' + sumN m < sumN l
    · have hll : Hid (laidJ l at' m = joinL (joinL (joinL [] (slp 0 at' 0 l)) m) (joinL [] (slp (at' + sumN m) (sumN l) 0 l))) := by
        show _ = _; simp only [laidJ, hgt, if_false]; rw [Int.min_eq_left (by omega), Int.min_eq_right (by omega)]
      go_enter Try.func105, Try.ntmps105
      go_wp2_with fail
      refine (spec_l2Len a n cap l _ h (by omega) hs.out).mono ?_
      rintro e w1 ⟨rfl, rfl⟩
      go_wp2_with fail
      refine (spec_l2Slice a n cap l 0 at' _ h h16 hho (by omega) (by omega) (by omega) (by omega)).mono ?_
      rintro e w2 ⟨⟨a3, n3, cap3, rfl, hn3, R3⟩, hB3⟩
      go_wp2_with fail
      refine (spec_l2Join a3 n3 cap3 _ a' n' cap' m _ R3.sl (by omega) R3.arg (h'.below hB3) (by omega)).mono ?_
      rintro e w4 ⟨⟨a4, n4, cap4, rfl, hn4, R4⟩, hB4'⟩
      have hB4 := chain hB3 hB4'
      go_wp2_with fail
      refine (spec_l2Len a' n' cap' m _ (h'.below hB4) (by omega) hs'.out).mono ?_
      rintro e w5 ⟨rfl, rfl⟩
      go_wp2_with fail
      refine (spec_l2Slice a n cap l (at' + sumN m) (sumN l) _ (h.below hB4) h16 hho (by omega) (by omega) (by omega) (by omega)).mono ?_
      rintro e w6 ⟨⟨a6, n6, cap6, rfl, hn6, R6⟩, hB6'⟩
      have R6b := R4.below hB6'
      have hB6 := chain hB4 hB6'
      go_wp2_with fail
      refine (spec_l2Join a4 n4 cap4 _ a6 n6 cap6 _ _ R6b.sl (by omega) R6b.arg R6.sl (by omega)).mono ?_
      rintro e w7 ⟨⟨a7, n7, cap7, rfl, hn7, R7⟩, hB7'⟩
      have hB7 := chain hB6 hB7'
      go_wp2
      go_returns
      exact ⟨⟨a7, n7, cap7, rfl, by omega, by rw [hll.out]; exact R7.mono hB6.size⟩, hB7⟩
    · have hll : Hid (laidJ l at' m = joinL (joinL (joinL [] (slp 0 at' 0 l)) m) (joinL [] (slp (sumN l) (sumN l) 0 l))) := by
        show _ = _; simp only [laidJ, hgt, if_false]; rw [Int.min_eq_left (by omega), Int.min_eq_left (by omega)]
      go_enter Try.func105, Try.ntmps105
      go_wp2_with fail
      refine (spec_l2Len a n cap l _ h (by omega) hs.out).mono ?_
      rintro e w1 ⟨rfl, rfl⟩
      go_wp2_with fail
      refine (spec_l2Slice a n cap l 0 at' _ h h16 hho (by omega) (by omega) (by omega) (by omega)).mono ?_
      rintro e w2 ⟨⟨a3, n3, cap3, rfl, hn3, R3⟩, hB3⟩
      go_wp2_with fail
      refine (spec_l2Join a3 n3 cap3 _ a' n' cap' m _ R3.sl (by omega) R3.arg (h'.below hB3) (by omega)).mono ?_
      rintro e w4 ⟨⟨a4, n4, cap4, rfl, hn4, R4⟩, hB4'⟩
      have hB4 := chain hB3 hB4'
      go_wp2_with fail
      refine (spec_l2Len a' n' cap' m _ (h'.below hB4) (by omega) hs'.out).mono ?_
      rintro e w5 ⟨rfl, rfl⟩
      go_wp2_with fail
      refine (spec_l2Slice a n cap l (sumN l) (sumN l) _ (h.below hB4) h16 hho (by omega) (by omega) (by omega) (by omega)).mono ?_
      rintro e w6 ⟨⟨a6, n6, cap6, rfl, hn6, R6⟩, hB6'⟩
      have R6b := R4.below hB6'
      have hB6 := chain hB4 hB6'
      go_wp2_with fail
      refine (spec_l2Join a4 n4 cap4 _ a6 n6 cap6 _ _ R6b.sl (by omega) R6b.arg R6.sl (by omega)).mono ?_
      rintro e w7 ⟨⟨a7, n7, cap7, rfl, hn7, R7⟩, hB7'⟩
      have hB7 := chain hB6 hB7'
      go_wp2
      go_returns
      exact ⟨⟨a7, n7, cap7, rfl, by omega, by rw [hll.out]; exact R7.mono hB6.size⟩, hB7⟩

def laidS (l : List Pt) (at' : Int) (m : List Pt) : Option (List Pt) := if (partsOkB l = true ∧ 0 ≤ at' ∧ at' ≤ 100 ∧ partsOkB m = true) ∧ partsOkB (laidJ l at' m) = true then some (laidJ l at' m) else none

set_option maxHeartbeats 2000000 in
set_option maxRecDepth 100000 in
theorem spec_Laid (a : Option Addr) (n cap : Nat) (l : List Pt) (at' : Int) (a' : Option Addr) (n' cap' : Nat) (m : List Pt) (w : World) (h : PtsAt w a n l) (hn : n ≤ 4194304) (h' : PtsAt w a' n' m) (hn' : n' ≤ 4194304) :
    Calls Try.prog 46 #[.slice a n cap, .int .i64 at', .slice a' n' cap'] w fun e w' => RetPts w.heap.size e w' (laidS l at' m) ∧ Below w.heap.size w w' := by
  cases hok : partsOkB l
  · have hf : laidS l at' m = none := by simp [laidS, hok]
    rw [hf]
    clear hf
    go_enter Try.func46, Try.ntmps46
    go_wp2_with fail
    refine (spec_PartsOk a n cap l _ h hn).mono ?_
    rintro e w1 ⟨rfl, hB1⟩
    rw [hok]
    go_wp2
    go_returns
    exact ⟨rfl, hB1⟩
  · cases hin : (decide (0 ≤ at') && decide (at' ≤ 100))
    · have hf : laidS l at' m = none := by
        unfold laidS
        rw [if_neg]
        intro hc
        simp [hc.1.2.1, hc.1.2.2.1] at hin
      rw [hf]
      clear hf
      go_enter Try.func46, Try.ntmps46
      go_wp2_with fail
      refine (spec_PartsOk a n cap l _ h hn).mono ?_
      rintro e w1 ⟨rfl, hB1⟩
      rw [hok]
      go_wp2_with fail
      refine (spec_l1In _ _ _ _).mono ?_
      rintro e w2 ⟨rfl, rfl⟩
      rw [hin]
      go_wp2
      go_returns
      exact ⟨rfl, hB1⟩
    · have hin2 := hin
      simp at hin2
      obtain ⟨h0, h1⟩ := hin2
      cases hok' : partsOkB m
      · have hf : laidS l at' m = none := by simp [laidS, hok']
        rw [hf]
        clear hf
        go_enter Try.func46, Try.ntmps46
        go_wp2_with fail
        refine (spec_PartsOk a n cap l _ h hn).mono ?_
        rintro e w1 ⟨rfl, hB1⟩
        rw [hok]
        go_wp2_with fail
        refine (spec_l1In _ _ _ _).mono ?_
        rintro e w2 ⟨rfl, rfl⟩
        rw [hin]
        go_wp2_with fail
        refine (spec_PartsOk a' n' cap' m _ (h'.below hB1) hn').mono ?_
        rintro e w3 ⟨rfl, hB3⟩
        rw [hok']
        replace hB3 := chain hB1 hB3
        go_wp2
        go_returns
        exact ⟨rfl, hB3⟩
      · cases hok3 : partsOkB (laidJ l at' m)
        all_goals
          go_enter Try.func46, Try.ntmps46
          go_wp2_with fail
          refine (spec_PartsOk a n cap l _ h hn).mono ?_
          rintro e w1 ⟨rfl, hB1⟩
          rw [hok]
          go_wp2_with fail
          refine (spec_l1In _ _ _ _).mono ?_
          rintro e w2 ⟨rfl, rfl⟩
          rw [hin]
          go_wp2_with fail
          refine (spec_PartsOk a' n' cap' m _ (h'.below hB1) hn').mono ?_
          rintro e w3 ⟨rfl, hB3⟩
          rw [hok']
          replace hB3 := chain hB1 hB3
          go_wp2_with fail
          refine (spec_l2Laid a n cap l at' a' n' cap' m _ (h.below hB3) (h'.below hB3) hok hok' h0 h1).mono ?_
          rintro e w4 ⟨⟨a4, n4, cap4, rfl, hn4, R4⟩, hB4'⟩
          have hB4 := chain hB3 hB4'
          go_wp2_with fail
          refine (spec_PartsOk a4 n4 cap4 _ _ R4.sl (by omega)).mono ?_
          rintro e w5 ⟨rfl, hB5'⟩
          rw [hok3]
          have R5 := (R4.below hB5').mono hB3.size
          have hB5 := chain hB4 hB5'
          go_wp2
          go_returns
        · have hf : laidS l at' m = none := by simp [laidS, hok3]
          rw [hf]
          exact ⟨rfl, hB5⟩
        · have hf : laidS l at' m = some (laidJ l at' m) := by simp [laidS, hok, hok', hok3, h0, h1]
          rw [hf]
          exact ⟨⟨a4, n4, cap4, rfl, R5⟩, hB5⟩
end Go.Proofs.Ytbjejnkeekndbaa
namespace Go.Proofs.Ytbjejnkeekndbaa
open Go.RowKit

theorem slp_none {fr to : Int} (l : List Pt) : ∀ st, to ≤ st → (∀ p ∈ l, 1 ≤ p.n) → slp fr to st l = [] := by
  induction l with
  | nil => intro st _ _; rfl
  | cons p r ih =>
    intro st h hp
    have := hp p (by simp)
    rw [slp_no (by omega)]
    exact ih _ (by omega) (fun q hq => hp q (by simp [hq]))

theorem cut_ok {p : Pt} {x y : Int} (h : partOkB p = true) (h0 : 0 ≤ x) (h1 : x < y) (h2 : y ≤ p.n) : partOkB (cutP p x y) = true := by
  unfold partOkB at *
  unfold cutP
  by_cases ha : p.a = 0
  · simp [ha]; omega
  · have ha' : (p.a == 0) = false := by simp [ha]
    simp only [ha', Bool.false_eq_true, if_false, Bool.and_eq_true, decide_eq_true_eq] at h ⊢
    omega

/-- The piece x' that comes of a part x, up to its end. -/
def Tail (x x' : Pt) : Prop := x'.a = x.a ∧ (x.a = 0 ∨ x'.f + x'.n = x.f + x.n)

theorem cut_next {x x' p : Pt} {y : Int} (ht : Tail x x') (hg : goesOnB x p = false) : goesOnB x' (cutP p 0 y) = false := by
  obtain ⟨h1, h2⟩ := ht
  unfold goesOnB at *
  unfold cutP
  by_cases ha : p.a = 0
  · simp [ha] at hg ⊢
    rw [h1]; exact hg
  · have ha' : (p.a == 0) = false := by simp [ha]
    simp only [ha', Bool.false_eq_true, if_false, Bool.false_or, Int.add_zero] at hg ⊢
    rw [h1]
    rcases h2 with h2 | h2
    · have : (p.a == x.a) = false := by rw [h2]; exact ha'
      simp [this]
    · rw [h2]; exact hg

theorem slp_ok (fr to : Int) (l : List Pt) : ∀ (st B : Int) (q q' : Option Pt), 0 ≤ B → pgo q B l = true → (∀ x', q' = some x' → fr ≤ st ∧ ∃ x, q = some x ∧ Tail x x') → pgo q' B (slp fr to st l) = true := by
  induction l with
  | nil => intro st B q q' _ _ _; cases q' <;> rfl
  | cons p r ih =>
    intro st B q q' hB h hq
    obtain ⟨h1, h2, h3, h4⟩ := pgo_split.1 h
    have hp1 := partOkB_pos h1
    have hall := pgo_all r (some p) (B - p.n) (by omega) h4
    have hrpos : ∀ y ∈ r, 1 ≤ y.n := fun y hy => partOkB_pos (hall.1 y hy)
    by_cases hx : max (fr - st) 0 < min (to - st) p.n
    · rw [slp_yes rfl rfl hx]
      have hb := cutP_bd hx
      have hrest : pgo (some (cutP p (max (fr - st) 0) (min (to - st) p.n))) (B - p.n) (slp fr to (st + p.n) r) = true := by
        by_cases hy : p.n ≤ to - st
        · refine ih (st + p.n) (B - p.n) (some p) _ (by omega) h4 ?_
          intro x' hx'
          obtain rfl := Option.some.inj hx'
          refine ⟨by omega, p, rfl, ?_⟩
          unfold Tail cutP
          by_cases ha : p.a = 0
          · simp [ha]
          · have ha' : (p.a == 0) = false := by simp [ha]
            simp only [ha', Bool.false_eq_true, if_false]
            exact ⟨trivial, .inr (by omega)⟩
        · rw [slp_none r (st + p.n) (by omega) hrpos]; rfl
      have hsum := slp_bd fr to r (st + p.n) hrpos
      refine pgo_split.2 ⟨cut_ok h1 (by omega) hx (by omega), by omega, ?_, pgo_cap _ _ _ _ hrest (by omega) (by omega)⟩
      intro x' hx'
      obtain ⟨hfr, x, hqx, ht⟩ := hq x' hx'
      have e : max (fr - st) 0 = 0 := by omega
      rw [e]
      exact cut_next ht (h3 x hqx)
    · rw [slp_no hx]
      cases q' with
      | some x' =>
        obtain ⟨hfr, _⟩ := hq x' rfl
        rw [slp_none r (st + p.n) (by omega) hrpos]; rfl
      | none =>
        have := ih (st + p.n) (B - p.n) (some p) none (by omega) h4 (fun x' hx' => (by cases hx'))
        have hsum := slp_bd fr to r (st + p.n) hrpos
        exact pgo_cap _ _ _ _ this (by omega) hB

theorem slice_pgo {l : List Pt} (h : partsOkB l = true) (fr to : Int) : pgo none 100 (slp fr to 0 l) = true :=
  slp_ok fr to l 0 100 none none (by omega) (partsOkB_pgo h) (fun x' hx' => (by cases hx'))

theorem joinL_append (x a b : List Pt) : joinL (joinL x a) b = joinL x (a ++ b) := by simp [joinL, List.foldl_append]

theorem laid_join {l m : List Pt} {at' : Int} (hl : partsOkB l = true) : laidJ l at' m = joinL [] (laidL l at' m) := by
  have e : joinL [] (slp (min (sumN l) (at' + sumN m)) (sumN l) 0 l) = slp (min (at' + sumN m) (sumN l)) (sumN l) 0 l := by
    rw [joinL_self (slice_pgo hl _ _), Int.min_comm]
  unfold laidJ laidL
  rw [e]
  split
  · have e2 : addL (joinL [] (slp 0 (min at' (sumN l)) 0 l)) ⟨0, 0, at' - sumN l⟩ = joinL [] (slp 0 (min at' (sumN l)) 0 l ++ [⟨0, 0, at' - sumN l⟩]) := by
      rw [← joinL_append]; rfl
    rw [e2, joinL_append, joinL_append, ← List.append_assoc]
  · rw [joinL_append, joinL_append, List.append_nil, ← List.append_assoc]

theorem laidL_ok {l m : List Pt} {at' : Int} (hl : partsOkB l = true) (hm : partsOkB m = true) (h1 : at' ≤ 100) : (∀ p ∈ laidL l at' m, partOkB p = true) ∧ sumN (laidL l at' m) ≤ 400 := by
  have hA := pgo_all _ none 100 (by omega) (slice_pgo hl 0 (min at' (sumN l)))
  have hC := pgo_all _ none 100 (by omega) (slice_pgo hl (min (at' + sumN m) (sumN l)) (sumN l))
  have sm := partsOkB_all hm
  have nl := sumN_nonneg l (partsOkB_all hl).2.1
  unfold laidL
  constructor
  · intro p hp
    simp only [List.mem_append] at hp
    rcases hp with ((hp | hp) | hp) | hp
    · exact hA.1 p hp
    · split at hp
      · simp at hp
        subst hp
        simp [partOkB]; omega
      · simp at hp
    · exact sm.2.1 p hp
    · exact hC.1 p hp
  · rw [sumN_append, sumN_append, sumN_append]
    split
    · simp only [sumN]; omega
    · simp only [sumN]; omega

theorem laid_eq (l : List Pt) (at' : Int) (m : List Pt) : laidO l at' m = laidS l at' m := by
  unfold laidO laidS
  by_cases h : partsOkB l = true ∧ 0 ≤ at' ∧ at' ≤ 100 ∧ partsOkB m = true
  · obtain ⟨ok1, ok2⟩ := laidL_ok h.1 h.2.2.2 h.2.2.1
    have hnn := sumN_nonneg _ ok1
    obtain ⟨b1, b2⟩ := joinL_ok (laidL l at' m) [] 400 rfl ok1 (by simp only [sumN]; omega) (by omega) (by omega)
    have hp : partsOkB (joinL [] (laidL l at' m)) = decide (sumN (laidL l at' m) ≤ 100 ∧ (joinL [] (laidL l at' m)).length ≤ 16) := by
      rw [Bool.eq_iff_iff]
      simp only [partsOkB, Bool.and_eq_true, decide_eq_true_eq]
      simp only [sumN, Int.zero_add] at b2
      constructor
      · rintro ⟨k1, k2⟩
        have := pgo_all _ none 100 (by omega) k2
        exact ⟨by omega, k1⟩
      · rintro ⟨k1, k2⟩
        exact ⟨k2, pgo_cap _ none 400 100 b1 (by omega) (by omega)⟩
    rw [if_pos h, outc_row (fun p hp => partOkB_pos (ok1 p hp)), laid_join h.1]
    simp only [h, and_self, true_and, hp, decide_eq_true_eq]
  · rw [if_neg h, if_neg (fun hc => h hc.1)]
end Go.Proofs.Ytbjejnkeekndbaa
namespace Go.Proofs.Ytbjejnkeekndbaa
open Go.RowKit

theorem ba_ext {x y : ByteArray} (h : x.data.toList = y.data.toList) : x = y := by
  cases x; cases y; congr 1; exact Array.toList_inj.1 h
theorem ba_app (x y : ByteArray) : (x ++ y).data.toList = x.data.toList ++ y.data.toList := by simp
theorem ba_extract (x : ByteArray) (i j : Nat) : (x.extract i j).data.toList = (x.data.toList.drop i).take (j - i) := by
  simp [ByteArray.data_extract]
theorem ba_nil (x : ByteArray) : (⟨#[]⟩ : ByteArray) ++ x = x := ba_ext (by rw [ba_app]; rfl)
theorem ba_assoc (x y z : ByteArray) : x ++ y ++ z = x ++ (y ++ z) := ba_ext (by simp only [ba_app, List.append_assoc])
theorem zs_app (i j : Nat) : zs i ++ zs j = zs (i + j) := ba_ext (by rw [ba_app]; simp [zs, List.replicate_append_replicate])
theorem extract_app (x : ByteArray) {i j k : Nat} (h1 : i ≤ j) (h2 : j ≤ k) : x.extract i j ++ x.extract j k = x.extract i k := by
  apply ba_ext
  rw [ba_app, ba_extract, ba_extract, ba_extract]
  have e1 : k - i = (j - i) + (k - j) := by omega
  have e2 : x.data.toList.drop j = (x.data.toList.drop i).drop (j - i) := by rw [List.drop_drop]; congr 1; omega
  rw [e1, e2, List.take_add]

/-- The content of parts, in one. -/
def catO (e : List Ex) (l : List Pt) : Option ByteArray := cgo e ⟨#[]⟩ l

theorem cgo_acc (e : List Ex) : ∀ (l : List Pt) (acc : ByteArray), cgo e acc l = (catO e l).map (acc ++ ·)
  | [], acc => by simp [cgo, catO]; exact ba_ext (by simp)
  | p :: r, acc => by
    unfold catO cgo
    cases pieceO e p with
    | none => rfl
    | some d =>
      simp only
      rw [cgo_acc e r (acc ++ d), cgo_acc e r (⟨#[]⟩ ++ d), ba_nil]
      cases catO e r with
      | none => rfl
      | some s => simp [ba_assoc]
theorem catO_cons (e : List Ex) (p : Pt) (r : List Pt) : catO e (p :: r) = (pieceO e p).bind (fun d => (catO e r).map (d ++ ·)) := by
  conv => lhs; unfold catO cgo
  cases pieceO e p with
  | none => rfl
  | some d => simp only [ba_nil]; rw [cgo_acc]; rfl
theorem catO_append (e : List Ex) : ∀ (l m : List Pt), catO e (l ++ m) = (catO e l).bind (fun x => (catO e m).map (x ++ ·))
  | [], m => by
    show catO e m = _
    cases h : catO e m with
    | none => rfl
    | some s => simp [catO, cgo, ba_nil]
  | p :: r, m => by
    rw [List.cons_append, catO_cons, catO_cons, catO_append e r m]
    cases pieceO e p with
    | none => rfl
    | some d =>
      cases catO e r with
      | none => rfl
      | some x =>
        cases catO e m with
        | none => rfl
        | some y => simp [ba_assoc]
theorem catO_one (e : List Ex) (p : Pt) : catO e [p] = pieceO e p := by
  rw [catO_cons]
  cases pieceO e p with
  | none => rfl
  | some d => simp [catO, cgo]; exact ba_ext (by simp)

theorem piece_merge {e : List Ex} {q p : Pt} (hq : partOkB q = true) (hp : partOkB p = true) (hg : goesOnB q p = true) : catO e [⟨q.a, q.f, q.n + p.n⟩] = catO e [q, p] := by
  have hq1 := partOkB_pos hq
  have hp1 := partOkB_pos hp
  simp only [goesOnB, Bool.and_eq_true, Bool.or_eq_true, beq_iff_eq] at hg
  obtain ⟨ha, hg⟩ := hg
  rw [show [q, p] = [q] ++ [p] from rfl, catO_append, catO_one, catO_one, catO_one]
  by_cases h0 : q.a = 0
  · have h0' : (q.a == 0) = true := by simp [h0]
    have h0'' : (p.a == 0) = true := by simp [ha, h0]
    simp [pieceO, h0', h0'', zs_app]
    congr 1; omega
  · have h0' : (q.a == 0) = false := by simp [h0]
    have h0'' : (p.a == 0) = false := by simp [ha, h0]
    simp only [partOkB, h0', h0'', Bool.false_eq_true, if_false, Bool.and_eq_true, decide_eq_true_eq] at hq hp
    have hf : p.f = q.f + q.n := by
      rcases hg with hg | hg
      · omega
      · rw [hg]; unfold wrap64; omega
    simp only [pieceO, h0', Bool.false_eq_true, if_false, ha]
    generalize dataAtB q.a e = D
    by_cases hs : (D.size : Int) < q.f + (q.n + p.n)
    · rw [if_pos hs]
      by_cases hs1 : (D.size : Int) < q.f + q.n
      · rw [if_pos hs1]; rfl
      · rw [if_neg hs1, if_pos (by omega)]; rfl
    · rw [if_neg hs, if_neg (by omega), if_neg (by omega)]
      simp only [Option.bind_some, Option.map_some]
      congr 1
      rw [show p.f.toNat = (q.f + q.n).toNat by rw [hf], show (p.f + p.n).toNat = (q.f + (q.n + p.n)).toNat by rw [hf]; congr 1; omega, extract_app D (by omega) (by omega)]

theorem catO_addL {e : List Ex} {l : List Pt} {p : Pt} (hl : ∀ q ∈ l, partOkB q = true ∧ q.n ≤ 1000) (hp : partOkB p = true) (hp2 : p.n ≤ 1000) : catO e (addL l p) = catO e (l ++ [p]) := by
  unfold addL
  split
  · rename_i h
    have : l = [] := by simpa using h
    subst this; rfl
  · rename_i q hq
    have hqm := hl q (List.mem_of_getLast? hq)
    split
    · rename_i hg
      have hq1 := partOkB_pos hqm.1
      have hp1 := partOkB_pos hp
      have e1 : l = l.dropLast ++ [q] := by
        have hne : l ≠ [] := fun h => by rw [h] at hq; simp at hq
        rw [List.getLast?_eq_some_getLast hne] at hq
        rw [← Option.some.inj hq, List.dropLast_concat_getLast hne]
      rw [show wrap64 (q.n + p.n) = q.n + p.n by unfold wrap64; omega]
      conv => rhs; rw [e1, List.append_assoc]
      rw [catO_append, catO_append, piece_merge hqm.1 hp hg]; rfl
    · rfl

theorem mem_le_sum : ∀ {l : List Pt}, (∀ q ∈ l, partOkB q = true) → ∀ q ∈ l, q.n ≤ sumN l
  | [], _, q, hq => by simp at hq
  | p :: r, h, q, hq => by
    have hr := sumN_nonneg r (fun x hx => h x (by simp [hx]))
    have hp := partOkB_pos (h p (by simp))
    simp only [sumN]
    rcases List.mem_cons.1 hq with rfl | hq
    · omega
    · have := mem_le_sum (fun x hx => h x (by simp [hx])) q hq; omega

theorem catO_joinL (e : List Ex) : ∀ (m l : List Pt) (B : Int), pgo none B l = true → (∀ p ∈ m, partOkB p = true) → sumN l + sumN m ≤ B → B ≤ 1000 → 0 ≤ B → catO e (joinL l m) = catO e (l ++ m)
  | [], l, B, _, _, _, _, _ => by simp [joinL]
  | p :: r, l, B, h, hm, hs, hB, h0 => by
    obtain ⟨h1, h2⟩ := pgo_all l none B h0 h
    have hp := hm p (by simp)
    have hp1 := partOkB_pos hp
    have hr := sumN_nonneg r (fun x hx => hm x (by simp [hx]))
    have hl0 := sumN_nonneg l h1
    simp only [sumN] at hs
    obtain ⟨a1, a2⟩ := addL_ok h hp (by omega) hB h0
    show catO e (joinL (addL l p) r) = _
    rw [catO_joinL e r (addL l p) B a1 (fun x hx => hm x (by simp [hx])) (by omega) hB h0, catO_append, catO_addL (fun q hq => ⟨h1 q hq, by have := mem_le_sum h1 q hq; omega⟩) hp (by omega), ← catO_append]
    simp

/-- The content of right parts over right extents. -/
theorem content_cat {l : List Pt} {e : List Ex} (h : partsOkB l = true) (h' : spaceOkB 400 e = true) : contentO l e = catO e l := by simp [contentO, h, h', catO]
theorem content_right {l : List Pt} {e : List Ex} {s : ByteArray} (h : contentO l e = some s) : partsOkB l = true ∧ spaceOkB 400 e = true := by
  unfold contentO at h
  split at h
  · assumption
  · cases h

/-- Parts joined have the one content behind the other. -/
theorem content_joined {a b j : List Pt} {e : List Ex} {x y : ByteArray} (hj : joinedO a b = some j) (hx : contentO a e = some x) (hy : contentO b e = some y) : contentO j e = some (x ++ y) := by
  obtain ⟨ha, he⟩ := content_right hx
  obtain ⟨hb, _⟩ := content_right hy
  rw [joined_eq] at hj
  split at hj
  · rename_i h
    obtain rfl := Option.some.inj hj
    obtain ⟨_, p1, p2⟩ := partsOkB_all ha
    obtain ⟨_, q1, q2⟩ := partsOkB_all hb
    rw [content_cat h.2.2 he]
    rw [content_cat ha he] at hx
    rw [content_cat hb he] at hy
    rw [catO_joinL e b a 200 (pgo_cap a none 100 200 (partsOkB_pgo ha) (by omega) (by omega)) q1 (by omega) (by omega) (by omega), catO_append, hx, hy]; rfl
  · cases hj

/-- In whatever order three are joined they are the same. -/
theorem joinL_one {a : List Pt} {q p : Pt} (hq : partOkB q = true) (hq2 : q.n ≤ 1000) (hp : partOkB p = true) (hp2 : p.n ≤ 1000) (ha : ∀ x ∈ a, partOkB x = true ∧ x.n ≤ 1000) (hg : goesOnB q p = true) : joinL a [⟨q.a, q.f, q.n + p.n⟩] = joinL a [q, p] := by
  have hq1 := partOkB_pos hq
  have hp1 := partOkB_pos hp
  show addL a ⟨q.a, q.f, q.n + p.n⟩ = addL (addL a q) p
  have hgp := hg
  simp only [goesOnB, Bool.and_eq_true, Bool.or_eq_true, beq_iff_eq] at hg
  have hqf : q.a = 0 ∨ (0 ≤ q.f ∧ q.f < 20) := by
    by_cases h0 : q.a = 0
    · exact .inl h0
    · have h0' : (q.a == 0) = false := by simp [h0]
      simp only [partOkB, h0', Bool.false_eq_true, if_false, Bool.and_eq_true, decide_eq_true_eq] at hq
      exact .inr (by omega)
  have w1 : wrap64 (q.n + p.n) = q.n + p.n := by unfold wrap64; omega
  cases hl : a.getLast? with
  | none =>
    have : a = [] := by simpa using hl
    subst this
    have e1 : addL [] q = [q] := rfl
    rw [e1]
    simp [addL, hgp, w1]
  | some x =>
    have hx := ha x (List.mem_of_getLast? hl)
    have hx1 := partOkB_pos hx.1
    have e0 : addL a q = if goesOnB x q then a.dropLast ++ [⟨x.a, x.f, wrap64 (x.n + q.n)⟩] else a ++ [q] := by simp [addL, hl]
    have e2 : goesOnB x ⟨q.a, q.f, q.n + p.n⟩ = goesOnB x q := rfl
    have w2 : wrap64 (x.n + q.n) = x.n + q.n := by unfold wrap64; omega
    have w3 : wrap64 (x.n + (q.n + p.n)) = x.n + (q.n + p.n) := by unfold wrap64; omega
    have w4 : wrap64 (x.n + q.n + p.n) = x.n + q.n + p.n := by unfold wrap64; omega
    rw [e0]
    cases hxq : goesOnB x q
    · have e3 : addL a ⟨q.a, q.f, q.n + p.n⟩ = a ++ [⟨q.a, q.f, q.n + p.n⟩] := by simp [addL, hl, e2, hxq]
      rw [e3]
      simp [addL, hgp, w1]
    · have e3 : addL a ⟨q.a, q.f, q.n + p.n⟩ = a.dropLast ++ [⟨x.a, x.f, x.n + (q.n + p.n)⟩] := by simp [addL, hl, e2, hxq, w3]
      have hxq' := hxq
      simp only [goesOnB, Bool.and_eq_true, Bool.or_eq_true, beq_iff_eq] at hxq'
      have hxf : x.a = 0 ∨ (0 ≤ x.f ∧ x.f < 20) := by
        by_cases h0 : x.a = 0
        · exact .inl h0
        · have h0' : (x.a == 0) = false := by simp [h0]
          have := hx.1
          simp only [partOkB, h0', Bool.false_eq_true, if_false, Bool.and_eq_true, decide_eq_true_eq] at this
          exact .inr (by omega)
      have e4 : goesOnB ⟨x.a, x.f, x.n + q.n⟩ p = true := by
        simp only [goesOnB, Bool.and_eq_true, Bool.or_eq_true, beq_iff_eq]
        refine ⟨by omega, ?_⟩
        by_cases h0 : p.a = 0
        · exact .inl h0
        · right
          have g1 : p.f = wrap64 (q.f + q.n) := hg.2.resolve_left h0
          have g2 : q.f = wrap64 (x.f + x.n) := hxq'.2.resolve_left (by omega)
          rw [g1, g2]
          unfold wrap64
          omega
      rw [e3]
      simp [addL, e4, w2, w4]
      omega

theorem joinL_addL {a L : List Pt} {p : Pt} {B : Int} (ha : pgo none B a = true) (hL : ∀ q ∈ L, partOkB q = true) (hp : partOkB p = true) (hs : sumN a + sumN L + p.n ≤ B) (hB : B ≤ 1000) (h0 : 0 ≤ B) : joinL a (addL L p) = joinL a (L ++ [p]) := by
  have hp1 := partOkB_pos hp
  have ha0 := sumN_nonneg a (pgo_all a none B h0 ha).1
  have hL0 := sumN_nonneg L hL
  unfold addL
  split
  · rename_i h
    have : L = [] := by simpa using h
    subst this; rfl
  · rename_i q hq
    have hqm := hL q (List.mem_of_getLast? hq)
    have hqs := mem_le_sum hL q (List.mem_of_getLast? hq)
    have hq1 := partOkB_pos hqm
    split
    · rename_i hg
      have e1 : L = L.dropLast ++ [q] := by
        have hne : L ≠ [] := fun h => by rw [h] at hq; simp at hq
        rw [List.getLast?_eq_some_getLast hne] at hq
        rw [← Option.some.inj hq, List.dropLast_concat_getLast hne]
      have hdl : ∀ x ∈ L.dropLast, partOkB x = true := fun x hx => hL x (List.dropLast_subset L hx)
      have hsum : sumN L = sumN L.dropLast + q.n := by conv => lhs; rw [e1, sumN_append]; simp [sumN]
      obtain ⟨k1, k2⟩ := joinL_ok L.dropLast a B ha hdl (by omega) hB h0
      obtain ⟨k3, k4⟩ := pgo_all _ none B h0 k1
      rw [show wrap64 (q.n + p.n) = q.n + p.n by unfold wrap64; omega, ← joinL_append]
      conv => rhs; rw [e1, List.append_assoc, ← joinL_append]
      exact joinL_one hqm (by omega) hp (by omega) (fun x hx => ⟨k3 x hx, by have := mem_le_sum k3 x hx; omega⟩) hg
    · rfl

theorem joinL_norm {a ps : List Pt} {B : Int} (ha : pgo none B a = true) (hp : ∀ q ∈ ps, partOkB q = true) (hs : sumN a + sumN ps ≤ B) (hB : B ≤ 1000) (h0 : 0 ≤ B) : ∀ k, k ≤ ps.length → joinL a (joinL [] (ps.take k)) = joinL a (ps.take k)
  | 0, _ => rfl
  | k + 1, hk => by
    have hx : ps[k]? = some (ps[k]'(by omega)) := by simp [show k < ps.length by omega]
    have ih := joinL_norm ha hp hs hB h0 k (by omega)
    have hall : ∀ q ∈ ps.take k, partOkB q = true := fun q hq => hp q (List.mem_of_mem_take hq)
    have hst := sumN_take hx
    have hbd := sumN_take_bd hp (k + 1)
    have hpk := hp _ (List.mem_of_getElem? hx)
    have ha0 := sumN_nonneg a (pgo_all a none B h0 ha).1
    have hpk1 := partOkB_pos hpk
    have hb0 := (sumN_take_bd hp k).1
    obtain ⟨k1, k2⟩ := joinL_ok (ps.take k) [] B rfl hall (by simp [sumN]; omega) hB h0
    obtain ⟨k3, k4⟩ := pgo_all _ none B h0 k1
    simp only [sumN] at k2
    rw [joinL_at hx, joinL_at hx, joinL_addL ha k3 hpk (by omega) hB h0, ← joinL_append, ih]
    rfl

theorem joinL_assoc {a b c : List Pt} (ha : partsOkB a = true) (hb : partsOkB b = true) (hc : partsOkB c = true) : joinL a (joinL b c) = joinL (joinL a b) c := by
  obtain ⟨_, a1, a2⟩ := partsOkB_all ha
  obtain ⟨_, b1, b2⟩ := partsOkB_all hb
  obtain ⟨_, c1, c2⟩ := partsOkB_all hc
  have e1 : joinL b c = joinL [] (b ++ c) := by
    conv => lhs; rw [← joinL_self (partsOkB_pgo hb)]
    rw [joinL_append]
  have hbc : ∀ q ∈ b ++ c, partOkB q = true := fun q hq => by
    rcases List.mem_append.1 hq with h | h
    · exact b1 q h
    · exact c1 q h
  have := joinL_norm (a := a) (ps := b ++ c) (B := 400) (pgo_cap a none 100 400 (partsOkB_pgo ha) (by omega) (by omega)) hbc (by rw [sumN_append]; omega) (by omega) (by omega) (b ++ c).length (Nat.le_refl _)
  rw [List.take_length] at this
  rw [e1, this, joinL_append]

/-- Joined by twos, from the left and from the right. -/
theorem joined_assoc {a b c j k : List Pt} (hj : joinedO a b = some j) (hk : joinedO b c = some k) : joinedO a k = joinedO j c := by
  rw [joined_eq] at hj hk
  split at hj
  · rename_i h1
    obtain rfl := Option.some.inj hj
    split at hk
    · rename_i h2
      obtain rfl := Option.some.inj hk
      rw [joined_eq, joined_eq, joinL_assoc h1.1 h1.2.1 h2.2.1]
      simp [h1, h2]
    · cases hk
  · cases hj
end Go.Proofs.Ytbjejnkeekndbaa
namespace Go.Proofs.Ytbjejnkeekndbaa
open Go.RowKit Go.BigFrame

theorem neqP (p : Pt) (w : World) : (binOp .neq 119 (.agg #[.int .i64 p.a, .int .i64 p.f, .int .i64 p.n]) (.agg #[.int .i64 p.a, .int .i64 p.f, .int .i64 p.n])).run Try.prog w = .ok (.bool false) w := by
  have u2 := Try.underlying2
  have a2 := Try.isAgg2
  have z2 := Try.sizeOf2
  have hS : Try.prog.underlying 119 = some (.struct (Try.prog.fieldsOf 119)) := by kernel_rfl
  have hp : Try.prog.stoodInHeld 119 = false := by kernel_rfl
  rw [run_neq_struct, show (10000 : Nat) = 9999 + 1 from rfl, run_equalIn_agg w 9999 119 _ _ hS hp]
  simp only [Program.fieldsOf, Try.underlying119]
  go_simp

set_option maxHeartbeats 1000000 in
theorem laws_sameParts (a : Option Addr) (n cap : Nat) (l : List Pt) (a' : Option Addr) (n' cap' : Nat) (w : World) (h : PtsAt w a n l) (h' : PtsAt w a' n' l) (hn : n ≤ 4194304) :
    Calls Try.prog 35 #[.slice a n cap, .slice a' n' cap'] w fun e w' => e = .returned (.bool true) ∧ Below w.heap.size w w' := by
  obtain rfl : n = n' := by rw [← h.len, ← h'.len]
  have hbn : ((n : Int) != (n : Int)) = false := by simp
  go_enter Try.func35, Try.ntmps35
  go_wp2_with fail
  go_loopw [5] (fun ix wr => ∃ (k : Nat), k ≤ n ∧ ix = .int .i64 k ∧ Below w.heap.size w wr) (fun ix _ => n - (intOf ix).toNat)
  case atStart => exact ⟨0, Nat.zero_le _, rfl, Below.refl _ _⟩
  case round =>
    obtain ⟨k, hk, rfl, hB⟩ := hrel
    by_cases hlt : k < n
    · obtain ⟨b, o, p, rfl, hp, c0, c1, c2⟩ := pts_at (h.below hB) hlt
      obtain ⟨b', o', q, rfl, hq, d0, d1, d2⟩ := pts_at (h'.below hB) hlt
      rw [hp] at hq
      obtain rfl := Option.some.inj hq
      have hk1 : (k : Int) < n := by omega
      have hk2 : (0 : Int) ≤ k := by omega
      have hne := neqP p
      clear hp hq
      go_wp2_with fail
      go_quiet (fail)
      have hB2 := below_drewN hB nq
      go_wp2
      go_roundw
      case rel => exact ⟨k + 1, by omega, by go_num, hB2⟩
      case measure => simp [intOf]; omega
    · obtain rfl : k = n := by omega
      go_wp2
      go_returns
      exact ⟨rfl, hB⟩

theorem spec_DrawLenOf (a : Option Addr) (n cap : Nat) (w : World) (h : CodeAt w a n) (hn : n ≤ 1048576) :
    Calls Try.prog 42 #[.slice a n cap] w fun e w' => (∃ a1 n1 cap1 l1, e = .returned (.slice a1 n1 cap1) ∧ n1 ≤ 8 ∧ ResAt Pt.cs 3 119 w' w.heap.size a1 n1 cap1 l1) ∧ Below w.heap.size w w' := by
  go_enter Try.func42, Try.ntmps42
  go_wp2_with fail
  refine (spec_l1Open a n cap _ h hn).mono ?_
  rintro e w1 ⟨rfl, hR1, hB1⟩
  go_wp2_with fail
  refine (spec_parts w.heap.size 8 _ hR1 (by omega)).mono ?_
  rintro e w2 ⟨⟨a1, n1, cap1, l1, rfl, hn1, _, R1⟩, _, hg2⟩
  have hB2 := below_grown hB1 hg2 (Nat.le_refl _)
  go_wp2
  go_returns
  exact ⟨⟨a1, n1, cap1, l1, rfl, hn1, R1.mono hB1.size⟩, hB2⟩

theorem sliceS_len {l s : List Pt} {fr to : Int} (h : sliceS l fr to = some s) : s.length ≤ 16 := by
  unfold sliceS at h
  split at h
  · rename_i hh
    obtain rfl := Option.some.inj h
    rw [joinL_self (slice_pgo hh.1 fr to)]
    have := (slp_bd fr to l 0 (fun p hp => partOkB_pos ((partsOkB_all hh.1).2.1 p hp))).2.2.1
    have := (partsOkB_all hh.1).1
    omega
  · cases h
theorem retp_out {B : Nat} {e : Ending} {w' : World} {oo : Option (List Pt)} (h : RetPts B e w' oo) : ∃ a n cap, e = .returned (.tuple #[.slice a n cap, .bool oo.isSome]) ∧ ResAt Pt.cs 3 119 w' B a n cap (oo.getD []) := ret_out h
theorem sliceS_getD (l : List Pt) (fr to : Int) : ((sliceS l fr to).getD []).length ≤ 16 := by
  cases h : sliceS l fr to with
  | none => simp
  | some s => exact sliceS_len h

set_option maxHeartbeats 2000000 in
set_option maxRecDepth 100000 in
theorem spec_DrawJoined (a : Option Addr) (n cap : Nat) (w : World) (h : CodeAt w a n) (hn : n ≤ 1048576) :
    Calls Try.prog 41 #[.slice a n cap] w fun e w' => (∃ a1 n1 cap1 l1 a2 n2 cap2 l2, e = .returned (.tuple #[.slice a1 n1 cap1, .slice a2 n2 cap2]) ∧ n1 ≤ 16 ∧ ResAt Pt.cs 3 119 w' w.heap.size a1 n1 cap1 l1 ∧ n2 ≤ 16 ∧ ResAt Pt.cs 3 119 w' w.heap.size a2 n2 cap2 l2) ∧ Below w.heap.size w w' := by
  go_enter Try.func41, Try.ntmps41
  go_wp2_with fail
  refine (spec_l1Open a n cap _ h hn).mono ?_
  rintro e w1 ⟨rfl, hR1, hB1⟩
  have hlt := hR1.lt
  go_wp2_with fail
  refine (spec_parts w.heap.size 6 _ hR1 (by omega)).mono ?_
  rintro e w2 ⟨⟨a1, n1, cap1, l1, rfl, hn1, _, R1⟩, hR2, hg2⟩
  have hB2 := below_grown hB1 hg2 (Nat.le_refl _)
  have hrow : ∀ ad, a1 = some ad → ad.block ≠ w.heap.size := fun ad had => by have := (R1.block ad had).1; omega
  go_wp2_with fail
  refine (spec_once w.heap.size 4 _ hR2 (by omega) (by omega)).mono ?_
  rintro e w3 ⟨⟨v, rfl⟩, hR3, hg3⟩
  have hB3 := below_grown hB2 hg3 (Nat.le_refl _)
  have R3 := R1.grown hg3 hrow
  replace R3 := R3.mono hB1.size
  clear R1 hg3 hg2
  have hend : ∀ W : World, Below w3.heap.size w3 W → Calls Try.prog 92 #[.pointer (some ⟨w.heap.size, 0, none⟩), .int .i64 ((6 : Nat) : Int)] W fun e w' => (∃ a n cap l, e = .returned (.slice a n cap) ∧ n ≤ 6 ∧ PtsDrawn l ∧ ResAt Pt.cs 3 119 w' W.heap.size a n cap l) ∧ Rd w' w.heap.size ∧ W.grownBy w' (some w.heap.size) := fun W hW => spec_parts w.heap.size 6 W (hR3.below hW) (by omega)
  cases v
  · go_wp2_with fail
    refine (hend _ (Below.refl _ _)).mono ?_
    rintro e w4 ⟨⟨a2, n2, cap2, l2, rfl, hn2, _, R2⟩, _, hg4⟩
    have hB4 := below_grown hB3 hg4 (Nat.le_refl _)
    have R4 := R3.grown hg4 hrow
    go_wp2
    go_returns
    exact ⟨⟨a1, n1, cap1, l1, a2, n2, cap2, l2, rfl, by omega, R4, by omega, R2.mono hB3.size⟩, hB4⟩
  · go_wp2_with fail
    refine (spec_PartsOk a1 n1 cap1 l1 _ R3.sl (by omega)).mono ?_
    rintro e w4 ⟨rfl, hB4⟩
    have R4 := R3.below hB4
    have hB4' := chain hB3 hB4
    cases hok : partsOkB l1
    · go_wp2_with fail
      refine (hend _ hB4).mono ?_
      rintro e w5 ⟨⟨a2, n2, cap2, l2, rfl, hn2, _, R2⟩, _, hg5⟩
      have hB5 := below_grown hB4' hg5 (Nat.le_refl _)
      have R5 := R4.grown hg5 hrow
      go_wp2
      go_returns
      exact ⟨⟨a1, n1, cap1, l1, a2, n2, cap2, l2, rfl, by omega, R5, by omega, R2.mono hB4'.size⟩, hB5⟩
    · go_wp2_with fail
      refine (spec_LenOf a1 n1 cap1 l1 _ R4.sl (by omega)).mono ?_
      rintro e w5 ⟨rfl, hB5⟩
      have R5 := R4.below hB5
      have hB5' := chain hB4' hB5
      have hW5 := chain hB4 hB5
      have hlen : lenB l1 = sumN l1 := by simp [lenB, hok]
      have hl0 := sumN_nonneg l1 (partsOkB_all hok).2.1
      have hl1 := (partsOkB_all hok).2.2
      rw [hlen]
      by_cases h1 : 1 < sumN l1
      · go_wp2_with fail
        refine (spec_LenOf a1 n1 cap1 l1 _ R5.sl (by omega)).mono ?_
        rintro e w6 ⟨rfl, hB6⟩
        rw [hlen]
        have R6 := R5.below hB6
        have hB6' := chain hB5' hB6
        go_wp2_with fail
        refine (spec_Slice a1 n1 cap1 l1 0 (sumN l1 / 2) _ R6.sl (by omega)).mono ?_
        rintro e w7 ⟨hret, hB7⟩
        obtain ⟨a2, n2, cap2, rfl, R7⟩ := retp_out hret
        have hn2 : n2 ≤ 16 := by rw [← R7.sl.len]; exact sliceS_getD ..
        have hB7' := chain hB6' hB7
        have L7 := R6.below hB7
        replace R7 := R7.mono hB6'.size
        generalize (sliceS l1 0 (sumN l1 / 2)).getD [] = l2 at R7
        generalize (sliceS l1 0 (sumN l1 / 2)).isSome = o2
        clear R3 R4 R5 R6 hend hret hW5
        go_wp2_with fail
        refine (spec_LenOf a1 n1 cap1 l1 _ L7.sl (by omega)).mono ?_
        rintro e w8 ⟨rfl, hB8⟩
        rw [hlen]
        have L8 := L7.below hB8
        have R8 := R7.below hB8
        have hB8' := chain hB7' hB8
        go_wp2_with fail
        refine (spec_Slice a1 n1 cap1 l1 (sumN l1 / 2) (sumN l1) _ L8.sl (by omega)).mono ?_
        rintro e w9 ⟨hret, hB9⟩
        obtain ⟨a3, n3, cap3, rfl, R9⟩ := retp_out hret
        have hn3 : n3 ≤ 16 := by rw [← R9.sl.len]; exact sliceS_getD ..
        have hB9' := chain hB8' hB9
        have R9' := R8.below hB9
        replace R9 := R9.mono hB8'.size
        generalize (sliceS l1 (sumN l1 / 2) (sumN l1)).getD [] = l3 at R9
        generalize (sliceS l1 (sumN l1 / 2) (sumN l1)).isSome = o3
        go_wp2
        go_returns
        exact ⟨⟨a2, n2, cap2, l2, a3, n3, cap3, l3, rfl, hn2, R9', hn3, R9⟩, hB9'⟩
      · go_wp2_with fail
        refine (hend _ hW5).mono ?_
        rintro e w6 ⟨⟨a2, n2, cap2, l2, rfl, hn2, _, R2⟩, _, hg6⟩
        have hB6 := below_grown hB5' hg6 (Nat.le_refl _)
        have R6 := R5.grown hg6 hrow
        go_wp2
        go_returns
        exact ⟨⟨a1, n1, cap1, l1, a2, n2, cap2, l2, rfl, by omega, R6, by omega, R2.mono hB5'.size⟩, hB6⟩
end Go.Proofs.Ytbjejnkeekndbaa
namespace Go.Proofs.Ytbjejnkeekndbaa
open Go.RowKit

theorem rets_outJ {e : Ending} {oo : Option ByteArray} (h : RetStr e oo) : e = .returned (.tuple #[.string (oo.getD ⟨#[]⟩), .bool oo.isSome]) := by
  cases oo <;> exact h
theorem joinedS_eq (l m : List Pt) : joinedS l m = joinedO l m := by rw [joined_eq]; rfl
theorem joinedO_len (l m : List Pt) : ((joinedO l m).getD []).length ≤ 16 := by
  rw [joined_eq]
  split
  · rename_i h
    exact (partsOkB_all h.2.2).1
  · simp
theorem cgo_sizeJ (e : List Ex) : ∀ (l : List Pt) (acc s : ByteArray), (∀ p ∈ l, 1 ≤ p.n ∧ p.n ≤ 100 ∧ (p.a ≠ 0 → 0 ≤ p.f ∧ p.f < 20)) → cgo e acc l = some s → (s.size : Int) = acc.size + sumN l
  | [], acc, s, _, h => by simp [cgo] at h; subst h; simp [sumN]
  | p :: r, acc, s, hp, h => by
    unfold cgo at h
    split at h
    · cases h
    · rename_i d hd
      obtain ⟨h1, _, h3⟩ := hp p (by simp)
      have hs := pieceO_size h1 (fun ha => (h3 ha).1) hd
      have := cgo_sizeJ e r (acc ++ d) s (fun q hq => hp q (by simp [hq])) h
      rw [ByteArray.size_append] at this
      simp only [sumN]
      omega
theorem content_lenJ {l : List Pt} {e : List Ex} {s : ByteArray} (h : contentO l e = some s) : (s.size : Int) = sumN l ∧ s.size ≤ 100 := by
  unfold contentO at h
  split at h
  · rename_i hh
    have := cgo_sizeJ e l _ s (parts_all hh.1).2 h
    have h0 : (((⟨#[]⟩ : ByteArray).size : Nat) : Int) = 0 := rfl
    have := (partsOkB_all hh.1).2.2
    omega
  · cases h
end Go.Proofs.Ytbjejnkeekndbaa
