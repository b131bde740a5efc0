/- Plain facts on the functions over lists of parts. The parts, as the model has them, and the laws' own helpers for parts. The laws' marks of texts. Numbers in decimal, as texts (the model's). Numbers in decimal, read: plain. A number read by the program, plain. Words and lines, cut and joined: plain. -/
import Derived.Test.YtigldeccfpkdmaaGreatDoorCReadSuperx00
import Derived.Test.YtigldeccfpkdmaaGreatDoorProg
import Derived.Laws.BytesArg
import Derived.Lib.ItoaNum
import Derived.Lib.Atoi
import Derived.Lib.AtoiTie
import Derived.Lib.ParseIntBTie
import Derived.Lib.Strings
namespace Go.Proofs.YtigldeccfpkdmaaGreatDoor
open Go.RowKit
/-- The model's PartsOk, its rounds. -/
def sgo : Option Pt → Int → List Pt → Bool
  | _, s, [] => decide (s ≤ 100)
  | none, s, p :: r => (partOkB p && decide (p.n ≤ 100)) && sgo (some p) (s + p.n) r
  | some q, s, p :: r => (partOkB p && decide (p.n ≤ 100)) && !goesOnB q p && sgo (some p) (s + p.n) r
theorem sgo_over (l : List Pt) : ∀ (q : Option Pt) (s : Int), 100 < s → sgo q s l = false := by
  induction l with
  | nil => intro q s h; cases q <;> simp [sgo] <;> omega
  | cons p r ih =>
    intro q s h
    cases hp : partOkB p
    · cases q <;> simp [sgo, hp]
    · have := partOkB_pos hp
      cases q <;> simp [sgo, ih _ (s + p.n) (by omega)]
theorem sgo_pgo (l : List Pt) : ∀ (q : Option Pt) (s : Int), 0 ≤ s → s ≤ 100 → sgo q s l = pgo q (100 - s) l := by
  induction l with
  | nil => intro q s h0 h1; cases q <;> simp [sgo, pgo] <;> omega
  | cons p r ih =>
    intro q s h0 h1
    cases hp : partOkB p
    · cases q <;> simp [sgo, pgo, hp]
    · have hpos := partOkB_pos hp
      by_cases hle : p.n ≤ 100 - s
      · have e := ih (some p) (s + p.n) (by omega) (by omega)
        have e2 : 100 - (s + p.n) = 100 - s - p.n := by omega
        have h100 : p.n ≤ 100 := by omega
        rw [e2] at e
        cases q <;> simp [sgo, pgo, hp, e, hle, h100]
      · have e := sgo_over r (some p) (s + p.n) (by omega)
        cases q <;> simp [sgo, pgo, e, hle]
theorem pgo_all (l : List Pt) : ∀ (q : Option Pt) (s : Int), 0 ≤ s → pgo q s l = true → (∀ p ∈ l, partOkB p = true) ∧ sumN l ≤ s := by
  induction l with
  | nil => intro q s h0 _; exact ⟨by simp, by simpa [sumN] using h0⟩
  | cons p r ih =>
    intro q s h0 h
    have hh : partOkB p = true ∧ p.n ≤ s ∧ pgo (some p) (s - p.n) r = true := by
      cases q
      · simp [pgo] at h; exact ⟨h.1.1, h.1.2, h.2⟩
      · simp [pgo] at h; exact ⟨h.1.1.1, h.1.1.2, h.2⟩
    obtain ⟨a, b⟩ := ih (some p) (s - p.n) (by omega) hh.2.2
    refine ⟨?_, by simp [sumN]; omega⟩
    intro x hx
    rcases List.mem_cons.1 hx with rfl | hx
    · exact hh.1
    · exact a x hx
theorem take_at {α : Type} {l : List α} {k : Nat} {x : α} (h : l[k]? = some x) : l.take (k + 1) = l.take k ++ [x] := by
  rw [List.take_add_one, h]; rfl
theorem partsOkB_all {l : List Pt} (h : partsOkB l = true) : l.length ≤ 16 ∧ (∀ p ∈ l, partOkB p = true) ∧ sumN l ≤ 100 := by
  simp [partsOkB] at h
  exact ⟨h.1, pgo_all l none 100 (by omega) h.2⟩
end Go.Proofs.YtigldeccfpkdmaaGreatDoor
namespace Go.Proofs.YtigldeccfpkdmaaGreatDoor
open Go.RowKit
theorem spec_l1In (n lo hi : Int) (w : World) :
    Calls Tryz.prog 54 #[.int .i64 n, .int .i64 lo, .int .i64 hi] w fun e w' => e = .returned (.bool (decide (lo ≤ n) && decide (n ≤ hi))) ∧ w' = w := by
  go_enter Tryz.func54, Tryz.ntmps54
  go_wp2
  all_goals go_returns
  all_goals go_light
  all_goals refine ⟨?_, rfl⟩
  all_goals simp_all
  all_goals try omega
theorem spec_l2Next (p q : Pt) (w : World) :
    Calls Tryz.prog 212 #[.agg #[.int .i64 p.a, .int .i64 p.f, .int .i64 p.n], .agg #[.int .i64 q.a, .int .i64 q.f, .int .i64 q.n]] w fun e w' => e = .returned (.bool (goesOnB p q)) ∧ Below w.heap.size w w' := by
  obtain ⟨a, f, n⟩ := p
  obtain ⟨b, g, m⟩ := q
  go_enter Tryz.func212, Tryz.ntmps212
  go_wp2
  all_goals go_returns
  all_goals go_light
  all_goals refine ⟨?_, by go_grown⟩
  all_goals simp_all [goesOnB]
  all_goals first | (rw [Bool.eq_iff_iff]; simp; omega) | omega
theorem spec_l2PartOk (p : Pt) (w : World) :
    Calls Tryz.prog 211 #[.agg #[.int .i64 p.a, .int .i64 p.f, .int .i64 p.n]] w fun e w' => e = .returned (.bool (partOkB p && decide (p.n ≤ 100))) ∧ Below w.heap.size w w' := by
  obtain ⟨a, f, n⟩ := p
  go_enter Tryz.func211, Tryz.ntmps211
  go_wp2
  all_goals go_returns
  all_goals go_light
  all_goals refine ⟨?_, by go_grown⟩
  all_goals simp [partOkB, *]
  all_goals try omega
  all_goals (rw [Bool.eq_iff_iff]; simp; omega)
def eqPtB (p q : Pt) : Bool := p.a == q.a && p.f == q.f && p.n == q.n
theorem laws_eqPart (p q : Pt) (w : World) :
    Calls Tryz.prog 272 #[.agg #[.int .i64 p.a, .int .i64 p.f, .int .i64 p.n], .agg #[.int .i64 q.a, .int .i64 q.f, .int .i64 q.n]] w fun e w' => e = .returned (.bool (eqPtB p q)) ∧ Below w.heap.size w w' := by
  obtain ⟨a, f, n⟩ := p
  obtain ⟨b, g, m⟩ := q
  go_enter Tryz.func272, Tryz.ntmps272
  go_wp2
  all_goals go_returns
  all_goals go_light
  all_goals refine ⟨?_, by go_grown⟩
  all_goals simp_all [eqPtB]
end Go.Proofs.YtigldeccfpkdmaaGreatDoor
namespace Go.Proofs.YtigldeccfpkdmaaGreatDoor
open Go.RowKit Go.BigFrame
/-- The digits of k ahead of o. -/
def mtGo (k : Nat) (o : ByteArray) : ByteArray := if k = 0 then o else mtGo (k / 10) (strOfNums [48 + (k : Int) % 10] ++ o)
  termination_by k
  decreasing_by omega
def markT (k : Nat) : ByteArray := ByteArray.mk #[109] ++ mtGo k .empty
theorem app_size (a b : ByteArray) : (a ++ b).size = a.size + b.size := ByteArray.size_append
set_option maxHeartbeats 1000000 in
set_option maxRecDepth 100000 in
theorem laws_markText (k : Nat) (w : World) (h1 : 1 ≤ k) (h2 : k ≤ 100000000) :
    Calls Tryz.prog 109 #[.int .i64 k] w fun e w' => e = .returned (.string (markT k)) ∧ Below w.heap.size w w' := by
  have hcv : ∀ (u : World) (x : Int), (convert 173 9 (.slice (some ⟨u.heap.size, 0, none⟩) 1 1)).run Tryz.prog (u.alloc (.cells #[.int .u8 x] 5)) = .ok (.string (strOfNums [x])) (u.alloc (.cells #[.int .u8 x] 5)) := fun u x =>
    run_convert_bytes_arg (P := Tryz.prog) _ 173 5 Tryz.underlying173 Tryz.underlying5 u.heap.size 0 1 1 [x] rfl (fun i hi => (by obtain rfl : i = 0 := (by omega); simp)) 9 Tryz.underlying9
  go_enter Tryz.func109, Tryz.ntmps109
  go_wp2_with fail
  go_loopw [0, 3] (fun kk out wr => ∃ (j : Nat) (o : ByteArray), kk = .int .i64 j ∧ out = .string o ∧ j ≤ 100000000 ∧ Hid (∃ m, j < 10 ^ m ∧ o.size + m ≤ 9) ∧ Hid (mtGo k .empty = mtGo j o) ∧ Below w.heap.size w wr) (fun kk _ _ => (intOf kk).toNat)
  case atStart => exact ⟨k, .empty, rfl, rfl, h2, ⟨9, by omega, by decide⟩, rfl, Below.refl _ _⟩
  case round =>
    obtain ⟨j, o, rfl, rfl, hj, hm, hI, hB⟩ := hrel
    have ho : o.size ≤ 9 := by obtain ⟨m, _, h⟩ := hm.out; omega
    by_cases hlt : 0 < j
    · have hss : ¬ 9223372036854775807 < (strOfNums [48 + (j : Int) % 10]).size + o.size := by rw [strOfNums_size]; simp; omega
      go_wp2
      go_roundw
      case rel =>
        refine ⟨j / 10, _, by go_num, rfl, by omega, ?_, ?_, hB.alloc hB.size _⟩
        · obtain ⟨m, h3, h4⟩ := hm.out
          cases m with
          | zero => simp at h3; omega
          | succ m => exact ⟨m, by rw [Nat.pow_succ] at h3; omega, by rw [app_size, strOfNums_size]; simp; omega⟩
        · show _ = _
          rw [hI.out, mtGo, if_neg (by omega)]
      case measure => simp [intOf]; omega
    · obtain rfl : j = 0 := by omega
      have hss : ¬ 9223372036854775807 < (ByteArray.mk #[109]).size + o.size := by show ¬ _ < 1 + _; omega
      go_wp2
      go_returns
      go_light
      refine ⟨?_, hB⟩
      unfold markT
      rw [hI.out, mtGo, if_pos rfl]
      rfl
end Go.Proofs.YtigldeccfpkdmaaGreatDoor
namespace Go.Proofs.YtigldeccfpkdmaaGreatDoor
open Go Go.RowKit Go.BigFrame
theorem ba_eqX {a b : ByteArray} (h : a.data.toList = b.data.toList) : a = b := by
  cases a; cases b; simp at h; rw [h]
/-- A number in decimal. -/
def decB (n : Int) : ByteArray := ⟨(Lib.itoa n).toArray⟩
/-- The digits of k ahead of o, one at least. -/
def ddGo (k : Nat) (o : ByteArray) : ByteArray := ⟨(Lib.decDigits k).toArray⟩ ++ o
theorem ddGo_step {k : Nat} (o : ByteArray) (h : 10 ≤ k) : ddGo k o = ddGo (k / 10) (strOfNums [48 + (k : Int) % 10] ++ o) := by
  unfold ddGo
  rw [Lib.decDigits, dif_neg (by omega)]
  have e : strOfNums [48 + (k : Int) % 10] = ⟨#[UInt8.ofNat (48 + k % 10)]⟩ := by
    unfold strOfNums
    have : (48 + (k : Int) % 10).toNat = 48 + k % 10 := by omega
    simp [this]
  rw [e]
  refine ba_eqX ?_
  simp [ByteArray.data_append]
theorem ddGo_last {k : Nat} (o : ByteArray) (h : k < 10) : ddGo k o = strOfNums [48 + (k : Int)] ++ o := by
  unfold ddGo
  rw [Lib.decDigits, dif_pos h]
  have e : strOfNums [48 + (k : Int)] = ⟨#[UInt8.ofNat (48 + k)]⟩ := by
    unfold strOfNums
    have : (48 + (k : Int)).toNat = 48 + k := by omega
    simp [this]
  rw [e]
end Go.Proofs.YtigldeccfpkdmaaGreatDoor
namespace Go.Proofs.YtigldeccfpkdmaaGreatDoor
open Go
abbrev By := List UInt8
def bA (l : By) : ByteArray := ⟨l.toArray⟩
theorem bA_data (b : ByteArray) : bA b.data.toList = b := by cases b; simp [bA]
theorem bA_list (l : By) : (bA l).data.toList = l := by simp [bA]
theorem decFrom_app : ∀ (a b : By) (k : Nat), Lib.decFrom k (a ++ b) = (Lib.decFrom k a).bind fun m => Lib.decFrom m b
  | [], b, k => rfl
  | x :: a, b, k => by
    simp only [List.cons_append, Lib.decFrom]
    cases Lib.digitVal x with
    | none => rfl
    | some d => exact decFrom_app a b _
theorem digit_of {d : Nat} (h : d < 10) : Lib.digitVal (UInt8.ofNat (48 + d)) = some d := by
  have e : (UInt8.ofNat (48 + d)).toNat = 48 + d := by simp; omega
  unfold Lib.digitVal
  rw [e, if_pos (by omega)]
  simp
theorem digit_val {b : UInt8} {d : Nat} (h : Lib.digitVal b = some d) : d < 10 ∧ b = UInt8.ofNat (48 + d) := by
  unfold Lib.digitVal at h
  split at h
  · next hb =>
    have h := Option.some.inj h
    refine ⟨by omega, ?_⟩
    apply UInt8.toNat_inj.1
    simp
    omega
  · cases h
theorem decFrom_dig (n : Nat) : Lib.decFrom 0 (Lib.decDigits n) = some n := by
  induction n using Nat.strongRecOn with
  | _ n ih =>
    rw [Lib.decDigits]
    split
    · next h => simp only [Lib.decFrom, digit_of h]; simp
    · next h =>
      rw [decFrom_app, ih (n / 10) (by omega)]
      simp only [Option.bind_some, Lib.decFrom, digit_of (show n % 10 < 10 by omega)]
      congr 1
      omega
theorem dig_ne (n : Nat) : Lib.decDigits n ≠ [] := by
  rw [Lib.decDigits]
  split <;> simp
theorem dig_zero {n : Nat} (h : (Lib.decDigits n).head? = some 48) : n = 0 := by
  induction n using Nat.strongRecOn with
  | _ n ih =>
    rw [Lib.decDigits] at h
    split at h
    · next hn =>
      simp at h
      have := congrArg UInt8.toNat h
      simp at this
      omega
    · next hn =>
      obtain ⟨x, l, hx⟩ : ∃ x l, Lib.decDigits (n / 10) = x :: l := by
        cases hc : Lib.decDigits (n / 10) with
        | nil => exact absurd hc (dig_ne _)
        | cons x l => exact ⟨x, l, rfl⟩
      have := ih (n / 10) (by omega) (by rw [hx] at h ⊢; simpa using h)
      omega
theorem dig_canon : ∀ (k : Nat) (t : By), t.length = k → t ≠ [] → (t.head? ≠ some 48 ∨ t.length = 1) → ∀ n, Lib.decFrom 0 t = some n → Lib.decDigits n = t := by
  intro k
  induction k with
  | zero => intro t h1 h2; exact absurd (List.eq_nil_of_length_eq_zero h1) h2
  | succ k ih =>
    intro t h1 h2 h3 n h4
    obtain ⟨a, b, rfl⟩ : ∃ a b, t = a ++ [b] := ⟨t.dropLast, t.getLast h2, (List.dropLast_concat_getLast h2).symm⟩
    rw [decFrom_app] at h4
    cases ha : Lib.decFrom 0 a with
    | none => rw [ha] at h4; cases h4
    | some m =>
      rw [ha] at h4
      simp only [Option.bind_some, Lib.decFrom] at h4
      cases hd : Lib.digitVal b with
      | none => rw [hd] at h4; cases h4
      | some d =>
        rw [hd] at h4
        simp only [Option.some.injEq] at h4
        obtain ⟨hd1, rfl⟩ := digit_val hd
        cases a with
        | nil =>
          simp [Lib.decFrom] at ha
          subst ha
          rw [Lib.decDigits, dif_pos (by omega)]
          simp at h4
          simp [← h4]
        | cons x r =>
          have h5 : (x :: r).head? ≠ some 48 := by
            rcases h3 with h3 | h3
            · simpa using h3
            · simp at h3
          have h6 := ih (x :: r) (by simpa using h1) (by simp) (.inl h5) m ha
          have hm : 1 ≤ m := by
            rcases Nat.eq_zero_or_pos m with rfl | h
            · rw [show Lib.decDigits 0 = [48] by rw [Lib.decDigits]; simp] at h6
              rw [← h6] at h5
              simp at h5
            · exact h
          rw [Lib.decDigits, dif_neg (by omega), show n / 10 = m by omega, show n % 10 = d by omega, h6]
/-- The number that a text of at most ten digits spells, just as it is written. -/
def numP (s : By) : Option Int :=
  match s with
  | 45 :: t => if t.length < 1 ∨ 10 < t.length ∨ t.head? = some 48 then none else (Lib.decFrom 0 t).map fun (n : Nat) => -(n : Int)
  | t => if t.length < 1 ∨ 10 < t.length ∨ (t.head? = some 48 ∧ 1 < t.length) then none else (Lib.decFrom 0 t).map fun (n : Nat) => (n : Int)
def Ten (n : Int) : Prop := -10000000000 < n ∧ n < 10000000000
theorem dig_len (m : Nat) : ∀ k, k < 10 ^ (m + 1) → (Lib.decDigits k).length ≤ m + 1 := by
  induction m with
  | zero => intro k h; rw [Lib.decDigits, dif_pos (by omega)]; simp
  | succ m ih =>
    intro k h
    rw [Lib.decDigits]
    split
    · simp
    · have := ih (k / 10) (by rw [Nat.pow_succ] at h; omega)
      simp; omega
theorem dig_head (n : Nat) : ∃ d r, Lib.decDigits n = UInt8.ofNat (48 + d) :: r ∧ d < 10 := by
  induction n using Nat.strongRecOn with
  | _ n ih =>
    rw [Lib.decDigits]
    split
    · next h => exact ⟨n, [], rfl, h⟩
    · next h =>
      obtain ⟨d, r, e, hd⟩ := ih (n / 10) (by omega)
      exact ⟨d, r ++ [UInt8.ofNat (48 + n % 10)], by rw [e]; rfl, hd⟩
theorem of_ne {d : Nat} (h : d < 10) : UInt8.ofNat (48 + d) ≠ 45 := fun e => by
  have := congrArg UInt8.toNat e
  simp at this
  omega
theorem numP_plain {t : By} (h : t.head? ≠ some 45) : numP t = if t.length < 1 ∨ 10 < t.length ∨ (t.head? = some 48 ∧ 1 < t.length) then none else (Lib.decFrom 0 t).map fun (n : Nat) => (n : Int) := by
  unfold numP
  split
  · simp at h
  · rfl
theorem numP_itoa {n : Int} (h : Ten n) : numP (Lib.itoa n) = some n := by
  obtain ⟨h1, h2⟩ := h
  unfold Lib.itoa
  split
  · next hn =>
    obtain ⟨k, rfl⟩ : ∃ k : Nat, n = -(k : Int) := ⟨n.natAbs, by omega⟩
    have e : (-(k : Int)).natAbs = k := by omega
    rw [e]
    unfold numP
    simp only
    have l1 := dig_len 9 k (by omega)
    have l2 := List.length_pos_iff.2 (dig_ne k)
    rw [if_neg, decFrom_dig]
    · rfl
    · rintro (h | h | h)
      · omega
      · omega
      · have := dig_zero h; omega
  · next hn =>
    obtain ⟨k, rfl⟩ : ∃ k : Nat, n = (k : Int) := ⟨n.toNat, by omega⟩
    have e : (k : Int).toNat = k := by omega
    rw [e]
    have l1 := dig_len 9 k (by omega)
    have l2 := List.length_pos_iff.2 (dig_ne k)
    rw [numP_plain, if_neg, decFrom_dig]
    · rfl
    · rintro (h | h | ⟨h, h'⟩)
      · omega
      · omega
      · have := dig_zero h
        subst this
        rw [show Lib.decDigits 0 = [48] by rw [Lib.decDigits]; simp] at h'
        simp at h'
    · obtain ⟨d, r, e, hd⟩ := dig_head k
      rw [e]
      simp only [List.head?_cons, ne_eq, Option.some.injEq]
      exact of_ne hd
theorem decFrom_lt : ∀ (t : By) (k n : Nat), Lib.decFrom k t = some n → n < (k + 1) * 10 ^ t.length
  | [], k, n, h => by simp [Lib.decFrom] at h; simp; omega
  | x :: t, k, n, h => by
    simp only [Lib.decFrom] at h
    cases hx : Lib.digitVal x with
    | none => rw [hx] at h; cases h
    | some d =>
      rw [hx] at h
      have h1 := decFrom_lt t _ n h
      have h2 := (digit_val hx).1
      have h3 : (k * 10 + d + 1) * 10 ^ t.length ≤ ((k + 1) * 10) * 10 ^ t.length := Nat.mul_le_mul_right _ (by omega)
      simp only [List.length_cons, Nat.pow_succ]
      rw [Nat.mul_assoc, Nat.mul_comm 10] at h3
      omega
theorem numP_some {s : By} {n : Int} (h : numP s = some n) : s = Lib.itoa n ∧ Ten n := by
  have hten : ∀ {t : By} {k : Nat}, ¬ 10 < t.length → Lib.decFrom 0 t = some k → k < 10000000000 := fun {t k} h1 h2 => by
    have := decFrom_lt t 0 k h2
    have h3 : 10 ^ t.length ≤ 10 ^ 10 := Nat.pow_le_pow_right (by omega) (by omega)
    omega
  unfold numP at h
  split at h
  · next t =>
    split at h
    · cases h
    · next hc =>
      rw [not_or, not_or] at hc
      obtain ⟨c1, c2, c3⟩ := hc
      cases hd : Lib.decFrom 0 t with
      | none => rw [hd] at h; cases h
      | some k =>
        rw [hd] at h
        obtain rfl : -(k : Int) = n := Option.some.inj h
        have e := dig_canon _ t rfl (fun e => by subst e; simp at c1) (.inl c3) k hd
        have hk : 0 < k := by
          rcases Nat.eq_zero_or_pos k with rfl | hk
          · rw [show Lib.decDigits 0 = [48] by rw [Lib.decDigits]; simp] at e
            rw [← e] at c3
            simp at c3
          · exact hk
        refine ⟨?_, by have := hten c2 hd; exact ⟨by omega, by omega⟩⟩
        unfold Lib.itoa
        rw [if_pos (by omega), show (-(k : Int)).natAbs = k by omega, e]
  · next t hs =>
    split at h
    · cases h
    · next hc =>
      rw [not_or, not_or] at hc
      obtain ⟨c1, c2, c3⟩ := hc
      cases hd : Lib.decFrom 0 s with
      | none => rw [hd] at h; cases h
      | some k =>
        rw [hd] at h
        obtain rfl : (k : Int) = n := Option.some.inj h
        have e := dig_canon _ s rfl (fun e => by subst e; simp at c1) (by
          by_cases h4 : s.head? = some 48
          · exact .inr (by have h6 : ¬ 1 < s.length := fun h5 => c3 ⟨h4, h5⟩
                           omega)
          · exact .inl h4) k hd
        refine ⟨?_, by have := hten c2 hd; exact ⟨by omega, by omega⟩⟩
        unfold Lib.itoa
        rw [if_neg (by omega), show (k : Int).toNat = k by omega, e]
end Go.Proofs.YtigldeccfpkdmaaGreatDoor
namespace Go.Proofs.YtigldeccfpkdmaaGreatDoor
open Go
theorem decNat_of {t : By} (h : t ≠ []) : Lib.decNat t = Lib.decFrom 0 t := by
  unfold Lib.decNat
  cases t with
  | nil => exact absurd rfl h
  | cons x l => rfl
theorem atoi_itoa (n : Int) : Lib.atoi (Lib.itoa n) = some n := by
  unfold Lib.itoa
  split
  · next hn =>
    obtain ⟨k, rfl⟩ : ∃ k : Nat, n = -(k : Int) := ⟨n.natAbs, by omega⟩
    rw [show (-(k : Int)).natAbs = k by omega]
    unfold Lib.atoi
    simp only [beq_self_eq_true, if_true]
    rw [decNat_of (dig_ne k), decFrom_dig]
    rfl
  · next hn =>
    obtain ⟨k, rfl⟩ : ∃ k : Nat, n = (k : Int) := ⟨n.toNat, by omega⟩
    rw [show (k : Int).toNat = k by omega]
    obtain ⟨d, r, e, hd⟩ := dig_head k
    have h2 := decNat_of (dig_ne k)
    rw [decFrom_dig, e] at h2
    rw [e]
    unfold Lib.atoi
    have h43 : (UInt8.ofNat (48 + d) == 43) = false := by
      rw [beq_eq_false_iff_ne]
      intro e
      have := congrArg UInt8.toNat e
      simp at this
      omega
    have h45 : (UInt8.ofNat (48 + d) == 45) = false := by
      rw [beq_eq_false_iff_ne]
      exact of_ne hd
    simp only [h43, h45]
    rw [h2]
    rfl
/-- Without a sign. -/
def trimN (s : By) : By := Lib.trimPrefix s [45]
theorem trimN_neg (t : By) : trimN (45 :: t) = t := by simp [trimN, Lib.trimPrefix, Lib.hasPrefix]
theorem trimN_pos {t : By} (h : t.head? ≠ some 45) : trimN t = t := by
  unfold trimN Lib.trimPrefix Lib.hasPrefix
  cases t with
  | nil => rfl
  | cons x l =>
    have : ¬ x = 45 := fun e => h (by simp [e])
    rw [if_neg]
    simp
    exact fun e => this e.symm
theorem trim_itoa (n : Int) : trimN (Lib.itoa n) = Lib.decDigits n.natAbs := by
  unfold Lib.itoa
  split
  · exact trimN_neg _
  · next hn =>
    obtain ⟨k, rfl⟩ : ∃ k : Nat, n = (k : Int) := ⟨n.toNat, by omega⟩
    rw [show (k : Int).toNat = k by omega, show (k : Int).natAbs = k by omega]
    obtain ⟨d, r, e, hd⟩ := dig_head k
    exact trimN_pos (by rw [e]; simp only [List.head?_cons, ne_eq, Option.some.injEq]; exact of_ne hd)
theorem ten_of {n : Int} (h : (trimN (Lib.itoa n)).length ≤ 10) : Ten n := by
  rw [trim_itoa] at h
  have h1 := decFrom_lt _ 0 _ (decFrom_dig n.natAbs)
  have h2 : 10 ^ (Lib.decDigits n.natAbs).length ≤ 10 ^ 10 := Nat.pow_le_pow_right (by omega) h
  have h3 : (10 : Nat) ^ 10 = 10000000000 := by decide
  unfold Ten
  omega
theorem ten_len {n : Int} (h : Ten n) : (trimN (Lib.itoa n)).length ≤ 10 := by
  rw [trim_itoa]
  obtain ⟨h1, h2⟩ := h
  exact dig_len 9 _ (by omega)
theorem numP_long {s : By} (h : 10 < (trimN s).length) : numP s = none := by
  cases hc : numP s with
  | none => rfl
  | some n =>
    obtain ⟨rfl, h2⟩ := numP_some hc
    have := ten_len h2
    omega
theorem numP_bad {s : By} (h : Lib.atoi s = none) : numP s = none := by
  cases hc : numP s with
  | none => rfl
  | some n =>
    obtain ⟨rfl, h2⟩ := numP_some hc
    rw [atoi_itoa] at h
    cases h
theorem numP_other {s : By} {n : Int} (h : Lib.atoi s = some n) (h2 : Lib.itoa n ≠ s) : numP s = none := by
  cases hc : numP s with
  | none => rfl
  | some m =>
    obtain ⟨rfl, _⟩ := numP_some hc
    rw [atoi_itoa] at h
    obtain rfl := Option.some.inj h
    exact absurd rfl h2
theorem numP_good {s : By} {n : Int} (h1 : (trimN s).length ≤ 10) (h2 : Lib.itoa n = s) : numP s = some n := by
  subst h2
  exact numP_itoa (ten_of h1)
theorem trim_len (s : By) : s.length ≤ (trimN s).length + 1 := by
  unfold trimN Lib.trimPrefix
  split
  · simp; omega
  · simp
theorem parse_short {s : By} (h : (trimN s).length ≤ 10) : Lib.parseIntB 64 s = Lib.NumEnd.ofOption (Lib.atoi s) := by
  have := trim_len s
  rw [Lib.parseIntB_64, Lib.atoiAll_short s (by omega)]
end Go.Proofs.YtigldeccfpkdmaaGreatDoor
namespace Go.Proofs.YtigldeccfpkdmaaGreatDoor
open Go
/-- What stands ahead of the first c, and behind it. -/
def cutB (c : UInt8) : By → Option (By × By)
  | [] => none
  | x :: l => if x = c then some ([], l) else (cutB c l).map fun q => (x :: q.1, q.2)
theorem cutB_app {c : UInt8} : ∀ {a : By} (b : By), c ∉ a → cutB c (a ++ c :: b) = some (a, b)
  | [], b, _ => by simp [cutB]
  | x :: a, b, h => by
    have h1 : ¬ x = c := fun e => h (by simp [e])
    have h2 : c ∉ a := fun e => h (by simp [e])
    simp [cutB, h1, cutB_app b h2]
theorem cutB_none {c : UInt8} : ∀ {a : By}, c ∉ a → cutB c a = none
  | [], _ => rfl
  | x :: a, h => by
    have h1 : ¬ x = c := fun e => h (by simp [e])
    have h2 : c ∉ a := fun e => h (by simp [e])
    simp [cutB, h1, cutB_none h2]
theorem cutB_some {c : UInt8} : ∀ {l a b : By}, cutB c l = some (a, b) → l = a ++ c :: b ∧ c ∉ a
  | [], a, b, h => by cases h
  | x :: l, a, b, h => by
    unfold cutB at h
    split at h
    · next hx => obtain ⟨rfl, rfl⟩ := Prod.mk.inj (Option.some.inj h); simp [hx]
    · next hx =>
      cases hc : cutB c l with
      | none => rw [hc] at h; cases h
      | some q =>
        rw [hc] at h
        obtain ⟨rfl, rfl⟩ := Prod.mk.inj (Option.some.inj h)
        obtain ⟨h1, h2⟩ := cutB_some (a := q.1) (b := q.2) hc
        refine ⟨by rw [h1]; rfl, ?_⟩
        intro hm
        rcases List.mem_cons.1 hm with e | e
        · exact hx e.symm
        · exact h2 e
/-- Cut at the first k blanks. -/
def wdsN : Nat → By → List By
  | 0, l => [l]
  | k + 1, l => match cutB 32 l with
    | none => [l]
    | some q => q.1 :: wdsN k q.2
/-- Words with a blank between two. -/
def joW : List By → By
  | [] => []
  | [a] => a
  | a :: b :: l => a ++ 32 :: joW (b :: l)
theorem wdsN_ne (k : Nat) (l : By) : wdsN k l ≠ [] := by
  cases k with
  | zero => simp [wdsN]
  | succ k => unfold wdsN; split <;> simp
theorem joW_wds : ∀ (k : Nat) (l : By), joW (wdsN k l) = l
  | 0, l => rfl
  | k + 1, l => by
    unfold wdsN
    split
    · rfl
    · next q hq =>
      have h1 := joW_wds k q.2
      obtain ⟨h2, _⟩ := cutB_some (a := q.1) (b := q.2) hq
      cases hc : wdsN k q.2 with
      | nil => exact absurd hc (wdsN_ne _ _)
      | cons x r => rw [hc] at h1; rw [joW, h1, ← h2]
theorem wds_jo : ∀ (ws : List By) (x : By), (∀ w ∈ ws, (32 : UInt8) ∉ w) → wdsN ws.length (joW (ws ++ [x])) = ws ++ [x]
  | [], x, _ => rfl
  | w :: ws, x, h => by
    have ih := wds_jo ws x (fun w' hw => h w' (by simp [hw]))
    have h1 : joW (w :: ws ++ [x]) = w ++ 32 :: joW (ws ++ [x]) := by
      cases ws with
      | nil => rfl
      | cons a l => rfl
    rw [h1, List.length_cons, wdsN, cutB_app _ (h w (by simp))]
    simp [ih]
/-- A line begins with that word and a blank. -/
def ahP (wd l : By) : Bool := (wd ++ [32]).isPrefixOf l
theorem ahP_iff {wd l : By} : ahP wd l = true ↔ ∃ r, l = wd ++ 32 :: r := by
  unfold ahP
  rw [List.isPrefixOf_iff_prefix]
  constructor
  · rintro ⟨r, rfl⟩; exact ⟨r, by simp⟩
  · rintro ⟨r, rfl⟩; exact ⟨r, by simp⟩
theorem ahP_head {wd l : By} (h : ahP wd l = true) (hw : wd ≠ []) : l.head? = wd.head? := by
  obtain ⟨r, rfl⟩ := ahP_iff.1 h
  cases wd with
  | nil => exact absurd rfl hw
  | cons x t => rfl
theorem ahP_jo (wd x : By) (l : List By) : ahP wd (joW (wd :: x :: l)) = true := ahP_iff.2 ⟨_, rfl⟩
theorem wds_ah {wd l : By} (k : Nat) (h : ahP wd l = true) (hw : (32 : UInt8) ∉ wd) : ∃ r, l = wd ++ 32 :: r ∧ wdsN (k + 1) l = wd :: wdsN k r := by
  obtain ⟨r, rfl⟩ := ahP_iff.1 h
  exact ⟨r, rfl, by rw [wdsN, cutB_app _ hw]⟩
/-- Lines of a text, each with a byte 10 behind it. -/
def catL (ls : List By) : By := ls.flatMap (· ++ [10])
def lnsB : Nat → By → Option (List By)
  | 0, s => if s = [] then some [] else none
  | k + 1, s => if s = [] then some [] else match cutB 10 s with
    | none => none
    | some q => (lnsB k q.2).map (q.1 :: ·)
theorem lnsB_some : ∀ {k : Nat} {s : By} {ls : List By}, lnsB k s = some ls → s = catL ls ∧ ∀ l ∈ ls, (10 : UInt8) ∉ l
  | 0, s, ls, h => by
    unfold lnsB at h
    split at h
    · next hs => obtain rfl := Option.some.inj h; exact ⟨hs, fun l hl => by cases hl⟩
    · cases h
  | k + 1, s, ls, h => by
    unfold lnsB at h
    split at h
    · next hs => obtain rfl := Option.some.inj h; exact ⟨hs, fun l hl => by cases hl⟩
    · split at h
      · cases h
      · next q hq =>
        obtain ⟨h1, h2⟩ := cutB_some (a := q.1) (b := q.2) hq
        cases hc : lnsB k q.2 with
        | none => rw [hc] at h; cases h
        | some r =>
          rw [hc] at h
          obtain rfl := Option.some.inj h
          obtain ⟨h3, h4⟩ := lnsB_some hc
          refine ⟨?_, fun l hl => ?_⟩
          · rw [h1, h3]; simp [catL]
          · rcases List.mem_cons.1 hl with rfl | e
            · exact h2
            · exact h4 l e
theorem lnsB_cat : ∀ {k : Nat} {ls : List By}, (∀ l ∈ ls, (10 : UInt8) ∉ l) → (catL ls).length ≤ k → lnsB k (catL ls) = some ls
  | 0, [], _, _ => rfl
  | k + 1, [], _, _ => rfl
  | 0, l :: ls, _, h => by simp [catL] at h
  | k + 1, l :: ls, h, hk => by
    have e : catL (l :: ls) = l ++ 10 :: catL ls := by simp [catL]
    rw [e] at hk
    simp only [List.length_append, List.length_cons] at hk
    rw [e, lnsB, if_neg (by simp), cutB_app _ (h l (by simp))]
    simp [lnsB_cat (k := k) (ls := ls) (fun l' hl => h l' (by simp [hl])) (by omega)]
theorem catL_app (a b : List By) : catL (a ++ b) = catL a ++ catL b := by simp [catL]
theorem catL_cons (a : By) (b : List By) : catL (a :: b) = a ++ [10] ++ catL b := by simp [catL]
/-- All words. -/
def wdsA (l : By) : List By := wdsN l.length l
end Go.Proofs.YtigldeccfpkdmaaGreatDoor
