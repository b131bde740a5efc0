/- Numbers in decimal: the model's and the program's. Owners and counts as plain data: their order, the lists that are added up, and that two lists in order with the same sums are one. A count that a writer writes. -/
import Derived.Lib.AppendIntMem
import Derived.Test.YtigldeccfpkdmaaGreatDoorCReadSuperx00
import Derived.Test.YtigldeccfpkdmaaGreatDoorCReadSuperx03
import Derived.Test.YtigldeccfpkdmaaGreatDoorCReadSuperx01
import Derived.Laws.Cover1
namespace Go.Proofs.YtigldeccfpkdmaaGreatDoor
open Go Go.RowKit Go.BigFrame
theorem dec_len : ∀ (m k : Nat), k < 10 ^ (m + 1) → (Lib.decDigits k).length ≤ m + 1
  | 0, k, h => by rw [Lib.decDigits, dif_pos (by simpa using h)]; simp
  | m + 1, k, h => by
    rw [Lib.decDigits]
    split
    · simp
    · have := dec_len m (k / 10) (by rw [Nat.pow_succ] at h; omega)
      simp
      omega
theorem decB_size {n : Int} (h0 : -1000000000000 < n) (h1 : n < 1000000000000) : (decB n).size ≤ 13 := by
  show (Lib.itoa n).toArray.size ≤ 13
  rw [List.size_toArray]
  unfold Lib.itoa
  split
  · have := dec_len 11 n.natAbs (by omega)
    simp
    omega
  · have := dec_len 11 n.toNat (by omega)
    omega
theorem decB_pos {k : Nat} : decB k = ddGo k .empty := by
  unfold decB ddGo Lib.itoa
  rw [if_neg (by omega)]
  refine ba_eqX ?_
  simp
theorem decB_neg {k : Nat} (h : 0 < k) : decB (-(k : Int)) = ByteArray.mk #[45] ++ decB k := by
  unfold decB Lib.itoa
  rw [if_pos (by omega), if_neg (by omega)]
  refine ba_eqX ?_
  simp [ByteArray.data_append]
set_option maxHeartbeats 1000000 in
set_option maxRecDepth 100000 in
theorem spec_l1Dec_pos (k : Nat) (w : World) (h2 : k < 1000000000000) :
    Calls Tryz.prog 122 #[.int .i64 k] w fun e w' => e = .returned (.string (decB k)) ∧ Below w.heap.size w w' := by
  have hcv : ∀ (u : World) (x : Int), (convert 173 9 (.slice (some ⟨u.heap.size, 0, none⟩) 1 1)).run Tryz.prog (u.alloc (.cells #[.int .u8 x] 5)) = .ok (.string (strOfNums [x])) (u.alloc (.cells #[.int .u8 x] 5)) := fun u x =>
    run_convert_bytes_arg (P := Tryz.prog) _ 173 5 Tryz.underlying173 Tryz.underlying5 u.heap.size 0 1 1 [x] rfl (fun i hi => (by obtain rfl : i = 0 := (by omega); simp)) 9 Tryz.underlying9
  obtain ⟨R, hR⟩ : ∃ R, Hid (decB k = R) := ⟨_, rfl⟩
  rw [hR.out]
  go_enter Tryz.func122, Tryz.ntmps122
  go_wp2_with fail
  go_loopw [0, 3] (fun kk out wr => ∃ (j : Nat) (o : ByteArray), kk = .int .i64 j ∧ out = .string o ∧ j < 1000000000000 ∧ Hid (∃ m, j < 10 ^ m ∧ o.size + m ≤ 13) ∧ Hid (R = ddGo j o) ∧ Below w.heap.size w wr) (fun kk _ _ => (intOf kk).toNat)
  case atStart => exact ⟨k, .empty, rfl, rfl, h2, ⟨12, by omega, by decide⟩, by show _ = _; rw [← hR.out]; exact decB_pos, Below.refl _ _⟩
  case round =>
    obtain ⟨j, o, rfl, rfl, hj, hm, hI, hB⟩ := hrel
    have ho : o.size ≤ 13 := by obtain ⟨m, _, h⟩ := hm.out; omega
    by_cases hlt : 10 ≤ j
    · have hss : ¬ 9223372036854775807 < (strOfNums [48 + (j : Int) % 10]).size + o.size := by rw [strOfNums_size]; simp; omega
      have hge : (10 : Int) ≤ j := by omega
      go_wp2
      go_roundw
      case rel =>
        refine ⟨j / 10, _, by go_num, rfl, by omega, ?_, ?_, hB.alloc hB.size _⟩
        · obtain ⟨m, h3, h4⟩ := hm.out
          cases m with
          | zero => simp at h3; omega
          | succ m => exact ⟨m, by rw [Nat.pow_succ] at h3; omega, by rw [app_size, strOfNums_size]; simp; omega⟩
        · show _ = _
          rw [hI.out, ddGo_step o hlt]
      case measure => simp [intOf]; omega
    · have hss : ¬ 9223372036854775807 < (strOfNums [48 + (j : Int)]).size + o.size := by rw [strOfNums_size]; simp; omega
      have hge : ¬ (10 : Int) ≤ j := by omega
      go_wp2
      go_returns
      go_light
      refine ⟨?_, hB.alloc hB.size _⟩
      rw [hI.out, ddGo_last o (by omega)]
      rfl
set_option maxHeartbeats 1000000 in
set_option maxRecDepth 100000 in
theorem spec_l1Dec (n : Int) (w : World) (h1 : -1000000000000 < n) (h2 : n < 1000000000000) :
    Calls Tryz.prog 122 #[.int .i64 n] w fun e w' => e = .returned (.string (decB n)) ∧ Below w.heap.size w w' := by
  by_cases h : n < 0
  · obtain ⟨k, rfl⟩ : ∃ k : Nat, n = -(k : Int) := ⟨n.natAbs, by omega⟩
    have hk : 0 < k := by omega
    have hR : Hid (decB (-(k : Int)) = ByteArray.mk #[45] ++ decB k) := decB_neg hk
    generalize decB (-(k : Int)) = R at *
    have hsz := decB_size (n := k) (by omega) (by omega)
    have hss : ¬ 9223372036854775807 < (ByteArray.mk #[45]).size + (decB k).size := by show ¬ _ < 1 + _; omega
    have hneg : -(-(k : Int)) = k := by omega
    go_enter Tryz.func122, Tryz.ntmps122
    go_wp2_with fail
    refine (spec_l1Dec_pos k w (by omega)).mono ?_
    rintro e w1 ⟨rfl, hB1⟩
    generalize decB (k : Int) = D at *
    go_wp2
    go_returns
    exact ⟨by rw [hR.out]; rfl, hB1⟩
  · obtain ⟨k, rfl⟩ : ∃ k : Nat, n = (k : Int) := ⟨n.toNat, by omega⟩
    exact spec_l1Dec_pos k w (by omega)
/-- The table that FormatInt reads. -/
def TabP (w : World) : Prop := Lib.TabIs Tryz.prog w "internal/strconv.uint64pow10" .u64 Lib.pow10Tab
theorem impl_decimal (n : Int) (w : World) (h0 : -9223372036854775808 ≤ n) (h1 : n ≤ 9223372036854775807) (ht : TabP w) :
    Calls Tryz.prog 61 #[.int .i64 n] w fun e w' => e = .returned (.string (decB n)) ∧ Below w.heap.size w w' := by
  go_enter Tryz.func61, Tryz.ntmps61
  go_wp2_with fail
  refine (Any.strconv_FormatInt_10 fmtL n h0 h1 w ht).mono ?_
  rintro e w1 ⟨rfl, k, os, rfl⟩
  have hB := Lib.below_grow w.heap.size w (Nat.le_refl _) k os
  generalize Sort.grow (w.drewN k) os = W at *
  go_wp2
  go_returns
  exact ⟨rfl, hB⟩
end Go.Proofs.YtigldeccfpkdmaaGreatDoor
namespace Go.Proofs.YtigldeccfpkdmaaGreatDoor
open Go.RowKit
/-- An owner: Addr, Vol, File. -/
structure Ow where
  a : Int
  v : Int
  f : ByteArray
/-- A count: Owner, N. -/
structure Ct where
  o : Ow
  n : Int
def Ow.vs (o : Ow) : Array Value := #[.int .i64 o.a, .int .i64 o.v, .string o.f]
/-- The cells of a count. -/
def Ct.cs (c : Ct) : List Value := [.int .i64 c.o.a, .int .i64 c.o.v, .string c.o.f, .int .i64 c.n]
abbrev CtsAt := SlAt Ct.cs 4
theorem cts_at {w : World} {a : Option Addr} {n : Nat} {l : List Ct} (h : CtsAt w a n l) {k : Nat} (hk : k < n) :
    ∃ b o p, a = some ⟨b, o, none⟩ ∧ l[k]? = some p ∧ w.cell? ⟨b, o + k * 4, none⟩ = some (.int .i64 p.o.a) ∧ w.cell? ⟨b, o + k * 4 + 1, none⟩ = some (.int .i64 p.o.v) ∧ w.cell? ⟨b, o + k * 4 + 2, none⟩ = some (.string p.o.f) ∧ w.cell? ⟨b, o + k * 4 + 3, none⟩ = some (.int .i64 p.n) := by
  have hl : k < l.length := by rw [h.len]; exact hk
  have hx : l[k]? = some l[k] := by simp [hl]
  obtain ⟨b, o, ha, hc⟩ := h.cell k _ hx
  exact ⟨b, o, l[k], ha, hx, hc 0 _ rfl, hc 1 _ rfl, hc 2 _ rfl, hc 3 _ rfl⟩
/-! ### The order of texts -/
abbrev bl := Op.bytesLess
theorem bl_irrefl : ∀ x : List UInt8, bl x x = false
  | [] => rfl
  | a :: x => by simp [bl, Op.bytesLess]; exact bl_irrefl x
theorem bl_total : ∀ {x y : List UInt8}, bl x y = false → x ≠ y → bl y x = true
  | [], [], _, h => absurd rfl h
  | [], b :: y, h, _ => by simp [bl, Op.bytesLess] at h
  | a :: x, [], _, _ => rfl
  | a :: x, b :: y, h, hne => by
    simp only [bl, Op.bytesLess, Bool.or_eq_false_iff, Bool.and_eq_false_iff, decide_eq_false_iff_not] at h
    obtain ⟨h1, h2⟩ := h
    simp only [bl, Op.bytesLess, Bool.or_eq_true, Bool.and_eq_true, decide_eq_true_eq, beq_iff_eq]
    by_cases hab : a = b
    · subst hab
      right
      refine ⟨rfl, bl_total (h2.resolve_left (by simp)) (fun e => hne (by rw [e]))⟩
    · left
      have h1' : b.toNat ≤ a.toNat := by simpa [UInt8.lt_iff_toNat_lt] using h1
      have : a.toNat ≠ b.toNat := fun e => hab (UInt8.toNat_inj.1 e)
      rw [UInt8.lt_iff_toNat_lt]; omega
theorem bl_asymm : ∀ {x y : List UInt8}, bl x y = true → bl y x = false
  | [], [], h => by simp [bl, Op.bytesLess] at h
  | [], b :: y, _ => rfl
  | a :: x, [], h => by simp [bl, Op.bytesLess] at h
  | a :: x, b :: y, h => by
    simp only [bl, Op.bytesLess, Bool.or_eq_true, Bool.and_eq_true, decide_eq_true_eq, beq_iff_eq] at h
    simp only [bl, Op.bytesLess, Bool.or_eq_false_iff, Bool.and_eq_false_iff, decide_eq_false_iff_not, beq_eq_false_iff_ne]
    rcases h with h | ⟨rfl, h⟩
    · have h' := UInt8.lt_iff_toNat_lt.1 h
      refine ⟨fun k => by have := UInt8.lt_iff_toNat_lt.1 k; omega, .inl fun e => by subst e; omega⟩
    · exact ⟨fun k => by have := UInt8.lt_iff_toNat_lt.1 k; omega, .inr (bl_asymm h)⟩
theorem bl_trans : ∀ {x y z : List UInt8}, bl x y = true → bl y z = true → bl x z = true
  | [], [], _, h, _ => by simp [bl, Op.bytesLess] at h
  | [], b :: y, [], _, h => by simp [bl, Op.bytesLess] at h
  | [], b :: y, c :: z, _, _ => rfl
  | a :: x, [], _, h, _ => by simp [bl, Op.bytesLess] at h
  | a :: x, b :: y, [], _, h => by simp [bl, Op.bytesLess] at h
  | a :: x, b :: y, c :: z, h1, h2 => by
    simp only [bl, Op.bytesLess, Bool.or_eq_true, Bool.and_eq_true, decide_eq_true_eq, beq_iff_eq, UInt8.lt_iff_toNat_lt] at *
    rcases h1 with h1 | ⟨rfl, h1⟩
    · rcases h2 with h2 | ⟨rfl, h2⟩
      · left; omega
      · left; exact h1
    · rcases h2 with h2 | ⟨rfl, h2⟩
      · left; exact h2
      · right; exact ⟨rfl, bl_trans h1 h2⟩
theorem bytes_eq {x y : ByteArray} (h : x.toList = y.toList) : x = y := by
  rw [ByteArray.toList_eq, ByteArray.toList_eq] at h
  cases x; cases y
  congr 1
  exact Array.toList_inj.1 h
/-! ### The order of owners -/
def owEq (a b : Ow) : Bool := a.a == b.a && a.v == b.v && a.f.toList == b.f.toList
theorem owEq_iff {a b : Ow} : owEq a b = true ↔ a = b := by
  constructor
  · intro h
    simp [owEq] at h
    obtain ⟨⟨h1, h2⟩, h3⟩ := h
    cases a; cases b
    simp at *
    exact ⟨h1, h2, bytes_eq h3⟩
  · rintro rfl; simp [owEq]
def owLt (a b : Ow) : Bool := if a.a ≠ b.a then decide (a.a < b.a) else if a.v ≠ b.v then decide (a.v < b.v) else bl a.f.toList b.f.toList
theorem owLt_irrefl (a : Ow) : owLt a a = false := by simp [owLt, bl_irrefl]
theorem owLt_total {a b : Ow} (h : owLt a b = false) (hne : a ≠ b) : owLt b a = true := by
  by_cases h1 : a.a = b.a
  · by_cases h2 : a.v = b.v
    · have h3 : a.f.toList ≠ b.f.toList := fun e => hne (owEq_iff.1 (by simp [owEq, h1, h2, e]))
      simp only [owLt, h1, h2, ne_eq, not_true, if_false] at h ⊢
      exact bl_total h h3
    · simp only [owLt, h1, ne_eq, not_true, if_false, h2, not_false_eq_true, if_true, decide_eq_false_iff_not] at h
      simp only [owLt, h1, ne_eq, not_true, if_false, if_pos (Ne.symm h2), decide_eq_true_eq]; omega
  · simp only [owLt, ne_eq, h1, not_false_eq_true, if_true, decide_eq_false_iff_not] at h
    simp only [owLt, ne_eq, if_pos (Ne.symm h1), decide_eq_true_eq]; omega
theorem owLt_asymm {a b : Ow} (h : owLt a b = true) : owLt b a = false := by
  by_cases h1 : a.a = b.a
  · by_cases h2 : a.v = b.v
    · simp only [owLt, h1, h2, ne_eq, not_true, if_false] at h ⊢
      exact bl_asymm h
    · simp only [owLt, h1, ne_eq, not_true, if_false, h2, not_false_eq_true, if_true, decide_eq_true_eq] at h
      simp only [owLt, h1, ne_eq, not_true, if_false, if_pos (Ne.symm h2), decide_eq_false_iff_not]; omega
  · simp only [owLt, ne_eq, h1, not_false_eq_true, if_true, decide_eq_true_eq] at h
    simp only [owLt, ne_eq, if_pos (Ne.symm h1), decide_eq_false_iff_not]; omega
theorem owLt_iff {a b : Ow} : owLt a b = true ↔ a.a < b.a ∨ (a.a = b.a ∧ (a.v < b.v ∨ (a.v = b.v ∧ bl a.f.toList b.f.toList = true))) := by
  unfold owLt
  split
  · rename_i h; simp; omega
  · rename_i h
    split
    · rename_i k; simp; omega
    · rename_i k
      simp at h k
      constructor
      · intro e; exact .inr ⟨h, .inr ⟨k, e⟩⟩
      · rintro (e | ⟨_, e | ⟨_, e⟩⟩)
        · omega
        · omega
        · exact e
theorem owLt_trans {a b c : Ow} (h : owLt a b = true) (k : owLt b c = true) : owLt a c = true := by
  rw [owLt_iff] at *
  rcases h with h | ⟨h1, h | ⟨h2, h⟩⟩ <;> rcases k with k | ⟨k1, k | ⟨k2, k⟩⟩
  case inr.inr.inr.inr => exact .inr ⟨by omega, .inr ⟨by omega, bl_trans h k⟩⟩
  case inl.inl => exact .inl (by omega)
  case inl.inr.inl => exact .inl (by omega)
  case inl.inr.inr => exact .inl (by omega)
  case inr.inl.inl => exact .inl (by omega)
  case inr.inr.inl => exact .inl (by omega)
  case inr.inl.inr.inl => exact .inr ⟨by omega, .inl (by omega)⟩
  case inr.inl.inr.inr => exact .inr ⟨by omega, .inl (by omega)⟩
  case inr.inr.inr.inl => exact .inr ⟨by omega, .inl (by omega)⟩
/-! ### cmp.Compare, cmp.Or -/
def cmpI (x y : Int) : Int := if x < y then -1 else if y < x then 1 else 0
def cmpS (x y : ByteArray) : Int := if bl x.toList y.toList = true then -1 else if x.toList = y.toList then 0 else 1
def or3 (x y z : Int) : Int := if x ≠ 0 then x else if y ≠ 0 then y else z
def ordO (a b : Ow) : Int := or3 (cmpI a.a b.a) (cmpI a.v b.v) (cmpS a.f b.f)
theorem ordO_lt (a b : Ow) : decide (ordO a b < 0) = owLt a b := by
  rw [Bool.eq_iff_iff, owLt_iff, decide_eq_true_eq]
  unfold ordO or3 cmpI cmpS
  rcases Int.lt_trichotomy a.a b.a with h | h | h
  · rw [if_pos h, if_pos (by decide)]; constructor
    · intro _; exact .inl h
    · intro _; decide
  · rw [h, if_neg (Int.lt_irrefl _), if_neg (Int.lt_irrefl _), if_neg (by decide)]
    rcases Int.lt_trichotomy a.v b.v with k | k | k
    · rw [if_pos k, if_pos (by decide)]; constructor
      · intro _; exact .inr ⟨rfl, .inl k⟩
      · intro _; decide
    · rw [k, if_neg (Int.lt_irrefl _), if_neg (Int.lt_irrefl _), if_neg (by decide)]
      cases h5 : bl a.f.toList b.f.toList
      · constructor
        · intro e
          rw [if_neg (by decide)] at e
          split at e <;> omega
        · rintro (e | ⟨_, e | ⟨_, e⟩⟩)
          · omega
          · omega
          · cases e
      · constructor
        · intro _; exact .inr ⟨rfl, .inr ⟨rfl, rfl⟩⟩
        · intro _; rw [if_pos rfl]; decide
    · rw [if_neg (show ¬ a.v < b.v by omega), if_pos k, if_pos (by decide)]; constructor
      · intro e; omega
      · rintro (e | ⟨_, e | ⟨_, e⟩⟩) <;> omega
  · rw [if_neg (show ¬ a.a < b.a by omega), if_pos h, if_pos (by decide)]; constructor
    · intro e; omega
    · rintro (e | ⟨e, _⟩) <;> omega
end Go.Proofs.YtigldeccfpkdmaaGreatDoor
namespace Go.Proofs.YtigldeccfpkdmaaGreatDoor
open Go Go.RowKit Go.BigFrame Go.Shelf
theorem tab_low {w w' : World} {B : Nat} (h : TabP w) (hb : Below B w w') (hg : 9 ≤ B) : TabP w' := by
  unfold TabP Lib.TabIs World.var? at h ⊢
  have hgl : Tryz.prog.globalNamed "internal/strconv.uint64pow10" = some 2 := by kernel_rfl
  rw [hgl] at h ⊢
  simp only [Option.bind_some] at h ⊢
  rw [hb.block _ (by omega)]
  exact h
theorem sl5 {w : World} {b : Nat} {t : TypeId} {ps : List ByteArray} (h : Blk w b (ps.map Value.string).toArray t) : ∀ (j : Nat) x, ps[j]? = some x → w.cell? ⟨b, 0 + j, none⟩ = some (.string x) := fun j x hx => by
  rw [Nat.zero_add, h.cell]
  simp [hx]
theorem Blk.ok {w w' : World} {k b : Nat} {c : Array Value} {t : TypeId} (h : Blk w k c t) (hk : Lib.OthersKept 5 (some b) w w') (hb : k ≠ b) (ht : t ≠ 5) : Blk w' k c t := hk k _ h (by simpa using hb) (fun c' fz e => by cases e; exact ht rfl)
theorem Wr.lt {B b : Nat} {l : List UInt8} {w : World} (h : Wr B b l w) : b < w.heap.size := by
  obtain ⟨⟨_, v, h2, _⟩ | ⟨_, v, h2, _⟩⟩ := h
  · exact (Array.getElem?_eq_some_iff.1 h2).1
  · exact (Array.getElem?_eq_some_iff.1 h2).1
/-- What a count's line says. -/
def ctL (word : ByteArray) (c : Ct) : List ByteArray := [word, decB c.o.a, decB c.o.v, c.o.f, decB c.n]
/-- Numbers as small as those of right pools. -/
def Num (n : Int) : Prop := -1000000000000 < n ∧ n < 1000000000000
set_option maxHeartbeats 4000000 in
set_option maxRecDepth 100000 in
theorem impl_counted (B b : Nat) (l : List UInt8) (word : ByteArray) (c : Ct) (w : World) (h : Wr B b l w) (ht : TabP w) (hg : 9 ≤ B) (hBw : B ≤ w.heap.size) (n1 : Num c.o.a) (n2 : Num c.o.v) (n3 : Num c.n) (hlen : l.length + (lineL (ctL word c)).length ≤ 1000000) :
    Calls Tryz.prog 129 #[.pointer (some ⟨b, 0, none⟩), .string word, .agg #[.int .i64 c.o.a, .int .i64 c.o.v, .string c.o.f, .int .i64 c.n]] w fun e w' => e = .returned (.tuple #[]) ∧ Wr B b (l ++ lineL (ctL word c)) w' ∧ Below B w w' ∧ Lib.OthersKept 5 (some b) w w' := by
  obtain ⟨a1, a2⟩ := n1
  obtain ⟨b1, b2⟩ := n2
  obtain ⟨c1, c2⟩ := n3
  obtain ⟨da, hda⟩ : ∃ x, decB c.o.a = x := ⟨_, rfl⟩
  obtain ⟨dv, hdv⟩ : ∃ x, decB c.o.v = x := ⟨_, rfl⟩
  obtain ⟨dn, hdn⟩ : ∃ x, decB c.n = x := ⟨_, rfl⟩
  have hct : ctL word c = [word, da, dv, c.o.f, dn] := by unfold ctL; rw [hda, hdv, hdn]
  rw [hct] at hlen ⊢
  have C := Blk.new w #[.int .i64 c.o.a, .int .i64 c.o.v, .string c.o.f, .int .i64 c.n] 134
  have hB0 : Below w.heap.size w (w.alloc (.cells #[.int .i64 c.o.a, .int .i64 c.o.v, .string c.o.f, .int .i64 c.n] 134)) := (Below.refl _ _).alloc (Nat.le_refl _) _
  go_enter Tryz.func129, Tryz.ntmps129
  go_wp2_with fail
  generalize w.alloc (.cells #[.int .i64 c.o.a, .int .i64 c.o.v, .string c.o.f, .int .i64 c.n] 134) = W at *
  have hB0d : Below w.heap.size w W.drew := hB0.drew
  have hSB : ∀ u : World, Below W.heap.size W u → u.cell? ⟨w.heap.size, 0, none⟩ = some (.int .i64 c.o.a) ∧ u.cell? ⟨w.heap.size, 1, none⟩ = some (.int .i64 c.o.v) ∧ u.cell? ⟨w.heap.size, 2, none⟩ = some (.string c.o.f) ∧ u.cell? ⟨w.heap.size, 3, none⟩ = some (.int .i64 c.n) := fun u hu => ⟨(C.below hu).cell 0, (C.below hu).cell 1, (C.below hu).cell 2, (C.below hu).cell 3⟩
  have hS0 : (fun u : World => u.cell? ⟨w.heap.size, 0, none⟩ = some (.int .i64 c.o.a) ∧ u.cell? ⟨w.heap.size, 1, none⟩ = some (.int .i64 c.o.v) ∧ u.cell? ⟨w.heap.size, 2, none⟩ = some (.string c.o.f) ∧ u.cell? ⟨w.heap.size, 3, none⟩ = some (.int .i64 c.n)) W.drew := (hSB _ (Below.refl _ W).drew)
  refine wp_region_heldX (S := (fun u : World => u.cell? ⟨w.heap.size, 0, none⟩ = some (.int .i64 c.o.a) ∧ u.cell? ⟨w.heap.size, 1, none⟩ = some (.int .i64 c.o.v) ∧ u.cell? ⟨w.heap.size, 2, none⟩ = some (.string c.o.f) ∧ u.cell? ⟨w.heap.size, 3, none⟩ = some (.int .i64 c.n))) 18 (by kernel_rfl) rfl ?_
  refine takeL (i := 0) (v := ?vt101) rfl (by kernel_rfl) (by kernel_rfl) (by kernel_rfl) (fun _ _ _ h => h) (Or.inl ⟨by rfl, ?hyt101⟩) (by assumption) ?restt101
  case hyt101 => (intro u hu; obtain ⟨u0, u1, u2, u3⟩ := hu; go_simp <;> with_reducible rfl)
  try simp only [Act.put, lsA, lsB, lsC]
  refine takeL (i := 1) (v := ?vt102) rfl (by kernel_rfl) (by kernel_rfl) (by kernel_rfl) (fun _ _ _ h => h) (Or.inl ⟨by rfl, ?hyt102⟩) (by assumption) ?restt102
  case hyt102 => (intro u hu; obtain ⟨u0, u1, u2, u3⟩ := hu; go_simp <;> with_reducible rfl)
  try simp only [Act.put, lsA, lsB, lsC]
  refine takeL (i := 2) (v := ?vt103) rfl (by kernel_rfl) (by kernel_rfl) (by kernel_rfl) (fun _ _ _ h => h) (Or.inl ⟨by rfl, ?hyt103⟩) (by assumption) ?restt103
  case hyt103 => (intro u hu; obtain ⟨u0, u1, u2, u3⟩ := hu; go_simp <;> with_reducible rfl)
  try simp only [Act.put, lsA, lsB, lsC]
  refine takeL (i := 3) (v := ?vt104) rfl (by kernel_rfl) (by kernel_rfl) (by kernel_rfl) (fun _ _ _ h => h) (Or.inl ⟨by rfl, ?hyt104⟩) (by assumption) ?restt104
  case hyt104 => (intro u hu; obtain ⟨u0, u1, u2, u3⟩ := hu; go_simp <;> with_reducible rfl)
  try simp only [Act.put, lsA, lsB, lsC]
  refine takeL (i := 4) (v := ?vt105) rfl (by kernel_rfl) (by kernel_rfl) (by kernel_rfl) (fun _ _ _ h => h) (Or.inl ⟨by rfl, ?hyt105⟩) (by assumption) ?restt105
  case hyt105 => (intro u hu; obtain ⟨u0, u1, u2, u3⟩ := hu; go_simp <;> with_reducible rfl)
  try simp only [Act.put, lsA, lsB, lsC]
  refine takeL (i := 6) (v := ?vt106) rfl (by kernel_rfl) (by kernel_rfl) (by kernel_rfl) (fun _ _ _ h => h) (Or.inl ⟨by rfl, ?hyt106⟩) (by assumption) ?restt106
  case hyt106 => (intro u hu; obtain ⟨u0, u1, u2, u3⟩ := hu; go_simp <;> with_reducible rfl)
  try simp only [Act.put, lsA, lsB, lsC]
  refine takeL (i := 7) (v := ?vt107) rfl (by kernel_rfl) (by kernel_rfl) (by kernel_rfl) (fun _ _ _ h => h) (Or.inl ⟨by rfl, ?hyt107⟩) (by assumption) ?restt107
  case hyt107 => (intro u hu; obtain ⟨u0, u1, u2, u3⟩ := hu; go_simp <;> with_reducible rfl)
  try simp only [Act.put, lsA, lsB, lsC]
  refine takeL (i := 8) (v := ?vt108) rfl (by kernel_rfl) (by kernel_rfl) (by kernel_rfl) (fun _ _ _ h => h) (Or.inl ⟨by rfl, ?hyt108⟩) (by assumption) ?restt108
  case hyt108 => (intro u hu; obtain ⟨u0, u1, u2, u3⟩ := hu; go_simp <;> with_reducible rfl)
  try simp only [Act.put, lsA, lsB, lsC]
  refine takeL (i := 10) (v := ?vt109) rfl (by kernel_rfl) (by kernel_rfl) (by kernel_rfl) (fun _ _ _ h => h) (Or.inl ⟨by rfl, ?hyt109⟩) (by assumption) ?restt109
  case hyt109 => (intro u hu; obtain ⟨u0, u1, u2, u3⟩ := hu; go_simp <;> with_reducible rfl)
  try simp only [Act.put, lsA, lsB, lsC]
  refine takeL (i := 11) (v := ?vt110) rfl (by kernel_rfl) (by kernel_rfl) (by kernel_rfl) (fun _ _ _ h => h) (Or.inl ⟨by rfl, ?hyt110⟩) (by assumption) ?restt110
  case hyt110 => (intro u hu; obtain ⟨u0, u1, u2, u3⟩ := hu; go_simp <;> with_reducible rfl)
  try simp only [Act.put, lsA, lsB, lsC]
  refine takeL (i := 12) (v := ?vt111) rfl (by kernel_rfl) (by kernel_rfl) (by kernel_rfl) (fun _ _ _ h => h) (Or.inl ⟨by rfl, ?hyt111⟩) (by assumption) ?restt111
  case hyt111 => (intro u hu; obtain ⟨u0, u1, u2, u3⟩ := hu; go_simp <;> with_reducible rfl)
  try simp only [Act.put, lsA, lsB, lsC]
  refine takeL (i := 13) (v := ?vt112) rfl (by kernel_rfl) (by kernel_rfl) (by kernel_rfl) (fun _ _ _ h => h) (Or.inl ⟨by rfl, ?hyt112⟩) (by assumption) ?restt112
  case hyt112 => (intro u hu; obtain ⟨u0, u1, u2, u3⟩ := hu; go_simp <;> with_reducible rfl)
  try simp only [Act.put, lsA, lsB, lsC]
  refine takeL (i := 14) (v := ?vt113) rfl (by kernel_rfl) (by kernel_rfl) (by kernel_rfl) (fun _ _ _ h => h) (Or.inl ⟨by rfl, ?hyt113⟩) (by assumption) ?restt113
  case hyt113 => (intro u hu; obtain ⟨u0, u1, u2, u3⟩ := hu; go_simp <;> with_reducible rfl)
  try simp only [Act.put, lsA, lsB, lsC]
  refine oneL (i := 5) (by kernel_rfl) rfl (fun K hK => ?_)
  go_simp
  refine (impl_decimal c.o.a W.drew (by omega) (by omega) (tab_low ht (hB0d.mono hBw) hg)).mono ?_
  rintro e w1 ⟨rfl, hB1'⟩
  rw [hda]
  have hB1 : Below W.heap.size W w1 := chain (Below.refl _ W).drew hB1'
  have hC1 := chain hB0 hB1
  dsimp only
  refine hK.out _ _ (hSB _ hB1) (fun hHeld => ?_)
  clear hK K
  try simp only [Act.put, lsA, lsB, lsC]
  refine oneL (i := 9) (by kernel_rfl) rfl (fun K hK => ?_)
  go_simp
  refine (impl_decimal c.o.v w1 (by omega) (by omega) (tab_low ht (hC1.mono hBw) hg)).mono ?_
  rintro e w2 ⟨rfl, hB2'⟩
  rw [hdv]
  have hB2 := chain hB1 hB2'
  have hC2 := chain hB0 hB2
  dsimp only
  refine hK.out _ _ (hSB _ hB2) (fun hHeld => ?_)
  clear hK K
  try simp only [Act.put, lsA, lsB, lsC]
  refine oneL (i := 15) (by kernel_rfl) rfl (fun K hK => ?_)
  go_simp
  refine (impl_decimal c.n w2 (by omega) (by omega) (tab_low ht (hC2.mono hBw) hg)).mono ?_
  rintro e w3 ⟨rfl, hB3'⟩
  rw [hdn]
  have hB3 := chain hB2 hB3'
  have hC3 := chain hB0 hB3
  dsimp only
  refine hK.out _ _ (hSB _ hB3) (fun hHeld => ?_)
  clear hK K
  try simp only [Act.put, lsA, lsB, lsC]
  refine oneL (i := 16) (by kernel_rfl) rfl (fun K hK => ?_)
  go_simp
  have hA4 : Below w3.heap.size w3 (w3.alloc (.cells #[.string word, .string da, .string dv, .string c.o.f, .string dn] 9)) := (Below.refl _ _).alloc (Nat.le_refl _) _
  have X4 := Blk.new w3 #[.string word, .string da, .string dv, .string c.o.f, .string dn] 9
  have hB4 := chain hB3 hA4
  have hC4 := chain hB0 hB4
  have hz4 := hC4.size
  have hz3 := X4.lt
  refine hK.out _ _ (hSB _ hB4) (fun hHeld => ?_)
  clear hK K
  try simp only [Act.put, lsA, lsB, lsC]
  generalize w3.alloc (.cells #[.string word, .string da, .string dv, .string c.o.f, .string dn] 9) = w4 at *
  refine oneL (i := 17) (by kernel_rfl) rfl (fun K hK => ?_)
  go_simp
  refine (impl_line B b l [word, da, dv, c.o.f, dn] w3.heap.size 0 5 w4 (h.below hC4) (sl5 (ps := [word, da, dv, c.o.f, dn]) X4) hz3 (by simp) hlen (by simp) (by omega)).mono ?_
  rintro e w5 ⟨rfl, h5, hB5, hk5⟩
  dsimp only
  have C5 := (C.below hB4).ok hk5 (by have := h.lt; omega) (by decide)
  refine hK.out _ _ ⟨C5.cell 0, C5.cell 1, C5.cell 2, C5.cell 3⟩ (fun hHeld => ?_)
  clear hK K
  try simp only [Act.put, lsA, lsB, lsC]
  refine wpAnyH_done (by kernel_rfl) ?_ _
  go_wp2
  go_end0
  exact ⟨rfl, h5, (hC4.mono hBw).trans hB5, (ok_below hC4).trans hk5⟩
end Go.Proofs.YtigldeccfpkdmaaGreatDoor
