/- Content of the model. Owners and counts as plain data: their order, the lists that are added up, and that two lists in order with the same sums are one. Counts added up: a list in order with no nought is told by its sums. The model's rounds of adding a count: plain facts; counts in memory. -/
import Derived.Test.YtigldeccfpkdmaaGreatDoorCSuperTextx03
import Derived.Laws.Cover1
import Derived.Test.YtigldeccfpkdmaaGreatDoorCSuperTextx00
import Derived.Test.YtigldeccfpkdmaaGreatDoorProg
import Derived.Test.YtigldeccfpkdmaaGreatDoorCSuperTextx02
namespace Go.Proofs.YtigldeccfpkdmaaGreatDoor
open Go.RowKit Go.BigFrame Go.Lib
theorem atG_find (addr : Int) : ∀ (l : List Ex) (k : Nat), (atG addr k l = -1 ∧ dataAtB addr l = ⟨#[]⟩) ∨ ∃ (j : Nat) (x : Ex), l[j]? = some x ∧ atG addr k l = (k : Int) + j ∧ dataAtB addr l = x.d
  | [], k => .inl ⟨rfl, rfl⟩
  | e :: r, k => by
    unfold atG dataAtB
    split
    · rename_i h; exact .inr ⟨0, e, rfl, by simp, rfl⟩
    · rename_i h
      rcases atG_find addr r (k + 1) with ⟨h1, h2⟩ | ⟨j, x, h1, h2, h3⟩
      · exact .inl ⟨h1, h2⟩
      · exact .inr ⟨j + 1, x, by simpa using h1, by rw [h2]; omega, h3⟩
set_option maxHeartbeats 2000000 in
set_option maxRecDepth 100000 in
theorem spec_l2Content (a : Option Addr) (n cap : Nat) (l : List Pt) (a' : Option Addr) (n' cap' : Nat) (e : List Ex) (w : World) (h : PtsAt w a n l) (h' : ExsAt w a' n' e) (hstr : Strs e) (hn : n ≤ 16) (hn' : n' ≤ 4194304) (hall : ∀ p ∈ l, 1 ≤ p.n ∧ p.n ≤ 100 ∧ (p.a ≠ 0 → 0 ≤ p.f ∧ p.f < 20)) :
    Calls Tryz.prog 180 #[.slice a n cap, .slice a' n' cap'] w fun x w' => RetStr x (cgo e ⟨#[]⟩ l) ∧ Below w.heap.size w w' := by
  have hlen : Hid (l.length = n) := h.len
  have hf : Hid (cgo e ⟨#[]⟩ l = cgo e ⟨#[]⟩ (l.drop 0)) := rfl
  generalize cgo e ⟨#[]⟩ l = R at *
  obtain ⟨i0, hi, hz0, hz1, hz2⟩ := info_parts info5
  go_enter Tryz.func180, Tryz.ntmps180
  go_wp2_with fail
  go_loopw [6, 7] (fun out ix wr => ∃ (k : Nat) (s : ByteArray), k ≤ n ∧ ix = .int .i64 k ∧ s.size ≤ 100 * k ∧ out = .string s ∧ Hid (R = cgo e s (l.drop k)) ∧ Below w.heap.size w wr) (fun _ ix _ => n - (intOf ix).toNat)
  case atStart => exact ⟨0, ⟨#[]⟩, Nat.zero_le _, rfl, by simp [ByteArray.size], rfl, hf, Below.refl _ _⟩
  case round =>
    obtain ⟨k, s, hk, rfl, hm, rfl, hI, hB⟩ := hrel
    have hsz := hB.size
    by_cases hlt : k < n
    · obtain ⟨b, o, p, rfl, hp, c0, c1, c2⟩ := pts_at (h.below hB) hlt
      have hd : Hid (l.drop k = p :: l.drop (k + 1)) := drop_at hp
      obtain ⟨hp1, hp2, hp3⟩ := hall p (List.mem_of_getElem? hp)
      obtain ⟨pa, pf, pn⟩ := p
      dsimp only at *
      obtain ⟨pk, rfl⟩ : ∃ pk : Nat, pn = pk := ⟨pn.toNat, by omega⟩
      cases ha : (pa == 0)
      · have hne : pa ≠ 0 := by simpa using ha
        obtain ⟨f0, f20⟩ := hp3 hne
        obtain ⟨fk, rfl⟩ : ∃ fk : Nat, pf = fk := ⟨pf.toNat, by omega⟩
        have hst : Hid (R = match pieceO e ⟨pa, fk, pk⟩ with | none => none | some d => cgo e (s ++ d) (l.drop (k + 1))) := by show _ = _; rw [hI.out, hd.out]; rfl
        have hpc : Hid (pieceO e ⟨pa, fk, pk⟩ = if ((dataAtB pa e).size : Int) < fk + pk then none else some ((dataAtB pa e).extract fk (fk + pk))) := by
          show _ = _
          simp only [pieceO, ha, Bool.false_eq_true, if_false, Int.toNat_natCast]
          rw [show ((fk : Int) + (pk : Int)).toNat = fk + pk by omega]
        have hD := dataAtB_str (addr := pa) hstr
        go_wp2_with fail
        refine (spec_l1At a' n' cap' e pa _ ((h'.below hB).alloc _) hn').mono ?_
        rintro x w3 ⟨rfl, rfl⟩
        rcases atG_find pa e 0 with ⟨g1, g2⟩ | ⟨j, x, g1, g2, g3⟩
        · rw [g1]
          rw [g2, if_pos (by simp [ByteArray.size]; omega)] at hpc
          clear hI hd hp c0 c1 c2
          go_wp2_with fail
          go_quiet (fail)
          go_wp2
          go_returns
          rw [hst.out, hpc.out]
          exact ⟨rfl, below_drewN (by go_grown) _⟩
        · rw [g2, show ((0 : Nat) : Int) + (j : Int) = j by omega]
          rw [g3] at hpc hD
          have hj : j < n' := by rw [← h'.len]; exact (List.getElem?_eq_some_iff.1 g1).1
          obtain ⟨b', o', x', rfl, hx', y0, y1⟩ := exs_at ((h'.below hB).alloc (.cells #[.int .i64 pa, .int .i64 fk, .int .i64 pk] 141)) hj
          rw [g1] at hx'
          obtain rfl := Option.some.inj hx'
          have hB2 : Below w.heap.size w (wr.alloc (.cells #[.int .i64 pa, .int .i64 fk, .int .i64 pk] 141)) := hB.alloc hsz _
          have z0 : (wr.alloc (.cells #[.int .i64 pa, .int .i64 fk, .int .i64 pk] 141)).cell? ⟨wr.heap.size, 0, none⟩ = some (.int .i64 pa) := by simp
          have z1 : (wr.alloc (.cells #[.int .i64 pa, .int .i64 fk, .int .i64 pk] 141)).cell? ⟨wr.heap.size, 1, none⟩ = some (.int .i64 fk) := by simp
          have z2 : (wr.alloc (.cells #[.int .i64 pa, .int .i64 fk, .int .i64 pk] 141)).cell? ⟨wr.heap.size, 2, none⟩ = some (.int .i64 pk) := by simp
          clear c0 c1 c2 hI hd hp g1 g2 g3
          generalize wr.alloc (.cells #[.int .i64 pa, .int .i64 fk, .int .i64 pk] 141) = W at *
          obtain ⟨xa, D⟩ := x
          dsimp only at *
          have hj1 : (0 : Int) ≤ j := by omega
          have hj2 : (j : Int) < n' := by omega
          have hj3 : decide ((j : Int) < 0) = false := by simp
          by_cases hlt2 : (D.size : Int) < fk + pk
          · rw [if_pos hlt2] at hpc
            go_wp2_with fail
            go_quiet (fail)
            go_wp2
            go_returns
            rw [hst.out, hpc.out]
            exact ⟨rfl, below_drewN hB2 _⟩
          · rw [if_neg hlt2] at hpc
            have hle : (fk : Int) + (pk : Int) ≤ D.size := by omega
            have hsl := fun W' => run_slice_string (P := Tryz.prog) W' 9 D .i64 .i64 fk (fk + pk) Tryz.underlying9 (by omega) (by omega) (by omega)
            rw [show ((fk : Int) + (pk : Int)).toNat = fk + pk by omega, Int.toNat_natCast] at hsl
            have hxs : (D.extract fk (fk + pk)).size = pk := by rw [ByteArray.size_extract]; omega
            generalize D.extract fk (fk + pk) = X at *
            go_wp2_with fail
            go_quiet (fail)
            have hB3 := below_drewN hB2 nq
            replace z0 : (W.drewN nq).cell? ⟨wr.heap.size, 0, none⟩ = some (.int .i64 pa) := z0
            replace z1 : (W.drewN nq).cell? ⟨wr.heap.size, 1, none⟩ = some (.int .i64 fk) := z1
            replace z2 : (W.drewN nq).cell? ⟨wr.heap.size, 2, none⟩ = some (.int .i64 pk) := z2
            replace y1 : (W.drewN nq).cell? ⟨b', o' + j * 2 + 1, none⟩ = some (.string D) := y1
            clear y0
            generalize W.drewN nq = W1 at *
            go_wp2_with fail
            go_quiet (fail)
            go_wp2
            go_roundw
            case rel => exact ⟨k + 1, s ++ X, by omega, by go_num, by rw [ByteArray.size_append]; omega, rfl, by show _ = _; rw [hst.out, hpc.out], below_drewN hB3 _⟩
            case measure => simp [intOf]; omega
      · have hst : Hid (R = cgo e (s ++ zs pk) (l.drop (k + 1))) := by
          show _ = _
          rw [hI.out, hd.out]
          simp [cgo, pieceO, ha]
        have hmk : ∀ u : World, (Instr.makeSlice 173 (.int .i64 (pk : Int)) (.int .i64 (pk : Int))).run Tryz.prog u = .ok (.slice (some ⟨u.heap.size, 0, none⟩) pk pk) (u.alloc (.cells (strCells (zs pk)).toArray 5)) := fun u => by
          have hm := run_make (P := Tryz.prog) u 173 5 i0 (.int .u8 0) Tryz.underlying173 hi hz0 .i64 .i64 (pk : Int) (pk : Int) (by omega) (Int.le_refl _) (by rw [hz2]; omega) (by omega)
          rw [zs_cells]
          simpa [hz1, Value.cells, madeCells, Builtin.zeroCells] using hm
        have hcv : ∀ u : World, (convert 173 9 (.slice (some ⟨u.heap.size, 0, none⟩) pk pk)).run Tryz.prog (u.alloc (.cells (strCells (zs pk)).toArray 5)) = .ok (.string (zs pk)) (u.alloc (.cells (strCells (zs pk)).toArray 5)) := fun u =>
          row_text (B := 0) (e := 5) (n := pk) ⟨by rw [strCells_length, zs_size, Nat.mul_one], .inr ⟨u.heap.size, pk, _, rfl, Nat.zero_le _, Blk.new u _ 5, Nat.le_refl _, by unfold maxLen; omega, by simp [strCells_length, zs_size], by rw [Nat.mul_one, List.take_of_length_le (by simp [strCells_length, zs_size])]⟩⟩ 173 Tryz.underlying173 Tryz.underlying5 9 Tryz.underlying9
        have hmk1 := hmk (wr.alloc (.cells #[.int .i64 pa, .int .i64 pf, .int .i64 pk] 141))
        have hcv1 := hcv (wr.alloc (.cells #[.int .i64 pa, .int .i64 pf, .int .i64 pk] 141))
        rw [show (wr.alloc (.cells #[.int .i64 pa, .int .i64 pf, .int .i64 pk] 141)).heap.size = wr.heap.size + 1 by simp] at hmk1 hcv1
        have hzsz := zs_size pk
        generalize zs pk = Z at *
        clear hmk hcv
        go_wp2
        go_roundw
        case rel => exact ⟨k + 1, s ++ Z, by omega, by go_num, by rw [ByteArray.size_append]; omega, rfl, hst, by go_grown⟩
        case measure => simp [intOf]; omega
    · obtain rfl : k = n := by omega
      go_wp2
      go_returns
      rw [hI.out, List.drop_of_length_le (by rw [hlen.out]; exact Nat.le_refl _)]
      exact ⟨rfl, hB⟩
end Go.Proofs.YtigldeccfpkdmaaGreatDoor
namespace Go.Proofs.YtigldeccfpkdmaaGreatDoor
open Go.RowKit
/-- An owner: Addr, Vol, File. -/
structure Ow where
  a : Int
  v : Int
  f : ByteArray
/-- A count: Owner, N. -/
structure Ct where
  o : Ow
  n : Int
def Ow.vs (o : Ow) : Array Value := #[.int .i64 o.a, .int .i64 o.v, .string o.f]
/-- The cells of a count. -/
def Ct.cs (c : Ct) : List Value := [.int .i64 c.o.a, .int .i64 c.o.v, .string c.o.f, .int .i64 c.n]
abbrev CtsAt := SlAt Ct.cs 4
theorem cts_at {w : World} {a : Option Addr} {n : Nat} {l : List Ct} (h : CtsAt w a n l) {k : Nat} (hk : k < n) :
    ∃ b o p, a = some ⟨b, o, none⟩ ∧ l[k]? = some p ∧ w.cell? ⟨b, o + k * 4, none⟩ = some (.int .i64 p.o.a) ∧ w.cell? ⟨b, o + k * 4 + 1, none⟩ = some (.int .i64 p.o.v) ∧ w.cell? ⟨b, o + k * 4 + 2, none⟩ = some (.string p.o.f) ∧ w.cell? ⟨b, o + k * 4 + 3, none⟩ = some (.int .i64 p.n) := by
  have hl : k < l.length := by rw [h.len]; exact hk
  have hx : l[k]? = some l[k] := by simp [hl]
  obtain ⟨b, o, ha, hc⟩ := h.cell k _ hx
  exact ⟨b, o, l[k], ha, hx, hc 0 _ rfl, hc 1 _ rfl, hc 2 _ rfl, hc 3 _ rfl⟩
/-! ### The order of texts -/
abbrev bl := Op.bytesLess
theorem bl_irrefl : ∀ x : List UInt8, bl x x = false
  | [] => rfl
  | a :: x => by simp [bl, Op.bytesLess]; exact bl_irrefl x
theorem bl_total : ∀ {x y : List UInt8}, bl x y = false → x ≠ y → bl y x = true
  | [], [], _, h => absurd rfl h
  | [], b :: y, h, _ => by simp [bl, Op.bytesLess] at h
  | a :: x, [], _, _ => rfl
  | a :: x, b :: y, h, hne => by
    simp only [bl, Op.bytesLess, Bool.or_eq_false_iff, Bool.and_eq_false_iff, decide_eq_false_iff_not] at h
    obtain ⟨h1, h2⟩ := h
    simp only [bl, Op.bytesLess, Bool.or_eq_true, Bool.and_eq_true, decide_eq_true_eq, beq_iff_eq]
    by_cases hab : a = b
    · subst hab
      right
      refine ⟨rfl, bl_total (h2.resolve_left (by simp)) (fun e => hne (by rw [e]))⟩
    · left
      have h1' : b.toNat ≤ a.toNat := by simpa [UInt8.lt_iff_toNat_lt] using h1
      have : a.toNat ≠ b.toNat := fun e => hab (UInt8.toNat_inj.1 e)
      rw [UInt8.lt_iff_toNat_lt]; omega
theorem bl_asymm : ∀ {x y : List UInt8}, bl x y = true → bl y x = false
  | [], [], h => by simp [bl, Op.bytesLess] at h
  | [], b :: y, _ => rfl
  | a :: x, [], h => by simp [bl, Op.bytesLess] at h
  | a :: x, b :: y, h => by
    simp only [bl, Op.bytesLess, Bool.or_eq_true, Bool.and_eq_true, decide_eq_true_eq, beq_iff_eq] at h
    simp only [bl, Op.bytesLess, Bool.or_eq_false_iff, Bool.and_eq_false_iff, decide_eq_false_iff_not, beq_eq_false_iff_ne]
    rcases h with h | ⟨rfl, h⟩
    · have h' := UInt8.lt_iff_toNat_lt.1 h
      refine ⟨fun k => by have := UInt8.lt_iff_toNat_lt.1 k; omega, .inl fun e => by subst e; omega⟩
    · exact ⟨fun k => by have := UInt8.lt_iff_toNat_lt.1 k; omega, .inr (bl_asymm h)⟩
theorem bl_trans : ∀ {x y z : List UInt8}, bl x y = true → bl y z = true → bl x z = true
  | [], [], _, h, _ => by simp [bl, Op.bytesLess] at h
  | [], b :: y, [], _, h => by simp [bl, Op.bytesLess] at h
  | [], b :: y, c :: z, _, _ => rfl
  | a :: x, [], _, h, _ => by simp [bl, Op.bytesLess] at h
  | a :: x, b :: y, [], _, h => by simp [bl, Op.bytesLess] at h
  | a :: x, b :: y, c :: z, h1, h2 => by
    simp only [bl, Op.bytesLess, Bool.or_eq_true, Bool.and_eq_true, decide_eq_true_eq, beq_iff_eq, UInt8.lt_iff_toNat_lt] at *
    rcases h1 with h1 | ⟨rfl, h1⟩
    · rcases h2 with h2 | ⟨rfl, h2⟩
      · left; omega
      · left; exact h1
    · rcases h2 with h2 | ⟨rfl, h2⟩
      · left; exact h2
      · right; exact ⟨rfl, bl_trans h1 h2⟩
theorem bytes_eq {x y : ByteArray} (h : x.toList = y.toList) : x = y := by
  rw [ByteArray.toList_eq, ByteArray.toList_eq] at h
  cases x; cases y
  congr 1
  exact Array.toList_inj.1 h
/-! ### The order of owners -/
def owEq (a b : Ow) : Bool := a.a == b.a && a.v == b.v && a.f.toList == b.f.toList
theorem owEq_iff {a b : Ow} : owEq a b = true ↔ a = b := by
  constructor
  · intro h
    simp [owEq] at h
    obtain ⟨⟨h1, h2⟩, h3⟩ := h
    cases a; cases b
    simp at *
    exact ⟨h1, h2, bytes_eq h3⟩
  · rintro rfl; simp [owEq]
def owLt (a b : Ow) : Bool := if a.a ≠ b.a then decide (a.a < b.a) else if a.v ≠ b.v then decide (a.v < b.v) else bl a.f.toList b.f.toList
theorem owLt_irrefl (a : Ow) : owLt a a = false := by simp [owLt, bl_irrefl]
theorem owLt_total {a b : Ow} (h : owLt a b = false) (hne : a ≠ b) : owLt b a = true := by
  by_cases h1 : a.a = b.a
  · by_cases h2 : a.v = b.v
    · have h3 : a.f.toList ≠ b.f.toList := fun e => hne (owEq_iff.1 (by simp [owEq, h1, h2, e]))
      simp only [owLt, h1, h2, ne_eq, not_true, if_false] at h ⊢
      exact bl_total h h3
    · simp only [owLt, h1, ne_eq, not_true, if_false, h2, not_false_eq_true, if_true, decide_eq_false_iff_not] at h
      simp only [owLt, h1, ne_eq, not_true, if_false, if_pos (Ne.symm h2), decide_eq_true_eq]; omega
  · simp only [owLt, ne_eq, h1, not_false_eq_true, if_true, decide_eq_false_iff_not] at h
    simp only [owLt, ne_eq, if_pos (Ne.symm h1), decide_eq_true_eq]; omega
theorem owLt_asymm {a b : Ow} (h : owLt a b = true) : owLt b a = false := by
  by_cases h1 : a.a = b.a
  · by_cases h2 : a.v = b.v
    · simp only [owLt, h1, h2, ne_eq, not_true, if_false] at h ⊢
      exact bl_asymm h
    · simp only [owLt, h1, ne_eq, not_true, if_false, h2, not_false_eq_true, if_true, decide_eq_true_eq] at h
      simp only [owLt, h1, ne_eq, not_true, if_false, if_pos (Ne.symm h2), decide_eq_false_iff_not]; omega
  · simp only [owLt, ne_eq, h1, not_false_eq_true, if_true, decide_eq_true_eq] at h
    simp only [owLt, ne_eq, if_pos (Ne.symm h1), decide_eq_false_iff_not]; omega
theorem owLt_iff {a b : Ow} : owLt a b = true ↔ a.a < b.a ∨ (a.a = b.a ∧ (a.v < b.v ∨ (a.v = b.v ∧ bl a.f.toList b.f.toList = true))) := by
  unfold owLt
  split
  · rename_i h; simp; omega
  · rename_i h
    split
    · rename_i k; simp; omega
    · rename_i k
      simp at h k
      constructor
      · intro e; exact .inr ⟨h, .inr ⟨k, e⟩⟩
      · rintro (e | ⟨_, e | ⟨_, e⟩⟩)
        · omega
        · omega
        · exact e
theorem owLt_trans {a b c : Ow} (h : owLt a b = true) (k : owLt b c = true) : owLt a c = true := by
  rw [owLt_iff] at *
  rcases h with h | ⟨h1, h | ⟨h2, h⟩⟩ <;> rcases k with k | ⟨k1, k | ⟨k2, k⟩⟩
  case inr.inr.inr.inr => exact .inr ⟨by omega, .inr ⟨by omega, bl_trans h k⟩⟩
  case inl.inl => exact .inl (by omega)
  case inl.inr.inl => exact .inl (by omega)
  case inl.inr.inr => exact .inl (by omega)
  case inr.inl.inl => exact .inl (by omega)
  case inr.inr.inl => exact .inl (by omega)
  case inr.inl.inr.inl => exact .inr ⟨by omega, .inl (by omega)⟩
  case inr.inl.inr.inr => exact .inr ⟨by omega, .inl (by omega)⟩
  case inr.inr.inr.inl => exact .inr ⟨by omega, .inl (by omega)⟩
/-! ### cmp.Compare, cmp.Or -/
def cmpI (x y : Int) : Int := if x < y then -1 else if y < x then 1 else 0
def cmpS (x y : ByteArray) : Int := if bl x.toList y.toList = true then -1 else if x.toList = y.toList then 0 else 1
def or3 (x y z : Int) : Int := if x ≠ 0 then x else if y ≠ 0 then y else z
def ordO (a b : Ow) : Int := or3 (cmpI a.a b.a) (cmpI a.v b.v) (cmpS a.f b.f)
theorem ordO_lt (a b : Ow) : decide (ordO a b < 0) = owLt a b := by
  rw [Bool.eq_iff_iff, owLt_iff, decide_eq_true_eq]
  unfold ordO or3 cmpI cmpS
  rcases Int.lt_trichotomy a.a b.a with h | h | h
  · rw [if_pos h, if_pos (by decide)]; constructor
    · intro _; exact .inl h
    · intro _; decide
  · rw [h, if_neg (Int.lt_irrefl _), if_neg (Int.lt_irrefl _), if_neg (by decide)]
    rcases Int.lt_trichotomy a.v b.v with k | k | k
    · rw [if_pos k, if_pos (by decide)]; constructor
      · intro _; exact .inr ⟨rfl, .inl k⟩
      · intro _; decide
    · rw [k, if_neg (Int.lt_irrefl _), if_neg (Int.lt_irrefl _), if_neg (by decide)]
      cases h5 : bl a.f.toList b.f.toList
      · constructor
        · intro e
          rw [if_neg (by decide)] at e
          split at e <;> omega
        · rintro (e | ⟨_, e | ⟨_, e⟩⟩)
          · omega
          · omega
          · cases e
      · constructor
        · intro _; exact .inr ⟨rfl, .inr ⟨rfl, rfl⟩⟩
        · intro _; rw [if_pos rfl]; decide
    · rw [if_neg (show ¬ a.v < b.v by omega), if_pos k, if_pos (by decide)]; constructor
      · intro e; omega
      · rintro (e | ⟨_, e | ⟨_, e⟩⟩) <;> omega
  · rw [if_neg (show ¬ a.a < b.a by omega), if_pos h, if_pos (by decide)]; constructor
    · intro e; omega
    · rintro (e | ⟨e, _⟩) <;> omega
end Go.Proofs.YtigldeccfpkdmaaGreatDoor
namespace Go.Proofs.YtigldeccfpkdmaaGreatDoor
open Go.RowKit
/-- l3Add, as a plain function. -/
def addC : List Ct → Ct → List Ct
  | [], c => [c]
  | x :: r, c => if owLt x.o c.o = true then x :: addC r c else if owEq x.o c.o = true then (if x.n + c.n ≠ 0 then ⟨c.o, x.n + c.n⟩ :: r else r) else c :: x :: r
def sumC (l more : List Ct) : List Ct := more.foldl addC l
/-- All N of one owner. -/
def tot (o : Ow) : List Ct → Int
  | [] => 0
  | c :: r => (if owEq c.o o = true then c.n else 0) + tot o r
def Rising (l : List Ct) : Prop := l.Pairwise (fun x y => owLt x.o y.o = true)
def NoZero (l : List Ct) : Prop := ∀ c ∈ l, c.n ≠ 0
theorem owEq_self (o : Ow) : owEq o o = true := owEq_iff.2 rfl
theorem owEq_of_lt {a b : Ow} (h : owLt a b = true) : owEq a b = false := by
  cases e : owEq a b
  · rfl
  · rw [owEq_iff.1 e, owLt_irrefl] at h; cases h
theorem owEq_symm {a b : Ow} (h : owEq a b = false) : owEq b a = false := by
  cases e : owEq b a
  · rfl
  · rw [owEq_iff.1 e, owEq_self] at h; cases h
theorem tot_zero {o : Ow} : ∀ {l : List Ct}, (∀ c ∈ l, owLt o c.o = true) → tot o l = 0
  | [], _ => rfl
  | c :: r, h => by
    have h1 := owEq_symm (owEq_of_lt (h c (by simp)))
    simp only [tot, h1, Bool.false_eq_true, if_false]
    rw [tot_zero (fun x hx => h x (by simp [hx]))]; rfl
theorem tot_append (o : Ow) : ∀ (l m : List Ct), tot o (l ++ m) = tot o l + tot o m
  | [], m => by simp [tot]
  | c :: r, m => by simp only [List.cons_append, tot, tot_append o r m]; omega
theorem tot_addC (o : Ow) (c : Ct) : ∀ l : List Ct, tot o (addC l c) = tot o l + (if owEq c.o o = true then c.n else 0)
  | [] => by simp [addC, tot]
  | x :: r => by
    unfold addC
    split
    · simp only [tot, tot_addC o c r]; omega
    · split
      · rename_i h1 h2
        have e := owEq_iff.1 h2
        split
        · simp only [tot, e]; split <;> omega
        · simp only [tot, e]; split <;> omega
      · simp only [tot]; omega
theorem all_addC {z : Ow} {c : Ct} (hc : owLt z c.o = true) : ∀ {l : List Ct}, (∀ x ∈ l, owLt z x.o = true) → ∀ x ∈ addC l c, owLt z x.o = true
  | [], _ => by intro x hx; simp [addC] at hx; subst hx; exact hc
  | y :: r, h => by
    have hy := h y (by simp)
    have hr : ∀ x ∈ r, owLt z x.o = true := fun x hx => h x (by simp [hx])
    unfold addC
    split
    · intro x hx
      rcases List.mem_cons.1 hx with rfl | hx
      · exact hy
      · exact all_addC hc hr x hx
    · split
      · split
        · intro x hx
          rcases List.mem_cons.1 hx with rfl | hx
          · exact hc
          · exact hr x hx
        · exact hr
      · intro x hx
        rcases List.mem_cons.1 hx with rfl | hx
        · exact hc
        · exact h x hx
theorem rising_addC (c : Ct) : ∀ {l : List Ct}, Rising l → Rising (addC l c)
  | [], _ => by simp [addC, Rising]
  | y :: r, h => by
    obtain ⟨h1, h2⟩ := List.pairwise_cons.1 h
    unfold addC
    split
    · rename_i k
      exact List.pairwise_cons.2 ⟨all_addC k h1, rising_addC c h2⟩
    · rename_i k
      split
      · rename_i e
        have e := owEq_iff.1 e
        split
        · exact List.pairwise_cons.2 ⟨fun x hx => by simp only [← e]; exact h1 x hx, h2⟩
        · exact h2
      · rename_i e
        have hcy : owLt c.o y.o = true := owLt_total (by simpa using k) (fun e' => e (owEq_iff.2 e'))
        refine List.pairwise_cons.2 ⟨fun x hx => ?_, h⟩
        rcases List.mem_cons.1 hx with rfl | hx
        · exact hcy
        · exact owLt_trans hcy (h1 x hx)
theorem nozero_addC {c : Ct} (hc : c.n ≠ 0) : ∀ {l : List Ct}, NoZero l → NoZero (addC l c)
  | [], _ => by intro x hx; simp [addC] at hx; subst hx; exact hc
  | y :: r, h => by
    have hy := h y (by simp)
    have hr : NoZero r := fun x hx => h x (by simp [hx])
    unfold addC
    split
    · intro x hx
      rcases List.mem_cons.1 hx with rfl | hx
      · exact hy
      · exact nozero_addC hc hr x hx
    · split
      · split
        · rename_i k
          intro x hx
          rcases List.mem_cons.1 hx with rfl | hx
          · exact k
          · exact hr x hx
        · exact hr
      · intro x hx
        rcases List.mem_cons.1 hx with rfl | hx
        · exact hc
        · exact h x hx
/-- Two lists in order, with no nought, whose sums are the same are one. -/
theorem rising_unique : ∀ {l m : List Ct}, Rising l → Rising m → NoZero l → NoZero m → (∀ o, tot o l = tot o m) → l = m
  | [], [], _, _, _, _, _ => rfl
  | [], y :: s, _, hm, _, zm, h => by
    have := h y.o
    have hs := tot_zero (List.pairwise_cons.1 hm).1
    simp only [tot, owEq_self, if_true, hs] at this
    exact absurd (by omega) (zm y (by simp))
  | x :: r, [], hl, _, zl, _, h => by
    have := h x.o
    have hr := tot_zero (List.pairwise_cons.1 hl).1
    simp only [tot, owEq_self, if_true, hr] at this
    exact absurd (by omega) (zl x (by simp))
  | x :: r, y :: s, hl, hm, zl, zm, h => by
    obtain ⟨hl1, hl2⟩ := List.pairwise_cons.1 hl
    obtain ⟨hm1, hm2⟩ := List.pairwise_cons.1 hm
    have hr := tot_zero hl1
    have hs := tot_zero hm1
    cases hxy : owLt x.o y.o
    · cases hyx : owLt y.o x.o
      · have e : x.o = y.o := by
          cases e : owEq x.o y.o
          · have := owLt_total hxy (fun e' => by rw [owEq_iff.2 e'] at e; cases e)
            rw [hyx] at this; cases this
          · exact owEq_iff.1 e
        have h1 := h x.o
        rw [← e] at hs
        simp only [tot, ← e, owEq_self, if_true, hr, hs] at h1
        have exy : x = y := by cases x; cases y; simp at e h1 ⊢; exact ⟨e, h1⟩
        subst exy
        have : r = s := rising_unique hl2 hm2 (fun c hc => zl c (by simp [hc])) (fun c hc => zm c (by simp [hc])) (fun o => by have := h o; simp only [tot] at this; omega)
        rw [this]
      · have h1 := h y.o
        have hz : tot y.o r = 0 := tot_zero (fun c hc => owLt_trans hyx (hl1 c hc))
        have hne := owEq_symm (owEq_of_lt hyx)
        simp only [tot, owEq_self, if_true, hs, hne, Bool.false_eq_true, if_false, hz] at h1
        exact absurd (by omega) (zm y (by simp))
    · have h1 := h x.o
      have hz : tot x.o s = 0 := tot_zero (fun c hc => owLt_trans hxy (hm1 c hc))
      have hne := owEq_symm (owEq_of_lt hxy)
      simp only [tot, owEq_self, if_true, hr, hne, Bool.false_eq_true, if_false, hz] at h1
      exact absurd (by omega) (zl x (by simp))
theorem sum_facts : ∀ {more l : List Ct}, Rising l → NoZero l → NoZero more → Rising (sumC l more) ∧ NoZero (sumC l more) ∧ ∀ o, tot o (sumC l more) = tot o l + tot o more
  | [], l, hl, zl, _ => ⟨hl, zl, fun o => by simp [sumC, tot]⟩
  | c :: r, l, hl, zl, zm => by
    obtain ⟨h1, h2, h3⟩ := sum_facts (more := r) (rising_addC c hl) (nozero_addC (zm c (by simp)) zl) (fun x hx => zm x (by simp [hx]))
    refine ⟨h1, h2, fun o => ?_⟩
    have := h3 o
    rw [tot_addC] at this
    simp only [sumC, List.foldl_cons, tot] at this ⊢
    omega
end Go.Proofs.YtigldeccfpkdmaaGreatDoor
namespace Go.Proofs.YtigldeccfpkdmaaGreatDoor
open Go.RowKit
/-- One round of l3Add: what is told so far, and whether the count is in it. -/
def addStep (c : Ct) (s : List Ct × Bool) (x : Ct) : List Ct × Bool :=
  if s.2 = true then (s.1 ++ [x], true) else if owLt x.o c.o = true then (s.1 ++ [x], false) else
  if owEq x.o c.o = true then (if x.n + c.n ≠ 0 then (s.1 ++ [⟨c.o, x.n + c.n⟩], true) else (s.1, true)) else (s.1 ++ [c] ++ [x], true)
def addEnd (c : Ct) (s : List Ct × Bool) : List Ct := if s.2 = true then s.1 else s.1 ++ [c]
theorem add_done (c : Ct) : ∀ (l out : List Ct), l.foldl (addStep c) (out, true) = (out ++ l, true)
  | [], out => by simp
  | x :: r, out => by
    rw [List.foldl_cons, show addStep c (out, true) x = (out ++ [x], true) by simp [addStep], add_done c r]
    simp
theorem add_fold (c : Ct) : ∀ (l out : List Ct), addEnd c (l.foldl (addStep c) (out, false)) = out ++ addC l c
  | [], out => by simp [addEnd, addC]
  | x :: r, out => by
    rw [List.foldl_cons]
    unfold addC
    by_cases h1 : owLt x.o c.o = true
    · rw [show addStep c (out, false) x = (out ++ [x], false) by simp [addStep, h1], add_fold c r, if_pos h1]
      simp
    · by_cases h2 : owEq x.o c.o = true
      · by_cases h3 : x.n + c.n ≠ 0
        · rw [show addStep c (out, false) x = (out ++ [⟨c.o, x.n + c.n⟩], true) by simp [addStep, h1, h2, h3], add_done, if_neg h1, if_pos h2, if_pos h3]
          simp [addEnd]
        · rw [show addStep c (out, false) x = (out, true) by simp [addStep, h1, h2, h3], add_done, if_neg h1, if_pos h2, if_neg h3]
          simp [addEnd]
      · rw [show addStep c (out, false) x = (out ++ [c] ++ [x], true) by simp [addStep, h1, h2], add_done, if_neg h1, if_neg h2]
        simp [addEnd]
theorem ccs_len (p : Ct) : p.cs.length = 4 := rfl
theorem ccs_one (l : List Ct) : ∀ u ∈ l.flatMap Ct.cs, u.oneCell' = true := by
  intro u hu
  obtain ⟨p, _, hp⟩ := List.mem_flatMap.1 hu
  simp [Ct.cs] at hp
  rcases hp with rfl | rfl | rfl | rfl <;> rfl
theorem sl_oneC {w : World} {b : Nat} {p : Ct} (h0 : w.cell? ⟨b, 0, none⟩ = some (.int .i64 p.o.a)) (h1 : w.cell? ⟨b, 1, none⟩ = some (.int .i64 p.o.v)) (h2 : w.cell? ⟨b, 2, none⟩ = some (.string p.o.f)) (h3 : w.cell? ⟨b, 3, none⟩ = some (.int .i64 p.n)) : CtsAt w (some ⟨b, 0, none⟩) 1 [p] := by
  refine ⟨rfl, fun i x hx => ⟨b, 0, rfl, fun j v hv => ?_⟩⟩
  have hi : i = 0 := by have := (List.getElem?_eq_some_iff.1 hx).1; simp at this; exact this
  subst hi
  simp at hx
  subst hx
  match j, hv with
  | 0, hv => obtain rfl := Option.some.inj hv; exact h0
  | 1, hv => obtain rfl := Option.some.inj hv; exact h1
  | 2, hv => obtain rfl := Option.some.inj hv; exact h2
  | 3, hv => obtain rfl := Option.some.inj hv; exact h3
  | j + 4, hv => simp [Ct.cs] at hv
theorem sl_newC (w : World) (p : Ct) (t : TypeId) (b : Nat) (hb : b = w.heap.size) : CtsAt (w.alloc (.cells #[.int .i64 p.o.a, .int .i64 p.o.v, .string p.o.f, .int .i64 p.n] t)) (some ⟨b, 0, none⟩) 1 [p] := by
  subst hb; exact sl_oneC (by simp) (by simp) (by simp) (by simp)
theorem infoC : (Tryz.prog.info? 134).map (fun i => (i.zero, i.size, i.bytes)) = some (some (.agg #[.int .i64 0, .int .i64 0, .string .empty, .int .i64 0]), 4, 40) := by kernel_rfl
end Go.Proofs.YtigldeccfpkdmaaGreatDoor
