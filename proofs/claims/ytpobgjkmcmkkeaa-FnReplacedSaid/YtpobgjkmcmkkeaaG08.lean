/- A contract of the library (strings.Compare), laid at this program. Where a file is, or would be, by the program. Taking one row out of a slice of the call's own. Taking a file out. -/
import Derived.Test.YtpobgjkmcmkkeaaProg
import Derived.Shelf.Small.Strs
import Derived.Test.YtpobgjkmcmkkeaaG07
import Derived.Deep.RegionLaw
namespace Go.Proofs.Ytpobgjkmcmkkeaa
open Go.Shelf Go.RowKit Go.Lib

def cmpLy_ren : Go.Shelf.Ren := ⟨fun | 106 => 126 | 213 => 129 | 265 => 131 | n => n, fun | 9 => 9 | 3 => 3 | n => n, fun | n => n⟩
set_option maxRecDepth 100000 in
theorem cmpLy : Lays.n106 Try.prog cmpLy_ren where
  mixed := by kernel_rfl
  f106 := Try.func126.trans (congrArg some (by kernel_rfl))
  f213 := Try.func129.trans (congrArg some (by kernel_rfl))
  f265 := Try.func131.trans (congrArg some (by kernel_rfl))
  t3 := Try.underlying3
  a3 := Try.isAgg3
  z3 := Try.sizeOf3
  v3 := Try.zeroValue3
  t9 := Try.underlying9
  a9 := Try.isAgg9
  z9 := Try.sizeOf9
  v9 := Try.zeroValue9
theorem str_Compare (a b : ByteArray) (w : World) : Calls Try.prog 126 #[.string a, .string b] w fun e w' => e = .returned (.int .i64 (Lib.compareBytes a.toList b.toList)) ∧ w' = w := by
  rw [ByteArray.toList_eq, ByteArray.toList_eq]
  exact Any.strings_Compare cmpLy a b w
end Go.Proofs.Ytpobgjkmcmkkeaa
namespace Go.Proofs.Ytpobgjkmcmkkeaa
open Go Go.RowKit Go.BigFrame

theorem u8_eq {a b : UInt8} (h1 : ¬ a < b) (h2 : ¬ b < a) : a = b := UInt8.le_antisymm (UInt8.not_lt.1 h2) (UInt8.not_lt.1 h1)
theorem u8_ne {a b : UInt8} (h : a < b) : ¬ a = b := by rintro rfl; exact UInt8.lt_irrefl _ h
theorem cmpB_lt : ∀ x y : List UInt8, decide (Lib.compareBytes x y < 0) = bl x y
  | [], [] => by simp [Lib.compareBytes, bl, Op.bytesLess]
  | [], _ :: _ => by simp [Lib.compareBytes, bl, Op.bytesLess]
  | _ :: _, [] => by simp [Lib.compareBytes, bl, Op.bytesLess]
  | a :: x, b :: y => by
    have ih := cmpB_lt x y
    by_cases h1 : a < b
    · simp [Lib.compareBytes, bl, Op.bytesLess, h1]
    · by_cases h2 : b < a
      · have h3 : ¬ a = b := fun e => u8_ne h2 e.symm
        simp [Lib.compareBytes, bl, Op.bytesLess, h1, h2, h3]
      · obtain rfl := u8_eq h1 h2
        simpa [Lib.compareBytes, bl, Op.bytesLess, h1] using ih
theorem cmpB_eq : ∀ x y : List UInt8, decide (Lib.compareBytes x y = 0) = (x == y)
  | [], [] => by simp [Lib.compareBytes]
  | [], _ :: _ => by simp [Lib.compareBytes]
  | _ :: _, [] => by simp [Lib.compareBytes]
  | a :: x, b :: y => by
    have ih := cmpB_eq x y
    by_cases h1 : a < b
    · have h3 := u8_ne h1
      simp [Lib.compareBytes, h1, h3]
    · by_cases h2 : b < a
      · have h3 : ¬ a = b := fun e => u8_ne h2 e.symm
        simp [Lib.compareBytes, h1, h2, h3]
      · obtain rfl := u8_eq h1 h2
        simpa [Lib.compareBytes, h1] using ih

theorem impl_cmpName (nm s : ByteArray) (pa : Option Addr) (pn pc : Nat) (w : World) :
    Calls Try.prog 125 #[.agg #[.string nm, .slice pa pn pc], .string s] w fun e w' => e = .returned (.int .i64 (Lib.compareBytes nm.toList s.toList)) ∧ Below w.heap.size w w' := by
  go_enter Try.func125, Try.ntmps125
  go_wp2_with (go_at_call 126; refine (str_Compare _ _ _).mono ?_; rintro e w' ⟨rfl, rfl⟩)
  go_returns
  exact ⟨rfl, by go_grown⟩

/-- Where the file is, or would be. -/
def plH (l : List Hy) (s : ByteArray) : Nat := (l.takeWhile (fun y => bl y.nm.toList s.toList)).length
def hasH (l : List Hy) (s : ByteArray) : Bool := match l[plH l s]? with | some y => y.nm.toList == s.toList | none => false
/-- By rising names. -/
def SrtH (l : List Hy) : Prop := ∀ (i j : Nat) x y, i < j → l[i]? = some x → l[j]? = some y → bl x.nm.toList y.nm.toList = true
theorem plH_is {s : ByteArray} : ∀ {l : List Hy} {i : Nat}, i ≤ l.length → (∀ (t : Nat) (x : Hy), t < i → l[t]? = some x → bl x.nm.toList s.toList = true) → (∀ (t : Nat) (x : Hy), i ≤ t → l[t]? = some x → bl x.nm.toList s.toList = false) → plH l s = i
  | [], i, hi, _, _ => by simp at hi; subst hi; rfl
  | y :: r, 0, _, _, h2 => by
    have := h2 0 y (Nat.le_refl _) rfl
    simp [plH, List.takeWhile, this]
  | y :: r, i + 1, hi, h1, h2 => by
    have := h1 0 y (by omega) rfl
    have ih := plH_is (s := s) (l := r) (i := i) (by simpa using hi) (fun t x ht hx => h1 (t + 1) x (by omega) (by simpa using hx)) (fun t x ht hx => h2 (t + 1) x (by omega) (by simpa using hx))
    unfold plH at ih ⊢
    simp [List.takeWhile, this, ih]
theorem SrtH.lo {l : List Hy} (h : SrtH l) {s : ByteArray} {m : Nat} {y : Hy} (hy : l[m]? = some y) (hb : bl y.nm.toList s.toList = true) : ∀ (t : Nat) (x : Hy), t < m + 1 → l[t]? = some x → bl x.nm.toList s.toList = true := by
  intro t x ht hx
  by_cases he : t = m
  · subst he; rw [hy] at hx; cases hx; exact hb
  · exact bl_trans (h t m x y (by omega) hx hy) hb
theorem SrtH.hi {l : List Hy} (h : SrtH l) {s : ByteArray} {m : Nat} {y : Hy} (hy : l[m]? = some y) (hb : bl y.nm.toList s.toList = false) : ∀ (t : Nat) (x : Hy), m ≤ t → l[t]? = some x → bl x.nm.toList s.toList = false := by
  intro t x ht hx
  by_cases he : t = m
  · subst he; rw [hy] at hx; cases hx; exact hb
  · cases hc : bl x.nm.toList s.toList
    · rfl
    · rw [bl_trans (h m t y x (by omega) hy hx) hc] at hb; cases hb

set_option maxHeartbeats 4000000 in
set_option maxRecDepth 100000 in
theorem impl_search (B : Nat) (a : Option Addr) (n cap : Nat) (rows : List Hr) (l : List Hy) (s : ByteArray) (w : World) (R : ResAt hrs 2 111 w B a n cap rows) (T : HsT B w rows l) (hs : SrtH l) (hn : n ≤ 4194304) :
    Calls Try.prog 124 #[.slice a n cap, .string s, .func (.func 125) #[] #[]] w fun e w' => e = .returned (.tuple #[.int .i64 (plH l s : Nat), .bool (hasH l s)]) ∧ Below w.heap.size w w' := by
  have hlen : Hid (l.length = n) := by show _ = _; rw [← T.len]; exact R.sl.len
  have hsH : Hid (SrtH l) := hs
  clear hs
  go_enter Try.func124, Try.ntmps124
  go_wp2_with fail
  go_loopw [9, 10, 11] (fun i9 i10 _h wr => ∃ (lo hi : Nat), i9 = .int .i64 lo ∧ i10 = .int .i64 hi ∧ lo ≤ hi ∧ hi ≤ n ∧ Hid ((∀ (t : Nat) (x : Hy), t < lo → l[t]? = some x → bl x.nm.toList s.toList = true) ∧ (∀ (t : Nat) (x : Hy), hi ≤ t → l[t]? = some x → bl x.nm.toList s.toList = false)) ∧ Below w.heap.size w wr) (fun i9 i10 _ _ => (intOf i10).toNat - (intOf i9).toNat)
  case atStart => exact ⟨0, n, rfl, rfl, Nat.zero_le _, Nat.le_refl _, ⟨fun t x h => absurd h (Nat.not_lt_zero _), fun t x h hx => by have := (List.getElem?_eq_some_iff.1 hx).1; rw [hlen.out] at this; omega⟩, Below.refl _ _⟩
  case round =>
    obtain ⟨lo, hi, rfl, rfl, hlh, hhn, hI, hB⟩ := hrel
    by_cases hlt : lo < hi
    · obtain ⟨b, r, y, rfl, hr, hy, hT, c0, c1⟩ := hr_at (R.below hB) (T.below hB) (show (lo + hi) / 2 < n by omega)
      obtain ⟨rn, pa, pn, pc⟩ := r
      simp only at c1
      have hy' : Hid (l[(lo + hi) / 2]? = some y) := hy
      have hcm := cmpB_lt y.nm.toList s.toList
      clear hr hy hT
      generalize hbl : bl y.nm.toList s.toList = q at hcm
      have hbl' : Hid (bl y.nm.toList s.toList = q) := hbl
      clear hbl
      have hc := fun u => impl_cmpName y.nm s pa pn pc u
      generalize Lib.compareBytes y.nm.toList s.toList = z at hcm hc
      cases q
      · have hz : ¬ z < 0 := by simpa using hcm
        clear hcm
        go_wp2_with (go_at_call 125; refine (hc _).mono ?_; rintro e w1 ⟨rfl, hB1⟩)
        go_roundw
        case rel => exact ⟨lo, (lo + hi) / 2, rfl, by go_num, by omega, by omega, ⟨hI.out.1, hsH.out.hi hy'.out hbl'.out⟩, chain hB hB1⟩
        case measure => simp [intOf]; omega
      · have hz : z < 0 := by simpa using hcm
        clear hcm
        go_wp2_with (go_at_call 125; refine (hc _).mono ?_; rintro e w1 ⟨rfl, hB1⟩)
        go_roundw
        case rel => exact ⟨(lo + hi) / 2 + 1, hi, by go_num, rfl, by omega, by omega, ⟨hsH.out.lo hy'.out hbl'.out, hI.out.2⟩, chain hB hB1⟩
        case measure => simp [intOf]; omega
    · obtain rfl : lo = hi := by omega
      have hpl : Hid (plH l s = lo) := plH_is (by rw [hlen.out]; omega) hI.out.1 hI.out.2
      clear hI
      by_cases hln : lo < n
      · obtain ⟨b, r, y, rfl, hr, hy, hT, c0, c1⟩ := hr_at (R.below hB) (T.below hB) hln
        obtain ⟨rn, pa, pn, pc⟩ := r
        simp only at c1
        have hh : Hid (hasH l s = (y.nm.toList == s.toList)) := by show _ = _; unfold hasH; rw [hpl.out, hy]
        have hcm := cmpB_eq y.nm.toList s.toList
        clear hr hy hT
        have hc := fun u => impl_cmpName y.nm s pa pn pc u
        generalize hbl : (y.nm.toList == s.toList) = q at hcm hh
        clear hbl
        generalize Lib.compareBytes y.nm.toList s.toList = z at hcm hc
        have hl1 : (lo : Int) < n := by omega
        cases q
        · have hz : ¬ z = 0 := by simpa using hcm
          have hz2 : (z == 0) = false := by simpa using hz
          clear hcm
          go_wp2_with (go_at_call 125; refine (hc _).mono ?_; rintro e w1 ⟨rfl, hB1⟩)
          go_returns
          exact ⟨by rw [hpl.out, hh.out]; rfl, chain hB hB1⟩
        · have hz : z = 0 := by simpa using hcm
          clear hcm
          subst hz
          go_wp2_with (go_at_call 125; refine (hc _).mono ?_; rintro e w1 ⟨rfl, hB1⟩)
          go_returns
          exact ⟨by rw [hpl.out, hh.out]; rfl, chain hB hB1⟩
      · have hh : Hid (hasH l s = false) := by
          show _ = _
          unfold hasH
          rw [hpl.out, List.getElem?_eq_none (by rw [hlen.out]; omega)]
        have hl1 : ¬ (lo : Int) < n := by omega
        go_wp2
        go_returns
        exact ⟨by rw [hpl.out, hh.out]; rfl, hB⟩

theorem impl_place (B sb : Nat) (a : Option Addr) (n cap : Nat) (rows : List Hr) (l : List Hy) (s : ByteArray) (w : World) (hS : Blk w sb #[.slice a n cap] 72) (R : ResAt hrs 2 111 w B a n cap rows) (T : HsT B w rows l) (hs : SrtH l) (hn : n ≤ 4194304) :
    Calls Try.prog 121 #[.pointer (some ⟨sb, 0, none⟩), .string s] w fun e w' => e = .returned (.tuple #[.int .i64 (plH l s : Nat), .bool (hasH l s)]) ∧ Below w.heap.size w w' := by
  have x0 : w.cell? ⟨sb, 0, none⟩ = some (.slice a n cap) := hS.cell 0
  have hc := impl_search B a n cap rows l s w R T hs hn
  clear hS R T hs
  generalize plH l s = p at *
  generalize hasH l s = q at *
  go_enter Try.func121, Try.ntmps121
  go_wp2_with (go_at_call 124; refine hc.mono ?_; rintro e w1 ⟨rfl, hB1⟩)
  go_returns
  exact ⟨rfl, hB1⟩
theorem impl_has (B sb : Nat) (a : Option Addr) (n cap : Nat) (rows : List Hr) (l : List Hy) (s : ByteArray) (w : World) (hS : Blk w sb #[.slice a n cap] 72) (R : ResAt hrs 2 111 w B a n cap rows) (T : HsT B w rows l) (hs : SrtH l) (hn : n ≤ 4194304) :
    Calls Try.prog 135 #[.pointer (some ⟨sb, 0, none⟩), .string s] w fun e w' => e = .returned (.bool (hasH l s)) ∧ Below w.heap.size w w' := by
  have hc := impl_place B sb a n cap rows l s w hS R T hs hn
  clear hS R T hs
  generalize plH l s = p at *
  generalize hasH l s = q at *
  go_enter Try.func135, Try.ntmps135
  go_wp2_with (go_at_call 121; refine hc.mono ?_; rintro e w1 ⟨rfl, hB1⟩)
  go_returns
  exact ⟨rfl, hB1⟩
end Go.Proofs.Ytpobgjkmcmkkeaa
namespace Go.Proofs.Ytpobgjkmcmkkeaa
open Go Go.RowKit Go.BigFrame

/-- An append that finds room, also of rows of the same block. -/
theorem wp_appRoom {α : Type} {cs : α → List Value} {size : Nat} {P : Program} {o : Oper} {a : Act} {w : World} {K : Act → World → Prop} {Q : Exit → Act → World → Prop}
    (s x : Operand) (t : TypeId) (ho : o.op = .call { callee := .builtin .append, args := #[s, x], argTypes := #[t, t] })
    (e : TypeId) (i : TypeInfo) (ht : P.underlying t = some (.slice e)) (hi : P.info? e = some i) (hsize : i.size = size)
    (hsz : ∀ y, (cs y).length = size) (hone : ∀ (l : List α), ∀ u ∈ l.flatMap cs, u.oneCell' = true)
    (b dn dcap : Nat) (c : Array Value) (hs : a.eval s = .slice (some ⟨b, 0, none⟩) dn dcap) (hb : Blk w b c e)
    (sb so sn scap : Nat) (ls : List α) (hx : a.eval x = .slice (some ⟨sb, so, none⟩) sn scap) (hsrc : SlAt cs size w (some ⟨sb, so, none⟩) sn ls)
    (hroom : dn + sn ≤ dcap) (hfit : (dn + sn) * size ≤ c.size)
    (h : ∀ w', Blk w' b (c.toList.take (dn * size) ++ ls.flatMap cs ++ c.toList.drop ((dn + sn) * size)).toArray e → w.grownBy w' (some b) → w'.heap.size = w.heap.size → K (a.put o.dst (.slice (some ⟨b, 0, none⟩) (dn + sn) dcap)) w') : o.wp P a w K Q := by
  subst hsize
  have hl : (ls.flatMap cs).length = sn * i.size := by rw [flat_len hsz, hsrc.len]
  have hr := run_append_room (P := P) w t o.type e i ht hi b dn dcap c hb ⟨sb, so, none⟩ sn scap (ls.flatMap cs) hl (SlAt.src hsz hsrc) (hone ls) hroom (by rw [hl, ← Nat.add_mul]; exact hfit)
  rw [hl, ← Nat.add_mul] at hr
  unfold Oper.wp execOp
  simp only [ho, resolve, invoke, builtin, Sem.run_bind, Sem.run_pure, Result.andThen_ok, List.map_toArray, List.map_cons, List.map_nil, hs, hx, hr]
  exact h _ (setRow_heap w b c _ e _ hb) ⟨rfl, rfl, rfl, by simp, fun k _ hk => setRow_other w b k _ (fun e => hk (by simp [e]))⟩ (by simp)

/-- `clear` of one element. -/
theorem run_clear_one {P : Program} (w : World) (t e ty : TypeId) (z : Value) (ht : P.underlying t = some (.slice e)) (hv : ∀ w, (zeroValue e).run P w = .ok z w) (zs : List Value) (hz : z.cells.toList = zs) (h1 : ∀ u ∈ zs, u.oneCell' = true) (b o cp : Nat) (c : Array Value) (e' : TypeId) (hb : Blk w b c e') (hfit : o + zs.length ≤ c.size) :
    (Builtin.clear_ #[t] ty #[.slice (some ⟨b, o, none⟩) 1 cp]).run P w = .ok (.tuple #[]) (w.setRow b (c.toList.take o ++ zs ++ c.toList.drop (o + zs.length)).toArray) := by
  have hzc : (Builtin.zeroCells z.cells 1).toList = zs := by
    rw [← hz]
    congr 1
    apply Array.ext
    · simp [Builtin.zeroCells]
    · intro j h1 h2
      simp [Builtin.zeroCells, Nat.mod_eq_of_lt h2]
      exact getElem!_pos z.cells j h2
  have hst := run_storeCells_at P b o e' zs 0 c w hb (by simpa using hfit) h1
  simp only [Nat.add_zero] at hst
  simp [Builtin.clear_, run_underlying ht, hv, hzc, hst]
theorem Blk.row {w : World} {b : Nat} {c c' : Array Value} {t : TypeId} (h : Blk w b c t) : Blk (w.setRow b c') b c' t := setRow_heap w b c c' t _ h
theorem grown_row (w : World) (b : Nat) (c : Array Value) : w.grownBy (w.setRow b c) (some b) := ⟨rfl, rfl, rfl, by simp, fun k _ hk => setRow_other w b k _ (fun e => hk (by simp [e]))⟩
theorem clear_one {P : Program} (w : World) (t e : TypeId) (z : Value) (ht : P.underlying t = some (.slice e)) (hv : ∀ w, (zeroValue e).run P w = .ok z w) (zs : List Value) (hz : z.cells.toList = zs) (h1 : ∀ u ∈ zs, u.oneCell' = true) (b o cp : Nat) (c : Array Value) (e' : TypeId) (hb : Blk w b c e') (hfit : o + zs.length ≤ c.size) :
    ∃ W2, (∀ ty, (Builtin.clear_ #[t] ty #[.slice (some ⟨b, o, none⟩) 1 cp]).run P w = .ok (.tuple #[]) W2) ∧ Blk W2 b (c.toList.take o ++ zs ++ c.toList.drop (o + zs.length)).toArray e' ∧ w.grownBy W2 (some b) ∧ W2.heap.size = w.heap.size :=
  ⟨_, fun ty => run_clear_one w t e ty z ht hv zs hz h1 b o cp c e' hb hfit, hb.row, grown_row _ _ _, by simp⟩
theorem zeroHeld : ∀ w : World, (zeroValue 111).run Try.prog w = .ok (.agg #[.string .empty, .slice none 0 0]) w := Try.zeroValue111

theorem erase_flat {α : Type} {cs : α → List Value} (l : List α) (p : Nat) : (l.eraseIdx p).flatMap cs = (l.take p).flatMap cs ++ (l.drop (p + 1)).flatMap cs := by
  rw [List.eraseIdx_eq_take_drop_succ, List.flatMap_append]
theorem take_flat {α : Type} {cs : α → List Value} {sz : Nat} (hsz : ∀ x, (cs x).length = sz) : ∀ (l : List α) (p : Nat), (l.flatMap cs).take (p * sz) = (l.take p).flatMap cs
  | [], p => by simp
  | x :: r, 0 => by simp
  | x :: r, p + 1 => by
    rw [List.flatMap_cons, List.take_succ_cons, List.flatMap_cons, Nat.add_mul, Nat.one_mul, Nat.add_comm, ← hsz x, List.take_append, List.take_of_length_le (by omega)]
    congr 1
    rw [Nat.add_sub_cancel_left, hsz x]
    exact take_flat hsz r p
/-- The cells behind Delete. -/
theorem del_cells {α : Type} {cs : α → List Value} {sz : Nat} (hsz : ∀ x, (cs x).length = sz) {c : Array Value} {n cap p : Nat} {l : List α} {zs : List Value} (hz : zs.length = sz) (hl : l.length = n) (hp : p < n) (hn : n ≤ cap) (hc : c.size = cap * sz) (ht : c.toList.take (n * sz) = l.flatMap cs) :
    let c1 := (c.toList.take (p * sz) ++ (l.drop (p + 1)).flatMap cs ++ c.toList.drop ((n - 1) * sz)).toArray
    let c2 := (c1.toList.take ((n - 1) * sz) ++ zs ++ c1.toList.drop ((n - 1) * sz + zs.length)).toArray
    c1.size = cap * sz ∧ c2.size = cap * sz ∧ c2.toList.take ((n - 1) * sz) = (l.eraseIdx p).flatMap cs := by
  intro c1 c2
  have e0 : c.toList.take (p * sz) = (l.take p).flatMap cs := by
    rw [← take_flat hsz, ← ht, List.take_take, Nat.min_eq_left (Nat.mul_le_mul_right _ (by omega))]
  have e1 : (l.eraseIdx p).length = n - 1 := by rw [List.length_eraseIdx, hl]; simp [hp]
  have e2 : c1.toList = (l.eraseIdx p).flatMap cs ++ c.toList.drop ((n - 1) * sz) := by
    show (c.toList.take (p * sz) ++ (l.drop (p + 1)).flatMap cs ++ c.toList.drop ((n - 1) * sz)) = _
    rw [e0, erase_flat]
  have e3 : ((l.eraseIdx p).flatMap cs).length = (n - 1) * sz := by rw [flat_len hsz, e1]
  have h1 : (n - 1) * sz + sz = n * sz := by rw [← Nat.succ_mul]; congr 1; omega
  have h2 : n * sz ≤ cap * sz := Nat.mul_le_mul_right _ hn
  have s1 : c1.size = cap * sz := by
    rw [← Array.length_toList, e2, List.length_append, e3, List.length_drop, Array.length_toList, hc]; omega
  have e4 : c1.toList.take ((n - 1) * sz) = (l.eraseIdx p).flatMap cs := by rw [e2, ← e3, List.take_left]
  have e5 : c2.toList = (l.eraseIdx p).flatMap cs ++ zs ++ c1.toList.drop ((n - 1) * sz + zs.length) := by
    show (c1.toList.take ((n - 1) * sz) ++ zs ++ c1.toList.drop ((n - 1) * sz + zs.length)) = _
    rw [e4]
  have s2 : c1.toList.length = cap * sz := by rw [Array.length_toList]; exact s1
  refine ⟨s1, ?_, ?_⟩
  · rw [← Array.length_toList, e5, List.length_append, List.length_append, e3, List.length_drop, s2, hz]; omega
  · rw [e5, List.append_assoc, ← e3, List.take_left]
theorem res_of_cells {α : Type} {cs : α → List Value} {sz : Nat} (hsz : ∀ x, (cs x).length = sz) {t : TypeId} {w : World} {B b n cap : Nat} {l : List α} {c : Array Value} (hb : Blk w b c t) (hB : B ≤ b) (hl : l.length = n) (hn : n ≤ cap) (hm : cap ≤ maxLen) (hc : c.size = cap * sz) (ht : c.toList.take (n * sz) = l.flatMap cs) : ResAt cs sz t w B (some ⟨b, 0, none⟩) n cap l := by
  refine ⟨⟨hl, fun i x hx => ⟨b, 0, rfl, fun j v hv => ?_⟩⟩, .inr ⟨b, rfl, hB, hn, hm, c, hb, hc, ht⟩⟩
  have h := flat_at hsz l hx hv
  rw [← ht] at h
  rw [List.getElem?_take] at h
  split at h
  · rw [Nat.zero_add, hb.cell, ← Array.getElem?_toList]; exact h
  · cases h

set_option maxHeartbeats 4000000 in
set_option maxRecDepth 100000 in
theorem held_Delete (B b n cap p : Nat) (rows : List Hr) (w : World) (R : ResAt hrs 2 111 w B (some ⟨b, 0, none⟩) n cap rows) (hp : p < n) (hn : n ≤ 4194304) :
    Calls Try.prog 122 #[.slice (some ⟨b, 0, none⟩) n cap, .int .i64 p, .int .i64 ((p : Int) + 1)] w fun e w' => e = .returned (.slice (some ⟨b, 0, none⟩) (n - 1) cap) ∧ ResAt hrs 2 111 w' B (some ⟨b, 0, none⟩) (n - 1) cap (rows.eraseIdx p) ∧ w.grownBy w' (some b) ∧ w'.heap.size = w.heap.size := by
  have hlen := R.sl.len
  rcases R.own with ⟨h0, _⟩ | ⟨b', ha, hB, hnc, hcm, c, hb, hc, ht⟩
  · cases h0
  cases ha
  have hKK := del_cells (zs := [.string .empty, .slice none 0 0]) hrs_len rfl hlen hp hnc hc ht
  replace hKK : Hid _ := hKK
  obtain ⟨i0, hi, hz0, hz1, hz2⟩ : ∃ i0, Try.prog.info? 111 = some i0 ∧ i0.zero = some (.agg #[.string .empty, .slice none 0 0]) ∧ i0.size = 2 ∧ i0.bytes = 40 := by
    have h := infoHr
    cases hh : Try.prog.info? 111 with
    | none => rw [hh] at h; cases h
    | some i0 => rw [hh] at h; simp at h; exact ⟨i0, rfl, h.1, h.2.1, h.2.2⟩
  obtain ⟨so, hA, hsrc⟩ : ∃ so : Nat, (if cap = p + 1 then some (⟨b, 0, none⟩ : Addr) else some ⟨b, (p + 1) * 2, none⟩) = some ⟨b, so, none⟩ ∧ Hid (SlAt hrs 2 w.drew (some ⟨b, so, none⟩) (n - (p + 1)) (rows.drop (p + 1))) := by
    by_cases h : cap = p + 1
    · exact ⟨0, by simp [h], ⟨by simp [hlen], fun i x hx => by
        have := (List.getElem?_eq_some_iff.1 hx).1
        simp [hlen] at this; omega⟩⟩
    · refine ⟨(p + 1) * 2, by simp [h], ⟨by simp [hlen], fun i x hx => ⟨b, _, rfl, fun j v hv => ?_⟩⟩⟩
      rw [List.getElem?_drop] at hx
      obtain ⟨b2, o2, e2, hc2⟩ := R.sl.cell _ _ hx
      cases e2
      have := hc2 j v hv
      show w.cell? _ = _
      rw [← this]
      congr 2
      omega
  have hel : (rows.eraseIdx p).length = n - 1 := by rw [List.length_eraseIdx, hlen]; simp [hp]
  have hpc : p ≤ cap := by omega
  have hqc : p + 1 ≤ cap := by omega
  have hz : Hid (2 ≤ c.size ∧ (p + (n - (p + 1))) * 2 ≤ c.size) := by
    show _ ∧ _
    omega
  have hnn : p + (n - (p + 1)) = n - 1 := by omega
  clear R ht hlen
  have hne : ¬ ((p : Int) = (p : Int) + 1) := by omega
  have hq1 : (0 : Int) ≤ (p : Int) + 1 := by omega
  have hq2 : (p : Int) + 1 ≤ n := by omega
  go_enter Try.func122, Try.ntmps122
  go_wp2_with fail
  have hS0 : (fun _ : World => True) w.drew := trivial
  refine wp_region_heldH (S := (fun _ => True)) 8 (by kernel_rfl) rfl ?_
  refine takeL (i := 0) (v := ?vq14001) rfl (by kernel_rfl) (by kernel_rfl) (by kernel_rfl) (fun _ _ _ h => h) (Or.inl ⟨by rfl, ?hyq14001⟩) (by assumption) ?restq14001
  case hyq14001 => (intro u hu; (try dsimp only at hu); go_simp <;> with_reducible rfl)
  try simp only [Act.put, List.setIfInBounds_toArray, List.set_cons_zero, List.set_cons_succ]
  refine takeL (i := 1) (v := ?vq14002) rfl (by kernel_rfl) (by kernel_rfl) (by kernel_rfl) (fun _ _ _ h => h) (Or.inl ⟨by rfl, ?hyq14002⟩) (by assumption) ?restq14002
  case hyq14002 => (intro u hu; (try dsimp only at hu); go_simp <;> with_reducible rfl)
  try simp only [Act.put, List.setIfInBounds_toArray, List.set_cons_zero, List.set_cons_succ]
  refine takeL (i := 2) (v := ?vq14003) rfl (by kernel_rfl) (by kernel_rfl) (by kernel_rfl) (fun _ _ _ h => h) (Or.inl ⟨by rfl, ?hyq14003⟩) (by assumption) ?restq14003
  case hyq14003 => (intro u hu; (try dsimp only at hu); go_simp <;> with_reducible rfl)
  try simp only [Act.put, List.setIfInBounds_toArray, List.set_cons_zero, List.set_cons_succ]
  refine takeL (i := 3) (v := ?vq14004) rfl (by kernel_rfl) (by kernel_rfl) (by kernel_rfl) (fun _ _ _ h => h) (Or.inl ⟨by rfl, ?hyq14004⟩) (by assumption) ?restq14004
  case hyq14004 => (intro u hu; (try dsimp only at hu); go_simp <;> with_reducible rfl)
  try simp only [Act.put, List.setIfInBounds_toArray, List.set_cons_zero, List.set_cons_succ]
  refine takeL (i := 4) (v := ?vq14005) rfl (by kernel_rfl) (by kernel_rfl) (by kernel_rfl) (fun _ _ _ h => h) (Or.inl ⟨by rfl, ?hyq14005⟩) (by assumption) ?restq14005
  case hyq14005 => (intro u hu; (try dsimp only at hu); go_simp <;> with_reducible rfl)
  try simp only [Act.put, List.setIfInBounds_toArray, List.set_cons_zero, List.set_cons_succ]
  refine takeL (i := 5) (v := ?vq14006) rfl (by kernel_rfl) (by kernel_rfl) (by kernel_rfl) (fun _ _ _ h => h) (Or.inl ⟨by rfl, ?hyq14006⟩) (by assumption) ?restq14006
  case hyq14006 => (intro u hu; (try dsimp only at hu); go_simp <;> with_reducible rfl)
  try simp only [Act.put, List.setIfInBounds_toArray, List.set_cons_zero, List.set_cons_succ]
  refine oneL (i := 6) (by kernel_rfl) rfl (fun K hK => ?_)
  refine step_app rfl (wp_appRoom _ _ _ rfl 111 i0 Try.underlying70 hi hz1 hrs_len hrs_one b p cap c rfl hb b so (n - (p + 1)) (cap - (p + 1)) (rows.drop (p + 1)) rfl hsrc.out (by omega) hz.out.2 (fun w1 P1 hg1 hs1 => ?_))
  rw [hnn] at P1
  rw [hnn]
  dsimp only
  refine hK.out _ _ trivial (fun hHeld => ?_)
  clear hK K
  try simp only [Act.put, List.setIfInBounds_toArray, List.set_cons_zero, List.set_cons_succ]
  refine takeL (i := 7) (v := ?vq14101) rfl (by kernel_rfl) (by kernel_rfl) (by kernel_rfl) (fun _ _ _ h => h) (Or.inl ⟨by rfl, ?hyq14101⟩) (by assumption) ?restq14101
  case hyq14101 => (intro u hu; (try dsimp only at hu); go_simp <;> with_reducible rfl)
  try simp only [Act.put, List.setIfInBounds_toArray, List.set_cons_zero]
  refine wpAnyH_done (by kernel_rfl) ?_ _
  obtain ⟨W2, hcl, P2, hg2, hs2⟩ := clear_one (P := Try.prog) w1 70 111 _ Try.underlying70 zeroHeld [.string .empty, .slice none 0 0] rfl (by simp [Value.oneCell']) b ((n - 1) * 2) (cap - (n - 1)) _ 111 P1 (by rw [hKK.out.1]; simp only [List.length_cons, List.length_nil]; omega)
  have R2 := res_of_cells (l := rows.eraseIdx p) hrs_len P2 hB hel (by omega) hcm hKK.out.2.1 hKK.out.2.2
  clear P1 P2 hHeld hS0
  have hG : Hid (w.grownBy W2 (some b)) := ⟨hg2.os.trans hg1.os, hg2.tape.trans hg1.tape, hg2.output.trans hg1.output, by have := hg1.size; have := hg2.size; simp at *; omega, fun k hk hk2 => (hg2.block k (by have := hg1.size; simp at this; omega) hk2).trans (hg1.block k hk hk2)⟩
  have hZ : Hid (W2.heap.size = w.heap.size) := by show _ = _; rw [hs2, hs1]; rfl
  clear hg1 hg2 hs1 hs2 hKK
  have hx1 : n - (n - 1) = 1 := by omega
  have hx2 : ¬ cap = n - 1 := by omega
  have hx3 : ((n - 1 : Nat) : Int) ≤ n := by omega
  have hx4 : (0 : Int) ≤ ((n - 1 : Nat) : Int) := by omega
  have hx5 : (n : Int) ≤ cap := by omega
  go_wp2
  go_returns
  exact ⟨rfl, R2, hG.out, hZ.out⟩
end Go.Proofs.Ytpobgjkmcmkkeaa
namespace Go.Proofs.Ytpobgjkmcmkkeaa
open Go Go.RowKit Go.BigFrame

set_option maxHeartbeats 4000000 in
set_option maxRecDepth 100000 in
theorem impl_lift_none (B sb : Nat) (a : Option Addr) (n cap : Nat) (rows : List Hr) (l : List Hy) (s : ByteArray) (w : World) (hS : Blk w sb #[.slice a n cap] 72) (R : ResAt hrs 2 111 w B a n cap rows) (T : HsT B w rows l) (hs : SrtH l) (hn : n ≤ 4194304) (hh : hasH l s = false) :
    Calls Try.prog 119 #[.pointer (some ⟨sb, 0, none⟩), .string s] w fun e w' => e = .returned (.agg #[.string s, .slice none 0 0]) ∧ Below w.heap.size w w' := by
  have hA : Below w.heap.size w (w.alloc (.cells #[.string .empty, .slice none 0 0] 111)) := (Below.refl _ _).alloc (Nat.le_refl _) _
  have D := Blk.new w #[.string .empty, .slice none 0 0] 111
  have hc := impl_place B sb a n cap rows l s _ (hS.below hA) (R.below hA) (T.below hA) hs hn
  rw [hh] at hc
  generalize plH l s = p at hc
  clear hS R T hs hh
  go_enter Try.func119, Try.ntmps119
  go_wp2_with fail
  refine hc.mono ?_
  rintro e w1 ⟨rfl, hB1⟩
  have D1 := D.below hB1
  have hB2 := chain hA hB1
  clear hc D hA hB1
  have z0 := D1.cell 0
  have z1 := D1.cell 1
  have q0 := D1.frozen 0
  have q1 := D1.frozen 1
  simp only [List.getElem?_toArray, List.getElem?_cons_zero, List.getElem?_cons_succ] at z0 z1
  go_wp2
  have D2 := (D1.set 0 (.string s)).set 1 (.slice none 0 0)
  simp only [List.setIfInBounds_toArray, List.set_cons_zero, List.set_cons_succ] at D2
  have hg : w1.grownBy ((w1.setCell ⟨w.heap.size, 0, none⟩ (.string s)).setCell ⟨w.heap.size, 1, none⟩ (.slice none 0 0)) (some w.heap.size) := grown_set (grown_set (World.grownBy.refl _ _) _ _) _ _
  have hB3 := hB2.grown hg hB2.size (fun j e => by cases e; exact Nat.le_refl _)
  generalize (w1.setCell ⟨w.heap.size, 0, none⟩ (.string s)).setCell ⟨w.heap.size, 1, none⟩ (.slice none 0 0) = W8 at *
  refine bodyPost_ret (results_cell_row rfl _ W8 w.heap.size _ _ _ _ rfl D2 Try.underlying111 rfl (by kernel_rfl)) rfl ?_
  exact ⟨rfl, hB3⟩

theorem erase_at {α : Type} {l : List α} {p i : Nat} {x : α} (h : (l.eraseIdx p)[i]? = some x) : ∃ j, l[j]? = some x ∧ j ≠ p ∧ j = (if i < p then i else i + 1) := by
  rw [List.getElem?_eraseIdx] at h
  split at h
  · exact ⟨i, h, by omega, by simp [*]⟩
  · exact ⟨i + 1, h, by omega, by simp [*]⟩
theorem HsT.erase {B : Nat} {w : World} {rows : List Hr} {l : List Hy} (h : HsT B w rows l) (p : Nat) : HsT B w (rows.eraseIdx p) (l.eraseIdx p) := by
  refine ⟨by rw [List.length_eraseIdx, List.length_eraseIdx, h.len], fun i r y h1 h2 => ?_, fun i j r s x y hij h1 h2 hx hy => ?_⟩
  · obtain ⟨j1, g1, _, e1⟩ := erase_at h1
    obtain ⟨j2, g2, _, e2⟩ := erase_at h2
    rw [← e1] at e2
    subst e2
    exact h.at' _ r y g1 g2
  · obtain ⟨j1, g1, _, e1⟩ := erase_at h1
    obtain ⟨j2, g2, _, e2⟩ := erase_at h2
    exact h.apart j1 j2 r s x y (by split at e1 <;> split at e2 <;> omega) g1 g2 hx hy

/-- All that was there is as it was, but the shelf and the block of its files. -/
def FrS (sb : Nat) (a : Option Addr) (w w' : World) : Prop := ∀ k, k < w.heap.size → k ≠ sb → (∀ ad, a = some ad → k ≠ ad.block) → w'.heap[k]? = w.heap[k]?
theorem FrS.of {sb : Nat} {a : Option Addr} {w w' : World} (h : Below w.heap.size w w') : FrS sb a w w' := fun k hk _ _ => h.block k hk
theorem FrS.grown {sb : Nat} {a : Option Addr} {w w1 w2 : World} {row : Option Nat} (h : FrS sb a w w1) (hs : w.heap.size ≤ w1.heap.size) (hg : w1.grownBy w2 row) (hr : ∀ k, row = some k → k = sb ∨ (∃ ad, a = some ad ∧ k = ad.block) ∨ w.heap.size ≤ k) : FrS sb a w w2 := fun k hk h1 h2 => by
  rw [hg.block k (by omega) (fun e => ?_)]
  · exact h k hk h1 h2
  · rcases hr k e.symm with h3 | ⟨ad, h3, h4⟩ | h3
    · exact h1 h3
    · exact h2 ad h3 h4
    · omega
theorem FrS.from {sb : Nat} {a : Option Addr} {w0 w w' : World} (h : FrS sb a w w') (hb : Below w0.heap.size w0 w) : FrS sb a w0 w' := fun k hk h1 h2 => (h k (Nat.lt_of_lt_of_le hk hb.size) h1 h2).trans (hb.block k hk)
theorem FrS.blk {sb : Nat} {a : Option Addr} {w w' : World} (h : FrS sb a w w') {k : Nat} {c : Array Value} {t : TypeId} (hk : Blk w k c t) (h1 : k ≠ sb) (h2 : ∀ ad, a = some ad → k ≠ ad.block) : Blk w' k c t := by
  unfold Blk; rw [h k hk.lt h1 h2]; exact hk
/-- What is left when a file was taken out. -/
structure Lifted (B B0 sb : Nat) (a : Option Addr) (n cap p : Nat) (rows : List Hr) (l : List Hy) (r : Hr) (y : Hy) (w w' : World) : Prop where
  sh : Blk w' sb #[.slice a (n - 1) cap] 72
  res : ResAt hrs 2 111 w' B a (n - 1) cap (rows.eraseIdx p)
  its : HsT B w' (rows.eraseIdx p) (l.eraseIdx p)
  one : HT B w' r y
  low : Below B0 w w'
  fr : FrS sb a w w'

set_option maxHeartbeats 4000000 in
set_option maxRecDepth 100000 in
theorem impl_lift_some (B B0 sb : Nat) (a : Option Addr) (n cap : Nat) (rows : List Hr) (l : List Hy) (s : ByteArray) (w : World) (hS : Blk w sb #[.slice a n cap] 72) (R : ResAt hrs 2 111 w B a n cap rows) (T : HsT B w rows l) (hs : SrtH l) (hn : n ≤ 4194304) (hh : hasH l s = true) (h0 : B0 ≤ B) (h1 : B0 ≤ sb) :
    Calls Try.prog 119 #[.pointer (some ⟨sb, 0, none⟩), .string s] w fun e w' => ∃ r y, rows[plH l s]? = some r ∧ l[plH l s]? = some y ∧ y.nm.toList = s.toList ∧ e = .returned (.agg #[.string y.nm, .slice r.pa r.pn r.pc]) ∧ Lifted B B0 sb a n cap (plH l s) rows l r y w w' := by
  have hA : Below w.heap.size w (w.alloc (.cells #[.string .empty, .slice none 0 0] 111)) := (Below.refl _ _).alloc (Nat.le_refl _) _
  have D := Blk.new w #[.string .empty, .slice none 0 0] 111
  have hc := impl_place B sb a n cap rows l s _ (hS.below hA) (R.below hA) (T.below hA) hs hn
  have hlen : l.length = n := by rw [← T.len]; exact R.sl.len
  obtain ⟨y, hy, hnm⟩ : ∃ y, l[plH l s]? = some y ∧ y.nm.toList = s.toList := by
    unfold hasH at hh
    cases hq : l[plH l s]? with
    | none => rw [hq] at hh; cases hh
    | some y => rw [hq] at hh; exact ⟨y, rfl, by simpa using hh⟩
  rw [hh] at hc
  generalize plH l s = p at *
  have hp : p < n := by rw [← hlen]; exact (List.getElem?_eq_some_iff.1 hy).1
  have hsb := hS.lt
  obtain ⟨b, r, y', rfl, hr, hy', hT, c0, c1⟩ := hr_at R T hp
  rw [hy] at hy'
  cases hy'
  have hbt : Hid (∃ c, Blk w b c 111) := by
    rcases R.own with ⟨e, _⟩ | ⟨b', e, _, _, _, c, hb, _⟩
    · cases e
    · cases e; exact ⟨c, hb⟩
  have hbB : B ≤ b := (R.block _ rfl).1
  have hbl : b < w.heap.size := (R.block _ rfl).2
  have hne : sb ≠ b := by
    rintro rfl
    obtain ⟨c, hb⟩ := hbt.out
    unfold Blk at hS hb
    rw [hS] at hb
    cases hb
  have hy2 : Hid (l[p]? = some y ∧ y.nm.toList = s.toList ∧ rows[p]? = some r) := ⟨hy, hnm, hr⟩
  clear hy hnm hr hs hh
  have hG : ∀ u, Below w.heap.size w u → Blk u sb #[.slice (some ⟨b, 0, none⟩) n cap] 72 ∧ ResAt hrs 2 111 u B (some ⟨b, 0, none⟩) n cap rows ∧ HsT B u rows l ∧ HT B u r y ∧ u.cell? ⟨b, p * 2, none⟩ = some (.string y.nm) ∧ u.cell? ⟨b, p * 2 + 1, none⟩ = some (.slice r.pa r.pn r.pc) := fun u hu => ⟨hS.below hu, R.below hu, T.below hu, hT.below hu, bcell hu c0, bcell hu c1⟩
  clear hS R T hT c0 c1 hlen
  obtain ⟨rn, pa, pn, pc⟩ := r
  simp only at hG
  have hp1 : (p : Int) < n := by omega
  have hp2 : (0 : Int) ≤ p := by omega
  go_enter Try.func119, Try.ntmps119
  go_wp2_with fail
  refine hc.mono ?_
  rintro e w1 ⟨rfl, hB1⟩
  have D1 := D.below hB1
  have hB2 := chain hA hB1
  clear hc D hA hB1
  obtain ⟨S1, R1, T1, N1, d0, d1⟩ := hG w1 hB2
  clear hG
  have x0 := S1.one
  have hA2 : Below w1.heap.size w1 (w1.alloc (.cells #[.string y.nm, .slice pa pn pc] 111)) := (Below.refl _ _).alloc (Nat.le_refl _) _
  have xa := fun ob => acell (w := w1) ob x0
  have hw1 := hB2.size
  have hw2 := D1.lt
  go_wp2_with fail
  obtain ⟨cb, hcb⟩ := hbt.out
  have hb2 := (hcb.below hB2).below hA2
  have ht3 := rowTy_blk hb2
  have S2 := S1.below hA2
  have D2 := D1.below hA2
  have F2 := Blk.new w1 #[.string y.nm, .slice pa pn pc] 111
  have T2 := T1.below hA2
  have N2 := N1.below hA2
  have hB3 := chain hB2 hA2
  refine (held_Delete B b n cap p rows _ (R1.below hA2) hp hn).mono ?_
  rintro e w3 ⟨rfl, R3, hg3, hs3⟩
  have S3 := S2.grown hg3 hne
  have D3 := D2.grown hg3 (show w.heap.size ≠ b by omega)
  have F3 := F2.grown hg3 (show w1.heap.size ≠ b by omega)
  have T3 := (T2.erase p).ty hg3 ht3 (by decide)
  have N3 := N2.ty hg3 ht3 (by decide)
  have hB4 : Below B0 w w3 := Below.grown (hB3.mono (show B0 ≤ w.heap.size by omega)) hg3 (by have := hB3.size; omega) (fun j e => by cases e; omega)
  have F4 : FrS sb (some ⟨b, 0, none⟩) w w3 := (FrS.of hB3).grown hB3.size hg3 (fun k e => .inr (.inl ⟨_, rfl, by cases e; rfl⟩))
  have hsz3 : w.heap.size ≤ w3.heap.size := by have := hB3.size; omega
  clear hbt hcb hb2 ht3 S2 D2 F2 T2 N2 hB3 S1 R1 T1 N1 D1 hg3 hA2 x0 xa d0 d1
  have y0 := S3.one
  have y1 := S3.frozen 0
  have z0 := D3.cell 0
  have z1 := D3.cell 1
  have q0 := D3.frozen 0
  have q1 := D3.frozen 1
  have v0 := F3.cell 0
  have v1 := F3.cell 1
  simp only [List.getElem?_toArray, List.getElem?_cons_zero, List.getElem?_cons_succ] at z0 z1 v0 v1
  have n1 : ¬ sb = w1.heap.size := by omega
  have n2 : ¬ w1.heap.size = sb := by omega
  have n3 : ¬ sb = w.heap.size := by omega
  have n4 : ¬ w.heap.size = sb := by omega
  have n5 : ¬ w.heap.size = w1.heap.size := by omega
  have n6 : ¬ w1.heap.size = w.heap.size := by omega
  go_wp2
  have hg4 : w3.grownBy (w3.setCell ⟨sb, 0, none⟩ (.slice (some ⟨b, 0, none⟩) (n - 1) cap)) (some sb) := grown_set (World.grownBy.refl _ _) _ _
  have S4 : Blk (w3.setCell ⟨sb, 0, none⟩ (.slice (some ⟨b, 0, none⟩) (n - 1) cap)) sb #[.slice (some ⟨b, 0, none⟩) (n - 1) cap] 72 := by simpa using S3.set 0 (.slice (some ⟨b, 0, none⟩) (n - 1) cap)
  have R4 := R3.ty hg4 (rowTy_blk S3) (by decide)
  have T4 := T3.ty hg4 (rowTy_blk S3) (by decide)
  have N4 := N3.ty hg4 (rowTy_blk S3) (by decide)
  have D4 := D3.grown hg4 n4
  have hw3 := D3.lt
  have hB5 := hB4.grown hg4 (by omega) (fun j e => by cases e; omega)
  have hw4 := D4.lt
  have F5 := F4.grown hsz3 hg4 (fun k e => .inl (by cases e; rfl))
  generalize w3.setCell ⟨sb, 0, none⟩ (.slice (some ⟨b, 0, none⟩) (n - 1) cap) = w4 at *
  have hg5 : w4.grownBy ((w4.setCell ⟨w.heap.size, 0, none⟩ (.string y.nm)).setCell ⟨w.heap.size, 1, none⟩ (.slice pa pn pc)) (some w.heap.size) := grown_set (grown_set (World.grownBy.refl _ _) _ _) _ _
  have D5 := (D4.set 0 (.string y.nm)).set 1 (.slice pa pn pc)
  simp only [List.setIfInBounds_toArray, List.set_cons_zero, List.set_cons_succ] at D5
  have S5 := S4.grown hg5 n3
  have R5 := R4.grown hg5 (fun ad e => by cases e; simp only; omega)
  have T5 := T4.ty hg5 (rowTy_blk D4) (by decide)
  have N5 := N4.ty hg5 (rowTy_blk D4) (by decide)
  have F6 := F5.grown (by omega) hg5 (fun k e => .inr (.inr (by cases e; exact Nat.le_refl _)))
  have hB6 := hB5.grown hg5 (by omega) (fun j e => by cases e; omega)
  generalize (w4.setCell ⟨w.heap.size, 0, none⟩ (.string y.nm)).setCell ⟨w.heap.size, 1, none⟩ (.slice pa pn pc) = W8 at *
  refine bodyPost_ret (results_cell_row rfl _ W8 w.heap.size _ _ _ _ rfl D5 Try.underlying111 rfl (by kernel_rfl)) rfl ?_
  exact ⟨⟨rn, pa, pn, pc⟩, y, hy2.out.2.2, hy2.out.1, hy2.out.2.1, rfl, ⟨S5, R5, T5, N5, hB6, F6⟩⟩
end Go.Proofs.Ytpobgjkmcmkkeaa
