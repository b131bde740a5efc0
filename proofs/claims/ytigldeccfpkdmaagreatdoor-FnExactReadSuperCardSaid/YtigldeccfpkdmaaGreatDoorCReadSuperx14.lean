/- Words of a line, by the model. Blocks of one type leave those of other types alone. A contract of the library, laid at this program. A contract of the library, laid at this program. -/
import Derived.Test.YtigldeccfpkdmaaGreatDoorCReadSuperx05
import Derived.Test.YtigldeccfpkdmaaGreatDoorCReadSuperx02
import Derived.Test.YtigldeccfpkdmaaGreatDoorProg
import Derived.Shelf.Strings.Prefix
import Derived.Shelf.Strings.SplitShaped
namespace Go.Proofs.YtigldeccfpkdmaaGreatDoor
open Go Go.RowKit Go.BigFrame
abbrev tcs : ByteArray → List Value := fun x => [Value.string x]
theorem tcs_len (x : ByteArray) : [Value.string x].length = 1 := rfl
theorem tcs_one : ∀ (l : List ByteArray), ∀ u ∈ l.flatMap tcs, u.oneCell' = true := by
  intro l u hu
  obtain ⟨x, _, hx⟩ := List.mem_flatMap.1 hu
  simp at hx
  subst hx; rfl
theorem sl_newT (w : World) (x : ByteArray) (t : TypeId) (b : Nat) (hb : b = w.heap.size) : SlAt tcs 1 (w.alloc (.cells #[.string x] t)) (some ⟨b, 0, none⟩) 1 [x] := by
  subst hb
  refine ⟨rfl, fun i y hy => ⟨w.heap.size, 0, rfl, fun j v hv => ?_⟩⟩
  obtain rfl : i = 0 := by have := (List.getElem?_eq_some_iff.1 hy).1; simp at this; exact this
  simp at hy
  subst hy
  obtain rfl : j = 0 := by have := (List.getElem?_eq_some_iff.1 hv).1; simp at this; exact this
  simp at hv
  subst hv
  simp
theorem infoT : (Tryz.prog.info? 9).map (fun i => (i.zero, i.size, i.bytes)) = some (some (.string .empty), 1, 16) := by kernel_rfl
theorem tts_at {w : World} {a : Option Addr} {n : Nat} {l : List ByteArray} (h : SlAt tcs 1 w a n l) {k : Nat} (hk : k < n) : ∃ b o s, a = some ⟨b, o, none⟩ ∧ l[k]? = some s ∧ w.cell? ⟨b, o + k, none⟩ = some (.string s) := by
  have hl : k < l.length := by rw [h.len]; exact hk
  have hx : l[k]? = some l[k] := by simp [hl]
  obtain ⟨b, o, ha, hc⟩ := h.cell k _ hx
  exact ⟨b, o, l[k], ha, hx, by have := hc 0 _ rfl; simpa using this⟩
theorem wdsN_fuel : ∀ (n k k' : Nat) (l : By), l.length ≤ n → l.length ≤ k → l.length ≤ k' → wdsN k l = wdsN k' l
  | 0, k, k', l, h, _, _ => by
    obtain rfl := List.eq_nil_of_length_eq_zero (Nat.le_zero.1 h)
    cases k <;> cases k' <;> rfl
  | n + 1, k, k', l, h, h1, h2 => by
    cases hc : cutB 32 l with
    | none =>
      have : ∀ k, wdsN k l = [l] := fun k => by
        cases k with
        | zero => rfl
        | succ k => rw [wdsN, hc]
      rw [this, this]
    | some q =>
      have hq : q.2.length < l.length := by
        obtain ⟨h1, _⟩ := cutB_some (a := q.1) (b := q.2) hc
        rw [h1]; simp; omega
      obtain ⟨k, rfl⟩ : ∃ j, k = j + 1 := ⟨k - 1, by omega⟩
      obtain ⟨k', rfl⟩ : ∃ j, k' = j + 1 := ⟨k' - 1, by omega⟩
      rw [wdsN, wdsN, hc]
      simp only
      rw [wdsN_fuel n k k' q.2 (by omega) (by omega) (by omega)]
theorem wdsA_none {l : By} (h : cutB 32 l = none) : wdsA l = [l] := by
  unfold wdsA
  cases l.length with
  | zero => rfl
  | succ k => rw [wdsN, h]
theorem wdsA_some {l : By} {q : By × By} (h : cutB 32 l = some q) : wdsA l = q.1 :: wdsA q.2 ∧ q.2.length < l.length := by
  have hq : q.2.length < l.length := by
    obtain ⟨h1, _⟩ := cutB_some (a := q.1) (b := q.2) h
    rw [h1]; simp; omega
  refine ⟨?_, hq⟩
  unfold wdsA
  obtain ⟨k, hk⟩ : ∃ j, l.length = j + 1 := ⟨l.length - 1, by omega⟩
  rw [hk, wdsN, h]
  simp only
  rw [wdsN_fuel _ k q.2.length q.2 (Nat.le_refl _) (by omega) (Nat.le_refl _)]
set_option maxHeartbeats 2000000 in
set_option maxRecDepth 100000 in
theorem spec_l7Words (s : ByteArray) (w : World) (hs : s.size ≤ 100000) :
    Calls Tryz.prog 89 #[.string s] w fun e w' => (∃ a n cap, e = .returned (.slice a n cap) ∧ n ≤ 100001 ∧ ResAt tcs 1 9 w' w.heap.size a n cap ((wdsA s.data.toList).map bA)) ∧ Below w.heap.size w w' := by
  obtain ⟨i0, hi0, hz0, hz1, hz2⟩ := info_parts infoT
  obtain ⟨R, hR⟩ : ∃ R, Hid ((wdsA s.data.toList).map bA = R) := ⟨_, rfl⟩
  rw [hR.out]
  go_enter Tryz.func89, Tryz.ntmps89
  go_wp2_with fail
  go_loopw [0, 3, 4] (fun sv out mv wr => ∃ (rest : ByteArray) (m : Bool) (acc : List ByteArray) (a : Option Addr) (n cap : Nat), sv = .string rest ∧ out = .slice a n cap ∧ mv = .bool m ∧ n + rest.size ≤ (if m = true then 100000 else 100001) ∧ ResAt tcs 1 9 wr w.heap.size a n cap acc ∧ Hid (R = acc ++ (if m = true then (wdsA rest.data.toList).map bA else [])) ∧ Below w.heap.size w wr) (fun sv _ mv _ => match sv, mv with | .string r, .bool true => r.size + 1 | _, _ => 0)
  case atStart => exact ⟨s, true, [], _, 0, 0, rfl, rfl, rfl, by simpa using hs, res_empty (Blk.new w #[] 9) (Nat.le_refl _), by show _ = _; rw [← hR.out]; rfl, by go_grown⟩
  case round =>
    obtain ⟨rest, m, acc, a, n, cap, rfl, rfl, rfl, hsz, hA, hI, hB⟩ := hrel
    cases m with
    | false =>
      have hfin : R = acc := by rw [hI.out]; simp
      subst hfin
      simp only [Bool.false_eq_true, if_false] at hsz
      go_wp2
      go_returns
      exact ⟨⟨a, n, cap, rfl, by omega, hA⟩, hB⟩
    | true =>
      simp only [if_true] at hsz hI
      have hws := hB.size
      go_wp2_with fail
      refine (spec_l1Cut 32 rest _ (by omega)).mono ?_
      rintro e w1 ⟨rfl, hB1⟩
      have hA1 := hA.below hB1
      replace hB1 := chain hB hB1
      have hw1 := hB1.size
      cases hc : cutB 32 rest.data.toList with
      | none =>
        have hv : cutV 32 rest = .tuple #[.string rest, .string ⟨#[]⟩, .bool false] := by unfold cutV; rw [hc]
        have hI2 : Hid (R = (acc ++ [rest]) ++ (if false = true then (wdsA (⟨#[]⟩ : ByteArray).data.toList).map bA else [])) := by
          show _ = _
          rw [hI.out, wdsA_none hc]
          simp [bA_data]
        rw [hv]
        clear hv hc hI hA hB
        go_wp2_with (at_builtin; refine wpList_app rfl (fun K hK => wp_app _ _ 79 rfl w.heap.size 9 i0 (.string .empty) 16 Tryz.underlying79 hi0 hz0 hz1 hz2 rfl (by decide) tcs_len tcs_one a n cap _ rfl (hA1.alloc _) _ 1 1 [rest] rfl (sl_newT _ _ _ _ (by first | rfl | simp)) (fun ad h => (by cases h; rfl)) (fun h => (by cases h)) (n + 1) rfl (by unfold maxLen; omega) (by omega) (by simp; omega) (fun a4 cap4 w4 R4 hg4 => hK _ _ ?_)))
        have hB4 : Below w.heap.size w w4 := Below.grown (by go_grown) hg4 (by simp; omega) (own_ge fun ad had => by have := (hA1.block ad had).1; omega)
        go_roundw
        case rel => exact ⟨⟨#[]⟩, false, acc ++ [rest], a4, n + 1, cap4, rfl, rfl, rfl, by show n + 1 + 0 ≤ _; simp; omega, R4, hI2, hB4⟩
        case measure => simp
      | some q =>
        have hv : cutV 32 rest = .tuple #[.string (bA q.1), .string (bA q.2), .bool true] := by unfold cutV; rw [hc]
        obtain ⟨hq1, hq2⟩ := wdsA_some hc
        have hI2 : Hid (R = (acc ++ [bA q.1]) ++ (if true = true then (wdsA (bA q.2).data.toList).map bA else [])) := by
          show _ = _
          rw [hI.out, hq1]
          simp [bA_list]
        have hqs : (bA q.2).size + 1 ≤ rest.size := by
          rw [Lib.size_eq, Lib.size_eq, bA_list]
          omega
        rw [hv]
        clear hv hc hI hA hB hq1 hq2
        generalize bA q.1 = one at *
        generalize bA q.2 = more at *
        go_wp2_with (at_builtin; refine wpList_app rfl (fun K hK => wp_app _ _ 79 rfl w.heap.size 9 i0 (.string .empty) 16 Tryz.underlying79 hi0 hz0 hz1 hz2 rfl (by decide) tcs_len tcs_one a n cap _ rfl (hA1.alloc _) _ 1 1 [one] rfl (sl_newT _ _ _ _ (by first | rfl | simp)) (fun ad h => (by cases h; rfl)) (fun h => (by cases h)) (n + 1) rfl (by unfold maxLen; omega) (by omega) (by simp; omega) (fun a4 cap4 w4 R4 hg4 => hK _ _ ?_)))
        have hB4 : Below w.heap.size w w4 := Below.grown (by go_grown) hg4 (by simp; omega) (own_ge fun ad had => by have := (hA1.block ad had).1; omega)
        go_roundw
        case rel => exact ⟨more, true, acc ++ [one], a4, n + 1, cap4, rfl, rfl, rfl, by simp; omega, R4, hI2, hB4⟩
        case measure => simp; omega
def idxN (w : List ByteArray) (i : Nat) : Int := match w[i]? with
  | none => -1
  | some x => (numP x.data.toList).getD (-1)
def idxW (w : List ByteArray) (i : Nat) : ByteArray := w[i]?.getD ⟨#[]⟩
set_option maxHeartbeats 2000000 in
theorem spec_l7Num (a : Option Addr) (n cap : Nat) (l : List ByteArray) (i : Nat) (w : World) (h : SlAt tcs 1 w a n l) (hl : ∀ x ∈ l, x.size ≤ 100000) :
    Calls Tryz.prog 90 #[.slice a n cap, .int .i64 i] w fun e w' => e = .returned (.int .i64 (idxN l i)) ∧ w' = w := by
  obtain ⟨R, hR⟩ : ∃ R, Hid (idxN l i = R) := ⟨_, rfl⟩
  rw [hR.out]
  go_enter Tryz.func90, Tryz.ntmps90
  by_cases hlt : i < n
  · obtain ⟨b, o, x, rfl, hx, c0⟩ := tts_at h hlt
    have hlt' : (i : Int) < n := by omega
    have hxs := hl x (List.mem_of_getElem? hx)
    have hf : Hid (R = (numP x.data.toList).getD (-1)) := by show _ = _; rw [← hR.out, idxN, hx]
    clear h hl hx
    go_wp2_with fail
    refine (spec_l1Int x _ (by omega)).mono ?_
    rintro e w1 ⟨rfl, rfl⟩
    cases hc : numP x.data.toList with
    | none =>
      have hf2 : R = -1 := by rw [hf.out, hc]; rfl
      rw [show intV none = .tuple #[.int .i64 0, .bool false] from rfl]
      go_wp2
      go_returns
      exact ⟨by rw [hf2]; rfl, rfl⟩
    | some m =>
      have hf2 : R = m := by rw [hf.out, hc]; rfl
      rw [show intV (some m) = .tuple #[.int .i64 m, .bool true] from rfl]
      go_wp2
      go_returns
      exact ⟨by rw [hf2]; rfl, rfl⟩
  · have hlt' : ¬ (i : Int) < n := by omega
    have hf2 : R = -1 := by rw [← hR.out, idxN, List.getElem?_eq_none (by rw [h.len]; omega)]
    go_wp2
    go_returns
    exact ⟨rfl, rfl⟩
set_option maxHeartbeats 2000000 in
theorem spec_l7Word (a : Option Addr) (n cap : Nat) (l : List ByteArray) (i : Nat) (w : World) (h : SlAt tcs 1 w a n l) :
    Calls Tryz.prog 91 #[.slice a n cap, .int .i64 i] w fun e w' => e = .returned (.string (idxW l i)) ∧ w' = w := by
  obtain ⟨R, hR⟩ : ∃ R, Hid (idxW l i = R) := ⟨_, rfl⟩
  rw [hR.out]
  go_enter Tryz.func91, Tryz.ntmps91
  by_cases hlt : i < n
  · obtain ⟨b, o, x, rfl, hx, c0⟩ := tts_at h hlt
    have hlt' : (i : Int) < n := by omega
    have hf2 : R = x := by rw [← hR.out, idxW, hx]; rfl
    clear h hx
    go_wp2
    go_returns
    exact ⟨by rw [hf2]; rfl, rfl⟩
  · have hlt' : ¬ (i : Int) < n := by omega
    have hf2 : R = ⟨#[]⟩ := by rw [← hR.out, idxW, List.getElem?_eq_none (by rw [h.len]; omega)]; rfl
    go_wp2
    go_returns
    exact ⟨rfl, rfl⟩
theorem wds_short {l : By} : ∀ {k : Nat}, ∀ w ∈ wdsN k l, w.length ≤ l.length := by
  intro k
  induction k generalizing l with
  | zero => intro w hw; simp [wdsN] at hw; subst hw; exact Nat.le_refl _
  | succ k ih =>
    intro w hw
    rw [wdsN] at hw
    split at hw
    · simp at hw; subst hw; exact Nat.le_refl _
    · next q hq =>
      obtain ⟨h1, _⟩ := cutB_some (a := q.1) (b := q.2) hq
      rcases List.mem_cons.1 hw with rfl | hw
      · rw [h1]; simp
      · have := ih w hw
        rw [h1]; simp; omega
end Go.Proofs.YtigldeccfpkdmaaGreatDoor
namespace Go.Proofs.YtigldeccfpkdmaaGreatDoor
open Go.RowKit Go.BigFrame
theorem slAt_grownT {α : Type} {cs : α → List Value} {sz : Nat} {w w' : World} {a : Option Addr} {n : Nat} {l : List α} {row : Option Nat} (h : SlAt cs sz w a n l) (hg : w.grownBy w' row) (hr : ∀ ad, a = some ad → some ad.block ≠ row) : SlAt cs sz w' a n l := by
  refine ⟨h.len, fun i x hx => ?_⟩
  obtain ⟨b, o, ha, hc⟩ := h.cell i x hx
  exact ⟨b, o, ha, fun j v hv => hg.cell (hc j v hv) (hr ⟨b, o, none⟩ ha)⟩
theorem blk_type {w : World} {b : Nat} {c c' : Array Value} {t t' : TypeId} (h : Blk w b c t) (h' : Blk w b c' t') : t = t' := by
  unfold Blk at h h'
  rw [h] at h'
  injection h' with e
  injection e
/-- The blocks that may turn are of this type. -/
def RowTy (w : World) (row : Option Nat) (t : TypeId) : Prop := ∀ k, row = some k → ∃ c, Blk w k c t
theorem rowTy_blk {w : World} {b : Nat} {c : Array Value} {t : TypeId} (h : Blk w b c t) : RowTy w (some b) t := fun k e => by cases e; exact ⟨c, h⟩
theorem ResAt.rowTy {α : Type} {cs : α → List Value} {sz : Nat} {t : TypeId} {w : World} {B n cap : Nat} {a : Option Addr} {l : List α} (h : ResAt cs sz t w B a n cap l) {m k : Nat} : RowTy w (Value.ownBlock (.slice a m k)) t := by
  rcases h.own with ⟨rfl, _⟩ | ⟨b, rfl, _, _, _, c, hc, _⟩
  · intro k e; simp [Value.ownBlock] at e
  · intro k e; simp [Value.ownBlock] at e; subst e; exact ⟨c, hc⟩
theorem ResAt.off {α : Type} {cs : α → List Value} {sz : Nat} {t : TypeId} {w w' : World} {B n cap : Nat} {a : Option Addr} {l : List α} {row : Option Nat} (h : ResAt cs sz t w B a n cap l) (hg : w.grownBy w' row) (hr : ∀ ad, a = some ad → some ad.block ≠ row) : ResAt cs sz t w' B a n cap l := by
  refine ⟨slAt_grownT h.sl hg hr, ?_⟩
  rcases h.own with h0 | ⟨b, ha, hB, h1, h2, c, hc, q⟩
  · exact .inl h0
  · exact .inr ⟨b, ha, hB, h1, h2, c, (hg.block _ hc.lt (hr _ ha)).trans hc, q⟩
theorem ResAt.ty {α : Type} {cs : α → List Value} {sz : Nat} {t t' : TypeId} {w w' : World} {B n cap : Nat} {a : Option Addr} {l : List α} {row : Option Nat} (h : ResAt cs sz t w B a n cap l) (hg : w.grownBy w' row) (hr : RowTy w row t') (ht : t ≠ t') : ResAt cs sz t w' B a n cap l := by
  refine h.off hg (fun ad e hc => ?_)
  obtain ⟨c', h'⟩ := hr _ hc.symm
  rcases h.own with ⟨h0, _⟩ | ⟨b, ha, _, _, _, c, hb, _⟩
  · rw [h0] at e; cases e
  · rw [ha] at e; cases e; exact ht (blk_type hb h')
theorem Blk.ty {w w' : World} {b : Nat} {c : Array Value} {t t' : TypeId} {row : Option Nat} (h : Blk w b c t) (hg : w.grownBy w' row) (hr : RowTy w row t') (ht : t ≠ t') : Blk w' b c t := by
  refine (hg.block _ h.lt (fun e => ?_)).trans h
  obtain ⟨c', h'⟩ := hr _ e.symm
  exact ht (blk_type h h')
theorem Blk.offB {w w' : World} {b B : Nat} {c : Array Value} {t : TypeId} {row : Option Nat} (h : Blk w b c t) (hg : w.grownBy w' row) (hr : ∀ k, row = some k → B ≤ k) (hb : b < B) : Blk w' b c t :=
  (hg.block _ h.lt (fun e => by have := hr b e.symm; omega)).trans h
theorem flat_set {α : Type} {cs : α → List Value} {sz : Nat} (hsz : ∀ x, (cs x).length = sz) {x x' : α} {v : Value} {j : Nat} (hj : j < sz) (hx' : cs x' = (cs x).set j v) : ∀ {l : List α} {i : Nat}, l[i]? = some x → (l.set i x').flatMap cs = (l.flatMap cs).set (i * sz + j) v
  | [], i, h => by simp at h
  | y :: r, 0, h => by
    obtain rfl : y = x := by simpa using h
    rw [List.set_cons_zero, List.flatMap_cons, List.flatMap_cons, hx', Nat.zero_mul, Nat.zero_add, List.set_append_left _ _ (by rw [hsz]; exact hj)]
  | y :: r, i + 1, h => by
    rw [List.set_cons_succ, List.flatMap_cons, List.flatMap_cons, flat_set hsz hj hx' (by simpa using h), List.set_append_right _ _ (by rw [hsz, Nat.add_mul]; omega), hsz, show (i + 1) * sz + j - sz = i * sz + j by rw [Nat.add_mul]; omega]
/-- One cell of such a slice is written. -/
theorem ResAt.set1 {α : Type} {cs : α → List Value} {sz : Nat} {t : TypeId} (hsz : ∀ x, (cs x).length = sz) {w : World} {B b n cap i j : Nat} {l : List α} {x x' : α} {v : Value} (h : ResAt cs sz t w B (some ⟨b, 0, none⟩) n cap l) (hi : l[i]? = some x) (hj : j < sz) (hx' : cs x' = (cs x).set j v) :
    ResAt cs sz t (w.setCell ⟨b, i * sz + j, none⟩ v) B (some ⟨b, 0, none⟩) n cap (l.set i x') := by
  have hin := (List.getElem?_eq_some_iff.1 hi).1
  have hll := h.sl.len
  rcases h.own with ⟨h0, _⟩ | ⟨b', ha, hB, hnc, hcm, c, hc, hs, ht⟩
  · cases h0
  · cases ha
    have hlen : (l.set i x').length = n := by rw [List.length_set]; exact hll
    have hrow : (w.setCell ⟨b, i * sz + j, none⟩ v).ownsRow B t sz (.slice (some ⟨b, 0, none⟩) n cap) n ((l.set i x').flatMap cs) := by
      refine ⟨by rw [flat_len hsz, hlen], .inr ⟨b, cap, _, rfl, hB, hc.set (i * sz + j) v, hnc, hcm, by simp [hs], ?_⟩⟩
      rw [Array.toList_setIfInBounds, List.take_set, ht, flat_set hsz hj hx' hi]
    obtain ⟨a', cap', e, R⟩ := res_of_row hsz hlen hrow
    cases e
    exact R
end Go.Proofs.YtigldeccfpkdmaaGreatDoor
namespace Go.Proofs.YtigldeccfpkdmaaGreatDoor
open Go.Shelf Go.RowKit Go.Lib
def hpL_ren : Go.Shelf.Ren := ⟨fun | 99 => 161 | 206 => 202 | n => n, fun | 9 => 9 | 4 => 4 | 3 => 3 | n => n, fun | n => n⟩
set_option maxRecDepth 100000 in
theorem hpL : Lays.n99 Tryz.prog hpL_ren where
  mixed := by kernel_rfl
  f99 := Tryz.func161.trans (congrArg some (by kernel_rfl))
  f206 := Tryz.func202.trans (congrArg some (by kernel_rfl))
  t3 := Tryz.underlying3
  a3 := Tryz.isAgg3
  z3 := Tryz.sizeOf3
  v3 := Tryz.zeroValue3
  t4 := Tryz.underlying4
  a4 := Tryz.isAgg4
  z4 := Tryz.sizeOf4
  v4 := Tryz.zeroValue4
  t9 := Tryz.underlying9
  a9 := Tryz.isAgg9
  z9 := Tryz.sizeOf9
  v9 := Tryz.zeroValue9
end Go.Proofs.YtigldeccfpkdmaaGreatDoor
namespace Go.Proofs.YtigldeccfpkdmaaGreatDoor
open Go.Shelf Go.RowKit Go.Lib
def snL_ren : Go.Shelf.Ren := ⟨fun | 147 => 160 | 221 => 159 | 268 => 199 | 138 => 200 | 143 => 201 | 195 => 231 | 197 => 232 | 218 => 233 | 219 => 191 | 260 => 258 | 217 => 222 | 225 => 223 | 224 => 224 | 267 => 225 | 266 => 251 | 314 => 252 | n => n, fun | 9 => 9 | 3 => 3 | 31 => 79 | 4 => 4 | 0 => 0 | 105 => 288 | 21 => 21 | 5 => 5 | 46 => 172 | 119 => 326 | 139 => 329 | 138 => 328 | 146 => 304 | 51 => 98 | n => n, fun | 1 => 1 | 3 => 5 | 4 => 6 | n => n⟩
set_option maxRecDepth 100000 in
theorem snL : Lays.n147 Tryz.prog snL_ren where
  mixed := by kernel_rfl
  f138 := Tryz.func200.trans (congrArg some (by kernel_rfl))
  f143 := Tryz.func201.trans (congrArg some (by kernel_rfl))
  f147 := Tryz.func160.trans (congrArg some (by kernel_rfl))
  f195 := Tryz.func231.trans (congrArg some (by kernel_rfl))
  f197 := Tryz.func232.trans (congrArg some (by kernel_rfl))
  f217 := Tryz.func222.trans (congrArg some (by kernel_rfl))
  f218 := Tryz.func233.trans (congrArg some (by kernel_rfl))
  f219 := Tryz.func191.trans (congrArg some (by kernel_rfl))
  f221 := Tryz.func159.trans (congrArg some (by kernel_rfl))
  f224 := Tryz.func224.trans (congrArg some (by kernel_rfl))
  f225 := Tryz.func223.trans (congrArg some (by kernel_rfl))
  f260 := Tryz.func258.trans (congrArg some (by kernel_rfl))
  f266 := Tryz.func251.trans (congrArg some (by kernel_rfl))
  f267 := Tryz.func225.trans (congrArg some (by kernel_rfl))
  f268 := Tryz.func199.trans (congrArg some (by kernel_rfl))
  f314 := Tryz.func252.trans (congrArg some (by kernel_rfl))
  t0 := Tryz.underlying0
  a0 := Tryz.isAgg0
  z0 := Tryz.sizeOf0
  v0 := Tryz.zeroValue0
  t3 := Tryz.underlying3
  a3 := Tryz.isAgg3
  z3 := Tryz.sizeOf3
  v3 := Tryz.zeroValue3
  t4 := Tryz.underlying4
  a4 := Tryz.isAgg4
  z4 := Tryz.sizeOf4
  v4 := Tryz.zeroValue4
  t5 := Tryz.underlying5
  a5 := Tryz.isAgg5
  z5 := Tryz.sizeOf5
  v5 := Tryz.zeroValue5
  t9 := Tryz.underlying9
  a9 := Tryz.isAgg9
  z9 := Tryz.sizeOf9
  v9 := Tryz.zeroValue9
  t21 := Tryz.underlying21
  a21 := Tryz.isAgg21
  z21 := Tryz.sizeOf21
  v21 := Tryz.zeroValue21
  t31 := Tryz.underlying79
  a31 := Tryz.isAgg79
  z31 := Tryz.sizeOf79
  v31 := Tryz.zeroValue79
  t46 := Tryz.underlying172
  a46 := Tryz.isAgg172
  z46 := Tryz.sizeOf172
  v46 := Tryz.zeroValue172
  t51 := Tryz.underlying98
  a51 := Tryz.isAgg98
  z51 := Tryz.sizeOf98
  v51 := Tryz.zeroValue98
  t105 := Tryz.underlying288
  a105 := Tryz.isAgg288
  z105 := Tryz.sizeOf288
  v105 := Tryz.zeroValue288
  t119 := Tryz.underlying326
  a119 := Tryz.isAgg326
  z119 := Tryz.sizeOf326
  t138 := Tryz.underlying328
  a138 := Tryz.isAgg328
  z138 := Tryz.sizeOf328
  v138 := Tryz.zeroValue328
  t139 := Tryz.underlying329
  a139 := Tryz.isAgg329
  z139 := Tryz.sizeOf329
  v139 := Tryz.zeroValue329
  t146 := Tryz.underlying304
  a146 := Tryz.isAgg304
  z146 := Tryz.sizeOf304
  v146 := Tryz.zeroValue304
  g1 := by kernel_rfl
  g3 := by kernel_rfl
  g4 := by kernel_rfl
end Go.Proofs.YtigldeccfpkdmaaGreatDoor
