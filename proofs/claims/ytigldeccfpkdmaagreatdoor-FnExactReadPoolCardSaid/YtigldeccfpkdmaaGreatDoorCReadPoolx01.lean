/- Plain facts on the functions over lists of parts. The parts, as the model has them, and the laws' own helpers for parts. The laws' marks of texts. The laws' marks of texts, at a number that is told by an equation. Appending to a slice of the call's own: lists of elements of several cells. Appending one list behind another one: as a step of the walk, and as a step of a region that draws its order. Blocks of one type leave those of other types alone. -/
import Derived.Test.YtigldeccfpkdmaaGreatDoorCReadPoolx00
import Derived.Test.YtigldeccfpkdmaaGreatDoorProg
import Derived.Laws.BytesArg
import Derived.Deep.RegionLaw
import Derived.Laws.AppendOwnNone
namespace Go.Proofs.YtigldeccfpkdmaaGreatDoor
open Go.RowKit
/-- The model's PartsOk, its rounds. -/
def sgo : Option Pt → Int → List Pt → Bool
  | _, s, [] => decide (s ≤ 100)
  | none, s, p :: r => (partOkB p && decide (p.n ≤ 100)) && sgo (some p) (s + p.n) r
  | some q, s, p :: r => (partOkB p && decide (p.n ≤ 100)) && !goesOnB q p && sgo (some p) (s + p.n) r
theorem sgo_over (l : List Pt) : ∀ (q : Option Pt) (s : Int), 100 < s → sgo q s l = false := by
  induction l with
  | nil => intro q s h; cases q <;> simp [sgo] <;> omega
  | cons p r ih =>
    intro q s h
    cases hp : partOkB p
    · cases q <;> simp [sgo, hp]
    · have := partOkB_pos hp
      cases q <;> simp [sgo, ih _ (s + p.n) (by omega)]
theorem sgo_pgo (l : List Pt) : ∀ (q : Option Pt) (s : Int), 0 ≤ s → s ≤ 100 → sgo q s l = pgo q (100 - s) l := by
  induction l with
  | nil => intro q s h0 h1; cases q <;> simp [sgo, pgo] <;> omega
  | cons p r ih =>
    intro q s h0 h1
    cases hp : partOkB p
    · cases q <;> simp [sgo, pgo, hp]
    · have hpos := partOkB_pos hp
      by_cases hle : p.n ≤ 100 - s
      · have e := ih (some p) (s + p.n) (by omega) (by omega)
        have e2 : 100 - (s + p.n) = 100 - s - p.n := by omega
        have h100 : p.n ≤ 100 := by omega
        rw [e2] at e
        cases q <;> simp [sgo, pgo, hp, e, hle, h100]
      · have e := sgo_over r (some p) (s + p.n) (by omega)
        cases q <;> simp [sgo, pgo, e, hle]
theorem pgo_all (l : List Pt) : ∀ (q : Option Pt) (s : Int), 0 ≤ s → pgo q s l = true → (∀ p ∈ l, partOkB p = true) ∧ sumN l ≤ s := by
  induction l with
  | nil => intro q s h0 _; exact ⟨by simp, by simpa [sumN] using h0⟩
  | cons p r ih =>
    intro q s h0 h
    have hh : partOkB p = true ∧ p.n ≤ s ∧ pgo (some p) (s - p.n) r = true := by
      cases q
      · simp [pgo] at h; exact ⟨h.1.1, h.1.2, h.2⟩
      · simp [pgo] at h; exact ⟨h.1.1.1, h.1.1.2, h.2⟩
    obtain ⟨a, b⟩ := ih (some p) (s - p.n) (by omega) hh.2.2
    refine ⟨?_, by simp [sumN]; omega⟩
    intro x hx
    rcases List.mem_cons.1 hx with rfl | hx
    · exact hh.1
    · exact a x hx
theorem take_at {α : Type} {l : List α} {k : Nat} {x : α} (h : l[k]? = some x) : l.take (k + 1) = l.take k ++ [x] := by
  rw [List.take_add_one, h]; rfl
theorem partsOkB_all {l : List Pt} (h : partsOkB l = true) : l.length ≤ 16 ∧ (∀ p ∈ l, partOkB p = true) ∧ sumN l ≤ 100 := by
  simp [partsOkB] at h
  exact ⟨h.1, pgo_all l none 100 (by omega) h.2⟩
end Go.Proofs.YtigldeccfpkdmaaGreatDoor
namespace Go.Proofs.YtigldeccfpkdmaaGreatDoor
open Go.RowKit
theorem spec_l1In (n lo hi : Int) (w : World) :
    Calls Tryz.prog 54 #[.int .i64 n, .int .i64 lo, .int .i64 hi] w fun e w' => e = .returned (.bool (decide (lo ≤ n) && decide (n ≤ hi))) ∧ w' = w := by
  go_enter Tryz.func54, Tryz.ntmps54
  go_wp2
  all_goals go_returns
  all_goals go_light
  all_goals refine ⟨?_, rfl⟩
  all_goals simp_all
  all_goals try omega
theorem spec_l2Next (p q : Pt) (w : World) :
    Calls Tryz.prog 212 #[.agg #[.int .i64 p.a, .int .i64 p.f, .int .i64 p.n], .agg #[.int .i64 q.a, .int .i64 q.f, .int .i64 q.n]] w fun e w' => e = .returned (.bool (goesOnB p q)) ∧ Below w.heap.size w w' := by
  obtain ⟨a, f, n⟩ := p
  obtain ⟨b, g, m⟩ := q
  go_enter Tryz.func212, Tryz.ntmps212
  go_wp2
  all_goals go_returns
  all_goals go_light
  all_goals refine ⟨?_, by go_grown⟩
  all_goals simp_all [goesOnB]
  all_goals first | (rw [Bool.eq_iff_iff]; simp; omega) | omega
theorem spec_l2PartOk (p : Pt) (w : World) :
    Calls Tryz.prog 211 #[.agg #[.int .i64 p.a, .int .i64 p.f, .int .i64 p.n]] w fun e w' => e = .returned (.bool (partOkB p && decide (p.n ≤ 100))) ∧ Below w.heap.size w w' := by
  obtain ⟨a, f, n⟩ := p
  go_enter Tryz.func211, Tryz.ntmps211
  go_wp2
  all_goals go_returns
  all_goals go_light
  all_goals refine ⟨?_, by go_grown⟩
  all_goals simp [partOkB, *]
  all_goals try omega
  all_goals (rw [Bool.eq_iff_iff]; simp; omega)
def eqPtB (p q : Pt) : Bool := p.a == q.a && p.f == q.f && p.n == q.n
theorem laws_eqPart (p q : Pt) (w : World) :
    Calls Tryz.prog 272 #[.agg #[.int .i64 p.a, .int .i64 p.f, .int .i64 p.n], .agg #[.int .i64 q.a, .int .i64 q.f, .int .i64 q.n]] w fun e w' => e = .returned (.bool (eqPtB p q)) ∧ Below w.heap.size w w' := by
  obtain ⟨a, f, n⟩ := p
  obtain ⟨b, g, m⟩ := q
  go_enter Tryz.func272, Tryz.ntmps272
  go_wp2
  all_goals go_returns
  all_goals go_light
  all_goals refine ⟨?_, by go_grown⟩
  all_goals simp_all [eqPtB]
end Go.Proofs.YtigldeccfpkdmaaGreatDoor
namespace Go.Proofs.YtigldeccfpkdmaaGreatDoor
open Go.RowKit Go.BigFrame
/-- The digits of k ahead of o. -/
def mtGo (k : Nat) (o : ByteArray) : ByteArray := if k = 0 then o else mtGo (k / 10) (strOfNums [48 + (k : Int) % 10] ++ o)
  termination_by k
  decreasing_by omega
def markT (k : Nat) : ByteArray := ByteArray.mk #[109] ++ mtGo k .empty
theorem app_size (a b : ByteArray) : (a ++ b).size = a.size + b.size := ByteArray.size_append
set_option maxHeartbeats 1000000 in
set_option maxRecDepth 100000 in
theorem laws_markText (k : Nat) (w : World) (h1 : 1 ≤ k) (h2 : k ≤ 100000000) :
    Calls Tryz.prog 109 #[.int .i64 k] w fun e w' => e = .returned (.string (markT k)) ∧ Below w.heap.size w w' := by
  have hcv : ∀ (u : World) (x : Int), (convert 173 9 (.slice (some ⟨u.heap.size, 0, none⟩) 1 1)).run Tryz.prog (u.alloc (.cells #[.int .u8 x] 5)) = .ok (.string (strOfNums [x])) (u.alloc (.cells #[.int .u8 x] 5)) := fun u x =>
    run_convert_bytes_arg (P := Tryz.prog) _ 173 5 Tryz.underlying173 Tryz.underlying5 u.heap.size 0 1 1 [x] rfl (fun i hi => (by obtain rfl : i = 0 := (by omega); simp)) 9 Tryz.underlying9
  go_enter Tryz.func109, Tryz.ntmps109
  go_wp2_with fail
  go_loopw [0, 3] (fun kk out wr => ∃ (j : Nat) (o : ByteArray), kk = .int .i64 j ∧ out = .string o ∧ j ≤ 100000000 ∧ Hid (∃ m, j < 10 ^ m ∧ o.size + m ≤ 9) ∧ Hid (mtGo k .empty = mtGo j o) ∧ Below w.heap.size w wr) (fun kk _ _ => (intOf kk).toNat)
  case atStart => exact ⟨k, .empty, rfl, rfl, h2, ⟨9, by omega, by decide⟩, rfl, Below.refl _ _⟩
  case round =>
    obtain ⟨j, o, rfl, rfl, hj, hm, hI, hB⟩ := hrel
    have ho : o.size ≤ 9 := by obtain ⟨m, _, h⟩ := hm.out; omega
    by_cases hlt : 0 < j
    · have hss : ¬ 9223372036854775807 < (strOfNums [48 + (j : Int) % 10]).size + o.size := by rw [strOfNums_size]; simp; omega
      go_wp2
      go_roundw
      case rel =>
        refine ⟨j / 10, _, by go_num, rfl, by omega, ?_, ?_, hB.alloc hB.size _⟩
        · obtain ⟨m, h3, h4⟩ := hm.out
          cases m with
          | zero => simp at h3; omega
          | succ m => exact ⟨m, by rw [Nat.pow_succ] at h3; omega, by rw [app_size, strOfNums_size]; simp; omega⟩
        · show _ = _
          rw [hI.out, mtGo, if_neg (by omega)]
      case measure => simp [intOf]; omega
    · obtain rfl : j = 0 := by omega
      have hss : ¬ 9223372036854775807 < (ByteArray.mk #[109]).size + o.size := by show ¬ _ < 1 + _; omega
      go_wp2
      go_returns
      go_light
      refine ⟨?_, hB⟩
      unfold markT
      rw [hI.out, mtGo, if_pos rfl]
      rfl
end Go.Proofs.YtigldeccfpkdmaaGreatDoor
namespace Go.Proofs.YtigldeccfpkdmaaGreatDoor
open Go.RowKit Go.BigFrame
theorem laws_markTextZ (k : Nat) (x : Int) (hx : x = k) (w : World) (h1 : 1 ≤ k) (h2 : k ≤ 100000000) :
    Calls Tryz.prog 109 #[.int .i64 x] w fun e w' => e = .returned (.string (markT k)) ∧ Below w.heap.size w w' := by
  subst hx; exact laws_markText k w h1 h2
end Go.Proofs.YtigldeccfpkdmaaGreatDoor
namespace Go.Proofs.YtigldeccfpkdmaaGreatDoor
open Go.RowKit
theorem flat_len {α : Type} {cs : α → List Value} {sz : Nat} (hsz : ∀ x, (cs x).length = sz) (l : List α) : (l.flatMap cs).length = l.length * sz := by
  induction l with
  | nil => simp
  | cons x r ih => simp [ih, hsz, Nat.add_mul]; omega
theorem flat_at {α : Type} {cs : α → List Value} {sz : Nat} (hsz : ∀ x, (cs x).length = sz) (l : List α) : ∀ {i j : Nat} {x : α} {v : Value}, l[i]? = some x → (cs x)[j]? = some v → (l.flatMap cs)[i * sz + j]? = some v := by
  induction l with
  | nil => intro i j x v h; simp at h
  | cons y r ih =>
    intro i j x v hx hv
    have hj : j < sz := by have := (List.getElem?_eq_some_iff.1 hv).1; rw [hsz] at this; exact this
    rw [List.flatMap_cons]
    cases i with
    | zero =>
      simp at hx
      subst hx
      rw [Nat.zero_mul, Nat.zero_add, List.getElem?_append_left (by rw [hsz]; exact hj)]
      exact hv
    | succ i =>
      simp at hx
      rw [List.getElem?_append_right (by rw [hsz, Nat.add_mul]; omega), hsz]
      have e : (i + 1) * sz + j - sz = i * sz + j := by rw [Nat.add_mul]; omega
      rw [e]
      exact ih hx hv
theorem flat_inv {α : Type} {cs : α → List Value} {sz : Nat} (hsz : ∀ x, (cs x).length = sz) (l : List α) : ∀ {t : Nat} {v : Value}, (l.flatMap cs)[t]? = some v → ∃ i x j, l[i]? = some x ∧ (cs x)[j]? = some v ∧ t = i * sz + j := by
  induction l with
  | nil => intro t v h; simp at h
  | cons y r ih =>
    intro t v h
    rw [List.flatMap_cons] at h
    by_cases ht : t < sz
    · rw [List.getElem?_append_left (by rw [hsz]; exact ht)] at h
      exact ⟨0, y, t, rfl, h, by omega⟩
    · rw [List.getElem?_append_right (by rw [hsz]; omega), hsz] at h
      obtain ⟨i, x, j, h1, h2, h3⟩ := ih h
      exact ⟨i + 1, x, j, by simpa using h1, h2, by rw [Nat.add_mul]; omega⟩
/-- The cells of such a slice, one behind the other. -/
theorem SlAt.src {α : Type} {cs : α → List Value} {sz : Nat} (hsz : ∀ x, (cs x).length = sz) {w : World} {b o n : Nat} {l : List α} (h : SlAt cs sz w (some ⟨b, o, none⟩) n l) :
    ∀ j u, (l.flatMap cs)[j]? = some u → w.cell? ((⟨b, o, none⟩ : Addr).add j) = some u := by
  intro t u hu
  obtain ⟨i, x, j, h1, h2, rfl⟩ := flat_inv hsz l hu
  obtain ⟨b', o', ha, hc⟩ := h.cell i x h1
  obtain ⟨rfl, rfl⟩ : b = b' ∧ o = o' := by simpa using ha
  rw [Addr.add_lit, ← Nat.add_assoc]
  exact hc j u h2
/-- An answer: nil, or a slice at the beginning of a block of the call's own. -/
structure ResAt {α : Type} (cs : α → List Value) (sz : Nat) (t : TypeId) (w : World) (B : Nat) (a : Option Addr) (n cap : Nat) (l : List α) : Prop where
  sl : SlAt cs sz w a n l
  own : (a = none ∧ n = 0 ∧ cap = 0) ∨ ∃ b, a = some ⟨b, 0, none⟩ ∧ B ≤ b ∧ n ≤ cap ∧ cap ≤ maxLen ∧ ∃ c, Blk w b c t ∧ c.size = cap * sz ∧ c.toList.take (n * sz) = l.flatMap cs
theorem ResAt.below {α : Type} {cs : α → List Value} {sz : Nat} {t : TypeId} {w w' : World} {B n cap : Nat} {a : Option Addr} {l : List α} (h : ResAt cs sz t w B a n cap l) (hb : Below w.heap.size w w') : ResAt cs sz t w' B a n cap l := by
  refine ⟨h.sl.below hb, ?_⟩
  rcases h.own with h0 | ⟨b, ha, hB, h1, h2, c, hc, q⟩
  · exact .inl h0
  · exact .inr ⟨b, ha, hB, h1, h2, c, hc.below hb, q⟩
theorem ResAt.mono {α : Type} {cs : α → List Value} {sz : Nat} {t : TypeId} {w : World} {B B' n cap : Nat} {a : Option Addr} {l : List α} (h : ResAt cs sz t w B a n cap l) (hb : B' ≤ B) : ResAt cs sz t w B' a n cap l := by
  refine ⟨h.sl, ?_⟩
  rcases h.own with h0 | ⟨b, ha, hB, q⟩
  · exact .inl h0
  · exact .inr ⟨b, ha, by omega, q⟩
/-- As the append laws want it. -/
theorem ResAt.row {α : Type} {cs : α → List Value} {sz : Nat} {t : TypeId} (hsz : ∀ x, (cs x).length = sz) {w : World} {B n cap : Nat} {a : Option Addr} {l : List α} (h : ResAt cs sz t w B a n cap l) : w.ownsRow B t sz (.slice a n cap) n (l.flatMap cs) := by
  refine ⟨by rw [flat_len hsz, h.sl.len], ?_⟩
  rcases h.own with ⟨rfl, rfl, rfl⟩ | ⟨b, rfl, hB, h1, h2, c, hc, hs, ht⟩
  · exact .inl ⟨rfl, rfl⟩
  · exact .inr ⟨b, cap, c, rfl, hB, hc, h1, h2, hs, ht⟩
theorem res_of_row {α : Type} {cs : α → List Value} {sz : Nat} {t : TypeId} (hsz : ∀ x, (cs x).length = sz) {w : World} {B n : Nat} {v : Value} {l : List α} (hn : l.length = n) (h : w.ownsRow B t sz v n (l.flatMap cs)) :
    ∃ a cap, v = .slice a n cap ∧ ResAt cs sz t w B a n cap l := by
  obtain ⟨_, h⟩ := h
  rcases h with ⟨rfl, rfl⟩ | ⟨g, cap, cur, rfl, hB, hh, h1, h2, hs, ht⟩
  · exact ⟨none, 0, rfl, ⟨hn, fun i x hx => by rw [List.eq_nil_of_length_eq_zero hn] at hx; simp at hx⟩, .inl ⟨rfl, rfl, rfl⟩⟩
  · refine ⟨some ⟨g, 0, none⟩, cap, rfl, ⟨hn, fun i x hx => ⟨g, 0, rfl, fun j u hu => ?_⟩⟩, .inr ⟨g, rfl, hB, h1, h2, cur, hh, hs, ht⟩⟩
    have hb : Blk w g cur t := hh
    rw [hb.cell, Nat.zero_add]
    have hf := flat_at hsz l hx hu
    rw [← ht] at hf
    have hlt : i * sz + j < n * sz := by
      have := (List.getElem?_eq_some_iff.1 hf).1
      simp at this
      omega
    rw [List.getElem?_take_of_lt hlt] at hf
    simpa using hf
theorem ResAt.block {α : Type} {cs : α → List Value} {sz : Nat} {t : TypeId} {w : World} {B n cap : Nat} {a : Option Addr} {l : List α} (h : ResAt cs sz t w B a n cap l) : ∀ ad, a = some ad → B ≤ ad.block ∧ ad.block < w.heap.size := by
  intro ad ha
  rcases h.own with ⟨rfl, _⟩ | ⟨b, rfl, hB, _, _, c, hc, _⟩
  · cases ha
  · cases ha
    exact ⟨hB, hc.lt⟩
theorem pcs_one (l : List Pt) : ∀ u ∈ l.flatMap Pt.cs, u.oneCell' = true := by
  intro u hu
  obtain ⟨p, _, hp⟩ := List.mem_flatMap.1 hu
  simp [Pt.cs] at hp
  rcases hp with rfl | rfl | rfl <;> rfl
end Go.Proofs.YtigldeccfpkdmaaGreatDoor
namespace Go.Proofs.YtigldeccfpkdmaaGreatDoor
open Go.RowKit
/-- append(d, s...): d is the call's own, s whatever slice. -/
theorem wp_app {α : Type} {cs : α → List Value} {size : Nat} {P : Program} {o : Oper} {a : Act} {w : World} {K : Act → World → Prop} {Q : Exit → Act → World → Prop}
    (s x : Operand) (t : TypeId) (ho : o.op = .call { callee := .builtin .append, args := #[s, x], argTypes := #[t, t] })
    (B : Nat) (e : TypeId) (i : TypeInfo) (z : Value) (bytes : Nat) (ht : P.underlying t = some (.slice e)) (hi : P.info? e = some i) (hz : i.zero = some z) (hsize : i.size = size) (hby : i.bytes = bytes) (hzs : z.cells.size = size) (hpos : 0 < size)
    (hsz : ∀ y, (cs y).length = size) (hone : ∀ (l : List α), ∀ u ∈ l.flatMap cs, u.oneCell' = true)
    (da : Option Addr) (dn dcap : Nat) (ld : List α) (hs : a.eval s = .slice da dn dcap) (hd : ResAt cs size e w B da dn dcap ld)
    (sa : Option Addr) (sn scap : Nat) (ls : List α) (hx : a.eval x = .slice sa sn scap) (hsrc : SlAt cs size w sa sn ls) (hspot : ∀ ad, sa = some ad → ad.spot = none) (hnone : sa = none → scap = 0)
    (tot : Nat) (htot : dn + sn = tot) (h63 : tot ≤ maxLen) (hbytes : tot * bytes ≤ 140737488355328) (hbase : B ≤ w.heap.size)
    (h : ∀ a' cap' w', ResAt cs size e w' B a' tot cap' (ld ++ ls) → w.grownBy w' (Value.ownBlock (.slice da dn dcap)) → K (a.put o.dst (.slice a' tot cap')) w') : o.wp P a w K Q := by
  subst htot
  have hrow := hd.row hsz
  have hlen : (ld ++ ls).length = dn + sn := by rw [List.length_append, hd.sl.len, hsrc.len]
  cases sa with
  | none =>
    have h0 : sn = 0 := by
      cases ls with
      | nil => rw [← hsrc.len]; rfl
      | cons y r => obtain ⟨b, o', hb, _⟩ := hsrc.cell 0 y rfl; cases hb
    obtain rfl := h0
    obtain rfl := hnone rfl
    have hl0 : ls = [] := List.eq_nil_of_length_eq_zero hsrc.len
    subst hl0
    have hrun := run_append_owned_none (P := P) w B t o.type e i size ht hi (.slice da dn dcap) dn (ld.flatMap cs) hrow
    unfold Oper.wp
    simp [execOp, ho, resolve, invoke, builtin, hs, hx, hrun, Result.andThen]
    exact h da dcap w (by simpa using hd) (World.grownBy.refl _ _)
  | some ad =>
    obtain ⟨b, off, spot⟩ := ad
    have := hspot _ rfl
    simp only at this
    subst this
    refine wp_append_own w s x t ho B e i z size bytes ht hi hz hsize hby hzs hpos (.slice da dn dcap) dn (ld.flatMap cs) hs hrow ⟨b, off, none⟩ sn scap (ls.flatMap cs) hx (by rw [flat_len hsz, hsrc.len]) (SlAt.src hsz hsrc) (hone ls) h63 hbytes hbase ?_
    intro v' w' hrow' hg _
    rw [← List.flatMap_append] at hrow'
    obtain ⟨a', cap', rfl, hres⟩ := res_of_row hsz hlen hrow'
    exact h a' cap' w' hres hg
/-- The same as a step of a region that draws its order. -/
theorem step_app {P : Program} {ops : Array Oper} {o : Oper} {a : Act} {w : World} {K : Act → World → Prop} {Q : Exit → Act → World → Prop} {E : Prop} (hg : o.guard = none) (h : o.wp P a w K Q) :
    if Region.wanted o (yielded ops a.tmps) = true then Oper.wp P o a w K Q else E := by
  have hw : Region.wanted o (yielded ops a.tmps) = true := by simp [Region.wanted, hg]
  rw [if_pos hw]; exact h
theorem wpList_app {P : Program} {ops : Array Oper} {rest : List Oper} {o : Oper} {a : Act} {w : World} {Q : Exit → Act → World → Prop} (hg : o.guard = none)
    (h : ∀ K : Act → World → Prop, (∀ a w, wpList P ops Q rest a w → K a w) → o.wp P a w K Q) : wpList P ops Q (o :: rest) a w := wpList_plain hg h
theorem res_empty {α : Type} {cs : α → List Value} {sz : Nat} {t : TypeId} {w : World} {B b : Nat} (hb : Blk w b #[] t) (hB : B ≤ b) : ResAt cs sz t w B (some ⟨b, 0, none⟩) 0 0 ([] : List α) :=
  ⟨⟨rfl, fun i x hx => by simp at hx⟩, .inr ⟨b, rfl, hB, Nat.le_refl _, Nat.zero_le _, #[], hb, by simp, by simp⟩⟩
theorem res_nil {α : Type} {cs : α → List Value} {sz : Nat} {t : TypeId} {w : World} {B : Nat} : ResAt cs sz t w B none 0 0 ([] : List α) :=
  ⟨⟨rfl, fun i x hx => by simp at hx⟩, .inl ⟨rfl, rfl, rfl⟩⟩
theorem ResAt.grown {α : Type} {cs : α → List Value} {sz : Nat} {t : TypeId} {w w' : World} {B n cap r : Nat} {a : Option Addr} {l : List α} (h : ResAt cs sz t w B a n cap l) (hg : w.grownBy w' (some r)) (hr : ∀ ad, a = some ad → ad.block ≠ r) : ResAt cs sz t w' B a n cap l := by
  refine ⟨h.sl.grown hg hr, ?_⟩
  rcases h.own with h0 | ⟨b, ha, hB, h1, h2, c, hc, q⟩
  · exact .inl h0
  · exact .inr ⟨b, ha, hB, h1, h2, c, hc.grown hg (hr _ ha), q⟩
theorem ResAt.alloc {α : Type} {cs : α → List Value} {sz : Nat} {t : TypeId} {w : World} {B n cap : Nat} {a : Option Addr} {l : List α} (h : ResAt cs sz t w B a n cap l) (o : Obj) : ResAt cs sz t (w.alloc o) B a n cap l := h.below ((Below.refl _ _).alloc (Nat.le_refl _) _)
theorem own_ne {a : Option Addr} {n cap x : Nat} (h : ∀ ad, a = some ad → x < ad.block) : some x ≠ Value.ownBlock (.slice a n cap) := by
  cases a with
  | none => simp [Value.ownBlock]
  | some ad => have := h ad rfl; simp [Value.ownBlock]; omega
theorem own_ge {a : Option Addr} {n cap B : Nat} (h : ∀ ad, a = some ad → B ≤ ad.block) : ∀ k, Value.ownBlock (.slice a n cap) = some k → B ≤ k := by
  intro k hk
  cases a with
  | none => simp [Value.ownBlock] at hk
  | some ad => have := h ad rfl; simp [Value.ownBlock] at hk; omega
/-- A new block with the cells of one part. -/
theorem Blk.new' (w : World) (c : Array Value) (t : TypeId) (b : Nat) (hb : b = w.heap.size) : Blk (w.alloc (.cells c t)) b c t := by subst hb; exact Blk.new _ _ _
end Go.Proofs.YtigldeccfpkdmaaGreatDoor
namespace Go.Proofs.YtigldeccfpkdmaaGreatDoor
open Go.RowKit Go.BigFrame
theorem slAt_grownT {α : Type} {cs : α → List Value} {sz : Nat} {w w' : World} {a : Option Addr} {n : Nat} {l : List α} {row : Option Nat} (h : SlAt cs sz w a n l) (hg : w.grownBy w' row) (hr : ∀ ad, a = some ad → some ad.block ≠ row) : SlAt cs sz w' a n l := by
  refine ⟨h.len, fun i x hx => ?_⟩
  obtain ⟨b, o, ha, hc⟩ := h.cell i x hx
  exact ⟨b, o, ha, fun j v hv => hg.cell (hc j v hv) (hr ⟨b, o, none⟩ ha)⟩
theorem blk_type {w : World} {b : Nat} {c c' : Array Value} {t t' : TypeId} (h : Blk w b c t) (h' : Blk w b c' t') : t = t' := by
  unfold Blk at h h'
  rw [h] at h'
  injection h' with e
  injection e
/-- The blocks that may turn are of this type. -/
def RowTy (w : World) (row : Option Nat) (t : TypeId) : Prop := ∀ k, row = some k → ∃ c, Blk w k c t
theorem rowTy_blk {w : World} {b : Nat} {c : Array Value} {t : TypeId} (h : Blk w b c t) : RowTy w (some b) t := fun k e => by cases e; exact ⟨c, h⟩
theorem ResAt.rowTy {α : Type} {cs : α → List Value} {sz : Nat} {t : TypeId} {w : World} {B n cap : Nat} {a : Option Addr} {l : List α} (h : ResAt cs sz t w B a n cap l) {m k : Nat} : RowTy w (Value.ownBlock (.slice a m k)) t := by
  rcases h.own with ⟨rfl, _⟩ | ⟨b, rfl, _, _, _, c, hc, _⟩
  · intro k e; simp [Value.ownBlock] at e
  · intro k e; simp [Value.ownBlock] at e; subst e; exact ⟨c, hc⟩
theorem ResAt.off {α : Type} {cs : α → List Value} {sz : Nat} {t : TypeId} {w w' : World} {B n cap : Nat} {a : Option Addr} {l : List α} {row : Option Nat} (h : ResAt cs sz t w B a n cap l) (hg : w.grownBy w' row) (hr : ∀ ad, a = some ad → some ad.block ≠ row) : ResAt cs sz t w' B a n cap l := by
  refine ⟨slAt_grownT h.sl hg hr, ?_⟩
  rcases h.own with h0 | ⟨b, ha, hB, h1, h2, c, hc, q⟩
  · exact .inl h0
  · exact .inr ⟨b, ha, hB, h1, h2, c, (hg.block _ hc.lt (hr _ ha)).trans hc, q⟩
theorem ResAt.ty {α : Type} {cs : α → List Value} {sz : Nat} {t t' : TypeId} {w w' : World} {B n cap : Nat} {a : Option Addr} {l : List α} {row : Option Nat} (h : ResAt cs sz t w B a n cap l) (hg : w.grownBy w' row) (hr : RowTy w row t') (ht : t ≠ t') : ResAt cs sz t w' B a n cap l := by
  refine h.off hg (fun ad e hc => ?_)
  obtain ⟨c', h'⟩ := hr _ hc.symm
  rcases h.own with ⟨h0, _⟩ | ⟨b, ha, _, _, _, c, hb, _⟩
  · rw [h0] at e; cases e
  · rw [ha] at e; cases e; exact ht (blk_type hb h')
theorem Blk.ty {w w' : World} {b : Nat} {c : Array Value} {t t' : TypeId} {row : Option Nat} (h : Blk w b c t) (hg : w.grownBy w' row) (hr : RowTy w row t') (ht : t ≠ t') : Blk w' b c t := by
  refine (hg.block _ h.lt (fun e => ?_)).trans h
  obtain ⟨c', h'⟩ := hr _ e.symm
  exact ht (blk_type h h')
theorem Blk.offB {w w' : World} {b B : Nat} {c : Array Value} {t : TypeId} {row : Option Nat} (h : Blk w b c t) (hg : w.grownBy w' row) (hr : ∀ k, row = some k → B ≤ k) (hb : b < B) : Blk w' b c t :=
  (hg.block _ h.lt (fun e => by have := hr b e.symm; omega)).trans h
theorem flat_set {α : Type} {cs : α → List Value} {sz : Nat} (hsz : ∀ x, (cs x).length = sz) {x x' : α} {v : Value} {j : Nat} (hj : j < sz) (hx' : cs x' = (cs x).set j v) : ∀ {l : List α} {i : Nat}, l[i]? = some x → (l.set i x').flatMap cs = (l.flatMap cs).set (i * sz + j) v
  | [], i, h => by simp at h
  | y :: r, 0, h => by
    obtain rfl : y = x := by simpa using h
    rw [List.set_cons_zero, List.flatMap_cons, List.flatMap_cons, hx', Nat.zero_mul, Nat.zero_add, List.set_append_left _ _ (by rw [hsz]; exact hj)]
  | y :: r, i + 1, h => by
    rw [List.set_cons_succ, List.flatMap_cons, List.flatMap_cons, flat_set hsz hj hx' (by simpa using h), List.set_append_right _ _ (by rw [hsz, Nat.add_mul]; omega), hsz, show (i + 1) * sz + j - sz = i * sz + j by rw [Nat.add_mul]; omega]
/-- One cell of such a slice is written. -/
theorem ResAt.set1 {α : Type} {cs : α → List Value} {sz : Nat} {t : TypeId} (hsz : ∀ x, (cs x).length = sz) {w : World} {B b n cap i j : Nat} {l : List α} {x x' : α} {v : Value} (h : ResAt cs sz t w B (some ⟨b, 0, none⟩) n cap l) (hi : l[i]? = some x) (hj : j < sz) (hx' : cs x' = (cs x).set j v) :
    ResAt cs sz t (w.setCell ⟨b, i * sz + j, none⟩ v) B (some ⟨b, 0, none⟩) n cap (l.set i x') := by
  have hin := (List.getElem?_eq_some_iff.1 hi).1
  have hll := h.sl.len
  rcases h.own with ⟨h0, _⟩ | ⟨b', ha, hB, hnc, hcm, c, hc, hs, ht⟩
  · cases h0
  · cases ha
    have hlen : (l.set i x').length = n := by rw [List.length_set]; exact hll
    have hrow : (w.setCell ⟨b, i * sz + j, none⟩ v).ownsRow B t sz (.slice (some ⟨b, 0, none⟩) n cap) n ((l.set i x').flatMap cs) := by
      refine ⟨by rw [flat_len hsz, hlen], .inr ⟨b, cap, _, rfl, hB, hc.set (i * sz + j) v, hnc, hcm, by simp [hs], ?_⟩⟩
      rw [Array.toList_setIfInBounds, List.take_set, ht, flat_set hsz hj hx' hi]
    obtain ⟨a', cap', e, R⟩ := res_of_row hsz hlen hrow
    cases e
    exact R
end Go.Proofs.YtigldeccfpkdmaaGreatDoor
