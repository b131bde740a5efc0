/- The lengths of parts, of the program and of the model; the model's PartsOk. Lengths; the laws' copies and comparisons of lists of parts. The laws' comparison of two lists of parts. The row in the making: (*row).add. The row in the making: addAll, within, addSlice. Appending to a slice of the call's own: lists of elements of several cells. The row told; Slice, Joined, Laid of the program. Joined, Laid of the program. Appending one list behind another one: as a step of the walk, and as a step of a region that draws its order. The model's l2Add. The model's l2Join, l2Slice, l2Laid. Slice, Joined, Laid of the model. Answers' blocks, and what is kept while one of them is written. -/
import Derived.Test.YtckljlgojhloiaaProg
import Derived.Test.YtckljlgojhloiaaKa
import Derived.StillTailTactics
import Derived.Deep.RegionLaw
import Derived.Laws.AppendOwnNone
namespace Go.Proofs.Ytckljlgojhloiaa
open Go.RowKit Go.BigFrame

end Go.Proofs.Ytckljlgojhloiaa
namespace Go.Proofs.Ytckljlgojhloiaa
open Go.RowKit Go.BigFrame

theorem sums_of {l : List Pt} (h : partsOkB l = true) : ∀ k, 0 ≤ sumN (l.take k) ∧ sumN (l.take k) ≤ 100 := by
  intro k
  obtain ⟨_, h1, h2⟩ := partsOkB_all h
  have := sumN_take_bd h1 k
  omega

/-- LenOf, as a plain function. -/
def lenB (l : List Pt) : Int := if partsOkB l = true then sumN l else -1

end Go.Proofs.Ytckljlgojhloiaa
namespace Go.Proofs.Ytckljlgojhloiaa
open Go.RowKit Go.BigFrame

def eqPts : List Pt → List Pt → Bool
  | [], [] => true
  | p :: r, q :: s => eqPtB p q && eqPts r s
  | _, _ => false

theorem eqPtB_iff (p q : Pt) : eqPtB p q = true ↔ p = q := by
  cases p; cases q; simp [eqPtB, and_assoc]
theorem eqPts_iff (l : List Pt) : ∀ m, eqPts l m = true ↔ l = m := by
  induction l with
  | nil => intro m; cases m <;> simp [eqPts]
  | cons p r ih => intro m; cases m <;> simp [eqPts, eqPtB_iff, ih]
theorem eqPts_refl (l : List Pt) : eqPts l l = true := (eqPts_iff l l).2 rfl
theorem eqPts_len {l : List Pt} : ∀ {m : List Pt}, l.length ≠ m.length → eqPts l m = false := by
  induction l with
  | nil => intro m h; cases m <;> simp [eqPts] at *
  | cons p r ih => intro m h; cases m <;> simp [eqPts] at *; exact fun _ => ih h

end Go.Proofs.Ytckljlgojhloiaa
namespace Go.Proofs.Ytckljlgojhloiaa
open Go.RowKit Go.BigFrame

/-- A region that draws its order, whose first n operations only read, what is left coming behind them in its own order. -/
theorem wp_region_tail {P : Program} {id : Nat} {Q : Exit → Act → World → Prop} {a : Act} {w : World} {l : List Oper} (n : Nat) (hm : P.follows .mixedOrders = true) (hB : Region.lexTailB .any l.toArray n = true)
    (h : wpStill P l.toArray w.drew (fun a' => wpList P l.toArray Q (l.drop n) a' w.drew) (l.take n) a) : (Code.region id l.toArray true).wp P Q a w :=
  wp_region_still_tail n hm hB h

/-- A row in the making: its parts, all lengths together, whether it grew too great. -/
structure RSt where
  L : List Pt
  s : Int
  ov : Bool

/-- What a part adds to it. -/
def radd (r : RSt) (p : Pt) : RSt :=
  if 100 < r.s + p.n then ⟨r.L, r.s + p.n, true⟩ else
  match r.L.getLast? with
  | none => ⟨[p], r.s + p.n, r.ov⟩
  | some q => if goesOnB q p then ⟨r.L.dropLast ++ [⟨q.a, q.f, q.n + p.n⟩], r.s + p.n, r.ov⟩ else
    if r.L.length < 16 then ⟨r.L ++ [p], r.s + p.n, r.ov⟩ else ⟨r.L, r.s + p.n, true⟩

theorem radd_merge {r : RSt} {p q : Pt} (hA : r.s + p.n ≤ 100) (hl : r.L.getLast? = some q) (hg : goesOnB q p = true) : radd r p = ⟨r.L.dropLast ++ [⟨q.a, q.f, q.n + p.n⟩], r.s + p.n, r.ov⟩ := by
  have : ¬ 100 < r.s + p.n := by omega
  simp [radd, this, hl, hg]
theorem radd_app {r : RSt} {p q : Pt} (hA : r.s + p.n ≤ 100) (hl : r.L.getLast? = some q) (hg : goesOnB q p = false) (hf : r.L.length < 16) : radd r p = ⟨r.L ++ [p], r.s + p.n, r.ov⟩ := by
  have : ¬ 100 < r.s + p.n := by omega
  simp [radd, this, hl, hg, hf]
theorem radd_full {r : RSt} {p q : Pt} (hA : r.s + p.n ≤ 100) (hl : r.L.getLast? = some q) (hg : goesOnB q p = false) (hf : ¬ r.L.length < 16) : radd r p = ⟨r.L, r.s + p.n, true⟩ := by
  have : ¬ 100 < r.s + p.n := by omega
  simp [radd, this, hl, hg, hf]

/-- Lengths that add up. -/
def RInv (r : RSt) : Prop := 0 ≤ r.s ∧ ∀ q ∈ r.L, 1 ≤ q.n ∧ q.n ≤ r.s

end Go.Proofs.Ytckljlgojhloiaa
namespace Go.Proofs.Ytckljlgojhloiaa
open Go.RowKit Go.BigFrame

def rall (r : RSt) (l : List Pt) : RSt := l.foldl radd r

theorem radd_s (r : RSt) (p : Pt) : (radd r p).s = r.s + p.n := by
  unfold radd
  split
  · rfl
  · split
    · rfl
    · split
      · rfl
      · split <;> rfl

theorem radd_inv {r : RSt} {p : Pt} (h : RInv r) (hp : 1 ≤ p.n) : RInv (radd r p) := by
  obtain ⟨h0, h1⟩ := h
  have hold : ∀ q ∈ r.L, 1 ≤ q.n ∧ q.n ≤ r.s + p.n := fun q hq => by have := h1 q hq; omega
  refine ⟨by rw [radd_s]; omega, ?_⟩
  rw [radd_s]
  unfold radd
  split
  · exact hold
  · split
    · rename_i hl
      intro q hq
      simp at hq
      subst hq
      omega
    · rename_i q0 hl
      have hq0 := h1 q0 (List.mem_of_getLast? hl)
      split
      · intro q hq
        simp only [List.mem_append, List.mem_singleton] at hq
        rcases hq with hq | rfl
        · exact hold q (List.dropLast_subset _ hq)
        · show 1 ≤ q0.n + p.n ∧ q0.n + p.n ≤ r.s + p.n
          omega
      · split
        · intro q hq
          simp only [List.mem_append, List.mem_singleton] at hq
          rcases hq with hq | rfl
          · exact hold q hq
          · omega
        · exact hold

theorem rall_at {r : RSt} {l : List Pt} {k : Nat} {p : Pt} (h : l[k]? = some p) : rall r (l.take (k + 1)) = radd (rall r (l.take k)) p := by
  unfold rall; rw [take_at h, List.foldl_append]; rfl

/-- The piece x .. y - 1 of a part. -/
def cutP (p : Pt) (x y : Int) : Pt := if p.a == 0 then ⟨0, 0, y - x⟩ else ⟨p.a, p.f + x, y - x⟩

/-- The pieces that make up the bytes from .. to - 1, the parts beginning at st. -/
def slp (fr to : Int) : Int → List Pt → List Pt
  | _, [] => []
  | st, p :: r => if max (fr - st) 0 < min (to - st) p.n then cutP p (max (fr - st) 0) (min (to - st) p.n) :: slp fr to (st + p.n) r else slp fr to (st + p.n) r

theorem cutP_n (p : Pt) (x y : Int) : (cutP p x y).n = y - x := by unfold cutP; split <;> rfl
theorem slp_yes {fr to st x y : Int} {p : Pt} {r : List Pt} (hx : max (fr - st) 0 = x) (hy : min (to - st) p.n = y) (h : x < y) : slp fr to st (p :: r) = cutP p x y :: slp fr to (st + p.n) r := by
  subst hx hy; simp only [slp, h, if_true]
theorem slp_step {rk : RSt} {fr to st x y : Int} {p : Pt} {r : List Pt} (hx : max (fr - st) 0 = x) (hy : min (to - st) p.n = y) (h : x < y) : rall rk (slp fr to st (p :: r)) = rall (radd rk (cutP p x y)) (slp fr to (st + p.n) r) := by
  rw [slp_yes hx hy h]; rfl
theorem slp_no {fr to st : Int} {p : Pt} {r : List Pt} (h : ¬ max (fr - st) 0 < min (to - st) p.n) : slp fr to st (p :: r) = slp fr to (st + p.n) r := by
  simp only [slp, h, if_false]

end Go.Proofs.Ytckljlgojhloiaa
namespace Go.Proofs.Ytckljlgojhloiaa
open Go.RowKit

theorem flat_len {α : Type} {cs : α → List Value} {sz : Nat} (hsz : ∀ x, (cs x).length = sz) (l : List α) : (l.flatMap cs).length = l.length * sz := by
  induction l with
  | nil => simp
  | cons x r ih => simp [ih, hsz, Nat.add_mul]; omega

theorem flat_at {α : Type} {cs : α → List Value} {sz : Nat} (hsz : ∀ x, (cs x).length = sz) (l : List α) : ∀ {i j : Nat} {x : α} {v : Value}, l[i]? = some x → (cs x)[j]? = some v → (l.flatMap cs)[i * sz + j]? = some v := by
  induction l with
  | nil => intro i j x v h; simp at h
  | cons y r ih =>
    intro i j x v hx hv
    have hj : j < sz := by have := (List.getElem?_eq_some_iff.1 hv).1; rw [hsz] at this; exact this
    rw [List.flatMap_cons]
    cases i with
    | zero =>
      simp at hx
      subst hx
      rw [Nat.zero_mul, Nat.zero_add, List.getElem?_append_left (by rw [hsz]; exact hj)]
      exact hv
    | succ i =>
      simp at hx
      rw [List.getElem?_append_right (by rw [hsz, Nat.add_mul]; omega), hsz]
      have e : (i + 1) * sz + j - sz = i * sz + j := by rw [Nat.add_mul]; omega
      rw [e]
      exact ih hx hv

theorem flat_inv {α : Type} {cs : α → List Value} {sz : Nat} (hsz : ∀ x, (cs x).length = sz) (l : List α) : ∀ {t : Nat} {v : Value}, (l.flatMap cs)[t]? = some v → ∃ i x j, l[i]? = some x ∧ (cs x)[j]? = some v ∧ t = i * sz + j := by
  induction l with
  | nil => intro t v h; simp at h
  | cons y r ih =>
    intro t v h
    rw [List.flatMap_cons] at h
    by_cases ht : t < sz
    · rw [List.getElem?_append_left (by rw [hsz]; exact ht)] at h
      exact ⟨0, y, t, rfl, h, by omega⟩
    · rw [List.getElem?_append_right (by rw [hsz]; omega), hsz] at h
      obtain ⟨i, x, j, h1, h2, h3⟩ := ih h
      exact ⟨i + 1, x, j, by simpa using h1, h2, by rw [Nat.add_mul]; omega⟩

/-- The cells of such a slice, one behind the other. -/
theorem SlAt.src {α : Type} {cs : α → List Value} {sz : Nat} (hsz : ∀ x, (cs x).length = sz) {w : World} {b o n : Nat} {l : List α} (h : SlAt cs sz w (some ⟨b, o, none⟩) n l) :
    ∀ j u, (l.flatMap cs)[j]? = some u → w.cell? ((⟨b, o, none⟩ : Addr).add j) = some u := by
  intro t u hu
  obtain ⟨i, x, j, h1, h2, rfl⟩ := flat_inv hsz l hu
  obtain ⟨b', o', ha, hc⟩ := h.cell i x h1
  obtain ⟨rfl, rfl⟩ : b = b' ∧ o = o' := by simpa using ha
  rw [Addr.add_lit, ← Nat.add_assoc]
  exact hc j u h2

/-- An answer: nil, or a slice at the beginning of a block of the call's own. -/
structure ResAt {α : Type} (cs : α → List Value) (sz : Nat) (t : TypeId) (w : World) (B : Nat) (a : Option Addr) (n cap : Nat) (l : List α) : Prop where
  sl : SlAt cs sz w a n l
  own : (a = none ∧ n = 0 ∧ cap = 0) ∨ ∃ b, a = some ⟨b, 0, none⟩ ∧ B ≤ b ∧ n ≤ cap ∧ cap ≤ maxLen ∧ ∃ c, Blk w b c t ∧ c.size = cap * sz ∧ c.toList.take (n * sz) = l.flatMap cs

theorem ResAt.below {α : Type} {cs : α → List Value} {sz : Nat} {t : TypeId} {w w' : World} {B n cap : Nat} {a : Option Addr} {l : List α} (h : ResAt cs sz t w B a n cap l) (hb : Below w.heap.size w w') : ResAt cs sz t w' B a n cap l := by
  refine ⟨h.sl.below hb, ?_⟩
  rcases h.own with h0 | ⟨b, ha, hB, h1, h2, c, hc, q⟩
  · exact .inl h0
  · exact .inr ⟨b, ha, hB, h1, h2, c, hc.below hb, q⟩
theorem ResAt.mono {α : Type} {cs : α → List Value} {sz : Nat} {t : TypeId} {w : World} {B B' n cap : Nat} {a : Option Addr} {l : List α} (h : ResAt cs sz t w B a n cap l) (hb : B' ≤ B) : ResAt cs sz t w B' a n cap l := by
  refine ⟨h.sl, ?_⟩
  rcases h.own with h0 | ⟨b, ha, hB, q⟩
  · exact .inl h0
  · exact .inr ⟨b, ha, by omega, q⟩
/-- As the append laws want it. -/
theorem ResAt.row {α : Type} {cs : α → List Value} {sz : Nat} {t : TypeId} (hsz : ∀ x, (cs x).length = sz) {w : World} {B n cap : Nat} {a : Option Addr} {l : List α} (h : ResAt cs sz t w B a n cap l) : w.ownsRow B t sz (.slice a n cap) n (l.flatMap cs) := by
  refine ⟨by rw [flat_len hsz, h.sl.len], ?_⟩
  rcases h.own with ⟨rfl, rfl, rfl⟩ | ⟨b, rfl, hB, h1, h2, c, hc, hs, ht⟩
  · exact .inl ⟨rfl, rfl⟩
  · exact .inr ⟨b, cap, c, rfl, hB, hc, h1, h2, hs, ht⟩
theorem res_of_row {α : Type} {cs : α → List Value} {sz : Nat} {t : TypeId} (hsz : ∀ x, (cs x).length = sz) {w : World} {B n : Nat} {v : Value} {l : List α} (hn : l.length = n) (h : w.ownsRow B t sz v n (l.flatMap cs)) :
    ∃ a cap, v = .slice a n cap ∧ ResAt cs sz t w B a n cap l := by
  obtain ⟨_, h⟩ := h
  rcases h with ⟨rfl, rfl⟩ | ⟨g, cap, cur, rfl, hB, hh, h1, h2, hs, ht⟩
  · exact ⟨none, 0, rfl, ⟨hn, fun i x hx => by rw [List.eq_nil_of_length_eq_zero hn] at hx; simp at hx⟩, .inl ⟨rfl, rfl, rfl⟩⟩
  · refine ⟨some ⟨g, 0, none⟩, cap, rfl, ⟨hn, fun i x hx => ⟨g, 0, rfl, fun j u hu => ?_⟩⟩, .inr ⟨g, rfl, hB, h1, h2, cur, hh, hs, ht⟩⟩
    have hb : Blk w g cur t := hh
    rw [hb.cell, Nat.zero_add]
    have hf := flat_at hsz l hx hu
    rw [← ht] at hf
    have hlt : i * sz + j < n * sz := by
      have := (List.getElem?_eq_some_iff.1 hf).1
      simp at this
      omega
    rw [List.getElem?_take_of_lt hlt] at hf
    simpa using hf

theorem ResAt.block {α : Type} {cs : α → List Value} {sz : Nat} {t : TypeId} {w : World} {B n cap : Nat} {a : Option Addr} {l : List α} (h : ResAt cs sz t w B a n cap l) : ∀ ad, a = some ad → B ≤ ad.block ∧ ad.block < w.heap.size := by
  intro ad ha
  rcases h.own with ⟨rfl, _⟩ | ⟨b, rfl, hB, _, _, c, hc, _⟩
  · cases ha
  · cases ha
    exact ⟨hB, hc.lt⟩

theorem pcs_len (p : Pt) : p.cs.length = 3 := rfl
theorem ecs_len (p : Ex) : p.cs.length = 2 := rfl
theorem ics_len (x : Int) : [Value.int .i64 x].length = 1 := rfl
theorem pcs_one (l : List Pt) : ∀ u ∈ l.flatMap Pt.cs, u.oneCell' = true := by
  intro u hu
  obtain ⟨p, _, hp⟩ := List.mem_flatMap.1 hu
  simp [Pt.cs] at hp
  rcases hp with rfl | rfl | rfl <;> rfl
theorem ecs_one (l : List Ex) : ∀ u ∈ l.flatMap Ex.cs, u.oneCell' = true := by
  intro u hu
  obtain ⟨p, _, hp⟩ := List.mem_flatMap.1 hu
  simp [Ex.cs] at hp
  rcases hp with rfl | rfl <;> rfl
end Go.Proofs.Ytckljlgojhloiaa
namespace Go.Proofs.Ytckljlgojhloiaa
open Go.RowKit Go.BigFrame

/-- Slice, as a plain function: the row that comes of it. -/
def rowOf (l : List Pt) : RSt := rall ⟨[], 0, false⟩ l

theorem pos_of {l : List Pt} (h : partsOkB l = true) : ∀ p ∈ l, 1 ≤ p.n ∧ p.n ≤ 100 ∧ 0 ≤ p.f ∧ p.f ≤ 100 := by
  intro p hp
  obtain ⟨_, h1, h2⟩ := partsOkB_all h
  have hk := h1 p hp
  have hpos := partOkB_pos hk
  have h3 : p.n ≤ sumN l := by
    obtain ⟨i, hi⟩ := List.mem_iff_getElem?.1 hp
    have e := sumN_take hi
    have b1 := sumN_take_bd h1 i
    have b2 := sumN_take_bd h1 (i + 1)
    omega
  unfold partOkB at hk
  split at hk <;> simp at hk <;> omega

theorem inv_new : RInv ⟨[], 0, false⟩ := ⟨Int.le_refl _, fun q hq => by simp at hq⟩

/-- What a row tells. -/
def outc (r : RSt) : Option (List Pt) := if r.ov then none else some r.L

def sliceO (l : List Pt) (fr to : Int) : Option (List Pt) :=
  if partsOkB l = true ∧ 0 ≤ fr ∧ fr ≤ sumN l ∧ fr ≤ to ∧ to ≤ sumN l then outc (rowOf (slp fr to 0 l)) else none

end Go.Proofs.Ytckljlgojhloiaa
namespace Go.Proofs.Ytckljlgojhloiaa
open Go.RowKit Go.BigFrame

theorem rall_append (r : RSt) (a b : List Pt) : rall (rall r a) b = rall r (a ++ b) := by simp [rall, List.foldl_append]

def joinedO (l m : List Pt) : Option (List Pt) := if partsOkB l = true ∧ partsOkB m = true then outc (rowOf (l ++ m)) else none

theorem pos2 {l : List Pt} (h : partsOkB l = true) : ∀ p ∈ l, 1 ≤ p.n ∧ p.n ≤ 100 := fun p hp => ⟨(pos_of h p hp).1, (pos_of h p hp).2.1⟩

/-- The parts that are laid, one behind the other. -/
def laidL (l : List Pt) (at' : Int) (m : List Pt) : List Pt :=
  slp 0 (min at' (sumN l)) 0 l ++ (if sumN l < at' then [⟨0, 0, at' - sumN l⟩] else []) ++ m ++ slp (min (at' + sumN m) (sumN l)) (sumN l) 0 l
def laidO (l : List Pt) (at' : Int) (m : List Pt) : Option (List Pt) := if partsOkB l = true ∧ 0 ≤ at' ∧ at' ≤ 100 ∧ partsOkB m = true then outc (rowOf (laidL l at' m)) else none

end Go.Proofs.Ytckljlgojhloiaa
namespace Go.Proofs.Ytckljlgojhloiaa
open Go.RowKit

/-- append(d, s...): d is the call's own, s whatever slice. -/
theorem wp_app {α : Type} {cs : α → List Value} {size : Nat} {P : Program} {o : Oper} {a : Act} {w : World} {K : Act → World → Prop} {Q : Exit → Act → World → Prop}
    (s x : Operand) (t : TypeId) (ho : o.op = .call { callee := .builtin .append, args := #[s, x], argTypes := #[t, t] })
    (B : Nat) (e : TypeId) (i : TypeInfo) (z : Value) (bytes : Nat) (ht : P.underlying t = some (.slice e)) (hi : P.info? e = some i) (hz : i.zero = some z) (hsize : i.size = size) (hby : i.bytes = bytes) (hzs : z.cells.size = size) (hpos : 0 < size)
    (hsz : ∀ y, (cs y).length = size) (hone : ∀ (l : List α), ∀ u ∈ l.flatMap cs, u.oneCell' = true)
    (da : Option Addr) (dn dcap : Nat) (ld : List α) (hs : a.eval s = .slice da dn dcap) (hd : ResAt cs size e w B da dn dcap ld)
    (sa : Option Addr) (sn scap : Nat) (ls : List α) (hx : a.eval x = .slice sa sn scap) (hsrc : SlAt cs size w sa sn ls) (hspot : ∀ ad, sa = some ad → ad.spot = none) (hnone : sa = none → scap = 0)
    (tot : Nat) (htot : dn + sn = tot) (h63 : tot ≤ maxLen) (hbytes : tot * bytes ≤ 140737488355328) (hbase : B ≤ w.heap.size)
    (h : ∀ a' cap' w', ResAt cs size e w' B a' tot cap' (ld ++ ls) → w.grownBy w' (Value.ownBlock (.slice da dn dcap)) → K (a.put o.dst (.slice a' tot cap')) w') : o.wp P a w K Q := by
  subst htot
  have hrow := hd.row hsz
  have hlen : (ld ++ ls).length = dn + sn := by rw [List.length_append, hd.sl.len, hsrc.len]
  cases sa with
  | none =>
    have h0 : sn = 0 := by
      cases ls with
      | nil => rw [← hsrc.len]; rfl
      | cons y r => obtain ⟨b, o', hb, _⟩ := hsrc.cell 0 y rfl; cases hb
    obtain rfl := h0
    obtain rfl := hnone rfl
    have hl0 : ls = [] := List.eq_nil_of_length_eq_zero hsrc.len
    subst hl0
    have hrun := run_append_owned_none (P := P) w B t o.type e i size ht hi (.slice da dn dcap) dn (ld.flatMap cs) hrow
    unfold Oper.wp
    simp [execOp, ho, resolve, invoke, builtin, hs, hx, hrun, Result.andThen]
    exact h da dcap w (by simpa using hd) (World.grownBy.refl _ _)
  | some ad =>
    obtain ⟨b, off, spot⟩ := ad
    have := hspot _ rfl
    simp only at this
    subst this
    refine wp_append_own w s x t ho B e i z size bytes ht hi hz hsize hby hzs hpos (.slice da dn dcap) dn (ld.flatMap cs) hs hrow ⟨b, off, none⟩ sn scap (ls.flatMap cs) hx (by rw [flat_len hsz, hsrc.len]) (SlAt.src hsz hsrc) (hone ls) h63 hbytes hbase ?_
    intro v' w' hrow' hg _
    rw [← List.flatMap_append] at hrow'
    obtain ⟨a', cap', rfl, hres⟩ := res_of_row hsz hlen hrow'
    exact h a' cap' w' hres hg

/-- The same as a step of a region that draws its order. -/
theorem step_app {P : Program} {ops : Array Oper} {o : Oper} {a : Act} {w : World} {K : Act → World → Prop} {Q : Exit → Act → World → Prop} {E : Prop} (hg : o.guard = none) (h : o.wp P a w K Q) :
    if Region.wanted o (yielded ops a.tmps) = true then Oper.wp P o a w K Q else E := by
  have hw : Region.wanted o (yielded ops a.tmps) = true := by simp [Region.wanted, hg]
  rw [if_pos hw]; exact h

theorem wpList_app {P : Program} {ops : Array Oper} {rest : List Oper} {o : Oper} {a : Act} {w : World} {Q : Exit → Act → World → Prop} (hg : o.guard = none)
    (h : ∀ K : Act → World → Prop, (∀ a w, wpList P ops Q rest a w → K a w) → o.wp P a w K Q) : wpList P ops Q (o :: rest) a w := wpList_plain hg h

theorem res_empty {α : Type} {cs : α → List Value} {sz : Nat} {t : TypeId} {w : World} {B b : Nat} (hb : Blk w b #[] t) (hB : B ≤ b) : ResAt cs sz t w B (some ⟨b, 0, none⟩) 0 0 ([] : List α) :=
  ⟨⟨rfl, fun i x hx => by simp at hx⟩, .inr ⟨b, rfl, hB, Nat.le_refl _, Nat.zero_le _, #[], hb, by simp, by simp⟩⟩
theorem res_nil {α : Type} {cs : α → List Value} {sz : Nat} {t : TypeId} {w : World} {B : Nat} : ResAt cs sz t w B none 0 0 ([] : List α) :=
  ⟨⟨rfl, fun i x hx => by simp at hx⟩, .inl ⟨rfl, rfl, rfl⟩⟩
theorem ResAt.grown {α : Type} {cs : α → List Value} {sz : Nat} {t : TypeId} {w w' : World} {B n cap r : Nat} {a : Option Addr} {l : List α} (h : ResAt cs sz t w B a n cap l) (hg : w.grownBy w' (some r)) (hr : ∀ ad, a = some ad → ad.block ≠ r) : ResAt cs sz t w' B a n cap l := by
  refine ⟨h.sl.grown hg hr, ?_⟩
  rcases h.own with h0 | ⟨b, ha, hB, h1, h2, c, hc, q⟩
  · exact .inl h0
  · exact .inr ⟨b, ha, hB, h1, h2, c, hc.grown hg (hr _ ha), q⟩
theorem ResAt.alloc {α : Type} {cs : α → List Value} {sz : Nat} {t : TypeId} {w : World} {B n cap : Nat} {a : Option Addr} {l : List α} (h : ResAt cs sz t w B a n cap l) (o : Obj) : ResAt cs sz t (w.alloc o) B a n cap l := h.below ((Below.refl _ _).alloc (Nat.le_refl _) _)
theorem sl_one {w : World} {b : Nat} {p : Pt} (h0 : w.cell? ⟨b, 0, none⟩ = some (.int .i64 p.a)) (h1 : w.cell? ⟨b, 1, none⟩ = some (.int .i64 p.f)) (h2 : w.cell? ⟨b, 2, none⟩ = some (.int .i64 p.n)) : PtsAt w (some ⟨b, 0, none⟩) 1 [p] := by
  refine ⟨rfl, fun i x hx => ⟨b, 0, rfl, fun j v hv => ?_⟩⟩
  have hi : i = 0 := by have := (List.getElem?_eq_some_iff.1 hx).1; simp at this; exact this
  subst hi
  simp at hx
  subst hx
  match j, hv with
  | 0, hv => obtain rfl := Option.some.inj hv; exact h0
  | 1, hv => obtain rfl := Option.some.inj hv; exact h1
  | 2, hv => obtain rfl := Option.some.inj hv; exact h2
  | j + 3, hv => simp [Pt.cs] at hv
theorem own_ne {a : Option Addr} {n cap x : Nat} (h : ∀ ad, a = some ad → x < ad.block) : some x ≠ Value.ownBlock (.slice a n cap) := by
  cases a with
  | none => simp [Value.ownBlock]
  | some ad => have := h ad rfl; simp [Value.ownBlock]; omega
theorem own_ge {a : Option Addr} {n cap B : Nat} (h : ∀ ad, a = some ad → B ≤ ad.block) : ∀ k, Value.ownBlock (.slice a n cap) = some k → B ≤ k := by
  intro k hk
  cases a with
  | none => simp [Value.ownBlock] at hk
  | some ad => have := h ad rfl; simp [Value.ownBlock] at hk; omega
/-- A new block with the cells of one part. -/
theorem Blk.new' (w : World) (c : Array Value) (t : TypeId) (b : Nat) (hb : b = w.heap.size) : Blk (w.alloc (.cells c t)) b c t := by subst hb; exact Blk.new _ _ _
theorem sl_new' (w : World) (p : Pt) (t : TypeId) (b : Nat) (hb : b = w.heap.size) : PtsAt (w.alloc (.cells #[.int .i64 p.a, .int .i64 p.f, .int .i64 p.n] t)) (some ⟨b, 0, none⟩) 1 [p] := by subst hb; exact sl_one (by simp) (by simp) (by simp)
theorem sl_new (w : World) (p : Pt) (t : TypeId) : PtsAt (w.alloc (.cells #[.int .i64 p.a, .int .i64 p.f, .int .i64 p.n] t)) (some ⟨w.heap.size, 0, none⟩) 1 [p] := sl_one (by simp) (by simp) (by simp)
end Go.Proofs.Ytckljlgojhloiaa
namespace Go.Proofs.Ytckljlgojhloiaa
open Go.RowKit Go.BigFrame

/-- l2Add, as a plain function. -/
def addL (l : List Pt) (p : Pt) : List Pt :=
  match l.getLast? with
  | none => [p]
  | some q => if goesOnB q p then l.dropLast ++ [⟨q.a, q.f, wrap64 (q.n + p.n)⟩] else l ++ [p]

/-- A slice value as Go has it. -/
structure ArgOk (a : Option Addr) (cap : Nat) : Prop where
  spot : ∀ ad, a = some ad → ad.spot = none
  nil : a = none → cap = 0

theorem ResAt.arg {α : Type} {cs : α → List Value} {sz : Nat} {t : TypeId} {w : World} {B n cap : Nat} {a : Option Addr} {l : List α} (h : ResAt cs sz t w B a n cap l) : ArgOk a cap := by
  rcases h.own with ⟨rfl, _, rfl⟩ | ⟨b, rfl, _⟩
  · exact ⟨fun ad h => (by cases h), fun _ => rfl⟩
  · exact ⟨fun ad h => (by cases h; rfl), fun h => (by cases h)⟩
theorem arg_own (b cap : Nat) : ArgOk (some ⟨b, 0, none⟩) cap := ⟨fun ad h => (by cases h; rfl), fun h => (by cases h)⟩

end Go.Proofs.Ytckljlgojhloiaa
namespace Go.Proofs.Ytckljlgojhloiaa
open Go.RowKit Go.BigFrame

def joinL (l m : List Pt) : List Pt := m.foldl addL l

theorem addL_len (l : List Pt) (p : Pt) : (addL l p).length ≤ l.length + 1 := by
  unfold addL
  split
  · simp
  · split
    · simp only [List.length_append, List.length_dropLast, List.length_cons, List.length_nil]; omega
    · simp
theorem joinL_at {l m : List Pt} {k : Nat} {p : Pt} (h : m[k]? = some p) : joinL l (m.take (k + 1)) = addL (joinL l (m.take k)) p := by
  unfold joinL; rw [take_at h, List.foldl_append]; rfl

/-- Parts as right ones are: a hole begins at 0. -/
def Holes (l : List Pt) : Prop := ∀ p ∈ l, (1 ≤ p.n ∧ p.n ≤ 100 ∧ 0 ≤ p.f ∧ p.f ≤ 100) ∧ ((p.a = 0 ∧ p.f = 0) ∨ 0 < p.a)

theorem cut_hole {p : Pt} {x y : Int} (h : p.a = 0) (hf : p.f = 0) : cutP p x y = ⟨p.a, p.f, y - x⟩ := by simp [cutP, h, hf]
theorem cut_ext {p : Pt} {x y : Int} (h : 0 < p.a) : cutP p x y = ⟨p.a, p.f + x, y - x⟩ := by
  have : (p.a == 0) = false := beq_eq_false_iff_ne.2 (by omega)
  simp [cutP, this]
theorem slj_step {lk : List Pt} {fr to st x y : Int} {p : Pt} {r : List Pt} (hx : max (fr - st) 0 = x) (hy : min (to - st) p.n = y) (h : x < y) : joinL lk (slp fr to st (p :: r)) = joinL (addL lk (cutP p x y)) (slp fr to (st + p.n) r) := by
  rw [slp_yes hx hy h]; rfl

theorem slj_hole {lk : List Pt} {fr to st z : Int} {p : Pt} {r : List Pt} (h : max (fr - st) 0 < min (to - st) p.n) (ha : p.a = 0 ∧ p.f = 0) (hz : min (to - st) p.n - max (fr - st) 0 = z) : joinL lk (slp fr to st (p :: r)) = joinL (addL lk ⟨p.a, p.f, z⟩) (slp fr to (st + p.n) r) := by
  rw [slj_step rfl rfl h, cut_hole ha.1 ha.2, hz]
theorem slj_ext {lk : List Pt} {fr to st z f : Int} {p : Pt} {r : List Pt} (h : max (fr - st) 0 < min (to - st) p.n) (ha : 0 < p.a) (hf : p.f + max (fr - st) 0 = f) (hz : min (to - st) p.n - max (fr - st) 0 = z) : joinL lk (slp fr to st (p :: r)) = joinL (addL lk ⟨p.a, f, z⟩) (slp fr to (st + p.n) r) := by
  rw [slj_step rfl rfl h, cut_ext ha, hz, hf]
theorem addL_res {l : List Pt} {p : Pt} {n m : Nat} (h1 : (addL l p).length = n) (h2 : l.length = m) : n ≤ m + 1 := by
  have := addL_len l p; omega

end Go.Proofs.Ytckljlgojhloiaa
namespace Go.Proofs.Ytckljlgojhloiaa
open Go.RowKit Go.BigFrame

theorem holes_of {l : List Pt} (h : partsOkB l = true) : Holes l := by
  intro p hp
  refine ⟨pos_of h p hp, ?_⟩
  have hk := (partsOkB_all h).2.1 p hp
  unfold partOkB at hk
  split at hk
  · rename_i ha
    simp at ha hk
    exact .inl ⟨ha, hk.1⟩
  · simp at hk
    exact .inr (by omega)

def sliceS (l : List Pt) (fr to : Int) : Option (List Pt) :=
  if partsOkB l = true ∧ 0 ≤ fr ∧ fr ≤ sumN l ∧ fr ≤ to ∧ to ≤ sumN l then some (joinL [] (slp fr to 0 l)) else none

def joinedS (l m : List Pt) : Option (List Pt) := if partsOkB l = true ∧ partsOkB m = true ∧ partsOkB (joinL l m) = true then some (joinL l m) else none

end Go.Proofs.Ytckljlgojhloiaa
namespace Go.Proofs.Ytckljlgojhloiaa
open Go.RowKit Go.BigFrame

/-- The row that a slice of the call's own lies in. -/
def rowB : Option Addr → Option Nat
  | none => none
  | some ad => some ad.block

theorem SlAt.grownO {α : Type} {cs : α → List Value} {sz : Nat} {w w' : World} {a : Option Addr} {n : Nat} {l : List α} {row : Option Nat} (h : SlAt cs sz w a n l) (hg : w.grownBy w' row) (hr : ∀ ad, a = some ad → some ad.block ≠ row) : SlAt cs sz w' a n l :=
  ⟨h.len, fun i x hx => by
    obtain ⟨b, o, ha, hc⟩ := h.cell i x hx
    exact ⟨b, o, ha, fun j v hv => hg.cell (hc j v hv) (hr ⟨b, o, none⟩ ha)⟩⟩
theorem below_grownO {w w1 w' : World} {row : Option Nat} (hb : Below w.heap.size w w1) (hg : w1.grownBy w' row) (hn : ∀ k, row = some k → w.heap.size ≤ k) : Below w.heap.size w w' := hb.grown hg hb.size hn
theorem rowB_ge {a : Option Addr} {B : Nat} (h : ∀ ad, a = some ad → B ≤ ad.block) : ∀ k, rowB a = some k → B ≤ k := by
  intro k hk
  cases a with
  | none => cases hk
  | some ad => have := h ad rfl; simp [rowB] at hk; omega
theorem rowB_ne {a a' : Option Addr} {B : Nat} (h : ∀ ad, a = some ad → ad.block < B) (h' : ∀ ad, a' = some ad → B ≤ ad.block) : ∀ ad, a = some ad → some ad.block ≠ rowB a' := by
  intro ad had he
  have := h ad had
  have := rowB_ge h' ad.block he.symm
  omega
end Go.Proofs.Ytckljlgojhloiaa
