/- The model's l2Add. The model's l2Join, l2Slice, l2Laid. Slice, Joined, Laid of the model. Answers' blocks, and what is kept while one of them is written. The gaps of the model: l1Gaps, GapsOf. -/
import Derived.Test.YtllbojcjdpelnaaGreatProg
import Derived.Test.YtllbojcjdpelnaaGreatKh
import Derived.Test.YtllbojcjdpelnaaGreatKc
import Derived.Test.YtllbojcjdpelnaaGreatKg
namespace Go.Proofs.YtllbojcjdpelnaaGreat
open Go.RowKit Go.BigFrame

/-- l2Add, as a plain function. -/
def addL (l : List Pt) (p : Pt) : List Pt :=
  match l.getLast? with
  | none => [p]
  | some q => if goesOnB q p then l.dropLast ++ [⟨q.a, q.f, wrap64 (q.n + p.n)⟩] else l ++ [p]

/-- A slice value as Go has it. -/
structure ArgOk (a : Option Addr) (cap : Nat) : Prop where
  spot : ∀ ad, a = some ad → ad.spot = none
  nil : a = none → cap = 0

theorem ResAt.arg {α : Type} {cs : α → List Value} {sz : Nat} {t : TypeId} {w : World} {B n cap : Nat} {a : Option Addr} {l : List α} (h : ResAt cs sz t w B a n cap l) : ArgOk a cap := by
  rcases h.own with ⟨rfl, _, rfl⟩ | ⟨b, rfl, _⟩
  · exact ⟨fun ad h => (by cases h), fun _ => rfl⟩
  · exact ⟨fun ad h => (by cases h; rfl), fun h => (by cases h)⟩
theorem arg_own (b cap : Nat) : ArgOk (some ⟨b, 0, none⟩) cap := ⟨fun ad h => (by cases h; rfl), fun h => (by cases h)⟩

end Go.Proofs.YtllbojcjdpelnaaGreat
namespace Go.Proofs.YtllbojcjdpelnaaGreat
open Go.RowKit Go.BigFrame

def joinL (l m : List Pt) : List Pt := m.foldl addL l

theorem addL_len (l : List Pt) (p : Pt) : (addL l p).length ≤ l.length + 1 := by
  unfold addL
  split
  · simp
  · split
    · simp only [List.length_append, List.length_dropLast, List.length_cons, List.length_nil]; omega
    · simp
theorem joinL_at {l m : List Pt} {k : Nat} {p : Pt} (h : m[k]? = some p) : joinL l (m.take (k + 1)) = addL (joinL l (m.take k)) p := by
  unfold joinL; rw [take_at h, List.foldl_append]; rfl

/-- Parts as right ones are: a hole begins at 0. -/
def Holes (l : List Pt) : Prop := ∀ p ∈ l, (1 ≤ p.n ∧ p.n ≤ 100 ∧ 0 ≤ p.f ∧ p.f ≤ 100) ∧ ((p.a = 0 ∧ p.f = 0) ∨ 0 < p.a)

theorem cut_hole {p : Pt} {x y : Int} (h : p.a = 0) (hf : p.f = 0) : cutP p x y = ⟨p.a, p.f, y - x⟩ := by simp [cutP, h, hf]
theorem cut_ext {p : Pt} {x y : Int} (h : 0 < p.a) : cutP p x y = ⟨p.a, p.f + x, y - x⟩ := by
  have : (p.a == 0) = false := beq_eq_false_iff_ne.2 (by omega)
  simp [cutP, this]
theorem slj_step {lk : List Pt} {fr to st x y : Int} {p : Pt} {r : List Pt} (hx : max (fr - st) 0 = x) (hy : min (to - st) p.n = y) (h : x < y) : joinL lk (slp fr to st (p :: r)) = joinL (addL lk (cutP p x y)) (slp fr to (st + p.n) r) := by
  rw [slp_yes hx hy h]; rfl

theorem slj_hole {lk : List Pt} {fr to st z : Int} {p : Pt} {r : List Pt} (h : max (fr - st) 0 < min (to - st) p.n) (ha : p.a = 0 ∧ p.f = 0) (hz : min (to - st) p.n - max (fr - st) 0 = z) : joinL lk (slp fr to st (p :: r)) = joinL (addL lk ⟨p.a, p.f, z⟩) (slp fr to (st + p.n) r) := by
  rw [slj_step rfl rfl h, cut_hole ha.1 ha.2, hz]
theorem slj_ext {lk : List Pt} {fr to st z f : Int} {p : Pt} {r : List Pt} (h : max (fr - st) 0 < min (to - st) p.n) (ha : 0 < p.a) (hf : p.f + max (fr - st) 0 = f) (hz : min (to - st) p.n - max (fr - st) 0 = z) : joinL lk (slp fr to st (p :: r)) = joinL (addL lk ⟨p.a, f, z⟩) (slp fr to (st + p.n) r) := by
  rw [slj_step rfl rfl h, cut_ext ha, hz, hf]
theorem addL_res {l : List Pt} {p : Pt} {n m : Nat} (h1 : (addL l p).length = n) (h2 : l.length = m) : n ≤ m + 1 := by
  have := addL_len l p; omega

end Go.Proofs.YtllbojcjdpelnaaGreat
namespace Go.Proofs.YtllbojcjdpelnaaGreat
open Go.RowKit Go.BigFrame

theorem holes_of {l : List Pt} (h : partsOkB l = true) : Holes l := by
  intro p hp
  refine ⟨pos_of h p hp, ?_⟩
  have hk := (partsOkB_all h).2.1 p hp
  unfold partOkB at hk
  split at hk
  · rename_i ha
    simp at ha hk
    exact .inl ⟨ha, hk.1⟩
  · simp at hk
    exact .inr (by omega)

def sliceS (l : List Pt) (fr to : Int) : Option (List Pt) :=
  if partsOkB l = true ∧ 0 ≤ fr ∧ fr ≤ sumN l ∧ fr ≤ to ∧ to ≤ sumN l then some (joinL [] (slp fr to 0 l)) else none

def joinedS (l m : List Pt) : Option (List Pt) := if partsOkB l = true ∧ partsOkB m = true ∧ partsOkB (joinL l m) = true then some (joinL l m) else none

end Go.Proofs.YtllbojcjdpelnaaGreat
namespace Go.Proofs.YtllbojcjdpelnaaGreat
open Go.RowKit Go.BigFrame

/-- The row that a slice of the call's own lies in. -/
def rowB : Option Addr → Option Nat
  | none => none
  | some ad => some ad.block

theorem SlAt.grownO {α : Type} {cs : α → List Value} {sz : Nat} {w w' : World} {a : Option Addr} {n : Nat} {l : List α} {row : Option Nat} (h : SlAt cs sz w a n l) (hg : w.grownBy w' row) (hr : ∀ ad, a = some ad → some ad.block ≠ row) : SlAt cs sz w' a n l :=
  ⟨h.len, fun i x hx => by
    obtain ⟨b, o, ha, hc⟩ := h.cell i x hx
    exact ⟨b, o, ha, fun j v hv => hg.cell (hc j v hv) (hr ⟨b, o, none⟩ ha)⟩⟩
theorem below_grownO {w w1 w' : World} {row : Option Nat} (hb : Below w.heap.size w w1) (hg : w1.grownBy w' row) (hn : ∀ k, row = some k → w.heap.size ≤ k) : Below w.heap.size w w' := hb.grown hg hb.size hn
theorem rowB_ge {a : Option Addr} {B : Nat} (h : ∀ ad, a = some ad → B ≤ ad.block) : ∀ k, rowB a = some k → B ≤ k := by
  intro k hk
  cases a with
  | none => cases hk
  | some ad => have := h ad rfl; simp [rowB] at hk; omega
theorem rowB_ne {a a' : Option Addr} {B : Nat} (h : ∀ ad, a = some ad → ad.block < B) (h' : ∀ ad, a' = some ad → B ≤ ad.block) : ∀ ad, a = some ad → some ad.block ≠ rowB a' := by
  intro ad had he
  have := h ad had
  have := rowB_ge h' ad.block he.symm
  omega
end Go.Proofs.YtllbojcjdpelnaaGreat
namespace Go.Proofs.YtllbojcjdpelnaaGreat
open Go.RowKit Go.BigFrame

theorem ics_one : ∀ (l : List Int), ∀ u ∈ l.flatMap ics, u.oneCell' = true := by
  intro l u hu
  obtain ⟨x, _, hx⟩ := List.mem_flatMap.1 hu
  simp at hx
  subst hx
  rfl
theorem sl_newI' (w : World) (x : Int) (t : TypeId) (b : Nat) (hb : b = w.heap.size) : SlAt ics 1 (w.alloc (.cells #[.int .i64 x] t)) (some ⟨b, 0, none⟩) 1 [x] := by
  subst hb
  refine ⟨rfl, fun i y hy => ⟨w.heap.size, 0, rfl, fun j v hv => ?_⟩⟩
  have hi : i = 0 := by have := (List.getElem?_eq_some_iff.1 hy).1; simp at this; exact this
  subst hi
  simp at hy
  subst hy
  match j, hv with
  | 0, hv => obtain rfl := Option.some.inj hv; simp
  | j + 1, hv => simp at hv

theorem own_ne' {a : Option Addr} {n cap x B : Nat} (h : ∀ ad, a = some ad → B ≤ ad.block) (hx : x < B) : some x ≠ Value.ownBlock (.slice a n cap) := by
  cases a with
  | none => simp [Value.ownBlock]
  | some ad => have := h ad rfl; simp [Value.ownBlock]; omega

/-- All gaps, those of nought too. -/
def gl (size : Int) : Int → List Ex → List Int
  | next, [] => [size + 1 - next]
  | next, e :: r => (e.a - next) :: gl size (e.a + e.d.size) r
/-- How long the gaps ahead of the first k extents are, and the byte behind these. -/
def glA (size : Int) (l : List Ex) : Nat → List Int × Int
  | 0 => ([], 1)
  | k + 1 => match l[k]? with
    | none => glA size l k
    | some e => ((glA size l k).1 ++ [e.a - (glA size l k).2], e.a + e.d.size)
theorem glA_succ {size : Int} {l : List Ex} {k : Nat} {p : Ex} (h : l[k]? = some p) : glA size l (k + 1) = ((glA size l k).1 ++ [p.a - (glA size l k).2], p.a + p.d.size) := by simp [glA, h]
theorem glA_gl {size : Int} {l : List Ex} : ∀ k, k ≤ l.length → gl size 1 l = (glA size l k).1 ++ gl size (glA size l k).2 (l.drop k)
  | 0, _ => by simp [glA]
  | k + 1, h => by
    have hk : l[k]? = some l[k] := by simp [show k < l.length by omega]
    rw [glA_gl k (by omega), drop_at hk, glA_succ hk]
    simp [gl]
theorem glA_len {size : Int} {l : List Ex} : ∀ k, k ≤ l.length → (glA size l k).1.length = k
  | 0, _ => rfl
  | k + 1, h => by
    have hk : l[k]? = some l[k] := by simp [show k < l.length by omega]
    rw [glA_succ hk]
    simp [glA_len (size := size) (l := l) k (by omega)]
theorem glA_bd {size : Int} {l : List Ex} (hs : size ≤ 400) : ∀ k, k ≤ l.length → xgo size 1 l = true → 1 ≤ (glA size l k).2 ∧ (glA size l k).2 ≤ 421 ∧ xgo size (glA size l k).2 (l.drop k) = true
  | 0, _, h => ⟨by simp [glA], by simp [glA], by simpa [glA] using h⟩
  | k + 1, hk', h => by
    have hk : l[k]? = some l[k] := by simp [show k < l.length by omega]
    obtain ⟨q1, q2, q3⟩ := glA_bd hs k (by omega) h
    rw [drop_at hk] at q3
    simp only [xgo, Bool.and_eq_true, decide_eq_true_eq] at q3
    obtain ⟨⟨⟨h1, h2⟩, h3⟩, h4⟩ := q3
    have h20 : l[k].d.size ≤ 20 := by simp [dataOkB] at h1; omega
    rw [glA_succ hk]
    exact ⟨by simp; omega, by simp; omega, h4⟩

theorem gl_filter {size : Int} : ∀ {L : List Ex} {next : Int}, xgo size next L = true → (gl size next L).filter (fun x => decide (0 < x)) = (ggo size next L).map (·.2)
  | [], next, _ => by
    rw [gl, ggo]
    by_cases h : next ≤ size
    · have h1 : decide ((0 : Int) < size + 1 - next) = true := by simp; omega
      rw [if_pos h, List.filter_cons, if_pos h1]; rfl
    · have h1 : decide ((0 : Int) < size + 1 - next) = false := by simp; omega
      rw [if_neg h, List.filter_cons, h1]; rfl
  | e :: r, next, h => by
    simp only [xgo, Bool.and_eq_true, decide_eq_true_eq] at h
    have ih := gl_filter h.2
    rw [gl, ggo]
    by_cases hg : next < e.a
    · have h1 : decide ((0 : Int) < e.a - next) = true := by simp; omega
      rw [if_pos hg, List.filter_cons, if_pos h1, ih]; rfl
    · have h1 : decide ((0 : Int) < e.a - next) = false := by simp; omega
      rw [if_neg hg, List.filter_cons, h1, if_neg (by decide), List.nil_append]; exact ih

theorem filt_at {l : List Int} {k : Nat} {p : Int} (h : l[k]? = some p) : (l.take (k + 1)).filter (fun x => decide (0 < x)) = (l.take k).filter (fun x => decide (0 < x)) ++ (if 0 < p then [p] else []) := by
  rw [List.take_add_one, h, List.filter_append]
  by_cases hp : 0 < p <;> simp [hp]

theorem gl_len {size : Int} : ∀ {L : List Ex} {next : Int}, (gl size next L).length = L.length + 1
  | [], _ => rfl
  | e :: r, next => by simp [gl, gl_len (L := r)]

end Go.Proofs.YtllbojcjdpelnaaGreat
