/- Drawn parts. Drawn lists of parts, and the extents for them. Drawn extents for parts; what Content is tried at. A cell of a list of the call's own is set. -/
import Derived.Test.YtckljlgojhloiaaKa
import Derived.Test.YtckljlgojhloiaaKb
import Derived.Laws.Rows
import Derived.Test.YtckljlgojhloiaaKc
import Derived.Maps.RangeWalk
namespace Go.Proofs.Ytckljlgojhloiaa
open Go.RowKit Go.BigFrame

/-- A row told cell by cell. -/
theorem res_of_cells {α : Type} {cs : α → List Value} {sz : Nat} {t : TypeId} (hsz : ∀ x, (cs x).length = sz) (hpos : 0 < sz) {w : World} {B b n cap : Nat} {l : List α} {c : Array Value} (hb : Blk w b c t) (hB : B ≤ b) (h1 : n ≤ cap) (h2 : cap ≤ maxLen) (hs : c.size = cap * sz) (hl : l.length = n)
    (hc : ∀ i x, l[i]? = some x → ∀ j v, (cs x)[j]? = some v → c[i * sz + j]? = some v) : ResAt cs sz t w B (some ⟨b, 0, none⟩) n cap l := by
  refine ⟨⟨hl, fun i x hx => ⟨b, 0, rfl, fun j v hv => by rw [hb.cell, Nat.zero_add]; exact hc i x hx j v hv⟩⟩, .inr ⟨b, rfl, hB, h1, h2, c, hb, hs, ?_⟩⟩
  apply List.ext_getElem?
  intro k
  by_cases hk : k < n * sz
  · rw [List.getElem?_take_of_lt hk]
    have hi : k / sz < l.length := by rw [hl]; exact Nat.div_lt_of_lt_mul (by rw [Nat.mul_comm]; exact hk)
    have hx : l[k / sz]? = some l[k / sz] := by simp [hi]
    have hj : k % sz < (cs l[k / sz]).length := by rw [hsz]; exact Nat.mod_lt _ hpos
    have hv : (cs l[k / sz])[k % sz]? = some (cs l[k / sz])[k % sz] := by simp [hj]
    have e1 := hc _ _ hx _ _ hv
    have e2 := flat_at hsz l hx hv
    have e3 : k / sz * sz + k % sz = k := by rw [Nat.mul_comm]; exact Nat.div_add_mod k sz
    rw [e3] at e1 e2
    rw [e2, ← e1]; simp
  · have : n * sz ≤ k := by omega
    rw [List.getElem?_eq_none (by rw [List.length_take]; omega), List.getElem?_eq_none (by rw [flat_len hsz, hl]; exact this)]

/-- A list of parts with another length for its first. -/
def setN (l : List Pt) (v : Int) : List Pt := match l with
  | [] => []
  | p :: r => ⟨p.a, p.f, v⟩ :: r
theorem setN_len (l : List Pt) (v : Int) : (setN l v).length = l.length := by cases l <;> rfl

/-- A drawn part. -/
def PtSmall (p : Pt) : Prop := 0 ≤ p.a ∧ p.a ≤ 61 ∧ 0 ≤ p.f ∧ p.f ≤ 5 ∧ 1 ≤ p.n ∧ p.n ≤ 9

end Go.Proofs.Ytckljlgojhloiaa
namespace Go.Proofs.Ytckljlgojhloiaa
open Go.RowKit Go.BigFrame

/-- A drawn list: small parts, but for the length of the first. -/
def PtsDrawn (l : List Pt) : Prop := ∀ p ∈ l, -9223372036854775808 ≤ p.n ∧ p.n ≤ 9223372036854775807

theorem addL_small {l : List Pt} {p : Pt} {M : Int} (hM : 0 ≤ M) (hM2 : M ≤ 1000000) (hl : ∀ q ∈ l, 0 ≤ q.n ∧ q.n ≤ M) (hp : PtSmall p) : ∀ q ∈ addL l p, 0 ≤ q.n ∧ q.n ≤ M + 9 := by
  obtain ⟨_, _, _, _, h5, h6⟩ := hp
  unfold addL
  split
  · intro q hq; simp at hq; subst hq; omega
  · rename_i q0 h0
    have hq0 := hl q0 (List.mem_of_getLast? h0)
    split
    · intro q hq
      rcases List.mem_append.1 hq with hq | hq
      · have := hl q (List.dropLast_subset l hq); omega
      · simp at hq; subst hq
        dsimp only
        unfold wrap64
        omega
    · intro q hq
      rcases List.mem_append.1 hq with hq | hq
      · have := hl q hq; omega
      · simp at hq; subst hq; omega

end Go.Proofs.Ytckljlgojhloiaa
namespace Go.Proofs.Ytckljlgojhloiaa
open Go.RowKit Go.BigFrame

theorem strs_snoc {l : List Ex} {x : Ex} (h : Strs l) (hx : x.d.size ≤ 20) : Strs (l ++ [x]) := fun e he => by
  rcases List.mem_append.1 he with he | he
  · exact h e he
  · simp at he; subst he; omega
theorem Rd.grownO {w w' : World} {B : Nat} {row : Option Nat} (h : Rd w B) (hg : w.grownBy w' row) (hr : ∀ k, row = some k → B < k) : Rd w' B := by
  cases row with
  | some r => exact h.grown hg (hr r rfl)
  | none => exact h.grown (r := B + 1) (hg.but (some (B + 1))) (by omega)
theorem grown_row {w u w' : World} {B : Nat} {row : Option Nat} (h : w.grownBy u (some B)) (hg : u.grownBy w' row) (hr : ∀ k, row = some k → w.heap.size ≤ k) : w.grownBy w' (some B) :=
  h.andThen hg (fun j hj => .inl (hr j hj))

end Go.Proofs.Ytckljlgojhloiaa
namespace Go.Proofs.Ytckljlgojhloiaa
open Go.RowKit Go.BigFrame

/-- A cell of the first element is set. -/
theorem res_set0 {α : Type} {cs : α → List Value} {sz : Nat} {t : TypeId} (hsz : ∀ x, (cs x).length = sz) (hpos : 0 < sz) {w : World} {B b n cap : Nat} {x x' : α} {r : List α} (R : ResAt cs sz t w B (some ⟨b, 0, none⟩) n cap (x :: r)) (j0 : Nat) (hj0 : j0 < sz) (v : Value)
    (h : ∀ j, (cs x')[j]? = if j = j0 then some v else (cs x)[j]?) : ResAt cs sz t (w.setCell ⟨b, j0, none⟩ v) B (some ⟨b, 0, none⟩) n cap (x' :: r) := by
  have hlen := R.sl.len
  simp only [List.length_cons] at hlen
  rcases R.own with ⟨h, _⟩ | ⟨b', hb', hB, h1, h2, c, hc, hs, _⟩
  · cases h
  · obtain rfl : b = b' := by simpa using hb'
    have hcell : ∀ i y, (x :: r)[i]? = some y → ∀ j u, (cs y)[j]? = some u → c[i * sz + j]? = some u := fun i y hy j u hu => by
      obtain ⟨b2, o2, ha, hh⟩ := R.sl.cell i y hy
      obtain ⟨rfl, rfl⟩ : b = b2 ∧ 0 = o2 := by simpa using ha
      have := hh j u hu
      rw [hc.cell, Nat.zero_add] at this
      exact this
    have hbig : j0 < c.size := by
      rw [hs]
      exact Nat.lt_of_lt_of_le hj0 (Nat.le_mul_of_pos_left sz (by omega))
    refine res_of_cells hsz hpos (hc.set j0 v) hB h1 h2 (by simpa using hs) (by simpa using hlen) ?_
    intro i y hy j u hu
    cases i with
    | zero =>
      obtain rfl := Option.some.inj hy
      rw [h] at hu
      rw [Nat.zero_mul, Nat.zero_add]
      split at hu
      · rename_i hj
        subst hj
        rw [Array.getElem?_setIfInBounds_self_of_lt hbig]; exact hu
      · rename_i hj
        rw [Array.getElem?_setIfInBounds_ne (by omega)]
        have := hcell 0 x rfl j u hu
        rwa [Nat.zero_mul, Nat.zero_add] at this
    | succ i =>
      have : sz ≤ (i + 1) * sz := Nat.le_mul_of_pos_left sz (by omega)
      rw [Array.getElem?_setIfInBounds_ne (by omega)]
      exact hcell (i + 1) y hy j u hu
end Go.Proofs.Ytckljlgojhloiaa
