/- Drawn parts. -/
import Derived.Test.YtllbojcjdpelnaaGreatVa
import Derived.Test.YtllbojcjdpelnaaGreatKi
import Derived.Laws.Rows
namespace Go.Proofs.YtllbojcjdpelnaaGreat
open Go.RowKit Go.BigFrame

/-- A row told cell by cell. -/
theorem res_of_cells {α : Type} {cs : α → List Value} {sz : Nat} {t : TypeId} (hsz : ∀ x, (cs x).length = sz) (hpos : 0 < sz) {w : World} {B b n cap : Nat} {l : List α} {c : Array Value} (hb : Blk w b c t) (hB : B ≤ b) (h1 : n ≤ cap) (h2 : cap ≤ maxLen) (hs : c.size = cap * sz) (hl : l.length = n)
    (hc : ∀ i x, l[i]? = some x → ∀ j v, (cs x)[j]? = some v → c[i * sz + j]? = some v) : ResAt cs sz t w B (some ⟨b, 0, none⟩) n cap l := by
  refine ⟨⟨hl, fun i x hx => ⟨b, 0, rfl, fun j v hv => by rw [hb.cell, Nat.zero_add]; exact hc i x hx j v hv⟩⟩, .inr ⟨b, rfl, hB, h1, h2, c, hb, hs, ?_⟩⟩
  apply List.ext_getElem?
  intro k
  by_cases hk : k < n * sz
  · rw [List.getElem?_take_of_lt hk]
    have hi : k / sz < l.length := by rw [hl]; exact Nat.div_lt_of_lt_mul (by rw [Nat.mul_comm]; exact hk)
    have hx : l[k / sz]? = some l[k / sz] := by simp [hi]
    have hj : k % sz < (cs l[k / sz]).length := by rw [hsz]; exact Nat.mod_lt _ hpos
    have hv : (cs l[k / sz])[k % sz]? = some (cs l[k / sz])[k % sz] := by simp [hj]
    have e1 := hc _ _ hx _ _ hv
    have e2 := flat_at hsz l hx hv
    have e3 : k / sz * sz + k % sz = k := by rw [Nat.mul_comm]; exact Nat.div_add_mod k sz
    rw [e3] at e1 e2
    rw [e2, ← e1]; simp
  · have : n * sz ≤ k := by omega
    rw [List.getElem?_eq_none (by rw [List.length_take]; omega), List.getElem?_eq_none (by rw [flat_len hsz, hl]; exact this)]

/-- A list of parts with another length for its first. -/
def setN (l : List Pt) (v : Int) : List Pt := match l with
  | [] => []
  | p :: r => ⟨p.a, p.f, v⟩ :: r
theorem setN_len (l : List Pt) (v : Int) : (setN l v).length = l.length := by cases l <;> rfl

theorem res_setN {w : World} {B b n cap : Nat} {l : List Pt} (R : ResAt Pt.cs 3 113 w B (some ⟨b, 0, none⟩) n cap l) (hn : 0 < n) (v : Int) :
    ResAt Pt.cs 3 113 (w.setCell ⟨b, 2, none⟩ (.int .i64 v)) B (some ⟨b, 0, none⟩) n cap (setN l v) := by
  have hlen := R.sl.len
  rcases R.own with ⟨h, _⟩ | ⟨b', hb', hB, h1, h2, c, hc, hs, _⟩
  · cases h
  · obtain rfl : b = b' := by simpa using hb'
    have hcell : ∀ i x, l[i]? = some x → ∀ j u, x.cs[j]? = some u → c[i * 3 + j]? = some u := fun i x hx j u hu => by
      obtain ⟨b2, o2, ha, hh⟩ := R.sl.cell i x hx
      obtain ⟨rfl, rfl⟩ : b = b2 ∧ 0 = o2 := by simpa using ha
      have := hh j u hu
      rw [hc.cell, Nat.zero_add] at this
      exact this
    refine res_of_cells pcs_len (by omega) (hc.set 2 (.int .i64 v)) hB h1 h2 (by simpa using hs) (by rw [setN_len]; exact hlen) ?_
    intro i x hx j u hu
    have hj : j < 3 := by have := (List.getElem?_eq_some_iff.1 hu).1; simpa [Pt.cs] using this
    cases l with
    | nil => simp [setN] at hx
    | cons p r =>
      cases i with
      | zero =>
        simp [setN] at hx
        subst hx
        have c0 := hcell 0 p rfl
        match j, hu with
        | 0, hu => rw [Array.getElem?_setIfInBounds_ne (by omega)]; exact c0 0 _ hu
        | 1, hu => rw [Array.getElem?_setIfInBounds_ne (by omega)]; exact c0 1 _ hu
        | 2, hu =>
          obtain rfl := Option.some.inj hu
          rw [Array.getElem?_setIfInBounds_self_of_lt (by rw [hs]; omega)]
        | j + 3, hu => simp [Pt.cs] at hu
      | succ i =>
        rw [Array.getElem?_setIfInBounds_ne (by omega)]
        exact hcell (i + 1) x (by simpa [setN] using hx) j u hu

/-- A drawn part. -/
def PtSmall (p : Pt) : Prop := 0 ≤ p.a ∧ p.a ≤ 61 ∧ 0 ≤ p.f ∧ p.f ≤ 5 ∧ 1 ≤ p.n ∧ p.n ≤ 9

theorem part_end {w w3 : World} {B b : Nat} {x y z : Int} {c : Array Value} (hlt : B < b) (hb : b = w.heap.size) (hG : w.grownBy w3 (some B)) (hR : Rd w3 B) (hk : Blk w3 b c 113) (hc : c.size = 3) :
    Rd (((w3.setCell ⟨b, 0, none⟩ (.int .i64 x)).setCell ⟨b, 1, none⟩ (.int .i64 y)).setCell ⟨b, 2, none⟩ (.int .i64 z)) B ∧ w.grownBy (((w3.setCell ⟨b, 0, none⟩ (.int .i64 x)).setCell ⟨b, 1, none⟩ (.int .i64 y)).setCell ⟨b, 2, none⟩ (.int .i64 z)) (some B) ∧
      Blk (((w3.setCell ⟨b, 0, none⟩ (.int .i64 x)).setCell ⟨b, 1, none⟩ (.int .i64 y)).setCell ⟨b, 2, none⟩ (.int .i64 z)) b #[.int .i64 x, .int .i64 y, .int .i64 z] 113 := by
  have hg := grown_set (grown_set (grown_set (grown_refl w3 b) 0 (.int .i64 x)) 1 (.int .i64 y)) 2 (.int .i64 z)
  refine ⟨hR.grown hg hlt, ⟨hg.os.trans hG.os, hg.tape.trans hG.tape, hg.output.trans hG.output, Nat.le_trans hG.size hg.size, fun k hk hne => by
      rw [hg.block k (Nat.lt_of_lt_of_le hk hG.size) (by simp; omega)]; exact hG.block k hk hne⟩, ?_⟩
  have := ((hk.set 0 (.int .i64 x)).set 1 (.int .i64 y)).set 2 (.int .i64 z)
  obtain ⟨l⟩ := c
  match l, hc with
  | [c0, c1, c2], _ => simpa using this

end Go.Proofs.YtllbojcjdpelnaaGreat
