/- The gaps of a space, told by a range over a function: the iterator of the program. RoomOf of the program and of the model. GapsOf of the program. Appending one element: the row that comes of it is the old one, or new. -/
import Derived.RangeFuncNested
import Derived.RangeFuncBound
import Derived.RangeFuncCalls
import Derived.RangeFuncLeaves
import Derived.RangeFuncBox
import Derived.Shelf.Abstract
import Derived.Shelf.RegionOpen
import Derived.WalkKit
import Derived.OwnWalkIn
import Derived.TacticsInMore
import Derived.LoopNIn
import Derived.LoopIn
import Derived.Test.YtllbojcjdpelnaaGreatProg
import Derived.Test.YtllbojcjdpelnaaGreatKc
import Derived.RangeFuncFrom
import Derived.Maps.AppendAt
namespace Go.Proofs.YtllbojcjdpelnaaGreat
open Go.RowKit Go.Shelf

attribute [local go_sem] Oper.semAt_some

/-- The gaps from next on: first byte, and how many. -/
def ggo (size : Int) : Int → List Ex → List (Int × Int)
  | next, [] => if next ≤ size then [(next, size + 1 - next)] else []
  | next, e :: r => (if next < e.a then [(next, e.a - next)] else []) ++ ggo size (e.a + e.d.size) r

/-- What a round that goes on keeps, for the iterator: what lay below n₀, its own copies of extents, the size's box. -/
def KpG (n₀ Bs : Nat) (t : TypeId) (A B : World) : Prop := Below n₀ A B ∧ (∀ b c, Blk A b c t → Blk B b c t) ∧ (∀ v, A.cell? ⟨Bs, 0, none⟩ = some v → B.cell? ⟨Bs, 0, none⟩ = some v)

theorem KpG.t {n₀ Bs : Nat} {t : TypeId} {A B C : World} (h : KpG n₀ Bs t A B) (k : KpG n₀ Bs t B C) : KpG n₀ Bs t A C :=
  ⟨h.1.trans k.1, fun b c hb => k.2.1 b c (h.2.1 b c hb), fun v hv => k.2.2 v (h.2.2 v hv)⟩

theorem KpG.b {n₀ Bs : Nat} {t : TypeId} {w : World} (hn : n₀ ≤ w.heap.size) (hs : Bs < w.heap.size) (W : World) (l : Nat) (o o' : Obj) (hl : w.heap.size ≤ l) (h : W.heap[l]? = some o) (hc : o.isCells = false) (hw : o.isWalk = false) : KpG n₀ Bs t W (W.putObj l o') := by
  refine ⟨belowK_b hn W l o o' hl h hc hw, fun b c hb => ?_, fun v hv => ?_⟩
  · have hbl : b ≠ l := fun e => by subst e; unfold Blk at hb; rw [h] at hb; cases hb; cases hc
    exact Blk.grown hb (grownBy_putObj' W l o') hbl
  · exact (grownBy_putObj' W l o').cell hv (by simp; omega)

/-- The slice's cells lie below n₀. -/
def ExsB (n₀ : Nat) (w : World) (a : Option Addr) (n : Nat) (l : List Ex) : Prop := ExsAt w a n l ∧ ∀ ad, 0 < n → a = some ad → ad.block < n₀

theorem exsB_at {n₀ : Nat} {w w' : World} {a : Option Addr} {n : Nat} {l : List Ex} (h : ExsB n₀ w a n l) (hb : Below n₀ w w') {k : Nat} (hk : k < n) :
    ∃ b o p, a = some ⟨b, o, none⟩ ∧ l[k]? = some p ∧ w'.cell? ⟨b, o + k * 2, none⟩ = some (.int .i64 p.a) ∧ w'.cell? ⟨b, o + k * 2 + 1, none⟩ = some (.string p.d) := by
  obtain ⟨b, o, p, ha, hp, c0, c1⟩ := exs_at h.1 hk
  have hlt : b < n₀ := h.2 _ (by omega) ha
  exact ⟨b, o, p, ha, hp, (hb.cell (p := ⟨b, o + k * 2, none⟩) hlt).trans c0, (hb.cell (p := ⟨b, o + k * 2 + 1, none⟩) hlt).trans c1⟩

end Go.Proofs.YtllbojcjdpelnaaGreat
namespace Go.Proofs.YtllbojcjdpelnaaGreat
open Go.RowKit Go.Shelf

attribute [local go_sem] Oper.semAt_some

def sumG : List (Int × Int) → Int
  | [] => 0
  | x :: r => x.2 + sumG r
/-- All of it, as the program adds it up. -/
def sumW (l : List (Int × Int)) : Int := l.foldl (fun s x => wrap64 (s + x.2)) 0
theorem sumW_snoc (l : List (Int × Int)) (x : Int × Int) : sumW (l ++ [x]) = wrap64 (sumW l + x.2) := by simp [sumW]
def sumD : List Ex → Int
  | [] => 0
  | e :: r => e.d.size + sumD r

theorem foldW : ∀ (l : List (Int × Int)) (s : Int), (∀ x ∈ l, 0 ≤ x.2) → 0 ≤ s → s + sumG l ≤ 1000 → l.foldl (fun s x => wrap64 (s + x.2)) s = s + sumG l
  | [], s, _, _, _ => by simp [sumG]
  | x :: r, s, h, h0, h1 => by
    have hx := h x (by simp)
    have hr : ∀ y ∈ r, 0 ≤ y.2 := fun y hy => h y (by simp [hy])
    have hsum : ∀ (r : List (Int × Int)), (∀ y ∈ r, 0 ≤ y.2) → 0 ≤ sumG r := by
      intro r
      induction r with
      | nil => intro _; simp [sumG]
      | cons y t ih => intro hy; have := ih (fun z hz => hy z (by simp [hz])); have := hy y (by simp); simp only [sumG]; omega
    have h2 := hsum r hr
    simp only [sumG] at h1
    rw [List.foldl_cons, show wrap64 (s + x.2) = s + x.2 by unfold wrap64; omega, foldW r (s + x.2) hr (by omega) (by omega)]
    simp only [sumG]; omega

theorem ggo_facts {size : Int} : ∀ {L : List Ex} {next : Int}, xgo size next L = true → next ≤ size + 1 → (∀ x ∈ ggo size next L, 1 ≤ x.2) ∧ sumG (ggo size next L) = size + 1 - next - sumD L
  | [], next, _, hn => by
    rw [ggo]
    split
    · simp [sumG, sumD]; omega
    · simp [sumG, sumD]; omega
  | e :: r, next, h, hn => by
    simp only [xgo, Bool.and_eq_true, decide_eq_true_eq] at h
    obtain ⟨⟨⟨h1, h2⟩, h3⟩, h4⟩ := h
    obtain ⟨q1, q2⟩ := ggo_facts h4 (by omega)
    rw [ggo]
    split
    · refine ⟨fun x hx => ?_, ?_⟩
      · rcases List.mem_append.1 hx with hx | hx
        · simp at hx; subst hx; simp; omega
        · exact q1 x hx
      · simp only [List.singleton_append, sumG, q2, sumD]; omega
    · refine ⟨fun x hx => q1 x (by simpa using hx), ?_⟩
      simp only [List.nil_append, q2, sumD]; omega

theorem sumD_nonneg : ∀ l : List Ex, 0 ≤ sumD l
  | [] => by simp [sumD]
  | e :: r => by have := sumD_nonneg r; simp only [sumD]; omega

def roomV (size : Int) (l : List Ex) : Int := if spaceOkB size l = true then size - sumD l else -1

theorem ok_parts {size : Int} {l : List Ex} (h : spaceOkB size l = true) : 1 ≤ size ∧ size ≤ 400 ∧ l.length ≤ 60 ∧ xgo size 1 l = true := by
  simp only [spaceOkB, Bool.and_eq_true, decide_eq_true_eq] at h
  exact ⟨h.1.1.1, h.1.1.2, h.1.2, h.2⟩

theorem sumW_room {size : Int} {l : List Ex} (h : spaceOkB size l = true) : sumW (ggo size 1 l) = size - sumD l := by
  obtain ⟨h1, h2, _, h4⟩ := ok_parts h
  obtain ⟨q1, q2⟩ := ggo_facts h4 (by omega)
  have := sumD_nonneg l
  unfold sumW
  rw [foldW _ 0 (fun x hx => by have := q1 x hx; omega) (by omega) (by omega), q2]; omega

theorem sumD_take {l : List Ex} : ∀ {k : Nat} {p : Ex}, l[k]? = some p → sumD (l.take (k + 1)) = sumD (l.take k) + p.d.size := by
  induction l with
  | nil => intro k p h; simp at h
  | cons e r ih =>
    intro k p h
    cases k with
    | zero => simp at h; subst h; simp [sumD]
    | succ k => simp at h; have := ih h; simp only [List.take_succ_cons, sumD, this]; omega

theorem xgo_sum {size : Int} : ∀ {L : List Ex} {next : Int}, xgo size next L = true → next ≤ size + 1 → sumD L ≤ size + 1 - next
  | [], next, _, hn => by simp [sumD]; omega
  | e :: r, next, h, hn => by
    simp only [xgo, Bool.and_eq_true, decide_eq_true_eq] at h
    obtain ⟨⟨⟨h1, h2⟩, h3⟩, h4⟩ := h
    have := xgo_sum h4 (by omega)
    simp only [sumD]; omega

theorem sumD_take_le : ∀ (l : List Ex) (k : Nat), sumD (l.take k) ≤ sumD l
  | [], k => by simp
  | e :: r, 0 => by have := sumD_nonneg (e :: r); simpa [sumD] using this
  | e :: r, k + 1 => by have := sumD_take_le r k; simp only [List.take_succ_cons, sumD]; omega

end Go.Proofs.YtllbojcjdpelnaaGreat
namespace Go.Proofs.YtllbojcjdpelnaaGreat
open Go.RowKit Go.Shelf

attribute [local go_sem] Oper.semAt_some

abbrev ics : Int → List Value := fun x => [Value.int .i64 x]
theorem infoI : (Tryz.prog.info? 2).map (fun i => (i.zero, i.size, i.bytes)) = some (some (.int .i64 0), 1, 8) := by kernel_rfl
theorem flat_ics (l : List Int) : l.flatMap ics = l.map (Value.int .i64) := by
  induction l with
  | nil => rfl
  | cons x r ih => simp [List.flatMap_cons, ih]

theorem Boxed.appended2 {W w1 : World} {base B : Nat} {t e : TypeId} {size : Nat} {v v' : Value} {k m : Nat} {xs ys : List Value} {tmp : Obj}
    (hv : Boxed W B t v) (hte : t ≠ e) (hrow : W.ownsRow base e size v k xs) (hown' : w1.ownsRow base e size v' m ys) (hgrow : (W.alloc tmp).grownBy w1 v.ownBlock) :
    Boxed w1 B t v ∧ Boxed (w1.setCell ⟨B, 0, none⟩ v') B t v' ∧ (w1.setCell ⟨B, 0, none⟩ v').ownsRow base e size v' m ys ∧ KeepsOthers W (w1.setCell ⟨B, 0, none⟩ v') ∧
      (∀ b c t', Blk W b c t' → t' ≠ e → t' ≠ t → Blk (w1.setCell ⟨B, 0, none⟩ v') b c t') ∧
      (∀ n₁, n₁ ≤ base → n₁ ≤ B → n₁ ≤ W.heap.size → Below n₁ W (w1.setCell ⟨B, 0, none⟩ v')) ∧
      (∀ s u, s < base → s ≠ B → W.cell? ⟨s, 0, none⟩ = some u → (w1.setCell ⟨B, 0, none⟩ v').cell? ⟨s, 0, none⟩ = some u) := by
  have hv1 : Boxed w1 B t v := (hv.alloc tmp).kept hgrow (hv.not_row hte hrow)
  have hlow : ∀ j, v.ownBlock = some j → base ≤ j := by
    intro j ej
    rcases hrow.2 with ⟨rfl, _⟩ | ⟨g, cap, cur, rfl, hb, _, _⟩
    · simp [Value.ownBlock] at ej
    · obtain rfl : g = j := by simpa [Value.ownBlock] using ej
      exact hb
  refine ⟨hv1, hv1.set v', hown'.kept (grownBy_setCell' w1 B v') (.inr (hv1.not_row hte hown').symm), ?_, ?_, ?_, ?_⟩
  · refine ((KeepsOthers.alloc W tmp).trans (KeepsOthers.of_grownBy hgrow fun j o ej hj => ?_)).trans (KeepsOthers.setCell _ _ _)
    rcases (hrow.alloc tmp).2 with ⟨rfl, _⟩ | ⟨g, cap, cur, rfl, _, hgb, _⟩
    · simp [Value.ownBlock] at ej
    · obtain rfl : g = j := by simpa [Value.ownBlock] using ej
      rw [hgb] at hj; cases hj; rfl
  · intro b c t' hb h1 h2
    have hne : some b ≠ v.ownBlock := by
      intro e'
      rcases hrow.2 with ⟨rfl, _⟩ | ⟨g, cap, cur, rfl, _, hgb, _⟩
      · simp [Value.ownBlock] at e'
      · obtain rfl : b = g := by simpa [Value.ownBlock] using e'
        have := (show W.heap[b]? = _ from hb).symm.trans hgb
        simp at this
        exact h1 this.2
    have hb1 : Blk w1 b c t' := by
      have hb0 := hb.alloc tmp
      show w1.heap[b]? = _
      rw [hgrow.block b hb0.lt hne]; exact hb0
    refine hb1.grown (grownBy_setCell' w1 B v') (fun e' => ?_)
    subst e'
    have := (show w1.heap[b]? = _ from hb1).symm.trans hv1
    simp at this
    exact h2 this.2
  · intro n₁ h1 h2 h3
    exact (((Below.refl n₁ W).alloc h3 tmp).grown hgrow (by simp; omega) fun j ej => Nat.le_trans h1 (hlow j ej)).setCell (p := ⟨B, 0, none⟩) h2 v'
  · intro s u hs hsB hc
    have hc1 : w1.cell? ⟨s, 0, none⟩ = some u := hgrow.cell (acell tmp hc) (fun e' => by have := hlow s e'.symm; omega)
    exact (grownBy_setCell' w1 B v').cell hc1 (by simpa using hsB)

theorem own_mono {W : World} {b b' : Nat} {e : TypeId} {size : Nat} {v : Value} {k : Nat} {xs : List Value} (hb : b ≤ b') (h : W.ownsRow b' e size v k xs) : W.ownsRow b e size v k xs :=
  ⟨h.1, h.2.imp id (fun ⟨g, cap, cur, e1, e2, r⟩ => ⟨g, cap, cur, e1, Nat.le_trans hb e2, r⟩)⟩

def gapsV (size : Int) (l : List Ex) : List Int := if spaceOkB size l = true then (ggo size 1 l).map (·.2) else []

end Go.Proofs.YtllbojcjdpelnaaGreat
namespace Go.Proofs.YtllbojcjdpelnaaGreat
open Go.RowKit

theorem app_fresh {P : Program} {w w' : World} {v v' : Value} (base : Nat) (t ty e : TypeId) (i : TypeInfo) (z : Value) (size bytes : Nat) (ht : P.underlying t = some (.slice e)) (hi : P.info? e = some i) (hz : i.zero = some z)
    (hsize : i.size = size) (hby : i.bytes = bytes) (n : Nat) (xs : List Value) (hown : w.ownsRow base e size v n xs)
    (a : Addr) (m c : Nat) (news : List Value) (hm : 0 < m) (hl : news.length = m * size) (hnews : ∀ j u, news[j]? = some u → w.cell? (a.add j) = some u) (h1 : ∀ u ∈ news, u.oneCell' = true)
    (h63 : n + m ≤ maxLen) (hbytes : (n + m) * bytes ≤ 140737488355328) (hr : (Builtin.append_ #[t, t] ty #[v, .slice (some a) m c]).run P w = .ok v' w') :
    ∀ g, v'.ownBlock = some g → v.ownBlock = some g ∨ w.heap.size ≤ g := by
  subst hsize
  subst hby
  have hsmall : n + m ≤ 9223372036854775807 := by simp only [maxLen] at h63; omega
  intro g' hg'
  rcases hown.2 with ⟨rfl, rfl⟩ | ⟨g, cap, cur, rfl, hbg, hg, hnc, hcm, hcs, htake⟩
  · have hr2 := run_append_nil (P := P) w t ty e i z ht hi hz a m c news hl hnews (by omega) (by omega) (by have hb := hbytes; simp only [Nat.zero_add] at hb; omega)
    rw [hr] at hr2
    cases hr2
    right
    simp [Value.ownBlock] at hg'
    omega
  · by_cases hroom : n + m ≤ cap
    · have hfit : n * i.size + news.length ≤ cur.size := by rw [hl, hcs, ← Nat.add_mul]; exact Nat.mul_le_mul_right _ hroom
      have hr2 := run_append_room (P := P) w t ty e i ht hi g n cap cur hg a m c news hl hnews h1 hroom hfit
      rw [hr] at hr2
      cases hr2
      left
      simpa [Value.ownBlock] using hg'
    · have holds : ∀ j u, xs[j]? = some u → w.cell? ((⟨g, 0, none⟩ : Addr).add j) = some u := hown.cells (g := g) rfl
      have hr2 := run_append_grow (P := P) w t ty e i z ht hi hz ⟨g, 0, none⟩ n cap xs hown.1 holds a m c news hl hnews (by omega) (by omega) (growslice_fits (by omega) hbytes)
      rw [hr] at hr2
      cases hr2
      right
      simp [Value.ownBlock] at hg'
      omega

/-- append(d, x): as wp_app, and where the row lies that comes of it. -/
theorem wp_app1 {α : Type} {cs : α → List Value} {size : Nat} {P : Program} {o : Oper} {a : Act} {w : World} {K : Act → World → Prop} {Q : Exit → Act → World → Prop}
    (s x : Operand) (t : TypeId) (ho : o.op = .call { callee := .builtin .append, args := #[s, x], argTypes := #[t, t] })
    (B : Nat) (e : TypeId) (i : TypeInfo) (z : Value) (bytes : Nat) (ht : P.underlying t = some (.slice e)) (hi : P.info? e = some i) (hz : i.zero = some z) (hsize : i.size = size) (hby : i.bytes = bytes) (hzs : z.cells.size = size) (hpos : 0 < size)
    (hsz : ∀ y, (cs y).length = size) (hone : ∀ (l : List α), ∀ u ∈ l.flatMap cs, u.oneCell' = true)
    (da : Option Addr) (dn dcap : Nat) (ld : List α) (hs : a.eval s = .slice da dn dcap) (hd : ResAt cs size e w B da dn dcap ld)
    (b off : Nat) (ls : List α) (hx : a.eval x = .slice (some ⟨b, off, none⟩) 1 1) (hsrc : SlAt cs size w (some ⟨b, off, none⟩) 1 ls)
    (h63 : dn + 1 ≤ maxLen) (hbytes : (dn + 1) * bytes ≤ 140737488355328) (hbase : B ≤ w.heap.size)
    (h : ∀ a' cap' w', ResAt cs size e w' B a' (dn + 1) cap' (ld ++ ls) → w.grownBy w' (Value.ownBlock (.slice da dn dcap)) → (∀ ad', a' = some ad' → (∃ ad, da = some ad ∧ ad.block = ad'.block) ∨ w.heap.size ≤ ad'.block) → K (a.put o.dst (.slice a' (dn + 1) cap')) w') : o.wp P a w K Q := by
  have hrow := hd.row hsz
  have hlen : (ld ++ ls).length = dn + 1 := by rw [List.length_append, hd.sl.len, hsrc.len]
  have hnl : (ls.flatMap cs).length = 1 * size := by rw [flat_len hsz, hsrc.len]
  obtain ⟨v', w', hr, hrow', hg, _⟩ := run_append_own (P := P) w B t o.type e i z size bytes ht hi hz hsize hby hzs hpos (.slice da dn dcap) dn (ld.flatMap cs) hrow ⟨b, off, none⟩ 1 1 (ls.flatMap cs) hnl (SlAt.src hsz hsrc) (hone ls) h63 hbytes hbase
  have hfr := app_fresh (P := P) B t o.type e i z size bytes ht hi hz hsize hby dn (ld.flatMap cs) hrow ⟨b, off, none⟩ 1 1 (ls.flatMap cs) (by omega) hnl (SlAt.src hsz hsrc) (hone ls) h63 hbytes hr
  rw [← List.flatMap_append] at hrow'
  obtain ⟨a', cap', rfl, hres⟩ := res_of_row hsz hlen hrow'
  unfold Oper.wp
  simp [execOp, ho, resolve, invoke, builtin, hs, hx, hr, Result.andThen]
  refine h a' cap' w' hres hg (fun ad' had' => ?_)
  subst had'
  rcases hfr ad'.block (by simp [Value.ownBlock]) with h1 | h1
  · cases da with
    | none => simp [Value.ownBlock] at h1
    | some ad => exact .inl ⟨ad, rfl, by simpa [Value.ownBlock] using h1⟩
  · exact .inr h1
end Go.Proofs.YtllbojcjdpelnaaGreat
