/- Pools of the call's own: rows of items and volumes, each in a block of its type, so that one that turns leaves those of other types alone. -/
import Derived.Test.YtnjefbkhibfgmaaGreatLDAskedx09
import Derived.Test.YtnjefbkhibfgmaaGreatLDAskedx12
import Derived.Test.YtnjefbkhibfgmaaGreatProg
import Derived.Test.YtnjefbkhibfgmaaGreatLDAskedx04
namespace Go.Proofs.YtnjefbkhibfgmaaGreat
open Go.RowKit Go.BigFrame
theorem blk_type {w : World} {b : Nat} {c c' : Array Value} {t t' : TypeId} (h : Blk w b c t) (h' : Blk w b c' t') : t = t' := by
  unfold Blk at h h'
  rw [h] at h'
  injection h' with e
  injection e
def RowTy (w : World) (row : Option Nat) (t : TypeId) : Prop := ∀ k, row = some k → ∃ c, Blk w k c t
theorem rowTy_none {w : World} {t : TypeId} : RowTy w none t := fun k e => by cases e
theorem rowTy_blk {w : World} {b : Nat} {c : Array Value} {t : TypeId} (h : Blk w b c t) : RowTy w (some b) t := fun k e => by cases e; exact ⟨c, h⟩
theorem ResAt.rowTy {α : Type} {cs : α → List Value} {sz : Nat} {t : TypeId} {w : World} {B n cap : Nat} {a : Option Addr} {l : List α} (h : ResAt cs sz t w B a n cap l) {m k : Nat} : RowTy w (Value.ownBlock (.slice a m k)) t := by
  rcases h.own with ⟨rfl, _⟩ | ⟨b, rfl, _, _, _, c, hc, _⟩
  · intro k e; simp [Value.ownBlock] at e
  · intro k e; simp [Value.ownBlock] at e; subst e; exact ⟨c, hc⟩
theorem ResAt.off {α : Type} {cs : α → List Value} {sz : Nat} {t : TypeId} {w w' : World} {B n cap : Nat} {a : Option Addr} {l : List α} {row : Option Nat} (h : ResAt cs sz t w B a n cap l) (hg : w.grownBy w' row) (hr : ∀ ad, a = some ad → some ad.block ≠ row) : ResAt cs sz t w' B a n cap l := by
  refine ⟨h.sl.grownO hg hr, ?_⟩
  rcases h.own with h0 | ⟨b, ha, hB, h1, h2, c, hc, q⟩
  · exact .inl h0
  · exact .inr ⟨b, ha, hB, h1, h2, c, (hg.block _ hc.lt (hr _ ha)).trans hc, q⟩
theorem ResAt.ty {α : Type} {cs : α → List Value} {sz : Nat} {t t' : TypeId} {w w' : World} {B n cap : Nat} {a : Option Addr} {l : List α} {row : Option Nat} (h : ResAt cs sz t w B a n cap l) (hg : w.grownBy w' row) (hr : RowTy w row t') (ht : t ≠ t') : ResAt cs sz t w' B a n cap l := by
  refine h.off hg (fun ad e hc => ?_)
  obtain ⟨c', h'⟩ := hr _ hc.symm
  rcases h.own with ⟨h0, _⟩ | ⟨b, ha, _, _, _, c, hb, _⟩
  · rw [h0] at e; cases e
  · rw [ha] at e; cases e; exact ht (blk_type hb h')
theorem Blk.ty {w w' : World} {b : Nat} {c : Array Value} {t t' : TypeId} {row : Option Nat} (h : Blk w b c t) (hg : w.grownBy w' row) (hr : RowTy w row t') (ht : t ≠ t') : Blk w' b c t := by
  refine (hg.block _ h.lt (fun e => ?_)).trans h
  obtain ⟨c', h'⟩ := hr _ e.symm
  exact ht (blk_type h h')
theorem Blk.offB {w w' : World} {b B : Nat} {c : Array Value} {t : TypeId} {row : Option Nat} (h : Blk w b c t) (hg : w.grownBy w' row) (hr : ∀ k, row = some k → B ≤ k) (hb : b < B) : Blk w' b c t :=
  (hg.block _ h.lt (fun e => by have := hr b e.symm; omega)).trans h
theorem flat_set {α : Type} {cs : α → List Value} {sz : Nat} (hsz : ∀ x, (cs x).length = sz) {x x' : α} {v : Value} {j : Nat} (hj : j < sz) (hx' : cs x' = (cs x).set j v) : ∀ {l : List α} {i : Nat}, l[i]? = some x → (l.set i x').flatMap cs = (l.flatMap cs).set (i * sz + j) v
  | [], i, h => by simp at h
  | y :: r, 0, h => by
    obtain rfl : y = x := by simpa using h
    rw [List.set_cons_zero, List.flatMap_cons, List.flatMap_cons, hx', Nat.zero_mul, Nat.zero_add, List.set_append_left _ _ (by rw [hsz]; exact hj)]
  | y :: r, i + 1, h => by
    rw [List.set_cons_succ, List.flatMap_cons, List.flatMap_cons, flat_set hsz hj hx' (by simpa using h), List.set_append_right _ _ (by rw [hsz, Nat.add_mul]; omega), hsz, show (i + 1) * sz + j - sz = i * sz + j by rw [Nat.add_mul]; omega]
theorem ResAt.set1 {α : Type} {cs : α → List Value} {sz : Nat} {t : TypeId} (hsz : ∀ x, (cs x).length = sz) {w : World} {B b n cap i j : Nat} {l : List α} {x x' : α} {v : Value} (h : ResAt cs sz t w B (some ⟨b, 0, none⟩) n cap l) (hi : l[i]? = some x) (hj : j < sz) (hx' : cs x' = (cs x).set j v) :
    ResAt cs sz t (w.setCell ⟨b, i * sz + j, none⟩ v) B (some ⟨b, 0, none⟩) n cap (l.set i x') := by
  have hin := (List.getElem?_eq_some_iff.1 hi).1
  have hll := h.sl.len
  rcases h.own with ⟨h0, _⟩ | ⟨b', ha, hB, hnc, hcm, c, hc, hs, ht⟩
  · cases h0
  · cases ha
    have hlen : (l.set i x').length = n := by rw [List.length_set]; exact hll
    have hrow : (w.setCell ⟨b, i * sz + j, none⟩ v).ownsRow B t sz (.slice (some ⟨b, 0, none⟩) n cap) n ((l.set i x').flatMap cs) := by
      refine ⟨by rw [flat_len hsz, hlen], .inr ⟨b, cap, _, rfl, hB, hc.set (i * sz + j) v, hnc, hcm, by simp [hs], ?_⟩⟩
      rw [Array.toList_setIfInBounds, List.take_set, ht, flat_set hsz hj hx' hi]
    obtain ⟨a', cap', e, R⟩ := res_of_row hsz hlen hrow
    cases e
    exact R
structure RowT (B : Nat) (w : World) (r : IR) (y : It) : Prop where
  nm : r.nm = y.nm
  ps : ResAt Pt.cs 3 46 w B r.pa r.pn r.pc y.ps
structure RowsT (B : Nat) (w : World) (rows : List IR) (l : List It) : Prop where
  len : rows.length = l.length
  at' : ∀ (i : Nat) r y, rows[i]? = some r → l[i]? = some y → RowT B w r y
structure VolT (B : Nat) (w : World) (r : VR) (y : Vo) : Prop where
  id : r.id = y.id
  nm : r.nm = y.nm
  fx : r.fx = y.fx
  its : ∃ rows, ResAt irs 2 44 w B r.pa r.pn r.pc rows ∧ RowsT B w rows y.its
structure VolsT (B : Nat) (w : World) (rows : List VR) (l : List Vo) : Prop where
  len : rows.length = l.length
  at' : ∀ (i : Nat) r y, rows[i]? = some r → l[i]? = some y → VolT B w r y
theorem RowT.below {B : Nat} {w w' : World} {r : IR} {y : It} (h : RowT B w r y) (hb : Below w.heap.size w w') : RowT B w' r y := ⟨h.nm, h.ps.below hb⟩
theorem RowsT.below {B : Nat} {w w' : World} {rows : List IR} {l : List It} (h : RowsT B w rows l) (hb : Below w.heap.size w w') : RowsT B w' rows l := ⟨h.len, fun i r y h1 h2 => (h.at' i r y h1 h2).below hb⟩
theorem VolT.below {B : Nat} {w w' : World} {r : VR} {y : Vo} (h : VolT B w r y) (hb : Below w.heap.size w w') : VolT B w' r y := by
  obtain ⟨h1, h2, h3, rows, R, T⟩ := h
  exact ⟨h1, h2, h3, rows, R.below hb, T.below hb⟩
theorem VolsT.below {B : Nat} {w w' : World} {rows : List VR} {l : List Vo} (h : VolsT B w rows l) (hb : Below w.heap.size w w') : VolsT B w' rows l := ⟨h.len, fun i r y h1 h2 => (h.at' i r y h1 h2).below hb⟩
theorem RowT.mono {B B' : Nat} {w : World} {r : IR} {y : It} (h : RowT B w r y) (hb : B' ≤ B) : RowT B' w r y := ⟨h.nm, h.ps.mono hb⟩
theorem RowsT.mono {B B' : Nat} {w : World} {rows : List IR} {l : List It} (h : RowsT B w rows l) (hb : B' ≤ B) : RowsT B' w rows l := ⟨h.len, fun i r y h1 h2 => (h.at' i r y h1 h2).mono hb⟩
theorem VolT.mono {B B' : Nat} {w : World} {r : VR} {y : Vo} (h : VolT B w r y) (hb : B' ≤ B) : VolT B' w r y := by
  obtain ⟨h1, h2, h3, rows, R, T⟩ := h
  exact ⟨h1, h2, h3, rows, R.mono hb, T.mono hb⟩
theorem VolsT.mono {B B' : Nat} {w : World} {rows : List VR} {l : List Vo} (h : VolsT B w rows l) (hb : B' ≤ B) : VolsT B' w rows l := ⟨h.len, fun i r y h1 h2 => (h.at' i r y h1 h2).mono hb⟩
theorem RowsT.ty {B : Nat} {w w' : World} {rows : List IR} {l : List It} {row : Option Nat} {t' : TypeId} (h : RowsT B w rows l) (hg : w.grownBy w' row) (hr : RowTy w row t') (ht : (46 : TypeId) ≠ t') : RowsT B w' rows l := ⟨h.len, fun i r y h1 h2 => ⟨(h.at' i r y h1 h2).nm, (h.at' i r y h1 h2).ps.ty hg hr ht⟩⟩
theorem VolT.ty {B : Nat} {w w' : World} {r : VR} {y : Vo} {row : Option Nat} {t' : TypeId} (h : VolT B w r y) (hg : w.grownBy w' row) (hr : RowTy w row t') (ht : (46 : TypeId) ≠ t') (ht' : (44 : TypeId) ≠ t') : VolT B w' r y := by
  obtain ⟨h1, h2, h3, rows, R, T⟩ := h
  exact ⟨h1, h2, h3, rows, R.ty hg hr ht', T.ty hg hr ht⟩
theorem VolsT.ty {B : Nat} {w w' : World} {rows : List VR} {l : List Vo} {row : Option Nat} {t' : TypeId} (h : VolsT B w rows l) (hg : w.grownBy w' row) (hr : RowTy w row t') (ht : (46 : TypeId) ≠ t') (ht' : (44 : TypeId) ≠ t') : VolsT B w' rows l := ⟨h.len, fun i r y h1 h2 => (h.at' i r y h1 h2).ty hg hr ht ht'⟩
theorem zip_snoc {α β : Type} {R : α → β → Prop} {rows : List α} {l : List β} {r : α} {y : β} (hl : rows.length = l.length) (h : ∀ (i : Nat) r y, rows[i]? = some r → l[i]? = some y → R r y) (h' : R r y) : ∀ (i : Nat) q z, (rows ++ [r])[i]? = some q → (l ++ [y])[i]? = some z → R q z := by
  intro i q z h1 h2
  by_cases hi : i < rows.length
  · rw [List.getElem?_append_left hi] at h1
    rw [List.getElem?_append_left (by rw [← hl]; exact hi)] at h2
    exact h i q z h1 h2
  · rw [List.getElem?_append_right (by omega)] at h1
    rw [List.getElem?_append_right (by rw [← hl]; omega)] at h2
    have h0 : i - rows.length = 0 := by have := (List.getElem?_eq_some_iff.1 h1).1; simp at this; omega
    rw [h0] at h1
    rw [← hl, h0] at h2
    simp at h1 h2
    subst h1 h2
    exact h'
theorem zip_set {α β : Type} {R : α → β → Prop} {rows : List α} {l : List β} {r : α} {y : β} {k : Nat} (h : ∀ (i : Nat) r y, rows[i]? = some r → l[i]? = some y → R r y) (h' : R r y) : ∀ (i : Nat) q z, (rows.set k r)[i]? = some q → (l.set k y)[i]? = some z → R q z := by
  intro i q z h1 h2
  by_cases hi : k = i
  · subst hi
    have e1 := (List.getElem?_eq_some_iff.1 h1).1
    have e2 := (List.getElem?_eq_some_iff.1 h2).1
    rw [List.length_set] at e1 e2
    rw [List.getElem?_set_self e1] at h1
    rw [List.getElem?_set_self e2] at h2
    cases h1; cases h2
    exact h'
  · rw [List.getElem?_set_ne hi] at h1 h2
    exact h i q z h1 h2
theorem RowsT.nil (B : Nat) (w : World) : RowsT B w [] [] := ⟨rfl, fun i r y h => by simp at h⟩
theorem VolsT.nil (B : Nat) (w : World) : VolsT B w [] [] := ⟨rfl, fun i r y h => by simp at h⟩
theorem RowsT.snoc {B : Nat} {w : World} {rows : List IR} {l : List It} {r : IR} {y : It} (h : RowsT B w rows l) (h' : RowT B w r y) : RowsT B w (rows ++ [r]) (l ++ [y]) := ⟨by simp [h.len], zip_snoc h.len h.at' h'⟩
theorem VolsT.snoc {B : Nat} {w : World} {rows : List VR} {l : List Vo} {r : VR} {y : Vo} (h : VolsT B w rows l) (h' : VolT B w r y) : VolsT B w (rows ++ [r]) (l ++ [y]) := ⟨by simp [h.len], zip_snoc h.len h.at' h'⟩
theorem VolsT.set {B : Nat} {w : World} {rows : List VR} {l : List Vo} {r : VR} {y : Vo} (k : Nat) (h : VolsT B w rows l) (h' : VolT B w r y) : VolsT B w (rows.set k r) (l.set k y) := ⟨by simp [h.len], zip_set h.at' h'⟩
theorem RowsT.cut {B : Nat} {w : World} {rows : List IR} {l : List It} (h : RowsT B w rows l) (k : Nat) : RowsT B w (rows.take k ++ rows.drop (k + 1)) (l.take k ++ l.drop (k + 1)) := by
  rw [← List.eraseIdx_eq_take_drop_succ, ← List.eraseIdx_eq_take_drop_succ]
  refine ⟨by rw [List.length_eraseIdx, List.length_eraseIdx, h.len], fun i r y h1 h2 => ?_⟩
  rw [List.getElem?_eraseIdx] at h1 h2
  split at h1
  · rename_i hi; rw [if_pos hi] at h2; exact h.at' _ r y h1 h2
  · rename_i hi; rw [if_neg hi] at h2; exact h.at' _ r y h1 h2
theorem VolsT.cut {B : Nat} {w : World} {rows : List VR} {l : List Vo} (h : VolsT B w rows l) (k : Nat) : VolsT B w (rows.take k ++ rows.drop (k + 1)) (l.take k ++ l.drop (k + 1)) := by
  rw [← List.eraseIdx_eq_take_drop_succ, ← List.eraseIdx_eq_take_drop_succ]
  refine ⟨by rw [List.length_eraseIdx, List.length_eraseIdx, h.len], fun i r y h1 h2 => ?_⟩
  rw [List.getElem?_eraseIdx] at h1 h2
  split at h1
  · rename_i hi; rw [if_pos hi] at h2; exact h.at' _ r y h1 h2
  · rename_i hi; rw [if_neg hi] at h2; exact h.at' _ r y h1 h2
theorem ResAt.sf {α : Type} {cs : α → List Value} {sz : Nat} {t : TypeId} {w : World} {B n cap : Nat} {a : Option Addr} {l : List α} (h : ResAt cs sz t w B a n cap l) : Sf B w a := fun _ ad e => by
  rcases h.own with ⟨h0, _⟩ | ⟨b', h1, h2, _, _, c, h3, _⟩
  · rw [h0] at e; cases e
  · rw [h1] at e; cases e; exact ⟨h2, c, t, h3⟩
theorem ResAt.hd {α : Type} {cs : α → List Value} {sz : Nat} {t : TypeId} {w : World} {B n cap : Nat} {a : Option Addr} {l : List α} (h : ResAt cs sz t w B a n cap l) : Hd B a n cap := by
  rcases h.own with ⟨rfl, rfl, rfl⟩ | ⟨b', rfl, h2, h3, h4, _⟩
  · exact ⟨Nat.le_refl _, by omega, fun _ => ⟨fun _ => rfl, fun ad e => by cases e⟩⟩
  · exact ⟨h3, by unfold maxLen at h4; omega, fun _ => ⟨(fun e => by cases e), fun ad e => by cases e; rfl⟩⟩
theorem RowsT.rows {B : Nat} {w : World} {rows : List IR} {l : List It} (h : RowsT B w rows l) : RowsI B w rows l := ⟨h.len, fun i r y h1 h2 => by
  have h' := h.at' i r y h1 h2
  exact ⟨h'.nm, h'.ps.sl, h'.ps.hd, fun ad e => (h'.ps.block ad e).1, fun ad e => (h'.ps.block ad e).2, h'.ps.sf⟩⟩
theorem VolsT.rows {B : Nat} {w : World} {rows : List VR} {l : List Vo} (h : VolsT B w rows l) : RowsV B w rows l := ⟨h.len, fun i r y h1 h2 => by
  obtain ⟨e1, e2, e3, rs, R, T⟩ := h.at' i r y h1 h2
  exact ⟨e1, e2, e3, T.rows.its R, R.hd⟩⟩
def PoolT (B : Nat) (w : World) (v : Value) (p : Po) : Prop :=
  ∃ ea en ec va vn vc ra rn rc la ln lc rows, v = .agg #[.int .i64 p.size, .int .i64 p.next, .slice ea en ec, .slice va vn vc, .slice ra rn rc, .slice la ln lc] ∧
    ResAt Ex.cs 2 72 w B ea en ec p.ex ∧ (ResAt vrs 4 41 w B va vn vc rows ∧ VolsT B w rows p.vs) ∧ ResAt Ct.cs 4 38 w B ra rn rc p.rf ∧ ResAt Ct.cs 4 38 w B la ln lc p.lt ∧ (∀ x y, ra = some x → la = some y → 0 < rc → 0 < lc → x.block ≠ y.block)
def NnE (v : Value) : Prop := ∀ s n ea en ec a3 a4 a5, v = .agg #[s, n, .slice ea en ec, a3, a4, a5] → ea ≠ none
theorem PoolT.below {B : Nat} {w w' : World} {v : Value} {p : Po} (h : PoolT B w v p) (hb : Below w.heap.size w w') : PoolT B w' v p := by
  obtain ⟨ea, en, ec, va, vn, vc, ra, rn, rc, la, ln, lc, rows, hv, h1, ⟨h2, h3⟩, h4, h5, h6⟩ := h
  exact ⟨ea, en, ec, va, vn, vc, ra, rn, rc, la, ln, lc, rows, hv, h1.below hb, ⟨h2.below hb, h3.below hb⟩, h4.below hb, h5.below hb, h6⟩
theorem PoolT.mono {B B' : Nat} {w : World} {v : Value} {p : Po} (h : PoolT B w v p) (hb : B' ≤ B) : PoolT B' w v p := by
  obtain ⟨ea, en, ec, va, vn, vc, ra, rn, rc, la, ln, lc, rows, hv, h1, ⟨h2, h3⟩, h4, h5, h6⟩ := h
  exact ⟨ea, en, ec, va, vn, vc, ra, rn, rc, la, ln, lc, rows, hv, h1.mono hb, ⟨h2.mono hb, h3.mono hb⟩, h4.mono hb, h5.mono hb, h6⟩
theorem PoolT.at' {B : Nat} {w : World} {v : Value} {p : Po} (h : PoolT B w v p) : PoolAt B w v p := by
  obtain ⟨ea, en, ec, va, vn, vc, ra, rn, rc, la, ln, lc, rows, hv, h1, ⟨h2, h3⟩, h4, h5, h6⟩ := h
  exact ⟨ea, en, ec, va, vn, vc, ra, rn, rc, la, ln, lc, hv, ⟨h1.sl, h1.hd, h1.sf⟩, ⟨h3.rows.vs h2, h2.hd⟩, ⟨h4.sl, h4.hd, h4.sf⟩, h5.sl, h5.hd, h5.sf⟩
end Go.Proofs.YtnjefbkhibfgmaaGreat
namespace Go.Proofs.YtnjefbkhibfgmaaGreat
open Go.RowKit Go.BigFrame
theorem infoIt : (Tryz.prog.info? 44).map (fun i => (i.zero, i.size, i.bytes)) = some (some (.agg #[.string .empty, .slice none 0 0]), 2, 40) := by kernel_rfl
theorem infoVo : (Tryz.prog.info? 41).map (fun i => (i.zero, i.size, i.bytes)) = some (some (.agg #[.int .i64 0, .string .empty, .bool false, .slice none 0 0]), 4, 56) := by kernel_rfl
theorem wp_appN {α : Type} {cs : α → List Value} {size : Nat} {P : Program} {o : Oper} {a : Act} {w : World} {K : Act → World → Prop} {Q : Exit → Act → World → Prop}
    (s x : Operand) (t : TypeId) (ho : o.op = .call { callee := .builtin .append, args := #[s, x], argTypes := #[t, t] })
    (B : Nat) (e : TypeId) (i : TypeInfo) (z : Value) (bytes : Nat) (ht : P.underlying t = some (.slice e)) (hi : P.info? e = some i) (hz : i.zero = some z) (hsize : i.size = size) (hby : i.bytes = bytes) (hzs : z.cells.size = size) (hpos : 0 < size)
    (hsz : ∀ y, (cs y).length = size) (hone : ∀ (l : List α), ∀ u ∈ l.flatMap cs, u.oneCell' = true)
    (da : Option Addr) (dn dcap : Nat) (ld : List α) (hs : a.eval s = .slice da dn dcap) (hd : ResAt cs size e w B da dn dcap ld)
    (sa : Option Addr) (sn scap : Nat) (ls : List α) (hx : a.eval x = .slice sa sn scap) (hsrc : SlAt cs size w sa sn ls) (hspot : ∀ ad, sa = some ad → ad.spot = none) (hnone : sa = none → scap = 0)
    (tot : Nat) (htot : dn + sn = tot) (h63 : tot ≤ maxLen) (hbytes : tot * bytes ≤ 140737488355328) (hbase : B ≤ w.heap.size)
    (h : ∀ a' cap' w', ResAt cs size e w' B a' tot cap' (ld ++ ls) → w.grownBy w' (Value.ownBlock (.slice da dn dcap)) → (da ≠ none → a' ≠ none) → K (a.put o.dst (.slice a' tot cap')) w') : o.wp P a w K Q := by
  subst htot
  have hrow := hd.row hsz
  have hlen : (ld ++ ls).length = dn + sn := by rw [List.length_append, hd.sl.len, hsrc.len]
  cases sa with
  | none =>
    have h0 : sn = 0 := by
      cases ls with
      | nil => rw [← hsrc.len]; rfl
      | cons y r => obtain ⟨b, o', hb, _⟩ := hsrc.cell 0 y rfl; cases hb
    obtain rfl := h0
    obtain rfl := hnone rfl
    have hl0 : ls = [] := List.eq_nil_of_length_eq_zero hsrc.len
    subst hl0
    have hrun := run_append_owned_none (P := P) w B t o.type e i size ht hi (.slice da dn dcap) dn (ld.flatMap cs) hrow
    unfold Oper.wp
    simp [execOp, ho, resolve, invoke, builtin, hs, hx, hrun, Result.andThen]
    exact h da dcap w (by simpa using hd) (World.grownBy.refl _ _) (fun h => h)
  | some ad =>
    obtain ⟨b, off, spot⟩ := ad
    have := hspot _ rfl
    simp only at this
    subst this
    refine wp_append_own w s x t ho B e i z size bytes ht hi hz hsize hby hzs hpos (.slice da dn dcap) dn (ld.flatMap cs) hs hrow ⟨b, off, none⟩ sn scap (ls.flatMap cs) hx (by rw [flat_len hsz, hsrc.len]) (SlAt.src hsz hsrc) (hone ls) h63 hbytes hbase ?_
    intro v' w' hrow' hg hiff
    rw [← List.flatMap_append] at hrow'
    obtain ⟨a', cap', rfl, hres⟩ := res_of_row hsz hlen hrow'
    refine h a' cap' w' hres hg (fun hd' ha' => ?_)
    subst ha'
    have hz : dn + sn = 0 ∧ cap' = 0 := by
      rcases hres.own with ⟨_, h1, h2⟩ | ⟨b, e, _⟩
      · exact ⟨h1, h2⟩
      · cases e
    rw [hz.1, hz.2] at hiff
    have := (hiff.1 rfl).1
    injection this with e1
    exact hd' e1
section
variable {o : Oper} {a : Act} {w : World} {K : Act → World → Prop} {Q : Exit → Act → World → Prop}
theorem wp_appI (s x : Operand) (ho : o.op = .call { callee := .builtin .append, args := #[s, x], argTypes := #[39, 39] })
    (B : Nat) (da : Option Addr) (dn dcap : Nat) (ld : List IR) (hs : a.eval s = .slice da dn dcap) (hd : ResAt irs 2 44 w B da dn dcap ld)
    (sa : Option Addr) (sn scap : Nat) (ls : List IR) (hx : a.eval x = .slice sa sn scap) (hsrc : SlAt irs 2 w sa sn ls) (hspot : ∀ ad, sa = some ad → ad.spot = none) (hnone : sa = none → scap = 0)
    (tot : Nat) (htot : dn + sn = tot) (h63 : tot ≤ 9000000) (hbase : B ≤ w.heap.size)
    (h : ∀ a' cap' w', ResAt irs 2 44 w' B a' tot cap' (ld ++ ls) → w.grownBy w' (Value.ownBlock (.slice da dn dcap)) → K (a.put o.dst (.slice a' tot cap')) w') : o.wp Tryz.prog a w K Q := by
  obtain ⟨i0, hi, hz0, hz1, hz2⟩ := info_parts infoIt
  exact wp_app s x _ ho B _ i0 _ 40 Tryz.underlying39 hi hz0 hz1 hz2 rfl (by decide) irs_len irs_one da dn dcap ld hs hd sa sn scap ls hx hsrc hspot hnone tot htot (by unfold maxLen; omega) (by omega) hbase h
theorem wp_appV (s x : Operand) (ho : o.op = .call { callee := .builtin .append, args := #[s, x], argTypes := #[25, 25] })
    (B : Nat) (da : Option Addr) (dn dcap : Nat) (ld : List VR) (hs : a.eval s = .slice da dn dcap) (hd : ResAt vrs 4 41 w B da dn dcap ld)
    (sa : Option Addr) (sn scap : Nat) (ls : List VR) (hx : a.eval x = .slice sa sn scap) (hsrc : SlAt vrs 4 w sa sn ls) (hspot : ∀ ad, sa = some ad → ad.spot = none) (hnone : sa = none → scap = 0)
    (tot : Nat) (htot : dn + sn = tot) (h63 : tot ≤ 9000000) (hbase : B ≤ w.heap.size)
    (h : ∀ a' cap' w', ResAt vrs 4 41 w' B a' tot cap' (ld ++ ls) → w.grownBy w' (Value.ownBlock (.slice da dn dcap)) → K (a.put o.dst (.slice a' tot cap')) w') : o.wp Tryz.prog a w K Q := by
  obtain ⟨i0, hi, hz0, hz1, hz2⟩ := info_parts infoVo
  exact wp_app s x _ ho B _ i0 _ 56 Tryz.underlying25 hi hz0 hz1 hz2 rfl (by decide) vrs_len vrs_one da dn dcap ld hs hd sa sn scap ls hx hsrc hspot hnone tot htot (by unfold maxLen; omega) (by omega) hbase h
theorem wp_appP (s x : Operand) (ho : o.op = .call { callee := .builtin .append, args := #[s, x], argTypes := #[42, 42] })
    (B : Nat) (da : Option Addr) (dn dcap : Nat) (ld : List Pt) (hs : a.eval s = .slice da dn dcap) (hd : ResAt Pt.cs 3 46 w B da dn dcap ld)
    (sa : Option Addr) (sn scap : Nat) (ls : List Pt) (hx : a.eval x = .slice sa sn scap) (hsrc : PtsAt w sa sn ls) (hspot : ∀ ad, sa = some ad → ad.spot = none) (hnone : sa = none → scap = 0)
    (tot : Nat) (htot : dn + sn = tot) (h63 : tot ≤ 9000000) (hbase : B ≤ w.heap.size)
    (h : ∀ a' cap' w', ResAt Pt.cs 3 46 w' B a' tot cap' (ld ++ ls) → w.grownBy w' (Value.ownBlock (.slice da dn dcap)) → K (a.put o.dst (.slice a' tot cap')) w') : o.wp Tryz.prog a w K Q := by
  obtain ⟨i0, hi, hz0, hz1, hz2⟩ := info_parts infoP
  exact wp_app s x _ ho B _ i0 _ 24 Tryz.underlying42 hi hz0 hz1 hz2 rfl (by decide) pcs_len pcs_one da dn dcap ld hs hd sa sn scap ls hx hsrc hspot hnone tot htot (by unfold maxLen; omega) (by omega) hbase h
theorem wp_appE (s x : Operand) (ho : o.op = .call { callee := .builtin .append, args := #[s, x], argTypes := #[24, 24] })
    (B : Nat) (da : Option Addr) (dn dcap : Nat) (ld : List Ex) (hs : a.eval s = .slice da dn dcap) (hd : ResAt Ex.cs 2 72 w B da dn dcap ld)
    (sa : Option Addr) (sn scap : Nat) (ls : List Ex) (hx : a.eval x = .slice sa sn scap) (hsrc : ExsAt w sa sn ls) (hspot : ∀ ad, sa = some ad → ad.spot = none) (hnone : sa = none → scap = 0)
    (tot : Nat) (htot : dn + sn = tot) (h63 : tot ≤ 9000000) (hbase : B ≤ w.heap.size)
    (h : ∀ a' cap' w', ResAt Ex.cs 2 72 w' B a' tot cap' (ld ++ ls) → w.grownBy w' (Value.ownBlock (.slice da dn dcap)) → (da ≠ none → a' ≠ none) → K (a.put o.dst (.slice a' tot cap')) w') : o.wp Tryz.prog a w K Q := by
  obtain ⟨i0, hi, hz0, hz1, hz2⟩ := info_parts infoE
  exact wp_appN s x _ ho B _ i0 _ 24 Tryz.underlying24 hi hz0 hz1 hz2 rfl (by decide) ecs_len ecs_one da dn dcap ld hs hd sa sn scap ls hx hsrc hspot hnone tot htot (by unfold maxLen; omega) (by omega) hbase h
end
theorem wp_appI1 {o : Oper} {a : Act} {w : World} {K : Act → World → Prop} {Q : Exit → Act → World → Prop} (s x : Operand) (ho : o.op = .call { callee := .builtin .append, args := #[s, x], argTypes := #[39, 39] })
    (B : Nat) (da : Option Addr) (dn dcap : Nat) (ld : List IR) (hs : a.eval s = .slice da dn dcap) (hd : ResAt irs 2 44 w B da dn dcap ld)
    (b off : Nat) (r : IR) (hx : a.eval x = .slice (some ⟨b, off, none⟩) 1 1) (hsrc : SlAt irs 2 w (some ⟨b, off, none⟩) 1 [r]) (h63 : dn ≤ 9000000) (hbase : B ≤ w.heap.size)
    (h : ∀ a' cap' w', ResAt irs 2 44 w' B a' (dn + 1) cap' (ld ++ [r]) → w.grownBy w' (Value.ownBlock (.slice da dn dcap)) → (∀ ad', a' = some ad' → (∃ ad, da = some ad ∧ ad.block = ad'.block) ∨ w.heap.size ≤ ad'.block) → K (a.put o.dst (.slice a' (dn + 1) cap')) w') : o.wp Tryz.prog a w K Q := by
  obtain ⟨i0, hi, hz0, hz1, hz2⟩ := info_parts infoIt
  exact wp_app1 s x _ ho B _ i0 _ 40 Tryz.underlying39 hi hz0 hz1 hz2 rfl (by decide) irs_len irs_one da dn dcap ld hs hd b off [r] hx hsrc (by unfold maxLen; omega) (by omega) hbase h
theorem sl_row {α : Type} {cs : α → List Value} {sz : Nat} {w : World} {b : Nat} {c : Array Value} {t : TypeId} (x : α) (h : Blk w b c t) (hc : c.toList = cs x) : SlAt cs sz w (some ⟨b, 0, none⟩) 1 [x] := by
  refine ⟨rfl, fun i y hy => ⟨b, 0, rfl, fun j v hv => ?_⟩⟩
  have hi : i = 0 := by have := (List.getElem?_eq_some_iff.1 hy).1; simp at this; exact this
  subst hi
  simp at hy
  subst hy
  rw [h.cell]
  simp only [Nat.zero_mul, Nat.zero_add]
  rw [← hc] at hv
  simpa using hv
theorem sl_newIt (w : World) (r : IR) (t : TypeId) (b : Nat) (hb : b = w.heap.size) : SlAt irs 2 (w.alloc (.cells #[.string r.nm, .slice r.pa r.pn r.pc] t)) (some ⟨b, 0, none⟩) 1 [r] := sl_row r (Blk.new' w _ t b hb) rfl
theorem sl_newVo (w : World) (r : VR) (t : TypeId) (b : Nat) (hb : b = w.heap.size) : SlAt vrs 4 (w.alloc (.cells #[.int .i64 r.id, .string r.nm, .bool r.fx, .slice r.pa r.pn r.pc] t)) (some ⟨b, 0, none⟩) 1 [r] := sl_row r (Blk.new' w _ t b hb) rfl
theorem set4 {w : World} {b : Nat} {c0 c1 c2 c3 : Value} {t : TypeId} (h : Blk w b #[c0, c1, c2, c3] t) (v0 v1 v2 v3 : Value) :
    Blk ((((w.setCell ⟨b, 0, none⟩ v0).setCell ⟨b, 1, none⟩ v1).setCell ⟨b, 2, none⟩ v2).setCell ⟨b, 3, none⟩ v3) b #[v0, v1, v2, v3] t ∧ w.grownBy ((((w.setCell ⟨b, 0, none⟩ v0).setCell ⟨b, 1, none⟩ v1).setCell ⟨b, 2, none⟩ v2).setCell ⟨b, 3, none⟩ v3) (some b) :=
  ⟨by simpa using (((h.set 0 v0).set 1 v1).set 2 v2).set 3 v3, grown_set (grown_set (grown_set (gset w b 0 v0) 1 v1) 2 v2) 3 v3⟩
theorem set6 {w : World} {b : Nat} {c0 c1 c2 c3 c4 c5 : Value} {t : TypeId} (h : Blk w b #[c0, c1, c2, c3, c4, c5] t) (v0 v1 v2 v3 v4 v5 : Value) :
    Blk ((((((w.setCell ⟨b, 0, none⟩ v0).setCell ⟨b, 1, none⟩ v1).setCell ⟨b, 2, none⟩ v2).setCell ⟨b, 3, none⟩ v3).setCell ⟨b, 4, none⟩ v4).setCell ⟨b, 5, none⟩ v5) b #[v0, v1, v2, v3, v4, v5] t ∧ w.grownBy ((((((w.setCell ⟨b, 0, none⟩ v0).setCell ⟨b, 1, none⟩ v1).setCell ⟨b, 2, none⟩ v2).setCell ⟨b, 3, none⟩ v3).setCell ⟨b, 4, none⟩ v4).setCell ⟨b, 5, none⟩ v5) (some b) :=
  ⟨by simpa using (((((h.set 0 v0).set 1 v1).set 2 v2).set 3 v3).set 4 v4).set 5 v5, grown_set (grown_set (grown_set (grown_set (grown_set (gset w b 0 v0) 1 v1) 2 v2) 3 v3) 4 v4) 5 v5⟩
theorem Blk.four {w : World} {b : Nat} {c0 c1 c2 c3 : Value} {t : TypeId} (h : Blk w b #[c0, c1, c2, c3] t) : w.cell? ⟨b, 0, none⟩ = some c0 ∧ w.cell? ⟨b, 1, none⟩ = some c1 ∧ w.cell? ⟨b, 2, none⟩ = some c2 ∧ w.cell? ⟨b, 3, none⟩ = some c3 := ⟨h.cell 0, h.cell 1, h.cell 2, h.cell 3⟩
theorem Blk.six' {w : World} {b : Nat} {c0 c1 c2 c3 c4 c5 : Value} {t : TypeId} (h : Blk w b #[c0, c1, c2, c3, c4, c5] t) : w.cell? ⟨b, 0, none⟩ = some c0 ∧ w.cell? ⟨b, 1, none⟩ = some c1 ∧ w.cell? ⟨b, 2, none⟩ = some c2 ∧ w.cell? ⟨b, 3, none⟩ = some c3 ∧ w.cell? ⟨b, 4, none⟩ = some c4 ∧ w.cell? ⟨b, 5, none⟩ = some c5 := ⟨h.cell 0, h.cell 1, h.cell 2, h.cell 3, h.cell 4, h.cell 5⟩
end Go.Proofs.YtnjefbkhibfgmaaGreat
