/- Blocks of one type leave those of other types alone. Files taken to be changed. Lists of files that are right, by the program. -/
import Derived.Test.YtpobgjkmcmkkeaaG02
import Derived.Test.YtpobgjkmcmkkeaaG06
namespace Go.Proofs.Ytpobgjkmcmkkeaa
open Go.RowKit Go.BigFrame

theorem slAt_grownT {α : Type} {cs : α → List Value} {sz : Nat} {w w' : World} {a : Option Addr} {n : Nat} {l : List α} {row : Option Nat} (h : SlAt cs sz w a n l) (hg : w.grownBy w' row) (hr : ∀ ad, a = some ad → some ad.block ≠ row) : SlAt cs sz w' a n l := by
  refine ⟨h.len, fun i x hx => ?_⟩
  obtain ⟨b, o, ha, hc⟩ := h.cell i x hx
  exact ⟨b, o, ha, fun j v hv => hg.cell (hc j v hv) (hr ⟨b, o, none⟩ ha)⟩
theorem blk_type {w : World} {b : Nat} {c c' : Array Value} {t t' : TypeId} (h : Blk w b c t) (h' : Blk w b c' t') : t = t' := by
  unfold Blk at h h'
  rw [h] at h'
  injection h' with e
  injection e

/-- The blocks that may turn are of this type. -/
def RowTy (w : World) (row : Option Nat) (t : TypeId) : Prop := ∀ k, row = some k → ∃ c, Blk w k c t
theorem rowTy_none {w : World} {t : TypeId} : RowTy w none t := fun k e => by cases e
theorem rowTy_blk {w : World} {b : Nat} {c : Array Value} {t : TypeId} (h : Blk w b c t) : RowTy w (some b) t := fun k e => by cases e; exact ⟨c, h⟩
theorem ResAt.rowTy {α : Type} {cs : α → List Value} {sz : Nat} {t : TypeId} {w : World} {B n cap : Nat} {a : Option Addr} {l : List α} (h : ResAt cs sz t w B a n cap l) {m k : Nat} : RowTy w (Value.ownBlock (.slice a m k)) t := by
  rcases h.own with ⟨rfl, _⟩ | ⟨b, rfl, _, _, _, c, hc, _⟩
  · intro k e; simp [Value.ownBlock] at e
  · intro k e; simp [Value.ownBlock] at e; subst e; exact ⟨c, hc⟩
theorem ResAt.off {α : Type} {cs : α → List Value} {sz : Nat} {t : TypeId} {w w' : World} {B n cap : Nat} {a : Option Addr} {l : List α} {row : Option Nat} (h : ResAt cs sz t w B a n cap l) (hg : w.grownBy w' row) (hr : ∀ ad, a = some ad → some ad.block ≠ row) : ResAt cs sz t w' B a n cap l := by
  refine ⟨slAt_grownT h.sl hg hr, ?_⟩
  rcases h.own with h0 | ⟨b, ha, hB, h1, h2, c, hc, q⟩
  · exact .inl h0
  · exact .inr ⟨b, ha, hB, h1, h2, c, (hg.block _ hc.lt (hr _ ha)).trans hc, q⟩
theorem ResAt.ty {α : Type} {cs : α → List Value} {sz : Nat} {t t' : TypeId} {w w' : World} {B n cap : Nat} {a : Option Addr} {l : List α} {row : Option Nat} (h : ResAt cs sz t w B a n cap l) (hg : w.grownBy w' row) (hr : RowTy w row t') (ht : t ≠ t') : ResAt cs sz t w' B a n cap l := by
  refine h.off hg (fun ad e hc => ?_)
  obtain ⟨c', h'⟩ := hr _ hc.symm
  rcases h.own with ⟨h0, _⟩ | ⟨b, ha, _, _, _, c, hb, _⟩
  · rw [h0] at e; cases e
  · rw [ha] at e; cases e; exact ht (blk_type hb h')
theorem Blk.ty {w w' : World} {b : Nat} {c : Array Value} {t t' : TypeId} {row : Option Nat} (h : Blk w b c t) (hg : w.grownBy w' row) (hr : RowTy w row t') (ht : t ≠ t') : Blk w' b c t := by
  refine (hg.block _ h.lt (fun e => ?_)).trans h
  obtain ⟨c', h'⟩ := hr _ e.symm
  exact ht (blk_type h h')
theorem Blk.offB {w w' : World} {b B : Nat} {c : Array Value} {t : TypeId} {row : Option Nat} (h : Blk w b c t) (hg : w.grownBy w' row) (hr : ∀ k, row = some k → B ≤ k) (hb : b < B) : Blk w' b c t :=
  (hg.block _ h.lt (fun e => by have := hr b e.symm; omega)).trans h

theorem flat_set {α : Type} {cs : α → List Value} {sz : Nat} (hsz : ∀ x, (cs x).length = sz) {x x' : α} {v : Value} {j : Nat} (hj : j < sz) (hx' : cs x' = (cs x).set j v) : ∀ {l : List α} {i : Nat}, l[i]? = some x → (l.set i x').flatMap cs = (l.flatMap cs).set (i * sz + j) v
  | [], i, h => by simp at h
  | y :: r, 0, h => by
    obtain rfl : y = x := by simpa using h
    rw [List.set_cons_zero, List.flatMap_cons, List.flatMap_cons, hx', Nat.zero_mul, Nat.zero_add, List.set_append_left _ _ (by rw [hsz]; exact hj)]
  | y :: r, i + 1, h => by
    rw [List.set_cons_succ, List.flatMap_cons, List.flatMap_cons, flat_set hsz hj hx' (by simpa using h), List.set_append_right _ _ (by rw [hsz, Nat.add_mul]; omega), hsz, show (i + 1) * sz + j - sz = i * sz + j by rw [Nat.add_mul]; omega]

/-- One cell of such a slice is written. -/
theorem ResAt.set1 {α : Type} {cs : α → List Value} {sz : Nat} {t : TypeId} (hsz : ∀ x, (cs x).length = sz) {w : World} {B b n cap i j : Nat} {l : List α} {x x' : α} {v : Value} (h : ResAt cs sz t w B (some ⟨b, 0, none⟩) n cap l) (hi : l[i]? = some x) (hj : j < sz) (hx' : cs x' = (cs x).set j v) :
    ResAt cs sz t (w.setCell ⟨b, i * sz + j, none⟩ v) B (some ⟨b, 0, none⟩) n cap (l.set i x') := by
  have hin := (List.getElem?_eq_some_iff.1 hi).1
  have hll := h.sl.len
  rcases h.own with ⟨h0, _⟩ | ⟨b', ha, hB, hnc, hcm, c, hc, hs, ht⟩
  · cases h0
  · cases ha
    have hlen : (l.set i x').length = n := by rw [List.length_set]; exact hll
    have hrow : (w.setCell ⟨b, i * sz + j, none⟩ v).ownsRow B t sz (.slice (some ⟨b, 0, none⟩) n cap) n ((l.set i x').flatMap cs) := by
      refine ⟨by rw [flat_len hsz, hlen], .inr ⟨b, cap, _, rfl, hB, hc.set (i * sz + j) v, hnc, hcm, by simp [hs], ?_⟩⟩
      rw [Array.toList_setIfInBounds, List.take_set, ht, flat_set hsz hj hx' hi]
    obtain ⟨a', cap', e, R⟩ := res_of_row hsz hlen hrow
    cases e
    exact R

end Go.Proofs.Ytpobgjkmcmkkeaa
namespace Go.Proofs.Ytpobgjkmcmkkeaa
open Go Go.RowKit Go.BigFrame

theorem HsT.ty {B : Nat} {w w' : World} {rows : List Hr} {l : List Hy} {row : Option Nat} {t' : TypeId} (h : HsT B w rows l) (hg : w.grownBy w' row) (hr : RowTy w row t') (ht : (9 : TypeId) ≠ t') : HsT B w' rows l := ⟨h.len, fun i r y h1 h2 => ⟨(h.at' i r y h1 h2).nm, (h.at' i r y h1 h2).ps.ty hg hr ht⟩, h.apart⟩
theorem HT.ty {B : Nat} {w w' : World} {r : Hr} {y : Hy} {row : Option Nat} {t' : TypeId} (h : HT B w r y) (hg : w.grownBy w' row) (hr : RowTy w row t') (ht : (9 : TypeId) ≠ t') : HT B w' r y := ⟨h.nm, h.ps.ty hg hr ht⟩
theorem infoHr : (Try.prog.info? 111).map (fun i => (i.zero, i.size, i.bytes)) = some (some (.agg #[.string .empty, .slice none 0 0]), 2, 40) := by kernel_rfl
theorem res_oneS {w : World} {b B : Nat} {s : ByteArray} (hb : Blk w b #[.string s] 9) (hB : B ≤ b) : ResAt sps 1 9 w B (some ⟨b, 0, none⟩) 1 1 [s] := by
  refine ⟨⟨rfl, fun i x hx => ⟨b, 0, rfl, fun j v hv => ?_⟩⟩, .inr ⟨b, rfl, hB, Nat.le_refl _, by unfold maxLen; omega, _, hb, rfl, rfl⟩⟩
  have hi : i = 0 := by have := (List.getElem?_eq_some_iff.1 hx).1; simp at this; exact this
  subst hi
  simp at hx
  subst hx
  have hj : j = 0 := by have := (List.getElem?_eq_some_iff.1 hv).1; simp [sps] at this; exact this
  subst hj
  simp [sps] at hv
  subst hv
  exact hb.cell 0
theorem sl_newHr (w : World) (r : Hr) (t : TypeId) (b : Nat) (hb : b = w.heap.size) : SlAt hrs 2 (w.alloc (.cells #[.string r.nm, .slice r.pa r.pn r.pc] t)) (some ⟨b, 0, none⟩) 1 [r] := by
  subst hb
  refine ⟨rfl, fun i y hy => ⟨_, 0, rfl, fun j v hv => ?_⟩⟩
  have hi : i = 0 := by have := (List.getElem?_eq_some_iff.1 hy).1; simp at this; exact this
  subst hi
  simp at hy
  subst hy
  rw [World.cell?_alloc_new]
  simp only [Nat.zero_mul, Nat.zero_add]
  match j, hv with
  | 0, hv => exact hv
  | 1, hv => exact hv
  | j + 2, hv => simp [hrs] at hv
section
variable {o : Oper} {a : Act} {w : World} {K : Act → World → Prop} {Q : Exit → Act → World → Prop}
theorem wp_appHr (s x : Operand) (ho : o.op = .call { callee := .builtin .append, args := #[s, x], argTypes := #[70, 70] })
    (B : Nat) (da : Option Addr) (dn dcap : Nat) (ld : List Hr) (hs : a.eval s = .slice da dn dcap) (hd : ResAt hrs 2 111 w B da dn dcap ld)
    (sa : Option Addr) (sn scap : Nat) (ls : List Hr) (hx : a.eval x = .slice sa sn scap) (hsrc : SlAt hrs 2 w sa sn ls) (hspot : ∀ ad, sa = some ad → ad.spot = none) (hnone : sa = none → scap = 0)
    (tot : Nat) (htot : dn + sn = tot) (h63 : tot ≤ 9000000) (hbase : B ≤ w.heap.size)
    (h : ∀ a' cap' w', ResAt hrs 2 111 w' B a' tot cap' (ld ++ ls) → w.grownBy w' (Value.ownBlock (.slice da dn dcap)) → K (a.put o.dst (.slice a' tot cap')) w') : o.wp Try.prog a w K Q := by
  obtain ⟨i0, hi, hz0, hz1, hz2⟩ := info_parts infoHr
  exact wp_app s x _ ho B _ i0 _ 40 Try.underlying70 hi hz0 hz1 hz2 rfl (by decide) hrs_len hrs_one da dn dcap ld hs hd sa sn scap ls hx hsrc hspot hnone tot htot (by unfold maxLen; omega) (by omega) hbase h
end
/-- A file in one piece. -/
def oneH (f : Fl) : Hy := ⟨f.nm, [f.d]⟩
theorem Blk.one {w : World} {b : Nat} {c0 : Value} {t : TypeId} (h : Blk w b #[c0] t) : w.cell? ⟨b, 0, none⟩ = some c0 := h.cell 0

set_option maxHeartbeats 4000000 in
set_option maxRecDepth 100000 in
theorem impl_shelfOf (a : Option Addr) (n cap : Nat) (l : List Fl) (w : World) (h : FlsAt w a n l) (hn : n ≤ 4000000) :
    Calls Try.prog 42 #[.slice a n cap] w fun e w' => (∃ a' c' rows, e = .returned (.agg #[.slice a' n c']) ∧ ResAt hrs 2 111 w' w.heap.size a' n c' rows ∧ HsT w.heap.size w' rows (l.map oneH)) ∧ Below w.heap.size w w' := by
  have hlen : Hid (l.length = n) := h.len
  go_enter Try.func42, Try.ntmps42
  go_wp2_with fail
  go_loopw [5, 8] (fun _pv ix wr => ∃ (k : Nat) (a2 : Option Addr) (c2 : Nat) (rows : List Hr), k ≤ n ∧ ix = .int .i64 k ∧ Blk wr w.heap.size #[.slice none 0 0] 72 ∧ Blk wr (w.heap.size + 1) #[.slice a2 k c2] 72 ∧ ResAt hrs 2 111 wr (w.heap.size + 2) a2 k c2 rows ∧ HsT (w.heap.size + 2) wr rows ((l.take k).map oneH) ∧ w.heap.size + 2 ≤ wr.heap.size ∧ Below w.heap.size w wr) (fun _ ix _ => n - (intOf ix).toNat)
  case atStart => exact ⟨0, none, 0, [], Nat.zero_le _, rfl, (Blk.new w _ _).alloc _, Blk.new' _ _ _ _ (by simp), res_nil, by simpa using HsT.nil _ _, by simp, by go_grown⟩
  case round =>
    obtain ⟨k, a2, c2, rows, hk, rfl, D, P, R, T, hsz, hB⟩ := hrel
    have x0 := P.one
    have f0 := P.frozen 0
    have za := fun ob => acell (w := wr) ob x0
    have hne1 : ¬ w.heap.size + 1 = wr.heap.size := by omega
    by_cases hlt : k < n
    · obtain ⟨b, o, p, rfl, hp, c0, c1⟩ := fl_at (h.below hB) hlt
      have hst : Hid ((l.take (k + 1)).map oneH = (l.take k).map oneH ++ [oneH p]) := by
        show _ = _
        rw [take_at hp, List.map_append]; rfl
      clear hp
      have hk1 : (k : Int) < n := by omega
      have hk2 : (0 : Int) ≤ k := by omega
      generalize (l.take k).map oneH = G at *
      have hA3 : Below wr.heap.size wr (((wr.alloc (.cells #[.string p.nm, .string p.d] 82)).alloc (.cells #[.string p.d] 9)).alloc (.cells #[.string p.nm, .slice (some ⟨wr.heap.size + 1, 0, none⟩) 1 1] 111)) := by go_grown
      have S3 : Blk (((wr.alloc (.cells #[.string p.nm, .string p.d] 82)).alloc (.cells #[.string p.d] 9)).alloc (.cells #[.string p.nm, .slice (some ⟨wr.heap.size + 1, 0, none⟩) 1 1] 111)) (wr.heap.size + 1) #[.string p.d] 9 := (Blk.new' _ _ _ _ (by simp)).alloc _
      go_wp2_with (at_builtin; refine wpList_app rfl (fun K hK => wp_appHr _ _ rfl (w.heap.size + 2) a2 k c2 rows rfl (R.below hA3) _ 1 1 [(⟨p.nm, some ⟨wr.heap.size + 1, 0, none⟩, 1, 1⟩ : Hr)] rfl (sl_newHr _ (⟨p.nm, some ⟨wr.heap.size + 1, 0, none⟩, 1, 1⟩ : Hr) _ _ (by simp)) (fun ad h => (by cases h; rfl)) (fun h => (by cases h)) (k + 1) rfl (by omega) (by simp; omega) (fun a3 c3 w3 R3 hg3 => hK _ _ ?_)); have ht3 := (R.below hA3).rowTy (m := k) (k := c2); have P3 := (P.below hA3).ty hg3 ht3 (by decide); have y0 := P3.one; have g0 := P3.frozen 0)
      have D3 := (D.below hA3).ty hg3 ht3 (by decide)
      have T3 := (T.below hA3).ty hg3 ht3 (by decide)
      have N3 : HT (w.heap.size + 2) w3 (⟨p.nm, some ⟨wr.heap.size + 1, 0, none⟩, 1, 1⟩ : Hr) (oneH p) := ⟨rfl, res_oneS (S3.ty hg3 ht3 (by decide)) (by omega)⟩
      have T4 := T3.snoc (w0 := wr) N3 (fun i q x hi hx => (T.block hi x hx).2) (fun x hx => by cases hx; simp only; omega)
      have hB3 : Below w.heap.size w w3 := Below.grown (chain hB hA3) hg3 (chain hB hA3).size (fun j e => by have := own_ge (fun ad had => (R.block ad had).1) j e; omega)
      have hs3 := hg3.size
      have hsA := hA3.size
      go_wp2
      have hg4 : w3.grownBy (w3.setCell ⟨w.heap.size + 1, 0, none⟩ (.slice a3 (k + 1) c3)) (some (w.heap.size + 1)) := grown_set (World.grownBy.refl _ _) _ _
      have hs4 := hg4.size
      go_roundw
      case rel => exact ⟨k + 1, a3, c3, _, by omega, by go_num, (hg4.block _ D3.lt (by simp)).trans D3, by simpa using P3.set 0 (.slice a3 (k + 1) c3), R3.ty hg4 (rowTy_blk P3) (by decide), by rw [hst.out]; exact T4.ty hg4 (rowTy_blk P3) (by decide), by omega, hB3.grown hg4 hB3.size (fun j e => by cases e; omega)⟩
      case measure => simp [intOf]; omega
    · obtain rfl : k = n := by omega
      rw [List.take_of_length_le (Nat.le_of_eq hlen.out)] at T
      have z0 := D.one
      have q0 := D.frozen 0
      go_wp2
      have hg4 : wr.grownBy (wr.setCell ⟨w.heap.size, 0, none⟩ (.slice a2 k c2)) (some w.heap.size) := grown_set (World.grownBy.refl _ _) _ _
      have W0 : Blk (wr.setCell ⟨w.heap.size, 0, none⟩ (.slice a2 k c2)) w.heap.size #[.slice a2 k c2] 72 := by simpa using D.set 0 (.slice a2 k c2)
      have R4 := (R.ty hg4 (rowTy_blk D) (by decide)).mono (show w.heap.size ≤ w.heap.size + 2 by omega)
      have T4 := (T.ty hg4 (rowTy_blk D) (by decide)).mono (show w.heap.size ≤ w.heap.size + 2 by omega)
      have hB4 := hB.grown hg4 hB.size (fun j e => by cases e; omega)
      generalize wr.setCell ⟨w.heap.size, 0, none⟩ (.slice a2 k c2) = W8 at *
      refine bodyPost_ret (results_cell_row rfl _ W8 w.heap.size _ _ _ _ rfl W0 Try.underlying72 rfl (by kernel_rfl)) rfl ?_
      exact ⟨⟨a2, c2, rows, rfl, R4, T4⟩, hB4⟩
end Go.Proofs.Ytpobgjkmcmkkeaa
namespace Go.Proofs.Ytpobgjkmcmkkeaa
open Go Go.RowKit Go.BigFrame

theorem impl_fileNameOk (d : ByteArray) (w : World) (hd : d.size ≤ 9223372036854775807) :
    Calls Try.prog 75 #[.string d] w fun e w' => e = .returned (.bool (nmB d)) ∧ w' = w := by
  by_cases h1 : 1 ≤ d.size
  · have hf : Hid (decide ((d.size : Int) ≤ 100) = nmB d) := by
      show _ = _
      have h2 : ((d.size : Int) ≤ 100) ↔ d.size ≤ 100 := by omega
      simp [nmB, h1, h2]
    go_enter Try.func75, Try.ntmps75
    go_wp2
    go_returns
    exact ⟨ret_bool hf.out, rfl⟩
  · have hf : Hid (nmB d = false) := by show _ = _; simp [nmB]; omega
    go_enter Try.func75, Try.ntmps75
    go_wp2
    go_returns
    exact ⟨ret_bool hf.out.symm, rfl⟩

theorem sumH_one (l : List Fl) : sumH (l.map oneH) = sumB l := by
  induction l with
  | nil => rfl
  | cons x r ih => simp only [List.map_cons, sumH, sumB, ih, oneH, sumP]; omega
theorem fits_one (l : List Fl) : fitsB (l.map oneH) = (decide (l.length ≤ 60) && decide (sumB l ≤ 200000)) := by
  unfold fitsB
  rw [sumH_one, List.length_map]
theorem filesB_fits (l : List Fl) : filesB l = (fgo none l && fitsB (l.map oneH)) := by
  rw [fits_one]
  unfold filesB
  cases fgo none l <;> simp

set_option maxHeartbeats 4000000 in
set_option maxRecDepth 100000 in
theorem impl_filesOk (a : Option Addr) (n cap : Nat) (l : List Fl) (w : World) (h : FlsAt w a n l) (hb : StrsF l) (hn : n ≤ 4000000) :
    Calls Try.prog 41 #[.slice a n cap] w fun e w' => e = .returned (.bool (filesB l)) ∧ Below w.heap.size w w' := by
  have hlen : Hid (l.length = n) := h.len
  have hfl : Hid (filesB l = (fgo none l && fitsB (l.map oneH))) := filesB_fits l
  go_enter Try.func41, Try.ntmps41
  go_wp2_with fail
  go_loopw [3, 4, 8] (fun _pi _pf ix wr => ∃ k : Nat, k ≤ n ∧ ix = .int .i64 k ∧ Hid (fgo none l = fgo (prevF l k) (l.drop k)) ∧ Below w.heap.size w wr) (fun _ _ ix _ => n - (intOf ix).toNat)
  case atStart => exact ⟨0, Nat.zero_le _, rfl, by show _ = _; simp [prevF], Below.refl _ _⟩
  case round =>
    obtain ⟨k, hk, rfl, hI, hB⟩ := hrel
    obtain ⟨wi, hwi⟩ : ∃ x, x = wr := ⟨_, rfl⟩
    subst hwi
    by_cases hlt : k < n
    · obtain ⟨b, o, p, rfl, hp, c0, c1⟩ := fl_at (h.below hB) hlt
      have hpb := hb p (List.mem_of_getElem? hp)
      have hgo : ∀ q, fgo q (l.drop k) = (nmB p.nm && (match q with | none => true | some x => bl x.nm.toList p.nm.toList) && fgo (some p) (l.drop (k + 1))) := fun q => fgo_at hp
      have hpv : Hid (prevF l (k + 1) = some p) := by show _ = _; simp [prevF, hp]
      have hk1 : (k : Int) < n := by omega
      have hk2 : (0 : Int) ≤ k := by omega
      have hname := fun u => impl_fileNameOk p.nm u hpb.1
      have hA : Below wi.heap.size wi (wi.alloc (.cells #[.string p.nm, .string p.d] 82)) := (Below.refl _ _).alloc (Nat.le_refl _) _
      have z0 : (wi.alloc (.cells #[.string p.nm, .string p.d] 82)).cell? ⟨wi.heap.size, 0, none⟩ = some (.string p.nm) := (Blk.new wi _ _).cell 0
      have hB1 := chain hB hA
      cases hnm : nmB p.nm
      · have hf : Hid (fgo none l = false) := by show _ = _; rw [hI.out, hgo, hnm]; simp
        clear hgo
        go_wp2_with fail
        generalize wi.alloc (.cells #[.string p.nm, .string p.d] 82) = W at *
        have hS0 : (fun u => u.cell? ⟨wi.heap.size, 0, none⟩ = some (.string p.nm)) W.drew := z0
        refine wp_region_heldH (S := (fun u => u.cell? ⟨wi.heap.size, 0, none⟩ = some (.string p.nm))) 19 (by kernel_rfl) rfl ?_
        refine takeL (i := 0) (v := ?vq13001) rfl (by kernel_rfl) (by kernel_rfl) (by kernel_rfl) (fun _ _ _ h => h) (Or.inl ⟨by rfl, ?hyq13001⟩) (by assumption) ?restq13001
        case hyq13001 => (intro u hu; (try dsimp only at hu); go_simp <;> with_reducible rfl)
        try simp only [Act.put, List.setIfInBounds_toArray, List.set_cons_zero, List.set_cons_succ]
        refine takeL (i := 1) (v := ?vq13002) rfl (by kernel_rfl) (by kernel_rfl) (by kernel_rfl) (fun _ _ _ h => h) (Or.inl ⟨by rfl, ?hyq13002⟩) (by assumption) ?restq13002
        case hyq13002 => (intro u hu; (try dsimp only at hu); go_simp <;> with_reducible rfl)
        try simp only [Act.put, List.setIfInBounds_toArray, List.set_cons_zero, List.set_cons_succ]
        refine oneL (i := 2) (by kernel_rfl) rfl (fun K hK => ?_)
        go_simp
        refine (hname _).mono ?_
        rintro e w1 ⟨rfl, rfl⟩
        rw [hnm]
        dsimp only
        refine hK.out _ _ (by assumption) (fun hHeld => ?_)
        clear hK K
        try simp only [Act.put, List.setIfInBounds_toArray, List.set_cons_zero, List.set_cons_succ]
        refine takeL (i := 3) (v := ?vq13003) rfl (by kernel_rfl) (by kernel_rfl) (by kernel_rfl) (fun _ _ _ h => h) (Or.inl ⟨by rfl, ?hyq13003⟩) (by assumption) ?restq13003
        case hyq13003 => (intro u hu; (try dsimp only at hu); go_simp <;> with_reducible rfl)
        try simp only [Act.put, List.setIfInBounds_toArray, List.set_cons_zero, List.set_cons_succ]
        refine takeL (i := 4) (v := ?vq13004) rfl (by kernel_rfl) (by kernel_rfl) (by kernel_rfl) (fun _ _ _ h => h) (Or.inl ⟨by rfl, ?hyq13004⟩) (by assumption) ?restq13004
        case hyq13004 => (intro u hu; (try dsimp only at hu); go_simp <;> with_reducible rfl)
        try simp only [Act.put, List.setIfInBounds_toArray, List.set_cons_zero, List.set_cons_succ]
        refine takeL (i := 5) (v := undef) rfl (by kernel_rfl) (by kernel_rfl) (by kernel_rfl) (fun _ _ _ h => h) (Or.inr ⟨by rfl, rfl⟩) (by assumption) ?_
        try simp only [Act.put, List.setIfInBounds_toArray, List.set_cons_zero, List.set_cons_succ]
        refine takeL (i := 6) (v := undef) rfl (by kernel_rfl) (by kernel_rfl) (by kernel_rfl) (fun _ _ _ h => h) (Or.inr ⟨by rfl, rfl⟩) (by assumption) ?_
        try simp only [Act.put, List.setIfInBounds_toArray, List.set_cons_zero, List.set_cons_succ]
        refine takeL (i := 7) (v := undef) rfl (by kernel_rfl) (by kernel_rfl) (by kernel_rfl) (fun _ _ _ h => h) (Or.inr ⟨by rfl, rfl⟩) (by assumption) ?_
        try simp only [Act.put, List.setIfInBounds_toArray, List.set_cons_zero, List.set_cons_succ]
        refine takeL (i := 8) (v := undef) rfl (by kernel_rfl) (by kernel_rfl) (by kernel_rfl) (fun _ _ _ h => h) (Or.inr ⟨by rfl, rfl⟩) (by assumption) ?_
        try simp only [Act.put, List.setIfInBounds_toArray, List.set_cons_zero, List.set_cons_succ]
        refine takeL (i := 9) (v := undef) rfl (by kernel_rfl) (by kernel_rfl) (by kernel_rfl) (fun _ _ _ h => h) (Or.inr ⟨by rfl, rfl⟩) (by assumption) ?_
        try simp only [Act.put, List.setIfInBounds_toArray, List.set_cons_zero, List.set_cons_succ]
        refine takeL (i := 10) (v := undef) rfl (by kernel_rfl) (by kernel_rfl) (by kernel_rfl) (fun _ _ _ h => h) (Or.inr ⟨by rfl, rfl⟩) (by assumption) ?_
        try simp only [Act.put, List.setIfInBounds_toArray, List.set_cons_zero, List.set_cons_succ]
        refine takeL (i := 11) (v := undef) rfl (by kernel_rfl) (by kernel_rfl) (by kernel_rfl) (fun _ _ _ h => h) (Or.inr ⟨by rfl, rfl⟩) (by assumption) ?_
        try simp only [Act.put, List.setIfInBounds_toArray, List.set_cons_zero, List.set_cons_succ]
        refine takeL (i := 12) (v := undef) rfl (by kernel_rfl) (by kernel_rfl) (by kernel_rfl) (fun _ _ _ h => h) (Or.inr ⟨by rfl, rfl⟩) (by assumption) ?_
        try simp only [Act.put, List.setIfInBounds_toArray, List.set_cons_zero, List.set_cons_succ]
        refine takeL (i := 13) (v := undef) rfl (by kernel_rfl) (by kernel_rfl) (by kernel_rfl) (fun _ _ _ h => h) (Or.inr ⟨by rfl, rfl⟩) (by assumption) ?_
        try simp only [Act.put, List.setIfInBounds_toArray, List.set_cons_zero, List.set_cons_succ]
        refine takeL (i := 14) (v := undef) rfl (by kernel_rfl) (by kernel_rfl) (by kernel_rfl) (fun _ _ _ h => h) (Or.inr ⟨by rfl, rfl⟩) (by assumption) ?_
        try simp only [Act.put, List.setIfInBounds_toArray, List.set_cons_zero, List.set_cons_succ]
        refine takeL (i := 15) (v := undef) rfl (by kernel_rfl) (by kernel_rfl) (by kernel_rfl) (fun _ _ _ h => h) (Or.inr ⟨by rfl, rfl⟩) (by assumption) ?_
        try simp only [Act.put, List.setIfInBounds_toArray, List.set_cons_zero, List.set_cons_succ]
        refine takeL (i := 16) (v := undef) rfl (by kernel_rfl) (by kernel_rfl) (by kernel_rfl) (fun _ _ _ h => h) (Or.inr ⟨by rfl, rfl⟩) (by assumption) ?_
        try simp only [Act.put, List.setIfInBounds_toArray, List.set_cons_zero, List.set_cons_succ]
        refine takeL (i := 17) (v := undef) rfl (by kernel_rfl) (by kernel_rfl) (by kernel_rfl) (fun _ _ _ h => h) (Or.inr ⟨by rfl, rfl⟩) (by assumption) ?_
        try simp only [Act.put, List.setIfInBounds_toArray, List.set_cons_zero, List.set_cons_succ]
        refine takeL (i := 18) (v := ?vq13005) rfl (by kernel_rfl) (by kernel_rfl) (by kernel_rfl) (fun _ _ _ h => h) (Or.inl ⟨by rfl, ?hyq13005⟩) (by assumption) ?restq13005
        case hyq13005 => (intro u hu; (try dsimp only at hu); go_simp <;> with_reducible rfl)
        try simp only [Act.put, List.setIfInBounds_toArray, List.set_cons_zero, List.set_cons_succ]
        refine wpAnyH_done (by kernel_rfl) ?_ _
        clear hS0 hHeld
        go_wp2
        go_returns
        exact ⟨by rw [hfl.out, hf.out]; rfl, chain hB1 ((Below.refl _ _).drew)⟩
      · by_cases hk0 : k = 0
        · subst hk0
          have hnx : Hid (fgo none l = fgo (prevF l (0 + 1)) (l.drop (0 + 1))) := by show _ = _; rw [hI.out, hgo, hnm, hpv.out]; simp [prevF]
          clear hgo
          simp only [Nat.zero_mul, Nat.add_zero] at c0 c1
          go_wp2_with fail
          generalize wi.alloc (.cells #[.string p.nm, .string p.d] 82) = W at *
          have hS0 : (fun u => u.cell? ⟨wi.heap.size, 0, none⟩ = some (.string p.nm)) W.drew := z0
          refine wp_region_heldH (S := (fun u => u.cell? ⟨wi.heap.size, 0, none⟩ = some (.string p.nm))) 19 (by kernel_rfl) rfl ?_
          refine takeL (i := 0) (v := ?vq13006) rfl (by kernel_rfl) (by kernel_rfl) (by kernel_rfl) (fun _ _ _ h => h) (Or.inl ⟨by rfl, ?hyq13006⟩) (by assumption) ?restq13006
          case hyq13006 => (intro u hu; (try dsimp only at hu); go_simp <;> with_reducible rfl)
          try simp only [Act.put, List.setIfInBounds_toArray, List.set_cons_zero, List.set_cons_succ]
          refine takeL (i := 1) (v := ?vq13007) rfl (by kernel_rfl) (by kernel_rfl) (by kernel_rfl) (fun _ _ _ h => h) (Or.inl ⟨by rfl, ?hyq13007⟩) (by assumption) ?restq13007
          case hyq13007 => (intro u hu; (try dsimp only at hu); go_simp <;> with_reducible rfl)
          try simp only [Act.put, List.setIfInBounds_toArray, List.set_cons_zero, List.set_cons_succ]
          refine oneL (i := 2) (by kernel_rfl) rfl (fun K hK => ?_)
          go_simp
          refine (hname _).mono ?_
          rintro e w1 ⟨rfl, rfl⟩
          rw [hnm]
          dsimp only
          refine hK.out _ _ (by assumption) (fun hHeld => ?_)
          clear hK K
          try simp only [Act.put, List.setIfInBounds_toArray, List.set_cons_zero, List.set_cons_succ]
          refine takeL (i := 3) (v := ?vq13008) rfl (by kernel_rfl) (by kernel_rfl) (by kernel_rfl) (fun _ _ _ h => h) (Or.inl ⟨by rfl, ?hyq13008⟩) (by assumption) ?restq13008
          case hyq13008 => (intro u hu; (try dsimp only at hu); go_simp <;> with_reducible rfl)
          try simp only [Act.put, List.setIfInBounds_toArray, List.set_cons_zero, List.set_cons_succ]
          refine takeL (i := 4) (v := ?vq13009) rfl (by kernel_rfl) (by kernel_rfl) (by kernel_rfl) (fun _ _ _ h => h) (Or.inl ⟨by rfl, ?hyq13009⟩) (by assumption) ?restq13009
          case hyq13009 => (intro u hu; (try dsimp only at hu); go_simp <;> with_reducible rfl)
          try simp only [Act.put, List.setIfInBounds_toArray, List.set_cons_zero, List.set_cons_succ]
          refine takeL (i := 5) (v := ?vq13010) rfl (by kernel_rfl) (by kernel_rfl) (by kernel_rfl) (fun _ _ _ h => h) (Or.inl ⟨by rfl, ?hyq13010⟩) (by assumption) ?restq13010
          case hyq13010 => (intro u hu; (try dsimp only at hu); go_simp <;> with_reducible rfl)
          try simp only [Act.put, List.setIfInBounds_toArray, List.set_cons_zero, List.set_cons_succ]
          refine takeL (i := 6) (v := ?vq13011) rfl (by kernel_rfl) (by kernel_rfl) (by kernel_rfl) (fun _ _ _ h => h) (Or.inl ⟨by rfl, ?hyq13011⟩) (by assumption) ?restq13011
          case hyq13011 => (intro u hu; (try dsimp only at hu); go_simp <;> with_reducible rfl)
          try simp only [Act.put, List.setIfInBounds_toArray, List.set_cons_zero, List.set_cons_succ]
          refine takeL (i := 7) (v := ?vq13012) rfl (by kernel_rfl) (by kernel_rfl) (by kernel_rfl) (fun _ _ _ h => h) (Or.inl ⟨by rfl, ?hyq13012⟩) (by assumption) ?restq13012
          case hyq13012 => (intro u hu; (try dsimp only at hu); go_simp <;> with_reducible rfl)
          try simp only [Act.put, List.setIfInBounds_toArray, List.set_cons_zero, List.set_cons_succ]
          refine takeL (i := 8) (v := undef) rfl (by kernel_rfl) (by kernel_rfl) (by kernel_rfl) (fun _ _ _ h => h) (Or.inr ⟨by rfl, rfl⟩) (by assumption) ?_
          try simp only [Act.put, List.setIfInBounds_toArray, List.set_cons_zero, List.set_cons_succ]
          refine takeL (i := 9) (v := undef) rfl (by kernel_rfl) (by kernel_rfl) (by kernel_rfl) (fun _ _ _ h => h) (Or.inr ⟨by rfl, rfl⟩) (by assumption) ?_
          try simp only [Act.put, List.setIfInBounds_toArray, List.set_cons_zero, List.set_cons_succ]
          refine takeL (i := 10) (v := undef) rfl (by kernel_rfl) (by kernel_rfl) (by kernel_rfl) (fun _ _ _ h => h) (Or.inr ⟨by rfl, rfl⟩) (by assumption) ?_
          try simp only [Act.put, List.setIfInBounds_toArray, List.set_cons_zero, List.set_cons_succ]
          refine takeL (i := 11) (v := undef) rfl (by kernel_rfl) (by kernel_rfl) (by kernel_rfl) (fun _ _ _ h => h) (Or.inr ⟨by rfl, rfl⟩) (by assumption) ?_
          try simp only [Act.put, List.setIfInBounds_toArray, List.set_cons_zero, List.set_cons_succ]
          refine takeL (i := 12) (v := undef) rfl (by kernel_rfl) (by kernel_rfl) (by kernel_rfl) (fun _ _ _ h => h) (Or.inr ⟨by rfl, rfl⟩) (by assumption) ?_
          try simp only [Act.put, List.setIfInBounds_toArray, List.set_cons_zero, List.set_cons_succ]
          refine takeL (i := 13) (v := undef) rfl (by kernel_rfl) (by kernel_rfl) (by kernel_rfl) (fun _ _ _ h => h) (Or.inr ⟨by rfl, rfl⟩) (by assumption) ?_
          try simp only [Act.put, List.setIfInBounds_toArray, List.set_cons_zero, List.set_cons_succ]
          refine takeL (i := 14) (v := undef) rfl (by kernel_rfl) (by kernel_rfl) (by kernel_rfl) (fun _ _ _ h => h) (Or.inr ⟨by rfl, rfl⟩) (by assumption) ?_
          try simp only [Act.put, List.setIfInBounds_toArray, List.set_cons_zero, List.set_cons_succ]
          refine takeL (i := 15) (v := undef) rfl (by kernel_rfl) (by kernel_rfl) (by kernel_rfl) (fun _ _ _ h => h) (Or.inr ⟨by rfl, rfl⟩) (by assumption) ?_
          try simp only [Act.put, List.setIfInBounds_toArray, List.set_cons_zero, List.set_cons_succ]
          refine takeL (i := 16) (v := undef) rfl (by kernel_rfl) (by kernel_rfl) (by kernel_rfl) (fun _ _ _ h => h) (Or.inr ⟨by rfl, rfl⟩) (by assumption) ?_
          try simp only [Act.put, List.setIfInBounds_toArray, List.set_cons_zero, List.set_cons_succ]
          refine takeL (i := 17) (v := ?vq13013) rfl (by kernel_rfl) (by kernel_rfl) (by kernel_rfl) (fun _ _ _ h => h) (Or.inl ⟨by rfl, ?hyq13013⟩) (by assumption) ?restq13013
          case hyq13013 => (intro u hu; (try dsimp only at hu); go_simp <;> with_reducible rfl)
          try simp only [Act.put, List.setIfInBounds_toArray, List.set_cons_zero, List.set_cons_succ]
          refine takeL (i := 18) (v := ?vq13014) rfl (by kernel_rfl) (by kernel_rfl) (by kernel_rfl) (fun _ _ _ h => h) (Or.inl ⟨by rfl, ?hyq13014⟩) (by assumption) ?restq13014
          case hyq13014 => (intro u hu; (try dsimp only at hu); go_simp <;> with_reducible rfl)
          try simp only [Act.put, List.setIfInBounds_toArray, List.set_cons_zero, List.set_cons_succ]
          refine wpAnyH_done (by kernel_rfl) ?_ _
          clear hS0 hHeld
          go_wp2
          go_roundw
          case rel => exact ⟨0 + 1, by omega, by go_num, hnx, chain hB1 ((Below.refl _ _).drew)⟩
          case measure => simp [intOf]; omega
        · obtain ⟨x, hx⟩ : ∃ x, l[k - 1]? = some x := ⟨_, List.getElem?_eq_getElem (by rw [hlen.out]; omega)⟩
          have hpx : Hid (prevF l k = some x) := by show _ = _; simp [prevF, hk0, hx]
          obtain ⟨b2, o2, x2, hbo, hx2, e0, _⟩ := fl_at (h.below hB1) (show k - 1 < n by omega)
          cases hbo
          rw [hx] at hx2
          cases hx2
          have hk3 : (0 : Int) < k := by omega
          have hk7 : decide ((0 : Int) < k) = true := by simp; omega
          have hk8 : 0 < k := by omega
          have hk9 : decide (0 < k) = true := by simp; omega
          have hkw : IntKind.i64.wrap ((k : Int) - 1) = ((k - 1 : Nat) : Int) := by rw [IntKind.wrap_i64]; omega
          have hkn : ((k : Int) - 1).toNat = k - 1 := by omega
          have hk5 : (0 : Int) ≤ ((k - 1 : Nat) : Int) := by omega
          have hk6 : ((k - 1 : Nat) : Int) < n := by omega
          cases hbl : bl x.nm.toList p.nm.toList
          · have hf : Hid (fgo none l = false) := by show _ = _; rw [hI.out, hpx.out, hgo, hnm]; simp [hbl]
            clear hgo
            go_wp2_with fail
            generalize wi.alloc (.cells #[.string p.nm, .string p.d] 82) = W at *
            have hS0 : (fun u => u.cell? ⟨wi.heap.size, 0, none⟩ = some (.string p.nm) ∧ u.cell? ⟨b, o + (k - 1) * 2, none⟩ = some (.string x.nm)) W.drew := ⟨z0, e0⟩
            refine wp_region_heldH (S := (fun u => u.cell? ⟨wi.heap.size, 0, none⟩ = some (.string p.nm) ∧ u.cell? ⟨b, o + (k - 1) * 2, none⟩ = some (.string x.nm))) 19 (by kernel_rfl) rfl ?_
            refine takeL (i := 0) (v := ?vq13015) rfl (by kernel_rfl) (by kernel_rfl) (by kernel_rfl) (fun _ _ _ h => h) (Or.inl ⟨by rfl, ?hyq13015⟩) (by assumption) ?restq13015
            case hyq13015 => (intro u hu; (try dsimp only at hu); go_simp <;> with_reducible rfl)
            try simp only [Act.put, List.setIfInBounds_toArray, List.set_cons_zero, List.set_cons_succ]
            refine takeL (i := 1) (v := ?vq13016) rfl (by kernel_rfl) (by kernel_rfl) (by kernel_rfl) (fun _ _ _ h => h) (Or.inl ⟨by rfl, ?hyq13016⟩) (by assumption) ?restq13016
            case hyq13016 => (intro u hu; (try dsimp only at hu); go_simp <;> with_reducible rfl)
            try simp only [Act.put, List.setIfInBounds_toArray, List.set_cons_zero, List.set_cons_succ]
            refine oneL (i := 2) (by kernel_rfl) rfl (fun K hK => ?_)
            go_simp
            refine (hname _).mono ?_
            rintro e w1 ⟨rfl, rfl⟩
            rw [hnm]
            dsimp only
            refine hK.out _ _ (by assumption) (fun hHeld => ?_)
            clear hK K
            try simp only [Act.put, List.setIfInBounds_toArray, List.set_cons_zero, List.set_cons_succ]
            refine takeL (i := 3) (v := ?vq13017) rfl (by kernel_rfl) (by kernel_rfl) (by kernel_rfl) (fun _ _ _ h => h) (Or.inl ⟨by rfl, ?hyq13017⟩) (by assumption) ?restq13017
            case hyq13017 => (intro u hu; (try dsimp only at hu); go_simp <;> with_reducible rfl)
            try simp only [Act.put, List.setIfInBounds_toArray, List.set_cons_zero, List.set_cons_succ]
            refine takeL (i := 4) (v := ?vq13018) rfl (by kernel_rfl) (by kernel_rfl) (by kernel_rfl) (fun _ _ _ h => h) (Or.inl ⟨by rfl, ?hyq13018⟩) (by assumption) ?restq13018
            case hyq13018 => (intro u hu; (try dsimp only at hu); go_simp <;> with_reducible rfl)
            try simp only [Act.put, List.setIfInBounds_toArray, List.set_cons_zero, List.set_cons_succ]
            refine takeL (i := 5) (v := ?vq13019) rfl (by kernel_rfl) (by kernel_rfl) (by kernel_rfl) (fun _ _ _ h => h) (Or.inl ⟨by rfl, ?hyq13019⟩) (by assumption) ?restq13019
            case hyq13019 => (intro u hu; (try dsimp only at hu); go_simp <;> with_reducible rfl)
            try simp only [Act.put, List.setIfInBounds_toArray, List.set_cons_zero, List.set_cons_succ]
            refine takeL (i := 6) (v := ?vq13020) rfl (by kernel_rfl) (by kernel_rfl) (by kernel_rfl) (fun _ _ _ h => h) (Or.inl ⟨by rfl, ?hyq13020⟩) (by assumption) ?restq13020
            case hyq13020 => (intro u hu; (try dsimp only at hu); go_simp <;> with_reducible rfl)
            try simp only [Act.put, List.setIfInBounds_toArray, List.set_cons_zero, List.set_cons_succ]
            refine takeL (i := 7) (v := ?vq13021) rfl (by kernel_rfl) (by kernel_rfl) (by kernel_rfl) (fun _ _ _ h => h) (Or.inl ⟨by rfl, ?hyq13021⟩) (by assumption) ?restq13021
            case hyq13021 => (intro u hu; (try dsimp only at hu); go_simp <;> with_reducible rfl)
            try simp only [Act.put, List.setIfInBounds_toArray, List.set_cons_zero, List.set_cons_succ]
            refine takeL (i := 8) (v := ?vq13022) rfl (by kernel_rfl) (by kernel_rfl) (by kernel_rfl) (fun _ _ _ h => h) (Or.inl ⟨by rfl, ?hyq13022⟩) (by assumption) ?restq13022
            case hyq13022 => (intro u hu; (try dsimp only at hu); go_simp <;> with_reducible rfl)
            try simp only [Act.put, List.setIfInBounds_toArray, List.set_cons_zero, List.set_cons_succ]
            refine takeL (i := 9) (v := ?vq13023) rfl (by kernel_rfl) (by kernel_rfl) (by kernel_rfl) (fun _ _ _ h => h) (Or.inl ⟨by rfl, ?hyq13023⟩) (by assumption) ?restq13023
            case hyq13023 => (intro u hu; (try dsimp only at hu); go_simp <;> with_reducible rfl)
            try simp only [Act.put, List.setIfInBounds_toArray, List.set_cons_zero, List.set_cons_succ]
            refine takeL (i := 10) (v := ?vq13024) rfl (by kernel_rfl) (by kernel_rfl) (by kernel_rfl) (fun _ _ _ h => h) (Or.inl ⟨by rfl, ?hyq13024⟩) (by assumption) ?restq13024
            case hyq13024 => (intro u hu; (try dsimp only at hu); go_simp <;> with_reducible rfl)
            try simp only [Act.put, List.setIfInBounds_toArray, List.set_cons_zero, List.set_cons_succ]
            refine takeL (i := 11) (v := ?vq13025) rfl (by kernel_rfl) (by kernel_rfl) (by kernel_rfl) (fun _ _ _ h => h) (Or.inl ⟨by rfl, ?hyq13025⟩) (by assumption) ?restq13025
            case hyq13025 => (intro u hu; (try dsimp only at hu); go_simp <;> with_reducible rfl)
            try simp only [Act.put, List.setIfInBounds_toArray, List.set_cons_zero, List.set_cons_succ]
            refine takeL (i := 12) (v := ?vq13026) rfl (by kernel_rfl) (by kernel_rfl) (by kernel_rfl) (fun _ _ _ h => h) (Or.inl ⟨by rfl, ?hyq13026⟩) (by assumption) ?restq13026
            case hyq13026 => (intro u hu; (try dsimp only at hu); go_simp <;> with_reducible rfl)
            try simp only [Act.put, List.setIfInBounds_toArray, List.set_cons_zero, List.set_cons_succ]
            refine takeL (i := 13) (v := ?vq13027) rfl (by kernel_rfl) (by kernel_rfl) (by kernel_rfl) (fun _ _ _ h => h) (Or.inl ⟨by rfl, ?hyq13027⟩) (by assumption) ?restq13027
            case hyq13027 => (intro u hu; (try dsimp only at hu); go_simp <;> with_reducible rfl)
            try simp only [Act.put, List.setIfInBounds_toArray, List.set_cons_zero, List.set_cons_succ]
            refine takeL (i := 14) (v := ?vq13028) rfl (by kernel_rfl) (by kernel_rfl) (by kernel_rfl) (fun _ _ _ h => h) (Or.inl ⟨by rfl, ?hyq13028⟩) (by assumption) ?restq13028
            case hyq13028 => (intro u hu; (try dsimp only at hu); go_simp <;> with_reducible rfl)
            try simp only [Act.put, List.setIfInBounds_toArray, List.set_cons_zero, List.set_cons_succ]
            refine takeL (i := 15) (v := ?vq13029) rfl (by kernel_rfl) (by kernel_rfl) (by kernel_rfl) (fun _ _ _ h => h) (Or.inl ⟨by rfl, ?hyq13029⟩) (by assumption) ?restq13029
            case hyq13029 => (intro u hu; (try dsimp only at hu); go_simp <;> with_reducible rfl)
            try simp only [Act.put, List.setIfInBounds_toArray, List.set_cons_zero, List.set_cons_succ]
            refine takeL (i := 16) (v := ?vq13030) rfl (by kernel_rfl) (by kernel_rfl) (by kernel_rfl) (fun _ _ _ h => h) (Or.inl ⟨by rfl, ?hyq13030⟩) (by assumption) ?restq13030
            case hyq13030 => (intro u hu; (try dsimp only at hu); go_simp <;> with_reducible rfl)
            try simp only [Act.put, List.setIfInBounds_toArray, List.set_cons_zero, List.set_cons_succ]
            refine takeL (i := 17) (v := ?vq13031) rfl (by kernel_rfl) (by kernel_rfl) (by kernel_rfl) (fun _ _ _ h => h) (Or.inl ⟨by rfl, ?hyq13031⟩) (by assumption) ?restq13031
            case hyq13031 => (intro u hu; (try dsimp only at hu); go_simp <;> with_reducible rfl)
            try simp only [Act.put, List.setIfInBounds_toArray, List.set_cons_zero, List.set_cons_succ]
            refine takeL (i := 18) (v := ?vq13032) rfl (by kernel_rfl) (by kernel_rfl) (by kernel_rfl) (fun _ _ _ h => h) (Or.inl ⟨by rfl, ?hyq13032⟩) (by assumption) ?restq13032
            case hyq13032 => (intro u hu; (try dsimp only at hu); go_simp <;> with_reducible rfl)
            try simp only [Act.put, List.setIfInBounds_toArray, List.set_cons_zero, List.set_cons_succ]
            refine wpAnyH_done (by kernel_rfl) ?_ _
            clear hS0 hHeld
            go_wp2
            go_returns
            exact ⟨by rw [hfl.out, hf.out]; rfl, chain hB1 ((Below.refl _ _).drew)⟩
          · have hnx : Hid (fgo none l = fgo (prevF l (k + 1)) (l.drop (k + 1))) := by show _ = _; rw [hI.out, hpx.out, hgo, hnm, hpv.out]; simp [hbl]
            clear hgo
            go_wp2_with fail
            generalize wi.alloc (.cells #[.string p.nm, .string p.d] 82) = W at *
            have hS0 : (fun u => u.cell? ⟨wi.heap.size, 0, none⟩ = some (.string p.nm) ∧ u.cell? ⟨b, o + (k - 1) * 2, none⟩ = some (.string x.nm)) W.drew := ⟨z0, e0⟩
            refine wp_region_heldH (S := (fun u => u.cell? ⟨wi.heap.size, 0, none⟩ = some (.string p.nm) ∧ u.cell? ⟨b, o + (k - 1) * 2, none⟩ = some (.string x.nm))) 19 (by kernel_rfl) rfl ?_
            refine takeL (i := 0) (v := ?vq13033) rfl (by kernel_rfl) (by kernel_rfl) (by kernel_rfl) (fun _ _ _ h => h) (Or.inl ⟨by rfl, ?hyq13033⟩) (by assumption) ?restq13033
            case hyq13033 => (intro u hu; (try dsimp only at hu); go_simp <;> with_reducible rfl)
            try simp only [Act.put, List.setIfInBounds_toArray, List.set_cons_zero, List.set_cons_succ]
            refine takeL (i := 1) (v := ?vq13034) rfl (by kernel_rfl) (by kernel_rfl) (by kernel_rfl) (fun _ _ _ h => h) (Or.inl ⟨by rfl, ?hyq13034⟩) (by assumption) ?restq13034
            case hyq13034 => (intro u hu; (try dsimp only at hu); go_simp <;> with_reducible rfl)
            try simp only [Act.put, List.setIfInBounds_toArray, List.set_cons_zero, List.set_cons_succ]
            refine oneL (i := 2) (by kernel_rfl) rfl (fun K hK => ?_)
            go_simp
            refine (hname _).mono ?_
            rintro e w1 ⟨rfl, rfl⟩
            rw [hnm]
            dsimp only
            refine hK.out _ _ (by assumption) (fun hHeld => ?_)
            clear hK K
            try simp only [Act.put, List.setIfInBounds_toArray, List.set_cons_zero, List.set_cons_succ]
            refine takeL (i := 3) (v := ?vq13035) rfl (by kernel_rfl) (by kernel_rfl) (by kernel_rfl) (fun _ _ _ h => h) (Or.inl ⟨by rfl, ?hyq13035⟩) (by assumption) ?restq13035
            case hyq13035 => (intro u hu; (try dsimp only at hu); go_simp <;> with_reducible rfl)
            try simp only [Act.put, List.setIfInBounds_toArray, List.set_cons_zero, List.set_cons_succ]
            refine takeL (i := 4) (v := ?vq13036) rfl (by kernel_rfl) (by kernel_rfl) (by kernel_rfl) (fun _ _ _ h => h) (Or.inl ⟨by rfl, ?hyq13036⟩) (by assumption) ?restq13036
            case hyq13036 => (intro u hu; (try dsimp only at hu); go_simp <;> with_reducible rfl)
            try simp only [Act.put, List.setIfInBounds_toArray, List.set_cons_zero, List.set_cons_succ]
            refine takeL (i := 5) (v := ?vq13037) rfl (by kernel_rfl) (by kernel_rfl) (by kernel_rfl) (fun _ _ _ h => h) (Or.inl ⟨by rfl, ?hyq13037⟩) (by assumption) ?restq13037
            case hyq13037 => (intro u hu; (try dsimp only at hu); go_simp <;> with_reducible rfl)
            try simp only [Act.put, List.setIfInBounds_toArray, List.set_cons_zero, List.set_cons_succ]
            refine takeL (i := 6) (v := ?vq13038) rfl (by kernel_rfl) (by kernel_rfl) (by kernel_rfl) (fun _ _ _ h => h) (Or.inl ⟨by rfl, ?hyq13038⟩) (by assumption) ?restq13038
            case hyq13038 => (intro u hu; (try dsimp only at hu); go_simp <;> with_reducible rfl)
            try simp only [Act.put, List.setIfInBounds_toArray, List.set_cons_zero, List.set_cons_succ]
            refine takeL (i := 7) (v := ?vq13039) rfl (by kernel_rfl) (by kernel_rfl) (by kernel_rfl) (fun _ _ _ h => h) (Or.inl ⟨by rfl, ?hyq13039⟩) (by assumption) ?restq13039
            case hyq13039 => (intro u hu; (try dsimp only at hu); go_simp <;> with_reducible rfl)
            try simp only [Act.put, List.setIfInBounds_toArray, List.set_cons_zero, List.set_cons_succ]
            refine takeL (i := 8) (v := ?vq13040) rfl (by kernel_rfl) (by kernel_rfl) (by kernel_rfl) (fun _ _ _ h => h) (Or.inl ⟨by rfl, ?hyq13040⟩) (by assumption) ?restq13040
            case hyq13040 => (intro u hu; (try dsimp only at hu); go_simp <;> with_reducible rfl)
            try simp only [Act.put, List.setIfInBounds_toArray, List.set_cons_zero, List.set_cons_succ]
            refine takeL (i := 9) (v := ?vq13041) rfl (by kernel_rfl) (by kernel_rfl) (by kernel_rfl) (fun _ _ _ h => h) (Or.inl ⟨by rfl, ?hyq13041⟩) (by assumption) ?restq13041
            case hyq13041 => (intro u hu; (try dsimp only at hu); go_simp <;> with_reducible rfl)
            try simp only [Act.put, List.setIfInBounds_toArray, List.set_cons_zero, List.set_cons_succ]
            refine takeL (i := 10) (v := ?vq13042) rfl (by kernel_rfl) (by kernel_rfl) (by kernel_rfl) (fun _ _ _ h => h) (Or.inl ⟨by rfl, ?hyq13042⟩) (by assumption) ?restq13042
            case hyq13042 => (intro u hu; (try dsimp only at hu); go_simp <;> with_reducible rfl)
            try simp only [Act.put, List.setIfInBounds_toArray, List.set_cons_zero, List.set_cons_succ]
            refine takeL (i := 11) (v := ?vq13043) rfl (by kernel_rfl) (by kernel_rfl) (by kernel_rfl) (fun _ _ _ h => h) (Or.inl ⟨by rfl, ?hyq13043⟩) (by assumption) ?restq13043
            case hyq13043 => (intro u hu; (try dsimp only at hu); go_simp <;> with_reducible rfl)
            try simp only [Act.put, List.setIfInBounds_toArray, List.set_cons_zero, List.set_cons_succ]
            refine takeL (i := 12) (v := ?vq13044) rfl (by kernel_rfl) (by kernel_rfl) (by kernel_rfl) (fun _ _ _ h => h) (Or.inl ⟨by rfl, ?hyq13044⟩) (by assumption) ?restq13044
            case hyq13044 => (intro u hu; (try dsimp only at hu); go_simp <;> with_reducible rfl)
            try simp only [Act.put, List.setIfInBounds_toArray, List.set_cons_zero, List.set_cons_succ]
            refine takeL (i := 13) (v := ?vq13045) rfl (by kernel_rfl) (by kernel_rfl) (by kernel_rfl) (fun _ _ _ h => h) (Or.inl ⟨by rfl, ?hyq13045⟩) (by assumption) ?restq13045
            case hyq13045 => (intro u hu; (try dsimp only at hu); go_simp <;> with_reducible rfl)
            try simp only [Act.put, List.setIfInBounds_toArray, List.set_cons_zero, List.set_cons_succ]
            refine takeL (i := 14) (v := ?vq13046) rfl (by kernel_rfl) (by kernel_rfl) (by kernel_rfl) (fun _ _ _ h => h) (Or.inl ⟨by rfl, ?hyq13046⟩) (by assumption) ?restq13046
            case hyq13046 => (intro u hu; (try dsimp only at hu); go_simp <;> with_reducible rfl)
            try simp only [Act.put, List.setIfInBounds_toArray, List.set_cons_zero, List.set_cons_succ]
            refine takeL (i := 15) (v := ?vq13047) rfl (by kernel_rfl) (by kernel_rfl) (by kernel_rfl) (fun _ _ _ h => h) (Or.inl ⟨by rfl, ?hyq13047⟩) (by assumption) ?restq13047
            case hyq13047 => (intro u hu; (try dsimp only at hu); go_simp <;> with_reducible rfl)
            try simp only [Act.put, List.setIfInBounds_toArray, List.set_cons_zero, List.set_cons_succ]
            refine takeL (i := 16) (v := ?vq13048) rfl (by kernel_rfl) (by kernel_rfl) (by kernel_rfl) (fun _ _ _ h => h) (Or.inl ⟨by rfl, ?hyq13048⟩) (by assumption) ?restq13048
            case hyq13048 => (intro u hu; (try dsimp only at hu); go_simp <;> with_reducible rfl)
            try simp only [Act.put, List.setIfInBounds_toArray, List.set_cons_zero, List.set_cons_succ]
            refine takeL (i := 17) (v := ?vq13049) rfl (by kernel_rfl) (by kernel_rfl) (by kernel_rfl) (fun _ _ _ h => h) (Or.inl ⟨by rfl, ?hyq13049⟩) (by assumption) ?restq13049
            case hyq13049 => (intro u hu; (try dsimp only at hu); go_simp <;> with_reducible rfl)
            try simp only [Act.put, List.setIfInBounds_toArray, List.set_cons_zero, List.set_cons_succ]
            refine takeL (i := 18) (v := ?vq13050) rfl (by kernel_rfl) (by kernel_rfl) (by kernel_rfl) (fun _ _ _ h => h) (Or.inl ⟨by rfl, ?hyq13050⟩) (by assumption) ?restq13050
            case hyq13050 => (intro u hu; (try dsimp only at hu); go_simp <;> with_reducible rfl)
            try simp only [Act.put, List.setIfInBounds_toArray, List.set_cons_zero, List.set_cons_succ]
            refine wpAnyH_done (by kernel_rfl) ?_ _
            clear hS0 hHeld
            go_wp2
            go_roundw
            case rel => exact ⟨k + 1, by omega, by go_num, hnx, chain hB1 ((Below.refl _ _).drew)⟩
            case measure => simp [intOf]; omega
    · obtain rfl : k = n := by omega
      have hall : Hid (fgo none l = true) := by
        show _ = _
        rw [hI.out, List.drop_of_length_le (Nat.le_of_eq hlen.out)]; rfl
      clear hI
      go_wp2_with fail
      refine (impl_shelfOf a k cap l _ (h.below hB) (by omega)).mono ?_
      rintro e w1 ⟨⟨a1, c1, rows, rfl, R1, T1⟩, hB1⟩
      have hC1 := chain hB hB1
      have hA : Below w1.heap.size w1 (w1.alloc (.cells #[.slice a1 k c1] 72)) := (Below.refl _ _).alloc (Nat.le_refl _) _
      have P1 := Blk.new w1 #[.slice a1 k c1] 72
      go_wp2_with fail
      refine (impl_fits wi.heap.size w1.heap.size a1 k c1 rows (l.map oneH) _ P1 (R1.below hA) (T1.below hA) (by omega) (fun y hy => by obtain ⟨f, _, rfl⟩ := List.mem_map.1 hy; simp [oneH]) (fun y hy s hs => by obtain ⟨f, hf, rfl⟩ := List.mem_map.1 hy; simp [oneH] at hs; subst hs; exact (hb f hf).2)).mono ?_
      rintro e w2 ⟨rfl, hB2⟩
      go_wp2
      go_returns
      exact ⟨by rw [hfl.out, hall.out]; simp, chain (chain hC1 hA) hB2⟩
end Go.Proofs.Ytpobgjkmcmkkeaa
