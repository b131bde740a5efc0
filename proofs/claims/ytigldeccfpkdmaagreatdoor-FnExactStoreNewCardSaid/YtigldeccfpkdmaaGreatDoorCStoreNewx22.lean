/- Taking a file out. A file removed, by the program. slices.Clone at files. A shelf against a list of files: taking out. A shelf against a list of files: putting in. Pieces with one more; names that still rise. A shelf against a list of files: the three changes. Putting one row into a slice of the call's own: the cells. Putting a file into its place. A file appended to, and one renamed, by the program. The laws' copies, sizes and comparisons of disks; how a disk that is an argument lies in memory. The laws' copy of a disk; a disk that is an argument. How the laws' arguments, as they are read, lie in memory: disks. -/
import Derived.Test.YtigldeccfpkdmaaGreatDoorCStoreNewx21
import Derived.Test.YtigldeccfpkdmaaGreatDoorCStoreNewx01
import Derived.Lib.SliceRun
import Derived.Laws.StructEq
import Derived.Lib.AppendZerosOnto
import Derived.Lib.Overlaps
import Derived.Laws.CopyOwn
import Derived.Laws.NewBlocks
import Derived.Lib.SmallJoins
import Derived.Test.YtigldeccfpkdmaaGreatDoorCStoreNewx00
namespace Go.Proofs.YtigldeccfpkdmaaGreatDoor
open Go Go.RowKit Go.BigFrame
/-- All that was there is as it was, but the shelf and the block of its files. -/
def FrS (sb : Nat) (a : Option Addr) (w w' : World) : Prop := ∀ k, k < w.heap.size → k ≠ sb → (∀ ad, a = some ad → k ≠ ad.block) → w'.heap[k]? = w.heap[k]?
theorem FrS.of {sb : Nat} {a : Option Addr} {w w' : World} (h : Below w.heap.size w w') : FrS sb a w w' := fun k hk _ _ => h.block k hk
theorem FrS.grown {sb : Nat} {a : Option Addr} {w w1 w2 : World} {row : Option Nat} (h : FrS sb a w w1) (hs : w.heap.size ≤ w1.heap.size) (hg : w1.grownBy w2 row) (hr : ∀ k, row = some k → k = sb ∨ (∃ ad, a = some ad ∧ k = ad.block) ∨ w.heap.size ≤ k) : FrS sb a w w2 := fun k hk h1 h2 => by
  rw [hg.block k (by omega) (fun e => ?_)]
  · exact h k hk h1 h2
  · rcases hr k e.symm with h3 | ⟨ad, h3, h4⟩ | h3
    · exact h1 h3
    · exact h2 ad h3 h4
    · omega
theorem FrS.from {sb : Nat} {a : Option Addr} {w0 w w' : World} (h : FrS sb a w w') (hb : Below w0.heap.size w0 w) : FrS sb a w0 w' := fun k hk h1 h2 => (h k (Nat.lt_of_lt_of_le hk hb.size) h1 h2).trans (hb.block k hk)
theorem FrS.blk {sb : Nat} {a : Option Addr} {w w' : World} (h : FrS sb a w w') {k : Nat} {c : Array Value} {t : TypeId} (hk : Blk w k c t) (h1 : k ≠ sb) (h2 : ∀ ad, a = some ad → k ≠ ad.block) : Blk w' k c t := by
  unfold Blk; rw [h k hk.lt h1 h2]; exact hk
/-- What is left when a file was taken out. -/
structure Lifted (B B0 sb : Nat) (a : Option Addr) (n cap p : Nat) (rows : List Hr) (l : List Hy) (r : Hr) (y : Hy) (w w' : World) : Prop where
  sh : Blk w' sb #[.slice a (n - 1) cap] 207
  res : ResAt hrs 2 253 w' B a (n - 1) cap (rows.eraseIdx p)
  its : HsT B w' (rows.eraseIdx p) (l.eraseIdx p)
  one : HT B w' r y
  low : Below B0 w w'
  fr : FrS sb a w w'
end Go.Proofs.YtigldeccfpkdmaaGreatDoor
namespace Go.Proofs.YtigldeccfpkdmaaGreatDoor
open Go Go.RowKit Go.BigFrame
theorem Lifted.from {B B0 sb : Nat} {a : Option Addr} {n cap p : Nat} {rows : List Hr} {l : List Hy} {r : Hr} {y : Hy} {w0 w w' : World} (h : Lifted B B0 sb a n cap p rows l r y w w') (hb : Below w0.heap.size w0 w) (h0 : B0 ≤ w0.heap.size) : Lifted B B0 sb a n cap p rows l r y w0 w' :=
  ⟨h.sh, h.res, h.its, h.one, (hb.mono h0).trans h.low, h.fr.from hb⟩
end Go.Proofs.YtigldeccfpkdmaaGreatDoor
namespace Go.Proofs.YtigldeccfpkdmaaGreatDoor
open Go Go.RowKit Go.BigFrame
set_option maxHeartbeats 4000000 in
set_option maxRecDepth 100000 in
theorem files_Clone (a : Option Addr) (n cap : Nat) (l : List Fl) (w : World) (h : FlsAt w a n l) (hn : n ≤ 4194304) (ha1 : ∀ ad, a = some ad → ad.spot = none) (ha2 : a = none → n = 0 ∧ cap = 0) :
    Calls Tryz.prog 148 #[.slice a n cap] w fun e w' => (∃ a' cap', e = .returned (.slice a' n cap') ∧ ResAt Fl.cs 2 123 w' w.heap.size a' n cap' l) ∧ Below w.heap.size w w' := by
  have q24 : ∀ (w : World) (a : Option Addr) (n c n' c' : Nat), (binOp .eql 49 (.slice a n c) (.slice none n' c')).run Tryz.prog w = .ok (.bool a.isNone) w := fun w a n c n' c' => Lib.run_eql_slice_nil w _ _ a n c n' c' Tryz.underlying49
  cases a with
  | none =>
    obtain ⟨rfl, rfl⟩ := ha2 rfl
    have hl : l = [] := List.eq_nil_of_length_eq_zero h.len
    subst hl
    go_enter Tryz.func148, Tryz.ntmps148
    go_wp2
    go_returns
    exact ⟨⟨none, 0, rfl, res_nil⟩, Below.refl _ _⟩
  | some ad =>
    go_enter Tryz.func148, Tryz.ntmps148
    go_wp2_with (at_builtin; refine wpList_app rfl (fun K hK => wp_appFl _ _ rfl w.heap.size _ 0 0 [] rfl (res_empty (Blk.new' _ _ _ _ (by simp)) (Nat.le_refl _)) (some ad) n cap l rfl (h.alloc _) ha1 (fun h => (by cases h)) n (Nat.zero_add _) (by omega) (by simp) (fun a3 cap3 w3 R3 hg3 => hK _ _ ?_)))
    have hB0 : Below w.heap.size w (w.alloc (.cells #[] 123)) := (Below.refl _ _).alloc (Nat.le_refl _) _
    have hB3 : Below w.heap.size w w3 := Below.grown hB0 hg3 (by simp) (fun j e => by simp [Value.ownBlock] at e; omega)
    go_wp2
    go_returns
    exact ⟨⟨a3, cap3, rfl, by simpa using R3⟩, hB3⟩
theorem infoDp : (Tryz.prog.info? 120).map (fun i => (i.zero, i.size, i.bytes)) = some (some (.agg #[.int .i64 0, .string .empty, .string .empty, .string .empty]), 4, 56) := by kernel_rfl
section
variable {o : Oper} {a : Act} {w : World} {K : Act → World → Prop} {Q : Exit → Act → World → Prop}
theorem wp_appDp (s x : Operand) (ho : o.op = .call { callee := .builtin .append, args := #[s, x], argTypes := #[50, 50] })
    (B : Nat) (da : Option Addr) (dn dcap : Nat) (ld : List Dp) (hs : a.eval s = .slice da dn dcap) (hd : ResAt Dp.cs 4 120 w B da dn dcap ld)
    (sa : Option Addr) (sn scap : Nat) (ls : List Dp) (hx : a.eval x = .slice sa sn scap) (hsrc : DpsAt w sa sn ls) (hspot : ∀ ad, sa = some ad → ad.spot = none) (hnone : sa = none → scap = 0)
    (tot : Nat) (htot : dn + sn = tot) (h63 : tot ≤ 9000000) (hbase : B ≤ w.heap.size)
    (h : ∀ a' cap' w', ResAt Dp.cs 4 120 w' B a' tot cap' (ld ++ ls) → w.grownBy w' (Value.ownBlock (.slice da dn dcap)) → K (a.put o.dst (.slice a' tot cap')) w') : o.wp Tryz.prog a w K Q := by
  obtain ⟨i0, hi, hz0, hz1, hz2⟩ := info_parts infoDp
  exact wp_app s x _ ho B _ i0 _ 56 Tryz.underlying50 hi hz0 hz1 hz2 rfl (by decide) dpcs_len dpcs_one da dn dcap ld hs hd sa sn scap ls hx hsrc hspot hnone tot htot (by unfold maxLen; omega) (by omega) hbase h
end
end Go.Proofs.YtigldeccfpkdmaaGreatDoor
namespace Go.Proofs.YtigldeccfpkdmaaGreatDoor
open Go Go.RowKit
theorem plH_at {l : List Hy} (hs : SrtH l) {s : ByteArray} {j : Nat} {y : Hy} (hy : l[j]? = some y) (he : y.nm.toList = s.toList) : plH l s = j := by
  refine plH_is (Nat.le_of_lt (List.getElem?_eq_some_iff.1 hy).1) (fun t x ht hx => ?_) (fun t x ht hx => ?_)
  · rw [← he]; exact hs t j x y ht hx hy
  · by_cases h : t = j
    · subst h; rw [hy] at hx; cases hx; rw [he]; exact bl_irrefl _
    · have := hs j t y x (by omega) hy hx
      rw [he] at this
      exact bl_asymm this
theorem has_at {l : List Hy} (hs : SrtH l) {s : ByteArray} {j : Nat} {y : Hy} (hy : l[j]? = some y) (he : y.nm.toList = s.toList) : hasH l s = true := by
  unfold hasH
  rw [plH_at hs hy he, hy]
  simp [he]
end Go.Proofs.YtigldeccfpkdmaaGreatDoor
namespace Go.Proofs.YtigldeccfpkdmaaGreatDoor
open Go Go.RowKit
theorem take_while_len {α : Type} (q : α → Bool) (l : List α) : l.take (l.takeWhile q).length = l.takeWhile q ∧ l.drop (l.takeWhile q).length = l.dropWhile q := by
  have h := List.takeWhile_append_dropWhile (p := q) (l := l)
  constructor
  · conv => lhs; arg 2; rw [← h]
    exact List.take_left
  · conv => lhs; arg 2; rw [← h]
    exact List.drop_left
end Go.Proofs.YtigldeccfpkdmaaGreatDoor
namespace Go.Proofs.YtigldeccfpkdmaaGreatDoor
open Go Go.RowKit
theorem tw_all {α : Type} (q : α → Bool) : ∀ (l : List α) (x : α), x ∈ l.takeWhile q → q x = true
  | [], x, h => by simp at h
  | y :: r, x, h => by
    cases hy : q y
    · rw [List.takeWhile_cons, hy] at h; simp at h
    · rw [List.takeWhile_cons, hy] at h
      simp at h
      rcases h with rfl | h
      · exact hy
      · exact tw_all q r x h
theorem dw_head {α : Type} (q : α → Bool) : ∀ (l : List α) (x : α), (l.dropWhile q)[0]? = some x → q x = false
  | [], x, h => by simp at h
  | y :: r, x, h => by
    cases hy : q y
    · rw [List.dropWhile_cons, hy] at h
      simp at h
      rw [← h]; exact hy
    · rw [List.dropWhile_cons, hy] at h
      exact dw_head q r x h
theorem SrtH.put {l : List Hy} (hs : SrtH l) (y : Hy) (hh : hasH l y.nm = false) : SrtH (l.take (plH l y.nm) ++ [y] ++ l.drop (plH l y.nm)) := by
  have h1 := take_while_len (fun z : Hy => bl z.nm.toList y.nm.toList) l
  have hp : plH l y.nm ≤ l.length := by
    unfold plH
    exact (List.takeWhile_sublist _).length_le
  have hlo : ∀ (t : Nat) x, t < plH l y.nm → l[t]? = some x → bl x.nm.toList y.nm.toList = true := by
    intro t x ht hx
    have hm : x ∈ l.takeWhile (fun z : Hy => bl z.nm.toList y.nm.toList) := by
      rw [← h1.1]
      refine List.mem_iff_getElem?.2 ⟨t, ?_⟩
      rw [List.getElem?_take]
      unfold plH at ht
      simp [ht, hx]
    exact tw_all (fun z : Hy => bl z.nm.toList y.nm.toList) l x hm
  have hne : ∀ (t : Nat) x, l[t]? = some x → x.nm.toList ≠ y.nm.toList := fun t x hx he => by rw [has_at hs hx he] at hh; cases hh
  have hhi : ∀ (t : Nat) x, plH l y.nm ≤ t → l[t]? = some x → bl y.nm.toList x.nm.toList = true := by
    intro t x ht hx
    cases hb : bl x.nm.toList y.nm.toList
    · exact bl_total hb (hne t x hx)
    · exfalso
      -- all ahead of t are less too: so the first one that is not lies behind t
      have hlt : plH l y.nm < l.length := by have := (List.getElem?_eq_some_iff.1 hx).1; omega
      obtain ⟨z, hz⟩ : ∃ z, l[plH l y.nm]? = some z := ⟨_, List.getElem?_eq_getElem hlt⟩
      have hzb : bl z.nm.toList y.nm.toList = true := by
        by_cases he : plH l y.nm = t
        · rw [he, hx] at hz; cases hz; exact hb
        · exact bl_trans (hs _ t z x (by omega) hz hx) hb
      have hd : (l.dropWhile (fun z : Hy => bl z.nm.toList y.nm.toList))[0]? = some z := by
        rw [← h1.2, List.getElem?_drop]
        simpa [plH] using hz
      have hnot := dw_head (fun z : Hy => bl z.nm.toList y.nm.toList) l z hd
      rw [hzb] at hnot; cases hnot
  have hcase : ∀ (i : Nat) x, (l.take (plH l y.nm) ++ [y] ++ l.drop (plH l y.nm))[i]? = some x → (i < plH l y.nm ∧ l[i]? = some x) ∨ (i = plH l y.nm ∧ x = y) ∨ (plH l y.nm < i ∧ l[i - 1]? = some x) := by
    intro i x hx
    have hlt : (l.take (plH l y.nm)).length = plH l y.nm := by simp; omega
    rw [List.append_assoc] at hx
    by_cases h1 : i < plH l y.nm
    · rw [List.getElem?_append_left (by omega), List.getElem?_take] at hx
      exact .inl ⟨h1, by simpa [h1] using hx⟩
    · rw [List.getElem?_append_right (by omega), hlt] at hx
      by_cases h2 : i = plH l y.nm
      · rw [h2] at hx
        simp at hx
        exact .inr (.inl ⟨h2, hx.symm⟩)
      · obtain ⟨k, hk⟩ : ∃ k, i - plH l y.nm = k + 1 := ⟨i - plH l y.nm - 1, by omega⟩
        rw [hk] at hx
        simp only [List.singleton_append, List.getElem?_cons_succ, List.getElem?_drop] at hx
        exact .inr (.inr ⟨by omega, by rw [show i - 1 = plH l y.nm + k by omega]; exact hx⟩)
  intro i j x z hij hx hz
  rcases hcase i x hx with ⟨a1, a2⟩ | ⟨a1, rfl⟩ | ⟨a1, a2⟩ <;> rcases hcase j z hz with ⟨b1, b2⟩ | ⟨b1, rfl⟩ | ⟨b1, b2⟩
  · exact hs i j x z hij a2 b2
  · exact hlo i x a1 a2
  · exact hs i (j - 1) x z (by omega) a2 b2
  · omega
  · omega
  · exact hhi (j - 1) z (by omega) b2
  · omega
  · omega
  · exact hs (i - 1) (j - 1) x z (by omega) a2 b2
end Go.Proofs.YtigldeccfpkdmaaGreatDoor
namespace Go.Proofs.YtigldeccfpkdmaaGreatDoor
open Go Go.RowKit
def popH (l : List Hy) (s : ByteArray) : List Hy := if hasH l s = true then l.eraseIdx (plH l s) else l
def pieH (l : List Hy) (s : ByteArray) : List ByteArray := if hasH l s = true then (match l[plH l s]? with | some y => y.ps | none => []) else []
/-- Bounds of a shelf: pieces, their sizes, names. -/
structure BndH (M S : Nat) (l : List Hy) : Prop where
  ps : ∀ y ∈ l, y.ps.length ≤ M
  sz : ∀ y ∈ l, ∀ s ∈ y.ps, s.size ≤ S
  nm : ∀ y ∈ l, nmB y.nm = true
theorem BndH.mono {M S M' S' : Nat} {l : List Hy} (h : BndH M S l) (h1 : M ≤ M') (h2 : S ≤ S') : BndH M' S' l := ⟨fun y hy => Nat.le_trans (h.ps y hy) h1, fun y hy s hs => Nat.le_trans (h.sz y hy s hs) h2, h.nm⟩
end Go.Proofs.YtigldeccfpkdmaaGreatDoor
namespace Go.Proofs.YtigldeccfpkdmaaGreatDoor
open Go Go.RowKit Go.BigFrame
section
variable {α : Type} {cs : α → List Value} {sz : Nat}
theorem sl_blk (_hsz : ∀ y, (cs y).length = sz) {t : TypeId} {w : World} {b : Nat} {x : α} (h : Blk w b (cs x).toArray t) : SlAt cs sz w (some ⟨b, 0, none⟩) 1 [x] := by
  refine ⟨rfl, fun i y hy => ⟨b, 0, rfl, fun j v hv => ?_⟩⟩
  have hi : i = 0 := by have := (List.getElem?_eq_some_iff.1 hy).1; simp at this; exact this
  subst hi
  simp at hy
  subst hy
  rw [h.cell]
  simpa using hv
end
end Go.Proofs.YtigldeccfpkdmaaGreatDoor
namespace Go.Proofs.YtigldeccfpkdmaaGreatDoor
open Go Go.RowKit Go.BigFrame
theorem own_ne2 {a : Option Addr} {n cap x : Nat} (h : ∀ ad, a = some ad → x ≠ ad.block) : some x ≠ Value.ownBlock (.slice a n cap) := by
  cases a with
  | none => simp [Value.ownBlock]
  | some ad => have := h ad rfl; simpa [Value.ownBlock] using this
theorem Blk.grownO {w w' : World} {b : Nat} {c : Array Value} {t : TypeId} {row : Option Nat} (h : Blk w b c t) (hg : w.grownBy w' row) (hr : some b ≠ row) : Blk w' b c t := by
  unfold Blk; rw [hg.block b h.lt hr]; exact h
/-- A shelf in memory. -/
def ShAt (B sb : Nat) (w : World) (l : List Hy) : Prop := ∃ a n cap rows, Blk w sb #[.slice a n cap] 207 ∧ ResAt hrs 2 253 w B a n cap rows ∧ HsT B w rows l
theorem ShAt.below {B sb : Nat} {w w' : World} {l : List Hy} (h : ShAt B sb w l) (hb : Below w.heap.size w w') : ShAt B sb w' l := by
  obtain ⟨a, n, cap, rows, h1, h2, h3⟩ := h
  exact ⟨a, n, cap, rows, h1.below hb, h2.below hb, h3.below hb⟩
end Go.Proofs.YtigldeccfpkdmaaGreatDoor
namespace Go.Proofs.YtigldeccfpkdmaaGreatDoor
open Go Go.RowKit Go.BigFrame
/-- What is left when a file was lifted, or none was there. -/
structure LiftAt (B B0 sb : Nat) (rows0 : List Hr) (l : List Hy) (s : ByteArray) (r : Hr) (w w' : World) : Prop where
  sh : ∃ a n cap rows, Blk w' sb #[.slice a n cap] 207 ∧ ResAt hrs 2 253 w' B a n cap rows ∧ HsT B w' rows (popH l s) ∧ (∀ (i : Nat) q x z, rows[i]? = some q → q.pa = some x → r.pa = some z → x.block ≠ z.block) ∧ (∀ ad, a = some ad → ad.block < w.heap.size) ∧ ∀ (i : Nat) q, rows[i]? = some q → ∃ j : Nat, rows0[j]? = some q
  ps : ResAt sps 1 9 w' B r.pa r.pn r.pc (pieH l s)
  old : ∀ ad, r.pa = some ad → ad.block < w.heap.size
  low : Below B0 w w'
theorem HsT.off {B : Nat} {w w' : World} {rows : List Hr} {l : List Hy} {row : Option Nat} (h : HsT B w rows l) (hg : w.grownBy w' row) (hr : ∀ (i : Nat) q x, rows[i]? = some q → q.pa = some x → some x.block ≠ row) : HsT B w' rows l :=
  ⟨h.len, fun i r y h1 h2 => ⟨(h.at' i r y h1 h2).nm, (h.at' i r y h1 h2).ps.off hg (fun ad e => hr i r ad h1 e)⟩, h.apart⟩
end Go.Proofs.YtigldeccfpkdmaaGreatDoor
namespace Go.Proofs.YtigldeccfpkdmaaGreatDoor
open Go Go.RowKit Go.BigFrame
/-- A disk that is only read. -/
def DiskL (w : World) (v : Value) (d : Dk) : Prop := ∃ la ln lc sa sn sc oa on oc, v = .agg #[.slice la ln lc, .slice sa sn sc, .slice oa on oc] ∧ FlsAt w la ln d.live ∧ FlsAt w sa sn d.safe ∧ DpsAt w oa on d.ops
theorem DiskL.below {w w' : World} {v : Value} {d : Dk} (h : DiskL w v d) (hb : Below w.heap.size w w') : DiskL w' v d := by
  obtain ⟨la, ln, lc, sa, sn, sc, oa, on, oc, hv, h1, h2, h3⟩ := h
  exact ⟨la, ln, lc, sa, sn, sc, oa, on, oc, hv, h1.below hb, h2.below hb, h3.below hb⟩
/-- A slice that may be written. -/
structure WrAt {α : Type} (cs : α → List Value) (sz : Nat) (t : TypeId) (w : World) (B : Nat) (a : Option Addr) (n cap : Nat) (l : List α) : Prop where
  sl : SlAt cs sz w a n l
  own : (a = none ∧ n = 0 ∧ cap = 0) ∨ ∃ b c, a = some ⟨b, 0, none⟩ ∧ B ≤ b ∧ Blk w b c t ∧ n * sz ≤ c.size
section
variable {α : Type} {cs : α → List Value} {sz : Nat} {t : TypeId} {w w' : World} {B n cap : Nat} {a : Option Addr} {l : List α}
theorem ResAt.wr (h : ResAt cs sz t w B a n cap l) : WrAt cs sz t w B a n cap l := by
  refine ⟨h.sl, ?_⟩
  rcases h.own with h0 | ⟨b, ha, hB, h1, _, c, hc, h2, _⟩
  · exact .inl h0
  · exact .inr ⟨b, c, ha, hB, hc, by rw [h2]; exact Nat.mul_le_mul_right _ h1⟩
theorem OwnAt.wr {b : Nat} (h : OwnAt cs sz t w b n l) (hB : B ≤ b) : WrAt cs sz t w B (some ⟨b, 0, none⟩) n n l := by
  refine ⟨h.sl, ?_⟩
  obtain ⟨c, hc, h1, _⟩ := h.blk
  exact .inr ⟨b, c, rfl, hB, hc, h1⟩
theorem WrAt.below (h : WrAt cs sz t w B a n cap l) (hb : Below w.heap.size w w') : WrAt cs sz t w' B a n cap l := by
  refine ⟨h.sl.below hb, ?_⟩
  rcases h.own with h0 | ⟨b, c, ha, hB, hc, h1⟩
  · exact .inl h0
  · exact .inr ⟨b, c, ha, hB, hc.below hb, h1⟩
theorem WrAt.mono {B' : Nat} (h : WrAt cs sz t w B a n cap l) (hb : B' ≤ B) : WrAt cs sz t w B' a n cap l := by
  refine ⟨h.sl, ?_⟩
  rcases h.own with h0 | ⟨b, c, ha, hB, hc, h1⟩
  · exact .inl h0
  · exact .inr ⟨b, c, ha, by omega, hc, h1⟩
theorem WrAt.block (h : WrAt cs sz t w B a n cap l) : ∀ ad, a = some ad → B ≤ ad.block ∧ ad.block < w.heap.size := by
  intro ad e
  rcases h.own with ⟨h0, _⟩ | ⟨b, c, ha, hB, hc, _⟩
  · rw [h0] at e; cases e
  · rw [ha] at e; cases e; exact ⟨hB, hc.lt⟩
theorem WrAt.slH (h : WrAt cs sz t w B a n cap l) : SlH cs sz w a n cap l := by
  refine ⟨h.sl, fun ad e => ?_, fun e => ?_⟩
  · rcases h.own with ⟨h0, _⟩ | ⟨b, c, ha, _⟩
    · rw [h0] at e; cases e
    · rw [ha] at e; cases e; rfl
  · rcases h.own with ⟨_, _, h0⟩ | ⟨b, c, ha, _⟩
    · exact h0
    · rw [ha] at e; cases e
theorem WrAt.off {row : Option Nat} (h : WrAt cs sz t w B a n cap l) (hg : w.grownBy w' row) (hr : ∀ ad, a = some ad → some ad.block ≠ row) : WrAt cs sz t w' B a n cap l := by
  refine ⟨slAt_grownT h.sl hg hr, ?_⟩
  rcases h.own with h0 | ⟨b, c, ha, hB, hc, h1⟩
  · exact .inl h0
  · exact .inr ⟨b, c, ha, hB, (hg.block _ hc.lt (hr _ ha)).trans hc, h1⟩
end
/-- A disk of one's own. -/
def DiskW (B : Nat) (w : World) (v : Value) (d : Dk) : Prop := ∃ la ln lc sa sn sc oa on oc, v = .agg #[.slice la ln lc, .slice sa sn sc, .slice oa on oc] ∧ WrAt Fl.cs 2 123 w B la ln lc d.live ∧ WrAt Fl.cs 2 123 w B sa sn sc d.safe ∧ WrAt Dp.cs 4 120 w B oa on oc d.ops ∧ (∀ x y, la = some x → sa = some y → x.block ≠ y.block)
theorem DiskW.below {B : Nat} {w w' : World} {v : Value} {d : Dk} (h : DiskW B w v d) (hb : Below w.heap.size w w') : DiskW B w' v d := by
  obtain ⟨la, ln, lc, sa, sn, sc, oa, on, oc, hv, h1, h2, h3, h4⟩ := h
  exact ⟨la, ln, lc, sa, sn, sc, oa, on, oc, hv, h1.below hb, h2.below hb, h3.below hb, h4⟩
theorem DiskW.at {B : Nat} {w : World} {v : Value} {d : Dk} (h : DiskW B w v d) : DiskAt w v d := by
  obtain ⟨la, ln, lc, sa, sn, sc, oa, on, oc, hv, h1, h2, h3, _⟩ := h
  exact ⟨la, ln, lc, sa, sn, sc, oa, on, oc, hv, h1.slH, h2.slH, h3.slH⟩
theorem DiskAt.l {w : World} {v : Value} {d : Dk} (h : DiskAt w v d) : DiskL w v d := by
  obtain ⟨la, ln, lc, sa, sn, sc, oa, on, oc, hv, h1, h2, h3⟩ := h
  exact ⟨la, ln, lc, sa, sn, sc, oa, on, oc, hv, h1.sl, h2.sl, h3.sl⟩
theorem Blk.three {w : World} {b : Nat} {c0 c1 c2 : Value} {t : TypeId} (h : Blk w b #[c0, c1, c2] t) : w.cell? ⟨b, 0, none⟩ = some c0 ∧ w.cell? ⟨b, 1, none⟩ = some c1 ∧ w.cell? ⟨b, 2, none⟩ = some c2 := ⟨h.cell 0, h.cell 1, h.cell 2⟩
def eqDk (d e : Dk) : Bool := eqFls d.live e.live && (eqFls d.safe e.safe && eqDps d.ops e.ops)
theorem eqDk_refl (d : Dk) : eqDk d d = true := by simp [eqDk, eqFls_refl, eqDps_refl]
set_option maxHeartbeats 2000000 in
set_option maxRecDepth 100000 in
theorem laws_eqDisk (v v' : Value) (d d' : Dk) (w : World) (h : DiskL w v d) (h' : DiskL w v' d') (hn : d.live.length ≤ 4194304 ∧ d.safe.length ≤ 4194304 ∧ d.ops.length ≤ 4194304) (hn' : d'.live.length ≤ 4194304 ∧ d'.safe.length ≤ 4194304 ∧ d'.ops.length ≤ 4194304) :
    Calls Tryz.prog 24 #[v, v'] w fun e w' => e = .returned (.bool (eqDk d d')) ∧ Below w.heap.size w w' := by
  obtain ⟨la, ln, lc, sa, sn, sc, oa, on, oc, rfl, h1, h2, h3⟩ := h
  obtain ⟨la', ln', lc', sa', sn', sc', oa', on', oc', rfl, g1, g2, g3⟩ := h'
  rw [h1.len, h2.len, h3.len] at hn
  rw [g1.len, g2.len, g3.len] at hn'
  obtain ⟨live, safe, ops⟩ := d
  obtain ⟨live', safe', ops'⟩ := d'
  simp only at *
  have hB0 : Below w.heap.size w ((w.alloc (.cells #[.slice la ln lc, .slice sa sn sc, .slice oa on oc] 52)).alloc (.cells #[.slice la' ln' lc', .slice sa' sn' sc', .slice oa' on' oc'] 52)) := by go_grown
  have C : Blk ((w.alloc (.cells #[.slice la ln lc, .slice sa sn sc, .slice oa on oc] 52)).alloc (.cells #[.slice la' ln' lc', .slice sa' sn' sc', .slice oa' on' oc'] 52)) w.heap.size #[.slice la ln lc, .slice sa sn sc, .slice oa on oc] 52 := (Blk.new w _ _).alloc _
  have E : Blk ((w.alloc (.cells #[.slice la ln lc, .slice sa sn sc, .slice oa on oc] 52)).alloc (.cells #[.slice la' ln' lc', .slice sa' sn' sc', .slice oa' on' oc'] 52)) (w.heap.size + 1) #[.slice la' ln' lc', .slice sa' sn' sc', .slice oa' on' oc'] 52 := Blk.new' _ _ _ _ (by simp)
  go_enter Tryz.func24, Tryz.ntmps24
  go_wp2_with fail
  generalize (w.alloc (.cells #[.slice la ln lc, .slice sa sn sc, .slice oa on oc] 52)).alloc (.cells #[.slice la' ln' lc', .slice sa' sn' sc', .slice oa' on' oc'] 52) = W0 at *
  refine (laws_eqFileS la ln lc live la' ln' lc' live' _ (h1.below hB0) (g1.below hB0) hn.1 hn'.1).mono ?_
  rintro e w1 ⟨rfl, hB1⟩
  replace C := C.below hB1
  replace E := E.below hB1
  replace hB1 := chain hB0 hB1
  cases he1 : eqFls live live'
  · have hr : Hid (eqDk ⟨live, safe, ops⟩ ⟨live', safe', ops'⟩ = false) := by show _ = _; simp [eqDk, he1]
    go_wp2
    go_returns
    exact ⟨ret_bool hr.out.symm, hB1⟩
  · have c1 := C.three.2.1
    have e1 := E.three.2.1
    go_wp2_with fail
    refine (laws_eqFileS sa sn sc safe sa' sn' sc' safe' _ (h2.below hB1) (g2.below hB1) hn.2.1 hn'.2.1).mono ?_
    rintro e w2 ⟨rfl, hB2⟩
    replace C := C.below hB2
    replace E := E.below hB2
    replace hB2 := chain hB1 hB2
    clear c1 e1
    cases he2 : eqFls safe safe'
    · have hr : Hid (eqDk ⟨live, safe, ops⟩ ⟨live', safe', ops'⟩ = false) := by show _ = _; simp [eqDk, he2]
      go_wp2
      go_returns
      exact ⟨ret_bool hr.out.symm, hB2⟩
    · have c2 := C.three.2.2
      have e2 := E.three.2.2
      go_wp2_with fail
      refine (laws_eqDOpS oa on oc ops oa' on' oc' ops' _ (h3.below hB2) (g3.below hB2) hn.2.2 hn'.2.2).mono ?_
      rintro e w3 ⟨rfl, hB3⟩
      replace hB3 := chain hB2 hB3
      have hr : Hid (eqDk ⟨live, safe, ops⟩ ⟨live', safe', ops'⟩ = eqDps ops ops') := by show _ = _; simp [eqDk, he1, he2]
      clear c2 e2
      generalize eqDps ops ops' = q at *
      cases q
      · go_wp2
        go_returns
        exact ⟨ret_bool hr.out.symm, hB3⟩
      · go_wp2
        go_returns
        exact ⟨ret_bool hr.out.symm, hB3⟩
end Go.Proofs.YtigldeccfpkdmaaGreatDoor
namespace Go.Proofs.YtigldeccfpkdmaaGreatDoor
open Go Go.RowKit Go.BigFrame
open Go.ChangeShapes Go.WideShapes Go.ChangeAt Go.Deep Go.Joins
theorem OwnAt.set {α : Type} {cs : α → List Value} {sz : Nat} {t : TypeId} {w : World} {b n c i : Nat} {x : Value} {l : List α} (h : OwnAt cs sz t w b n l) (hb : b ≠ c) : OwnAt cs sz t (w.setCell ⟨c, i, none⟩ x) b n l := h.grown (grown_set (World.grownBy.refl _ _) _ _) hb
end Go.Proofs.YtigldeccfpkdmaaGreatDoor
namespace Go.Proofs.YtigldeccfpkdmaaGreatDoor
open Go.ChangeShapes Go.WideShapes Go.ChangeAt Go.RowKit Go.Deep Go.Joins
theorem DiskL.cells {w : World} {v : Value} {d : Dk} (h : DiskL w v d) : ∃ la ln lc sa sn sc oa on oc, v = .agg #[.slice la ln lc, .slice sa sn sc, .slice oa on oc] := by
  obtain ⟨la, ln, lc, sa, sn, sc, oa, on, oc, rfl, _⟩ := h
  exact ⟨_, _, _, _, _, _, _, _, _, rfl⟩
end Go.Proofs.YtigldeccfpkdmaaGreatDoor
