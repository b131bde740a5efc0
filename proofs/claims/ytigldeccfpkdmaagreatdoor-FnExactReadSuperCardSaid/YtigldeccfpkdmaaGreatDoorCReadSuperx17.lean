/- What is written into boxes of pools leaves a pool in the making as it is. A list of the last volume, or of its last item, grows: what else is as it was. What is found by going through all volumes, by the model. -/
import Derived.Test.YtigldeccfpkdmaaGreatDoorCReadSuperx16
import Derived.Test.YtigldeccfpkdmaaGreatDoorProg
import Derived.StillTailTactics
import Derived.Test.YtigldeccfpkdmaaGreatDoorCReadSuperx09
import Derived.Test.YtigldeccfpkdmaaGreatDoorCReadSuperx11
namespace Go.Proofs.YtigldeccfpkdmaaGreatDoor
open Go Go.RowKit Go.BigFrame
def put6 (w : World) (b : Nat) (x0 x1 x2 x3 x4 x5 : Value) : World := (((((w.setCell ⟨b, 0, none⟩ x0).setCell ⟨b, 1, none⟩ x1).setCell ⟨b, 2, none⟩ x2).setCell ⟨b, 3, none⟩ x3).setCell ⟨b, 4, none⟩ x4).setCell ⟨b, 5, none⟩ x5
theorem PoolM.box {B : Nat} {w w' : World} {b : Nat} {c : Array Value} {v : Value} {p : Po} (h : PoolM B w v p) (hg : w.grownBy w' (some b)) (hb : Blk w b c 26) : PoolM B w' v p := by
  have hr := rowTy_blk hb
  obtain ⟨ea, en, ec, va, vn, vc, ra, rn, rc, la, ln, lc, vr, e, h1, h2, h3, h4, h5, h6, h7, h8⟩ := h.out
  exact ⟨ea, en, ec, va, vn, vc, ra, rn, rc, la, ln, lc, vr, e, h1.ty hg hr (by decide), h2.ty hg hr (by decide), h3.ty hg hr (by decide), h4.ty hg hr (by decide), h5, h6.imp fun _ _ _ h => h.ty hg hr (by decide) (by decide), h7, h8⟩
theorem put6_all {B : Nat} {w0 w : World} {b : Nat} {c0 c1 c2 c3 c4 c5 x0 x1 x2 x3 x4 x5 : Value} {p : Po} (h : Blk w b #[c0, c1, c2, c3, c4, c5] 26) (hB : Below B w0 w) (hb : B ≤ b) (hM : PoolM B w (.agg #[x0, x1, x2, x3, x4, x5]) p) :
    Blk (put6 w b x0 x1 x2 x3 x4 x5) b #[x0, x1, x2, x3, x4, x5] 26 ∧ PoolM B (put6 w b x0 x1 x2 x3 x4 x5) (.agg #[x0, x1, x2, x3, x4, x5]) p ∧ Below B w0 (put6 w b x0 x1 x2 x3 x4 x5) := by
  have hg : w.grownBy (put6 w b x0 x1 x2 x3 x4 x5) (some b) := grown_set (grown_set (grown_set (grown_set (grown_set (grown_set (World.grownBy.refl _ _) _ _) _ _) _ _) _ _) _ _) _ _
  refine ⟨?_, hM.box hg h, hB.grown hg (by have := h.lt; omega) (fun k e => by cases e; exact hb)⟩
  have := (((((h.set 0 x0).set 1 x1).set 2 x2).set 3 x3).set 4 x4).set 5 x5
  unfold put6
  simpa using this
theorem put1_all {B : Nat} {w0 w : World} {b : Nat} {c : Array Value} {v : Value} {p : Po} (h : Blk w b c 26) (hB : Below B w0 w) (hb : B ≤ b) (hM : PoolM B w v p) (i : Nat) (x : Value) :
    Blk (w.setCell ⟨b, i, none⟩ x) b (c.setIfInBounds i x) 26 ∧ PoolM B (w.setCell ⟨b, i, none⟩ x) v p ∧ Below B w0 (w.setCell ⟨b, i, none⟩ x) ∧ w.grownBy (w.setCell ⟨b, i, none⟩ x) (some b) := by
  have hg : w.grownBy (w.setCell ⟨b, i, none⟩ x) (some b) := grown_set (World.grownBy.refl _ _) _ _
  exact ⟨h.set i x, hM.box hg h, hB.grown hg (by have := h.lt; omega) (fun k e => by cases e; exact hb), hg⟩
/-- A pool with other numbers. -/
theorem PoolM.nums {B : Nat} {w : World} {p : Po} {a b a' b' : Int} {x2 x3 x4 x5 : Value} (h : PoolM B w (.agg #[.int .i64 a, .int .i64 b, x2, x3, x4, x5]) p) : PoolM B w (.agg #[.int .i64 a', .int .i64 b', x2, x3, x4, x5]) { p with size := a', next := b' } := by
  obtain ⟨ea, en, ec, va, vn, vc, ra, rn, rc, la, ln, lc, vr, e, h1, h2, h3, h4, h5, h6, h7, h8⟩ := h.out
  cases e
  exact ⟨ea, en, ec, va, vn, vc, ra, rn, rc, la, ln, lc, vr, rfl, h1, h2, h3, h4, h5, h6, h7, h8⟩
theorem ctm_len (c : Ct) : c.cs.length = 4 := rfl
theorem ctm_one : ∀ (l : List Ct), ∀ u ∈ l.flatMap Ct.cs, u.oneCell' = true := by
  intro l u hu
  obtain ⟨x, _, hx⟩ := List.mem_flatMap.1 hu
  simp [Ct.cs] at hx
  rcases hx with rfl | rfl | rfl | rfl <;> rfl
theorem sl_newG {α : Type} {cs : α → List Value} {sz : Nat} (_hsz : ∀ y, (cs y).length = sz) (w : World) (x : α) (t : TypeId) (b : Nat) (hb : b = w.heap.size) : SlAt cs sz (w.alloc (.cells (cs x).toArray t)) (some ⟨b, 0, none⟩) 1 [x] := by
  subst hb
  refine ⟨rfl, fun i y hy => ⟨w.heap.size, 0, rfl, fun j v hv => ?_⟩⟩
  obtain rfl : i = 0 := by have := (List.getElem?_eq_some_iff.1 hy).1; simp at this; exact this
  simp at hy
  subst hy
  simp [hv]
theorem cbx {w : World} {b : Nat} {c0 c1 c2 c3 : Value} {t : TypeId} (h : Blk w b #[c0, c1, c2, c3] t) : w.cell? ⟨b, 0, none⟩ = some c0 ∧ w.cell? ⟨b, 1, none⟩ = some c1 ∧ w.cell? ⟨b, 2, none⟩ = some c2 ∧ w.cell? ⟨b, 3, none⟩ = some c3 := ⟨h.cell 0, h.cell 1, h.cell 2, h.cell 3⟩
theorem own_neM {a : Option Addr} {n c b : Nat} (h : ∀ ad, a = some ad → ad.block ≠ b) : some b ≠ Value.ownBlock (.slice a n c) := by
  cases a with
  | none => simp [Value.ownBlock]
  | some ad => have := h ad rfl; simp [Value.ownBlock]; omega
theorem own_geM {a : Option Addr} {n c B : Nat} (h : ∀ ad, a = some ad → B ≤ ad.block) : ∀ k, Value.ownBlock (.slice a n c) = some k → B ≤ k := by
  intro k hk
  cases a with
  | none => simp [Value.ownBlock] at hk
  | some ad => have := h ad rfl; simp [Value.ownBlock] at hk; omega
theorem vrm_len (c : VR) : c.cs.length = 4 := rfl
theorem irm_len (c : IR) : c.cs.length = 2 := rfl
theorem vblk_none (vr : List VR) (i : Int) (t : ByteArray) (b : Bool) : vblk (vr ++ [⟨i, t, b, none, 0, 0, []⟩]) = vblk vr := by
  unfold vblk
  simp [blkO]
theorem pblk_nil (vr : List VR) (i : Int) (t : ByteArray) (b : Bool) : pblk (vr ++ [⟨i, t, b, none, 0, 0, []⟩]) = pblk vr := by
  unfold pblk
  simp
theorem Al2.lastL {α β : Type} {R : α → β → Prop} {x : α} : ∀ {l : List α} {m : List β}, Al2 R (l ++ [x]) m → ∃ m' y, m = m' ++ [y] ∧ Al2 R l m' ∧ R x y
  | [], _, h => by
    cases h with
    | cons hr ht => cases ht; exact ⟨[], _, rfl, .nil, hr⟩
  | z :: l, _, h => by
    cases h with
    | cons hr ht =>
      obtain ⟨m', y, rfl, h1, h2⟩ := Al2.lastL ht
      exact ⟨_ :: m', y, rfl, .cons hr h1, h2⟩
theorem exm_len (c : Ex) : c.cs.length = 2 := rfl
theorem exm_one : ∀ (l : List Ex), ∀ u ∈ l.flatMap Ex.cs, u.oneCell' = true := by
  intro l u hu
  obtain ⟨x, _, hx⟩ := List.mem_flatMap.1 hu
  simp [Ex.cs] at hx
  rcases hx with rfl | rfl <;> rfl
theorem cutV_beh (s : ByteArray) : ∃ x y, cutV 32 s = .tuple #[x, .string (bA (behQ s.data.toList)), y] := by
  unfold cutV behQ
  cases cutB 32 s.data.toList with
  | none => exact ⟨_, _, rfl⟩
  | some q => exact ⟨_, _, rfl⟩
theorem beh_size (s : ByteArray) : (bA (behQ s.data.toList)).size ≤ s.size := by
  rw [Lib.size_eq, bA_list, Lib.size_eq s]
  unfold behQ
  cases hc : cutB 32 s.data.toList with
  | none => simp
  | some q =>
    obtain ⟨h1, _⟩ := cutB_some (a := q.1) (b := q.2) hc
    rw [h1]; simp; omega
/-- A goal kept from the walk. -/
structure HeldM (P : Prop) : Prop where
  out : P
end Go.Proofs.YtigldeccfpkdmaaGreatDoor
namespace Go.Proofs.YtigldeccfpkdmaaGreatDoor
open Go Go.RowKit Go.BigFrame
theorem vblk_app (l : List VR) (r : VR) : vblk (l ++ [r]) = vblk l ++ (blkO r.a).toList := by
  unfold vblk
  rw [List.filterMap_append]
  cases h : blkO r.a <;> simp [h]
theorem pblk_app (l : List VR) (r : VR) : pblk (l ++ [r]) = pblk l ++ r.irs.filterMap fun x => blkO x.a := by
  unfold pblk
  rw [List.flatMap_append]
  simp
theorem iblk_app (l : List IR) (r : IR) : (l ++ [r]).filterMap (fun x => blkO x.a) = l.filterMap (fun x => blkO x.a) ++ (blkO r.a).toList := by
  rw [List.filterMap_append]
  cases h : blkO r.a <;> simp [h]
theorem upd_nodup {l : List Nat} {o o' : Option Nat} {H : Nat} (h : (l ++ o.toList).Nodup) (hlt : ∀ b ∈ l, b < H) (hf : ∀ b, o' = some b → o = some b ∨ H ≤ b) : (l ++ o'.toList).Nodup := by
  have h1 := (List.nodup_append.1 h)
  cases o' with
  | none => simpa using h1.1
  | some b =>
    rw [Option.toList, List.nodup_append]
    refine ⟨h1.1, by simp, fun x hx y hy => ?_⟩
    simp at hy
    subst hy
    rcases hf y rfl with rfl | hb
    · exact h1.2.2 x hx y (by simp)
    · have := hlt x hx
      omega
theorem blk_not_in {l : List Nat} {o : Option Nat} {b : Nat} (h : (l ++ o.toList).Nodup) (hb : b ∈ l) : o ≠ some b := fun e => by
  subst e
  exact (List.nodup_append.1 h).2.2 b hb b (by simp) rfl
theorem mem_vblk {l : List VR} {r : VR} {ad : Addr} (hr : r ∈ l) (ha : r.a = some ad) : ad.block ∈ vblk l := by
  unfold vblk
  exact List.mem_filterMap.2 ⟨r, hr, by simp [blkO, ha]⟩
theorem mem_pblk {l : List VR} {r : VR} {x : IR} {ad : Addr} (hr : r ∈ l) (hx : x ∈ r.irs) (ha : x.a = some ad) : ad.block ∈ pblk l := by
  unfold pblk
  exact List.mem_flatMap.2 ⟨r, hr, List.mem_filterMap.2 ⟨x, hx, by simp [blkO, ha]⟩⟩
theorem own_blk {a : Option Addr} {n c b : Nat} (h : blkO a ≠ some b) : some b ≠ Value.ownBlock (.slice a n c) := by
  cases a with
  | none => simp [Value.ownBlock]
  | some ad => simp [blkO] at h; simp [Value.ownBlock]; omega
theorem VoR.offI {w w' : World} {B : Nat} {row : Option Nat} {r : VR} {v : Vo} (h : VoR w B r v) (hg : w.grownBy w' row) (hr : RowTy w row tI) (hne : ∀ ad, r.a = some ad → some ad.block ≠ row) : VoR w' B r v :=
  ⟨h.id, h.nm, h.fx, h.rows.off hg hne, h.its.imp fun _ _ _ h => h.ty hg hr (by decide)⟩
theorem VoR.offP {w w' : World} {B : Nat} {row : Option Nat} {r : VR} {v : Vo} (h : VoR w B r v) (hg : w.grownBy w' row) (hr : RowTy w row tP) (hne : ∀ x ∈ r.irs, ∀ ad, x.a = some ad → some ad.block ≠ row) : VoR w' B r v :=
  ⟨h.id, h.nm, h.fx, h.rows.ty hg hr (by decide), h.its.imp fun x hx _ h => ⟨h.nm, h.ps.off hg (hne x hx)⟩⟩
theorem vblk_lt {w : World} {B : Nat} : ∀ {l : List VR} {m : List Vo}, Al2 (VoR w B) l m → ∀ b ∈ vblk l, b < w.heap.size
  | _, _, .nil, b, hb => by simp [vblk] at hb
  | r :: l, _, .cons hr ht, b, hb => by
    unfold vblk at hb
    obtain ⟨x, hx, e⟩ := List.mem_filterMap.1 hb
    rcases List.mem_cons.1 hx with rfl | hx
    · cases ha : x.a with
      | none => rw [ha] at e; cases e
      | some ad =>
        rw [ha] at e
        obtain rfl := Option.some.inj e
        exact (hr.rows.block ad ha).2
    · exact vblk_lt ht b (List.mem_filterMap.2 ⟨x, hx, e⟩)
theorem iblk_lt {w : World} {B : Nat} : ∀ {l : List IR} {m : List It}, Al2 (ItR w B) l m → ∀ b ∈ l.filterMap (fun x => blkO x.a), b < w.heap.size
  | _, _, .nil, b, hb => by simp at hb
  | r :: l, _, .cons hr ht, b, hb => by
    obtain ⟨x, hx, e⟩ := List.mem_filterMap.1 hb
    rcases List.mem_cons.1 hx with rfl | hx
    · cases ha : x.a with
      | none => rw [ha] at e; cases e
      | some ad =>
        rw [ha] at e
        obtain rfl := Option.some.inj e
        exact (hr.ps.block ad ha).2
    · exact iblk_lt ht b (List.mem_filterMap.2 ⟨x, hx, e⟩)
theorem pblk_lt {w : World} {B : Nat} : ∀ {l : List VR} {m : List Vo}, Al2 (VoR w B) l m → ∀ b ∈ pblk l, b < w.heap.size
  | _, _, .nil, b, hb => by simp [pblk] at hb
  | r :: l, _, .cons hr ht, b, hb => by
    unfold pblk at hb
    obtain ⟨x, hx, e⟩ := List.mem_flatMap.1 hb
    rcases List.mem_cons.1 hx with rfl | hx
    · exact iblk_lt hr.its b e
    · exact pblk_lt ht b (List.mem_flatMap.2 ⟨x, hx, e⟩)
theorem set_last {α : Type} (l : List α) (x y : α) : (l ++ [x]).set l.length y = l ++ [y] := by simp
theorem Blk.sixM {w : World} {b : Nat} {c0 c1 c2 c3 c4 c5 : Value} {t : TypeId} (h : Blk w b #[c0, c1, c2, c3, c4, c5] t) : w.cell? ⟨b, 0, none⟩ = some c0 ∧ w.cell? ⟨b, 1, none⟩ = some c1 ∧ w.cell? ⟨b, 2, none⟩ = some c2 ∧ w.cell? ⟨b, 3, none⟩ = some c3 ∧ w.cell? ⟨b, 4, none⟩ = some c4 ∧ w.cell? ⟨b, 5, none⟩ = some c5 := ⟨h.cell 0, h.cell 1, h.cell 2, h.cell 3, h.cell 4, h.cell 5⟩
theorem ptm_len (c : Pt) : c.cs.length = 3 := rfl
/-- What a row does not show does not matter. -/
theorem vr_ghost {w : World} {B n c : Nat} {a : Option Addr} {l : List VR} {r r' : VR} (h : ResAt VR.cs 4 tV w B a n c (l ++ [r])) (he : r'.cs = r.cs) : ResAt VR.cs 4 tV w B a n c (l ++ [r']) := by
  refine ⟨⟨by have := h.sl.len; simpa using this, fun i x hx => ?_⟩, ?_⟩
  · rcases Nat.lt_or_ge i l.length with hi | hi
    · rw [List.getElem?_append_left hi] at hx
      exact h.sl.cell i x (by rw [List.getElem?_append_left hi]; exact hx)
    · rw [List.getElem?_append_right hi] at hx
      have h0 : i - l.length = 0 := by have := (List.getElem?_eq_some_iff.1 hx).1; simp at this; omega
      rw [h0] at hx
      obtain rfl : r' = x := by simpa using hx
      rw [he]
      exact h.sl.cell i r (by rw [List.getElem?_append_right hi, h0]; rfl)
  · rcases h.own with h0 | ⟨b, ha, hB, h1, h2, k, hk, h3, h4⟩
    · exact .inl h0
    · refine .inr ⟨b, ha, hB, h1, h2, k, hk, h3, ?_⟩
      rw [h4]
      simp [he]
end Go.Proofs.YtigldeccfpkdmaaGreatDoor
namespace Go.Proofs.YtigldeccfpkdmaaGreatDoor
open Go.RowKit Go.BigFrame
/-- Volumes as small as right ones are. -/
def TinyV (l : List Vo) : Prop := l.length ≤ 6 ∧ ∀ v ∈ l, v.its.length ≤ 5 ∧ ∀ x ∈ v.its, x.ps.length ≤ 16 ∧ ∀ p ∈ x.ps, 0 ≤ p.a
/-- Volumes as small as they are when an op has been tried. -/
def WideV (l : List Vo) : Prop := l.length ≤ 7 ∧ ∀ v ∈ l, v.its.length ≤ 6 ∧ ∀ x ∈ v.its, x.ps.length ≤ 1000 ∧ ∀ p ∈ x.ps, 0 ≤ p.a
theorem TinyV.wide {l : List Vo} (h : TinyV l) : WideV l := ⟨by have := h.1; omega, fun v hv => ⟨by have := (h.2 v hv).1; omega, fun x hx => ⟨by have := ((h.2 v hv).2 x hx).1; omega, ((h.2 v hv).2 x hx).2⟩⟩⟩
theorem sumC_app (l a b : List Ct) : sumC l (a ++ b) = sumC (sumC l a) b := by simp [sumC]
theorem partCs_take {id : Int} {nm : ByteArray} {ps : List Pt} {j : Nat} {p : Pt} (h : ps[j]? = some p) : partCs id nm (ps.take (j + 1)) = partCs id nm (ps.take j) ++ (if p.a == 0 then [] else [⟨⟨p.a, id, nm⟩, 1⟩]) := by
  unfold partCs
  rw [take_at h, List.filter_append, List.map_append]
  cases hp : (p.a == 0) <;> simp [hp]
def itsCs (v : Vo) (l : List It) : List Ct := l.flatMap (fun x => partCs v.id x.nm x.ps)
theorem itsCs_take {v : Vo} {l : List It} {k : Nat} {x : It} (h : l[k]? = some x) : itsCs v (l.take (k + 1)) = itsCs v (l.take k) ++ partCs v.id x.nm x.ps := by
  unfold itsCs
  rw [take_at h, List.flatMap_append]; simp
theorem allCs_take {l : List Vo} {i : Nat} {v : Vo} (h : l[i]? = some v) : allCs (l.take (i + 1)) = allCs (l.take i) ++ itsCs v v.its := by
  unfold allCs
  rw [take_at h, List.flatMap_append]; simp [volCs, itsCs]
/-- What is found so far: the list, how many at most. -/
structure Fnd (w : World) (B : Nat) (out : Value) (L : List Ct) (M : Nat) : Prop where
  at' : ∃ a n cap, out = .slice a n cap ∧ n ≤ M ∧ ResAt Ct.cs 4 134 w B a n cap L
  bd : ∀ x ∈ L, -(1000 * (M : Int)) ≤ x.n ∧ x.n ≤ 1000 * (M : Int)
theorem Fnd.below {w w' : World} {B : Nat} {out : Value} {L : List Ct} {M : Nat} (h : Fnd w B out L M) (hb : Below w.heap.size w w') : Fnd w' B out L M := by
  obtain ⟨⟨a, n, cap, e, hn, R⟩, hbd⟩ := h
  exact ⟨⟨a, n, cap, e, hn, R.below hb⟩, hbd⟩
theorem Fnd.mono {w : World} {B : Nat} {out : Value} {L : List Ct} {M M' : Nat} (h : Fnd w B out L M) (hM : M ≤ M') : Fnd w B out L M' := by
  obtain ⟨⟨a, n, cap, e, hn, R⟩, hbd⟩ := h
  exact ⟨⟨a, n, cap, e, by omega, R⟩, fun x hx => by have := hbd x hx; omega⟩
set_option maxHeartbeats 2000000 in
set_option maxRecDepth 100000 in
theorem spec_l4WalkedW (B : Nat) (a : Option Addr) (n cap : Nat) (vs : List Vo) (w : World) (h : VsAt B w a n vs) (ht : WideV vs) :
    Calls Tryz.prog 119 #[.slice a n cap] w fun e w' => (∃ a' n' cap', e = .returned (.slice a' n' cap') ∧ n' ≤ 42000 ∧ (∀ x ∈ walkL vs, -42000000 ≤ x.n ∧ x.n ≤ 42000000) ∧ ResAt Ct.cs 4 134 w' w.heap.size a' n' cap' (walkL vs)) ∧ Below w.heap.size w w' := by
  have hlen : Hid (vs.length = n) := h.len
  have hn6 : n ≤ 7 := by rw [← hlen.out]; exact ht.1
  go_enter Tryz.func119, Tryz.ntmps119
  go_wp2_with fail
  go_loopw [3, 4] (fun out ix wr => ∃ (i : Nat), i ≤ n ∧ ix = .int .i64 i ∧ Fnd wr w.heap.size out (sumC [] (allCs (vs.take i))) (6000 * i) ∧ Below w.heap.size w wr) (fun _ ix _ => n - (intOf ix).toNat)
  case atStart => exact ⟨0, Nat.zero_le _, rfl, ⟨⟨_, 0, 0, rfl, Nat.zero_le _, res_empty (Blk.new' _ _ _ _ rfl) (Nat.le_refl _)⟩, fun x hx => by cases hx⟩, (Below.refl _ _).alloc (Nat.le_refl _) _⟩
  case round =>
    obtain ⟨i, hi, rfl, hF, hB⟩ := hrel
    obtain ⟨wi, hwi⟩ : ∃ x, x = wr := ⟨_, rfl⟩
    subst hwi
    by_cases hlt : i < n
    · obtain ⟨b, o, v, ia, inn, icp, rfl, hv, c0, c1, c2, c3, hI, _, _⟩ := vs_at (h.below hB) hlt
      obtain ⟨t1, t2⟩ := ht.2 v (List.mem_of_getElem? hv)
      have hil : Hid (v.its.length = inn) := hI.len
      rw [hil.out] at t1
      have hi1 : (i : Int) < n := by omega
      have hi2 : (0 : Int) ≤ i := by omega
      have hall : Hid (allCs (vs.take (i + 1)) = allCs (vs.take i) ++ itsCs v v.its) := allCs_take hv
      clear hv
      generalize allCs (vs.take i) = PA at *
      go_wp2_with fail
      go_loopw [3, 5] (fun out ix wk => ∃ (k : Nat), k ≤ inn ∧ ix = .int .i64 k ∧ Fnd wk w.heap.size out (sumC [] (PA ++ itsCs v (v.its.take k))) (6000 * i + 1000 * k) ∧ Below wi.heap.size wi wk) (fun _ ix _ => inn - (intOf ix).toNat)
      case atStart => exact ⟨0, Nat.zero_le _, rfl, by simpa [itsCs] using hF, Below.refl _ _⟩
      case round =>
        clear hF
        obtain ⟨k, hk, rfl, hF, hBk⟩ := hrel
        obtain ⟨wk, hwk⟩ : ∃ x, x = wr := ⟨_, rfl⟩
        subst hwk
        have e0 := bcell hBk c0
        have e3 := bcell hBk c3
        by_cases hlk : k < inn
        · obtain ⟨b', o', x, pa, pn, pc, rfl, hx, d0, d1, hP, _, _, _⟩ := its_at (hI.below hBk) hlk
          obtain ⟨u1, u2⟩ := t2 x (List.mem_of_getElem? hx)
          have hpl : Hid (x.ps.length = pn) := hP.len
          rw [hpl.out] at u1
          have hk1 : (k : Int) < inn := by omega
          have hk2 : (0 : Int) ≤ k := by omega
          have hits : Hid (itsCs v (v.its.take (k + 1)) = itsCs v (v.its.take k) ++ partCs v.id x.nm x.ps) := itsCs_take hx
          clear hx
          generalize itsCs v (v.its.take k) = PI at *
          go_wp2_with fail
          have hW0 : Below wk.heap.size wk (wk.alloc (.cells #[.string x.nm, .slice pa pn pc] 139)) := by go_grown
          have X0 : (wk.alloc (.cells #[.string x.nm, .slice pa pn pc] 139)).cell? ⟨wk.heap.size, 0, none⟩ = some (.string x.nm) := (Blk.new wk #[.string x.nm, .slice pa pn pc] 139).cell 0
          have X1 : (wk.alloc (.cells #[.string x.nm, .slice pa pn pc] 139)).cell? ⟨wk.heap.size, 1, none⟩ = some (.slice pa pn pc) := (Blk.new wk #[.string x.nm, .slice pa pn pc] 139).cell 1
          have E0 := bcell hW0 e0
          have hP0 := hP.below hW0
          have hF0 := hF.below hW0
          generalize wk.alloc (.cells #[.string x.nm, .slice pa pn pc] 139) = W0 at *
          go_loopw [3, 7] (fun out ix wj => ∃ (j : Nat), j ≤ pn ∧ ix = .int .i64 j ∧ Fnd wj w.heap.size out (sumC [] (PA ++ PI ++ partCs v.id x.nm (x.ps.take j))) (6000 * i + 1000 * k + j) ∧ Below W0.heap.size W0 wj) (fun _ ix _ => pn - (intOf ix).toNat)
          case atStart => exact ⟨0, Nat.zero_le _, rfl, by simpa [partCs] using hF0, Below.refl _ _⟩
          case round =>
            clear hF hF0
            obtain ⟨j, hj, rfl, hF, hBj⟩ := hrel
            have x0 := bcell hBj X0
            have x1 := bcell hBj X1
            have y0 := bcell hBj E0
            by_cases hlj : j < pn
            · obtain ⟨b2, o2, p, rfl, hp, f0, f1, f2⟩ := pts_at (hP0.below hBj) hlj
              have hpa := u2 p (List.mem_of_getElem? hp)
              have hpt : Hid (partCs v.id x.nm (x.ps.take (j + 1)) = partCs v.id x.nm (x.ps.take j) ++ (if p.a == 0 then [] else [⟨⟨p.a, v.id, x.nm⟩, 1⟩])) := partCs_take hp
              clear hp
              generalize partCs v.id x.nm (x.ps.take j) = PP at *
              have hj1 : (j : Int) < pn := by omega
              have hj2 : (0 : Int) ≤ j := by omega
              by_cases hz : 0 < p.a
              · have hne : (p.a == 0) = false := beq_eq_false_iff_ne.2 (by omega)
                rw [hne] at hpt
                simp only [Bool.false_eq_true, if_false] at hpt
                obtain ⟨⟨a2, n2, cap2, rfl, hn2, R⟩, hbd⟩ := hF
                go_wp2_with fail
                refine wp_region_tail 16 (by kernel_rfl) (by kernel_rfl) ?_
                simp only [List.take_succ_cons, List.take_zero, List.drop_succ_cons, List.drop_zero]
                repeat still_step
                refine wpStill_nil ?_
                go_wp2_with fail
                have hBd := (Below.refl wr.heap.size wr).drew
                refine (spec_l3Add a2 n2 cap2 _ ⟨⟨p.a, v.id, x.nm⟩, 1⟩ _ (R.sl.below hBd) (by omega) (fun z hz' => by have := hbd z hz'; omega) (by simp)).mono ?_
                rintro e w3 ⟨⟨a3, n3, cap3, rfl, hn3, R3⟩, hB3⟩
                have hB4 : Below wr.heap.size wr w3 := chain hBd hB3
                have hz0 := hB.size
                have hz1 := hBk.size
                have hz2 := hW0.size
                have hz3 := hBj.size
                have hz4 := hBd.size
                go_wp2
                go_roundw
                case rel =>
                  refine ⟨j + 1, by omega, by go_num, ⟨⟨a3, n3, cap3, rfl, by omega, ?_⟩, ?_⟩, chain hBj hB4⟩
                  · rw [hpt.out, ← List.append_assoc, sumC_app]
                    exact R3.mono (by omega)
                  · rw [hpt.out, ← List.append_assoc, sumC_app]
                    intro z hz'
                    have := bound_addC (B := 1000 * ((6000 * i + 1000 * k + j : Nat) : Int)) (by omega) (c := ⟨⟨p.a, v.id, x.nm⟩, 1⟩) (by simp) (by simp) hbd z hz'
                    omega
                case measure => simp [intOf]; omega
              · have hne : (p.a == 0) = true := by simp; omega
                rw [hne] at hpt
                simp only [if_true, List.append_nil] at hpt
                go_wp2
                go_roundw
                case rel => exact ⟨j + 1, by omega, by go_num, by rw [hpt.out]; exact hF.mono (by omega), hBj⟩
                case measure => simp [intOf]; omega
            · obtain rfl : j = pn := by omega
              go_wp2
              go_roundw
              case rel =>
                refine ⟨k + 1, by omega, by go_num, ?_, chain hBk (chain hW0 hBj)⟩
                rw [hits.out, ← List.append_assoc]
                rw [List.take_of_length_le (Nat.le_of_eq hpl.out)] at hF
                exact hF.mono (by omega)
              case measure => simp [intOf]; omega
        · obtain rfl : k = inn := by omega
          go_wp2
          go_roundw
          case rel =>
            refine ⟨i + 1, by omega, by go_num, ?_, chain hB hBk⟩
            rw [hall.out, ← List.take_of_length_le (l := v.its) (Nat.le_of_eq hil.out)]
            exact hF.mono (by omega)
          case measure => simp [intOf]; omega
    · obtain rfl : i = n := by omega
      obtain ⟨⟨a2, n2, cap2, rfl, hn2, R⟩, hbd⟩ := hF
      go_wp2
      go_returns
      rw [List.take_of_length_le (Nat.le_of_eq hlen.out)] at R hbd
      exact ⟨⟨a2, n2, cap2, rfl, by omega, (fun x hx => by have := hbd x hx; omega), R⟩, hB⟩
theorem spec_l4Walked (B : Nat) (a : Option Addr) (n cap : Nat) (vs : List Vo) (w : World) (h : VsAt B w a n vs) (ht : TinyV vs) :
    Calls Tryz.prog 119 #[.slice a n cap] w fun e w' => (∃ a' n' cap', e = .returned (.slice a' n' cap') ∧ n' ≤ 42000 ∧ ResAt Ct.cs 4 134 w' w.heap.size a' n' cap' (walkL vs)) ∧ Below w.heap.size w w' := by
  refine (spec_l4WalkedW B a n cap vs w h ht.wide).mono ?_
  rintro e w' ⟨⟨a', n', cap', he, hn, _, R⟩, hB⟩
  exact ⟨⟨a', n', cap', he, hn, R⟩, hB⟩
end Go.Proofs.YtigldeccfpkdmaaGreatDoor
