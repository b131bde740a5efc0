/- Regions in which several operations come up in whatever order, each laying memory of its own. Copies of a disk, and a disk of which all is safe, by the model. -/
import Derived.Test.YtpobgjkmcmkkeaaG04
import Derived.Test.YtpobgjkmcmkkeaaG16
import Derived.ArgAppend
namespace Go.Proofs.Ytpobgjkmcmkkeaa
open Go Go.RowKit Go.BigFrame

/-- Two states that differ in these slots alone. -/
structure Agree (D : List Nat) (a0 a : Act) : Prop where
  rest : ∀ k, k ∉ D → a.tmps[k]? = a0.tmps[k]?
  size : a.tmps.size = a0.tmps.size
  defers : a.defers = a0.defers
theorem Agree.refl (D : List Nat) (a : Act) : Agree D a a := ⟨fun _ _ => rfl, rfl, rfl⟩
theorem Agree.put {D : List Nat} {a0 a : Act} (h : Agree D a0 a) {k : Nat} (v : Value) (hk : k ∈ D) : Agree D a0 (a.put (some k) v) := by
  refine ⟨fun j hj => ?_, by simp [Act.put, h.size], h.defers⟩
  rw [← h.rest j hj]
  have hne : k ≠ j := fun e => hj (e ▸ hk)
  simp [Act.put, Array.getElem?_setIfInBounds_ne hne]
theorem Agree.eval {D : List Nat} {a0 a : Act} (h : Agree D a0 a) {k : Nat} (hk : k ∉ D) : a.eval (.tmp k) = a0.eval (.tmp k) := by
  have := h.rest k hk
  simp only [Act.eval, Array.getD_eq_getD_getElem?, this]
theorem put_vals {a : Act} {k : Nat} {v : Value} (hk : k < a.tmps.size) : (fun j => (a.put (some k) v).eval (.tmp j)) = fun j => if j = k then v else a.eval (.tmp j) := by
  funext j
  by_cases h : j = k
  · subst h; simp [Act.put, Act.eval, hk]
  · have hne : k ≠ j := fun e => h e.symm
    simp [Act.put, Act.eval, Array.getElem?_setIfInBounds_ne hne, h]
/-- All of them put, one behind the other. -/
def putAll (x : Nat → Value) (D : List Nat) (a : Act) : Act := D.foldl (fun b k => b.put (some k) (x k)) a
theorem putAll_at (x : Nat → Value) : ∀ (D : List Nat) (a : Act), (∀ k ∈ D, k < a.tmps.size) → (putAll x D a).tmps.size = a.tmps.size ∧ (putAll x D a).defers = a.defers ∧ ∀ j, (putAll x D a).tmps[j]? = if j ∈ D then some (x j) else a.tmps[j]?
  | [], a, _ => ⟨rfl, rfl, fun j => by simp [putAll]⟩
  | k :: r, a, h => by
    have hk := h k (by simp)
    have hs : (a.put (some k) (x k)).tmps.size = a.tmps.size := by simp [Act.put]
    obtain ⟨h1, h2, h3⟩ := putAll_at x r (a.put (some k) (x k)) (fun j hj => by rw [hs]; exact h j (by simp [hj]))
    refine ⟨h1.trans hs, h2, fun j => ?_⟩
    show (putAll x r (a.put (some k) (x k))).tmps[j]? = _
    rw [h3 j]
    by_cases hj : j ∈ r
    · simp [hj]
    · by_cases he : j = k
      · subst he; simp [hj, Act.put, hk]
      · have hne : k ≠ j := fun e => he e.symm
        simp [hj, he, Act.put, Array.getElem?_setIfInBounds_ne hne]
theorem Agree.eq {D : List Nat} {a0 a : Act} (h : Agree D a0 a) (hD : ∀ k ∈ D, k < a0.tmps.size) : a = putAll (fun k => a.eval (.tmp k)) D a0 := by
  obtain ⟨h1, h2, h3⟩ := putAll_at (fun k => a.eval (.tmp k)) D a0 hD
  have ht : a.tmps = (putAll (fun k => a.eval (.tmp k)) D a0).tmps := by
    apply Array.ext_getElem?
    intro j
    rw [h3 j]
    split
    · rename_i hj
      have := hD j hj
      rw [← h.size] at this
      simp [Act.eval, this]
    · rename_i hj
      exact h.rest j hj
  have hd : a.defers = (putAll (fun k => a.eval (.tmp k)) D a0).defers := by rw [h2]; exact h.defers
  revert ht hd
  generalize putAll (fun k => a.eval (.tmp k)) D a0 = b
  intro ht hd
  cases a; cases b
  simp only at ht hd
  rw [ht, hd]

theorem wpAnyH_invJ {P : Program} {md : Region.Mode} {ops : Array Oper} {Q : Exit → Act → World → Prop} {S : World → Prop} (I : Array Bool → Act → World → Prop)
    (hstep : ∀ listed a u i, I listed a u → i ∈ Region.ready md ops listed → wpOp P ops Q i (fun a' u' => S u' ∧ I (listed.setIfInBounds i true) a' u') a u)
    (hdone : ∀ listed a u, I listed a u → Region.ready md ops listed = [] → Q .normal a u) (hsz : ∀ listed a u, I listed a u → listed.size = ops.size) :
    ∀ (fuel : Nat) (listed : Array Bool) (a : Act) (u : World), unl ops.size listed ≤ fuel → I listed a u → wpAnyH P md ops Q S fuel listed a u := by
  have hin : ∀ (listed : Array Bool) i, i ∈ Region.ready md ops listed → i < ops.size ∧ listed.getD i true = false := fun listed i hi => by
    obtain ⟨h1, o, h2, _⟩ := mem_ready.1 hi
    exact ⟨(Array.getElem?_eq_some_iff.1 h2).1, h1⟩
  intro fuel
  induction fuel with
  | zero =>
    intro listed a u hu hI
    have hr : Region.ready md ops listed = [] := by
      cases hl : Region.ready md ops listed with
      | nil => rfl
      | cons i r =>
        obtain ⟨h1, h2⟩ := hin listed i (by rw [hl]; simp)
        rw [unl_zero (by omega) i h1] at h2
        cases h2
    exact ⟨hr, hdone listed a u hI hr⟩
  | succ fuel ih =>
    intro listed a u hu hI
    refine ⟨fun hr => hdone listed a u hI hr, fun i hi => ?_⟩
    obtain ⟨h1, h2⟩ := hin listed i hi
    refine wpOp_mono (fun a' u' hq => ⟨hq.1, ih _ a' u' ?_ hq.2⟩) (hstep listed a u i hI hi)
    have := count_set (listed := listed) (i := i) (by rw [hsz listed a u hI]; exact h1) h2 (List.range ops.size) List.nodup_range (List.mem_range.2 h1)
    unfold unl at *
    omega
theorem wpOp_atJ {P : Program} {l : List Oper} {Q : Exit → Act → World → Prop} {K : Act → World → Prop} {a : Act} {w : World} {i : Nat} {o : Oper} (hi : l[i]? = some o) (hg : o.guard = none) (h : ∀ K' : Act → World → Prop, Shut (∀ a w, K a w → K' a w) → o.wp P a w K' Q) : wpOp P l.toArray Q i K a w := by
  have hi' : l.toArray[i]? = some o := by simpa using hi
  unfold wpOp
  simp only [hi']
  rw [if_pos (by simp [Region.wanted, hg])]
  exact .inl (h K (fun _ _ h => h))

/-- Whatever comes up keeps an invariant of what has come up, of the slots' values and of the world. -/
theorem wpAnyH_float {P : Program} {md : Region.Mode} {l : List Oper} {Q : Exit → Act → World → Prop} {S : World → Prop} {fuel : Nat} {L0 : Array Bool} {a0 : Act} {u0 : World} (W : World) (D J : List Nat) (dst : Nat → Nat) (G : (Nat → Bool) → (Nat → Value) → World → Prop)
    (hdag : dagB l.toArray = true) (hL : (L0.size == l.length && (List.range l.length).all fun i => J.contains i || L0.getD i true) = true) (hD : (D.all fun k => decide (k < a0.tmps.size)) = true) (hJD : (J.all fun i => D.contains (dst i)) = true)
    (hu : unl l.toArray.size L0 ≤ fuel) (hS : ∀ u, Below W.heap.size W u → S u) (hB0 : Below W.heap.size W u0) (hG0 : G (fun j => L0.getD j true) (fun k => a0.eval (.tmp k)) u0)
    (hstep : ∀ i ∈ J, ∀ (b : Nat → Bool) (a : Act) (u : World), Agree D a0 a → Below W.heap.size W u → G b (fun k => a.eval (.tmp k)) u → b i = false → (∀ o, l[i]? = some o → ∀ e ∈ o.after, Region.binds md e = true → b e.on = true) →
      wpOp P l.toArray Q i (fun a' u' => ∃ v, a' = a.put (some (dst i)) v ∧ Below u.heap.size u u' ∧ G (fun j => b j || j == i) (fun k => if k = dst i then v else a.eval (.tmp k)) u') a u)
    (hdone : ∀ (b : Nat → Bool) (x : Nat → Value) (u : World), Below W.heap.size W u → G b x u → (∀ j ∈ J, b j = true) → Q .normal (putAll x D a0) u) : wpAnyH P md l.toArray Q S fuel L0 a0 u0 := by
  simp only [Bool.and_eq_true, beq_iff_eq, List.all_eq_true, Bool.or_eq_true, List.contains_iff_mem, decide_eq_true_eq, List.mem_range] at hL hD hJD
  refine wpAnyH_invJ (I := fun L a u => L.size = l.length ∧ Agree D a0 a ∧ Below W.heap.size W u ∧ G (fun j => L.getD j true) (fun k => a.eval (.tmp k)) u ∧ ∀ i, i < l.length → i ∈ J ∨ L.getD i true = true) ?_ ?_ ?_ fuel L0 a0 u0 hu ⟨hL.1, Agree.refl _ _, hB0, hG0, fun i hi => hL.2 i hi⟩
  · rintro L a u i ⟨h1, h2, h3, h4, h5⟩ hi
    obtain ⟨r1, o, r2, r3⟩ := mem_ready.1 hi
    have hil : i < l.length := by have := (Array.getElem?_eq_some_iff.1 r2).1; simpa using this
    have hiJ : i ∈ J := by
      rcases h5 i hil with h | h
      · exact h
      · rw [h] at r1; cases r1
    refine wpOp_mono ?_ (hstep i hiJ (fun j => L.getD j true) a u h2 h3 h4 r1 (fun o' ho' e he hb => ?_))
    · rintro a' u' ⟨v, rfl, hb, hg⟩
      have hB := chain h3 hb
      refine ⟨hS u' hB, by simpa using h1, h2.put v (by have := hJD i hiJ; exact this), hB, ?_, fun j hj => ?_⟩
      · rw [put_vals (by rw [h2.size]; exact hD _ (by have := hJD i hiJ; exact this))]
        have : (fun j => (L.setIfInBounds i true).getD j true) = fun j => L.getD j true || j == i := by
          funext j
          by_cases h : j = i
          · subst h; simp [h1, hil]
          · have hne : i ≠ j := fun e => h e.symm
            simp [Array.getElem?_setIfInBounds_ne hne, h]
        rw [this]
        exact hg
      · by_cases h : j = i
        · subst h; exact .inl hiJ
        · have hne : i ≠ j := fun e => h e.symm
          rcases h5 j hj with h' | h'
          · exact .inl h'
          · exact .inr (by rw [getD_set_ne true hne]; exact h')
    · have ho : l[i]? = some o := by simpa using r2
      rw [ho] at ho'
      cases ho'
      have := r3 e he hb
      cases hq : L[e.on]? with
      | none => simp [hq] at this
      | some z => simp [hq] at this ⊢; exact this
  · rintro L a u ⟨h1, h2, h3, h4, h5⟩ hr
    have hall : ∀ j, j < l.length → L.getD j true = true := by
      have : ∀ n j, j < n → j < l.length → L.getD j true = true := by
        intro n
        induction n with
        | zero => intro j hj; omega
        | succ n ih =>
          intro j hj hjl
          cases hq : L.getD j true with
          | true => rfl
          | false =>
            have ho : l.toArray[j]? = some l[j] := by simp [hjl]
            have hm : j ∈ Region.ready md l.toArray L := mem_ready.2 ⟨hq, l[j], ho, fun e he _ => by
              have hlt := dag_spec hdag ho e he
              have := ih e.on (by omega) (by omega)
              have hs : e.on < L.size := by omega
              simp [hs] at this ⊢; exact this⟩
            rw [hr] at hm; cases hm
      exact fun j hj => this (j + 1) j (by omega) hj
    rw [h2.eq hD]
    exact hdone _ _ u h3 h4 (fun j hj => by
      by_cases hjl : j < l.length
      · exact hall j hjl
      · have : L[j]? = none := by simp; omega
        simp [this])
  · rintro L a u ⟨h1, _⟩
    simpa using h1
end Go.Proofs.Ytpobgjkmcmkkeaa
namespace Go.Proofs.Ytpobgjkmcmkkeaa
open Go Go.RowKit Go.BigFrame

/-- append to a literal of no elements: the literal, or a new row. -/
theorem wp_appLitJ {α : Type} {cs : α → List Value} {size : Nat} {P : Program} {o : Oper} {a : Act} {w : World} {K : Act → World → Prop} {Q : Exit → Act → World → Prop}
    (s x : Operand) (t : TypeId) (ho : o.op = .call { callee := .builtin .append, args := #[s, x], argTypes := #[t, t] })
    (B : Nat) (e : TypeId) (i : TypeInfo) (z : Value) (bytes : Nat) (ht : P.underlying t = some (.slice e)) (hi : P.info? e = some i) (hz : i.zero = some z) (hsize : i.size = size) (hby : i.bytes = bytes) (hzs : z.cells.size = size) (hpos : 0 < size)
    (hsz : ∀ y, (cs y).length = size) (hone : ∀ (l : List α), ∀ u ∈ l.flatMap cs, u.oneCell' = true)
    (b : Nat) (hs : a.eval s = .slice (some ⟨b, 0, none⟩) 0 0) (hb : Blk w b #[] e) (hBb : B ≤ b)
    (sa : Option Addr) (sn scap : Nat) (ls : List α) (hx : a.eval x = .slice sa sn scap) (hsrc : SlAt cs size w sa sn ls) (hspot : ∀ ad, sa = some ad → ad.spot = none) (hnone : sa = none → scap = 0)
    (h63 : sn ≤ maxLen) (hbytes : sn * bytes ≤ 140737488355328) (hbase : B ≤ w.heap.size)
    (h : ∀ a' cap' w', ResAt cs size e w' B a' sn cap' ls → Below w.heap.size w w' → a' ≠ none → (0 < cap' → ∀ ad, a' = some ad → w.heap.size ≤ ad.block) → K (a.put o.dst (.slice a' sn cap')) w') : o.wp P a w K Q := by
  have hd : ResAt cs size e w B (some ⟨b, 0, none⟩) 0 0 ([] : List α) := res_empty hb hBb
  have hrow := hd.row hsz
  have hlit : sn = 0 → ls = [] := fun h0 => List.eq_nil_of_length_eq_zero (by rw [hsrc.len]; exact h0)
  cases sa with
  | none =>
    have h0 : sn = 0 := by
      cases ls with
      | nil => rw [← hsrc.len]; rfl
      | cons y r => obtain ⟨b, o', hb, _⟩ := hsrc.cell 0 y rfl; cases hb
    obtain rfl := hlit h0
    obtain rfl := h0
    obtain rfl := hnone rfl
    have hrun := run_append_owned_none (P := P) w B t o.type e i size ht hi (.slice (some ⟨b, 0, none⟩) 0 0) 0 _ hrow
    unfold Oper.wp
    simp [execOp, ho, resolve, invoke, builtin, hs, hx, hrun, Result.andThen]
    exact h _ 0 w hd (Below.refl _ _) (by simp) (fun h => absurd h (by omega))
  | some ad =>
    obtain ⟨sb, off, spot⟩ := ad
    have := hspot _ rfl
    simp only at this
    subst this
    have hnl : (ls.flatMap cs).length = sn * size := by rw [flat_len hsz, hsrc.len]
    by_cases hm : 0 < sn
    · obtain ⟨v', w', hr, hrow', hg, hiff⟩ := run_append_own (P := P) w B t o.type e i z size bytes ht hi hz hsize hby hzs hpos (.slice (some ⟨b, 0, none⟩) 0 0) 0 [] (by simpa using hrow) ⟨sb, off, none⟩ sn scap (ls.flatMap cs) hnl (SlAt.src hsz hsrc) (hone ls) (by omega) (by rw [Nat.zero_add]; exact hbytes) hbase
      subst hsize
      subst hby
      have hr2 := run_append_grow (P := P) w t o.type e i z ht hi hz ⟨b, 0, none⟩ 0 0 [] (by simp) (fun j v hv => by simp at hv) ⟨sb, off, none⟩ sn scap (ls.flatMap cs) hnl (SlAt.src hsz hsrc) (by omega) (by simp only [maxLen] at h63; omega) (growslice_fits (by omega) (by rw [Nat.zero_add]; exact hbytes))
      rw [hr] at hr2
      rw [List.nil_append, Nat.zero_add] at hrow'
      obtain ⟨a', cap', rfl, hres⟩ := res_of_row hsz hsrc.len hrow'
      injection hr2 with e1 e2
      injection e1 with e3 e4 e5
      have hBl : Below w.heap.size w w' := by rw [e2]; exact ((Below.refl _ _).drew).alloc (Nat.le_refl _) _
      unfold Oper.wp
      simp [execOp, ho, resolve, invoke, builtin, hs, hx, hr, Result.andThen]
      refine h a' cap' w' hres hBl (by rw [e3]; simp) (fun _ ad had => ?_)
      rw [e3] at had
      cases had
      exact Nat.le_refl _
    · obtain rfl : sn = 0 := by omega
      obtain rfl := hlit rfl
      subst hsize
      have hrun := run_append_room_cells (P := P) (w := w) t o.type e i ht hi b 0 0 0 ⟨sb, off, none⟩ 0 scap [] (by simp) (fun j u hu => by simp at hu) (fun u hu => by simp at hu) (by omega) (fun j hj => by simp at hj) (fun j hj => by simp at hj)
      unfold Oper.wp
      simp [execOp, ho, resolve, invoke, builtin, hs, hx, hrun, Result.andThen]
      exact h _ 0 w hd (Below.refl _ _) (by simp) (fun h => absurd h (by omega))


def LitJ (B : Nat) (t : TypeId) (u : World) (x : Value) : Prop := ∃ b, x = .slice (some ⟨b, 0, none⟩) 0 0 ∧ Blk u b #[] t ∧ B ≤ b
def ResJ {α : Type} (cs : α → List Value) (sz : Nat) (t : TypeId) (B n : Nat) (l : List α) (u : World) (x : Value) : Prop := ∃ a cap, x = .slice a n cap ∧ ResAt cs sz t u B a n cap l
theorem LitJ.below {B : Nat} {t : TypeId} {u u' : World} {x : Value} (h : LitJ B t u x) (hb : Below u.heap.size u u') : LitJ B t u' x := by
  obtain ⟨b, h1, h2, h3⟩ := h
  exact ⟨b, h1, h2.below hb, h3⟩
theorem ResJ.below {α : Type} {cs : α → List Value} {sz : Nat} {t : TypeId} {B n : Nat} {l : List α} {u u' : World} {x : Value} (h : ResJ cs sz t B n l u x) (hb : Below u.heap.size u u') : ResJ cs sz t B n l u' x := by
  obtain ⟨a, cap, h1, h2⟩ := h
  exact ⟨a, cap, h1, h2.below hb⟩
theorem litJ_new {B : Nat} {t : TypeId} {u : World} (h : B ≤ u.heap.size) : LitJ B t (u.alloc (.cells #[] t)) (.slice (some ⟨u.heap.size, 0, none⟩) 0 0) := ⟨u.heap.size, rfl, Blk.new _ _ _, h⟩
theorem resJ_of {α : Type} {cs : α → List Value} {sz : Nat} {t : TypeId} {B n cap : Nat} {l : List α} {u : World} {a : Option Addr} (h : ResAt cs sz t u B a n cap l) : ResJ cs sz t B n l u (.slice a n cap) := ⟨a, cap, rfl, h⟩
/-- A disk whose three lists are answers. -/
def DiskR (B : Nat) (w : World) (v : Value) (d : Dk) : Prop := ∃ la ln lc sa sn sc oa on oc, v = .agg #[.slice la ln lc, .slice sa sn sc, .slice oa on oc] ∧ ResAt Fl.cs 2 82 w B la ln lc d.live ∧ ResAt Fl.cs 2 82 w B sa sn sc d.safe ∧ ResAt Dp.cs 4 36 w B oa on oc d.ops
theorem DiskR.below {B : Nat} {w w' : World} {v : Value} {d : Dk} (h : DiskR B w v d) (hb : Below w.heap.size w w') : DiskR B w' v d := by
  obtain ⟨la, ln, lc, sa, sn, sc, oa, on, oc, hv, h1, h2, h3⟩ := h
  exact ⟨la, ln, lc, sa, sn, sc, oa, on, oc, hv, h1.below hb, h2.below hb, h3.below hb⟩
theorem DiskR.mono {B B' : Nat} {w : World} {v : Value} {d : Dk} (h : DiskR B w v d) (hb : B' ≤ B) : DiskR B' w v d := by
  obtain ⟨la, ln, lc, sa, sn, sc, oa, on, oc, hv, h1, h2, h3⟩ := h
  exact ⟨la, ln, lc, sa, sn, sc, oa, on, oc, hv, h1.mono hb, h2.mono hb, h3.mono hb⟩
theorem DiskR.at {B : Nat} {w : World} {v : Value} {d : Dk} (h : DiskR B w v d) : DiskAt w v d := by
  obtain ⟨la, ln, lc, sa, sn, sc, oa, on, oc, hv, h1, h2, h3⟩ := h
  exact ⟨la, ln, lc, sa, sn, sc, oa, on, oc, hv, h1.slH, h2.slH, h3.slH⟩
/-- A block of three cells that is written anew. -/
theorem Blk.put3 {w : World} {b : Nat} {c0 c1 c2 x y z : Value} {t : TypeId} (h : Blk w b #[c0, c1, c2] t) : Blk (((w.setCell ⟨b, 0, none⟩ x).setCell ⟨b, 1, none⟩ y).setCell ⟨b, 2, none⟩ z) b #[x, y, z] t := by
  have := ((h.set 0 x).set 1 y).set 2 z
  simpa using this
theorem grown_put3 (w : World) (b : Nat) (x y z : Value) : w.grownBy (((w.setCell ⟨b, 0, none⟩ x).setCell ⟨b, 1, none⟩ y).setCell ⟨b, 2, none⟩ z) (some b) := grown_set (grown_set (grown_set (World.grownBy.refl _ _) _ _) _ _) _ _
theorem DiskR.off {B b : Nat} {w w' : World} {v : Value} {d : Dk} (h : DiskR B w v d) (hg : w.grownBy w' (some b)) (hb : b < B) : DiskR B w' v d := by
  obtain ⟨la, ln, lc, sa, sn, sc, oa, on, oc, hv, h1, h2, h3⟩ := h
  exact ⟨la, ln, lc, sa, sn, sc, oa, on, oc, hv, h1.grown hg (fun ad e => by have := (h1.block ad e).1; omega), h2.grown hg (fun ad e => by have := (h2.block ad e).1; omega), h3.grown hg (fun ad e => by have := (h3.block ad e).1; omega)⟩

set_option maxHeartbeats 4000000 in
set_option maxRecDepth 100000 in
theorem spec_l8Copy (v : Value) (d : Dk) (w : World) (h : DiskAt w v d) (hn : d.live.length ≤ 4000000 ∧ d.safe.length ≤ 4000000 ∧ d.ops.length ≤ 4000000) :
    Calls Try.prog 62 #[v] w fun e w' => (∃ v', e = .returned v' ∧ DiskR (w.heap.size + 2) w' v' d) ∧ Below w.heap.size w w' := by
  obtain ⟨la, ln, lc, sa, sn, sc, oa, on, oc, rfl, hL, hS, hO⟩ := h
  rw [hL.sl.len, hS.sl.len, hO.sl.len] at hn
  obtain ⟨hn1, hn2, hn3⟩ := hn
  obtain ⟨live, safe, ops⟩ := d
  simp only at hL hS hO
  go_enter Try.func62, Try.ntmps62
  go_wp2_with fail
  have C := (Blk.new w #[.slice la ln lc, .slice sa sn sc, .slice oa on oc] 27).alloc (.cells #[.slice none 0 0, .slice none 0 0, .slice none 0 0] 27)
  have E : Blk ((w.alloc (.cells #[.slice la ln lc, .slice sa sn sc, .slice oa on oc] 27)).alloc (.cells #[.slice none 0 0, .slice none 0 0, .slice none 0 0] 27)) (w.heap.size + 1) _ _ := Blk.new' _ _ _ _ (by simp)
  have hB1 : Below w.heap.size w ((w.alloc (.cells #[.slice la ln lc, .slice sa sn sc, .slice oa on oc] 27)).alloc (.cells #[.slice none 0 0, .slice none 0 0, .slice none 0 0] 27)) := by go_grown
  have hs1 : ((w.alloc (.cells #[.slice la ln lc, .slice sa sn sc, .slice oa on oc] 27)).alloc (.cells #[.slice none 0 0, .slice none 0 0, .slice none 0 0] 27)).heap.size = w.heap.size + 2 := by simp
  generalize (w.alloc (.cells #[.slice la ln lc, .slice sa sn sc, .slice oa on oc] 27)).alloc (.cells #[.slice none 0 0, .slice none 0 0, .slice none 0 0] 27) = W at *
  obtain ⟨c0, c1, c2⟩ := C.three
  have hL1 := hL.below hB1
  have hS1 := hS.below hB1
  have hO1 := hO.below hB1
  have hSB : ∀ u, Below W.heap.size W u → (fun u => u.cell? ⟨w.heap.size, 0, none⟩ = some (.slice la ln lc) ∧ u.cell? ⟨w.heap.size, 1, none⟩ = some (.slice sa sn sc) ∧ u.cell? ⟨w.heap.size, 2, none⟩ = some (.slice oa on oc)) u := fun u hu => ⟨bcell hu c0, bcell hu c1, bcell hu c2⟩
  have hWd : Below W.heap.size W W.drew := (Below.refl _ _).drew
  have hsz : w.heap.size + 2 ≤ W.heap.size := by omega
  clear hs1
  have hS0 : (fun u => u.cell? ⟨w.heap.size, 0, none⟩ = some (.slice la ln lc) ∧ u.cell? ⟨w.heap.size, 1, none⟩ = some (.slice sa sn sc) ∧ u.cell? ⟨w.heap.size, 2, none⟩ = some (.slice oa on oc)) W.drew := hSB _ hWd
  refine wp_region_last (S := (fun u => u.cell? ⟨w.heap.size, 0, none⟩ = some (.slice la ln lc) ∧ u.cell? ⟨w.heap.size, 1, none⟩ = some (.slice sa sn sc) ∧ u.cell? ⟨w.heap.size, 2, none⟩ = some (.slice oa on oc))) 13 (by kernel_rfl) (by kernel_rfl) ?_
  refine takeL (i := 1) (v := ?vq26001) rfl (by kernel_rfl) (by kernel_rfl) (by kernel_rfl) (fun _ _ _ h => h) (Or.inl ⟨by rfl, ?hyq26001⟩) (by assumption) ?restq26001
  case hyq26001 => (intro u hu; (try dsimp only at hu); go_simp <;> with_reducible rfl)
  try simp only [Act.put, List.setIfInBounds_toArray, List.set_cons_zero, List.set_cons_succ]
  refine takeL (i := 2) (v := ?vq26002) rfl (by kernel_rfl) (by kernel_rfl) (by kernel_rfl) (fun _ _ _ h => h) (Or.inl ⟨by rfl, ?hyq26002⟩) (by assumption) ?restq26002
  case hyq26002 => (intro u hu; (try dsimp only at hu); go_simp <;> with_reducible rfl)
  try simp only [Act.put, List.setIfInBounds_toArray, List.set_cons_zero, List.set_cons_succ]
  refine takeL (i := 5) (v := ?vq26003) rfl (by kernel_rfl) (by kernel_rfl) (by kernel_rfl) (fun _ _ _ h => h) (Or.inl ⟨by rfl, ?hyq26003⟩) (by assumption) ?restq26003
  case hyq26003 => (intro u hu; (try dsimp only at hu); go_simp <;> with_reducible rfl)
  try simp only [Act.put, List.setIfInBounds_toArray, List.set_cons_zero, List.set_cons_succ]
  refine takeL (i := 6) (v := ?vq26004) rfl (by kernel_rfl) (by kernel_rfl) (by kernel_rfl) (fun _ _ _ h => h) (Or.inl ⟨by rfl, ?hyq26004⟩) (by assumption) ?restq26004
  case hyq26004 => (intro u hu; (try dsimp only at hu); go_simp <;> with_reducible rfl)
  try simp only [Act.put, List.setIfInBounds_toArray, List.set_cons_zero, List.set_cons_succ]
  refine takeL (i := 9) (v := ?vq26005) rfl (by kernel_rfl) (by kernel_rfl) (by kernel_rfl) (fun _ _ _ h => h) (Or.inl ⟨by rfl, ?hyq26005⟩) (by assumption) ?restq26005
  case hyq26005 => (intro u hu; (try dsimp only at hu); go_simp <;> with_reducible rfl)
  try simp only [Act.put, List.setIfInBounds_toArray, List.set_cons_zero, List.set_cons_succ]
  refine takeL (i := 10) (v := ?vq26006) rfl (by kernel_rfl) (by kernel_rfl) (by kernel_rfl) (fun _ _ _ h => h) (Or.inl ⟨by rfl, ?hyq26006⟩) (by assumption) ?restq26006
  case hyq26006 => (intro u hu; (try dsimp only at hu); go_simp <;> with_reducible rfl)
  try simp only [Act.put, List.setIfInBounds_toArray, List.set_cons_zero, List.set_cons_succ]
  refine wpAnyH_float W [3, 6, 7, 10, 11, 14, 15] [0, 3, 4, 7, 8, 11, 12] (fun i => [3, 0, 0, 6, 7, 0, 0, 10, 11, 0, 0, 14, 15].getD i 0) (fun b x u => (b 0 = true → LitJ (w.heap.size + 2) 82 u (x 3)) ∧ (b 3 = true → ResJ Fl.cs 2 82 (w.heap.size + 2) ln live u (x 6)) ∧ (b 4 = true → LitJ (w.heap.size + 2) 82 u (x 7)) ∧ (b 7 = true → ResJ Fl.cs 2 82 (w.heap.size + 2) sn safe u (x 10)) ∧ (b 8 = true → LitJ (w.heap.size + 2) 36 u (x 11)) ∧ (b 11 = true → ResJ Dp.cs 4 36 (w.heap.size + 2) on ops u (x 14)) ∧ (b 12 = true → ∃ y0 y1 y2, x 15 = .agg #[y0, y1, y2] ∧ ResJ Fl.cs 2 82 (w.heap.size + 2) ln live u y0 ∧ ResJ Fl.cs 2 82 (w.heap.size + 2) sn safe u y1 ∧ ResJ Dp.cs 4 36 (w.heap.size + 2) on ops u y2)) (by kernel_rfl) (by kernel_rfl) (by kernel_rfl) (by kernel_rfl) (Nat.le_of_eq (by kernel_rfl)) hSB hWd ?init ?step ?done
  case init => exact ⟨(fun h => by cases h), (fun h => by cases h), (fun h => by cases h), (fun h => by cases h), (fun h => by cases h), (fun h => by cases h), (fun h => by cases h)⟩
  case step =>
    intro i hi b a u hA hB hG hbi hdep
    obtain ⟨g0, g3, g4, g7, g8, g11, g12⟩ := hG
    simp only [List.mem_cons, List.not_mem_nil, or_false] at hi
    rcases hi with rfl | rfl | rfl | rfl | rfl | rfl | rfl
    · refine wpOp_atJ rfl rfl (fun K hK => ?_)
      have hb : Below u.heap.size u (u.alloc (.cells #[] 82)) := (Below.refl _ _).alloc (Nat.le_refl _) _
      go_simp
      exact hK.out _ _ ⟨_, rfl, hb, ⟨(fun _ => (by simpa using litJ_new (by have := hB.size; omega))), (fun h => (by simpa using (g3 (by simpa using h)).below hb)), (fun h => (by simpa using (g4 (by simpa using h)).below hb)), (fun h => (by simpa using (g7 (by simpa using h)).below hb)), (fun h => (by simpa using (g8 (by simpa using h)).below hb)), (fun h => (by simpa using (g11 (by simpa using h)).below hb)), (fun h => (by obtain ⟨y0, y1, y2, e0, e1, e2, e3⟩ := g12 (by simpa using h); exact ⟨y0, y1, y2, by simpa using e0, e1.below hb, e2.below hb, e3.below hb⟩))⟩⟩
    · obtain ⟨lb, e1, L1, l2⟩ := g0 (hdep _ rfl ⟨0, .data⟩ (by simp) rfl)
      refine wpOp_atJ rfl rfl (fun K hK => ?_)
      obtain ⟨i0, hi0, hz0, hz1, hz2⟩ := info_parts infoFl
      refine wp_appLitJ (.tmp 3) (.tmp 5) 24 rfl ((w.heap.size + 2)) 82 i0 _ 32 Try.underlying24 hi0 hz0 hz1 hz2 rfl (by decide) flcs_len flcs_one lb e1 L1 l2 la ln lc live (by rw [hA.eval (by decide)]; rfl) (hL1.sl.below hB) hL1.spot hL1.nil (by unfold maxLen; omega) (by omega) (by have := hB.size; omega) (fun a3 c3 u3 R3 hb _ _ => ?_)
      exact hK.out _ _ ⟨_, rfl, hb, ⟨(fun h => (by simpa using (g0 (by simpa using h)).below hb)), (fun _ => (by simpa using resJ_of R3)), (fun h => (by simpa using (g4 (by simpa using h)).below hb)), (fun h => (by simpa using (g7 (by simpa using h)).below hb)), (fun h => (by simpa using (g8 (by simpa using h)).below hb)), (fun h => (by simpa using (g11 (by simpa using h)).below hb)), (fun h => (by obtain ⟨y0, y1, y2, e0, e1, e2, e3⟩ := g12 (by simpa using h); exact ⟨y0, y1, y2, by simpa using e0, e1.below hb, e2.below hb, e3.below hb⟩))⟩⟩
    · refine wpOp_atJ rfl rfl (fun K hK => ?_)
      have hb : Below u.heap.size u (u.alloc (.cells #[] 82)) := (Below.refl _ _).alloc (Nat.le_refl _) _
      go_simp
      exact hK.out _ _ ⟨_, rfl, hb, ⟨(fun h => (by simpa using (g0 (by simpa using h)).below hb)), (fun h => (by simpa using (g3 (by simpa using h)).below hb)), (fun _ => (by simpa using litJ_new (by have := hB.size; omega))), (fun h => (by simpa using (g7 (by simpa using h)).below hb)), (fun h => (by simpa using (g8 (by simpa using h)).below hb)), (fun h => (by simpa using (g11 (by simpa using h)).below hb)), (fun h => (by obtain ⟨y0, y1, y2, e0, e1, e2, e3⟩ := g12 (by simpa using h); exact ⟨y0, y1, y2, by simpa using e0, e1.below hb, e2.below hb, e3.below hb⟩))⟩⟩
    · obtain ⟨lb, e1, L1, l2⟩ := g4 (hdep _ rfl ⟨4, .data⟩ (by simp) rfl)
      refine wpOp_atJ rfl rfl (fun K hK => ?_)
      obtain ⟨i0, hi0, hz0, hz1, hz2⟩ := info_parts infoFl
      refine wp_appLitJ (.tmp 7) (.tmp 9) 24 rfl ((w.heap.size + 2)) 82 i0 _ 32 Try.underlying24 hi0 hz0 hz1 hz2 rfl (by decide) flcs_len flcs_one lb e1 L1 l2 sa sn sc safe (by rw [hA.eval (by decide)]; rfl) (hS1.sl.below hB) hS1.spot hS1.nil (by unfold maxLen; omega) (by omega) (by have := hB.size; omega) (fun a3 c3 u3 R3 hb _ _ => ?_)
      exact hK.out _ _ ⟨_, rfl, hb, ⟨(fun h => (by simpa using (g0 (by simpa using h)).below hb)), (fun h => (by simpa using (g3 (by simpa using h)).below hb)), (fun h => (by simpa using (g4 (by simpa using h)).below hb)), (fun _ => (by simpa using resJ_of R3)), (fun h => (by simpa using (g8 (by simpa using h)).below hb)), (fun h => (by simpa using (g11 (by simpa using h)).below hb)), (fun h => (by obtain ⟨y0, y1, y2, e0, e1, e2, e3⟩ := g12 (by simpa using h); exact ⟨y0, y1, y2, by simpa using e0, e1.below hb, e2.below hb, e3.below hb⟩))⟩⟩
    · refine wpOp_atJ rfl rfl (fun K hK => ?_)
      have hb : Below u.heap.size u (u.alloc (.cells #[] 36)) := (Below.refl _ _).alloc (Nat.le_refl _) _
      go_simp
      exact hK.out _ _ ⟨_, rfl, hb, ⟨(fun h => (by simpa using (g0 (by simpa using h)).below hb)), (fun h => (by simpa using (g3 (by simpa using h)).below hb)), (fun h => (by simpa using (g4 (by simpa using h)).below hb)), (fun h => (by simpa using (g7 (by simpa using h)).below hb)), (fun _ => (by simpa using litJ_new (by have := hB.size; omega))), (fun h => (by simpa using (g11 (by simpa using h)).below hb)), (fun h => (by obtain ⟨y0, y1, y2, e0, e1, e2, e3⟩ := g12 (by simpa using h); exact ⟨y0, y1, y2, by simpa using e0, e1.below hb, e2.below hb, e3.below hb⟩))⟩⟩
    · obtain ⟨lb, e1, L1, l2⟩ := g8 (hdep _ rfl ⟨8, .data⟩ (by simp) rfl)
      refine wpOp_atJ rfl rfl (fun K hK => ?_)
      obtain ⟨i0, hi0, hz0, hz1, hz2⟩ := info_parts infoDp
      refine wp_appLitJ (.tmp 11) (.tmp 13) 25 rfl ((w.heap.size + 2)) 36 i0 _ 56 Try.underlying25 hi0 hz0 hz1 hz2 rfl (by decide) dpcs_len dpcs_one lb e1 L1 l2 oa on oc ops (by rw [hA.eval (by decide)]; rfl) (hO1.sl.below hB) hO1.spot hO1.nil (by unfold maxLen; omega) (by omega) (by have := hB.size; omega) (fun a3 c3 u3 R3 hb _ _ => ?_)
      exact hK.out _ _ ⟨_, rfl, hb, ⟨(fun h => (by simpa using (g0 (by simpa using h)).below hb)), (fun h => (by simpa using (g3 (by simpa using h)).below hb)), (fun h => (by simpa using (g4 (by simpa using h)).below hb)), (fun h => (by simpa using (g7 (by simpa using h)).below hb)), (fun h => (by simpa using (g8 (by simpa using h)).below hb)), (fun _ => (by simpa using resJ_of R3)), (fun h => (by obtain ⟨y0, y1, y2, e0, e1, e2, e3⟩ := g12 (by simpa using h); exact ⟨y0, y1, y2, by simpa using e0, e1.below hb, e2.below hb, e3.below hb⟩))⟩⟩
    · refine wpOp_atJ rfl rfl (fun K hK => ?_)
      have r0 := g3 (hdep _ rfl ⟨3, .data⟩ (by simp) rfl)
      have r1 := g7 (hdep _ rfl ⟨7, .data⟩ (by simp) rfl)
      have r2 := g11 (hdep _ rfl ⟨11, .data⟩ (by simp) rfl)
      have hb : Below u.heap.size u u := Below.refl _ _
      have hev : ∀ k, a.eval (.tmp k) = a.tmps.getD k undef := fun _ => rfl
      obtain ⟨ya0, yc0, ey0, ry0⟩ := r0
      have ez0 : a.tmps[6]?.getD undef = .slice ya0 ln yc0 := by simpa [Act.eval] using ey0
      obtain ⟨ya1, yc1, ey1, ry1⟩ := r1
      have ez1 : a.tmps[10]?.getD undef = .slice ya1 sn yc1 := by simpa [Act.eval] using ey1
      obtain ⟨ya2, yc2, ey2, ry2⟩ := r2
      have ez2 : a.tmps[14]?.getD undef = .slice ya2 on yc2 := by simpa [Act.eval] using ey2
      go_simp
      refine hK.out _ _ ⟨_, rfl, hb, ⟨(fun h => (by simpa using (g0 (by simpa using h)).below hb)), (fun h => (by simpa using (g3 (by simpa using h)).below hb)), (fun h => (by simpa using (g4 (by simpa using h)).below hb)), (fun h => (by simpa using (g7 (by simpa using h)).below hb)), (fun h => (by simpa using (g8 (by simpa using h)).below hb)), (fun h => (by simpa using (g11 (by simpa using h)).below hb)), (fun _ => ⟨_, _, _, rfl, resJ_of ry0, resJ_of ry1, resJ_of ry2⟩)⟩⟩
  case done =>
    rintro b x u hB ⟨_, _, _, _, _, _, g12⟩ hall
    obtain ⟨y0, y1, y2, e0, ⟨a0, k0, rfl, R0⟩, ⟨a1, k1, rfl, R1⟩, ⟨a2, k2, rfl, R2⟩⟩ := g12 (hall 12 (by simp))
    refine lastL rfl ?_
    simp only [putAll, List.foldl_cons, List.foldl_nil, e0]
    try simp only [Act.put, List.setIfInBounds_toArray, List.set_cons_zero, List.set_cons_succ]
    have E1 := E.below hB
    have hBw := chain hB1 hB
    obtain ⟨z0, z1, z2⟩ := E1.three
    have f0 := E1.frozen 0
    have f1 := E1.frozen 1
    have f2 := E1.frozen 2
    clear C c0 c1 c2 hSB hS0
    go_wp2
    have E2 := E1.put3 (x := .slice a0 ln k0) (y := .slice a1 sn k1) (z := .slice a2 on k2)
    have hg := grown_put3 u (w.heap.size + 1) (.slice a0 ln k0) (.slice a1 sn k1) (.slice a2 on k2)
    have DR : DiskR (w.heap.size + 2) u (.agg #[.slice a0 ln k0, .slice a1 sn k1, .slice a2 on k2]) ⟨live, safe, ops⟩ := ⟨_, _, _, _, _, _, _, _, _, rfl, R0, R1, R2⟩
    have DR2 := DR.off hg (by omega)
    have hB2 := below_grown hBw hg (by omega)
    generalize ((u.setCell ⟨w.heap.size + 1, 0, none⟩ (.slice a0 ln k0)).setCell ⟨w.heap.size + 1, 1, none⟩ (.slice a1 sn k1)).setCell ⟨w.heap.size + 1, 2, none⟩ (.slice a2 on k2) = W8 at *
    refine bodyPost_ret (results_cell_row rfl _ W8 (w.heap.size + 1) _ _ _ _ rfl E2 Try.underlying27 rfl (by kernel_rfl)) rfl ?_
    exact ⟨⟨_, rfl, DR2⟩, hB2⟩
end Go.Proofs.Ytpobgjkmcmkkeaa
