/- Regions in which operations that only lay memory come up in whatever order. -/
import Derived.Test.YtnjefbkhibfgmaaGreatProg
import Derived.Test.YtnjefbkhibfgmaaGreatLDAskedx13
import Derived.Test.YtnjefbkhibfgmaaGreatLDAskedx14
import Derived.Test.YtnjefbkhibfgmaaGreatLDAskedx05
import Derived.Test.YtnjefbkhibfgmaaGreatLDAskedx02
import Derived.Test.YtnjefbkhibfgmaaGreatLDAskedx06
namespace Go.Proofs.YtnjefbkhibfgmaaGreat
open Go Go.RowKit Go.BigFrame
theorem wp_appLit {α : Type} {cs : α → List Value} {size : Nat} {P : Program} {o : Oper} {a : Act} {w : World} {K : Act → World → Prop} {Q : Exit → Act → World → Prop}
    (s x : Operand) (t : TypeId) (ho : o.op = .call { callee := .builtin .append, args := #[s, x], argTypes := #[t, t] })
    (B : Nat) (e : TypeId) (i : TypeInfo) (z : Value) (bytes : Nat) (ht : P.underlying t = some (.slice e)) (hi : P.info? e = some i) (hz : i.zero = some z) (hsize : i.size = size) (hby : i.bytes = bytes) (hzs : z.cells.size = size) (hpos : 0 < size)
    (hsz : ∀ y, (cs y).length = size) (hone : ∀ (l : List α), ∀ u ∈ l.flatMap cs, u.oneCell' = true)
    (b : Nat) (hs : a.eval s = .slice (some ⟨b, 0, none⟩) 0 0) (hb : Blk w b #[] e) (hBb : B ≤ b)
    (sa : Option Addr) (sn scap : Nat) (ls : List α) (hx : a.eval x = .slice sa sn scap) (hsrc : SlAt cs size w sa sn ls) (hspot : ∀ ad, sa = some ad → ad.spot = none) (hnone : sa = none → scap = 0)
    (h63 : sn ≤ maxLen) (hbytes : sn * bytes ≤ 140737488355328) (hbase : B ≤ w.heap.size)
    (h : ∀ a' cap' w', ResAt cs size e w' B a' sn cap' ls → Below w.heap.size w w' → a' ≠ none → (0 < cap' → ∀ ad, a' = some ad → w.heap.size ≤ ad.block) → K (a.put o.dst (.slice a' sn cap')) w') : o.wp P a w K Q := by
  have hd : ResAt cs size e w B (some ⟨b, 0, none⟩) 0 0 ([] : List α) := res_empty hb hBb
  have hrow := hd.row hsz
  have hlit : sn = 0 → ls = [] := fun h0 => List.eq_nil_of_length_eq_zero (by rw [hsrc.len]; exact h0)
  cases sa with
  | none =>
    have h0 : sn = 0 := by
      cases ls with
      | nil => rw [← hsrc.len]; rfl
      | cons y r => obtain ⟨b, o', hb, _⟩ := hsrc.cell 0 y rfl; cases hb
    obtain rfl := hlit h0
    obtain rfl := h0
    obtain rfl := hnone rfl
    have hrun := run_append_owned_none (P := P) w B t o.type e i size ht hi (.slice (some ⟨b, 0, none⟩) 0 0) 0 _ hrow
    unfold Oper.wp
    simp [execOp, ho, resolve, invoke, builtin, hs, hx, hrun, Result.andThen]
    exact h _ 0 w hd (Below.refl _ _) (by simp) (fun h => absurd h (by omega))
  | some ad =>
    obtain ⟨sb, off, spot⟩ := ad
    have := hspot _ rfl
    simp only at this
    subst this
    have hnl : (ls.flatMap cs).length = sn * size := by rw [flat_len hsz, hsrc.len]
    by_cases hm : 0 < sn
    · obtain ⟨v', w', hr, hrow', hg, hiff⟩ := run_append_own (P := P) w B t o.type e i z size bytes ht hi hz hsize hby hzs hpos (.slice (some ⟨b, 0, none⟩) 0 0) 0 [] (by simpa using hrow) ⟨sb, off, none⟩ sn scap (ls.flatMap cs) hnl (SlAt.src hsz hsrc) (hone ls) (by omega) (by rw [Nat.zero_add]; exact hbytes) hbase
      subst hsize
      subst hby
      have hr2 := run_append_grow (P := P) w t o.type e i z ht hi hz ⟨b, 0, none⟩ 0 0 [] (by simp) (fun j v hv => by simp at hv) ⟨sb, off, none⟩ sn scap (ls.flatMap cs) hnl (SlAt.src hsz hsrc) (by omega) (by simp only [maxLen] at h63; omega) (growslice_fits (by omega) (by rw [Nat.zero_add]; exact hbytes))
      rw [hr] at hr2
      rw [List.nil_append, Nat.zero_add] at hrow'
      obtain ⟨a', cap', rfl, hres⟩ := res_of_row hsz hsrc.len hrow'
      injection hr2 with e1 e2
      injection e1 with e3 e4 e5
      have hBl : Below w.heap.size w w' := by rw [e2]; exact ((Below.refl _ _).drew).alloc (Nat.le_refl _) _
      unfold Oper.wp
      simp [execOp, ho, resolve, invoke, builtin, hs, hx, hr, Result.andThen]
      refine h a' cap' w' hres hBl (by rw [e3]; simp) (fun _ ad had => ?_)
      rw [e3] at had
      cases had
      exact Nat.le_refl _
    · obtain rfl : sn = 0 := by omega
      obtain rfl := hlit rfl
      subst hsize
      have hrun := run_append_room_cells (P := P) (w := w) t o.type e i ht hi b 0 0 0 ⟨sb, off, none⟩ 0 scap [] (by simp) (fun j u hu => by simp at hu) (fun u hu => by simp at hu) (by omega) (fun j hj => by simp at hj) (fun j hj => by simp at hj)
      unfold Oper.wp
      simp [execOp, ho, resolve, invoke, builtin, hs, hx, hrun, Result.andThen]
      exact h _ 0 w hd (Below.refl _ _) (by simp) (fun h => absurd h (by omega))
theorem wpAnyH_inv {P : Program} {md : Region.Mode} {ops : Array Oper} {Q : Exit → Act → World → Prop} {S : World → Prop} (I : Array Bool → Act → World → Prop)
    (hstep : ∀ listed a u i, I listed a u → i ∈ Region.ready md ops listed → wpOp P ops Q i (fun a' u' => S u' ∧ I (listed.setIfInBounds i true) a' u') a u)
    (hdone : ∀ listed a u, I listed a u → Region.ready md ops listed = [] → Q .normal a u) (hsz : ∀ listed a u, I listed a u → listed.size = ops.size) :
    ∀ (fuel : Nat) (listed : Array Bool) (a : Act) (u : World), unl ops.size listed ≤ fuel → I listed a u → wpAnyH P md ops Q S fuel listed a u := by
  have hin : ∀ (listed : Array Bool) i, i ∈ Region.ready md ops listed → i < ops.size ∧ listed.getD i true = false := fun listed i hi => by
    obtain ⟨h1, o, h2, _⟩ := mem_ready.1 hi
    exact ⟨(Array.getElem?_eq_some_iff.1 h2).1, h1⟩
  intro fuel
  induction fuel with
  | zero =>
    intro listed a u hu hI
    have hr : Region.ready md ops listed = [] := by
      cases hl : Region.ready md ops listed with
      | nil => rfl
      | cons i r =>
        obtain ⟨h1, h2⟩ := hin listed i (by rw [hl]; simp)
        rw [unl_zero (by omega) i h1] at h2
        cases h2
    exact ⟨hr, hdone listed a u hI hr⟩
  | succ fuel ih =>
    intro listed a u hu hI
    refine ⟨fun hr => hdone listed a u hI hr, fun i hi => ?_⟩
    obtain ⟨h1, h2⟩ := hin listed i hi
    refine wpOp_mono (fun a' u' hq => ⟨hq.1, ih _ a' u' ?_ hq.2⟩) (hstep listed a u i hI hi)
    have := count_set (listed := listed) (i := i) (by rw [hsz listed a u hI]; exact h1) h2 (List.range ops.size) List.nodup_range (List.mem_range.2 h1)
    unfold unl at *
    omega
theorem wpOp_at {P : Program} {l : List Oper} {Q : Exit → Act → World → Prop} {K : Act → World → Prop} {a : Act} {w : World} {i : Nat} {o : Oper} (hi : l[i]? = some o) (hg : o.guard = none) (h : ∀ K' : Act → World → Prop, Shut (∀ a w, K a w → K' a w) → o.wp P a w K' Q) : wpOp P l.toArray Q i K a w := by
  have hi' : l.toArray[i]? = some o := by simpa using hi
  unfold wpOp
  simp only [hi']
  rw [if_pos (by simp [Region.wanted, hg])]
  exact .inl (h K (fun _ _ h => h))
theorem wpAnyH_invF {P : Program} {md : Region.Mode} {ops : Array Oper} {Q : Exit → Act → World → Prop} {S : World → Prop} {L0 : Array Bool} {a0 : Act} {u0 : World} {fuel : Nat} (F : Act → Prop) (I : Act → Array Bool → Act → World → Prop)
    (hF : F a0) (hstep : ∀ a0, F a0 → ∀ listed a u i, I a0 listed a u → i ∈ Region.ready md ops listed → wpOp P ops Q i (fun a' u' => S u' ∧ I a0 (listed.setIfInBounds i true) a' u') a u)
    (hdone : ∀ listed a u, I a0 listed a u → Region.ready md ops listed = [] → Q .normal a u) (hsz : ∀ listed a u, I a0 listed a u → listed.size = ops.size)
    (hu : unl ops.size L0 ≤ fuel) (hI : I a0 L0 a0 u0) : wpAnyH P md ops Q S fuel L0 a0 u0 := wpAnyH_inv (I a0) (hstep a0 hF) hdone hsz fuel L0 a0 u0 hu hI
theorem put_same (a : Act) (k : Nat) (x y : Value) : (a.put (some k) x).put (some k) y = a.put (some k) y := by simp [Act.put]
theorem put_swap {k j : Nat} (h : k ≠ j) (a : Act) (x y : Value) : (a.put (some k) x).put (some j) y = (a.put (some j) y).put (some k) x := by
  simp only [Act.put]
  rw [Array.setIfInBounds_comm _ _ h]
theorem put_size (a : Act) (k : Nat) (x : Value) : (a.put (some k) x).tmps.size = a.tmps.size := by simp [Act.put]
theorem eval_same {a : Act} {k : Nat} {x : Value} (h : k < a.tmps.size) : (a.put (some k) x).eval (.tmp k) = x := by simp [Act.put, Act.eval, h]
theorem eval_ne {k j : Nat} (h : k ≠ j) (a : Act) (x : Value) : (a.put (some k) x).eval (.tmp j) = a.eval (.tmp j) := by simp [Act.put, Act.eval, Array.getElem?_setIfInBounds_ne h]
def putA (a : Act) (x9 x12 x13 x16 x17 x20 x21 x3 : Value) : Act := ((((((((a.put (some 9) x9).put (some 12) x12).put (some 13) x13).put (some 16) x16).put (some 17) x17).put (some 20) x20).put (some 21) x21).put (some 3) x3)
theorem putA_9 (a : Act) (x9 x12 x13 x16 x17 x20 x21 x3 v : Value) : (putA a x9 x12 x13 x16 x17 x20 x21 x3).put (some 9) v = putA a v x12 x13 x16 x17 x20 x21 x3 := by
  unfold putA
  rw [put_swap (show (3 : Nat) ≠ 9 by decide), put_swap (show (21 : Nat) ≠ 9 by decide), put_swap (show (20 : Nat) ≠ 9 by decide), put_swap (show (17 : Nat) ≠ 9 by decide), put_swap (show (16 : Nat) ≠ 9 by decide), put_swap (show (13 : Nat) ≠ 9 by decide), put_swap (show (12 : Nat) ≠ 9 by decide), put_same]
theorem putA_e9 {a : Act} (h : a.tmps.size = 41) (x9 x12 x13 x16 x17 x20 x21 x3 : Value) : (putA a x9 x12 x13 x16 x17 x20 x21 x3).eval (.tmp 9) = x9 := by
  unfold putA
  rw [eval_ne (show (3 : Nat) ≠ 9 by decide), eval_ne (show (21 : Nat) ≠ 9 by decide), eval_ne (show (20 : Nat) ≠ 9 by decide), eval_ne (show (17 : Nat) ≠ 9 by decide), eval_ne (show (16 : Nat) ≠ 9 by decide), eval_ne (show (13 : Nat) ≠ 9 by decide), eval_ne (show (12 : Nat) ≠ 9 by decide), eval_same (by first | omega | (simp only [put_size]; omega))]
theorem putA_12 (a : Act) (x9 x12 x13 x16 x17 x20 x21 x3 v : Value) : (putA a x9 x12 x13 x16 x17 x20 x21 x3).put (some 12) v = putA a x9 v x13 x16 x17 x20 x21 x3 := by
  unfold putA
  rw [put_swap (show (3 : Nat) ≠ 12 by decide), put_swap (show (21 : Nat) ≠ 12 by decide), put_swap (show (20 : Nat) ≠ 12 by decide), put_swap (show (17 : Nat) ≠ 12 by decide), put_swap (show (16 : Nat) ≠ 12 by decide), put_swap (show (13 : Nat) ≠ 12 by decide), put_same]
theorem putA_e12 {a : Act} (h : a.tmps.size = 41) (x9 x12 x13 x16 x17 x20 x21 x3 : Value) : (putA a x9 x12 x13 x16 x17 x20 x21 x3).eval (.tmp 12) = x12 := by
  unfold putA
  rw [eval_ne (show (3 : Nat) ≠ 12 by decide), eval_ne (show (21 : Nat) ≠ 12 by decide), eval_ne (show (20 : Nat) ≠ 12 by decide), eval_ne (show (17 : Nat) ≠ 12 by decide), eval_ne (show (16 : Nat) ≠ 12 by decide), eval_ne (show (13 : Nat) ≠ 12 by decide), eval_same (by first | omega | (simp only [put_size]; omega))]
theorem putA_13 (a : Act) (x9 x12 x13 x16 x17 x20 x21 x3 v : Value) : (putA a x9 x12 x13 x16 x17 x20 x21 x3).put (some 13) v = putA a x9 x12 v x16 x17 x20 x21 x3 := by
  unfold putA
  rw [put_swap (show (3 : Nat) ≠ 13 by decide), put_swap (show (21 : Nat) ≠ 13 by decide), put_swap (show (20 : Nat) ≠ 13 by decide), put_swap (show (17 : Nat) ≠ 13 by decide), put_swap (show (16 : Nat) ≠ 13 by decide), put_same]
theorem putA_e13 {a : Act} (h : a.tmps.size = 41) (x9 x12 x13 x16 x17 x20 x21 x3 : Value) : (putA a x9 x12 x13 x16 x17 x20 x21 x3).eval (.tmp 13) = x13 := by
  unfold putA
  rw [eval_ne (show (3 : Nat) ≠ 13 by decide), eval_ne (show (21 : Nat) ≠ 13 by decide), eval_ne (show (20 : Nat) ≠ 13 by decide), eval_ne (show (17 : Nat) ≠ 13 by decide), eval_ne (show (16 : Nat) ≠ 13 by decide), eval_same (by first | omega | (simp only [put_size]; omega))]
theorem putA_16 (a : Act) (x9 x12 x13 x16 x17 x20 x21 x3 v : Value) : (putA a x9 x12 x13 x16 x17 x20 x21 x3).put (some 16) v = putA a x9 x12 x13 v x17 x20 x21 x3 := by
  unfold putA
  rw [put_swap (show (3 : Nat) ≠ 16 by decide), put_swap (show (21 : Nat) ≠ 16 by decide), put_swap (show (20 : Nat) ≠ 16 by decide), put_swap (show (17 : Nat) ≠ 16 by decide), put_same]
theorem putA_e16 {a : Act} (h : a.tmps.size = 41) (x9 x12 x13 x16 x17 x20 x21 x3 : Value) : (putA a x9 x12 x13 x16 x17 x20 x21 x3).eval (.tmp 16) = x16 := by
  unfold putA
  rw [eval_ne (show (3 : Nat) ≠ 16 by decide), eval_ne (show (21 : Nat) ≠ 16 by decide), eval_ne (show (20 : Nat) ≠ 16 by decide), eval_ne (show (17 : Nat) ≠ 16 by decide), eval_same (by first | omega | (simp only [put_size]; omega))]
theorem putA_17 (a : Act) (x9 x12 x13 x16 x17 x20 x21 x3 v : Value) : (putA a x9 x12 x13 x16 x17 x20 x21 x3).put (some 17) v = putA a x9 x12 x13 x16 v x20 x21 x3 := by
  unfold putA
  rw [put_swap (show (3 : Nat) ≠ 17 by decide), put_swap (show (21 : Nat) ≠ 17 by decide), put_swap (show (20 : Nat) ≠ 17 by decide), put_same]
theorem putA_e17 {a : Act} (h : a.tmps.size = 41) (x9 x12 x13 x16 x17 x20 x21 x3 : Value) : (putA a x9 x12 x13 x16 x17 x20 x21 x3).eval (.tmp 17) = x17 := by
  unfold putA
  rw [eval_ne (show (3 : Nat) ≠ 17 by decide), eval_ne (show (21 : Nat) ≠ 17 by decide), eval_ne (show (20 : Nat) ≠ 17 by decide), eval_same (by first | omega | (simp only [put_size]; omega))]
theorem putA_20 (a : Act) (x9 x12 x13 x16 x17 x20 x21 x3 v : Value) : (putA a x9 x12 x13 x16 x17 x20 x21 x3).put (some 20) v = putA a x9 x12 x13 x16 x17 v x21 x3 := by
  unfold putA
  rw [put_swap (show (3 : Nat) ≠ 20 by decide), put_swap (show (21 : Nat) ≠ 20 by decide), put_same]
theorem putA_e20 {a : Act} (h : a.tmps.size = 41) (x9 x12 x13 x16 x17 x20 x21 x3 : Value) : (putA a x9 x12 x13 x16 x17 x20 x21 x3).eval (.tmp 20) = x20 := by
  unfold putA
  rw [eval_ne (show (3 : Nat) ≠ 20 by decide), eval_ne (show (21 : Nat) ≠ 20 by decide), eval_same (by first | omega | (simp only [put_size]; omega))]
theorem putA_21 (a : Act) (x9 x12 x13 x16 x17 x20 x21 x3 v : Value) : (putA a x9 x12 x13 x16 x17 x20 x21 x3).put (some 21) v = putA a x9 x12 x13 x16 x17 x20 v x3 := by
  unfold putA
  rw [put_swap (show (3 : Nat) ≠ 21 by decide), put_same]
theorem putA_3 (a : Act) (x9 x12 x13 x16 x17 x20 x21 x3 v : Value) : (putA a x9 x12 x13 x16 x17 x20 x21 x3).put (some 3) v = putA a x9 x12 x13 x16 x17 x20 x21 v := by
  unfold putA
  rw [put_same]
theorem putA_e6 (a : Act) (x9 x12 x13 x16 x17 x20 x21 x3 : Value) : (putA a x9 x12 x13 x16 x17 x20 x21 x3).eval (.tmp 6) = a.eval (.tmp 6) := by
  unfold putA
  rw [eval_ne (show (3 : Nat) ≠ 6 by decide), eval_ne (show (21 : Nat) ≠ 6 by decide), eval_ne (show (20 : Nat) ≠ 6 by decide), eval_ne (show (17 : Nat) ≠ 6 by decide), eval_ne (show (16 : Nat) ≠ 6 by decide), eval_ne (show (13 : Nat) ≠ 6 by decide), eval_ne (show (12 : Nat) ≠ 6 by decide), eval_ne (show (9 : Nat) ≠ 6 by decide)]
theorem putA_e8 (a : Act) (x9 x12 x13 x16 x17 x20 x21 x3 : Value) : (putA a x9 x12 x13 x16 x17 x20 x21 x3).eval (.tmp 8) = a.eval (.tmp 8) := by
  unfold putA
  rw [eval_ne (show (3 : Nat) ≠ 8 by decide), eval_ne (show (21 : Nat) ≠ 8 by decide), eval_ne (show (20 : Nat) ≠ 8 by decide), eval_ne (show (17 : Nat) ≠ 8 by decide), eval_ne (show (16 : Nat) ≠ 8 by decide), eval_ne (show (13 : Nat) ≠ 8 by decide), eval_ne (show (12 : Nat) ≠ 8 by decide), eval_ne (show (9 : Nat) ≠ 8 by decide)]
theorem putA_e11 (a : Act) (x9 x12 x13 x16 x17 x20 x21 x3 : Value) : (putA a x9 x12 x13 x16 x17 x20 x21 x3).eval (.tmp 11) = a.eval (.tmp 11) := by
  unfold putA
  rw [eval_ne (show (3 : Nat) ≠ 11 by decide), eval_ne (show (21 : Nat) ≠ 11 by decide), eval_ne (show (20 : Nat) ≠ 11 by decide), eval_ne (show (17 : Nat) ≠ 11 by decide), eval_ne (show (16 : Nat) ≠ 11 by decide), eval_ne (show (13 : Nat) ≠ 11 by decide), eval_ne (show (12 : Nat) ≠ 11 by decide), eval_ne (show (9 : Nat) ≠ 11 by decide)]
theorem putA_e15 (a : Act) (x9 x12 x13 x16 x17 x20 x21 x3 : Value) : (putA a x9 x12 x13 x16 x17 x20 x21 x3).eval (.tmp 15) = a.eval (.tmp 15) := by
  unfold putA
  rw [eval_ne (show (3 : Nat) ≠ 15 by decide), eval_ne (show (21 : Nat) ≠ 15 by decide), eval_ne (show (20 : Nat) ≠ 15 by decide), eval_ne (show (17 : Nat) ≠ 15 by decide), eval_ne (show (16 : Nat) ≠ 15 by decide), eval_ne (show (13 : Nat) ≠ 15 by decide), eval_ne (show (12 : Nat) ≠ 15 by decide), eval_ne (show (9 : Nat) ≠ 15 by decide)]
theorem putA_e19 (a : Act) (x9 x12 x13 x16 x17 x20 x21 x3 : Value) : (putA a x9 x12 x13 x16 x17 x20 x21 x3).eval (.tmp 19) = a.eval (.tmp 19) := by
  unfold putA
  rw [eval_ne (show (3 : Nat) ≠ 19 by decide), eval_ne (show (21 : Nat) ≠ 19 by decide), eval_ne (show (20 : Nat) ≠ 19 by decide), eval_ne (show (17 : Nat) ≠ 19 by decide), eval_ne (show (16 : Nat) ≠ 19 by decide), eval_ne (show (13 : Nat) ≠ 19 by decide), eval_ne (show (12 : Nat) ≠ 19 by decide), eval_ne (show (9 : Nat) ≠ 19 by decide)]
theorem ready_all {md : Region.Mode} {l : List Oper} {L : Array Bool} {k : Nat} {o : Oper} (hr : Region.ready md l.toArray L = []) (ho : l[k]? = some o) (hd : ∀ e ∈ o.after, Region.binds md e = true → L.getD e.on false = true) : L.getD k true = true := by
  cases h : L.getD k true with
  | true => rfl
  | false =>
    have hq : l.toArray[k]? = some o := by simpa using ho
    have := (mem_ready (md := md)).2 ⟨h, o, hq, hd⟩
    rw [hr] at this
    cases this
def LitT (B : Nat) (t : TypeId) (u : World) (x : Value) : Prop := ∃ b, x = .slice (some ⟨b, 0, none⟩) 0 0 ∧ Blk u b #[] t ∧ B ≤ b
def ResT {α : Type} (cs : α → List Value) (sz : Nat) (t : TypeId) (B n : Nat) (l : List α) (u : World) (x : Value) : Prop := ∃ a cap, x = .slice a n cap ∧ ResAt cs sz t u B a n cap l ∧ a ≠ none
def SepT (x y : Value) : Prop := ∀ a n cap a' n' cap', x = .slice a n cap → y = .slice a' n' cap' → ∀ p q, a = some p → a' = some q → 0 < cap → 0 < cap' → p.block ≠ q.block
def BoxT (B : Nat) (t : TypeId) (c : Array Value) (u : World) (x : Value) : Prop := ∃ b, x = .pointer (some ⟨b, 0, none⟩) ∧ Blk u b c t ∧ B ≤ b
theorem LitT.below {B : Nat} {t : TypeId} {u u' : World} {x : Value} (h : LitT B t u x) (hb : Below u.heap.size u u') : LitT B t u' x := by
  obtain ⟨b, h1, h2, h3⟩ := h
  exact ⟨b, h1, h2.below hb, h3⟩
theorem ResT.below {α : Type} {cs : α → List Value} {sz : Nat} {t : TypeId} {B n : Nat} {l : List α} {u u' : World} {x : Value} (h : ResT cs sz t B n l u x) (hb : Below u.heap.size u u') : ResT cs sz t B n l u' x := by
  obtain ⟨a, cap, h1, h2, h3⟩ := h
  exact ⟨a, cap, h1, h2.below hb, h3⟩
theorem BoxT.below {B : Nat} {t : TypeId} {c : Array Value} {u u' : World} {x : Value} (h : BoxT B t c u x) (hb : Below u.heap.size u u') : BoxT B t c u' x := by
  obtain ⟨b, h1, h2, h3⟩ := h
  exact ⟨b, h1, h2.below hb, h3⟩
end Go.Proofs.YtnjefbkhibfgmaaGreat
namespace Go.Proofs.YtnjefbkhibfgmaaGreat
open Go.RowKit Go.BigFrame
def laidJ (l : List Pt) (at' : Int) (m : List Pt) : List Pt :=
  joinL (joinL (if sumN l < at' then addL (joinL [] (slp 0 (min at' (sumN l)) 0 l)) ⟨0, 0, at' - sumN l⟩ else joinL [] (slp 0 (min at' (sumN l)) 0 l)) m) (joinL [] (slp (min (sumN l) (at' + sumN m)) (sumN l) 0 l))
set_option maxHeartbeats 2000000 in
set_option maxRecDepth 100000 in
theorem spec_l2Laid (a : Option Addr) (n cap : Nat) (l : List Pt) (at' : Int) (a' : Option Addr) (n' cap' : Nat) (m : List Pt) (w : World) (h : PtsAt w a n l) (h' : PtsAt w a' n' m) (hok : partsOkB l = true) (hok' : partsOkB m = true) (h0 : 0 ≤ at') (h1 : at' ≤ 100) :
    Calls Tryz.prog 124 #[.slice a n cap, .int .i64 at', .slice a' n' cap'] w fun e w' => (∃ a1 n1 cap1, e = .returned (.slice a1 n1 cap1) ∧ n1 ≤ 1000 ∧ ResAt Pt.cs 3 46 w' w.heap.size a1 n1 cap1 (laidJ l at' m)) ∧ Below w.heap.size w w' := by
  have h16 : n ≤ 16 := by rw [← h.len]; exact (partsOkB_all hok).1
  have h16' : n' ≤ 16 := by rw [← h'.len]; exact (partsOkB_all hok').1
  have hs : Hid (∀ k, 0 ≤ sumN (l.take k) ∧ sumN (l.take k) ≤ 100) := sums_of hok
  have hs' : Hid (∀ k, 0 ≤ sumN (m.take k) ∧ sumN (m.take k) ≤ 100) := sums_of hok'
  have h100 := (partsOkB_all hok).2.2
  have hnn := sumN_nonneg l (partsOkB_all hok).2.1
  have h100' := (partsOkB_all hok').2.2
  have hnn' := sumN_nonneg m (partsOkB_all hok').2.1
  have hho := holes_of hok
  by_cases hgt : sumN l < at'
  · have hll : Hid (laidJ l at' m = joinL (joinL (addL (joinL [] (slp 0 (sumN l) 0 l)) ⟨0, 0, at' - sumN l⟩) m) (joinL [] (slp (sumN l) (sumN l) 0 l))) := by
      show _ = _; simp only [laidJ, hgt, if_true]; rw [Int.min_eq_right (by omega), Int.min_eq_left (by omega)]
    have hgt2 : ¬ at' + sumN m < sumN l := by omega
    go_enter Tryz.func124, Tryz.ntmps124
    go_wp2_with fail
    refine (spec_l2Len a n cap l _ h (by omega) hs.out).mono ?_
    rintro e w1 ⟨rfl, rfl⟩
    go_wp2_with fail
    refine (spec_l2Slice a n cap l 0 (sumN l) _ h h16 hho (by omega) (by omega) (by omega) (by omega)).mono ?_
    rintro e w2 ⟨⟨a2, n2, cap2, rfl, hn2, R2⟩, hB2⟩
    go_wp2_with fail
    refine (spec_l2Add a2 n2 cap2 _ ⟨0, 0, at' - sumN l⟩ _ R2.sl (by omega) R2.arg).mono ?_
    rintro e w3 ⟨⟨a3, n3, cap3, rfl, R3⟩, hB3'⟩
    have hal := addL_res R3.sl.len R2.sl.len
    have hB3 := chain hB2 hB3'
    go_wp2_with fail
    refine (spec_l2Join a3 n3 cap3 _ a' n' cap' m _ R3.sl (by omega) R3.arg (h'.below hB3) (by omega)).mono ?_
    rintro e w4 ⟨⟨a4, n4, cap4, rfl, hn4, R4⟩, hB4'⟩
    have hB4 := chain hB3 hB4'
    go_wp2_with fail
    refine (spec_l2Len a' n' cap' m _ (h'.below hB4) (by omega) hs'.out).mono ?_
    rintro e w5 ⟨rfl, rfl⟩
    go_wp2_with fail
    refine (spec_l2Slice a n cap l (sumN l) (sumN l) _ (h.below hB4) h16 hho (by omega) (by omega) (by omega) (by omega)).mono ?_
    rintro e w6 ⟨⟨a6, n6, cap6, rfl, hn6, R6⟩, hB6'⟩
    have R6b := R4.below hB6'
    have hB6 := chain hB4 hB6'
    go_wp2_with fail
    refine (spec_l2Join a4 n4 cap4 _ a6 n6 cap6 _ _ R6b.sl (by omega) R6b.arg R6.sl (by omega)).mono ?_
    rintro e w7 ⟨⟨a7, n7, cap7, rfl, hn7, R7⟩, hB7'⟩
    have hB7 := chain hB6 hB7'
    go_wp2
    go_returns
    exact ⟨⟨a7, n7, cap7, rfl, by omega, by rw [hll.out]; exact R7.mono hB6.size⟩, hB7⟩
  · by_cases hm2 : at' + sumN m < sumN l
    · have hll : Hid (laidJ l at' m = joinL (joinL (joinL [] (slp 0 at' 0 l)) m) (joinL [] (slp (at' + sumN m) (sumN l) 0 l))) := by
        show _ = _; simp only [laidJ, hgt, if_false]; rw [Int.min_eq_left (by omega), Int.min_eq_right (by omega)]
      go_enter Tryz.func124, Tryz.ntmps124
      go_wp2_with fail
      refine (spec_l2Len a n cap l _ h (by omega) hs.out).mono ?_
      rintro e w1 ⟨rfl, rfl⟩
      go_wp2_with fail
      refine (spec_l2Slice a n cap l 0 at' _ h h16 hho (by omega) (by omega) (by omega) (by omega)).mono ?_
      rintro e w2 ⟨⟨a3, n3, cap3, rfl, hn3, R3⟩, hB3⟩
      go_wp2_with fail
      refine (spec_l2Join a3 n3 cap3 _ a' n' cap' m _ R3.sl (by omega) R3.arg (h'.below hB3) (by omega)).mono ?_
      rintro e w4 ⟨⟨a4, n4, cap4, rfl, hn4, R4⟩, hB4'⟩
      have hB4 := chain hB3 hB4'
      go_wp2_with fail
      refine (spec_l2Len a' n' cap' m _ (h'.below hB4) (by omega) hs'.out).mono ?_
      rintro e w5 ⟨rfl, rfl⟩
      go_wp2_with fail
      refine (spec_l2Slice a n cap l (at' + sumN m) (sumN l) _ (h.below hB4) h16 hho (by omega) (by omega) (by omega) (by omega)).mono ?_
      rintro e w6 ⟨⟨a6, n6, cap6, rfl, hn6, R6⟩, hB6'⟩
      have R6b := R4.below hB6'
      have hB6 := chain hB4 hB6'
      go_wp2_with fail
      refine (spec_l2Join a4 n4 cap4 _ a6 n6 cap6 _ _ R6b.sl (by omega) R6b.arg R6.sl (by omega)).mono ?_
      rintro e w7 ⟨⟨a7, n7, cap7, rfl, hn7, R7⟩, hB7'⟩
      have hB7 := chain hB6 hB7'
      go_wp2
      go_returns
      exact ⟨⟨a7, n7, cap7, rfl, by omega, by rw [hll.out]; exact R7.mono hB6.size⟩, hB7⟩
    · have hll : Hid (laidJ l at' m = joinL (joinL (joinL [] (slp 0 at' 0 l)) m) (joinL [] (slp (sumN l) (sumN l) 0 l))) := by
        show _ = _; simp only [laidJ, hgt, if_false]; rw [Int.min_eq_left (by omega), Int.min_eq_left (by omega)]
      go_enter Tryz.func124, Tryz.ntmps124
      go_wp2_with fail
      refine (spec_l2Len a n cap l _ h (by omega) hs.out).mono ?_
      rintro e w1 ⟨rfl, rfl⟩
      go_wp2_with fail
      refine (spec_l2Slice a n cap l 0 at' _ h h16 hho (by omega) (by omega) (by omega) (by omega)).mono ?_
      rintro e w2 ⟨⟨a3, n3, cap3, rfl, hn3, R3⟩, hB3⟩
      go_wp2_with fail
      refine (spec_l2Join a3 n3 cap3 _ a' n' cap' m _ R3.sl (by omega) R3.arg (h'.below hB3) (by omega)).mono ?_
      rintro e w4 ⟨⟨a4, n4, cap4, rfl, hn4, R4⟩, hB4'⟩
      have hB4 := chain hB3 hB4'
      go_wp2_with fail
      refine (spec_l2Len a' n' cap' m _ (h'.below hB4) (by omega) hs'.out).mono ?_
      rintro e w5 ⟨rfl, rfl⟩
      go_wp2_with fail
      refine (spec_l2Slice a n cap l (sumN l) (sumN l) _ (h.below hB4) h16 hho (by omega) (by omega) (by omega) (by omega)).mono ?_
      rintro e w6 ⟨⟨a6, n6, cap6, rfl, hn6, R6⟩, hB6'⟩
      have R6b := R4.below hB6'
      have hB6 := chain hB4 hB6'
      go_wp2_with fail
      refine (spec_l2Join a4 n4 cap4 _ a6 n6 cap6 _ _ R6b.sl (by omega) R6b.arg R6.sl (by omega)).mono ?_
      rintro e w7 ⟨⟨a7, n7, cap7, rfl, hn7, R7⟩, hB7'⟩
      have hB7 := chain hB6 hB7'
      go_wp2
      go_returns
      exact ⟨⟨a7, n7, cap7, rfl, by omega, by rw [hll.out]; exact R7.mono hB6.size⟩, hB7⟩
end Go.Proofs.YtnjefbkhibfgmaaGreat
namespace Go.Proofs.YtnjefbkhibfgmaaGreat
open Go.RowKit Go.BigFrame
theorem dataOkB_pos {d : ByteArray} (h : dataOkB d = true) : 1 ≤ d.size := by simp [dataOkB] at h; omega
theorem xgo_lift_none {size : Int} : ∀ {l : List Ex} {next addr : Int}, xgo size next l = true → addr < next → liftL addr l = l
  | [], _, _, _, _ => rfl
  | e :: r, next, addr, h, ha => by
    simp only [xgo, Bool.and_eq_true, decide_eq_true_eq] at h
    obtain ⟨⟨⟨h1, h2⟩, h3⟩, h4⟩ := h
    have hr := xgo_lift_none h4 (show addr < e.a + e.d.size by omega)
    have hne : (e.a == addr) = false := beq_eq_false_iff_ne.2 (by omega)
    simp only [liftL, List.filter_cons, hne, Bool.not_false, if_true] at hr ⊢
    rw [hr]
theorem SlAt.take {α : Type} {cs : α → List Value} {sz : Nat} {w : World} {a : Option Addr} {n : Nat} {l : List α} (h : SlAt cs sz w a n l) {j : Nat} (hj : j ≤ n) : SlAt cs sz w a j (l.take j) :=
  ⟨by rw [List.length_take, h.len]; omega, fun i x hx => by
    rw [List.getElem?_take] at hx
    split at hx
    · exact h.cell i x hx
    · cases hx⟩
theorem SlAt.drop {α : Type} {cs : α → List Value} {sz : Nat} {w : World} {b o : Nat} {n : Nat} {l : List α} (h : SlAt cs sz w (some ⟨b, o, none⟩) n l) (j : Nat) : SlAt cs sz w (some ⟨b, o + j * sz, none⟩) (n - j) (l.drop j) :=
  ⟨by rw [List.length_drop, h.len], fun i x hx => by
    rw [List.getElem?_drop] at hx
    obtain ⟨b', o', he, hc⟩ := h.cell _ _ hx
    simp at he
    obtain ⟨rfl, rfl⟩ := he
    refine ⟨b, _, rfl, fun u v hv => ?_⟩
    have := hc u v hv
    rw [Nat.add_mul] at this
    rw [← this]
    congr 2
    omega⟩
end Go.Proofs.YtnjefbkhibfgmaaGreat
namespace Go.Proofs.YtnjefbkhibfgmaaGreat
open Go.RowKit Go.BigFrame
def cntA (addr : Int) : List Ex → Nat
  | [] => 0
  | e :: r => if e.a < addr then cntA addr r + 1 else 0
def withE (l : List Ex) (x : Ex) : List Ex := l.take (cntA x.a l) ++ [x] ++ l.drop (cntA x.a l)
theorem slice_end {w : World} {b o n : Nat} {l : List Ex} (h : ExsAt w (some ⟨b, o, none⟩) n l) (j cap : Nat) (hj : j ≤ n) (hc : n ≤ cap) :
    ExsAt w (if cap = j then some ⟨b, o, none⟩ else some ⟨b, o + j * 2, none⟩) (n - j) (l.drop j) := by
  split
  · rw [List.drop_of_length_le (by rw [h.len]; omega)]
    exact ⟨by simp; omega, fun i x hx => by simp at hx⟩
  · exact h.drop j
end Go.Proofs.YtnjefbkhibfgmaaGreat
namespace Go.Proofs.YtnjefbkhibfgmaaGreat
open Go.RowKit
def placedO (size : Int) (l : List Ex) (d : ByteArray) : Option (List Ex × Int) :=
  if spaceOkB size l = true ∧ dataOkB d = true ∧ l.length ≠ 60 then ((ggo size 1 l).find? (fun x => decide ((d.size : Int) ≤ x.2))).map (fun x => (withE l ⟨x.1, d⟩, x.1)) else none
def pgoM (size m : Int) : Nat → Int → List Ex → Option (Nat × Int)
  | k, next, [] => if m ≤ size + 1 - next then some (k, next) else none
  | k, next, e :: r => if m ≤ e.a - next then some (k, next) else pgoM size m (k + 1) (e.a + e.d.size) r
theorem pgoM_find {size m : Int} (hm : 1 ≤ m) : ∀ {L : List Ex} {next : Int} (k : Nat), xgo size next L = true →
    ((ggo size next L).find? (fun x => decide (m ≤ x.2))).map (·.1) = (pgoM size m k next L).map (·.2)
  | [], next, k, _ => by
    rw [ggo, pgoM]
    by_cases h : m ≤ size + 1 - next
    · rw [if_pos (show next ≤ size by omega), if_pos h]; simp [h]
    · rw [if_neg h]
      split
      · simp [h]
      · rfl
  | e :: r, next, k, hx => by
    simp only [xgo, Bool.and_eq_true, decide_eq_true_eq] at hx
    obtain ⟨⟨⟨h1, h2⟩, h3⟩, h4⟩ := hx
    have ih := pgoM_find hm (k + 1) h4
    rw [ggo, pgoM]
    by_cases h : m ≤ e.a - next
    · rw [if_pos (show next < e.a by omega), if_pos h]; simp [h]
    · rw [if_neg h, ← ih]
      split
      · simp [h]
      · simp
theorem cnt_skip {size : Int} : ∀ {L : List Ex} {next : Int}, xgo size next L = true → ∀ addr, addr ≤ next → cntA addr L = 0
  | [], _, _, _, _ => rfl
  | e :: r, next, hx, addr, ha => by
    simp only [xgo, Bool.and_eq_true, decide_eq_true_eq] at hx
    rw [cntA, if_neg (by omega)]
theorem pgoM_cnt {size m : Int} (hm : 1 ≤ m) : ∀ {L : List Ex} {next : Int} (k : Nat), xgo size next L = true → ∀ j nx, pgoM size m k next L = some (j, nx) → next ≤ nx ∧ j = k + cntA nx L
  | [], next, k, _, j, nx, h => by
    rw [pgoM] at h
    split at h
    · cases h; exact ⟨Int.le_refl _, rfl⟩
    · cases h
  | e :: r, next, k, hx, j, nx, h => by
    have hx0 := hx
    simp only [xgo, Bool.and_eq_true, decide_eq_true_eq] at hx
    obtain ⟨⟨⟨h1, h2⟩, h3⟩, h4⟩ := hx
    rw [pgoM] at h
    split at h
    · cases h; exact ⟨Int.le_refl _, by rw [cnt_skip hx0 _ (Int.le_refl _)]; rfl⟩
    · obtain ⟨q1, q2⟩ := pgoM_cnt hm (k + 1) h4 j nx h
      have hp := dataOkB_pos h1
      refine ⟨by omega, ?_⟩
      rw [cntA, if_pos (by omega)]; omega
def placedM (size : Int) (l : List Ex) (d : ByteArray) : Option (List Ex × Int) :=
  if spaceOkB size l = true ∧ dataOkB d = true ∧ l.length ≠ 60 then (pgoM size d.size 0 1 l).map (fun x => (l.take x.1 ++ [⟨x.2, d⟩] ++ l.drop x.1, x.2)) else none
theorem placedM_eq (size : Int) (l : List Ex) (d : ByteArray) : placedM size l d = placedO size l d := by
  unfold placedM placedO
  by_cases h : spaceOkB size l = true ∧ dataOkB d = true ∧ l.length ≠ 60
  · rw [if_pos h, if_pos h]
    obtain ⟨h1, h2, h3⟩ := h
    obtain ⟨_, _, _, hx⟩ := ok_parts h1
    have hd := dataOkB_pos h2
    have e1 := pgoM_find (m := d.size) (by omega) 0 hx
    cases hp : pgoM size d.size 0 1 l with
    | none =>
      rw [hp] at e1
      cases hf : (ggo size 1 l).find? (fun x => decide ((d.size : Int) ≤ x.2)) with
      | none => rfl
      | some y => rw [hf] at e1; cases e1
    | some x =>
      obtain ⟨j, nx⟩ := x
      obtain ⟨q1, q2⟩ := pgoM_cnt (by omega) 0 hx j nx hp
      rw [hp] at e1
      cases hf : (ggo size 1 l).find? (fun x => decide ((d.size : Int) ≤ x.2)) with
      | none => rw [hf] at e1; cases e1
      | some y =>
        rw [hf] at e1
        simp at e1
        simp only [Option.map_some, withE]
        rw [e1, show cntA nx l = j by omega]
  · rw [if_neg h, if_neg h]
end Go.Proofs.YtnjefbkhibfgmaaGreat
