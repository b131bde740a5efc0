/- Blocks of the call's own: what they hold, and that a store into one leaves the others. Appending to a slice of the call's own: lists of elements of several cells. Appending one list behind another one: as a step of the walk, and as a step of a region that draws its order. Files and ops of a disk, as they lie in memory. The parts: partOk, goesOn, PartsOk of the program: each returns what the plain function gives, and turns nothing that was there. Plain facts on the functions over lists of parts. The parts, as the model has them, and the laws' own helpers for parts. The extents: dataOk and SpaceOk of the program, l1Plain and SpaceOk of the model. The model's SpaceOk; the laws' sizes, copies and comparisons of lists of extents. -/
import Derived.Test.YtpobgjkmcmkkeaaG01
import Derived.Deep.RegionLaw
import Derived.Laws.AppendOwnNone
import Derived.Test.YtpobgjkmcmkkeaaProg
namespace Go.Proofs.Ytpobgjkmcmkkeaa
open Go.RowKit

/-- Block b is a row of these cells, none frozen. -/
def Blk (w : World) (b : Nat) (c : Array Value) (t : TypeId) : Prop := w.heap[b]? = some (.cells c t)

theorem Blk.lt {w : World} {b : Nat} {c : Array Value} {t : TypeId} (h : Blk w b c t) : b < w.heap.size := (Array.getElem?_eq_some_iff.1 h).1
theorem Blk.cell {w : World} {b : Nat} {c : Array Value} {t : TypeId} (h : Blk w b c t) (i : Nat) : w.cell? ⟨b, i, none⟩ = c[i]? := by
  unfold Blk at h; simp [World.cell?, h]
theorem Blk.frozen {w : World} {b : Nat} {c : Array Value} {t : TypeId} (h : Blk w b c t) (i : Nat) : w.frozen? ⟨b, i, none⟩ = false := by
  unfold Blk at h; simp [World.frozen?, h]
theorem Blk.has {w : World} {b : Nat} {c : Array Value} {t : TypeId} (h : Blk w b c t) {i : Nat} (hi : i < c.size) : ∃ v, w.cell? ⟨b, i, none⟩ = some v := ⟨c[i], by rw [h.cell]; simp [hi]⟩
theorem Blk.new (w : World) (c : Array Value) (t : TypeId) : Blk (w.alloc (.cells c t)) w.heap.size c t := heap_alloc_new w _
theorem Blk.below {w w' : World} {b : Nat} {c : Array Value} {t : TypeId} (h : Blk w b c t) (hb : Below w.heap.size w w') : Blk w' b c t := by
  unfold Blk; rw [hb.block b h.lt]; exact h
theorem Blk.grown {w w' : World} {b : Nat} {c : Array Value} {t : TypeId} {r : Nat} (h : Blk w b c t) (hg : w.grownBy w' (some r)) (hr : b ≠ r) : Blk w' b c t := by
  unfold Blk; rw [hg.block b h.lt (by simpa using hr)]; exact h
theorem Blk.set {w : World} {b : Nat} {c : Array Value} {t : TypeId} (h : Blk w b c t) (i : Nat) (v : Value) : Blk (w.setCell ⟨b, i, none⟩ v) b (c.setIfInBounds i v) t := by
  unfold Blk at *; simp [World.setCell, Array.getElem?_modify, h]
theorem Blk.alloc {w : World} {b : Nat} {c : Array Value} {t : TypeId} (h : Blk w b c t) (o : Obj) : Blk (w.alloc o) b c t := h.below ((Below.refl _ _).alloc (Nat.le_refl _) _)
theorem Blk.drew {w : World} {b : Nat} {c : Array Value} {t : TypeId} (h : Blk w b c t) : Blk w.drew b c t := h

/-- A store into block b turns no other. -/
theorem grown_set {w0 w : World} {b : Nat} (h : w0.grownBy w (some b)) (i : Nat) (v : Value) : w0.grownBy (w.setCell ⟨b, i, none⟩ v) (some b) :=
  ⟨h.os, h.tape, h.output, by simpa [World.setCell] using h.size, fun k hk hne => by
    rw [Below.heap_setCell _ _ _ _ (by simpa using hne)]; exact h.block k hk hne⟩
theorem grown_below {w0 w w' : World} {b : Nat} (h : w0.grownBy w (some b)) (hb : Below w.heap.size w w') : w0.grownBy w' (some b) :=
  ⟨hb.os.trans h.os, hb.tape.trans h.tape, hb.output.trans h.output, Nat.le_trans h.size hb.size, fun k hk hne => by
    rw [hb.block k (Nat.lt_of_lt_of_le hk h.size)]; exact h.block k hk hne⟩
theorem grown_trans {w0 w w' : World} {b : Nat} (h : w0.grownBy w (some b)) (hb : w.grownBy w' (some b)) : w0.grownBy w' (some b) :=
  ⟨hb.os.trans h.os, hb.tape.trans h.tape, hb.output.trans h.output, Nat.le_trans h.size hb.size, fun k hk hne => by
    rw [hb.block k (Nat.lt_of_lt_of_le hk h.size) hne]; exact h.block k hk hne⟩
/-- What turns one block that is new turns nothing old. -/
theorem below_grown {w w1 w' : World} {b : Nat} (hb : Below w.heap.size w w1) (hg : w1.grownBy w' (some b)) (hn : w.heap.size ≤ b) : Below w.heap.size w w' :=
  hb.grown hg hb.size (fun k e => by cases e; exact hn)

/-- Block b, which is the call's own, begins with the list l, n elements of sz cells each. -/
structure OwnAt {α : Type} (cs : α → List Value) (sz : Nat) (t : TypeId) (w : World) (b : Nat) (n : Nat) (l : List α) : Prop where
  len : l.length = n
  blk : ∃ c, Blk w b c t ∧ n * sz ≤ c.size ∧ ∀ i x, l[i]? = some x → ∀ j v, (cs x)[j]? = some v → c[i * sz + j]? = some v

theorem OwnAt.sl {α : Type} {cs : α → List Value} {sz : Nat} {t : TypeId} {w : World} {b n : Nat} {l : List α} (h : OwnAt cs sz t w b n l) : SlAt cs sz w (some ⟨b, 0, none⟩) n l := by
  obtain ⟨c, hb, _, hc⟩ := h.blk
  exact ⟨h.len, fun i x hx => ⟨b, 0, rfl, fun j v hv => by rw [hb.cell, Nat.zero_add]; exact hc i x hx j v hv⟩⟩
theorem OwnAt.below {α : Type} {cs : α → List Value} {sz : Nat} {t : TypeId} {w w' : World} {b n : Nat} {l : List α} (h : OwnAt cs sz t w b n l) (hb : Below w.heap.size w w') : OwnAt cs sz t w' b n l := by
  obtain ⟨c, hc, r⟩ := h.blk
  exact ⟨h.len, c, hc.below hb, r⟩
theorem OwnAt.grown {α : Type} {cs : α → List Value} {sz : Nat} {t : TypeId} {w w' : World} {b n r : Nat} {l : List α} (h : OwnAt cs sz t w b n l) (hg : w.grownBy w' (some r)) (hr : b ≠ r) : OwnAt cs sz t w' b n l := by
  obtain ⟨c, hc, q⟩ := h.blk
  exact ⟨h.len, c, hc.grown hg hr, q⟩
theorem OwnAt.lt {α : Type} {cs : α → List Value} {sz : Nat} {t : TypeId} {w : World} {b n : Nat} {l : List α} (h : OwnAt cs sz t w b n l) : b < w.heap.size := by
  obtain ⟨c, hc, _⟩ := h.blk
  exact hc.lt

/-- A slice in a block other than the one that was written. -/
theorem SlAt.grown {α : Type} {cs : α → List Value} {sz : Nat} {w w' : World} {a : Option Addr} {n r : Nat} {l : List α} (h : SlAt cs sz w a n l) (hg : w.grownBy w' (some r)) (hr : ∀ ad, a = some ad → ad.block ≠ r) : SlAt cs sz w' a n l :=
  ⟨h.len, fun i x hx => by
    obtain ⟨b, o, ha, hc⟩ := h.cell i x hx
    exact ⟨b, o, ha, fun j v hv => hg.cell (hc j v hv) (by have := hr _ ha; simpa using this)⟩⟩
end Go.Proofs.Ytpobgjkmcmkkeaa
namespace Go.Proofs.Ytpobgjkmcmkkeaa
open Go.RowKit

theorem flat_len {α : Type} {cs : α → List Value} {sz : Nat} (hsz : ∀ x, (cs x).length = sz) (l : List α) : (l.flatMap cs).length = l.length * sz := by
  induction l with
  | nil => simp
  | cons x r ih => simp [ih, hsz, Nat.add_mul]; omega

theorem flat_at {α : Type} {cs : α → List Value} {sz : Nat} (hsz : ∀ x, (cs x).length = sz) (l : List α) : ∀ {i j : Nat} {x : α} {v : Value}, l[i]? = some x → (cs x)[j]? = some v → (l.flatMap cs)[i * sz + j]? = some v := by
  induction l with
  | nil => intro i j x v h; simp at h
  | cons y r ih =>
    intro i j x v hx hv
    have hj : j < sz := by have := (List.getElem?_eq_some_iff.1 hv).1; rw [hsz] at this; exact this
    rw [List.flatMap_cons]
    cases i with
    | zero =>
      simp at hx
      subst hx
      rw [Nat.zero_mul, Nat.zero_add, List.getElem?_append_left (by rw [hsz]; exact hj)]
      exact hv
    | succ i =>
      simp at hx
      rw [List.getElem?_append_right (by rw [hsz, Nat.add_mul]; omega), hsz]
      have e : (i + 1) * sz + j - sz = i * sz + j := by rw [Nat.add_mul]; omega
      rw [e]
      exact ih hx hv

theorem flat_inv {α : Type} {cs : α → List Value} {sz : Nat} (hsz : ∀ x, (cs x).length = sz) (l : List α) : ∀ {t : Nat} {v : Value}, (l.flatMap cs)[t]? = some v → ∃ i x j, l[i]? = some x ∧ (cs x)[j]? = some v ∧ t = i * sz + j := by
  induction l with
  | nil => intro t v h; simp at h
  | cons y r ih =>
    intro t v h
    rw [List.flatMap_cons] at h
    by_cases ht : t < sz
    · rw [List.getElem?_append_left (by rw [hsz]; exact ht)] at h
      exact ⟨0, y, t, rfl, h, by omega⟩
    · rw [List.getElem?_append_right (by rw [hsz]; omega), hsz] at h
      obtain ⟨i, x, j, h1, h2, h3⟩ := ih h
      exact ⟨i + 1, x, j, by simpa using h1, h2, by rw [Nat.add_mul]; omega⟩

/-- The cells of such a slice, one behind the other. -/
theorem SlAt.src {α : Type} {cs : α → List Value} {sz : Nat} (hsz : ∀ x, (cs x).length = sz) {w : World} {b o n : Nat} {l : List α} (h : SlAt cs sz w (some ⟨b, o, none⟩) n l) :
    ∀ j u, (l.flatMap cs)[j]? = some u → w.cell? ((⟨b, o, none⟩ : Addr).add j) = some u := by
  intro t u hu
  obtain ⟨i, x, j, h1, h2, rfl⟩ := flat_inv hsz l hu
  obtain ⟨b', o', ha, hc⟩ := h.cell i x h1
  obtain ⟨rfl, rfl⟩ : b = b' ∧ o = o' := by simpa using ha
  rw [Addr.add_lit, ← Nat.add_assoc]
  exact hc j u h2

/-- An answer: nil, or a slice at the beginning of a block of the call's own. -/
structure ResAt {α : Type} (cs : α → List Value) (sz : Nat) (t : TypeId) (w : World) (B : Nat) (a : Option Addr) (n cap : Nat) (l : List α) : Prop where
  sl : SlAt cs sz w a n l
  own : (a = none ∧ n = 0 ∧ cap = 0) ∨ ∃ b, a = some ⟨b, 0, none⟩ ∧ B ≤ b ∧ n ≤ cap ∧ cap ≤ maxLen ∧ ∃ c, Blk w b c t ∧ c.size = cap * sz ∧ c.toList.take (n * sz) = l.flatMap cs

theorem ResAt.below {α : Type} {cs : α → List Value} {sz : Nat} {t : TypeId} {w w' : World} {B n cap : Nat} {a : Option Addr} {l : List α} (h : ResAt cs sz t w B a n cap l) (hb : Below w.heap.size w w') : ResAt cs sz t w' B a n cap l := by
  refine ⟨h.sl.below hb, ?_⟩
  rcases h.own with h0 | ⟨b, ha, hB, h1, h2, c, hc, q⟩
  · exact .inl h0
  · exact .inr ⟨b, ha, hB, h1, h2, c, hc.below hb, q⟩
theorem ResAt.mono {α : Type} {cs : α → List Value} {sz : Nat} {t : TypeId} {w : World} {B B' n cap : Nat} {a : Option Addr} {l : List α} (h : ResAt cs sz t w B a n cap l) (hb : B' ≤ B) : ResAt cs sz t w B' a n cap l := by
  refine ⟨h.sl, ?_⟩
  rcases h.own with h0 | ⟨b, ha, hB, q⟩
  · exact .inl h0
  · exact .inr ⟨b, ha, by omega, q⟩
/-- As the append laws want it. -/
theorem ResAt.row {α : Type} {cs : α → List Value} {sz : Nat} {t : TypeId} (hsz : ∀ x, (cs x).length = sz) {w : World} {B n cap : Nat} {a : Option Addr} {l : List α} (h : ResAt cs sz t w B a n cap l) : w.ownsRow B t sz (.slice a n cap) n (l.flatMap cs) := by
  refine ⟨by rw [flat_len hsz, h.sl.len], ?_⟩
  rcases h.own with ⟨rfl, rfl, rfl⟩ | ⟨b, rfl, hB, h1, h2, c, hc, hs, ht⟩
  · exact .inl ⟨rfl, rfl⟩
  · exact .inr ⟨b, cap, c, rfl, hB, hc, h1, h2, hs, ht⟩
theorem res_of_row {α : Type} {cs : α → List Value} {sz : Nat} {t : TypeId} (hsz : ∀ x, (cs x).length = sz) {w : World} {B n : Nat} {v : Value} {l : List α} (hn : l.length = n) (h : w.ownsRow B t sz v n (l.flatMap cs)) :
    ∃ a cap, v = .slice a n cap ∧ ResAt cs sz t w B a n cap l := by
  obtain ⟨_, h⟩ := h
  rcases h with ⟨rfl, rfl⟩ | ⟨g, cap, cur, rfl, hB, hh, h1, h2, hs, ht⟩
  · exact ⟨none, 0, rfl, ⟨hn, fun i x hx => by rw [List.eq_nil_of_length_eq_zero hn] at hx; simp at hx⟩, .inl ⟨rfl, rfl, rfl⟩⟩
  · refine ⟨some ⟨g, 0, none⟩, cap, rfl, ⟨hn, fun i x hx => ⟨g, 0, rfl, fun j u hu => ?_⟩⟩, .inr ⟨g, rfl, hB, h1, h2, cur, hh, hs, ht⟩⟩
    have hb : Blk w g cur t := hh
    rw [hb.cell, Nat.zero_add]
    have hf := flat_at hsz l hx hu
    rw [← ht] at hf
    have hlt : i * sz + j < n * sz := by
      have := (List.getElem?_eq_some_iff.1 hf).1
      simp at this
      omega
    rw [List.getElem?_take_of_lt hlt] at hf
    simpa using hf

theorem ResAt.block {α : Type} {cs : α → List Value} {sz : Nat} {t : TypeId} {w : World} {B n cap : Nat} {a : Option Addr} {l : List α} (h : ResAt cs sz t w B a n cap l) : ∀ ad, a = some ad → B ≤ ad.block ∧ ad.block < w.heap.size := by
  intro ad ha
  rcases h.own with ⟨rfl, _⟩ | ⟨b, rfl, hB, _, _, c, hc, _⟩
  · cases ha
  · cases ha
    exact ⟨hB, hc.lt⟩

theorem pcs_len (p : Pt) : p.cs.length = 3 := rfl
theorem ecs_len (p : Ex) : p.cs.length = 2 := rfl
theorem ics_len (x : Int) : [Value.int .i64 x].length = 1 := rfl
theorem pcs_one (l : List Pt) : ∀ u ∈ l.flatMap Pt.cs, u.oneCell' = true := by
  intro u hu
  obtain ⟨p, _, hp⟩ := List.mem_flatMap.1 hu
  simp [Pt.cs] at hp
  rcases hp with rfl | rfl | rfl <;> rfl
theorem ecs_one (l : List Ex) : ∀ u ∈ l.flatMap Ex.cs, u.oneCell' = true := by
  intro u hu
  obtain ⟨p, _, hp⟩ := List.mem_flatMap.1 hu
  simp [Ex.cs] at hp
  rcases hp with rfl | rfl <;> rfl
end Go.Proofs.Ytpobgjkmcmkkeaa
namespace Go.Proofs.Ytpobgjkmcmkkeaa
open Go.RowKit

/-- append(d, s...): d is the call's own, s whatever slice. -/
theorem wp_app {α : Type} {cs : α → List Value} {size : Nat} {P : Program} {o : Oper} {a : Act} {w : World} {K : Act → World → Prop} {Q : Exit → Act → World → Prop}
    (s x : Operand) (t : TypeId) (ho : o.op = .call { callee := .builtin .append, args := #[s, x], argTypes := #[t, t] })
    (B : Nat) (e : TypeId) (i : TypeInfo) (z : Value) (bytes : Nat) (ht : P.underlying t = some (.slice e)) (hi : P.info? e = some i) (hz : i.zero = some z) (hsize : i.size = size) (hby : i.bytes = bytes) (hzs : z.cells.size = size) (hpos : 0 < size)
    (hsz : ∀ y, (cs y).length = size) (hone : ∀ (l : List α), ∀ u ∈ l.flatMap cs, u.oneCell' = true)
    (da : Option Addr) (dn dcap : Nat) (ld : List α) (hs : a.eval s = .slice da dn dcap) (hd : ResAt cs size e w B da dn dcap ld)
    (sa : Option Addr) (sn scap : Nat) (ls : List α) (hx : a.eval x = .slice sa sn scap) (hsrc : SlAt cs size w sa sn ls) (hspot : ∀ ad, sa = some ad → ad.spot = none) (hnone : sa = none → scap = 0)
    (tot : Nat) (htot : dn + sn = tot) (h63 : tot ≤ maxLen) (hbytes : tot * bytes ≤ 140737488355328) (hbase : B ≤ w.heap.size)
    (h : ∀ a' cap' w', ResAt cs size e w' B a' tot cap' (ld ++ ls) → w.grownBy w' (Value.ownBlock (.slice da dn dcap)) → K (a.put o.dst (.slice a' tot cap')) w') : o.wp P a w K Q := by
  subst htot
  have hrow := hd.row hsz
  have hlen : (ld ++ ls).length = dn + sn := by rw [List.length_append, hd.sl.len, hsrc.len]
  cases sa with
  | none =>
    have h0 : sn = 0 := by
      cases ls with
      | nil => rw [← hsrc.len]; rfl
      | cons y r => obtain ⟨b, o', hb, _⟩ := hsrc.cell 0 y rfl; cases hb
    obtain rfl := h0
    obtain rfl := hnone rfl
    have hl0 : ls = [] := List.eq_nil_of_length_eq_zero hsrc.len
    subst hl0
    have hrun := run_append_owned_none (P := P) w B t o.type e i size ht hi (.slice da dn dcap) dn (ld.flatMap cs) hrow
    unfold Oper.wp
    simp [execOp, ho, resolve, invoke, builtin, hs, hx, hrun, Result.andThen]
    exact h da dcap w (by simpa using hd) (World.grownBy.refl _ _)
  | some ad =>
    obtain ⟨b, off, spot⟩ := ad
    have := hspot _ rfl
    simp only at this
    subst this
    refine wp_append_own w s x t ho B e i z size bytes ht hi hz hsize hby hzs hpos (.slice da dn dcap) dn (ld.flatMap cs) hs hrow ⟨b, off, none⟩ sn scap (ls.flatMap cs) hx (by rw [flat_len hsz, hsrc.len]) (SlAt.src hsz hsrc) (hone ls) h63 hbytes hbase ?_
    intro v' w' hrow' hg _
    rw [← List.flatMap_append] at hrow'
    obtain ⟨a', cap', rfl, hres⟩ := res_of_row hsz hlen hrow'
    exact h a' cap' w' hres hg

/-- The same as a step of a region that draws its order. -/
theorem step_app {P : Program} {ops : Array Oper} {o : Oper} {a : Act} {w : World} {K : Act → World → Prop} {Q : Exit → Act → World → Prop} {E : Prop} (hg : o.guard = none) (h : o.wp P a w K Q) :
    if Region.wanted o (yielded ops a.tmps) = true then Oper.wp P o a w K Q else E := by
  have hw : Region.wanted o (yielded ops a.tmps) = true := by simp [Region.wanted, hg]
  rw [if_pos hw]; exact h

theorem wpList_app {P : Program} {ops : Array Oper} {rest : List Oper} {o : Oper} {a : Act} {w : World} {Q : Exit → Act → World → Prop} (hg : o.guard = none)
    (h : ∀ K : Act → World → Prop, (∀ a w, wpList P ops Q rest a w → K a w) → o.wp P a w K Q) : wpList P ops Q (o :: rest) a w := wpList_plain hg h

theorem res_empty {α : Type} {cs : α → List Value} {sz : Nat} {t : TypeId} {w : World} {B b : Nat} (hb : Blk w b #[] t) (hB : B ≤ b) : ResAt cs sz t w B (some ⟨b, 0, none⟩) 0 0 ([] : List α) :=
  ⟨⟨rfl, fun i x hx => by simp at hx⟩, .inr ⟨b, rfl, hB, Nat.le_refl _, Nat.zero_le _, #[], hb, by simp, by simp⟩⟩
theorem res_nil {α : Type} {cs : α → List Value} {sz : Nat} {t : TypeId} {w : World} {B : Nat} : ResAt cs sz t w B none 0 0 ([] : List α) :=
  ⟨⟨rfl, fun i x hx => by simp at hx⟩, .inl ⟨rfl, rfl, rfl⟩⟩
theorem ResAt.grown {α : Type} {cs : α → List Value} {sz : Nat} {t : TypeId} {w w' : World} {B n cap r : Nat} {a : Option Addr} {l : List α} (h : ResAt cs sz t w B a n cap l) (hg : w.grownBy w' (some r)) (hr : ∀ ad, a = some ad → ad.block ≠ r) : ResAt cs sz t w' B a n cap l := by
  refine ⟨h.sl.grown hg hr, ?_⟩
  rcases h.own with h0 | ⟨b, ha, hB, h1, h2, c, hc, q⟩
  · exact .inl h0
  · exact .inr ⟨b, ha, hB, h1, h2, c, hc.grown hg (hr _ ha), q⟩
theorem ResAt.alloc {α : Type} {cs : α → List Value} {sz : Nat} {t : TypeId} {w : World} {B n cap : Nat} {a : Option Addr} {l : List α} (h : ResAt cs sz t w B a n cap l) (o : Obj) : ResAt cs sz t (w.alloc o) B a n cap l := h.below ((Below.refl _ _).alloc (Nat.le_refl _) _)
theorem sl_one {w : World} {b : Nat} {p : Pt} (h0 : w.cell? ⟨b, 0, none⟩ = some (.int .i64 p.a)) (h1 : w.cell? ⟨b, 1, none⟩ = some (.int .i64 p.f)) (h2 : w.cell? ⟨b, 2, none⟩ = some (.int .i64 p.n)) : PtsAt w (some ⟨b, 0, none⟩) 1 [p] := by
  refine ⟨rfl, fun i x hx => ⟨b, 0, rfl, fun j v hv => ?_⟩⟩
  have hi : i = 0 := by have := (List.getElem?_eq_some_iff.1 hx).1; simp at this; exact this
  subst hi
  simp at hx
  subst hx
  match j, hv with
  | 0, hv => obtain rfl := Option.some.inj hv; exact h0
  | 1, hv => obtain rfl := Option.some.inj hv; exact h1
  | 2, hv => obtain rfl := Option.some.inj hv; exact h2
  | j + 3, hv => simp [Pt.cs] at hv
theorem own_ne {a : Option Addr} {n cap x : Nat} (h : ∀ ad, a = some ad → x < ad.block) : some x ≠ Value.ownBlock (.slice a n cap) := by
  cases a with
  | none => simp [Value.ownBlock]
  | some ad => have := h ad rfl; simp [Value.ownBlock]; omega
theorem own_ge {a : Option Addr} {n cap B : Nat} (h : ∀ ad, a = some ad → B ≤ ad.block) : ∀ k, Value.ownBlock (.slice a n cap) = some k → B ≤ k := by
  intro k hk
  cases a with
  | none => simp [Value.ownBlock] at hk
  | some ad => have := h ad rfl; simp [Value.ownBlock] at hk; omega
/-- A new block with the cells of one part. -/
theorem Blk.new' (w : World) (c : Array Value) (t : TypeId) (b : Nat) (hb : b = w.heap.size) : Blk (w.alloc (.cells c t)) b c t := by subst hb; exact Blk.new _ _ _
theorem sl_new' (w : World) (p : Pt) (t : TypeId) (b : Nat) (hb : b = w.heap.size) : PtsAt (w.alloc (.cells #[.int .i64 p.a, .int .i64 p.f, .int .i64 p.n] t)) (some ⟨b, 0, none⟩) 1 [p] := by subst hb; exact sl_one (by simp) (by simp) (by simp)
theorem sl_new (w : World) (p : Pt) (t : TypeId) : PtsAt (w.alloc (.cells #[.int .i64 p.a, .int .i64 p.f, .int .i64 p.n] t)) (some ⟨w.heap.size, 0, none⟩) 1 [p] := sl_one (by simp) (by simp) (by simp)
end Go.Proofs.Ytpobgjkmcmkkeaa
namespace Go.Proofs.Ytpobgjkmcmkkeaa
open Go.RowKit

structure Fl where
  nm : ByteArray
  d : ByteArray

def Fl.cs (p : Fl) : List Value := [.string p.nm, .string p.d]
abbrev FlsAt (w : World) (a : Option Addr) (n : Nat) (l : List Fl) : Prop := SlAt Fl.cs 2 w a n l
theorem flcs_len (p : Fl) : p.cs.length = 2 := rfl
theorem flcs_one (l : List Fl) : ∀ u ∈ l.flatMap Fl.cs, u.oneCell' = true := by
  intro u hu
  obtain ⟨p, _, hp⟩ := List.mem_flatMap.1 hu
  simp [Fl.cs] at hp
  rcases hp with rfl | rfl <;> rfl
theorem fl_at {w : World} {a : Option Addr} {n : Nat} {l : List Fl} (h : FlsAt w a n l) {k : Nat} (hk : k < n) :
    ∃ b o p, a = some ⟨b, o, none⟩ ∧ l[k]? = some p ∧ w.cell? ⟨b, o + k * 2, none⟩ = some (.string p.nm) ∧ w.cell? ⟨b, o + k * 2 + 1, none⟩ = some (.string p.d) := by
  have hl : k < l.length := by rw [h.len]; exact hk
  have hx : l[k]? = some l[k] := by simp [hl]
  obtain ⟨b, o, ha, hc⟩ := h.cell k _ hx
  exact ⟨b, o, _, ha, hx, hc 0 _ rfl, hc 1 _ rfl⟩
/-- Its texts are texts. -/
def StrF (p : Fl) : Prop := p.nm.size ≤ 9223372036854775807 ∧ p.d.size ≤ 9223372036854775807
def StrsF (l : List Fl) : Prop := ∀ p ∈ l, StrF p

structure Dp where
  k : Int
  nm : ByteArray
  tt : ByteArray
  d : ByteArray

def Dp.cs (p : Dp) : List Value := [.int .i64 p.k, .string p.nm, .string p.tt, .string p.d]
abbrev DpsAt (w : World) (a : Option Addr) (n : Nat) (l : List Dp) : Prop := SlAt Dp.cs 4 w a n l
theorem dpcs_len (p : Dp) : p.cs.length = 4 := rfl
theorem dpcs_one (l : List Dp) : ∀ u ∈ l.flatMap Dp.cs, u.oneCell' = true := by
  intro u hu
  obtain ⟨p, _, hp⟩ := List.mem_flatMap.1 hu
  simp [Dp.cs] at hp
  rcases hp with rfl | rfl | rfl | rfl <;> rfl
theorem dp_at {w : World} {a : Option Addr} {n : Nat} {l : List Dp} (h : DpsAt w a n l) {k : Nat} (hk : k < n) :
    ∃ b o p, a = some ⟨b, o, none⟩ ∧ l[k]? = some p ∧ w.cell? ⟨b, o + k * 4, none⟩ = some (.int .i64 p.k) ∧ w.cell? ⟨b, o + k * 4 + 1, none⟩ = some (.string p.nm) ∧ w.cell? ⟨b, o + k * 4 + 2, none⟩ = some (.string p.tt) ∧ w.cell? ⟨b, o + k * 4 + 3, none⟩ = some (.string p.d) := by
  have hl : k < l.length := by rw [h.len]; exact hk
  have hx : l[k]? = some l[k] := by simp [hl]
  obtain ⟨b, o, ha, hc⟩ := h.cell k _ hx
  exact ⟨b, o, _, ha, hx, hc 0 _ rfl, hc 1 _ rfl, hc 2 _ rfl, hc 3 _ rfl⟩
/-- Its texts are texts. -/
def StrD (p : Dp) : Prop := p.nm.size ≤ 9223372036854775807 ∧ p.tt.size ≤ 9223372036854775807 ∧ p.d.size ≤ 9223372036854775807
def StrsD (l : List Dp) : Prop := ∀ p ∈ l, StrD p

end Go.Proofs.Ytpobgjkmcmkkeaa
namespace Go.Proofs.Ytpobgjkmcmkkeaa
open Go.RowKit

end Go.Proofs.Ytpobgjkmcmkkeaa
namespace Go.Proofs.Ytpobgjkmcmkkeaa
open Go.RowKit

/-- The model's PartsOk, its rounds. -/
def sgo : Option Pt → Int → List Pt → Bool
  | _, s, [] => decide (s ≤ 100)
  | none, s, p :: r => (partOkB p && decide (p.n ≤ 100)) && sgo (some p) (s + p.n) r
  | some q, s, p :: r => (partOkB p && decide (p.n ≤ 100)) && !goesOnB q p && sgo (some p) (s + p.n) r

theorem sgo_over (l : List Pt) : ∀ (q : Option Pt) (s : Int), 100 < s → sgo q s l = false := by
  induction l with
  | nil => intro q s h; cases q <;> simp [sgo] <;> omega
  | cons p r ih =>
    intro q s h
    cases hp : partOkB p
    · cases q <;> simp [sgo, hp]
    · have := partOkB_pos hp
      cases q <;> simp [sgo, ih _ (s + p.n) (by omega)]

theorem sgo_pgo (l : List Pt) : ∀ (q : Option Pt) (s : Int), 0 ≤ s → s ≤ 100 → sgo q s l = pgo q (100 - s) l := by
  induction l with
  | nil => intro q s h0 h1; cases q <;> simp [sgo, pgo] <;> omega
  | cons p r ih =>
    intro q s h0 h1
    cases hp : partOkB p
    · cases q <;> simp [sgo, pgo, hp]
    · have hpos := partOkB_pos hp
      by_cases hle : p.n ≤ 100 - s
      · have e := ih (some p) (s + p.n) (by omega) (by omega)
        have e2 : 100 - (s + p.n) = 100 - s - p.n := by omega
        have h100 : p.n ≤ 100 := by omega
        rw [e2] at e
        cases q <;> simp [sgo, pgo, hp, e, hle, h100]
      · have e := sgo_over r (some p) (s + p.n) (by omega)
        cases q <;> simp [sgo, pgo, e, hle]

theorem pgo_all (l : List Pt) : ∀ (q : Option Pt) (s : Int), 0 ≤ s → pgo q s l = true → (∀ p ∈ l, partOkB p = true) ∧ sumN l ≤ s := by
  induction l with
  | nil => intro q s h0 _; exact ⟨by simp, by simpa [sumN] using h0⟩
  | cons p r ih =>
    intro q s h0 h
    have hh : partOkB p = true ∧ p.n ≤ s ∧ pgo (some p) (s - p.n) r = true := by
      cases q
      · simp [pgo] at h; exact ⟨h.1.1, h.1.2, h.2⟩
      · simp [pgo] at h; exact ⟨h.1.1.1, h.1.1.2, h.2⟩
    obtain ⟨a, b⟩ := ih (some p) (s - p.n) (by omega) hh.2.2
    refine ⟨?_, by simp [sumN]; omega⟩
    intro x hx
    rcases List.mem_cons.1 hx with rfl | hx
    · exact hh.1
    · exact a x hx

theorem sumN_nonneg (l : List Pt) (h : ∀ p ∈ l, partOkB p = true) : 0 ≤ sumN l := by
  induction l with
  | nil => simp [sumN]
  | cons p r ih =>
    have h1 := partOkB_pos (h p (by simp))
    have h2 := ih (fun x hx => h x (by simp [hx]))
    simp [sumN]; omega

theorem sumN_append (a b : List Pt) : sumN (a ++ b) = sumN a + sumN b := by
  induction a with
  | nil => simp [sumN]
  | cons p r ih => simp [sumN, ih]; omega

theorem take_at {α : Type} {l : List α} {k : Nat} {x : α} (h : l[k]? = some x) : l.take (k + 1) = l.take k ++ [x] := by
  rw [List.take_add_one, h]; rfl

theorem sumN_take {l : List Pt} {k : Nat} {p : Pt} (h : l[k]? = some p) : sumN (l.take (k + 1)) = sumN (l.take k) + p.n := by
  rw [take_at h, sumN_append]; simp [sumN]

theorem partsOkB_all {l : List Pt} (h : partsOkB l = true) : l.length ≤ 16 ∧ (∀ p ∈ l, partOkB p = true) ∧ sumN l ≤ 100 := by
  simp [partsOkB] at h
  exact ⟨h.1, pgo_all l none 100 (by omega) h.2⟩

theorem sumN_take_bd {l : List Pt} (h : ∀ p ∈ l, partOkB p = true) (k : Nat) : 0 ≤ sumN (l.take k) ∧ sumN (l.take k) ≤ sumN l := by
  have h1 := sumN_nonneg (l.take k) (fun p hp => h p (List.mem_of_mem_take hp))
  have h2 := sumN_nonneg (l.drop k) (fun p hp => h p (List.mem_of_mem_drop hp))
  have h3 := sumN_append (l.take k) (l.drop k)
  rw [List.take_append_drop] at h3
  omega
end Go.Proofs.Ytpobgjkmcmkkeaa
namespace Go.Proofs.Ytpobgjkmcmkkeaa
open Go.RowKit

theorem spec_l1In (n lo hi : Int) (w : World) :
    Calls Try.prog 73 #[.int .i64 n, .int .i64 lo, .int .i64 hi] w fun e w' => e = .returned (.bool (decide (lo ≤ n) && decide (n ≤ hi))) ∧ w' = w := by
  go_enter Try.func73, Try.ntmps73
  go_wp2
  all_goals go_returns
  all_goals go_light
  all_goals refine ⟨?_, rfl⟩
  all_goals simp_all
  all_goals try omega

def eqPtB (p q : Pt) : Bool := p.a == q.a && p.f == q.f && p.n == q.n

end Go.Proofs.Ytpobgjkmcmkkeaa
namespace Go.Proofs.Ytpobgjkmcmkkeaa
open Go.RowKit Go.BigFrame

def charB (c : UInt8) : Bool := decide (32 ≤ (c.toNat : Int)) && decide ((c.toNat : Int) ≤ 126)
def plainB (d : ByteArray) : Bool := d.data.toList.all charB
def dataOkB (d : ByteArray) : Bool := decide (1 ≤ d.size) && decide (d.size ≤ 20) && plainB d

theorem str_drop (s : ByteArray) (k : Nat) (h : k < s.size) : s.data.toList.drop k = s[k] :: s.data.toList.drop (k + 1) := by
  rw [List.drop_eq_getElem_cons (by simpa using h)]; rfl

/-- SpaceOk's rounds: the size, the first byte that is free, the extents to come. -/
def xgo (size : Int) : Int → List Ex → Bool
  | _, [] => true
  | next, e :: r => dataOkB e.d && decide (next ≤ e.a) && decide (e.a ≤ size + 1 - e.d.size) && xgo size (e.a + e.d.size) r
def spaceOkB (size : Int) (l : List Ex) : Bool := decide (1 ≤ size) && decide (size ≤ 400) && decide (l.length ≤ 60) && xgo size 1 l

/-- The strings of a list are as short as strings are. -/
def Strs (l : List Ex) : Prop := ∀ e ∈ l, e.d.size ≤ 9223372036854775807

theorem Strs.at {l : List Ex} (h : Strs l) {k : Nat} {e : Ex} (he : l[k]? = some e) : e.d.size ≤ 9223372036854775807 := h e (List.mem_of_getElem? he)

end Go.Proofs.Ytpobgjkmcmkkeaa
namespace Go.Proofs.Ytpobgjkmcmkkeaa
open Go.RowKit Go.BigFrame

theorem dataOkB_eq (d : ByteArray) : dataOkB d = (decide (1 ≤ d.size) && (plainB d && decide (d.size ≤ 20))) := by
  unfold dataOkB; cases plainB d <;> cases decide (1 ≤ d.size) <;> cases decide (d.size ≤ 20) <;> rfl

def eqExB (p q : Ex) : Bool := p.a == q.a && p.d.toList == q.d.toList

/-- What is left of a budget behind an extent, -1 where it is used up. -/
def szE (left : Int) (p : Ex) : Int := if left - p.d.size < 0 then -1 else left - p.d.size

end Go.Proofs.Ytpobgjkmcmkkeaa
