/- What is done to a pool, as plain functions. -/
import Derived.Test.YtnjefbkhibfgmaaGreatLDAskedx16
import Derived.Test.YtnjefbkhibfgmaaGreatLDAskedx13
import Derived.Test.YtnjefbkhibfgmaaGreatLDAskedx15
import Derived.Test.YtnjefbkhibfgmaaGreatProg
import Derived.Test.YtnjefbkhibfgmaaGreatLDAskedx14
namespace Go.Proofs.YtnjefbkhibfgmaaGreat
open Go.RowKit
def setS (x : It) (st : List It × Bool) (y : It) : List It × Bool :=
  ((if (!st.2 && !(bl y.nm.toList x.nm.toList)) = true then st.1 ++ [x] else st.1) ++ (if (y.nm.toList == x.nm.toList) = true then [] else [y]), st.2 || !(bl y.nm.toList x.nm.toList))
def setE (x : It) (st : List It × Bool) : List It := if st.2 = true then st.1 else st.1 ++ [x]
def setK (x : It) (l : List It) (k : Nat) : List It × Bool := (l.take k).foldl (setS x) ([], false)
def setI (x : It) (l : List It) : List It := setE x (l.foldl (setS x) ([], false))
theorem setK_succ {x : It} {l : List It} {k : Nat} {y : It} (h : l[k]? = some y) : setK x l (k + 1) = setS x (setK x l k) y := by
  unfold setK
  rw [List.take_add_one, h]
  simp
theorem setK_all {x : It} {l : List It} {n : Nat} (h : l.length = n) : setE x (setK x l n) = setI x l := by
  unfold setK setI
  rw [List.take_of_length_le (Nat.le_of_eq h)]
theorem setF_len (x : It) : ∀ (l : List It) (st : List It × Bool), (l.foldl (setS x) st).1.length + (if (l.foldl (setS x) st).2 = true then 0 else 1) ≤ st.1.length + (if st.2 = true then 0 else 1) + l.length
  | [], st => Nat.le_refl _
  | y :: r, st => by
    have h := setF_len x r (setS x st y)
    rw [List.foldl_cons]
    have h2 : (setS x st y).1.length + (if (setS x st y).2 = true then 0 else 1) ≤ st.1.length + (if st.2 = true then 0 else 1) + 1 := by
      unfold setS
      obtain ⟨a, d⟩ := st
      cases d <;> cases bl y.nm.toList x.nm.toList <;> cases (y.nm.toList == x.nm.toList) <;> simp <;> omega
    simp only [List.length_cons]
    omega
theorem setI_len (x : It) (l : List It) : (setI x l).length ≤ l.length + 1 := by
  have h := setF_len x l ([], false)
  unfold setI setE
  split
  · rename_i hd; rw [if_pos hd] at h; simp at h; omega
  · rename_i hd; rw [if_neg hd] at h; simp at h ⊢; omega
theorem setF_mem (x : It) : ∀ (l : List It) (st : List It × Bool) (z : It), z ∈ (l.foldl (setS x) st).1 → z ∈ st.1 ∨ z = x ∨ z ∈ l
  | [], st, z, h => .inl h
  | y :: r, st, z, h => by
    rcases setF_mem x r _ z h with h | h | h
    · simp only [setS] at h
      rcases List.mem_append.1 h with h | h
      · split at h
        · rcases List.mem_append.1 h with h | h
          · exact .inl h
          · exact .inr (.inl (by simpa using h))
        · exact .inl h
      · split at h
        · cases h
        · exact .inr (.inr (by simp at h; simp [h]))
    · exact .inr (.inl h)
    · exact .inr (.inr (by simp [h]))
theorem setI_mem {x : It} {l : List It} {z : It} (h : z ∈ setI x l) : z = x ∨ z ∈ l := by
  unfold setI setE at h
  split at h
  · rcases setF_mem x l _ z h with h | h
    · cases h
    · exact h
  · rcases List.mem_append.1 h with h | h
    · rcases setF_mem x l _ z h with h | h
      · cases h
      · exact h
    · exact .inl (by simpa using h)
def NonN (l : List Pt) : Prop := ∀ p ∈ l, 0 ≤ p.a
theorem addL_nn {l : List Pt} {p : Pt} (h : NonN l) (hp : 0 ≤ p.a) : NonN (addL l p) := by
  unfold addL
  split
  · intro q hq; simp at hq; subst hq; exact hp
  · rename_i q hq
    have hm : q ∈ l := List.mem_of_getLast? hq
    split
    · intro z hz
      rcases List.mem_append.1 hz with hz | hz
      · exact h z (List.dropLast_subset l hz)
      · simp at hz; subst hz; exact h q hm
    · intro z hz
      rcases List.mem_append.1 hz with hz | hz
      · exact h z hz
      · simp at hz; subst hz; exact hp
theorem joinL_nn : ∀ {m l : List Pt}, NonN l → NonN m → NonN (joinL l m)
  | [], l, h, _ => h
  | p :: r, l, h, hm => joinL_nn (m := r) (addL_nn h (hm p (by simp))) (fun q hq => hm q (by simp [hq]))
theorem slp_nn {fr to : Int} : ∀ {l : List Pt} {st : Int}, NonN l → NonN (slp fr to st l)
  | [], _, _ => by intro q hq; simp [slp] at hq
  | p :: r, st, h => by
    have hr := slp_nn (fr := fr) (to := to) (l := r) (st := st + p.n) (fun q hq => h q (by simp [hq]))
    unfold slp
    split
    · intro q hq
      rcases List.mem_cons.1 hq with rfl | hq
      · unfold cutP; split
        · exact Int.le_refl _
        · exact h p (by simp)
      · exact hr q hq
    · exact hr
theorem nn_nil : NonN [] := fun p hp => by cases hp
theorem laidJ_nn {l m : List Pt} {at' : Int} (h : NonN l) (hm : NonN m) : NonN (laidJ l at' m) := by
  unfold laidJ
  refine joinL_nn (joinL_nn ?_ hm) (joinL_nn nn_nil (slp_nn h))
  split
  · exact addL_nn (joinL_nn nn_nil (slp_nn h)) (Int.le_refl _)
  · exact joinL_nn nn_nil (slp_nn h)
theorem nn_ok {l : List Pt} (h : partsOkB l = true) : NonN l := fun p hp => by
  have := (partsOkB_all h).2.1 p hp
  unfold partOkB at this
  split at this
  · rename_i h0; simp at h0; omega
  · simp at this; omega
def partsS (p : Po) (o : Opr) : Int × List Ex × List Pt :=
  let name := if o.k = 5 then o.to else o.vol
  let file := if o.k = 5 then o.into else o.file
  let was := partsO p.vs name file
  let ps := was.getD []
  if o.k = 2 then
    match placedO p.size p.ex o.data with
    | none => (5, p.ex, [])
    | some (l, a) => (0, l, laidJ ps o.at' [⟨a, 0, o.data.size⟩])
  else if o.k = 5 then
    match partsO p.vs o.vol o.file with
    | none => (3, p.ex, [])
    | some src => if o.fr + o.ln > sumN src then (3, p.ex, []) else (0, p.ex, laidJ ps o.at' (joinL [] (slp o.fr (o.fr + o.ln) 0 src)))
  else
    match was with
    | none => (3, p.ex, [])
    | some q => if o.k = 10 then (0, p.ex, laidJ q o.at' [⟨0, 0, o.ln⟩]) else if o.ln > sumN q then (0, p.ex, laidJ q (sumN q) [⟨0, 0, o.ln - sumN q⟩]) else (0, p.ex, joinL [] (slp 0 o.ln 0 q))
def fileS (p : Po) (o : Opr) : Int × Po :=
  let name := if o.k = 5 then o.to else o.vol
  let file := if o.k = 5 then o.into else o.file
  match volI p.vs name with
  | none => (3, p)
  | some i => match p.vs[i]? with
    | none => (3, p)
    | some v => if v.fx = true then (6, p) else
      let r := partsS p o
      if r.1 = 0 then (0, { p with ex := r.2.1, vs := p.vs.set i { v with its := setI ⟨file, r.2.2⟩ v.its } }) else (r.1, p)
def volS (p : Po) (o : Opr) : Int × Po :=
  match volI p.vs o.vol with
  | none => if o.k = 1 then (0, { p with vs := p.vs ++ [⟨p.next, o.vol, false, []⟩], next := p.next + 1 }) else (3, p)
  | some i => match p.vs[i]? with
    | none => (3, p)
    | some v =>
      if o.k = 1 then (4, p)
      else if o.k = 6 then (match volI p.vs o.to with | some _ => (4, p) | none => (0, { p with vs := p.vs ++ [⟨p.next, o.to, false, v.its⟩], next := p.next + 1 }))
      else if o.k = 7 then (0, { p with vs := p.vs.take i ++ p.vs.drop (i + 1) })
      else if o.k = 8 then (if v.fx = true then (6, p) else (0, { p with vs := p.vs.set i { v with fx := true } }))
      else if o.k = 4 then (if v.fx = true then (6, p) else match itI v.its o.file with | none => (3, p) | some k => (0, { p with vs := p.vs.set i { v with its := v.its.take k ++ v.its.drop (k + 1) } }))
      else (0, p)
def flushS (p : Po) : Po := { p with rf := sumC p.rf p.lt, lt := [], ex := p.ex.filter (fun e => (sumC p.rf p.lt).any (fun c => c.o.a == e.a)) }
def negC (l : List Ct) : List Ct := l.map (fun c => ⟨c.o, -c.n⟩)
def triedS (p : Po) (o : Opr) : Int × Po := if o.k = 2 ∨ o.k = 3 ∨ o.k = 5 ∨ o.k = 10 then fileS p o else volS p o
def lateS (p q : Po) : Po := { q with lt := q.lt ++ sumC (walkL q.vs) (negC (walkL p.vs)) }
def opS (p : Po) (o : Opr) : Int × Po :=
  if opB o = true then
    if o.k = 9 then (0, flushS p)
    else if (triedS p o).1 = 0 then (if poolB (lateS p (triedS p o).2) = true then (0, lateS p (triedS p o).2) else (5, p)) else ((triedS p o).1, p)
  else (2, p)
def doneS (p : Po) (o : Opr) : Int × Po := if poolB p = true then opS p o else (1, ⟨0, 0, [], [], [], []⟩)
end Go.Proofs.YtnjefbkhibfgmaaGreat
namespace Go.Proofs.YtnjefbkhibfgmaaGreat
open Go Go.RowKit Go.BigFrame
def PoolV (v : Value) : Prop := ∃ s n ea en ec va vn vc ra rn rc la ln lc, v = .agg #[.int .i64 s, .int .i64 n, .slice ea en ec, .slice va vn vc, .slice ra rn rc, .slice la ln lc]
theorem pv_mk (s n : Int) (ea : Option Addr) (en ec : Nat) (va : Option Addr) (vn vc : Nat) (ra : Option Addr) (rn rc : Nat) (la : Option Addr) (ln lc : Nat) : PoolV (.agg #[.int .i64 s, .int .i64 n, .slice ea en ec, .slice va vn vc, .slice ra rn rc, .slice la ln lc]) := ⟨s, n, ea, en, ec, va, vn, vc, ra, rn, rc, la, ln, lc, rfl⟩
def FrV (w w' : World) : Prop := ∀ k c t, Blk w k c t → t ≠ 41 → Blk w' k c t
theorem FrV.of {w w' : World} (h : Below w.heap.size w w') : FrV w w' := fun _ _ _ hb _ => hb.below h
theorem results_cell_tmp {P : Program} {fn : Func} {p q : Tmp} {ty : TypeId} (h : fn.results = #[.cell p ty, .tmp q]) (tmps : Array Value) (w : World) (g : Nat) (t : TypeId) (cs : Array Value) (fr : Nat × Nat) (d : TypeDesc) (v : Value)
    (hp : tmps.getD p undef = .pointer (some ⟨g, 0, none⟩)) (hg : w.heap[g]? = some (.cells cs t fr))
    (hu : P.underlying ty = some d) (hd : (match d with | .struct _ | .array _ _ => true | _ => false) = true) (hi : (P.info? ty).map (·.size) = some cs.size) (hq : tmps.getD q undef = v) :
    (results fn tmps).run P w = .ok (.tuple #[.agg cs, v]) w := by
  have hp' : tmps[p]?.getD undef = .pointer (some ⟨g, 0, none⟩) := by simpa using hp
  have hq' : tmps[q]?.getD undef = v := by simpa using hq
  simp [results, h, hp', hq', asAddr, run_loadVar_row w g t ty cs fr d hg hu hd hi]
theorem ResAt.addr {α : Type} {cs : α → List Value} {sz : Nat} {t : TypeId} {w : World} {B n cap : Nat} {a : Option Addr} {l : List α} (h : ResAt cs sz t w B a n cap l) (hn : 0 < n) : ∃ b, a = some ⟨b, 0, none⟩ ∧ B ≤ b ∧ n ≤ cap ∧ cap ≤ 9223372036854775807 := by
  rcases h.own with ⟨_, h0, _⟩ | ⟨b, h1, h2, h3, h4, _⟩
  · omega
  · exact ⟨b, h1, h2, h3, by unfold maxLen at h4; omega⟩
theorem ResAt.cellAt {α : Type} {cs : α → List Value} {sz : Nat} {t : TypeId} {w : World} {B n cap b i j : Nat} {l : List α} {x : α} {v : Value} (h : ResAt cs sz t w B (some ⟨b, 0, none⟩) n cap l) (hi : l[i]? = some x) (hj : (cs x)[j]? = some v) : w.cell? ⟨b, i * sz + j, none⟩ = some v := by
  obtain ⟨b', o', e, hc⟩ := h.sl.cell i x hi
  cases e
  have := hc j v hj
  rwa [Nat.zero_add] at this
theorem volI_lt {vs : List Vo} {s : ByteArray} {i : Nat} (h : volI vs s = some i) : i < vs.length := by
  unfold volI at h
  obtain ⟨h1, _⟩ := List.findIdx?_eq_some_iff_getElem.1 h
  exact h1
theorem itI_lt {l : List It} {s : ByteArray} {i : Nat} (h : itI l s = some i) : i < l.length := by
  unfold itI at h
  obtain ⟨h1, _⟩ := List.findIdx?_eq_some_iff_getElem.1 h
  exact h1
theorem sl_end {α : Type} {cs : α → List Value} {sz : Nat} {w : World} {b n : Nat} {l : List α} (h : SlAt cs sz w (some ⟨b, 0, none⟩) n l) (j cap : Nat) (hj : j ≤ n) (hc : n ≤ cap) : SlAt cs sz w (if cap = j then some ⟨b, 0, none⟩ else some ⟨b, 0 + j * sz, none⟩) (n - j) (l.drop j) := by
  by_cases hcj : cap = j
  · rw [if_pos hcj]
    have h0 : n - j = 0 := by omega
    rw [h0, List.drop_of_length_le (by rw [h.len]; omega)]
    exact ⟨rfl, fun i x hx => by simp at hx⟩
  · rw [if_neg hcj]
    exact h.drop j
set_option maxHeartbeats 4000000 in
set_option maxRecDepth 100000 in
theorem spec_l6Volume_gone (B : Nat) (hB0 : 0 < B) (v : Value) (p : Po) (o : Opr) (w : World) (h : PoolT B w v p) (hBw : B ≤ w.heap.size) (hd : DimP p) (hnx : 1 ≤ p.next ∧ p.next ≤ 1000000000) (hk : o.k ≠ 1) (hno : volI p.vs o.vol = none) :
    Calls Tryz.prog 109 #[v, .agg #[.int .i64 o.k, .string o.vol, .string o.file, .string o.to, .string o.into, .int .i64 o.at', .int .i64 o.fr, .int .i64 o.ln, .string o.data]] w fun e w' => (∃ v' c, e = .returned (.tuple #[v', .int .i64 c]) ∧ PoolV v' ∧ c = (volS p o).1 ∧ (c = 0 → PoolT B w' v' (volS p o).2)) ∧ Below B w w' ∧ FrV w w' := by
  obtain ⟨ea, en, ec, va, vn, vc, ra, rn, rc, la, ln, lc, rows, rfl, h1, ⟨h2, h3⟩, h4, h5, h6⟩ := h
  obtain ⟨z1, z2, z3, z4, z5, z6, z7, z8⟩ := hd
  have hV : VsAt B w va vn p.vs := h3.rows.vs h2
  rw [hV.len] at z3
  obtain ⟨size, next, ex, vs, rf, lt⟩ := p
  obtain ⟨k, vol, file, tt, into, at0, fr, ln0, data⟩ := o
  simp only at h1 h2 h3 h4 h5 hV z4 z3 hnx hk ⊢
  have _ := hB0
  have _ := hnx
  have _ := hBw
  have hlen : vs.length = vn := hV.len
  have hrl : rows.length = vn := h2.sl.len
  simp only at hno
  have hS : Hid (volS ⟨size, next, ex, vs, rf, lt⟩ ⟨k, vol, file, tt, into, at0, fr, ln0, data⟩ = (3, ⟨size, next, ex, vs, rf, lt⟩)) := by show _ = _; simp [volS, hno, hk]
  generalize volS ⟨size, next, ex, vs, rf, lt⟩ ⟨k, vol, file, tt, into, at0, fr, ln0, data⟩ = R at *
  have hk' : (k == 1) = false := beq_eq_false_iff_ne.2 hk
  go_enter Tryz.func109, Tryz.ntmps109
  go_wp2_with fail
  refine (spec_l4Find B size next ea en ec va vn vc ra rn rc la ln lc vs vol _ (hV.below (by go_grown)) z3).mono ?_
  rintro e w1 ⟨rfl, hB1⟩
  have C : Blk w1 w.heap.size #[.int .i64 size, .int .i64 next, .slice ea en ec, .slice va vn vc, .slice ra rn rc, .slice la ln lc] 28 := (((Blk.new w _ _).alloc _).alloc _).below hB1
  have O : Blk w1 (w.heap.size + 1) #[.int .i64 k, .string vol, .string file, .string tt, .string into, .int .i64 at0, .int .i64 fr, .int .i64 ln0, .string data] 102 := ((Blk.new' _ _ _ _ (by simp)).alloc _).below hB1
  have D : Blk w1 (w.heap.size + 2) #[.int .i64 0, .int .i64 0, .slice none 0 0, .slice none 0 0, .slice none 0 0, .slice none 0 0] 28 := (Blk.new' _ _ _ _ (by simp)).below hB1
  have hBw1 : Below w.heap.size w w1 := chain (by go_grown) hB1
  have hs1 : w.heap.size + 3 ≤ w1.heap.size := by have := hB1.size; simp at this; omega
  clear hB1
  obtain ⟨c0, c1, c2, c3, c4, c5⟩ := C.six'
  have o0 : w1.cell? ⟨w.heap.size + 1, 0, none⟩ = some (.int .i64 k) := O.cell 0
  have o1 : w1.cell? ⟨w.heap.size + 1, 1, none⟩ = some (.string vol) := O.cell 1
  have o2 : w1.cell? ⟨w.heap.size + 1, 2, none⟩ = some (.string file) := O.cell 2
  have o3 : w1.cell? ⟨w.heap.size + 1, 3, none⟩ = some (.string tt) := O.cell 3
  obtain ⟨x0, x1, x2, x3, x4, x5⟩ := D.six'
  have f0 := D.frozen 0
  have f1 := D.frozen 1
  have f2 := D.frozen 2
  have f3 := D.frozen 3
  have f4 := D.frozen 4
  have f5 := D.frozen 5
  rw [hno]
  simp only [idxV]
  go_wp2
  obtain ⟨W0, hg0⟩ := set6 D (.int .i64 size) (.int .i64 next) (.slice ea en ec) (.slice va vn vc) (.slice ra rn rc) (.slice la ln lc)
  have B8 := hBw1.grown hg0 hBw1.size (fun j e => by cases e; omega)
  generalize ((((((w1.setCell ⟨w.heap.size + 2, 0, none⟩ (.int .i64 size)).setCell ⟨w.heap.size + 2, 1, none⟩ (.int .i64 next)).setCell ⟨w.heap.size + 2, 2, none⟩ (.slice ea en ec)).setCell ⟨w.heap.size + 2, 3, none⟩ (.slice va vn vc)).setCell ⟨w.heap.size + 2, 4, none⟩ (.slice ra rn rc)).setCell ⟨w.heap.size + 2, 5, none⟩ (.slice la ln lc)) = W8 at *
  refine bodyPost_ret (results_cell_tmp rfl _ W8 (w.heap.size + 2) _ _ _ _ _ rfl W0 Tryz.underlying28 rfl (by kernel_rfl) rfl) rfl ?_
  exact ⟨⟨_, 3, rfl, pv_mk _ _ _ _ _ _ _ _ _ _ _ _ _ _, by rw [hS.out], fun h => absurd h (by omega)⟩, B8.mono hBw, FrV.of B8⟩
set_option maxHeartbeats 4000000 in
set_option maxRecDepth 100000 in
theorem spec_l6Volume_there (B : Nat) (hB0 : 0 < B) (v : Value) (p : Po) (o : Opr) (w : World) (h : PoolT B w v p) (hBw : B ≤ w.heap.size) (hd : DimP p) (hnx : 1 ≤ p.next ∧ p.next ≤ 1000000000) (hk : o.k = 1) (i : Nat) (hso : volI p.vs o.vol = some i) :
    Calls Tryz.prog 109 #[v, .agg #[.int .i64 o.k, .string o.vol, .string o.file, .string o.to, .string o.into, .int .i64 o.at', .int .i64 o.fr, .int .i64 o.ln, .string o.data]] w fun e w' => (∃ v' c, e = .returned (.tuple #[v', .int .i64 c]) ∧ PoolV v' ∧ c = (volS p o).1 ∧ (c = 0 → PoolT B w' v' (volS p o).2)) ∧ Below B w w' ∧ FrV w w' := by
  obtain ⟨ea, en, ec, va, vn, vc, ra, rn, rc, la, ln, lc, rows, rfl, h1, ⟨h2, h3⟩, h4, h5, h6⟩ := h
  obtain ⟨z1, z2, z3, z4, z5, z6, z7, z8⟩ := hd
  have hV : VsAt B w va vn p.vs := h3.rows.vs h2
  rw [hV.len] at z3
  obtain ⟨size, next, ex, vs, rf, lt⟩ := p
  obtain ⟨k, vol, file, tt, into, at0, fr, ln0, data⟩ := o
  simp only at h1 h2 h3 h4 h5 hV z4 z3 hnx hk ⊢
  have _ := hB0
  have _ := hnx
  have _ := hBw
  have hlen : vs.length = vn := hV.len
  have hrl : rows.length = vn := h2.sl.len
  subst hk
  simp only at hso
  have hi := volI_lt hso
  have hx : vs[i]? = some vs[i] := by simp [hi]
  have hip : (0 : Int) ≤ (i : Int) := by omega
  have hS : Hid (volS ⟨size, next, ex, vs, rf, lt⟩ ⟨1, vol, file, tt, into, at0, fr, ln0, data⟩ = (4, ⟨size, next, ex, vs, rf, lt⟩)) := by show _ = _; simp [volS, hso, hx]
  generalize volS ⟨size, next, ex, vs, rf, lt⟩ ⟨1, vol, file, tt, into, at0, fr, ln0, data⟩ = R at *
  go_enter Tryz.func109, Tryz.ntmps109
  go_wp2_with fail
  refine (spec_l4Find B size next ea en ec va vn vc ra rn rc la ln lc vs vol _ (hV.below (by go_grown)) z3).mono ?_
  rintro e w1 ⟨rfl, hB1⟩
  have C : Blk w1 w.heap.size #[.int .i64 size, .int .i64 next, .slice ea en ec, .slice va vn vc, .slice ra rn rc, .slice la ln lc] 28 := (((Blk.new w _ _).alloc _).alloc _).below hB1
  have O : Blk w1 (w.heap.size + 1) #[.int .i64 1, .string vol, .string file, .string tt, .string into, .int .i64 at0, .int .i64 fr, .int .i64 ln0, .string data] 102 := ((Blk.new' _ _ _ _ (by simp)).alloc _).below hB1
  have D : Blk w1 (w.heap.size + 2) #[.int .i64 0, .int .i64 0, .slice none 0 0, .slice none 0 0, .slice none 0 0, .slice none 0 0] 28 := (Blk.new' _ _ _ _ (by simp)).below hB1
  have hBw1 : Below w.heap.size w w1 := chain (by go_grown) hB1
  have hs1 : w.heap.size + 3 ≤ w1.heap.size := by have := hB1.size; simp at this; omega
  clear hB1
  obtain ⟨c0, c1, c2, c3, c4, c5⟩ := C.six'
  have o0 : w1.cell? ⟨w.heap.size + 1, 0, none⟩ = some (.int .i64 1) := O.cell 0
  have o1 : w1.cell? ⟨w.heap.size + 1, 1, none⟩ = some (.string vol) := O.cell 1
  have o2 : w1.cell? ⟨w.heap.size + 1, 2, none⟩ = some (.string file) := O.cell 2
  have o3 : w1.cell? ⟨w.heap.size + 1, 3, none⟩ = some (.string tt) := O.cell 3
  obtain ⟨x0, x1, x2, x3, x4, x5⟩ := D.six'
  have f0 := D.frozen 0
  have f1 := D.frozen 1
  have f2 := D.frozen 2
  have f3 := D.frozen 3
  have f4 := D.frozen 4
  have f5 := D.frozen 5
  rw [hso]
  simp only [idxV]
  go_wp2
  obtain ⟨W0, hg0⟩ := set6 D (.int .i64 size) (.int .i64 next) (.slice ea en ec) (.slice va vn vc) (.slice ra rn rc) (.slice la ln lc)
  have B8 := hBw1.grown hg0 hBw1.size (fun j e => by cases e; omega)
  generalize ((((((w1.setCell ⟨w.heap.size + 2, 0, none⟩ (.int .i64 size)).setCell ⟨w.heap.size + 2, 1, none⟩ (.int .i64 next)).setCell ⟨w.heap.size + 2, 2, none⟩ (.slice ea en ec)).setCell ⟨w.heap.size + 2, 3, none⟩ (.slice va vn vc)).setCell ⟨w.heap.size + 2, 4, none⟩ (.slice ra rn rc)).setCell ⟨w.heap.size + 2, 5, none⟩ (.slice la ln lc)) = W8 at *
  refine bodyPost_ret (results_cell_tmp rfl _ W8 (w.heap.size + 2) _ _ _ _ _ rfl W0 Tryz.underlying28 rfl (by kernel_rfl) rfl) rfl ?_
  exact ⟨⟨_, 4, rfl, pv_mk _ _ _ _ _ _ _ _ _ _ _ _ _ _, by rw [hS.out], fun h => absurd h (by omega)⟩, B8.mono hBw, FrV.of B8⟩
end Go.Proofs.YtnjefbkhibfgmaaGreat
namespace Go.Proofs.YtnjefbkhibfgmaaGreat
open Go Go.RowKit Go.BigFrame
theorem PoolT.tyP {B : Nat} {w w' : World} {v : Value} {p : Po} {row : Option Nat} (h : PoolT B w v p) (hg : w.grownBy w' row) (hr : RowTy w row 28) : PoolT B w' v p := by
  obtain ⟨ea, en, ec, va, vn, vc, ra, rn, rc, la, ln, lc, rows, hv, h1, ⟨h2, h3⟩, h4, h5, h6⟩ := h
  exact ⟨ea, en, ec, va, vn, vc, ra, rn, rc, la, ln, lc, rows, hv, h1.ty hg hr (by decide), ⟨h2.ty hg hr (by decide), h3.ty hg hr (by decide) (by decide)⟩, h4.ty hg hr (by decide), h5.ty hg hr (by decide), h6⟩
set_option maxHeartbeats 4000000 in
set_option maxRecDepth 100000 in
theorem spec_l6Volume_make (B : Nat) (hB0 : 0 < B) (v : Value) (p : Po) (o : Opr) (w : World) (h : PoolT B w v p) (hBw : B ≤ w.heap.size) (hd : DimP p) (hnx : 1 ≤ p.next ∧ p.next ≤ 1000000000) (hk : o.k = 1) (hno : volI p.vs o.vol = none) :
    Calls Tryz.prog 109 #[v, .agg #[.int .i64 o.k, .string o.vol, .string o.file, .string o.to, .string o.into, .int .i64 o.at', .int .i64 o.fr, .int .i64 o.ln, .string o.data]] w fun e w' => (∃ v' c, e = .returned (.tuple #[v', .int .i64 c]) ∧ PoolV v' ∧ c = (volS p o).1 ∧ (c = 0 → PoolT B w' v' (volS p o).2)) ∧ Below B w w' ∧ FrV w w' := by
  obtain ⟨ea, en, ec, va, vn, vc, ra, rn, rc, la, ln, lc, rows, rfl, h1, ⟨h2, h3⟩, h4, h5, h6⟩ := h
  obtain ⟨z1, z2, z3, z4, z5, z6, z7, z8⟩ := hd
  have hV : VsAt B w va vn p.vs := h3.rows.vs h2
  rw [hV.len] at z3
  obtain ⟨size, next, ex, vs, rf, lt⟩ := p
  obtain ⟨k, vol, file, tt, into, at0, fr, ln0, data⟩ := o
  simp only at h1 h2 h3 h4 h5 hV z4 z3 hnx hk ⊢
  have _ := hB0
  have _ := hnx
  have _ := hBw
  have hlen : vs.length = vn := hV.len
  have hrl : rows.length = vn := h2.sl.len
  subst hk
  simp only at hno
  have hS : Hid (volS ⟨size, next, ex, vs, rf, lt⟩ ⟨1, vol, file, tt, into, at0, fr, ln0, data⟩ = (0, ⟨size, next + 1, ex, vs ++ [⟨next, vol, false, []⟩], rf, lt⟩)) := by show _ = _; simp [volS, hno]
  generalize volS ⟨size, next, ex, vs, rf, lt⟩ ⟨1, vol, file, tt, into, at0, fr, ln0, data⟩ = R at *
  have hwr : IntKind.i64.wrap (next + 1) = next + 1 := by rw [IntKind.wrap_i64]; omega
  go_enter Tryz.func109, Tryz.ntmps109
  go_wp2_with fail
  refine (spec_l4Find B size next ea en ec va vn vc ra rn rc la ln lc vs vol _ (hV.below (by go_grown)) z3).mono ?_
  rintro e w1 ⟨rfl, hB1⟩
  have C : Blk w1 w.heap.size #[.int .i64 size, .int .i64 next, .slice ea en ec, .slice va vn vc, .slice ra rn rc, .slice la ln lc] 28 := (((Blk.new w _ _).alloc _).alloc _).below hB1
  have O : Blk w1 (w.heap.size + 1) #[.int .i64 1, .string vol, .string file, .string tt, .string into, .int .i64 at0, .int .i64 fr, .int .i64 ln0, .string data] 102 := ((Blk.new' _ _ _ _ (by simp)).alloc _).below hB1
  have D : Blk w1 (w.heap.size + 2) #[.int .i64 0, .int .i64 0, .slice none 0 0, .slice none 0 0, .slice none 0 0, .slice none 0 0] 28 := (Blk.new' _ _ _ _ (by simp)).below hB1
  have hBw1 : Below w.heap.size w w1 := chain (by go_grown) hB1
  have hs1 : w.heap.size + 3 ≤ w1.heap.size := by have := hB1.size; simp at this; omega
  clear hB1
  obtain ⟨c0, c1, c2, c3, c4, c5⟩ := C.six'
  have o0 : w1.cell? ⟨w.heap.size + 1, 0, none⟩ = some (.int .i64 1) := O.cell 0
  have o1 : w1.cell? ⟨w.heap.size + 1, 1, none⟩ = some (.string vol) := O.cell 1
  have o2 : w1.cell? ⟨w.heap.size + 1, 2, none⟩ = some (.string file) := O.cell 2
  have o3 : w1.cell? ⟨w.heap.size + 1, 3, none⟩ = some (.string tt) := O.cell 3
  obtain ⟨x0, x1, x2, x3, x4, x5⟩ := D.six'
  have f0 := D.frozen 0
  have f1 := D.frozen 1
  have f2 := D.frozen 2
  have f3 := D.frozen 3
  have f4 := D.frozen 4
  have f5 := D.frozen 5
  rw [hno]
  simp only [idxV]
  go_wp2_with (at_builtin; refine wpList_app rfl (fun K hK => wp_appV _ _ rfl B va vn vc rows rfl ((h2.below hBw1).alloc _) _ 1 1 [(⟨next, vol, false, none, 0, 0⟩ : VR)] rfl (sl_newVo _ (⟨next, vol, false, none, 0, 0⟩ : VR) _ _ (by simp)) (fun ad h => (by cases h; rfl)) (fun h => (by cases h)) (vn + 1) rfl (by omega) (by simp; omega) (fun a2 cap2 w2 R2 hg2 => hK _ _ ?_)); have hge2 : ∀ j, Value.ownBlock (.slice va vn vc) = some j → B ≤ j := own_ge fun ad had => (h2.block ad had).1; have ht2 := ((h2.below hBw1).alloc (.cells #[.int .i64 next, .string vol, .bool false, .slice none 0 0] 41)).rowTy (m := vn) (k := vc); have hs2 := hg2.size; have C2 := (C.alloc (.cells #[.int .i64 next, .string vol, .bool false, .slice none 0 0] 41)).ty hg2 ht2 (by decide); have D2 := (D.alloc (.cells #[.int .i64 next, .string vol, .bool false, .slice none 0 0] 41)).ty hg2 ht2 (by decide); have hB2 := ((hBw1.alloc hBw1.size (.cells #[.int .i64 next, .string vol, .bool false, .slice none 0 0] 41)).mono hBw).grown hg2 (by simp; omega) hge2; have P2 : PoolT B w2 (.agg #[.int .i64 size, .int .i64 (next + 1), .slice ea en ec, .slice a2 (vn + 1) cap2, .slice ra rn rc, .slice la ln lc]) ⟨size, next + 1, ex, vs ++ [⟨next, vol, false, []⟩], rf, lt⟩ := ⟨ea, en, ec, a2, vn + 1, cap2, ra, rn, rc, la, ln, lc, rows ++ [(⟨next, vol, false, none, 0, 0⟩ : VR)], rfl, ((h1.below hBw1).alloc (.cells #[.int .i64 next, .string vol, .bool false, .slice none 0 0] 41)).ty hg2 ht2 (by decide), ⟨R2, ((h3.below (hBw1.alloc hBw1.size (.cells #[.int .i64 next, .string vol, .bool false, .slice none 0 0] 41))).ty hg2 ht2 (by decide) (by decide)).snoc ⟨rfl, rfl, rfl, [], res_nil, RowsT.nil _ _⟩⟩, ((h4.below hBw1).alloc (.cells #[.int .i64 next, .string vol, .bool false, .slice none 0 0] 41)).ty hg2 ht2 (by decide), ((h5.below hBw1).alloc (.cells #[.int .i64 next, .string vol, .bool false, .slice none 0 0] 41)).ty hg2 ht2 (by decide), h6⟩; obtain ⟨y0, y1, y2, y3, y4, y5⟩ := C2.six'; obtain ⟨q0, q1, q2, q3, q4, q5⟩ := D2.six'; have g1 := C2.frozen 1; have g3 := C2.frozen 3; have m0 := D2.frozen 0; have m1 := D2.frozen 1; have m2 := D2.frozen 2; have m3 := D2.frozen 3; have m4 := D2.frozen 4; have m5 := D2.frozen 5)
  simp only [World.size_alloc] at hs2
  have hgC : w2.grownBy ((w2.setCell ⟨w.heap.size, 3, none⟩ (.slice a2 (vn + 1) cap2)).setCell ⟨w.heap.size, 1, none⟩ (.int .i64 (next + 1))) (some w.heap.size) := grown_set (gset w2 w.heap.size 3 (.slice a2 (vn + 1) cap2)) 1 (.int .i64 (next + 1))
  have D3 : Blk ((w2.setCell ⟨w.heap.size, 3, none⟩ (.slice a2 (vn + 1) cap2)).setCell ⟨w.heap.size, 1, none⟩ (.int .i64 (next + 1))) (w.heap.size + 2) _ _ := (hgC.block _ D2.lt (by simp only [ne_eq, Option.some.injEq]; omega)).trans D2
  obtain ⟨W0, hg0⟩ := set6 D3 (.int .i64 size) (.int .i64 (next + 1)) (.slice ea en ec) (.slice a2 (vn + 1) cap2) (.slice ra rn rc) (.slice la ln lc)
  have PF := (P2.tyP hgC (rowTy_blk C2)).tyP hg0 (rowTy_blk D3)
  have hs3 := hgC.size
  have B8 := (hB2.grown hgC (by omega) (fun j e => by cases e; omega)).grown hg0 (by omega) (fun j e => by cases e; omega)
  have FT := fun (k : Nat) (c : Array Value) (t : TypeId) (hb : Blk w k c t) (hne : t ≠ 41) => (((((hb.below hBw1).alloc (.cells #[.int .i64 next, .string vol, .bool false, .slice none 0 0] 41)).ty hg2 ht2 hne)).offB hgC (B := w.heap.size) (fun j e => by cases e; omega) hb.lt).offB hg0 (B := w.heap.size) (fun j e => by cases e; omega) hb.lt
  generalize ((((((((w2.setCell ⟨w.heap.size, 3, none⟩ (.slice a2 (vn + 1) cap2)).setCell ⟨w.heap.size, 1, none⟩ (.int .i64 (next + 1))).setCell ⟨w.heap.size + 2, 0, none⟩ (.int .i64 size)).setCell ⟨w.heap.size + 2, 1, none⟩ (.int .i64 (next + 1))).setCell ⟨w.heap.size + 2, 2, none⟩ (.slice ea en ec)).setCell ⟨w.heap.size + 2, 3, none⟩ (.slice a2 (vn + 1) cap2)).setCell ⟨w.heap.size + 2, 4, none⟩ (.slice ra rn rc)).setCell ⟨w.heap.size + 2, 5, none⟩ (.slice la ln lc)) = W8 at *
  refine bodyPost_ret (results_cell_tmp rfl _ W8 (w.heap.size + 2) _ _ _ _ _ rfl W0 Tryz.underlying28 rfl (by kernel_rfl) rfl) rfl ?_
  exact ⟨⟨_, 0, rfl, pv_mk _ _ _ _ _ _ _ _ _ _ _ _ _ _, by rw [hS.out], fun _ => by rw [hS.out]; exact PF⟩, B8, FT⟩
end Go.Proofs.YtnjefbkhibfgmaaGreat
