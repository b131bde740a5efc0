/- A map that the call itself has made, added to at a key by '+=' or '++': the entry, and the store into it, in whatever order with the look-up. The tally: a map from owners to counts. The tally: what it holds; counts added to it. Counts added to a tally. Counts sorted by their owners: what told's closure says, and what slices.SortFunc leaves. An answer of counts behind slices.SortFunc: the same counts, in order, in the same row. slices.SortFunc at an answer of counts. -/
import Derived.Maps.RangeWalk
import Derived.Maps.Views
import Derived.WideKeyEntry
import Derived.DeepKeys4
import Derived.Test.YtigldeccfpkdmaaGreatDoorProg
import Derived.Test.YtigldeccfpkdmaaGreatDoorCReadPoolx03
import Derived.Test.YtigldeccfpkdmaaGreatDoorCReadPoolx00
import Derived.Test.YtigldeccfpkdmaaGreatDoorCReadPoolx07
import Derived.Test.YtigldeccfpkdmaaGreatDoorCReadPoolx04
import Derived.Test.YtigldeccfpkdmaaGreatDoorCReadPoolx21
namespace Go.Proofs.YtigldeccfpkdmaaGreatDoor
open Go.ChangeMaps Go.MapKept Go.WideElems
open Go.Maps (Keyed)
/-- The entry at a key, made where there is none: as if what is there had been stored there. -/
theorem entry_stored {H : Type} {P : Program} {w : World} {t k e : TypeId} {R : Value → Option (DataW H × List MemPlace)} {b : Nat} {es : Array MapEntry} {clock : Nat} (K : WideMaps.KeyLaw P k) (ht : P.underlying t = some (.map k e)) {z : Value} (hz : ∀ u : World, (zeroValue e).run P u = .ok z u) (hb : w.heap[b]? = some (.map es clock)) (F : Fit P k R es clock)
    {key : Value} {kl : Lit} (hkey : keyOf P k key = some kl) :
    ∃ (v0 : Value) (st : Value) (w1 : World), (Instr.mapEntry t (.map (some b)) key).run P w = .ok (.tuple #[v0, st]) w1 ∧ (Instr.mapUpdate t (.map (some b)) key v0).run P w = .ok () w1 ∧ (Instr.lookup t (.map (some b)) key false).run P w = .ok v0 w := by
  rcases K.find w hkey es.toList F.keys with ⟨h1, h2⟩ | ⟨j, e0, h1, h2, h3⟩
  · refine ⟨z, goInt clock, setBlock w b (.map (es.push ⟨key, z, clock⟩) (clock + 1)), ?_, ?_, ?_⟩
    · simp [Instr.mapEntry, run_underlying ht, MapKept.run_getObj_map hb, K.check w false hkey, h1, hz, MapKept.run_setObj_map _ hb, Result.andThen, setBlock]
    · simp [Instr.mapUpdate, run_underlying ht, MapKept.run_getObj_map hb, K.check w false hkey, h1, MapKept.run_setObj_map _ hb, Result.andThen, setBlock]
    · simp [Instr.lookup, run_underlying ht, MapKept.run_getObj_map hb, K.check w _ hkey, h1, hz, Result.andThen]
  · have hj : es[j]? = some e0 := by simpa using h2
    have hsame : es.modify j (fun e => { e with key := key }) = es := by
      apply Array.ext'
      rw [Array.toList_modify, modify_eq_set _ _ _ _ h2]
      have : ({ e0 with key := key } : MapEntry) = e0 := by rw [← h3]
      rw [this]
      exact set_self _ _ _ h2
    have hsame2 : es.modify j (fun e' => { e' with key := key, val := e0.val }) = es := by
      apply Array.ext'
      rw [Array.toList_modify, modify_eq_set _ _ _ _ h2]
      have : ({ e0 with key := key, val := e0.val } : MapEntry) = e0 := by rw [← h3]
      rw [this]
      exact set_self _ _ _ h2
    refine ⟨e0.val, goInt e0.born, setBlock w b (.map es clock), ?_, ?_, ?_⟩
    · simp [Instr.mapEntry, run_underlying ht, MapKept.run_getObj_map hb, K.check w false hkey, h1, hj, h3, K.stays w hkey, hsame, MapKept.run_setObj_map _ hb, Result.andThen, setBlock]
    · simp [Instr.mapUpdate, run_underlying ht, MapKept.run_getObj_map hb, K.check w false hkey, h1, hj, h3, K.stays w hkey, hsame2, MapKept.run_setObj_map _ hb, Result.andThen, setBlock]
    · simp [Instr.lookup, run_underlying ht, MapKept.run_getObj_map hb, K.check w _ hkey, h1, Result.andThen]
theorem run_det {α : Type} {P : Program} {m : Sem α} {w : World} {x y : α} {u v : World} (h : m.run P w = .ok x u) (h' : m.run P w = .ok y v) : x = y ∧ u = v := by
  rw [h] at h'
  cases h'
  exact ⟨rfl, rfl⟩
theorem setBlock_twice (w : World) (b : Nat) (x y : Obj) : setBlock (setBlock w b x) b y = setBlock w b y := by
  simp [setBlock]
/-- 'm[k] += x' at elements of an integer kind: what the look-up, the entry and the store come to. -/
theorem own_entry {H : Type} {P : Program} {w : World} {t k e : TypeId} {q : IntKind} {b n : Nat} {D : DataW H} (h : w.ownsMap P k (plainElem P e) b n D) (K : WideMaps.KeyLaw P k) (ht : P.underlying t = some (.map k e)) (he : P.underlying e = some (.int q)) (hz : ∀ u : World, (zeroValue e).run P u = .ok (.int q 0) u) (hn : n + 1 < maxLen)
    {key : Value} {kl : Lit} (hkey : keyOf P k key = some kl) :
    ∃ (c : Int) (st : Nat) (w1 : World), (Instr.lookup t (.map (some b)) key false).run P w = .ok (.int q c) w ∧ D.atKey kl (.lit (.int q 0)) = .lit (.int q c) ∧ (Lit.int q c).wf = true ∧
      (Instr.mapEntry t (.map (some b)) key).run P w = .ok (.tuple #[.int q c, .int .i64 st]) w1 ∧ (Instr.lookup t (.map (some b)) key false).run P w1 = .ok (.int q c) w1 ∧ w.grownBy w1 (some b) ∧ w1.heap.size = w.heap.size ∧
      ∀ x : Int, (Lit.int q x).wf = true → ∃ w3, (Instr.entryStore t (.map (some b)) (.int .i64 st) (.int q x)).run P w1 = .ok () w3 ∧ w3.ownsMap P k (plainElem P e) b (n + 1) (D.put kl (.lit (.int q x))) ∧ w.grownBy w3 (some b) ∧ w3.heap.size = w.heap.size := by
  have K' := Keyed.of_law K
  have h0 := h
  obtain ⟨es, clock, hb, F, hs, hD⟩ := h
  obtain ⟨c, hl, hat, hwc⟩ := h0.lookup_int K' ht he (hz w) hkey
  obtain ⟨v0, st', w1', hE', hU', hL'⟩ := entry_stored K ht hz hb F hkey
  obtain ⟨v1, st, es1, clock1, hE, _, hS⟩ := entry_then_store K ht hz hb F hkey
  obtain ⟨rfl, _⟩ := run_det hL' hl
  obtain ⟨e1, rfl⟩ := run_det hE' hE
  obtain ⟨rfl, rfl⟩ : Value.int q c = v1 ∧ st' = goInt st := by simpa using e1
  obtain ⟨u1, hu1, own1, g1⟩ := h0.update K' ht (by omega) hkey (plainElem_int he hwc)
  obtain ⟨_, rfl⟩ := run_det hU' hu1
  obtain ⟨c', hl1, hat1, _⟩ := own1.lookup_int K' ht he (hz _) hkey
  have hcc : c' = c := by
    rw [Maps.atKey_put_same h0.isMap (K'.key hkey)] at hat1
    injection hat1 with e2
    injection e2 with _ e3
    exact e3.symm
  subst hcc
  refine ⟨c', st, _, hl, hat, hwc, hE, hl1, g1, by simp [setBlock], fun x hx => ?_⟩
  obtain ⟨es', clock', hst, hup⟩ := hS (setBlock w b (.map es1 clock1)) (.int q x) (heap_setBlock_same hb _)
  obtain ⟨u2, hu2, own2, g2⟩ := h0.update K' ht (by omega) hkey (plainElem_int he hx)
  obtain ⟨_, rfl⟩ := run_det hup hu2
  refine ⟨_, hst, ?_, ?_, ?_⟩
  · rw [setBlock_twice]; exact own2
  · rw [setBlock_twice]; exact g2
  · simp [setBlock]
end Go.Proofs.YtigldeccfpkdmaaGreatDoor
namespace Go.Proofs.YtigldeccfpkdmaaGreatDoor
open Go.RowKit Go.BigFrame
open Go.Maps (Keyed)
/-- What an owner must be to be a key: its numbers fit, its text is no longer than a text can be. -/
structure WfO (o : Ow) : Prop where
  a : (Lit.int .i64 o.a).wf = true
  v : (Lit.int .i64 o.v).wf = true
  f : o.f.size ≤ maxLen
theorem rowO : (132 : TypeId) < Tryz.prog.types.size := of_decide_eq_true (by kernel_rfl)
theorem wideO : (match Tryz.prog.underlying 132 with | some (.array _ _) | some (.struct _) => true | _ => false) = true := by kernel_rfl
set_option maxRecDepth 100000 in
theorem lawO : WideMaps.KeyLaw Tryz.prog 132 := deep_law_laid laidOut (m := 3) (by omega) rowO (by kernel_rfl) wideO
theorem keyedO : Keyed Tryz.prog 132 := Keyed.of_law lawO
def vO (o : Ow) : Value := .agg #[.int .i64 o.a, .int .i64 o.v, .string o.f]
def klO (o : Ow) : Lit := .string (keyBytes [.int .i64 o.a, .int .i64 o.v, .string o.f.data.toList])
set_option maxRecDepth 100000 in
theorem keyO {o : Ow} (h : WfO o) : keyOf Tryz.prog 132 (vO o) = some (klO o) := by
  obtain ⟨a, v, f⟩ := o
  obtain ⟨h1, h2, h3⟩ := h
  have hk : Tryz.prog.keyType 132 = true := by kernel_rfl
  have hc : Tryz.prog.cellsOf 132 = 3 := by kernel_rfl
  have hc2 : Tryz.prog.cellsOf 2 = 1 := by kernel_rfl
  have hc9 : Tryz.prog.cellsOf 9 = 1 := by kernel_rfl
  obtain ⟨d, hd⟩ := Nat.exists_eq_succ_of_ne_zero (Nat.ne_of_gt (Nat.zero_lt_of_lt rowO))
  unfold keyOf vO klO
  rw [hd]
  have k2 : ∀ x : Int, (Lit.int .i64 x).wf = true → Tryz.prog.keyLits d.succ 2 [.int .i64 x] = some [.int .i64 x] := fun x hx => by
    unfold Program.keyLits; simp only [Tryz.underlying2]; rw [if_pos ⟨trivial, hx⟩]
  have k9 : Tryz.prog.keyLits d.succ 9 [.string f] = some [.string f.data.toList] := by
    unfold Program.keyLits; simp only [Tryz.underlying9]; rw [if_pos h3]
  have e1 := k2 a h1
  have e2 := k2 v h2
  clear k2 hd
  generalize d.succ = D at *
  simp only [Tryz.underlying132, hk, Value.formed, hc, Value.cells]
  rw [if_pos (by rfl)]
  unfold Program.keyLits
  simp only [Tryz.underlying132, hc]
  rw [if_pos (by exact ⟨rfl, by decide +kernel⟩)]
  simp [hc2, hc9, e1, e2, k9]
end Go.Proofs.YtigldeccfpkdmaaGreatDoor
namespace Go.Proofs.YtigldeccfpkdmaaGreatDoor
open Go.RowKit Go.BigFrame
open Go.Maps (Keyed)
theorem klO_inj {o o' : Ow} (h : WfO o) (h' : WfO o') (e : klO o = klO o') : o = o' := by
  have h1 := keyO h
  have h2 := keyO h'
  rw [← e] at h2
  have := lawO.inj h1 h2
  simp [vO] at this
  obtain ⟨a, v, f⟩ := o
  obtain ⟨a', v', f'⟩ := o'
  simp at this
  simp [this]
/-- Block b is a tally, of at most n owners, that holds f o of each owner o. -/
def TlAt (w : World) (b n : Nat) (f : Ow → Int) : Prop :=
  ∃ D : DataW Unit, w.ownsMap Tryz.prog 132 (plainElem Tryz.prog 2) b n D ∧ ∀ o, WfO o → D.atKey (klO o) (.lit (.int .i64 0)) = .lit (.int .i64 (f o))
theorem zero2 (w : World) : (zeroValue 2).run Tryz.prog w = .ok (.int .i64 0) w := by kernel_rfl
theorem TlAt.lt {w : World} {b n : Nat} {f : Ow → Int} (h : TlAt w b n f) : b < w.heap.size := by
  obtain ⟨D, h, _⟩ := h; exact h.lt
theorem TlAt.mono {w : World} {b n n' : Nat} {f : Ow → Int} (h : TlAt w b n f) (hn : n ≤ n') : TlAt w b n' f := by
  obtain ⟨D, h, h2⟩ := h; exact ⟨D, h.mono hn, h2⟩
theorem TlAt.kept {w w' : World} {b n : Nat} {f : Ow → Int} {row : Option Nat} (h : TlAt w b n f) (hg : w.grownBy w' row) (hne : some b ≠ row) : TlAt w' b n f := by
  obtain ⟨D, h, h2⟩ := h; exact ⟨D, h.kept hg hne, h2⟩
theorem TlAt.apart {w : World} {b n : Nat} {f : Ow → Int} (h : TlAt w b n f) {bb o : Nat} {v : Value} (hc : w.cell? ⟨bb, o, none⟩ = some v) : bb ≠ b := by
  obtain ⟨D, ⟨es, clock, hb, _⟩, _⟩ := h
  rintro rfl
  simp [World.cell?, hb] at hc
theorem TlAt.made (w : World) : TlAt (w.alloc (.map #[] 0)) w.heap.size 0 (fun _ => 0) :=
  ⟨_, World.ownsMap_made _ _ _ _, fun _ _ => rfl⟩
theorem TlAt.congr {w : World} {b n : Nat} {f g : Ow → Int} (h : TlAt w b n f) (e : ∀ o, f o = g o) : TlAt w b n g := by
  obtain ⟨D, h, h2⟩ := h
  exact ⟨D, h, fun o ho => by rw [h2 o ho, e]⟩
set_option maxRecDepth 100000 in
theorem TlAt.entry {w : World} {b n : Nat} {f : Ow → Int} (h : TlAt w b n f) (hn : n + 1 < maxLen) {o : Ow} (ho : WfO o) :
    ∃ (st : Nat) (w1 : World), (Instr.lookup 226 (.map (some b)) (.agg #[.int .i64 o.a, .int .i64 o.v, .string o.f]) false).run Tryz.prog w = .ok (.int .i64 (f o)) w ∧
      (Instr.mapEntry 226 (.map (some b)) (.agg #[.int .i64 o.a, .int .i64 o.v, .string o.f])).run Tryz.prog w = .ok (.tuple #[.int .i64 (f o), .int .i64 st]) w1 ∧ (Instr.lookup 226 (.map (some b)) (.agg #[.int .i64 o.a, .int .i64 o.v, .string o.f]) false).run Tryz.prog w1 = .ok (.int .i64 (f o)) w1 ∧ w.grownBy w1 (some b) ∧
      ∀ x : Int, (Lit.int .i64 x).wf = true → ∃ w3, (Instr.entryStore 226 (.map (some b)) (.int .i64 st) (.int .i64 x)).run Tryz.prog w1 = .ok () w3 ∧ TlAt w3 b (n + 1) (fun o' => if owEq o o' = true then x else f o') ∧ w.grownBy w3 (some b) := by
  obtain ⟨D, hown, hv⟩ := h
  obtain ⟨c, st, w1, h1, h2, _, h4, h5, h6, _, h7⟩ := own_entry hown lawO Tryz.underlying226 Tryz.underlying2 zero2 hn (keyO ho)
  have hc : c = f o := by
    rw [hv o ho] at h2
    injection h2 with e2
    injection e2 with _ e3
    exact e3.symm
  subst hc
  refine ⟨st, w1, h1, h4, h5, h6, fun x hx => ?_⟩
  obtain ⟨w3, g1, g2, g3, _⟩ := h7 x hx
  refine ⟨w3, g1, ⟨_, g2, fun o' ho' => ?_⟩, g3⟩
  by_cases e : o = o'
  · subst e
    rw [Maps.atKey_put_same hown.isMap (keyedO.key (keyO ho))]
    dsimp only
    rw [if_pos (owEq_self o)]
  · rw [Maps.atKey_put_other (fun e2 => e (klO_inj ho ho' e2.symm)), hv o' ho']
    dsimp only
    rw [if_neg (fun e2 => e (owEq_iff.1 e2))]
end Go.Proofs.YtigldeccfpkdmaaGreatDoor
namespace Go.Proofs.YtigldeccfpkdmaaGreatDoor
open Go.RowKit Go.BigFrame
theorem tot_take_succ {l : List Ct} {k : Nat} {p : Ct} (h : l[k]? = some p) (o : Ow) : tot o (l.take (k + 1)) = tot o (l.take k) + (if owEq p.o o = true then p.n else 0) := by
  rw [List.take_add_one, h, tot_append]
  simp [tot]
theorem tot_bound {M : Int} (hM : 0 ≤ M) : ∀ {l : List Ct}, (∀ x ∈ l, -M ≤ x.n ∧ x.n ≤ M) → ∀ o, -(M * l.length) ≤ tot o l ∧ tot o l ≤ M * l.length
  | [], _, _ => by simp [tot]
  | c :: r, h, o => by
    have h1 := tot_bound hM (l := r) (fun x hx => h x (by simp [hx])) o
    have h2 := h c (by simp)
    simp only [tot, List.length_cons]
    rw [show ((r.length + 1 : Nat) : Int) = r.length + 1 by omega, Int.mul_add, Int.mul_one]
    split <;> omega
def WfC (l : List Ct) : Prop := ∀ c ∈ l, WfO c.o
set_option maxHeartbeats 2000000 in
set_option maxRecDepth 100000 in
theorem impl_addAll' (b m : Nat) (f : Ow → Int) (a : Option Addr) (n cap : Nat) (l : List Ct) (w : World) (hT : TlAt w b m f) (h : CtsAt w a n l) (hw : WfC l) (hn : n ≤ 1000000) (hm : m ≤ 1000000) (hb : ∀ x ∈ l, -1000000 ≤ x.n ∧ x.n ≤ 1000000) (hf : ∀ o, -1000000000000 ≤ f o ∧ f o ≤ 1000000000000) :
    Calls Tryz.prog 168 #[.map (some b), .slice a n cap] w fun e w' => e = .returned (.tuple #[]) ∧ TlAt w' b (m + n) (fun o => f o + tot o l) ∧ w.grownBy w' (some b) := by
  have hlen : Hid (l.length = n) := h.len
  go_enter Tryz.func168, Tryz.ntmps168
  go_wp2_with fail
  go_loopw [8] (fun ix wr => ∃ (k : Nat), k ≤ n ∧ ix = .int .i64 k ∧ TlAt wr b (m + k) (fun o => f o + tot o (l.take k)) ∧ w.grownBy wr (some b)) (fun ix _ => n - (intOf ix).toNat)
  case atStart => exact ⟨0, Nat.zero_le _, rfl, hT.congr (fun o => by simp [tot]), ⟨rfl, rfl, rfl, Nat.le_refl _, fun _ _ _ => rfl⟩⟩
  case round =>
    obtain ⟨k, hk, rfl, T2, hG⟩ := hrel
    by_cases hlt : k < n
    · obtain ⟨bb, oo, p, rfl, hp, c0, c1, c2, c3⟩ := cts_at h hlt
      have hbb := hT.apart c0
      have d0 := hG.cell c0 (by simpa using hbb)
      have d1 := hG.cell c1 (by simpa using hbb)
      have d2 := hG.cell c2 (by simpa using hbb)
      have d3 := hG.cell c3 (by simpa using hbb)
      have hwp := hw p (List.mem_of_getElem? hp)
      have hbp := hb p (List.mem_of_getElem? hp)
      have hst := tot_take_succ hp
      have htk := tot_bound (M := 1000000) (by omega) (l := l.take k) (fun x hx => hb x (List.mem_of_mem_take hx))
      clear c0 c1 c2 c3
      go_wp2_with fail
      have z0 : (wr.alloc (.cells #[.int .i64 p.o.a, .int .i64 p.o.v, .string p.o.f, .int .i64 p.n] 134)).cell? ⟨wr.heap.size, 0, none⟩ = some (.int .i64 p.o.a) := by simp
      have z1 : (wr.alloc (.cells #[.int .i64 p.o.a, .int .i64 p.o.v, .string p.o.f, .int .i64 p.n] 134)).cell? ⟨wr.heap.size, 1, none⟩ = some (.int .i64 p.o.v) := by simp
      have z2 : (wr.alloc (.cells #[.int .i64 p.o.a, .int .i64 p.o.v, .string p.o.f, .int .i64 p.n] 134)).cell? ⟨wr.heap.size, 2, none⟩ = some (.string p.o.f) := by simp
      have z3 : (wr.alloc (.cells #[.int .i64 p.o.a, .int .i64 p.o.v, .string p.o.f, .int .i64 p.n] 134)).cell? ⟨wr.heap.size, 3, none⟩ = some (.int .i64 p.n) := by simp
      have hgW : w.grownBy (wr.alloc (.cells #[.int .i64 p.o.a, .int .i64 p.o.v, .string p.o.f, .int .i64 p.n] 134)) (some b) := hG.andThen (World.grownBy_alloc wr _ (some b)) (fun j hj => by cases hj; exact .inr rfl)
      have T3 : TlAt (wr.alloc (.cells #[.int .i64 p.o.a, .int .i64 p.o.v, .string p.o.f, .int .i64 p.n] 134)) b (m + k) (fun o => f o + tot o (l.take k)) := T2.kept (World.grownBy_alloc wr _ none) (by simp)
      generalize wr.alloc (.cells #[.int .i64 p.o.a, .int .i64 p.o.v, .string p.o.f, .int .i64 p.n] 134) = W at *
      have T4 : TlAt W.drew b (m + k) (fun o => f o + tot o (l.take k)) := T3
      obtain ⟨st, w1, e1, e2, e3, g1, e4⟩ := T4.entry (by unfold maxLen; omega) hwp
      have hlk : ((l.take k).length : Int) ≤ n := by simp; omega
      have hC : -3000000000000 ≤ f p.o + tot p.o (l.take k) ∧ f p.o + tot p.o (l.take k) ≤ 3000000000000 := by
        have h1 := hf p.o
        have h2 := htk p.o
        omega
      obtain ⟨w3, e5, T5, g3⟩ := e4 (f p.o + tot p.o (l.take k) + p.n) (WalkArith.wf_i64 (by omega))
      clear e4 T4 T3 T2 d0 d1 d2 d3 htk
      have hT5 : TlAt w3 b (m + (k + 1)) (fun o => f o + tot o (l.take (k + 1))) := T5.congr (fun o => by
        rw [hst o]
        split
        · rename_i hh; rw [owEq_iff.1 hh]; omega
        · omega)
      clear T5 hst
      generalize f p.o + tot p.o (l.take k) = C at *
      obtain ⟨hC1, hC2⟩ := hC
      obtain ⟨hp1, hp2⟩ := hbp
      have hgF : w.grownBy w3 (some b) := (hgW.andThen (row' := some b) (⟨rfl, rfl, rfl, Nat.le_refl _, fun _ _ _ => rfl⟩ : W.grownBy W.drew (some b)) (fun j hj => by cases hj; exact .inr rfl)).andThen (row' := some b) g3 (fun j hj => by cases hj; exact .inr rfl)
      go_region
      go_wp2
      go_roundw
      case rel => exact ⟨k + 1, by omega, by go_num, hT5, hgF⟩
      case measure => simp [intOf]; omega
    · obtain rfl : k = n := by omega
      go_wp2
      go_returns
      refine ⟨rfl, ?_, hG⟩
      rw [List.take_of_length_le (by rw [hlen.out]; exact Nat.le_refl _)] at T2
      exact T2
end Go.Proofs.YtigldeccfpkdmaaGreatDoor
namespace Go.Proofs.YtigldeccfpkdmaaGreatDoor
open Go.RowKit Go.BigFrame
open Go.Sort (SWO PermIn SortedIn grow alloc_eq_grow grow_grow)
theorem push3 {α : Type} (h : Array α) (a b c : α) : ((h.push a).push b).push c = h ++ #[a, b, c] := Array.ext' (by simp)
theorem push2 {α : Type} (h os : Array α) (a b : α) : (h.push a).push b ++ os = h ++ (#[a, b] ++ os) := Array.ext' (by simp)
set_option maxHeartbeats 1000000 in
theorem impl_ownerOrder_g (p q : Ow) (w : World) :
    Calls Tryz.prog 208 #[.agg #[.int .i64 p.a, .int .i64 p.v, .string p.f], .agg #[.int .i64 q.a, .int .i64 q.v, .string q.f]] w fun e w' => e = .returned (.int .i64 (ordO p q)) ∧ ∃ n os, w' = grow (w.drewN n) os := by
  have hfin : Hid (ordO p q = or3 (cmpI p.a q.a) (cmpI p.v q.v) (cmpS p.f q.f)) := rfl
  generalize ordO p q = R at *
  obtain ⟨a, v, f⟩ := p
  obtain ⟨b, u, g⟩ := q
  simp only at hfin
  go_enter Tryz.func208, Tryz.ntmps208
  go_wp2_with fail
  have x0 : ((w.alloc (.cells #[.int .i64 a, .int .i64 v, .string f] 132)).alloc (.cells #[.int .i64 b, .int .i64 u, .string g] 132)).cell? ⟨w.heap.size, 0, none⟩ = some (.int .i64 a) := acell _ (by simp)
  have x1 : ((w.alloc (.cells #[.int .i64 a, .int .i64 v, .string f] 132)).alloc (.cells #[.int .i64 b, .int .i64 u, .string g] 132)).cell? ⟨w.heap.size, 1, none⟩ = some (.int .i64 v) := acell _ (by simp)
  have x2 : ((w.alloc (.cells #[.int .i64 a, .int .i64 v, .string f] 132)).alloc (.cells #[.int .i64 b, .int .i64 u, .string g] 132)).cell? ⟨w.heap.size, 2, none⟩ = some (.string f) := acell _ (by simp)
  have y0 : ((w.alloc (.cells #[.int .i64 a, .int .i64 v, .string f] 132)).alloc (.cells #[.int .i64 b, .int .i64 u, .string g] 132)).cell? ⟨w.heap.size + 1, 0, none⟩ = some (.int .i64 b) := by simp
  have y1 : ((w.alloc (.cells #[.int .i64 a, .int .i64 v, .string f] 132)).alloc (.cells #[.int .i64 b, .int .i64 u, .string g] 132)).cell? ⟨w.heap.size + 1, 1, none⟩ = some (.int .i64 u) := by simp
  have y2 : ((w.alloc (.cells #[.int .i64 a, .int .i64 v, .string f] 132)).alloc (.cells #[.int .i64 b, .int .i64 u, .string g] 132)).cell? ⟨w.heap.size + 1, 2, none⟩ = some (.string g) := by simp
  have hW0 : Hid (∀ o, (((w.alloc (.cells #[.int .i64 a, .int .i64 v, .string f] 132)).alloc (.cells #[.int .i64 b, .int .i64 u, .string g] 132)).alloc o).drew = grow (w.drewN 1) #[.cells #[.int .i64 a, .int .i64 v, .string f] 132, .cells #[.int .i64 b, .int .i64 u, .string g] 132, o]) := fun o => by
    simp only [World.alloc, World.drew, World.drewN, grow]
    rw [push3]
  generalize (w.alloc (.cells #[.int .i64 a, .int .i64 v, .string f] 132)).alloc (.cells #[.int .i64 b, .int .i64 u, .string g] 132) = W0 at *
  go_region_held3 (fun u' => u'.cell? ⟨w.heap.size, 0, none⟩ = some (.int .i64 a) ∧ u'.cell? ⟨w.heap.size, 1, none⟩ = some (.int .i64 v) ∧ u'.cell? ⟨w.heap.size, 2, none⟩ = some (.string f) ∧ u'.cell? ⟨w.heap.size + 1, 0, none⟩ = some (.int .i64 b) ∧ u'.cell? ⟨w.heap.size + 1, 1, none⟩ = some (.int .i64 u) ∧ u'.cell? ⟨w.heap.size + 1, 2, none⟩ = some (.string g)) (go_keep)
    (first | (go_at_call 239; refine (cmp_Compare_int _ _ _).mono ?_; rintro e w2 ⟨rfl, rfl⟩) | (go_at_call 240; refine (cmp_Compare_str _ _ _).mono ?_; rintro e w2 ⟨rfl, rfl⟩) | (go_at_call 238; refine (cmp_Or3 (cmpI a b) (cmpI v u) (cmpS f g) W0.heap.size 3 _ (new3 W0 _ _ _ _).1 (new3 W0 _ _ _ _).2.1 (new3 W0 _ _ _ _).2.2).mono ?_; rintro e w2 ⟨rfl, rfl⟩))
  go_wp2
  go_returns
  go_light
  exact ⟨ret_int hfin.out.symm, 1, _, hW0.out _⟩
set_option maxHeartbeats 1000000 in
theorem impl_told1 (x y : Ct) (w : World) :
    Calls Tryz.prog 207 #[.agg #[.int .i64 x.o.a, .int .i64 x.o.v, .string x.o.f, .int .i64 x.n], .agg #[.int .i64 y.o.a, .int .i64 y.o.v, .string y.o.f, .int .i64 y.n]] w fun e w' => e = .returned (.int .i64 (ordO x.o y.o)) ∧ ∃ n os, w' = grow (w.drewN n) os := by
  obtain ⟨⟨a, v, f⟩, n⟩ := x
  obtain ⟨⟨b, u, g⟩, m⟩ := y
  go_enter Tryz.func207, Tryz.ntmps207
  go_wp2_with fail
  refine (impl_ownerOrder_g ⟨a, v, f⟩ ⟨b, u, g⟩ _).mono ?_
  rintro e w1 ⟨rfl, n1, os, rfl⟩
  go_wp2
  go_returns
  go_light
  refine ⟨rfl, n1, #[.cells #[.int .i64 a, .int .i64 v, .string f, .int .i64 n] 134, .cells #[.int .i64 b, .int .i64 u, .string g, .int .i64 m] 134] ++ os, ?_⟩
  simp only [World.alloc, World.drewN, grow]
  rw [push2]
theorem ordO_swo : SWO (Go.Proofs.ltOf (fun x y : Ct => ordO x.o y.o)) := by
  have e : ∀ x y : Ct, Go.Proofs.ltOf (fun x y : Ct => ordO x.o y.o) x y = owLt x.o y.o := fun x y => ordO_lt x.o y.o
  refine ⟨fun x => ?_, fun x y z => ?_, fun x y z => ?_⟩
  · rw [e]; exact owLt_irrefl _
  · rw [e, e, e]; exact owLt_trans
  · rw [e, e, e]
    intro h1 h2
    by_cases h3 : y.o = z.o
    · rw [← h3]; exact h1
    · by_cases h4 : x.o = y.o
      · rw [h4]; exact h2
      · exact owLt_asymm (owLt_trans (owLt_total h2 h3) (owLt_total h1 h4))
end Go.Proofs.YtigldeccfpkdmaaGreatDoor
namespace Go.Proofs.YtigldeccfpkdmaaGreatDoor
open Go.RowKit Go.BigFrame
open Go.Sort (SWO PermIn SortedIn grow putRow mapBlock onCells putCells putRowK flatK HoldsK)
open Go.Proofs (sortWorldK)
theorem sw_blk {α : Type} [Inhabited α] {enc : α → List Value} {k : Nat} {w : World} {b : Nat} {c : Array Value} {t : TypeId} (h : Blk w b c t) (n off : Nat) (d : Array α) (os : Array Obj) :
    Blk (sortWorldK enc k w b off n d os) b (putCells id off (flatK enc k d) c) t := by
  have hb := h.lt
  unfold Blk at *
  simp only [sortWorldK, putRowK, putRow, mapBlock, grow, Go.Sort.ahead]
  rw [Array.getElem?_append_left (by simpa using hb), Array.getElem?_modify, if_pos rfl, h]
  rfl
theorem sw_grown {α : Type} [Inhabited α] (enc : α → List Value) (k : Nat) (w : World) (b off n : Nat) (d : Array α) (os : Array Obj) :
    w.grownBy (sortWorldK enc k w b off n d os) (some b) := by
  refine ⟨rfl, rfl, rfl, by simp [sortWorldK, putRowK, putRow, mapBlock, grow, Go.Sort.ahead], fun i hi hne => ?_⟩
  simp only [sortWorldK, putRowK, putRow, mapBlock, grow, Go.Sort.ahead]
  rw [Array.getElem?_append_left (by simpa using hi), Array.getElem?_modify, if_neg (fun e => hne (by rw [e]))]
/-- The cells of the row, one by one. -/
theorem flat_cell {l : List Ct} {i j : Nat} {x : Ct} {v : Value} [Inhabited Ct] (h : l[i]? = some x) (hj : x.cs[j]? = some v) : i * 4 + j < l.length * 4 ∧ (flatK Ct.cs 4 l.toArray)[i * 4 + j]! = v := by
  obtain ⟨hi, rfl⟩ := List.getElem?_eq_some_iff.1 h
  have hj4 : j < 4 := by have := (List.getElem?_eq_some_iff.1 hj).1; simpa [Ct.cs] using this
  have hlt : i * 4 + j < l.length * 4 := by omega
  refine ⟨hlt, ?_⟩
  rw [Go.Sort.get_flatK _ _ _ _ (by simpa using hlt)]
  rw [show (i * 4 + j) / 4 = i by omega, show (i * 4 + j) % 4 = j by omega]
  have e1 : l.toArray[i]! = l[i] := by simp [hi]
  rw [e1]
  have := (List.getElem?_eq_some_iff.1 hj)
  obtain ⟨h1, h2⟩ := this
  simp [h1, h2]
theorem flat_split {l : List Ct} {t : Nat} (ht : t < l.length * 4) : ∃ x v, l[t / 4]? = some x ∧ x.cs[t % 4]? = some v := by
  have h1 : t / 4 < l.length := by omega
  have h2 : t % 4 < (l[t / 4]).cs.length := by simp [Ct.cs]; omega
  exact ⟨l[t / 4], (l[t / 4]).cs[t % 4], by simp [h1], by simp⟩
theorem res_holds {w : World} {b n : Nat} {l : List Ct} {c : Array Value} [Inhabited Ct] (hb : Blk w b c 134) (hsl : CtsAt w (some ⟨b, 0, none⟩) n l) : HoldsK Ct.cs 4 w b 0 l.toArray := by
  intro t ht
  have ht' : t < l.length * 4 := by simpa using ht
  obtain ⟨x, v, h1, h2⟩ := flat_split ht'
  obtain ⟨_, h3⟩ := flat_cell h1 h2
  rw [show t / 4 * 4 + t % 4 = t by omega] at h3
  rw [h3]
  obtain ⟨b', o', ha, hc⟩ := hsl.cell _ _ h1
  obtain ⟨rfl, rfl⟩ : b = b' ∧ 0 = o' := by simpa using ha
  refine ⟨?_, by rw [Nat.zero_add]; exact hb.frozen _⟩
  have := hc _ _ h2
  rw [Nat.zero_add, show t / 4 * 4 + t % 4 = t by omega] at this
  rw [Nat.zero_add]; exact this
theorem res_sorted {w : World} {B b n cap : Nat} {l l' : List Ct} [Inhabited Ct] (R : ResAt Ct.cs 4 134 w B (some ⟨b, 0, none⟩) n cap l) (hl : l'.length = n) (m : Nat) (os : Array Obj) :
    ResAt Ct.cs 4 134 (sortWorldK Ct.cs 4 w b 0 m l'.toArray os) B (some ⟨b, 0, none⟩) n cap l' := by
  rcases R.own with ⟨h, _⟩ | ⟨b', hb', hB, h1, h2, c, hc, hs, _⟩
  · cases h
  · obtain rfl : b = b' := by simpa using hb'
    have hk := sw_blk (enc := Ct.cs) (k := 4) hc m 0 l'.toArray os
    have hcell : ∀ i x, l'[i]? = some x → ∀ j v, x.cs[j]? = some v → (putCells id 0 (flatK Ct.cs 4 l'.toArray) c)[i * 4 + j]? = some v := by
      intro i x hx j v hv
      obtain ⟨f1, f2⟩ := flat_cell hx hv
      have f3 : i * 4 + j < c.size := by rw [hs]; have : l'.length * 4 ≤ cap * 4 := by omega
                                         omega
      unfold putCells
      simp only [Array.getElem?_mapIdx, Array.getElem?_eq_getElem f3, Option.map_some]
      rw [if_pos ⟨Nat.zero_le _, by simpa using f1⟩, Nat.sub_zero, f2]; rfl
    refine ⟨⟨hl, fun i x hx => ⟨b, 0, rfl, fun j v hv => by rw [hk.cell, Nat.zero_add]; exact hcell i x hx j v hv⟩⟩, .inr ⟨b, rfl, hB, h1, h2, _, hk, by simp [putCells, hs], ?_⟩⟩
    apply List.ext_getElem?
    intro t
    by_cases ht : t < n * 4
    · rw [List.getElem?_take_of_lt ht]
      obtain ⟨x, v, g1, g2⟩ := flat_split (l := l') (t := t) (by rw [hl]; exact ht)
      have e1 := hcell _ _ g1 _ _ g2
      have e2 := flat_at ccs_len l' g1 g2
      rw [show t / 4 * 4 + t % 4 = t by omega] at e1 e2
      rw [e2, ← e1]; simp
    · rw [List.getElem?_eq_none (by simp; omega), List.getElem?_eq_none (by rw [flat_len ccs_len, hl]; omega)]
end Go.Proofs.YtigldeccfpkdmaaGreatDoor
namespace Go.Proofs.YtigldeccfpkdmaaGreatDoor
open Go.RowKit Go.BigFrame
open Go.Sort (SWO PermIn SortedIn grow HoldsK)
open Go.Proofs (sortWorldK)
/-- What is behind the sort: the same counts, none behind one that is behind it. -/
def SortedC (l : List Ct) : Prop := l.Pairwise (fun x y => owLt y.o x.o = false)
theorem sorted_of {l : List Ct} [Inhabited Ct] {d' : Array Ct} (hp : PermIn 0 l.toArray.size l.toArray d') (hs : SortedIn (Go.Proofs.ltOf (fun x y : Ct => ordO x.o y.o)) 0 l.toArray.size d') : d'.toList.Perm l ∧ SortedC d'.toList := by
  obtain ⟨hsz, _, hperm⟩ := hp
  have e1 : d'.extract 0 l.toArray.size = d' := by rw [← hsz]; exact Array.extract_size
  rw [e1, Array.extract_size] at hperm
  refine ⟨hperm, ?_⟩
  unfold SortedC
  rw [List.pairwise_iff_getElem]
  intro i j hi hj hij
  have hj' : j < d'.size := by simpa using hj
  have := hs i j (Nat.zero_le _) hij (by rw [← hsz]; exact hj')
  have e : ∀ x y : Ct, Go.Proofs.ltOf (fun x y : Ct => ordO x.o y.o) x y = owLt x.o y.o := fun x y => ordO_lt x.o y.o
  rw [e] at this
  have hi' : i < d'.size := by omega
  simpa [hi', hj'] using this
theorem told1_lays (b n : Nat) (w : World) [Inhabited Ct] : Go.Proofs.CmpLays Tryz.prog 207 #[] Ct.cs 4 (fun x y => ordO x.o y.o) b 0 n w :=
  fun _ _ _ _ x y => impl_told1 x y _
theorem aggC (w : World) : (isAgg 134).run Tryz.prog w = .ok true w := Tryz.isAgg134 w
theorem sizeC (w : World) : (Go.sizeOf 134).run Tryz.prog w = .ok 4 w := Tryz.sizeOf134 w
set_option maxRecDepth 100000 in
theorem sort_res (B : Nat) (a : Option Addr) (n cap : Nat) (l : List Ct) (w : World) (R : ResAt Ct.cs 4 134 w B a n cap l) (hn : n ≤ 4194304) :
    Calls Tryz.prog 206 #[.slice a n cap, .func (.func 207) #[] #[]] w fun e w' => e = .returned (.tuple #[]) ∧ ∃ l', l'.Perm l ∧ SortedC l' ∧ ResAt Ct.cs 4 134 w' B a n cap l' ∧ w.grownBy w' (rowB a) := by
  by_cases h0 : n = 0
  · subst h0
    have hl : l = [] := List.eq_nil_of_length_eq_zero R.sl.len
    subst hl
    refine (Go.Proofs.AnyF.slices_SortFunc_none (P := Tryz.prog) (ρ := sortC_ren) sortC a cap _ w).mono ?_
    rintro e w' ⟨rfl, rfl⟩
    exact ⟨rfl, [], List.Perm.refl _, List.Pairwise.nil, R, World.grownBy.refl _ _⟩
  · rcases R.own with ⟨_, h, _⟩ | ⟨b, rfl, hB, h1, h2, c, hc, _⟩
    · exact absurd h h0
    · have hinh : Inhabited Ct := ⟨⟨⟨0, 0, .empty⟩, 0⟩⟩
      have hlen := R.sl.len
      have eg : ∀ args w, (callFunc 207 args).run Tryz.prog w = .ok (.enter 207 args) w := enters_of Tryz.func207 (by kernel_rfl) rfl
      have hcon := Go.Proofs.AnyQ.slices_SortFunc sortC 4 aggC sizeC Ct.cs (fun _ => rfl) (fun x v hv => ccs_one [x] v (by simpa using hv)) (fun x y => ordO x.o y.o) ordO_swo 207 #[] b 0 cap l.toArray w eg (told1_lays b l.toArray.size w) (res_holds hc R.sl) hc.lt (by simp; omega)
      rw [show l.toArray.size = n by simpa using hlen] at hcon
      refine Calls.mono hcon ?_
      rintro e w' ⟨rfl, d', m, os, hp, hs, rfl⟩
      rw [← show l.toArray.size = n by simpa using hlen] at hp hs
      obtain ⟨h3, h4⟩ := sorted_of hp hs
      refine ⟨rfl, d'.toList, h3, h4, ?_, sw_grown _ _ _ _ _ _ _ _⟩
      have := res_sorted (l' := d'.toList) R (by rw [h3.length_eq]; exact hlen) m os
      simpa using this
end Go.Proofs.YtigldeccfpkdmaaGreatDoor
