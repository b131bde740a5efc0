/- A count that a writer writes. Bytes: zeros appended to a row of the call's own, rows of bytes as texts. The extents: dataOk and SpaceOk of the program, l1Plain and SpaceOk of the model. Appending to a slice of the call's own: lists of elements of several cells. -/
import Derived.Test.YtigldeccfpkdmaaGreatDoorCStoreNewx02
import Derived.Test.YtigldeccfpkdmaaGreatDoorCStoreNewx01
import Derived.Lib.AppendStr
import Derived.Lib.AppendZerosOnto
import Derived.Laws.BytesArg
import Derived.Test.YtigldeccfpkdmaaGreatDoorCStoreNewx00
import Derived.Test.YtigldeccfpkdmaaGreatDoorProg
namespace Go.Proofs.YtigldeccfpkdmaaGreatDoor
open Go Go.RowKit Go.BigFrame Go.Shelf
theorem tab_low {w w' : World} {B : Nat} (h : TabP w) (hb : Below B w w') (hg : 9 ≤ B) : TabP w' := by
  unfold TabP Lib.TabIs World.var? at h ⊢
  have hgl : Tryz.prog.globalNamed "internal/strconv.uint64pow10" = some 2 := by kernel_rfl
  rw [hgl] at h ⊢
  simp only [Option.bind_some] at h ⊢
  rw [hb.block _ (by omega)]
  exact h
theorem sl5 {w : World} {b : Nat} {t : TypeId} {ps : List ByteArray} (h : Blk w b (ps.map Value.string).toArray t) : ∀ (j : Nat) x, ps[j]? = some x → w.cell? ⟨b, 0 + j, none⟩ = some (.string x) := fun j x hx => by
  rw [Nat.zero_add, h.cell]
  simp [hx]
theorem Blk.ok {w w' : World} {k b : Nat} {c : Array Value} {t : TypeId} (h : Blk w k c t) (hk : Lib.OthersKept 5 (some b) w w') (hb : k ≠ b) (ht : t ≠ 5) : Blk w' k c t := hk k _ h (by simpa using hb) (fun c' fz e => by cases e; exact ht rfl)
theorem Wr.lt {B b : Nat} {l : List UInt8} {w : World} (h : Wr B b l w) : b < w.heap.size := by
  obtain ⟨⟨_, v, h2, _⟩ | ⟨_, v, h2, _⟩⟩ := h
  · exact (Array.getElem?_eq_some_iff.1 h2).1
  · exact (Array.getElem?_eq_some_iff.1 h2).1
/-- What a count's line says. -/
def ctL (word : ByteArray) (c : Ct) : List ByteArray := [word, decB c.o.a, decB c.o.v, c.o.f, decB c.n]
/-- Numbers as small as those of right pools. -/
def Num (n : Int) : Prop := -1000000000000 < n ∧ n < 1000000000000
set_option maxHeartbeats 4000000 in
set_option maxRecDepth 100000 in
theorem impl_counted (B b : Nat) (l : List UInt8) (word : ByteArray) (c : Ct) (w : World) (h : Wr B b l w) (ht : TabP w) (hg : 9 ≤ B) (hBw : B ≤ w.heap.size) (n1 : Num c.o.a) (n2 : Num c.o.v) (n3 : Num c.n) (hlen : l.length + (lineL (ctL word c)).length ≤ 1000000) :
    Calls Tryz.prog 129 #[.pointer (some ⟨b, 0, none⟩), .string word, .agg #[.int .i64 c.o.a, .int .i64 c.o.v, .string c.o.f, .int .i64 c.n]] w fun e w' => e = .returned (.tuple #[]) ∧ Wr B b (l ++ lineL (ctL word c)) w' ∧ Below B w w' ∧ Lib.OthersKept 5 (some b) w w' := by
  obtain ⟨a1, a2⟩ := n1
  obtain ⟨b1, b2⟩ := n2
  obtain ⟨c1, c2⟩ := n3
  obtain ⟨da, hda⟩ : ∃ x, decB c.o.a = x := ⟨_, rfl⟩
  obtain ⟨dv, hdv⟩ : ∃ x, decB c.o.v = x := ⟨_, rfl⟩
  obtain ⟨dn, hdn⟩ : ∃ x, decB c.n = x := ⟨_, rfl⟩
  have hct : ctL word c = [word, da, dv, c.o.f, dn] := by unfold ctL; rw [hda, hdv, hdn]
  rw [hct] at hlen ⊢
  have C := Blk.new w #[.int .i64 c.o.a, .int .i64 c.o.v, .string c.o.f, .int .i64 c.n] 134
  have hB0 : Below w.heap.size w (w.alloc (.cells #[.int .i64 c.o.a, .int .i64 c.o.v, .string c.o.f, .int .i64 c.n] 134)) := (Below.refl _ _).alloc (Nat.le_refl _) _
  go_enter Tryz.func129, Tryz.ntmps129
  go_wp2_with fail
  generalize w.alloc (.cells #[.int .i64 c.o.a, .int .i64 c.o.v, .string c.o.f, .int .i64 c.n] 134) = W at *
  have hB0d : Below w.heap.size w W.drew := hB0.drew
  have hSB : ∀ u : World, Below W.heap.size W u → u.cell? ⟨w.heap.size, 0, none⟩ = some (.int .i64 c.o.a) ∧ u.cell? ⟨w.heap.size, 1, none⟩ = some (.int .i64 c.o.v) ∧ u.cell? ⟨w.heap.size, 2, none⟩ = some (.string c.o.f) ∧ u.cell? ⟨w.heap.size, 3, none⟩ = some (.int .i64 c.n) := fun u hu => ⟨(C.below hu).cell 0, (C.below hu).cell 1, (C.below hu).cell 2, (C.below hu).cell 3⟩
  have hS0 : (fun u : World => u.cell? ⟨w.heap.size, 0, none⟩ = some (.int .i64 c.o.a) ∧ u.cell? ⟨w.heap.size, 1, none⟩ = some (.int .i64 c.o.v) ∧ u.cell? ⟨w.heap.size, 2, none⟩ = some (.string c.o.f) ∧ u.cell? ⟨w.heap.size, 3, none⟩ = some (.int .i64 c.n)) W.drew := (hSB _ (Below.refl _ W).drew)
  refine wp_region_heldX (S := (fun u : World => u.cell? ⟨w.heap.size, 0, none⟩ = some (.int .i64 c.o.a) ∧ u.cell? ⟨w.heap.size, 1, none⟩ = some (.int .i64 c.o.v) ∧ u.cell? ⟨w.heap.size, 2, none⟩ = some (.string c.o.f) ∧ u.cell? ⟨w.heap.size, 3, none⟩ = some (.int .i64 c.n))) 18 (by kernel_rfl) rfl ?_
  refine takeL (i := 0) (v := ?vt101) rfl (by kernel_rfl) (by kernel_rfl) (by kernel_rfl) (fun _ _ _ h => h) (Or.inl ⟨by rfl, ?hyt101⟩) (by assumption) ?restt101
  case hyt101 => (intro u hu; obtain ⟨u0, u1, u2, u3⟩ := hu; go_simp <;> with_reducible rfl)
  try simp only [Act.put, lsA, lsB, lsC]
  refine takeL (i := 1) (v := ?vt102) rfl (by kernel_rfl) (by kernel_rfl) (by kernel_rfl) (fun _ _ _ h => h) (Or.inl ⟨by rfl, ?hyt102⟩) (by assumption) ?restt102
  case hyt102 => (intro u hu; obtain ⟨u0, u1, u2, u3⟩ := hu; go_simp <;> with_reducible rfl)
  try simp only [Act.put, lsA, lsB, lsC]
  refine takeL (i := 2) (v := ?vt103) rfl (by kernel_rfl) (by kernel_rfl) (by kernel_rfl) (fun _ _ _ h => h) (Or.inl ⟨by rfl, ?hyt103⟩) (by assumption) ?restt103
  case hyt103 => (intro u hu; obtain ⟨u0, u1, u2, u3⟩ := hu; go_simp <;> with_reducible rfl)
  try simp only [Act.put, lsA, lsB, lsC]
  refine takeL (i := 3) (v := ?vt104) rfl (by kernel_rfl) (by kernel_rfl) (by kernel_rfl) (fun _ _ _ h => h) (Or.inl ⟨by rfl, ?hyt104⟩) (by assumption) ?restt104
  case hyt104 => (intro u hu; obtain ⟨u0, u1, u2, u3⟩ := hu; go_simp <;> with_reducible rfl)
  try simp only [Act.put, lsA, lsB, lsC]
  refine takeL (i := 4) (v := ?vt105) rfl (by kernel_rfl) (by kernel_rfl) (by kernel_rfl) (fun _ _ _ h => h) (Or.inl ⟨by rfl, ?hyt105⟩) (by assumption) ?restt105
  case hyt105 => (intro u hu; obtain ⟨u0, u1, u2, u3⟩ := hu; go_simp <;> with_reducible rfl)
  try simp only [Act.put, lsA, lsB, lsC]
  refine takeL (i := 6) (v := ?vt106) rfl (by kernel_rfl) (by kernel_rfl) (by kernel_rfl) (fun _ _ _ h => h) (Or.inl ⟨by rfl, ?hyt106⟩) (by assumption) ?restt106
  case hyt106 => (intro u hu; obtain ⟨u0, u1, u2, u3⟩ := hu; go_simp <;> with_reducible rfl)
  try simp only [Act.put, lsA, lsB, lsC]
  refine takeL (i := 7) (v := ?vt107) rfl (by kernel_rfl) (by kernel_rfl) (by kernel_rfl) (fun _ _ _ h => h) (Or.inl ⟨by rfl, ?hyt107⟩) (by assumption) ?restt107
  case hyt107 => (intro u hu; obtain ⟨u0, u1, u2, u3⟩ := hu; go_simp <;> with_reducible rfl)
  try simp only [Act.put, lsA, lsB, lsC]
  refine takeL (i := 8) (v := ?vt108) rfl (by kernel_rfl) (by kernel_rfl) (by kernel_rfl) (fun _ _ _ h => h) (Or.inl ⟨by rfl, ?hyt108⟩) (by assumption) ?restt108
  case hyt108 => (intro u hu; obtain ⟨u0, u1, u2, u3⟩ := hu; go_simp <;> with_reducible rfl)
  try simp only [Act.put, lsA, lsB, lsC]
  refine takeL (i := 10) (v := ?vt109) rfl (by kernel_rfl) (by kernel_rfl) (by kernel_rfl) (fun _ _ _ h => h) (Or.inl ⟨by rfl, ?hyt109⟩) (by assumption) ?restt109
  case hyt109 => (intro u hu; obtain ⟨u0, u1, u2, u3⟩ := hu; go_simp <;> with_reducible rfl)
  try simp only [Act.put, lsA, lsB, lsC]
  refine takeL (i := 11) (v := ?vt110) rfl (by kernel_rfl) (by kernel_rfl) (by kernel_rfl) (fun _ _ _ h => h) (Or.inl ⟨by rfl, ?hyt110⟩) (by assumption) ?restt110
  case hyt110 => (intro u hu; obtain ⟨u0, u1, u2, u3⟩ := hu; go_simp <;> with_reducible rfl)
  try simp only [Act.put, lsA, lsB, lsC]
  refine takeL (i := 12) (v := ?vt111) rfl (by kernel_rfl) (by kernel_rfl) (by kernel_rfl) (fun _ _ _ h => h) (Or.inl ⟨by rfl, ?hyt111⟩) (by assumption) ?restt111
  case hyt111 => (intro u hu; obtain ⟨u0, u1, u2, u3⟩ := hu; go_simp <;> with_reducible rfl)
  try simp only [Act.put, lsA, lsB, lsC]
  refine takeL (i := 13) (v := ?vt112) rfl (by kernel_rfl) (by kernel_rfl) (by kernel_rfl) (fun _ _ _ h => h) (Or.inl ⟨by rfl, ?hyt112⟩) (by assumption) ?restt112
  case hyt112 => (intro u hu; obtain ⟨u0, u1, u2, u3⟩ := hu; go_simp <;> with_reducible rfl)
  try simp only [Act.put, lsA, lsB, lsC]
  refine takeL (i := 14) (v := ?vt113) rfl (by kernel_rfl) (by kernel_rfl) (by kernel_rfl) (fun _ _ _ h => h) (Or.inl ⟨by rfl, ?hyt113⟩) (by assumption) ?restt113
  case hyt113 => (intro u hu; obtain ⟨u0, u1, u2, u3⟩ := hu; go_simp <;> with_reducible rfl)
  try simp only [Act.put, lsA, lsB, lsC]
  refine oneL (i := 5) (by kernel_rfl) rfl (fun K hK => ?_)
  go_simp
  refine (impl_decimal c.o.a W.drew (by omega) (by omega) (tab_low ht (hB0d.mono hBw) hg)).mono ?_
  rintro e w1 ⟨rfl, hB1'⟩
  rw [hda]
  have hB1 : Below W.heap.size W w1 := chain (Below.refl _ W).drew hB1'
  have hC1 := chain hB0 hB1
  dsimp only
  refine hK.out _ _ (hSB _ hB1) (fun hHeld => ?_)
  clear hK K
  try simp only [Act.put, lsA, lsB, lsC]
  refine oneL (i := 9) (by kernel_rfl) rfl (fun K hK => ?_)
  go_simp
  refine (impl_decimal c.o.v w1 (by omega) (by omega) (tab_low ht (hC1.mono hBw) hg)).mono ?_
  rintro e w2 ⟨rfl, hB2'⟩
  rw [hdv]
  have hB2 := chain hB1 hB2'
  have hC2 := chain hB0 hB2
  dsimp only
  refine hK.out _ _ (hSB _ hB2) (fun hHeld => ?_)
  clear hK K
  try simp only [Act.put, lsA, lsB, lsC]
  refine oneL (i := 15) (by kernel_rfl) rfl (fun K hK => ?_)
  go_simp
  refine (impl_decimal c.n w2 (by omega) (by omega) (tab_low ht (hC2.mono hBw) hg)).mono ?_
  rintro e w3 ⟨rfl, hB3'⟩
  rw [hdn]
  have hB3 := chain hB2 hB3'
  have hC3 := chain hB0 hB3
  dsimp only
  refine hK.out _ _ (hSB _ hB3) (fun hHeld => ?_)
  clear hK K
  try simp only [Act.put, lsA, lsB, lsC]
  refine oneL (i := 16) (by kernel_rfl) rfl (fun K hK => ?_)
  go_simp
  have hA4 : Below w3.heap.size w3 (w3.alloc (.cells #[.string word, .string da, .string dv, .string c.o.f, .string dn] 9)) := (Below.refl _ _).alloc (Nat.le_refl _) _
  have X4 := Blk.new w3 #[.string word, .string da, .string dv, .string c.o.f, .string dn] 9
  have hB4 := chain hB3 hA4
  have hC4 := chain hB0 hB4
  have hz4 := hC4.size
  have hz3 := X4.lt
  refine hK.out _ _ (hSB _ hB4) (fun hHeld => ?_)
  clear hK K
  try simp only [Act.put, lsA, lsB, lsC]
  generalize w3.alloc (.cells #[.string word, .string da, .string dv, .string c.o.f, .string dn] 9) = w4 at *
  refine oneL (i := 17) (by kernel_rfl) rfl (fun K hK => ?_)
  go_simp
  refine (impl_line B b l [word, da, dv, c.o.f, dn] w3.heap.size 0 5 w4 (h.below hC4) (sl5 (ps := [word, da, dv, c.o.f, dn]) X4) hz3 (by simp) hlen (by simp) (by omega)).mono ?_
  rintro e w5 ⟨rfl, h5, hB5, hk5⟩
  dsimp only
  have C5 := (C.below hB4).ok hk5 (by have := h.lt; omega) (by decide)
  refine hK.out _ _ ⟨C5.cell 0, C5.cell 1, C5.cell 2, C5.cell 3⟩ (fun hHeld => ?_)
  clear hK K
  try simp only [Act.put, lsA, lsB, lsC]
  refine wpAnyH_done (by kernel_rfl) ?_ _
  go_wp2
  go_end0
  exact ⟨rfl, h5, (hC4.mono hBw).trans hB5, (ok_below hC4).trans hk5⟩
end Go.Proofs.YtigldeccfpkdmaaGreatDoor
namespace Go.Proofs.YtigldeccfpkdmaaGreatDoor
open Go.RowKit Go.Lib
/-- So many zeros. -/
def zs (k : Nat) : ByteArray := ⟨(List.replicate k (0 : UInt8)).toArray⟩
theorem zs_size (k : Nat) : (zs k).size = k := by simp [zs, ByteArray.size]
theorem zs_cells (k : Nat) : (strCells (zs k)).toArray = Builtin.zeroCells #[Value.int .u8 0] k := by
  apply Array.ext'
  apply List.ext_getElem?
  intro j
  by_cases h : j < k
  · simp [strCells, zs, Builtin.zeroCells, h]
    rw [Nat.mod_one]; rfl
  · simp [strCells, zs, Builtin.zeroCells, h]
/-- append(s, make([]byte, k)...) does what append of k zero bytes as a text does. -/
theorem append_zeros {P : Program} (w : World) (t tn u ty e : TypeId) (i : TypeInfo) (kn kq : IntKind) (ht : P.underlying t = some (.slice e)) (htn : P.underlying tn = some (.int kn)) (hu : P.underlying u = some .string) (hi : P.info? e = some i) (hz : i.zero = some (.int .u8 0)) (hsize : i.size = 1) (hby : i.bytes = 1)
    (base : Option Addr) (sLen sCap k : Nat) (hk : 0 < k) (hb : sLen + k ≤ 140737488355328) :
    (Builtin.append_ #[t, tn] ty #[.slice base sLen sCap, .int kq k]).run P w = (Builtin.append_ #[t, u] ty #[.slice base sLen sCap, .string (zs k)]).run P w := by
  have hw : IntKind.i64.wrap (k : Int) = k := by rw [IntKind.wrap_i64]; omega
  have hk0 : k ≠ 0 := by omega
  have hneg : ¬ ((k : Int) < 0) := by omega
  have h48i : ¬ (281474976710656 < (k : Int)) := by omega
  have h63' : ¬ (9223372036854775807 < ((sLen : Int) + (k : Int))) := by omega
  have hf := fun W => run_firstCells_string (P := P) W 1 (zs k)
  rw [zs_size, zs_cells] at hf
  by_cases hn : sLen + k ≤ sCap
  · simp [Builtin.append_, run_underlying ht, run_underlying htn, run_underlying hu, sizeOf, typeInfo, zeroValue, hi, hz, hsize, hby, asInt, asIntOf, hw, Builtin.lenOf, zs_size, hn, hneg, hk0, h48i, hf, Value.cells]
  · simp [Builtin.append_, run_underlying ht, run_underlying htn, run_underlying hu, sizeOf, typeInfo, zeroValue, hi, hz, hsize, hby, asInt, asIntOf, hw, Builtin.lenOf, zs_size, hn, hneg, hk0, h48i, h63', hf, Value.cells]
    have h48' : Builtin.nextslicecap (sLen + k) sCap * 1 ≤ 281474976710656 := growslice_fits (by omega) (by omega)
    have hno : ¬ (281474976710656 < Builtin.nextslicecap (sLen + k) sCap) := by omega
    rw [if_neg hno, if_neg hno]
/-- append(s, make([]byte, k)...) to a row of the call's own, for the walk. -/
theorem wpList_append_zeros {P : Program} (w : World) {ops : Array Oper} {rest : List Oper} {o : Oper} {a : Act} {Q : Exit → Act → World → Prop} (hgd : o.guard = none) (sl x : Operand) (t tn u : TypeId)
    (ho : o.op = .call { callee := .builtin .append, args := #[sl, x], argTypes := #[t, tn] })
    (base : Nat) (e : TypeId) (i : TypeInfo) (kn : IntKind) (ht : P.underlying t = some (.slice e)) (htn : P.underlying tn = some (.int kn)) (hu : P.underlying u = some .string) (hi : P.info? e = some i) (hz : i.zero = some (.int .u8 0))
    (hsize : i.size = 1) (hby : i.bytes = 1)
    (v : Value) (n : Nat) (xs : List Value) (hs : a.eval sl = v) (hown : w.ownsRow base e 1 v n xs) (kq : IntKind) (k : Nat) (hx : a.eval x = .int kq k) (hk : 0 < k)
    (hbytes : n + k ≤ 140737488355328) (hbase : base ≤ w.heap.size)
    (h : ∀ v' w', w'.ownsRow base e 1 v' (n + k) (xs ++ strCells (zs k)) → w.grownBy w' v.ownBlock → wpList P ops Q rest (a.put o.dst v') w') : wpList P ops Q (o :: rest) a w := by
  refine wpList_plain hgd fun K hK => ?_
  obtain ⟨v', w', hr, h2, h3, _⟩ := run_append_own_string (P := P) w base t u o.type e i ht hu hi hz hsize hby v n xs hown (zs k) (by rw [zs_size]; unfold maxLen; omega) (by rw [zs_size]; omega) hbase
  rw [zs_size] at h2
  obtain ⟨b0, l0, c0, rfl⟩ : ∃ b0 l0 c0, v = .slice b0 l0 c0 := by
    rcases hown.2 with ⟨rfl, _⟩ | ⟨g, cap, cur, rfl, _⟩
    · exact ⟨_, _, _, rfl⟩
    · exact ⟨_, _, _, rfl⟩
  have hl0 : l0 + k ≤ 140737488355328 := by
    rcases hown.2 with ⟨e1, _⟩ | ⟨g, cap, cur, e1, _⟩
    · simp at e1; omega
    · simp at e1; omega
  rw [← append_zeros w t tn u o.type e i kn kq ht htn hu hi hz hsize hby b0 l0 c0 k hk hl0] at hr
  unfold Oper.wp execOp
  simp only [ho, resolve, invoke, builtin, Sem.run_bind, Sem.run_pure, Result.andThen_ok, List.map_toArray, List.map_cons, List.map_nil, hs, hx, hr]
  exact hK _ _ (h v' w' h2 h3)
/-- A row of the call's own that holds a text's bytes, as a text. -/
theorem row_text {P : Program} {w : World} {B e : Nat} {v : Value} {n : Nat} {s : ByteArray} (h : w.ownsRow B e 1 v n (strCells s)) (src : TypeId) (hs : P.underlying src = some (.slice e)) (he : P.underlying e = some (.int .u8)) :
    ∀ dst, P.underlying dst = some .string → (convert src dst v).run P w = .ok (.string s) w := by
  intro dst hd
  have hn : n = s.size := by have := h.1; rw [strCells_length] at this; omega
  rcases h.2 with ⟨rfl, h0⟩ | ⟨g, cap, cur, rfl, _, hg, hnc, _, hcs, htk⟩
  · rw [run_convert_bytes_nil w src e hs he 0 0 dst hd]
    have : s.size = 0 := by omega
    obtain ⟨⟨l⟩⟩ := s
    simp [ByteArray.size] at this
    subst this
    rfl
  · have := run_convert_bytes_arg (P := P) w src e hs he g 0 n cap (s.data.toList.map fun b => (b.toNat : Int)) (by rw [List.length_map, Array.length_toList, hn]; rfl) (fun i hi => by
      have h1 : (strCells s)[i]? = some (.int .u8 ((s.data.toList.map fun b => (b.toNat : Int)).getD i 0)) := by
        have hi' : i < s.data.size := by rw [hn] at hi; exact hi
        simp [strCells]
        exact ⟨s.data[i], Array.getElem?_eq_getElem hi', by rw [Array.getElem?_eq_getElem hi']; rfl⟩
      rw [← htk, Nat.mul_one, List.getElem?_take_of_lt hi] at h1
      simp only [World.cell?, hg, Nat.zero_add]
      rw [← h1]; simp) dst hd
    rw [this]
    congr 2
    obtain ⟨⟨l⟩⟩ := s
    simp [strOfNums]
    rw [show ((fun n : Int => UInt8.ofNat n.toNat) ∘ fun b : UInt8 => (b.toNat : Int)) = id from funext fun b => by simp]
    simp
end Go.Proofs.YtigldeccfpkdmaaGreatDoor
namespace Go.Proofs.YtigldeccfpkdmaaGreatDoor
open Go.RowKit Go.BigFrame
def charB (c : UInt8) : Bool := decide (32 ≤ (c.toNat : Int)) && decide ((c.toNat : Int) ≤ 126)
def plainB (d : ByteArray) : Bool := d.data.toList.all charB
def dataOkB (d : ByteArray) : Bool := decide (1 ≤ d.size) && decide (d.size ≤ 20) && plainB d
theorem str_drop (s : ByteArray) (k : Nat) (h : k < s.size) : s.data.toList.drop k = s[k] :: s.data.toList.drop (k + 1) := by
  rw [List.drop_eq_getElem_cons (by simpa using h)]; rfl
set_option maxHeartbeats 400000 in
theorem impl_dataOk (d : ByteArray) (w : World) (hd : d.size ≤ 9223372036854775807) :
    Calls Tryz.prog 163 #[.string d] w fun e w' => e = .returned (.bool (dataOkB d)) ∧ w' = w := by
  by_cases h1 : 1 ≤ d.size ∧ d.size ≤ 20
  · have hfin : Hid (dataOkB d = (d.data.toList.drop 0).all charB) := by show _ = _; simp [dataOkB, plainB, h1]
    obtain ⟨h1, h20⟩ := h1
    go_enter Tryz.func163, Tryz.ntmps163
    go_wp2_with fail
    go_loop [14] (fun ix => ∃ (k : Nat), k ≤ d.size ∧ ix = .int .i64 k ∧ Hid (dataOkB d = (d.data.toList.drop k).all charB)) (fun ix => d.size - (intOf ix).toNat)
    case atStart => exact ⟨0, Nat.zero_le _, rfl, hfin⟩
    case round =>
      obtain ⟨k, hk, rfl, hI⟩ := hrel
      by_cases hlt : k < d.size
      · have hs : Hid (d.data.toList.drop k = d[k] :: d.data.toList.drop (k + 1)) := str_drop d k hlt
        cases hc : charB d[k]
        · have hc' : (d[k].toNat : Int) < 32 ∨ 126 < (d[k].toNat : Int) := by simp [charB] at hc; omega
          go_wp2
          all_goals go_returns
          all_goals go_light
          all_goals (refine ⟨ret_bool ?_, rfl⟩; rw [hI.out, hs.out]; simp [hc])
        · have hc' : 32 ≤ (d[k].toNat : Int) ∧ (d[k].toNat : Int) ≤ 126 := by simp [charB] at hc; omega
          obtain ⟨hc1, hc2⟩ := hc'
          go_wp2
          go_round
          case rel => exact ⟨k + 1, by omega, by go_num, by show _ = _; rw [hI.out, hs.out]; simp [hc]⟩
          case measure => simp [intOf]; omega
      · obtain rfl : k = d.size := by omega
        go_wp2
        go_returns
        go_light
        refine ⟨ret_bool ?_, rfl⟩
        rw [hI.out, List.drop_of_length_le (by simp)]; rfl
  · have hfin : Hid (dataOkB d = false) := by show _ = _; simp [dataOkB]; omega
    go_enter Tryz.func163, Tryz.ntmps163
    go_wp2
    all_goals go_returns
    all_goals go_light
    all_goals exact ⟨ret_bool hfin.out.symm, rfl⟩
/-- SpaceOk's rounds: the size, the first byte that is free, the extents to come. -/
def xgo (size : Int) : Int → List Ex → Bool
  | _, [] => true
  | next, e :: r => dataOkB e.d && decide (next ≤ e.a) && decide (e.a ≤ size + 1 - e.d.size) && xgo size (e.a + e.d.size) r
def spaceOkB (size : Int) (l : List Ex) : Bool := decide (1 ≤ size) && decide (size ≤ 400) && decide (l.length ≤ 60) && xgo size 1 l
/-- The strings of a list are as short as strings are. -/
def Strs (l : List Ex) : Prop := ∀ e ∈ l, e.d.size ≤ 9223372036854775807
theorem Strs.at {l : List Ex} (h : Strs l) {k : Nat} {e : Ex} (he : l[k]? = some e) : e.d.size ≤ 9223372036854775807 := h e (List.mem_of_getElem? he)
set_option maxHeartbeats 1000000 in
theorem impl_SpaceOk (size : Int) (a : Option Addr) (n cap : Nat) (l : List Ex) (w : World) (h : ExsAt w a n l) (hstr : Strs l) (hn : n ≤ 4194304) :
    Calls Tryz.prog 99 #[.int .i64 size, .slice a n cap] w fun e w' => e = .returned (.bool (spaceOkB size l)) ∧ Below w.heap.size w w' := by
  have hlen : Hid (l.length = n) := h.len
  by_cases h0 : 1 ≤ size ∧ size ≤ 400 ∧ n ≤ 60
  · have hfin : Hid (spaceOkB size l = xgo size 1 (l.drop 0)) := by show _ = _; simp [spaceOkB, hlen.out, h0]
    obtain ⟨h1, h400, h60⟩ := h0
    go_enter Tryz.func99, Tryz.ntmps99
    go_wp2_with fail
    go_loopw [5, 21] (fun nx ix wr => ∃ (k : Nat) (next : Int), k ≤ n ∧ ix = .int .i64 k ∧ nx = .int .i64 next ∧ 1 ≤ next ∧ next ≤ 421 ∧ Hid (spaceOkB size l = xgo size next (l.drop k)) ∧ Below w.heap.size w wr) (fun _ ix _ => n - (intOf ix).toNat)
    case atStart => exact ⟨0, 1, Nat.zero_le _, rfl, rfl, by omega, by omega, hfin, Below.refl _ _⟩
    case round =>
      obtain ⟨k, next, hk, rfl, rfl, hx1, hx2, hI, hB⟩ := hrel
      by_cases hlt : k < n
      · obtain ⟨b, o, p, rfl, hp, c0, c1⟩ := exs_at (h.below hB) hlt
        have hd : Hid (l.drop k = p :: l.drop (k + 1)) := drop_at hp
        have hsz := hstr.at hp
        clear hp
        have hwr := hB.size
        cases hdo : dataOkB p.d
        · go_wp2_with fail
          refine (impl_dataOk p.d _ hsz).mono ?_
          rintro e w1 ⟨rfl, rfl⟩
          rw [hdo]
          go_wp2
          go_returns
          go_light
          refine ⟨ret_bool ?_, by go_grown⟩
          rw [hI.out, hd.out]; simp [xgo, hdo]
        · have hd20 : 1 ≤ p.d.size ∧ p.d.size ≤ 20 := by simp [dataOkB] at hdo; exact hdo.1
          obtain ⟨hd1, hd2⟩ := hd20
          by_cases hok : next ≤ p.a ∧ p.a ≤ size + 1 - p.d.size
          · obtain ⟨ha1, ha2⟩ := hok
            go_wp2_with fail
            refine (impl_dataOk p.d _ hsz).mono ?_
            rintro e w1 ⟨rfl, rfl⟩
            rw [hdo]
            go_wp2
            go_roundw
            case rel => exact ⟨k + 1, p.a + p.d.size, by omega, by go_num, by go_num, by omega, by omega, by show _ = _; rw [hI.out, hd.out]; simp [xgo, hdo, ha1, ha2], by go_grown⟩
            case measure => simp [intOf]; omega
          · go_wp2_with fail
            refine (impl_dataOk p.d _ hsz).mono ?_
            rintro e w1 ⟨rfl, rfl⟩
            rw [hdo]
            go_wp2
            all_goals go_returns
            all_goals go_light
            all_goals refine ⟨ret_bool ?_, by go_grown⟩
            all_goals (rw [hI.out, hd.out]; simp [xgo, hdo]; omega)
      · obtain rfl : k = n := by omega
        go_wp2
        go_returns
        go_light
        refine ⟨ret_bool ?_, hB⟩
        rw [hI.out, List.drop_of_length_le (Nat.le_of_eq hlen.out)]; rfl
  · have hfin : Hid (spaceOkB size l = false) := by show _ = _; have := hlen.out; simp [spaceOkB]; omega
    go_enter Tryz.func99, Tryz.ntmps99
    go_wp2
    all_goals go_returns
    all_goals go_light
    all_goals exact ⟨ret_bool hfin.out.symm, Below.refl _ _⟩
end Go.Proofs.YtigldeccfpkdmaaGreatDoor
namespace Go.Proofs.YtigldeccfpkdmaaGreatDoor
open Go.RowKit
theorem flat_len {α : Type} {cs : α → List Value} {sz : Nat} (hsz : ∀ x, (cs x).length = sz) (l : List α) : (l.flatMap cs).length = l.length * sz := by
  induction l with
  | nil => simp
  | cons x r ih => simp [ih, hsz, Nat.add_mul]; omega
theorem flat_at {α : Type} {cs : α → List Value} {sz : Nat} (hsz : ∀ x, (cs x).length = sz) (l : List α) : ∀ {i j : Nat} {x : α} {v : Value}, l[i]? = some x → (cs x)[j]? = some v → (l.flatMap cs)[i * sz + j]? = some v := by
  induction l with
  | nil => intro i j x v h; simp at h
  | cons y r ih =>
    intro i j x v hx hv
    have hj : j < sz := by have := (List.getElem?_eq_some_iff.1 hv).1; rw [hsz] at this; exact this
    rw [List.flatMap_cons]
    cases i with
    | zero =>
      simp at hx
      subst hx
      rw [Nat.zero_mul, Nat.zero_add, List.getElem?_append_left (by rw [hsz]; exact hj)]
      exact hv
    | succ i =>
      simp at hx
      rw [List.getElem?_append_right (by rw [hsz, Nat.add_mul]; omega), hsz]
      have e : (i + 1) * sz + j - sz = i * sz + j := by rw [Nat.add_mul]; omega
      rw [e]
      exact ih hx hv
theorem flat_inv {α : Type} {cs : α → List Value} {sz : Nat} (hsz : ∀ x, (cs x).length = sz) (l : List α) : ∀ {t : Nat} {v : Value}, (l.flatMap cs)[t]? = some v → ∃ i x j, l[i]? = some x ∧ (cs x)[j]? = some v ∧ t = i * sz + j := by
  induction l with
  | nil => intro t v h; simp at h
  | cons y r ih =>
    intro t v h
    rw [List.flatMap_cons] at h
    by_cases ht : t < sz
    · rw [List.getElem?_append_left (by rw [hsz]; exact ht)] at h
      exact ⟨0, y, t, rfl, h, by omega⟩
    · rw [List.getElem?_append_right (by rw [hsz]; omega), hsz] at h
      obtain ⟨i, x, j, h1, h2, h3⟩ := ih h
      exact ⟨i + 1, x, j, by simpa using h1, h2, by rw [Nat.add_mul]; omega⟩
/-- The cells of such a slice, one behind the other. -/
theorem SlAt.src {α : Type} {cs : α → List Value} {sz : Nat} (hsz : ∀ x, (cs x).length = sz) {w : World} {b o n : Nat} {l : List α} (h : SlAt cs sz w (some ⟨b, o, none⟩) n l) :
    ∀ j u, (l.flatMap cs)[j]? = some u → w.cell? ((⟨b, o, none⟩ : Addr).add j) = some u := by
  intro t u hu
  obtain ⟨i, x, j, h1, h2, rfl⟩ := flat_inv hsz l hu
  obtain ⟨b', o', ha, hc⟩ := h.cell i x h1
  obtain ⟨rfl, rfl⟩ : b = b' ∧ o = o' := by simpa using ha
  rw [Addr.add_lit, ← Nat.add_assoc]
  exact hc j u h2
/-- An answer: nil, or a slice at the beginning of a block of the call's own. -/
structure ResAt {α : Type} (cs : α → List Value) (sz : Nat) (t : TypeId) (w : World) (B : Nat) (a : Option Addr) (n cap : Nat) (l : List α) : Prop where
  sl : SlAt cs sz w a n l
  own : (a = none ∧ n = 0 ∧ cap = 0) ∨ ∃ b, a = some ⟨b, 0, none⟩ ∧ B ≤ b ∧ n ≤ cap ∧ cap ≤ maxLen ∧ ∃ c, Blk w b c t ∧ c.size = cap * sz ∧ c.toList.take (n * sz) = l.flatMap cs
theorem ResAt.below {α : Type} {cs : α → List Value} {sz : Nat} {t : TypeId} {w w' : World} {B n cap : Nat} {a : Option Addr} {l : List α} (h : ResAt cs sz t w B a n cap l) (hb : Below w.heap.size w w') : ResAt cs sz t w' B a n cap l := by
  refine ⟨h.sl.below hb, ?_⟩
  rcases h.own with h0 | ⟨b, ha, hB, h1, h2, c, hc, q⟩
  · exact .inl h0
  · exact .inr ⟨b, ha, hB, h1, h2, c, hc.below hb, q⟩
theorem ResAt.mono {α : Type} {cs : α → List Value} {sz : Nat} {t : TypeId} {w : World} {B B' n cap : Nat} {a : Option Addr} {l : List α} (h : ResAt cs sz t w B a n cap l) (hb : B' ≤ B) : ResAt cs sz t w B' a n cap l := by
  refine ⟨h.sl, ?_⟩
  rcases h.own with h0 | ⟨b, ha, hB, q⟩
  · exact .inl h0
  · exact .inr ⟨b, ha, by omega, q⟩
/-- As the append laws want it. -/
theorem ResAt.row {α : Type} {cs : α → List Value} {sz : Nat} {t : TypeId} (hsz : ∀ x, (cs x).length = sz) {w : World} {B n cap : Nat} {a : Option Addr} {l : List α} (h : ResAt cs sz t w B a n cap l) : w.ownsRow B t sz (.slice a n cap) n (l.flatMap cs) := by
  refine ⟨by rw [flat_len hsz, h.sl.len], ?_⟩
  rcases h.own with ⟨rfl, rfl, rfl⟩ | ⟨b, rfl, hB, h1, h2, c, hc, hs, ht⟩
  · exact .inl ⟨rfl, rfl⟩
  · exact .inr ⟨b, cap, c, rfl, hB, hc, h1, h2, hs, ht⟩
theorem res_of_row {α : Type} {cs : α → List Value} {sz : Nat} {t : TypeId} (hsz : ∀ x, (cs x).length = sz) {w : World} {B n : Nat} {v : Value} {l : List α} (hn : l.length = n) (h : w.ownsRow B t sz v n (l.flatMap cs)) :
    ∃ a cap, v = .slice a n cap ∧ ResAt cs sz t w B a n cap l := by
  obtain ⟨_, h⟩ := h
  rcases h with ⟨rfl, rfl⟩ | ⟨g, cap, cur, rfl, hB, hh, h1, h2, hs, ht⟩
  · exact ⟨none, 0, rfl, ⟨hn, fun i x hx => by rw [List.eq_nil_of_length_eq_zero hn] at hx; simp at hx⟩, .inl ⟨rfl, rfl, rfl⟩⟩
  · refine ⟨some ⟨g, 0, none⟩, cap, rfl, ⟨hn, fun i x hx => ⟨g, 0, rfl, fun j u hu => ?_⟩⟩, .inr ⟨g, rfl, hB, h1, h2, cur, hh, hs, ht⟩⟩
    have hb : Blk w g cur t := hh
    rw [hb.cell, Nat.zero_add]
    have hf := flat_at hsz l hx hu
    rw [← ht] at hf
    have hlt : i * sz + j < n * sz := by
      have := (List.getElem?_eq_some_iff.1 hf).1
      simp at this
      omega
    rw [List.getElem?_take_of_lt hlt] at hf
    simpa using hf
theorem ResAt.block {α : Type} {cs : α → List Value} {sz : Nat} {t : TypeId} {w : World} {B n cap : Nat} {a : Option Addr} {l : List α} (h : ResAt cs sz t w B a n cap l) : ∀ ad, a = some ad → B ≤ ad.block ∧ ad.block < w.heap.size := by
  intro ad ha
  rcases h.own with ⟨rfl, _⟩ | ⟨b, rfl, hB, _, _, c, hc, _⟩
  · cases ha
  · cases ha
    exact ⟨hB, hc.lt⟩
end Go.Proofs.YtigldeccfpkdmaaGreatDoor
