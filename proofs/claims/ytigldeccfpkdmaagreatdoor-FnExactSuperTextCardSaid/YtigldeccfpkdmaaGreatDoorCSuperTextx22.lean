/- A count that a writer writes. -/
import Derived.Test.YtigldeccfpkdmaaGreatDoorCSuperTextx04
import Derived.Test.YtigldeccfpkdmaaGreatDoorCSuperTextx21
namespace Go.Proofs.YtigldeccfpkdmaaGreatDoor
open Go Go.RowKit Go.BigFrame Go.Shelf
theorem tab_low {w w' : World} {B : Nat} (h : TabP w) (hb : Below B w w') (hg : 9 ≤ B) : TabP w' := by
  unfold TabP Lib.TabIs World.var? at h ⊢
  have hgl : Tryz.prog.globalNamed "internal/strconv.uint64pow10" = some 2 := by kernel_rfl
  rw [hgl] at h ⊢
  simp only [Option.bind_some] at h ⊢
  rw [hb.block _ (by omega)]
  exact h
theorem sl5 {w : World} {b : Nat} {t : TypeId} {ps : List ByteArray} (h : Blk w b (ps.map Value.string).toArray t) : ∀ (j : Nat) x, ps[j]? = some x → w.cell? ⟨b, 0 + j, none⟩ = some (.string x) := fun j x hx => by
  rw [Nat.zero_add, h.cell]
  simp [hx]
theorem Blk.ok {w w' : World} {k b : Nat} {c : Array Value} {t : TypeId} (h : Blk w k c t) (hk : Lib.OthersKept 5 (some b) w w') (hb : k ≠ b) (ht : t ≠ 5) : Blk w' k c t := hk k _ h (by simpa using hb) (fun c' fz e => by cases e; exact ht rfl)
theorem Wr.lt {B b : Nat} {l : List UInt8} {w : World} (h : Wr B b l w) : b < w.heap.size := by
  obtain ⟨⟨_, v, h2, _⟩ | ⟨_, v, h2, _⟩⟩ := h
  · exact (Array.getElem?_eq_some_iff.1 h2).1
  · exact (Array.getElem?_eq_some_iff.1 h2).1
/-- What a count's line says. -/
def ctL (word : ByteArray) (c : Ct) : List ByteArray := [word, decB c.o.a, decB c.o.v, c.o.f, decB c.n]
/-- Numbers as small as those of right pools. -/
def Num (n : Int) : Prop := -1000000000000 < n ∧ n < 1000000000000
set_option maxHeartbeats 4000000 in
set_option maxRecDepth 100000 in
theorem impl_counted (B b : Nat) (l : List UInt8) (word : ByteArray) (c : Ct) (w : World) (h : Wr B b l w) (ht : TabP w) (hg : 9 ≤ B) (hBw : B ≤ w.heap.size) (n1 : Num c.o.a) (n2 : Num c.o.v) (n3 : Num c.n) (hlen : l.length + (lineL (ctL word c)).length ≤ 1000000) :
    Calls Tryz.prog 129 #[.pointer (some ⟨b, 0, none⟩), .string word, .agg #[.int .i64 c.o.a, .int .i64 c.o.v, .string c.o.f, .int .i64 c.n]] w fun e w' => e = .returned (.tuple #[]) ∧ Wr B b (l ++ lineL (ctL word c)) w' ∧ Below B w w' ∧ Lib.OthersKept 5 (some b) w w' := by
  obtain ⟨a1, a2⟩ := n1
  obtain ⟨b1, b2⟩ := n2
  obtain ⟨c1, c2⟩ := n3
  obtain ⟨da, hda⟩ : ∃ x, decB c.o.a = x := ⟨_, rfl⟩
  obtain ⟨dv, hdv⟩ : ∃ x, decB c.o.v = x := ⟨_, rfl⟩
  obtain ⟨dn, hdn⟩ : ∃ x, decB c.n = x := ⟨_, rfl⟩
  have hct : ctL word c = [word, da, dv, c.o.f, dn] := by unfold ctL; rw [hda, hdv, hdn]
  rw [hct] at hlen ⊢
  have C := Blk.new w #[.int .i64 c.o.a, .int .i64 c.o.v, .string c.o.f, .int .i64 c.n] 134
  have hB0 : Below w.heap.size w (w.alloc (.cells #[.int .i64 c.o.a, .int .i64 c.o.v, .string c.o.f, .int .i64 c.n] 134)) := (Below.refl _ _).alloc (Nat.le_refl _) _
  go_enter Tryz.func129, Tryz.ntmps129
  go_wp2_with fail
  generalize w.alloc (.cells #[.int .i64 c.o.a, .int .i64 c.o.v, .string c.o.f, .int .i64 c.n] 134) = W at *
  have hB0d : Below w.heap.size w W.drew := hB0.drew
  have hSB : ∀ u : World, Below W.heap.size W u → u.cell? ⟨w.heap.size, 0, none⟩ = some (.int .i64 c.o.a) ∧ u.cell? ⟨w.heap.size, 1, none⟩ = some (.int .i64 c.o.v) ∧ u.cell? ⟨w.heap.size, 2, none⟩ = some (.string c.o.f) ∧ u.cell? ⟨w.heap.size, 3, none⟩ = some (.int .i64 c.n) := fun u hu => ⟨(C.below hu).cell 0, (C.below hu).cell 1, (C.below hu).cell 2, (C.below hu).cell 3⟩
  have hS0 : (fun u : World => u.cell? ⟨w.heap.size, 0, none⟩ = some (.int .i64 c.o.a) ∧ u.cell? ⟨w.heap.size, 1, none⟩ = some (.int .i64 c.o.v) ∧ u.cell? ⟨w.heap.size, 2, none⟩ = some (.string c.o.f) ∧ u.cell? ⟨w.heap.size, 3, none⟩ = some (.int .i64 c.n)) W.drew := (hSB _ (Below.refl _ W).drew)
  refine wp_region_heldX (S := (fun u : World => u.cell? ⟨w.heap.size, 0, none⟩ = some (.int .i64 c.o.a) ∧ u.cell? ⟨w.heap.size, 1, none⟩ = some (.int .i64 c.o.v) ∧ u.cell? ⟨w.heap.size, 2, none⟩ = some (.string c.o.f) ∧ u.cell? ⟨w.heap.size, 3, none⟩ = some (.int .i64 c.n))) 18 (by kernel_rfl) rfl ?_
  refine takeL (i := 0) (v := ?vt101) rfl (by kernel_rfl) (by kernel_rfl) (by kernel_rfl) (fun _ _ _ h => h) (Or.inl ⟨by rfl, ?hyt101⟩) (by assumption) ?restt101
  case hyt101 => (intro u hu; obtain ⟨u0, u1, u2, u3⟩ := hu; go_simp <;> with_reducible rfl)
  try simp only [Act.put, lsA, lsB, lsC]
  refine takeL (i := 1) (v := ?vt102) rfl (by kernel_rfl) (by kernel_rfl) (by kernel_rfl) (fun _ _ _ h => h) (Or.inl ⟨by rfl, ?hyt102⟩) (by assumption) ?restt102
  case hyt102 => (intro u hu; obtain ⟨u0, u1, u2, u3⟩ := hu; go_simp <;> with_reducible rfl)
  try simp only [Act.put, lsA, lsB, lsC]
  refine takeL (i := 2) (v := ?vt103) rfl (by kernel_rfl) (by kernel_rfl) (by kernel_rfl) (fun _ _ _ h => h) (Or.inl ⟨by rfl, ?hyt103⟩) (by assumption) ?restt103
  case hyt103 => (intro u hu; obtain ⟨u0, u1, u2, u3⟩ := hu; go_simp <;> with_reducible rfl)
  try simp only [Act.put, lsA, lsB, lsC]
  refine takeL (i := 3) (v := ?vt104) rfl (by kernel_rfl) (by kernel_rfl) (by kernel_rfl) (fun _ _ _ h => h) (Or.inl ⟨by rfl, ?hyt104⟩) (by assumption) ?restt104
  case hyt104 => (intro u hu; obtain ⟨u0, u1, u2, u3⟩ := hu; go_simp <;> with_reducible rfl)
  try simp only [Act.put, lsA, lsB, lsC]
  refine takeL (i := 4) (v := ?vt105) rfl (by kernel_rfl) (by kernel_rfl) (by kernel_rfl) (fun _ _ _ h => h) (Or.inl ⟨by rfl, ?hyt105⟩) (by assumption) ?restt105
  case hyt105 => (intro u hu; obtain ⟨u0, u1, u2, u3⟩ := hu; go_simp <;> with_reducible rfl)
  try simp only [Act.put, lsA, lsB, lsC]
  refine takeL (i := 6) (v := ?vt106) rfl (by kernel_rfl) (by kernel_rfl) (by kernel_rfl) (fun _ _ _ h => h) (Or.inl ⟨by rfl, ?hyt106⟩) (by assumption) ?restt106
  case hyt106 => (intro u hu; obtain ⟨u0, u1, u2, u3⟩ := hu; go_simp <;> with_reducible rfl)
  try simp only [Act.put, lsA, lsB, lsC]
  refine takeL (i := 7) (v := ?vt107) rfl (by kernel_rfl) (by kernel_rfl) (by kernel_rfl) (fun _ _ _ h => h) (Or.inl ⟨by rfl, ?hyt107⟩) (by assumption) ?restt107
  case hyt107 => (intro u hu; obtain ⟨u0, u1, u2, u3⟩ := hu; go_simp <;> with_reducible rfl)
  try simp only [Act.put, lsA, lsB, lsC]
  refine takeL (i := 8) (v := ?vt108) rfl (by kernel_rfl) (by kernel_rfl) (by kernel_rfl) (fun _ _ _ h => h) (Or.inl ⟨by rfl, ?hyt108⟩) (by assumption) ?restt108
  case hyt108 => (intro u hu; obtain ⟨u0, u1, u2, u3⟩ := hu; go_simp <;> with_reducible rfl)
  try simp only [Act.put, lsA, lsB, lsC]
  refine takeL (i := 10) (v := ?vt109) rfl (by kernel_rfl) (by kernel_rfl) (by kernel_rfl) (fun _ _ _ h => h) (Or.inl ⟨by rfl, ?hyt109⟩) (by assumption) ?restt109
  case hyt109 => (intro u hu; obtain ⟨u0, u1, u2, u3⟩ := hu; go_simp <;> with_reducible rfl)
  try simp only [Act.put, lsA, lsB, lsC]
  refine takeL (i := 11) (v := ?vt110) rfl (by kernel_rfl) (by kernel_rfl) (by kernel_rfl) (fun _ _ _ h => h) (Or.inl ⟨by rfl, ?hyt110⟩) (by assumption) ?restt110
  case hyt110 => (intro u hu; obtain ⟨u0, u1, u2, u3⟩ := hu; go_simp <;> with_reducible rfl)
  try simp only [Act.put, lsA, lsB, lsC]
  refine takeL (i := 12) (v := ?vt111) rfl (by kernel_rfl) (by kernel_rfl) (by kernel_rfl) (fun _ _ _ h => h) (Or.inl ⟨by rfl, ?hyt111⟩) (by assumption) ?restt111
  case hyt111 => (intro u hu; obtain ⟨u0, u1, u2, u3⟩ := hu; go_simp <;> with_reducible rfl)
  try simp only [Act.put, lsA, lsB, lsC]
  refine takeL (i := 13) (v := ?vt112) rfl (by kernel_rfl) (by kernel_rfl) (by kernel_rfl) (fun _ _ _ h => h) (Or.inl ⟨by rfl, ?hyt112⟩) (by assumption) ?restt112
  case hyt112 => (intro u hu; obtain ⟨u0, u1, u2, u3⟩ := hu; go_simp <;> with_reducible rfl)
  try simp only [Act.put, lsA, lsB, lsC]
  refine takeL (i := 14) (v := ?vt113) rfl (by kernel_rfl) (by kernel_rfl) (by kernel_rfl) (fun _ _ _ h => h) (Or.inl ⟨by rfl, ?hyt113⟩) (by assumption) ?restt113
  case hyt113 => (intro u hu; obtain ⟨u0, u1, u2, u3⟩ := hu; go_simp <;> with_reducible rfl)
  try simp only [Act.put, lsA, lsB, lsC]
  refine oneL (i := 5) (by kernel_rfl) rfl (fun K hK => ?_)
  go_simp
  refine (impl_decimal c.o.a W.drew (by omega) (by omega) (tab_low ht (hB0d.mono hBw) hg)).mono ?_
  rintro e w1 ⟨rfl, hB1'⟩
  rw [hda]
  have hB1 : Below W.heap.size W w1 := chain (Below.refl _ W).drew hB1'
  have hC1 := chain hB0 hB1
  dsimp only
  refine hK.out _ _ (hSB _ hB1) (fun hHeld => ?_)
  clear hK K
  try simp only [Act.put, lsA, lsB, lsC]
  refine oneL (i := 9) (by kernel_rfl) rfl (fun K hK => ?_)
  go_simp
  refine (impl_decimal c.o.v w1 (by omega) (by omega) (tab_low ht (hC1.mono hBw) hg)).mono ?_
  rintro e w2 ⟨rfl, hB2'⟩
  rw [hdv]
  have hB2 := chain hB1 hB2'
  have hC2 := chain hB0 hB2
  dsimp only
  refine hK.out _ _ (hSB _ hB2) (fun hHeld => ?_)
  clear hK K
  try simp only [Act.put, lsA, lsB, lsC]
  refine oneL (i := 15) (by kernel_rfl) rfl (fun K hK => ?_)
  go_simp
  refine (impl_decimal c.n w2 (by omega) (by omega) (tab_low ht (hC2.mono hBw) hg)).mono ?_
  rintro e w3 ⟨rfl, hB3'⟩
  rw [hdn]
  have hB3 := chain hB2 hB3'
  have hC3 := chain hB0 hB3
  dsimp only
  refine hK.out _ _ (hSB _ hB3) (fun hHeld => ?_)
  clear hK K
  try simp only [Act.put, lsA, lsB, lsC]
  refine oneL (i := 16) (by kernel_rfl) rfl (fun K hK => ?_)
  go_simp
  have hA4 : Below w3.heap.size w3 (w3.alloc (.cells #[.string word, .string da, .string dv, .string c.o.f, .string dn] 9)) := (Below.refl _ _).alloc (Nat.le_refl _) _
  have X4 := Blk.new w3 #[.string word, .string da, .string dv, .string c.o.f, .string dn] 9
  have hB4 := chain hB3 hA4
  have hC4 := chain hB0 hB4
  have hz4 := hC4.size
  have hz3 := X4.lt
  refine hK.out _ _ (hSB _ hB4) (fun hHeld => ?_)
  clear hK K
  try simp only [Act.put, lsA, lsB, lsC]
  generalize w3.alloc (.cells #[.string word, .string da, .string dv, .string c.o.f, .string dn] 9) = w4 at *
  refine oneL (i := 17) (by kernel_rfl) rfl (fun K hK => ?_)
  go_simp
  refine (impl_line B b l [word, da, dv, c.o.f, dn] w3.heap.size 0 5 w4 (h.below hC4) (sl5 (ps := [word, da, dv, c.o.f, dn]) X4) hz3 (by simp) hlen (by simp) (by omega)).mono ?_
  rintro e w5 ⟨rfl, h5, hB5, hk5⟩
  dsimp only
  have C5 := (C.below hB4).ok hk5 (by have := h.lt; omega) (by decide)
  refine hK.out _ _ ⟨C5.cell 0, C5.cell 1, C5.cell 2, C5.cell 3⟩ (fun hHeld => ?_)
  clear hK K
  try simp only [Act.put, lsA, lsB, lsC]
  refine wpAnyH_done (by kernel_rfl) ?_ _
  go_wp2
  go_end0
  exact ⟨rfl, h5, (hC4.mono hBw).trans hB5, (ok_below hC4).trans hk5⟩
end Go.Proofs.YtigldeccfpkdmaaGreatDoor
