/- The laws' sizes, copies and comparisons of owners and counts. -/
import Derived.Test.YtbmkedickkpjjaaProg
import Derived.Test.YtbmkedickkpjjaaNf
import Derived.Laws.Rows
namespace Go.Proofs.Ytbmkedickkpjjaa
open Go.RowKit Go.BigFrame

theorem laws_toOwner (p : Ow) (w : World) :
    Calls Try.prog 96 #[.agg #[.int .i64 p.a, .int .i64 p.v, .string p.f]] w fun e w' => e = .returned (.agg #[.int .i64 p.a, .int .i64 p.v, .string p.f]) ∧ Below w.heap.size w w' := by
  obtain ⟨a, v, f⟩ := p
  go_enter Try.func96, Try.ntmps96
  go_wp2
  go_returns
  go_light
  refine ⟨rfl, by go_grown⟩

theorem box443 {w w1 : World} {x y z u : Value} {c d : Array Value} {t t1 t2 : TypeId} (hb : Below (((w.alloc (.cells #[x, y, z, u] t)).alloc (.cells c t1)).alloc (.cells d t2)).heap.size (((w.alloc (.cells #[x, y, z, u] t)).alloc (.cells c t1)).alloc (.cells d t2)) w1) :
    w1.cell? ⟨w.heap.size, 3, none⟩ = some u ∧ Blk w1 (w.heap.size + 1) c t1 ∧ Blk w1 (w.heap.size + 1 + 1) d t2 ∧ Below w.heap.size w w1 := by
  refine ⟨bcell hb (acell _ (acell _ (World.cell?_alloc_new _ _ _ 3))), ?_, ?_, chain (by go_grown) hb⟩
  · have := ((Blk.new (w.alloc (.cells #[x, y, z, u] t)) c t1).alloc (.cells d t2)).below hb
    simpa using this
  · have := (Blk.new ((w.alloc (.cells #[x, y, z, u] t)).alloc (.cells c t1)) d t2).below hb
    simpa using this

theorem Blk.other {w : World} {b : Nat} {c : Array Value} {t : TypeId} (h : Blk w b c t) (p : Addr) (v : Value) (hp : b ≠ p.block) : Blk (w.setCell p v) b c t := by
  unfold Blk at *; rw [Below.heap_setCell _ _ _ _ (by simpa using hp)]; exact h

set_option maxHeartbeats 1000000 in
theorem laws_toCounted (p : Ct) (w : World) :
    Calls Try.prog 158 #[.agg #[.int .i64 p.o.a, .int .i64 p.o.v, .string p.o.f, .int .i64 p.n]] w fun e w' => e = .returned (.agg #[.int .i64 p.o.a, .int .i64 p.o.v, .string p.o.f, .int .i64 p.n]) ∧ Below w.heap.size w w' := by
  obtain ⟨⟨a, v, f⟩, n⟩ := p
  go_enter Try.func158, Try.ntmps158
  go_wp2_with fail
  refine (laws_toOwner ⟨a, v, f⟩ _).mono ?_
  rintro e w1 ⟨rfl, hB1⟩
  obtain ⟨c3, hb2, hb1, hB2⟩ := box443 hB1
  clear hB1
  have g0 := hb2.frozen 0
  have g1 := hb2.frozen 1
  have g2 := hb2.frozen 2
  have g3 := hb2.frozen 3
  have z0 : w1.cell? ⟨w.heap.size + 1, 0, none⟩ = some (.int .i64 0) := hb2.cell 0
  have z1 : w1.cell? ⟨w.heap.size + 1, 1, none⟩ = some (.int .i64 0) := hb2.cell 1
  have z2 : w1.cell? ⟨w.heap.size + 1, 2, none⟩ = some (.string ⟨#[]⟩) := hb2.cell 2
  have z3 : w1.cell? ⟨w.heap.size + 1, 3, none⟩ = some (.int .i64 0) := hb2.cell 3
  have f0 := hb1.frozen 0
  have f1 := hb1.frozen 1
  have f2 := hb1.frozen 2
  have f3 := hb1.frozen 3
  have y0 : w1.cell? ⟨w.heap.size + 1 + 1, 0, none⟩ = some (.int .i64 0) := hb1.cell 0
  have y1 : w1.cell? ⟨w.heap.size + 1 + 1, 1, none⟩ = some (.int .i64 0) := hb1.cell 1
  have y2 : w1.cell? ⟨w.heap.size + 1 + 1, 2, none⟩ = some (.string ⟨#[]⟩) := hb1.cell 2
  have y3 : w1.cell? ⟨w.heap.size + 1 + 1, 3, none⟩ = some (.int .i64 0) := hb1.cell 3
  have hW4 : Blk ((((w1.setCell ⟨w.heap.size + 1 + 1, 0, none⟩ (.int .i64 a)).setCell ⟨w.heap.size + 1 + 1, 1, none⟩ (.int .i64 v)).setCell ⟨w.heap.size + 1 + 1, 2, none⟩ (.string f)).setCell ⟨w.heap.size + 1 + 1, 3, none⟩ (.int .i64 n)) (w.heap.size + 1) #[.int .i64 0, .int .i64 0, .string ⟨#[]⟩, .int .i64 0] 66 :=
    (((hb2.other ⟨w.heap.size + 1 + 1, 0, none⟩ (.int .i64 a) (by simp)).other ⟨w.heap.size + 1 + 1, 1, none⟩ (.int .i64 v) (by simp)).other ⟨w.heap.size + 1 + 1, 2, none⟩ (.string f) (by simp)).other ⟨w.heap.size + 1 + 1, 3, none⟩ (.int .i64 n) (by simp)
  have hBW : Below w.heap.size w ((((((((w1.setCell ⟨w.heap.size + 1 + 1, 0, none⟩ (.int .i64 a)).setCell ⟨w.heap.size + 1 + 1, 1, none⟩ (.int .i64 v)).setCell ⟨w.heap.size + 1 + 1, 2, none⟩ (.string f)).setCell ⟨w.heap.size + 1 + 1, 3, none⟩ (.int .i64 n)).setCell ⟨w.heap.size + 1, 0, none⟩ (.int .i64 a)).setCell ⟨w.heap.size + 1, 1, none⟩ (.int .i64 v)).setCell ⟨w.heap.size + 1, 2, none⟩ (.string f)).setCell ⟨w.heap.size + 1, 3, none⟩ (.int .i64 n)) := by
    refine (((((((hB2.setCell ?_ _).setCell ?_ _).setCell ?_ _).setCell ?_ _).setCell ?_ _).setCell ?_ _).setCell ?_ _).setCell ?_ _
    all_goals (simp; try omega)
  have hW : Blk ((((((((w1.setCell ⟨w.heap.size + 1 + 1, 0, none⟩ (.int .i64 a)).setCell ⟨w.heap.size + 1 + 1, 1, none⟩ (.int .i64 v)).setCell ⟨w.heap.size + 1 + 1, 2, none⟩ (.string f)).setCell ⟨w.heap.size + 1 + 1, 3, none⟩ (.int .i64 n)).setCell ⟨w.heap.size + 1, 0, none⟩ (.int .i64 a)).setCell ⟨w.heap.size + 1, 1, none⟩ (.int .i64 v)).setCell ⟨w.heap.size + 1, 2, none⟩ (.string f)).setCell ⟨w.heap.size + 1, 3, none⟩ (.int .i64 n)) (w.heap.size + 1) #[.int .i64 a, .int .i64 v, .string f, .int .i64 n] 66 := by
    have := (((hW4.set 0 (.int .i64 a)).set 1 (.int .i64 v)).set 2 (.string f)).set 3 (.int .i64 n)
    simpa using this
  clear hb1 hb2 hW4
  go_wp2
  generalize ((((((((w1.setCell ⟨w.heap.size + 1 + 1, 0, none⟩ (.int .i64 a)).setCell ⟨w.heap.size + 1 + 1, 1, none⟩ (.int .i64 v)).setCell ⟨w.heap.size + 1 + 1, 2, none⟩ (.string f)).setCell ⟨w.heap.size + 1 + 1, 3, none⟩ (.int .i64 n)).setCell ⟨w.heap.size + 1, 0, none⟩ (.int .i64 a)).setCell ⟨w.heap.size + 1, 1, none⟩ (.int .i64 v)).setCell ⟨w.heap.size + 1, 2, none⟩ (.string f)).setCell ⟨w.heap.size + 1, 3, none⟩ (.int .i64 n)) = W8 at *
  refine bodyPost_ret (results_cell_row rfl _ W8 (w.heap.size + 1) _ _ _ _ rfl hW Try.underlying66 rfl (by kernel_rfl)) rfl ?_
  exact ⟨rfl, hBW⟩

theorem laws_eqOwner (p q : Ow) (w : World) :
    Calls Try.prog 177 #[.agg #[.int .i64 p.a, .int .i64 p.v, .string p.f], .agg #[.int .i64 q.a, .int .i64 q.v, .string q.f]] w fun e w' => e = .returned (.bool (owEq p q)) ∧ Below w.heap.size w w' := by
  obtain ⟨a, v, f⟩ := p
  obtain ⟨b, u, g⟩ := q
  go_enter Try.func177, Try.ntmps177
  go_wp2
  all_goals go_returns
  all_goals go_light
  all_goals refine ⟨?_, by go_grown⟩
  all_goals simp_all [owEq]

def eqCt (p q : Ct) : Bool := owEq p.o q.o && p.n == q.n

theorem laws_eqCounted (p q : Ct) (w : World) :
    Calls Try.prog 159 #[.agg #[.int .i64 p.o.a, .int .i64 p.o.v, .string p.o.f, .int .i64 p.n], .agg #[.int .i64 q.o.a, .int .i64 q.o.v, .string q.o.f, .int .i64 q.n]] w fun e w' => e = .returned (.bool (eqCt p q)) ∧ Below w.heap.size w w' := by
  cases he : owEq p.o q.o
  all_goals
    have hfin : Hid (eqCt p q = (owEq p.o q.o && p.n == q.n)) := rfl
    generalize eqCt p q = R at *
    obtain ⟨⟨a, v, f⟩, n⟩ := p
    obtain ⟨⟨b, u, g⟩, m⟩ := q
    simp only at *
    go_enter Try.func159, Try.ntmps159
    go_wp2_with fail
    refine (laws_eqOwner ⟨a, v, f⟩ ⟨b, u, g⟩ _).mono ?_
    rintro e w1 ⟨rfl, hB1⟩
    rw [he]
    have c3 : w1.cell? ⟨w.heap.size, 3, none⟩ = some (.int .i64 n) := bcell hB1 (acell _ (by simp))
    have d3 : w1.cell? ⟨w.heap.size + 1, 3, none⟩ = some (.int .i64 m) := bcell hB1 (by simp)
    have hB2 : Below w.heap.size w w1 := chain (by go_grown) hB1
    clear hB1
  · go_wp2
    go_returns
    go_light
    exact ⟨ret_bool (by rw [hfin.out, he]; rfl), hB2⟩
  · go_wp2
    all_goals go_returns
    all_goals go_light
    all_goals refine ⟨ret_bool ?_, hB2⟩
    all_goals (rw [hfin.out, he]; simp_all)

theorem laws_szOwner (p : Ow) (left : Int) (w : World) (h0 : 0 ≤ left) (h1 : left ≤ 1048576) (hd : p.f.size ≤ 9223372036854775807) :
    Calls Try.prog 95 #[.agg #[.int .i64 p.a, .int .i64 p.v, .string p.f], .int .i64 left] w fun e w' => e = .returned (.int .i64 (if left - p.f.size < 0 then -1 else left - p.f.size)) ∧ Below w.heap.size w w' := by
  obtain ⟨a, v, d⟩ := p
  simp only at hd ⊢
  by_cases h : left - (d.size : Int) < 0
  · rw [if_pos h]
    go_enter Try.func95, Try.ntmps95
    go_wp2
    go_returns
    go_light
    exact ⟨rfl, by go_grown⟩
  · rw [if_neg h]
    go_enter Try.func95, Try.ntmps95
    go_wp2
    go_returns
    go_light
    exact ⟨rfl, by go_grown⟩
end Go.Proofs.Ytbmkedickkpjjaa
