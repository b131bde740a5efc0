/- At every op the program's OpOk answers as its model does: no condition. -/
import Derived.Test.YtbjejnkeekndbaaRows
import Derived.Test.YtbjejnkeekndbaaKg
import Derived.Test.YtbjejnkeekndbaaKf
import Derived.Test.YtbjejnkeekndbaaKp
import Derived.Lib.SmallJoins
namespace Go.Proofs.Ytbjejnkeekndbaa
open Go.ChangeShapes Go.WideShapes Go.ChangeAt Go.RowKit Go.Deep Go.Joins

set_option maxHeartbeats 2000000 in
set_option maxRecDepth 100000 in
theorem laws_toOp (k : Int) (vol file tt into : ByteArray) (at' fr ln : Int) (data : ByteArray) (w : World) :
    Calls Try.prog 77 #[.agg #[.int .i64 k, .string vol, .string file, .string tt, .string into, .int .i64 at', .int .i64 fr, .int .i64 ln, .string data]] w fun e w' => e = .returned (.agg #[.int .i64 k, .string vol, .string file, .string tt, .string into, .int .i64 at', .int .i64 fr, .int .i64 ln, .string data]) ∧ Below w.heap.size w w' := by
  go_enter Try.func77, Try.ntmps77
  go_wp2
  go_returns
  go_light
  exact ⟨rfl, by go_grown⟩

set_option maxHeartbeats 2000000 in
set_option maxRecDepth 100000 in
theorem laws_szOp (k : Int) (vol file tt into : ByteArray) (at' fr ln : Int) (data : ByteArray) (w : World) (hs : StrO ⟨k, vol, file, tt, into, at', fr, ln, data⟩) :
    Calls Try.prog 75 #[.agg #[.int .i64 k, .string vol, .string file, .string tt, .string into, .int .i64 at', .int .i64 fr, .int .i64 ln, .string data], .int .i64 1048576] w fun e w' => (∃ r : Int, e = .returned (.int .i64 r)) ∧ Below w.heap.size w w' := by
  have hv := hs.vol
  have hf := hs.file
  have ht := hs.to
  have hi := hs.into
  have hd := hs.data
  dsimp only at hv hf ht hi hd
  clear hs
  go_enter Try.func75, Try.ntmps75
  go_wp2
  all_goals go_returns
  all_goals go_light
  all_goals exact ⟨⟨_, rfl⟩, by go_grown⟩

set_option maxHeartbeats 2000000 in
set_option maxRecDepth 100000 in
theorem walkOpOk (k : Int) (vol file tt into : ByteArray) (at' fr ln : Int) (data : ByteArray) (w : World) (hs : StrO ⟨k, vol, file, tt, into, at', fr, ln, data⟩) :
    Calls Try.prog 15 #[.agg #[.int .i64 k, .string vol, .string file, .string tt, .string into, .int .i64 at', .int .i64 fr, .int .i64 ln, .string data]] w fun e w' => e = .returned (.bool true) ∧ Below w.heap.size w w' := by
  have hbb : (opB ⟨k, vol, file, tt, into, at', fr, ln, data⟩ != opB ⟨k, vol, file, tt, into, at', fr, ln, data⟩) = false := by simp
  have hS := fun W => spec_OpOk ⟨k, vol, file, tt, into, at', fr, ln, data⟩ W hs
  have hI := fun W => impl_OpOk ⟨k, vol, file, tt, into, at', fr, ln, data⟩ W hs
  have hZ := fun W => laws_szOp k vol file tt into at' fr ln data W hs
  dsimp only at hS hI
  generalize opB ⟨k, vol, file, tt, into, at', fr, ln, data⟩ = R at *
  clear hs
  go_enter Try.func15, Try.ntmps15
  go_wp2_with fail
  refine (hZ _).mono ?_
  rintro e w1 ⟨⟨r, rfl⟩, hB1⟩
  have d0 : w1.cell? ⟨w.heap.size, 0, none⟩ = some (.int .i64 k) := bcell hB1 (World.cell?_alloc_new _ _ _ 0)
  have d1 : w1.cell? ⟨w.heap.size, 1, none⟩ = some (.string vol) := bcell hB1 (World.cell?_alloc_new _ _ _ 1)
  have d2 : w1.cell? ⟨w.heap.size, 2, none⟩ = some (.string file) := bcell hB1 (World.cell?_alloc_new _ _ _ 2)
  have d3 : w1.cell? ⟨w.heap.size, 3, none⟩ = some (.string tt) := bcell hB1 (World.cell?_alloc_new _ _ _ 3)
  have d4 : w1.cell? ⟨w.heap.size, 4, none⟩ = some (.string into) := bcell hB1 (World.cell?_alloc_new _ _ _ 4)
  have d5 : w1.cell? ⟨w.heap.size, 5, none⟩ = some (.int .i64 at') := bcell hB1 (World.cell?_alloc_new _ _ _ 5)
  have d6 : w1.cell? ⟨w.heap.size, 6, none⟩ = some (.int .i64 fr) := bcell hB1 (World.cell?_alloc_new _ _ _ 6)
  have d7 : w1.cell? ⟨w.heap.size, 7, none⟩ = some (.int .i64 ln) := bcell hB1 (World.cell?_alloc_new _ _ _ 7)
  have d8 : w1.cell? ⟨w.heap.size, 8, none⟩ = some (.string data) := bcell hB1 (World.cell?_alloc_new _ _ _ 8)
  have hB1' : Below w.heap.size w w1 := chain (by go_grown) hB1
  clear hB1
  by_cases hr : r < 0
  · go_wp2
    go_returns
    exact ⟨rfl, hB1'⟩
  · go_wp2_with fail
    refine (laws_toOp k vol file tt into at' fr ln data _).mono ?_
    rintro e w2 ⟨rfl, hB2⟩
    replace d0 := bcell hB2 d0
    replace d1 := bcell hB2 d1
    replace d2 := bcell hB2 d2
    replace d3 := bcell hB2 d3
    replace d4 := bcell hB2 d4
    replace d5 := bcell hB2 d5
    replace d6 := bcell hB2 d6
    replace d7 := bcell hB2 d7
    replace d8 := bcell hB2 d8
    replace hB2 := chain hB1' hB2
    go_wp2_with fail
    refine (hS _).mono ?_
    rintro e w3 ⟨rfl, hB3⟩
    replace d0 := bcell hB3 d0
    replace d1 := bcell hB3 d1
    replace d2 := bcell hB3 d2
    replace d3 := bcell hB3 d3
    replace d4 := bcell hB3 d4
    replace d5 := bcell hB3 d5
    replace d6 := bcell hB3 d6
    replace d7 := bcell hB3 d7
    replace d8 := bcell hB3 d8
    replace hB3 := chain hB2 hB3
    go_wp2_with fail
    refine (laws_toOp k vol file tt into at' fr ln data _).mono ?_
    rintro e w4 ⟨rfl, hB4⟩
    replace hB4 := chain hB3 hB4
    go_wp2_with fail
    refine (hI _).mono ?_
    rintro e w5 ⟨rfl, hB5⟩
    replace hB5 := chain hB4 hB5
    go_wp2
    go_returns
    exact ⟨rfl, hB5⟩

set_option maxRecDepth 100000 in
theorem array9 {α : Type} {cs : Array α} (h : cs.size = 9) : ∃ c0 c1 c2 c3 c4 c5 c6 c7 c8, cs = #[c0, c1, c2, c3, c4, c5, c6, c7, c8] := by
  obtain ⟨l⟩ := cs
  match l, h with
  | [c0, c1, c2, c3, c4, c5, c6, c7, c8], _ => exact ⟨c0, c1, c2, c3, c4, c5, c6, c7, c8, rfl⟩

set_option maxRecDepth 100000 in
theorem open_op {H : Type} {enc : TypeId × Value → H} {W : World} {r : Reach} {b0 : Nat} {base : Nat} {spare : Nat → Bool} {held : Bool} {v : Value} {d : DataW H} {p : List MemPlace}
    (hv : Value.okWide Try.prog W r b0 94 v) (h : DataW.Trod enc Try.prog W base spare held 94 v d p) :
    ∃ k vol file tt into at' fr ln data, v = .agg #[.int .i64 k, .string vol, .string file, .string tt, .string into, .int .i64 at', .int .i64 fr, .int .i64 ln, .string data] ∧ StrO ⟨k, vol, file, tt, into, at', fr, ln, data⟩ := by
  have hc : Try.prog.cellsOf 94 = 9 := by kernel_rfl
  have hc2 : Try.prog.cellsOf 2 = 1 := by kernel_rfl
  have hc9 : Try.prog.cellsOf 9 = 1 := by kernel_rfl
  obtain ⟨cs, rfl, hsz⟩ := okWide_struct Try.underlying94 hv
  obtain ⟨c0, c1, c2, c3, c4, c5, c6, c7, c8, rfl⟩ := array9 (hsz.trans hc)
  obtain ⟨fuel, hf⟩ := h
  obtain ⟨xs, n, _, _, _, hlen, hx⟩ := DataW.trod_struct Try.underlying94 hf
  have len9 : xs.length = 9 := hlen
  have q0 : DataW.trod enc Try.prog W base spare held n 2 [c0] = some (xs[0]'(by omega)) := by
    have := hx 0 _ rfl
    rw [List.getElem?_eq_getElem (by omega)] at this
    simpa [Value.cells, hc2] using this
  have q1 : DataW.trod enc Try.prog W base spare held n 9 [c1] = some (xs[1]'(by omega)) := by
    have := hx 1 _ rfl
    rw [List.getElem?_eq_getElem (by omega)] at this
    simpa [Value.cells, hc9] using this
  have q2 : DataW.trod enc Try.prog W base spare held n 9 [c2] = some (xs[2]'(by omega)) := by
    have := hx 2 _ rfl
    rw [List.getElem?_eq_getElem (by omega)] at this
    simpa [Value.cells, hc9] using this
  have q3 : DataW.trod enc Try.prog W base spare held n 9 [c3] = some (xs[3]'(by omega)) := by
    have := hx 3 _ rfl
    rw [List.getElem?_eq_getElem (by omega)] at this
    simpa [Value.cells, hc9] using this
  have q4 : DataW.trod enc Try.prog W base spare held n 9 [c4] = some (xs[4]'(by omega)) := by
    have := hx 4 _ rfl
    rw [List.getElem?_eq_getElem (by omega)] at this
    simpa [Value.cells, hc9] using this
  have q5 : DataW.trod enc Try.prog W base spare held n 2 [c5] = some (xs[5]'(by omega)) := by
    have := hx 5 _ rfl
    rw [List.getElem?_eq_getElem (by omega)] at this
    simpa [Value.cells, hc2] using this
  have q6 : DataW.trod enc Try.prog W base spare held n 2 [c6] = some (xs[6]'(by omega)) := by
    have := hx 6 _ rfl
    rw [List.getElem?_eq_getElem (by omega)] at this
    simpa [Value.cells, hc2] using this
  have q7 : DataW.trod enc Try.prog W base spare held n 2 [c7] = some (xs[7]'(by omega)) := by
    have := hx 7 _ rfl
    rw [List.getElem?_eq_getElem (by omega)] at this
    simpa [Value.cells, hc2] using this
  have q8 : DataW.trod enc Try.prog W base spare held n 9 [c8] = some (xs[8]'(by omega)) := by
    have := hx 8 _ rfl
    rw [List.getElem?_eq_getElem (by omega)] at this
    simpa [Value.cells, hc9] using this
  obtain ⟨n0, e0, _, _⟩ := DataW.trod_int Try.underlying2 q0
  obtain ⟨s1, e1, _, z1⟩ := DataW.trod_string Try.underlying9 q1
  obtain ⟨s2, e2, _, z2⟩ := DataW.trod_string Try.underlying9 q2
  obtain ⟨s3, e3, _, z3⟩ := DataW.trod_string Try.underlying9 q3
  obtain ⟨s4, e4, _, z4⟩ := DataW.trod_string Try.underlying9 q4
  obtain ⟨n5, e5, _, _⟩ := DataW.trod_int Try.underlying2 q5
  obtain ⟨n6, e6, _, _⟩ := DataW.trod_int Try.underlying2 q6
  obtain ⟨n7, e7, _, _⟩ := DataW.trod_int Try.underlying2 q7
  obtain ⟨s8, e8, _, z8⟩ := DataW.trod_string Try.underlying9 q8
  simp at e0 e1 e2 e3 e4 e5 e6 e7 e8
  subst e0 e1 e2 e3 e4 e5 e6 e7 e8
  unfold maxLen at z1 z2 z3 z4 z8
  exact ⟨n0, s1, s2, s3, s4, n5, n6, n7, s8, rfl, ⟨by dsimp only; omega, by dsimp only; omega, by dsimp only; omega, by dsimp only; omega, by dsimp only; omega⟩⟩

set_option maxRecDepth 100000 in
theorem liftedOpOk (os : Os) (started : os.Started) (H : Type) (enc : TypeId × Value → H) :
    ReturnsInHanded {} Try.checked os 15 .any (Rows.fnExactOpOkSpec.pre6 enc Try.prog Try.f15 Rows.fnExactOpOkRow.domain false) (Rows.fnExactOpOkSpec.post enc Try.prog Try.f15 false true false false) := by
  refine returnsInHanded_of_change (C := Try.checked) own started (by kernel_rfl) Try.func15
    (ChangeSpec.witness6 (enc := enc) (C := Try.checked) false ⟨#[], #[.agg #[.int .i64 0, .string .empty, .string .empty, .string .empty, .string .empty, .int .i64 0, .int .i64 0, .int .i64 0, .string .empty]], []⟩ 8 (by kernel_rfl) (by kernel_rfl) (by kernel_rfl) (by kernel_rfl)) ?_
  intro W base args ds gs before hval0 hW _ _
  have hval : ∀ (j : Nat) t v, Try.f15.params[j]? = some t → args[j]? = some v → Value.okWide Try.prog W .any base t v := hval0
  have hW' := hW
  obtain ⟨p, q, hA0, hV, rfl, _, _⟩ := hW
  have hA : DataW.TrodAll enc Try.prog W 0 (fun _ => true) true Try.f15.params.toList args.toList ds p := hA0
  rw [Try.params15] at hA hval
  obtain ⟨v0, vs0, d0, ds0, p0, q0, hargs, rfl, rfl, h0, r0⟩ := trodAll_cons hA
  obtain ⟨rfl, rfl, rfl⟩ := trodAll_nil r0
  obtain rfl : args = #[v0] := by cases args; simp_all
  obtain ⟨rfl, rfl⟩ := trodVars_none hV
  clear hA0 hval0
  simp only [List.append_nil] at hW'
  have hlt : ∀ x ∈ p0, x.block < W.heap.size := fun x hx => by simpa using hW'.lt x hx
  obtain ⟨k, vol, file, tt, into, at', fr, ln, data, rfl, hs⟩ := open_op (hval 0 94 v0 rfl rfl) h0
  refine (walkOpOk k vol file tt into at' fr ln data W hs).mono fun e W' ⟨he, hB⟩ => ?_
  subst he
  have hargs : DataW.Trod enc Try.prog W' 0 (fun b => decide (b < W.heap.size)) true 94 (.agg #[.int .i64 k, .string vol, .string file, .string tt, .string into, .int .i64 at', .int .i64 fr, .int .i64 ln, .string data]) d0 p0 :=
    Below.trod laidOut (by kernel_rfl) (of_decide_eq_true (by kernel_rfl)) h0 hB hlt
  exact ⟨_, rfl, ⟨_, _, _, [], _, [], hW', trodAll_mk1 (shut_bool Try.underlying4 _), trodAll_mk1 hargs, rfl, hB.frame _, fun h => by cases h⟩⟩

theorem holdsOpOk : Rows.FnExactOpOkSaid :=
  OpenClaim.holds_of_wide 15 Try.f15 rfl rfl rfl rfl rfl rfl rfl ⟨rfl, rfl, rfl, rfl, rfl⟩ rfl rfl rfl rfl rfl (by kernel_rfl) Try.func15 (joined_of (by kernel_rfl) (by kernel_rfl) (by kernel_rfl) (by kernel_rfl) rfl rfl rfl (by kernel_rfl))
    (of_decide_eq_true (by kernel_rfl)) (by unfold Func.isWrapper; first | (rw [if_pos (by decide +kernel)]; kernel_rfl) | (rw [if_neg (by decide +kernel)]; exact ⟨rfl, rfl⟩))
    (fun os started H enc _ => liftedOpOk os started H enc)
end Go.Proofs.Ytbjejnkeekndbaa
