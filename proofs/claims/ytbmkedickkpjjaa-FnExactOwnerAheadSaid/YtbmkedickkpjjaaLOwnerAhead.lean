/- At every two owners the program's OwnerAhead answers as its model does: no condition. -/
import Derived.Test.YtbmkedickkpjjaaRows
import Derived.Test.YtbmkedickkpjjaaJg
import Derived.Test.YtbmkedickkpjjaaNi
namespace Go.Proofs.Ytbmkedickkpjjaa
open Go.ChangeShapes Go.WideShapes Go.ChangeAt Go.RowKit Go.Deep Go.Joins
open Go.ChangeMaps (open_string shut_string)

theorem laws_toOwner3 (a v : Int) (f : ByteArray) (w : World) :
    Calls Try.prog 96 #[.agg #[.int .i64 a, .int .i64 v, .string f]] w fun e w' => e = .returned (.agg #[.int .i64 a, .int .i64 v, .string f]) ∧ Below w.heap.size w w' := laws_toOwner ⟨a, v, f⟩ w

theorem box33 {w w1 : World} {x y z x' y' z' : Value} {t t' : TypeId} (hb : Below ((w.alloc (.cells #[x, y, z] t)).alloc (.cells #[x', y', z'] t')).heap.size ((w.alloc (.cells #[x, y, z] t)).alloc (.cells #[x', y', z'] t')) w1) :
    (w1.cell? ⟨w.heap.size, 0, none⟩ = some x ∧ w1.cell? ⟨w.heap.size, 1, none⟩ = some y ∧ w1.cell? ⟨w.heap.size, 2, none⟩ = some z) ∧ (w1.cell? ⟨w.heap.size + 1, 0, none⟩ = some x' ∧ w1.cell? ⟨w.heap.size + 1, 1, none⟩ = some y' ∧ w1.cell? ⟨w.heap.size + 1, 2, none⟩ = some z') ∧ Below w.heap.size w w1 := by
  refine ⟨⟨bcell hb (acell _ (World.cell?_alloc_new _ _ _ 0)), bcell hb (acell _ (World.cell?_alloc_new _ _ _ 1)), bcell hb (acell _ (World.cell?_alloc_new _ _ _ 2))⟩, ⟨?_, ?_, ?_⟩, chain (by go_grown) hb⟩
  · have := bcell hb (World.cell?_alloc_new (w.alloc (.cells #[x, y, z] t)) #[x', y', z'] t' 0); simpa using this
  · have := bcell hb (World.cell?_alloc_new (w.alloc (.cells #[x, y, z] t)) #[x', y', z'] t' 1); simpa using this
  · have := bcell hb (World.cell?_alloc_new (w.alloc (.cells #[x, y, z] t)) #[x', y', z'] t' 2); simpa using this

set_option maxHeartbeats 1000000 in
theorem walkOwnerAhead (p q : Ow) (w : World) (hp : p.f.size ≤ 9223372036854775807) (hq : q.f.size ≤ 9223372036854775807) :
    Calls Try.prog 24 #[.agg #[.int .i64 p.a, .int .i64 p.v, .string p.f], .agg #[.int .i64 q.a, .int .i64 q.v, .string q.f]] w fun e w' => e = .returned (.bool true) ∧ Below w.heap.size w w' := by
  have hbb : (owLt p q != owLt p q) = false := by simp
  go_enter Try.func24, Try.ntmps24
  go_wp2_with fail
  refine (laws_szOwner p 1048576 _ (by omega) (by omega) hp).mono ?_
  rintro e w1 ⟨rfl, hB1⟩
  obtain ⟨⟨x0, x1, x2⟩, ⟨y0, y1, y2⟩, hB1'⟩ := box33 hB1
  clear hB1
  by_cases h1 : (1048576 : Int) - p.f.size < 0
  · rw [if_pos h1]
    go_wp2
    go_returns
    exact ⟨rfl, hB1'⟩
  · rw [if_neg h1]
    go_wp2_with fail
    refine (laws_szOwner q (1048576 - p.f.size) _ (by omega) (by omega) hq).mono ?_
    rintro e w2 ⟨rfl, hB2⟩
    replace x0 := bcell hB2 x0
    replace x1 := bcell hB2 x1
    replace x2 := bcell hB2 x2
    replace y0 := bcell hB2 y0
    replace y1 := bcell hB2 y1
    replace y2 := bcell hB2 y2
    replace hB2 := chain hB1' hB2
    by_cases h2 : (1048576 : Int) - p.f.size - q.f.size < 0
    · rw [if_pos h2]
      go_wp2
      go_returns
      exact ⟨rfl, hB2⟩
    · rw [if_neg h2]
      go_wp2_with fail
      have g0 := gcell x0
      have g1 := gcell x1
      have g2 := gcell x2
      have g3 := gcell y0
      have g4 := gcell y1
      have g5 := gcell y2
      have hne := grw_ne w2
      refine wp_region_grow (by kernel_rfl) (by kernel_rfl) ?_
      repeat (go_big_quiet_step (first | (go_at_call 96; exact grow_of (laws_toOwner3 _ _ _ _)) | (go_at_call 75; exact grow_of (spec_OwnerAhead p q _))))
      refine wpQuiet_nil ?_
      intro w3 hx
      have hB3 := grw_out hx
      clear hx g0 g1 g2 g3 g4 g5 hne
      replace x0 := bcell hB3 x0
      replace x1 := bcell hB3 x1
      replace x2 := bcell hB3 x2
      replace y0 := bcell hB3 y0
      replace y1 := bcell hB3 y1
      replace y2 := bcell hB3 y2
      replace hB3 := chain hB2 hB3
      go_wp2_with fail
      have g0 := gcell x0
      have g1 := gcell x1
      have g2 := gcell x2
      have g3 := gcell y0
      have g4 := gcell y1
      have g5 := gcell y2
      have hne := grw_ne w3
      refine wp_region_grow (by kernel_rfl) (by kernel_rfl) ?_
      repeat (go_big_quiet_step (first | (go_at_call 96; exact grow_of (laws_toOwner3 _ _ _ _)) | (go_at_call 69; exact grow_of (impl_OwnerAhead p q _))))
      refine wpQuiet_nil ?_
      intro w4 hx
      have hB4 := chain hB3 (grw_out hx)
      clear hx
      go_wp2
      go_returns
      exact ⟨rfl, hB4⟩

set_option maxRecDepth 100000 in
theorem liftedOwnerAhead (os : Os) (started : os.Started) (H : Type) (enc : TypeId × Value → H) :
    ReturnsInHanded {} Try.checked os 24 .any (Rows.fnExactOwnerAheadSpec.pre6 enc Try.prog Try.f24 Rows.fnExactOwnerAheadRow.domain false) (Rows.fnExactOwnerAheadSpec.post enc Try.prog Try.f24 false true false false) := by
  refine returnsInHanded_of_change (C := Try.checked) own started (by kernel_rfl) Try.func24
    (ChangeSpec.witness6 (enc := enc) (C := Try.checked) false ⟨#[], #[.agg #[.int .i64 0, .int .i64 0, .string .empty], .agg #[.int .i64 0, .int .i64 0, .string .empty]], []⟩ 8 (by kernel_rfl) (by kernel_rfl) (by kernel_rfl) (by kernel_rfl)) ?_
  intro W base args ds gs before hval0 hW _ _
  have hval : ∀ (j : Nat) t v, Try.f24.params[j]? = some t → args[j]? = some v → Value.okWide Try.prog W .any base t v := hval0
  have hW' := hW
  obtain ⟨p, q, hA0, hV, rfl, _, _⟩ := hW
  have hA : DataW.TrodAll enc Try.prog W 0 (fun _ => true) true Try.f24.params.toList args.toList ds p := hA0
  rw [Try.params24] at hA hval
  obtain ⟨v0, vs0, d0, ds0, p0, q0, hargs, rfl, rfl, h0, r0⟩ := trodAll_cons hA
  obtain ⟨v1, vs1, d1, ds1, p1, q1, rfl, rfl, rfl, h1, r1⟩ := trodAll_cons r0
  obtain ⟨rfl, rfl, rfl⟩ := trodAll_nil r1
  obtain rfl : args = #[v0, v1] := by cases args; simp_all
  obtain ⟨rfl, rfl⟩ := trodVars_none hV
  clear hA0 hval0
  simp only [List.append_nil] at hW'
  have hlt : ∀ x ∈ p0 ++ p1, x.block < W.heap.size := fun x hx => by simpa using hW'.lt x hx
  have h0' := h0
  have h1' := h1
  obtain ⟨c0, c1, c2, y0, y1, y2, m, rfl, _, _, t0, t1, t2⟩ := open_agg3 Try.underlying99 (by kernel_rfl) cellsO (hval 0 99 v0 rfl rfl) h0
  obtain ⟨e0, e1, e2, z0, z1, z2, m', rfl, _, _, u0, u1, u2⟩ := open_agg3 Try.underlying99 (by kernel_rfl) cellsO (hval 1 99 v1 rfl rfl) h1
  obtain ⟨a, ea, _, _⟩ := DataW.trod_int Try.underlying2 t0
  obtain ⟨b, eb, _, _⟩ := DataW.trod_int Try.underlying2 t1
  obtain ⟨s, es, _, hs⟩ := DataW.trod_string Try.underlying9 t2
  obtain ⟨a', ea', _, _⟩ := DataW.trod_int Try.underlying2 u0
  obtain ⟨b', eb', _, _⟩ := DataW.trod_int Try.underlying2 u1
  obtain ⟨s', es', _, hs'⟩ := DataW.trod_string Try.underlying9 u2
  simp at ea eb es ea' eb' es'
  subst ea eb es ea' eb' es'
  unfold maxLen at hs hs'
  refine (walkOwnerAhead ⟨a, b, s⟩ ⟨a', b', s'⟩ W (by simpa using (by omega)) (by simpa using (by omega))).mono fun e W' ⟨he, hB⟩ => ?_
  subst he
  have k0 : DataW.Trod enc Try.prog W' 0 (fun b => decide (b < W.heap.size)) true 99 (.agg #[.int .i64 a, .int .i64 b, .string s]) d0 p0 :=
    Below.trod laidOut (by kernel_rfl) (of_decide_eq_true (by kernel_rfl)) h0' hB (fun x hx => hlt x (by simp [hx]))
  have k1 : DataW.Trod enc Try.prog W' 0 (fun b => decide (b < W.heap.size)) true 99 (.agg #[.int .i64 a', .int .i64 b', .string s']) d1 p1 :=
    Below.trod laidOut (by kernel_rfl) (of_decide_eq_true (by kernel_rfl)) h1' hB (fun x hx => hlt x (by simp [hx]))
  exact ⟨_, rfl, ⟨_, _, _, [], _, [], hW', trodAll_mk1 (shut_bool Try.underlying4 _), trodAll_cons_mk k0 (trodAll_cons_mk k1 trodAll_mk0), rfl, hB.frame _, fun h => by cases h⟩⟩

theorem holdsOwnerAhead : Rows.FnExactOwnerAheadSaid :=
  OpenClaim.holds_of_wide 24 Try.f24 rfl rfl rfl rfl rfl rfl rfl ⟨rfl, rfl, rfl, rfl, rfl⟩ rfl rfl rfl rfl rfl (by kernel_rfl) Try.func24 (joined_of (by kernel_rfl) (by kernel_rfl) (by kernel_rfl) (by kernel_rfl) rfl rfl rfl (by kernel_rfl))
    (of_decide_eq_true (by kernel_rfl)) (by unfold Func.isWrapper; first | (rw [if_pos (by decide +kernel)]; kernel_rfl) | (rw [if_neg (by decide +kernel)]; exact ⟨rfl, rfl⟩))
    (fun os started H enc _ => liftedOwnerAhead os started H enc)
end Go.Proofs.Ytbmkedickkpjjaa
