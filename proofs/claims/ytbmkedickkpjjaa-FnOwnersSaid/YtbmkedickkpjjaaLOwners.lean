/- Of two drawn owners that are unlike just one is ahead of the other one: whatever bytes they are drawn by: no condition. -/
import Derived.Test.YtbmkedickkpjjaaRows
import Derived.Test.YtbmkedickkpjjaaJg
import Derived.Test.YtbmkedickkpjjaaDc
import Derived.Test.YtbmkedickkpjjaaOc
import Derived.Test.YtbmkedickkpjjaaCb
import Derived.Laws.StructEq
namespace Go.Proofs.Ytbmkedickkpjjaa
open Go.ChangeShapes Go.WideShapes Go.ChangeAt Go.RowKit Go.Deep

theorem laws_big (a : Option Addr) (n cap : Nat) (w : World) (hn : n ≤ 9223372036854775807) :
    Calls Try.prog 31 #[.slice a n cap] w fun e w' => e = .returned (.bool (decide (1048576 < n))) ∧ w' = w := by
  go_enter Try.func31, Try.ntmps31
  go_wp2
  go_returns
  go_light
  refine ⟨ret_bool ?_, rfl⟩
  rw [Bool.eq_iff_iff]
  simp
  omega

theorem neqO (p q : Ow) (w : World) : (binOp .neq 64 (.agg #[.int .i64 p.a, .int .i64 p.v, .string p.f]) (.agg #[.int .i64 q.a, .int .i64 q.v, .string q.f])).run Try.prog w = .ok (.bool (!owEq p q)) w := by
  have u2 := Try.underlying2
  have u9 := Try.underlying9
  have a2 := Try.isAgg2
  have a9 := Try.isAgg9
  have z2 := Try.sizeOf2
  have z9 := Try.sizeOf9
  have hS : Try.prog.underlying 64 = some (.struct (Try.prog.fieldsOf 64)) := by kernel_rfl
  have hp : Try.prog.stoodInHeld 64 = false := by kernel_rfl
  rw [run_neq_struct, show (10000 : Nat) = 9999 + 1 from rfl, run_equalIn_agg w 9999 64 _ _ hS hp]
  simp only [Program.fieldsOf, Try.underlying64]
  go_simp
  unfold owEq
  by_cases h1 : p.a = q.a <;> by_cases h2 : p.v = q.v <;> by_cases h3 : p.f.toList = q.f.toList <;> simp [h1, h2, h3]

theorem box33' {w w1 : World} {x y z x' y' z' : Value} {t t' : TypeId} (hb : Below ((w.alloc (.cells #[x, y, z] t)).alloc (.cells #[x', y', z'] t')).heap.size ((w.alloc (.cells #[x, y, z] t)).alloc (.cells #[x', y', z'] t')) w1) :
    (w1.cell? ⟨w.heap.size, 0, none⟩ = some x ∧ w1.cell? ⟨w.heap.size, 1, none⟩ = some y ∧ w1.cell? ⟨w.heap.size, 2, none⟩ = some z) ∧ (w1.cell? ⟨w.heap.size + 1, 0, none⟩ = some x' ∧ w1.cell? ⟨w.heap.size + 1, 1, none⟩ = some y' ∧ w1.cell? ⟨w.heap.size + 1, 2, none⟩ = some z') ∧ Below w.heap.size w w1 := by
  refine ⟨⟨bcell hb (acell _ (World.cell?_alloc_new _ _ _ 0)), bcell hb (acell _ (World.cell?_alloc_new _ _ _ 1)), bcell hb (acell _ (World.cell?_alloc_new _ _ _ 2))⟩, ⟨?_, ?_, ?_⟩, chain (by go_grown) hb⟩
  · have := bcell hb (World.cell?_alloc_new (w.alloc (.cells #[x, y, z] t)) #[x', y', z'] t' 0); simpa using this
  · have := bcell hb (World.cell?_alloc_new (w.alloc (.cells #[x, y, z] t)) #[x', y', z'] t' 1); simpa using this
  · have := bcell hb (World.cell?_alloc_new (w.alloc (.cells #[x, y, z] t)) #[x', y', z'] t' 2); simpa using this

set_option maxHeartbeats 1000000 in
set_option maxRecDepth 100000 in
theorem walkOwners (a : Option Addr) (n cap : Nat) (w : World) (h : CodeAt w a n) (hm : n ≤ 9223372036854775807) :
    Calls Try.prog 11 #[.slice a n cap] w fun e w' => e = .returned (.bool true) ∧ Below w.heap.size w w' := by
  by_cases hn : n ≤ 1048576
  · have hb : decide (1048576 < n) = false := by simp; omega
    go_enter Try.func11, Try.ntmps11
    go_wp2_with fail
    refine (laws_big a n cap _ hm).mono ?_
    rintro e w1 ⟨rfl, rfl⟩
    rw [hb]
    go_wp2_with fail
    refine (spec_DrawOwnerAhead a n cap _ h hn).mono ?_
    rintro e w2 ⟨⟨p, q, rfl, hp, hq⟩, hB2⟩
    go_wp2_with fail
    refine (impl_OwnerAhead p q _).mono ?_
    rintro e w3 ⟨rfl, hB3⟩
    obtain ⟨⟨x0, x1, x2⟩, ⟨y0, y1, y2⟩, hB3'⟩ := box33' hB3
    clear hB3
    replace hB3' := chain hB2 hB3'
    go_wp2_with fail
    refine (impl_OwnerAhead q p _).mono ?_
    rintro e w4 ⟨rfl, hB4⟩
    replace x0 := bcell hB4 x0
    replace x1 := bcell hB4 x1
    replace x2 := bcell hB4 x2
    replace y0 := bcell hB4 y0
    replace y1 := bcell hB4 y1
    replace y2 := bcell hB4 y2
    replace hB4 := chain hB3' hB4
    go_wp2_with fail
    refine (spec_OwnerAhead p q _).mono ?_
    rintro e w5 ⟨rfl, hB5⟩
    replace x0 := bcell hB5 x0
    replace x1 := bcell hB5 x1
    replace x2 := bcell hB5 x2
    replace y0 := bcell hB5 y0
    replace y1 := bcell hB5 y1
    replace y2 := bcell hB5 y2
    replace hB5 := chain hB4 hB5
    have hnq := neqO p q
    have hself := owLt_irrefl p
    have hcase : (owLt p q = true ∧ owLt q p = false ∧ owEq p q = false) ∨ (owLt p q = false ∧ owLt q p = true ∧ owEq p q = false) ∨ (owLt p q = false ∧ owLt q p = false ∧ owEq p q = true) := by
      cases hpq : owLt p q
      · cases he : owEq p q
        · exact .inr (.inl ⟨rfl, owLt_total hpq (fun e => by rw [owEq_iff.2 e] at he; cases he), rfl⟩)
        · have := owEq_iff.1 he; subst this; exact .inr (.inr ⟨rfl, owLt_irrefl p, rfl⟩)
      · exact .inl ⟨rfl, owLt_asymm hpq, owEq_of_lt hpq⟩
    rcases hcase with ⟨h1, h2, h3⟩ | ⟨h1, h2, h3⟩ | ⟨h1, h2, h3⟩
    all_goals
      rw [h1, h2]
      rw [h3] at hnq
      go_wp2_with fail
      refine (impl_OwnerAhead p p _).mono ?_
      rintro e w6 ⟨rfl, hB6⟩
      rw [hself]
      replace hB6 := chain hB5 hB6
      go_wp2
      go_returns
      go_light
      exact ⟨rfl, hB6⟩
  · have hb : decide (1048576 < n) = true := by simp; omega
    go_enter Try.func11, Try.ntmps11
    go_wp2_with fail
    refine (laws_big a n cap _ hm).mono ?_
    rintro e w1 ⟨rfl, rfl⟩
    rw [hb]
    go_wp2
    go_returns
    exact ⟨rfl, Below.refl _ _⟩

set_option maxRecDepth 100000 in
theorem liftedOwners (os : Os) (started : os.Started) (H : Type) (enc : TypeId × Value → H) :
    ReturnsInHanded {} Try.checked os 11 .any (Rows.fnOwnersSpec.pre6 enc Try.prog Try.f11 Rows.fnOwnersRow.domain false) (Rows.fnOwnersSpec.post enc Try.prog Try.f11 false true false false) := by
  refine returnsInHanded_of_change (C := Try.checked) own started (by kernel_rfl) Try.func11
    (ChangeSpec.witness6 (enc := enc) (C := Try.checked) false ⟨#[], #[.slice none 0 0], []⟩ 8 (by kernel_rfl) (by kernel_rfl) (by kernel_rfl) (by kernel_rfl)) ?_
  intro W base args ds gs before hval0 hW _ _
  have hval : ∀ (j : Nat) t v, Try.f11.params[j]? = some t → args[j]? = some v → Value.okWide Try.prog W .any base t v := hval0
  have hW' := hW
  obtain ⟨p, q, hA0, hV, rfl, _, _⟩ := hW
  have hA : DataW.TrodAll enc Try.prog W 0 (fun _ => true) true Try.f11.params.toList args.toList ds p := hA0
  rw [Try.params11] at hA hval
  obtain ⟨v0, vs0, d0, ds0, p0, q0, hargs, rfl, rfl, h0, r0⟩ := trodAll_cons hA
  obtain ⟨rfl, rfl, rfl⟩ := trodAll_nil r0
  obtain rfl : args = #[v0] := by cases args; simp_all
  obtain ⟨rfl, rfl⟩ := trodVars_none hV
  clear hA0 hval0
  simp only [List.append_nil] at hW'
  have hlt : ∀ x ∈ p0, x.block < W.heap.size := fun x hx => by simpa using hW'.lt x hx
  obtain ⟨a0, len, cap, rfl⟩ := okWide_slice Try.underlying22 (hval 0 22 v0 rfl rfl)
  obtain ⟨hmx, hl⟩ := open_code h0
  unfold maxLen at hmx
  refine (walkOwners a0 len cap W hl (by omega)).mono fun e W' ⟨he, hB⟩ => ?_
  subst he
  have hargs : DataW.Trod enc Try.prog W' 0 (fun b => decide (b < W.heap.size)) true 22 (.slice a0 len cap) d0 p0 :=
    Below.trod laidOut (by kernel_rfl) (of_decide_eq_true (by kernel_rfl)) h0 hB hlt
  exact ⟨_, rfl, ⟨_, _, _, [], _, [], hW', trodAll_mk1 (shut_bool Try.underlying4 _), trodAll_mk1 hargs, rfl, hB.frame _, fun h => by cases h⟩⟩

theorem holdsOwners : Rows.FnOwnersSaid :=
  OpenClaim.holds_of_wide 11 Try.f11 rfl rfl rfl rfl rfl rfl rfl ⟨rfl, rfl, rfl, rfl, rfl⟩ rfl rfl rfl rfl rfl (by kernel_rfl) Try.func11 (joined_of (by kernel_rfl) (by kernel_rfl) (by kernel_rfl) (by kernel_rfl) rfl rfl rfl (by kernel_rfl))
    (of_decide_eq_true (by kernel_rfl)) (by unfold Func.isWrapper; first | (rw [if_pos (by decide +kernel)]; kernel_rfl) | (rw [if_neg (by decide +kernel)]; exact ⟨rfl, rfl⟩))
    (fun os started H enc _ => liftedOwners os started H enc)
end Go.Proofs.Ytbmkedickkpjjaa
