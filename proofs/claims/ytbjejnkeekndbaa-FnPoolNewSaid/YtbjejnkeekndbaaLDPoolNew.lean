/- At every code: a new pool of the size that is drawn has all its room and nothing in it, or is none, as its model tells: no condition. -/
import Derived.Test.YtbjejnkeekndbaaRows
import Derived.Test.YtbjejnkeekndbaaKg
import Derived.Test.YtbjejnkeekndbaaKs
import Derived.Test.YtbjejnkeekndbaaKr
namespace Go.Proofs.Ytbjejnkeekndbaa
open Go.ChangeShapes Go.WideShapes Go.ChangeAt Go.RowKit Go.Deep

set_option maxHeartbeats 1000000 in
set_option maxRecDepth 100000 in
theorem nil_Walked (s : Int) (w : World) (h1 : 1 ≤ s) (h2 : s ≤ 400) : Calls Try.prog 63 #[poolV s 1] w fun e w' => (∃ a cap, e = .returned (.slice a 0 cap)) ∧ Below w.heap.size w w' := by
  have hP := fun W => nil_PoolOk s W h1 h2
  have hO := fun W => nil_volumesOf s 1 W
  unfold poolV at *
  go_enter Try.func63, Try.ntmps63
  go_wp2_with fail
  refine (hP _).mono ?_
  rintro e w1 ⟨rfl, hB1⟩
  have c0 : w1.cell? ⟨w.heap.size, 0, none⟩ = some (.int .i64 s) := bcell hB1 (World.cell?_alloc_new _ _ _ 0)
  have c1 : w1.cell? ⟨w.heap.size, 1, none⟩ = some (.int .i64 1) := bcell hB1 (World.cell?_alloc_new _ _ _ 1)
  have c2 : w1.cell? ⟨w.heap.size, 2, none⟩ = some (.slice none 0 0) := bcell hB1 (World.cell?_alloc_new _ _ _ 2)
  have c3 : w1.cell? ⟨w.heap.size, 3, none⟩ = some (.slice none 0 0) := bcell hB1 (World.cell?_alloc_new _ _ _ 3)
  have c4 : w1.cell? ⟨w.heap.size, 4, none⟩ = some (.slice none 0 0) := bcell hB1 (World.cell?_alloc_new _ _ _ 4)
  have c5 : w1.cell? ⟨w.heap.size, 5, none⟩ = some (.slice none 0 0) := bcell hB1 (World.cell?_alloc_new _ _ _ 5)
  replace hB1 : Below w.heap.size w w1 := chain (by go_grown) hB1
  go_wp2_with fail
  refine (hO _).mono ?_
  rintro e w3 ⟨⟨b, rfl, hb, _⟩, hB3⟩
  replace hB3 := chain hB1 hB3
  go_wp2_with fail
  refine (nil_found b _ hb).mono ?_
  rintro e w5 ⟨⟨a5, cap5, rfl⟩, hB5⟩
  replace hB5 := chain hB3 hB5
  go_wp2
  go_returns
  exact ⟨⟨a5, cap5, rfl⟩, hB5⟩

theorem spec_DrawPoolNew (a : Option Addr) (n cap : Nat) (w : World) (h : CodeAt w a n) (hn : n ≤ 1048576) :
    Calls Try.prog 59 #[.slice a n cap] w fun e w' => (∃ v : Int, e = .returned (.int .i64 v)) ∧ Below w.heap.size w w' := by
  go_enter Try.func59, Try.ntmps59
  go_wp2_with fail
  refine (spec_l1Open a n cap _ h hn).mono ?_
  rintro e w1 ⟨rfl, hR1, hB1⟩
  go_wp2_with fail
  refine (spec_off w.heap.size 1 400 _ hR1 (by omega) (by omega) (by omega)).mono ?_
  rintro e w2 ⟨⟨v, rfl, _⟩, _, hg2⟩
  have hB2 := below_grown hB1 hg2 (Nat.le_refl _)
  go_wp2
  go_returns
  exact ⟨⟨v, rfl⟩, hB2⟩

set_option maxHeartbeats 2000000 in
set_option maxRecDepth 100000 in
theorem walkDPoolNew (a : Option Addr) (n cap : Nat) (w : World) (h : CodeAt w a n) (hm : n ≤ 9223372036854775807) :
    Calls Try.prog 11 #[.slice a n cap] w fun e w' => e = .returned (.bool true) ∧ Below w.heap.size w w' := by
  by_cases hn : n ≤ 1048576
  · have hb : decide (1048576 < n) = false := by simp; omega
    go_enter Try.func11, Try.ntmps11
    go_wp2_with fail
    refine (laws_bigC a n cap _ hm).mono ?_
    rintro e w1 ⟨rfl, rfl⟩
    rw [hb]
    go_wp2_with fail
    refine (spec_DrawPoolNew a n cap _ h hn).mono ?_
    rintro e w2 ⟨⟨v, rfl⟩, hB2⟩
    cases hnew : newB v
    · go_wp2_with fail
      refine (impl_PoolNew v _).mono ?_
      rintro e w3 ⟨rfl, hB3⟩
      rw [hnew, if_neg (by simp)]
      unfold poolV
      have hB4 := chain hB2 hB3
      go_wp2_with fail
      refine (spec_PoolNew v _).mono ?_
      rintro e w5 ⟨rfl, hB5⟩
      rw [hnew, if_neg (by simp)]
      unfold poolV
      replace hB5 : Below w1.heap.size w1 w5 := chain (hB4.alloc hB4.size _) hB5
      go_wp2
      go_returns
      exact ⟨rfl, hB5.alloc hB5.size _⟩
    · have hv : 1 ≤ v ∧ v ≤ 400 := by simpa [newB] using hnew
      obtain ⟨hv1, hv2⟩ := hv
      have hP := fun W => nil_PoolOk v W hv1 hv2
      have hW := fun W => nil_Walked v W hv1 hv2
      have hroom : roomV v [] = v := by simp [roomV, spaceOkB, xgo, hv1, hv2, sumD]
      have hvv : (v == v) = true := by simp
      go_wp2_with fail
      refine (impl_PoolNew v _).mono ?_
      rintro e w3 ⟨rfl, hB3⟩
      rw [hnew, if_pos rfl]
      unfold poolV at *
      have hB4 := chain hB2 hB3
      go_wp2_with fail
      refine (spec_PoolNew v _).mono ?_
      rintro e w5 ⟨rfl, hB5⟩
      rw [hnew, if_pos rfl]
      unfold poolV
      have c0 : w5.cell? ⟨w3.heap.size, 0, none⟩ = some (.int .i64 v) := bcell hB5 (World.cell?_alloc_new _ _ _ 0)
      have c1 : w5.cell? ⟨w3.heap.size, 1, none⟩ = some (.int .i64 1) := bcell hB5 (World.cell?_alloc_new _ _ _ 1)
      have c2 : w5.cell? ⟨w3.heap.size, 2, none⟩ = some (.slice none 0 0) := bcell hB5 (World.cell?_alloc_new _ _ _ 2)
      have c3 : w5.cell? ⟨w3.heap.size, 3, none⟩ = some (.slice none 0 0) := bcell hB5 (World.cell?_alloc_new _ _ _ 3)
      have c4 : w5.cell? ⟨w3.heap.size, 4, none⟩ = some (.slice none 0 0) := bcell hB5 (World.cell?_alloc_new _ _ _ 4)
      have c5 : w5.cell? ⟨w3.heap.size, 5, none⟩ = some (.slice none 0 0) := bcell hB5 (World.cell?_alloc_new _ _ _ 5)
      replace hB5 : Below w1.heap.size w1 w5 := chain (hB4.alloc hB4.size _) hB5
      replace c0 := acell (.cells #[.int .i64 v, .int .i64 1, .slice none 0 0, .slice none 0 0, .slice none 0 0, .slice none 0 0] 75) c0
      replace c1 := acell (.cells #[.int .i64 v, .int .i64 1, .slice none 0 0, .slice none 0 0, .slice none 0 0, .slice none 0 0] 75) c1
      replace c2 := acell (.cells #[.int .i64 v, .int .i64 1, .slice none 0 0, .slice none 0 0, .slice none 0 0, .slice none 0 0] 75) c2
      replace c3 := acell (.cells #[.int .i64 v, .int .i64 1, .slice none 0 0, .slice none 0 0, .slice none 0 0, .slice none 0 0] 75) c3
      replace c4 := acell (.cells #[.int .i64 v, .int .i64 1, .slice none 0 0, .slice none 0 0, .slice none 0 0, .slice none 0 0] 75) c4
      replace c5 := acell (.cells #[.int .i64 v, .int .i64 1, .slice none 0 0, .slice none 0 0, .slice none 0 0, .slice none 0 0] 75) c5
      go_wp2_with fail
      refine (hP _).mono ?_
      rintro e w6 ⟨rfl, hB6⟩
      replace c0 := bcell hB6 c0
      replace c1 := bcell hB6 c1
      replace c2 := bcell hB6 c2
      replace c3 := bcell hB6 c3
      replace c4 := bcell hB6 c4
      replace c5 := bcell hB6 c5
      replace hB6 := chain (hB5.alloc hB5.size _) hB6
      go_wp2_with fail
      refine (impl_RoomOf v none 0 0 [] _ (nilSl _ _ _) (fun e he => by simp at he) (by omega) (fun ad h0 => by omega)).mono ?_
      rintro e w7 ⟨rfl, hB7⟩
      rw [hroom]
      replace c0 := bcell hB7 c0
      replace c1 := bcell hB7 c1
      replace c2 := bcell hB7 c2
      replace c3 := bcell hB7 c3
      replace c4 := bcell hB7 c4
      replace c5 := bcell hB7 c5
      replace hB7 := chain hB6 hB7
      go_wp2_with fail
      refine (hW _).mono ?_
      rintro e w8 ⟨⟨a8, cap8, rfl⟩, hB8⟩
      replace hB8 := chain hB7 hB8
      go_wp2
      go_returns
      exact ⟨rfl, hB8⟩
  · have hb : decide (1048576 < n) = true := by simp; omega
    go_enter Try.func11, Try.ntmps11
    go_wp2_with fail
    refine (laws_bigC a n cap _ hm).mono ?_
    rintro e w1 ⟨rfl, rfl⟩
    rw [hb]
    go_wp2
    go_returns
    exact ⟨rfl, Below.refl _ _⟩

set_option maxRecDepth 100000 in
theorem liftedDPoolNew (os : Os) (started : os.Started) (H : Type) (enc : TypeId × Value → H) :
    ReturnsInHanded {} Try.checked os 11 .any (Rows.fnPoolNewSpec.pre6 enc Try.prog Try.f11 Rows.fnPoolNewRow.domain false) (Rows.fnPoolNewSpec.post enc Try.prog Try.f11 false true false false) := by
  refine returnsInHanded_of_change (C := Try.checked) own started (by kernel_rfl) Try.func11
    (ChangeSpec.witness6 (enc := enc) (C := Try.checked) false ⟨#[], #[.slice none 0 0], []⟩ 8 (by kernel_rfl) (by kernel_rfl) (by kernel_rfl) (by kernel_rfl)) ?_
  intro W base args ds gs before hval0 hW _ _
  have hval : ∀ (j : Nat) t v, Try.f11.params[j]? = some t → args[j]? = some v → Value.okWide Try.prog W .any base t v := hval0
  have hW' := hW
  obtain ⟨p, q, hA0, hV, rfl, _, _⟩ := hW
  have hA : DataW.TrodAll enc Try.prog W 0 (fun _ => true) true Try.f11.params.toList args.toList ds p := hA0
  rw [Try.params11] at hA hval
  obtain ⟨v0, vs0, d0, ds0, p0, q0, hargs, rfl, rfl, h0, r0⟩ := trodAll_cons hA
  obtain ⟨rfl, rfl, rfl⟩ := trodAll_nil r0
  obtain rfl : args = #[v0] := by cases args; simp_all
  obtain ⟨rfl, rfl⟩ := trodVars_none hV
  clear hA0 hval0
  simp only [List.append_nil] at hW'
  have hlt : ∀ x ∈ p0, x.block < W.heap.size := fun x hx => by simpa using hW'.lt x hx
  obtain ⟨a0, len, cap, rfl⟩ := okWide_slice Try.underlying22 (hval 0 22 v0 rfl rfl)
  obtain ⟨hmx, hl⟩ := open_code h0
  unfold maxLen at hmx
  refine (walkDPoolNew a0 len cap W hl (by omega)).mono fun e W' ⟨he, hB⟩ => ?_
  subst he
  have hargs : DataW.Trod enc Try.prog W' 0 (fun b => decide (b < W.heap.size)) true 22 (.slice a0 len cap) d0 p0 :=
    Below.trod laidOut (by kernel_rfl) (of_decide_eq_true (by kernel_rfl)) h0 hB hlt
  exact ⟨_, rfl, ⟨_, _, _, [], _, [], hW', trodAll_mk1 (shut_bool Try.underlying4 _), trodAll_mk1 hargs, rfl, hB.frame _, fun h => by cases h⟩⟩

theorem holdsDPoolNew : Rows.FnPoolNewSaid :=
  OpenClaim.holds_of_wide 11 Try.f11 rfl rfl rfl rfl rfl rfl rfl ⟨rfl, rfl, rfl, rfl, rfl⟩ rfl rfl rfl rfl rfl (by kernel_rfl) Try.func11 (joined_of (by kernel_rfl) (by kernel_rfl) (by kernel_rfl) (by kernel_rfl) rfl rfl rfl (by kernel_rfl))
    (of_decide_eq_true (by kernel_rfl)) (by unfold Func.isWrapper; first | (rw [if_pos (by decide +kernel)]; kernel_rfl) | (rw [if_neg (by decide +kernel)]; exact ⟨rfl, rfl⟩))
    (fun os started H enc _ => liftedDPoolNew os started H enc)
end Go.Proofs.Ytbjejnkeekndbaa
