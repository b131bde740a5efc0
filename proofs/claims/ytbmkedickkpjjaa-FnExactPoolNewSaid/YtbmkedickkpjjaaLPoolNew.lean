/- At every size the program's PoolNew answers as its model does, and owns what it answers: no condition. -/
import Derived.Test.YtbmkedickkpjjaaRows
import Derived.Test.YtbmkedickkpjjaaJg
import Derived.Test.YtbmkedickkpjjaaPn
namespace Go.Proofs.Ytbmkedickkpjjaa
open Go.ChangeShapes Go.WideShapes Go.ChangeAt Go.RowKit Go.Deep

structure PBox (w : World) (b : Nat) (s n : Int) : Prop where
  c0 : w.cell? ⟨b, 0, none⟩ = some (.int .i64 s)
  c1 : w.cell? ⟨b, 1, none⟩ = some (.int .i64 n)
  c2 : w.cell? ⟨b, 2, none⟩ = some (.slice none 0 0)
  c3 : w.cell? ⟨b, 3, none⟩ = some (.slice none 0 0)
  c4 : w.cell? ⟨b, 4, none⟩ = some (.slice none 0 0)
  c5 : w.cell? ⟨b, 5, none⟩ = some (.slice none 0 0)
theorem PBox.below {w w' : World} {b : Nat} {s n : Int} (h : PBox w b s n) (hb : Below w.heap.size w w') : PBox w' b s n :=
  ⟨bcell hb h.c0, bcell hb h.c1, bcell hb h.c2, bcell hb h.c3, bcell hb h.c4, bcell hb h.c5⟩
theorem PBox.new {w w' : World} {s n : Int} {t : TypeId} (hb : Below (w.alloc (.cells #[.int .i64 s, .int .i64 n, .slice none 0 0, .slice none 0 0, .slice none 0 0, .slice none 0 0] t)).heap.size (w.alloc (.cells #[.int .i64 s, .int .i64 n, .slice none 0 0, .slice none 0 0, .slice none 0 0, .slice none 0 0] t)) w') : PBox w' w.heap.size s n ∧ Below w.heap.size w w' :=
  ⟨⟨bcell hb (World.cell?_alloc_new _ _ _ 0), bcell hb (World.cell?_alloc_new _ _ _ 1), bcell hb (World.cell?_alloc_new _ _ _ 2), bcell hb (World.cell?_alloc_new _ _ _ 3), bcell hb (World.cell?_alloc_new _ _ _ 4), bcell hb (World.cell?_alloc_new _ _ _ 5)⟩, chain ((Below.refl _ _).alloc (Nat.le_refl _) _) hb⟩

set_option maxHeartbeats 1000000 in
theorem walkPoolNew (size : Int) (w : World) :
    Calls Try.prog 30 #[.int .i64 size] w fun e w' => e = .returned (.bool true) ∧ Below w.heap.size w w' := by
  have hbb : (newB size != newB size) = false := by simp
  obtain ⟨s, n, hp⟩ : ∃ s n, (if newB size = true then poolV size 1 else poolV 0 0) = poolV s n := by
    by_cases h : newB size = true
    · exact ⟨size, 1, by rw [if_pos h]⟩
    · exact ⟨0, 0, by rw [if_neg h]⟩
  have hi := impl_PoolNew size
  have hs := spec_PoolNew size
  have he := eqPool_new s n
  have hm := markPool_new s n
  have hh := heldPool_new s n
  rw [hp] at hi hs
  unfold poolV at hi hs he hm hh
  clear hp
  go_enter Try.func30, Try.ntmps30
  go_wp2_with fail
  refine (hs _).mono ?_
  clear hs
  rintro e w1 ⟨rfl, hB1⟩
  go_wp2_with fail
  refine (hi _).mono ?_
  rintro e w2 ⟨rfl, hB2⟩
  obtain ⟨⟨a0, a1, a2, a3, a4, a5⟩, hB2'⟩ := PBox.new hB2
  have A2 : PBox w2 w1.heap.size s n := ⟨a0, a1, a2, a3, a4, a5⟩
  clear hB2
  replace hB2 := chain hB1 hB2'
  clear hB2'
  have hz : w1.heap.size < w2.heap.size := World.block_lt_of_cell? w2 ⟨w1.heap.size, 0, none⟩ a0
  go_wp2_with fail
  refine (he _).mono ?_
  rintro e w3 ⟨rfl, hB3⟩
  have A3 := (A2.below ((Below.refl _ _).alloc (Nat.le_refl _) _)).below hB3
  obtain ⟨B3, hB3'⟩ := PBox.new hB3
  clear hB3 a0 a1 a2 a3 a4 a5 A2
  have hB3 := chain hB2 hB3'
  obtain ⟨b0, b1, b2, b3, b4, b5⟩ := B3
  go_wp2_with fail
  refine (hm _).mono ?_
  clear hm
  rintro e w4 ⟨rfl, hB4⟩
  have A4 := A3.below hB4
  have B4 := PBox.below ⟨b0, b1, b2, b3, b4, b5⟩ hB4
  clear b0 b1 b2 b3 b4 b5 A3
  replace hB4 := chain hB3 hB4
  obtain ⟨b0, b1, b2, b3, b4, b5⟩ := B4
  go_wp2_with fail
  refine (hh _).mono ?_
  rintro e w5 ⟨rfl, hB5⟩
  have A5 := A4.below hB5
  have B5 := PBox.below ⟨b0, b1, b2, b3, b4, b5⟩ hB5
  clear b0 b1 b2 b3 b4 b5 A4
  replace hB5 := chain hB4 hB5
  go_wp2_with fail
  refine (hi _).mono ?_
  rintro e w6 ⟨rfl, hB6⟩
  have A6 := A5.below hB6
  have B6 := B5.below hB6
  replace hB6 := chain hB5 hB6
  obtain ⟨a0, a1, a2, a3, a4, a5⟩ := A6
  have hz6 : w1.heap.size < w6.heap.size := World.block_lt_of_cell? w6 ⟨w1.heap.size, 0, none⟩ a0
  go_wp2_with fail
  refine (he _).mono ?_
  rintro e w7 ⟨rfl, hB7⟩
  have B7 := (B6.below ((Below.refl _ _).alloc (Nat.le_refl _) _)).below hB7
  obtain ⟨_, hB7'⟩ := PBox.new hB7
  clear hB7 a0 a1 a2 a3 a4 a5 A5 B5 B6
  have hB7 := chain hB6 hB7'
  obtain ⟨b0, b1, b2, b3, b4, b5⟩ := B7
  go_wp2_with fail
  refine (hh _).mono ?_
  rintro e w8 ⟨rfl, hB8⟩
  replace hB8 := chain hB7 hB8
  go_wp2
  go_returns
  exact ⟨rfl, hB8⟩

set_option maxRecDepth 100000 in
theorem liftedPoolNew (os : Os) (started : os.Started) (H : Type) (enc : TypeId × Value → H) :
    ReturnsInHanded {} Try.checked os 30 .any (Rows.fnExactPoolNewSpec.pre6 enc Try.prog Try.f30 Rows.fnExactPoolNewRow.domain false) (Rows.fnExactPoolNewSpec.post enc Try.prog Try.f30 false true false false) := by
  refine returnsInHanded_of_change (C := Try.checked) own started (by kernel_rfl) Try.func30
    (ChangeSpec.witness6 (enc := enc) (C := Try.checked) false ⟨#[], #[.int .i64 0], []⟩ 8 (by kernel_rfl) (by kernel_rfl) (by kernel_rfl) (by kernel_rfl)) ?_
  intro W base args ds gs before hval0 hW _ _
  have hval : ∀ (j : Nat) t v, Try.f30.params[j]? = some t → args[j]? = some v → Value.okWide Try.prog W .any base t v := hval0
  have hW' := hW
  obtain ⟨p, q, hA0, hV, rfl, _, _⟩ := hW
  have hA : DataW.TrodAll enc Try.prog W 0 (fun _ => true) true Try.f30.params.toList args.toList ds p := hA0
  rw [Try.params30] at hA hval
  obtain ⟨v0, vs0, d0, ds0, p0, q0, hargs, rfl, rfl, h0, r0⟩ := trodAll_cons hA
  obtain ⟨rfl, rfl, rfl⟩ := trodAll_nil r0
  obtain rfl : args = #[v0] := by cases args; simp_all
  obtain ⟨rfl, rfl⟩ := trodVars_none hV
  clear hA0 hval0
  obtain ⟨x0, rfl, rfl, rfl, wx0⟩ := open_int Try.underlying2 (hval 0 2 v0 rfl rfl) h0
  simp only [List.append_nil] at hW'
  refine (walkPoolNew x0 W).mono fun e W' ⟨he, hB⟩ => ?_
  subst he
  exact ⟨_, rfl, ⟨_, _, _, [], _, [], hW', trodAll_mk1 (shut_bool Try.underlying4 _), trodAll_mk1 (shut_int Try.underlying2 wx0), rfl, hB.frame _, fun h => by cases h⟩⟩

theorem holdsPoolNew : Rows.FnExactPoolNewSaid :=
  OpenClaim.holds_of_wide 30 Try.f30 rfl rfl rfl rfl rfl rfl rfl ⟨rfl, rfl, rfl, rfl, rfl⟩ rfl rfl rfl rfl rfl (by kernel_rfl) Try.func30 (joined_of (by kernel_rfl) (by kernel_rfl) (by kernel_rfl) (by kernel_rfl) rfl rfl rfl (by kernel_rfl))
    (of_decide_eq_true (by kernel_rfl)) (by unfold Func.isWrapper; first | (rw [if_pos (by decide +kernel)]; kernel_rfl) | (rw [if_neg (by decide +kernel)]; exact ⟨rfl, rfl⟩))
    (fun os started H enc _ => liftedPoolNew os started H enc)
end Go.Proofs.Ytbmkedickkpjjaa
