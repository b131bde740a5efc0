/- withExtent of the program, whatever slice it is given. Placed of the program. Placed of the program, whatever slice it is given. -/
import Derived.Test.YtckljlgojhloiaaProg
import Derived.Test.YtckljlgojhloiaaKf
import Derived.Test.YtckljlgojhloiaaKe
import Derived.RangeFuncFrom
namespace Go.Proofs.Ytckljlgojhloiaa
open Go.RowKit Go.BigFrame

set_option maxHeartbeats 4000000 in
set_option maxRecDepth 100000 in
theorem impl_withExtentW (b o n cap : Nat) (l : List Ex) (x : Ex) (w : World) (h : ExsAt w (some ⟨b, o, none⟩) n l) (hn : n ≤ 60) (hcap : n ≤ cap) (hc2 : cap ≤ 9223372036854775807) :
    Calls Try.prog 27 #[.slice (some ⟨b, o, none⟩) n cap, .agg #[.int .i64 x.a, .string x.d]] w fun e w' => (∃ a' n' cap', e = .returned (.slice a' n' cap') ∧ ResAt Ex.cs 2 52 w' w.heap.size a' n' cap' (withE l x)) ∧ Below w.heap.size w w' := by
  have hlen : Hid (l.length = n) := h.len
  have hcl := cntA_le x.a l
  obtain ⟨i0, hi, hz0, hz1, hz2⟩ := info_parts infoE
  obtain ⟨xa, xd⟩ := x
  simp only at *
  go_enter Try.func27, Try.ntmps27
  go_wp2_with fail
  have x0 : (w.alloc (.cells #[.int .i64 xa, .string xd] 52)).cell? ⟨w.heap.size, 0, none⟩ = some (.int .i64 xa) := by simp
  have x1 : (w.alloc (.cells #[.int .i64 xa, .string xd] 52)).cell? ⟨w.heap.size, 1, none⟩ = some (.string xd) := by simp
  have hB0 : Below w.heap.size w (w.alloc (.cells #[.int .i64 xa, .string xd] 52)) := (Below.refl _ _).alloc (Nat.le_refl _) _
  have hs0 : (w.alloc (.cells #[.int .i64 xa, .string xd] 52)).heap.size = w.heap.size + 1 := by simp
  generalize w.alloc (.cells #[.int .i64 xa, .string xd] 52) = W0 at *
  go_loopw [6] (fun ix wr => ∃ (k : Nat), k ≤ n ∧ ix = .int .i64 k ∧ Hid (cntA xa l = k + cntA xa (l.drop k)) ∧ Below W0.heap.size W0 wr) (fun ix _ => n - (intOf ix).toNat)
  case atStart => exact ⟨0, Nat.zero_le _, rfl, by show _ = _; simp, Below.refl _ _⟩
  case round =>
    obtain ⟨k, hk, rfl, hI, hB⟩ := hrel
    have hBw := chain hB0 hB
    have e0 := bcell hB x0
    have e1 := bcell hB x1
    by_cases hlt : k < n ∧ ∃ p, l[k]? = some p ∧ p.a < xa
    · obtain ⟨hlt, p', hp', hpx⟩ := hlt
      obtain ⟨b', o', p, hbo, hp, c0, c1⟩ := exs_at (h.below hBw) hlt
      obtain ⟨rfl, rfl⟩ : b = b' ∧ o = o' := by simpa using hbo
      obtain rfl : p = p' := by rw [hp] at hp'; exact Option.some.inj hp'
      have hst : Hid (cntA xa l = k + 1 + cntA xa (l.drop (k + 1))) := by
        show _ = _
        rw [hI.out, drop_at hp, cntA, if_pos hpx]; omega
      clear hp hp' hbo
      have hk1 : (k : Int) < n := by omega
      have hk2 : (0 : Int) ≤ k := by omega
      go_wp2_with fail
      go_quiet (fail)
      go_wp2
      go_roundw
      case rel => exact ⟨k + 1, by omega, by go_num, hst, chain hB (drewNB _ _)⟩
      case measure => simp [intOf]; omega
    · have hend : Hid (cntA xa l = k) := by
        show _ = _
        rw [hI.out]
        by_cases hkn : k < n
        · obtain ⟨_, _, p, _, hp, _, _⟩ := exs_at h hkn
          rw [drop_at hp, cntA, if_neg (fun e => hlt ⟨hkn, _, hp, e⟩)]; rfl
        · rw [List.drop_of_length_le (by rw [hlen.out]; omega)]; rfl
      have hfin : Hid (withE l ⟨xa, xd⟩ = [] ++ l.take k ++ [⟨xa, xd⟩] ++ l.drop k) := by show _ = _; unfold withE; simp only; rw [hend.out]; simp
      have hS1 : ∀ u, Below w.heap.size w u → ExsAt u (some ⟨b, o, none⟩) k (l.take k) := fun u hu => (h.below hu).take hk
      have hS2 : ∀ u, Below w.heap.size w u → ExsAt u (if cap = k then some ⟨b, o, none⟩ else some ⟨b, o + k * 2, none⟩) (n - k) (l.drop k) := fun u hu => slice_end (h.below hu) k cap hk hcap
      have hk2 : (0 : Int) ≤ k := by omega
      by_cases hkn : k < n
      · obtain ⟨b', o', p, hbo, hp, c0, c1⟩ := exs_at (h.below hBw) hkn
        obtain ⟨rfl, rfl⟩ : b = b' ∧ o = o' := by simpa using hbo
        have hpx : ¬ p.a < xa := fun e => hlt ⟨hkn, _, hp, e⟩
        clear hp hbo hlt
        have hk1 : (k : Int) < n := by omega
        go_wp2_with fail
        go_quiet (fail)
        have hBq := chain hBw (drewNB wr nq)
        replace e0 := bcell (drewNB wr nq) e0
        replace e1 := bcell (drewNB wr nq) e1
        have hsq := hBq.size
        have hlq : w.heap.size < (wr.drewN nq).heap.size := World.block_lt_of_cell? _ ⟨w.heap.size, 0, none⟩ e0
        generalize wr.drewN nq = wq at *
        go_wp2_with (first | (at_builtin; refine wpList_app rfl (fun K hK => wp_app _ _ 24 rfl w.heap.size 52 i0 (.agg #[.int .i64 0, .string .empty]) 24 Try.underlying24 hi hz0 hz1 hz2 rfl (by decide) ecs_len ecs_one none 0 0 [] rfl res_nil (some ⟨b, o, none⟩) k cap (l.take k) rfl (hS1 _ hBq) (fun ad h => (by cases h; rfl)) (fun h => (by cases h)) k (Nat.zero_add _) (by unfold maxLen; omega) (by omega) hsq (fun a1 cap1 w1 hr1 hg1 => hK _ _ ?_)); have hB1 : Below w.heap.size w w1 := Below.grown hBq hg1 hsq (fun k e => by simp [Value.ownBlock] at e); have q0 := hg1.cell e0 (by simp [Value.ownBlock]); have q1 := hg1.cell e1 (by simp [Value.ownBlock])) | (at_builtin; refine wpList_app rfl (fun K hK => wp_app _ _ 24 rfl w.heap.size 52 i0 (.agg #[.int .i64 0, .string .empty]) 24 Try.underlying24 hi hz0 hz1 hz2 rfl (by decide) ecs_len ecs_one a1 k cap1 ([] ++ l.take k) rfl (hr1.alloc _) _ 1 1 [(⟨xa, xd⟩ : Ex)] rfl (sl_newE' _ ⟨xa, xd⟩ _ _ (by simp)) (fun ad h => (by cases h; rfl)) (fun h => (by cases h)) (k + 1) rfl (by unfold maxLen; omega) (by omega) (by have := hB1.size; simp; omega) (fun a2 cap2 w2 hr2 hg2 => hK _ _ ?_)); have hB2 : Below w.heap.size w w2 := Below.grown (hB1.alloc hB1.size _) hg2 (by have := hB1.size; simp; omega) (own_ge fun ad had => (hr1.block ad had).1)) | (at_builtin; refine wpList_app rfl (fun K hK => wp_app _ _ 24 rfl w.heap.size 52 i0 (.agg #[.int .i64 0, .string .empty]) 24 Try.underlying24 hi hz0 hz1 hz2 rfl (by decide) ecs_len ecs_one a2 (k + 1) cap2 ([] ++ l.take k ++ [(⟨xa, xd⟩ : Ex)]) rfl hr2 (some ⟨b, o + k * 2, none⟩) (n - k) (cap - k) (l.drop k) rfl ((h.below hB2).drop k) (fun ad h => (by cases h; rfl)) (fun h => (by cases h)) (n + 1) (by omega) (by unfold maxLen; omega) (by omega) hB2.size (fun a3 cap3 w3 hr3 hg3 => hK _ _ ?_)); have hB3 : Below w.heap.size w w3 := Below.grown hB2 hg3 hB2.size (own_ge fun ad had => (hr2.block ad had).1)))
        all_goals go_returns
        all_goals exact ⟨⟨a3, n + 1, cap3, rfl, by rw [hfin.out]; exact hr3⟩, hB3⟩
      · obtain rfl : k = n := by omega
        clear hlt
        go_wp2_with fail
        go_quiet (fail)
        have hBq := chain hBw (drewNB wr nq)
        replace e0 := bcell (drewNB wr nq) e0
        replace e1 := bcell (drewNB wr nq) e1
        have hsq := hBq.size
        generalize wr.drewN nq = wq at *
        have hS3 : ∀ (u : World) (q : Option Addr), ExsAt u q 0 (l.drop k) := fun u q => by rw [List.drop_of_length_le (Nat.le_of_eq hlen.out)]; exact ⟨rfl, fun i x hx => by simp at hx⟩
        go_wp2_with (first | (at_builtin; refine wpList_app rfl (fun K hK => wp_app _ _ 24 rfl w.heap.size 52 i0 (.agg #[.int .i64 0, .string .empty]) 24 Try.underlying24 hi hz0 hz1 hz2 rfl (by decide) ecs_len ecs_one none 0 0 [] rfl res_nil (some ⟨b, o, none⟩) k cap (l.take k) rfl (hS1 _ hBq) (fun ad h => (by cases h; rfl)) (fun h => (by cases h)) k (Nat.zero_add _) (by unfold maxLen; omega) (by omega) hsq (fun a1 cap1 w1 hr1 hg1 => hK _ _ ?_)); have hB1 : Below w.heap.size w w1 := Below.grown hBq hg1 hsq (fun k e => by simp [Value.ownBlock] at e); have q0 := hg1.cell e0 (by simp [Value.ownBlock]); have q1 := hg1.cell e1 (by simp [Value.ownBlock])) | (at_builtin; refine wpList_app rfl (fun K hK => wp_app _ _ 24 rfl w.heap.size 52 i0 (.agg #[.int .i64 0, .string .empty]) 24 Try.underlying24 hi hz0 hz1 hz2 rfl (by decide) ecs_len ecs_one a1 k cap1 ([] ++ l.take k) rfl (hr1.alloc _) _ 1 1 [(⟨xa, xd⟩ : Ex)] rfl (sl_newE' _ ⟨xa, xd⟩ _ _ (by simp)) (fun ad h => (by cases h; rfl)) (fun h => (by cases h)) (k + 1) rfl (by unfold maxLen; omega) (by omega) (by have := hB1.size; simp; omega) (fun a2 cap2 w2 hr2 hg2 => hK _ _ ?_)); have hB2 : Below w.heap.size w w2 := Below.grown (hB1.alloc hB1.size _) hg2 (by have := hB1.size; simp; omega) (own_ge fun ad had => (hr1.block ad had).1)) | (at_builtin; refine wpList_app rfl (fun K hK => wp_app _ _ 24 rfl w.heap.size 52 i0 (.agg #[.int .i64 0, .string .empty]) 24 Try.underlying24 hi hz0 hz1 hz2 rfl (by decide) ecs_len ecs_one a2 (k + 1) cap2 ([] ++ l.take k ++ [(⟨xa, xd⟩ : Ex)]) rfl hr2 (if cap = k then some ⟨b, o, none⟩ else some ⟨b, o + k * 2, none⟩) 0 (cap - k) (l.drop k) rfl (hS3 _ _) (fun ad h => (by split at h <;> cases h <;> rfl)) (fun h => (by split at h <;> cases h)) (k + 1) (by omega) (by unfold maxLen; omega) (by omega) hB2.size (fun a3 cap3 w3 hr3 hg3 => hK _ _ ?_)); have hB3 : Below w.heap.size w w3 := Below.grown hB2 hg3 hB2.size (own_ge fun ad had => (hr2.block ad had).1)) | (at_builtin; refine wpList_app rfl (fun K hK => wp_app _ _ 24 rfl w.heap.size 52 i0 (.agg #[.int .i64 0, .string .empty]) 24 Try.underlying24 hi hz0 hz1 hz2 rfl (by decide) ecs_len ecs_one a2 (k + 1) cap2 ([] ++ l.take k ++ [(⟨xa, xd⟩ : Ex)]) rfl hr2 (if cap = k then some ⟨b, o, none⟩ else some ⟨b, o + k * 2, none⟩) (k - k) (cap - k) (l.drop k) rfl (by rw [Nat.sub_self]; exact hS3 _ _) (fun ad h => (by split at h <;> cases h <;> rfl)) (fun h => (by split at h <;> cases h)) (k + 1) (by omega) (by unfold maxLen; omega) (by omega) hB2.size (fun a3 cap3 w3 hr3 hg3 => hK _ _ ?_)); have hB3 : Below w.heap.size w w3 := Below.grown hB2 hg3 hB2.size (own_ge fun ad had => (hr2.block ad had).1)))
        all_goals go_returns
        all_goals exact ⟨⟨a3, k + 1, cap3, rfl, by rw [hfin.out]; exact hr3⟩, hB3⟩

set_option maxHeartbeats 2000000 in
set_option maxRecDepth 100000 in
theorem impl_withExtentN (x : Ex) (w : World) :
    Calls Try.prog 27 #[.slice none 0 0, .agg #[.int .i64 x.a, .string x.d]] w fun e w' => (∃ a' n' cap', e = .returned (.slice a' n' cap') ∧ ResAt Ex.cs 2 52 w' w.heap.size a' n' cap' (withE [] x)) ∧ Below w.heap.size w w' := by
  obtain ⟨i0, hi, hz0, hz1, hz2⟩ := info_parts infoE
  obtain ⟨xa, xd⟩ := x
  simp only at *
  have hfin : Hid (withE [] ⟨xa, xd⟩ = [] ++ [] ++ [⟨xa, xd⟩] ++ []) := by show _ = _; rfl
  have hS : ∀ u : World, ExsAt u none 0 [] := fun u => ⟨rfl, fun i x hx => by simp at hx⟩
  go_enter Try.func27, Try.ntmps27
  go_wp2_with fail
  have x0 : (w.alloc (.cells #[.int .i64 xa, .string xd] 52)).cell? ⟨w.heap.size, 0, none⟩ = some (.int .i64 xa) := by simp
  have x1 : (w.alloc (.cells #[.int .i64 xa, .string xd] 52)).cell? ⟨w.heap.size, 1, none⟩ = some (.string xd) := by simp
  have hB0 : Below w.heap.size w (w.alloc (.cells #[.int .i64 xa, .string xd] 52)) := (Below.refl _ _).alloc (Nat.le_refl _) _
  generalize w.alloc (.cells #[.int .i64 xa, .string xd] 52) = W0 at *
  go_loopw [6] (fun ix wr => ix = .int .i64 0 ∧ Below W0.heap.size W0 wr) (fun _ _ => 0)
  case atStart => exact ⟨rfl, Below.refl _ _⟩
  case round =>
    obtain ⟨rfl, hB⟩ := hrel
    have hBw := chain hB0 hB
    have e0 := bcell hB x0
    have e1 := bcell hB x1
    go_wp2_with fail
    go_quiet (fail)
    have hBq := chain hBw (drewNB wr nq)
    replace e0 := bcell (drewNB wr nq) e0
    replace e1 := bcell (drewNB wr nq) e1
    have hsq := hBq.size
    generalize wr.drewN nq = wq at *
    go_wp2_with (first | (at_builtin; refine wpList_app rfl (fun K hK => wp_app _ _ 24 rfl w.heap.size 52 i0 (.agg #[.int .i64 0, .string .empty]) 24 Try.underlying24 hi hz0 hz1 hz2 rfl (by decide) ecs_len ecs_one none 0 0 [] rfl res_nil none 0 0 [] rfl (hS _) (fun ad h => (by cases h)) (fun h => rfl) 0 (Nat.zero_add _) (by unfold maxLen; omega) (by omega) hsq (fun a1 cap1 w1 hr1 hg1 => hK _ _ ?_)); have hB1 : Below w.heap.size w w1 := Below.grown hBq hg1 hsq (fun k e => by simp [Value.ownBlock] at e); have q0 := hg1.cell e0 (by simp [Value.ownBlock]); have q1 := hg1.cell e1 (by simp [Value.ownBlock])) | (at_builtin; refine wpList_app rfl (fun K hK => wp_app _ _ 24 rfl w.heap.size 52 i0 (.agg #[.int .i64 0, .string .empty]) 24 Try.underlying24 hi hz0 hz1 hz2 rfl (by decide) ecs_len ecs_one a1 0 cap1 ([] ++ []) rfl (hr1.alloc _) _ 1 1 [(⟨xa, xd⟩ : Ex)] rfl (sl_newE' _ ⟨xa, xd⟩ _ _ (by simp)) (fun ad h => (by cases h; rfl)) (fun h => (by cases h)) 1 rfl (by unfold maxLen; omega) (by omega) (by have := hB1.size; simp; omega) (fun a2 cap2 w2 hr2 hg2 => hK _ _ ?_)); have hB2 : Below w.heap.size w w2 := Below.grown (hB1.alloc hB1.size _) hg2 (by have := hB1.size; simp; omega) (own_ge fun ad had => (hr1.block ad had).1)) | (at_builtin; refine wpList_app rfl (fun K hK => wp_app _ _ 24 rfl w.heap.size 52 i0 (.agg #[.int .i64 0, .string .empty]) 24 Try.underlying24 hi hz0 hz1 hz2 rfl (by decide) ecs_len ecs_one a2 1 cap2 ([] ++ [] ++ [(⟨xa, xd⟩ : Ex)]) rfl hr2 none 0 0 [] rfl (hS _) (fun ad h => (by cases h)) (fun h => rfl) 1 (by omega) (by unfold maxLen; omega) (by omega) hB2.size (fun a3 cap3 w3 hr3 hg3 => hK _ _ ?_)); have hB3 : Below w.heap.size w w3 := Below.grown hB2 hg3 hB2.size (own_ge fun ad had => (hr2.block ad had).1)))
    all_goals go_returns
    all_goals exact ⟨⟨a3, 1, cap3, rfl, by rw [hfin.out]; exact hr3⟩, hB3⟩

theorem impl_withExtentA (a : Option Addr) (n cap : Nat) (l : List Ex) (x : Ex) (w : World) (h : ExsAt w a n l) (hn : n ≤ 60) (hcap : n ≤ cap) (hc2 : cap ≤ 9223372036854775807) (hA : (a = none ∧ n = 0 ∧ cap = 0) ∨ ∃ b o, a = some ⟨b, o, none⟩) :
    Calls Try.prog 27 #[.slice a n cap, .agg #[.int .i64 x.a, .string x.d]] w fun e w' => (∃ a' n' cap', e = .returned (.slice a' n' cap') ∧ ResAt Ex.cs 2 52 w' w.heap.size a' n' cap' (withE l x)) ∧ Below w.heap.size w w' := by
  rcases hA with ⟨rfl, rfl, rfl⟩ | ⟨b, o, rfl⟩
  · obtain rfl := List.eq_nil_of_length_eq_zero h.len
    exact impl_withExtentN x w
  · exact impl_withExtentW b o n cap l x w h hn hcap hc2
end Go.Proofs.Ytckljlgojhloiaa
namespace Go.Proofs.Ytckljlgojhloiaa
open Go.RowKit Go.Shelf

attribute [local go_sem] Oper.semAt_some

theorem keeps_below {A B : World} (h : Below A.heap.size A B) : KeepsOthers A B :=
  KeepsOthers.of_grownBy (row := none) ⟨h.os, h.tape, h.output, h.size, fun k hk _ => h.block k hk⟩ (fun j o e _ => by cases e)

theorem KpG.refl (n₀ Bs : Nat) (t : TypeId) (A : World) : KpG n₀ Bs t A A := ⟨Below.refl _ _, fun _ _ h => h, fun _ h => h⟩

theorem res_own {B : Nat} {a : Option Addr} {n cap : Nat} {l : List Ex} {t : TypeId} {X Y : World} {row : Option Nat} (h : ResAt Ex.cs 2 t X B a n cap l) (hg : X.grownBy Y row) (hr : ∀ r, row = some r → ∃ o : Obj, X.heap[r]? = some o ∧ o.isCells = false) : ResAt Ex.cs 2 t Y B a n cap l := by
  have hne : ∀ b c, Blk X b c t → some b ≠ row := fun b c hb e => by
    obtain ⟨o, ho, hc⟩ := hr b e.symm
    rw [show X.heap[b]? = _ from hb] at ho; cases ho; cases hc
  rcases h.own with ⟨rfl, rfl, rfl⟩ | ⟨b, rfl, hB, h1, h2, c, hc, q⟩
  · exact ⟨⟨h.sl.len, fun i x hx => by obtain ⟨b, o, ha, _⟩ := h.sl.cell i x hx; cases ha⟩, .inl ⟨rfl, rfl, rfl⟩⟩
  · have hb := hne b c hc
    refine ⟨⟨h.sl.len, fun i x hx => ?_⟩, .inr ⟨b, rfl, hB, h1, h2, c, ?_, q⟩⟩
    · obtain ⟨b', o', ha, hcell⟩ := h.sl.cell i x hx
      cases ha
      exact ⟨b, 0, rfl, fun j v hv => hg.cell (hcell j v hv) hb⟩
    · show Y.heap[b]? = _
      rw [hg.block b hc.lt hb]; exact hc

theorem Boxed.belowB {A B : World} {b : Nat} {t : TypeId} {v : Value} (h : Boxed A b t v) (hb : Below A.heap.size A B) : Boxed B b t v := (hb.block b h.lt).trans h

theorem boxed_keep {A B : World} {row : Option Nat} {b : Nat} {t : TypeId} {v : Value} (h : Boxed A b t v) (hg : A.grownBy B row) (hr : ∀ r, row = some r → ∃ o : Obj, A.heap[r]? = some o ∧ o.isCells = false) : Boxed B b t v :=
  h.kept hg (fun e' => by obtain ⟨o, ho, hc⟩ := hr _ e'.symm; rw [show A.heap[b]? = _ from h] at ho; cases ho; cases hc)

/-- None of these gaps has room. -/
def NoFit (m : Int) (pre : List (Int × Int)) : Prop := ∀ y ∈ pre, decide (m ≤ y.2) = false
/-- The last of these gaps is the first with room, and the boxes hold what is answered then. -/
def Got (W : World) (B : Nat) (l : List Ex) (d : ByteArray) (pre : List (Int × Int)) : Prop :=
  ∃ pre' x a' n' cap', pre = pre' ++ [x] ∧ NoFit d.size pre' ∧ decide ((d.size : Int) ≤ x.2) = true ∧ Boxed W (B + 1 + 1) 24 (.slice a' n' cap') ∧ ResAt Ex.cs 2 52 W B a' n' cap' (withE l ⟨x.1, d⟩) ∧ Boxed W (B + 1 + 1 + 1) 2 (.int .i64 x.1) ∧ Boxed W (B + 1 + 1 + 1 + 1) 4 (.bool true)

theorem find_pre {α : Type} {f : α → Bool} {pre l : List α} {x : α} (h : pre ++ [x] <+: l) (hn : ∀ y ∈ pre, f y = false) (hx : f x = true) : l.find? f = some x := by
  obtain ⟨t, rfl⟩ := h
  rw [List.append_assoc, List.find?_append, List.find?_eq_none.2 (fun y hy => by simp [hn y hy])]
  simp [hx]

theorem box5 {w w1 : World} {v0 v1 v2 v3 v4 : Value} {t0 t1 t2 t3 t4 : TypeId} (hb : Below (((((w.alloc (.cells #[v0] t0)).alloc (.cells #[v1] t1)).alloc (.cells #[v2] t2)).alloc (.cells #[v3] t3)).alloc (.cells #[v4] t4)).heap.size (((((w.alloc (.cells #[v0] t0)).alloc (.cells #[v1] t1)).alloc (.cells #[v2] t2)).alloc (.cells #[v3] t3)).alloc (.cells #[v4] t4)) w1) :
    Boxed w1 w.heap.size t0 v0 ∧ Boxed w1 (w.heap.size + 1) t1 v1 ∧ Boxed w1 (w.heap.size + 1 + 1) t2 v2 ∧ Boxed w1 (w.heap.size + 1 + 1 + 1) t3 v3 ∧ Boxed w1 (w.heap.size + 1 + 1 + 1 + 1) t4 v4 ∧ Below w.heap.size w w1 := by
  have e0 := ((((Boxed.new w t0 v0).alloc (.cells #[v1] t1)).alloc (.cells #[v2] t2)).alloc (.cells #[v3] t3)).alloc (.cells #[v4] t4)
  have e1 := (((Boxed.new (w.alloc (.cells #[v0] t0)) t1 v1).alloc (.cells #[v2] t2)).alloc (.cells #[v3] t3)).alloc (.cells #[v4] t4)
  have e2 := ((Boxed.new ((w.alloc (.cells #[v0] t0)).alloc (.cells #[v1] t1)) t2 v2).alloc (.cells #[v3] t3)).alloc (.cells #[v4] t4)
  have e3 := (Boxed.new (((w.alloc (.cells #[v0] t0)).alloc (.cells #[v1] t1)).alloc (.cells #[v2] t2)) t3 v3).alloc (.cells #[v4] t4)
  have e4 := Boxed.new ((((w.alloc (.cells #[v0] t0)).alloc (.cells #[v1] t1)).alloc (.cells #[v2] t2)).alloc (.cells #[v3] t3)) t4 v4
  simp only [World.size_alloc] at e1 e2 e3 e4
  exact ⟨Boxed.belowB e0 hb, Boxed.belowB e1 hb, Boxed.belowB e2 hb, Boxed.belowB e3 hb, Boxed.belowB e4 hb, chain (by go_grown) hb⟩

set_option maxRecDepth 100000 in
set_option maxHeartbeats 4000000 in
theorem impl_Placed_in (size : Int) (b o n cap : Nat) (l : List Ex) (d : ByteArray) (w : World) (h : ExsAt w (some ⟨b, o, none⟩) n l) (hstr : Strs l) (hn : n ≤ 4194304) (hcap : n ≤ cap) (hc2 : cap ≤ 8388608) (hd : d.size ≤ 9223372036854775807) (hbw : b < w.heap.size) :
    CallsIn Fence.wide 6 Try.prog 7 #[.int .i64 size, .slice (some ⟨b, o, none⟩) n cap, .string d] w fun e w' => RetPl w.heap.size e w' (placedO size l d) ∧ Below w.heap.size w w' := by
  have f41 : Fence.wide.fn 15 := trivial
  have f113 : Fence.wide.fn 25 := trivial
  have f114 : Fence.wide.fn 26 := trivial
  have hlen : Hid (l.length = n) := h.len
  by_cases hgo : spaceOkB size l = true ∧ dataOkB d = true ∧ n ≠ 60
  · obtain ⟨hok, hdo, h60⟩ := hgo
    have h60' : ((n : Int) == 60) = false := beq_eq_false_iff_ne.2 (by omega)
    have hf : placedO size l d = ((ggo size 1 l).find? (fun x => decide ((d.size : Int) ≤ x.2))).map (fun x => (withE l ⟨x.1, d⟩, x.1)) := by unfold placedO; rw [if_pos ⟨hok, hdo, by rw [hlen.out]; exact h60⟩]
    rw [hf]
    obtain ⟨hs1, hs2, hln, hxg⟩ := ok_parts hok
    rw [hlen.out] at hln
    refine callsIn_of_wp_marks Try.func7 rfl trivial ?_ rfl
    simp only [Try.ntmps7, List.size_toArray, List.length_cons, List.length_nil, Nat.reduceAdd, Nat.reduceSub, Array.replicate_succ, Array.replicate_zero, List.push_toArray, List.append_toArray, List.nil_append, List.cons_append]
    gi_wp2_with (first | (gi_at_call 15; refine (callsIn_wide.2 (impl_SpaceOk size _ n cap l _ (h.below (by go_grown)) hstr hn)).mono ?_; rintro e w1 ⟨rfl, hB1⟩; rw [hok]; obtain ⟨k0, k1, k2, k3, k4, hB1'⟩ := box5 hB1; clear hB1; have c0 := k0.cell; have c1 := k1.cell) | (gi_at_call 25; refine (callsIn_wide.2 (impl_dataOk d _ hd)).mono ?_; rintro e w2 ⟨rfl, rfl⟩; rw [hdo]) | (gi_at_call 26; refine (gaps_in _ size _ n cap _).mono ?_; rintro e w2 ⟨rfl, rfl⟩))
    have hz := hB1'.size
    have hsz2 : w.heap.size + 1 + 1 + 1 + 1 < w2.heap.size := k4.lt
    have hB0 : Below w.heap.size w ((w2.alloc (.cells #[.int .i64 size] 2)).alloc (.cells #[.slice (some ⟨b, o, none⟩) n cap] 24)) := (hB1'.alloc hz _).alloc (by simp; omega) _
    have j0 := (k0.alloc (.cells #[.int .i64 size] 2)).alloc (.cells #[.slice (some ⟨b, o, none⟩) n cap] 24)
    have j1 := (k1.alloc (.cells #[.int .i64 size] 2)).alloc (.cells #[.slice (some ⟨b, o, none⟩) n cap] 24)
    have j2 := (k2.alloc (.cells #[.int .i64 size] 2)).alloc (.cells #[.slice (some ⟨b, o, none⟩) n cap] 24)
    have j3 := (k3.alloc (.cells #[.int .i64 size] 2)).alloc (.cells #[.slice (some ⟨b, o, none⟩) n cap] 24)
    have j4 := (k4.alloc (.cells #[.int .i64 size] 2)).alloc (.cells #[.slice (some ⟨b, o, none⟩) n cap] 24)
    have bS := (Boxed.new w2 2 (.int .i64 size)).alloc (.cells #[.slice (some ⟨b, o, none⟩) n cap] 24)
    have bL : Boxed ((w2.alloc (.cells #[.int .i64 size] 2)).alloc (.cells #[.slice (some ⟨b, o, none⟩) n cap] 24)) (w2.heap.size + 1) 24 (.slice (some ⟨b, o, none⟩) n cap) := by
      have := Boxed.new (w2.alloc (.cells #[.int .i64 size] 2)) 24 (.slice (some ⟨b, o, none⟩) n cap)
      simpa using this
    have hszW : ((w2.alloc (.cells #[.int .i64 size] 2)).alloc (.cells #[.slice (some ⟨b, o, none⟩) n cap] 24)).heap.size = w2.heap.size + 1 + 1 := by simp
    clear k0 k1 k2 k3 k4 c0 c1
    generalize (w2.alloc (.cells #[.int .i64 size] 2)).alloc (.cells #[.slice (some ⟨b, o, none⟩) n cap] 24) = W0 at *
    refine wpIn_rangeFunc_ownF rfl (by omega) (gf := 34) (lb := #[.pointer (some ⟨w2.heap.size + 1, 0, none⟩), .pointer (some ⟨w2.heap.size, 0, none⟩)]) rfl trivial (enters_of Try.func34 (by kernel_rfl) rfl)
      (gaps_stops (6 - 1) (by omega) (w2.heap.size + 1) w2.heap.size w.heap.size size (some ⟨b, o, none⟩) n cap l W0 (by omega) bL.cell bS.cell ⟨h.below hB0, fun ad _ had => by cases had; exact hbw⟩ hxg hs1 hs2 (by omega)) KpG.t (KpG.b (by omega) (by omega)) (Below.refl _ _) (fun _ => rfl)
      (fun pre W => (NoFit d.size pre ∧ Boxed W w.heap.size 24 (.slice (some ⟨b, o, none⟩) n cap) ∧ Boxed W (w.heap.size + 1) 9 (.string d) ∧ Boxed W (w.heap.size + 1 + 1) 24 (.slice none 0 0) ∧ Boxed W (w.heap.size + 1 + 1 + 1) 2 (.int .i64 0) ∧ Boxed W (w.heap.size + 1 + 1 + 1 + 1) 4 (.bool false)) ∧ Below w.heap.size w W)
      (fun c pre W => (c = .ret ∧ Got W w.heap.size l d pre) ∧ Below w.heap.size w W)
      (OwnFrom.and (fun s A B row hs hg hr => ⟨hs.1, boxed_keep hs.2.1 hg (fun r e => (hr r e).2), boxed_keep hs.2.2.1 hg (fun r e => (hr r e).2), boxed_keep hs.2.2.2.1 hg (fun r e => (hr r e).2), boxed_keep hs.2.2.2.2.1 hg (fun r e => (hr r e).2), boxed_keep hs.2.2.2.2.2 hg (fun r e => (hr r e).2)⟩) (ownFrom_below (Nat.le_refl _) (by omega)))
      (fun c => OwnFrom.and (fun s A B row hs hg hr => by
        obtain ⟨hc, pre', x, a', n', cap', e1, e2, e3, g1, g2, g3, g4⟩ := hs
        exact ⟨hc, pre', x, a', n', cap', e1, e2, e3, boxed_keep g1 hg (fun r e => (hr r e).2), res_own g2 hg (fun r e => (hr r e).2), boxed_keep g3 hg (fun r e => (hr r e).2), boxed_keep g4 hg (fun r e => (hr r e).2)⟩) (ownFrom_below (Nat.le_refl _) (by omega)))
      ⟨⟨fun y hy => by simp at hy, j0, j1, j2, j3, j4⟩, hB0⟩
      (fun x => { tmps := #[.int .i64 size, .slice (some ⟨b, o, none⟩) n cap, .string d, undef, .pointer (some ⟨w.heap.size, 0, none⟩), .pointer (some ⟨w.heap.size + 1, 0, none⟩), .pointer (some ⟨w.heap.size + 1 + 1, 0, none⟩), .pointer (some ⟨w.heap.size + 1 + 1 + 1, 0, none⟩), .pointer (some ⟨w.heap.size + 1 + 1 + 1 + 1, 0, none⟩), .int .i64 x.1, .int .i64 x.2, .int .i64 size, .slice (some ⟨b, o, none⟩) n cap, .bool true, .bool false, .bool false, .string d, .bool true, .bool false, .bool false, .bool false, .slice (some ⟨b, o, none⟩) n cap, .int .i64 n, .bool false, .bool false, .int .i64 size, .slice (some ⟨b, o, none⟩) n cap, .func (.func 34) #[] #[.pointer (some ⟨w2.heap.size + 1, 0, none⟩), .pointer (some ⟨w2.heap.size, 0, none⟩)], .int .i64 x.1, .int .i64 x.2, undef, undef, undef, undef, undef, undef, undef, undef, undef, undef], defers := [] }) ?assign ?body ?done ?stop
    case assign =>
      intro l x W K hK
      gi_wp2
      exact hK
    case body =>
      rintro lp pre x W ⟨⟨hno, p0, p1, p2, p3, p4⟩, hB⟩ hlt
      have c0 := p0.cell
      have c1 := p1.cell
      have fw : Fence.wide.fn 27 := trivial
      by_cases hfit : (d.size : Int) ≤ x.2
      · gi_wp2_with (gi_at_call 27; refine (CallsIn.inRound lp (callsIn_wide.2 (impl_withExtent b o n cap l ⟨x.1, d⟩ W (h.below hB) (by omega) hcap hc2))).mono ?_; rintro e w3 ⟨⟨a', n', cap', rfl, hres⟩, hB3⟩; have p2' := Boxed.belowB p2 hB3; have p3' := Boxed.belowB p3 hB3; have p4' := Boxed.belowB p4 hB3; have c2 := p2'.cell; have f2 := p2'.frozen; have c3 := p3'.cell; have f3 := p3'.frozen; have c4 := p4'.cell; have f4 := p4'.frozen)
        have m2 := p2.lt
        have m3 := p3.lt
        have m4 := p4.lt
        have q2 := ((p2'.set (.slice a' n' cap')).other (B' := w.heap.size + 1 + 1 + 1) (by omega) (.int .i64 x.1)).other (B' := w.heap.size + 1 + 1 + 1 + 1) (by omega) (.bool true)
        have q3 := ((p3'.other (B' := w.heap.size + 1 + 1) (by omega) (.slice a' n' cap')).set (.int .i64 x.1)).other (B' := w.heap.size + 1 + 1 + 1 + 1) (by omega) (.bool true)
        have q4 := ((p4'.other (B' := w.heap.size + 1 + 1) (by omega) (.slice a' n' cap')).other (B' := w.heap.size + 1 + 1 + 1) (by omega) (.int .i64 x.1)).set (.bool true)
        have hbk := hres.block
        have hres2 := ((hres.grown (grownBy_setCell' w3 (w.heap.size + 1 + 1) (.slice a' n' cap')) (fun ad had => by have := (hbk ad had).1; omega)).grown (grownBy_setCell' _ (w.heap.size + 1 + 1 + 1) (.int .i64 x.1)) (fun ad had => by have := (hbk ad had).1; omega)).grown (grownBy_setCell' _ (w.heap.size + 1 + 1 + 1 + 1) (.bool true)) (fun ad had => by have := (hbk ad had).1; omega)
        have hB4 := (((chain hB hB3).setCell (p := ⟨w.heap.size + 1 + 1, 0, none⟩) (by simp; omega) (.slice a' n' cap')).setCell (p := ⟨w.heap.size + 1 + 1 + 1, 0, none⟩) (by simp; omega) (.int .i64 x.1)).setCell (p := ⟨w.heap.size + 1 + 1 + 1 + 1, 0, none⟩) (by simp; omega) (.bool true)
        exact ⟨(((keeps_below hB3).trans (KeepsOthers.setCell _ _ _)).trans (KeepsOthers.setCell _ _ _)).trans (KeepsOthers.setCell _ _ _), ⟨rfl, pre, x, a', n', cap', rfl, hno, by simpa using hfit, q2, hres2.mono (by omega), q3, q4⟩, hB4⟩
      · have hno' : NoFit d.size (pre ++ [x]) := fun y hy => by
          rcases List.mem_append.1 hy with hy | hy
          · exact hno y hy
          · simp at hy; subst hy; simpa using hfit
        gi_wp2
        exact ⟨KeepsOthers.refl _, KpG.refl _ _ _ _, ⟨hno', p0, p1, p2, p3, p4⟩, hB⟩
    case done =>
      rintro D ys W hD rfl ⟨⟨hno, p0, p1, p2, p3, p4⟩, hB⟩ hK
      have c2 := p2.cell
      have f2 := p2.frozen
      have c3 := p3.cell
      have f3 := p3.frozen
      have c4 := p4.cell
      have f4 := p4.frozen
      have q2 := ((p2.set (.slice none 0 0)).other (B' := w.heap.size + 1 + 1 + 1) (by omega) (.int .i64 0)).other (B' := w.heap.size + 1 + 1 + 1 + 1) (by omega) (.bool false)
      have q3 := ((p3.other (B' := w.heap.size + 1 + 1) (by omega) (.slice none 0 0)).set (.int .i64 0)).other (B' := w.heap.size + 1 + 1 + 1 + 1) (by omega) (.bool false)
      have q4 := ((p4.other (B' := w.heap.size + 1 + 1) (by omega) (.slice none 0 0)).other (B' := w.heap.size + 1 + 1 + 1) (by omega) (.int .i64 0)).set (.bool false)
      have hB4 := ((hB.setCell (p := ⟨w.heap.size + 1 + 1, 0, none⟩) (by simp; omega) (.slice none 0 0)).setCell (p := ⟨w.heap.size + 1 + 1 + 1, 0, none⟩) (by simp; omega) (.int .i64 0)).setCell (p := ⟨w.heap.size + 1 + 1 + 1 + 1, 0, none⟩) (by simp; omega) (.bool false)
      have hK' := (((KeepsOthers.setCell W ⟨w.heap.size + 1 + 1, 0, none⟩ (.slice none 0 0)).trans (KeepsOthers.setCell _ ⟨w.heap.size + 1 + 1 + 1, 0, none⟩ (.int .i64 0))).trans (KeepsOthers.setCell _ ⟨w.heap.size + 1 + 1 + 1 + 1, 0, none⟩ (.bool false))).same D _ hK rfl
      gi_wp2
      generalize ((W.setCell ⟨w.heap.size + 1 + 1, 0, none⟩ (.slice none 0 0)).setCell ⟨w.heap.size + 1 + 1 + 1, 0, none⟩ (.int .i64 0)).setCell ⟨w.heap.size + 1 + 1 + 1 + 1, 0, none⟩ (.bool false) = W4 at *
      refine ⟨by simp, .inl ⟨_, _, rfl, run_takeDeferred hK', ?_⟩⟩
      have hkeep : ∀ r, some D = some r → ∃ o : Obj, W4.heap[r]? = some o ∧ o.isCells = false := fun r e => by cases e; exact ⟨_, hK', rfl⟩
      have hc6 := (boxed_keep q2 (grownBy_putObj' W4 D (.deferred none)) hkeep).cell
      have hc7 := (boxed_keep q3 (grownBy_putObj' W4 D (.deferred none)) hkeep).cell
      have hc8 := (boxed_keep q4 (grownBy_putObj' W4 D (.deferred none)) hkeep).cell
      refine ⟨.tuple #[.slice none 0 0, .int .i64 0, .bool false], ?_, ?_, hB4.trans (belowK_b (w := w) (Nat.le_refl _) W4 D _ _ (by omega) hK' rfl rfl)⟩
      · simp [results, Try.f7, go_sem, hc6, hc7, hc8]
      · rw [List.find?_eq_none.2 (fun y hy => by rw [hno y hy]; simp)]
        rfl
    case stop =>
      rintro D c pre W hD hpre ⟨⟨rfl, pre', x, a', n', cap', rfl, e2, e3, g1, g2, g3, g4⟩, hB⟩ hK
      gi_wp2
      refine ⟨by simp, .inl ⟨_, _, rfl, run_takeDeferred hK, ?_⟩⟩
      have hkeep : ∀ r, some D = some r → ∃ o : Obj, W.heap[r]? = some o ∧ o.isCells = false := fun r e => by cases e; exact ⟨_, hK, rfl⟩
      have hc6 := (boxed_keep g1 (grownBy_putObj' W D (.deferred none)) hkeep).cell
      have hc7 := (boxed_keep g3 (grownBy_putObj' W D (.deferred none)) hkeep).cell
      have hc8 := (boxed_keep g4 (grownBy_putObj' W D (.deferred none)) hkeep).cell
      have hr8 := res_own g2 (grownBy_putObj' W D (.deferred none)) hkeep
      refine ⟨.tuple #[.slice a' n' cap', .int .i64 x.1, .bool true], ?_, ?_, hB.trans (belowK_b (w := w) (Nat.le_refl _) W D _ _ (by omega) hK rfl rfl)⟩
      · simp [results, Try.f7, go_sem, hc6, hc7, hc8]
      · rw [find_pre hpre e2 e3]
        exact ⟨a', n', cap', rfl, hr8⟩
  · have hf : placedO size l d = none := by
      unfold placedO
      rw [if_neg (fun e => hgo ⟨e.1, e.2.1, by rw [← hlen.out]; exact e.2.2⟩)]
    rw [hf]
    have hcase : spaceOkB size l = false ∨ (spaceOkB size l = true ∧ dataOkB d = false) ∨ (spaceOkB size l = true ∧ dataOkB d = true ∧ n = 60) := by
      cases h1 : spaceOkB size l
      · exact .inl rfl
      · cases h2 : dataOkB d
        · exact .inr (.inl ⟨rfl, rfl⟩)
        · exact .inr (.inr ⟨rfl, rfl, Classical.byContradiction fun e => hgo ⟨h1, h2, e⟩⟩)
    clear hgo hf
    rcases hcase with hok | ⟨hok, hdo⟩ | ⟨hok, hdo, h60⟩
    · skip
      refine callsIn_of_wp_marks Try.func7 rfl trivial ?_ rfl
      simp only [Try.ntmps7, List.size_toArray, List.length_cons, List.length_nil, Nat.reduceAdd, Nat.reduceSub, Array.replicate_succ, Array.replicate_zero, List.push_toArray, List.append_toArray, List.nil_append, List.cons_append]
      gi_wp2_with (gi_at_call 15; refine (callsIn_wide.2 (impl_SpaceOk size _ n cap l _ (h.below (by go_grown)) hstr hn)).mono ?_; rintro e w1 ⟨rfl, hB1⟩; rw [hok]; obtain ⟨k0, k1, k2, k3, k4, hB1'⟩ := box5 hB1; clear hB1; have c0 := k0.cell; have c1 := k1.cell; have c2 := k2.cell; have f2 := k2.frozen; have c3 := k3.cell; have f3 := k3.frozen; have c4 := k4.cell; have f4 := k4.frozen)
      have hz := hB1'.size
      have q2 := ((k2.set (.slice none 0 0)).other (B' := w.heap.size + 1 + 1 + 1) (by omega) (.int .i64 0)).other (B' := w.heap.size + 1 + 1 + 1 + 1) (by omega) (.bool false)
      have q3 := ((k3.other (B' := w.heap.size + 1 + 1) (by omega) (.slice none 0 0)).set (.int .i64 0)).other (B' := w.heap.size + 1 + 1 + 1 + 1) (by omega) (.bool false)
      have q4 := ((k4.other (B' := w.heap.size + 1 + 1) (by omega) (.slice none 0 0)).other (B' := w.heap.size + 1 + 1 + 1) (by omega) (.int .i64 0)).set (.bool false)
      have hB4 := ((hB1'.setCell (p := ⟨w.heap.size + 1 + 1, 0, none⟩) (by simp; omega) (.slice none 0 0)).setCell (p := ⟨w.heap.size + 1 + 1 + 1, 0, none⟩) (by simp; omega) (.int .i64 0)).setCell (p := ⟨w.heap.size + 1 + 1 + 1 + 1, 0, none⟩) (by simp; omega) (.bool false)
      generalize ((w1.setCell ⟨w.heap.size + 1 + 1, 0, none⟩ (.slice none 0 0)).setCell ⟨w.heap.size + 1 + 1 + 1, 0, none⟩ (.int .i64 0)).setCell ⟨w.heap.size + 1 + 1 + 1 + 1, 0, none⟩ (.bool false) = W4 at *
      have hc6 := q2.cell
      have hc7 := q3.cell
      have hc8 := q4.cell
      exact ⟨.tuple #[.slice none 0 0, .int .i64 0, .bool false], by simp [results, Try.f7, go_sem, hc6, hc7, hc8], rfl, hB4⟩
    · skip
      refine callsIn_of_wp_marks Try.func7 rfl trivial ?_ rfl
      simp only [Try.ntmps7, List.size_toArray, List.length_cons, List.length_nil, Nat.reduceAdd, Nat.reduceSub, Array.replicate_succ, Array.replicate_zero, List.push_toArray, List.append_toArray, List.nil_append, List.cons_append]
      gi_wp2_with (first | (gi_at_call 15; refine (callsIn_wide.2 (impl_SpaceOk size _ n cap l _ (h.below (by go_grown)) hstr hn)).mono ?_; rintro e w1 ⟨rfl, hB1⟩; rw [hok]; obtain ⟨k0, k1, k2, k3, k4, hB1'⟩ := box5 hB1; clear hB1; have c0 := k0.cell; have c1 := k1.cell; have c2 := k2.cell; have f2 := k2.frozen; have c3 := k3.cell; have f3 := k3.frozen; have c4 := k4.cell; have f4 := k4.frozen) | (gi_at_call 25; refine (callsIn_wide.2 (impl_dataOk d _ hd)).mono ?_; rintro e w2 ⟨rfl, rfl⟩; rw [hdo]))
      have hz := hB1'.size
      have q2 := ((k2.set (.slice none 0 0)).other (B' := w.heap.size + 1 + 1 + 1) (by omega) (.int .i64 0)).other (B' := w.heap.size + 1 + 1 + 1 + 1) (by omega) (.bool false)
      have q3 := ((k3.other (B' := w.heap.size + 1 + 1) (by omega) (.slice none 0 0)).set (.int .i64 0)).other (B' := w.heap.size + 1 + 1 + 1 + 1) (by omega) (.bool false)
      have q4 := ((k4.other (B' := w.heap.size + 1 + 1) (by omega) (.slice none 0 0)).other (B' := w.heap.size + 1 + 1 + 1) (by omega) (.int .i64 0)).set (.bool false)
      have hB4 := ((hB1'.setCell (p := ⟨w.heap.size + 1 + 1, 0, none⟩) (by simp; omega) (.slice none 0 0)).setCell (p := ⟨w.heap.size + 1 + 1 + 1, 0, none⟩) (by simp; omega) (.int .i64 0)).setCell (p := ⟨w.heap.size + 1 + 1 + 1 + 1, 0, none⟩) (by simp; omega) (.bool false)
      generalize ((w2.setCell ⟨w.heap.size + 1 + 1, 0, none⟩ (.slice none 0 0)).setCell ⟨w.heap.size + 1 + 1 + 1, 0, none⟩ (.int .i64 0)).setCell ⟨w.heap.size + 1 + 1 + 1 + 1, 0, none⟩ (.bool false) = W4 at *
      have hc6 := q2.cell
      have hc7 := q3.cell
      have hc8 := q4.cell
      exact ⟨.tuple #[.slice none 0 0, .int .i64 0, .bool false], by simp [results, Try.f7, go_sem, hc6, hc7, hc8], rfl, hB4⟩
    · have h60' : ((n : Int) == 60) = true := by simp [h60]
      clear h60
      refine callsIn_of_wp_marks Try.func7 rfl trivial ?_ rfl
      simp only [Try.ntmps7, List.size_toArray, List.length_cons, List.length_nil, Nat.reduceAdd, Nat.reduceSub, Array.replicate_succ, Array.replicate_zero, List.push_toArray, List.append_toArray, List.nil_append, List.cons_append]
      gi_wp2_with (first | (gi_at_call 15; refine (callsIn_wide.2 (impl_SpaceOk size _ n cap l _ (h.below (by go_grown)) hstr hn)).mono ?_; rintro e w1 ⟨rfl, hB1⟩; rw [hok]; obtain ⟨k0, k1, k2, k3, k4, hB1'⟩ := box5 hB1; clear hB1; have c0 := k0.cell; have c1 := k1.cell; have c2 := k2.cell; have f2 := k2.frozen; have c3 := k3.cell; have f3 := k3.frozen; have c4 := k4.cell; have f4 := k4.frozen) | (gi_at_call 25; refine (callsIn_wide.2 (impl_dataOk d _ hd)).mono ?_; rintro e w2 ⟨rfl, rfl⟩; rw [hdo]))
      have hz := hB1'.size
      have q2 := ((k2.set (.slice none 0 0)).other (B' := w.heap.size + 1 + 1 + 1) (by omega) (.int .i64 0)).other (B' := w.heap.size + 1 + 1 + 1 + 1) (by omega) (.bool false)
      have q3 := ((k3.other (B' := w.heap.size + 1 + 1) (by omega) (.slice none 0 0)).set (.int .i64 0)).other (B' := w.heap.size + 1 + 1 + 1 + 1) (by omega) (.bool false)
      have q4 := ((k4.other (B' := w.heap.size + 1 + 1) (by omega) (.slice none 0 0)).other (B' := w.heap.size + 1 + 1 + 1) (by omega) (.int .i64 0)).set (.bool false)
      have hB4 := ((hB1'.setCell (p := ⟨w.heap.size + 1 + 1, 0, none⟩) (by simp; omega) (.slice none 0 0)).setCell (p := ⟨w.heap.size + 1 + 1 + 1, 0, none⟩) (by simp; omega) (.int .i64 0)).setCell (p := ⟨w.heap.size + 1 + 1 + 1 + 1, 0, none⟩) (by simp; omega) (.bool false)
      generalize ((w2.setCell ⟨w.heap.size + 1 + 1, 0, none⟩ (.slice none 0 0)).setCell ⟨w.heap.size + 1 + 1 + 1, 0, none⟩ (.int .i64 0)).setCell ⟨w.heap.size + 1 + 1 + 1 + 1, 0, none⟩ (.bool false) = W4 at *
      have hc6 := q2.cell
      have hc7 := q3.cell
      have hc8 := q4.cell
      exact ⟨.tuple #[.slice none 0 0, .int .i64 0, .bool false], by simp [results, Try.f7, go_sem, hc6, hc7, hc8], rfl, hB4⟩

theorem impl_Placed (size : Int) (b o n cap : Nat) (l : List Ex) (d : ByteArray) (w : World) (h : ExsAt w (some ⟨b, o, none⟩) n l) (hstr : Strs l) (hn : n ≤ 4194304) (hcap : n ≤ cap) (hc2 : cap ≤ 8388608) (hd : d.size ≤ 9223372036854775807) (hbw : b < w.heap.size) :
    Calls Try.prog 7 #[.int .i64 size, .slice (some ⟨b, o, none⟩) n cap, .string d] w fun e w' => RetPl w.heap.size e w' (placedO size l d) ∧ Below w.heap.size w w' :=
  callsIn_wide.1 (impl_Placed_in size b o n cap l d w h hstr hn hcap hc2 hd hbw)
end Go.Proofs.Ytckljlgojhloiaa
namespace Go.Proofs.Ytckljlgojhloiaa
open Go.RowKit Go.Shelf

attribute [local go_sem] Oper.semAt_some

set_option maxRecDepth 100000 in
set_option maxHeartbeats 4000000 in
theorem impl_PlacedA_in (size : Int) (a : Option Addr) (n cap : Nat) (l : List Ex) (d : ByteArray) (w : World) (h : ExsAt w a n l) (hstr : Strs l) (hn : n ≤ 4194304) (hcap : n ≤ cap) (hc2 : cap ≤ 9223372036854775807) (hd : d.size ≤ 9223372036854775807) (hA : (a = none ∧ n = 0 ∧ cap = 0) ∨ ∃ b o, a = some ⟨b, o, none⟩) (hbw : ∀ ad, 0 < n → a = some ad → ad.block < w.heap.size) :
    CallsIn Fence.wide 6 Try.prog 7 #[.int .i64 size, .slice a n cap, .string d] w fun e w' => RetPl w.heap.size e w' (placedO size l d) ∧ Below w.heap.size w w' := by
  have f41 : Fence.wide.fn 15 := trivial
  have f113 : Fence.wide.fn 25 := trivial
  have f114 : Fence.wide.fn 26 := trivial
  have hlen : Hid (l.length = n) := h.len
  by_cases hgo : spaceOkB size l = true ∧ dataOkB d = true ∧ n ≠ 60
  · obtain ⟨hok, hdo, h60⟩ := hgo
    have h60' : ((n : Int) == 60) = false := beq_eq_false_iff_ne.2 (by omega)
    have hf : placedO size l d = ((ggo size 1 l).find? (fun x => decide ((d.size : Int) ≤ x.2))).map (fun x => (withE l ⟨x.1, d⟩, x.1)) := by unfold placedO; rw [if_pos ⟨hok, hdo, by rw [hlen.out]; exact h60⟩]
    rw [hf]
    obtain ⟨hs1, hs2, hln, hxg⟩ := ok_parts hok
    rw [hlen.out] at hln
    refine callsIn_of_wp_marks Try.func7 rfl trivial ?_ rfl
    simp only [Try.ntmps7, List.size_toArray, List.length_cons, List.length_nil, Nat.reduceAdd, Nat.reduceSub, Array.replicate_succ, Array.replicate_zero, List.push_toArray, List.append_toArray, List.nil_append, List.cons_append]
    gi_wp2_with (first | (gi_at_call 15; refine (callsIn_wide.2 (impl_SpaceOk size _ n cap l _ (h.below (by go_grown)) hstr hn)).mono ?_; rintro e w1 ⟨rfl, hB1⟩; rw [hok]; obtain ⟨k0, k1, k2, k3, k4, hB1'⟩ := box5 hB1; clear hB1; have c0 := k0.cell; have c1 := k1.cell) | (gi_at_call 25; refine (callsIn_wide.2 (impl_dataOk d _ hd)).mono ?_; rintro e w2 ⟨rfl, rfl⟩; rw [hdo]) | (gi_at_call 26; refine (gaps_in _ size _ n cap _).mono ?_; rintro e w2 ⟨rfl, rfl⟩))
    have hz := hB1'.size
    have hsz2 : w.heap.size + 1 + 1 + 1 + 1 < w2.heap.size := k4.lt
    have hB0 : Below w.heap.size w ((w2.alloc (.cells #[.int .i64 size] 2)).alloc (.cells #[.slice a n cap] 24)) := (hB1'.alloc hz _).alloc (by simp; omega) _
    have j0 := (k0.alloc (.cells #[.int .i64 size] 2)).alloc (.cells #[.slice a n cap] 24)
    have j1 := (k1.alloc (.cells #[.int .i64 size] 2)).alloc (.cells #[.slice a n cap] 24)
    have j2 := (k2.alloc (.cells #[.int .i64 size] 2)).alloc (.cells #[.slice a n cap] 24)
    have j3 := (k3.alloc (.cells #[.int .i64 size] 2)).alloc (.cells #[.slice a n cap] 24)
    have j4 := (k4.alloc (.cells #[.int .i64 size] 2)).alloc (.cells #[.slice a n cap] 24)
    have bS := (Boxed.new w2 2 (.int .i64 size)).alloc (.cells #[.slice a n cap] 24)
    have bL : Boxed ((w2.alloc (.cells #[.int .i64 size] 2)).alloc (.cells #[.slice a n cap] 24)) (w2.heap.size + 1) 24 (.slice a n cap) := by
      have := Boxed.new (w2.alloc (.cells #[.int .i64 size] 2)) 24 (.slice a n cap)
      simpa using this
    have hszW : ((w2.alloc (.cells #[.int .i64 size] 2)).alloc (.cells #[.slice a n cap] 24)).heap.size = w2.heap.size + 1 + 1 := by simp
    clear k0 k1 k2 k3 k4 c0 c1
    generalize (w2.alloc (.cells #[.int .i64 size] 2)).alloc (.cells #[.slice a n cap] 24) = W0 at *
    refine wpIn_rangeFunc_ownF rfl (by omega) (gf := 34) (lb := #[.pointer (some ⟨w2.heap.size + 1, 0, none⟩), .pointer (some ⟨w2.heap.size, 0, none⟩)]) rfl trivial (enters_of Try.func34 (by kernel_rfl) rfl)
      (gaps_stops (6 - 1) (by omega) (w2.heap.size + 1) w2.heap.size w.heap.size size a n cap l W0 (by omega) bL.cell bS.cell ⟨h.below hB0, hbw⟩ hxg hs1 hs2 (by omega)) KpG.t (KpG.b (by omega) (by omega)) (Below.refl _ _) (fun _ => rfl)
      (fun pre W => (NoFit d.size pre ∧ Boxed W w.heap.size 24 (.slice a n cap) ∧ Boxed W (w.heap.size + 1) 9 (.string d) ∧ Boxed W (w.heap.size + 1 + 1) 24 (.slice none 0 0) ∧ Boxed W (w.heap.size + 1 + 1 + 1) 2 (.int .i64 0) ∧ Boxed W (w.heap.size + 1 + 1 + 1 + 1) 4 (.bool false)) ∧ Below w.heap.size w W)
      (fun c pre W => (c = .ret ∧ Got W w.heap.size l d pre) ∧ Below w.heap.size w W)
      (OwnFrom.and (fun s A B row hs hg hr => ⟨hs.1, boxed_keep hs.2.1 hg (fun r e => (hr r e).2), boxed_keep hs.2.2.1 hg (fun r e => (hr r e).2), boxed_keep hs.2.2.2.1 hg (fun r e => (hr r e).2), boxed_keep hs.2.2.2.2.1 hg (fun r e => (hr r e).2), boxed_keep hs.2.2.2.2.2 hg (fun r e => (hr r e).2)⟩) (ownFrom_below (Nat.le_refl _) (by omega)))
      (fun c => OwnFrom.and (fun s A B row hs hg hr => by
        obtain ⟨hc, pre', x, a', n', cap', e1, e2, e3, g1, g2, g3, g4⟩ := hs
        exact ⟨hc, pre', x, a', n', cap', e1, e2, e3, boxed_keep g1 hg (fun r e => (hr r e).2), res_own g2 hg (fun r e => (hr r e).2), boxed_keep g3 hg (fun r e => (hr r e).2), boxed_keep g4 hg (fun r e => (hr r e).2)⟩) (ownFrom_below (Nat.le_refl _) (by omega)))
      ⟨⟨fun y hy => by simp at hy, j0, j1, j2, j3, j4⟩, hB0⟩
      (fun x => { tmps := #[.int .i64 size, .slice a n cap, .string d, undef, .pointer (some ⟨w.heap.size, 0, none⟩), .pointer (some ⟨w.heap.size + 1, 0, none⟩), .pointer (some ⟨w.heap.size + 1 + 1, 0, none⟩), .pointer (some ⟨w.heap.size + 1 + 1 + 1, 0, none⟩), .pointer (some ⟨w.heap.size + 1 + 1 + 1 + 1, 0, none⟩), .int .i64 x.1, .int .i64 x.2, .int .i64 size, .slice a n cap, .bool true, .bool false, .bool false, .string d, .bool true, .bool false, .bool false, .bool false, .slice a n cap, .int .i64 n, .bool false, .bool false, .int .i64 size, .slice a n cap, .func (.func 34) #[] #[.pointer (some ⟨w2.heap.size + 1, 0, none⟩), .pointer (some ⟨w2.heap.size, 0, none⟩)], .int .i64 x.1, .int .i64 x.2, undef, undef, undef, undef, undef, undef, undef, undef, undef, undef], defers := [] }) ?assign ?body ?done ?stop
    case assign =>
      intro l x W K hK
      gi_wp2
      exact hK
    case body =>
      rintro lp pre x W ⟨⟨hno, p0, p1, p2, p3, p4⟩, hB⟩ hlt
      have c0 := p0.cell
      have c1 := p1.cell
      have fw : Fence.wide.fn 27 := trivial
      by_cases hfit : (d.size : Int) ≤ x.2
      · gi_wp2_with (gi_at_call 27; refine (CallsIn.inRound lp (callsIn_wide.2 (impl_withExtentA a n cap l ⟨x.1, d⟩ W (h.below hB) (by omega) hcap hc2 hA))).mono ?_; rintro e w3 ⟨⟨a', n', cap', rfl, hres⟩, hB3⟩; have p2' := Boxed.belowB p2 hB3; have p3' := Boxed.belowB p3 hB3; have p4' := Boxed.belowB p4 hB3; have c2 := p2'.cell; have f2 := p2'.frozen; have c3 := p3'.cell; have f3 := p3'.frozen; have c4 := p4'.cell; have f4 := p4'.frozen)
        have m2 := p2.lt
        have m3 := p3.lt
        have m4 := p4.lt
        have q2 := ((p2'.set (.slice a' n' cap')).other (B' := w.heap.size + 1 + 1 + 1) (by omega) (.int .i64 x.1)).other (B' := w.heap.size + 1 + 1 + 1 + 1) (by omega) (.bool true)
        have q3 := ((p3'.other (B' := w.heap.size + 1 + 1) (by omega) (.slice a' n' cap')).set (.int .i64 x.1)).other (B' := w.heap.size + 1 + 1 + 1 + 1) (by omega) (.bool true)
        have q4 := ((p4'.other (B' := w.heap.size + 1 + 1) (by omega) (.slice a' n' cap')).other (B' := w.heap.size + 1 + 1 + 1) (by omega) (.int .i64 x.1)).set (.bool true)
        have hbk := hres.block
        have hres2 := ((hres.grown (grownBy_setCell' w3 (w.heap.size + 1 + 1) (.slice a' n' cap')) (fun ad had => by have := (hbk ad had).1; omega)).grown (grownBy_setCell' _ (w.heap.size + 1 + 1 + 1) (.int .i64 x.1)) (fun ad had => by have := (hbk ad had).1; omega)).grown (grownBy_setCell' _ (w.heap.size + 1 + 1 + 1 + 1) (.bool true)) (fun ad had => by have := (hbk ad had).1; omega)
        have hB4 := (((chain hB hB3).setCell (p := ⟨w.heap.size + 1 + 1, 0, none⟩) (by simp; omega) (.slice a' n' cap')).setCell (p := ⟨w.heap.size + 1 + 1 + 1, 0, none⟩) (by simp; omega) (.int .i64 x.1)).setCell (p := ⟨w.heap.size + 1 + 1 + 1 + 1, 0, none⟩) (by simp; omega) (.bool true)
        exact ⟨(((keeps_below hB3).trans (KeepsOthers.setCell _ _ _)).trans (KeepsOthers.setCell _ _ _)).trans (KeepsOthers.setCell _ _ _), ⟨rfl, pre, x, a', n', cap', rfl, hno, by simpa using hfit, q2, hres2.mono (by omega), q3, q4⟩, hB4⟩
      · have hno' : NoFit d.size (pre ++ [x]) := fun y hy => by
          rcases List.mem_append.1 hy with hy | hy
          · exact hno y hy
          · simp at hy; subst hy; simpa using hfit
        gi_wp2
        exact ⟨KeepsOthers.refl _, KpG.refl _ _ _ _, ⟨hno', p0, p1, p2, p3, p4⟩, hB⟩
    case done =>
      rintro D ys W hD rfl ⟨⟨hno, p0, p1, p2, p3, p4⟩, hB⟩ hK
      have c2 := p2.cell
      have f2 := p2.frozen
      have c3 := p3.cell
      have f3 := p3.frozen
      have c4 := p4.cell
      have f4 := p4.frozen
      have q2 := ((p2.set (.slice none 0 0)).other (B' := w.heap.size + 1 + 1 + 1) (by omega) (.int .i64 0)).other (B' := w.heap.size + 1 + 1 + 1 + 1) (by omega) (.bool false)
      have q3 := ((p3.other (B' := w.heap.size + 1 + 1) (by omega) (.slice none 0 0)).set (.int .i64 0)).other (B' := w.heap.size + 1 + 1 + 1 + 1) (by omega) (.bool false)
      have q4 := ((p4.other (B' := w.heap.size + 1 + 1) (by omega) (.slice none 0 0)).other (B' := w.heap.size + 1 + 1 + 1) (by omega) (.int .i64 0)).set (.bool false)
      have hB4 := ((hB.setCell (p := ⟨w.heap.size + 1 + 1, 0, none⟩) (by simp; omega) (.slice none 0 0)).setCell (p := ⟨w.heap.size + 1 + 1 + 1, 0, none⟩) (by simp; omega) (.int .i64 0)).setCell (p := ⟨w.heap.size + 1 + 1 + 1 + 1, 0, none⟩) (by simp; omega) (.bool false)
      have hK' := (((KeepsOthers.setCell W ⟨w.heap.size + 1 + 1, 0, none⟩ (.slice none 0 0)).trans (KeepsOthers.setCell _ ⟨w.heap.size + 1 + 1 + 1, 0, none⟩ (.int .i64 0))).trans (KeepsOthers.setCell _ ⟨w.heap.size + 1 + 1 + 1 + 1, 0, none⟩ (.bool false))).same D _ hK rfl
      gi_wp2
      generalize ((W.setCell ⟨w.heap.size + 1 + 1, 0, none⟩ (.slice none 0 0)).setCell ⟨w.heap.size + 1 + 1 + 1, 0, none⟩ (.int .i64 0)).setCell ⟨w.heap.size + 1 + 1 + 1 + 1, 0, none⟩ (.bool false) = W4 at *
      refine ⟨by simp, .inl ⟨_, _, rfl, run_takeDeferred hK', ?_⟩⟩
      have hkeep : ∀ r, some D = some r → ∃ o : Obj, W4.heap[r]? = some o ∧ o.isCells = false := fun r e => by cases e; exact ⟨_, hK', rfl⟩
      have hc6 := (boxed_keep q2 (grownBy_putObj' W4 D (.deferred none)) hkeep).cell
      have hc7 := (boxed_keep q3 (grownBy_putObj' W4 D (.deferred none)) hkeep).cell
      have hc8 := (boxed_keep q4 (grownBy_putObj' W4 D (.deferred none)) hkeep).cell
      refine ⟨.tuple #[.slice none 0 0, .int .i64 0, .bool false], ?_, ?_, hB4.trans (belowK_b (w := w) (Nat.le_refl _) W4 D _ _ (by omega) hK' rfl rfl)⟩
      · simp [results, Try.f7, go_sem, hc6, hc7, hc8]
      · rw [List.find?_eq_none.2 (fun y hy => by rw [hno y hy]; simp)]
        rfl
    case stop =>
      rintro D c pre W hD hpre ⟨⟨rfl, pre', x, a', n', cap', rfl, e2, e3, g1, g2, g3, g4⟩, hB⟩ hK
      gi_wp2
      refine ⟨by simp, .inl ⟨_, _, rfl, run_takeDeferred hK, ?_⟩⟩
      have hkeep : ∀ r, some D = some r → ∃ o : Obj, W.heap[r]? = some o ∧ o.isCells = false := fun r e => by cases e; exact ⟨_, hK, rfl⟩
      have hc6 := (boxed_keep g1 (grownBy_putObj' W D (.deferred none)) hkeep).cell
      have hc7 := (boxed_keep g3 (grownBy_putObj' W D (.deferred none)) hkeep).cell
      have hc8 := (boxed_keep g4 (grownBy_putObj' W D (.deferred none)) hkeep).cell
      have hr8 := res_own g2 (grownBy_putObj' W D (.deferred none)) hkeep
      refine ⟨.tuple #[.slice a' n' cap', .int .i64 x.1, .bool true], ?_, ?_, hB.trans (belowK_b (w := w) (Nat.le_refl _) W D _ _ (by omega) hK rfl rfl)⟩
      · simp [results, Try.f7, go_sem, hc6, hc7, hc8]
      · rw [find_pre hpre e2 e3]
        exact ⟨a', n', cap', rfl, hr8⟩
  · have hf : placedO size l d = none := by
      unfold placedO
      rw [if_neg (fun e => hgo ⟨e.1, e.2.1, by rw [← hlen.out]; exact e.2.2⟩)]
    rw [hf]
    have hcase : spaceOkB size l = false ∨ (spaceOkB size l = true ∧ dataOkB d = false) ∨ (spaceOkB size l = true ∧ dataOkB d = true ∧ n = 60) := by
      cases h1 : spaceOkB size l
      · exact .inl rfl
      · cases h2 : dataOkB d
        · exact .inr (.inl ⟨rfl, rfl⟩)
        · exact .inr (.inr ⟨rfl, rfl, Classical.byContradiction fun e => hgo ⟨h1, h2, e⟩⟩)
    clear hgo hf
    rcases hcase with hok | ⟨hok, hdo⟩ | ⟨hok, hdo, h60⟩
    · skip
      refine callsIn_of_wp_marks Try.func7 rfl trivial ?_ rfl
      simp only [Try.ntmps7, List.size_toArray, List.length_cons, List.length_nil, Nat.reduceAdd, Nat.reduceSub, Array.replicate_succ, Array.replicate_zero, List.push_toArray, List.append_toArray, List.nil_append, List.cons_append]
      gi_wp2_with (gi_at_call 15; refine (callsIn_wide.2 (impl_SpaceOk size _ n cap l _ (h.below (by go_grown)) hstr hn)).mono ?_; rintro e w1 ⟨rfl, hB1⟩; rw [hok]; obtain ⟨k0, k1, k2, k3, k4, hB1'⟩ := box5 hB1; clear hB1; have c0 := k0.cell; have c1 := k1.cell; have c2 := k2.cell; have f2 := k2.frozen; have c3 := k3.cell; have f3 := k3.frozen; have c4 := k4.cell; have f4 := k4.frozen)
      have hz := hB1'.size
      have q2 := ((k2.set (.slice none 0 0)).other (B' := w.heap.size + 1 + 1 + 1) (by omega) (.int .i64 0)).other (B' := w.heap.size + 1 + 1 + 1 + 1) (by omega) (.bool false)
      have q3 := ((k3.other (B' := w.heap.size + 1 + 1) (by omega) (.slice none 0 0)).set (.int .i64 0)).other (B' := w.heap.size + 1 + 1 + 1 + 1) (by omega) (.bool false)
      have q4 := ((k4.other (B' := w.heap.size + 1 + 1) (by omega) (.slice none 0 0)).other (B' := w.heap.size + 1 + 1 + 1) (by omega) (.int .i64 0)).set (.bool false)
      have hB4 := ((hB1'.setCell (p := ⟨w.heap.size + 1 + 1, 0, none⟩) (by simp; omega) (.slice none 0 0)).setCell (p := ⟨w.heap.size + 1 + 1 + 1, 0, none⟩) (by simp; omega) (.int .i64 0)).setCell (p := ⟨w.heap.size + 1 + 1 + 1 + 1, 0, none⟩) (by simp; omega) (.bool false)
      generalize ((w1.setCell ⟨w.heap.size + 1 + 1, 0, none⟩ (.slice none 0 0)).setCell ⟨w.heap.size + 1 + 1 + 1, 0, none⟩ (.int .i64 0)).setCell ⟨w.heap.size + 1 + 1 + 1 + 1, 0, none⟩ (.bool false) = W4 at *
      have hc6 := q2.cell
      have hc7 := q3.cell
      have hc8 := q4.cell
      exact ⟨.tuple #[.slice none 0 0, .int .i64 0, .bool false], by simp [results, Try.f7, go_sem, hc6, hc7, hc8], rfl, hB4⟩
    · skip
      refine callsIn_of_wp_marks Try.func7 rfl trivial ?_ rfl
      simp only [Try.ntmps7, List.size_toArray, List.length_cons, List.length_nil, Nat.reduceAdd, Nat.reduceSub, Array.replicate_succ, Array.replicate_zero, List.push_toArray, List.append_toArray, List.nil_append, List.cons_append]
      gi_wp2_with (first | (gi_at_call 15; refine (callsIn_wide.2 (impl_SpaceOk size _ n cap l _ (h.below (by go_grown)) hstr hn)).mono ?_; rintro e w1 ⟨rfl, hB1⟩; rw [hok]; obtain ⟨k0, k1, k2, k3, k4, hB1'⟩ := box5 hB1; clear hB1; have c0 := k0.cell; have c1 := k1.cell; have c2 := k2.cell; have f2 := k2.frozen; have c3 := k3.cell; have f3 := k3.frozen; have c4 := k4.cell; have f4 := k4.frozen) | (gi_at_call 25; refine (callsIn_wide.2 (impl_dataOk d _ hd)).mono ?_; rintro e w2 ⟨rfl, rfl⟩; rw [hdo]))
      have hz := hB1'.size
      have q2 := ((k2.set (.slice none 0 0)).other (B' := w.heap.size + 1 + 1 + 1) (by omega) (.int .i64 0)).other (B' := w.heap.size + 1 + 1 + 1 + 1) (by omega) (.bool false)
      have q3 := ((k3.other (B' := w.heap.size + 1 + 1) (by omega) (.slice none 0 0)).set (.int .i64 0)).other (B' := w.heap.size + 1 + 1 + 1 + 1) (by omega) (.bool false)
      have q4 := ((k4.other (B' := w.heap.size + 1 + 1) (by omega) (.slice none 0 0)).other (B' := w.heap.size + 1 + 1 + 1) (by omega) (.int .i64 0)).set (.bool false)
      have hB4 := ((hB1'.setCell (p := ⟨w.heap.size + 1 + 1, 0, none⟩) (by simp; omega) (.slice none 0 0)).setCell (p := ⟨w.heap.size + 1 + 1 + 1, 0, none⟩) (by simp; omega) (.int .i64 0)).setCell (p := ⟨w.heap.size + 1 + 1 + 1 + 1, 0, none⟩) (by simp; omega) (.bool false)
      generalize ((w2.setCell ⟨w.heap.size + 1 + 1, 0, none⟩ (.slice none 0 0)).setCell ⟨w.heap.size + 1 + 1 + 1, 0, none⟩ (.int .i64 0)).setCell ⟨w.heap.size + 1 + 1 + 1 + 1, 0, none⟩ (.bool false) = W4 at *
      have hc6 := q2.cell
      have hc7 := q3.cell
      have hc8 := q4.cell
      exact ⟨.tuple #[.slice none 0 0, .int .i64 0, .bool false], by simp [results, Try.f7, go_sem, hc6, hc7, hc8], rfl, hB4⟩
    · have h60' : ((n : Int) == 60) = true := by simp [h60]
      clear h60
      refine callsIn_of_wp_marks Try.func7 rfl trivial ?_ rfl
      simp only [Try.ntmps7, List.size_toArray, List.length_cons, List.length_nil, Nat.reduceAdd, Nat.reduceSub, Array.replicate_succ, Array.replicate_zero, List.push_toArray, List.append_toArray, List.nil_append, List.cons_append]
      gi_wp2_with (first | (gi_at_call 15; refine (callsIn_wide.2 (impl_SpaceOk size _ n cap l _ (h.below (by go_grown)) hstr hn)).mono ?_; rintro e w1 ⟨rfl, hB1⟩; rw [hok]; obtain ⟨k0, k1, k2, k3, k4, hB1'⟩ := box5 hB1; clear hB1; have c0 := k0.cell; have c1 := k1.cell; have c2 := k2.cell; have f2 := k2.frozen; have c3 := k3.cell; have f3 := k3.frozen; have c4 := k4.cell; have f4 := k4.frozen) | (gi_at_call 25; refine (callsIn_wide.2 (impl_dataOk d _ hd)).mono ?_; rintro e w2 ⟨rfl, rfl⟩; rw [hdo]))
      have hz := hB1'.size
      have q2 := ((k2.set (.slice none 0 0)).other (B' := w.heap.size + 1 + 1 + 1) (by omega) (.int .i64 0)).other (B' := w.heap.size + 1 + 1 + 1 + 1) (by omega) (.bool false)
      have q3 := ((k3.other (B' := w.heap.size + 1 + 1) (by omega) (.slice none 0 0)).set (.int .i64 0)).other (B' := w.heap.size + 1 + 1 + 1 + 1) (by omega) (.bool false)
      have q4 := ((k4.other (B' := w.heap.size + 1 + 1) (by omega) (.slice none 0 0)).other (B' := w.heap.size + 1 + 1 + 1) (by omega) (.int .i64 0)).set (.bool false)
      have hB4 := ((hB1'.setCell (p := ⟨w.heap.size + 1 + 1, 0, none⟩) (by simp; omega) (.slice none 0 0)).setCell (p := ⟨w.heap.size + 1 + 1 + 1, 0, none⟩) (by simp; omega) (.int .i64 0)).setCell (p := ⟨w.heap.size + 1 + 1 + 1 + 1, 0, none⟩) (by simp; omega) (.bool false)
      generalize ((w2.setCell ⟨w.heap.size + 1 + 1, 0, none⟩ (.slice none 0 0)).setCell ⟨w.heap.size + 1 + 1 + 1, 0, none⟩ (.int .i64 0)).setCell ⟨w.heap.size + 1 + 1 + 1 + 1, 0, none⟩ (.bool false) = W4 at *
      have hc6 := q2.cell
      have hc7 := q3.cell
      have hc8 := q4.cell
      exact ⟨.tuple #[.slice none 0 0, .int .i64 0, .bool false], by simp [results, Try.f7, go_sem, hc6, hc7, hc8], rfl, hB4⟩

theorem impl_PlacedA (size : Int) (a : Option Addr) (n cap : Nat) (l : List Ex) (d : ByteArray) (w : World) (h : ExsAt w a n l) (hstr : Strs l) (hn : n ≤ 4194304) (hcap : n ≤ cap) (hc2 : cap ≤ 9223372036854775807) (hd : d.size ≤ 9223372036854775807) (hA : (a = none ∧ n = 0 ∧ cap = 0) ∨ ∃ b o, a = some ⟨b, o, none⟩) (hbw : ∀ ad, 0 < n → a = some ad → ad.block < w.heap.size) :
    Calls Try.prog 7 #[.int .i64 size, .slice a n cap, .string d] w fun e w' => RetPl w.heap.size e w' (placedO size l d) ∧ Below w.heap.size w w' :=
  callsIn_wide.1 (impl_PlacedA_in size a n cap l d w h hstr hn hcap hc2 hd hA hbw)
end Go.Proofs.Ytckljlgojhloiaa
