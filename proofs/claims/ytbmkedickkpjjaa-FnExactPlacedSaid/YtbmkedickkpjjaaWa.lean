/- withExtent of the program. -/
import Derived.Test.YtbmkedickkpjjaaProg
import Derived.Test.YtbmkedickkpjjaaYc
namespace Go.Proofs.Ytbmkedickkpjjaa
open Go.RowKit Go.BigFrame

/-- How many extents lie ahead of that address. -/
def cntA (addr : Int) : List Ex → Nat
  | [] => 0
  | e :: r => if e.a < addr then cntA addr r + 1 else 0
theorem cntA_le (addr : Int) : ∀ l : List Ex, cntA addr l ≤ l.length
  | [] => Nat.le_refl _
  | e :: r => by have := cntA_le addr r; unfold cntA; split <;> simp <;> omega
def withE (l : List Ex) (x : Ex) : List Ex := l.take (cntA x.a l) ++ [x] ++ l.drop (cntA x.a l)

theorem slice_end {w : World} {b o n : Nat} {l : List Ex} (h : ExsAt w (some ⟨b, o, none⟩) n l) (j cap : Nat) (hj : j ≤ n) (hc : n ≤ cap) :
    ExsAt w (if cap = j then some ⟨b, o, none⟩ else some ⟨b, o + j * 2, none⟩) (n - j) (l.drop j) := by
  split
  · rw [List.drop_of_length_le (by rw [h.len]; omega)]
    exact ⟨by simp; omega, fun i x hx => by simp at hx⟩
  · exact h.drop j

set_option maxHeartbeats 4000000 in
set_option maxRecDepth 100000 in
theorem impl_withExtent (b o n cap : Nat) (l : List Ex) (x : Ex) (w : World) (h : ExsAt w (some ⟨b, o, none⟩) n l) (hn : n ≤ 60) (hcap : n ≤ cap) (hc2 : cap ≤ 8388608) :
    Calls Try.prog 115 #[.slice (some ⟨b, o, none⟩) n cap, .agg #[.int .i64 x.a, .string x.d]] w fun e w' => (∃ a' n' cap', e = .returned (.slice a' n' cap') ∧ ResAt Ex.cs 2 125 w' w.heap.size a' n' cap' (withE l x)) ∧ Below w.heap.size w w' := by
  have hlen : Hid (l.length = n) := h.len
  have hcl := cntA_le x.a l
  obtain ⟨i0, hi, hz0, hz1, hz2⟩ := info_parts infoE
  obtain ⟨xa, xd⟩ := x
  simp only at *
  go_enter Try.func115, Try.ntmps115
  go_wp2_with fail
  have x0 : (w.alloc (.cells #[.int .i64 xa, .string xd] 125)).cell? ⟨w.heap.size, 0, none⟩ = some (.int .i64 xa) := by simp
  have x1 : (w.alloc (.cells #[.int .i64 xa, .string xd] 125)).cell? ⟨w.heap.size, 1, none⟩ = some (.string xd) := by simp
  have hB0 : Below w.heap.size w (w.alloc (.cells #[.int .i64 xa, .string xd] 125)) := (Below.refl _ _).alloc (Nat.le_refl _) _
  have hs0 : (w.alloc (.cells #[.int .i64 xa, .string xd] 125)).heap.size = w.heap.size + 1 := by simp
  generalize w.alloc (.cells #[.int .i64 xa, .string xd] 125) = W0 at *
  go_loopw [6] (fun ix wr => ∃ (k : Nat), k ≤ n ∧ ix = .int .i64 k ∧ Hid (cntA xa l = k + cntA xa (l.drop k)) ∧ Below W0.heap.size W0 wr) (fun ix _ => n - (intOf ix).toNat)
  case atStart => exact ⟨0, Nat.zero_le _, rfl, by show _ = _; simp, Below.refl _ _⟩
  case round =>
    obtain ⟨k, hk, rfl, hI, hB⟩ := hrel
    have hBw := chain hB0 hB
    have e0 := bcell hB x0
    have e1 := bcell hB x1
    by_cases hlt : k < n ∧ ∃ p, l[k]? = some p ∧ p.a < xa
    · obtain ⟨hlt, p', hp', hpx⟩ := hlt
      obtain ⟨b', o', p, hbo, hp, c0, c1⟩ := exs_at (h.below hBw) hlt
      obtain ⟨rfl, rfl⟩ : b = b' ∧ o = o' := by simpa using hbo
      obtain rfl : p = p' := by rw [hp] at hp'; exact Option.some.inj hp'
      have hst : Hid (cntA xa l = k + 1 + cntA xa (l.drop (k + 1))) := by
        show _ = _
        rw [hI.out, drop_at hp, cntA, if_pos hpx]; omega
      clear hp hp' hbo
      have hk1 : (k : Int) < n := by omega
      have hk2 : (0 : Int) ≤ k := by omega
      go_wp2_with fail
      go_quiet (fail)
      go_wp2
      go_roundw
      case rel => exact ⟨k + 1, by omega, by go_num, hst, chain hB (drewNB _ _)⟩
      case measure => simp [intOf]; omega
    · have hend : Hid (cntA xa l = k) := by
        show _ = _
        rw [hI.out]
        by_cases hkn : k < n
        · obtain ⟨_, _, p, _, hp, _, _⟩ := exs_at h hkn
          rw [drop_at hp, cntA, if_neg (fun e => hlt ⟨hkn, _, hp, e⟩)]; rfl
        · rw [List.drop_of_length_le (by rw [hlen.out]; omega)]; rfl
      have hfin : Hid (withE l ⟨xa, xd⟩ = [] ++ l.take k ++ [⟨xa, xd⟩] ++ l.drop k) := by show _ = _; unfold withE; simp only; rw [hend.out]; simp
      have hS1 : ∀ u, Below w.heap.size w u → ExsAt u (some ⟨b, o, none⟩) k (l.take k) := fun u hu => (h.below hu).take hk
      have hS2 : ∀ u, Below w.heap.size w u → ExsAt u (if cap = k then some ⟨b, o, none⟩ else some ⟨b, o + k * 2, none⟩) (n - k) (l.drop k) := fun u hu => slice_end (h.below hu) k cap hk hcap
      have hk2 : (0 : Int) ≤ k := by omega
      by_cases hkn : k < n
      · obtain ⟨b', o', p, hbo, hp, c0, c1⟩ := exs_at (h.below hBw) hkn
        obtain ⟨rfl, rfl⟩ : b = b' ∧ o = o' := by simpa using hbo
        have hpx : ¬ p.a < xa := fun e => hlt ⟨hkn, _, hp, e⟩
        clear hp hbo hlt
        have hk1 : (k : Int) < n := by omega
        go_wp2_with fail
        go_quiet (fail)
        have hBq := chain hBw (drewNB wr nq)
        replace e0 := bcell (drewNB wr nq) e0
        replace e1 := bcell (drewNB wr nq) e1
        have hsq := hBq.size
        have hlq : w.heap.size < (wr.drewN nq).heap.size := World.block_lt_of_cell? _ ⟨w.heap.size, 0, none⟩ e0
        generalize wr.drewN nq = wq at *
        go_wp2_with (first | (at_builtin; refine wpList_app rfl (fun K hK => wp_app _ _ 24 rfl w.heap.size 125 i0 (.agg #[.int .i64 0, .string .empty]) 24 Try.underlying24 hi hz0 hz1 hz2 rfl (by decide) ecs_len ecs_one none 0 0 [] rfl res_nil (some ⟨b, o, none⟩) k cap (l.take k) rfl (hS1 _ hBq) (fun ad h => (by cases h; rfl)) (fun h => (by cases h)) k (Nat.zero_add _) (by unfold maxLen; omega) (by omega) hsq (fun a1 cap1 w1 hr1 hg1 => hK _ _ ?_)); have hB1 : Below w.heap.size w w1 := Below.grown hBq hg1 hsq (fun k e => by simp [Value.ownBlock] at e); have q0 := hg1.cell e0 (by simp [Value.ownBlock]); have q1 := hg1.cell e1 (by simp [Value.ownBlock])) | (at_builtin; refine wpList_app rfl (fun K hK => wp_app _ _ 24 rfl w.heap.size 125 i0 (.agg #[.int .i64 0, .string .empty]) 24 Try.underlying24 hi hz0 hz1 hz2 rfl (by decide) ecs_len ecs_one a1 k cap1 ([] ++ l.take k) rfl (hr1.alloc _) _ 1 1 [(⟨xa, xd⟩ : Ex)] rfl (sl_newE' _ ⟨xa, xd⟩ _ _ (by simp)) (fun ad h => (by cases h; rfl)) (fun h => (by cases h)) (k + 1) rfl (by unfold maxLen; omega) (by omega) (by have := hB1.size; simp; omega) (fun a2 cap2 w2 hr2 hg2 => hK _ _ ?_)); have hB2 : Below w.heap.size w w2 := Below.grown (hB1.alloc hB1.size _) hg2 (by have := hB1.size; simp; omega) (own_ge fun ad had => (hr1.block ad had).1)) | (at_builtin; refine wpList_app rfl (fun K hK => wp_app _ _ 24 rfl w.heap.size 125 i0 (.agg #[.int .i64 0, .string .empty]) 24 Try.underlying24 hi hz0 hz1 hz2 rfl (by decide) ecs_len ecs_one a2 (k + 1) cap2 ([] ++ l.take k ++ [(⟨xa, xd⟩ : Ex)]) rfl hr2 (some ⟨b, o + k * 2, none⟩) (n - k) (cap - k) (l.drop k) rfl ((h.below hB2).drop k) (fun ad h => (by cases h; rfl)) (fun h => (by cases h)) (n + 1) (by omega) (by unfold maxLen; omega) (by omega) hB2.size (fun a3 cap3 w3 hr3 hg3 => hK _ _ ?_)); have hB3 : Below w.heap.size w w3 := Below.grown hB2 hg3 hB2.size (own_ge fun ad had => (hr2.block ad had).1)))
        all_goals go_returns
        all_goals exact ⟨⟨a3, n + 1, cap3, rfl, by rw [hfin.out]; exact hr3⟩, hB3⟩
      · obtain rfl : k = n := by omega
        clear hlt
        go_wp2_with fail
        go_quiet (fail)
        have hBq := chain hBw (drewNB wr nq)
        replace e0 := bcell (drewNB wr nq) e0
        replace e1 := bcell (drewNB wr nq) e1
        have hsq := hBq.size
        generalize wr.drewN nq = wq at *
        have hS3 : ∀ (u : World) (q : Option Addr), ExsAt u q 0 (l.drop k) := fun u q => by rw [List.drop_of_length_le (Nat.le_of_eq hlen.out)]; exact ⟨rfl, fun i x hx => by simp at hx⟩
        go_wp2_with (first | (at_builtin; refine wpList_app rfl (fun K hK => wp_app _ _ 24 rfl w.heap.size 125 i0 (.agg #[.int .i64 0, .string .empty]) 24 Try.underlying24 hi hz0 hz1 hz2 rfl (by decide) ecs_len ecs_one none 0 0 [] rfl res_nil (some ⟨b, o, none⟩) k cap (l.take k) rfl (hS1 _ hBq) (fun ad h => (by cases h; rfl)) (fun h => (by cases h)) k (Nat.zero_add _) (by unfold maxLen; omega) (by omega) hsq (fun a1 cap1 w1 hr1 hg1 => hK _ _ ?_)); have hB1 : Below w.heap.size w w1 := Below.grown hBq hg1 hsq (fun k e => by simp [Value.ownBlock] at e); have q0 := hg1.cell e0 (by simp [Value.ownBlock]); have q1 := hg1.cell e1 (by simp [Value.ownBlock])) | (at_builtin; refine wpList_app rfl (fun K hK => wp_app _ _ 24 rfl w.heap.size 125 i0 (.agg #[.int .i64 0, .string .empty]) 24 Try.underlying24 hi hz0 hz1 hz2 rfl (by decide) ecs_len ecs_one a1 k cap1 ([] ++ l.take k) rfl (hr1.alloc _) _ 1 1 [(⟨xa, xd⟩ : Ex)] rfl (sl_newE' _ ⟨xa, xd⟩ _ _ (by simp)) (fun ad h => (by cases h; rfl)) (fun h => (by cases h)) (k + 1) rfl (by unfold maxLen; omega) (by omega) (by have := hB1.size; simp; omega) (fun a2 cap2 w2 hr2 hg2 => hK _ _ ?_)); have hB2 : Below w.heap.size w w2 := Below.grown (hB1.alloc hB1.size _) hg2 (by have := hB1.size; simp; omega) (own_ge fun ad had => (hr1.block ad had).1)) | (at_builtin; refine wpList_app rfl (fun K hK => wp_app _ _ 24 rfl w.heap.size 125 i0 (.agg #[.int .i64 0, .string .empty]) 24 Try.underlying24 hi hz0 hz1 hz2 rfl (by decide) ecs_len ecs_one a2 (k + 1) cap2 ([] ++ l.take k ++ [(⟨xa, xd⟩ : Ex)]) rfl hr2 (if cap = k then some ⟨b, o, none⟩ else some ⟨b, o + k * 2, none⟩) 0 (cap - k) (l.drop k) rfl (hS3 _ _) (fun ad h => (by split at h <;> cases h <;> rfl)) (fun h => (by split at h <;> cases h)) (k + 1) (by omega) (by unfold maxLen; omega) (by omega) hB2.size (fun a3 cap3 w3 hr3 hg3 => hK _ _ ?_)); have hB3 : Below w.heap.size w w3 := Below.grown hB2 hg3 hB2.size (own_ge fun ad had => (hr2.block ad had).1)) | (at_builtin; refine wpList_app rfl (fun K hK => wp_app _ _ 24 rfl w.heap.size 125 i0 (.agg #[.int .i64 0, .string .empty]) 24 Try.underlying24 hi hz0 hz1 hz2 rfl (by decide) ecs_len ecs_one a2 (k + 1) cap2 ([] ++ l.take k ++ [(⟨xa, xd⟩ : Ex)]) rfl hr2 (if cap = k then some ⟨b, o, none⟩ else some ⟨b, o + k * 2, none⟩) (k - k) (cap - k) (l.drop k) rfl (by rw [Nat.sub_self]; exact hS3 _ _) (fun ad h => (by split at h <;> cases h <;> rfl)) (fun h => (by split at h <;> cases h)) (k + 1) (by omega) (by unfold maxLen; omega) (by omega) hB2.size (fun a3 cap3 w3 hr3 hg3 => hK _ _ ?_)); have hB3 : Below w.heap.size w w3 := Below.grown hB2 hg3 hB2.size (own_ge fun ad had => (hr2.block ad had).1)))
        all_goals go_returns
        all_goals exact ⟨⟨a3, k + 1, cap3, rfl, by rw [hfin.out]; exact hr3⟩, hB3⟩
end Go.Proofs.Ytbmkedickkpjjaa
