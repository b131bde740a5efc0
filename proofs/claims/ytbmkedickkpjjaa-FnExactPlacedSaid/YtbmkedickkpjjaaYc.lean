/- Lifted of the model. -/
import Derived.Test.YtbmkedickkpjjaaProg
import Derived.Test.YtbmkedickkpjjaaYb
namespace Go.Proofs.Ytbmkedickkpjjaa
open Go.RowKit Go.BigFrame

set_option maxHeartbeats 2000000 in
set_option maxRecDepth 100000 in
theorem spec_Lifted (size : Int) (a : Option Addr) (n cap : Nat) (l : List Ex) (addr : Int) (w : World) (h : ExsAt w a n l) (hstr : Strs l) (hn : n ≤ 4194304) (hcap : n ≤ cap) (hc2 : cap ≤ 8388608) :
    Calls Try.prog 44 #[.int .i64 size, .slice a n cap, .int .i64 addr] w fun e w' => RetExs w.heap.size e w' (liftedO size l addr) ∧ Below w.heap.size w w' := by
  have hlen : Hid (l.length = n) := h.len
  rw [← liftedM_eq]
  cases hok : spaceOkB size l
  · have hf : liftedM size l addr = none := by simp [liftedM, hok]
    rw [hf]
    generalize atG addr 0 l = at1
    go_enter Try.func44, Try.ntmps44
    go_wp2_with fail
    refine (spec_l1At a n cap l addr _ h hn).mono ?_
    rintro e w1 ⟨rfl, rfl⟩
    go_wp2_with fail
    refine (spec_SpaceOk size a n cap l _ h hstr hn).mono ?_
    rintro e w1 ⟨rfl, rfl⟩
    rw [hok]
    go_wp2
    go_returns
    exact ⟨rfl, Below.refl _ _⟩
  · have hx : xgo size 1 l = true := by simp only [spaceOkB, Bool.and_eq_true] at hok; exact hok.2
    rcases lift_at (addr := addr) 0 hx with ⟨q1, q2⟩ | ⟨j, hj, q1, q2⟩
    · have hf : liftedM size l addr = none := by simp [liftedM, q1]
      rw [hf]
      go_enter Try.func44, Try.ntmps44
      go_wp2_with fail
      refine (spec_l1At a n cap l addr _ h hn).mono ?_
      rintro e w1 ⟨rfl, rfl⟩
      rw [q1]
      go_wp2_with fail
      refine (spec_SpaceOk size a n cap l _ h hstr hn).mono ?_
      rintro e w1 ⟨rfl, rfl⟩
      rw [hok]
      go_wp2
      go_returns
      exact ⟨rfl, Below.refl _ _⟩
    · rw [Nat.zero_add] at q1
      have hf : liftedM size l addr = some (l.take j ++ l.drop (j + 1)) := by simp [liftedM, q1, hok]
      rw [hf]
      have hjn : j < n := by rw [← hlen.out]; exact hj
      obtain ⟨b, o, p, rfl, hp, c0, c1⟩ := exs_at h hjn
      have S1 : ExsAt w (some ⟨b, o, none⟩) j (l.take j) := h.take (by omega)
      have S2 : ExsAt w (if cap = j + 1 then some ⟨b, o, none⟩ else some ⟨b, o + (j + 1) * 2, none⟩) (n - (j + 1)) (l.drop (j + 1)) := by
        split
        · rw [List.drop_of_length_le (by rw [hlen.out]; omega)]
          exact ⟨by simp; omega, fun i x hx => by simp at hx⟩
        · exact h.drop (j + 1)
      clear c0 c1 hp
      obtain ⟨i0, hi, hz0, hz1, hz2⟩ := info_parts infoE
      go_enter Try.func44, Try.ntmps44
      go_wp2_with fail
      refine (spec_l1At _ n cap l addr _ h hn).mono ?_
      rintro e w1 ⟨rfl, rfl⟩
      rw [q1]
      go_wp2_with fail
      refine (spec_SpaceOk size _ n cap l _ h hstr hn).mono ?_
      rintro e w1 ⟨rfl, rfl⟩
      rw [hok]
      go_wp2_with (first | (at_builtin; refine wpList_app rfl (fun K hK => wp_app _ _ 24 rfl w1.heap.size 125 i0 (.agg #[.int .i64 0, .string .empty]) 24 Try.underlying24 hi hz0 hz1 hz2 rfl (by decide) ecs_len ecs_one _ 0 0 [] rfl (res_empty (Blk.new' _ _ _ _ (by simp)) (by simp)) (some ⟨b, o, none⟩) j cap (l.take j) rfl (S1.alloc _) (fun ad h => (by cases h; rfl)) (fun h => (by cases h)) j (Nat.zero_add _) (by unfold maxLen; omega) (by omega) (by simp) (fun a1 cap1 w2 hr1 hg1 => hK _ _ ?_)); have hB2 : Below w1.heap.size w1 w2 := Below.grown (by go_grown) hg1 (by simp) (fun k e => by simp [Value.ownBlock] at e; omega)) | (at_builtin; refine wpList_app rfl (fun K hK => wp_app _ _ 24 rfl w1.heap.size 125 i0 (.agg #[.int .i64 0, .string .empty]) 24 Try.underlying24 hi hz0 hz1 hz2 rfl (by decide) ecs_len ecs_one a1 j cap1 ([] ++ l.take j) rfl hr1 (if cap = j + 1 then some ⟨b, o, none⟩ else some ⟨b, o + (j + 1) * 2, none⟩) (n - (j + 1)) (cap - (j + 1)) (l.drop (j + 1)) rfl (S2.below hB2) (fun ad h => (by split at h <;> cases h <;> rfl)) (fun h => (by split at h <;> cases h)) (n - 1) (by omega) (by unfold maxLen; omega) (by omega) hB2.size (fun a3 cap3 w3 hr3 hg3 => hK _ _ ?_)); have hB3 : Below w1.heap.size w1 w3 := Below.grown hB2 hg3 hB2.size (own_ge fun ad had => (hr1.block ad had).1)))
      all_goals go_returns
      all_goals exact ⟨⟨a3, n - 1, cap3, rfl, by simpa using hr3⟩, hB3⟩
end Go.Proofs.Ytbmkedickkpjjaa
