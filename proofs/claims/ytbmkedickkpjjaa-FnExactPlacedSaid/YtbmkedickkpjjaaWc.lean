/- Placed of the model. -/
import Derived.Test.YtbmkedickkpjjaaProg
import Derived.Test.YtbmkedickkpjjaaWb
import Derived.Test.YtbmkedickkpjjaaCa
namespace Go.Proofs.Ytbmkedickkpjjaa
open Go.RowKit Go.BigFrame

/-- An answer of a list, a number and a flag. -/
def RetPl (B : Nat) (e : Ending) (w' : World) : Option (List Ex × Int) → Prop
  | none => e = .returned (.tuple #[.slice none 0 0, .int .i64 0, .bool false])
  | some (L, x) => ∃ a n cap, e = .returned (.tuple #[.slice a n cap, .int .i64 x, .bool true]) ∧ ResAt Ex.cs 2 125 w' B a n cap L

theorem gl_at {size : Int} {l : List Ex} (k : Nat) (hk : k ≤ l.length) : (gl size 1 l)[k]? = some ((match l[k]? with | some e => e.a | none => size + 1) - (glA size l k).2) := by
  rw [glA_gl k hk, List.getElem?_append_right (by rw [glA_len k hk]; omega), glA_len k hk, Nat.sub_self]
  by_cases h : k < l.length
  · have hp : l[k]? = some l[k] := by simp [h]
    rw [drop_at hp, hp, gl]; rfl
  · rw [List.drop_of_length_le (by omega), show l[k]? = none by simp; omega, gl]; rfl

theorem pgoM_at {size m : Int} {l : List Ex} (k : Nat) (hk : k < l.length + 1) : pgoM size m k (glA size l k).2 (l.drop k) = (if m ≤ (match l[k]? with | some e => e.a | none => size + 1) - (glA size l k).2 then some (k, (glA size l k).2) else (if k < l.length then pgoM size m (k + 1) (glA size l (k + 1)).2 (l.drop (k + 1)) else none)) := by
  by_cases h : k < l.length
  · have hp : l[k]? = some l[k] := by simp [h]
    rw [drop_at hp, hp, pgoM, if_pos h, glA_succ hp]
  · rw [List.drop_of_length_le (by omega), show l[k]? = none by simp; omega, pgoM, if_neg h]

set_option maxHeartbeats 4000000 in
set_option maxRecDepth 100000 in
theorem spec_Placed (size : Int) (b o n cap : Nat) (l : List Ex) (d : ByteArray) (w : World) (h : ExsAt w (some ⟨b, o, none⟩) n l) (hstr : Strs l) (hn : n ≤ 4194304) (hcap : n ≤ cap) (hd : d.size ≤ 9223372036854775807) :
    Calls Try.prog 34 #[.int .i64 size, .slice (some ⟨b, o, none⟩) n cap, .string d] w fun e w' => RetPl w.heap.size e w' (placedO size l d) ∧ Below w.heap.size w w' := by
  have hlen : Hid (l.length = n) := h.len
  rw [← placedM_eq]
  have hemp : d.toList = [] ↔ d.size = 0 := by
    constructor
    · intro e
      have : d = ByteArray.mk #[] := bytes_eq (by rw [e, ByteArray.toList_eq])
      rw [this]; rfl
    · intro e; rw [show d = ByteArray.mk #[] from ByteArray.ext (Array.eq_empty_of_size_eq_zero e), ByteArray.toList_eq]
  cases hok : spaceOkB size l
  · have hf : placedM size l d = none := by simp [placedM, hok]
    rw [hf]
    go_enter Try.func34, Try.ntmps34
    go_wp2_with fail
    refine (spec_SpaceOk size _ n cap l _ h hstr hn).mono ?_
    rintro e w1 ⟨rfl, rfl⟩
    rw [hok]
    go_wp2
    go_returns
    exact ⟨rfl, Below.refl _ _⟩
  · obtain ⟨hs1, hs2, hln, hxg⟩ := ok_parts hok
    rw [hlen.out] at hln
    by_cases hz : d.size = 0
    · have hz' : d.toList = [] := hemp.2 hz
      have hz3 : d.toList.isEmpty = true := by rw [hz']; rfl
      have hf : placedM size l d = none := by simp [placedM, dataOkB, hz]
      rw [hf]
      go_enter Try.func34, Try.ntmps34
      go_wp2_with fail
      refine (spec_SpaceOk size _ n cap l _ h hstr hn).mono ?_
      rintro e w1 ⟨rfl, rfl⟩
      rw [hok]
      go_wp2
      go_returns
      exact ⟨rfl, Below.refl _ _⟩
    · have hz' : ¬ d.toList = [] := fun e => hz (hemp.1 e)
      have hz3 : d.toList.isEmpty = false := by cases hh : d.toList.isEmpty; rfl; exact absurd (List.isEmpty_iff.1 hh) hz'
      cases hpl : (plainB d && decide (d.size ≤ 20))
      · have hf : placedM size l d = none := by
          have : dataOkB d = false := by rw [dataOkB_eq, hpl]; simp
          simp [placedM, this]
        rw [hf]
        go_enter Try.func34, Try.ntmps34
        go_wp2_with fail
        refine (spec_SpaceOk size _ n cap l _ h hstr hn).mono ?_
        rintro e w1 ⟨rfl, rfl⟩
        rw [hok]
        go_wp2_with fail
        refine (spec_l1Plain d _ hd).mono ?_
        rintro e w1 ⟨rfl, rfl⟩
        rw [hpl]
        go_wp2
        go_returns
        exact ⟨rfl, Below.refl _ _⟩
      · have hdo : dataOkB d = true := by rw [dataOkB_eq, hpl]; simp; omega
        by_cases h60 : n = 60
        · have h60' : ((n : Int) == 60) = true := by simp [h60]
          have hf : placedM size l d = none := by simp [placedM, hlen.out, h60]
          rw [hf]
          clear h60
          go_enter Try.func34, Try.ntmps34
          go_wp2_with fail
          refine (spec_SpaceOk size _ n cap l _ h hstr hn).mono ?_
          rintro e w1 ⟨rfl, rfl⟩
          rw [hok]
          go_wp2_with fail
          refine (spec_l1Plain d _ hd).mono ?_
          rintro e w1 ⟨rfl, rfl⟩
          rw [hpl]
          go_wp2
          go_returns
          exact ⟨rfl, Below.refl _ _⟩
        · have h60' : ((n : Int) == 60) = false := beq_eq_false_iff_ne.2 (by omega)
          have hd20 : d.size ≤ 20 := by simp at hpl; exact hpl.2
          have hf : Hid (placedM size l d = (pgoM size d.size 0 1 l).map (fun x => (l.take x.1 ++ [⟨x.2, d⟩] ++ l.drop x.1, x.2))) := by show _ = _; unfold placedM; rw [if_pos ⟨hok, hdo, by rw [hlen.out]; exact h60⟩]
          have hgl := gl_len (size := size) (L := l) (next := 1)
          rw [hlen.out] at hgl
          generalize hR : placedM size l d = R at *
          clear hR
          obtain ⟨i0, hi, hz0, hz1, hz2⟩ := info_parts infoE
          go_enter Try.func34, Try.ntmps34
          go_wp2_with fail
          refine (spec_SpaceOk size _ n cap l _ h hstr hn).mono ?_
          rintro e w1 ⟨rfl, rfl⟩
          rw [hok]
          go_wp2_with fail
          refine (spec_l1Plain d _ hd).mono ?_
          rintro e w1 ⟨rfl, rfl⟩
          rw [hpl]
          go_wp2_with fail
          refine (spec_l1Gaps size _ n cap l _ h (by omega) hs1 hs2 hxg).mono ?_
          rintro e w2 ⟨⟨ag, ng, capg, rfl, Rg⟩, hB2⟩
          have hng := Rg.sl.len
          rw [hgl] at hng
          have hng1 : ng ≤ n + 1 := by omega
          have hng2 : n + 1 ≤ ng := by omega
          clear hng hgl
          have hG := Rg.sl
          go_wp2_with fail
          go_loopw [10, 11] (fun nx ix wr => ∃ (k : Nat), k ≤ ng ∧ ix = .int .i64 k ∧ (k < ng → nx = .int .i64 (glA size l k).2 ∧ Hid (pgoM size d.size 0 1 l = pgoM size d.size k (glA size l k).2 (l.drop k))) ∧ (k = ng → (∃ y : Int, nx = .int .i64 y) ∧ Hid (pgoM size d.size 0 1 l = none)) ∧ Below w2.heap.size w2 wr) (fun _ ix _ => ng - (intOf ix).toNat)
          case atStart => exact ⟨0, Nat.zero_le _, rfl, fun _ => ⟨rfl, by show _ = _; simp [glA]⟩, fun e => by omega, Below.refl _ _⟩
          case round =>
            obtain ⟨k, hk, rfl, hnx, hend, hB⟩ := hrel
            by_cases hlt : k < ng
            · obtain ⟨rfl, hI⟩ := hnx hlt
              clear hnx hend
              have hkl : k ≤ l.length := by rw [hlen.out]; omega
              obtain ⟨bg, og, x, hag, hx, c0⟩ := ints_at' (hG.below hB) hlt
              have hxv : x = (match l[k]? with | some e => e.a | none => size + 1) - (glA size l k).2 := by
                have := gl_at (size := size) (l := l) k hkl
                rw [this] at hx
                exact (Option.some.inj hx).symm
              have hst := pgoM_at (size := size) (m := d.size) (l := l) k (by omega)
              rw [← hxv] at hst
              obtain ⟨q1, q2, q3⟩ := glA_bd (l := l) hs2 k hkl hxg
              subst hag
              have hBw := chain hB2 hB
              have hsw := hBw.size
              have hk1 : (k : Int) < ng := by omega
              have hk2 : (0 : Int) ≤ k := by omega
              have hS1 : ∀ u, Below w1.heap.size w1 u → ExsAt u (some ⟨b, o, none⟩) k (l.take k) := fun u hu => (h.below hu).take (by omega)
              have hS2 : ∀ u, Below w1.heap.size w1 u → ExsAt u (if cap = k then some ⟨b, o, none⟩ else some ⟨b, o + k * 2, none⟩) (n - k) (l.drop k) := fun u hu => slice_end (h.below hu) k cap (by omega) hcap
              by_cases hfit : (d.size : Int) ≤ x
              · rw [if_pos hfit] at hst
                have hout : Hid (R = some ([] ++ l.take k ++ [⟨(glA size l k).2, d⟩] ++ l.drop k, (glA size l k).2)) := by show _ = _; rw [hf.out, hI.out, hst]; simp
                clear hst hI hf q3 hx hxv
                generalize (glA size l k).2 = nk at *
                by_cases hkn : k = n
                · subst hkn
                  have hS3 : ∀ (u : World) (q : Option Addr), ExsAt u q 0 (l.drop k) := fun u q => by rw [List.drop_of_length_le (Nat.le_of_eq hlen.out)]; exact ⟨rfl, fun i x hx => by simp at hx⟩
                  go_wp2_with (first | (at_builtin; refine wpList_app rfl (fun K hK => wp_app _ _ 24 rfl w1.heap.size 125 i0 (.agg #[.int .i64 0, .string .empty]) 24 Try.underlying24 hi hz0 hz1 hz2 rfl (by decide) ecs_len ecs_one _ 0 0 [] rfl (res_empty (Blk.new' _ _ _ _ (by simp)) (by omega)) (some ⟨b, o, none⟩) k cap (l.take k) rfl (hS1 _ (hBw.alloc hsw _)) (fun ad h => (by cases h; rfl)) (fun h => (by cases h)) k (Nat.zero_add _) (by unfold maxLen; omega) (by omega) (by simp; omega) (fun a1 cap1 u1 hr1 hg1 => hK _ _ ?_)); have hB1 : Below w1.heap.size w1 u1 := Below.grown (hBw.alloc hsw _) hg1 (by simp; omega) (fun k e => by simp [Value.ownBlock] at e; omega)) | (at_builtin; refine wpList_app rfl (fun K hK => wp_app _ _ 24 rfl w1.heap.size 125 i0 (.agg #[.int .i64 0, .string .empty]) 24 Try.underlying24 hi hz0 hz1 hz2 rfl (by decide) ecs_len ecs_one a1 k cap1 ([] ++ l.take k) rfl (hr1.alloc _) _ 1 1 [(⟨nk, d⟩ : Ex)] rfl (sl_newE' _ ⟨nk, d⟩ _ _ (by simp)) (fun ad h => (by cases h; rfl)) (fun h => (by cases h)) (k + 1) rfl (by unfold maxLen; omega) (by omega) (by have := hB1.size; simp; omega) (fun a2 cap2 u2 hr2 hg2 => hK _ _ ?_)); have hB3 : Below w1.heap.size w1 u2 := Below.grown (hB1.alloc hB1.size _) hg2 (by have := hB1.size; simp; omega) (own_ge fun ad had => (hr1.block ad had).1)) | (at_builtin; refine wpList_app rfl (fun K hK => wp_app _ _ 24 rfl w1.heap.size 125 i0 (.agg #[.int .i64 0, .string .empty]) 24 Try.underlying24 hi hz0 hz1 hz2 rfl (by decide) ecs_len ecs_one a2 (k + 1) cap2 ([] ++ l.take k ++ [(⟨nk, d⟩ : Ex)]) rfl hr2 (if cap = k then some ⟨b, o, none⟩ else some ⟨b, o + k * 2, none⟩) 0 (cap - k) (l.drop k) rfl (hS3 _ _) (fun ad h => (by first | (cases h; rfl) | (split at h <;> cases h <;> rfl))) (fun h => (by first | cases h | (split at h <;> cases h))) (k + 1) (by omega) (by unfold maxLen; omega) (by omega) hB3.size (fun a3 cap3 u3 hr3 hg3 => hK _ _ ?_)); have hB4 : Below w1.heap.size w1 u3 := Below.grown hB3 hg3 hB3.size (own_ge fun ad had => (hr2.block ad had).1)) | (at_builtin; refine wpList_app rfl (fun K hK => wp_app _ _ 24 rfl w1.heap.size 125 i0 (.agg #[.int .i64 0, .string .empty]) 24 Try.underlying24 hi hz0 hz1 hz2 rfl (by decide) ecs_len ecs_one a2 (k + 1) cap2 ([] ++ l.take k ++ [(⟨nk, d⟩ : Ex)]) rfl hr2 (if cap = k then some ⟨b, o, none⟩ else some ⟨b, o + k * 2, none⟩) (k - k) (cap - k) (l.drop k) rfl (by rw [Nat.sub_self]; exact hS3 _ _) (fun ad h => (by first | (cases h; rfl) | (split at h <;> cases h <;> rfl))) (fun h => (by first | cases h | (split at h <;> cases h))) (k + 1) (by omega) (by unfold maxLen; omega) (by omega) hB3.size (fun a3 cap3 u3 hr3 hg3 => hK _ _ ?_)); have hB4 : Below w1.heap.size w1 u3 := Below.grown hB3 hg3 hB3.size (own_ge fun ad had => (hr2.block ad had).1)))
                  all_goals go_returns
                  all_goals (rw [hout.out]; exact ⟨⟨a3, k + 1, cap3, rfl, hr3⟩, hB4⟩)
                · have hkn2 : k < n := by omega
                  go_wp2_with (first | (at_builtin; refine wpList_app rfl (fun K hK => wp_app _ _ 24 rfl w1.heap.size 125 i0 (.agg #[.int .i64 0, .string .empty]) 24 Try.underlying24 hi hz0 hz1 hz2 rfl (by decide) ecs_len ecs_one _ 0 0 [] rfl (res_empty (Blk.new' _ _ _ _ (by simp)) (by omega)) (some ⟨b, o, none⟩) k cap (l.take k) rfl (hS1 _ (hBw.alloc hsw _)) (fun ad h => (by cases h; rfl)) (fun h => (by cases h)) k (Nat.zero_add _) (by unfold maxLen; omega) (by omega) (by simp; omega) (fun a1 cap1 u1 hr1 hg1 => hK _ _ ?_)); have hB1 : Below w1.heap.size w1 u1 := Below.grown (hBw.alloc hsw _) hg1 (by simp; omega) (fun k e => by simp [Value.ownBlock] at e; omega)) | (at_builtin; refine wpList_app rfl (fun K hK => wp_app _ _ 24 rfl w1.heap.size 125 i0 (.agg #[.int .i64 0, .string .empty]) 24 Try.underlying24 hi hz0 hz1 hz2 rfl (by decide) ecs_len ecs_one a1 k cap1 ([] ++ l.take k) rfl (hr1.alloc _) _ 1 1 [(⟨nk, d⟩ : Ex)] rfl (sl_newE' _ ⟨nk, d⟩ _ _ (by simp)) (fun ad h => (by cases h; rfl)) (fun h => (by cases h)) (k + 1) rfl (by unfold maxLen; omega) (by omega) (by have := hB1.size; simp; omega) (fun a2 cap2 u2 hr2 hg2 => hK _ _ ?_)); have hB3 : Below w1.heap.size w1 u2 := Below.grown (hB1.alloc hB1.size _) hg2 (by have := hB1.size; simp; omega) (own_ge fun ad had => (hr1.block ad had).1)) | (at_builtin; refine wpList_app rfl (fun K hK => wp_app _ _ 24 rfl w1.heap.size 125 i0 (.agg #[.int .i64 0, .string .empty]) 24 Try.underlying24 hi hz0 hz1 hz2 rfl (by decide) ecs_len ecs_one a2 (k + 1) cap2 ([] ++ l.take k ++ [(⟨nk, d⟩ : Ex)]) rfl hr2 (some ⟨b, o + k * 2, none⟩) (n - k) (cap - k) (l.drop k) rfl ((h.below hB3).drop k) (fun ad h => (by first | (cases h; rfl) | (split at h <;> cases h <;> rfl))) (fun h => (by first | cases h | (split at h <;> cases h))) (n + 1) (by omega) (by unfold maxLen; omega) (by omega) hB3.size (fun a3 cap3 u3 hr3 hg3 => hK _ _ ?_)); have hB4 : Below w1.heap.size w1 u3 := Below.grown hB3 hg3 hB3.size (own_ge fun ad had => (hr2.block ad had).1)))
                  all_goals go_returns
                  all_goals (rw [hout.out]; exact ⟨⟨a3, n + 1, cap3, rfl, hr3⟩, hB4⟩)
              · rw [if_neg hfit] at hst
                clear hS1 hS2 hx
                by_cases hkn : k < n
                · rw [if_pos (by rw [hlen.out]; exact hkn)] at hst
                  obtain ⟨b', o', p, hbo, hp, d0, d1⟩ := exs_at (h.below hBw) hkn
                  obtain ⟨rfl, rfl⟩ : b = b' ∧ o = o' := by simpa using hbo
                  have hga : Hid ((glA size l (k + 1)).2 = p.a + p.d.size) := by show _ = _; rw [glA_succ hp]
                  have hst2 : Hid (pgoM size d.size 0 1 l = pgoM size d.size (k + 1) (glA size l (k + 1)).2 (l.drop (k + 1))) := by show _ = _; rw [hI.out, hst]
                  rw [drop_at hp] at q3
                  simp only [xgo, Bool.and_eq_true, decide_eq_true_eq] at q3
                  have hp20 : p.d.size ≤ 20 := by have := q3.1.1.1; simp [dataOkB] at this; omega
                  have hpa : p.a ≤ 400 := by have := q3.1.2; have := dataOkB_pos q3.1.1.1; omega
                  have hpa0 : 1 ≤ p.a := by have := q3.1.1.2; omega
                  clear hp hbo q3 hst hI hxv
                  generalize (glA size l k).2 = nk at *
                  have hk3 : (k : Int) < n := by omega
                  go_wp2_with fail
                  go_quiet (fail)
                  go_wp2
                  go_roundw
                  case rel => exact ⟨k + 1, by omega, by go_num, fun _ => ⟨by rw [hga.out], hst2⟩, fun e => by omega, chain hB (drewNB _ _)⟩
                  case measure => simp [intOf]; omega
                · rw [if_neg (by rw [hlen.out]; exact hkn)] at hst
                  have hst2 : Hid (pgoM size d.size 0 1 l = none) := by show _ = _; rw [hI.out, hst]
                  clear q3 hst hI hxv
                  generalize (glA size l k).2 = nk at *
                  go_wp2
                  go_roundw
                  case rel => exact ⟨k + 1, by omega, by go_num, fun e => by omega, fun _ => ⟨⟨_, rfl⟩, hst2⟩, hB⟩
                  case measure => simp [intOf]; omega
            · obtain ⟨⟨y, rfl⟩, hI⟩ := hend (by omega)
              obtain rfl : k = ng := by omega
              clear hnx hend
              go_wp2
              go_returns
              rw [hf.out, hI.out]
              exact ⟨rfl, chain hB2 hB⟩
end Go.Proofs.Ytbmkedickkpjjaa
