/- Placed of the model, whatever slice it is given. What lifting and placing leave, as plain facts. Lifted of the model. Drawn spaces. Lists of extents that are the same. What FnLifted and FnPlaced are tried at. -/
import Derived.Test.YtckljlgojhloiaaProg
import Derived.Test.YtckljlgojhloiaaKf
import Derived.Test.YtckljlgojhloiaaKe
import Derived.Test.YtckljlgojhloiaaKd
import Derived.Test.YtckljlgojhloiaaKc
import Derived.Laws.StructEq
import Derived.Deep.RegionLaw
namespace Go.Proofs.Ytckljlgojhloiaa
open Go.RowKit Go.BigFrame

set_option maxHeartbeats 4000000 in
set_option maxRecDepth 100000 in
theorem spec_PlacedN (size : Int) (d : ByteArray) (w : World) (hd : d.size ≤ 9223372036854775807) :
    Calls Try.prog 8 #[.int .i64 size, .slice none 0 0, .string d] w fun e w' => RetPl w.heap.size e w' (placedO size [] d) ∧ Below w.heap.size w w' := by
  have h : ExsAt w none 0 [] := ⟨rfl, fun i x hx => by simp at hx⟩
  have hstr : Strs [] := fun e he => by cases he
  rw [← placedM_eq]
  have hemp : d.toList = [] ↔ d.size = 0 := by
    constructor
    · intro e
      have : d = ByteArray.mk #[] := bytes_eq (by rw [e, ByteArray.toList_eq])
      rw [this]; rfl
    · intro e; rw [show d = ByteArray.mk #[] from ByteArray.ext (Array.eq_empty_of_size_eq_zero e), ByteArray.toList_eq]
  cases hok : spaceOkB size []
  · have hf : placedM size [] d = none := by simp [placedM, hok]
    rw [hf]
    go_enter Try.func8, Try.ntmps8
    go_wp2_with fail
    refine (spec_SpaceOk size _ 0 0 [] _ h hstr (by omega)).mono ?_
    rintro e w1 ⟨rfl, rfl⟩
    rw [hok]
    go_wp2
    go_returns
    exact ⟨rfl, Below.refl _ _⟩
  · obtain ⟨hs1, hs2, hln, hxg⟩ := ok_parts hok
    by_cases hz : d.size = 0
    · have hz' : d.toList = [] := hemp.2 hz
      have hz3 : d.toList.isEmpty = true := by rw [hz']; rfl
      have hf : placedM size [] d = none := by simp [placedM, dataOkB, hz]
      rw [hf]
      go_enter Try.func8, Try.ntmps8
      go_wp2_with fail
      refine (spec_SpaceOk size _ 0 0 [] _ h hstr (by omega)).mono ?_
      rintro e w1 ⟨rfl, rfl⟩
      rw [hok]
      go_wp2
      go_returns
      exact ⟨rfl, Below.refl _ _⟩
    · have hz' : ¬ d.toList = [] := fun e => hz (hemp.1 e)
      have hz3 : d.toList.isEmpty = false := by cases hh : d.toList.isEmpty; rfl; exact absurd (List.isEmpty_iff.1 hh) hz'
      cases hpl : (plainB d && decide (d.size ≤ 20))
      · have hf : placedM size [] d = none := by
          have : dataOkB d = false := by rw [dataOkB_eq, hpl]; simp
          simp [placedM, this]
        rw [hf]
        go_enter Try.func8, Try.ntmps8
        go_wp2_with fail
        refine (spec_SpaceOk size _ 0 0 [] _ h hstr (by omega)).mono ?_
        rintro e w1 ⟨rfl, rfl⟩
        rw [hok]
        go_wp2_with fail
        refine (spec_l1Plain d _ hd).mono ?_
        rintro e w1 ⟨rfl, rfl⟩
        rw [hpl]
        go_wp2
        go_returns
        exact ⟨rfl, Below.refl _ _⟩
      · have hdo : dataOkB d = true := by rw [dataOkB_eq, hpl]; simp; omega
        have hd20 : d.size ≤ 20 := by simp at hpl; exact hpl.2
        have hf : Hid (placedM size [] d = if (d.size : Int) ≤ size then some ([] ++ [] ++ [⟨1, d⟩] ++ [], 1) else none) := by
          show _ = _
          unfold placedM
          rw [if_pos ⟨hok, hdo, by decide⟩, pgoM]
          by_cases hq : (d.size : Int) ≤ size
          · rw [if_pos (by omega), if_pos hq]; rfl
          · rw [if_neg (by omega), if_neg hq]; rfl
        generalize hR : placedM size [] d = R at *
        clear hR
        obtain ⟨i0, hi, hz0, hz1, hz2⟩ := info_parts infoE
        go_enter Try.func8, Try.ntmps8
        go_wp2_with fail
        refine (spec_SpaceOk size _ 0 0 [] _ h hstr (by omega)).mono ?_
        rintro e w1 ⟨rfl, rfl⟩
        rw [hok]
        go_wp2_with fail
        refine (spec_l1Plain d _ hd).mono ?_
        rintro e w1 ⟨rfl, rfl⟩
        rw [hpl]
        go_wp2_with fail
        refine (spec_l1Gaps size _ 0 0 [] _ h (by omega) hs1 hs2 hxg).mono ?_
        rintro e w2 ⟨⟨ag, ng, capg, rfl, Rg⟩, hB2⟩
        obtain rfl : ng = 1 := by have := Rg.sl.len; simpa [gl] using this.symm
        have hG := Rg.sl
        go_wp2_with fail
        go_loopw [10, 11] (fun nx ix wr => ∃ (k : Nat), k ≤ 1 ∧ ix = .int .i64 k ∧ nx = .int .i64 1 ∧ (k = 1 → ¬ (d.size : Int) ≤ size) ∧ Below w2.heap.size w2 wr) (fun _ ix _ => 1 - (intOf ix).toNat)
        case atStart => exact ⟨0, Nat.zero_le _, rfl, rfl, fun e => by omega, Below.refl _ _⟩
        case round =>
          obtain ⟨k, hk, rfl, rfl, hend, hB⟩ := hrel
          by_cases hlt : k < 1
          · obtain rfl : k = 0 := by omega
            obtain ⟨bg, og, x, hag, hx, c0⟩ := ints_at' (hG.below hB) hlt
            obtain rfl : x = size := by simp [gl] at hx; omega
            subst hag
            simp only [Nat.add_zero] at c0
            have hBw := chain hB2 hB
            have hsw := hBw.size
            have hS : ∀ u : World, ExsAt u none 0 [] := fun u => ⟨rfl, fun i x hx => by simp at hx⟩
            by_cases hfit : (d.size : Int) ≤ x
            · have hout : Hid (R = some ([] ++ [] ++ [⟨1, d⟩] ++ [], 1)) := by show _ = _; rw [hf.out, if_pos hfit]
              clear hf hx
              go_wp2_with (first | (at_builtin; refine wpList_app rfl (fun K hK => wp_app _ _ 24 rfl w1.heap.size 52 i0 (.agg #[.int .i64 0, .string .empty]) 24 Try.underlying24 hi hz0 hz1 hz2 rfl (by decide) ecs_len ecs_one _ 0 0 [] rfl (res_empty (Blk.new' _ _ _ _ (by simp)) (by omega)) none 0 0 [] rfl (hS _) (fun ad h => (by cases h)) (fun h => rfl) 0 (Nat.zero_add _) (by unfold maxLen; omega) (by omega) (by simp; omega) (fun a1 cap1 u1 hr1 hg1 => hK _ _ ?_)); have hB1 : Below w1.heap.size w1 u1 := Below.grown (hBw.alloc hsw _) hg1 (by simp; omega) (fun k e => by simp [Value.ownBlock] at e; omega)) | (at_builtin; refine wpList_app rfl (fun K hK => wp_app _ _ 24 rfl w1.heap.size 52 i0 (.agg #[.int .i64 0, .string .empty]) 24 Try.underlying24 hi hz0 hz1 hz2 rfl (by decide) ecs_len ecs_one a1 0 cap1 ([] ++ []) rfl (hr1.alloc _) _ 1 1 [(⟨1, d⟩ : Ex)] rfl (sl_newE' _ ⟨1, d⟩ _ _ (by simp)) (fun ad h => (by cases h; rfl)) (fun h => (by cases h)) 1 rfl (by unfold maxLen; omega) (by omega) (by have := hB1.size; simp; omega) (fun a2 cap2 u2 hr2 hg2 => hK _ _ ?_)); have hB3 : Below w1.heap.size w1 u2 := Below.grown (hB1.alloc hB1.size _) hg2 (by have := hB1.size; simp; omega) (own_ge fun ad had => (hr1.block ad had).1)) | (at_builtin; refine wpList_app rfl (fun K hK => wp_app _ _ 24 rfl w1.heap.size 52 i0 (.agg #[.int .i64 0, .string .empty]) 24 Try.underlying24 hi hz0 hz1 hz2 rfl (by decide) ecs_len ecs_one a2 1 cap2 ([] ++ [] ++ [(⟨1, d⟩ : Ex)]) rfl hr2 none 0 0 [] rfl (hS _) (fun ad h => (by cases h)) (fun h => rfl) 1 (by omega) (by unfold maxLen; omega) (by omega) hB3.size (fun a3 cap3 u3 hr3 hg3 => hK _ _ ?_)); have hB4 : Below w1.heap.size w1 u3 := Below.grown hB3 hg3 hB3.size (own_ge fun ad had => (hr2.block ad had).1)))
              all_goals go_returns
              all_goals (rw [hout.out]; exact ⟨⟨a3, 1, cap3, rfl, hr3⟩, hB4⟩)
            · clear hx
              go_wp2_with fail
              go_roundw
              case rel => exact ⟨1, by omega, by go_num, rfl, fun _ => hfit, hB⟩
              case measure => simp [intOf]
          · obtain rfl : k = 1 := by omega
            have hout : Hid (R = none) := by show _ = _; rw [hf.out, if_neg (hend rfl)]
            clear hf
            go_wp2
            go_returns
            rw [hout.out]; exact ⟨rfl, chain hB2 hB⟩

theorem spec_PlacedA (size : Int) (a : Option Addr) (n cap : Nat) (l : List Ex) (d : ByteArray) (w : World) (h : ExsAt w a n l) (hstr : Strs l) (hn : n ≤ 4194304) (hcap : n ≤ cap) (hd : d.size ≤ 9223372036854775807) (hA : (a = none ∧ n = 0 ∧ cap = 0) ∨ ∃ b o, a = some ⟨b, o, none⟩) :
    Calls Try.prog 8 #[.int .i64 size, .slice a n cap, .string d] w fun e w' => RetPl w.heap.size e w' (placedO size l d) ∧ Below w.heap.size w w' := by
  rcases hA with ⟨rfl, rfl, rfl⟩ | ⟨b, o, rfl⟩
  · obtain rfl := List.eq_nil_of_length_eq_zero h.len
    exact spec_PlacedN size d w hd
  · exact spec_Placed size b o n cap l d w h hstr hn hcap hd
end Go.Proofs.Ytckljlgojhloiaa
namespace Go.Proofs.Ytckljlgojhloiaa
open Go.RowKit

theorem xgo_weaken {size : Int} : ∀ {l : List Ex} {next next' : Int}, xgo size next l = true → next' ≤ next → xgo size next' l = true
  | [], _, _, _, _ => rfl
  | e :: r, next, next', h, hn => by
    simp only [xgo, Bool.and_eq_true, decide_eq_true_eq] at h ⊢
    exact ⟨⟨⟨h.1.1.1, by omega⟩, h.1.2⟩, h.2⟩

theorem xgo_liftL {size addr : Int} : ∀ {l : List Ex} {next : Int}, xgo size next l = true → xgo size next (liftL addr l) = true
  | [], _, _ => rfl
  | e :: r, next, h => by
    simp only [xgo, Bool.and_eq_true, decide_eq_true_eq] at h
    obtain ⟨⟨⟨h1, h2⟩, h3⟩, h4⟩ := h
    have ih := xgo_liftL (addr := addr) h4
    cases he : (e.a == addr)
    · have e1 : liftL addr (e :: r) = e :: liftL addr r := by simp [liftL, he]
      rw [e1]
      simp only [xgo, Bool.and_eq_true, decide_eq_true_eq]
      exact ⟨⟨⟨h1, h2⟩, h3⟩, ih⟩
    · have e1 : liftL addr (e :: r) = liftL addr r := by simp [liftL, he]
      rw [e1]
      have := dataOkB_pos h1
      exact xgo_weaken ih (by omega)

theorem liftL_idem (addr : Int) (l : List Ex) : liftL addr (liftL addr l) = liftL addr l := by simp [liftL, List.filter_filter]

theorem sumD_app : ∀ (a b : List Ex), sumD (a ++ b) = sumD a + sumD b
  | [], b => by simp [sumD]
  | e :: r, b => by simp only [List.cons_append, sumD, sumD_app r b]; omega

theorem xgo_mem {size : Int} : ∀ {l : List Ex} {next : Int}, xgo size next l = true → ∀ e ∈ l, dataOkB e.d = true
  | [], _, _, e, he => by cases he
  | x :: r, next, h, e, he => by
    simp only [xgo, Bool.and_eq_true, decide_eq_true_eq] at h
    rcases List.mem_cons.1 he with rfl | he
    · exact h.1.1.1
    · exact xgo_mem h.2 e he

theorem strs_sub {l m : List Ex} (h : Strs l) (hs : ∀ e ∈ m, e ∈ l) : Strs m := fun e he => h e (hs e he)

/-- What is left when an extent is lifted. -/
theorem lifted_facts {size addr : Int} {l L : List Ex} (h : liftedO size l addr = some L) :
    spaceOkB size l = true ∧ spaceOkB size L = true ∧ L.length + 1 = l.length ∧ liftedO size L addr = none ∧ sumD L < sumD l ∧ ∀ e ∈ L, e ∈ l := by
  unfold liftedO at h
  split at h
  · rename_i hc
    obtain ⟨hok, hne⟩ := hc
    obtain rfl := Option.some.inj h
    obtain ⟨h1, h2, h3, h4⟩ := ok_parts hok
    rcases lift_at (addr := addr) 0 h4 with ⟨_, q⟩ | ⟨j, hj, _, q⟩
    · exact absurd (congrArg List.length q) hne
    · have hl : l = l.take j ++ l[j] :: l.drop (j + 1) := by
        rw [← List.drop_eq_getElem_cons hj, List.take_append_drop]
      have hlen : (liftL addr l).length + 1 = l.length := by rw [q]; simp; omega
      have hok2 : spaceOkB size (liftL addr l) = true := by
        simp only [spaceOkB, Bool.and_eq_true, decide_eq_true_eq]
        exact ⟨⟨⟨h1, h2⟩, by omega⟩, xgo_liftL h4⟩
      refine ⟨hok, hok2, hlen, ?_, ?_, fun e he => (List.mem_filter.1 he).1⟩
      · unfold liftedO
        rw [if_neg (fun e => e.2 (by rw [liftL_idem]))]
      · have hd := dataOkB_pos (xgo_mem h4 l[j] (List.getElem_mem hj))
        have e1 : sumD l = sumD (l.take j) + (l[j].d.size + sumD (l.drop (j + 1))) := by
          conv => lhs; rw [hl]
          rw [sumD_app]; rfl
        rw [q, sumD_app, e1]; omega
  · cases h

theorem pgoM_facts {size : Int} {d : ByteArray} (hd : dataOkB d = true) : ∀ {l : List Ex} {next : Int} (k j : Nat) (x : Int), xgo size next l = true → pgoM size d.size k next l = some (j, x) →
    k ≤ j ∧ next ≤ x ∧ j - k ≤ l.length ∧ xgo size next (l.take (j - k) ++ ⟨x, d⟩ :: l.drop (j - k)) = true ∧ liftL x (l.take (j - k) ++ ⟨x, d⟩ :: l.drop (j - k)) = l
  | [], next, k, j, x, h, hp => by
    rw [pgoM] at hp
    split at hp
    · rename_i hm
      simp only [Option.some.injEq, Prod.mk.injEq] at hp
      obtain ⟨rfl, rfl⟩ := hp
      refine ⟨Nat.le_refl _, by omega, by simp, ?_, ?_⟩
      · simp [xgo, hd]; omega
      · simp [liftL]
    · cases hp
  | e :: r, next, k, j, x, h, hp => by
    rw [pgoM] at hp
    have h0 := h
    simp only [xgo, Bool.and_eq_true, decide_eq_true_eq] at h
    obtain ⟨⟨⟨h1, h2⟩, h3⟩, h4⟩ := h
    have hpos := dataOkB_pos h1
    have hpd := dataOkB_pos hd
    split at hp
    · rename_i hm
      simp only [Option.some.injEq, Prod.mk.injEq] at hp
      obtain ⟨rfl, rfl⟩ := hp
      have hx : xgo size (next + d.size) (e :: r) = true := by
        simp only [xgo, Bool.and_eq_true, decide_eq_true_eq]
        exact ⟨⟨⟨h1, by omega⟩, h3⟩, h4⟩
      refine ⟨Nat.le_refl _, by omega, by simp, ?_, ?_⟩
      · rw [Nat.sub_self, List.take_zero, List.drop_zero, List.nil_append, xgo]
        simp only [Bool.and_eq_true, decide_eq_true_eq]
        exact ⟨⟨⟨hd, by omega⟩, by omega⟩, hx⟩
      · rw [Nat.sub_self, List.take_zero, List.drop_zero, List.nil_append]
        have e1 : liftL next (⟨next, d⟩ :: e :: r) = liftL next (e :: r) := by simp [liftL]
        rw [e1]
        exact xgo_lift_none hx (by omega)
    · obtain ⟨q1, q2, q3, q4, q5⟩ := pgoM_facts hd (k + 1) j x h4 hp
      have ej : j - k = (j - (k + 1)) + 1 := by omega
      rw [ej]
      refine ⟨by omega, by omega, by simp; omega, ?_, ?_⟩
      · rw [List.take_succ_cons, List.drop_succ_cons, List.cons_append, xgo]
        simp only [Bool.and_eq_true, decide_eq_true_eq]
        exact ⟨⟨⟨h1, h2⟩, h3⟩, q4⟩
      · rw [List.take_succ_cons, List.drop_succ_cons, List.cons_append]
        have hne : (e.a == x) = false := beq_eq_false_iff_ne.2 (by omega)
        have e1 : ∀ m : List Ex, liftL x (e :: m) = e :: liftL x m := fun m => by simp [liftL, hne]
        rw [e1, q5]

/-- What is there when data is placed. -/
theorem placed_facts {size x : Int} {l L : List Ex} {d : ByteArray} (h : placedO size l d = some (L, x)) :
    spaceOkB size l = true ∧ dataOkB d = true ∧ spaceOkB size L = true ∧ L.length = l.length + 1 ∧ l.length < 60 ∧ liftedO size L x = some l ∧ sumD L = sumD l + d.size ∧ ∀ e ∈ L, e ∈ l ∨ e = ⟨x, d⟩ := by
  rw [← placedM_eq] at h
  unfold placedM at h
  split at h
  · rename_i hc
    obtain ⟨hok, hd, h60⟩ := hc
    obtain ⟨h1, h2, h3, h4⟩ := ok_parts hok
    cases hp : pgoM size d.size 0 1 l with
    | none => rw [hp] at h; cases h
    | some y =>
      obtain ⟨j, x'⟩ := y
      rw [hp] at h
      simp only [Option.map_some, Option.some.injEq, Prod.mk.injEq] at h
      obtain ⟨rfl, rfl⟩ := h
      obtain ⟨q1, q2, q3, q4, q5⟩ := pgoM_facts hd 0 j x' h4 hp
      rw [Nat.sub_zero] at q3 q4 q5
      have eL : l.take j ++ [⟨x', d⟩] ++ l.drop j = l.take j ++ ⟨x', d⟩ :: l.drop j := by simp
      rw [eL]
      have hlen : (l.take j ++ ⟨x', d⟩ :: l.drop j : List Ex).length = l.length + 1 := by simp; omega
      have hok2 : spaceOkB size (l.take j ++ ⟨x', d⟩ :: l.drop j) = true := by
        simp only [spaceOkB, Bool.and_eq_true, decide_eq_true_eq]
        exact ⟨⟨⟨h1, h2⟩, by omega⟩, q4⟩
      refine ⟨hok, hd, hok2, hlen, by omega, ?_, ?_, ?_⟩
      · unfold liftedO
        rw [if_pos ⟨hok2, by rw [q5]; omega⟩, q5]
      · rw [sumD_app]
        conv => rhs; rw [← List.take_append_drop j l, sumD_app]
        simp only [sumD]; omega
      · intro e he
        rcases List.mem_append.1 he with he | he
        · exact .inl (List.mem_of_mem_take he)
        · rcases List.mem_cons.1 he with he | he
          · exact .inr he
          · exact .inl (List.mem_of_mem_drop he)
  · cases h

/-- Whether data is placed. -/
theorem placed_some (size : Int) (l : List Ex) (d : ByteArray) : (placedO size l d).isSome = (spaceOkB size l && dataOkB d && !(l.length == 60) && (ggo size 1 l).any (fun x => decide ((d.size : Int) ≤ x.2))) := by
  unfold placedO
  split
  · rename_i hc
    obtain ⟨hok, hd, h60⟩ := hc
    rw [hok, hd, beq_eq_false_iff_ne.2 h60, Option.isSome_map]
    rw [Bool.eq_iff_iff, List.find?_isSome]
    simp
  · rename_i hc
    cases h1 : spaceOkB size l <;> cases h2 : dataOkB d <;> simp [h1, h2] at hc ⊢
    exact fun e => absurd hc e

theorem gapsV_sum {size : Int} {l : List Ex} (h : spaceOkB size l = true) : gapsV size l = (ggo size 1 l).map (·.2) := by unfold gapsV; rw [if_pos h]
end Go.Proofs.Ytckljlgojhloiaa
namespace Go.Proofs.Ytckljlgojhloiaa
open Go.RowKit Go.BigFrame

set_option maxHeartbeats 2000000 in
set_option maxRecDepth 100000 in
theorem spec_LiftedW (size : Int) (a : Option Addr) (n cap : Nat) (l : List Ex) (addr : Int) (w : World) (h : ExsAt w a n l) (hstr : Strs l) (hn : n ≤ 4194304) (hcap : n ≤ cap) (hc2 : cap ≤ 9223372036854775807) :
    Calls Try.prog 18 #[.int .i64 size, .slice a n cap, .int .i64 addr] w fun e w' => RetExs w.heap.size e w' (liftedO size l addr) ∧ Below w.heap.size w w' := by
  have hlen : Hid (l.length = n) := h.len
  rw [← liftedM_eq]
  cases hok : spaceOkB size l
  · have hf : liftedM size l addr = none := by simp [liftedM, hok]
    rw [hf]
    generalize atG addr 0 l = at1
    go_enter Try.func18, Try.ntmps18
    go_wp2_with fail
    refine (spec_l1At a n cap l addr _ h hn).mono ?_
    rintro e w1 ⟨rfl, rfl⟩
    go_wp2_with fail
    refine (spec_SpaceOk size a n cap l _ h hstr hn).mono ?_
    rintro e w1 ⟨rfl, rfl⟩
    rw [hok]
    go_wp2
    go_returns
    exact ⟨rfl, Below.refl _ _⟩
  · have hx : xgo size 1 l = true := by simp only [spaceOkB, Bool.and_eq_true] at hok; exact hok.2
    rcases lift_at (addr := addr) 0 hx with ⟨q1, q2⟩ | ⟨j, hj, q1, q2⟩
    · have hf : liftedM size l addr = none := by simp [liftedM, q1]
      rw [hf]
      go_enter Try.func18, Try.ntmps18
      go_wp2_with fail
      refine (spec_l1At a n cap l addr _ h hn).mono ?_
      rintro e w1 ⟨rfl, rfl⟩
      rw [q1]
      go_wp2_with fail
      refine (spec_SpaceOk size a n cap l _ h hstr hn).mono ?_
      rintro e w1 ⟨rfl, rfl⟩
      rw [hok]
      go_wp2
      go_returns
      exact ⟨rfl, Below.refl _ _⟩
    · rw [Nat.zero_add] at q1
      have hf : liftedM size l addr = some (l.take j ++ l.drop (j + 1)) := by simp [liftedM, q1, hok]
      rw [hf]
      have hjn : j < n := by rw [← hlen.out]; exact hj
      obtain ⟨b, o, p, rfl, hp, c0, c1⟩ := exs_at h hjn
      have S1 : ExsAt w (some ⟨b, o, none⟩) j (l.take j) := h.take (by omega)
      have S2 : ExsAt w (if cap = j + 1 then some ⟨b, o, none⟩ else some ⟨b, o + (j + 1) * 2, none⟩) (n - (j + 1)) (l.drop (j + 1)) := by
        split
        · rw [List.drop_of_length_le (by rw [hlen.out]; omega)]
          exact ⟨by simp; omega, fun i x hx => by simp at hx⟩
        · exact h.drop (j + 1)
      clear c0 c1 hp
      obtain ⟨i0, hi, hz0, hz1, hz2⟩ := info_parts infoE
      go_enter Try.func18, Try.ntmps18
      go_wp2_with fail
      refine (spec_l1At _ n cap l addr _ h hn).mono ?_
      rintro e w1 ⟨rfl, rfl⟩
      rw [q1]
      go_wp2_with fail
      refine (spec_SpaceOk size _ n cap l _ h hstr hn).mono ?_
      rintro e w1 ⟨rfl, rfl⟩
      rw [hok]
      go_wp2_with (first | (at_builtin; refine wpList_app rfl (fun K hK => wp_app _ _ 24 rfl w1.heap.size 52 i0 (.agg #[.int .i64 0, .string .empty]) 24 Try.underlying24 hi hz0 hz1 hz2 rfl (by decide) ecs_len ecs_one _ 0 0 [] rfl (res_empty (Blk.new' _ _ _ _ (by simp)) (by simp)) (some ⟨b, o, none⟩) j cap (l.take j) rfl (S1.alloc _) (fun ad h => (by cases h; rfl)) (fun h => (by cases h)) j (Nat.zero_add _) (by unfold maxLen; omega) (by omega) (by simp) (fun a1 cap1 w2 hr1 hg1 => hK _ _ ?_)); have hB2 : Below w1.heap.size w1 w2 := Below.grown (by go_grown) hg1 (by simp) (fun k e => by simp [Value.ownBlock] at e; omega)) | (at_builtin; refine wpList_app rfl (fun K hK => wp_app _ _ 24 rfl w1.heap.size 52 i0 (.agg #[.int .i64 0, .string .empty]) 24 Try.underlying24 hi hz0 hz1 hz2 rfl (by decide) ecs_len ecs_one a1 j cap1 ([] ++ l.take j) rfl hr1 (if cap = j + 1 then some ⟨b, o, none⟩ else some ⟨b, o + (j + 1) * 2, none⟩) (n - (j + 1)) (cap - (j + 1)) (l.drop (j + 1)) rfl (S2.below hB2) (fun ad h => (by split at h <;> cases h <;> rfl)) (fun h => (by split at h <;> cases h)) (n - 1) (by omega) (by unfold maxLen; omega) (by omega) hB2.size (fun a3 cap3 w3 hr3 hg3 => hK _ _ ?_)); have hB3 : Below w1.heap.size w1 w3 := Below.grown hB2 hg3 hB2.size (own_ge fun ad had => (hr1.block ad had).1)))
      all_goals go_returns
      all_goals exact ⟨⟨a3, n - 1, cap3, rfl, by simpa using hr3⟩, hB3⟩
end Go.Proofs.Ytckljlgojhloiaa
namespace Go.Proofs.Ytckljlgojhloiaa
open Go.RowKit Go.BigFrame

/-- Where the slice of an answer lies. -/
theorem ResAt.ends {α : Type} {cs : α → List Value} {sz : Nat} {t : TypeId} {w : World} {B n cap : Nat} {a : Option Addr} {l : List α} (h : ResAt cs sz t w B a n cap l) : ((a = none ∧ n = 0 ∧ cap = 0) ∨ ∃ b o, a = some ⟨b, o, none⟩) ∧ n ≤ cap ∧ cap ≤ 9223372036854775807 := by
  rcases h.own with ⟨h1, h2, h3⟩ | ⟨b, h1, _, h2, h3, _⟩
  · exact ⟨.inl ⟨h1, h2, h3⟩, by omega, by omega⟩
  · exact ⟨.inr ⟨b, 0, h1⟩, h2, by unfold maxLen at h3; omega⟩

set_option maxHeartbeats 1000000 in
set_option maxRecDepth 100000 in
theorem spec_data (B : Nat) (w : World) (h : Rd w B) :
    Calls Try.prog 24 #[.pointer (some ⟨B, 0, none⟩)] w fun e w' => (∃ d : ByteArray, e = .returned (.string d) ∧ d.size ≤ 20) ∧ Rd w' B ∧ w.grownBy w' (some B) := by
  have hlt := h.lt
  go_enter Try.func24, Try.ntmps24
  go_wp2_with fail
  refine (spec_belowN B 7 _ (h.below (by go_grown)) (by omega) (by omega)).mono ?_
  rintro e w1 ⟨⟨x, rfl, hx⟩, hR1, hg1⟩
  have b1 := (Blk.new w _ _).grown hg1 (by omega)
  have hG1 : w.grownBy w1 (some B) := grown_trans (grown_below (grown_refl w B) (by go_grown)) hg1
  clear hg1
  obtain ⟨s, hs, hs1⟩ : ∃ s : ByteArray, w1.cell? ⟨w.heap.size, x, none⟩ = some (.string s) ∧ s.size ≤ 20 := by
    rw [b1.cell]
    rcases (show x = 0 ∨ x = 1 ∨ x = 2 ∨ x = 3 ∨ x = 4 ∨ x = 5 ∨ x = 6 by omega) with rfl | rfl | rfl | rfl | rfl | rfl | rfl
    all_goals exact ⟨_, rfl, by decide⟩
  have hx2 : (x : Int) < 7 := by omega
  clear b1
  go_wp2
  go_returns
  exact ⟨⟨s, rfl, hs1⟩, hR1, hG1⟩

theorem strs_of_lift {size addr : Int} {l L : List Ex} (h : Strs l) (hl : liftedO size l addr = some L) : Strs L := strs_sub h (lifted_facts hl).2.2.2.2.2
theorem strs_of_place {size x : Int} {l L : List Ex} {d : ByteArray} (h : Strs l) (hd : d.size ≤ 20) (hl : placedO size l d = some (L, x)) : Strs L := fun e he => by
  rcases (placed_facts hl).2.2.2.2.2.2.2 e he with he | rfl
  · exact h e he
  · show d.size ≤ _; omega

theorem grown_setB {w w1 : World} {B b i : Nat} {v : Value} (hG : w.grownBy w1 (some B)) (hb : w.heap.size ≤ b) : w.grownBy (w1.setCell ⟨b, i, none⟩ v) (some B) := by
  have hg5 := grown_set (grown_refl w1 b) i v
  exact ⟨hg5.os.trans hG.os, hg5.tape.trans hG.tape, hg5.output.trans hG.output, Nat.le_trans hG.size hg5.size, fun k hk hne => by
    rw [hg5.block k (Nat.lt_of_lt_of_le hk hG.size) (by simp; omega)]; exact hG.block k hk hne⟩

set_option maxHeartbeats 2000000 in
set_option maxRecDepth 100000 in
theorem spec_space (B : Nat) (w : World) (h : Rd w B) :
    Calls Try.prog 21 #[.pointer (some ⟨B, 0, none⟩)] w fun e w' => (∃ size a n cap l, e = .returned (.tuple #[.int .i64 size, .slice a n cap]) ∧ n ≤ 10 ∧ Strs l ∧ ResAt Ex.cs 2 52 w' w.heap.size a n cap l) ∧ Rd w' B ∧ w.grownBy w' (some B) := by
  have hlt := h.lt
  go_enter Try.func21, Try.ntmps21
  go_wp2_with fail
  refine (spec_belowN B 60 _ h (by omega) (by omega)).mono ?_
  rintro e w0 ⟨⟨y, rfl, hy⟩, hR0, hg0⟩
  have hs0 := hg0.size
  go_wp2_with fail
  refine (spec_belowN B 10 _ (hR0.below (by go_grown)) (by omega) (by omega)).mono ?_
  rintro e w1 ⟨⟨x, rfl, hx⟩, hR1, hg1⟩
  have b1 := (Blk.new w0 #[] 52).grown hg1 (by omega)
  have hG1 : w.grownBy w1 (some B) := grown_trans (grown_below hg0 (by go_grown)) hg1
  clear hg1 hg0 hR0
  go_wp2_with fail
  go_loopw [5, 6] (fun out ix wr => ∃ (k m : Nat) (a2 : Option Addr) (n2 cap2 : Nat) (lk : List Ex), ix = .int .i64 k ∧ k + m = x ∧ out = .slice a2 n2 cap2 ∧ n2 ≤ m ∧ Strs lk ∧ ResAt Ex.cs 2 52 wr w.heap.size a2 n2 cap2 lk ∧ Rd wr B ∧ w.grownBy wr (some B)) (fun _ ix _ => (intOf ix).toNat)
  case atStart => exact ⟨x, 0, _, 0, 0, [], rfl, by omega, rfl, Nat.le_refl _, (fun c hc => by cases hc), res_empty b1 hs0, hR1, hG1⟩
  case round =>
    obtain ⟨k, m, a2, n2, cap2, lk, rfl, hkm, rfl, hn2, hsm, R2, hR, hG⟩ := hrel
    by_cases hk : 0 < k
    · have hplace : ∀ (u : World) (d : ByteArray) (r : Option (List Ex × Int)), True := fun _ _ _ => trivial
      by_cases hn0 : n2 = 0
      · subst hn0
        go_wp2_with fail
        refine (spec_data B _ hR).mono ?_
        rintro e w5 ⟨⟨d, rfl, hd⟩, hR5, hg5⟩
        have R5 := R2.grown hg5 (fun ad had => by have := (R2.block ad had).1; omega)
        have hG5 := grown_trans hG hg5
        clear R2 hg5 hR hG
        obtain ⟨_, hcap, hc2⟩ := R5.ends
        go_wp2_with fail
        refine (spec_PlacedA (20 + (y : Int)) a2 0 cap2 lk d _ R5.sl hsm (by omega) hcap (by omega) R5.ends.1).mono ?_
        rintro e w6 ⟨hret, hB6⟩
        have R6 := R5.below hB6
        have hR6 := hR5.below hB6
        have hG6 := grown_below hG5 hB6
        have hz5 := hG5.size
        have hl6 := R5.sl.len
        clear hB6 hR5
        cases hpo : placedO (20 + (y : Int)) lk d with
        | none =>
          rw [hpo] at hret
          replace hret : e = .returned (.tuple #[.slice none 0 0, .int .i64 0, .bool false]) := hret
          subst hret
          clear hpo
          go_wp2
          go_roundw
          case rel => exact ⟨k - 1, m + 1, a2, 0, cap2, lk, by show Value.int IntKind.i64 _ = Value.int IntKind.i64 _; congr 1; omega, by omega, rfl, by omega, hsm, R6, hR6, hG6⟩
          case measure => simp [intOf]; omega
        | some q =>
          obtain ⟨L, xx⟩ := q
          rw [hpo] at hret
          obtain ⟨a7, n7, cap7, rfl, R7⟩ := hret
          have hs7 := strs_of_place hsm hd hpo
          have hl7 := (placed_facts hpo).2.2.2.1
          have hl8 := R7.sl.len
          clear hpo R6
          go_wp2
          go_roundw
          case rel => exact ⟨k - 1, m + 1, a7, n7, cap7, L, by show Value.int IntKind.i64 _ = Value.int IntKind.i64 _; congr 1; omega, by omega, rfl, by omega, hs7, R7.mono hz5, hR6, hG6⟩
          case measure => simp [intOf]; omega
      · have hn1 : (0 : Int) < n2 := by omega
        go_wp2_with fail
        refine (spec_once B 3 _ hR (by omega) (by omega)).mono ?_
        rintro e w2 ⟨⟨v, rfl⟩, hR2, hg2⟩
        have R3 := R2.grown hg2 (fun ad had => by have := (R2.block ad had).1; omega)
        have hG2 := grown_trans hG hg2
        clear R2 hg2 hR hG
        cases v
        · go_wp2_with fail
          refine (spec_data B _ hR2).mono ?_
          rintro e w5 ⟨⟨d, rfl, hd⟩, hR5, hg5⟩
          have R5 := R3.grown hg5 (fun ad had => by have := (R3.block ad had).1; omega)
          have hG5 := grown_trans hG2 hg5
          clear R3 hg5 hR2 hG2
          obtain ⟨_, hcap, hc2⟩ := R5.ends
          go_wp2_with fail
          refine (spec_PlacedA (20 + (y : Int)) a2 n2 cap2 lk d _ R5.sl hsm (by omega) hcap (by omega) R5.ends.1).mono ?_
          rintro e w6 ⟨hret, hB6⟩
          have R6 := R5.below hB6
          have hR6 := hR5.below hB6
          have hG6 := grown_below hG5 hB6
          have hz5 := hG5.size
          have hl6 := R5.sl.len
          clear hB6 hR5
          cases hpo : placedO (20 + (y : Int)) lk d with
          | none =>
            rw [hpo] at hret
            replace hret : e = .returned (.tuple #[.slice none 0 0, .int .i64 0, .bool false]) := hret
            subst hret
            clear hpo
            go_wp2
            go_roundw
            case rel => exact ⟨k - 1, m + 1, a2, n2, cap2, lk, by show Value.int IntKind.i64 _ = Value.int IntKind.i64 _; congr 1; omega, by omega, rfl, by omega, hsm, R6, hR6, hG6⟩
            case measure => simp [intOf]; omega
          | some q =>
            obtain ⟨L, xx⟩ := q
            rw [hpo] at hret
            obtain ⟨a7, n7, cap7, rfl, R7⟩ := hret
            have hs7 := strs_of_place hsm hd hpo
            have hl7 := (placed_facts hpo).2.2.2.1
            have hl8 := R7.sl.len
            clear hpo R6
            go_wp2
            go_roundw
            case rel => exact ⟨k - 1, m + 1, a7, n7, cap7, L, by show Value.int IntKind.i64 _ = Value.int IntKind.i64 _; congr 1; omega, by omega, rfl, by omega, hs7, R7.mono hz5, hR6, hG6⟩
            case measure => simp [intOf]; omega
        · go_wp2_with fail
          refine (spec_belowN B (n2 : Int) _ hR2 (by omega) (by omega)).mono ?_
          rintro e w3 ⟨⟨z, rfl, hz⟩, hR3, hg3⟩
          have R4 := R3.grown hg3 (fun ad had => by have := (R3.block ad had).1; omega)
          have hG3 := grown_trans hG2 hg3
          clear R3 hg3 hR2 hG2
          obtain ⟨b, o, p, rfl, hp, c0, c1⟩ := exs_at R4.sl (k := z) (by omega)
          have hz2 : (0 : Int) ≤ z := by omega
          obtain ⟨_, hcap, hc2⟩ := R4.ends
          go_wp2_with fail
          refine (spec_LiftedW (20 + (y : Int)) _ n2 cap2 lk p.a _ R4.sl hsm (by omega) hcap hc2).mono ?_
          rintro e w4 ⟨hret, hB4⟩
          have hR6 := hR3.below hB4
          have hG6 := grown_below hG3 hB4
          have hz5 := hG3.size
          have hl6 := R4.sl.len
          clear hB4 hR3 c0 c1 hp
          cases hpo : liftedO (20 + (y : Int)) lk p.a with
          | none =>
            rw [hpo] at hret
            replace hret : e = .returned (.tuple #[.slice none 0 0, .bool false]) := hret
            subst hret
            clear hpo
            go_wp2
            go_roundw
            case rel => exact ⟨k - 1, m + 1, none, 0, 0, [], by show Value.int IntKind.i64 _ = Value.int IntKind.i64 _; congr 1; omega, by omega, rfl, by omega, (fun c hc => by cases hc), res_nil, hR6, hG6⟩
            case measure => simp [intOf]; omega
          | some L =>
            rw [hpo] at hret
            obtain ⟨a7, n7, cap7, rfl, R7⟩ := hret
            have hs7 := strs_of_lift hsm hpo
            have hl7 := (lifted_facts hpo).2.2.1
            have hl8 := R7.sl.len
            clear hpo
            go_wp2
            go_roundw
            case rel => exact ⟨k - 1, m + 1, a7, n7, cap7, L, by show Value.int IntKind.i64 _ = Value.int IntKind.i64 _; congr 1; omega, by omega, rfl, by omega, hs7, R7.mono hz5, hR6, hG6⟩
            case measure => simp [intOf]; omega
    · obtain rfl : k = 0 := by omega
      go_wp2_with fail
      refine (spec_belowN B 30 _ hR (by omega) (by omega)).mono ?_
      rintro e w2 ⟨⟨v, rfl, hv⟩, hR2, hg2⟩
      have R3 := R2.grown hg2 (fun ad had => by have := (R2.block ad had).1; omega)
      have hG2 := grown_trans hG hg2
      clear R2 hg2 hR hG
      by_cases h28 : (v : Int) = 28
      · go_wp2_with fail
        refine (spec_off B 1 60 _ hR2 (by omega) (by omega) (by omega)).mono ?_
        rintro e w3 ⟨⟨yy, rfl, hy0, hy1⟩, hR3, hg3⟩
        have R4 := R3.grown hg3 (fun ad had => by have := (R3.block ad had).1; omega)
        have hG3 := grown_trans hG2 hg3
        clear R3 hg3
        go_wp2
        go_returns
        exact ⟨⟨_, a2, n2, cap2, lk, rfl, by omega, hsm, R4⟩, hR3, hG3⟩
      · by_cases h29 : (v : Int) = 29
        · cases lk with
          | nil =>
            obtain rfl : n2 = 0 := by have := R3.sl.len; simpa using this.symm
            go_wp2
            go_returns
            exact ⟨⟨_, a2, 0, cap2, [], rfl, by omega, hsm, R3⟩, hR2, hG2⟩
          | cons c r =>
            have hn1 : (0 : Int) < n2 := by have := R3.sl.len; simp at this; omega
            go_wp2_with fail
            refine (spec_off B 1 9 _ hR2 (by omega) (by omega) (by omega)).mono ?_
            rintro e w3 ⟨⟨yy, rfl, hy0, hy1⟩, hR3, hg3⟩
            have R4 := R3.grown hg3 (fun ad had => by have := (R3.block ad had).1; omega)
            have hG3 := grown_trans hG2 hg3
            clear R3 hg3
            rcases R4.own with ⟨_, e0, _⟩ | ⟨b, rfl, hb0, hcap, _, c0, hc, hcs, _⟩
            · omega
            · have R5 := res_set0 (x' := (⟨yy, c.d⟩ : Ex)) ecs_len (by omega) R4 0 (by omega) (.int .i64 yy) (fun j => by rcases j with _ | _ | j <;> simp [Ex.cs])
              have hg5 := grown_set (grown_refl w3 b) 0 (.int .i64 yy)
              have hR5 := hR3.grown hg5 (by omega)
              have hG5 : w.grownBy (w3.setCell ⟨b, 0, none⟩ (.int .i64 yy)) (some B) := grown_setB hG3 hb0
              have f3 := hc.frozen 0
              obtain ⟨u, hu⟩ := hc.has (i := 0) (by rw [hcs]; omega)
              have hdr5 : Strs (⟨yy, c.d⟩ :: r) := by
                intro q hq
                simp at hq
                rcases hq with rfl | hq
                · exact hsm c (by simp)
                · exact hsm q (by simp [hq])
              go_wp2
              go_returns
              exact ⟨⟨_, _, n2, cap2, _, rfl, by omega, hdr5, R5⟩, hR5, hG5⟩
        · go_wp2
          go_returns
          exact ⟨⟨_, a2, n2, cap2, lk, rfl, by omega, hsm, R3⟩, hR2, hG2⟩
end Go.Proofs.Ytckljlgojhloiaa
namespace Go.Proofs.Ytckljlgojhloiaa
open Go.RowKit Go.BigFrame

theorem neqE (p : Ex) (w : World) : (binOp .neq 52 (.agg #[.int .i64 p.a, .string p.d]) (.agg #[.int .i64 p.a, .string p.d])).run Try.prog w = .ok (.bool false) w := by
  have u2 := Try.underlying2
  have u9 := Try.underlying9
  have a2 := Try.isAgg2
  have a9 := Try.isAgg9
  have z2 := Try.sizeOf2
  have z9 := Try.sizeOf9
  have hS : Try.prog.underlying 52 = some (.struct (Try.prog.fieldsOf 52)) := by kernel_rfl
  have hp : Try.prog.stoodInHeld 52 = false := by kernel_rfl
  rw [run_neq_struct, show (10000 : Nat) = 9999 + 1 from rfl, run_equalIn_agg w 9999 52 _ _ hS hp]
  simp only [Program.fieldsOf, Try.underlying52]
  clear hS hp
  go_simp

set_option maxHeartbeats 1000000 in
theorem laws_sameSpace (a : Option Addr) (n cap : Nat) (l : List Ex) (a' : Option Addr) (n' cap' : Nat) (w : World) (h : ExsAt w a n l) (h' : ExsAt w a' n' l) (hn : n ≤ 4194304) :
    Calls Try.prog 10 #[.slice a n cap, .slice a' n' cap'] w fun e w' => e = .returned (.bool true) ∧ Below w.heap.size w w' := by
  obtain rfl : n = n' := by rw [← h.len, ← h'.len]
  have hbn : ((n : Int) != (n : Int)) = false := by simp
  go_enter Try.func10, Try.ntmps10
  go_wp2_with fail
  go_loopw [5] (fun ix wr => ∃ (k : Nat), k ≤ n ∧ ix = .int .i64 k ∧ Below w.heap.size w wr) (fun ix _ => n - (intOf ix).toNat)
  case atStart => exact ⟨0, Nat.zero_le _, rfl, Below.refl _ _⟩
  case round =>
    obtain ⟨k, hk, rfl, hB⟩ := hrel
    by_cases hlt : k < n
    · obtain ⟨b, o, p, rfl, hp, c0, c1⟩ := exs_at (h.below hB) hlt
      obtain ⟨b', o', q, rfl, hq, d0, d1⟩ := exs_at (h'.below hB) hlt
      rw [hp] at hq
      obtain rfl := Option.some.inj hq
      have hk1 : (k : Int) < n := by omega
      have hk2 : (0 : Int) ≤ k := by omega
      have hne := neqE p
      clear hp hq
      go_wp2_with fail
      go_quiet (fail)
      have hB2 := below_drewN hB nq
      go_wp2
      go_roundw
      case rel => exact ⟨k + 1, by omega, by go_num, hB2⟩
      case measure => simp [intOf]; omega
    · obtain rfl : k = n := by omega
      go_wp2
      go_returns
      exact ⟨rfl, hB⟩
end Go.Proofs.Ytckljlgojhloiaa
namespace Go.Proofs.Ytckljlgojhloiaa
open Go.RowKit Go.BigFrame

set_option maxHeartbeats 1000000 in
theorem laws_sameInts (a : Option Addr) (n cap : Nat) (l : List Int) (a' : Option Addr) (n' cap' : Nat) (w : World) (h : IntsAt w a n l) (h' : IntsAt w a' n' l) (hn : n ≤ 4194304) :
    Calls Try.prog 11 #[.slice a n cap, .slice a' n' cap'] w fun e w' => e = .returned (.bool true) ∧ Below w.heap.size w w' := by
  obtain rfl : n = n' := by rw [← h.len, ← h'.len]
  have hbn : ((n : Int) != (n : Int)) = false := by simp
  go_enter Try.func11, Try.ntmps11
  go_wp2_with fail
  go_loopw [5] (fun ix wr => ∃ (k : Nat), k ≤ n ∧ ix = .int .i64 k ∧ Below w.heap.size w wr) (fun ix _ => n - (intOf ix).toNat)
  case atStart => exact ⟨0, Nat.zero_le _, rfl, Below.refl _ _⟩
  case round =>
    obtain ⟨k, hk, rfl, hB⟩ := hrel
    by_cases hlt : k < n
    · obtain ⟨b, o, p, rfl, hp, c0⟩ := ints_at' (h.below hB) hlt
      obtain ⟨b', o', q, rfl, hq, d0⟩ := ints_at' (h'.below hB) hlt
      rw [hp] at hq
      obtain rfl := Option.some.inj hq
      have hk1 : (k : Int) < n := by omega
      have hk2 : (0 : Int) ≤ k := by omega
      have hne : (p != p) = false := by simp
      clear hp hq
      go_wp2_with fail
      go_quiet (fail)
      have hB2 := below_drewN hB nq
      go_wp2
      go_roundw
      case rel => exact ⟨k + 1, by omega, by go_num, hB2⟩
      case measure => simp [intOf]; omega
    · obtain rfl : k = n := by omega
      go_wp2
      go_returns
      exact ⟨rfl, hB⟩

set_option maxHeartbeats 1000000 in
set_option maxRecDepth 100000 in
theorem spec_DrawLifted (a : Option Addr) (n cap : Nat) (w : World) (h : CodeAt w a n) (hn : n ≤ 1048576) :
    Calls Try.prog 17 #[.slice a n cap] w fun e w' => (∃ size a1 n1 cap1 l1 addr, e = .returned (.tuple #[.int .i64 size, .slice a1 n1 cap1, .int .i64 addr]) ∧ n1 ≤ 10 ∧ Strs l1 ∧ ResAt Ex.cs 2 52 w' w.heap.size a1 n1 cap1 l1) ∧ Below w.heap.size w w' := by
  go_enter Try.func17, Try.ntmps17
  go_wp2_with fail
  refine (spec_l1Open a n cap _ h hn).mono ?_
  rintro e w1 ⟨rfl, hR1, hB1⟩
  have hlt := hR1.lt
  have hz1 := hB1.size
  go_wp2_with fail
  refine (spec_space w.heap.size _ hR1).mono ?_
  rintro e w2 ⟨⟨size, a1, n1, cap1, l1, rfl, hn1, hd1, R1⟩, hR2, hg2⟩
  have hB2 := below_grown hB1 hg2 (Nat.le_refl _)
  clear hg2
  by_cases hn0 : n1 = 0
  · subst hn0
    go_wp2_with fail
    refine (spec_off w.heap.size 1 9 _ hR2 (by omega) (by omega) (by omega)).mono ?_
    rintro e w3 ⟨⟨y, rfl, hy0, hy1⟩, hR3, hg3⟩
    have R2 := R1.grown hg3 (fun ad had => by have := (R1.block ad had).1; omega)
    have hB3 := below_grown hB2 hg3 (Nat.le_refl _)
    go_wp2
    go_returns
    exact ⟨⟨size, a1, 0, cap1, l1, y, rfl, by omega, hd1, R2.mono hz1⟩, hB3⟩
  · have hn2 : (0 : Int) < n1 := by omega
    go_wp2_with fail
    refine (spec_once w.heap.size 4 _ hR2 (by omega) (by omega)).mono ?_
    rintro e w3 ⟨⟨v, rfl⟩, hR3, hg3⟩
    have R2 := R1.grown hg3 (fun ad had => by have := (R1.block ad had).1; omega)
    have hB3 := below_grown hB2 hg3 (Nat.le_refl _)
    clear hg3 R1 hR2 hB2
    cases v
    · obtain ⟨b, o, p0, rfl, _, _, _⟩ := exs_at R2.sl (k := 0) (by omega)
      have hRd := hR3.below ((Below.refl w3.heap.size w3).drew)
      have R2d := R2.below ((Below.refl w3.heap.size w3).drew)
      have hB3d := hB3.drew
      clear R2 hR3 hB3
      go_wp2_with fail
      go_region_with (go_at_call 23; refine (spec_belowN w.heap.size (n1 : Int) _ hRd (by omega) (by omega)).mono ?_; rintro e w4 ⟨⟨z, rfl, hz⟩, hR4, hg4⟩; have R3 := R2d.grown hg4 (fun ad had => (by have := (R2d.block ad had).1; omega)); have hB4 := below_grown hB3d hg4 (Nat.le_refl _); obtain ⟨b', o', p, hbo, hp, c0, c1⟩ := exs_at R3.sl (k := z) (by omega); obtain ⟨rfl, rfl⟩ : b = b' ∧ o = o' := (by simpa using hbo); have hz2 : (0 : Int) ≤ z := (by omega))
      all_goals go_wp2
      all_goals go_returns
      all_goals exact ⟨⟨size, _, n1, cap1, l1, p.a, rfl, by omega, hd1, R3.mono hz1⟩, hB4⟩
    · go_wp2_with fail
      refine (spec_off w.heap.size 1 9 _ hR3 (by omega) (by omega) (by omega)).mono ?_
      rintro e w4 ⟨⟨y, rfl, hy0, hy1⟩, hR4, hg4⟩
      have R3 := R2.grown hg4 (fun ad had => by have := (R2.block ad had).1; omega)
      have hB4 := below_grown hB3 hg4 (Nat.le_refl _)
      go_wp2
      go_returns
      exact ⟨⟨size, a1, n1, cap1, l1, y, rfl, by omega, hd1, R3.mono hz1⟩, hB4⟩

theorem lit3 {y : Nat} (hy : y < 3) : ∃ s : ByteArray, (#[.string ⟨#[]⟩, .string ⟨#[10]⟩, .string ⟨#[97, 98, 99, 100, 101, 102, 103, 104, 105, 106, 107, 108, 109, 110, 111, 112, 113, 114, 115, 116, 117]⟩] : Array Value)[y]? = some (.string s) ∧ s.size ≤ 21 := by
  rcases (show y = 0 ∨ y = 1 ∨ y = 2 by omega) with rfl | rfl | rfl <;> exact ⟨_, rfl, by decide⟩

theorem lit3v {s : ByteArray} {y : Nat} (hy : y < 3) (hs : (#[.string ⟨#[]⟩, .string ⟨#[10]⟩, .string ⟨#[97, 98, 99, 100, 101, 102, 103, 104, 105, 106, 107, 108, 109, 110, 111, 112, 113, 114, 115, 116, 117]⟩] : Array Value)[y]? = some (.string s)) : ([.string ⟨#[]⟩, .string ⟨#[10]⟩, .string ⟨#[97, 98, 99, 100, 101, 102, 103, 104, 105, 106, 107, 108, 109, 110, 111, 112, 113, 114, 115, 116, 117]⟩] : List Value)[y]'(by simpa using hy) = .string s := by
  rcases (show y = 0 ∨ y = 1 ∨ y = 2 by omega) with rfl | rfl | rfl <;> simpa using hs

theorem lit_cell (wr : World) (lit : Array Value) (t : TypeId) (y : Nat) (v : Value) (hs : lit[y]? = some v) : (wr.alloc (.cells lit t)).drew.cell? ⟨wr.heap.size, y, none⟩ = some v := by
  have : (wr.alloc (.cells lit t)).cell? ⟨wr.heap.size, y, none⟩ = some v := by rw [World.cell?_alloc_new]; exact hs
  exact this

theorem below_litE {w w3 u : World} {Bq : Nat} {a3 : Option Addr} {n3 cap3 : Nat} {l3 : List Ex} (hR : Rd w3 w.heap.size) (hu : Below w3.heap.size w3 u) (hB : Below w.heap.size w w3) (hq : w.heap.size < Bq) (R3 : ResAt Ex.cs 2 52 w3 Bq a3 n3 cap3 l3) :
    Calls Try.prog 23 #[.pointer (some ⟨w.heap.size, 0, none⟩), .int .i64 3] u fun e w5 => ∃ y : Nat, e = .returned (.int .i64 y) ∧ y < 3 ∧ Below w.heap.size w w5 ∧ ResAt Ex.cs 2 52 w5 Bq a3 n3 cap3 l3 ∧ u.heap.size ≤ w5.heap.size ∧ (∀ bb i v, u.cell? ⟨bb, i, none⟩ = some v → bb ≠ w.heap.size → w5.cell? ⟨bb, i, none⟩ = some v) := by
  refine (spec_belowN w.heap.size 3 u (hR.below hu) (by omega) (by omega)).mono ?_
  rintro e w5 ⟨⟨y, rfl, hy⟩, hR5, hg5⟩
  exact ⟨y, rfl, by omega, below_grown (chain hB hu) hg5 (Nat.le_refl _), (R3.below hu).grown hg5 (fun ad had => by have := (R3.block ad had).1; omega), hg5.size, fun bb i v hv hbb => hg5.cell hv (by simpa using hbb)⟩

set_option maxHeartbeats 1000000 in
set_option maxRecDepth 100000 in
theorem spec_DrawPlaced (a : Option Addr) (n cap : Nat) (w : World) (h : CodeAt w a n) (hn : n ≤ 1048576) :
    Calls Try.prog 6 #[.slice a n cap] w fun e w' => (∃ size a1 n1 cap1 l1 d, e = .returned (.tuple #[.int .i64 size, .slice a1 n1 cap1, .string d]) ∧ n1 ≤ 10 ∧ Strs l1 ∧ ResAt Ex.cs 2 52 w' w.heap.size a1 n1 cap1 l1 ∧ d.size ≤ 21) ∧ Below w.heap.size w w' := by
  go_enter Try.func6, Try.ntmps6
  go_wp2_with fail
  refine (spec_l1Open a n cap _ h hn).mono ?_
  rintro e w1 ⟨rfl, hR1, hB1⟩
  have hlt := hR1.lt
  have hz1 := hB1.size
  go_wp2_with fail
  refine (spec_space w.heap.size _ hR1).mono ?_
  rintro e w2 ⟨⟨size, a1, n1, cap1, l1, rfl, hn1, hd1, R1⟩, hR2, hg2⟩
  have hB2 := below_grown hB1 hg2 (Nat.le_refl _)
  clear hg2
  go_wp2_with fail
  refine (spec_once w.heap.size 12 _ hR2 (by omega) (by omega)).mono ?_
  rintro e w3 ⟨⟨v, rfl⟩, hR3, hg3⟩
  have R2 := R1.grown hg3 (fun ad had => by have := (R1.block ad had).1; omega)
  have hB3 := below_grown hB2 hg3 (Nat.le_refl _)
  clear hg3 R1 hR2 hB2
  cases v
  · go_wp2_with fail
    refine (spec_data w.heap.size _ hR3).mono ?_
    rintro e w4 ⟨⟨d, rfl, hd⟩, hR4, hg4⟩
    have R3 := R2.grown hg4 (fun ad had => by have := (R2.block ad had).1; omega)
    have hB4 := below_grown hB3 hg4 (Nat.le_refl _)
    go_wp2
    go_returns
    exact ⟨⟨size, a1, n1, cap1, l1, d, rfl, by omega, hd1, R3.mono hz1, by omega⟩, hB4⟩
  · have hne2 : w3.heap.size ≠ w.heap.size := by have := hR3.lt; omega
    go_wp2_with fail
    go_region_law (go_wp2_with fail; refine (below_litE hR3 (by go_grown) hB3 hlt R2).mono ?_; rintro e w5 ⟨y, rfl, hy, hB5, R5, hs5, hkeep⟩; obtain ⟨s, hs, hss⟩ := lit3 hy; have hy4 : (y : Int) < 3 := (by omega); (first | (have zl := hkeep w3.heap.size y (.string s) (lit_cell _ _ _ y _ hs) hne2; clear hs hkeep) | (have hv := lit3v hy hs; clear hs hkeep)); dsimp only)
    all_goals go_wp2
    all_goals go_returns
    all_goals first | exact ⟨⟨size, a1, n1, cap1, l1, s, rfl, by omega, hd1, R5.mono hz1, hss⟩, hB5⟩ | exact ⟨⟨size, a1, n1, cap1, l1, s, rfl, by omega, hd1, (R5.below (by go_grown)).mono hz1, hss⟩, chain hB5 (by go_grown)⟩
end Go.Proofs.Ytckljlgojhloiaa
