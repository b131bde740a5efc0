/- RefsOk, of the program and of the model. -/
import Derived.Test.YtbmkedickkpjjaaProg
import Derived.Test.YtbmkedickkpjjaaNe
namespace Go.Proofs.Ytbmkedickkpjjaa
open Go.RowKit Go.BigFrame

def refB (c : Ct) : Bool := ownerOkB c.o && decide (1 ≤ c.n) && decide (c.n ≤ 1000)
def rgo : Option Ct → List Ct → Bool
  | _, [] => true
  | none, c :: r => refB c && rgo (some c) r
  | some q, c :: r => refB c && owLt q.o c.o && rgo (some c) r
def refsOkB (l : List Ct) : Bool := decide (l.length ≤ 200) && rgo none l
/-- The count ahead of the k-th. -/
def aheadC (l : List Ct) (k : Nat) : Option Ct := if k = 0 then none else l[k - 1]?
theorem aheadC_zero (l : List Ct) : aheadC l 0 = none := rfl
theorem aheadC_succ (l : List Ct) (k : Nat) : aheadC l (k + 1) = l[k]? := by simp [aheadC]

set_option maxHeartbeats 2000000 in
theorem impl_RefsOk (a : Option Addr) (n cap : Nat) (l : List Ct) (w : World) (h : CtsAt w a n l) (hstr : StrC l) (hn : n ≤ 4194304) :
    Calls Try.prog 73 #[.slice a n cap] w fun e w' => e = .returned (.bool (refsOkB l)) ∧ Below w.heap.size w w' := by
  have hlen : Hid (l.length = n) := h.len
  by_cases h2 : n ≤ 200
  · have hfin : Hid (refsOkB l = rgo (aheadC l 0) (l.drop 0)) := by show _ = _; simp [refsOkB, hlen.out, h2, aheadC]
    go_enter Try.func73, Try.ntmps73
    go_wp2_with fail
    go_loopw [10] (fun ix wr => ∃ (k : Nat), k ≤ n ∧ ix = .int .i64 k ∧ Hid (refsOkB l = rgo (aheadC l k) (l.drop k)) ∧ Below w.heap.size w wr) (fun ix _ => n - (intOf ix).toNat)
    case atStart => exact ⟨0, Nat.zero_le _, rfl, hfin, Below.refl _ _⟩
    case round =>
      obtain ⟨k, hk, rfl, hI, hB⟩ := hrel
      by_cases hlt : k < n
      · obtain ⟨b, o, p, rfl, hp, c0, c1, c2, c3⟩ := cts_at (h.below hB) hlt
        have hd : Hid (l.drop k = p :: l.drop (k + 1)) := drop_at hp
        have hq : Hid (l[k]? = some p) := hp
        have hsz := hstr.at hp
        clear hp
        have hwr := hB.size
        cases hdo : ownerOkB p.o
        · go_wp2_with fail
          refine (impl_ownerOk p.o _ hsz).mono ?_
          rintro e w1 ⟨rfl, hB1⟩
          obtain ⟨x0, x1, x2, x3, hB1', hs1⟩ := box4 hB1
          rw [hdo]
          go_wp2
          go_returns
          go_light
          refine ⟨ret_bool ?_, chain hB hB1'⟩
          rw [hI.out, hd.out]; cases aheadC l k <;> simp [rgo, refB, hdo]
        · by_cases hok : 1 ≤ p.n ∧ p.n ≤ 1000
          · obtain ⟨ha1, ha2⟩ := hok
            have hrb : Hid (refB p = true) := by show _ = _; simp [refB, hdo, ha1, ha2]
            rcases k with _ | j
            · simp only [Nat.zero_mul, Nat.add_zero] at c0 c1 c2 c3
              go_wp2_with fail
              refine (impl_ownerOk p.o _ hsz).mono ?_
              rintro e w1 ⟨rfl, hB1⟩
              obtain ⟨x0, x1, x2, x3, hB1', hs1⟩ := box4 hB1
              rw [hdo]
              go_wp2_with fail
              go_quiet (fail)
              go_wp2
              go_roundw
              case rel => exact ⟨1, by omega, by go_num, by show _ = _; rw [hI.out, hd.out, aheadC_zero, aheadC_succ, hq.out]; simp [rgo, hrb.out], chain hB (chain hB1' (drewNB _ _))⟩
              case measure => simp [intOf]; omega
            · obtain ⟨b', o', q, hbo, hq', d0, d1, d2, d3⟩ := cts_at (h.below hB) (k := j) (by omega)
              obtain ⟨rfl, rfl⟩ : b = b' ∧ o = o' := by simpa using hbo
              have hah : Hid (aheadC l (j + 1) = some q) := by show _ = _; rw [aheadC_succ]; exact hq'
              clear hq' hbo
              cases hgo : owLt q.o p.o
              all_goals
                go_wp2_with fail
                refine (impl_ownerOk p.o _ hsz).mono ?_
                rintro e w1 ⟨rfl, hB1⟩
                obtain ⟨x0, x1, x2, x3, hB1', hs1⟩ := box4 hB1
                rw [hdo]
                replace d0 := bcell hB1' d0
                replace d1 := bcell hB1' d1
                replace d2 := bcell hB1' d2
                have hj : (0 : Int) < (j : Int) + 1 := by omega
                have hj1 : (j : Int) < n := by omega
                have hj2 : (0 : Int) ≤ j := by omega
                have hw1 : IntKind.i64.wrap ((j : Int) + 1 - 1) = (j : Int) := by rw [IntKind.wrap_i64]; omega
                have hw2 : IntKind.i64.wrap (j : Int) = (j : Int) := by rw [IntKind.wrap_i64]; omega
                clear c0 c1 c2 c3
                go_wp2_with fail
                have g0 := gcell x0
                have g1 := gcell x1
                have g2 := gcell x2
                have g3 := gcell d0
                have g4 := gcell d1
                have g5 := gcell d2
                have hne := grw_ne w1
                refine wp_region_grow (by kernel_rfl) (by kernel_rfl) ?_
                repeat (go_big_quiet_step (first | (go_at_call 69; have qq := impl_OwnerAhead q.o p.o; rw [hgo] at qq; exact grow_of (qq _))))
                refine wpQuiet_nil ?_
                intro w2 hx
                have hB2 := grw_out hx
                clear hx
                go_wp2
              · go_returns
                go_light
                refine ⟨ret_bool ?_, chain hB (chain hB1' hB2)⟩
                rw [hI.out, hd.out, hah.out]; simp [rgo, hgo]
              · go_roundw
                case rel => exact ⟨j + 2, by omega, by go_num, by show _ = _; rw [hI.out, hd.out, hah.out, aheadC_succ, hq.out]; simp [rgo, hgo, hrb.out], chain hB (chain hB1' hB2)⟩
                case measure => simp [intOf]; omega
          · have hz : Hid (refB p = false) := by show _ = _; simp [refB]; omega
            go_wp2_with fail
            refine (impl_ownerOk p.o _ hsz).mono ?_
            rintro e w1 ⟨rfl, hB1⟩
            obtain ⟨x0, x1, x2, x3, hB1', hs1⟩ := box4 hB1
            rw [hdo]
            go_wp2
            all_goals go_returns
            all_goals go_light
            all_goals refine ⟨ret_bool ?_, chain hB hB1'⟩
            all_goals (rw [hI.out, hd.out]; cases aheadC l k <;> simp [rgo, hz.out])
      · obtain rfl : k = n := by omega
        go_wp2
        go_returns
        go_light
        refine ⟨ret_bool ?_, hB⟩
        rw [hI.out, List.drop_of_length_le (Nat.le_of_eq hlen.out)]; cases aheadC l k <;> rfl
  · have hfin : Hid (refsOkB l = false) := by show _ = _; have := hlen.out; simp [refsOkB]; omega
    go_enter Try.func73, Try.ntmps73
    go_wp2
    go_returns
    go_light
    exact ⟨ret_bool hfin.out.symm, Below.refl _ _⟩

set_option maxHeartbeats 2000000 in
theorem spec_RefsOk (a : Option Addr) (n cap : Nat) (l : List Ct) (w : World) (h : CtsAt w a n l) (hstr : StrC l) (hn : n ≤ 4194304) :
    Calls Try.prog 98 #[.slice a n cap] w fun e w' => e = .returned (.bool (refsOkB l)) ∧ Below w.heap.size w w' := by
  have hlen : Hid (l.length = n) := h.len
  by_cases h2 : n ≤ 200
  · have hfin : Hid (refsOkB l = rgo (aheadC l 0) (l.drop 0)) := by show _ = _; simp [refsOkB, hlen.out, h2, aheadC]
    go_enter Try.func98, Try.ntmps98
    go_wp2_with fail
    go_loopw [3] (fun ix wr => ∃ (k : Nat), k ≤ n ∧ ix = .int .i64 k ∧ Hid (refsOkB l = rgo (aheadC l k) (l.drop k)) ∧ Below w.heap.size w wr) (fun ix _ => n - (intOf ix).toNat)
    case atStart => exact ⟨0, Nat.zero_le _, rfl, hfin, Below.refl _ _⟩
    case round =>
      obtain ⟨k, hk, rfl, hI, hB⟩ := hrel
      by_cases hlt : k < n
      · obtain ⟨b, o, p, rfl, hp, c0, c1, c2, c3⟩ := cts_at (h.below hB) hlt
        have hd : Hid (l.drop k = p :: l.drop (k + 1)) := drop_at hp
        have hq : Hid (l[k]? = some p) := hp
        have hsz := hstr.at hp
        clear hp
        have hwr := hB.size
        have hk1 : (k : Int) < n := by omega
        have hk2 : (0 : Int) ≤ k := by omega
        cases hdo : ownerOkB p.o
        · go_wp2_with fail
          have g0 := gcell c0
          have g1 := gcell c1
          have g2 := gcell c2
          have g3 := gcell c3
          have hne := grw_ne wr
          refine wp_region_grow (by kernel_rfl) (by kernel_rfl) ?_
          repeat (go_big_quiet_step (first | (go_at_call 140; have qq := fun w => spec_l3Owner p.o w hsz; rw [hdo] at qq; exact grow_of (qq _))))
          refine wpQuiet_nil ?_
          intro w2 hx
          have hB2 := grw_out hx
          clear hx
          go_wp2
          go_returns
          go_light
          refine ⟨ret_bool ?_, chain hB hB2⟩
          rw [hI.out, hd.out]; cases aheadC l k <;> simp [rgo, refB, hdo]
        · cases hii : (decide (1 ≤ p.n) && decide (p.n ≤ 1000))
          · have hz : Hid (refB p = false) := by show _ = _; simp only [refB, hdo, Bool.true_and, hii]
            go_wp2_with fail
            have g0 := gcell c0
            have g1 := gcell c1
            have g2 := gcell c2
            have g3 := gcell c3
            have hne := grw_ne wr
            refine wp_region_grow (by kernel_rfl) (by kernel_rfl) ?_
            repeat (go_big_quiet_step (first | (go_at_call 140; have qq := fun w => spec_l3Owner p.o w hsz; rw [hdo] at qq; exact grow_of (qq _)) | (go_at_call 118; have qq := spec_l1In p.n 1 1000; rw [hii] at qq; exact grow_of_same (qq _))))
            refine wpQuiet_nil ?_
            intro w2 hx
            have hB2 := grw_out hx
            clear hx
            go_wp2
            go_returns
            go_light
            refine ⟨ret_bool ?_, chain hB hB2⟩
            rw [hI.out, hd.out]; cases aheadC l k <;> simp [rgo, hz.out]
          · have hrb : Hid (refB p = true) := by show _ = _; simp only [refB, hdo, Bool.true_and, hii]
            rcases k with _ | j
            · simp only [Nat.zero_mul, Nat.add_zero] at c0 c1 c2 c3
              go_wp2_with fail
              have g0 := gcell c0
              have g1 := gcell c1
              have g2 := gcell c2
              have g3 := gcell c3
              have hne := grw_ne wr
              refine wp_region_grow (by kernel_rfl) (by kernel_rfl) ?_
              repeat (go_big_quiet_step (first | (go_at_call 140; have qq := fun w => spec_l3Owner p.o w hsz; rw [hdo] at qq; exact grow_of (qq _)) | (go_at_call 118; have qq := spec_l1In p.n 1 1000; rw [hii] at qq; exact grow_of_same (qq _))))
              refine wpQuiet_nil ?_
              intro w2 hx
              have hB2 := grw_out hx
              clear hx
              go_wp2
              go_roundw
              case rel => exact ⟨1, by omega, by go_num, by show _ = _; rw [hI.out, hd.out, aheadC_zero, aheadC_succ, hq.out]; simp [rgo, hrb.out], chain hB hB2⟩
              case measure => simp [intOf]; omega
            · obtain ⟨b', o', q, hbo, hq', d0, d1, d2, d3⟩ := cts_at (h.below hB) (k := j) (by omega)
              obtain ⟨rfl, rfl⟩ : b = b' ∧ o = o' := by simpa using hbo
              have hah : Hid (aheadC l (j + 1) = some q) := by show _ = _; rw [aheadC_succ]; exact hq'
              clear hq' hbo d3
              cases hgo : owLt q.o p.o
              all_goals
                go_wp2_with fail
                have g0 := gcell c0
                have g1 := gcell c1
                have g2 := gcell c2
                have g3 := gcell c3
                have g4 := gcell d0
                have g5 := gcell d1
                have g6 := gcell d2
                have hne := grw_ne wr
                refine wp_region_grow (by kernel_rfl) (by kernel_rfl) ?_
                repeat (go_big_quiet_step (first | (go_at_call 140; have qq := fun w => spec_l3Owner p.o w hsz; rw [hdo] at qq; exact grow_of (qq _)) | (go_at_call 118; have qq := spec_l1In p.n 1 1000; rw [hii] at qq; exact grow_of_same (qq _)) | (go_at_call 75; have qq := spec_OwnerAhead q.o p.o; rw [hgo] at qq; exact grow_of (qq _))))
                refine wpQuiet_nil ?_
                intro w2 hx
                have hB2 := grw_out hx
                clear hx
                go_wp2
              · go_returns
                go_light
                refine ⟨ret_bool ?_, chain hB hB2⟩
                rw [hI.out, hd.out, hah.out]; simp [rgo, hgo]
              · go_roundw
                case rel => exact ⟨j + 2, by omega, by go_num, by show _ = _; rw [hI.out, hd.out, hah.out, aheadC_succ, hq.out]; simp [rgo, hgo, hrb.out], chain hB hB2⟩
                case measure => simp [intOf]; omega
      · obtain rfl : k = n := by omega
        go_wp2
        go_returns
        go_light
        refine ⟨ret_bool ?_, hB⟩
        rw [hI.out, List.drop_of_length_le (Nat.le_of_eq hlen.out)]; cases aheadC l k <;> rfl
  · have hfin : Hid (refsOkB l = false) := by show _ = _; have := hlen.out; simp [refsOkB]; omega
    go_enter Try.func98, Try.ntmps98
    go_wp2
    go_returns
    go_light
    exact ⟨ret_bool hfin.out.symm, Below.refl _ _⟩
end Go.Proofs.Ytbmkedickkpjjaa
