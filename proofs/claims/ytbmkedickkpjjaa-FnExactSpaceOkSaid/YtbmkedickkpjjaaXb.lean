/- The model's SpaceOk; the laws' sizes, copies and comparisons of lists of extents. -/
import Derived.Test.YtbmkedickkpjjaaProg
import Derived.Test.YtbmkedickkpjjaaXa
namespace Go.Proofs.Ytbmkedickkpjjaa
open Go.RowKit Go.BigFrame

theorem dataOkB_eq (d : ByteArray) : dataOkB d = (decide (1 ≤ d.size) && (plainB d && decide (d.size ≤ 20))) := by
  unfold dataOkB; cases plainB d <;> cases decide (1 ≤ d.size) <;> cases decide (d.size ≤ 20) <;> rfl

set_option maxHeartbeats 2000000 in
theorem spec_SpaceOk (size : Int) (a : Option Addr) (n cap : Nat) (l : List Ex) (w : World) (h : ExsAt w a n l) (hstr : Strs l) (hn : n ≤ 4194304) :
    Calls Try.prog 39 #[.int .i64 size, .slice a n cap] w fun e w' => e = .returned (.bool (spaceOkB size l)) ∧ w' = w := by
  have hlen : Hid (l.length = n) := h.len
  by_cases h0 : 1 ≤ size ∧ size ≤ 400 ∧ n ≤ 60
  · have hfin : Hid (spaceOkB size l = xgo size 1 (l.drop 0)) := by show _ = _; simp [spaceOkB, hlen.out, h0]
    obtain ⟨h1, h400, h60⟩ := h0
    have hin : (decide (1 ≤ size) && decide (size ≤ 400)) = true := by simp [h1, h400]
    go_enter Try.func39, Try.ntmps39
    go_wp2_with fail
    refine (spec_l1In _ _ _ _).mono ?_
    rintro e w1 ⟨rfl, rfl⟩
    rw [hin]
    go_wp2_with fail
    go_loop [5, 6] (fun nx ix => ∃ (k : Nat) (next : Int), k ≤ n ∧ ix = .int .i64 k ∧ nx = .int .i64 next ∧ 1 ≤ next ∧ next ≤ 421 ∧ Hid (spaceOkB size l = xgo size next (l.drop k))) (fun _ ix => n - (intOf ix).toNat)
    case atStart => exact ⟨0, 1, Nat.zero_le _, rfl, rfl, by omega, by omega, hfin⟩
    case round =>
      obtain ⟨k, next, hk, rfl, rfl, hx1, hx2, hI⟩ := hrel
      by_cases hlt : k < n
      · obtain ⟨b, o, p, rfl, hp, c0, c1⟩ := exs_at h hlt
        have hd : Hid (l.drop k = p :: l.drop (k + 1)) := drop_at hp
        have hsz := hstr.at hp
        clear hp hin
        by_cases hz : p.d.size = 0
        · have hz' : ((p.d.size : Int) == 0) = true := beq_iff_eq.2 (by omega)
          have hdo : Hid (dataOkB p.d = false) := by show _ = _; simp [dataOkB, hz]
          clear hz
          go_wp2
          go_returns
          go_light
          refine ⟨ret_bool ?_, rfl⟩
          rw [hI.out, hd.out]; simp [xgo, hdo.out]
        · have hz' : ((p.d.size : Int) == 0) = false := beq_eq_false_iff_ne.2 (by omega)
          cases hpl : (plainB p.d && decide (p.d.size ≤ 20))
          · have hdo : Hid (dataOkB p.d = false) := by show _ = _; rw [dataOkB_eq, hpl]; simp
            go_wp2_with fail
            refine (spec_l1Plain p.d _ hsz).mono ?_
            rintro e w1 ⟨rfl, rfl⟩
            rw [hpl]
            go_wp2
            go_returns
            go_light
            refine ⟨ret_bool ?_, rfl⟩
            rw [hI.out, hd.out]; simp [xgo, hdo.out]
          · have hpl2 := hpl
            simp at hpl2
            have hdo : Hid (dataOkB p.d = true) := by show _ = _; rw [dataOkB_eq, hpl]; simp; omega
            have hd2 : p.d.size ≤ 20 := hpl2.2
            have hd1 : 1 ≤ p.d.size := by omega
            clear hpl2
            cases hii : (decide (next ≤ p.a) && decide (p.a ≤ size))
            · go_wp2_with fail
              refine (spec_l1Plain p.d _ hsz).mono ?_
              rintro e w1 ⟨rfl, rfl⟩
              rw [hpl]
              go_wp2_with fail
              refine (spec_l1In _ _ _ _).mono ?_
              rintro e w1 ⟨rfl, rfl⟩
              rw [hii]
              go_wp2
              go_returns
              go_light
              refine ⟨ret_bool ?_, rfl⟩
              simp at hii
              rw [hI.out, hd.out]; simp [xgo, hdo.out]; omega
            · have hi2 := hii
              simp at hi2
              obtain ⟨ha1, ha2⟩ := hi2
              by_cases hok : p.a + p.d.size - 1 ≤ size
              · go_wp2_with fail
                refine (spec_l1Plain p.d _ hsz).mono ?_
                rintro e w1 ⟨rfl, rfl⟩
                rw [hpl]
                go_wp2_with fail
                refine (spec_l1In _ _ _ _).mono ?_
                rintro e w1 ⟨rfl, rfl⟩
                rw [hii]
                go_wp2
                go_round
                case rel => exact ⟨k + 1, p.a + p.d.size, by omega, by go_num, by go_num, by omega, by omega, by show _ = _; rw [hI.out, hd.out]; have : p.a ≤ size + 1 - p.d.size := by omega
                                                                                                                 simp [xgo, hdo.out, ha1, this]⟩
                case measure => simp [intOf]; omega
              · go_wp2_with fail
                refine (spec_l1Plain p.d _ hsz).mono ?_
                rintro e w1 ⟨rfl, rfl⟩
                rw [hpl]
                go_wp2_with fail
                refine (spec_l1In _ _ _ _).mono ?_
                rintro e w1 ⟨rfl, rfl⟩
                rw [hii]
                go_wp2
                go_returns
                go_light
                refine ⟨ret_bool ?_, rfl⟩
                rw [hI.out, hd.out]; simp [xgo, hdo.out]; omega
      · obtain rfl : k = n := by omega
        go_wp2
        go_returns
        go_light
        refine ⟨ret_bool ?_, rfl⟩
        rw [hI.out, List.drop_of_length_le (Nat.le_of_eq hlen.out)]; rfl
  · have hfin : Hid (spaceOkB size l = false) := by show _ = _; have := hlen.out; simp [spaceOkB]; omega
    cases hin : (decide (1 ≤ size) && decide (size ≤ 400))
    all_goals
      go_enter Try.func39, Try.ntmps39
      go_wp2_with fail
      refine (spec_l1In _ _ _ _).mono ?_
      rintro e w1 ⟨rfl, rfl⟩
      rw [hin]
      simp at hin
      go_wp2
      all_goals go_returns
      all_goals go_light
      all_goals exact ⟨ret_bool hfin.out.symm, rfl⟩

theorem laws_toExtent (p : Ex) (w : World) :
    Calls Try.prog 150 #[.agg #[.int .i64 p.a, .string p.d]] w fun e w' => e = .returned (.agg #[.int .i64 p.a, .string p.d]) ∧ Below w.heap.size w w' := by
  obtain ⟨a, d⟩ := p
  go_enter Try.func150, Try.ntmps150
  go_wp2
  go_returns
  go_light
  refine ⟨rfl, by go_grown⟩

def eqExB (p q : Ex) : Bool := p.a == q.a && p.d.toList == q.d.toList

theorem laws_eqExtent (p q : Ex) (w : World) :
    Calls Try.prog 151 #[.agg #[.int .i64 p.a, .string p.d], .agg #[.int .i64 q.a, .string q.d]] w fun e w' => e = .returned (.bool (eqExB p q)) ∧ Below w.heap.size w w' := by
  obtain ⟨a, f⟩ := p
  obtain ⟨b, g⟩ := q
  go_enter Try.func151, Try.ntmps151
  go_wp2
  all_goals go_returns
  all_goals go_light
  all_goals refine ⟨?_, by go_grown⟩
  all_goals simp_all [eqExB]

/-- What is left of a budget behind an extent, -1 where it is used up. -/
def szE (left : Int) (p : Ex) : Int := if left - p.d.size < 0 then -1 else left - p.d.size

theorem laws_szExtent (p : Ex) (left : Int) (w : World) (h0 : 0 ≤ left) (h1 : left ≤ 1048576) (hd : p.d.size ≤ 9223372036854775807) :
    Calls Try.prog 149 #[.agg #[.int .i64 p.a, .string p.d], .int .i64 left] w fun e w' => e = .returned (.int .i64 (szE left p)) ∧ Below w.heap.size w w' := by
  obtain ⟨a, d⟩ := p
  simp only at hd
  by_cases h : left - (d.size : Int) < 0
  · have hf : Hid (szE left ⟨a, d⟩ = -1) := by show _ = _; simp [szE]; omega
    go_enter Try.func149, Try.ntmps149
    go_wp2
    go_returns
    go_light
    exact ⟨ret_int hf.out.symm, by go_grown⟩
  · have hf : Hid (szE left ⟨a, d⟩ = left - d.size) := by show _ = _; simp [szE]; omega
    go_enter Try.func149, Try.ntmps149
    go_wp2
    go_returns
    go_light
    exact ⟨ret_int hf.out.symm, by go_grown⟩
end Go.Proofs.Ytbmkedickkpjjaa
