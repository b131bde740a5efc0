/- The parts, as the model has them, and the laws' own helpers for parts. -/
import Derived.Test.YtbmkedickkpjjaaProg
import Derived.Test.YtbmkedickkpjjaaPa
import Derived.Test.YtbmkedickkpjjaaPure
namespace Go.Proofs.Ytbmkedickkpjjaa
open Go.RowKit

theorem spec_l1In (n lo hi : Int) (w : World) :
    Calls Try.prog 118 #[.int .i64 n, .int .i64 lo, .int .i64 hi] w fun e w' => e = .returned (.bool (decide (lo ≤ n) && decide (n ≤ hi))) ∧ w' = w := by
  go_enter Try.func118, Try.ntmps118
  go_wp2
  all_goals go_returns
  all_goals go_light
  all_goals refine ⟨?_, rfl⟩
  all_goals simp_all
  all_goals try omega

theorem spec_l2Next (p q : Pt) (w : World) :
    Calls Try.prog 154 #[.agg #[.int .i64 p.a, .int .i64 p.f, .int .i64 p.n], .agg #[.int .i64 q.a, .int .i64 q.f, .int .i64 q.n]] w fun e w' => e = .returned (.bool (goesOnB p q)) ∧ Below w.heap.size w w' := by
  obtain ⟨a, f, n⟩ := p
  obtain ⟨b, g, m⟩ := q
  go_enter Try.func154, Try.ntmps154
  go_wp2
  all_goals go_returns
  all_goals go_light
  all_goals refine ⟨?_, by go_grown⟩
  all_goals simp_all [goesOnB]
  all_goals first | (rw [Bool.eq_iff_iff]; simp; omega) | omega

theorem spec_l2PartOk (p : Pt) (w : World) :
    Calls Try.prog 153 #[.agg #[.int .i64 p.a, .int .i64 p.f, .int .i64 p.n]] w fun e w' => e = .returned (.bool (partOkB p && decide (p.n ≤ 100))) ∧ Below w.heap.size w w' := by
  obtain ⟨a, f, n⟩ := p
  go_enter Try.func153, Try.ntmps153
  go_wp2
  all_goals go_returns
  all_goals go_light
  all_goals refine ⟨?_, by go_grown⟩
  all_goals simp [partOkB, *]
  all_goals try omega
  all_goals (rw [Bool.eq_iff_iff]; simp; omega)

theorem laws_toPart (p : Pt) (w : World) :
    Calls Try.prog 155 #[.agg #[.int .i64 p.a, .int .i64 p.f, .int .i64 p.n]] w fun e w' => e = .returned (.agg #[.int .i64 p.a, .int .i64 p.f, .int .i64 p.n]) ∧ Below w.heap.size w w' := by
  obtain ⟨a, f, n⟩ := p
  go_enter Try.func155, Try.ntmps155
  go_wp2
  go_returns
  go_light
  refine ⟨rfl, by go_grown⟩

def eqPtB (p q : Pt) : Bool := p.a == q.a && p.f == q.f && p.n == q.n

theorem laws_eqPart (p q : Pt) (w : World) :
    Calls Try.prog 156 #[.agg #[.int .i64 p.a, .int .i64 p.f, .int .i64 p.n], .agg #[.int .i64 q.a, .int .i64 q.f, .int .i64 q.n]] w fun e w' => e = .returned (.bool (eqPtB p q)) ∧ Below w.heap.size w w' := by
  obtain ⟨a, f, n⟩ := p
  obtain ⟨b, g, m⟩ := q
  go_enter Try.func156, Try.ntmps156
  go_wp2
  all_goals go_returns
  all_goals go_light
  all_goals refine ⟨?_, by go_grown⟩
  all_goals simp_all [eqPtB]

/-- 'left -= len(a)', -1 where that is below 0. -/
theorem laws_szPartS (a : Option Addr) (n cap : Nat) (w : World) (hn : n ≤ 9223372036854775807) :
    Calls Try.prog 89 #[.slice a n cap, .int .i64 1048576] w fun e w' => e = .returned (.int .i64 (if n ≤ 1048576 then 1048576 - n else -1)) ∧ w' = w := by
  by_cases h : n ≤ 1048576
  all_goals
    go_enter Try.func89, Try.ntmps89
    go_wp2
    go_returns
    go_light
    refine ⟨ret_int ?_, rfl⟩
    first | rfl | (split <;> omega)
end Go.Proofs.Ytbmkedickkpjjaa
