/- Drawn lists of counts; lists of counts that are the same; what Flushed undoes. -/
import Derived.Laws.StructEq
import Derived.Test.YtnjefbkhibfgmaaGreatLDAskedx09
import Derived.Test.YtnjefbkhibfgmaaGreatLDAskedx01
import Derived.Test.YtnjefbkhibfgmaaGreatProg
import Derived.Laws.Rows
import Derived.Test.YtnjefbkhibfgmaaGreatLDAskedx05
import Derived.Test.YtnjefbkhibfgmaaGreatLDAskedx03
import Derived.Test.YtnjefbkhibfgmaaGreatLDAskedx45
import Derived.Test.YtnjefbkhibfgmaaGreatLDAskedx38
namespace Go.Proofs.YtnjefbkhibfgmaaGreat
open Go.RowKit Go.BigFrame
theorem eqO_in (o : Ow) (w : World) : (Op.equalIn 9999 36 (.agg #[.int .i64 o.a, .int .i64 o.v, .string o.f]) (.agg #[.int .i64 o.a, .int .i64 o.v, .string o.f])).run Tryz.prog w = .ok true w := by
  have u2 := Tryz.underlying2
  have u9 := Tryz.underlying9
  have a2 := Tryz.isAgg2
  have a9 := Tryz.isAgg9
  have z2 := Tryz.sizeOf2
  have z9 := Tryz.sizeOf9
  have hS : Tryz.prog.underlying 36 = some (.struct (Tryz.prog.fieldsOf 36)) := by kernel_rfl
  have hp : Tryz.prog.stoodInHeld 36 = false := by kernel_rfl
  rw [show (9999 : Nat) = 9998 + 1 from rfl, run_equalIn_agg w 9998 36 _ _ hS hp]
  simp only [Program.fieldsOf, Tryz.underlying36]
  clear hS hp
  go_simp
theorem neqC (p : Ct) (w : World) : (binOp .neq 38 (.agg #[.int .i64 p.o.a, .int .i64 p.o.v, .string p.o.f, .int .i64 p.n]) (.agg #[.int .i64 p.o.a, .int .i64 p.o.v, .string p.o.f, .int .i64 p.n])).run Tryz.prog w = .ok (.bool false) w := by
  have he := eqO_in p.o
  have u2 := Tryz.underlying2
  have a2 := Tryz.isAgg2
  have z2 := Tryz.sizeOf2
  have hz := Tryz.sizeOf36
  have ha := Tryz.isAgg36
  have hS : Tryz.prog.underlying 38 = some (.struct (Tryz.prog.fieldsOf 38)) := by kernel_rfl
  have hp : Tryz.prog.stoodInHeld 38 = false := by kernel_rfl
  rw [run_neq_struct, show (10000 : Nat) = 9999 + 1 from rfl, run_equalIn_agg w 9999 38 _ _ hS hp]
  simp only [Program.fieldsOf, Tryz.underlying38]
  clear hS hp
  go_simp
set_option maxHeartbeats 1000000 in
theorem laws_sameCounts (a : Option Addr) (n cap : Nat) (l : List Ct) (a' : Option Addr) (n' cap' : Nat) (w : World) (h : CtsAt w a n l) (h' : CtsAt w a' n' l) (hn : n ≤ 4194304) :
    Calls Tryz.prog 9 #[.slice a n cap, .slice a' n' cap'] w fun e w' => e = .returned (.bool true) ∧ Below w.heap.size w w' := by
  obtain rfl : n = n' := by rw [← h.len, ← h'.len]
  have hbn : ((n : Int) != (n : Int)) = false := by simp
  go_enter Tryz.func9, Tryz.ntmps9
  go_wp2_with fail
  go_loopw [5] (fun ix wr => ∃ (k : Nat), k ≤ n ∧ ix = .int .i64 k ∧ Below w.heap.size w wr) (fun ix _ => n - (intOf ix).toNat)
  case atStart => exact ⟨0, Nat.zero_le _, rfl, Below.refl _ _⟩
  case round =>
    obtain ⟨k, hk, rfl, hB⟩ := hrel
    by_cases hlt : k < n
    · obtain ⟨b, o, p, rfl, hp, c0, c1, c2, c3⟩ := cts_at (h.below hB) hlt
      obtain ⟨b', o', q, rfl, hq, d0, d1, d2, d3⟩ := cts_at (h'.below hB) hlt
      rw [hp] at hq
      obtain rfl := Option.some.inj hq
      have hk1 : (k : Int) < n := by omega
      have hk2 : (0 : Int) ≤ k := by omega
      have hne := neqC p
      clear hp hq
      go_wp2_with fail
      go_quiet (fail)
      have hB2 := below_drewN hB nq
      go_wp2
      go_roundw
      case rel => exact ⟨k + 1, by omega, by go_num, hB2⟩
      case measure => simp [intOf]; omega
    · obtain rfl : k = n := by omega
      go_wp2
      go_returns
      exact ⟨rfl, hB⟩
end Go.Proofs.YtnjefbkhibfgmaaGreat
