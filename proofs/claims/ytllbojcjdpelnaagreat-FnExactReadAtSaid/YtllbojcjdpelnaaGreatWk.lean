/- What Joined, Slice and Laid are tried at; lists of parts that are the same. -/
import Derived.Test.YtllbojcjdpelnaaGreatVd
import Derived.Test.YtllbojcjdpelnaaGreatWj
import Derived.Test.YtllbojcjdpelnaaGreatLh
import Derived.Laws.StructEq
namespace Go.Proofs.YtllbojcjdpelnaaGreat
open Go.RowKit Go.BigFrame

theorem neqP (p : Pt) (w : World) : (binOp .neq 113 (.agg #[.int .i64 p.a, .int .i64 p.f, .int .i64 p.n]) (.agg #[.int .i64 p.a, .int .i64 p.f, .int .i64 p.n])).run Tryz.prog w = .ok (.bool false) w := by
  have u2 := Tryz.underlying2
  have a2 := Tryz.isAgg2
  have z2 := Tryz.sizeOf2
  have hS : Tryz.prog.underlying 113 = some (.struct (Tryz.prog.fieldsOf 113)) := by kernel_rfl
  have hp : Tryz.prog.stoodInHeld 113 = false := by kernel_rfl
  rw [run_neq_struct, show (10000 : Nat) = 9999 + 1 from rfl, run_equalIn_agg w 9999 113 _ _ hS hp]
  simp only [Program.fieldsOf, Tryz.underlying113]
  go_simp

theorem sliceS_len {l s : List Pt} {fr to : Int} (h : sliceS l fr to = some s) : s.length ≤ 16 := by
  unfold sliceS at h
  split at h
  · rename_i hh
    obtain rfl := Option.some.inj h
    rw [joinL_self (slice_pgo hh.1 fr to)]
    have := (slp_bd fr to l 0 (fun p hp => partOkB_pos ((partsOkB_all hh.1).2.1 p hp))).2.2.1
    have := (partsOkB_all hh.1).1
    omega
  · cases h
theorem retp_out {B : Nat} {e : Ending} {w' : World} {oo : Option (List Pt)} (h : RetPts B e w' oo) : ∃ a n cap, e = .returned (.tuple #[.slice a n cap, .bool oo.isSome]) ∧ ResAt Pt.cs 3 113 w' B a n cap (oo.getD []) := ret_out h
theorem sliceS_getD (l : List Pt) (fr to : Int) : ((sliceS l fr to).getD []).length ≤ 16 := by
  cases h : sliceS l fr to with
  | none => simp
  | some s => exact sliceS_len h

end Go.Proofs.YtllbojcjdpelnaaGreat
