/- The laws' marks of texts. -/
import Derived.Test.YtllbojcjdpelnaaGreatProg
import Derived.Test.YtllbojcjdpelnaaGreatKb
import Derived.Laws.BytesArg
namespace Go.Proofs.YtllbojcjdpelnaaGreat
open Go.RowKit Go.BigFrame

/-- The digits of k ahead of o. -/
def mtGo (k : Nat) (o : ByteArray) : ByteArray := if k = 0 then o else mtGo (k / 10) (strOfNums [48 + (k : Int) % 10] ++ o)
termination_by k
decreasing_by omega

def markT (k : Nat) : ByteArray := ByteArray.mk #[109] ++ mtGo k .empty

theorem app_size (a b : ByteArray) : (a ++ b).size = a.size + b.size := ByteArray.size_append

theorem mtGo_size : ∀ (m k : Nat) (o : ByteArray), k < 10 ^ m → (mtGo k o).size ≤ o.size + m
  | 0, k, o, h => by
    have : k = 0 := by simpa using h
    rw [mtGo, if_pos this]; omega
  | m + 1, k, o, h => by
    rw [mtGo]
    split
    · omega
    · have := mtGo_size m (k / 10) (strOfNums [48 + (k : Int) % 10] ++ o) (by rw [Nat.pow_succ] at h; omega)
      rw [app_size, strOfNums_size] at this
      simp at this
      omega

theorem markT_size {k : Nat} (h : k ≤ 100000000) : (markT k).size ≤ 20 := by
  have := mtGo_size 9 k .empty (by omega)
  unfold markT
  rw [app_size]
  have e : ByteArray.empty.size = 0 := rfl
  have e1 : (ByteArray.mk #[109]).size = 1 := rfl
  omega

set_option maxHeartbeats 1000000 in
set_option maxRecDepth 100000 in
theorem laws_markText (k : Nat) (w : World) (h1 : 1 ≤ k) (h2 : k ≤ 100000000) :
    Calls Tryz.prog 48 #[.int .i64 k] w fun e w' => e = .returned (.string (markT k)) ∧ Below w.heap.size w w' := by
  have hcv : ∀ (u : World) (x : Int), (convert 126 9 (.slice (some ⟨u.heap.size, 0, none⟩) 1 1)).run Tryz.prog (u.alloc (.cells #[.int .u8 x] 5)) = .ok (.string (strOfNums [x])) (u.alloc (.cells #[.int .u8 x] 5)) := fun u x =>
    run_convert_bytes_arg (P := Tryz.prog) _ 126 5 Tryz.underlying126 Tryz.underlying5 u.heap.size 0 1 1 [x] rfl (fun i hi => (by obtain rfl : i = 0 := (by omega); simp)) 9 Tryz.underlying9
  go_enter Tryz.func48, Tryz.ntmps48
  go_wp2_with fail
  go_loopw [0, 3] (fun kk out wr => ∃ (j : Nat) (o : ByteArray), kk = .int .i64 j ∧ out = .string o ∧ j ≤ 100000000 ∧ Hid (∃ m, j < 10 ^ m ∧ o.size + m ≤ 9) ∧ Hid (mtGo k .empty = mtGo j o) ∧ Below w.heap.size w wr) (fun kk _ _ => (intOf kk).toNat)
  case atStart => exact ⟨k, .empty, rfl, rfl, h2, ⟨9, by omega, by decide⟩, rfl, Below.refl _ _⟩
  case round =>
    obtain ⟨j, o, rfl, rfl, hj, hm, hI, hB⟩ := hrel
    have ho : o.size ≤ 9 := by obtain ⟨m, _, h⟩ := hm.out; omega
    by_cases hlt : 0 < j
    · have hss : ¬ 9223372036854775807 < (strOfNums [48 + (j : Int) % 10]).size + o.size := by rw [strOfNums_size]; simp; omega
      go_wp2
      go_roundw
      case rel =>
        refine ⟨j / 10, _, by go_num, rfl, by omega, ?_, ?_, hB.alloc hB.size _⟩
        · obtain ⟨m, h3, h4⟩ := hm.out
          cases m with
          | zero => simp at h3; omega
          | succ m => exact ⟨m, by rw [Nat.pow_succ] at h3; omega, by rw [app_size, strOfNums_size]; simp; omega⟩
        · show _ = _
          rw [hI.out, mtGo, if_neg (by omega)]
      case measure => simp [intOf]; omega
    · obtain rfl : j = 0 := by omega
      have hss : ¬ 9223372036854775807 < (ByteArray.mk #[109]).size + o.size := by show ¬ _ < 1 + _; omega
      go_wp2
      go_returns
      go_light
      refine ⟨?_, hB⟩
      unfold markT
      rw [hI.out, mtGo, if_pos rfl]
      rfl
end Go.Proofs.YtllbojcjdpelnaaGreat
