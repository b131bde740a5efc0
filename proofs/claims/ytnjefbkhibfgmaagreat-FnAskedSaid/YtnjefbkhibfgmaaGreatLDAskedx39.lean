/- The state of a region that draws an op's pieces in whatever order. -/
import Derived.Test.YtnjefbkhibfgmaaGreatLDAskedx15
import Derived.Test.YtnjefbkhibfgmaaGreatLDAskedx16
import Derived.Test.YtnjefbkhibfgmaaGreatLDAskedx38
namespace Go.Proofs.YtnjefbkhibfgmaaGreat
open Go Go.RowKit Go.BigFrame
def putB (a : Act) (x42 x44 x45 x46 x48 x49 x50 x51 x53 x54 x55 x57 : Value) : Act := ((((((((((((a.put (some 42) x42).put (some 44) x44).put (some 45) x45).put (some 46) x46).put (some 48) x48).put (some 49) x49).put (some 50) x50).put (some 51) x51).put (some 53) x53).put (some 54) x54).put (some 55) x55).put (some 57) x57)
theorem putB_42 (a : Act) (x42 x44 x45 x46 x48 x49 x50 x51 x53 x54 x55 x57 v : Value) : (putB a x42 x44 x45 x46 x48 x49 x50 x51 x53 x54 x55 x57).put (some 42) v = putB a v x44 x45 x46 x48 x49 x50 x51 x53 x54 x55 x57 := by
  unfold putB
  rw [put_swap (show (57 : Nat) ≠ 42 by decide), put_swap (show (55 : Nat) ≠ 42 by decide), put_swap (show (54 : Nat) ≠ 42 by decide), put_swap (show (53 : Nat) ≠ 42 by decide), put_swap (show (51 : Nat) ≠ 42 by decide), put_swap (show (50 : Nat) ≠ 42 by decide), put_swap (show (49 : Nat) ≠ 42 by decide), put_swap (show (48 : Nat) ≠ 42 by decide), put_swap (show (46 : Nat) ≠ 42 by decide), put_swap (show (45 : Nat) ≠ 42 by decide), put_swap (show (44 : Nat) ≠ 42 by decide), put_same]
theorem putB_e42 {a : Act} (h : a.tmps.size = 103) (x42 x44 x45 x46 x48 x49 x50 x51 x53 x54 x55 x57 : Value) : (putB a x42 x44 x45 x46 x48 x49 x50 x51 x53 x54 x55 x57).eval (.tmp 42) = x42 := by
  unfold putB
  rw [eval_ne (show (57 : Nat) ≠ 42 by decide), eval_ne (show (55 : Nat) ≠ 42 by decide), eval_ne (show (54 : Nat) ≠ 42 by decide), eval_ne (show (53 : Nat) ≠ 42 by decide), eval_ne (show (51 : Nat) ≠ 42 by decide), eval_ne (show (50 : Nat) ≠ 42 by decide), eval_ne (show (49 : Nat) ≠ 42 by decide), eval_ne (show (48 : Nat) ≠ 42 by decide), eval_ne (show (46 : Nat) ≠ 42 by decide), eval_ne (show (45 : Nat) ≠ 42 by decide), eval_ne (show (44 : Nat) ≠ 42 by decide), eval_same (by first | omega | (simp only [put_size]; omega))]
theorem putB_44 (a : Act) (x42 x44 x45 x46 x48 x49 x50 x51 x53 x54 x55 x57 v : Value) : (putB a x42 x44 x45 x46 x48 x49 x50 x51 x53 x54 x55 x57).put (some 44) v = putB a x42 v x45 x46 x48 x49 x50 x51 x53 x54 x55 x57 := by
  unfold putB
  rw [put_swap (show (57 : Nat) ≠ 44 by decide), put_swap (show (55 : Nat) ≠ 44 by decide), put_swap (show (54 : Nat) ≠ 44 by decide), put_swap (show (53 : Nat) ≠ 44 by decide), put_swap (show (51 : Nat) ≠ 44 by decide), put_swap (show (50 : Nat) ≠ 44 by decide), put_swap (show (49 : Nat) ≠ 44 by decide), put_swap (show (48 : Nat) ≠ 44 by decide), put_swap (show (46 : Nat) ≠ 44 by decide), put_swap (show (45 : Nat) ≠ 44 by decide), put_same]
theorem putB_e44 {a : Act} (h : a.tmps.size = 103) (x42 x44 x45 x46 x48 x49 x50 x51 x53 x54 x55 x57 : Value) : (putB a x42 x44 x45 x46 x48 x49 x50 x51 x53 x54 x55 x57).eval (.tmp 44) = x44 := by
  unfold putB
  rw [eval_ne (show (57 : Nat) ≠ 44 by decide), eval_ne (show (55 : Nat) ≠ 44 by decide), eval_ne (show (54 : Nat) ≠ 44 by decide), eval_ne (show (53 : Nat) ≠ 44 by decide), eval_ne (show (51 : Nat) ≠ 44 by decide), eval_ne (show (50 : Nat) ≠ 44 by decide), eval_ne (show (49 : Nat) ≠ 44 by decide), eval_ne (show (48 : Nat) ≠ 44 by decide), eval_ne (show (46 : Nat) ≠ 44 by decide), eval_ne (show (45 : Nat) ≠ 44 by decide), eval_same (by first | omega | (simp only [put_size]; omega))]
theorem putB_45 (a : Act) (x42 x44 x45 x46 x48 x49 x50 x51 x53 x54 x55 x57 v : Value) : (putB a x42 x44 x45 x46 x48 x49 x50 x51 x53 x54 x55 x57).put (some 45) v = putB a x42 x44 v x46 x48 x49 x50 x51 x53 x54 x55 x57 := by
  unfold putB
  rw [put_swap (show (57 : Nat) ≠ 45 by decide), put_swap (show (55 : Nat) ≠ 45 by decide), put_swap (show (54 : Nat) ≠ 45 by decide), put_swap (show (53 : Nat) ≠ 45 by decide), put_swap (show (51 : Nat) ≠ 45 by decide), put_swap (show (50 : Nat) ≠ 45 by decide), put_swap (show (49 : Nat) ≠ 45 by decide), put_swap (show (48 : Nat) ≠ 45 by decide), put_swap (show (46 : Nat) ≠ 45 by decide), put_same]
theorem putB_e45 {a : Act} (h : a.tmps.size = 103) (x42 x44 x45 x46 x48 x49 x50 x51 x53 x54 x55 x57 : Value) : (putB a x42 x44 x45 x46 x48 x49 x50 x51 x53 x54 x55 x57).eval (.tmp 45) = x45 := by
  unfold putB
  rw [eval_ne (show (57 : Nat) ≠ 45 by decide), eval_ne (show (55 : Nat) ≠ 45 by decide), eval_ne (show (54 : Nat) ≠ 45 by decide), eval_ne (show (53 : Nat) ≠ 45 by decide), eval_ne (show (51 : Nat) ≠ 45 by decide), eval_ne (show (50 : Nat) ≠ 45 by decide), eval_ne (show (49 : Nat) ≠ 45 by decide), eval_ne (show (48 : Nat) ≠ 45 by decide), eval_ne (show (46 : Nat) ≠ 45 by decide), eval_same (by first | omega | (simp only [put_size]; omega))]
theorem putB_46 (a : Act) (x42 x44 x45 x46 x48 x49 x50 x51 x53 x54 x55 x57 v : Value) : (putB a x42 x44 x45 x46 x48 x49 x50 x51 x53 x54 x55 x57).put (some 46) v = putB a x42 x44 x45 v x48 x49 x50 x51 x53 x54 x55 x57 := by
  unfold putB
  rw [put_swap (show (57 : Nat) ≠ 46 by decide), put_swap (show (55 : Nat) ≠ 46 by decide), put_swap (show (54 : Nat) ≠ 46 by decide), put_swap (show (53 : Nat) ≠ 46 by decide), put_swap (show (51 : Nat) ≠ 46 by decide), put_swap (show (50 : Nat) ≠ 46 by decide), put_swap (show (49 : Nat) ≠ 46 by decide), put_swap (show (48 : Nat) ≠ 46 by decide), put_same]
theorem putB_e46 {a : Act} (h : a.tmps.size = 103) (x42 x44 x45 x46 x48 x49 x50 x51 x53 x54 x55 x57 : Value) : (putB a x42 x44 x45 x46 x48 x49 x50 x51 x53 x54 x55 x57).eval (.tmp 46) = x46 := by
  unfold putB
  rw [eval_ne (show (57 : Nat) ≠ 46 by decide), eval_ne (show (55 : Nat) ≠ 46 by decide), eval_ne (show (54 : Nat) ≠ 46 by decide), eval_ne (show (53 : Nat) ≠ 46 by decide), eval_ne (show (51 : Nat) ≠ 46 by decide), eval_ne (show (50 : Nat) ≠ 46 by decide), eval_ne (show (49 : Nat) ≠ 46 by decide), eval_ne (show (48 : Nat) ≠ 46 by decide), eval_same (by first | omega | (simp only [put_size]; omega))]
theorem putB_48 (a : Act) (x42 x44 x45 x46 x48 x49 x50 x51 x53 x54 x55 x57 v : Value) : (putB a x42 x44 x45 x46 x48 x49 x50 x51 x53 x54 x55 x57).put (some 48) v = putB a x42 x44 x45 x46 v x49 x50 x51 x53 x54 x55 x57 := by
  unfold putB
  rw [put_swap (show (57 : Nat) ≠ 48 by decide), put_swap (show (55 : Nat) ≠ 48 by decide), put_swap (show (54 : Nat) ≠ 48 by decide), put_swap (show (53 : Nat) ≠ 48 by decide), put_swap (show (51 : Nat) ≠ 48 by decide), put_swap (show (50 : Nat) ≠ 48 by decide), put_swap (show (49 : Nat) ≠ 48 by decide), put_same]
theorem putB_e48 {a : Act} (h : a.tmps.size = 103) (x42 x44 x45 x46 x48 x49 x50 x51 x53 x54 x55 x57 : Value) : (putB a x42 x44 x45 x46 x48 x49 x50 x51 x53 x54 x55 x57).eval (.tmp 48) = x48 := by
  unfold putB
  rw [eval_ne (show (57 : Nat) ≠ 48 by decide), eval_ne (show (55 : Nat) ≠ 48 by decide), eval_ne (show (54 : Nat) ≠ 48 by decide), eval_ne (show (53 : Nat) ≠ 48 by decide), eval_ne (show (51 : Nat) ≠ 48 by decide), eval_ne (show (50 : Nat) ≠ 48 by decide), eval_ne (show (49 : Nat) ≠ 48 by decide), eval_same (by first | omega | (simp only [put_size]; omega))]
theorem putB_49 (a : Act) (x42 x44 x45 x46 x48 x49 x50 x51 x53 x54 x55 x57 v : Value) : (putB a x42 x44 x45 x46 x48 x49 x50 x51 x53 x54 x55 x57).put (some 49) v = putB a x42 x44 x45 x46 x48 v x50 x51 x53 x54 x55 x57 := by
  unfold putB
  rw [put_swap (show (57 : Nat) ≠ 49 by decide), put_swap (show (55 : Nat) ≠ 49 by decide), put_swap (show (54 : Nat) ≠ 49 by decide), put_swap (show (53 : Nat) ≠ 49 by decide), put_swap (show (51 : Nat) ≠ 49 by decide), put_swap (show (50 : Nat) ≠ 49 by decide), put_same]
theorem putB_e49 {a : Act} (h : a.tmps.size = 103) (x42 x44 x45 x46 x48 x49 x50 x51 x53 x54 x55 x57 : Value) : (putB a x42 x44 x45 x46 x48 x49 x50 x51 x53 x54 x55 x57).eval (.tmp 49) = x49 := by
  unfold putB
  rw [eval_ne (show (57 : Nat) ≠ 49 by decide), eval_ne (show (55 : Nat) ≠ 49 by decide), eval_ne (show (54 : Nat) ≠ 49 by decide), eval_ne (show (53 : Nat) ≠ 49 by decide), eval_ne (show (51 : Nat) ≠ 49 by decide), eval_ne (show (50 : Nat) ≠ 49 by decide), eval_same (by first | omega | (simp only [put_size]; omega))]
theorem putB_50 (a : Act) (x42 x44 x45 x46 x48 x49 x50 x51 x53 x54 x55 x57 v : Value) : (putB a x42 x44 x45 x46 x48 x49 x50 x51 x53 x54 x55 x57).put (some 50) v = putB a x42 x44 x45 x46 x48 x49 v x51 x53 x54 x55 x57 := by
  unfold putB
  rw [put_swap (show (57 : Nat) ≠ 50 by decide), put_swap (show (55 : Nat) ≠ 50 by decide), put_swap (show (54 : Nat) ≠ 50 by decide), put_swap (show (53 : Nat) ≠ 50 by decide), put_swap (show (51 : Nat) ≠ 50 by decide), put_same]
theorem putB_e50 {a : Act} (h : a.tmps.size = 103) (x42 x44 x45 x46 x48 x49 x50 x51 x53 x54 x55 x57 : Value) : (putB a x42 x44 x45 x46 x48 x49 x50 x51 x53 x54 x55 x57).eval (.tmp 50) = x50 := by
  unfold putB
  rw [eval_ne (show (57 : Nat) ≠ 50 by decide), eval_ne (show (55 : Nat) ≠ 50 by decide), eval_ne (show (54 : Nat) ≠ 50 by decide), eval_ne (show (53 : Nat) ≠ 50 by decide), eval_ne (show (51 : Nat) ≠ 50 by decide), eval_same (by first | omega | (simp only [put_size]; omega))]
theorem putB_51 (a : Act) (x42 x44 x45 x46 x48 x49 x50 x51 x53 x54 x55 x57 v : Value) : (putB a x42 x44 x45 x46 x48 x49 x50 x51 x53 x54 x55 x57).put (some 51) v = putB a x42 x44 x45 x46 x48 x49 x50 v x53 x54 x55 x57 := by
  unfold putB
  rw [put_swap (show (57 : Nat) ≠ 51 by decide), put_swap (show (55 : Nat) ≠ 51 by decide), put_swap (show (54 : Nat) ≠ 51 by decide), put_swap (show (53 : Nat) ≠ 51 by decide), put_same]
theorem putB_e51 {a : Act} (h : a.tmps.size = 103) (x42 x44 x45 x46 x48 x49 x50 x51 x53 x54 x55 x57 : Value) : (putB a x42 x44 x45 x46 x48 x49 x50 x51 x53 x54 x55 x57).eval (.tmp 51) = x51 := by
  unfold putB
  rw [eval_ne (show (57 : Nat) ≠ 51 by decide), eval_ne (show (55 : Nat) ≠ 51 by decide), eval_ne (show (54 : Nat) ≠ 51 by decide), eval_ne (show (53 : Nat) ≠ 51 by decide), eval_same (by first | omega | (simp only [put_size]; omega))]
theorem putB_53 (a : Act) (x42 x44 x45 x46 x48 x49 x50 x51 x53 x54 x55 x57 v : Value) : (putB a x42 x44 x45 x46 x48 x49 x50 x51 x53 x54 x55 x57).put (some 53) v = putB a x42 x44 x45 x46 x48 x49 x50 x51 v x54 x55 x57 := by
  unfold putB
  rw [put_swap (show (57 : Nat) ≠ 53 by decide), put_swap (show (55 : Nat) ≠ 53 by decide), put_swap (show (54 : Nat) ≠ 53 by decide), put_same]
theorem putB_e53 {a : Act} (h : a.tmps.size = 103) (x42 x44 x45 x46 x48 x49 x50 x51 x53 x54 x55 x57 : Value) : (putB a x42 x44 x45 x46 x48 x49 x50 x51 x53 x54 x55 x57).eval (.tmp 53) = x53 := by
  unfold putB
  rw [eval_ne (show (57 : Nat) ≠ 53 by decide), eval_ne (show (55 : Nat) ≠ 53 by decide), eval_ne (show (54 : Nat) ≠ 53 by decide), eval_same (by first | omega | (simp only [put_size]; omega))]
theorem putB_54 (a : Act) (x42 x44 x45 x46 x48 x49 x50 x51 x53 x54 x55 x57 v : Value) : (putB a x42 x44 x45 x46 x48 x49 x50 x51 x53 x54 x55 x57).put (some 54) v = putB a x42 x44 x45 x46 x48 x49 x50 x51 x53 v x55 x57 := by
  unfold putB
  rw [put_swap (show (57 : Nat) ≠ 54 by decide), put_swap (show (55 : Nat) ≠ 54 by decide), put_same]
theorem putB_e54 {a : Act} (h : a.tmps.size = 103) (x42 x44 x45 x46 x48 x49 x50 x51 x53 x54 x55 x57 : Value) : (putB a x42 x44 x45 x46 x48 x49 x50 x51 x53 x54 x55 x57).eval (.tmp 54) = x54 := by
  unfold putB
  rw [eval_ne (show (57 : Nat) ≠ 54 by decide), eval_ne (show (55 : Nat) ≠ 54 by decide), eval_same (by first | omega | (simp only [put_size]; omega))]
theorem putB_55 (a : Act) (x42 x44 x45 x46 x48 x49 x50 x51 x53 x54 x55 x57 v : Value) : (putB a x42 x44 x45 x46 x48 x49 x50 x51 x53 x54 x55 x57).put (some 55) v = putB a x42 x44 x45 x46 x48 x49 x50 x51 x53 x54 v x57 := by
  unfold putB
  rw [put_swap (show (57 : Nat) ≠ 55 by decide), put_same]
theorem putB_e55 {a : Act} (h : a.tmps.size = 103) (x42 x44 x45 x46 x48 x49 x50 x51 x53 x54 x55 x57 : Value) : (putB a x42 x44 x45 x46 x48 x49 x50 x51 x53 x54 x55 x57).eval (.tmp 55) = x55 := by
  unfold putB
  rw [eval_ne (show (57 : Nat) ≠ 55 by decide), eval_same (by first | omega | (simp only [put_size]; omega))]
theorem putB_57 (a : Act) (x42 x44 x45 x46 x48 x49 x50 x51 x53 x54 x55 x57 v : Value) : (putB a x42 x44 x45 x46 x48 x49 x50 x51 x53 x54 x55 x57).put (some 57) v = putB a x42 x44 x45 x46 x48 x49 x50 x51 x53 x54 x55 v := by
  unfold putB
  rw [put_same]
theorem putB_e39 (a : Act) (x42 x44 x45 x46 x48 x49 x50 x51 x53 x54 x55 x57 : Value) : (putB a x42 x44 x45 x46 x48 x49 x50 x51 x53 x54 x55 x57).eval (.tmp 39) = a.eval (.tmp 39) := by
  unfold putB
  rw [eval_ne (show (57 : Nat) ≠ 39 by decide), eval_ne (show (55 : Nat) ≠ 39 by decide), eval_ne (show (54 : Nat) ≠ 39 by decide), eval_ne (show (53 : Nat) ≠ 39 by decide), eval_ne (show (51 : Nat) ≠ 39 by decide), eval_ne (show (50 : Nat) ≠ 39 by decide), eval_ne (show (49 : Nat) ≠ 39 by decide), eval_ne (show (48 : Nat) ≠ 39 by decide), eval_ne (show (46 : Nat) ≠ 39 by decide), eval_ne (show (45 : Nat) ≠ 39 by decide), eval_ne (show (44 : Nat) ≠ 39 by decide), eval_ne (show (42 : Nat) ≠ 39 by decide)]
theorem putB_e40 (a : Act) (x42 x44 x45 x46 x48 x49 x50 x51 x53 x54 x55 x57 : Value) : (putB a x42 x44 x45 x46 x48 x49 x50 x51 x53 x54 x55 x57).eval (.tmp 40) = a.eval (.tmp 40) := by
  unfold putB
  rw [eval_ne (show (57 : Nat) ≠ 40 by decide), eval_ne (show (55 : Nat) ≠ 40 by decide), eval_ne (show (54 : Nat) ≠ 40 by decide), eval_ne (show (53 : Nat) ≠ 40 by decide), eval_ne (show (51 : Nat) ≠ 40 by decide), eval_ne (show (50 : Nat) ≠ 40 by decide), eval_ne (show (49 : Nat) ≠ 40 by decide), eval_ne (show (48 : Nat) ≠ 40 by decide), eval_ne (show (46 : Nat) ≠ 40 by decide), eval_ne (show (45 : Nat) ≠ 40 by decide), eval_ne (show (44 : Nat) ≠ 40 by decide), eval_ne (show (42 : Nat) ≠ 40 by decide)]
theorem putB_e41 (a : Act) (x42 x44 x45 x46 x48 x49 x50 x51 x53 x54 x55 x57 : Value) : (putB a x42 x44 x45 x46 x48 x49 x50 x51 x53 x54 x55 x57).eval (.tmp 41) = a.eval (.tmp 41) := by
  unfold putB
  rw [eval_ne (show (57 : Nat) ≠ 41 by decide), eval_ne (show (55 : Nat) ≠ 41 by decide), eval_ne (show (54 : Nat) ≠ 41 by decide), eval_ne (show (53 : Nat) ≠ 41 by decide), eval_ne (show (51 : Nat) ≠ 41 by decide), eval_ne (show (50 : Nat) ≠ 41 by decide), eval_ne (show (49 : Nat) ≠ 41 by decide), eval_ne (show (48 : Nat) ≠ 41 by decide), eval_ne (show (46 : Nat) ≠ 41 by decide), eval_ne (show (45 : Nat) ≠ 41 by decide), eval_ne (show (44 : Nat) ≠ 41 by decide), eval_ne (show (42 : Nat) ≠ 41 by decide)]
theorem putB_e43 (a : Act) (x42 x44 x45 x46 x48 x49 x50 x51 x53 x54 x55 x57 : Value) : (putB a x42 x44 x45 x46 x48 x49 x50 x51 x53 x54 x55 x57).eval (.tmp 43) = a.eval (.tmp 43) := by
  unfold putB
  rw [eval_ne (show (57 : Nat) ≠ 43 by decide), eval_ne (show (55 : Nat) ≠ 43 by decide), eval_ne (show (54 : Nat) ≠ 43 by decide), eval_ne (show (53 : Nat) ≠ 43 by decide), eval_ne (show (51 : Nat) ≠ 43 by decide), eval_ne (show (50 : Nat) ≠ 43 by decide), eval_ne (show (49 : Nat) ≠ 43 by decide), eval_ne (show (48 : Nat) ≠ 43 by decide), eval_ne (show (46 : Nat) ≠ 43 by decide), eval_ne (show (45 : Nat) ≠ 43 by decide), eval_ne (show (44 : Nat) ≠ 43 by decide), eval_ne (show (42 : Nat) ≠ 43 by decide)]
theorem putB_e47 (a : Act) (x42 x44 x45 x46 x48 x49 x50 x51 x53 x54 x55 x57 : Value) : (putB a x42 x44 x45 x46 x48 x49 x50 x51 x53 x54 x55 x57).eval (.tmp 47) = a.eval (.tmp 47) := by
  unfold putB
  rw [eval_ne (show (57 : Nat) ≠ 47 by decide), eval_ne (show (55 : Nat) ≠ 47 by decide), eval_ne (show (54 : Nat) ≠ 47 by decide), eval_ne (show (53 : Nat) ≠ 47 by decide), eval_ne (show (51 : Nat) ≠ 47 by decide), eval_ne (show (50 : Nat) ≠ 47 by decide), eval_ne (show (49 : Nat) ≠ 47 by decide), eval_ne (show (48 : Nat) ≠ 47 by decide), eval_ne (show (46 : Nat) ≠ 47 by decide), eval_ne (show (45 : Nat) ≠ 47 by decide), eval_ne (show (44 : Nat) ≠ 47 by decide), eval_ne (show (42 : Nat) ≠ 47 by decide)]
theorem putB_e52 (a : Act) (x42 x44 x45 x46 x48 x49 x50 x51 x53 x54 x55 x57 : Value) : (putB a x42 x44 x45 x46 x48 x49 x50 x51 x53 x54 x55 x57).eval (.tmp 52) = a.eval (.tmp 52) := by
  unfold putB
  rw [eval_ne (show (57 : Nat) ≠ 52 by decide), eval_ne (show (55 : Nat) ≠ 52 by decide), eval_ne (show (54 : Nat) ≠ 52 by decide), eval_ne (show (53 : Nat) ≠ 52 by decide), eval_ne (show (51 : Nat) ≠ 52 by decide), eval_ne (show (50 : Nat) ≠ 52 by decide), eval_ne (show (49 : Nat) ≠ 52 by decide), eval_ne (show (48 : Nat) ≠ 52 by decide), eval_ne (show (46 : Nat) ≠ 52 by decide), eval_ne (show (45 : Nat) ≠ 52 by decide), eval_ne (show (44 : Nat) ≠ 52 by decide), eval_ne (show (42 : Nat) ≠ 52 by decide)]
theorem putB_e56 (a : Act) (x42 x44 x45 x46 x48 x49 x50 x51 x53 x54 x55 x57 : Value) : (putB a x42 x44 x45 x46 x48 x49 x50 x51 x53 x54 x55 x57).eval (.tmp 56) = a.eval (.tmp 56) := by
  unfold putB
  rw [eval_ne (show (57 : Nat) ≠ 56 by decide), eval_ne (show (55 : Nat) ≠ 56 by decide), eval_ne (show (54 : Nat) ≠ 56 by decide), eval_ne (show (53 : Nat) ≠ 56 by decide), eval_ne (show (51 : Nat) ≠ 56 by decide), eval_ne (show (50 : Nat) ≠ 56 by decide), eval_ne (show (49 : Nat) ≠ 56 by decide), eval_ne (show (48 : Nat) ≠ 56 by decide), eval_ne (show (46 : Nat) ≠ 56 by decide), eval_ne (show (45 : Nat) ≠ 56 by decide), eval_ne (show (44 : Nat) ≠ 56 by decide), eval_ne (show (42 : Nat) ≠ 56 by decide)]
def NumT (k : Nat) (x : Value) : Prop := ∃ n : Nat, x = .int .i64 n ∧ (n : Int) < k
def IntT (x : Value) : Prop := ∃ n : Int, x = .int .i64 n
def TxtT (x : Value) : Prop := ∃ s : ByteArray, x = .string s ∧ s.size ≤ 1
def LstT (B k : Nat) (u : World) (x : Value) : Prop := ∃ b cs t, x = .slice (some ⟨b, 0, none⟩) k k ∧ Blk u b cs t ∧ cs.size = k ∧ (∀ v ∈ cs, ∃ s : ByteArray, v = .string s ∧ s.size ≤ 1) ∧ B < b
def PlcT (B : Nat) (u : World) (x : Value) : Prop := ∃ b i s, x = .pointer (some ⟨b, i, none⟩) ∧ u.cell? ⟨b, i, none⟩ = some (.string s) ∧ s.size ≤ 1 ∧ B < b
theorem LstT.below {B k : Nat} {u u' : World} {x : Value} (h : LstT B k u x) (hb : Below u.heap.size u u') : LstT B k u' x := by
  obtain ⟨b, cs, t, h1, h2, h3⟩ := h
  exact ⟨b, cs, t, h1, h2.below hb, h3⟩
theorem PlcT.below {B : Nat} {u u' : World} {x : Value} (h : PlcT B u x) (hb : Below u.heap.size u u') : PlcT B u' x := by
  obtain ⟨b, i, s, h1, h2, h3⟩ := h
  exact ⟨b, i, s, h1, bcell hb h2, h3⟩
theorem LstT.grown {B k : Nat} {u u' : World} {x : Value} (h : LstT B k u x) (hg : u.grownBy u' (some B)) : LstT B k u' x := by
  obtain ⟨b, cs, t, h1, h2, h3, h4, h5⟩ := h
  exact ⟨b, cs, t, h1, h2.grown hg (by omega), h3, h4, h5⟩
theorem PlcT.grown {B : Nat} {u u' : World} {x : Value} (h : PlcT B u x) (hg : u.grownBy u' (some B)) : PlcT B u' x := by
  obtain ⟨b, i, s, h1, h2, h3, h4⟩ := h
  exact ⟨b, i, s, h1, hg.cell h2 (by simp only [ne_eq, Option.some.injEq]; omega), h3, h4⟩
theorem lit_at {w : World} {b x n : Nat} {cs : Array Value} {t : TypeId} (h : Blk w b cs t) (hn : cs.size = n) (hs : ∀ v ∈ cs, ∃ s : ByteArray, v = .string s ∧ s.size ≤ 1) (hx : (x : Int) < n) : ∃ s : ByteArray, w.cell? ⟨b, x, none⟩ = some (.string s) ∧ s.size ≤ 1 := by
  have hx' : x < cs.size := by omega
  obtain ⟨s, h1, h2⟩ := hs cs[x] (Array.getElem_mem hx')
  refine ⟨s, ?_, h2⟩
  rw [h.cell, ← h1]
  simp [hx']
end Go.Proofs.YtnjefbkhibfgmaaGreat
