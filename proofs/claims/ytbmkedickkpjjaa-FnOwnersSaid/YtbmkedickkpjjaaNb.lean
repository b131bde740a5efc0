/- The order of owners: cmp.Compare, cmp.Or, ownerOrder, OwnerAhead of the program; OwnerAhead of the model. -/
import Derived.Test.YtbmkedickkpjjaaProg
import Derived.Test.YtbmkedickkpjjaaCa
import Derived.Test.YtbmkedickkpjjaaPb
namespace Go.Proofs.Ytbmkedickkpjjaa
open Go.RowKit Go.BigFrame

theorem cmp_isNaN_int (x : Int) (w : World) :
    Calls Try.prog 184 #[.int .i64 x] w fun e w' => e = .returned (.bool false) ∧ w' = w := by
  have hx : (x != x) = false := by simp
  go_enter Try.func184, Try.ntmps184
  go_wp2
  go_returns
  go_light
  exact ⟨by simp, rfl⟩

theorem cmp_isNaN_str (x : ByteArray) (w : World) :
    Calls Try.prog 185 #[.string x] w fun e w' => e = .returned (.bool false) ∧ w' = w := by
  go_enter Try.func185, Try.ntmps185
  go_wp2
  go_returns
  go_light
  exact ⟨by simp, rfl⟩

theorem cmp_Compare_int (x y : Int) (w : World) :
    Calls Try.prog 173 #[.int .i64 x, .int .i64 y] w fun e w' => e = .returned (.int .i64 (cmpI x y)) ∧ w' = w := by
  go_enter Try.func173, Try.ntmps173
  go_wp2_with fail
  refine (cmp_isNaN_int _ _).mono ?_
  rintro e w1 ⟨rfl, rfl⟩
  go_wp2_with fail
  refine (cmp_isNaN_int _ _).mono ?_
  rintro e w1 ⟨rfl, rfl⟩
  go_wp2
  all_goals go_returns
  all_goals go_light
  all_goals refine ⟨ret_int ?_, rfl⟩
  all_goals simp [cmpI]
  all_goals omega

theorem cmp_Compare_str (x y : ByteArray) (w : World) :
    Calls Try.prog 174 #[.string x, .string y] w fun e w' => e = .returned (.int .i64 (cmpS x y)) ∧ w' = w := by
  go_enter Try.func174, Try.ntmps174
  go_wp2_with fail
  refine (cmp_isNaN_str _ _).mono ?_
  rintro e w1 ⟨rfl, rfl⟩
  go_wp2_with fail
  refine (cmp_isNaN_str _ _).mono ?_
  rintro e w1 ⟨rfl, rfl⟩
  go_wp2
  all_goals go_returns
  all_goals go_light
  all_goals refine ⟨ret_int ?_, rfl⟩
  all_goals simp_all [cmpS, bl]

theorem cmp_Or3 (x y z : Int) (b : Nat) (cap : Nat) (w : World) (h0 : w.cell? ⟨b, 0, none⟩ = some (.int .i64 x)) (h1 : w.cell? ⟨b, 1, none⟩ = some (.int .i64 y)) (h2 : w.cell? ⟨b, 2, none⟩ = some (.int .i64 z)) :
    Calls Try.prog 172 #[.slice (some ⟨b, 0, none⟩) 3 cap] w fun e w' => e = .returned (.int .i64 (or3 x y z)) ∧ w' = w := by
  by_cases hx : x = 0
  · have hx' : (x != 0) = false := by simp [hx]
    by_cases hy : y = 0
    · have hy' : (y != 0) = false := by simp [hy]
      by_cases hz : z = 0
      · have hz' : (z != 0) = false := by simp [hz]
        have hf : Hid (or3 x y z = 0) := by show _ = _; simp [or3, hx, hy, hz]
        clear hx hy hz
        go_enter Try.func172, Try.ntmps172
        go_wp2_with fail
        go_rounds 4
        go_returns
        go_light
        exact ⟨ret_int hf.out.symm, rfl⟩
      · have hz' : (z != 0) = true := by simp [hz]
        have hf : Hid (or3 x y z = z) := by show _ = _; simp [or3, hx, hy]
        clear hx hy hz
        go_enter Try.func172, Try.ntmps172
        go_wp2_with fail
        go_rounds 3
        go_returns
        go_light
        exact ⟨ret_int hf.out.symm, rfl⟩
    · have hy' : (y != 0) = true := by simp [hy]
      have hf : Hid (or3 x y z = y) := by show _ = _; simp [or3, hx, hy]
      clear hx hy
      go_enter Try.func172, Try.ntmps172
      go_wp2_with fail
      go_rounds 2
      go_returns
      go_light
      exact ⟨ret_int hf.out.symm, rfl⟩
  · have hx' : (x != 0) = true := by simp [hx]
    have hf : Hid (or3 x y z = x) := by show _ = _; simp [or3, hx]
    clear hx
    go_enter Try.func172, Try.ntmps172
    go_wp2_with fail
    go_rounds 1
    go_returns
    go_light
    exact ⟨ret_int hf.out.symm, rfl⟩
end Go.Proofs.Ytbmkedickkpjjaa
