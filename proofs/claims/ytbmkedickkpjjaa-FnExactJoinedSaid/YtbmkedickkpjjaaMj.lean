/- The laws' budget and marks, from any number on. -/
import Derived.Test.YtbmkedickkpjjaaProg
import Derived.Test.YtbmkedickkpjjaaMk
namespace Go.Proofs.Ytbmkedickkpjjaa
open Go.RowKit Go.BigFrame

theorem laws_szPartL (a : Option Addr) (n cap : Nat) (L : Int) (w : World) (hn : n ≤ 9223372036854775807) (h0 : 0 ≤ L) (h1 : L ≤ 1048576) :
    Calls Try.prog 89 #[.slice a n cap, .int .i64 L] w fun e w' => e = .returned (.int .i64 (if n ≤ L then L - n else -1)) ∧ w' = w := by
  by_cases h : n ≤ L
  all_goals
    go_enter Try.func89, Try.ntmps89
    go_wp2
    go_returns
    go_light
    refine ⟨ret_int ?_, rfl⟩
    first | rfl | (split <;> omega)

set_option maxHeartbeats 1000000 in
theorem mark_any (b n cap : Nat) (k0 : Int) (c : Array Value) (w : World) (hb : Blk w b c 131) (hsz : n * 3 ≤ c.size) (hn : n ≤ 4194304) (hk0 : 0 ≤ k0) (hk1 : k0 ≤ 100000000) :
    Calls Try.prog 93 #[.slice (some ⟨b, 0, none⟩) n cap, .int .i64 k0] w fun e w' => e = .returned (.int .i64 (k0 + 3 * (n : Int))) ∧ w.grownBy w' (some b) := by
  go_enter Try.func93, Try.ntmps93
  go_wp2_with fail
  go_loopw [1, 5] (fun kk ix wr => ∃ (k : Nat) (c' : Array Value), k ≤ n ∧ ix = .int .i64 k ∧ kk = .int .i64 (k0 + 3 * (k : Int)) ∧ Blk wr b c' 131 ∧ Hid (c'.size = c.size) ∧ w.grownBy wr (some b)) (fun _ ix _ => n - (intOf ix).toNat)
  case atStart => exact ⟨0, c, Nat.zero_le _, rfl, by simp, hb, rfl, World.grownBy.refl _ _⟩
  case round =>
    obtain ⟨k, c', hk, rfl, rfl, hblk, hcs, hg⟩ := hrel
    by_cases hlt : k < n
    · have hc3 : k * 3 + 2 < c'.size := by rw [hcs.out]; omega
      obtain ⟨v0, y0⟩ := hblk.has (i := k * 3) (by omega)
      obtain ⟨v1, y1⟩ := hblk.has (i := k * 3 + 1) (by omega)
      obtain ⟨v2, y2⟩ := hblk.has (i := k * 3 + 2) (by omega)
      have f0 := hblk.frozen (k * 3)
      have f1 := hblk.frozen (k * 3 + 1)
      have f2 := hblk.frozen (k * 3 + 2)
      go_wp2
      go_roundw
      case rel =>
        refine ⟨k + 1, _, by omega, by go_num, ?_, ((hblk.set (k * 3) (.int .i64 (k0 + 3 * (k : Int)))).set (k * 3 + 1) (.int .i64 (k0 + 3 * (k : Int) + 1))).set (k * 3 + 2) (.int .i64 (k0 + 3 * (k : Int) + 1 + 1)), by show _ = _; simp [hcs.out], ?_⟩
        · show Value.int IntKind.i64 _ = Value.int IntKind.i64 _
          congr 1 <;> omega
        · exact grown_set (grown_set (grown_set hg _ _) _ _) _ _
      case measure => simp [intOf]; omega
    · obtain rfl : k = n := by omega
      go_wp2
      go_returns
      go_light
      exact ⟨rfl, hg⟩
end Go.Proofs.Ytbmkedickkpjjaa
