/- The laws' comparisons and marks of lists of numbers. -/
import Derived.Test.YtbmkedickkpjjaaProg
import Derived.Test.YtbmkedickkpjjaaGd
namespace Go.Proofs.Ytbmkedickkpjjaa
open Go.RowKit Go.BigFrame

def eqIs : List Int → List Int → Bool
  | [], [] => true
  | p :: r, q :: s => p == q && eqIs r s
  | _, _ => false
theorem eqIs_refl (l : List Int) : eqIs l l = true := by
  induction l with
  | nil => rfl
  | cons p r ih => simp [eqIs, ih]
theorem eqIs_len {l : List Int} : ∀ {m : List Int}, l.length ≠ m.length → eqIs l m = false := by
  induction l with
  | nil => intro m h; cases m <;> simp [eqIs] at *
  | cons p r ih => intro m h; cases m <;> simp [eqIs] at *; exact fun _ => ih h

set_option maxHeartbeats 1000000 in
theorem laws_eqInt64S (a : Option Addr) (n cap : Nat) (l : List Int) (a' : Option Addr) (n' cap' : Nat) (m : List Int) (w : World) (h : SlAt ics 1 w a n l) (h' : SlAt ics 1 w a' n' m) (hn : n ≤ 4194304) (hn' : n' ≤ 4194304) :
    Calls Try.prog 84 #[.slice a n cap, .slice a' n' cap'] w fun e w' => e = .returned (.bool (eqIs l m)) ∧ Below w.heap.size w w' := by
  have hlen : Hid (l.length = n) := h.len
  have hlen' : Hid (m.length = n') := h'.len
  by_cases hne : n = n'
  · subst hne
    have hbn : ((n : Int) != (n : Int)) = false := by simp
    go_enter Try.func84, Try.ntmps84
    go_wp2_with fail
    go_loopw [5] (fun ix wr => ∃ (k : Nat), k ≤ n ∧ ix = .int .i64 k ∧ Hid (eqIs l m = eqIs (l.drop k) (m.drop k)) ∧ Below w.heap.size w wr) (fun ix _ => n - (intOf ix).toNat)
    case atStart => exact ⟨0, Nat.zero_le _, rfl, rfl, Below.refl _ _⟩
    case round =>
      obtain ⟨k, hk, rfl, hI, hB⟩ := hrel
      by_cases hlt : k < n
      · obtain ⟨b, o, p, rfl, hp, c0⟩ := ints_at' (h.below hB) hlt
        obtain ⟨b', o', q, rfl, hq, d0⟩ := ints_at' (h'.below hB) hlt
        have hd : Hid (l.drop k = p :: l.drop (k + 1)) := drop_at hp
        have hd' : Hid (m.drop k = q :: m.drop (k + 1)) := drop_at hq
        clear hp hq
        have hk1 : (k : Int) < n := by omega
        have hk2 : (0 : Int) ≤ k := by omega
        cases hpq : (p == q)
        · have hpq' : (p != q) = true := by simp [bne, hpq]
          go_wp2_with fail
          go_quiet (fail)
          go_wp2
          go_returns
          go_light
          refine ⟨ret_bool ?_, chain hB (drewNB _ _)⟩
          rw [hI.out, hd.out, hd'.out]; simp only [eqIs, hpq, Bool.false_and]
        · have hpq' : (p != q) = false := by simp [bne, hpq]
          go_wp2_with fail
          go_quiet (fail)
          go_wp2
          go_roundw
          case rel => exact ⟨k + 1, by omega, by go_num, by show _ = _; rw [hI.out, hd.out, hd'.out]; simp only [eqIs, hpq, Bool.true_and], chain hB (drewNB _ _)⟩
          case measure => simp [intOf]; omega
      · obtain rfl : k = n := by omega
        go_wp2
        go_returns
        go_light
        refine ⟨ret_bool ?_, hB⟩
        rw [hI.out, List.drop_of_length_le (Nat.le_of_eq hlen.out), List.drop_of_length_le (Nat.le_of_eq hlen'.out)]; rfl
  · have hbn : ((n : Int) != (n' : Int)) = true := by simp; omega
    go_enter Try.func84, Try.ntmps84
    go_wp2
    go_returns
    go_light
    refine ⟨ret_bool ?_, Below.refl _ _⟩
    rw [eqIs_len (by rw [hlen.out, hlen'.out]; exact hne)]

/-- The slice holds the numbers 1, 2, 3 .. -/
def MarkI (w : World) (a : Option Addr) (n : Nat) : Prop := ∀ j, j < n → ∃ b, a = some ⟨b, 0, none⟩ ∧ w.cell? ⟨b, j, none⟩ = some (.int .i64 (1 + (j : Int)))
theorem MarkI.below {w w' : World} {a : Option Addr} {n : Nat} (h : MarkI w a n) (hb : Below w.heap.size w w') : MarkI w' a n := fun j hj => by
  obtain ⟨b, ha, hc⟩ := h j hj
  exact ⟨b, ha, bcell hb hc⟩

set_option maxHeartbeats 1000000 in
theorem markI_own (b n cap : Nat) (c : Array Value) (w : World) (hb : Blk w b c 2) (hsz : n ≤ c.size) (hn : n ≤ 4194304) :
    Calls Try.prog 86 #[.slice (some ⟨b, 0, none⟩) n cap, .int .i64 1] w fun e w' => e = .returned (.int .i64 (1 + (n : Int))) ∧ MarkI w' (some ⟨b, 0, none⟩) n ∧ w.grownBy w' (some b) := by
  go_enter Try.func86, Try.ntmps86
  go_wp2_with fail
  go_loopw [1, 5] (fun kk ix wr => ∃ (k : Nat) (c' : Array Value), k ≤ n ∧ ix = .int .i64 k ∧ kk = .int .i64 (1 + (k : Int)) ∧ Blk wr b c' 2 ∧ Hid (c'.size = c.size) ∧ Hid (∀ j, j < k → c'[j]? = some (.int .i64 (1 + (j : Int)))) ∧ w.grownBy wr (some b)) (fun _ ix _ => n - (intOf ix).toNat)
  case atStart => exact ⟨0, c, Nat.zero_le _, rfl, rfl, hb, rfl, fun j hj => (by omega), World.grownBy.refl _ _⟩
  case round =>
    obtain ⟨k, c', hk, rfl, rfl, hblk, hcs, hcc, hg⟩ := hrel
    by_cases hlt : k < n
    · have hc3 : k < c'.size := by rw [hcs.out]; omega
      obtain ⟨v0, y0⟩ := hblk.has (i := k) hc3
      have f0 := hblk.frozen k
      go_wp2
      go_roundw
      case rel =>
        refine ⟨k + 1, _, by omega, by go_num, ?_, hblk.set k (.int .i64 (1 + (k : Int))), by show _ = _; simp [hcs.out], ?_, grown_set hg _ _⟩
        · show Value.int IntKind.i64 _ = Value.int IntKind.i64 _
          congr 1 <;> omega
        · intro j hj
          by_cases hjk : j = k
          · subst hjk
            rw [Array.getElem?_setIfInBounds_self_of_lt hc3]
          · rw [Array.getElem?_setIfInBounds_ne (by omega)]
            exact hcc.out j (by omega)
      case measure => simp [intOf]; omega
    · obtain rfl : k = n := by omega
      go_wp2
      go_returns
      go_light
      exact ⟨rfl, fun j hj => ⟨b, rfl, by rw [hblk.cell]; exact hcc.out j hj⟩, hg⟩

theorem markI_res (B : Nat) (a : Option Addr) (n cap : Nat) (l : List Int) (w : World) (h : ResAt ics 1 2 w B a n cap l) (hn : n ≤ 4194304) :
    Calls Try.prog 86 #[.slice a n cap, .int .i64 1] w fun e w' => e = .returned (.int .i64 (1 + (n : Int))) ∧ MarkI w' a n ∧ w.grownBy w' (rowB a) := by
  rcases h.own with ⟨rfl, rfl, rfl⟩ | ⟨b, rfl, _, hnc, _, c, hc, hs, _⟩
  · go_enter Try.func86, Try.ntmps86
    go_wp2_with fail
    go_rounds 1
    go_returns
    exact ⟨rfl, fun j hj => (by omega), World.grownBy.refl _ _⟩
  · exact markI_own b n cap c w hc (by rw [hs]; omega) hn

set_option maxHeartbeats 1000000 in
theorem heldI (a : Option Addr) (n cap : Nat) (w : World) (h : MarkI w a n) (hn : n ≤ 4194304) :
    Calls Try.prog 87 #[.slice a n cap, .int .i64 1] w fun e w' => e = .returned (.int .i64 (1 + (n : Int))) ∧ w' = w := by
  go_enter Try.func87, Try.ntmps87
  go_wp2_with fail
  go_loop [1, 5] (fun kk ix => ∃ (k : Nat), k ≤ n ∧ ix = .int .i64 k ∧ kk = .int .i64 (1 + (k : Int))) (fun _ ix => n - (intOf ix).toNat)
  case atStart => exact ⟨0, Nat.zero_le _, rfl, rfl⟩
  case round =>
    obtain ⟨k, hk, rfl, rfl⟩ := hrel
    by_cases hlt : k < n
    · obtain ⟨b, rfl, c0⟩ := h k hlt
      have e0 : (1 + (k : Int) != 1 + (k : Int)) = false := by simp
      go_wp2
      go_round
      case rel => exact ⟨k + 1, by omega, by go_num, by show Value.int IntKind.i64 _ = Value.int IntKind.i64 _; first | rfl | (congr 1; omega) | congr 1⟩
      case measure => simp [intOf]; omega
    · obtain rfl : k = n := by omega
      go_wp2
      go_returns
      exact ⟨rfl, rfl⟩
end Go.Proofs.Ytbmkedickkpjjaa
