/- The laws' marks: written into a slice, and held against it. -/
import Derived.Test.YtbmkedickkpjjaaProg
import Derived.Test.YtbmkedickkpjjaaSc
namespace Go.Proofs.Ytbmkedickkpjjaa
open Go.RowKit Go.BigFrame

/-- The slice holds the numbers 1, 2, 3 .. -/
def MarkAt (w : World) (a : Option Addr) (n : Nat) : Prop := ∀ j, j < n * 3 → ∃ b, a = some ⟨b, 0, none⟩ ∧ w.cell? ⟨b, j, none⟩ = some (.int .i64 (1 + (j : Int)))

theorem MarkAt.below {w w' : World} {a : Option Addr} {n : Nat} (h : MarkAt w a n) (hb : Below w.heap.size w w') : MarkAt w' a n := fun j hj => by
  obtain ⟨b, ha, hc⟩ := h j hj
  exact ⟨b, ha, bcell hb hc⟩

set_option maxHeartbeats 1000000 in
theorem mark_own (b n cap : Nat) (c : Array Value) (w : World) (hb : Blk w b c 131) (hsz : n * 3 ≤ c.size) (hn : n ≤ 4194304) :
    Calls Try.prog 93 #[.slice (some ⟨b, 0, none⟩) n cap, .int .i64 1] w fun e w' => e = .returned (.int .i64 (1 + 3 * (n : Int))) ∧ MarkAt w' (some ⟨b, 0, none⟩) n ∧ w.grownBy w' (some b) := by
  go_enter Try.func93, Try.ntmps93
  go_wp2_with fail
  go_loopw [1, 5] (fun kk ix wr => ∃ (k : Nat) (c' : Array Value), k ≤ n ∧ ix = .int .i64 k ∧ kk = .int .i64 (1 + 3 * (k : Int)) ∧ Blk wr b c' 131 ∧ Hid (c'.size = c.size) ∧ Hid (∀ j, j < k * 3 → c'[j]? = some (.int .i64 (1 + (j : Int)))) ∧ w.grownBy wr (some b)) (fun _ ix _ => n - (intOf ix).toNat)
  case atStart => exact ⟨0, c, Nat.zero_le _, rfl, rfl, hb, rfl, fun j hj => (by omega), World.grownBy.refl _ _⟩
  case round =>
    obtain ⟨k, c', hk, rfl, rfl, hblk, hcs, hcc, hg⟩ := hrel
    by_cases hlt : k < n
    · have hc3 : k * 3 + 2 < c'.size := by rw [hcs.out]; omega
      obtain ⟨v0, y0⟩ := hblk.has (i := k * 3) (by omega)
      obtain ⟨v1, y1⟩ := hblk.has (i := k * 3 + 1) (by omega)
      obtain ⟨v2, y2⟩ := hblk.has (i := k * 3 + 2) (by omega)
      have f0 := hblk.frozen (k * 3)
      have f1 := hblk.frozen (k * 3 + 1)
      have f2 := hblk.frozen (k * 3 + 2)
      go_wp2
      go_roundw
      case rel =>
        refine ⟨k + 1, _, by omega, by go_num, ?_, ((hblk.set (k * 3) (.int .i64 (1 + 3 * (k : Int)))).set (k * 3 + 1) (.int .i64 (1 + 3 * (k : Int) + 1))).set (k * 3 + 2) (.int .i64 (1 + 3 * (k : Int) + 1 + 1)), by show _ = _; simp [hcs.out], ?_, ?_⟩
        · show Value.int IntKind.i64 _ = Value.int IntKind.i64 _
          congr 1 <;> omega
        · intro j hj
          by_cases h2 : j = k * 3 + 2
          · subst h2
            rw [Array.getElem?_setIfInBounds_self_of_lt (by simp; omega)]
            congr 2; omega
          · rw [Array.getElem?_setIfInBounds_ne (by omega)]
            by_cases h1 : j = k * 3 + 1
            · subst h1
              rw [Array.getElem?_setIfInBounds_self_of_lt (by simp; omega)]
              congr 2; omega
            · rw [Array.getElem?_setIfInBounds_ne (by omega)]
              by_cases h0 : j = k * 3
              · subst h0
                rw [Array.getElem?_setIfInBounds_self_of_lt (by omega)]
                congr 2; omega
              · rw [Array.getElem?_setIfInBounds_ne (by omega)]
                exact hcc.out j (by omega)
        · exact grown_set (grown_set (grown_set hg _ _) _ _) _ _
      case measure => simp [intOf]; omega
    · obtain rfl : k = n := by omega
      go_wp2
      go_returns
      go_light
      exact ⟨rfl, fun j hj => ⟨b, rfl, by rw [hblk.cell]; exact hcc.out j hj⟩, hg⟩

/-- The row that a slice of the call's own lies in. -/
def rowB : Option Addr → Option Nat
  | none => none
  | some ad => some ad.block

theorem mark_res (B : Nat) (a : Option Addr) (n cap : Nat) (l : List Pt) (w : World) (h : ResAt Pt.cs 3 131 w B a n cap l) (hn : n ≤ 4194304) :
    Calls Try.prog 93 #[.slice a n cap, .int .i64 1] w fun e w' => e = .returned (.int .i64 (1 + 3 * (n : Int))) ∧ MarkAt w' a n ∧ w.grownBy w' (rowB a) := by
  rcases h.own with ⟨rfl, rfl, rfl⟩ | ⟨b, rfl, _, hnc, _, c, hc, hs, _⟩
  · go_enter Try.func93, Try.ntmps93
    go_wp2_with fail
    go_rounds 1
    go_returns
    exact ⟨rfl, fun j hj => (by omega), World.grownBy.refl _ _⟩
  · exact mark_own b n cap c w hc (by rw [hs]; omega) hn

set_option maxHeartbeats 1000000 in
theorem laws_held (a : Option Addr) (n cap : Nat) (w : World) (h : MarkAt w a n) (hn : n ≤ 4194304) :
    Calls Try.prog 94 #[.slice a n cap, .int .i64 1] w fun e w' => e = .returned (.int .i64 (1 + 3 * (n : Int))) ∧ w' = w := by
  go_enter Try.func94, Try.ntmps94
  go_wp2_with fail
  go_loop [1, 5] (fun kk ix => ∃ (k : Nat), k ≤ n ∧ ix = .int .i64 k ∧ kk = .int .i64 (1 + 3 * (k : Int))) (fun _ ix => n - (intOf ix).toNat)
  case atStart => exact ⟨0, Nat.zero_le _, rfl, rfl⟩
  case round =>
    obtain ⟨k, hk, rfl, rfl⟩ := hrel
    by_cases hlt : k < n
    · obtain ⟨b, rfl, c0⟩ := h (k * 3) (by omega)
      obtain ⟨b', hb', c1⟩ := h (k * 3 + 1) (by omega)
      obtain ⟨b'', hb'', c2⟩ := h (k * 3 + 2) (by omega)
      obtain rfl : b = b' := by simpa using hb'
      obtain rfl : b = b'' := by simpa using hb''
      rw [show (1 + ((k * 3 : Nat) : Int)) = 1 + 3 * (k : Int) by omega] at c0
      rw [show (1 + ((k * 3 + 1 : Nat) : Int)) = 1 + 3 * (k : Int) + 1 by omega] at c1
      rw [show (1 + ((k * 3 + 2 : Nat) : Int)) = 1 + 3 * (k : Int) + 1 + 1 by omega] at c2
      clear hb' hb''
      generalize hkk : (1 + 3 * (k : Int)) = kk at *
      have hk1 : 0 ≤ kk := by omega
      have hk2 : kk ≤ 100000000 := by omega
      have hkh : Hid (1 + 3 * (k : Int) = kk) := hkk
      clear hkk
      have e0 : (kk != kk) = false := by simp
      have e1 : (kk + 1 != kk + 1) = false := by simp
      have e2 : (kk + 1 + 1 != kk + 1 + 1) = false := by simp
      go_wp2
      go_round
      case rel => exact ⟨k + 1, by omega, by go_num, by have := hkh.out; show Value.int IntKind.i64 _ = Value.int IntKind.i64 _; congr 1; omega⟩
      case measure => simp [intOf]; omega
    · obtain rfl : k = n := by omega
      go_wp2
      go_returns
      exact ⟨rfl, rfl⟩

theorem SlAt.grownO {α : Type} {cs : α → List Value} {sz : Nat} {w w' : World} {a : Option Addr} {n : Nat} {l : List α} {row : Option Nat} (h : SlAt cs sz w a n l) (hg : w.grownBy w' row) (hr : ∀ ad, a = some ad → some ad.block ≠ row) : SlAt cs sz w' a n l :=
  ⟨h.len, fun i x hx => by
    obtain ⟨b, o, ha, hc⟩ := h.cell i x hx
    exact ⟨b, o, ha, fun j v hv => hg.cell (hc j v hv) (hr ⟨b, o, none⟩ ha)⟩⟩
theorem below_grownO {w w1 w' : World} {row : Option Nat} (hb : Below w.heap.size w w1) (hg : w1.grownBy w' row) (hn : ∀ k, row = some k → w.heap.size ≤ k) : Below w.heap.size w w' := hb.grown hg hb.size hn
theorem rowB_ge {a : Option Addr} {B : Nat} (h : ∀ ad, a = some ad → B ≤ ad.block) : ∀ k, rowB a = some k → B ≤ k := by
  intro k hk
  cases a with
  | none => cases hk
  | some ad => have := h ad rfl; simp [rowB] at hk; omega
theorem rowB_ne {a a' : Option Addr} {B : Nat} (h : ∀ ad, a = some ad → ad.block < B) (h' : ∀ ad, a' = some ad → B ≤ ad.block) : ∀ ad, a = some ad → some ad.block ≠ rowB a' := by
  intro ad had he
  have := h ad had
  have := rowB_ge h' ad.block he.symm
  omega
end Go.Proofs.Ytbmkedickkpjjaa
