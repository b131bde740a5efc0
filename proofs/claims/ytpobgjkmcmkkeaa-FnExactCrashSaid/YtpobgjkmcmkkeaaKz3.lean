/- Lists of numbers, by the laws: copied, marked from a number on. Lists of numbers, by the laws: held against one another, as they come in; a disk beside a block of numbers. -/
import Derived.Test.YtpobgjkmcmkkeaaKc
import Derived.Test.YtpobgjkmcmkkeaaKz2
import Derived.Test.YtpobgjkmcmkkeaaKq
namespace Go.Proofs.Ytpobgjkmcmkkeaa
open Go Go.RowKit Go.BigFrame

abbrev icj : Int → List Value := fun x => [Value.int .i64 x]

set_option maxHeartbeats 1000000 in
theorem laws_toInt64S (a : Option Addr) (n cap : Nat) (l : List Int) (w : World) (h : IntsAt w a n l) (hn : n ≤ 4194304) :
    Calls Try.prog 35 #[.slice a n cap] w fun e w' => e = .returned (.slice (some ⟨w.heap.size, 0, none⟩) n n) ∧ OwnAt icj 1 2 w' w.heap.size n l ∧ Below w.heap.size w w' := by
  have hlen' : Hid (l.length = n) := h.len
  have hinfo : (Try.prog.info? 2).map (fun i => (i.zero, i.size, i.bytes)) = some (some (.int .i64 0), 1, 8) := by kernel_rfl
  obtain ⟨i0, hi, hz0, hz1, hz2⟩ := info_parts hinfo
  have hmk : ∀ u : World, (Instr.makeSlice 30 (.int .i64 (n : Int)) (.int .i64 (n : Int))).run Try.prog u =
      .ok (.slice (some ⟨u.heap.size, 0, none⟩) n n) (u.alloc (.cells (madeCells #[.int .i64 0] (n * 1)) 2)) := fun u => by
    have hm := run_make (P := Try.prog) u 30 2 i0 (.int .i64 0) Try.underlying30 hi hz0 .i64 .i64 (n : Int) (n : Int) (by omega) (Int.le_refl _) (by rw [hz2]; omega) (by omega)
    simpa [hz1, Value.cells] using hm
  clear hinfo hi hz0 hz1 hz2
  go_enter Try.func35, Try.ntmps35
  go_wp2_with fail
  go_loopw [4] (fun ix wr => ∃ (k : Nat) (c : Array Value), k ≤ n ∧ ix = .int .i64 k ∧ Blk wr w.heap.size c 2 ∧ Hid (c.size = n * 1) ∧ Hid (∀ i p, i < k → l[i]? = some p → c[i]? = some (.int .i64 p)) ∧ Below w.heap.size w wr) (fun ix _ => n - (intOf ix).toNat)
  case atStart => exact ⟨0, _, Nat.zero_le _, rfl, Blk.new _ _ _, (by show _ = _; rw [Nat.mul_one]; exact size_madeCells _ _), fun i p hi => by omega, (Below.refl _ _).alloc (Nat.le_refl _) _⟩
  case round =>
    obtain ⟨k, c, hk, rfl, hblk, hcs, hcc, hB⟩ := hrel
    by_cases hlt : k < n
    · obtain ⟨b, o, p, rfl, hp, c0⟩ := ints_at' (h.below hB) hlt
      have hp' : Hid (l[k]? = some p) := hp
      clear hp hmk
      have hsz := hB.size
      have f0 := hblk.frozen k
      obtain ⟨v0, y0⟩ := hblk.has (i := k) (by rw [hcs.out]; omega)
      go_wp2
      go_roundw
      case rel =>
        refine ⟨k + 1, _, by omega, by go_num, hblk.set _ _, by show _ = _; simp [hcs.out], ?_, ?_⟩
        · intro i q hi hq
          have hcs' := hcs.out
          by_cases hik : i = k
          · subst hik
            obtain rfl : p = q := by rw [hp'.out] at hq; exact Option.some.inj hq
            simp [Array.getElem?_setIfInBounds]; omega
          · rw [Array.getElem?_setIfInBounds_ne (by omega)]
            exact hcc.out i q (by omega) hq
        · exact hB.setCell (by simp) _
      case measure => simp [intOf]; omega
    · obtain rfl : k = n := by omega
      go_wp2
      go_returns
      go_light
      refine ⟨rfl, ⟨hlen'.out, c, hblk, Nat.le_of_eq hcs.out.symm, ?_⟩, hB⟩
      intro i x hx j v hv
      have hi : i < k := by have := (List.getElem?_eq_some_iff.1 hx).1; rw [hlen'.out] at this; exact this
      have r0 := hcc.out i x hi hx
      match j, hv with
      | 0, hv => obtain rfl := Option.some.inj hv; simpa using r0
      | j + 1, hv => simp [icj] at hv

set_option maxHeartbeats 1000000 in
theorem markI_from (k0 : Nat) (b n cap : Nat) (c : Array Value) (w : World) (hb : Blk w b c 2) (hsz : n ≤ c.size) (hn : n ≤ 4194304) (hk0 : k0 ≤ 1000000000000) :
    Calls Try.prog 37 #[.slice (some ⟨b, 0, none⟩) n cap, .int .i64 k0] w fun e w' => e = .returned (.int .i64 ((k0 : Int) + (n : Int))) ∧ w.grownBy w' (some b) := by
  go_enter Try.func37, Try.ntmps37
  go_wp2_with fail
  go_loopw [1, 5] (fun kk ix wr => ∃ (k : Nat) (c' : Array Value), k ≤ n ∧ ix = .int .i64 k ∧ kk = .int .i64 ((k0 : Int) + (k : Int)) ∧ Blk wr b c' 2 ∧ Hid (c'.size = c.size) ∧ w.grownBy wr (some b)) (fun _ ix _ => n - (intOf ix).toNat)
  case atStart => exact ⟨0, c, Nat.zero_le _, rfl, by simp, hb, rfl, World.grownBy.refl _ _⟩
  case round =>
    obtain ⟨k, c', hk, rfl, rfl, hblk, hcs, hg⟩ := hrel
    by_cases hlt : k < n
    · have hc3 : k < c'.size := by rw [hcs.out]; omega
      obtain ⟨v0, y0⟩ := hblk.has (i := k) hc3
      have f0 := hblk.frozen k
      go_wp2
      go_roundw
      case rel =>
        refine ⟨k + 1, _, by omega, by go_num, ?_, hblk.set k (.int .i64 ((k0 : Int) + (k : Int))), by show _ = _; simp [hcs.out], grown_set hg _ _⟩
        show Value.int IntKind.i64 _ = Value.int IntKind.i64 _
        congr 1 <;> omega
      case measure => simp [intOf]; omega
    · obtain rfl : k = n := by omega
      go_wp2
      go_returns
      go_light
      exact ⟨rfl, hg⟩
end Go.Proofs.Ytpobgjkmcmkkeaa
namespace Go.Proofs.Ytpobgjkmcmkkeaa
open Go Go.RowKit Go.BigFrame

theorem DiskS.ofTyI {B b : Nat} {w w' : World} {v : Value} {d : Dk} {c : Array Value} (h : DiskS B w v d) (hg : w.grownBy w' (some b)) (hb : Blk w b c 2) : DiskS B w' v d := by
  obtain ⟨la, ln, lc, sa, sn, sc, oa, on, oc, hv, h1, h2, h3, h4⟩ := h
  exact ⟨la, ln, lc, sa, sn, sc, oa, on, oc, hv, h1.ty hg (rowTy_blk hb) (by decide), h2.ty hg (rowTy_blk hb) (by decide), h3.ty hg (rowTy_blk hb) (by decide), h4⟩

set_option maxHeartbeats 1000000 in
theorem laws_eqInt64J (a : Option Addr) (n cap : Nat) (a' : Option Addr) (cap' : Nat) (l : List Int) (w : World) (h : IntsAt w a n l) (h' : IntsAt w a' n l) (hn : n ≤ 4194304) :
    Calls Try.prog 36 #[.slice a n cap, .slice a' n cap'] w fun e w' => e = .returned (.bool true) ∧ Below w.heap.size w w' := by
  have hbn : ((n : Int) != (n : Int)) = false := by simp
  go_enter Try.func36, Try.ntmps36
  go_wp2_with fail
  go_loopw [5] (fun ix wr => ∃ (k : Nat), k ≤ n ∧ ix = .int .i64 k ∧ Below w.heap.size w wr) (fun ix _ => n - (intOf ix).toNat)
  case atStart => exact ⟨0, Nat.zero_le _, rfl, Below.refl _ _⟩
  case round =>
    obtain ⟨k, hk, rfl, hB⟩ := hrel
    by_cases hlt : k < n
    · obtain ⟨b, o, p, rfl, hp, c0⟩ := ints_at' (h.below hB) hlt
      obtain ⟨b', o', q, rfl, hq, d0⟩ := ints_at' (h'.below hB) hlt
      obtain rfl : p = q := by rw [hp] at hq; exact Option.some.inj hq
      clear hp hq
      have hk1 : (k : Int) < n := by omega
      have hk2 : (0 : Int) ≤ k := by omega
      have hpq' : (p != p) = false := by simp
      go_wp2_with fail
      go_quiet (fail)
      go_wp2
      go_roundw
      case rel => exact ⟨k + 1, by omega, by go_num, chain hB (drewNB _ _)⟩
      case measure => simp [intOf]; omega
    · obtain rfl : k = n := by omega
      go_wp2
      go_returns
      go_light
      exact ⟨rfl, hB⟩
theorem crashD_len (d : Dk) (keep : List Int) (t : Int) : (crashD d keep t).1.live.length ≤ 4194304 ∧ (crashD d keep t).1.safe.length ≤ 4194304 ∧ (crashD d keep t).1.ops.length ≤ 4194304 := by
  unfold crashD
  split
  · split
    · rename_i h2
      have := (filesB_all h2).1
      simp only [List.length_nil]
      omega
    · simp [noD]
  · simp [noD]
theorem markN_le {d : Dk} (h : d.live.length ≤ 4194304 ∧ d.safe.length ≤ 4194304 ∧ d.ops.length ≤ 4194304) : markN d ≤ 1000000000000 := by unfold markN; omega
end Go.Proofs.Ytpobgjkmcmkkeaa
