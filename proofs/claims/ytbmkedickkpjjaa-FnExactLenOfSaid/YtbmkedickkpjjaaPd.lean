/- Lengths; the laws' copies and comparisons of lists of parts. -/
import Derived.Test.YtbmkedickkpjjaaProg
import Derived.Test.YtbmkedickkpjjaaPc
import Derived.Test.YtbmkedickkpjjaaMem
namespace Go.Proofs.Ytbmkedickkpjjaa
open Go.RowKit Go.BigFrame

theorem spec_l2Len (a : Option Addr) (n cap : Nat) (l : List Pt) (w : World) (h : PtsAt w a n l) (hn : n ≤ 4194304) (hs : ∀ k, 0 ≤ sumN (l.take k) ∧ sumN (l.take k) ≤ 100) :
    Calls Try.prog 124 #[.slice a n cap] w fun e w' => e = .returned (.int .i64 (sumN l)) ∧ w' = w := by
  have hlen' : Hid (l.length = n) := h.len
  go_enter Try.func124, Try.ntmps124
  go_wp2_with fail
  go_loop [3, 4] (fun s ix => ∃ (k : Nat), k ≤ n ∧ ix = .int .i64 k ∧ s = .int .i64 (sumN (l.take k))) (fun _ ix => n - (intOf ix).toNat)
  case atStart => exact ⟨0, Nat.zero_le _, rfl, rfl⟩
  case round =>
    obtain ⟨k, hk, rfl, rfl⟩ := hrel
    have hs1 := hs k
    have hs2 := hs (k + 1)
    by_cases hlt : k < n
    · obtain ⟨b, o, p, rfl, hp, c0, c1, c2⟩ := pts_at h hlt
      have hst : Hid (sumN (l.take (k + 1)) = sumN (l.take k) + p.n) := sumN_take hp
      have hsb : 0 ≤ sumN (l.take k) + p.n ∧ sumN (l.take k) + p.n ≤ 100 := by rw [← hst.out]; exact hs2
      clear hp hs2
      generalize sumN (l.take k) = s at *
      go_wp2
      go_round
      case rel => exact ⟨k + 1, by omega, by go_num, by rw [hst.out]⟩
      case measure => simp [intOf]; omega
    · obtain rfl : k = n := by omega
      go_wp2
      go_returns
      go_light
      refine ⟨ret_int ?_, rfl⟩
      rw [List.take_of_length_le (Nat.le_of_eq hlen'.out)]

theorem sums_of {l : List Pt} (h : partsOkB l = true) : ∀ k, 0 ≤ sumN (l.take k) ∧ sumN (l.take k) ≤ 100 := by
  intro k
  obtain ⟨_, h1, h2⟩ := partsOkB_all h
  have := sumN_take_bd h1 k
  omega

/-- LenOf, as a plain function. -/
def lenB (l : List Pt) : Int := if partsOkB l = true then sumN l else -1

theorem spec_LenOf (a : Option Addr) (n cap : Nat) (l : List Pt) (w : World) (h : PtsAt w a n l) (hn : n ≤ 4194304) :
    Calls Try.prog 51 #[.slice a n cap] w fun e w' => e = .returned (.int .i64 (lenB l)) ∧ Below w.heap.size w w' := by
  cases hok : partsOkB l
  · have hf : Hid (lenB l = -1) := by show _ = _; simp [lenB, hok]
    go_enter Try.func51, Try.ntmps51
    go_wp2_with fail
    refine (spec_PartsOk a n cap l _ h hn).mono ?_
    rintro e w1 ⟨rfl, hB1⟩
    rw [hok]
    go_wp2
    go_returns
    go_light
    exact ⟨ret_int hf.out.symm, hB1⟩
  · have hf : Hid (lenB l = sumN l) := by show _ = _; simp [lenB, hok]
    have hs : Hid (∀ k, 0 ≤ sumN (l.take k) ∧ sumN (l.take k) ≤ 100) := sums_of hok
    go_enter Try.func51, Try.ntmps51
    go_wp2_with fail
    refine (spec_PartsOk a n cap l _ h hn).mono ?_
    rintro e w1 ⟨rfl, hB1⟩
    rw [hok]
    go_wp2_with fail
    refine (spec_l2Len a n cap l _ (h.below hB1) hn hs.out).mono ?_
    rintro e w2 ⟨rfl, rfl⟩
    go_wp2
    go_returns
    go_light
    exact ⟨ret_int hf.out.symm, hB1⟩

theorem impl_LenOf (a : Option Addr) (n cap : Nat) (l : List Pt) (w : World) (h : PtsAt w a n l) (hn : n ≤ 4194304) :
    Calls Try.prog 49 #[.slice a n cap] w fun e w' => e = .returned (.int .i64 (lenB l)) ∧ Below w.heap.size w w' := by
  cases hok : partsOkB l
  · have hf : Hid (lenB l = -1) := by show _ = _; simp [lenB, hok]
    go_enter Try.func49, Try.ntmps49
    go_wp2_with fail
    refine (impl_PartsOk a n cap l _ h hn).mono ?_
    rintro e w1 ⟨rfl, hB1⟩
    rw [hok]
    go_wp2
    go_returns
    go_light
    exact ⟨ret_int hf.out.symm, hB1⟩
  · have hf : Hid (lenB l = sumN l) := by show _ = _; simp [lenB, hok]
    have hs : Hid (∀ k, 0 ≤ sumN (l.take k) ∧ sumN (l.take k) ≤ 100) := sums_of hok
    have hlen' : Hid (l.length = n) := h.len
    go_enter Try.func49, Try.ntmps49
    go_wp2_with fail
    refine (impl_PartsOk a n cap l _ h hn).mono ?_
    rintro e w1 ⟨rfl, hB1⟩
    rw [hok]
    go_wp2_with fail
    go_loopw [3, 11] (fun s ix wr => ∃ (k : Nat), k ≤ n ∧ ix = .int .i64 k ∧ s = .int .i64 (sumN (l.take k)) ∧ Below w.heap.size w wr) (fun _ ix _ => n - (intOf ix).toNat)
    case atStart => exact ⟨0, Nat.zero_le _, rfl, rfl, hB1⟩
    case round =>
      obtain ⟨k, hk, rfl, rfl, hB⟩ := hrel
      have hs1 := hs.out k
      have hs2 := hs.out (k + 1)
      by_cases hlt : k < n
      · obtain ⟨b, o, p, rfl, hp, c0, c1, c2⟩ := pts_at (h.below hB) hlt
        have hst : Hid (sumN (l.take (k + 1)) = sumN (l.take k) + p.n) := sumN_take hp
        have hsb : 0 ≤ sumN (l.take k) + p.n ∧ sumN (l.take k) + p.n ≤ 100 := by rw [← hst.out]; exact hs2
        clear hp hs2
        generalize sumN (l.take k) = s at *
        go_wp2
        go_roundw
        case rel => exact ⟨k + 1, by omega, by go_num, by rw [hst.out], by have := hB.size; go_grown⟩
        case measure => simp [intOf]; omega
      · obtain rfl : k = n := by omega
        go_wp2
        go_returns
        go_light
        refine ⟨ret_int ?_, hB⟩
        rw [List.take_of_length_le (Nat.le_of_eq hlen'.out), hf.out]

theorem laws_toPartS (a : Option Addr) (n cap : Nat) (l : List Pt) (w : World) (h : PtsAt w a n l) (hn : n ≤ 4194304) :
    Calls Try.prog 91 #[.slice a n cap] w fun e w' => e = .returned (.slice (some ⟨w.heap.size, 0, none⟩) n n) ∧ OwnAt Pt.cs 3 131 w' w.heap.size n l ∧ Below w.heap.size w w' := by
  have hlen' : Hid (l.length = n) := h.len
  have hinfo : (Try.prog.info? 131).map (fun i => (i.zero, i.size, i.bytes)) = some (some (.agg #[.int .i64 0, .int .i64 0, .int .i64 0]), 3, 24) := by kernel_rfl
  obtain ⟨i0, hi, hz0, hz1, hz2⟩ := info_parts hinfo
  have hmk : ∀ u : World, (Instr.makeSlice 39 (.int .i64 (n : Int)) (.int .i64 (n : Int))).run Try.prog u =
      .ok (.slice (some ⟨u.heap.size, 0, none⟩) n n) (u.alloc (.cells (madeCells #[.int .i64 0, .int .i64 0, .int .i64 0] (n * 3)) 131)) := fun u => by
    have hm := run_make (P := Try.prog) u 39 131 i0 (.agg #[.int .i64 0, .int .i64 0, .int .i64 0]) Try.underlying39 hi hz0 .i64 .i64 (n : Int) (n : Int) (by omega) (Int.le_refl _) (by rw [hz2]; omega) (by omega)
    simpa [hz1, Value.cells] using hm
  clear hinfo hi hz0 hz1 hz2
  go_enter Try.func91, Try.ntmps91
  go_wp2_with fail
  go_loopw [4] (fun ix wr => ∃ (k : Nat) (c : Array Value), k ≤ n ∧ ix = .int .i64 k ∧ Blk wr w.heap.size c 131 ∧ Hid (c.size = n * 3) ∧ Hid (∀ i p, i < k → l[i]? = some p → c[i * 3]? = some (.int .i64 p.a) ∧ c[i * 3 + 1]? = some (.int .i64 p.f) ∧ c[i * 3 + 2]? = some (.int .i64 p.n)) ∧ Below w.heap.size w wr) (fun ix _ => n - (intOf ix).toNat)
  case atStart => exact ⟨0, _, Nat.zero_le _, rfl, Blk.new _ _ _, size_madeCells _ _, fun i p hi => by omega, (Below.refl _ _).alloc (Nat.le_refl _) _⟩
  case round =>
    obtain ⟨k, c, hk, rfl, hblk, hcs, hcc, hB⟩ := hrel
    by_cases hlt : k < n
    · obtain ⟨b, o, p, rfl, hp, c0, c1, c2⟩ := pts_at (h.below hB) hlt
      have hp' : Hid (l[k]? = some p) := hp
      clear hp hmk
      go_wp2_with fail
      refine (laws_toPart p _).mono ?_
      rintro e w1 ⟨rfl, hB1⟩
      have hb1 := hblk.below hB1
      have f0 := hb1.frozen (k * 3)
      have f1 := hb1.frozen (k * 3 + 1)
      have f2 := hb1.frozen (k * 3 + 2)
      have hsz := hB.size
      obtain ⟨v0, y0⟩ := hb1.has (i := k * 3) (by rw [hcs.out]; omega)
      obtain ⟨v1, y1⟩ := hb1.has (i := k * 3 + 1) (by rw [hcs.out]; omega)
      obtain ⟨v2, y2⟩ := hb1.has (i := k * 3 + 2) (by rw [hcs.out]; omega)
      go_wp2
      go_roundw
      case rel =>
        refine ⟨k + 1, _, by omega, by go_num, ((hb1.set _ _).set _ _).set _ _, by show _ = _; simp [hcs.out], ?_, ?_⟩
        · intro i q hi hq
          have hcs' := hcs.out
          by_cases hik : i = k
          · subst hik
            obtain rfl : p = q := by rw [hp'.out] at hq; exact Option.some.inj hq
            refine ⟨?_, ?_, ?_⟩
            all_goals (simp [Array.getElem?_setIfInBounds]; omega)
          · obtain ⟨r0, r1, r2⟩ := hcc.out i q (by omega) hq
            refine ⟨?_, ?_, ?_⟩
            all_goals (rw [Array.getElem?_setIfInBounds_ne (by omega), Array.getElem?_setIfInBounds_ne (by omega), Array.getElem?_setIfInBounds_ne (by omega)]; assumption)
        · exact (((chain hB hB1).setCell (by simp) _).setCell (by simp) _).setCell (by simp) _
      case measure => simp [intOf]; omega
    · obtain rfl : k = n := by omega
      go_wp2
      go_returns
      go_light
      refine ⟨rfl, ⟨hlen'.out, c, hblk, Nat.le_of_eq hcs.out.symm, ?_⟩, hB⟩
      intro i x hx j v hv
      have hi : i < k := by have := (List.getElem?_eq_some_iff.1 hx).1; rw [hlen'.out] at this; exact this
      obtain ⟨r0, r1, r2⟩ := hcc.out i x hi hx
      match j, hv with
      | 0, hv => obtain rfl := Option.some.inj hv; exact r0
      | 1, hv => obtain rfl := Option.some.inj hv; exact r1
      | 2, hv => obtain rfl := Option.some.inj hv; exact r2
      | j + 3, hv => simp [Pt.cs] at hv
end Go.Proofs.Ytbmkedickkpjjaa
