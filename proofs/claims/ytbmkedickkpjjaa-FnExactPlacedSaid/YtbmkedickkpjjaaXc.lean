/- The laws' sizes, copies and comparisons of lists of extents. -/
import Derived.Test.YtbmkedickkpjjaaProg
import Derived.Test.YtbmkedickkpjjaaXb
namespace Go.Proofs.Ytbmkedickkpjjaa
open Go.RowKit Go.BigFrame

/-- A list of extents that is within the budget. -/
def Small (n : Nat) (l : List Ex) : Prop := n ≤ 1048576 ∧ ∀ e ∈ l, e.d.size ≤ 1048576

theorem Small.strs {n : Nat} {l : List Ex} (h : Small n l) : Strs l := fun e he => by have := h.2 e he; omega

set_option maxHeartbeats 1000000 in
theorem laws_szExtentS (a : Option Addr) (n cap : Nat) (l : List Ex) (L : Int) (w : World) (h : ExsAt w a n l) (hstr : Strs l) (hn : n ≤ 9223372036854775807) (hL0 : 0 ≤ L) (hL : L ≤ 1048576) :
    Calls Try.prog 81 #[.slice a n cap, .int .i64 L] w fun e w' => (∃ r : Int, e = .returned (.int .i64 r) ∧ (r = -1 ∨ (0 ≤ r ∧ r ≤ 1048576 ∧ Small n l))) ∧ Below w.heap.size w w' := by
  have hlen : Hid (l.length = n) := h.len
  by_cases hb : L - (n : Int) < 0
  · go_enter Try.func81, Try.ntmps81
    go_wp2
    go_returns
    go_light
    exact ⟨⟨_, rfl, .inl rfl⟩, Below.refl _ _⟩
  · go_enter Try.func81, Try.ntmps81
    go_wp2_with fail
    go_loopw [1, 5] (fun lf ix wr => ∃ (k : Nat) (r : Int), k ≤ n ∧ ix = .int .i64 k ∧ lf = .int .i64 r ∧ 0 ≤ r ∧ r ≤ 1048576 ∧ Hid (∀ i e, i < k → l[i]? = some e → e.d.size ≤ 1048576) ∧ Below w.heap.size w wr) (fun _ ix _ => n - (intOf ix).toNat)
    case atStart => exact ⟨0, _, Nat.zero_le _, rfl, rfl, by omega, by omega, fun i e hi => by omega, Below.refl _ _⟩
    case round =>
      obtain ⟨k, r, hk, rfl, rfl, hr0, hr1, hI, hB⟩ := hrel
      by_cases hlt : k < n
      · obtain ⟨b, o, p, rfl, hp, c0, c1⟩ := exs_at (h.below hB) hlt
        have hp' : Hid (l[k]? = some p) := hp
        have hsz := hstr.at hp
        clear hp
        by_cases hs : r - (p.d.size : Int) < 0
        · have hf : Hid (szE r p = -1) := by show _ = _; simp [szE]; omega
          go_wp2_with fail
          refine (laws_szExtent p r _ hr0 hr1 hsz).mono ?_
          rintro e w1 ⟨rfl, hB1⟩
          rw [hf.out]
          go_wp2
          go_returns
          go_light
          exact ⟨⟨_, rfl, .inl rfl⟩, chain hB hB1⟩
        · have hf : Hid (szE r p = r - p.d.size) := by show _ = _; simp [szE]; omega
          go_wp2_with fail
          refine (laws_szExtent p r _ hr0 hr1 hsz).mono ?_
          rintro e w1 ⟨rfl, hB1⟩
          rw [hf.out]
          go_wp2
          go_roundw
          case rel =>
            refine ⟨k + 1, r - p.d.size, by omega, by go_num, rfl, by omega, by omega, ?_, chain hB hB1⟩
            intro i e hi he
            by_cases hik : i = k
            · subst hik
              rw [hp'.out] at he
              obtain rfl := Option.some.inj he
              omega
            · exact hI.out i e (by omega) he
          case measure => simp [intOf]; omega
      · obtain rfl : k = n := by omega
        go_wp2
        go_returns
        go_light
        refine ⟨⟨_, rfl, .inr ⟨hr0, hr1, by omega, ?_⟩⟩, hB⟩
        intro e he
        obtain ⟨i, hi⟩ := List.mem_iff_getElem?.1 he
        refine hI.out i e ?_ hi
        have := (List.getElem?_eq_some_iff.1 hi).1
        rw [hlen.out] at this; exact this

def eqExs : List Ex → List Ex → Bool
  | [], [] => true
  | p :: r, q :: s => eqExB p q && eqExs r s
  | _, _ => false

theorem eqExs_refl (l : List Ex) : eqExs l l = true := by
  induction l with
  | nil => rfl
  | cons p r ih => simp [eqExs, eqExB, ih]
theorem eqExs_len {l : List Ex} : ∀ {m : List Ex}, l.length ≠ m.length → eqExs l m = false := by
  induction l with
  | nil => intro m h; cases m <;> simp [eqExs] at *
  | cons p r ih => intro m h; cases m <;> simp [eqExs] at *; exact fun _ => ih h

set_option maxHeartbeats 1000000 in
theorem laws_eqExtentS (a : Option Addr) (n cap : Nat) (l : List Ex) (a' : Option Addr) (n' cap' : Nat) (m : List Ex) (w : World) (h : ExsAt w a n l) (h' : ExsAt w a' n' m) (hn : n ≤ 4194304) (hn' : n' ≤ 4194304) :
    Calls Try.prog 83 #[.slice a n cap, .slice a' n' cap'] w fun e w' => e = .returned (.bool (eqExs l m)) ∧ Below w.heap.size w w' := by
  have hlen : Hid (l.length = n) := h.len
  have hlen' : Hid (m.length = n') := h'.len
  by_cases hne : n = n'
  · subst hne
    have hbn : ((n : Int) != (n : Int)) = false := by simp
    go_enter Try.func83, Try.ntmps83
    go_wp2_with fail
    go_loopw [5] (fun ix wr => ∃ (k : Nat), k ≤ n ∧ ix = .int .i64 k ∧ Hid (eqExs l m = eqExs (l.drop k) (m.drop k)) ∧ Below w.heap.size w wr) (fun ix _ => n - (intOf ix).toNat)
    case atStart => exact ⟨0, Nat.zero_le _, rfl, rfl, Below.refl _ _⟩
    case round =>
      obtain ⟨k, hk, rfl, hI, hB⟩ := hrel
      by_cases hlt : k < n
      · obtain ⟨b, o, p, rfl, hp, c0, c1⟩ := exs_at (h.below hB) hlt
        obtain ⟨b', o', q, rfl, hq, d0, d1⟩ := exs_at (h'.below hB) hlt
        have hd : Hid (l.drop k = p :: l.drop (k + 1)) := drop_at hp
        have hd' : Hid (m.drop k = q :: m.drop (k + 1)) := drop_at hq
        clear hp hq
        have hk1 : (k : Int) < n := by omega
        have hk2 : (0 : Int) ≤ k := by omega
        cases hpq : eqExB p q
        all_goals
          go_wp2_with fail
          have g0 := gcell c0
          have g1 := gcell c1
          have g3 := gcell d0
          have g4 := gcell d1
          have hne := grw_ne wr
          refine wp_region_grow (by kernel_rfl) (by kernel_rfl) ?_
          repeat (go_big_quiet_step (first | (go_at_call 151; have qq := laws_eqExtent p q; rw [hpq] at qq; exact grow_of (qq _))))
          refine wpQuiet_nil ?_
          intro w2 hx
          have hB2 := grw_out hx
          clear hx
          go_wp2
        · go_returns
          go_light
          refine ⟨ret_bool ?_, chain hB hB2⟩
          rw [hI.out, hd.out, hd'.out]; simp only [eqExs, hpq, Bool.false_and]
        · go_roundw
          case rel => exact ⟨k + 1, by omega, by go_num, by show _ = _; rw [hI.out, hd.out, hd'.out]; simp only [eqExs, hpq, Bool.true_and], chain hB hB2⟩
          case measure => simp [intOf]; omega
      · obtain rfl : k = n := by omega
        go_wp2
        go_returns
        go_light
        refine ⟨ret_bool ?_, hB⟩
        rw [hI.out, List.drop_of_length_le (Nat.le_of_eq hlen.out), List.drop_of_length_le (Nat.le_of_eq hlen'.out)]; rfl
  · have hbn : ((n : Int) != (n' : Int)) = true := by simp; omega
    go_enter Try.func83, Try.ntmps83
    go_wp2
    go_returns
    go_light
    refine ⟨ret_bool ?_, Below.refl _ _⟩
    rw [eqExs_len (by rw [hlen.out, hlen'.out]; exact hne)]

set_option maxHeartbeats 1000000 in
theorem laws_toExtentS (a : Option Addr) (n cap : Nat) (l : List Ex) (w : World) (h : ExsAt w a n l) (hn : n ≤ 4194304) :
    Calls Try.prog 82 #[.slice a n cap] w fun e w' => e = .returned (.slice (some ⟨w.heap.size, 0, none⟩) n n) ∧ OwnAt Ex.cs 2 125 w' w.heap.size n l ∧ Below w.heap.size w w' := by
  have hlen' : Hid (l.length = n) := h.len
  have hinfo : (Try.prog.info? 125).map (fun i => (i.zero, i.size, i.bytes)) = some (some (.agg #[.int .i64 0, .string .empty]), 2, 24) := by kernel_rfl
  obtain ⟨i0, hi, hz0, hz1, hz2⟩ := info_parts hinfo
  have hmk : ∀ u : World, (Instr.makeSlice 24 (.int .i64 (n : Int)) (.int .i64 (n : Int))).run Try.prog u =
      .ok (.slice (some ⟨u.heap.size, 0, none⟩) n n) (u.alloc (.cells (madeCells #[.int .i64 0, .string .empty] (n * 2)) 125)) := fun u => by
    have hm := run_make (P := Try.prog) u 24 125 i0 (.agg #[.int .i64 0, .string .empty]) Try.underlying24 hi hz0 .i64 .i64 (n : Int) (n : Int) (by omega) (Int.le_refl _) (by rw [hz2]; omega) (by omega)
    simpa [hz1, Value.cells] using hm
  clear hinfo hi hz0 hz1 hz2
  go_enter Try.func82, Try.ntmps82
  go_wp2_with fail
  go_loopw [4] (fun ix wr => ∃ (k : Nat) (c : Array Value), k ≤ n ∧ ix = .int .i64 k ∧ Blk wr w.heap.size c 125 ∧ Hid (c.size = n * 2) ∧ Hid (∀ i p, i < k → l[i]? = some p → c[i * 2]? = some (.int .i64 p.a) ∧ c[i * 2 + 1]? = some (.string p.d)) ∧ Below w.heap.size w wr) (fun ix _ => n - (intOf ix).toNat)
  case atStart => exact ⟨0, _, Nat.zero_le _, rfl, Blk.new _ _ _, size_madeCells _ _, fun i p hi => by omega, (Below.refl _ _).alloc (Nat.le_refl _) _⟩
  case round =>
    obtain ⟨k, c, hk, rfl, hblk, hcs, hcc, hB⟩ := hrel
    by_cases hlt : k < n
    · obtain ⟨b, o, p, rfl, hp, c0, c1⟩ := exs_at (h.below hB) hlt
      have hp' : Hid (l[k]? = some p) := hp
      clear hp hmk
      go_wp2_with fail
      refine (laws_toExtent p _).mono ?_
      rintro e w1 ⟨rfl, hB1⟩
      have hb1 := hblk.below hB1
      have f0 := hb1.frozen (k * 2)
      have f1 := hb1.frozen (k * 2 + 1)
      have hsz := hB.size
      obtain ⟨v0, y0⟩ := hb1.has (i := k * 2) (by rw [hcs.out]; omega)
      obtain ⟨v1, y1⟩ := hb1.has (i := k * 2 + 1) (by rw [hcs.out]; omega)
      go_wp2
      go_roundw
      case rel =>
        refine ⟨k + 1, _, by omega, by go_num, (hb1.set _ _).set _ _, by show _ = _; simp [hcs.out], ?_, ?_⟩
        · intro i q hi hq
          have hcs' := hcs.out
          by_cases hik : i = k
          · subst hik
            obtain rfl : p = q := by rw [hp'.out] at hq; exact Option.some.inj hq
            refine ⟨?_, ?_⟩
            all_goals (simp [Array.getElem?_setIfInBounds]; omega)
          · obtain ⟨r0, r1⟩ := hcc.out i q (by omega) hq
            refine ⟨?_, ?_⟩
            all_goals (rw [Array.getElem?_setIfInBounds_ne (by omega), Array.getElem?_setIfInBounds_ne (by omega)]; assumption)
        · exact ((chain hB hB1).setCell (by simp) _).setCell (by simp) _
      case measure => simp [intOf]; omega
    · obtain rfl : k = n := by omega
      go_wp2
      go_returns
      go_light
      refine ⟨rfl, ⟨hlen'.out, c, hblk, Nat.le_of_eq hcs.out.symm, ?_⟩, hB⟩
      intro i x hx j v hv
      have hi : i < k := by have := (List.getElem?_eq_some_iff.1 hx).1; rw [hlen'.out] at this; exact this
      obtain ⟨r0, r1⟩ := hcc.out i x hi hx
      match j, hv with
      | 0, hv => obtain rfl := Option.some.inj hv; exact r0
      | 1, hv => obtain rfl := Option.some.inj hv; exact r1
      | j + 2, hv => simp [Ex.cs] at hv
end Go.Proofs.Ytbmkedickkpjjaa
