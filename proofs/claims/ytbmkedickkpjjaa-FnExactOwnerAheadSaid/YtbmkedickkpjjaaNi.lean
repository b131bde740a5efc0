/- The laws' copies of lists of counts; how the laws' arguments, as they are read, lie in memory: owners and lists of counts. -/
import Derived.Test.YtbmkedickkpjjaaNh
import Derived.Test.YtbmkedickkpjjaaOpex
import Derived.Lib.SmallJoins
namespace Go.Proofs.Ytbmkedickkpjjaa
open Go.ChangeShapes Go.WideShapes Go.ChangeAt Go.RowKit Go.Deep Go.BigFrame

set_option maxHeartbeats 1000000 in
theorem laws_toCountedS (a : Option Addr) (n cap : Nat) (l : List Ct) (w : World) (h : CtsAt w a n l) (hn : n ≤ 4194304) :
    Calls Try.prog 99 #[.slice a n cap] w fun e w' => e = .returned (.slice (some ⟨w.heap.size, 0, none⟩) n n) ∧ OwnAt Ct.cs 4 66 w' w.heap.size n l ∧ Below w.heap.size w w' := by
  have hlen' : Hid (l.length = n) := h.len
  have hinfo : (Try.prog.info? 66).map (fun i => (i.zero, i.size, i.bytes)) = some (some (.agg #[.int .i64 0, .int .i64 0, .string .empty, .int .i64 0]), 4, 40) := by kernel_rfl
  obtain ⟨i0, hi, hz0, hz1, hz2⟩ := info_parts hinfo
  have hmk : ∀ u : World, (Instr.makeSlice 58 (.int .i64 (n : Int)) (.int .i64 (n : Int))).run Try.prog u =
      .ok (.slice (some ⟨u.heap.size, 0, none⟩) n n) (u.alloc (.cells (madeCells #[.int .i64 0, .int .i64 0, .string .empty, .int .i64 0] (n * 4)) 66)) := fun u => by
    have hm := run_make (P := Try.prog) u 58 66 i0 (.agg #[.int .i64 0, .int .i64 0, .string .empty, .int .i64 0]) Try.underlying58 hi hz0 .i64 .i64 (n : Int) (n : Int) (by omega) (Int.le_refl _) (by rw [hz2]; omega) (by omega)
    simpa [hz1, Value.cells] using hm
  clear hinfo hi hz0 hz1 hz2
  go_enter Try.func99, Try.ntmps99
  go_wp2_with fail
  go_loopw [4] (fun ix wr => ∃ (k : Nat) (c : Array Value), k ≤ n ∧ ix = .int .i64 k ∧ Blk wr w.heap.size c 66 ∧ Hid (c.size = n * 4) ∧ Hid (∀ i p, i < k → l[i]? = some p → c[i * 4]? = some (.int .i64 p.o.a) ∧ c[i * 4 + 1]? = some (.int .i64 p.o.v) ∧ c[i * 4 + 2]? = some (.string p.o.f) ∧ c[i * 4 + 3]? = some (.int .i64 p.n)) ∧ Below w.heap.size w wr) (fun ix _ => n - (intOf ix).toNat)
  case atStart => exact ⟨0, _, Nat.zero_le _, rfl, Blk.new _ _ _, size_madeCells _ _, fun i p hi => by omega, (Below.refl _ _).alloc (Nat.le_refl _) _⟩
  case round =>
    obtain ⟨k, c, hk, rfl, hblk, hcs, hcc, hB⟩ := hrel
    by_cases hlt : k < n
    · obtain ⟨b, o, p, rfl, hp, c0, c1, c2, c3⟩ := cts_at (h.below hB) hlt
      have hp' : Hid (l[k]? = some p) := hp
      clear hp hmk
      go_wp2_with fail
      refine (laws_toCounted p _).mono ?_
      rintro e w1 ⟨rfl, hB1⟩
      have hb1 := hblk.below hB1
      have f0 := hb1.frozen (k * 4)
      have f1 := hb1.frozen (k * 4 + 1)
      have f2 := hb1.frozen (k * 4 + 2)
      have f3 := hb1.frozen (k * 4 + 3)
      have hsz := hB.size
      obtain ⟨v0, y0⟩ := hb1.has (i := k * 4) (by rw [hcs.out]; omega)
      obtain ⟨v1, y1⟩ := hb1.has (i := k * 4 + 1) (by rw [hcs.out]; omega)
      obtain ⟨v2, y2⟩ := hb1.has (i := k * 4 + 2) (by rw [hcs.out]; omega)
      obtain ⟨v3, y3⟩ := hb1.has (i := k * 4 + 3) (by rw [hcs.out]; omega)
      go_wp2
      go_roundw
      case rel =>
        refine ⟨k + 1, _, by omega, by go_num, (((hb1.set _ _).set _ _).set _ _).set _ _, by show _ = _; simp [hcs.out], ?_, ?_⟩
        · intro i q hi hq
          have hcs' := hcs.out
          by_cases hik : i = k
          · subst hik
            obtain rfl : p = q := by rw [hp'.out] at hq; exact Option.some.inj hq
            refine ⟨?_, ?_, ?_, ?_⟩
            all_goals (simp [Array.getElem?_setIfInBounds]; omega)
          · obtain ⟨r0, r1, r2, r3⟩ := hcc.out i q (by omega) hq
            refine ⟨?_, ?_, ?_, ?_⟩
            all_goals (rw [Array.getElem?_setIfInBounds_ne (by omega), Array.getElem?_setIfInBounds_ne (by omega), Array.getElem?_setIfInBounds_ne (by omega), Array.getElem?_setIfInBounds_ne (by omega)]; assumption)
        · exact ((((chain hB hB1).setCell (by simp) _).setCell (by simp) _).setCell (by simp) _).setCell (by simp) _
      case measure => simp [intOf]; omega
    · obtain rfl : k = n := by omega
      go_wp2
      go_returns
      go_light
      refine ⟨rfl, ⟨hlen'.out, c, hblk, Nat.le_of_eq hcs.out.symm, ?_⟩, hB⟩
      intro i x hx j v hv
      have hi : i < k := by have := (List.getElem?_eq_some_iff.1 hx).1; rw [hlen'.out] at this; exact this
      obtain ⟨r0, r1, r2, r3⟩ := hcc.out i x hi hx
      match j, hv with
      | 0, hv => obtain rfl := Option.some.inj hv; exact r0
      | 1, hv => obtain rfl := Option.some.inj hv; exact r1
      | 2, hv => obtain rfl := Option.some.inj hv; exact r2
      | 3, hv => obtain rfl := Option.some.inj hv; exact r3
      | j + 4, hv => simp [Ct.cs] at hv

theorem cellsC : Try.prog.cellsOf 167 = 4 := by kernel_rfl
theorem cellsO : Try.prog.cellsOf 99 = 3 := by kernel_rfl

set_option maxRecDepth 100000 in
/-- An argument that is a list of counts. -/
theorem open_cts {H : Type} {enc : TypeId × Value → H} {w : World} {spare : Nat → Bool} {held : Bool} {a : Option Addr} {n cap : Nat} {d : DataW H} {p : List MemPlace}
    (h : DataW.Trod enc Try.prog w 0 spare held 103 (.slice a n cap) d p) : n ≤ maxLen ∧ ∃ l : List Ct, CtsAt w a n l ∧ ∀ e ∈ l, e.o.f.size ≤ maxLen := by
  obtain ⟨fuel, hf⟩ := h
  rcases open_slice Try.underlying103 hf with ⟨hcs, _⟩ | ⟨ad, len, cap', m, n', D, Pl, hcs, _, hl, hm, hmm, _, hel⟩
  · simp [Value.cells] at hcs
    obtain ⟨rfl, rfl, rfl⟩ := hcs
    exact ⟨Nat.zero_le _, [], ⟨rfl, fun i x hx => by simp at hx⟩, by simp⟩
  · simp [Value.cells] at hcs
    obtain ⟨rfl, rfl, rfl⟩ := hcs
    have hle : n ≤ m := by rw [hmm]; split <;> omega
    refine ⟨Nat.le_trans hl hm, ?_⟩
    have hone : ∀ i, i < n → ∃ q : Ct, q.o.f.size ≤ maxLen ∧ ∀ j v, q.cs[j]? = some v → w.cell? (ad.add (i * 4 + j)) = some v := by
      intro i hi
      obtain ⟨cs', h1, h2⟩ := hel i (by omega)
      rw [cellsC] at h1
      obtain ⟨_, hlen, hcell⟩ := World.cells?_some h1
      obtain ⟨y0, y1, _, _, _, t0, t1⟩ := trod_struct2 Try.underlying167 h2
      obtain ⟨z0, e0, _, _⟩ := DataW.trod_int Try.underlying2 t1
      obtain ⟨u0, u1, u2, _, _, _, s0, s1, s2⟩ := trod_struct3 Try.underlying99 t0
      obtain ⟨z1, e1, _, _⟩ := DataW.trod_int Try.underlying2 s0
      obtain ⟨z2, e2, _, _⟩ := DataW.trod_int Try.underlying2 s1
      obtain ⟨z3, e3, _, hz⟩ := DataW.trod_string Try.underlying9 s2
      match cs', hlen with
      | [x0, x1, x2, x3], _ =>
        simp [c2, c9, cellsO] at e0 e1 e2 e3
        subst e0 e1 e2 e3
        refine ⟨⟨⟨z1, z2, z3⟩, z0⟩, hz, fun j v hv => ?_⟩
        have hj : j < 4 := by have := (List.getElem?_eq_some_iff.1 hv).1; simpa [Ct.cs] using this
        have := hcell j hj
        rw [Addr.add_add] at this
        rw [this]; exact hv
    have hinh : Inhabited Ct := ⟨⟨⟨0, 0, .empty⟩, 0⟩⟩
    obtain ⟨L, hL⟩ := choose_lt (α := Ct) (p := fun i q => q.o.f.size ≤ maxLen ∧ ∀ j v, q.cs[j]? = some v → w.cell? (ad.add (i * 4 + j)) = some v) hone
    refine ⟨(List.range n).map L, ⟨by simp, fun i x hx => ?_⟩, ?_⟩
    · have hi : i < n := by have := (List.getElem?_eq_some_iff.1 hx).1; simpa using this
      simp [hi] at hx
      subst hx
      have h00 := (hL 0 (by omega)).2 0 _ rfl
      obtain ⟨b, o, rfl⟩ := spotless h00 rfl
      exact ⟨b, o, rfl, fun j v hv => by have := (hL i hi).2 j v hv; rw [Addr.add_lit] at this; rw [Nat.add_assoc]; exact this⟩
    · intro e he
      obtain ⟨i, hi, rfl⟩ := List.mem_map.1 he
      exact (hL i (by simpa using hi)).1
end Go.Proofs.Ytbmkedickkpjjaa
