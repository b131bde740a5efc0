/- How the laws' arguments, as they are read, lie in memory: lists of parts and of extents. How the laws' arguments, as they are read, lie in memory: lists of extents. The laws' copies of lists of counts; how the laws' arguments, as they are read, lie in memory: owners and lists of counts. The laws' marks of texts. The laws' marks of texts, at a number that is told by an equation. The laws' marks of counts: written into a slice, and held against it. The laws' marks of counts, from any number on. -/
import Derived.Test.YtbjejnkeekndbaaProg
import Derived.Test.YtbjejnkeekndbaaKa
import Derived.Deep.Strs
import Derived.Deep.Slices
import Derived.SizedLaws
import Derived.Test.YtbjejnkeekndbaaKe
import Derived.Lib.SmallJoins
import Derived.Test.YtbjejnkeekndbaaKb
import Derived.Laws.BytesArg
import Derived.Test.YtbjejnkeekndbaaKd
namespace Go.Proofs.Ytbjejnkeekndbaa
open Go.ChangeShapes Go.WideShapes Go.ChangeAt Go.RowKit Go.Deep

theorem laidOut : laidOutB Try.prog = true := by kernel_rfl
theorem own : ownKnob Try.prog.godebug = none := by kernel_rfl

/-- What a slice's cells say of its address. -/
theorem spotless {w : World} {a : Addr} {n : Nat} {v : Value} (h : w.cell? (a.add n) = some v) (hn : n = 0) : ∃ b o, a = ⟨b, o, none⟩ := by
  subst hn
  obtain ⟨b, off, spot⟩ := a
  have hspot : spot = none := by simpa [Addr.add] using World.cell?_spot h
  exact ⟨b, off, by rw [hspot]⟩

theorem cells80 : Try.prog.cellsOf 148 = 3 := by kernel_rfl

theorem c2 : Try.prog.cellsOf 2 = 1 := by kernel_rfl

set_option maxRecDepth 100000 in
/-- An argument that is a list of parts. -/
theorem open_pts {H : Type} {enc : TypeId × Value → H} {w : World} {spare : Nat → Bool} {held : Bool} {a : Option Addr} {n cap : Nat} {d : DataW H} {p : List MemPlace}
    (h : DataW.Trod enc Try.prog w 0 spare held 80 (.slice a n cap) d p) : n ≤ maxLen ∧ ∃ l : List Pt, PtsAt w a n l := by
  obtain ⟨fuel, hf⟩ := h
  rcases open_slice Try.underlying80 hf with ⟨hcs, _⟩ | ⟨ad, len, cap', m, n', D, Pl, hcs, _, hl, hm, hmm, _, hel⟩
  · simp [Value.cells] at hcs
    obtain ⟨rfl, rfl, rfl⟩ := hcs
    exact ⟨Nat.zero_le _, [], rfl, fun i x hx => by simp at hx⟩
  · simp [Value.cells] at hcs
    obtain ⟨rfl, rfl, rfl⟩ := hcs
    have hle : n ≤ m := by rw [hmm]; split <;> omega
    refine ⟨Nat.le_trans hl hm, ?_⟩
    have hone : ∀ i, i < n → ∃ q : Pt, ∀ j v, q.cs[j]? = some v → w.cell? (ad.add (i * 3 + j)) = some v := by
      intro i hi
      obtain ⟨cs', h1, h2⟩ := hel i (by omega)
      rw [cells80] at h1
      obtain ⟨_, hlen, hcell⟩ := World.cells?_some h1
      obtain ⟨y0, y1, y2, _, _, _, t0, t1, t2⟩ := trod_struct3 Try.underlying148 h2
      obtain ⟨z0, e0, _, _⟩ := DataW.trod_int Try.underlying2 t0
      obtain ⟨z1, e1, _, _⟩ := DataW.trod_int Try.underlying2 t1
      obtain ⟨z2, e2, _, _⟩ := DataW.trod_int Try.underlying2 t2
      match cs', hlen with
      | [x0, x1, x2], _ =>
        simp [c2] at e0 e1 e2
        subst e0 e1 e2
        refine ⟨⟨z0, z1, z2⟩, fun j v hv => ?_⟩
        have hj : j < 3 := by have := (List.getElem?_eq_some_iff.1 hv).1; simpa [Pt.cs] using this
        have := hcell j hj
        rw [Addr.add_add] at this
        rw [this]; exact hv
    have hinh : Inhabited Pt := ⟨⟨0, 0, 0⟩⟩
    obtain ⟨L, hL⟩ := choose_lt (α := Pt) (p := fun i q => ∀ j v, q.cs[j]? = some v → w.cell? (ad.add (i * 3 + j)) = some v) hone
    refine ⟨(List.range n).map L, by simp, fun i x hx => ?_⟩
    have hi : i < n := by have := (List.getElem?_eq_some_iff.1 hx).1; simpa using this
    simp [hi] at hx
    subst hx
    have h00 := hL 0 (by omega) 0 _ rfl
    obtain ⟨b, o, rfl⟩ := spotless h00 rfl
    exact ⟨b, o, rfl, fun j v hv => by have := hL i hi j v hv; rw [Addr.add_lit] at this; rw [Nat.add_assoc]; exact this⟩
end Go.Proofs.Ytbjejnkeekndbaa
namespace Go.Proofs.Ytbjejnkeekndbaa
open Go.ChangeShapes Go.WideShapes Go.ChangeAt Go.RowKit Go.Deep

theorem cells81 : Try.prog.cellsOf 146 = 2 := by kernel_rfl
theorem c9 : Try.prog.cellsOf 9 = 1 := by kernel_rfl

set_option maxRecDepth 100000 in
/-- An argument that is a list of extents. -/
theorem open_exs {H : Type} {enc : TypeId × Value → H} {w : World} {spare : Nat → Bool} {held : Bool} {a : Option Addr} {n cap : Nat} {d : DataW H} {p : List MemPlace}
    (h : DataW.Trod enc Try.prog w 0 spare held 81 (.slice a n cap) d p) : n ≤ maxLen ∧ ∃ l : List Ex, ExsAt w a n l ∧ ∀ e ∈ l, e.d.size ≤ maxLen := by
  obtain ⟨fuel, hf⟩ := h
  rcases open_slice Try.underlying81 hf with ⟨hcs, _⟩ | ⟨ad, len, cap', m, n', D, Pl, hcs, _, hl, hm, hmm, _, hel⟩
  · simp [Value.cells] at hcs
    obtain ⟨rfl, rfl, rfl⟩ := hcs
    exact ⟨Nat.zero_le _, [], ⟨rfl, fun i x hx => by simp at hx⟩, by simp⟩
  · simp [Value.cells] at hcs
    obtain ⟨rfl, rfl, rfl⟩ := hcs
    have hle : n ≤ m := by rw [hmm]; split <;> omega
    refine ⟨Nat.le_trans hl hm, ?_⟩
    have hone : ∀ i, i < n → ∃ q : Ex, q.d.size ≤ maxLen ∧ ∀ j v, q.cs[j]? = some v → w.cell? (ad.add (i * 2 + j)) = some v := by
      intro i hi
      obtain ⟨cs', h1, h2⟩ := hel i (by omega)
      rw [cells81] at h1
      obtain ⟨_, hlen, hcell⟩ := World.cells?_some h1
      obtain ⟨y0, y1, _, _, _, t0, t1⟩ := trod_struct2 Try.underlying146 h2
      obtain ⟨z0, e0, _, _⟩ := DataW.trod_int Try.underlying2 t0
      obtain ⟨z1, e1, _, hz⟩ := DataW.trod_string Try.underlying9 t1
      match cs', hlen with
      | [x0, x1], _ =>
        simp [c2, c9] at e0 e1
        subst e0 e1
        refine ⟨⟨z0, z1⟩, hz, fun j v hv => ?_⟩
        have hj : j < 2 := by have := (List.getElem?_eq_some_iff.1 hv).1; simpa [Ex.cs] using this
        have := hcell j hj
        rw [Addr.add_add] at this
        rw [this]; exact hv
    have hinh : Inhabited Ex := ⟨⟨0, .empty⟩⟩
    obtain ⟨L, hL⟩ := choose_lt (α := Ex) (p := fun i q => q.d.size ≤ maxLen ∧ ∀ j v, q.cs[j]? = some v → w.cell? (ad.add (i * 2 + j)) = some v) hone
    refine ⟨(List.range n).map L, ⟨by simp, fun i x hx => ?_⟩, ?_⟩
    · have hi : i < n := by have := (List.getElem?_eq_some_iff.1 hx).1; simpa using this
      simp [hi] at hx
      subst hx
      have h00 := (hL 0 (by omega)).2 0 _ rfl
      obtain ⟨b, o, rfl⟩ := spotless h00 rfl
      exact ⟨b, o, rfl, fun j v hv => by have := (hL i hi).2 j v hv; rw [Addr.add_lit] at this; rw [Nat.add_assoc]; exact this⟩
    · intro e he
      obtain ⟨i, hi, rfl⟩ := List.mem_map.1 he
      exact (hL i (by simpa using hi)).1
end Go.Proofs.Ytbjejnkeekndbaa
namespace Go.Proofs.Ytbjejnkeekndbaa
open Go.ChangeShapes Go.WideShapes Go.ChangeAt Go.RowKit Go.Deep Go.BigFrame

set_option maxHeartbeats 1000000 in
theorem laws_toCountedS (a : Option Addr) (n cap : Nat) (l : List Ct) (w : World) (h : CtsAt w a n l) (hn : n ≤ 4194304) :
    Calls Try.prog 71 #[.slice a n cap] w fun e w' => e = .returned (.slice (some ⟨w.heap.size, 0, none⟩) n n) ∧ OwnAt Ct.cs 4 66 w' w.heap.size n l ∧ Below w.heap.size w w' := by
  have hlen' : Hid (l.length = n) := h.len
  have hinfo : (Try.prog.info? 66).map (fun i => (i.zero, i.size, i.bytes)) = some (some (.agg #[.int .i64 0, .int .i64 0, .string .empty, .int .i64 0]), 4, 40) := by kernel_rfl
  obtain ⟨i0, hi, hz0, hz1, hz2⟩ := info_parts hinfo
  have hmk : ∀ u : World, (Instr.makeSlice 58 (.int .i64 (n : Int)) (.int .i64 (n : Int))).run Try.prog u =
      .ok (.slice (some ⟨u.heap.size, 0, none⟩) n n) (u.alloc (.cells (madeCells #[.int .i64 0, .int .i64 0, .string .empty, .int .i64 0] (n * 4)) 66)) := fun u => by
    have hm := run_make (P := Try.prog) u 58 66 i0 (.agg #[.int .i64 0, .int .i64 0, .string .empty, .int .i64 0]) Try.underlying58 hi hz0 .i64 .i64 (n : Int) (n : Int) (by omega) (Int.le_refl _) (by rw [hz2]; omega) (by omega)
    simpa [hz1, Value.cells] using hm
  clear hinfo hi hz0 hz1 hz2
  go_enter Try.func71, Try.ntmps71
  go_wp2_with fail
  go_loopw [4] (fun ix wr => ∃ (k : Nat) (c : Array Value), k ≤ n ∧ ix = .int .i64 k ∧ Blk wr w.heap.size c 66 ∧ Hid (c.size = n * 4) ∧ Hid (∀ i p, i < k → l[i]? = some p → c[i * 4]? = some (.int .i64 p.o.a) ∧ c[i * 4 + 1]? = some (.int .i64 p.o.v) ∧ c[i * 4 + 2]? = some (.string p.o.f) ∧ c[i * 4 + 3]? = some (.int .i64 p.n)) ∧ Below w.heap.size w wr) (fun ix _ => n - (intOf ix).toNat)
  case atStart => exact ⟨0, _, Nat.zero_le _, rfl, Blk.new _ _ _, size_madeCells _ _, fun i p hi => by omega, (Below.refl _ _).alloc (Nat.le_refl _) _⟩
  case round =>
    obtain ⟨k, c, hk, rfl, hblk, hcs, hcc, hB⟩ := hrel
    by_cases hlt : k < n
    · obtain ⟨b, o, p, rfl, hp, c0, c1, c2, c3⟩ := cts_at (h.below hB) hlt
      have hp' : Hid (l[k]? = some p) := hp
      clear hp hmk
      go_wp2_with fail
      refine (laws_toCounted p _).mono ?_
      rintro e w1 ⟨rfl, hB1⟩
      have hb1 := hblk.below hB1
      have f0 := hb1.frozen (k * 4)
      have f1 := hb1.frozen (k * 4 + 1)
      have f2 := hb1.frozen (k * 4 + 2)
      have f3 := hb1.frozen (k * 4 + 3)
      have hsz := hB.size
      obtain ⟨v0, y0⟩ := hb1.has (i := k * 4) (by rw [hcs.out]; omega)
      obtain ⟨v1, y1⟩ := hb1.has (i := k * 4 + 1) (by rw [hcs.out]; omega)
      obtain ⟨v2, y2⟩ := hb1.has (i := k * 4 + 2) (by rw [hcs.out]; omega)
      obtain ⟨v3, y3⟩ := hb1.has (i := k * 4 + 3) (by rw [hcs.out]; omega)
      go_wp2
      go_roundw
      case rel =>
        refine ⟨k + 1, _, by omega, by go_num, (((hb1.set _ _).set _ _).set _ _).set _ _, by show _ = _; simp [hcs.out], ?_, ?_⟩
        · intro i q hi hq
          have hcs' := hcs.out
          by_cases hik : i = k
          · subst hik
            obtain rfl : p = q := by rw [hp'.out] at hq; exact Option.some.inj hq
            refine ⟨?_, ?_, ?_, ?_⟩
            all_goals (simp [Array.getElem?_setIfInBounds]; omega)
          · obtain ⟨r0, r1, r2, r3⟩ := hcc.out i q (by omega) hq
            refine ⟨?_, ?_, ?_, ?_⟩
            all_goals (rw [Array.getElem?_setIfInBounds_ne (by omega), Array.getElem?_setIfInBounds_ne (by omega), Array.getElem?_setIfInBounds_ne (by omega), Array.getElem?_setIfInBounds_ne (by omega)]; assumption)
        · exact ((((chain hB hB1).setCell (by simp) _).setCell (by simp) _).setCell (by simp) _).setCell (by simp) _
      case measure => simp [intOf]; omega
    · obtain rfl : k = n := by omega
      go_wp2
      go_returns
      go_light
      refine ⟨rfl, ⟨hlen'.out, c, hblk, Nat.le_of_eq hcs.out.symm, ?_⟩, hB⟩
      intro i x hx j v hv
      have hi : i < k := by have := (List.getElem?_eq_some_iff.1 hx).1; rw [hlen'.out] at this; exact this
      obtain ⟨r0, r1, r2, r3⟩ := hcc.out i x hi hx
      match j, hv with
      | 0, hv => obtain rfl := Option.some.inj hv; exact r0
      | 1, hv => obtain rfl := Option.some.inj hv; exact r1
      | 2, hv => obtain rfl := Option.some.inj hv; exact r2
      | 3, hv => obtain rfl := Option.some.inj hv; exact r3
      | j + 4, hv => simp [Ct.cs] at hv

theorem cellsC : Try.prog.cellsOf 154 = 4 := by kernel_rfl
theorem cellsO : Try.prog.cellsOf 152 = 3 := by kernel_rfl

set_option maxRecDepth 100000 in
/-- An argument that is a list of counts. -/
theorem open_cts {H : Type} {enc : TypeId × Value → H} {w : World} {spare : Nat → Bool} {held : Bool} {a : Option Addr} {n cap : Nat} {d : DataW H} {p : List MemPlace}
    (h : DataW.Trod enc Try.prog w 0 spare held 87 (.slice a n cap) d p) : n ≤ maxLen ∧ ∃ l : List Ct, CtsAt w a n l ∧ ∀ e ∈ l, e.o.f.size ≤ maxLen := by
  obtain ⟨fuel, hf⟩ := h
  rcases open_slice Try.underlying87 hf with ⟨hcs, _⟩ | ⟨ad, len, cap', m, n', D, Pl, hcs, _, hl, hm, hmm, _, hel⟩
  · simp [Value.cells] at hcs
    obtain ⟨rfl, rfl, rfl⟩ := hcs
    exact ⟨Nat.zero_le _, [], ⟨rfl, fun i x hx => by simp at hx⟩, by simp⟩
  · simp [Value.cells] at hcs
    obtain ⟨rfl, rfl, rfl⟩ := hcs
    have hle : n ≤ m := by rw [hmm]; split <;> omega
    refine ⟨Nat.le_trans hl hm, ?_⟩
    have hone : ∀ i, i < n → ∃ q : Ct, q.o.f.size ≤ maxLen ∧ ∀ j v, q.cs[j]? = some v → w.cell? (ad.add (i * 4 + j)) = some v := by
      intro i hi
      obtain ⟨cs', h1, h2⟩ := hel i (by omega)
      rw [cellsC] at h1
      obtain ⟨_, hlen, hcell⟩ := World.cells?_some h1
      obtain ⟨y0, y1, _, _, _, t0, t1⟩ := trod_struct2 Try.underlying154 h2
      obtain ⟨z0, e0, _, _⟩ := DataW.trod_int Try.underlying2 t1
      obtain ⟨u0, u1, u2, _, _, _, s0, s1, s2⟩ := trod_struct3 Try.underlying152 t0
      obtain ⟨z1, e1, _, _⟩ := DataW.trod_int Try.underlying2 s0
      obtain ⟨z2, e2, _, _⟩ := DataW.trod_int Try.underlying2 s1
      obtain ⟨z3, e3, _, hz⟩ := DataW.trod_string Try.underlying9 s2
      match cs', hlen with
      | [x0, x1, x2, x3], _ =>
        simp [c2, c9, cellsO] at e0 e1 e2 e3
        subst e0 e1 e2 e3
        refine ⟨⟨⟨z1, z2, z3⟩, z0⟩, hz, fun j v hv => ?_⟩
        have hj : j < 4 := by have := (List.getElem?_eq_some_iff.1 hv).1; simpa [Ct.cs] using this
        have := hcell j hj
        rw [Addr.add_add] at this
        rw [this]; exact hv
    have hinh : Inhabited Ct := ⟨⟨⟨0, 0, .empty⟩, 0⟩⟩
    obtain ⟨L, hL⟩ := choose_lt (α := Ct) (p := fun i q => q.o.f.size ≤ maxLen ∧ ∀ j v, q.cs[j]? = some v → w.cell? (ad.add (i * 4 + j)) = some v) hone
    refine ⟨(List.range n).map L, ⟨by simp, fun i x hx => ?_⟩, ?_⟩
    · have hi : i < n := by have := (List.getElem?_eq_some_iff.1 hx).1; simpa using this
      simp [hi] at hx
      subst hx
      have h00 := (hL 0 (by omega)).2 0 _ rfl
      obtain ⟨b, o, rfl⟩ := spotless h00 rfl
      exact ⟨b, o, rfl, fun j v hv => by have := (hL i hi).2 j v hv; rw [Addr.add_lit] at this; rw [Nat.add_assoc]; exact this⟩
    · intro e he
      obtain ⟨i, hi, rfl⟩ := List.mem_map.1 he
      exact (hL i (by simpa using hi)).1
end Go.Proofs.Ytbjejnkeekndbaa
namespace Go.Proofs.Ytbjejnkeekndbaa
open Go.RowKit Go.BigFrame

/-- The digits of k ahead of o. -/
def mtGo (k : Nat) (o : ByteArray) : ByteArray := if k = 0 then o else mtGo (k / 10) (strOfNums [48 + (k : Int) % 10] ++ o)
termination_by k
decreasing_by omega

def markT (k : Nat) : ByteArray := ByteArray.mk #[109] ++ mtGo k .empty

theorem app_size (a b : ByteArray) : (a ++ b).size = a.size + b.size := ByteArray.size_append

theorem mtGo_size : ∀ (m k : Nat) (o : ByteArray), k < 10 ^ m → (mtGo k o).size ≤ o.size + m
  | 0, k, o, h => by
    have : k = 0 := by simpa using h
    rw [mtGo, if_pos this]; omega
  | m + 1, k, o, h => by
    rw [mtGo]
    split
    · omega
    · have := mtGo_size m (k / 10) (strOfNums [48 + (k : Int) % 10] ++ o) (by rw [Nat.pow_succ] at h; omega)
      rw [app_size, strOfNums_size] at this
      simp at this
      omega

theorem markT_size {k : Nat} (h : k ≤ 100000000) : (markT k).size ≤ 20 := by
  have := mtGo_size 9 k .empty (by omega)
  unfold markT
  rw [app_size]
  have e : ByteArray.empty.size = 0 := rfl
  have e1 : (ByteArray.mk #[109]).size = 1 := rfl
  omega

set_option maxHeartbeats 1000000 in
set_option maxRecDepth 100000 in
theorem laws_markText (k : Nat) (w : World) (h1 : 1 ≤ k) (h2 : k ≤ 100000000) :
    Calls Try.prog 129 #[.int .i64 k] w fun e w' => e = .returned (.string (markT k)) ∧ Below w.heap.size w w' := by
  have hcv : ∀ (u : World) (x : Int), (convert 22 9 (.slice (some ⟨u.heap.size, 0, none⟩) 1 1)).run Try.prog (u.alloc (.cells #[.int .u8 x] 5)) = .ok (.string (strOfNums [x])) (u.alloc (.cells #[.int .u8 x] 5)) := fun u x =>
    run_convert_bytes_arg (P := Try.prog) _ 22 5 Try.underlying22 Try.underlying5 u.heap.size 0 1 1 [x] rfl (fun i hi => by obtain rfl : i = 0 := by omega
                                                                                                                            simp) 9 Try.underlying9
  go_enter Try.func129, Try.ntmps129
  go_wp2_with fail
  go_loopw [0, 3] (fun kk out wr => ∃ (j : Nat) (o : ByteArray), kk = .int .i64 j ∧ out = .string o ∧ j ≤ 100000000 ∧ Hid (∃ m, j < 10 ^ m ∧ o.size + m ≤ 9) ∧ Hid (mtGo k .empty = mtGo j o) ∧ Below w.heap.size w wr) (fun kk _ _ => (intOf kk).toNat)
  case atStart => exact ⟨k, .empty, rfl, rfl, h2, ⟨9, by omega, by decide⟩, rfl, Below.refl _ _⟩
  case round =>
    obtain ⟨j, o, rfl, rfl, hj, hm, hI, hB⟩ := hrel
    have ho : o.size ≤ 9 := by obtain ⟨m, _, h⟩ := hm.out; omega
    by_cases hlt : 0 < j
    · have hss : ¬ 9223372036854775807 < (strOfNums [48 + (j : Int) % 10]).size + o.size := by rw [strOfNums_size]; simp; omega
      go_wp2
      go_roundw
      case rel =>
        refine ⟨j / 10, _, by go_num, rfl, by omega, ?_, ?_, hB.alloc hB.size _⟩
        · obtain ⟨m, h3, h4⟩ := hm.out
          cases m with
          | zero => simp at h3; omega
          | succ m => exact ⟨m, by rw [Nat.pow_succ] at h3; omega, by rw [app_size, strOfNums_size]; simp; omega⟩
        · show _ = _
          rw [hI.out, mtGo, if_neg (by omega)]
      case measure => simp [intOf]; omega
    · obtain rfl : j = 0 := by omega
      have hss : ¬ 9223372036854775807 < (ByteArray.mk #[109]).size + o.size := by show ¬ _ < 1 + _; omega
      go_wp2
      go_returns
      go_light
      refine ⟨?_, hB⟩
      unfold markT
      rw [hI.out, mtGo, if_pos rfl]
      rfl
end Go.Proofs.Ytbjejnkeekndbaa
namespace Go.Proofs.Ytbjejnkeekndbaa
open Go.RowKit Go.BigFrame

theorem laws_markTextZ (k : Nat) (x : Int) (hx : x = k) (w : World) (h1 : 1 ≤ k) (h2 : k ≤ 100000000) :
    Calls Try.prog 129 #[.int .i64 x] w fun e w' => e = .returned (.string (markT k)) ∧ Below w.heap.size w w' := by
  subst hx; exact laws_markText k w h1 h2

end Go.Proofs.Ytbjejnkeekndbaa
namespace Go.Proofs.Ytbjejnkeekndbaa
open Go.RowKit Go.BigFrame

/-- The slice holds the marks. -/
def MarkC (w : World) (a : Option Addr) (n : Nat) : Prop := ∀ j, j < n → ∃ b, a = some ⟨b, 0, none⟩ ∧ w.cell? ⟨b, j * 4, none⟩ = some (.int .i64 (1 + 4 * (j : Int))) ∧ w.cell? ⟨b, j * 4 + 1, none⟩ = some (.int .i64 (1 + 4 * (j : Int) + 1)) ∧ w.cell? ⟨b, j * 4 + 2, none⟩ = some (.string (markT (3 + 4 * j))) ∧ w.cell? ⟨b, j * 4 + 3, none⟩ = some (.int .i64 (1 + 4 * (j : Int) + 1 + 1 + 1))

theorem MarkC.below {w w' : World} {a : Option Addr} {n : Nat} (h : MarkC w a n) (hb : Below w.heap.size w w') : MarkC w' a n := fun j hj => by
  obtain ⟨b, ha, h0, h1, h2, h3⟩ := h j hj
  exact ⟨b, ha, bcell hb h0, bcell hb h1, bcell hb h2, bcell hb h3⟩

set_option maxHeartbeats 2000000 in
set_option maxRecDepth 100000 in
theorem markC_own (b n cap : Nat) (c : Array Value) (w : World) (hb : Blk w b c 66) (hsz : n * 4 ≤ c.size) (hn : n ≤ 4194304) :
    Calls Try.prog 73 #[.slice (some ⟨b, 0, none⟩) n cap, .int .i64 1] w fun e w' => e = .returned (.int .i64 (1 + 4 * (n : Int))) ∧ MarkC w' (some ⟨b, 0, none⟩) n ∧ w.grownBy w' (some b) := by
  go_enter Try.func73, Try.ntmps73
  go_wp2_with fail
  go_loopw [1, 5] (fun kk ix wr => ∃ (k : Nat) (c' : Array Value), k ≤ n ∧ ix = .int .i64 k ∧ kk = .int .i64 (1 + 4 * (k : Int)) ∧ Blk wr b c' 66 ∧ Hid (c'.size = c.size) ∧ Hid (∀ j, j < k → c'[j * 4]? = some (.int .i64 (1 + 4 * (j : Int))) ∧ c'[j * 4 + 1]? = some (.int .i64 (1 + 4 * (j : Int) + 1)) ∧ c'[j * 4 + 2]? = some (.string (markT (3 + 4 * j))) ∧ c'[j * 4 + 3]? = some (.int .i64 (1 + 4 * (j : Int) + 1 + 1 + 1))) ∧ w.grownBy wr (some b)) (fun _ ix _ => n - (intOf ix).toNat)
  case atStart => exact ⟨0, c, Nat.zero_le _, rfl, rfl, hb, rfl, fun j hj => (by omega), World.grownBy.refl _ _⟩
  case round =>
    obtain ⟨k, c', hk, rfl, rfl, hblk, hcs, hcc, hg⟩ := hrel
    by_cases hlt : k < n
    · have hc3 : k * 4 + 3 < c'.size := by rw [hcs.out]; omega
      obtain ⟨v0, y0⟩ := hblk.has (i := k * 4) (by omega)
      obtain ⟨v1, y1⟩ := hblk.has (i := k * 4 + 1) (by omega)
      have f0 := hblk.frozen (k * 4)
      have f1 := hblk.frozen (k * 4 + 1)
      go_wp2_with fail
      refine (laws_markTextZ (3 + 4 * k) _ (by omega) _ (by omega) (by omega)).mono ?_
      rintro e w1 ⟨rfl, hB1⟩
      have hb1 := ((hblk.set (k * 4) (.int .i64 (1 + 4 * (k : Int)))).set (k * 4 + 1) (.int .i64 (1 + 4 * (k : Int) + 1))).below hB1
      have hg1 := grown_below (grown_set (grown_set hg (k * 4) (.int .i64 (1 + 4 * (k : Int)))) (k * 4 + 1) (.int .i64 (1 + 4 * (k : Int) + 1))) hB1
      clear hB1 y0 f0 y1 f1
      obtain ⟨v2, y2⟩ := hb1.has (i := k * 4 + 2) (by simp; omega)
      obtain ⟨v3, y3⟩ := hb1.has (i := k * 4 + 3) (by simp; omega)
      have f2 := hb1.frozen (k * 4 + 2)
      have f3 := hb1.frozen (k * 4 + 3)
      go_wp2
      go_roundw
      case rel =>
        refine ⟨k + 1, _, by omega, by go_num, ?_, (hb1.set (k * 4 + 2) (.string (markT (3 + 4 * k)))).set (k * 4 + 3) (.int .i64 (1 + 4 * (k : Int) + 1 + 1 + 1)), by show _ = _; simp [hcs.out], ?_, grown_set (grown_set hg1 _ _) _ _⟩
        · show Value.int IntKind.i64 _ = Value.int IntKind.i64 _
          congr 1 <;> omega
        · intro j hj
          by_cases hjk : j = k
          · subst hjk
            refine ⟨?_, ?_, ?_, ?_⟩
            all_goals (simp [Array.getElem?_setIfInBounds]; omega)
          · obtain ⟨r0, r1, r2, r3⟩ := hcc.out j (by omega)
            refine ⟨?_, ?_, ?_, ?_⟩
            all_goals (rw [Array.getElem?_setIfInBounds_ne (by omega), Array.getElem?_setIfInBounds_ne (by omega), Array.getElem?_setIfInBounds_ne (by omega), Array.getElem?_setIfInBounds_ne (by omega)]; assumption)
      case measure => simp [intOf]; omega
    · obtain rfl : k = n := by omega
      go_wp2
      go_returns
      go_light
      exact ⟨rfl, fun j hj => ⟨b, rfl, by rw [hblk.cell]; exact (hcc.out j hj).1, by rw [hblk.cell]; exact (hcc.out j hj).2.1, by rw [hblk.cell]; exact (hcc.out j hj).2.2.1, by rw [hblk.cell]; exact (hcc.out j hj).2.2.2⟩, hg⟩

theorem markC_res (B : Nat) (a : Option Addr) (n cap : Nat) (l : List Ct) (w : World) (h : ResAt Ct.cs 4 66 w B a n cap l) (hn : n ≤ 4194304) :
    Calls Try.prog 73 #[.slice a n cap, .int .i64 1] w fun e w' => e = .returned (.int .i64 (1 + 4 * (n : Int))) ∧ MarkC w' a n ∧ w.grownBy w' (rowB a) := by
  rcases h.own with ⟨rfl, rfl, rfl⟩ | ⟨b, rfl, _, hnc, _, c, hc, hs, _⟩
  · go_enter Try.func73, Try.ntmps73
    go_wp2_with fail
    go_rounds 1
    go_returns
    exact ⟨rfl, fun j hj => (by omega), World.grownBy.refl _ _⟩
  · exact markC_own b n cap c w hc (by rw [hs]; omega) hn

set_option maxHeartbeats 2000000 in
set_option maxRecDepth 100000 in
theorem heldC (a : Option Addr) (n cap : Nat) (w : World) (h : MarkC w a n) (hn : n ≤ 4194304) :
    Calls Try.prog 74 #[.slice a n cap, .int .i64 1] w fun e w' => e = .returned (.int .i64 (1 + 4 * (n : Int))) ∧ Below w.heap.size w w' := by
  go_enter Try.func74, Try.ntmps74
  go_wp2_with fail
  go_loopw [1, 5] (fun kk ix wr => ∃ (k : Nat), k ≤ n ∧ ix = .int .i64 k ∧ kk = .int .i64 (1 + 4 * (k : Int)) ∧ Below w.heap.size w wr) (fun _ ix _ => n - (intOf ix).toNat)
  case atStart => exact ⟨0, Nat.zero_le _, rfl, rfl, Below.refl _ _⟩
  case round =>
    obtain ⟨k, hk, rfl, rfl, hB⟩ := hrel
    by_cases hlt : k < n
    · obtain ⟨b, rfl, c0, c1, c2, c3⟩ := h k hlt
      replace c0 := bcell hB c0
      replace c1 := bcell hB c1
      replace c2 := bcell hB c2
      replace c3 := bcell hB c3
      generalize hkk : (1 + 4 * (k : Int)) = kk at *
      have hk1 : 0 ≤ kk := by omega
      have hk2 : kk ≤ 100000000 := by omega
      have hkh : Hid (1 + 4 * (k : Int) = kk) := hkk
      clear hkk
      have hk3 : (k : Int) < n := by omega
      have hk4 : (0 : Int) ≤ k := by omega
      have e0 : (kk != kk) = false := by simp
      have e1 : (kk + 1 != kk + 1) = false := by simp
      have e3 : (kk + 1 + 1 + 1 != kk + 1 + 1 + 1) = false := by simp
      have e2 : (!((markT (3 + 4 * k)).toList == (markT (3 + 4 * k)).toList)) = false := by simp
      go_wp2_with fail
      have g0 := gcell c0
      have g1 := gcell c1
      have g2 := gcell c2
      have g3 := gcell c3
      have hne := grw_ne wr
      refine wp_region_grow (by kernel_rfl) (by kernel_rfl) ?_
      repeat (go_big_quiet_step (first | (go_at_call 129; exact grow_of (laws_markTextZ (3 + 4 * k) (kk + 1 + 1) (by have := hkh.out; omega) _ (by omega) (by omega)))))
      refine wpQuiet_nil ?_
      intro w2 hx
      have hB2 := grw_out hx
      have d3 := bcell hB2 c3
      clear hx
      go_wp2
      go_roundw
      case rel => exact ⟨k + 1, by omega, by go_num, by have := hkh.out; show Value.int IntKind.i64 _ = Value.int IntKind.i64 _; congr 1; omega, chain hB hB2⟩
      case measure => simp [intOf]; omega
    · obtain rfl : k = n := by omega
      go_wp2
      go_returns
      exact ⟨rfl, hB⟩
end Go.Proofs.Ytbjejnkeekndbaa
namespace Go.Proofs.Ytbjejnkeekndbaa
open Go.RowKit Go.BigFrame

set_option maxHeartbeats 2000000 in
set_option maxRecDepth 100000 in
theorem markC_from (b n cap s : Nat) (c : Array Value) (w : World) (hb : Blk w b c 66) (hsz : n * 4 ≤ c.size) (hn : n ≤ 4194304) (hs : s ≤ 50000000) :
    Calls Try.prog 73 #[.slice (some ⟨b, 0, none⟩) n cap, .int .i64 (s : Int)] w fun e w' => e = .returned (.int .i64 ((s : Int) + 4 * (n : Int))) ∧ w.grownBy w' (some b) := by
  go_enter Try.func73, Try.ntmps73
  go_wp2_with fail
  go_loopw [1, 5] (fun kk ix wr => ∃ (k : Nat) (c' : Array Value), k ≤ n ∧ ix = .int .i64 k ∧ kk = .int .i64 ((s : Int) + 4 * (k : Int)) ∧ Blk wr b c' 66 ∧ Hid (c'.size = c.size) ∧ w.grownBy wr (some b)) (fun _ ix _ => n - (intOf ix).toNat)
  case atStart => exact ⟨0, c, Nat.zero_le _, rfl, rfl, hb, rfl, World.grownBy.refl _ _⟩
  case round =>
    obtain ⟨k, c', hk, rfl, rfl, hblk, hcs, hg⟩ := hrel
    by_cases hlt : k < n
    · have hc3 : k * 4 + 3 < c'.size := by rw [hcs.out]; omega
      obtain ⟨v0, y0⟩ := hblk.has (i := k * 4) (by omega)
      obtain ⟨v1, y1⟩ := hblk.has (i := k * 4 + 1) (by omega)
      have f0 := hblk.frozen (k * 4)
      have f1 := hblk.frozen (k * 4 + 1)
      go_wp2_with fail
      refine (laws_markTextZ (s + 4 * k + 2) _ (by omega) _ (by omega) (by omega)).mono ?_
      rintro e w1 ⟨rfl, hB1⟩
      have hb1 := ((hblk.set (k * 4) (.int .i64 ((s : Int) + 4 * (k : Int)))).set (k * 4 + 1) (.int .i64 ((s : Int) + 4 * (k : Int) + 1))).below hB1
      have hg1 := grown_below (grown_set (grown_set hg (k * 4) (.int .i64 ((s : Int) + 4 * (k : Int)))) (k * 4 + 1) (.int .i64 ((s : Int) + 4 * (k : Int) + 1))) hB1
      clear hB1 y0 f0 y1 f1
      obtain ⟨v2, y2⟩ := hb1.has (i := k * 4 + 2) (by simp; omega)
      obtain ⟨v3, y3⟩ := hb1.has (i := k * 4 + 3) (by simp; omega)
      have f2 := hb1.frozen (k * 4 + 2)
      have f3 := hb1.frozen (k * 4 + 3)
      go_wp2
      go_roundw
      case rel =>
        refine ⟨k + 1, _, by omega, by go_num, ?_, (hb1.set (k * 4 + 2) (.string (markT (s + 4 * k + 2)))).set (k * 4 + 3) (.int .i64 ((s : Int) + 4 * (k : Int) + 1 + 1 + 1)), by show _ = _; simp [hcs.out], grown_set (grown_set hg1 _ _) _ _⟩
        show Value.int IntKind.i64 _ = Value.int IntKind.i64 _
        congr 1 <;> omega
      case measure => simp [intOf]; omega
    · obtain rfl : k = n := by omega
      go_wp2
      go_returns
      go_light
      exact ⟨rfl, hg⟩

theorem markC_fromZ (b n cap : Nat) (x : Int) (c : Array Value) (w : World) (hb : Blk w b c 66) (hsz : n * 4 ≤ c.size) (hn : n ≤ 4194304) (h0 : 0 ≤ x) (hs : x ≤ 50000000) :
    Calls Try.prog 73 #[.slice (some ⟨b, 0, none⟩) n cap, .int .i64 x] w fun e w' => e = .returned (.int .i64 (x + 4 * (n : Int))) ∧ w.grownBy w' (some b) := by
  obtain ⟨s, rfl⟩ : ∃ s : Nat, x = s := ⟨x.toNat, by omega⟩
  exact markC_from b n cap s c w hb hsz hn (by omega)
end Go.Proofs.Ytbjejnkeekndbaa
