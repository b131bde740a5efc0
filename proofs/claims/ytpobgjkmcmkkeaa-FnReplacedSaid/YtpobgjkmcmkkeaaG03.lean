/- The laws' sizes, copies and comparisons of lists of these. The laws' sizes, copies and comparisons of lists of these. Owners and counts as plain data: their order, the lists that are added up, and that two lists in order with the same sums are one. Disks, as plain functions. -/
import Derived.Test.YtpobgjkmcmkkeaaProg
import Derived.Test.YtpobgjkmcmkkeaaG02
import Derived.Test.YtpobgjkmcmkkeaaG01
import Derived.Laws.Cover1
namespace Go.Proofs.Ytpobgjkmcmkkeaa
open Go.RowKit Go.BigFrame

set_option maxHeartbeats 1000000 in
theorem laws_toFile (p : Fl) (w : World) :
    Calls Try.prog 87 #[.agg #[.string p.nm, .string p.d]] w fun e w' => e = .returned (.agg #[.string p.nm, .string p.d]) ∧ Below w.heap.size w w' := by
  obtain ⟨nm, d⟩ := p
  go_enter Try.func87, Try.ntmps87
  go_wp2
  go_returns
  go_light
  refine ⟨rfl, by go_grown⟩

def eqFl (p q : Fl) : Bool := p.nm.toList == q.nm.toList && p.d.toList == q.d.toList

set_option maxHeartbeats 1000000 in
theorem laws_eqFile (p q : Fl) (w : World) :
    Calls Try.prog 88 #[.agg #[.string p.nm, .string p.d], .agg #[.string q.nm, .string q.d]] w fun e w' => e = .returned (.bool (eqFl p q)) ∧ Below w.heap.size w w' := by
  obtain ⟨nm1, d1⟩ := p
  obtain ⟨nm2, d2⟩ := q
  go_enter Try.func88, Try.ntmps88
  go_wp2
  all_goals go_returns
  all_goals go_light
  all_goals refine ⟨?_, by go_grown⟩
  all_goals simp_all [eqFl]

/-- All bytes of it. -/
def bytesF (p : Fl) : Nat := p.nm.size + p.d.size
def szF (left : Int) (p : Fl) : Int := if left - bytesF p < 0 then -1 else left - bytesF p

set_option maxHeartbeats 1000000 in
theorem laws_szFile (p : Fl) (left : Int) (w : World) (h0 : 0 ≤ left) (h1 : left ≤ 1048576) (hd : StrF p) :
    Calls Try.prog 86 #[.agg #[.string p.nm, .string p.d], .int .i64 left] w fun e w' => e = .returned (.int .i64 (szF left p)) ∧ Below w.heap.size w w' := by
  obtain ⟨nm, d⟩ := p
  obtain ⟨gnm, gd⟩ := hd
  simp only at gnm gd
  by_cases h_nm : left - (nm.size : Int) < 0
  · have hf : Hid (szF left ⟨nm, d⟩ = -1) := by show _ = _; simp [szF, bytesF]; omega
    go_enter Try.func86, Try.ntmps86
    go_wp2
    go_returns
    go_light
    exact ⟨ret_int hf.out.symm, by go_grown⟩
  by_cases h_d : left - (nm.size : Int) - (d.size : Int) < 0
  · have hf : Hid (szF left ⟨nm, d⟩ = -1) := by show _ = _; simp [szF, bytesF]; omega
    go_enter Try.func86, Try.ntmps86
    go_wp2
    go_returns
    go_light
    exact ⟨ret_int hf.out.symm, by go_grown⟩
  have hf : Hid (szF left ⟨nm, d⟩ = left - (nm.size : Int) - (d.size : Int)) := by show _ = _; simp [szF, bytesF]; omega
  go_enter Try.func86, Try.ntmps86
  go_wp2
  go_returns
  go_light
  exact ⟨ret_int hf.out.symm, by go_grown⟩

/-- A list that is within the budget. -/
def SmallF (n : Nat) (l : List Fl) : Prop := n ≤ 1048576 ∧ ∀ e ∈ l, bytesF e ≤ 1048576
theorem SmallF.strs {n : Nat} {l : List Fl} (h : SmallF n l) : StrsF l := fun e he => by
  have := h.2 e he
  unfold bytesF at this
  exact ⟨by omega, by omega⟩

set_option maxHeartbeats 1000000 in
theorem laws_szFileS (a : Option Addr) (n cap : Nat) (l : List Fl) (L : Int) (w : World) (h : FlsAt w a n l) (hstr : StrsF l) (hn : n ≤ 9223372036854775807) (hL0 : 0 ≤ L) (hL : L ≤ 1048576) :
    Calls Try.prog 63 #[.slice a n cap, .int .i64 L] w fun e w' => (∃ r : Int, e = .returned (.int .i64 r) ∧ (r = -1 ∨ (0 ≤ r ∧ r ≤ 1048576 ∧ SmallF n l))) ∧ Below w.heap.size w w' := by
  have hlen : Hid (l.length = n) := h.len
  by_cases hb : L - (n : Int) < 0
  · go_enter Try.func63, Try.ntmps63
    go_wp2
    go_returns
    go_light
    exact ⟨⟨_, rfl, .inl rfl⟩, Below.refl _ _⟩
  · go_enter Try.func63, Try.ntmps63
    go_wp2_with fail
    go_loopw [1, 5] (fun lf ix wr => ∃ (k : Nat) (r : Int), k ≤ n ∧ ix = .int .i64 k ∧ lf = .int .i64 r ∧ 0 ≤ r ∧ r ≤ 1048576 ∧ Hid (∀ i e, i < k → l[i]? = some e → bytesF e ≤ 1048576) ∧ Below w.heap.size w wr) (fun _ ix _ => n - (intOf ix).toNat)
    case atStart => exact ⟨0, _, Nat.zero_le _, rfl, rfl, by omega, by omega, fun i e hi => by omega, Below.refl _ _⟩
    case round =>
      obtain ⟨k, r, hk, rfl, rfl, hr0, hr1, hI, hB⟩ := hrel
      by_cases hlt : k < n
      · obtain ⟨b, o, p, rfl, hp, c0, c1⟩ := fl_at (h.below hB) hlt
        have hp' : Hid (l[k]? = some p) := hp
        have hsz := hstr p (List.mem_of_getElem? hp)
        clear hp
        by_cases hs : r - (bytesF p : Int) < 0
        · have hf : Hid (szF r p = -1) := by show _ = _; simp [szF]; omega
          go_wp2_with fail
          refine (laws_szFile p r _ hr0 hr1 hsz).mono ?_
          rintro e w1 ⟨rfl, hB1⟩
          rw [hf.out]
          go_wp2
          go_returns
          go_light
          exact ⟨⟨_, rfl, .inl rfl⟩, chain hB hB1⟩
        · have hf : Hid (szF r p = r - bytesF p) := by show _ = _; simp [szF]; omega
          go_wp2_with fail
          refine (laws_szFile p r _ hr0 hr1 hsz).mono ?_
          rintro e w1 ⟨rfl, hB1⟩
          rw [hf.out]
          have hbp : Hid (bytesF p ≤ 1048576) := by show _ ≤ _; omega
          have hr2 : 0 ≤ r - (bytesF p : Int) := by omega
          have hr3 : r - (bytesF p : Int) ≤ 1048576 := by omega
          generalize r - (bytesF p : Int) = r' at *
          go_wp2
          go_roundw
          case rel =>
            refine ⟨k + 1, r', by omega, by go_num, rfl, by omega, by omega, ?_, chain hB hB1⟩
            intro i e hi he
            by_cases hik : i = k
            · subst hik
              rw [hp'.out] at he
              obtain rfl := Option.some.inj he
              exact hbp.out
            · exact hI.out i e (by omega) he
          case measure => simp [intOf]; omega
      · obtain rfl : k = n := by omega
        go_wp2
        go_returns
        go_light
        refine ⟨⟨_, rfl, .inr ⟨hr0, hr1, by omega, ?_⟩⟩, hB⟩
        intro e he
        obtain ⟨i, hi⟩ := List.mem_iff_getElem?.1 he
        refine hI.out i e ?_ hi
        have := (List.getElem?_eq_some_iff.1 hi).1
        rw [hlen.out] at this; exact this

def eqFls : List Fl → List Fl → Bool
  | [], [] => true
  | p :: r, q :: s => eqFl p q && eqFls r s
  | _, _ => false
theorem eqFls_refl (l : List Fl) : eqFls l l = true := by
  induction l with
  | nil => rfl
  | cons p r ih => simp [eqFls, eqFl, ih]
theorem eqFls_len {l : List Fl} : ∀ {m : List Fl}, l.length ≠ m.length → eqFls l m = false := by
  induction l with
  | nil => intro m h; cases m <;> simp [eqFls] at *
  | cons p r ih => intro m h; cases m <;> simp [eqFls] at *; exact fun _ => ih h

set_option maxHeartbeats 1000000 in
theorem laws_eqFileS (a : Option Addr) (n cap : Nat) (l : List Fl) (a' : Option Addr) (n' cap' : Nat) (m : List Fl) (w : World) (h : FlsAt w a n l) (h' : FlsAt w a' n' m) (hn : n ≤ 4194304) (hn' : n' ≤ 4194304) :
    Calls Try.prog 67 #[.slice a n cap, .slice a' n' cap'] w fun e w' => e = .returned (.bool (eqFls l m)) ∧ Below w.heap.size w w' := by
  have hlen : Hid (l.length = n) := h.len
  have hlen' : Hid (m.length = n') := h'.len
  by_cases hne : n = n'
  · subst hne
    have hbn : ((n : Int) != (n : Int)) = false := by simp
    go_enter Try.func67, Try.ntmps67
    go_wp2_with fail
    go_loopw [5] (fun ix wr => ∃ (k : Nat), k ≤ n ∧ ix = .int .i64 k ∧ Hid (eqFls l m = eqFls (l.drop k) (m.drop k)) ∧ Below w.heap.size w wr) (fun ix _ => n - (intOf ix).toNat)
    case atStart => exact ⟨0, Nat.zero_le _, rfl, rfl, Below.refl _ _⟩
    case round =>
      obtain ⟨k, hk, rfl, hI, hB⟩ := hrel
      by_cases hlt : k < n
      · obtain ⟨b, o, p, rfl, hp, c0, c1⟩ := fl_at (h.below hB) hlt
        obtain ⟨b', o', q, rfl, hq, d0, d1⟩ := fl_at (h'.below hB) hlt
        have hd : Hid (l.drop k = p :: l.drop (k + 1)) := drop_at hp
        have hd' : Hid (m.drop k = q :: m.drop (k + 1)) := drop_at hq
        clear hp hq
        have hk1 : (k : Int) < n := by omega
        have hk2 : (0 : Int) ≤ k := by omega
        cases hpq : eqFl p q
        all_goals
          go_wp2_with fail
          have g0 := gcell c0
          have j0 := gcell d0
          have g1 := gcell c1
          have j1 := gcell d1
          have hne := grw_ne wr
          refine wp_region_grow (by kernel_rfl) (by kernel_rfl) ?_
          repeat (go_big_quiet_step (first | (go_at_call 88; have qq := laws_eqFile p q; rw [hpq] at qq; exact grow_of (qq _))))
          refine wpQuiet_nil ?_
          intro w2 hx
          have hB2 := grw_out hx
          clear hx
          go_wp2
        · go_returns
          go_light
          refine ⟨ret_bool ?_, chain hB hB2⟩
          rw [hI.out, hd.out, hd'.out]; simp only [eqFls, hpq, Bool.false_and]
        · go_roundw
          case rel => exact ⟨k + 1, by omega, by go_num, by show _ = _; rw [hI.out, hd.out, hd'.out]; simp only [eqFls, hpq, Bool.true_and], chain hB hB2⟩
          case measure => simp [intOf]; omega
      · obtain rfl : k = n := by omega
        go_wp2
        go_returns
        go_light
        refine ⟨ret_bool ?_, hB⟩
        rw [hI.out, List.drop_of_length_le (Nat.le_of_eq hlen.out), List.drop_of_length_le (Nat.le_of_eq hlen'.out)]; rfl
  · have hbn : ((n : Int) != (n' : Int)) = true := by simp; omega
    go_enter Try.func67, Try.ntmps67
    go_wp2
    go_returns
    go_light
    refine ⟨ret_bool ?_, Below.refl _ _⟩
    rw [eqFls_len (by rw [hlen.out, hlen'.out]; exact hne)]

set_option maxHeartbeats 1000000 in
theorem laws_toFileS (a : Option Addr) (n cap : Nat) (l : List Fl) (w : World) (h : FlsAt w a n l) (hn : n ≤ 4194304) :
    Calls Try.prog 65 #[.slice a n cap] w fun e w' => e = .returned (.slice (some ⟨w.heap.size, 0, none⟩) n n) ∧ OwnAt Fl.cs 2 82 w' w.heap.size n l ∧ Below w.heap.size w w' := by
  have hlen' : Hid (l.length = n) := h.len
  have hinfo : (Try.prog.info? 82).map (fun i => (i.zero, i.size, i.bytes)) = some (some (.agg #[.string .empty, .string .empty]), 2, 32) := by kernel_rfl
  obtain ⟨i0, hi, hz0, hz1, hz2⟩ := info_parts hinfo
  have hmk : ∀ u : World, (Instr.makeSlice 24 (.int .i64 (n : Int)) (.int .i64 (n : Int))).run Try.prog u =
      .ok (.slice (some ⟨u.heap.size, 0, none⟩) n n) (u.alloc (.cells (madeCells #[.string .empty, .string .empty] (n * 2)) 82)) := fun u => by
    have hm := run_make (P := Try.prog) u 24 82 i0 (.agg #[.string .empty, .string .empty]) Try.underlying24 hi hz0 .i64 .i64 (n : Int) (n : Int) (by omega) (Int.le_refl _) (by rw [hz2]; omega) (by omega)
    simpa [hz1, Value.cells] using hm
  clear hinfo hi hz0 hz1 hz2
  go_enter Try.func65, Try.ntmps65
  go_wp2_with fail
  go_loopw [4] (fun ix wr => ∃ (k : Nat) (c : Array Value), k ≤ n ∧ ix = .int .i64 k ∧ Blk wr w.heap.size c 82 ∧ Hid (c.size = n * 2) ∧ Hid (∀ i p, i < k → l[i]? = some p → c[i * 2]? = some (.string p.nm) ∧ c[i * 2 + 1]? = some (.string p.d)) ∧ Below w.heap.size w wr) (fun ix _ => n - (intOf ix).toNat)
  case atStart => exact ⟨0, _, Nat.zero_le _, rfl, Blk.new _ _ _, size_madeCells _ _, fun i p hi => by omega, (Below.refl _ _).alloc (Nat.le_refl _) _⟩
  case round =>
    obtain ⟨k, c, hk, rfl, hblk, hcs, hcc, hB⟩ := hrel
    by_cases hlt : k < n
    · obtain ⟨b, o, p, rfl, hp, c0, c1⟩ := fl_at (h.below hB) hlt
      have hp' : Hid (l[k]? = some p) := hp
      clear hp hmk
      go_wp2_with fail
      refine (laws_toFile p _).mono ?_
      rintro e w1 ⟨rfl, hB1⟩
      have hb1 := hblk.below hB1
      have hsz := hB.size
      have f0 := hb1.frozen (k * 2)
      obtain ⟨v0, y0⟩ := hb1.has (i := k * 2) (by rw [hcs.out]; omega)
      have f1 := hb1.frozen (k * 2 + 1)
      obtain ⟨v1, y1⟩ := hb1.has (i := k * 2 + 1) (by rw [hcs.out]; omega)
      go_wp2
      go_roundw
      case rel =>
        refine ⟨k + 1, _, by omega, by go_num, ((hb1.set _ _).set _ _), by show _ = _; simp [hcs.out], ?_, ?_⟩
        · intro i q hi hq
          have hcs' := hcs.out
          by_cases hik : i = k
          · subst hik
            obtain rfl : p = q := by rw [hp'.out] at hq; exact Option.some.inj hq
            refine ⟨?_, ?_⟩
            all_goals (simp [Array.getElem?_setIfInBounds]; omega)
          · obtain ⟨r0, r1⟩ := hcc.out i q (by omega) hq
            refine ⟨?_, ?_⟩
            all_goals (rw [Array.getElem?_setIfInBounds_ne (by omega), Array.getElem?_setIfInBounds_ne (by omega)]; assumption)
        · exact (((chain hB hB1).setCell (by simp) _).setCell (by simp) _)
      case measure => simp [intOf]; omega
    · obtain rfl : k = n := by omega
      go_wp2
      go_returns
      go_light
      refine ⟨rfl, ⟨hlen'.out, c, hblk, Nat.le_of_eq hcs.out.symm, ?_⟩, hB⟩
      intro i x hx j v hv
      have hi : i < k := by have := (List.getElem?_eq_some_iff.1 hx).1; rw [hlen'.out] at this; exact this
      obtain ⟨r0, r1⟩ := hcc.out i x hi hx
      match j, hv with
      | 0, hv => obtain rfl := Option.some.inj hv; exact r0
      | 1, hv => obtain rfl := Option.some.inj hv; exact r1
      | j + 2, hv => simp [Fl.cs] at hv
end Go.Proofs.Ytpobgjkmcmkkeaa
namespace Go.Proofs.Ytpobgjkmcmkkeaa
open Go.RowKit Go.BigFrame

set_option maxHeartbeats 1000000 in
theorem laws_toDOp (p : Dp) (w : World) :
    Calls Try.prog 30 #[.agg #[.int .i64 p.k, .string p.nm, .string p.tt, .string p.d]] w fun e w' => e = .returned (.agg #[.int .i64 p.k, .string p.nm, .string p.tt, .string p.d]) ∧ Below w.heap.size w w' := by
  obtain ⟨k, nm, tt, d⟩ := p
  go_enter Try.func30, Try.ntmps30
  go_wp2
  go_returns
  go_light
  refine ⟨rfl, by go_grown⟩

def eqDp (p q : Dp) : Bool := p.k == q.k && p.nm.toList == q.nm.toList && p.tt.toList == q.tt.toList && p.d.toList == q.d.toList

set_option maxHeartbeats 1000000 in
theorem laws_eqDOp (p q : Dp) (w : World) :
    Calls Try.prog 89 #[.agg #[.int .i64 p.k, .string p.nm, .string p.tt, .string p.d], .agg #[.int .i64 q.k, .string q.nm, .string q.tt, .string q.d]] w fun e w' => e = .returned (.bool (eqDp p q)) ∧ Below w.heap.size w w' := by
  obtain ⟨k1, nm1, tt1, d1⟩ := p
  obtain ⟨k2, nm2, tt2, d2⟩ := q
  go_enter Try.func89, Try.ntmps89
  go_wp2
  all_goals go_returns
  all_goals go_light
  all_goals refine ⟨?_, by go_grown⟩
  all_goals simp_all [eqDp]

/-- All bytes of it. -/
def bytesD (p : Dp) : Nat := p.nm.size + p.tt.size + p.d.size
def szD (left : Int) (p : Dp) : Int := if left - bytesD p < 0 then -1 else left - bytesD p

set_option maxHeartbeats 1000000 in
theorem laws_szDOp (p : Dp) (left : Int) (w : World) (h0 : 0 ≤ left) (h1 : left ≤ 1048576) (hd : StrD p) :
    Calls Try.prog 29 #[.agg #[.int .i64 p.k, .string p.nm, .string p.tt, .string p.d], .int .i64 left] w fun e w' => e = .returned (.int .i64 (szD left p)) ∧ Below w.heap.size w w' := by
  obtain ⟨k, nm, tt, d⟩ := p
  obtain ⟨gnm, gtt, gd⟩ := hd
  simp only at gnm gtt gd
  by_cases h_nm : left - (nm.size : Int) < 0
  · have hf : Hid (szD left ⟨k, nm, tt, d⟩ = -1) := by show _ = _; simp [szD, bytesD]; omega
    go_enter Try.func29, Try.ntmps29
    go_wp2
    go_returns
    go_light
    exact ⟨ret_int hf.out.symm, by go_grown⟩
  by_cases h_tt : left - (nm.size : Int) - (tt.size : Int) < 0
  · have hf : Hid (szD left ⟨k, nm, tt, d⟩ = -1) := by show _ = _; simp [szD, bytesD]; omega
    go_enter Try.func29, Try.ntmps29
    go_wp2
    go_returns
    go_light
    exact ⟨ret_int hf.out.symm, by go_grown⟩
  by_cases h_d : left - (nm.size : Int) - (tt.size : Int) - (d.size : Int) < 0
  · have hf : Hid (szD left ⟨k, nm, tt, d⟩ = -1) := by show _ = _; simp [szD, bytesD]; omega
    go_enter Try.func29, Try.ntmps29
    go_wp2
    go_returns
    go_light
    exact ⟨ret_int hf.out.symm, by go_grown⟩
  have hf : Hid (szD left ⟨k, nm, tt, d⟩ = left - (nm.size : Int) - (tt.size : Int) - (d.size : Int)) := by show _ = _; simp [szD, bytesD]; omega
  go_enter Try.func29, Try.ntmps29
  go_wp2
  go_returns
  go_light
  exact ⟨ret_int hf.out.symm, by go_grown⟩

/-- A list that is within the budget. -/
def SmallD (n : Nat) (l : List Dp) : Prop := n ≤ 1048576 ∧ ∀ e ∈ l, bytesD e ≤ 1048576
theorem SmallD.strs {n : Nat} {l : List Dp} (h : SmallD n l) : StrsD l := fun e he => by
  have := h.2 e he
  unfold bytesD at this
  exact ⟨by omega, by omega, by omega⟩

set_option maxHeartbeats 1000000 in
theorem laws_szDOpS (a : Option Addr) (n cap : Nat) (l : List Dp) (L : Int) (w : World) (h : DpsAt w a n l) (hstr : StrsD l) (hn : n ≤ 9223372036854775807) (hL0 : 0 ≤ L) (hL : L ≤ 1048576) :
    Calls Try.prog 64 #[.slice a n cap, .int .i64 L] w fun e w' => (∃ r : Int, e = .returned (.int .i64 r) ∧ (r = -1 ∨ (0 ≤ r ∧ r ≤ 1048576 ∧ SmallD n l))) ∧ Below w.heap.size w w' := by
  have hlen : Hid (l.length = n) := h.len
  by_cases hb : L - (n : Int) < 0
  · go_enter Try.func64, Try.ntmps64
    go_wp2
    go_returns
    go_light
    exact ⟨⟨_, rfl, .inl rfl⟩, Below.refl _ _⟩
  · go_enter Try.func64, Try.ntmps64
    go_wp2_with fail
    go_loopw [1, 5] (fun lf ix wr => ∃ (k : Nat) (r : Int), k ≤ n ∧ ix = .int .i64 k ∧ lf = .int .i64 r ∧ 0 ≤ r ∧ r ≤ 1048576 ∧ Hid (∀ i e, i < k → l[i]? = some e → bytesD e ≤ 1048576) ∧ Below w.heap.size w wr) (fun _ ix _ => n - (intOf ix).toNat)
    case atStart => exact ⟨0, _, Nat.zero_le _, rfl, rfl, by omega, by omega, fun i e hi => by omega, Below.refl _ _⟩
    case round =>
      obtain ⟨k, r, hk, rfl, rfl, hr0, hr1, hI, hB⟩ := hrel
      by_cases hlt : k < n
      · obtain ⟨b, o, p, rfl, hp, c0, c1, c2, c3⟩ := dp_at (h.below hB) hlt
        have hp' : Hid (l[k]? = some p) := hp
        have hsz := hstr p (List.mem_of_getElem? hp)
        clear hp
        by_cases hs : r - (bytesD p : Int) < 0
        · have hf : Hid (szD r p = -1) := by show _ = _; simp [szD]; omega
          go_wp2_with fail
          refine (laws_szDOp p r _ hr0 hr1 hsz).mono ?_
          rintro e w1 ⟨rfl, hB1⟩
          rw [hf.out]
          go_wp2
          go_returns
          go_light
          exact ⟨⟨_, rfl, .inl rfl⟩, chain hB hB1⟩
        · have hf : Hid (szD r p = r - bytesD p) := by show _ = _; simp [szD]; omega
          go_wp2_with fail
          refine (laws_szDOp p r _ hr0 hr1 hsz).mono ?_
          rintro e w1 ⟨rfl, hB1⟩
          rw [hf.out]
          have hbp : Hid (bytesD p ≤ 1048576) := by show _ ≤ _; omega
          have hr2 : 0 ≤ r - (bytesD p : Int) := by omega
          have hr3 : r - (bytesD p : Int) ≤ 1048576 := by omega
          generalize r - (bytesD p : Int) = r' at *
          go_wp2
          go_roundw
          case rel =>
            refine ⟨k + 1, r', by omega, by go_num, rfl, by omega, by omega, ?_, chain hB hB1⟩
            intro i e hi he
            by_cases hik : i = k
            · subst hik
              rw [hp'.out] at he
              obtain rfl := Option.some.inj he
              exact hbp.out
            · exact hI.out i e (by omega) he
          case measure => simp [intOf]; omega
      · obtain rfl : k = n := by omega
        go_wp2
        go_returns
        go_light
        refine ⟨⟨_, rfl, .inr ⟨hr0, hr1, by omega, ?_⟩⟩, hB⟩
        intro e he
        obtain ⟨i, hi⟩ := List.mem_iff_getElem?.1 he
        refine hI.out i e ?_ hi
        have := (List.getElem?_eq_some_iff.1 hi).1
        rw [hlen.out] at this; exact this

def eqDps : List Dp → List Dp → Bool
  | [], [] => true
  | p :: r, q :: s => eqDp p q && eqDps r s
  | _, _ => false
theorem eqDps_refl (l : List Dp) : eqDps l l = true := by
  induction l with
  | nil => rfl
  | cons p r ih => simp [eqDps, eqDp, ih]
theorem eqDps_len {l : List Dp} : ∀ {m : List Dp}, l.length ≠ m.length → eqDps l m = false := by
  induction l with
  | nil => intro m h; cases m <;> simp [eqDps] at *
  | cons p r ih => intro m h; cases m <;> simp [eqDps] at *; exact fun _ => ih h

set_option maxHeartbeats 1000000 in
theorem laws_eqDOpS (a : Option Addr) (n cap : Nat) (l : List Dp) (a' : Option Addr) (n' cap' : Nat) (m : List Dp) (w : World) (h : DpsAt w a n l) (h' : DpsAt w a' n' m) (hn : n ≤ 4194304) (hn' : n' ≤ 4194304) :
    Calls Try.prog 68 #[.slice a n cap, .slice a' n' cap'] w fun e w' => e = .returned (.bool (eqDps l m)) ∧ Below w.heap.size w w' := by
  have hlen : Hid (l.length = n) := h.len
  have hlen' : Hid (m.length = n') := h'.len
  by_cases hne : n = n'
  · subst hne
    have hbn : ((n : Int) != (n : Int)) = false := by simp
    go_enter Try.func68, Try.ntmps68
    go_wp2_with fail
    go_loopw [5] (fun ix wr => ∃ (k : Nat), k ≤ n ∧ ix = .int .i64 k ∧ Hid (eqDps l m = eqDps (l.drop k) (m.drop k)) ∧ Below w.heap.size w wr) (fun ix _ => n - (intOf ix).toNat)
    case atStart => exact ⟨0, Nat.zero_le _, rfl, rfl, Below.refl _ _⟩
    case round =>
      obtain ⟨k, hk, rfl, hI, hB⟩ := hrel
      by_cases hlt : k < n
      · obtain ⟨b, o, p, rfl, hp, c0, c1, c2, c3⟩ := dp_at (h.below hB) hlt
        obtain ⟨b', o', q, rfl, hq, d0, d1, d2, d3⟩ := dp_at (h'.below hB) hlt
        have hd : Hid (l.drop k = p :: l.drop (k + 1)) := drop_at hp
        have hd' : Hid (m.drop k = q :: m.drop (k + 1)) := drop_at hq
        clear hp hq
        have hk1 : (k : Int) < n := by omega
        have hk2 : (0 : Int) ≤ k := by omega
        cases hpq : eqDp p q
        all_goals
          go_wp2_with fail
          have g0 := gcell c0
          have j0 := gcell d0
          have g1 := gcell c1
          have j1 := gcell d1
          have g2 := gcell c2
          have j2 := gcell d2
          have g3 := gcell c3
          have j3 := gcell d3
          have hne := grw_ne wr
          refine wp_region_grow (by kernel_rfl) (by kernel_rfl) ?_
          repeat (go_big_quiet_step (first | (go_at_call 89; have qq := laws_eqDOp p q; rw [hpq] at qq; exact grow_of (qq _))))
          refine wpQuiet_nil ?_
          intro w2 hx
          have hB2 := grw_out hx
          clear hx
          go_wp2
        · go_returns
          go_light
          refine ⟨ret_bool ?_, chain hB hB2⟩
          rw [hI.out, hd.out, hd'.out]; simp only [eqDps, hpq, Bool.false_and]
        · go_roundw
          case rel => exact ⟨k + 1, by omega, by go_num, by show _ = _; rw [hI.out, hd.out, hd'.out]; simp only [eqDps, hpq, Bool.true_and], chain hB hB2⟩
          case measure => simp [intOf]; omega
      · obtain rfl : k = n := by omega
        go_wp2
        go_returns
        go_light
        refine ⟨ret_bool ?_, hB⟩
        rw [hI.out, List.drop_of_length_le (Nat.le_of_eq hlen.out), List.drop_of_length_le (Nat.le_of_eq hlen'.out)]; rfl
  · have hbn : ((n : Int) != (n' : Int)) = true := by simp; omega
    go_enter Try.func68, Try.ntmps68
    go_wp2
    go_returns
    go_light
    refine ⟨ret_bool ?_, Below.refl _ _⟩
    rw [eqDps_len (by rw [hlen.out, hlen'.out]; exact hne)]

set_option maxHeartbeats 1000000 in
theorem laws_toDOpS (a : Option Addr) (n cap : Nat) (l : List Dp) (w : World) (h : DpsAt w a n l) (hn : n ≤ 4194304) :
    Calls Try.prog 66 #[.slice a n cap] w fun e w' => e = .returned (.slice (some ⟨w.heap.size, 0, none⟩) n n) ∧ OwnAt Dp.cs 4 36 w' w.heap.size n l ∧ Below w.heap.size w w' := by
  have hlen' : Hid (l.length = n) := h.len
  have hinfo : (Try.prog.info? 36).map (fun i => (i.zero, i.size, i.bytes)) = some (some (.agg #[.int .i64 0, .string .empty, .string .empty, .string .empty]), 4, 56) := by kernel_rfl
  obtain ⟨i0, hi, hz0, hz1, hz2⟩ := info_parts hinfo
  have hmk : ∀ u : World, (Instr.makeSlice 25 (.int .i64 (n : Int)) (.int .i64 (n : Int))).run Try.prog u =
      .ok (.slice (some ⟨u.heap.size, 0, none⟩) n n) (u.alloc (.cells (madeCells #[.int .i64 0, .string .empty, .string .empty, .string .empty] (n * 4)) 36)) := fun u => by
    have hm := run_make (P := Try.prog) u 25 36 i0 (.agg #[.int .i64 0, .string .empty, .string .empty, .string .empty]) Try.underlying25 hi hz0 .i64 .i64 (n : Int) (n : Int) (by omega) (Int.le_refl _) (by rw [hz2]; omega) (by omega)
    simpa [hz1, Value.cells] using hm
  clear hinfo hi hz0 hz1 hz2
  go_enter Try.func66, Try.ntmps66
  go_wp2_with fail
  go_loopw [4] (fun ix wr => ∃ (k : Nat) (c : Array Value), k ≤ n ∧ ix = .int .i64 k ∧ Blk wr w.heap.size c 36 ∧ Hid (c.size = n * 4) ∧ Hid (∀ i p, i < k → l[i]? = some p → c[i * 4]? = some (.int .i64 p.k) ∧ c[i * 4 + 1]? = some (.string p.nm) ∧ c[i * 4 + 2]? = some (.string p.tt) ∧ c[i * 4 + 3]? = some (.string p.d)) ∧ Below w.heap.size w wr) (fun ix _ => n - (intOf ix).toNat)
  case atStart => exact ⟨0, _, Nat.zero_le _, rfl, Blk.new _ _ _, size_madeCells _ _, fun i p hi => by omega, (Below.refl _ _).alloc (Nat.le_refl _) _⟩
  case round =>
    obtain ⟨k, c, hk, rfl, hblk, hcs, hcc, hB⟩ := hrel
    by_cases hlt : k < n
    · obtain ⟨b, o, p, rfl, hp, c0, c1, c2, c3⟩ := dp_at (h.below hB) hlt
      have hp' : Hid (l[k]? = some p) := hp
      clear hp hmk
      go_wp2_with fail
      refine (laws_toDOp p _).mono ?_
      rintro e w1 ⟨rfl, hB1⟩
      have hb1 := hblk.below hB1
      have hsz := hB.size
      have f0 := hb1.frozen (k * 4)
      obtain ⟨v0, y0⟩ := hb1.has (i := k * 4) (by rw [hcs.out]; omega)
      have f1 := hb1.frozen (k * 4 + 1)
      obtain ⟨v1, y1⟩ := hb1.has (i := k * 4 + 1) (by rw [hcs.out]; omega)
      have f2 := hb1.frozen (k * 4 + 2)
      obtain ⟨v2, y2⟩ := hb1.has (i := k * 4 + 2) (by rw [hcs.out]; omega)
      have f3 := hb1.frozen (k * 4 + 3)
      obtain ⟨v3, y3⟩ := hb1.has (i := k * 4 + 3) (by rw [hcs.out]; omega)
      go_wp2
      go_roundw
      case rel =>
        refine ⟨k + 1, _, by omega, by go_num, ((((hb1.set _ _).set _ _).set _ _).set _ _), by show _ = _; simp [hcs.out], ?_, ?_⟩
        · intro i q hi hq
          have hcs' := hcs.out
          by_cases hik : i = k
          · subst hik
            obtain rfl : p = q := by rw [hp'.out] at hq; exact Option.some.inj hq
            refine ⟨?_, ?_, ?_, ?_⟩
            all_goals (simp [Array.getElem?_setIfInBounds]; omega)
          · obtain ⟨r0, r1, r2, r3⟩ := hcc.out i q (by omega) hq
            refine ⟨?_, ?_, ?_, ?_⟩
            all_goals (rw [Array.getElem?_setIfInBounds_ne (by omega), Array.getElem?_setIfInBounds_ne (by omega), Array.getElem?_setIfInBounds_ne (by omega), Array.getElem?_setIfInBounds_ne (by omega)]; assumption)
        · exact (((((chain hB hB1).setCell (by simp) _).setCell (by simp) _).setCell (by simp) _).setCell (by simp) _)
      case measure => simp [intOf]; omega
    · obtain rfl : k = n := by omega
      go_wp2
      go_returns
      go_light
      refine ⟨rfl, ⟨hlen'.out, c, hblk, Nat.le_of_eq hcs.out.symm, ?_⟩, hB⟩
      intro i x hx j v hv
      have hi : i < k := by have := (List.getElem?_eq_some_iff.1 hx).1; rw [hlen'.out] at this; exact this
      obtain ⟨r0, r1, r2, r3⟩ := hcc.out i x hi hx
      match j, hv with
      | 0, hv => obtain rfl := Option.some.inj hv; exact r0
      | 1, hv => obtain rfl := Option.some.inj hv; exact r1
      | 2, hv => obtain rfl := Option.some.inj hv; exact r2
      | 3, hv => obtain rfl := Option.some.inj hv; exact r3
      | j + 4, hv => simp [Dp.cs] at hv
end Go.Proofs.Ytpobgjkmcmkkeaa
namespace Go.Proofs.Ytpobgjkmcmkkeaa
open Go.RowKit

/-- An owner: Addr, Vol, File. -/
structure Ow where
  a : Int
  v : Int
  f : ByteArray

/-- A count: Owner, N. -/
structure Ct where
  o : Ow
  n : Int

def Ow.vs (o : Ow) : Array Value := #[.int .i64 o.a, .int .i64 o.v, .string o.f]
/-- The cells of a count. -/
def Ct.cs (c : Ct) : List Value := [.int .i64 c.o.a, .int .i64 c.o.v, .string c.o.f, .int .i64 c.n]

abbrev CtsAt := SlAt Ct.cs 4

theorem cts_at {w : World} {a : Option Addr} {n : Nat} {l : List Ct} (h : CtsAt w a n l) {k : Nat} (hk : k < n) :
    ∃ b o p, a = some ⟨b, o, none⟩ ∧ l[k]? = some p ∧ w.cell? ⟨b, o + k * 4, none⟩ = some (.int .i64 p.o.a) ∧ w.cell? ⟨b, o + k * 4 + 1, none⟩ = some (.int .i64 p.o.v) ∧ w.cell? ⟨b, o + k * 4 + 2, none⟩ = some (.string p.o.f) ∧ w.cell? ⟨b, o + k * 4 + 3, none⟩ = some (.int .i64 p.n) := by
  have hl : k < l.length := by rw [h.len]; exact hk
  have hx : l[k]? = some l[k] := by simp [hl]
  obtain ⟨b, o, ha, hc⟩ := h.cell k _ hx
  exact ⟨b, o, l[k], ha, hx, hc 0 _ rfl, hc 1 _ rfl, hc 2 _ rfl, hc 3 _ rfl⟩

/-! ### The order of texts -/
abbrev bl := Op.bytesLess

theorem bl_irrefl : ∀ x : List UInt8, bl x x = false
  | [] => rfl
  | a :: x => by simp [bl, Op.bytesLess]; exact bl_irrefl x
theorem bl_total : ∀ {x y : List UInt8}, bl x y = false → x ≠ y → bl y x = true
  | [], [], _, h => absurd rfl h
  | [], b :: y, h, _ => by simp [bl, Op.bytesLess] at h
  | a :: x, [], _, _ => rfl
  | a :: x, b :: y, h, hne => by
    simp only [bl, Op.bytesLess, Bool.or_eq_false_iff, Bool.and_eq_false_iff, decide_eq_false_iff_not] at h
    obtain ⟨h1, h2⟩ := h
    simp only [bl, Op.bytesLess, Bool.or_eq_true, Bool.and_eq_true, decide_eq_true_eq, beq_iff_eq]
    by_cases hab : a = b
    · subst hab
      right
      refine ⟨rfl, bl_total (h2.resolve_left (by simp)) (fun e => hne (by rw [e]))⟩
    · left
      have h1' : b.toNat ≤ a.toNat := by simpa [UInt8.lt_iff_toNat_lt] using h1
      have : a.toNat ≠ b.toNat := fun e => hab (UInt8.toNat_inj.1 e)
      rw [UInt8.lt_iff_toNat_lt]; omega
theorem bl_asymm : ∀ {x y : List UInt8}, bl x y = true → bl y x = false
  | [], [], h => by simp [bl, Op.bytesLess] at h
  | [], b :: y, _ => rfl
  | a :: x, [], h => by simp [bl, Op.bytesLess] at h
  | a :: x, b :: y, h => by
    simp only [bl, Op.bytesLess, Bool.or_eq_true, Bool.and_eq_true, decide_eq_true_eq, beq_iff_eq] at h
    simp only [bl, Op.bytesLess, Bool.or_eq_false_iff, Bool.and_eq_false_iff, decide_eq_false_iff_not, beq_eq_false_iff_ne]
    rcases h with h | ⟨rfl, h⟩
    · have h' := UInt8.lt_iff_toNat_lt.1 h
      refine ⟨fun k => by have := UInt8.lt_iff_toNat_lt.1 k; omega, .inl fun e => by subst e; omega⟩
    · exact ⟨fun k => by have := UInt8.lt_iff_toNat_lt.1 k; omega, .inr (bl_asymm h)⟩
theorem bl_trans : ∀ {x y z : List UInt8}, bl x y = true → bl y z = true → bl x z = true
  | [], [], _, h, _ => by simp [bl, Op.bytesLess] at h
  | [], b :: y, [], _, h => by simp [bl, Op.bytesLess] at h
  | [], b :: y, c :: z, _, _ => rfl
  | a :: x, [], _, h, _ => by simp [bl, Op.bytesLess] at h
  | a :: x, b :: y, [], _, h => by simp [bl, Op.bytesLess] at h
  | a :: x, b :: y, c :: z, h1, h2 => by
    simp only [bl, Op.bytesLess, Bool.or_eq_true, Bool.and_eq_true, decide_eq_true_eq, beq_iff_eq, UInt8.lt_iff_toNat_lt] at *
    rcases h1 with h1 | ⟨rfl, h1⟩
    · rcases h2 with h2 | ⟨rfl, h2⟩
      · left; omega
      · left; exact h1
    · rcases h2 with h2 | ⟨rfl, h2⟩
      · left; exact h2
      · right; exact ⟨rfl, bl_trans h1 h2⟩

theorem bytes_eq {x y : ByteArray} (h : x.toList = y.toList) : x = y := by
  rw [ByteArray.toList_eq, ByteArray.toList_eq] at h
  cases x; cases y
  congr 1
  exact Array.toList_inj.1 h

/-! ### The order of owners -/
def owEq (a b : Ow) : Bool := a.a == b.a && a.v == b.v && a.f.toList == b.f.toList
theorem owEq_iff {a b : Ow} : owEq a b = true ↔ a = b := by
  constructor
  · intro h
    simp [owEq] at h
    obtain ⟨⟨h1, h2⟩, h3⟩ := h
    cases a; cases b
    simp at *
    exact ⟨h1, h2, bytes_eq h3⟩
  · rintro rfl; simp [owEq]

def owLt (a b : Ow) : Bool := if a.a ≠ b.a then decide (a.a < b.a) else if a.v ≠ b.v then decide (a.v < b.v) else bl a.f.toList b.f.toList
theorem owLt_irrefl (a : Ow) : owLt a a = false := by simp [owLt, bl_irrefl]
theorem owLt_total {a b : Ow} (h : owLt a b = false) (hne : a ≠ b) : owLt b a = true := by
  by_cases h1 : a.a = b.a
  · by_cases h2 : a.v = b.v
    · have h3 : a.f.toList ≠ b.f.toList := fun e => hne (owEq_iff.1 (by simp [owEq, h1, h2, e]))
      simp only [owLt, h1, h2, ne_eq, not_true, if_false] at h ⊢
      exact bl_total h h3
    · simp only [owLt, h1, ne_eq, not_true, if_false, h2, not_false_eq_true, if_true, decide_eq_false_iff_not] at h
      simp only [owLt, h1, ne_eq, not_true, if_false, if_pos (Ne.symm h2), decide_eq_true_eq]; omega
  · simp only [owLt, ne_eq, h1, not_false_eq_true, if_true, decide_eq_false_iff_not] at h
    simp only [owLt, ne_eq, if_pos (Ne.symm h1), decide_eq_true_eq]; omega
theorem owLt_asymm {a b : Ow} (h : owLt a b = true) : owLt b a = false := by
  by_cases h1 : a.a = b.a
  · by_cases h2 : a.v = b.v
    · simp only [owLt, h1, h2, ne_eq, not_true, if_false] at h ⊢
      exact bl_asymm h
    · simp only [owLt, h1, ne_eq, not_true, if_false, h2, not_false_eq_true, if_true, decide_eq_true_eq] at h
      simp only [owLt, h1, ne_eq, not_true, if_false, if_pos (Ne.symm h2), decide_eq_false_iff_not]; omega
  · simp only [owLt, ne_eq, h1, not_false_eq_true, if_true, decide_eq_true_eq] at h
    simp only [owLt, ne_eq, if_pos (Ne.symm h1), decide_eq_false_iff_not]; omega
theorem owLt_iff {a b : Ow} : owLt a b = true ↔ a.a < b.a ∨ (a.a = b.a ∧ (a.v < b.v ∨ (a.v = b.v ∧ bl a.f.toList b.f.toList = true))) := by
  unfold owLt
  split
  · rename_i h; simp; omega
  · rename_i h
    split
    · rename_i k; simp; omega
    · rename_i k
      simp at h k
      constructor
      · intro e; exact .inr ⟨h, .inr ⟨k, e⟩⟩
      · rintro (e | ⟨_, e | ⟨_, e⟩⟩)
        · omega
        · omega
        · exact e
theorem owLt_trans {a b c : Ow} (h : owLt a b = true) (k : owLt b c = true) : owLt a c = true := by
  rw [owLt_iff] at *
  rcases h with h | ⟨h1, h | ⟨h2, h⟩⟩ <;> rcases k with k | ⟨k1, k | ⟨k2, k⟩⟩
  case inr.inr.inr.inr => exact .inr ⟨by omega, .inr ⟨by omega, bl_trans h k⟩⟩
  case inl.inl => exact .inl (by omega)
  case inl.inr.inl => exact .inl (by omega)
  case inl.inr.inr => exact .inl (by omega)
  case inr.inl.inl => exact .inl (by omega)
  case inr.inr.inl => exact .inl (by omega)
  case inr.inl.inr.inl => exact .inr ⟨by omega, .inl (by omega)⟩
  case inr.inl.inr.inr => exact .inr ⟨by omega, .inl (by omega)⟩
  case inr.inr.inr.inl => exact .inr ⟨by omega, .inl (by omega)⟩

/-! ### cmp.Compare, cmp.Or -/
def cmpI (x y : Int) : Int := if x < y then -1 else if y < x then 1 else 0
def cmpS (x y : ByteArray) : Int := if bl x.toList y.toList = true then -1 else if x.toList = y.toList then 0 else 1
def or3 (x y z : Int) : Int := if x ≠ 0 then x else if y ≠ 0 then y else z
def ordO (a b : Ow) : Int := or3 (cmpI a.a b.a) (cmpI a.v b.v) (cmpS a.f b.f)

theorem ordO_lt (a b : Ow) : decide (ordO a b < 0) = owLt a b := by
  rw [Bool.eq_iff_iff, owLt_iff, decide_eq_true_eq]
  unfold ordO or3 cmpI cmpS
  rcases Int.lt_trichotomy a.a b.a with h | h | h
  · rw [if_pos h, if_pos (by decide)]; constructor
    · intro _; exact .inl h
    · intro _; decide
  · rw [h, if_neg (Int.lt_irrefl _), if_neg (Int.lt_irrefl _), if_neg (by decide)]
    rcases Int.lt_trichotomy a.v b.v with k | k | k
    · rw [if_pos k, if_pos (by decide)]; constructor
      · intro _; exact .inr ⟨rfl, .inl k⟩
      · intro _; decide
    · rw [k, if_neg (Int.lt_irrefl _), if_neg (Int.lt_irrefl _), if_neg (by decide)]
      cases h5 : bl a.f.toList b.f.toList
      · constructor
        · intro e
          rw [if_neg (by decide)] at e
          split at e <;> omega
        · rintro (e | ⟨_, e | ⟨_, e⟩⟩)
          · omega
          · omega
          · cases e
      · constructor
        · intro _; exact .inr ⟨rfl, .inr ⟨rfl, rfl⟩⟩
        · intro _; rw [if_pos rfl]; decide
    · rw [if_neg (show ¬ a.v < b.v by omega), if_pos k, if_pos (by decide)]; constructor
      · intro e; omega
      · rintro (e | ⟨_, e | ⟨_, e⟩⟩) <;> omega
  · rw [if_neg (show ¬ a.a < b.a by omega), if_pos h, if_pos (by decide)]; constructor
    · intro e; omega
    · rintro (e | ⟨e, _⟩) <;> omega
end Go.Proofs.Ytpobgjkmcmkkeaa
namespace Go.Proofs.Ytpobgjkmcmkkeaa
open Go.RowKit

def nmB (s : ByteArray) : Bool := decide (1 ≤ s.size) && decide (s.size ≤ 100)
def emB (d : ByteArray) : Bool := d.toList == (⟨#[]⟩ : ByteArray).toList
/-- Names that are names, and rise. -/
def fgo : Option Fl → List Fl → Bool
  | _, [] => true
  | q, x :: r => nmB x.nm && (match q with | none => true | some p => bl p.nm.toList x.nm.toList) && fgo (some x) r
def sumB : List Fl → Nat
  | [] => 0
  | x :: r => x.d.size + sumB r
def filesB (l : List Fl) : Bool := decide (l.length ≤ 60) && fgo none l && decide (sumB l ≤ 200000)
def formB (o : Dp) : Bool := decide (1 ≤ o.k) && decide (o.k ≤ 3) && nmB o.nm && (if o.k = 2 then nmB o.tt && emB o.d else emB o.tt && (decide (o.k = 1) || emB o.d))
def atF (l : List Fl) (nm : ByteArray) : Option Nat := l.findIdx? (fun x => x.nm.toList == nm.toList)
/-- One round of putting a file in its place. -/
def putS (x : Fl) (st : List Fl × Bool) (y : Fl) : List Fl × Bool :=
  ((if (!st.2 && !(bl y.nm.toList x.nm.toList)) = true then st.1 ++ [x] else st.1) ++ (if (y.nm.toList == x.nm.toList) = true then [] else [y]), st.2 || !(bl y.nm.toList x.nm.toList))
def putE (x : Fl) (st : List Fl × Bool) : List Fl := if st.2 = true then st.1 else st.1 ++ [x]
def putK (x : Fl) (l : List Fl) (k : Nat) : List Fl × Bool := (l.take k).foldl (putS x) ([], false)
def putF (x : Fl) (l : List Fl) : List Fl := putE x (l.foldl (putS x) ([], false))
def cutF (nm : ByteArray) (l : List Fl) : List Fl := l.filter (fun y => !(y.nm.toList == nm.toList))
def doF (l : List Fl) (o : Dp) : List Fl × Bool :=
  match atF l o.nm with
  | none => if o.k = 1 then (putF ⟨o.nm, o.d⟩ l, true) else (l, false)
  | some i => match l[i]? with
    | none => (l, false)
    | some f => if o.k = 1 then (putF ⟨o.nm, f.d ++ o.d⟩ l, true) else if o.k = 2 then (putF ⟨o.tt, f.d⟩ (cutF o.nm l), true) else (cutF o.nm l, true)
/-- All ops, one behind the other: none where one is not right. -/
def runF : List Fl → List Dp → Option (List Fl)
  | l, [] => some l
  | l, o :: r => if ((doF l o).2 && formB o && filesB (doF l o).1) = true then runF (doF l o).1 r else none
structure Dk where
  live : List Fl
  safe : List Fl
  ops : List Dp
def diskB (d : Dk) : Bool := filesB d.live && filesB d.safe && decide (d.ops.length ≤ 200) && (match runF d.safe d.ops with | none => false | some l => eqFls l d.live)

theorem putK_succ {x : Fl} {l : List Fl} {k : Nat} {y : Fl} (h : l[k]? = some y) : putK x l (k + 1) = putS x (putK x l k) y := by
  unfold putK
  rw [List.take_add_one, h]
  simp
theorem putK_all {x : Fl} {l : List Fl} {n : Nat} (h : l.length = n) : putE x (putK x l n) = putF x l := by
  unfold putK putF
  rw [List.take_of_length_le (Nat.le_of_eq h)]
theorem putF_len0 (x : Fl) : ∀ (l : List Fl) (st : List Fl × Bool), (l.foldl (putS x) st).1.length + (if (l.foldl (putS x) st).2 = true then 0 else 1) ≤ st.1.length + (if st.2 = true then 0 else 1) + l.length
  | [], st => Nat.le_refl _
  | y :: r, st => by
    have h := putF_len0 x r (putS x st y)
    rw [List.foldl_cons]
    have h2 : (putS x st y).1.length + (if (putS x st y).2 = true then 0 else 1) ≤ st.1.length + (if st.2 = true then 0 else 1) + 1 := by
      unfold putS
      obtain ⟨a, d⟩ := st
      cases d <;> cases bl y.nm.toList x.nm.toList <;> cases (y.nm.toList == x.nm.toList) <;> simp <;> omega
    simp only [List.length_cons]
    omega
theorem putF_len (x : Fl) (l : List Fl) : (putF x l).length ≤ l.length + 1 := by
  have h := putF_len0 x l ([], false)
  unfold putF putE
  split
  · rename_i hd; rw [if_pos hd] at h; simp at h; omega
  · rename_i hd; rw [if_neg hd] at h; simp at h ⊢; omega
theorem putF_mem0 (x : Fl) : ∀ (l : List Fl) (st : List Fl × Bool) (z : Fl), z ∈ (l.foldl (putS x) st).1 → z ∈ st.1 ∨ z = x ∨ z ∈ l
  | [], st, z, h => .inl h
  | y :: r, st, z, h => by
    rcases putF_mem0 x r _ z h with h | h | h
    · simp only [putS] at h
      rcases List.mem_append.1 h with h | h
      · split at h
        · rcases List.mem_append.1 h with h | h
          · exact .inl h
          · exact .inr (.inl (by simpa using h))
        · exact .inl h
      · split at h
        · cases h
        · exact .inr (.inr (by simp at h; simp [h]))
    · exact .inr (.inl h)
    · exact .inr (.inr (by simp [h]))
theorem putF_mem {x : Fl} {l : List Fl} {z : Fl} (h : z ∈ putF x l) : z = x ∨ z ∈ l := by
  unfold putF putE at h
  split at h
  · rcases putF_mem0 x l _ z h with h | h
    · cases h
    · exact h
  · rcases List.mem_append.1 h with h | h
    · rcases putF_mem0 x l _ z h with h | h
      · cases h
      · exact h
    · exact .inl (by simpa using h)
theorem sumB_app : ∀ (a b : List Fl), sumB (a ++ b) = sumB a + sumB b
  | [], b => by simp [sumB]
  | x :: r, b => by simp only [List.cons_append, sumB, sumB_app r b]; omega
theorem sumB_mem : ∀ {l : List Fl} {x : Fl}, x ∈ l → x.d.size ≤ sumB l
  | y :: r, x, h => by
    rcases List.mem_cons.1 h with rfl | h
    · simp only [sumB]; omega
    · have := sumB_mem h; simp only [sumB]; omega
theorem filesB_all {l : List Fl} (h : filesB l = true) : l.length ≤ 60 ∧ sumB l ≤ 200000 ∧ fgo none l = true := by
  simp only [filesB, Bool.and_eq_true, decide_eq_true_eq] at h
  exact ⟨h.1.1, h.2, h.1.2⟩
theorem fgo_names : ∀ {l : List Fl} {q : Option Fl}, fgo q l = true → ∀ x ∈ l, nmB x.nm = true
  | y :: r, q, h, x, hx => by
    simp only [fgo, Bool.and_eq_true] at h
    rcases List.mem_cons.1 hx with rfl | hx
    · exact h.1.1
    · exact fgo_names h.2 x hx
end Go.Proofs.Ytpobgjkmcmkkeaa
