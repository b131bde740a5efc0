/- The laws' sizes, copies and comparisons of lists of counts. -/
import Derived.Test.YtbmkedickkpjjaaProg
import Derived.Test.YtbmkedickkpjjaaNg
import Derived.Test.YtbmkedickkpjjaaXc
namespace Go.Proofs.Ytbmkedickkpjjaa
open Go.RowKit Go.BigFrame

def szC (left : Int) (p : Ct) : Int := if left - p.o.f.size < 0 then -1 else left - p.o.f.size

theorem laws_szCounted (p : Ct) (left : Int) (w : World) (h0 : 0 ≤ left) (h1 : left ≤ 1048576) (hd : p.o.f.size ≤ 9223372036854775807) :
    Calls Try.prog 157 #[.agg #[.int .i64 p.o.a, .int .i64 p.o.v, .string p.o.f, .int .i64 p.n], .int .i64 left] w fun e w' => e = .returned (.int .i64 (szC left p)) ∧ Below w.heap.size w w' := by
  by_cases h : left - (p.o.f.size : Int) < 0
  · have hf : Hid (szC left p = -1) := by show _ = _; simp [szC]; omega
    generalize szC left p = R at *
    obtain ⟨⟨a, v, d⟩, n⟩ := p
    simp only at *
    go_enter Try.func157, Try.ntmps157
    go_wp2_with fail
    refine (laws_szOwner ⟨a, v, d⟩ left _ h0 h1 hd).mono ?_
    rintro e w1 ⟨rfl, hB1⟩
    have hB2 : Below w.heap.size w w1 := chain (by go_grown) hB1
    clear hB1
    simp only [if_pos h]
    go_wp2
    go_returns
    go_light
    exact ⟨ret_int hf.out.symm, hB2⟩
  · have hf : Hid (szC left p = left - p.o.f.size) := by show _ = _; simp [szC]; omega
    generalize szC left p = R at *
    obtain ⟨⟨a, v, d⟩, n⟩ := p
    simp only at *
    go_enter Try.func157, Try.ntmps157
    go_wp2_with fail
    refine (laws_szOwner ⟨a, v, d⟩ left _ h0 h1 hd).mono ?_
    rintro e w1 ⟨rfl, hB1⟩
    have hB2 : Below w.heap.size w w1 := chain (by go_grown) hB1
    clear hB1
    simp only [if_neg (Int.not_lt.2 h)]
    go_wp2
    go_returns
    go_light
    exact ⟨ret_int hf.out.symm, hB2⟩

/-- A list of counts that is within the budget. -/
def SmallC (n : Nat) (l : List Ct) : Prop := n ≤ 1048576 ∧ ∀ e ∈ l, e.o.f.size ≤ 1048576
theorem SmallC.strs {n : Nat} {l : List Ct} (h : SmallC n l) : StrC l := fun e he => by have := h.2 e he; omega

set_option maxHeartbeats 1000000 in
theorem laws_szCountedS (a : Option Addr) (n cap : Nat) (l : List Ct) (L : Int) (w : World) (h : CtsAt w a n l) (hstr : StrC l) (hn : n ≤ 9223372036854775807) (hL0 : 0 ≤ L) (hL : L ≤ 1048576) :
    Calls Try.prog 97 #[.slice a n cap, .int .i64 L] w fun e w' => (∃ r : Int, e = .returned (.int .i64 r) ∧ (r = -1 ∨ (0 ≤ r ∧ r ≤ 1048576 ∧ SmallC n l))) ∧ Below w.heap.size w w' := by
  have hlen : Hid (l.length = n) := h.len
  by_cases hb : L - (n : Int) < 0
  · go_enter Try.func97, Try.ntmps97
    go_wp2
    go_returns
    go_light
    exact ⟨⟨_, rfl, .inl rfl⟩, Below.refl _ _⟩
  · go_enter Try.func97, Try.ntmps97
    go_wp2_with fail
    go_loopw [1, 5] (fun lf ix wr => ∃ (k : Nat) (r : Int), k ≤ n ∧ ix = .int .i64 k ∧ lf = .int .i64 r ∧ 0 ≤ r ∧ r ≤ 1048576 ∧ Hid (∀ i e, i < k → l[i]? = some e → e.o.f.size ≤ 1048576) ∧ Below w.heap.size w wr) (fun _ ix _ => n - (intOf ix).toNat)
    case atStart => exact ⟨0, _, Nat.zero_le _, rfl, rfl, by omega, by omega, fun i e hi => by omega, Below.refl _ _⟩
    case round =>
      obtain ⟨k, r, hk, rfl, rfl, hr0, hr1, hI, hB⟩ := hrel
      by_cases hlt : k < n
      · obtain ⟨b, o, p, rfl, hp, c0, c1, c2, c3⟩ := cts_at (h.below hB) hlt
        have hp' : Hid (l[k]? = some p) := hp
        have hsz := hstr.at hp
        clear hp
        by_cases hs : r - (p.o.f.size : Int) < 0
        · have hf : Hid (szC r p = -1) := by show _ = _; simp [szC]; omega
          go_wp2_with fail
          refine (laws_szCounted p r _ hr0 hr1 hsz).mono ?_
          rintro e w1 ⟨rfl, hB1⟩
          rw [hf.out]
          go_wp2
          go_returns
          go_light
          exact ⟨⟨_, rfl, .inl rfl⟩, chain hB hB1⟩
        · have hf : Hid (szC r p = r - p.o.f.size) := by show _ = _; simp [szC]; omega
          go_wp2_with fail
          refine (laws_szCounted p r _ hr0 hr1 hsz).mono ?_
          rintro e w1 ⟨rfl, hB1⟩
          rw [hf.out]
          go_wp2
          go_roundw
          case rel =>
            refine ⟨k + 1, r - p.o.f.size, by omega, by go_num, rfl, by omega, by omega, ?_, chain hB hB1⟩
            intro i e hi he
            by_cases hik : i = k
            · subst hik
              rw [hp'.out] at he
              obtain rfl := Option.some.inj he
              omega
            · exact hI.out i e (by omega) he
          case measure => simp [intOf]; omega
      · obtain rfl : k = n := by omega
        go_wp2
        go_returns
        go_light
        refine ⟨⟨_, rfl, .inr ⟨hr0, hr1, by omega, ?_⟩⟩, hB⟩
        intro e he
        obtain ⟨i, hi⟩ := List.mem_iff_getElem?.1 he
        refine hI.out i e ?_ hi
        have := (List.getElem?_eq_some_iff.1 hi).1
        rw [hlen.out] at this; exact this

def eqCts : List Ct → List Ct → Bool
  | [], [] => true
  | p :: r, q :: s => eqCt p q && eqCts r s
  | _, _ => false

theorem eqCts_refl (l : List Ct) : eqCts l l = true := by
  induction l with
  | nil => rfl
  | cons p r ih => simp [eqCts, eqCt, owEq, ih]
theorem eqCts_len {l : List Ct} : ∀ {m : List Ct}, l.length ≠ m.length → eqCts l m = false := by
  induction l with
  | nil => intro m h; cases m <;> simp [eqCts] at *
  | cons p r ih => intro m h; cases m <;> simp [eqCts] at *; exact fun _ => ih h

set_option maxHeartbeats 1000000 in
theorem laws_eqCountedS (a : Option Addr) (n cap : Nat) (l : List Ct) (a' : Option Addr) (n' cap' : Nat) (m : List Ct) (w : World) (h : CtsAt w a n l) (h' : CtsAt w a' n' m) (hn : n ≤ 4194304) (hn' : n' ≤ 4194304) :
    Calls Try.prog 100 #[.slice a n cap, .slice a' n' cap'] w fun e w' => e = .returned (.bool (eqCts l m)) ∧ Below w.heap.size w w' := by
  have hlen : Hid (l.length = n) := h.len
  have hlen' : Hid (m.length = n') := h'.len
  by_cases hne : n = n'
  · subst hne
    have hbn : ((n : Int) != (n : Int)) = false := by simp
    go_enter Try.func100, Try.ntmps100
    go_wp2_with fail
    go_loopw [5] (fun ix wr => ∃ (k : Nat), k ≤ n ∧ ix = .int .i64 k ∧ Hid (eqCts l m = eqCts (l.drop k) (m.drop k)) ∧ Below w.heap.size w wr) (fun ix _ => n - (intOf ix).toNat)
    case atStart => exact ⟨0, Nat.zero_le _, rfl, rfl, Below.refl _ _⟩
    case round =>
      obtain ⟨k, hk, rfl, hI, hB⟩ := hrel
      by_cases hlt : k < n
      · obtain ⟨b, o, p, rfl, hp, c0, c1, c2, c3⟩ := cts_at (h.below hB) hlt
        obtain ⟨b', o', q, rfl, hq, d0, d1, d2, d3⟩ := cts_at (h'.below hB) hlt
        have hd : Hid (l.drop k = p :: l.drop (k + 1)) := drop_at hp
        have hd' : Hid (m.drop k = q :: m.drop (k + 1)) := drop_at hq
        clear hp hq
        have hk1 : (k : Int) < n := by omega
        have hk2 : (0 : Int) ≤ k := by omega
        cases hpq : eqCt p q
        all_goals
          go_wp2_with fail
          have g0 := gcell c0
          have g1 := gcell c1
          have g2 := gcell c2
          have g3 := gcell c3
          have g4 := gcell d0
          have g5 := gcell d1
          have g6 := gcell d2
          have g7 := gcell d3
          have hne := grw_ne wr
          refine wp_region_grow (by kernel_rfl) (by kernel_rfl) ?_
          repeat (go_big_quiet_step (first | (go_at_call 159; have qq := laws_eqCounted p q; rw [hpq] at qq; exact grow_of (qq _))))
          refine wpQuiet_nil ?_
          intro w2 hx
          have hB2 := grw_out hx
          clear hx
          go_wp2
        · go_returns
          go_light
          refine ⟨ret_bool ?_, chain hB hB2⟩
          rw [hI.out, hd.out, hd'.out]; simp only [eqCts, hpq, Bool.false_and]
        · go_roundw
          case rel => exact ⟨k + 1, by omega, by go_num, by show _ = _; rw [hI.out, hd.out, hd'.out]; simp only [eqCts, hpq, Bool.true_and], chain hB hB2⟩
          case measure => simp [intOf]; omega
      · obtain rfl : k = n := by omega
        go_wp2
        go_returns
        go_light
        refine ⟨ret_bool ?_, hB⟩
        rw [hI.out, List.drop_of_length_le (Nat.le_of_eq hlen.out), List.drop_of_length_le (Nat.le_of_eq hlen'.out)]; rfl
  · have hbn : ((n : Int) != (n' : Int)) = true := by simp; omega
    go_enter Try.func100, Try.ntmps100
    go_wp2
    go_returns
    go_light
    refine ⟨ret_bool ?_, Below.refl _ _⟩
    rw [eqCts_len (by rw [hlen.out, hlen'.out]; exact hne)]
end Go.Proofs.Ytbmkedickkpjjaa
