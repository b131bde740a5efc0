/- The laws' comparison of two lists of parts. -/
import Derived.Test.YtbmkedickkpjjaaProg
import Derived.Test.YtbmkedickkpjjaaPd
namespace Go.Proofs.Ytbmkedickkpjjaa
open Go.RowKit Go.BigFrame

def eqPts : List Pt → List Pt → Bool
  | [], [] => true
  | p :: r, q :: s => eqPtB p q && eqPts r s
  | _, _ => false

theorem eqPtB_iff (p q : Pt) : eqPtB p q = true ↔ p = q := by
  cases p; cases q; simp [eqPtB, and_assoc]
theorem eqPts_iff (l : List Pt) : ∀ m, eqPts l m = true ↔ l = m := by
  induction l with
  | nil => intro m; cases m <;> simp [eqPts]
  | cons p r ih => intro m; cases m <;> simp [eqPts, eqPtB_iff, ih]
theorem eqPts_refl (l : List Pt) : eqPts l l = true := (eqPts_iff l l).2 rfl
theorem eqPts_len {l : List Pt} : ∀ {m : List Pt}, l.length ≠ m.length → eqPts l m = false := by
  induction l with
  | nil => intro m h; cases m <;> simp [eqPts] at *
  | cons p r ih => intro m h; cases m <;> simp [eqPts] at *; exact fun _ => ih h

set_option maxHeartbeats 1000000 in
theorem laws_eqPartS (a : Option Addr) (n cap : Nat) (l : List Pt) (a' : Option Addr) (n' cap' : Nat) (m : List Pt) (w : World) (h : PtsAt w a n l) (h' : PtsAt w a' n' m) (hn : n ≤ 4194304) (hn' : n' ≤ 4194304) :
    Calls Try.prog 92 #[.slice a n cap, .slice a' n' cap'] w fun e w' => e = .returned (.bool (eqPts l m)) ∧ Below w.heap.size w w' := by
  have hlen : Hid (l.length = n) := h.len
  have hlen' : Hid (m.length = n') := h'.len
  by_cases hne : n = n'
  · subst hne
    have hbn : ((n : Int) != (n : Int)) = false := by simp
    go_enter Try.func92, Try.ntmps92
    go_wp2_with fail
    go_loopw [5] (fun ix wr => ∃ (k : Nat), k ≤ n ∧ ix = .int .i64 k ∧ Hid (eqPts l m = eqPts (l.drop k) (m.drop k)) ∧ Below w.heap.size w wr) (fun ix _ => n - (intOf ix).toNat)
    case atStart => exact ⟨0, Nat.zero_le _, rfl, rfl, Below.refl _ _⟩
    case round =>
      obtain ⟨k, hk, rfl, hI, hB⟩ := hrel
      by_cases hlt : k < n
      · obtain ⟨b, o, p, rfl, hp, c0, c1, c2⟩ := pts_at (h.below hB) hlt
        obtain ⟨b', o', q, rfl, hq, d0, d1, d2⟩ := pts_at (h'.below hB) hlt
        have hd : Hid (l.drop k = p :: l.drop (k + 1)) := drop_at hp
        have hd' : Hid (m.drop k = q :: m.drop (k + 1)) := drop_at hq
        clear hp hq
        have hk1 : (k : Int) < n := by omega
        have hk2 : (0 : Int) ≤ k := by omega
        cases hpq : eqPtB p q
        all_goals
          go_wp2_with fail
          have g0 := gcell c0
          have g1 := gcell c1
          have g2 := gcell c2
          have g3 := gcell d0
          have g4 := gcell d1
          have g5 := gcell d2
          have hne := grw_ne wr
          refine wp_region_grow (by kernel_rfl) (by kernel_rfl) ?_
          repeat (go_big_quiet_step (first | (go_at_call 156; have qq := laws_eqPart p q; rw [hpq] at qq; exact grow_of (qq _))))
          refine wpQuiet_nil ?_
          intro w2 hx
          have hB2 := grw_out hx
          clear hx
          go_wp2
        · go_returns
          go_light
          refine ⟨ret_bool ?_, chain hB hB2⟩
          rw [hI.out, hd.out, hd'.out]; simp only [eqPts, hpq, Bool.false_and]
        · go_roundw
          case rel => exact ⟨k + 1, by omega, by go_num, by show _ = _; rw [hI.out, hd.out, hd'.out]; simp only [eqPts, hpq, Bool.true_and], chain hB hB2⟩
          case measure => simp [intOf]; omega
      · obtain rfl : k = n := by omega
        go_wp2
        go_returns
        go_light
        refine ⟨ret_bool ?_, hB⟩
        rw [hI.out, List.drop_of_length_le (Nat.le_of_eq hlen.out), List.drop_of_length_le (Nat.le_of_eq hlen'.out)]; rfl
  · have hbn : ((n : Int) != (n' : Int)) = true := by simp; omega
    go_enter Try.func92, Try.ntmps92
    go_wp2
    go_returns
    go_light
    refine ⟨ret_bool ?_, Below.refl _ _⟩
    rw [eqPts_len (by rw [hlen.out, hlen'.out]; exact hne)]
end Go.Proofs.Ytbmkedickkpjjaa
