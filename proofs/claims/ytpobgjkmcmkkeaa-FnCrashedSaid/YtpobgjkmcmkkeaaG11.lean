/- slices.Equal at files. slices.Clone at files. A disk of which all is safe. Places that rise. -/
import Derived.Test.YtpobgjkmcmkkeaaG10
import Derived.Laws.StructEq
import Derived.Lib.SliceRun
namespace Go.Proofs.Ytpobgjkmcmkkeaa
open Go Go.RowKit Go.BigFrame

theorem neqFl (p q : Fl) (w : World) : (binOp .neq 82 (.agg #[.string p.nm, .string p.d]) (.agg #[.string q.nm, .string q.d])).run Try.prog w = .ok (.bool (!eqFl p q)) w := by
  have u9 := Try.underlying9
  have a9 := Try.isAgg9
  have z9 := Try.sizeOf9
  have hS : Try.prog.underlying 82 = some (.struct (Try.prog.fieldsOf 82)) := by kernel_rfl
  have hp : Try.prog.stoodInHeld 82 = false := by kernel_rfl
  rw [run_neq_struct, show (10000 : Nat) = 9999 + 1 from rfl, run_equalIn_agg w 9999 82 _ _ hS hp]
  simp only [Program.fieldsOf, Try.underlying82]
  clear hS hp
  go_simp
  unfold eqFl
  by_cases h1 : p.nm.toList = q.nm.toList <;> by_cases h2 : p.d.toList = q.d.toList <;> simp [h1, h2]
set_option maxHeartbeats 1000000 in
theorem files_Equal (a : Option Addr) (n cap : Nat) (l : List Fl) (a' : Option Addr) (n' cap' : Nat) (m : List Fl) (w : World) (h : FlsAt w a n l) (h' : FlsAt w a' n' m) (hn : n ≤ 4194304) (hn' : n' ≤ 4194304) :
    Calls Try.prog 45 #[.slice a n cap, .slice a' n' cap'] w fun e w' => e = .returned (.bool (eqFls l m)) ∧ Below w.heap.size w w' := by
  have hlen : Hid (l.length = n) := h.len
  have hlen' : Hid (m.length = n') := h'.len
  by_cases hne : n = n'
  · subst hne
    have hbn : ((n : Int) != (n : Int)) = false := by simp
    go_enter Try.func45, Try.ntmps45
    go_wp2_with fail
    go_loopw [5, 13] (fun _i ix wr => ∃ (k : Nat), k ≤ n ∧ ix = .int .i64 k ∧ Hid (eqFls l m = eqFls (l.drop k) (m.drop k)) ∧ Below w.heap.size w wr) (fun _ ix _ => n - (intOf ix).toNat)
    case atStart => exact ⟨0, Nat.zero_le _, rfl, rfl, Below.refl _ _⟩
    case round =>
      obtain ⟨k, hk, rfl, hI, hB⟩ := hrel
      by_cases hlt : k < n
      · obtain ⟨b, o, p, rfl, hp, c0, c1⟩ := fl_at (h.below hB) hlt
        obtain ⟨b', o', q, rfl, hq, d0, d1⟩ := fl_at (h'.below hB) hlt
        have hd : Hid (l.drop k = p :: l.drop (k + 1)) := drop_at hp
        have hd' : Hid (m.drop k = q :: m.drop (k + 1)) := drop_at hq
        clear hp hq
        have hk1 : (k : Int) < n := by omega
        have hk2 : (0 : Int) ≤ k := by omega
        have hneq := neqFl p q
        cases hpq : eqFl p q
        all_goals rw [hpq] at hneq
        · go_wp2_with fail
          go_quiet (fail)
          have hB2 := below_drewN hB nq
          go_wp2
          go_returns
          go_light
          refine ⟨ret_bool ?_, hB2⟩
          rw [hI.out, hd.out, hd'.out]; simp only [eqFls, hpq, Bool.false_and]
        · go_wp2_with fail
          go_quiet (fail)
          have hB2 := below_drewN hB nq
          go_wp2
          go_roundw
          case rel => exact ⟨k + 1, by omega, by go_num, by show _ = _; rw [hI.out, hd.out, hd'.out]; simp only [eqFls, hpq, Bool.true_and], hB2⟩
          case measure => simp [intOf]; omega
      · obtain rfl : k = n := by omega
        go_wp2
        go_returns
        go_light
        refine ⟨ret_bool ?_, hB⟩
        rw [hI.out, List.drop_of_length_le (Nat.le_of_eq hlen.out), List.drop_of_length_le (Nat.le_of_eq hlen'.out)]; rfl
  · have hbn : ((n : Int) != (n' : Int)) = true := by simp; omega
    go_enter Try.func45, Try.ntmps45
    go_wp2
    go_returns
    go_light
    refine ⟨ret_bool ?_, Below.refl _ _⟩
    rw [eqFls_len (by rw [hlen.out, hlen'.out]; exact hne)]
end Go.Proofs.Ytpobgjkmcmkkeaa
namespace Go.Proofs.Ytpobgjkmcmkkeaa
open Go Go.RowKit Go.BigFrame

set_option maxHeartbeats 4000000 in
set_option maxRecDepth 100000 in
theorem files_Clone (a : Option Addr) (n cap : Nat) (l : List Fl) (w : World) (h : FlsAt w a n l) (hn : n ≤ 4194304) (ha1 : ∀ ad, a = some ad → ad.spot = none) (ha2 : a = none → n = 0 ∧ cap = 0) :
    Calls Try.prog 80 #[.slice a n cap] w fun e w' => (∃ a' cap', e = .returned (.slice a' n cap') ∧ ResAt Fl.cs 2 82 w' w.heap.size a' n cap' l) ∧ Below w.heap.size w w' := by
  have q24 : ∀ (w : World) (a : Option Addr) (n c n' c' : Nat), (binOp .eql 24 (.slice a n c) (.slice none n' c')).run Try.prog w = .ok (.bool a.isNone) w := fun w a n c n' c' => Lib.run_eql_slice_nil w _ _ a n c n' c' Try.underlying24
  cases a with
  | none =>
    obtain ⟨rfl, rfl⟩ := ha2 rfl
    have hl : l = [] := List.eq_nil_of_length_eq_zero h.len
    subst hl
    go_enter Try.func80, Try.ntmps80
    go_wp2
    go_returns
    exact ⟨⟨none, 0, rfl, res_nil⟩, Below.refl _ _⟩
  | some ad =>
    go_enter Try.func80, Try.ntmps80
    go_wp2_with (at_builtin; refine wpList_app rfl (fun K hK => wp_appFl _ _ rfl w.heap.size _ 0 0 [] rfl (res_empty (Blk.new' _ _ _ _ (by simp)) (Nat.le_refl _)) (some ad) n cap l rfl (h.alloc _) ha1 (fun h => (by cases h)) n (Nat.zero_add _) (by omega) (by simp) (fun a3 cap3 w3 R3 hg3 => hK _ _ ?_)))
    have hB0 : Below w.heap.size w (w.alloc (.cells #[] 82)) := (Below.refl _ _).alloc (Nat.le_refl _) _
    have hB3 : Below w.heap.size w w3 := Below.grown hB0 hg3 (by simp) (fun j e => by simp [Value.ownBlock] at e; omega)
    go_wp2
    go_returns
    exact ⟨⟨a3, cap3, rfl, by simpa using R3⟩, hB3⟩

theorem infoDp : (Try.prog.info? 36).map (fun i => (i.zero, i.size, i.bytes)) = some (some (.agg #[.int .i64 0, .string .empty, .string .empty, .string .empty]), 4, 56) := by kernel_rfl
section
variable {o : Oper} {a : Act} {w : World} {K : Act → World → Prop} {Q : Exit → Act → World → Prop}
theorem wp_appDp (s x : Operand) (ho : o.op = .call { callee := .builtin .append, args := #[s, x], argTypes := #[25, 25] })
    (B : Nat) (da : Option Addr) (dn dcap : Nat) (ld : List Dp) (hs : a.eval s = .slice da dn dcap) (hd : ResAt Dp.cs 4 36 w B da dn dcap ld)
    (sa : Option Addr) (sn scap : Nat) (ls : List Dp) (hx : a.eval x = .slice sa sn scap) (hsrc : DpsAt w sa sn ls) (hspot : ∀ ad, sa = some ad → ad.spot = none) (hnone : sa = none → scap = 0)
    (tot : Nat) (htot : dn + sn = tot) (h63 : tot ≤ 9000000) (hbase : B ≤ w.heap.size)
    (h : ∀ a' cap' w', ResAt Dp.cs 4 36 w' B a' tot cap' (ld ++ ls) → w.grownBy w' (Value.ownBlock (.slice da dn dcap)) → K (a.put o.dst (.slice a' tot cap')) w') : o.wp Try.prog a w K Q := by
  obtain ⟨i0, hi, hz0, hz1, hz2⟩ := info_parts infoDp
  exact wp_app s x _ ho B _ i0 _ 56 Try.underlying25 hi hz0 hz1 hz2 rfl (by decide) dpcs_len dpcs_one da dn dcap ld hs hd sa sn scap ls hx hsrc hspot hnone tot htot (by unfold maxLen; omega) (by omega) hbase h
end
set_option maxHeartbeats 4000000 in
set_option maxRecDepth 100000 in
theorem dops_Clone (a : Option Addr) (n cap : Nat) (l : List Dp) (w : World) (h : DpsAt w a n l) (hn : n ≤ 4194304) (ha1 : ∀ ad, a = some ad → ad.spot = none) (ha2 : a = none → n = 0 ∧ cap = 0) :
    Calls Try.prog 83 #[.slice a n cap] w fun e w' => (∃ a' cap', e = .returned (.slice a' n cap') ∧ ResAt Dp.cs 4 36 w' w.heap.size a' n cap' l) ∧ Below w.heap.size w w' := by
  have q25 : ∀ (w : World) (a : Option Addr) (n c n' c' : Nat), (binOp .eql 25 (.slice a n c) (.slice none n' c')).run Try.prog w = .ok (.bool a.isNone) w := fun w a n c n' c' => Lib.run_eql_slice_nil w _ _ a n c n' c' Try.underlying25
  cases a with
  | none =>
    obtain ⟨rfl, rfl⟩ := ha2 rfl
    have hl : l = [] := List.eq_nil_of_length_eq_zero h.len
    subst hl
    go_enter Try.func83, Try.ntmps83
    go_wp2
    go_returns
    exact ⟨⟨none, 0, rfl, res_nil⟩, Below.refl _ _⟩
  | some ad =>
    go_enter Try.func83, Try.ntmps83
    go_wp2_with (at_builtin; refine wpList_app rfl (fun K hK => wp_appDp _ _ rfl w.heap.size _ 0 0 [] rfl (res_empty (Blk.new' _ _ _ _ (by simp)) (Nat.le_refl _)) (some ad) n cap l rfl (h.alloc _) ha1 (fun h => (by cases h)) n (Nat.zero_add _) (by omega) (by simp) (fun a3 cap3 w3 R3 hg3 => hK _ _ ?_)))
    have hB0 : Below w.heap.size w (w.alloc (.cells #[] 36)) := (Below.refl _ _).alloc (Nat.le_refl _) _
    have hB3 : Below w.heap.size w w3 := Below.grown hB0 hg3 (by simp) (fun j e => by simp [Value.ownBlock] at e; omega)
    go_wp2
    go_returns
    exact ⟨⟨a3, cap3, rfl, by simpa using R3⟩, hB3⟩
end Go.Proofs.Ytpobgjkmcmkkeaa
namespace Go.Proofs.Ytpobgjkmcmkkeaa
open Go Go.RowKit Go.BigFrame

set_option maxHeartbeats 4000000 in
set_option maxRecDepth 100000 in
theorem impl_synced (a : Option Addr) (n cap : Nat) (l : List Fl) (w : World) (h : FlsAt w a n l) (hn : n ≤ 4194304) (ha1 : ∀ ad, a = some ad → ad.spot = none) (ha2 : a = none → n = 0 ∧ cap = 0) :
    Calls Try.prog 52 #[.slice a n cap] w fun e w' => (∃ a1 c1 a2 c2, e = .returned (.agg #[.slice a1 n c1, .slice a2 n c2, .slice none 0 0]) ∧ ResAt Fl.cs 2 82 w' w.heap.size a1 n c1 l ∧ ResAt Fl.cs 2 82 w' w.heap.size a2 n c2 l) ∧ Below w.heap.size w w' := by
  have hA : Below w.heap.size w (w.alloc (.cells #[.slice none 0 0, .slice none 0 0, .slice none 0 0] 27)) := (Below.refl _ _).alloc (Nat.le_refl _) _
  have D := Blk.new w #[.slice none 0 0, .slice none 0 0, .slice none 0 0] 27
  have hc := fun u (hu : Below w.heap.size w u) => files_Clone a n cap l u (h.below hu) hn ha1 ha2
  clear h
  go_enter Try.func52, Try.ntmps52
  go_wp2_with fail
  refine (hc _ hA).mono ?_
  rintro e w1 ⟨⟨a1, c1, rfl, R1⟩, hB1⟩
  have D1 := D.below hB1
  have hB2 := chain hA hB1
  have R2 := R1.mono (show w.heap.size + 1 ≤ _ by simp)
  clear hA D hB1 R1
  go_wp2_with fail
  refine (hc _ hB2).mono ?_
  rintro e w2 ⟨⟨a2, c2, rfl, R3⟩, hB3⟩
  have D3 := D1.below hB3
  have R4 := R2.below hB3
  have hw1 := D1.lt
  have R5 := R3.mono (show w.heap.size + 1 ≤ w1.heap.size by omega)
  have hB4 := chain hB2 hB3
  clear D1 R2 R3 hB2 hB3 hc
  have z0 := D3.cell 0
  have z1 := D3.cell 1
  have z2 := D3.cell 2
  have q0 := D3.frozen 0
  have q1 := D3.frozen 1
  have q2 := D3.frozen 2
  simp only [List.getElem?_toArray, List.getElem?_cons_zero, List.getElem?_cons_succ] at z0 z1 z2
  go_wp2
  have hg : w2.grownBy (((w2.setCell ⟨w.heap.size, 0, none⟩ (.slice a1 n c1)).setCell ⟨w.heap.size, 1, none⟩ (.slice a2 n c2)).setCell ⟨w.heap.size, 2, none⟩ (.slice none 0 0)) (some w.heap.size) := grown_set (grown_set (grown_set (World.grownBy.refl _ _) _ _) _ _) _ _
  have D5 := ((D3.set 0 (.slice a1 n c1)).set 1 (.slice a2 n c2)).set 2 (.slice none 0 0)
  simp only [List.setIfInBounds_toArray, List.set_cons_zero, List.set_cons_succ] at D5
  have R6 := (R4.grown hg (fun ad e => by have := (R4.block ad e).1; omega)).mono (show w.heap.size ≤ w.heap.size + 1 by omega)
  have R7 := (R5.grown hg (fun ad e => by have := (R5.block ad e).1; omega)).mono (show w.heap.size ≤ w.heap.size + 1 by omega)
  have hB5 := hB4.grown hg hB4.size (fun j e => by cases e; exact Nat.le_refl _)
  generalize ((w2.setCell ⟨w.heap.size, 0, none⟩ (.slice a1 n c1)).setCell ⟨w.heap.size, 1, none⟩ (.slice a2 n c2)).setCell ⟨w.heap.size, 2, none⟩ (.slice none 0 0) = W8 at *
  refine bodyPost_ret (results_cell_row rfl _ W8 w.heap.size _ _ _ _ rfl D5 Try.underlying27 rfl (by kernel_rfl)) rfl ?_
  exact ⟨⟨a1, c1, a2, c2, rfl, R6, R7⟩, hB5⟩
end Go.Proofs.Ytpobgjkmcmkkeaa
namespace Go.Proofs.Ytpobgjkmcmkkeaa
open Go Go.RowKit Go.BigFrame

/-- From this one on they rise and are under n. -/
def plcB (n : Int) : Int → List Int → Bool
  | _, [] => true
  | q, x :: r => decide (q ≤ x) && (decide (x < n) && plcB n (x + 1) r)

set_option maxHeartbeats 4000000 in
set_option maxRecDepth 100000 in
theorem impl_placesOk (a : Option Addr) (n cap : Nat) (l : List Int) (m : Nat) (w : World) (h : IntsAt w a n l) (hn : n ≤ 4194304) (hm : m ≤ 4194304) :
    Calls Try.prog 51 #[.slice a n cap, .int .i64 m] w fun e w' => e = .returned (.bool (plcB m 0 l)) ∧ w' = w := by
  have hlen : Hid (l.length = n) := h.len
  go_enter Try.func51, Try.ntmps51
  go_wp2_with fail
  go_loopw [5, 7, 10] (fun le _p ix wr => ∃ (k : Nat) (q : Int), k ≤ n ∧ ix = .int .i64 k ∧ le = .int .i64 q ∧ 0 ≤ q ∧ q ≤ m ∧ Hid (plcB m 0 l = plcB m q (l.drop k)) ∧ wr = w) (fun _ _ ix _ => n - (intOf ix).toNat)
  case atStart => exact ⟨0, 0, Nat.zero_le _, rfl, rfl, Int.le_refl _, by omega, rfl, rfl⟩
  case round =>
    obtain ⟨k, q, hk, rfl, rfl, hq0, hqm, hI, rfl⟩ := hrel
    by_cases hlt : k < n
    · obtain ⟨b, o, x, rfl, hx, c0⟩ := ints_at' h hlt
      have hd : Hid (l.drop k = x :: l.drop (k + 1)) := drop_at hx
      clear hx
      have hk1 : (k : Int) < n := by omega
      have hk2 : (0 : Int) ≤ k := by omega
      by_cases h1 : x < q
      · have h2 : ¬ q ≤ x := by omega
        have hdc : decide (x < q) = true := by simp [h1]
        have hf : Hid (plcB m 0 l = false) := by show _ = _; rw [hI.out, hd.out]; simp [plcB, h2]
        go_wp2
        go_returns
        exact ⟨by rw [hf.out]; rfl, rfl⟩
      · have hdc : decide (x < q) = false := by simp; omega
        by_cases h3 : (m : Int) ≤ x
        · have h4 : ¬ x < m := by omega
          have hf : Hid (plcB m 0 l = false) := by show _ = _; rw [hI.out, hd.out]; simp [plcB, h4]
          go_wp2
          go_returns
          exact ⟨by rw [hf.out]; rfl, rfl⟩
        · have h4 : x < m := by omega
          have h5 : q ≤ x := by omega
          have hf : Hid (plcB m 0 l = plcB m (x + 1) (l.drop (k + 1))) := by show _ = _; rw [hI.out, hd.out]; simp [plcB, h4, h5]
          have hw : IntKind.i64.wrap (x + 1) = x + 1 := by rw [IntKind.wrap_i64]; omega
          go_wp2
          go_roundw
          case rel => exact ⟨k + 1, x + 1, by omega, by go_num, by first | rfl | rw [hw], by omega, by omega, hf, by first | trivial | rfl⟩
          case measure => simp [intOf]; omega
    · obtain rfl : k = n := by omega
      have hf : Hid (plcB m 0 l = true) := by show _ = _; rw [hI.out, List.drop_of_length_le (Nat.le_of_eq hlen.out)]; rfl
      go_wp2
      go_returns
      exact ⟨by rw [hf.out]; rfl, rfl⟩
end Go.Proofs.Ytpobgjkmcmkkeaa
