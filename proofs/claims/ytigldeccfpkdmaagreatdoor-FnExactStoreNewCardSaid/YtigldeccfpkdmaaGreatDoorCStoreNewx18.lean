/- Files and ops of a disk, as they lie in memory. The laws' sizes, copies and comparisons of lists of these. The laws' sizes, copies and comparisons of lists of these. Disks, as plain functions. Files of a disk, by the model: names, forms, places. -/
import Derived.Test.YtigldeccfpkdmaaGreatDoorCStoreNewx04
import Derived.Test.YtigldeccfpkdmaaGreatDoorProg
import Derived.Test.YtigldeccfpkdmaaGreatDoorCStoreNewx03
import Derived.Test.YtigldeccfpkdmaaGreatDoorCStoreNewx02
namespace Go.Proofs.YtigldeccfpkdmaaGreatDoor
open Go.RowKit
structure Fl where
  nm : ByteArray
  d : ByteArray
def Fl.cs (p : Fl) : List Value := [.string p.nm, .string p.d]
abbrev FlsAt (w : World) (a : Option Addr) (n : Nat) (l : List Fl) : Prop := SlAt Fl.cs 2 w a n l
theorem flcs_len (p : Fl) : p.cs.length = 2 := rfl
theorem flcs_one (l : List Fl) : ∀ u ∈ l.flatMap Fl.cs, u.oneCell' = true := by
  intro u hu
  obtain ⟨p, _, hp⟩ := List.mem_flatMap.1 hu
  simp [Fl.cs] at hp
  rcases hp with rfl | rfl <;> rfl
theorem fl_at {w : World} {a : Option Addr} {n : Nat} {l : List Fl} (h : FlsAt w a n l) {k : Nat} (hk : k < n) :
    ∃ b o p, a = some ⟨b, o, none⟩ ∧ l[k]? = some p ∧ w.cell? ⟨b, o + k * 2, none⟩ = some (.string p.nm) ∧ w.cell? ⟨b, o + k * 2 + 1, none⟩ = some (.string p.d) := by
  have hl : k < l.length := by rw [h.len]; exact hk
  have hx : l[k]? = some l[k] := by simp [hl]
  obtain ⟨b, o, ha, hc⟩ := h.cell k _ hx
  exact ⟨b, o, _, ha, hx, hc 0 _ rfl, hc 1 _ rfl⟩
structure Dp where
  k : Int
  nm : ByteArray
  tt : ByteArray
  d : ByteArray
def Dp.cs (p : Dp) : List Value := [.int .i64 p.k, .string p.nm, .string p.tt, .string p.d]
abbrev DpsAt (w : World) (a : Option Addr) (n : Nat) (l : List Dp) : Prop := SlAt Dp.cs 4 w a n l
theorem dpcs_len (p : Dp) : p.cs.length = 4 := rfl
theorem dpcs_one (l : List Dp) : ∀ u ∈ l.flatMap Dp.cs, u.oneCell' = true := by
  intro u hu
  obtain ⟨p, _, hp⟩ := List.mem_flatMap.1 hu
  simp [Dp.cs] at hp
  rcases hp with rfl | rfl | rfl | rfl <;> rfl
theorem dp_at {w : World} {a : Option Addr} {n : Nat} {l : List Dp} (h : DpsAt w a n l) {k : Nat} (hk : k < n) :
    ∃ b o p, a = some ⟨b, o, none⟩ ∧ l[k]? = some p ∧ w.cell? ⟨b, o + k * 4, none⟩ = some (.int .i64 p.k) ∧ w.cell? ⟨b, o + k * 4 + 1, none⟩ = some (.string p.nm) ∧ w.cell? ⟨b, o + k * 4 + 2, none⟩ = some (.string p.tt) ∧ w.cell? ⟨b, o + k * 4 + 3, none⟩ = some (.string p.d) := by
  have hl : k < l.length := by rw [h.len]; exact hk
  have hx : l[k]? = some l[k] := by simp [hl]
  obtain ⟨b, o, ha, hc⟩ := h.cell k _ hx
  exact ⟨b, o, _, ha, hx, hc 0 _ rfl, hc 1 _ rfl, hc 2 _ rfl, hc 3 _ rfl⟩
/-- Its texts are texts. -/
def StrD (p : Dp) : Prop := p.nm.size ≤ 9223372036854775807 ∧ p.tt.size ≤ 9223372036854775807 ∧ p.d.size ≤ 9223372036854775807
end Go.Proofs.YtigldeccfpkdmaaGreatDoor
namespace Go.Proofs.YtigldeccfpkdmaaGreatDoor
open Go.RowKit Go.BigFrame
def eqFl (p q : Fl) : Bool := p.nm.toList == q.nm.toList && p.d.toList == q.d.toList
set_option maxHeartbeats 1000000 in
theorem laws_eqFile (p q : Fl) (w : World) :
    Calls Tryz.prog 145 #[.agg #[.string p.nm, .string p.d], .agg #[.string q.nm, .string q.d]] w fun e w' => e = .returned (.bool (eqFl p q)) ∧ Below w.heap.size w w' := by
  obtain ⟨nm1, d1⟩ := p
  obtain ⟨nm2, d2⟩ := q
  go_enter Tryz.func145, Tryz.ntmps145
  go_wp2
  all_goals go_returns
  all_goals go_light
  all_goals refine ⟨?_, by go_grown⟩
  all_goals simp_all [eqFl]
def eqFls : List Fl → List Fl → Bool
  | [], [] => true
  | p :: r, q :: s => eqFl p q && eqFls r s
  | _, _ => false
theorem eqFls_refl (l : List Fl) : eqFls l l = true := by
  induction l with
  | nil => rfl
  | cons p r ih => simp [eqFls, eqFl, ih]
theorem eqFls_len {l : List Fl} : ∀ {m : List Fl}, l.length ≠ m.length → eqFls l m = false := by
  induction l with
  | nil => intro m h; cases m <;> simp [eqFls] at *
  | cons p r ih => intro m h; cases m <;> simp [eqFls] at *; exact fun _ => ih h
set_option maxHeartbeats 1000000 in
theorem laws_eqFileS (a : Option Addr) (n cap : Nat) (l : List Fl) (a' : Option Addr) (n' cap' : Nat) (m : List Fl) (w : World) (h : FlsAt w a n l) (h' : FlsAt w a' n' m) (hn : n ≤ 4194304) (hn' : n' ≤ 4194304) :
    Calls Tryz.prog 76 #[.slice a n cap, .slice a' n' cap'] w fun e w' => e = .returned (.bool (eqFls l m)) ∧ Below w.heap.size w w' := by
  have hlen : Hid (l.length = n) := h.len
  have hlen' : Hid (m.length = n') := h'.len
  by_cases hne : n = n'
  · subst hne
    have hbn : ((n : Int) != (n : Int)) = false := by simp
    go_enter Tryz.func76, Tryz.ntmps76
    go_wp2_with fail
    go_loopw [5] (fun ix wr => ∃ (k : Nat), k ≤ n ∧ ix = .int .i64 k ∧ Hid (eqFls l m = eqFls (l.drop k) (m.drop k)) ∧ Below w.heap.size w wr) (fun ix _ => n - (intOf ix).toNat)
    case atStart => exact ⟨0, Nat.zero_le _, rfl, rfl, Below.refl _ _⟩
    case round =>
      obtain ⟨k, hk, rfl, hI, hB⟩ := hrel
      by_cases hlt : k < n
      · obtain ⟨b, o, p, rfl, hp, c0, c1⟩ := fl_at (h.below hB) hlt
        obtain ⟨b', o', q, rfl, hq, d0, d1⟩ := fl_at (h'.below hB) hlt
        have hd : Hid (l.drop k = p :: l.drop (k + 1)) := drop_at hp
        have hd' : Hid (m.drop k = q :: m.drop (k + 1)) := drop_at hq
        clear hp hq
        have hk1 : (k : Int) < n := by omega
        have hk2 : (0 : Int) ≤ k := by omega
        cases hpq : eqFl p q
        all_goals
          go_wp2_with fail
          have g0 := gcell c0
          have j0 := gcell d0
          have g1 := gcell c1
          have j1 := gcell d1
          have hne := grw_ne wr
          refine wp_region_grow (by kernel_rfl) (by kernel_rfl) ?_
          repeat (go_big_quiet_step (first | (go_at_call 145; have qq := laws_eqFile p q; rw [hpq] at qq; exact grow_of (qq _))))
          refine wpQuiet_nil ?_
          intro w2 hx
          have hB2 := grw_out hx
          clear hx
          go_wp2
        · go_returns
          go_light
          refine ⟨ret_bool ?_, chain hB hB2⟩
          rw [hI.out, hd.out, hd'.out]; simp only [eqFls, hpq, Bool.false_and]
        · go_roundw
          case rel => exact ⟨k + 1, by omega, by go_num, by show _ = _; rw [hI.out, hd.out, hd'.out]; simp only [eqFls, hpq, Bool.true_and], chain hB hB2⟩
          case measure => simp [intOf]; omega
      · obtain rfl : k = n := by omega
        go_wp2
        go_returns
        go_light
        refine ⟨ret_bool ?_, hB⟩
        rw [hI.out, List.drop_of_length_le (Nat.le_of_eq hlen.out), List.drop_of_length_le (Nat.le_of_eq hlen'.out)]; rfl
  · have hbn : ((n : Int) != (n' : Int)) = true := by simp; omega
    go_enter Tryz.func76, Tryz.ntmps76
    go_wp2
    go_returns
    go_light
    refine ⟨ret_bool ?_, Below.refl _ _⟩
    rw [eqFls_len (by rw [hlen.out, hlen'.out]; exact hne)]
end Go.Proofs.YtigldeccfpkdmaaGreatDoor
namespace Go.Proofs.YtigldeccfpkdmaaGreatDoor
open Go.RowKit Go.BigFrame
def eqDp (p q : Dp) : Bool := p.k == q.k && p.nm.toList == q.nm.toList && p.tt.toList == q.tt.toList && p.d.toList == q.d.toList
set_option maxHeartbeats 1000000 in
theorem laws_eqDOp (p q : Dp) (w : World) :
    Calls Tryz.prog 146 #[.agg #[.int .i64 p.k, .string p.nm, .string p.tt, .string p.d], .agg #[.int .i64 q.k, .string q.nm, .string q.tt, .string q.d]] w fun e w' => e = .returned (.bool (eqDp p q)) ∧ Below w.heap.size w w' := by
  obtain ⟨k1, nm1, tt1, d1⟩ := p
  obtain ⟨k2, nm2, tt2, d2⟩ := q
  go_enter Tryz.func146, Tryz.ntmps146
  go_wp2
  all_goals go_returns
  all_goals go_light
  all_goals refine ⟨?_, by go_grown⟩
  all_goals simp_all [eqDp]
def eqDps : List Dp → List Dp → Bool
  | [], [] => true
  | p :: r, q :: s => eqDp p q && eqDps r s
  | _, _ => false
theorem eqDps_refl (l : List Dp) : eqDps l l = true := by
  induction l with
  | nil => rfl
  | cons p r ih => simp [eqDps, eqDp, ih]
theorem eqDps_len {l : List Dp} : ∀ {m : List Dp}, l.length ≠ m.length → eqDps l m = false := by
  induction l with
  | nil => intro m h; cases m <;> simp [eqDps] at *
  | cons p r ih => intro m h; cases m <;> simp [eqDps] at *; exact fun _ => ih h
set_option maxHeartbeats 1000000 in
theorem laws_eqDOpS (a : Option Addr) (n cap : Nat) (l : List Dp) (a' : Option Addr) (n' cap' : Nat) (m : List Dp) (w : World) (h : DpsAt w a n l) (h' : DpsAt w a' n' m) (hn : n ≤ 4194304) (hn' : n' ≤ 4194304) :
    Calls Tryz.prog 77 #[.slice a n cap, .slice a' n' cap'] w fun e w' => e = .returned (.bool (eqDps l m)) ∧ Below w.heap.size w w' := by
  have hlen : Hid (l.length = n) := h.len
  have hlen' : Hid (m.length = n') := h'.len
  by_cases hne : n = n'
  · subst hne
    have hbn : ((n : Int) != (n : Int)) = false := by simp
    go_enter Tryz.func77, Tryz.ntmps77
    go_wp2_with fail
    go_loopw [5] (fun ix wr => ∃ (k : Nat), k ≤ n ∧ ix = .int .i64 k ∧ Hid (eqDps l m = eqDps (l.drop k) (m.drop k)) ∧ Below w.heap.size w wr) (fun ix _ => n - (intOf ix).toNat)
    case atStart => exact ⟨0, Nat.zero_le _, rfl, rfl, Below.refl _ _⟩
    case round =>
      obtain ⟨k, hk, rfl, hI, hB⟩ := hrel
      by_cases hlt : k < n
      · obtain ⟨b, o, p, rfl, hp, c0, c1, c2, c3⟩ := dp_at (h.below hB) hlt
        obtain ⟨b', o', q, rfl, hq, d0, d1, d2, d3⟩ := dp_at (h'.below hB) hlt
        have hd : Hid (l.drop k = p :: l.drop (k + 1)) := drop_at hp
        have hd' : Hid (m.drop k = q :: m.drop (k + 1)) := drop_at hq
        clear hp hq
        have hk1 : (k : Int) < n := by omega
        have hk2 : (0 : Int) ≤ k := by omega
        cases hpq : eqDp p q
        all_goals
          go_wp2_with fail
          have g0 := gcell c0
          have j0 := gcell d0
          have g1 := gcell c1
          have j1 := gcell d1
          have g2 := gcell c2
          have j2 := gcell d2
          have g3 := gcell c3
          have j3 := gcell d3
          have hne := grw_ne wr
          refine wp_region_grow (by kernel_rfl) (by kernel_rfl) ?_
          repeat (go_big_quiet_step (first | (go_at_call 146; have qq := laws_eqDOp p q; rw [hpq] at qq; exact grow_of (qq _))))
          refine wpQuiet_nil ?_
          intro w2 hx
          have hB2 := grw_out hx
          clear hx
          go_wp2
        · go_returns
          go_light
          refine ⟨ret_bool ?_, chain hB hB2⟩
          rw [hI.out, hd.out, hd'.out]; simp only [eqDps, hpq, Bool.false_and]
        · go_roundw
          case rel => exact ⟨k + 1, by omega, by go_num, by show _ = _; rw [hI.out, hd.out, hd'.out]; simp only [eqDps, hpq, Bool.true_and], chain hB hB2⟩
          case measure => simp [intOf]; omega
      · obtain rfl : k = n := by omega
        go_wp2
        go_returns
        go_light
        refine ⟨ret_bool ?_, hB⟩
        rw [hI.out, List.drop_of_length_le (Nat.le_of_eq hlen.out), List.drop_of_length_le (Nat.le_of_eq hlen'.out)]; rfl
  · have hbn : ((n : Int) != (n' : Int)) = true := by simp; omega
    go_enter Tryz.func77, Tryz.ntmps77
    go_wp2
    go_returns
    go_light
    refine ⟨ret_bool ?_, Below.refl _ _⟩
    rw [eqDps_len (by rw [hlen.out, hlen'.out]; exact hne)]
end Go.Proofs.YtigldeccfpkdmaaGreatDoor
namespace Go.Proofs.YtigldeccfpkdmaaGreatDoor
open Go.RowKit
def nmB (s : ByteArray) : Bool := decide (1 ≤ s.size) && decide (s.size ≤ 100)
def emB (d : ByteArray) : Bool := d.toList == (⟨#[]⟩ : ByteArray).toList
/-- Names that are names, and rise. -/
def fgo : Option Fl → List Fl → Bool
  | _, [] => true
  | q, x :: r => nmB x.nm && (match q with | none => true | some p => bl p.nm.toList x.nm.toList) && fgo (some x) r
def sumB : List Fl → Nat
  | [] => 0
  | x :: r => x.d.size + sumB r
def filesB (l : List Fl) : Bool := decide (l.length ≤ 60) && fgo none l && decide (sumB l ≤ 200000)
def formB (o : Dp) : Bool := decide (1 ≤ o.k) && decide (o.k ≤ 3) && nmB o.nm && (if o.k = 2 then nmB o.tt && emB o.d else emB o.tt && (decide (o.k = 1) || emB o.d))
def atF (l : List Fl) (nm : ByteArray) : Option Nat := l.findIdx? (fun x => x.nm.toList == nm.toList)
/-- One round of putting a file in its place. -/
def putS (x : Fl) (st : List Fl × Bool) (y : Fl) : List Fl × Bool :=
  ((if (!st.2 && !(bl y.nm.toList x.nm.toList)) = true then st.1 ++ [x] else st.1) ++ (if (y.nm.toList == x.nm.toList) = true then [] else [y]), st.2 || !(bl y.nm.toList x.nm.toList))
def putE (x : Fl) (st : List Fl × Bool) : List Fl := if st.2 = true then st.1 else st.1 ++ [x]
def putK (x : Fl) (l : List Fl) (k : Nat) : List Fl × Bool := (l.take k).foldl (putS x) ([], false)
def putF (x : Fl) (l : List Fl) : List Fl := putE x (l.foldl (putS x) ([], false))
def cutF (nm : ByteArray) (l : List Fl) : List Fl := l.filter (fun y => !(y.nm.toList == nm.toList))
def doF (l : List Fl) (o : Dp) : List Fl × Bool :=
  match atF l o.nm with
  | none => if o.k = 1 then (putF ⟨o.nm, o.d⟩ l, true) else (l, false)
  | some i => match l[i]? with
    | none => (l, false)
    | some f => if o.k = 1 then (putF ⟨o.nm, f.d ++ o.d⟩ l, true) else if o.k = 2 then (putF ⟨o.tt, f.d⟩ (cutF o.nm l), true) else (cutF o.nm l, true)
/-- All ops, one behind the other: none where one is not right. -/
def runF : List Fl → List Dp → Option (List Fl)
  | l, [] => some l
  | l, o :: r => if ((doF l o).2 && formB o && filesB (doF l o).1) = true then runF (doF l o).1 r else none
structure Dk where
  live : List Fl
  safe : List Fl
  ops : List Dp
def diskB (d : Dk) : Bool := filesB d.live && filesB d.safe && decide (d.ops.length ≤ 200) && (match runF d.safe d.ops with | none => false | some l => eqFls l d.live)
theorem putK_succ {x : Fl} {l : List Fl} {k : Nat} {y : Fl} (h : l[k]? = some y) : putK x l (k + 1) = putS x (putK x l k) y := by
  unfold putK
  rw [List.take_add_one, h]
  simp
theorem putK_all {x : Fl} {l : List Fl} {n : Nat} (h : l.length = n) : putE x (putK x l n) = putF x l := by
  unfold putK putF
  rw [List.take_of_length_le (Nat.le_of_eq h)]
theorem putF_len0 (x : Fl) : ∀ (l : List Fl) (st : List Fl × Bool), (l.foldl (putS x) st).1.length + (if (l.foldl (putS x) st).2 = true then 0 else 1) ≤ st.1.length + (if st.2 = true then 0 else 1) + l.length
  | [], st => Nat.le_refl _
  | y :: r, st => by
    have h := putF_len0 x r (putS x st y)
    rw [List.foldl_cons]
    have h2 : (putS x st y).1.length + (if (putS x st y).2 = true then 0 else 1) ≤ st.1.length + (if st.2 = true then 0 else 1) + 1 := by
      unfold putS
      obtain ⟨a, d⟩ := st
      cases d <;> cases bl y.nm.toList x.nm.toList <;> cases (y.nm.toList == x.nm.toList) <;> simp <;> omega
    simp only [List.length_cons]
    omega
theorem putF_len (x : Fl) (l : List Fl) : (putF x l).length ≤ l.length + 1 := by
  have h := putF_len0 x l ([], false)
  unfold putF putE
  split
  · rename_i hd; rw [if_pos hd] at h; simp at h; omega
  · rename_i hd; rw [if_neg hd] at h; simp at h ⊢; omega
theorem putF_mem0 (x : Fl) : ∀ (l : List Fl) (st : List Fl × Bool) (z : Fl), z ∈ (l.foldl (putS x) st).1 → z ∈ st.1 ∨ z = x ∨ z ∈ l
  | [], st, z, h => .inl h
  | y :: r, st, z, h => by
    rcases putF_mem0 x r _ z h with h | h | h
    · simp only [putS] at h
      rcases List.mem_append.1 h with h | h
      · split at h
        · rcases List.mem_append.1 h with h | h
          · exact .inl h
          · exact .inr (.inl (by simpa using h))
        · exact .inl h
      · split at h
        · cases h
        · exact .inr (.inr (by simp at h; simp [h]))
    · exact .inr (.inl h)
    · exact .inr (.inr (by simp [h]))
theorem putF_mem {x : Fl} {l : List Fl} {z : Fl} (h : z ∈ putF x l) : z = x ∨ z ∈ l := by
  unfold putF putE at h
  split at h
  · rcases putF_mem0 x l _ z h with h | h
    · cases h
    · exact h
  · rcases List.mem_append.1 h with h | h
    · rcases putF_mem0 x l _ z h with h | h
      · cases h
      · exact h
    · exact .inl (by simpa using h)
theorem sumB_app : ∀ (a b : List Fl), sumB (a ++ b) = sumB a + sumB b
  | [], b => by simp [sumB]
  | x :: r, b => by simp only [List.cons_append, sumB, sumB_app r b]; omega
theorem sumB_mem : ∀ {l : List Fl} {x : Fl}, x ∈ l → x.d.size ≤ sumB l
  | y :: r, x, h => by
    rcases List.mem_cons.1 h with rfl | h
    · simp only [sumB]; omega
    · have := sumB_mem h; simp only [sumB]; omega
theorem filesB_all {l : List Fl} (h : filesB l = true) : l.length ≤ 60 ∧ sumB l ≤ 200000 ∧ fgo none l = true := by
  simp only [filesB, Bool.and_eq_true, decide_eq_true_eq] at h
  exact ⟨h.1.1, h.2, h.1.2⟩
theorem fgo_names : ∀ {l : List Fl} {q : Option Fl}, fgo q l = true → ∀ x ∈ l, nmB x.nm = true
  | y :: r, q, h, x, hx => by
    simp only [fgo, Bool.and_eq_true] at h
    rcases List.mem_cons.1 hx with rfl | hx
    · exact h.1.1
    · exact fgo_names h.2 x hx
end Go.Proofs.YtigldeccfpkdmaaGreatDoor
namespace Go.Proofs.YtigldeccfpkdmaaGreatDoor
open Go.RowKit Go.BigFrame
theorem spec_l8Name (d : ByteArray) (w : World) (hd : d.size ≤ 9223372036854775807) :
    Calls Tryz.prog 195 #[.string d] w fun e w' => e = .returned (.bool (nmB d)) ∧ w' = w := by
  by_cases h1 : 1 ≤ d.size
  · have hf : Hid (decide ((d.size : Int) ≤ 100) = nmB d) := by
      show _ = _
      have h2 : ((d.size : Int) ≤ 100) ↔ d.size ≤ 100 := by omega
      simp [nmB, h1, h2]
    go_enter Tryz.func195, Tryz.ntmps195
    go_wp2
    go_returns
    exact ⟨ret_bool hf.out, rfl⟩
  · have hf : Hid (nmB d = false) := by show _ = _; simp [nmB]; omega
    go_enter Tryz.func195, Tryz.ntmps195
    go_wp2
    go_returns
    exact ⟨ret_bool hf.out.symm, rfl⟩
theorem spec_l1InD (n low high : Int) (w : World) :
    Calls Tryz.prog 54 #[.int .i64 n, .int .i64 low, .int .i64 high] w fun e w' => e = .returned (.bool (decide (low ≤ n) && decide (n ≤ high))) ∧ w' = w := by
  by_cases h1 : low ≤ n <;> by_cases h2 : n ≤ high
  all_goals
    have hf : Hid ((decide (low ≤ n) && decide (n ≤ high)) = (decide (low ≤ n) && decide (n ≤ high))) := rfl
    go_enter Tryz.func54, Tryz.ntmps54
    go_wp2
    go_returns
    exact ⟨by simp [*], rfl⟩
/-- Where a file is: its place, or -1. -/
def plF (o : Option Nat) : Int := match o with | none => -1 | some i => i
theorem atF_drop {l : List Fl} {nm : ByteArray} {k : Nat} {x : Fl} (h : l[k]? = some x) : (atF (l.drop k) nm).map (· + k) = if (x.nm.toList == nm.toList) = true then some k else (atF (l.drop (k + 1)) nm).map (· + (k + 1)) := by
  unfold atF
  rw [drop_at h, List.findIdx?_cons]
  split
  · simp
  · simp only [Option.map_map]
    congr 1
    funext i
    simp only [Function.comp]
    omega
set_option maxHeartbeats 1000000 in
theorem spec_l8At (a : Option Addr) (n cap : Nat) (l : List Fl) (nm : ByteArray) (w : World) (h : FlsAt w a n l) (hn : n ≤ 4194304) :
    Calls Tryz.prog 141 #[.slice a n cap, .string nm] w fun e w' => e = .returned (.int .i64 (plF (atF l nm))) ∧ w' = w := by
  have hlen : Hid (l.length = n) := h.len
  go_enter Tryz.func141, Tryz.ntmps141
  go_wp2_with fail
  go_loopw [5] (fun ix wr => ∃ k : Nat, k ≤ n ∧ ix = .int .i64 k ∧ Hid (atF l nm = (atF (l.drop k) nm).map (· + k)) ∧ w = wr) (fun ix _ => n - (intOf ix).toNat)
  case atStart => exact ⟨0, Nat.zero_le _, rfl, by show _ = _; simp, rfl⟩
  case round =>
    obtain ⟨k, hk, rfl, hI, rfl⟩ := hrel
    by_cases hlt : k < n
    · obtain ⟨b, o, p, rfl, hp, c0, c1⟩ := fl_at h hlt
      have hst := atF_drop (nm := nm) hp
      clear hp
      have hk1 : (k : Int) < n := by omega
      have hk2 : (0 : Int) ≤ k := by omega
      cases heq : (p.nm.toList == nm.toList)
      · have hq : ¬ p.nm.toList = nm.toList := by simpa using heq
        rw [heq, if_neg (by simp)] at hst
        have hst' : Hid (atF l nm = (atF (l.drop (k + 1)) nm).map (· + (k + 1))) := by show _ = _; rw [hI.out]; exact hst
        clear hst hI
        go_wp2
        go_roundw
        case rel => exact ⟨k + 1, by omega, by go_num, hst', by first | trivial | rfl⟩
        case measure => simp [intOf]; omega
      · have hq : p.nm.toList = nm.toList := by simpa using heq
        rw [heq, if_pos rfl] at hst
        have hst' : Hid (atF l nm = some k) := by show _ = _; rw [hI.out]; exact hst
        clear hst hI
        go_wp2
        go_returns
        exact ⟨by rw [hst'.out]; rfl, rfl⟩
    · obtain rfl : k = n := by omega
      have hend : Hid (atF l nm = none) := by
        show _ = _
        rw [hI.out, List.drop_of_length_le (Nat.le_of_eq hlen.out)]; rfl
      clear hI
      go_wp2
      go_returns
      exact ⟨by rw [hend.out]; rfl, rfl⟩
theorem infoFl : (Tryz.prog.info? 123).map (fun i => (i.zero, i.size, i.bytes)) = some (some (.agg #[.string .empty, .string .empty]), 2, 32) := by kernel_rfl
theorem sl_newFl (w : World) (r : Fl) (t : TypeId) (b : Nat) (hb : b = w.heap.size) : SlAt Fl.cs 2 (w.alloc (.cells #[.string r.nm, .string r.d] t)) (some ⟨b, 0, none⟩) 1 [r] := by
  subst hb
  refine ⟨rfl, fun i y hy => ⟨_, 0, rfl, fun j v hv => ?_⟩⟩
  have hi : i = 0 := by have := (List.getElem?_eq_some_iff.1 hy).1; simp at this; exact this
  subst hi
  simp at hy
  subst hy
  rw [World.cell?_alloc_new]
  simp only [Nat.zero_mul, Nat.zero_add]
  match j, hv with
  | 0, hv => exact hv
  | 1, hv => exact hv
  | j + 2, hv => simp [Fl.cs] at hv
section
variable {o : Oper} {a : Act} {w : World} {K : Act → World → Prop} {Q : Exit → Act → World → Prop}
theorem wp_appFl (s x : Operand) (ho : o.op = .call { callee := .builtin .append, args := #[s, x], argTypes := #[49, 49] })
    (B : Nat) (da : Option Addr) (dn dcap : Nat) (ld : List Fl) (hs : a.eval s = .slice da dn dcap) (hd : ResAt Fl.cs 2 123 w B da dn dcap ld)
    (sa : Option Addr) (sn scap : Nat) (ls : List Fl) (hx : a.eval x = .slice sa sn scap) (hsrc : FlsAt w sa sn ls) (hspot : ∀ ad, sa = some ad → ad.spot = none) (hnone : sa = none → scap = 0)
    (tot : Nat) (htot : dn + sn = tot) (h63 : tot ≤ 9000000) (hbase : B ≤ w.heap.size)
    (h : ∀ a' cap' w', ResAt Fl.cs 2 123 w' B a' tot cap' (ld ++ ls) → w.grownBy w' (Value.ownBlock (.slice da dn dcap)) → K (a.put o.dst (.slice a' tot cap')) w') : o.wp Tryz.prog a w K Q := by
  obtain ⟨i0, hi, hz0, hz1, hz2⟩ := info_parts infoFl
  exact wp_app s x _ ho B _ i0 _ 32 Tryz.underlying49 hi hz0 hz1 hz2 rfl (by decide) flcs_len flcs_one da dn dcap ld hs hd sa sn scap ls hx hsrc hspot hnone tot htot (by unfold maxLen; omega) (by omega) hbase h
end
set_option maxHeartbeats 2000000 in
set_option maxRecDepth 100000 in
theorem spec_l8Cut (a : Option Addr) (n cap : Nat) (l : List Fl) (nm : ByteArray) (w : World) (h : FlsAt w a n l) (hn : n ≤ 4194304) :
    Calls Tryz.prog 197 #[.slice a n cap, .string nm] w fun e w' => (∃ a' n' cap', e = .returned (.slice a' n' cap') ∧ n' ≤ n ∧ ResAt Fl.cs 2 123 w' w.heap.size a' n' cap' (cutF nm l)) ∧ Below w.heap.size w w' := by
  have hlen : Hid (l.length = n) := h.len
  go_enter Tryz.func197, Tryz.ntmps197
  go_wp2_with fail
  go_loopw [5, 6] (fun out ix wr => ∃ (k : Nat) (a2 : Option Addr) (n2 cap2 : Nat), k ≤ n ∧ ix = .int .i64 k ∧ out = .slice a2 n2 cap2 ∧ n2 ≤ k ∧ ResAt Fl.cs 2 123 wr w.heap.size a2 n2 cap2 (cutF nm (l.take k)) ∧ Below w.heap.size w wr) (fun _ ix _ => n - (intOf ix).toNat)
  case atStart => exact ⟨0, _, 0, 0, Nat.zero_le _, rfl, rfl, Nat.le_refl _, res_empty (Blk.new' _ _ _ _ rfl) (Nat.le_refl _), by go_grown⟩
  case round =>
    obtain ⟨k, a2, n2, cap2, hk, rfl, rfl, hn2, R, hB⟩ := hrel
    have hsz := hB.size
    by_cases hlt : k < n
    · obtain ⟨b, o, p, rfl, hp, c0, c1⟩ := fl_at (h.below hB) hlt
      have hst : cutF nm (l.take (k + 1)) = cutF nm (l.take k) ++ (if (p.nm.toList == nm.toList) = true then [] else [p]) := by
        unfold cutF
        rw [take_at hp, List.filter_append]
        cases hq : (p.nm.toList == nm.toList) <;> simp [hq]
      clear hp
      have hk1 : (k : Int) < n := by omega
      have hk2 : (0 : Int) ≤ k := by omega
      generalize cutF nm (l.take k) = G at *
      cases heq : (p.nm.toList == nm.toList)
      · have hq : ¬ p.nm.toList = nm.toList := by simpa using heq
        rw [heq, if_neg (by simp)] at hst
        have hst' : Hid (cutF nm (l.take (k + 1)) = G ++ [p]) := hst
        clear hst
        go_wp2_with (at_builtin; refine wpList_app rfl (fun K hK => wp_appFl _ _ rfl w.heap.size a2 n2 cap2 G rfl (R.alloc _) _ 1 1 [p] rfl (sl_newFl _ p _ _ rfl) (fun ad h => (by cases h; rfl)) (fun h => (by cases h)) (n2 + 1) rfl (by omega) (by simp; omega) (fun a3 cap3 w3 R3 hg3 => hK _ _ ?_)))
        have hB3 : Below w.heap.size w w3 := Below.grown (hB.alloc hsz _) hg3 (by simp; omega) (own_ge fun ad had => (R.block ad had).1)
        go_wp2
        go_roundw
        case rel => exact ⟨k + 1, a3, n2 + 1, cap3, by omega, by go_num, rfl, by omega, by rw [hst'.out]; exact R3, hB3⟩
        case measure => simp [intOf]; omega
      · have hq : p.nm.toList = nm.toList := by simpa using heq
        rw [heq, if_pos rfl, List.append_nil] at hst
        have hst' : Hid (cutF nm (l.take (k + 1)) = G) := hst
        clear hst
        go_wp2
        go_roundw
        case rel => exact ⟨k + 1, a2, n2, cap2, by omega, by go_num, rfl, by omega, by rw [hst'.out]; exact R, hB⟩
        case measure => simp [intOf]; omega
    · obtain rfl : k = n := by omega
      rw [List.take_of_length_le (Nat.le_of_eq hlen.out)] at R
      go_wp2
      go_returns
      exact ⟨⟨a2, n2, cap2, rfl, hn2, R⟩, hB⟩
end Go.Proofs.YtigldeccfpkdmaaGreatDoor
