/- What a tally tells: every owner whose count is not nought, in order. told of the program. Merged and Flushed of the program. Plain facts for PoolOk of the program: sets of addresses; volumes by their names. -/
import Derived.Test.YtigldeccfpkdmaaGreatDoorCReadPoolx22
import Derived.Maps.OwnSet
import Derived.Test.YtigldeccfpkdmaaGreatDoorCReadPoolx18
namespace Go.Proofs.YtigldeccfpkdmaaGreatDoor
open Go.RowKit Go.BigFrame
open Go.Maps (Keyed)
theorem lits2_inv {d : Nat} {x : Value} {L : List Lit} (h : Tryz.prog.keyLits d.succ 2 [x] = some L) : ∃ n, x = .int .i64 n ∧ (Lit.int .i64 n).wf = true := by
  unfold Program.keyLits at h
  simp only [Tryz.underlying2] at h
  cases x <;> simp at h
  obtain ⟨⟨rfl, h2⟩, _⟩ := h
  exact ⟨_, rfl, h2⟩
theorem lits9_inv {d : Nat} {x : Value} {L : List Lit} (h : Tryz.prog.keyLits d.succ 9 [x] = some L) : ∃ s, x = .string s ∧ s.size ≤ maxLen := by
  unfold Program.keyLits at h
  simp only [Tryz.underlying9] at h
  cases x <;> simp at h
  exact ⟨_, rfl, h.1⟩
set_option maxRecDepth 100000 in
theorem keyO_inv {v : Value} {kl : Lit} (h : keyOf Tryz.prog 132 v = some kl) : ∃ o, v = vO o ∧ WfO o := by
  obtain ⟨xs, L, rfl, h1, _⟩ := keyOf_top wideO h
  clear h
  have hc : Tryz.prog.cellsOf 132 = 3 := by kernel_rfl
  have hc2 : Tryz.prog.cellsOf 2 = 1 := by kernel_rfl
  have hc9 : Tryz.prog.cellsOf 9 = 1 := by kernel_rfl
  obtain ⟨d, hd⟩ := Nat.exists_eq_succ_of_ne_zero (Nat.ne_of_gt (Nat.zero_lt_of_lt rowO))
  rw [hd] at h1
  clear hd
  unfold Program.keyLits at h1
  simp only [Tryz.underlying132, hc] at h1
  split at h1
  · rename_i hl
    obtain ⟨hl, _⟩ := hl
    obtain ⟨xs⟩ := xs
    simp only at hl h1
    match xs, hl with
    | [x0, x1, x2], _ =>
      simp [hc2, hc9, Option.bind_eq_some_iff] at h1
      obtain ⟨L0, e0, L1, ⟨M1, e1, M2, ⟨M3, e2, _⟩, _⟩, _⟩ := h1
      obtain ⟨n0, rfl, w0⟩ := lits2_inv e0
      obtain ⟨n1, rfl, w1⟩ := lits2_inv e1
      obtain ⟨s, rfl, w2⟩ := lits9_inv e2
      exact ⟨⟨n0, n1, s⟩, rfl, ⟨w0, w1, w2⟩⟩
  · cases h1
/-- What has been collected of a tally that is gone through: left says which owners are still to come. -/
structure Col (f : Ow → Int) (left : Lit → Bool) (out : List Ct) : Prop where
  wf : ∀ c ∈ out, WfO c.o ∧ left (klO c.o) = false
  nz : NoZero out
  ne : out.Pairwise (fun x y => x.o ≠ y.o)
  sum : ∀ o, WfO o → left (klO o) = false → tot o out = f o
theorem tot_absent {o : Ow} : ∀ {l : List Ct}, (∀ c ∈ l, c.o ≠ o) → tot o l = 0
  | [], _ => rfl
  | c :: r, h => by
    have h1 : owEq c.o o = false := by
      cases e : owEq c.o o
      · rfl
      · exact absurd (owEq_iff.1 e) (h c (by simp))
    simp only [tot, h1, Bool.false_eq_true, if_false]
    rw [tot_absent (fun x hx => h x (by simp [hx]))]; rfl
theorem klO_key (o : Ow) : WideAt.IsKeyLit (klO o) := trivial
theorem strike {left : Lit → Bool} {o o' : Ow} (h : WfO o) (h' : WfO o') : (left (klO o') && !(klO o').sameKey (klO o)) = (left (klO o') && !owEq o o') := by
  by_cases e : o = o'
  · subst e; rw [WideAt.sameKey_self (klO_key o), owEq_self]
  · have h1 : (klO o').sameKey (klO o) = false := by
      cases hs : (klO o').sameKey (klO o)
      · rfl
      · exact absurd (klO_inj h h' (WideAt.sameKey_eq hs).symm) e
    have h2 : owEq o o' = false := by
      cases hs : owEq o o'
      · rfl
      · exact absurd (owEq_iff.1 hs) e
    rw [h1, h2]
theorem Col.skip {f : Ow → Int} {left : Lit → Bool} {out : List Ct} (h : Col f left out) {o : Ow} (ho : WfO o) (hl : left (klO o) = true) (hf : f o = 0) : Col f (fun z => left z && !z.sameKey (klO o)) out := by
  refine ⟨fun c hc => ⟨(h.wf c hc).1, by simp [(h.wf c hc).2]⟩, h.nz, h.ne, fun o' ho' hl' => ?_⟩
  rw [strike ho ho'] at hl'
  by_cases e : o = o'
  · subst e
    rw [hf]
    exact tot_absent (fun c hc e => by have := (h.wf c hc).2; rw [e, hl] at this; cases this)
  · have h2 : owEq o o' = false := by
      cases hs : owEq o o'
      · rfl
      · exact absurd (owEq_iff.1 hs) e
    rw [h2] at hl'
    exact h.sum o' ho' (by simpa using hl')
theorem Col.take {f : Ow → Int} {left : Lit → Bool} {out : List Ct} (h : Col f left out) {o : Ow} (ho : WfO o) (hl : left (klO o) = true) (hf : f o ≠ 0) : Col f (fun z => left z && !z.sameKey (klO o)) (out ++ [⟨o, f o⟩]) := by
  have habs : ∀ c ∈ out, c.o ≠ o := fun c hc e => by have := (h.wf c hc).2; rw [e, hl] at this; cases this
  refine ⟨fun c hc => ?_, fun c hc => ?_, ?_, fun o' ho' hl' => ?_⟩
  · rcases List.mem_append.1 hc with hc | hc
    · exact ⟨(h.wf c hc).1, by simp [(h.wf c hc).2]⟩
    · simp at hc; subst hc
      refine ⟨ho, ?_⟩
      rw [strike ho ho, owEq_self]; simp
  · rcases List.mem_append.1 hc with hc | hc
    · exact h.nz c hc
    · simp at hc; subst hc; exact hf
  · rw [List.pairwise_append]
    refine ⟨h.ne, by simp, fun x hx y hy => ?_⟩
    simp at hy; subst hy; exact habs x hx
  · rw [strike ho ho'] at hl'
    rw [tot_append]
    by_cases e : o = o'
    · subst e
      rw [tot_absent habs]
      simp [tot, owEq_self]
    · have h2 : owEq o o' = false := by
        cases hs : owEq o o'
        · rfl
        · exact absurd (owEq_iff.1 hs) e
      rw [h2] at hl'
      rw [h.sum o' ho' (by simpa using hl')]
      simp [tot, h2]
theorem tot_perm {l m : List Ct} (h : l.Perm m) : ∀ o, tot o l = tot o m := fun o => by
  induction h with
  | nil => rfl
  | cons x _ ih => simp only [tot, ih]
  | swap x y l => simp only [tot]; omega
  | trans _ _ ih1 ih2 => rw [ih1, ih2]
/-- All of it: with no owner left to come, sorted, it is in order, has no nought, and adds up to what the tally holds. -/
theorem col_end {f : Ow → Int} {left : Lit → Bool} {out l' : List Ct} (h : Col f left out) (hl : ∀ kl, left kl = false) (hp : l'.Perm out) (hs : SortedC l') : Rising l' ∧ NoZero l' ∧ WfC l' ∧ (∀ o, WfO o → tot o l' = f o) := by
  have hwf : WfC l' := fun c hc => (h.wf c (hp.mem_iff.1 hc)).1
  have hne : l'.Pairwise (fun x y => x.o ≠ y.o) := (hp.pairwise_iff (fun {a b} (h : a.o ≠ b.o) => h.symm)).2 h.ne
  have htot := tot_perm hp
  refine ⟨?_, fun c hc => h.nz c (hp.mem_iff.1 hc), hwf, fun o ho => by rw [htot, h.sum o ho (hl _)]⟩
  unfold Rising
  rw [List.pairwise_iff_getElem]
  intro i j hi hj hij
  exact owLt_total ((List.pairwise_iff_getElem.1 hs) i j hi hj hij) (fun e => (List.pairwise_iff_getElem.1 hne) i j hi hj hij e.symm)
end Go.Proofs.YtigldeccfpkdmaaGreatDoor
namespace Go.Proofs.YtigldeccfpkdmaaGreatDoor
open Go.RowKit Go.BigFrame
open Go.Maps (Keyed)
theorem elem_int {v : Value} {y : DataW Unit × List MemPlace} (h : plainElem Tryz.prog 2 v = some y) : ∃ c : Int, v = .int .i64 c := by
  obtain ⟨c, rfl, _⟩ := plainElem_int_inv Tryz.underlying2 h
  exact ⟨c, rfl⟩
theorem sl_newC' (w : World) (o : Ow) (n : Int) (t : TypeId) (b : Nat) (hb : b = w.heap.size) : CtsAt (w.alloc (.cells #[.int .i64 o.a, .int .i64 o.v, .string o.f, .int .i64 n] t)) (some ⟨b, 0, none⟩) 1 [⟨o, n⟩] := sl_newC w ⟨o, n⟩ t b hb
set_option maxHeartbeats 2000000 in
set_option maxRecDepth 100000 in
theorem impl_told' (b m : Nat) (f : Ow → Int) (w : World) (hT : TlAt w b m f) (hm : m ≤ 1000000) :
    Calls Tryz.prog 169 #[.map (some b)] w fun e w' => (∃ a n cap l, e = .returned (.slice a n cap) ∧ n ≤ m ∧ ResAt Ct.cs 4 134 w' w.heap.size a n cap l ∧ Rising l ∧ NoZero l ∧ WfC l ∧ ∀ o, WfO o → tot o l = f o) ∧ Below w.heap.size w w' := by
  have hbl := hT.lt
  obtain ⟨D, hown, hv⟩ := hT
  have hsz := hown.size_le
  obtain ⟨i0, hi, hz0, hz1, hz2⟩ := info_parts infoC
  go_enter Tryz.func169, Tryz.ntmps169
  go_wp2_with (first
    | (at_range; refine wpList_range_own _ rfl _ 226 rfl 132 2 keyedO Tryz.underlying226 _ b m D rfl hown ?_; intro w0 hrg0 hg0 hs0)
    | go_in)
  go_frame
  go_loopw [3] (fun out wr => ∃ (left : Lit → Bool) (cnt : Nat) (a2 : Option Addr) (n2 cap2 : Nat) (lk : List Ct), out = .slice a2 n2 cap2 ∧ n2 + cnt ≤ m ∧ wr.ranges Tryz.prog 132 (plainElem Tryz.prog 2) b w.heap.size m D left cnt ∧ ResAt Ct.cs 4 134 wr (w.heap.size + 1) a2 n2 cap2 lk ∧ Col f left lk ∧ w.heap.size + 1 ≤ wr.heap.size ∧ Below w.heap.size w wr)
    (fun _ wr => wr.rangeLeft b w.heap.size)
  case atStart =>
    refine ⟨_, _, none, 0, 0, [], rfl, by omega, hrg0, res_nil, ⟨by simp, fun c hc => by simp at hc, List.Pairwise.nil, fun o ho hl => ?_⟩, by omega, (Below.refl _ _).grown hg0 (Nat.le_refl _) (fun j hj => by cases hj)⟩
    have := hv o ho
    rw [Maps.atKey_of_not_has hl] at this
    injection this with e2
    injection e2 with _ e3
  case round =>
    obtain ⟨left, cnt, a2, n2, cap2, lk, rfl, hnc, hrg, R2, hC, hws, hB⟩ := hrel
    go_wp2_with (first
      | (at_next; refine wpList_next_ranges _ rfl _ rfl 132 keyedO (plainElem Tryz.prog 2) vO (Value.int .i64) (fun key kl hk => (by obtain ⟨o, ho, _⟩ := keyO_inv hk; exact ⟨o, ho⟩)) (fun v y h => elem_int h) b w.heap.size m D left cnt rfl hrg ?_ ?_)
      | go_in)
    · intro hc0 hl0
      go_wp2_with fail
      refine (sort_res (w.heap.size + 1) a2 n2 cap2 lk wr R2 (by omega)).mono ?_
      rintro e w4 ⟨rfl, l', hp, hs, R4, hg4⟩
      obtain ⟨q1, q2, q3, q4⟩ := col_end hC hl0 hp hs
      have hB4 := below_grownO hB hg4 (rowB_ge (fun ad had => by have := (R2.block ad had).1; omega))
      go_wp2
      go_returns
      exact ⟨⟨a2, n2, cap2, l', rfl, by omega, R4.mono (by omega), q1, q2, q3, q4⟩, hB4⟩
    · intro o c kl y yp w1 cnt1 hkey hlk hRv hat hrg1 hlt hg1 hs1 hen
      have hwo : WfO o := by
        obtain ⟨o', e, hwo⟩ := keyO_inv hkey
        obtain ⟨a, v, f⟩ := o
        obtain ⟨a', v', f'⟩ := o'
        simp [vO] at e
        obtain ⟨rfl, rfl, rfl⟩ := e
        exact hwo
      obtain rfl : klO o = kl := by
        have := keyO hwo
        rw [hkey] at this
        exact (Option.some.inj this).symm
      have hc : f o = c := by
        have h1 := hv o hwo
        obtain ⟨c', e, ey, _⟩ := plainElem_int_inv Tryz.underlying2 hRv
        obtain ⟨rfl, _⟩ := Prod.mk.inj ey
        obtain rfl : c = c' := by simpa using e
        rw [hat] at h1
        injection h1 with e2
        injection e2 with _ e3
        exact e3.symm
      have R3 : ResAt Ct.cs 4 134 w1 (w.heap.size + 1) a2 n2 cap2 lk := R2.grown hg1 (fun ad had => by have := (R2.block ad had).1; omega)
      have hB1 : Below w.heap.size w w1 := hB.grown hg1 hB.size (fun j hj => by cases hj; exact Nat.le_refl _)
      have hs1' : w.heap.size + 1 ≤ w1.heap.size := by omega
      clear hkey hRv hat hg1 R2 hB hs1
      unfold vO at hen ⊢
      by_cases hc0 : c = 0
      · have hcb : (c != 0) = false := by simp [hc0]
        have hC' := hC.skip hwo hlk (by rw [hc, hc0])
        clear hc0
        go_wp2
        have hrg2 := hrg1.kept (World.grownBy_alloc w1 (.cells #[.int .i64 o.a, .int .i64 o.v, .string o.f] 132) none) (by simp) (by simp)
        go_roundw
        case rel => exact ⟨_, cnt1, a2, n2, cap2, lk, rfl, by omega, hrg2, R3.alloc _, hC', by simp; omega, hB1.alloc hB1.size _⟩
        case measure => rw [hrg2.left_eq, hrg.left_eq]; exact hlt
      · have hcb : (c != 0) = true := by simp [hc0]
        have hC' := hC.take hwo hlk (by rw [hc]; exact hc0)
        rw [hc] at hC'
        clear hc0
        go_wp2_with (at_builtin; refine wpList_app rfl (fun K hK => wp_app _ _ 24 rfl (w.heap.size + 1) 134 i0 (.agg #[.int .i64 0, .int .i64 0, .string .empty, .int .i64 0]) 40 Tryz.underlying24 hi hz0 hz1 hz2 rfl (by decide) ccs_len ccs_one a2 n2 cap2 lk rfl ((R3.alloc _).alloc _) _ 1 1 [⟨o, c⟩] rfl (sl_newC' _ o c _ _ (by simp)) (fun ad h => (by cases h; rfl)) (fun h => (by cases h)) (n2 + 1) rfl (by unfold maxLen; omega) (by omega) (by simp; omega) (fun a3 cap3 w3 R4 hg3 => hK _ _ ?_)))
        have hrg2 := ((hrg1.kept (World.grownBy_alloc w1 (.cells #[.int .i64 o.a, .int .i64 o.v, .string o.f] 132) none) (by simp) (by simp)).kept (World.grownBy_alloc _ (.cells #[.int .i64 o.a, .int .i64 o.v, .string o.f, .int .i64 c] 134) none) (by simp) (by simp)).kept hg3 (own_ne fun ad had => by have := (R3.block ad had).1; omega) (own_ne fun ad had => by have := (R3.block ad had).1; omega)
        have hB3 : Below w.heap.size w w3 := Below.grown (by go_grown) hg3 (by simp; omega) (own_ge fun ad had => by have := (R3.block ad had).1; omega)
        have hs3 : w.heap.size + 1 ≤ w3.heap.size := Nat.le_trans (by simp; omega) hg3.size
        go_roundw
        case rel => exact ⟨_, cnt1, a3, n2 + 1, cap3, _, rfl, by omega, hrg2, R4, hC', hs3, hB3⟩
        case measure => rw [hrg2.left_eq, hrg.left_eq]; exact hlt
end Go.Proofs.YtigldeccfpkdmaaGreatDoor
namespace Go.Proofs.YtigldeccfpkdmaaGreatDoor
open Go.RowKit Go.BigFrame
theorem wf_owner {o : Ow} (h : ownerOkB o = true) : WfO o := by
  simp only [ownerOkB, nameB, Bool.and_eq_true, decide_eq_true_eq] at h
  obtain ⟨⟨⟨⟨h1, h2⟩, h3⟩, h4⟩, ⟨⟨_, h5⟩, _⟩⟩ := h
  exact ⟨WalkArith.wf_i64 (by omega), WalkArith.wf_i64 (by omega), by unfold maxLen; omega⟩
theorem late_wf {l : List Ct} (h : lateOkB l = true) : WfC l ∧ NoZero l := by
  simp only [lateOkB, Bool.and_eq_true, decide_eq_true_eq, List.all_eq_true] at h
  refine ⟨fun c hc => ?_, fun c hc => ?_⟩
  · have := h.2 c hc
    simp only [lateB, Bool.and_eq_true] at this
    exact wf_owner this.1.1.1
  · have := h.2 c hc
    simp only [lateB, Bool.and_eq_true, Bool.not_eq_true', beq_eq_false_iff_ne] at this
    exact this.2
theorem refs_wf {l : List Ct} (h : refsOkB l = true) : WfC l ∧ NoZero l := by
  simp only [refsOkB, Bool.and_eq_true, decide_eq_true_eq] at h
  refine ⟨fun c hc => ?_, fun c hc => ?_⟩
  · have := rgo_all h.2 c hc
    simp only [refB, Bool.and_eq_true] at this
    exact wf_owner this.1.1
  · have := rgo_all h.2 c hc
    simp only [refB, Bool.and_eq_true, decide_eq_true_eq] at this
    omega
theorem rgo_rising : ∀ {l : List Ct} {q : Option Ct}, rgo q l = true → Rising l ∧ ∀ p, q = some p → ∀ x ∈ l, owLt p.o x.o = true
  | [], _, _ => ⟨List.Pairwise.nil, by simp⟩
  | c :: r, q, h => by
    have h2 : rgo (some c) r = true := by
      cases q <;> simp only [rgo, Bool.and_eq_true] at h <;> exact h.2
    obtain ⟨i1, i2⟩ := rgo_rising h2
    refine ⟨List.pairwise_cons.2 ⟨i2 c rfl, i1⟩, fun p hp x hx => ?_⟩
    subst hp
    simp only [rgo, Bool.and_eq_true] at h
    rcases List.mem_cons.1 hx with rfl | hx
    · exact h.1.2
    · exact owLt_trans h.1.2 (i2 c rfl x hx)
theorem refs_rising {l : List Ct} (h : refsOkB l = true) : Rising l := by
  simp only [refsOkB, Bool.and_eq_true, decide_eq_true_eq] at h
  exact (rgo_rising h.2).1
theorem told_is {R l more : List Ct} (h1 : Rising R) (h2 : NoZero R) (h3 : WfC R) (h4 : ∀ o, WfO o → tot o R = tot o l + tot o more) (hl : Rising l) (zl : NoZero l) (zm : NoZero more) (wl : WfC l) (wm : WfC more) : R = sumC l more := by
  obtain ⟨s1, s2, s3⟩ := sum_facts hl zl zm
  refine rising_unique h1 s1 h2 s2 (fun o => ?_)
  rw [s3]
  by_cases ho : WfO o
  · exact h4 o ho
  · rw [tot_absent (o := o) (l := R) (fun c hc e => ho (by rw [← e]; exact h3 c hc)), tot_absent (o := o) (l := l) (fun c hc e => ho (by rw [← e]; exact wl c hc)), tot_absent (o := o) (l := more) (fun c hc e => ho (by rw [← e]; exact wm c hc))]; rfl
def RetCtsN (B : Nat) (e : Ending) (w' : World) : Option (List Ct) → Prop
  | none => e = .returned (.tuple #[.slice none 0 0, .bool false])
  | some L => ∃ a n cap, e = .returned (.tuple #[.slice a n cap, .bool true]) ∧ n ≤ 200 ∧ ResAt Ct.cs 4 134 w' B a n cap L
set_option maxHeartbeats 2000000 in
set_option maxRecDepth 100000 in
theorem impl_Flushed (a : Option Addr) (n cap : Nat) (l : List Ct) (a' : Option Addr) (n' cap' : Nat) (more : List Ct) (w : World) (h : CtsAt w a n l) (h' : CtsAt w a' n' more) (hstr : StrC l) (hstr' : StrC more) (hn : n ≤ 4194304) (hn' : n' ≤ 4194304) :
    Calls Tryz.prog 102 #[.slice a n cap, .slice a' n' cap'] w fun e w' => RetCtsN w.heap.size e w' (flushedO l more) ∧ Below w.heap.size w w' := by
  have hlen : Hid (l.length = n) := h.len
  have hlen' : Hid (more.length = n') := h'.len
  have hmm := @run_makeMap Tryz.prog
  cases hok : refsOkB l
  · have hf : flushedO l more = none := by simp [flushedO, hok]
    rw [hf]
    go_enter Tryz.func102, Tryz.ntmps102
    go_wp2_with fail
    refine (impl_RefsOk a n cap l _ h hstr hn).mono ?_
    rintro e w1 ⟨rfl, hB1⟩
    rw [hok]
    go_wp2
    go_returns
    go_light
    exact ⟨rfl, hB1⟩
  · cases hok' : lateOkB more
    · have hf : flushedO l more = none := by simp [flushedO, hok']
      rw [hf]
      go_enter Tryz.func102, Tryz.ntmps102
      go_wp2_with fail
      refine (impl_RefsOk a n cap l _ h hstr hn).mono ?_
      rintro e w1 ⟨rfl, hB1⟩
      rw [hok]
      go_wp2_with fail
      refine (impl_LateOk a' n' cap' more _ (h'.below hB1) hstr' hn').mono ?_
      rintro e w2 ⟨rfl, hB2⟩
      rw [hok']
      have hB3 := chain hB1 hB2
      go_wp2
      go_returns
      go_light
      exact ⟨rfl, hB3⟩
    · obtain ⟨hl, hb⟩ := refs_bound hok
      obtain ⟨hl2, hb2⟩ := late_bound hok'
      obtain ⟨hwf, hnz⟩ := refs_wf hok
      obtain ⟨hwf', hnz'⟩ := late_wf hok'
      have hris := refs_rising hok
      have hl' : n ≤ 200 := by rw [← hlen.out]; exact hl
      have hl2' : n' ≤ 200 := by rw [← hlen'.out]; exact hl2
      have hss := str_sumC hstr hstr'
      have htb := tot_bound (M := 1000) (by omega) (l := l) (fun x hx => by have := hb x hx; omega)
      have hll : (l.length : Int) ≤ 200 := by omega
      have hbody : ∀ b3, refsOkB (sumC l more) = b3 → ∀ F, flushedO l more = F → (F = if b3 = true then some (sumC l more) else none) → Calls Tryz.prog 102 #[.slice a n cap, .slice a' n' cap'] w fun e w' => RetCtsN w.heap.size e w' F ∧ Below w.heap.size w w' := by
        intro b3 hok3 F _ hF
        go_enter Tryz.func102, Tryz.ntmps102
        go_wp2_with fail
        refine (impl_RefsOk a n cap l _ h hstr hn).mono ?_
        rintro e w1 ⟨rfl, hB1⟩
        rw [hok]
        go_wp2_with fail
        refine (impl_LateOk a' n' cap' more _ (h'.below hB1) hstr' hn').mono ?_
        rintro e w2 ⟨rfl, hB2⟩
        rw [hok']
        replace hB1 := chain hB1 hB2
        clear hB2
        go_wp2_with fail
        have hs1 := hB1.size
        have hT0 := TlAt.made w2
        have h1 : CtsAt (w2.alloc (.map #[] 0)) a n l := (h.below hB1).alloc _
        have hB2 : Below w.heap.size w (w2.alloc (.map #[] 0)) := hB1.alloc hs1 _
        refine (impl_addAll' w2.heap.size 0 (fun _ => 0) a n cap l _ hT0 h1 hwf (by omega) (by omega) (fun x hx => by have := hb x hx; omega) (fun _ => by omega)).mono ?_
        rintro e w3 ⟨rfl, hT3, hg3⟩
        have hB3 := below_grown hB2 hg3 hs1
        have h3' : CtsAt w3 a' n' more := h'.below hB3
        go_wp2_with fail
        refine (impl_addAll' w2.heap.size (0 + n) _ a' n' cap' more _ hT3 h3' hwf' (by omega) (by omega) (fun x hx => by have := hb2 x hx; omega) (fun o => by have := htb o; omega)).mono ?_
        rintro e w4 ⟨rfl, hT4, hg4⟩
        have hB4 := below_grown hB3 hg4 hs1
        go_wp2_with fail
        refine (impl_told' w2.heap.size (0 + n + n') _ w4 hT4 (by omega)).mono ?_
        rintro e w5 ⟨⟨a2, n2, cap2, R, rfl, hn2, R4, q1, q2, q3, q4⟩, hB5⟩
        have hB6 := chain hB4 hB5
        have hR : R = sumC l more := told_is q1 q2 q3 (fun o ho => by rw [q4 o ho]; omega) hris hnz hnz' hwf hwf'
        subst hR
        replace R4 := R4.mono hB4.size
        go_wp2_with fail
        refine (impl_RefsOk a2 n2 cap2 (sumC l more) _ R4.sl hss (by omega)).mono ?_
        rintro e w7 ⟨rfl, hB7⟩
        rw [hok3]
        have hB8 := chain hB6 hB7
        replace R4 := R4.below hB7
        cases b3
        · rw [if_neg (by simp)] at hF
          subst hF
          go_wp2
          go_returns
          go_light
          exact ⟨rfl, hB8⟩
        · rw [if_pos rfl] at hF
          subst hF
          have hn3 : n2 ≤ 200 := by rw [← R4.sl.len]; exact (refs_bound hok3).1
          go_wp2
          go_returns
          go_light
          exact ⟨⟨a2, n2, cap2, rfl, hn3, R4⟩, hB8⟩
      exact hbody _ rfl _ rfl (by simp [flushedO, hok, hok'])
end Go.Proofs.YtigldeccfpkdmaaGreatDoor
namespace Go.Proofs.YtigldeccfpkdmaaGreatDoor
open Go.RowKit Go.BigFrame
open Go.Maps (Keyed)
theorem nodup_len {α : Type} : ∀ {l m : List α}, l.Nodup → (∀ x ∈ l, x ∈ m) → l.length ≤ m.length
  | [], _, _, _ => Nat.zero_le _
  | x :: r, m, hn, hs => by
    obtain ⟨s, t, rfl⟩ := List.append_of_mem (hs x (by simp))
    obtain ⟨h1, h2⟩ := List.nodup_cons.1 hn
    have := nodup_len (l := r) (m := s ++ t) h2 (fun y hy => by
      have h3 := hs y (by simp [hy])
      have h4 : y ≠ x := fun e => h1 (e ▸ hy)
      simpa [h4] using h3)
    simp at this ⊢
    omega
theorem xgo_rise : ∀ {l : List Ex} {size next : Int}, xgo size next l = true → (∀ x ∈ l, next ≤ x.a) ∧ (l.map (·.a)).Nodup
  | [], _, _, _ => ⟨by simp, by simp⟩
  | x :: r, size, next, h => by
    simp only [xgo, Bool.and_eq_true, decide_eq_true_eq] at h
    obtain ⟨⟨⟨h1, h2⟩, h3⟩, h4⟩ := h
    obtain ⟨i1, i2⟩ := xgo_rise h4
    have hd : 1 ≤ x.d.size := by
      simp only [dataOkB, Bool.and_eq_true, decide_eq_true_eq] at h1
      exact h1.1.1
    refine ⟨fun y hy => ?_, ?_⟩
    · rcases List.mem_cons.1 hy with rfl | hy
      · exact h2
      · have := i1 y hy; omega
    · rw [List.map_cons, List.nodup_cons]
      refine ⟨fun hm => ?_, i2⟩
      obtain ⟨y, hy, e⟩ := List.mem_map.1 hm
      have := i1 y hy
      omega
theorem space_nodup {size : Int} {l : List Ex} (h : spaceOkB size l = true) : (l.map (·.a)).Nodup := by
  simp only [spaceOkB, Bool.and_eq_true] at h
  exact (xgo_rise h.2).2
/-- Extents that are all named, and as many as there are names: just those. -/
theorem addr_sets {E : List Ex} {L : List Ct} {K : List Lit} (hn : (E.map (·.a)).Nodup) (hK : K.Nodup) (h1 : ∀ k ∈ K, ∃ c ∈ L, k = .int .i64 c.o.a) (h2 : ∀ c ∈ L, Lit.int .i64 c.o.a ∈ K) :
    (E.all (fun x => L.any (fun c => c.o.a == x.a)) && decide (K.length = E.length)) = addrB E L := by
  unfold addrB
  cases ha : E.all (fun x => L.any (fun c => c.o.a == x.a))
  · rfl
  · simp only [Bool.true_and]
    rw [List.all_eq_true] at ha
    have hsub : ∀ k ∈ E.map (fun x => Lit.int .i64 x.a), k ∈ K := by
      intro k hk
      obtain ⟨x, hx, rfl⟩ := List.mem_map.1 hk
      obtain ⟨c, hc, e⟩ := List.any_eq_true.1 (ha x hx)
      have e' : c.o.a = x.a := by simpa using e
      rw [← e']
      exact h2 c hc
    have hnl : (E.map (fun x => Lit.int .i64 x.a)).Nodup := by
      unfold List.Nodup at hn ⊢
      rw [List.pairwise_map] at hn ⊢
      exact hn.imp (fun {p q} h e => h (by injection e))
    rw [Bool.eq_iff_iff]
    simp only [decide_eq_true_eq, List.all_eq_true, List.any_eq_true, beq_iff_eq]
    constructor
    · intro hlen c hc
      refine Classical.byContradiction fun hno => ?_
      have h3 : (Lit.int .i64 c.o.a :: E.map (fun x => Lit.int .i64 x.a)).Nodup := List.nodup_cons.2 ⟨fun hm => hno (by
        obtain ⟨x, hx, e⟩ := List.mem_map.1 hm
        injection e with _ e
        exact ⟨x, hx, e⟩), hnl⟩
      have h4 := nodup_len h3 (m := K) (fun k hk => by
        rcases List.mem_cons.1 hk with rfl | hk
        · exact h2 c hc
        · exact hsub k hk)
      simp at h4
      omega
    · intro hall
      have a1 := nodup_len hnl hsub
      have a2 := nodup_len hK (m := E.map (fun x => Lit.int .i64 x.a)) (fun k hk => by
        obtain ⟨c, hc, rfl⟩ := h1 k hk
        obtain ⟨x, hx, e⟩ := hall c hc
        exact List.mem_map.2 ⟨x, hx, by rw [e]⟩)
      simp at a1 a2
      omega
/-- How often an address is named. -/
def cntZ (x : Int) (L : List Ct) : Int := ((L.countP (fun c => c.o.a == x) : Nat) : Int)
theorem cntZ_bd (x : Int) (L : List Ct) : 0 ≤ cntZ x L ∧ cntZ x L ≤ L.length := by
  have := List.countP_le_length (p := fun c : Ct => c.o.a == x) (l := L)
  unfold cntZ
  omega
theorem cntZ_zero (x : Int) (L : List Ct) : (cntZ x L == 0) = !(L.any (fun c => c.o.a == x)) := by
  rw [Bool.eq_iff_iff]
  unfold cntZ
  rw [beq_iff_eq, Bool.not_eq_true', List.any_eq_false]
  have h := List.countP_eq_zero (p := fun c : Ct => c.o.a == x) (l := L)
  constructor
  · intro e; exact h.1 (by omega)
  · intro e; have := h.2 e; omega
theorem cntZ_snoc (x : Int) (L : List Ct) (c : Ct) : cntZ x (L ++ [c]) = cntZ x L + (if c.o.a = x then 1 else 0) := by
  unfold cntZ
  rw [List.countP_append, List.countP_cons, List.countP_nil]
  by_cases h : c.o.a = x <;> simp [h]
def keyV (v : Vo) : Lit := .string v.nm.data.toList
/-- The volumes that are not left to come. -/
def doneV (left : Lit → Bool) (l : List Vo) : List Vo := l.filter (fun v => !left (keyV v))
theorem same_str (s t : List UInt8) : (Lit.string s).sameKey (Lit.string t) = decide (s = t) := by
  by_cases h : s = t
  · subst h; rw [WideAt.sameKey_self (show WideAt.IsKeyLit (Lit.string s) from trivial)]; simp
  · have : (Lit.string s).sameKey (Lit.string t) = false := by
      cases e : (Lit.string s).sameKey (Lit.string t)
      · rfl
      · have := WideAt.sameKey_eq e; injection this with e2; exact absurd e2 h
    rw [this]; simp [h]
theorem doneV_other {left : Lit → Bool} {v : Vo} : ∀ {l : List Vo}, (∀ y ∈ l, y.nm.toList ≠ v.nm.toList) → doneV (fun z => left z && !z.sameKey (keyV v)) l = doneV left l
  | [], _ => rfl
  | y :: r, h => by
    have h1 : (keyV y).sameKey (keyV v) = false := by
      unfold keyV
      rw [same_str]
      have := h y (by simp)
      rw [ByteArray.toList_eq, ByteArray.toList_eq] at this
      simpa using this
    have ih := doneV_other (left := left) (v := v) (l := r) (fun z hz => h z (by simp [hz]))
    unfold doneV at ih ⊢
    rw [List.filter_cons, List.filter_cons, ih]
    simp only [h1, Bool.not_false, Bool.and_true]
theorem allCs_cons (v : Vo) (l : List Vo) : allCs (v :: l) = volCs v ++ allCs l := rfl
theorem done_step {left : Lit → Bool} {v : Vo} (hl : left (keyV v) = true) : ∀ {l : List Vo}, (l.map (·.nm.toList)).Nodup → v ∈ l → ∀ o, tot o (allCs (doneV (fun z => left z && !z.sameKey (keyV v)) l)) = tot o (allCs (doneV left l)) + tot o (volCs v)
  | [], _, hv, _ => by simp at hv
  | x :: r, hn, hv, o => by
    rw [List.map_cons, List.nodup_cons] at hn
    obtain ⟨h1, h2⟩ := hn
    by_cases e : x = v
    · subst e
      have h3 : ∀ y ∈ r, y.nm.toList ≠ x.nm.toList := fun y hy e => h1 (by rw [← e]; exact List.mem_map.2 ⟨y, hy, rfl⟩)
      have ih := doneV_other (left := left) h3
      have h4 : (keyV x).sameKey (keyV x) = true := by unfold keyV; rw [same_str]; simp
      unfold doneV at ih ⊢
      rw [List.filter_cons, List.filter_cons, ih]
      simp only [h4, hl, Bool.not_true, Bool.and_false, Bool.not_false, if_true, Bool.false_eq_true, if_false, allCs_cons]
      rw [tot_append]
      omega
    · have hv' : v ∈ r := by
        rcases List.mem_cons.1 hv with h | h
        · exact absurd h.symm e
        · exact h
      have hne : x.nm.toList ≠ v.nm.toList := fun e => h1 (by rw [e]; exact List.mem_map.2 ⟨v, hv', rfl⟩)
      have h4 : (keyV x).sameKey (keyV v) = false := by
        unfold keyV; rw [same_str]
        rw [ByteArray.toList_eq, ByteArray.toList_eq] at hne
        simpa using hne
      have ih := done_step hl h2 hv' o
      unfold doneV at ih ⊢
      rw [List.filter_cons, List.filter_cons]
      simp only [h4, Bool.not_false, Bool.and_true] at ih ⊢
      split
      · rw [allCs_cons, allCs_cons, tot_append, tot_append, ih]; omega
      · exact ih
theorem doneV_none {left : Lit → Bool} {l : List Vo} (h : ∀ v ∈ l, left (keyV v) = true) : doneV left l = [] := by
  unfold doneV
  rw [List.filter_eq_nil_iff]
  intro v hv
  simp [h v hv]
theorem doneV_all {left : Lit → Bool} {l : List Vo} (h : ∀ k, left k = false) : doneV left l = l := by
  unfold doneV
  rw [List.filter_eq_self]
  intro v _
  simp [h]
theorem partCs_len (id : Int) (nm : ByteArray) (ps : List Pt) : (partCs id nm ps).length ≤ ps.length := by
  unfold partCs
  rw [List.length_map]
  exact List.length_filter_le _ _
theorem itsCs_len {v : Vo} : ∀ {l : List It}, (∀ x ∈ l, x.ps.length ≤ 16) → (itsCs v l).length ≤ 16 * l.length
  | [], _ => by simp [itsCs]
  | x :: r, h => by
    have ih := itsCs_len (v := v) (l := r) (fun y hy => h y (by simp [hy]))
    have h1 := h x (by simp)
    have h2 := partCs_len v.id x.nm x.ps
    unfold itsCs at ih ⊢
    rw [List.flatMap_cons, List.length_append, List.length_cons]
    omega
theorem allCs_len : ∀ {l : List Vo}, (∀ v ∈ l, v.its.length ≤ 5 ∧ ∀ x ∈ v.its, x.ps.length ≤ 16) → (allCs l).length ≤ 80 * l.length
  | [], _ => by simp [allCs]
  | v :: r, h => by
    have ih := allCs_len (l := r) (fun y hy => h y (by simp [hy]))
    obtain ⟨h1, h2⟩ := h v (by simp)
    have h3 := itsCs_len (v := v) h2
    rw [allCs_cons, List.length_append, List.length_cons, show volCs v = itsCs v v.its from rfl]
    omega
theorem one_parts (id : Int) (nm : ByteArray) (ps : List Pt) : ∀ c ∈ partCs id nm ps, c.n = 1 := by
  intro c hc
  obtain ⟨p, _, rfl⟩ := List.mem_map.1 hc
  rfl
theorem one_its (v : Vo) (l : List It) : ∀ c ∈ itsCs v l, c.n = 1 := by
  intro c hc
  obtain ⟨x, _, hx⟩ := List.mem_flatMap.1 hc
  exact one_parts _ _ _ c hx
theorem one_all (l : List Vo) : ∀ c ∈ allCs l, c.n = 1 := by
  intro c hc
  obtain ⟨v, _, hv⟩ := List.mem_flatMap.1 hc
  exact one_its v v.its c hv
theorem tot_ones {l : List Ct} (h : ∀ c ∈ l, c.n = 1) (o : Ow) : 0 ≤ tot o l ∧ tot o l ≤ l.length := by
  induction l with
  | nil => simp [tot]
  | cons c r ih =>
    have h1 := ih (fun x hx => h x (by simp [hx]))
    have h2 := h c (by simp)
    simp only [tot, List.length_cons]
    split <;> omega
end Go.Proofs.YtigldeccfpkdmaaGreatDoor
