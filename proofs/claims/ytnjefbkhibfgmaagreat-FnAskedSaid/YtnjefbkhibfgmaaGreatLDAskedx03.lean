/- Counts added up: a list in order with no nought is told by its sums. -/
import Derived.Test.YtnjefbkhibfgmaaGreatLDAskedx02
import Derived.Test.YtnjefbkhibfgmaaGreatProg
import Derived.Test.YtnjefbkhibfgmaaGreatLDAskedx00
import Derived.RangeFuncNested
import Derived.RangeFuncBound
import Derived.RangeFuncCalls
import Derived.RangeFuncLeaves
import Derived.RangeFuncBox
import Derived.Shelf.Abstract
import Derived.Shelf.RegionOpen
import Derived.WalkKit
import Derived.OwnWalkIn
import Derived.TacticsInMore
import Derived.LoopNIn
import Derived.LoopIn
import Derived.Test.YtnjefbkhibfgmaaGreatLDAskedx01
namespace Go.Proofs.YtnjefbkhibfgmaaGreat
open Go.RowKit
def addC : List Ct → Ct → List Ct
  | [], c => [c]
  | x :: r, c => if owLt x.o c.o = true then x :: addC r c else if owEq x.o c.o = true then (if x.n + c.n ≠ 0 then ⟨c.o, x.n + c.n⟩ :: r else r) else c :: x :: r
def sumC (l more : List Ct) : List Ct := more.foldl addC l
def tot (o : Ow) : List Ct → Int
  | [] => 0
  | c :: r => (if owEq c.o o = true then c.n else 0) + tot o r
def Rising (l : List Ct) : Prop := l.Pairwise (fun x y => owLt x.o y.o = true)
def NoZero (l : List Ct) : Prop := ∀ c ∈ l, c.n ≠ 0
theorem owEq_self (o : Ow) : owEq o o = true := owEq_iff.2 rfl
theorem owEq_of_lt {a b : Ow} (h : owLt a b = true) : owEq a b = false := by
  cases e : owEq a b
  · rfl
  · rw [owEq_iff.1 e, owLt_irrefl] at h; cases h
theorem owEq_symm {a b : Ow} (h : owEq a b = false) : owEq b a = false := by
  cases e : owEq b a
  · rfl
  · rw [owEq_iff.1 e, owEq_self] at h; cases h
theorem tot_zero {o : Ow} : ∀ {l : List Ct}, (∀ c ∈ l, owLt o c.o = true) → tot o l = 0
  | [], _ => rfl
  | c :: r, h => by
    have h1 := owEq_symm (owEq_of_lt (h c (by simp)))
    simp only [tot, h1, Bool.false_eq_true, if_false]
    rw [tot_zero (fun x hx => h x (by simp [hx]))]; rfl
theorem tot_append (o : Ow) : ∀ (l m : List Ct), tot o (l ++ m) = tot o l + tot o m
  | [], m => by simp [tot]
  | c :: r, m => by simp only [List.cons_append, tot, tot_append o r m]; omega
theorem tot_addC (o : Ow) (c : Ct) : ∀ l : List Ct, tot o (addC l c) = tot o l + (if owEq c.o o = true then c.n else 0)
  | [] => by simp [addC, tot]
  | x :: r => by
    unfold addC
    split
    · simp only [tot, tot_addC o c r]; omega
    · split
      · rename_i h1 h2
        have e := owEq_iff.1 h2
        split
        · simp only [tot, e]; split <;> omega
        · simp only [tot, e]; split <;> omega
      · simp only [tot]; omega
theorem all_addC {z : Ow} {c : Ct} (hc : owLt z c.o = true) : ∀ {l : List Ct}, (∀ x ∈ l, owLt z x.o = true) → ∀ x ∈ addC l c, owLt z x.o = true
  | [], _ => by intro x hx; simp [addC] at hx; subst hx; exact hc
  | y :: r, h => by
    have hy := h y (by simp)
    have hr : ∀ x ∈ r, owLt z x.o = true := fun x hx => h x (by simp [hx])
    unfold addC
    split
    · intro x hx
      rcases List.mem_cons.1 hx with rfl | hx
      · exact hy
      · exact all_addC hc hr x hx
    · split
      · split
        · intro x hx
          rcases List.mem_cons.1 hx with rfl | hx
          · exact hc
          · exact hr x hx
        · exact hr
      · intro x hx
        rcases List.mem_cons.1 hx with rfl | hx
        · exact hc
        · exact h x hx
theorem rising_addC (c : Ct) : ∀ {l : List Ct}, Rising l → Rising (addC l c)
  | [], _ => by simp [addC, Rising]
  | y :: r, h => by
    obtain ⟨h1, h2⟩ := List.pairwise_cons.1 h
    unfold addC
    split
    · rename_i k
      exact List.pairwise_cons.2 ⟨all_addC k h1, rising_addC c h2⟩
    · rename_i k
      split
      · rename_i e
        have e := owEq_iff.1 e
        split
        · exact List.pairwise_cons.2 ⟨fun x hx => by simp only [← e]; exact h1 x hx, h2⟩
        · exact h2
      · rename_i e
        have hcy : owLt c.o y.o = true := owLt_total (by simpa using k) (fun e' => e (owEq_iff.2 e'))
        refine List.pairwise_cons.2 ⟨fun x hx => ?_, h⟩
        rcases List.mem_cons.1 hx with rfl | hx
        · exact hcy
        · exact owLt_trans hcy (h1 x hx)
theorem nozero_addC {c : Ct} (hc : c.n ≠ 0) : ∀ {l : List Ct}, NoZero l → NoZero (addC l c)
  | [], _ => by intro x hx; simp [addC] at hx; subst hx; exact hc
  | y :: r, h => by
    have hy := h y (by simp)
    have hr : NoZero r := fun x hx => h x (by simp [hx])
    unfold addC
    split
    · intro x hx
      rcases List.mem_cons.1 hx with rfl | hx
      · exact hy
      · exact nozero_addC hc hr x hx
    · split
      · split
        · rename_i k
          intro x hx
          rcases List.mem_cons.1 hx with rfl | hx
          · exact k
          · exact hr x hx
        · exact hr
      · intro x hx
        rcases List.mem_cons.1 hx with rfl | hx
        · exact hc
        · exact h x hx
theorem rising_unique : ∀ {l m : List Ct}, Rising l → Rising m → NoZero l → NoZero m → (∀ o, tot o l = tot o m) → l = m
  | [], [], _, _, _, _, _ => rfl
  | [], y :: s, _, hm, _, zm, h => by
    have := h y.o
    have hs := tot_zero (List.pairwise_cons.1 hm).1
    simp only [tot, owEq_self, if_true, hs] at this
    exact absurd (by omega) (zm y (by simp))
  | x :: r, [], hl, _, zl, _, h => by
    have := h x.o
    have hr := tot_zero (List.pairwise_cons.1 hl).1
    simp only [tot, owEq_self, if_true, hr] at this
    exact absurd (by omega) (zl x (by simp))
  | x :: r, y :: s, hl, hm, zl, zm, h => by
    obtain ⟨hl1, hl2⟩ := List.pairwise_cons.1 hl
    obtain ⟨hm1, hm2⟩ := List.pairwise_cons.1 hm
    have hr := tot_zero hl1
    have hs := tot_zero hm1
    cases hxy : owLt x.o y.o
    · cases hyx : owLt y.o x.o
      · have e : x.o = y.o := by
          cases e : owEq x.o y.o
          · have := owLt_total hxy (fun e' => by rw [owEq_iff.2 e'] at e; cases e)
            rw [hyx] at this; cases this
          · exact owEq_iff.1 e
        have h1 := h x.o
        rw [← e] at hs
        simp only [tot, ← e, owEq_self, if_true, hr, hs] at h1
        have exy : x = y := by cases x; cases y; simp at e h1 ⊢; exact ⟨e, h1⟩
        subst exy
        have : r = s := rising_unique hl2 hm2 (fun c hc => zl c (by simp [hc])) (fun c hc => zm c (by simp [hc])) (fun o => by have := h o; simp only [tot] at this; omega)
        rw [this]
      · have h1 := h y.o
        have hz : tot y.o r = 0 := tot_zero (fun c hc => owLt_trans hyx (hl1 c hc))
        have hne := owEq_symm (owEq_of_lt hyx)
        simp only [tot, owEq_self, if_true, hs, hne, Bool.false_eq_true, if_false, hz] at h1
        exact absurd (by omega) (zm y (by simp))
    · have h1 := h x.o
      have hz : tot x.o s = 0 := tot_zero (fun c hc => owLt_trans hxy (hm1 c hc))
      have hne := owEq_symm (owEq_of_lt hxy)
      simp only [tot, owEq_self, if_true, hr, hne, Bool.false_eq_true, if_false, hz] at h1
      exact absurd (by omega) (zl x (by simp))
theorem sum_facts : ∀ {more l : List Ct}, Rising l → NoZero l → NoZero more → Rising (sumC l more) ∧ NoZero (sumC l more) ∧ ∀ o, tot o (sumC l more) = tot o l + tot o more
  | [], l, hl, zl, _ => ⟨hl, zl, fun o => by simp [sumC, tot]⟩
  | c :: r, l, hl, zl, zm => by
    obtain ⟨h1, h2, h3⟩ := sum_facts (more := r) (rising_addC c hl) (nozero_addC (zm c (by simp)) zl) (fun x hx => zm x (by simp [hx]))
    refine ⟨h1, h2, fun o => ?_⟩
    have := h3 o
    rw [tot_addC] at this
    simp only [sumC, List.foldl_cons, tot] at this ⊢
    omega
end Go.Proofs.YtnjefbkhibfgmaaGreat
namespace Go.Proofs.YtnjefbkhibfgmaaGreat
open Go.RowKit
def addStep (c : Ct) (s : List Ct × Bool) (x : Ct) : List Ct × Bool :=
  if s.2 = true then (s.1 ++ [x], true) else if owLt x.o c.o = true then (s.1 ++ [x], false) else
  if owEq x.o c.o = true then (if x.n + c.n ≠ 0 then (s.1 ++ [⟨c.o, x.n + c.n⟩], true) else (s.1, true)) else (s.1 ++ [c] ++ [x], true)
def addEnd (c : Ct) (s : List Ct × Bool) : List Ct := if s.2 = true then s.1 else s.1 ++ [c]
theorem add_done (c : Ct) : ∀ (l out : List Ct), l.foldl (addStep c) (out, true) = (out ++ l, true)
  | [], out => by simp
  | x :: r, out => by
    rw [List.foldl_cons, show addStep c (out, true) x = (out ++ [x], true) by simp [addStep], add_done c r]
    simp
theorem add_fold (c : Ct) : ∀ (l out : List Ct), addEnd c (l.foldl (addStep c) (out, false)) = out ++ addC l c
  | [], out => by simp [addEnd, addC]
  | x :: r, out => by
    rw [List.foldl_cons]
    unfold addC
    by_cases h1 : owLt x.o c.o = true
    · rw [show addStep c (out, false) x = (out ++ [x], false) by simp [addStep, h1], add_fold c r, if_pos h1]
      simp
    · by_cases h2 : owEq x.o c.o = true
      · by_cases h3 : x.n + c.n ≠ 0
        · rw [show addStep c (out, false) x = (out ++ [⟨c.o, x.n + c.n⟩], true) by simp [addStep, h1, h2, h3], add_done, if_neg h1, if_pos h2, if_pos h3]
          simp [addEnd]
        · rw [show addStep c (out, false) x = (out, true) by simp [addStep, h1, h2, h3], add_done, if_neg h1, if_pos h2, if_neg h3]
          simp [addEnd]
      · rw [show addStep c (out, false) x = (out ++ [c] ++ [x], true) by simp [addStep, h1, h2], add_done, if_neg h1, if_neg h2]
        simp [addEnd]
theorem ccs_len (p : Ct) : p.cs.length = 4 := rfl
theorem ccs_one (l : List Ct) : ∀ u ∈ l.flatMap Ct.cs, u.oneCell' = true := by
  intro u hu
  obtain ⟨p, _, hp⟩ := List.mem_flatMap.1 hu
  simp [Ct.cs] at hp
  rcases hp with rfl | rfl | rfl | rfl <;> rfl
theorem sl_oneC {w : World} {b : Nat} {p : Ct} (h0 : w.cell? ⟨b, 0, none⟩ = some (.int .i64 p.o.a)) (h1 : w.cell? ⟨b, 1, none⟩ = some (.int .i64 p.o.v)) (h2 : w.cell? ⟨b, 2, none⟩ = some (.string p.o.f)) (h3 : w.cell? ⟨b, 3, none⟩ = some (.int .i64 p.n)) : CtsAt w (some ⟨b, 0, none⟩) 1 [p] := by
  refine ⟨rfl, fun i x hx => ⟨b, 0, rfl, fun j v hv => ?_⟩⟩
  have hi : i = 0 := by have := (List.getElem?_eq_some_iff.1 hx).1; simp at this; exact this
  subst hi
  simp at hx
  subst hx
  match j, hv with
  | 0, hv => obtain rfl := Option.some.inj hv; exact h0
  | 1, hv => obtain rfl := Option.some.inj hv; exact h1
  | 2, hv => obtain rfl := Option.some.inj hv; exact h2
  | 3, hv => obtain rfl := Option.some.inj hv; exact h3
  | j + 4, hv => simp [Ct.cs] at hv
theorem sl_newC (w : World) (p : Ct) (t : TypeId) (b : Nat) (hb : b = w.heap.size) : CtsAt (w.alloc (.cells #[.int .i64 p.o.a, .int .i64 p.o.v, .string p.o.f, .int .i64 p.n] t)) (some ⟨b, 0, none⟩) 1 [p] := by
  subst hb; exact sl_oneC (by simp) (by simp) (by simp) (by simp)
theorem infoC : (Tryz.prog.info? 38).map (fun i => (i.zero, i.size, i.bytes)) = some (some (.agg #[.int .i64 0, .int .i64 0, .string .empty, .int .i64 0]), 4, 40) := by kernel_rfl
end Go.Proofs.YtnjefbkhibfgmaaGreat
namespace Go.Proofs.YtnjefbkhibfgmaaGreat
open Go.RowKit Go.BigFrame
theorem cmp_isNaN_int (x : Int) (w : World) :
    Calls Tryz.prog 120 #[.int .i64 x] w fun e w' => e = .returned (.bool false) ∧ w' = w := by
  have hx : (x != x) = false := by simp
  go_enter Tryz.func120, Tryz.ntmps120
  go_wp2
  go_returns
  go_light
  exact ⟨by simp, rfl⟩
theorem cmp_isNaN_str (x : ByteArray) (w : World) :
    Calls Tryz.prog 121 #[.string x] w fun e w' => e = .returned (.bool false) ∧ w' = w := by
  go_enter Tryz.func121, Tryz.ntmps121
  go_wp2
  go_returns
  go_light
  exact ⟨by simp, rfl⟩
theorem cmp_Compare_int (x y : Int) (w : World) :
    Calls Tryz.prog 98 #[.int .i64 x, .int .i64 y] w fun e w' => e = .returned (.int .i64 (cmpI x y)) ∧ w' = w := by
  go_enter Tryz.func98, Tryz.ntmps98
  go_wp2_with fail
  refine (cmp_isNaN_int _ _).mono ?_
  rintro e w1 ⟨rfl, rfl⟩
  go_wp2_with fail
  refine (cmp_isNaN_int _ _).mono ?_
  rintro e w1 ⟨rfl, rfl⟩
  go_wp2
  all_goals go_returns
  all_goals go_light
  all_goals refine ⟨ret_int ?_, rfl⟩
  all_goals simp [cmpI]
  all_goals omega
theorem cmp_Compare_str (x y : ByteArray) (w : World) :
    Calls Tryz.prog 99 #[.string x, .string y] w fun e w' => e = .returned (.int .i64 (cmpS x y)) ∧ w' = w := by
  go_enter Tryz.func99, Tryz.ntmps99
  go_wp2_with fail
  refine (cmp_isNaN_str _ _).mono ?_
  rintro e w1 ⟨rfl, rfl⟩
  go_wp2_with fail
  refine (cmp_isNaN_str _ _).mono ?_
  rintro e w1 ⟨rfl, rfl⟩
  go_wp2
  all_goals go_returns
  all_goals go_light
  all_goals refine ⟨ret_int ?_, rfl⟩
  all_goals simp_all [cmpS, bl]
theorem cmp_Or3 (x y z : Int) (b : Nat) (cap : Nat) (w : World) (h0 : w.cell? ⟨b, 0, none⟩ = some (.int .i64 x)) (h1 : w.cell? ⟨b, 1, none⟩ = some (.int .i64 y)) (h2 : w.cell? ⟨b, 2, none⟩ = some (.int .i64 z)) :
    Calls Tryz.prog 97 #[.slice (some ⟨b, 0, none⟩) 3 cap] w fun e w' => e = .returned (.int .i64 (or3 x y z)) ∧ w' = w := by
  by_cases hx : x = 0
  · have hx' : (x != 0) = false := by simp [hx]
    by_cases hy : y = 0
    · have hy' : (y != 0) = false := by simp [hy]
      by_cases hz : z = 0
      · have hz' : (z != 0) = false := by simp [hz]
        have hf : Hid (or3 x y z = 0) := by show _ = _; simp [or3, hx, hy, hz]
        clear hx hy hz
        go_enter Tryz.func97, Tryz.ntmps97
        go_wp2_with fail
        go_rounds 4
        go_returns
        go_light
        exact ⟨ret_int hf.out.symm, rfl⟩
      · have hz' : (z != 0) = true := by simp [hz]
        have hf : Hid (or3 x y z = z) := by show _ = _; simp [or3, hx, hy]
        clear hx hy hz
        go_enter Tryz.func97, Tryz.ntmps97
        go_wp2_with fail
        go_rounds 3
        go_returns
        go_light
        exact ⟨ret_int hf.out.symm, rfl⟩
    · have hy' : (y != 0) = true := by simp [hy]
      have hf : Hid (or3 x y z = y) := by show _ = _; simp [or3, hx, hy]
      clear hx hy
      go_enter Tryz.func97, Tryz.ntmps97
      go_wp2_with fail
      go_rounds 2
      go_returns
      go_light
      exact ⟨ret_int hf.out.symm, rfl⟩
  · have hx' : (x != 0) = true := by simp [hx]
    have hf : Hid (or3 x y z = x) := by show _ = _; simp [or3, hx]
    clear hx
    go_enter Tryz.func97, Tryz.ntmps97
    go_wp2_with fail
    go_rounds 1
    go_returns
    go_light
    exact ⟨ret_int hf.out.symm, rfl⟩
end Go.Proofs.YtnjefbkhibfgmaaGreat
namespace Go.Proofs.YtnjefbkhibfgmaaGreat
open Go.RowKit Go.BigFrame
theorem new3 (w : World) (x y z : Value) (t : TypeId) : (w.alloc (.cells #[x, y, z] t)).drew.cell? ⟨w.heap.size, 0, none⟩ = some x ∧ (w.alloc (.cells #[x, y, z] t)).drew.cell? ⟨w.heap.size, 1, none⟩ = some y ∧ (w.alloc (.cells #[x, y, z] t)).drew.cell? ⟨w.heap.size, 2, none⟩ = some z :=
  ⟨World.cell?_alloc_new _ _ _ 0, World.cell?_alloc_new _ _ _ 1, World.cell?_alloc_new _ _ _ 2⟩
set_option maxHeartbeats 1000000 in
theorem impl_ownerOrder (p q : Ow) (w : World) :
    Calls Tryz.prog 80 #[.agg #[.int .i64 p.a, .int .i64 p.v, .string p.f], .agg #[.int .i64 q.a, .int .i64 q.v, .string q.f]] w fun e w' => e = .returned (.int .i64 (ordO p q)) ∧ Below w.heap.size w w' := by
  have hfin : Hid (ordO p q = or3 (cmpI p.a q.a) (cmpI p.v q.v) (cmpS p.f q.f)) := rfl
  generalize ordO p q = R at *
  obtain ⟨a, v, f⟩ := p
  obtain ⟨b, u, g⟩ := q
  simp only at hfin
  go_enter Tryz.func80, Tryz.ntmps80
  go_wp2_with fail
  have x0 : ((w.alloc (.cells #[.int .i64 a, .int .i64 v, .string f] 36)).alloc (.cells #[.int .i64 b, .int .i64 u, .string g] 36)).cell? ⟨w.heap.size, 0, none⟩ = some (.int .i64 a) := acell _ (by simp)
  have x1 : ((w.alloc (.cells #[.int .i64 a, .int .i64 v, .string f] 36)).alloc (.cells #[.int .i64 b, .int .i64 u, .string g] 36)).cell? ⟨w.heap.size, 1, none⟩ = some (.int .i64 v) := acell _ (by simp)
  have x2 : ((w.alloc (.cells #[.int .i64 a, .int .i64 v, .string f] 36)).alloc (.cells #[.int .i64 b, .int .i64 u, .string g] 36)).cell? ⟨w.heap.size, 2, none⟩ = some (.string f) := acell _ (by simp)
  have y0 : ((w.alloc (.cells #[.int .i64 a, .int .i64 v, .string f] 36)).alloc (.cells #[.int .i64 b, .int .i64 u, .string g] 36)).cell? ⟨w.heap.size + 1, 0, none⟩ = some (.int .i64 b) := by simp
  have y1 : ((w.alloc (.cells #[.int .i64 a, .int .i64 v, .string f] 36)).alloc (.cells #[.int .i64 b, .int .i64 u, .string g] 36)).cell? ⟨w.heap.size + 1, 1, none⟩ = some (.int .i64 u) := by simp
  have y2 : ((w.alloc (.cells #[.int .i64 a, .int .i64 v, .string f] 36)).alloc (.cells #[.int .i64 b, .int .i64 u, .string g] 36)).cell? ⟨w.heap.size + 1, 2, none⟩ = some (.string g) := by simp
  have hB0 : Below w.heap.size w ((w.alloc (.cells #[.int .i64 a, .int .i64 v, .string f] 36)).alloc (.cells #[.int .i64 b, .int .i64 u, .string g] 36)) := by go_grown
  generalize (w.alloc (.cells #[.int .i64 a, .int .i64 v, .string f] 36)).alloc (.cells #[.int .i64 b, .int .i64 u, .string g] 36) = W0 at *
  go_region_held3 (fun u' => u'.cell? ⟨w.heap.size, 0, none⟩ = some (.int .i64 a) ∧ u'.cell? ⟨w.heap.size, 1, none⟩ = some (.int .i64 v) ∧ u'.cell? ⟨w.heap.size, 2, none⟩ = some (.string f) ∧ u'.cell? ⟨w.heap.size + 1, 0, none⟩ = some (.int .i64 b) ∧ u'.cell? ⟨w.heap.size + 1, 1, none⟩ = some (.int .i64 u) ∧ u'.cell? ⟨w.heap.size + 1, 2, none⟩ = some (.string g)) (go_keep)
    (first | (go_at_call 98; refine (cmp_Compare_int _ _ _).mono ?_; rintro e w2 ⟨rfl, rfl⟩) | (go_at_call 99; refine (cmp_Compare_str _ _ _).mono ?_; rintro e w2 ⟨rfl, rfl⟩) | (go_at_call 97; refine (cmp_Or3 (cmpI a b) (cmpI v u) (cmpS f g) W0.heap.size 3 _ (new3 W0 _ _ _ _).1 (new3 W0 _ _ _ _).2.1 (new3 W0 _ _ _ _).2.2).mono ?_; rintro e w2 ⟨rfl, rfl⟩))
  go_wp2
  go_returns
  go_light
  exact ⟨ret_int hfin.out.symm, (hB0.alloc hB0.size _).drew⟩
theorem impl_OwnerAhead (p q : Ow) (w : World) :
    Calls Tryz.prog 77 #[.agg #[.int .i64 p.a, .int .i64 p.v, .string p.f], .agg #[.int .i64 q.a, .int .i64 q.v, .string q.f]] w fun e w' => e = .returned (.bool (owLt p q)) ∧ Below w.heap.size w w' := by
  have hfin : Hid (owLt p q = decide (ordO p q < 0)) := (ordO_lt p q).symm
  obtain ⟨a, v, f⟩ := p
  obtain ⟨b, u, g⟩ := q
  go_enter Tryz.func77, Tryz.ntmps77
  go_wp2_with fail
  refine (impl_ownerOrder ⟨a, v, f⟩ ⟨b, u, g⟩ _).mono ?_
  rintro e w1 ⟨rfl, hB1⟩
  have hB2 : Below w.heap.size w w1 := chain (by go_grown) hB1
  go_wp2
  go_returns
  go_light
  exact ⟨ret_bool hfin.out.symm, hB2⟩
theorem spec_OwnerAhead (p q : Ow) (w : World) :
    Calls Tryz.prog 91 #[.agg #[.int .i64 p.a, .int .i64 p.v, .string p.f], .agg #[.int .i64 q.a, .int .i64 q.v, .string q.f]] w fun e w' => e = .returned (.bool (owLt p q)) ∧ Below w.heap.size w w' := by
  obtain ⟨a, v, f⟩ := p
  obtain ⟨b, u, g⟩ := q
  go_enter Tryz.func91, Tryz.ntmps91
  go_wp2
  all_goals go_returns
  all_goals go_light
  all_goals refine ⟨?_, by go_grown⟩
  all_goals simp_all [owLt]
end Go.Proofs.YtnjefbkhibfgmaaGreat
namespace Go.Proofs.YtnjefbkhibfgmaaGreat
open Go.RowKit Go.Shelf
attribute [local go_sem] Oper.semAt_some
def ggo (size : Int) : Int → List Ex → List (Int × Int)
  | next, [] => if next ≤ size then [(next, size + 1 - next)] else []
  | next, e :: r => (if next < e.a then [(next, e.a - next)] else []) ++ ggo size (e.a + e.d.size) r
def KpG (n₀ Bs : Nat) (t : TypeId) (A B : World) : Prop := Below n₀ A B ∧ (∀ b c, Blk A b c t → Blk B b c t) ∧ (∀ v, A.cell? ⟨Bs, 0, none⟩ = some v → B.cell? ⟨Bs, 0, none⟩ = some v)
theorem KpG.t {n₀ Bs : Nat} {t : TypeId} {A B C : World} (h : KpG n₀ Bs t A B) (k : KpG n₀ Bs t B C) : KpG n₀ Bs t A C :=
  ⟨h.1.trans k.1, fun b c hb => k.2.1 b c (h.2.1 b c hb), fun v hv => k.2.2 v (h.2.2 v hv)⟩
theorem KpG.b {n₀ Bs : Nat} {t : TypeId} {w : World} (hn : n₀ ≤ w.heap.size) (hs : Bs < w.heap.size) (W : World) (l : Nat) (o o' : Obj) (hl : w.heap.size ≤ l) (h : W.heap[l]? = some o) (hc : o.isCells = false) (hw : o.isWalk = false) : KpG n₀ Bs t W (W.putObj l o') := by
  refine ⟨belowK_b hn W l o o' hl h hc hw, fun b c hb => ?_, fun v hv => ?_⟩
  · have hbl : b ≠ l := fun e => by subst e; unfold Blk at hb; rw [h] at hb; cases hb; cases hc
    exact Blk.grown hb (grownBy_putObj' W l o') hbl
  · exact (grownBy_putObj' W l o').cell hv (by simp; omega)
def ExsB (n₀ : Nat) (w : World) (a : Option Addr) (n : Nat) (l : List Ex) : Prop := ExsAt w a n l ∧ ∀ ad, 0 < n → a = some ad → ad.block < n₀
theorem exsB_at {n₀ : Nat} {w w' : World} {a : Option Addr} {n : Nat} {l : List Ex} (h : ExsB n₀ w a n l) (hb : Below n₀ w w') {k : Nat} (hk : k < n) :
    ∃ b o p, a = some ⟨b, o, none⟩ ∧ l[k]? = some p ∧ w'.cell? ⟨b, o + k * 2, none⟩ = some (.int .i64 p.a) ∧ w'.cell? ⟨b, o + k * 2 + 1, none⟩ = some (.string p.d) := by
  obtain ⟨b, o, p, ha, hp, c0, c1⟩ := exs_at h.1 hk
  have hlt : b < n₀ := h.2 _ (by omega) ha
  exact ⟨b, o, p, ha, hp, (hb.cell (p := ⟨b, o + k * 2, none⟩) hlt).trans c0, (hb.cell (p := ⟨b, o + k * 2 + 1, none⟩) hlt).trans c1⟩
set_option maxRecDepth 100000 in
set_option maxHeartbeats 4000000 in
theorem gaps1_in (n : Nat) (hn : 1 ≤ n) (l Bl Bs n₀ N : Nat) (size : Int) (a : Option Addr) (nn cap : Nat) (L : List Ex) (J Jx : List (Int × Int) → World → Prop) (W : World) (hJ : AbidesFrom W.heap.size J)
    (hY : ∀ pre x W1, J pre W1 → pre.length < N → YieldAt Fence.wide (n - 1) Tryz.prog l #[.int .i64 x.1, .int .i64 x.2] W1 fun e W' =>
      (e = .returned (.bool true) ∧ J (pre ++ [x]) W' ∧ KpG n₀ Bs 72 W1 W') ∨ (e = .returned (.bool false) ∧ Jx (pre ++ [x]) W'))
    (hBl : W.cell? ⟨Bl, 0, none⟩ = some (.slice a nn cap)) (hBs : W.cell? ⟨Bs, 0, none⟩ = some (.int .i64 size)) (hL : ExsB n₀ W a nn L) (hx : xgo size 1 L = true) (hs1 : 1 ≤ size) (hs2 : size ≤ 400) (hnn : nn ≤ 60) (hN : 61 ≤ N) (hn0 : n₀ ≤ W.heap.size) (h0 : J [] W) :
    CallsIn Fence.wide n Tryz.prog 88 #[.func (.yield l) #[] #[], .pointer (some ⟨Bl, 0, none⟩), .pointer (some ⟨Bs, 0, none⟩)] W fun e W' => (∃ v, e = .returned v) ∧
      ((∃ ys, ys = ggo size 1 L ∧ J ys W') ∨ (∃ pre, pre <+: ggo size 1 L ∧ Jx pre W')) := by
  have hlen : Hid (L.length = nn) := hL.1.len
  refine callsIn_of_wp Tryz.func88 rfl trivial ?_ rfl
  simp only [Tryz.ntmps88, List.size_toArray, List.length_cons, List.length_nil, Nat.reduceAdd, Nat.reduceSub, Array.replicate_succ, Array.replicate_zero, List.push_toArray, List.append_toArray, List.nil_append, List.cons_append]
  gi_wp2
  gi_loopw [4, 9] (fun nx ix wr => ∃ (k : Nat) (next : Int) (pre : List (Int × Int)), k ≤ nn ∧ ix = .int .i64 k ∧ nx = .int .i64 next ∧ 1 ≤ next ∧ next ≤ 421 ∧ pre.length ≤ k ∧ Hid (ggo size 1 L = pre ++ ggo size next (L.drop k)) ∧ Hid (xgo size next (L.drop k) = true) ∧ J pre wr ∧ Below n₀ W wr ∧ wr.cell? ⟨Bs, 0, none⟩ = some (.int .i64 size))
    (fun _ ix _ => nn - (intOf ix).toNat)
  case atStart => exact ⟨0, 1, [], Nat.zero_le _, rfl, rfl, by omega, by omega, Nat.le_refl _, by show _ = _; simp, hx, h0, Below.refl _ _, hBs⟩
  case round =>
    obtain ⟨k, next, pre, hk, rfl, rfl, hx1, hx2, hpl, hI, hX, hJs, hB, hBs'⟩ := hrel
    by_cases hlt : k < nn
    · obtain ⟨b, o, p, rfl, hp, c0, c1⟩ := exsB_at hL hB hlt
      have hd : Hid (L.drop k = p :: L.drop (k + 1)) := drop_at hp
      clear hp
      have hX' := hX.out
      rw [hd.out] at hX'
      simp only [xgo, Bool.and_eq_true, decide_eq_true_eq] at hX'
      obtain ⟨⟨⟨hdo, ha1⟩, ha2⟩, hX2⟩ := hX'
      have hd20 : 1 ≤ p.d.size ∧ p.d.size ≤ 20 := by simp [dataOkB] at hdo; exact hdo.1
      obtain ⟨hd1, hd2⟩ := hd20
      have hX3 : Hid (xgo size (p.a + p.d.size) (L.drop (k + 1)) = true) := hX2
      clear hX2 hX hdo
      have hJa : J pre (wr.alloc (.cells #[.int .i64 p.a, .string p.d] 72)) := hJ pre wr _ none hJs (World.grownBy_alloc wr _ none) (fun r e => by cases e)
      by_cases hgt : next < p.a
      · obtain ⟨fn, tmps, assign, body, hy, hR⟩ := hY pre (next, p.a - next) _ hJa (by omega)
        have hst : Hid (ggo size 1 L = (pre ++ [(next, p.a - next)]) ++ ggo size (p.a + p.d.size) (L.drop (k + 1))) := by show _ = _; rw [hI.out, hd.out, ggo, if_pos hgt]; simp
        dsimp only at hy
        gi_wp2
        refine hR.mono ?_
        rintro e W3 (⟨rfl, hJ3, hK3⟩ | ⟨rfl, hJx3⟩)
        · have hbx := hK3.2.1 _ _ (Blk.new wr #[.int .i64 p.a, .string p.d] 72)
          have e0 : W3.cell? ⟨wr.heap.size, 0, none⟩ = some (.int .i64 p.a) := hbx.cell 0
          have e1 : W3.cell? ⟨wr.heap.size, 1, none⟩ = some (.string p.d) := hbx.cell 1
          have hB3 : Below n₀ W W3 := (hB.alloc (Nat.le_trans hn0 hB.size) _).trans hK3.1
          have hs3 := hK3.2.2 _ (acell _ hBs')
          clear hK3 hbx hy hR
          gi_wp2
          go_roundw
          case rel => exact ⟨k + 1, p.a + p.d.size, pre ++ [(next, p.a - next)], by omega, by go_num, by go_num, by omega, by omega, by simp; omega, hst, hX3, hJ3, hB3, hs3⟩
          case measure => simp [intOf]; omega
        · clear hy hR
          gi_wp2
          refine bodyPost_ret (results_none rfl _ _ _) rfl ?_
          exact ⟨⟨_, rfl⟩, .inr ⟨_, ⟨_, hst.out.symm⟩, hJx3⟩⟩
      · have hst : Hid (ggo size 1 L = pre ++ ggo size (p.a + p.d.size) (L.drop (k + 1))) := by show _ = _; rw [hI.out, hd.out, ggo, if_neg hgt]; simp
        have hB3 : Below n₀ W (wr.alloc (.cells #[.int .i64 p.a, .string p.d] 72)) := hB.alloc (Nat.le_trans hn0 hB.size) _
        have hs3 : (wr.alloc (.cells #[.int .i64 p.a, .string p.d] 72)).cell? ⟨Bs, 0, none⟩ = some (.int .i64 size) := acell _ hBs'
        gi_wp2
        refine ⟨fun _ h => (by cases h), ?_⟩
        gi_wp2
        go_roundw
        case rel => exact ⟨k + 1, p.a + p.d.size, pre, by omega, by go_num, by go_num, by omega, by omega, by omega, hst, hX3, hJa, hB3, hs3⟩
        case measure => simp [intOf]; omega
    · obtain rfl : k = nn := by omega
      have hst := hI.out
      rw [List.drop_of_length_le (Nat.le_of_eq hlen.out)] at hst
      by_cases hle : next ≤ size
      · have hst2 : Hid (ggo size 1 L = pre ++ [(next, size + 1 - next)]) := by show _ = _; rw [hst, ggo, if_pos hle]
        obtain ⟨fn, tmps, assign, body, hy, hR⟩ := hY pre (next, size + 1 - next) wr hJs (by omega)
        clear hst hI hX
        dsimp only at hy
        gi_wp2
        refine hR.mono ?_
        rintro e W3 (⟨rfl, hJ3, hK3⟩ | ⟨rfl, hJx3⟩)
        · gi_wp2
          go_end0
          exact ⟨⟨_, rfl⟩, .inl ⟨_, hst2.out.symm, hJ3⟩⟩
        · gi_wp2
          go_end0
          exact ⟨⟨_, rfl⟩, .inr ⟨_, ⟨[], by rw [hst2.out]; simp⟩, hJx3⟩⟩
      · have hst2 : Hid (ggo size 1 L = pre) := by show _ = _; rw [hst, ggo, if_neg hle]; simp
        clear hst hI hX
        gi_wp2
        go_end0
        exact ⟨⟨_, rfl⟩, .inl (by rw [hst2.out]; exact hJs)⟩
set_option maxHeartbeats 1000000 in
theorem gaps_in (n : Nat) (size : Int) (a : Option Addr) (nn cap : Nat) (w : World) :
    CallsIn Fence.wide n Tryz.prog 62 #[.int .i64 size, .slice a nn cap] w fun e w' => e = .returned (.func (.func 88) #[] #[.pointer (some ⟨w.heap.size + 1, 0, none⟩), .pointer (some ⟨w.heap.size, 0, none⟩)]) ∧ w' = (w.alloc (.cells #[.int .i64 size] 2)).alloc (.cells #[.slice a nn cap] 24) := by
  refine callsIn_of_wp Tryz.func62 rfl trivial ?_ rfl
  simp only [Tryz.ntmps62, List.size_toArray, List.length_cons, List.length_nil, Nat.reduceAdd, Nat.reduceSub, Array.replicate_succ, Array.replicate_zero, List.push_toArray, List.append_toArray, List.nil_append, List.cons_append]
  gi_wp2
  go_ret
  exact ⟨rfl, rfl⟩
theorem gaps_stops (n : Nat) (hn : 1 ≤ n) (Bl Bs n₀ : Nat) (size : Int) (a : Option Addr) (nn cap : Nat) (L : List Ex) (w : World) (hn₀ : n₀ ≤ w.heap.size)
    (cl : w.cell? ⟨Bl, 0, none⟩ = some (.slice a nn cap)) (cs : w.cell? ⟨Bs, 0, none⟩ = some (.int .i64 size)) (hL : ExsB n₀ w a nn L) (hx : xgo size 1 L = true) (hs1 : 1 ≤ size) (hs2 : size ≤ 400) (hnn : nn ≤ 60) :
    SeqStopsK Fence.wide n Tryz.prog 88 #[.pointer (some ⟨Bl, 0, none⟩), .pointer (some ⟨Bs, 0, none⟩)] (fun x : Int × Int => #[Value.int .i64 x.1, Value.int .i64 x.2]) (KpG n₀ Bs 72) (fun ys => ys = ggo size 1 L) (fun pre => pre <+: ggo size 1 L) 61 w := fun l J Jx W hW hJ _ hY h0 => by
  have hL' : ExsB n₀ W a nn L := ⟨⟨hL.1.len, fun i x hx => by
    obtain ⟨b, o, ha, hc⟩ := hL.1.cell i x hx
    exact ⟨b, o, ha, fun j v hv => bcell hW (hc j v hv)⟩⟩, hL.2⟩
  exact gaps1_in n hn l Bl Bs n₀ 61 size a nn cap L J Jx W hJ hY (bcell hW cl) (bcell hW cs) hL' hx hs1 hs2 hnn (Nat.le_refl _) (Nat.le_trans hn₀ hW.size) h0
end Go.Proofs.YtnjefbkhibfgmaaGreat
