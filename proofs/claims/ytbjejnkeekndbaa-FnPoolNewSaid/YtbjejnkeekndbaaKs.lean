/- New pools, of the program and of the model. Pools with nothing in them: they are right. -/
import Derived.Test.YtbjejnkeekndbaaProg
import Derived.Test.YtbjejnkeekndbaaKb
import Derived.Test.YtbjejnkeekndbaaKa
import Derived.Test.YtbjejnkeekndbaaKl
import Derived.Test.YtbjejnkeekndbaaKh
namespace Go.Proofs.Ytbjejnkeekndbaa
open Go.RowKit Go.BigFrame

def poolV (s n : Int) : Value := .agg #[.int .i64 s, .int .i64 n, .slice none 0 0, .slice none 0 0, .slice none 0 0, .slice none 0 0]
def newB (size : Int) : Bool := decide (1 ≤ size) && decide (size ≤ 400)

theorem impl_PoolNew (size : Int) (w : World) :
    Calls Try.prog 60 #[.int .i64 size] w fun e w' => e = .returned (.tuple #[if newB size = true then poolV size 1 else poolV 0 0, .bool (newB size)]) ∧ Below w.heap.size w w' := by
  by_cases h : 1 ≤ size ∧ size ≤ 400
  · have hn : newB size = true := by simp [newB, h]
    rw [hn, if_pos rfl]
    obtain ⟨h1, h2⟩ := h
    go_enter Try.func60, Try.ntmps60
    go_wp2
    go_returns
    go_light
    exact ⟨rfl, by go_grown⟩
  · have hn : newB size = false := by simp [newB]; omega
    rw [hn, if_neg (by simp)]
    go_enter Try.func60, Try.ntmps60
    go_wp2
    all_goals go_returns
    all_goals go_light
    all_goals exact ⟨rfl, by go_grown⟩

theorem spec_PoolNew (size : Int) (w : World) :
    Calls Try.prog 61 #[.int .i64 size] w fun e w' => e = .returned (.tuple #[if newB size = true then poolV size 1 else poolV 0 0, .bool (newB size)]) ∧ Below w.heap.size w w' := by
  cases hn : newB size
  all_goals
    have hn' : (decide (1 ≤ size) && decide (size ≤ 400)) = _ := hn
    go_enter Try.func61, Try.ntmps61
    go_wp2_with fail
    refine (spec_l1In _ _ _ _).mono ?_
    rintro e w1 ⟨rfl, rfl⟩
    rw [hn']
    go_wp2
    go_returns
    go_light
    exact ⟨rfl, by go_grown⟩

end Go.Proofs.Ytbjejnkeekndbaa
namespace Go.Proofs.Ytbjejnkeekndbaa
open Go.RowKit Go.BigFrame
open Go.Maps (Keyed)

theorem owns_empty {H : Type} {P : Program} {w : World} {k : TypeId} {R : Value → Option (DataW H × List MemPlace)} {b : Nat} (h : w.heap[b]? = some (.map #[] 0)) : w.ownsMap P k R b 0 (.map []) :=
  ⟨#[], 0, h, ⟨by simp, MapKept.stamped_empty 0, by simp⟩, Nat.le_refl _, rfl⟩

theorem len_empty {P : Program} {w : World} {b : Nat} (h : w.heap[b]? = some (.map #[] 0)) (t k e : TypeId) (ht : P.underlying t = some (.map k e)) (ty : TypeId) : (Builtin.len_ #[t] ty #[.map (some b)]).run P w = .ok (.int .i64 0) w :=
  (owns_empty (H := Unit) (P := P) (k := k) (R := fun _ => none) h).len ht ty

theorem nil_volsOk (s n : Int) (w : World) : Calls Try.prog 116 #[poolV s n] w fun e w' => e = .returned (.bool true) ∧ Below w.heap.size w w' := by
  unfold poolV
  go_enter Try.func116, Try.ntmps116
  go_wp2_with fail
  go_rounds 1
  go_returns
  exact ⟨rfl, by go_grown⟩

theorem nil_volumesOf (s n : Int) (w : World) : Calls Try.prog 117 #[poolV s n] w fun e w' => (∃ b, e = .returned (.map (some b)) ∧ w'.heap[b]? = some (.map #[] 0) ∧ w.heap.size ≤ b) ∧ Below w.heap.size w w' := by
  have hmm := @run_makeMap Try.prog
  unfold poolV
  go_enter Try.func117, Try.ntmps117
  go_wp2_with fail
  go_rounds 1
  go_returns
  refine ⟨⟨_, rfl, ?_, by simp⟩, by go_grown⟩
  have := heap_alloc_new (w.alloc (.cells #[.int .i64 s, .int .i64 n, .slice none 0 0, .slice none 0 0, .slice none 0 0, .slice none 0 0] 75)) (.map #[] 0)
  simpa using this

theorem nil_Equal (a a' : Option Addr) (cap cap' : Nat) (w : World) : Calls Try.prog 118 #[.slice a 0 cap, .slice a' 0 cap'] w fun e w' => e = .returned (.bool true) ∧ w' = w := by
  go_enter Try.func118, Try.ntmps118
  go_wp2_with fail
  go_rounds 1
  go_returns
  exact ⟨rfl, rfl⟩

set_option maxRecDepth 100000 in
theorem nil_addrsOk (s n : Int) (w : World) : Calls Try.prog 120 #[poolV s n] w fun e w' => e = .returned (.bool true) ∧ Below w.heap.size w w' := by
  have hmm := @run_makeMap Try.prog
  have hh : ((w.alloc (.cells #[.int .i64 s, .int .i64 n, .slice none 0 0, .slice none 0 0, .slice none 0 0, .slice none 0 0] 75)).alloc (.map #[] 0)).heap[w.heap.size + 1]? = some (.map #[] 0) := by
    have := heap_alloc_new (w.alloc (.cells #[.int .i64 s, .int .i64 n, .slice none 0 0, .slice none 0 0, .slice none 0 0, .slice none 0 0] 75)) (.map #[] 0)
    simpa using this
  have hln := len_empty hh 182 2 2 Try.underlying182 3
  unfold poolV
  go_enter Try.func120, Try.ntmps120
  go_wp2_with fail
  go_rounds 1
  go_wp2_with fail
  go_rounds 1
  go_wp2_with fail
  go_rounds 1
  go_wp2
  go_returns
  exact ⟨rfl, by go_grown⟩

set_option maxHeartbeats 1000000 in
set_option maxRecDepth 100000 in
theorem nil_found (b : Nat) (w : World) (h : w.heap[b]? = some (.map #[] 0)) : Calls Try.prog 119 #[.map (some b)] w fun e w' => (∃ a cap, e = .returned (.slice a 0 cap)) ∧ Below w.heap.size w w' := by
  have hmm := @run_makeMap Try.prog
  have hbl : b < w.heap.size := (Array.getElem?_eq_some_iff.1 h).1
  have hown : ∀ x, (w.alloc x).ownsMap (H := Unit) Try.prog 9 (fun _ => none) b 0 (.map []) := fun x => owns_empty (by rw [heap_alloc_old w x hbl]; exact h)
  have hT := TlAt.made w
  go_enter Try.func119, Try.ntmps119
  go_wp2_with (first
    | (at_range; refine wpList_range_own _ rfl _ 142 rfl 9 _ (Maps.string_keyed Try.underlying9) Try.underlying142 _ b 0 (.map []) rfl (hown _) ?_; intro w0 hrg0 hg0 hs0)
    | go_in)
  go_frame
  refine wp_loop_rounds 1 ?_
  rw [rounds_succ]
  go_wp2_with (first
    | (at_next; refine wpList_next_ranges _ rfl _ rfl 9 (Maps.string_keyed Try.underlying9) (fun _ => none) (fun x : Value => x) (fun x : Value => x) (fun key kl hk => ⟨key, rfl⟩) (fun v y h => ⟨v, rfl⟩) b _ 0 (.map []) _ _ rfl hrg0 ?_ ?_)
    | go_in)
  · intro _ _
    have hT1 := hT.kept hg0 (by simp)
    have hB1 : Below w.heap.size w w0 := ((Below.refl _ _).alloc (Nat.le_refl _) _).grown hg0 (by simp) (fun j hj => by cases hj)
    go_wp2_with fail
    refine (impl_told' w.heap.size 0 _ w0 hT1 (by omega)).mono ?_
    rintro e w4 ⟨⟨a2, n2, cap2, R, rfl, hn2, R4, _⟩, hB4⟩
    obtain rfl : n2 = 0 := by omega
    have hB5 := chain hB1 hB4
    go_wp2
    go_returns
    exact ⟨⟨a2, cap2, rfl⟩, hB5⟩

theorem flushed_nil : flushedO [] [] = some [] := by
  have h1 : refsOkB [] = true := rfl
  have h2 : lateOkB [] = true := rfl
  have h3 : sumC [] [] = [] := rfl
  simp [flushedO, h1, h2, h3]
theorem nilSl {α : Type} (cs : α → List Value) (sz : Nat) (w : World) : SlAt cs sz w none 0 [] := ⟨rfl, fun i x hx => by simp at hx⟩

set_option maxHeartbeats 2000000 in
set_option maxRecDepth 100000 in
theorem nil_PoolOk (s : Int) (w : World) (h1 : 1 ≤ s) (h2 : s ≤ 400) : Calls Try.prog 62 #[poolV s 1] w fun e w' => e = .returned (.bool true) ∧ Below w.heap.size w w' := by
  have hsp : spaceOkB s [] = true := by simp [spaceOkB, xgo, h1, h2]
  have hV := fun W => nil_volsOk s 1 W
  have hO := fun W => nil_volumesOf s 1 W
  have hA := fun W => nil_addrsOk s 1 W
  unfold poolV at *
  go_enter Try.func62, Try.ntmps62
  go_wp2_with fail
  refine (impl_SpaceOk s none 0 0 [] _ (nilSl _ _ _) (fun e he => by simp at he) (by omega)).mono ?_
  rintro e w1 ⟨rfl, hB1⟩
  rw [hsp]
  have c0 : w1.cell? ⟨w.heap.size, 0, none⟩ = some (.int .i64 s) := bcell hB1 (World.cell?_alloc_new _ _ _ 0)
  have c1 : w1.cell? ⟨w.heap.size, 1, none⟩ = some (.int .i64 1) := bcell hB1 (World.cell?_alloc_new _ _ _ 1)
  have c2 : w1.cell? ⟨w.heap.size, 2, none⟩ = some (.slice none 0 0) := bcell hB1 (World.cell?_alloc_new _ _ _ 2)
  have c3 : w1.cell? ⟨w.heap.size, 3, none⟩ = some (.slice none 0 0) := bcell hB1 (World.cell?_alloc_new _ _ _ 3)
  have c4 : w1.cell? ⟨w.heap.size, 4, none⟩ = some (.slice none 0 0) := bcell hB1 (World.cell?_alloc_new _ _ _ 4)
  have c5 : w1.cell? ⟨w.heap.size, 5, none⟩ = some (.slice none 0 0) := bcell hB1 (World.cell?_alloc_new _ _ _ 5)
  replace hB1 : Below w.heap.size w w1 := chain (by go_grown) hB1
  go_wp2_with fail
  refine (hV _).mono ?_
  rintro e w2 ⟨rfl, hB2⟩
  replace c0 := bcell hB2 c0
  replace c1 := bcell hB2 c1
  replace c2 := bcell hB2 c2
  replace c3 := bcell hB2 c3
  replace c4 := bcell hB2 c4
  replace c5 := bcell hB2 c5
  replace hB2 := chain hB1 hB2
  go_wp2_with fail
  refine (hO _).mono ?_
  rintro e w3 ⟨⟨b, rfl, hb, hbw⟩, hB3⟩
  replace c0 := bcell hB3 c0
  replace c1 := bcell hB3 c1
  replace c2 := bcell hB3 c2
  replace c3 := bcell hB3 c3
  replace c4 := bcell hB3 c4
  replace c5 := bcell hB3 c5
  replace hB3 := chain hB2 hB3
  have hln := len_empty hb 142 9 _ Try.underlying142 3
  go_wp2_with fail
  refine (impl_Flushed none 0 0 [] none 0 0 [] _ (nilSl _ _ _) (nilSl _ _ _) (fun c hc => by simp at hc) (fun c hc => by simp at hc) (by omega) (by omega)).mono ?_
  rintro e w4 ⟨hret, hB4⟩
  rw [flushed_nil] at hret
  obtain ⟨a4, n4, cap4, rfl, _, R4⟩ := hret
  obtain rfl : n4 = 0 := by rw [← R4.sl.len]; rfl
  have hb4 : w4.heap[b]? = some (.map #[] 0) := by rw [hB4.block b (Array.getElem?_eq_some_iff.1 hb).1]; exact hb
  replace c0 := bcell hB4 c0
  replace c1 := bcell hB4 c1
  replace c2 := bcell hB4 c2
  replace c3 := bcell hB4 c3
  replace c4 := bcell hB4 c4
  replace c5 := bcell hB4 c5
  replace hB4 := chain hB3 hB4
  go_wp2_with fail
  refine (nil_found b _ hb4).mono ?_
  rintro e w5 ⟨⟨a5, cap5, rfl⟩, hB5⟩
  replace c0 := bcell hB5 c0
  replace c1 := bcell hB5 c1
  replace c2 := bcell hB5 c2
  replace c3 := bcell hB5 c3
  replace c4 := bcell hB5 c4
  replace c5 := bcell hB5 c5
  replace hB5 := chain hB4 hB5
  go_wp2_with fail
  refine (nil_Equal a4 a5 cap4 cap5 _).mono ?_
  rintro e w6 ⟨rfl, rfl⟩
  go_wp2_with fail
  refine (hA _).mono ?_
  rintro e w7 ⟨rfl, hB7⟩
  replace hB7 := chain hB5 hB7
  go_wp2
  go_returns
  exact ⟨rfl, hB7⟩
end Go.Proofs.Ytbjejnkeekndbaa
