/- Placed of the program. -/
import Derived.Test.YtbmkedickkpjjaaGa
import Derived.Test.YtbmkedickkpjjaaWc
import Derived.RangeFuncFrom
namespace Go.Proofs.Ytbmkedickkpjjaa
open Go.RowKit Go.Shelf

attribute [local go_sem] Oper.semAt_some

theorem keeps_below {A B : World} (h : Below A.heap.size A B) : KeepsOthers A B :=
  KeepsOthers.of_grownBy (row := none) ⟨h.os, h.tape, h.output, h.size, fun k hk _ => h.block k hk⟩ (fun j o e _ => by cases e)

theorem KpG.refl (n₀ Bs : Nat) (t : TypeId) (A : World) : KpG n₀ Bs t A A := ⟨Below.refl _ _, fun _ _ h => h, fun _ h => h⟩

theorem res_own {B : Nat} {a : Option Addr} {n cap : Nat} {l : List Ex} {t : TypeId} {X Y : World} {row : Option Nat} (h : ResAt Ex.cs 2 t X B a n cap l) (hg : X.grownBy Y row) (hr : ∀ r, row = some r → ∃ o : Obj, X.heap[r]? = some o ∧ o.isCells = false) : ResAt Ex.cs 2 t Y B a n cap l := by
  have hne : ∀ b c, Blk X b c t → some b ≠ row := fun b c hb e => by
    obtain ⟨o, ho, hc⟩ := hr b e.symm
    rw [show X.heap[b]? = _ from hb] at ho; cases ho; cases hc
  rcases h.own with ⟨rfl, rfl, rfl⟩ | ⟨b, rfl, hB, h1, h2, c, hc, q⟩
  · exact ⟨⟨h.sl.len, fun i x hx => by obtain ⟨b, o, ha, _⟩ := h.sl.cell i x hx; cases ha⟩, .inl ⟨rfl, rfl, rfl⟩⟩
  · have hb := hne b c hc
    refine ⟨⟨h.sl.len, fun i x hx => ?_⟩, .inr ⟨b, rfl, hB, h1, h2, c, ?_, q⟩⟩
    · obtain ⟨b', o', ha, hcell⟩ := h.sl.cell i x hx
      cases ha
      exact ⟨b, 0, rfl, fun j v hv => hg.cell (hcell j v hv) hb⟩
    · show Y.heap[b]? = _
      rw [hg.block b hc.lt hb]; exact hc

theorem Boxed.belowB {A B : World} {b : Nat} {t : TypeId} {v : Value} (h : Boxed A b t v) (hb : Below A.heap.size A B) : Boxed B b t v := (hb.block b h.lt).trans h

theorem boxed_keep {A B : World} {row : Option Nat} {b : Nat} {t : TypeId} {v : Value} (h : Boxed A b t v) (hg : A.grownBy B row) (hr : ∀ r, row = some r → ∃ o : Obj, A.heap[r]? = some o ∧ o.isCells = false) : Boxed B b t v :=
  h.kept hg (fun e' => by obtain ⟨o, ho, hc⟩ := hr _ e'.symm; rw [show A.heap[b]? = _ from h] at ho; cases ho; cases hc)

/-- None of these gaps has room. -/
def NoFit (m : Int) (pre : List (Int × Int)) : Prop := ∀ y ∈ pre, decide (m ≤ y.2) = false
/-- The last of these gaps is the first with room, and the boxes hold what is answered then. -/
def Got (W : World) (B : Nat) (l : List Ex) (d : ByteArray) (pre : List (Int × Int)) : Prop :=
  ∃ pre' x a' n' cap', pre = pre' ++ [x] ∧ NoFit d.size pre' ∧ decide ((d.size : Int) ≤ x.2) = true ∧ Boxed W (B + 1 + 1) 24 (.slice a' n' cap') ∧ ResAt Ex.cs 2 125 W B a' n' cap' (withE l ⟨x.1, d⟩) ∧ Boxed W (B + 1 + 1 + 1) 2 (.int .i64 x.1) ∧ Boxed W (B + 1 + 1 + 1 + 1) 4 (.bool true)

theorem find_pre {α : Type} {f : α → Bool} {pre l : List α} {x : α} (h : pre ++ [x] <+: l) (hn : ∀ y ∈ pre, f y = false) (hx : f x = true) : l.find? f = some x := by
  obtain ⟨t, rfl⟩ := h
  rw [List.append_assoc, List.find?_append, List.find?_eq_none.2 (fun y hy => by simp [hn y hy])]
  simp [hx]

theorem box5 {w w1 : World} {v0 v1 v2 v3 v4 : Value} {t0 t1 t2 t3 t4 : TypeId} (hb : Below (((((w.alloc (.cells #[v0] t0)).alloc (.cells #[v1] t1)).alloc (.cells #[v2] t2)).alloc (.cells #[v3] t3)).alloc (.cells #[v4] t4)).heap.size (((((w.alloc (.cells #[v0] t0)).alloc (.cells #[v1] t1)).alloc (.cells #[v2] t2)).alloc (.cells #[v3] t3)).alloc (.cells #[v4] t4)) w1) :
    Boxed w1 w.heap.size t0 v0 ∧ Boxed w1 (w.heap.size + 1) t1 v1 ∧ Boxed w1 (w.heap.size + 1 + 1) t2 v2 ∧ Boxed w1 (w.heap.size + 1 + 1 + 1) t3 v3 ∧ Boxed w1 (w.heap.size + 1 + 1 + 1 + 1) t4 v4 ∧ Below w.heap.size w w1 := by
  have e0 := ((((Boxed.new w t0 v0).alloc (.cells #[v1] t1)).alloc (.cells #[v2] t2)).alloc (.cells #[v3] t3)).alloc (.cells #[v4] t4)
  have e1 := (((Boxed.new (w.alloc (.cells #[v0] t0)) t1 v1).alloc (.cells #[v2] t2)).alloc (.cells #[v3] t3)).alloc (.cells #[v4] t4)
  have e2 := ((Boxed.new ((w.alloc (.cells #[v0] t0)).alloc (.cells #[v1] t1)) t2 v2).alloc (.cells #[v3] t3)).alloc (.cells #[v4] t4)
  have e3 := (Boxed.new (((w.alloc (.cells #[v0] t0)).alloc (.cells #[v1] t1)).alloc (.cells #[v2] t2)) t3 v3).alloc (.cells #[v4] t4)
  have e4 := Boxed.new ((((w.alloc (.cells #[v0] t0)).alloc (.cells #[v1] t1)).alloc (.cells #[v2] t2)).alloc (.cells #[v3] t3)) t4 v4
  simp only [World.size_alloc] at e1 e2 e3 e4
  exact ⟨Boxed.belowB e0 hb, Boxed.belowB e1 hb, Boxed.belowB e2 hb, Boxed.belowB e3 hb, Boxed.belowB e4 hb, chain (by go_grown) hb⟩

set_option maxRecDepth 100000 in
set_option maxHeartbeats 4000000 in
theorem impl_Placed_in (size : Int) (b o n cap : Nat) (l : List Ex) (d : ByteArray) (w : World) (h : ExsAt w (some ⟨b, o, none⟩) n l) (hstr : Strs l) (hn : n ≤ 4194304) (hcap : n ≤ cap) (hc2 : cap ≤ 8388608) (hd : d.size ≤ 9223372036854775807) (hbw : b < w.heap.size) :
    CallsIn Fence.wide 6 Try.prog 33 #[.int .i64 size, .slice (some ⟨b, o, none⟩) n cap, .string d] w fun e w' => RetPl w.heap.size e w' (placedO size l d) ∧ Below w.heap.size w w' := by
  have f41 : Fence.wide.fn 41 := trivial
  have f113 : Fence.wide.fn 113 := trivial
  have f114 : Fence.wide.fn 114 := trivial
  have hlen : Hid (l.length = n) := h.len
  by_cases hgo : spaceOkB size l = true ∧ dataOkB d = true ∧ n ≠ 60
  · obtain ⟨hok, hdo, h60⟩ := hgo
    have h60' : ((n : Int) == 60) = false := beq_eq_false_iff_ne.2 (by omega)
    have hf : placedO size l d = ((ggo size 1 l).find? (fun x => decide ((d.size : Int) ≤ x.2))).map (fun x => (withE l ⟨x.1, d⟩, x.1)) := by unfold placedO; rw [if_pos ⟨hok, hdo, by rw [hlen.out]; exact h60⟩]
    rw [hf]
    obtain ⟨hs1, hs2, hln, hxg⟩ := ok_parts hok
    rw [hlen.out] at hln
    refine callsIn_of_wp_marks Try.func33 rfl trivial ?_ rfl
    simp only [Try.ntmps33, List.size_toArray, List.length_cons, List.length_nil, Nat.reduceAdd, Nat.reduceSub, Array.replicate_succ, Array.replicate_zero, List.push_toArray, List.append_toArray, List.nil_append, List.cons_append]
    gi_wp2_with (first | (gi_at_call 41; refine (callsIn_wide.2 (impl_SpaceOk size _ n cap l _ (h.below (by go_grown)) hstr hn)).mono ?_; rintro e w1 ⟨rfl, hB1⟩; rw [hok]; obtain ⟨k0, k1, k2, k3, k4, hB1'⟩ := box5 hB1; clear hB1; have c0 := k0.cell; have c1 := k1.cell) | (gi_at_call 113; refine (callsIn_wide.2 (impl_dataOk d _ hd)).mono ?_; rintro e w2 ⟨rfl, rfl⟩; rw [hdo]) | (gi_at_call 114; refine (gaps_in _ size _ n cap _).mono ?_; rintro e w2 ⟨rfl, rfl⟩))
    have hz := hB1'.size
    have hsz2 : w.heap.size + 1 + 1 + 1 + 1 < w2.heap.size := k4.lt
    have hB0 : Below w.heap.size w ((w2.alloc (.cells #[.int .i64 size] 2)).alloc (.cells #[.slice (some ⟨b, o, none⟩) n cap] 24)) := (hB1'.alloc hz _).alloc (by simp; omega) _
    have j0 := (k0.alloc (.cells #[.int .i64 size] 2)).alloc (.cells #[.slice (some ⟨b, o, none⟩) n cap] 24)
    have j1 := (k1.alloc (.cells #[.int .i64 size] 2)).alloc (.cells #[.slice (some ⟨b, o, none⟩) n cap] 24)
    have j2 := (k2.alloc (.cells #[.int .i64 size] 2)).alloc (.cells #[.slice (some ⟨b, o, none⟩) n cap] 24)
    have j3 := (k3.alloc (.cells #[.int .i64 size] 2)).alloc (.cells #[.slice (some ⟨b, o, none⟩) n cap] 24)
    have j4 := (k4.alloc (.cells #[.int .i64 size] 2)).alloc (.cells #[.slice (some ⟨b, o, none⟩) n cap] 24)
    have bS := (Boxed.new w2 2 (.int .i64 size)).alloc (.cells #[.slice (some ⟨b, o, none⟩) n cap] 24)
    have bL : Boxed ((w2.alloc (.cells #[.int .i64 size] 2)).alloc (.cells #[.slice (some ⟨b, o, none⟩) n cap] 24)) (w2.heap.size + 1) 24 (.slice (some ⟨b, o, none⟩) n cap) := by
      have := Boxed.new (w2.alloc (.cells #[.int .i64 size] 2)) 24 (.slice (some ⟨b, o, none⟩) n cap)
      simpa using this
    have hszW : ((w2.alloc (.cells #[.int .i64 size] 2)).alloc (.cells #[.slice (some ⟨b, o, none⟩) n cap] 24)).heap.size = w2.heap.size + 1 + 1 := by simp
    clear k0 k1 k2 k3 k4 c0 c1
    generalize (w2.alloc (.cells #[.int .i64 size] 2)).alloc (.cells #[.slice (some ⟨b, o, none⟩) n cap] 24) = W0 at *
    refine wpIn_rangeFunc_ownF rfl (by omega) (gf := 164) (lb := #[.pointer (some ⟨w2.heap.size + 1, 0, none⟩), .pointer (some ⟨w2.heap.size, 0, none⟩)]) rfl trivial (enters_of Try.func164 (by kernel_rfl) rfl)
      (gaps_stops (6 - 1) (by omega) (w2.heap.size + 1) w2.heap.size w.heap.size size (some ⟨b, o, none⟩) n cap l W0 (by omega) bL.cell bS.cell ⟨h.below hB0, fun ad _ had => by cases had; exact hbw⟩ hxg hs1 hs2 (by omega)) KpG.t (KpG.b (by omega) (by omega)) (Below.refl _ _) (fun _ => rfl)
      (fun pre W => (NoFit d.size pre ∧ Boxed W w.heap.size 24 (.slice (some ⟨b, o, none⟩) n cap) ∧ Boxed W (w.heap.size + 1) 9 (.string d) ∧ Boxed W (w.heap.size + 1 + 1) 24 (.slice none 0 0) ∧ Boxed W (w.heap.size + 1 + 1 + 1) 2 (.int .i64 0) ∧ Boxed W (w.heap.size + 1 + 1 + 1 + 1) 4 (.bool false)) ∧ Below w.heap.size w W)
      (fun c pre W => (c = .ret ∧ Got W w.heap.size l d pre) ∧ Below w.heap.size w W)
      (OwnFrom.and (fun s A B row hs hg hr => ⟨hs.1, boxed_keep hs.2.1 hg (fun r e => (hr r e).2), boxed_keep hs.2.2.1 hg (fun r e => (hr r e).2), boxed_keep hs.2.2.2.1 hg (fun r e => (hr r e).2), boxed_keep hs.2.2.2.2.1 hg (fun r e => (hr r e).2), boxed_keep hs.2.2.2.2.2 hg (fun r e => (hr r e).2)⟩) (ownFrom_below (Nat.le_refl _) (by omega)))
      (fun c => OwnFrom.and (fun s A B row hs hg hr => by
        obtain ⟨hc, pre', x, a', n', cap', e1, e2, e3, g1, g2, g3, g4⟩ := hs
        exact ⟨hc, pre', x, a', n', cap', e1, e2, e3, boxed_keep g1 hg (fun r e => (hr r e).2), res_own g2 hg (fun r e => (hr r e).2), boxed_keep g3 hg (fun r e => (hr r e).2), boxed_keep g4 hg (fun r e => (hr r e).2)⟩) (ownFrom_below (Nat.le_refl _) (by omega)))
      ⟨⟨fun y hy => by simp at hy, j0, j1, j2, j3, j4⟩, hB0⟩
      (fun x => { tmps := #[.int .i64 size, .slice (some ⟨b, o, none⟩) n cap, .string d, undef, .pointer (some ⟨w.heap.size, 0, none⟩), .pointer (some ⟨w.heap.size + 1, 0, none⟩), .pointer (some ⟨w.heap.size + 1 + 1, 0, none⟩), .pointer (some ⟨w.heap.size + 1 + 1 + 1, 0, none⟩), .pointer (some ⟨w.heap.size + 1 + 1 + 1 + 1, 0, none⟩), .int .i64 x.1, .int .i64 x.2, .int .i64 size, .slice (some ⟨b, o, none⟩) n cap, .bool true, .bool false, .bool false, .string d, .bool true, .bool false, .bool false, .bool false, .slice (some ⟨b, o, none⟩) n cap, .int .i64 n, .bool false, .bool false, .int .i64 size, .slice (some ⟨b, o, none⟩) n cap, .func (.func 164) #[] #[.pointer (some ⟨w2.heap.size + 1, 0, none⟩), .pointer (some ⟨w2.heap.size, 0, none⟩)], .int .i64 x.1, .int .i64 x.2, undef, undef, undef, undef, undef, undef, undef, undef, undef, undef], defers := [] }) ?assign ?body ?done ?stop
    case assign =>
      intro l x W K hK
      gi_wp2
      exact hK
    case body =>
      rintro lp pre x W ⟨⟨hno, p0, p1, p2, p3, p4⟩, hB⟩ hlt
      have c0 := p0.cell
      have c1 := p1.cell
      have fw : Fence.wide.fn 115 := trivial
      by_cases hfit : (d.size : Int) ≤ x.2
      · gi_wp2_with (gi_at_call 115; refine (CallsIn.inRound lp (callsIn_wide.2 (impl_withExtent b o n cap l ⟨x.1, d⟩ W (h.below hB) (by omega) hcap hc2))).mono ?_; rintro e w3 ⟨⟨a', n', cap', rfl, hres⟩, hB3⟩; have p2' := Boxed.belowB p2 hB3; have p3' := Boxed.belowB p3 hB3; have p4' := Boxed.belowB p4 hB3; have c2 := p2'.cell; have f2 := p2'.frozen; have c3 := p3'.cell; have f3 := p3'.frozen; have c4 := p4'.cell; have f4 := p4'.frozen)
        have m2 := p2.lt
        have m3 := p3.lt
        have m4 := p4.lt
        have q2 := ((p2'.set (.slice a' n' cap')).other (B' := w.heap.size + 1 + 1 + 1) (by omega) (.int .i64 x.1)).other (B' := w.heap.size + 1 + 1 + 1 + 1) (by omega) (.bool true)
        have q3 := ((p3'.other (B' := w.heap.size + 1 + 1) (by omega) (.slice a' n' cap')).set (.int .i64 x.1)).other (B' := w.heap.size + 1 + 1 + 1 + 1) (by omega) (.bool true)
        have q4 := ((p4'.other (B' := w.heap.size + 1 + 1) (by omega) (.slice a' n' cap')).other (B' := w.heap.size + 1 + 1 + 1) (by omega) (.int .i64 x.1)).set (.bool true)
        have hbk := hres.block
        have hres2 := ((hres.grown (grownBy_setCell' w3 (w.heap.size + 1 + 1) (.slice a' n' cap')) (fun ad had => by have := (hbk ad had).1; omega)).grown (grownBy_setCell' _ (w.heap.size + 1 + 1 + 1) (.int .i64 x.1)) (fun ad had => by have := (hbk ad had).1; omega)).grown (grownBy_setCell' _ (w.heap.size + 1 + 1 + 1 + 1) (.bool true)) (fun ad had => by have := (hbk ad had).1; omega)
        have hB4 := (((chain hB hB3).setCell (p := ⟨w.heap.size + 1 + 1, 0, none⟩) (by simp; omega) (.slice a' n' cap')).setCell (p := ⟨w.heap.size + 1 + 1 + 1, 0, none⟩) (by simp; omega) (.int .i64 x.1)).setCell (p := ⟨w.heap.size + 1 + 1 + 1 + 1, 0, none⟩) (by simp; omega) (.bool true)
        exact ⟨(((keeps_below hB3).trans (KeepsOthers.setCell _ _ _)).trans (KeepsOthers.setCell _ _ _)).trans (KeepsOthers.setCell _ _ _), ⟨rfl, pre, x, a', n', cap', rfl, hno, by simpa using hfit, q2, hres2.mono (by omega), q3, q4⟩, hB4⟩
      · have hno' : NoFit d.size (pre ++ [x]) := fun y hy => by
          rcases List.mem_append.1 hy with hy | hy
          · exact hno y hy
          · simp at hy; subst hy; simpa using hfit
        gi_wp2
        exact ⟨KeepsOthers.refl _, KpG.refl _ _ _ _, ⟨hno', p0, p1, p2, p3, p4⟩, hB⟩
    case done =>
      rintro D ys W hD rfl ⟨⟨hno, p0, p1, p2, p3, p4⟩, hB⟩ hK
      have c2 := p2.cell
      have f2 := p2.frozen
      have c3 := p3.cell
      have f3 := p3.frozen
      have c4 := p4.cell
      have f4 := p4.frozen
      have q2 := ((p2.set (.slice none 0 0)).other (B' := w.heap.size + 1 + 1 + 1) (by omega) (.int .i64 0)).other (B' := w.heap.size + 1 + 1 + 1 + 1) (by omega) (.bool false)
      have q3 := ((p3.other (B' := w.heap.size + 1 + 1) (by omega) (.slice none 0 0)).set (.int .i64 0)).other (B' := w.heap.size + 1 + 1 + 1 + 1) (by omega) (.bool false)
      have q4 := ((p4.other (B' := w.heap.size + 1 + 1) (by omega) (.slice none 0 0)).other (B' := w.heap.size + 1 + 1 + 1) (by omega) (.int .i64 0)).set (.bool false)
      have hB4 := ((hB.setCell (p := ⟨w.heap.size + 1 + 1, 0, none⟩) (by simp; omega) (.slice none 0 0)).setCell (p := ⟨w.heap.size + 1 + 1 + 1, 0, none⟩) (by simp; omega) (.int .i64 0)).setCell (p := ⟨w.heap.size + 1 + 1 + 1 + 1, 0, none⟩) (by simp; omega) (.bool false)
      have hK' := (((KeepsOthers.setCell W ⟨w.heap.size + 1 + 1, 0, none⟩ (.slice none 0 0)).trans (KeepsOthers.setCell _ ⟨w.heap.size + 1 + 1 + 1, 0, none⟩ (.int .i64 0))).trans (KeepsOthers.setCell _ ⟨w.heap.size + 1 + 1 + 1 + 1, 0, none⟩ (.bool false))).same D _ hK rfl
      gi_wp2
      generalize ((W.setCell ⟨w.heap.size + 1 + 1, 0, none⟩ (.slice none 0 0)).setCell ⟨w.heap.size + 1 + 1 + 1, 0, none⟩ (.int .i64 0)).setCell ⟨w.heap.size + 1 + 1 + 1 + 1, 0, none⟩ (.bool false) = W4 at *
      refine ⟨by simp, .inl ⟨_, _, rfl, run_takeDeferred hK', ?_⟩⟩
      have hkeep : ∀ r, some D = some r → ∃ o : Obj, W4.heap[r]? = some o ∧ o.isCells = false := fun r e => by cases e; exact ⟨_, hK', rfl⟩
      have hc6 := (boxed_keep q2 (grownBy_putObj' W4 D (.deferred none)) hkeep).cell
      have hc7 := (boxed_keep q3 (grownBy_putObj' W4 D (.deferred none)) hkeep).cell
      have hc8 := (boxed_keep q4 (grownBy_putObj' W4 D (.deferred none)) hkeep).cell
      refine ⟨.tuple #[.slice none 0 0, .int .i64 0, .bool false], ?_, ?_, hB4.trans (belowK_b (w := w) (Nat.le_refl _) W4 D _ _ (by omega) hK' rfl rfl)⟩
      · simp [results, Try.f33, go_sem, hc6, hc7, hc8]
      · rw [List.find?_eq_none.2 (fun y hy => by rw [hno y hy]; simp)]
        rfl
    case stop =>
      rintro D c pre W hD hpre ⟨⟨rfl, pre', x, a', n', cap', rfl, e2, e3, g1, g2, g3, g4⟩, hB⟩ hK
      gi_wp2
      refine ⟨by simp, .inl ⟨_, _, rfl, run_takeDeferred hK, ?_⟩⟩
      have hkeep : ∀ r, some D = some r → ∃ o : Obj, W.heap[r]? = some o ∧ o.isCells = false := fun r e => by cases e; exact ⟨_, hK, rfl⟩
      have hc6 := (boxed_keep g1 (grownBy_putObj' W D (.deferred none)) hkeep).cell
      have hc7 := (boxed_keep g3 (grownBy_putObj' W D (.deferred none)) hkeep).cell
      have hc8 := (boxed_keep g4 (grownBy_putObj' W D (.deferred none)) hkeep).cell
      have hr8 := res_own g2 (grownBy_putObj' W D (.deferred none)) hkeep
      refine ⟨.tuple #[.slice a' n' cap', .int .i64 x.1, .bool true], ?_, ?_, hB.trans (belowK_b (w := w) (Nat.le_refl _) W D _ _ (by omega) hK rfl rfl)⟩
      · simp [results, Try.f33, go_sem, hc6, hc7, hc8]
      · rw [find_pre hpre e2 e3]
        exact ⟨a', n', cap', rfl, hr8⟩
  · have hf : placedO size l d = none := by
      unfold placedO
      rw [if_neg (fun e => hgo ⟨e.1, e.2.1, by rw [← hlen.out]; exact e.2.2⟩)]
    rw [hf]
    have hcase : spaceOkB size l = false ∨ (spaceOkB size l = true ∧ dataOkB d = false) ∨ (spaceOkB size l = true ∧ dataOkB d = true ∧ n = 60) := by
      cases h1 : spaceOkB size l
      · exact .inl rfl
      · cases h2 : dataOkB d
        · exact .inr (.inl ⟨rfl, rfl⟩)
        · exact .inr (.inr ⟨rfl, rfl, Classical.byContradiction fun e => hgo ⟨h1, h2, e⟩⟩)
    clear hgo hf
    rcases hcase with hok | ⟨hok, hdo⟩ | ⟨hok, hdo, h60⟩
    · skip
      refine callsIn_of_wp_marks Try.func33 rfl trivial ?_ rfl
      simp only [Try.ntmps33, List.size_toArray, List.length_cons, List.length_nil, Nat.reduceAdd, Nat.reduceSub, Array.replicate_succ, Array.replicate_zero, List.push_toArray, List.append_toArray, List.nil_append, List.cons_append]
      gi_wp2_with (gi_at_call 41; refine (callsIn_wide.2 (impl_SpaceOk size _ n cap l _ (h.below (by go_grown)) hstr hn)).mono ?_; rintro e w1 ⟨rfl, hB1⟩; rw [hok]; obtain ⟨k0, k1, k2, k3, k4, hB1'⟩ := box5 hB1; clear hB1; have c0 := k0.cell; have c1 := k1.cell; have c2 := k2.cell; have f2 := k2.frozen; have c3 := k3.cell; have f3 := k3.frozen; have c4 := k4.cell; have f4 := k4.frozen)
      have hz := hB1'.size
      have q2 := ((k2.set (.slice none 0 0)).other (B' := w.heap.size + 1 + 1 + 1) (by omega) (.int .i64 0)).other (B' := w.heap.size + 1 + 1 + 1 + 1) (by omega) (.bool false)
      have q3 := ((k3.other (B' := w.heap.size + 1 + 1) (by omega) (.slice none 0 0)).set (.int .i64 0)).other (B' := w.heap.size + 1 + 1 + 1 + 1) (by omega) (.bool false)
      have q4 := ((k4.other (B' := w.heap.size + 1 + 1) (by omega) (.slice none 0 0)).other (B' := w.heap.size + 1 + 1 + 1) (by omega) (.int .i64 0)).set (.bool false)
      have hB4 := ((hB1'.setCell (p := ⟨w.heap.size + 1 + 1, 0, none⟩) (by simp; omega) (.slice none 0 0)).setCell (p := ⟨w.heap.size + 1 + 1 + 1, 0, none⟩) (by simp; omega) (.int .i64 0)).setCell (p := ⟨w.heap.size + 1 + 1 + 1 + 1, 0, none⟩) (by simp; omega) (.bool false)
      generalize ((w1.setCell ⟨w.heap.size + 1 + 1, 0, none⟩ (.slice none 0 0)).setCell ⟨w.heap.size + 1 + 1 + 1, 0, none⟩ (.int .i64 0)).setCell ⟨w.heap.size + 1 + 1 + 1 + 1, 0, none⟩ (.bool false) = W4 at *
      have hc6 := q2.cell
      have hc7 := q3.cell
      have hc8 := q4.cell
      exact ⟨.tuple #[.slice none 0 0, .int .i64 0, .bool false], by simp [results, Try.f33, go_sem, hc6, hc7, hc8], rfl, hB4⟩
    · skip
      refine callsIn_of_wp_marks Try.func33 rfl trivial ?_ rfl
      simp only [Try.ntmps33, List.size_toArray, List.length_cons, List.length_nil, Nat.reduceAdd, Nat.reduceSub, Array.replicate_succ, Array.replicate_zero, List.push_toArray, List.append_toArray, List.nil_append, List.cons_append]
      gi_wp2_with (first | (gi_at_call 41; refine (callsIn_wide.2 (impl_SpaceOk size _ n cap l _ (h.below (by go_grown)) hstr hn)).mono ?_; rintro e w1 ⟨rfl, hB1⟩; rw [hok]; obtain ⟨k0, k1, k2, k3, k4, hB1'⟩ := box5 hB1; clear hB1; have c0 := k0.cell; have c1 := k1.cell; have c2 := k2.cell; have f2 := k2.frozen; have c3 := k3.cell; have f3 := k3.frozen; have c4 := k4.cell; have f4 := k4.frozen) | (gi_at_call 113; refine (callsIn_wide.2 (impl_dataOk d _ hd)).mono ?_; rintro e w2 ⟨rfl, rfl⟩; rw [hdo]))
      have hz := hB1'.size
      have q2 := ((k2.set (.slice none 0 0)).other (B' := w.heap.size + 1 + 1 + 1) (by omega) (.int .i64 0)).other (B' := w.heap.size + 1 + 1 + 1 + 1) (by omega) (.bool false)
      have q3 := ((k3.other (B' := w.heap.size + 1 + 1) (by omega) (.slice none 0 0)).set (.int .i64 0)).other (B' := w.heap.size + 1 + 1 + 1 + 1) (by omega) (.bool false)
      have q4 := ((k4.other (B' := w.heap.size + 1 + 1) (by omega) (.slice none 0 0)).other (B' := w.heap.size + 1 + 1 + 1) (by omega) (.int .i64 0)).set (.bool false)
      have hB4 := ((hB1'.setCell (p := ⟨w.heap.size + 1 + 1, 0, none⟩) (by simp; omega) (.slice none 0 0)).setCell (p := ⟨w.heap.size + 1 + 1 + 1, 0, none⟩) (by simp; omega) (.int .i64 0)).setCell (p := ⟨w.heap.size + 1 + 1 + 1 + 1, 0, none⟩) (by simp; omega) (.bool false)
      generalize ((w2.setCell ⟨w.heap.size + 1 + 1, 0, none⟩ (.slice none 0 0)).setCell ⟨w.heap.size + 1 + 1 + 1, 0, none⟩ (.int .i64 0)).setCell ⟨w.heap.size + 1 + 1 + 1 + 1, 0, none⟩ (.bool false) = W4 at *
      have hc6 := q2.cell
      have hc7 := q3.cell
      have hc8 := q4.cell
      exact ⟨.tuple #[.slice none 0 0, .int .i64 0, .bool false], by simp [results, Try.f33, go_sem, hc6, hc7, hc8], rfl, hB4⟩
    · have h60' : ((n : Int) == 60) = true := by simp [h60]
      clear h60
      refine callsIn_of_wp_marks Try.func33 rfl trivial ?_ rfl
      simp only [Try.ntmps33, List.size_toArray, List.length_cons, List.length_nil, Nat.reduceAdd, Nat.reduceSub, Array.replicate_succ, Array.replicate_zero, List.push_toArray, List.append_toArray, List.nil_append, List.cons_append]
      gi_wp2_with (first | (gi_at_call 41; refine (callsIn_wide.2 (impl_SpaceOk size _ n cap l _ (h.below (by go_grown)) hstr hn)).mono ?_; rintro e w1 ⟨rfl, hB1⟩; rw [hok]; obtain ⟨k0, k1, k2, k3, k4, hB1'⟩ := box5 hB1; clear hB1; have c0 := k0.cell; have c1 := k1.cell; have c2 := k2.cell; have f2 := k2.frozen; have c3 := k3.cell; have f3 := k3.frozen; have c4 := k4.cell; have f4 := k4.frozen) | (gi_at_call 113; refine (callsIn_wide.2 (impl_dataOk d _ hd)).mono ?_; rintro e w2 ⟨rfl, rfl⟩; rw [hdo]))
      have hz := hB1'.size
      have q2 := ((k2.set (.slice none 0 0)).other (B' := w.heap.size + 1 + 1 + 1) (by omega) (.int .i64 0)).other (B' := w.heap.size + 1 + 1 + 1 + 1) (by omega) (.bool false)
      have q3 := ((k3.other (B' := w.heap.size + 1 + 1) (by omega) (.slice none 0 0)).set (.int .i64 0)).other (B' := w.heap.size + 1 + 1 + 1 + 1) (by omega) (.bool false)
      have q4 := ((k4.other (B' := w.heap.size + 1 + 1) (by omega) (.slice none 0 0)).other (B' := w.heap.size + 1 + 1 + 1) (by omega) (.int .i64 0)).set (.bool false)
      have hB4 := ((hB1'.setCell (p := ⟨w.heap.size + 1 + 1, 0, none⟩) (by simp; omega) (.slice none 0 0)).setCell (p := ⟨w.heap.size + 1 + 1 + 1, 0, none⟩) (by simp; omega) (.int .i64 0)).setCell (p := ⟨w.heap.size + 1 + 1 + 1 + 1, 0, none⟩) (by simp; omega) (.bool false)
      generalize ((w2.setCell ⟨w.heap.size + 1 + 1, 0, none⟩ (.slice none 0 0)).setCell ⟨w.heap.size + 1 + 1 + 1, 0, none⟩ (.int .i64 0)).setCell ⟨w.heap.size + 1 + 1 + 1 + 1, 0, none⟩ (.bool false) = W4 at *
      have hc6 := q2.cell
      have hc7 := q3.cell
      have hc8 := q4.cell
      exact ⟨.tuple #[.slice none 0 0, .int .i64 0, .bool false], by simp [results, Try.f33, go_sem, hc6, hc7, hc8], rfl, hB4⟩

theorem impl_Placed (size : Int) (b o n cap : Nat) (l : List Ex) (d : ByteArray) (w : World) (h : ExsAt w (some ⟨b, o, none⟩) n l) (hstr : Strs l) (hn : n ≤ 4194304) (hcap : n ≤ cap) (hc2 : cap ≤ 8388608) (hd : d.size ≤ 9223372036854775807) (hbw : b < w.heap.size) :
    Calls Try.prog 33 #[.int .i64 size, .slice (some ⟨b, o, none⟩) n cap, .string d] w fun e w' => RetPl w.heap.size e w' (placedO size l d) ∧ Below w.heap.size w w' :=
  callsIn_wide.1 (impl_Placed_in size b o n cap l d w h hstr hn hcap hc2 hd hbw)
end Go.Proofs.Ytbmkedickkpjjaa
