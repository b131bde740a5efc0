/- GapsOf of the program. -/
import Derived.Test.YtbmkedickkpjjaaGb
import Derived.Test.YtbmkedickkpjjaaApp2
import Derived.Maps.AppendAt
namespace Go.Proofs.Ytbmkedickkpjjaa
open Go.RowKit Go.Shelf

attribute [local go_sem] Oper.semAt_some

abbrev ics : Int → List Value := fun x => [Value.int .i64 x]
theorem infoI : (Try.prog.info? 2).map (fun i => (i.zero, i.size, i.bytes)) = some (some (.int .i64 0), 1, 8) := by kernel_rfl
theorem flat_ics (l : List Int) : l.flatMap ics = l.map (Value.int .i64) := by
  induction l with
  | nil => rfl
  | cons x r ih => simp [List.flatMap_cons, ih]

theorem Boxed.appended2 {W w1 : World} {base B : Nat} {t e : TypeId} {size : Nat} {v v' : Value} {k m : Nat} {xs ys : List Value} {tmp : Obj}
    (hv : Boxed W B t v) (hte : t ≠ e) (hrow : W.ownsRow base e size v k xs) (hown' : w1.ownsRow base e size v' m ys) (hgrow : (W.alloc tmp).grownBy w1 v.ownBlock) :
    Boxed w1 B t v ∧ Boxed (w1.setCell ⟨B, 0, none⟩ v') B t v' ∧ (w1.setCell ⟨B, 0, none⟩ v').ownsRow base e size v' m ys ∧ KeepsOthers W (w1.setCell ⟨B, 0, none⟩ v') ∧
      (∀ b c t', Blk W b c t' → t' ≠ e → t' ≠ t → Blk (w1.setCell ⟨B, 0, none⟩ v') b c t') ∧
      (∀ n₁, n₁ ≤ base → n₁ ≤ B → n₁ ≤ W.heap.size → Below n₁ W (w1.setCell ⟨B, 0, none⟩ v')) ∧
      (∀ s u, s < base → s ≠ B → W.cell? ⟨s, 0, none⟩ = some u → (w1.setCell ⟨B, 0, none⟩ v').cell? ⟨s, 0, none⟩ = some u) := by
  have hv1 : Boxed w1 B t v := (hv.alloc tmp).kept hgrow (hv.not_row hte hrow)
  have hlow : ∀ j, v.ownBlock = some j → base ≤ j := by
    intro j ej
    rcases hrow.2 with ⟨rfl, _⟩ | ⟨g, cap, cur, rfl, hb, _, _⟩
    · simp [Value.ownBlock] at ej
    · obtain rfl : g = j := by simpa [Value.ownBlock] using ej
      exact hb
  refine ⟨hv1, hv1.set v', hown'.kept (grownBy_setCell' w1 B v') (.inr (hv1.not_row hte hown').symm), ?_, ?_, ?_, ?_⟩
  · refine ((KeepsOthers.alloc W tmp).trans (KeepsOthers.of_grownBy hgrow fun j o ej hj => ?_)).trans (KeepsOthers.setCell _ _ _)
    rcases (hrow.alloc tmp).2 with ⟨rfl, _⟩ | ⟨g, cap, cur, rfl, _, hgb, _⟩
    · simp [Value.ownBlock] at ej
    · obtain rfl : g = j := by simpa [Value.ownBlock] using ej
      rw [hgb] at hj; cases hj; rfl
  · intro b c t' hb h1 h2
    have hne : some b ≠ v.ownBlock := by
      intro e'
      rcases hrow.2 with ⟨rfl, _⟩ | ⟨g, cap, cur, rfl, _, hgb, _⟩
      · simp [Value.ownBlock] at e'
      · obtain rfl : b = g := by simpa [Value.ownBlock] using e'
        have := (show W.heap[b]? = _ from hb).symm.trans hgb
        simp at this
        exact h1 this.2
    have hb1 : Blk w1 b c t' := by
      have hb0 := hb.alloc tmp
      show w1.heap[b]? = _
      rw [hgrow.block b hb0.lt hne]; exact hb0
    refine hb1.grown (grownBy_setCell' w1 B v') (fun e' => ?_)
    subst e'
    have := (show w1.heap[b]? = _ from hb1).symm.trans hv1
    simp at this
    exact h2 this.2
  · intro n₁ h1 h2 h3
    exact (((Below.refl n₁ W).alloc h3 tmp).grown hgrow (by simp; omega) fun j ej => Nat.le_trans h1 (hlow j ej)).setCell (p := ⟨B, 0, none⟩) h2 v'
  · intro s u hs hsB hc
    have hc1 : w1.cell? ⟨s, 0, none⟩ = some u := hgrow.cell (acell tmp hc) (fun e' => by have := hlow s e'.symm; omega)
    exact (grownBy_setCell' w1 B v').cell hc1 (by simpa using hsB)

theorem own_mono {W : World} {b b' : Nat} {e : TypeId} {size : Nat} {v : Value} {k : Nat} {xs : List Value} (hb : b ≤ b') (h : W.ownsRow b' e size v k xs) : W.ownsRow b e size v k xs :=
  ⟨h.1, h.2.imp id (fun ⟨g, cap, cur, e1, e2, r⟩ => ⟨g, cap, cur, e1, Nat.le_trans hb e2, r⟩)⟩

def gapsV (size : Int) (l : List Ex) : List Int := if spaceOkB size l = true then (ggo size 1 l).map (·.2) else []

set_option maxRecDepth 100000 in
set_option maxHeartbeats 4000000 in
theorem impl_GapsOf_in (size : Int) (a : Option Addr) (n cap : Nat) (l : List Ex) (w : World) (h : ExsAt w a n l) (hstr : Strs l) (hn : n ≤ 4194304) (hl : ∀ ad, 0 < n → a = some ad → ad.block < w.heap.size) :
    CallsIn Fence.wide 5 Try.prog 35 #[.int .i64 size, .slice a n cap] w fun e W' => (∃ v, e = .returned v ∧ W'.ownsRow w.heap.size 2 1 v (gapsV size l).length ((gapsV size l).map (Value.int .i64))) ∧ Below w.heap.size w W' := by
  have f41 : Fence.wide.fn 41 := trivial
  have f114 : Fence.wide.fn 114 := trivial
  obtain ⟨i0, hi, hz0, hz1, hz2⟩ := info_parts infoI
  cases hok : spaceOkB size l
  · have hf : gapsV size l = [] := by simp [gapsV, hok]
    rw [hf]
    refine callsIn_of_wp_marks Try.func35 rfl trivial ?_ rfl
    simp only [Try.ntmps35, List.size_toArray, List.length_cons, List.length_nil, Nat.reduceAdd, Nat.reduceSub, Array.replicate_succ, Array.replicate_zero, List.push_toArray, List.append_toArray, List.nil_append, List.cons_append]
    gi_wp2_with (gi_at_call 41; refine (callsIn_wide.2 (impl_SpaceOk size a n cap l _ h hstr hn)).mono ?_; rintro e w1 ⟨rfl, hB1⟩; rw [hok])
    exact ⟨_, results_tmp rfl _ _ _, ⟨_, rfl, World.ownsRow_nil _ _ _ _⟩, hB1⟩
  · have hf : gapsV size l = (ggo size 1 l).map (·.2) := by simp [gapsV, hok]
    rw [hf]
    refine callsIn_of_wp_marks Try.func35 rfl trivial ?_ rfl
    simp only [Try.ntmps35, List.size_toArray, List.length_cons, List.length_nil, Nat.reduceAdd, Nat.reduceSub, Array.replicate_succ, Array.replicate_zero, List.push_toArray, List.append_toArray, List.nil_append, List.cons_append]
    gi_wp2_with (first | (gi_at_call 41; refine (callsIn_wide.2 (impl_SpaceOk size a n cap l _ h hstr hn)).mono ?_; rintro e w1 ⟨rfl, hB1⟩; rw [hok]) | (gi_at_call 114; refine (gaps_in _ size a n cap _).mono ?_; rintro e w2 ⟨rfl, rfl⟩))
    obtain ⟨hs1, hs2, hln, hxg⟩ := ok_parts hok
    have hlen := h.len
    have hz := hB1.size
    have hB0 : Below w.heap.size w (((w1.alloc (.cells #[.slice none 0 0] 29)).alloc (.cells #[.int .i64 size] 2)).alloc (.cells #[.slice a n cap] 24)) := ((hB1.alloc hz _).alloc (by simp; omega) _).alloc (by simp; omega) _
    have bR : Boxed (((w1.alloc (.cells #[.slice none 0 0] 29)).alloc (.cells #[.int .i64 size] 2)).alloc (.cells #[.slice a n cap] 24)) w1.heap.size 29 (.slice none 0 0) := ((Boxed.new w1 29 _).alloc _).alloc _
    have bS : Boxed (((w1.alloc (.cells #[.slice none 0 0] 29)).alloc (.cells #[.int .i64 size] 2)).alloc (.cells #[.slice a n cap] 24)) (w1.heap.size + 1) 2 (.int .i64 size) := by
      have := (Boxed.new (w1.alloc (.cells #[.slice none 0 0] 29)) 2 (.int .i64 size)).alloc (.cells #[.slice a n cap] 24)
      simpa using this
    have bL : Boxed (((w1.alloc (.cells #[.slice none 0 0] 29)).alloc (.cells #[.int .i64 size] 2)).alloc (.cells #[.slice a n cap] 24)) (w1.heap.size + 1 + 1) 24 (.slice a n cap) := by
      have := Boxed.new ((w1.alloc (.cells #[.slice none 0 0] 29)).alloc (.cells #[.int .i64 size] 2)) 24 (.slice a n cap)
      simpa using this
    have hszW : (((w1.alloc (.cells #[.slice none 0 0] 29)).alloc (.cells #[.int .i64 size] 2)).alloc (.cells #[.slice a n cap] 24)).heap.size = w1.heap.size + 1 + 1 + 1 := by simp
    generalize ((w1.alloc (.cells #[.slice none 0 0] 29)).alloc (.cells #[.int .i64 size] 2)).alloc (.cells #[.slice a n cap] 24) = W0 at *
    refine wpIn_rangeFunc_ownF rfl (by omega) (gf := 164) (lb := #[.pointer (some ⟨w1.heap.size + 1 + 1, 0, none⟩), .pointer (some ⟨w1.heap.size + 1, 0, none⟩)]) rfl trivial (enters_of Try.func164 (by kernel_rfl) rfl)
      (gaps_stops (5 - 1) (by omega) (w1.heap.size + 1 + 1) (w1.heap.size + 1) w.heap.size size a n cap l W0 (by omega) bL.cell bS.cell ⟨h.below hB0, hl⟩ hxg hs1 hs2 (by omega)) KpG.t (KpG.b (by omega) (by omega)) (Below.refl _ _) (fun _ => rfl)
      (fun pre W => (∃ v, Boxed W w1.heap.size 29 v ∧ W.ownsRow W0.heap.size 2 1 v pre.length (pre.map (fun x => Value.int .i64 x.2)) ∧ True) ∧ W0.heap.size ≤ W.heap.size ∧ Below w.heap.size w W)
      (fun _ _ _ => False)
      (OwnFrom.and (Own.from (holdsRow_own W0.heap.size w1.heap.size 29 2 1 (fun pre : List (Int × Int) => pre.length) (fun pre => pre.map (fun x => Value.int .i64 x.2)) (fun _ _ => True)) _) (OwnFrom.and (fun _ _ _ _ hs hg _ => Nat.le_trans hs hg.size) (ownFrom_below (Nat.le_refl _) (by omega))))
      (fun _ _ _ _ _ hs _ _ => hs)
      ⟨⟨_, bR, World.ownsRow_nil _ _ _ _, trivial⟩, Nat.le_refl _, hB0⟩
      (fun x => { tmps := #[.int .i64 size, .slice a n cap, undef, undef, .slice none 0 0, .pointer (some ⟨w1.heap.size, 0, none⟩), undef, .int .i64 x.2, .int .i64 size, .slice a n cap, .bool true, .bool false, .int .i64 size, .slice a n cap, .func (.func 164) #[] #[.pointer (some ⟨w1.heap.size + 1 + 1, 0, none⟩), .pointer (some ⟨w1.heap.size + 1, 0, none⟩)], .int .i64 x.1, .int .i64 x.2, undef, undef, undef, undef, undef], defers := [] }) ?assign ?body ?done ?stop
    case assign =>
      intro l x W K hK
      gi_wp2
      exact hK
    case body =>
      rintro l pre x W ⟨⟨v, hv, hrow, _⟩, hszB, hB⟩ hlt
      have hc := hv.cell
      gi_wp2_with (gi_at_builtin; refine wpListIn_append_own _ rfl _ _ 29 rfl W0.heap.size 2 i0 (.int .i64 0) 1 8 Try.underlying29 hi hz0 hz1 hz2 rfl (by decide) _ _ _ rfl (hrow.alloc _) ⟨W.heap.size, 0, none⟩ 1 1 [.int .i64 x.2] rfl rfl (cell_one_new _ _ _) (by simp [Value.oneCell']) (by unfold maxLen; omega) (by omega) (by simp; omega) ?_; intro v' w3 hown' hgrow _; obtain ⟨g', cap', rfl⟩ := ownsRow_succ hown'; obtain ⟨hv1, hv2, hr2, hk2, hb2, hbl2, hs2⟩ := Boxed.appended2 hv (by decide) hrow hown' hgrow; have hc1 := hv1.cell; have hf1 := hv1.frozen)
      have hbl := hbl2 w.heap.size (by omega) hz (by omega)
      exact ⟨hk2, ⟨hbl, fun b c hb => hb2 b c _ hb (by decide) (by decide), fun u hu => hs2 _ u (by omega) (by omega) hu⟩, ⟨_, hv2, by simpa using hr2, trivial⟩, Nat.le_trans hszB hbl.size, hB.trans hbl⟩
    case done =>
      rintro D ys W hD rfl ⟨⟨v, hv, hrow, _⟩, _, hB⟩ hK
      have hc := hv.cell
      gi_wp2
      refine ⟨by simp, .inl ⟨_, _, rfl, run_takeDeferred hK, ?_⟩⟩
      refine ⟨_, results_tmp rfl _ _ _, ⟨v, rfl, ?_⟩, hB.trans (belowK_b (w := w) (Nat.le_refl _) W D _ _ (by omega) hK rfl rfl)⟩
      have := ownsRow_putObj hrow (.deferred none) hK rfl
      simpa [List.map_map, Function.comp_def] using own_mono (by omega : w.heap.size ≤ W0.heap.size) this
    case stop =>
      rintro D c pre W _ _ h _
      exact h.elim

theorem impl_GapsOf (size : Int) (a : Option Addr) (n cap : Nat) (l : List Ex) (w : World) (h : ExsAt w a n l) (hstr : Strs l) (hn : n ≤ 4194304) (hl : ∀ ad, 0 < n → a = some ad → ad.block < w.heap.size) :
    Calls Try.prog 35 #[.int .i64 size, .slice a n cap] w fun e W' => (∃ a' n' cap', e = .returned (.slice a' n' cap') ∧ ResAt ics 1 2 W' w.heap.size a' n' cap' (gapsV size l)) ∧ Below w.heap.size w W' :=
  (callsIn_wide.1 (impl_GapsOf_in size a n cap l w h hstr hn hl)).mono fun e W' ⟨⟨v, he, ho⟩, hB⟩ => by
    have ho' : W'.ownsRow w.heap.size 2 1 v (gapsV size l).length ((gapsV size l).flatMap ics) := by rw [flat_ics]; exact ho
    obtain ⟨a', cap', rfl, hr⟩ := res_of_row ics_len rfl ho'
    exact ⟨⟨a', _, cap', he, hr⟩, hB⟩
end Go.Proofs.Ytbmkedickkpjjaa
