/- The model's l2Add. -/
import Derived.Test.YtbmkedickkpjjaaProg
import Derived.Test.YtbmkedickkpjjaaRd
import Derived.Test.YtbmkedickkpjjaaApp2
namespace Go.Proofs.Ytbmkedickkpjjaa
open Go.RowKit Go.BigFrame

/-- l2Add, as a plain function. -/
def addL (l : List Pt) (p : Pt) : List Pt :=
  match l.getLast? with
  | none => [p]
  | some q => if goesOnB q p then l.dropLast ++ [⟨q.a, q.f, wrap64 (q.n + p.n)⟩] else l ++ [p]

/-- A slice value as Go has it. -/
structure ArgOk (a : Option Addr) (cap : Nat) : Prop where
  spot : ∀ ad, a = some ad → ad.spot = none
  nil : a = none → cap = 0

theorem ResAt.arg {α : Type} {cs : α → List Value} {sz : Nat} {t : TypeId} {w : World} {B n cap : Nat} {a : Option Addr} {l : List α} (h : ResAt cs sz t w B a n cap l) : ArgOk a cap := by
  rcases h.own with ⟨rfl, _, rfl⟩ | ⟨b, rfl, _⟩
  · exact ⟨fun ad h => (by cases h), fun _ => rfl⟩
  · exact ⟨fun ad h => (by cases h; rfl), fun h => (by cases h)⟩
theorem arg_own (b cap : Nat) : ArgOk (some ⟨b, 0, none⟩) cap := ⟨fun ad h => (by cases h; rfl), fun h => (by cases h)⟩

set_option maxHeartbeats 2000000 in
set_option maxRecDepth 100000 in
theorem spec_l2Add (a : Option Addr) (n cap : Nat) (l : List Pt) (p : Pt) (w : World) (h : PtsAt w a n l) (hn : n ≤ 4194304) (ha : ArgOk a cap) :
    Calls Try.prog 166 #[.slice a n cap, .agg #[.int .i64 p.a, .int .i64 p.f, .int .i64 p.n]] w fun e w' => (∃ a' n' cap', e = .returned (.slice a' n' cap') ∧ ResAt Pt.cs 3 131 w' w.heap.size a' n' cap' (addL l p)) ∧ Below w.heap.size w w' := by
  have hlen := h.len
  obtain ⟨i0, hi, hz0, hz1, hz2⟩ := info_parts infoP
  have x0 : (w.alloc (.cells #[.int .i64 p.a, .int .i64 p.f, .int .i64 p.n] 131)).cell? ⟨w.heap.size, 0, none⟩ = some (.int .i64 p.a) := by simp
  have x1 : (w.alloc (.cells #[.int .i64 p.a, .int .i64 p.f, .int .i64 p.n] 131)).cell? ⟨w.heap.size, 1, none⟩ = some (.int .i64 p.f) := by simp
  have x2 : (w.alloc (.cells #[.int .i64 p.a, .int .i64 p.f, .int .i64 p.n] 131)).cell? ⟨w.heap.size, 2, none⟩ = some (.int .i64 p.n) := by simp
  have hB1 : Below w.heap.size w (w.alloc (.cells #[.int .i64 p.a, .int .i64 p.f, .int .i64 p.n] 131)) := (Below.refl _ _).alloc (Nat.le_refl _) _
  rcases List.eq_nil_or_concat l with hL | ⟨L', q, hL⟩
  · have hr : Hid (addL l p = [] ++ l ++ [p]) := by show _ = _; rw [hL]; rfl
    obtain rfl : n = 0 := by rw [← hlen, hL]; rfl
    go_enter Try.func166, Try.ntmps166
    go_wp2_with fail
    go_quiet (fail)
    replace x0 := bcell (drewNB _ nq) x0
    replace x1 := bcell (drewNB _ nq) x1
    replace x2 := bcell (drewNB _ nq) x2
    have hB6 := chain hB1 (drewNB _ nq)
    clear hB1
    generalize (w.alloc (.cells #[.int .i64 p.a, .int .i64 p.f, .int .i64 p.n] 131)).drewN nq = W6 at *
    have h6 := h.below hB6
    have hs6 := hB6.size
    go_wp2_with fail
    have hlt6 : w.heap.size < W6.heap.size := World.block_lt_of_cell? W6 ⟨w.heap.size, 0, none⟩ x0
    go_region_held3 (fun u => u.cell? ⟨w.heap.size, 0, none⟩ = some (.int .i64 p.a) ∧ u.cell? ⟨w.heap.size, 1, none⟩ = some (.int .i64 p.f) ∧ u.cell? ⟨w.heap.size, 2, none⟩ = some (.int .i64 p.n)) (go_keep) (first | (refine step_app rfl (wp_app _ _ 39 rfl (w.heap.size + 1) 131 i0 (.agg #[.int .i64 0, .int .i64 0, .int .i64 0]) 24 Try.underlying39 hi hz0 hz1 hz2 rfl (by decide) pcs_len pcs_one _ 0 0 [] rfl (res_empty (by first | exact (Blk.new' _ _ _ _ (by simp)).drew | exact ((Blk.new' _ _ _ _ (by simp)).alloc _).drew) (by first | omega | (simp; omega))) a 0 cap l rfl (h6.below (by go_grown)) ha.spot ha.nil 0 (Nat.zero_add _) (by unfold maxLen; omega) (by omega) (by first | omega | (simp; omega)) ?_); intro a1 cap1 w1 hr1 hg1; have z0 := hg1.cell (a := ⟨w.heap.size, 0, none⟩) (by first | exact acell _ x0 | exact acell _ (acell _ x0)) (by simp [Value.ownBlock]; omega); have z1 := hg1.cell (a := ⟨w.heap.size, 1, none⟩) (by first | exact acell _ x1 | exact acell _ (acell _ x1)) (by simp [Value.ownBlock]; omega); have z2 := hg1.cell (a := ⟨w.heap.size, 2, none⟩) (by first | exact acell _ x2 | exact acell _ (acell _ x2)) (by simp [Value.ownBlock]; omega)) | (refine step_app rfl (wp_app _ _ 39 rfl (w.heap.size + 1) 131 i0 (.agg #[.int .i64 0, .int .i64 0, .int .i64 0]) 24 Try.underlying39 hi hz0 hz1 hz2 rfl (by decide) pcs_len pcs_one a1 0 cap1 ([] ++ l) rfl (by first | exact hr1 | exact hr1.alloc _) _ 1 1 [p] rfl (by first | exact sl_new' _ p _ _ (by simp) | (refine SlAt.grown (r := W6.heap.size) (sl_new' _ p _ _ (by simp)).drew hg1 ?_; intro ad h; cases h; first | (simp; done) | (simp; omega) | omega) | (refine SlAt.grown (r := W6.heap.size + 1) ((sl_new' _ p _ _ (by simp)).alloc _).drew hg1 ?_; intro ad h; cases h; first | (simp; done) | (simp; omega) | omega)) (fun ad h => (by cases h; rfl)) (fun h => (by cases h)) (0 + 1) rfl (by unfold maxLen; omega) (by omega) (by have := hg1.size; simp at this; first | omega | (simp; omega)) ?_); intro a2 cap2 w2 hr2 hg2; have y0 := hg2.cell (a := ⟨w.heap.size, 0, none⟩) (by first | exact z0 | exact acell _ z0) (own_ne fun ad h => (hr1.block ad h).1); have y1 := hg2.cell (a := ⟨w.heap.size, 1, none⟩) (by first | exact z1 | exact acell _ z1) (own_ne fun ad h => (hr1.block ad h).1); have y2 := hg2.cell (a := ⟨w.heap.size, 2, none⟩) (by first | exact z2 | exact acell _ z2) (own_ne fun ad h => (hr1.block ad h).1)))
    all_goals
      have hb1 : Below w.heap.size w w1 := Below.grown (by go_grown) hg1 (by first | omega | (simp; omega)) (fun k e => by simp [Value.ownBlock] at e; omega)
      have hb2 : Below w.heap.size w w2 := Below.grown (by first | exact hb1 | exact hb1.alloc hb1.size _) hg2 (by have := hb1.size; first | omega | (simp; omega)) (own_ge fun ad h => by have := (hr1.block ad h).1; omega)
      have hr3 : ResAt Pt.cs 3 131 w2 w.heap.size a2 (0 + 1) cap2 (addL l p) := by rw [hr.out]; exact hr2.mono (by omega)
      go_wp2
      go_returns
      exact ⟨⟨a2, _, cap2, rfl, hr3⟩, hb2⟩
  · -- there is a last part
    have hLl : l.length = L'.length + 1 := by rw [hL]; simp
    have hq : l[L'.length]? = some q := by rw [hL]; simp
    have hlast : l.getLast? = some q := by rw [hL]; simp
    have hdl : l.dropLast = L' := by rw [hL]; simp
    obtain ⟨j, rfl⟩ : ∃ j, n = j + 1 := ⟨L'.length, by omega⟩
    have hjl : L'.length = j := by omega
    rw [hjl] at hq
    obtain ⟨b, o, q', rfl, hq', d0, d1, d2⟩ := pts_at (h.below hB1) (k := j) (by omega)
    obtain rfl : q = q' := by rw [hq] at hq'; exact Option.some.inj hq'
    have hw1 : wrap64 ((j : Int) + 1 - 1) = (j : Int) := by unfold wrap64; omega
    have hj0 : (0 : Int) ≤ (j : Int) := by omega
    have hj1 : (j : Int) < (j : Int) + 1 := by omega
    have g0 := gcell d0
    have g1 := gcell d1
    have g2 := gcell d2
    have g3 := gcell x0
    have g4 := gcell x1
    have g5 := gcell x2
    have hne := grw_ne (w.alloc (.cells #[.int .i64 p.a, .int .i64 p.f, .int .i64 p.n] 131))
    cases hgo : goesOnB q p
    all_goals
      go_enter Try.func166, Try.ntmps166
      go_wp2_with fail
      refine wp_region_grow (by kernel_rfl) (by kernel_rfl) ?_
      repeat (go_big_quiet_step (first | (go_at_call 154; have qq := spec_l2Next q p; rw [hgo] at qq; exact grow_of (qq _))))
      refine wpQuiet_nil ?_
      intro W6 hx
      have hBx := grw_out hx
      clear hx g0 g1 g2 g3 g4 g5 hne
      replace x0 := bcell hBx x0
      replace x1 := bcell hBx x1
      replace x2 := bcell hBx x2
      replace d0 := bcell hBx d0
      replace d1 := bcell hBx d1
      replace d2 := bcell hBx d2
      have hB6 := chain hB1 hBx
      clear hB1 hBx
      have h6 := h.below hB6
      have hs6 := hB6.size
      have hlt6 : w.heap.size < W6.heap.size := World.block_lt_of_cell? W6 ⟨w.heap.size, 0, none⟩ x0
    · have hr : Hid (addL l p = [] ++ l ++ [p]) := by show _ = _; simp [addL, hlast, hgo]
      go_wp2_with fail
      go_region_held3 (fun u => u.cell? ⟨w.heap.size, 0, none⟩ = some (.int .i64 p.a) ∧ u.cell? ⟨w.heap.size, 1, none⟩ = some (.int .i64 p.f) ∧ u.cell? ⟨w.heap.size, 2, none⟩ = some (.int .i64 p.n)) (go_keep) (first | (refine step_app rfl (wp_app _ _ 39 rfl (w.heap.size + 1) 131 i0 (.agg #[.int .i64 0, .int .i64 0, .int .i64 0]) 24 Try.underlying39 hi hz0 hz1 hz2 rfl (by decide) pcs_len pcs_one _ 0 0 [] rfl (res_empty (by first | exact (Blk.new' _ _ _ _ (by simp)).drew | exact ((Blk.new' _ _ _ _ (by simp)).alloc _).drew) (by first | omega | (simp; omega))) (some ⟨b, o, none⟩) (j + 1) cap l rfl (h6.below (by go_grown)) ha.spot ha.nil (j + 1) (Nat.zero_add _) (by unfold maxLen; omega) (by omega) (by first | omega | (simp; omega)) ?_); intro a1 cap1 w1 hr1 hg1; have z0 := hg1.cell (a := ⟨w.heap.size, 0, none⟩) (by first | exact acell _ x0 | exact acell _ (acell _ x0)) (by simp [Value.ownBlock]; omega); have z1 := hg1.cell (a := ⟨w.heap.size, 1, none⟩) (by first | exact acell _ x1 | exact acell _ (acell _ x1)) (by simp [Value.ownBlock]; omega); have z2 := hg1.cell (a := ⟨w.heap.size, 2, none⟩) (by first | exact acell _ x2 | exact acell _ (acell _ x2)) (by simp [Value.ownBlock]; omega)) | (refine step_app rfl (wp_app _ _ 39 rfl (w.heap.size + 1) 131 i0 (.agg #[.int .i64 0, .int .i64 0, .int .i64 0]) 24 Try.underlying39 hi hz0 hz1 hz2 rfl (by decide) pcs_len pcs_one a1 (j + 1) cap1 ([] ++ l) rfl (by first | exact hr1 | exact hr1.alloc _) _ 1 1 [p] rfl (by first | exact sl_new' _ p _ _ (by simp) | (refine SlAt.grown (r := W6.heap.size) (sl_new' _ p _ _ (by simp)).drew hg1 ?_; intro ad h; cases h; first | (simp; done) | (simp; omega) | omega) | (refine SlAt.grown (r := W6.heap.size + 1) ((sl_new' _ p _ _ (by simp)).alloc _).drew hg1 ?_; intro ad h; cases h; first | (simp; done) | (simp; omega) | omega)) (fun ad h => (by cases h; rfl)) (fun h => (by cases h)) (j + 1 + 1) rfl (by unfold maxLen; omega) (by omega) (by have := hg1.size; simp at this; first | omega | (simp; omega)) ?_); intro a2 cap2 w2 hr2 hg2; have y0 := hg2.cell (a := ⟨w.heap.size, 0, none⟩) (by first | exact z0 | exact acell _ z0) (own_ne fun ad h => (hr1.block ad h).1); have y1 := hg2.cell (a := ⟨w.heap.size, 1, none⟩) (by first | exact z1 | exact acell _ z1) (own_ne fun ad h => (hr1.block ad h).1); have y2 := hg2.cell (a := ⟨w.heap.size, 2, none⟩) (by first | exact z2 | exact acell _ z2) (own_ne fun ad h => (hr1.block ad h).1)))
      all_goals
        have hb1 : Below w.heap.size w w1 := Below.grown (by go_grown) hg1 (by first | omega | (simp; omega)) (fun k e => by simp [Value.ownBlock] at e; omega)
        have hb2 : Below w.heap.size w w2 := Below.grown (by first | exact hb1 | exact hb1.alloc hb1.size _) hg2 (by have := hb1.size; first | omega | (simp; omega)) (own_ge fun ad h => by have := (hr1.block ad h).1; omega)
        have hr3 : ResAt Pt.cs 3 131 w2 w.heap.size a2 (j + 1 + 1) cap2 (addL l p) := by rw [hr.out]; exact hr2.mono (by omega)
        go_wp2
        go_returns
        exact ⟨⟨a2, _, cap2, rfl, hr3⟩, hb2⟩
    · have hr : Hid (addL l p = l.dropLast ++ [⟨q.a, q.f, wrap64 (q.n + p.n)⟩]) := by show _ = _; simp [addL, hlast, hgo]
      go_wp2_with (at_builtin; refine wpList_app rfl (fun K hK => wp_app _ _ 39 rfl (w.heap.size + 1) 131 i0 (.agg #[.int .i64 0, .int .i64 0, .int .i64 0]) 24 Try.underlying39 hi hz0 hz1 hz2 rfl (by decide) pcs_len pcs_one _ 0 0 [] rfl (res_empty (Blk.new' _ _ _ _ (by simp)) (by omega)) (some ⟨b, o, none⟩) (j + 1) cap l rfl (h6.below (by go_grown)) ha.spot ha.nil (j + 1) (Nat.zero_add _) (by unfold maxLen; omega) (by omega) (by simp; omega) (fun a1 cap1 w1 hr1 hg1 => hK _ _ ?_)))
      have hb1 : Below w.heap.size w w1 := Below.grown (by go_grown) hg1 (by simp; omega) (fun k e => by simp [Value.ownBlock] at e; omega)
      rcases hr1.own with ⟨_, h0, _⟩ | ⟨g, rfl, hgB, hgc, hgm, c, hgb, hgs, hgt⟩
      · exact absurd h0 (by omega)
      have z2 := hg1.cell (a := ⟨w.heap.size, 2, none⟩) (acell _ x2) (by simp [Value.ownBlock]; omega)
      obtain ⟨b', o', q', hbo, hq', e0, e1, e2⟩ := pts_at hr1.sl (k := j) (by omega)
      obtain ⟨rfl, rfl⟩ : g = b' ∧ 0 = o' := by simpa using hbo
      obtain rfl : q = q' := by simp only [List.nil_append] at hq'; rw [hq] at hq'; exact Option.some.inj hq'
      simp only [Nat.zero_add] at e0 e1 e2
      have f2 := hgb.frozen (j * 3 + 2)
      clear hbo
      refine wp_region_tail 12 (by kernel_rfl) (by kernel_rfl) ?_
      simp only [List.take_succ_cons, List.take_zero, List.drop_succ_cons, List.drop_zero]
      repeat still_step
      refine wpStill_nil ?_
      go_wp2
      go_returns
      go_light
      refine ⟨⟨some ⟨g, 0, none⟩, j + 1, cap1, rfl, ?_⟩, ((hb1.setCell (by show w.heap.size ≤ g; omega) _).drew)⟩
      rw [hr.out, hdl]
      have hfl : (L'.flatMap Pt.cs).length = j * 3 := by rw [flat_len pcs_len, hjl]
      have htk : (c.setIfInBounds (j * 3 + 2) (.int .i64 (wrap64 (q.n + p.n)))).toList.take ((j + 1) * 3) = (L' ++ [(⟨q.a, q.f, wrap64 (q.n + p.n)⟩ : Pt)]).flatMap Pt.cs := by
        rw [Array.toList_setIfInBounds, List.take_set, hgt, hL, List.nil_append, List.concat_eq_append, List.flatMap_append, List.flatMap_append, List.set_append_right _ _ (by omega), hfl]
        simp [Pt.cs]
      obtain ⟨a2, cap2, hv, hres⟩ := res_of_row (w := (w1.setCell ⟨g, j * 3 + 2, none⟩ (.int .i64 (wrap64 (q.n + p.n)))).drew) (B := w.heap.size) (t := 131) (n := j + 1) (v := .slice (some ⟨g, 0, none⟩) (j + 1) cap1) (l := L' ++ [(⟨q.a, q.f, wrap64 (q.n + p.n)⟩ : Pt)]) pcs_len (by simp [hjl])
        ⟨by rw [flat_len pcs_len]; simp [hjl], .inr ⟨g, cap1, _, rfl, by omega, (hgb.set _ _).drew, hgc, hgm, by simp [hgs], htk⟩⟩
      cases hv
      exact hres
end Go.Proofs.Ytbmkedickkpjjaa
