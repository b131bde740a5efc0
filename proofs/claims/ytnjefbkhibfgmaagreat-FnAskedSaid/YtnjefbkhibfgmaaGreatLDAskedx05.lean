/- The model's l2Add. -/
import Derived.Test.YtnjefbkhibfgmaaGreatProg
import Derived.Test.YtnjefbkhibfgmaaGreatLDAskedx02
import Derived.Test.YtnjefbkhibfgmaaGreatLDAskedx04
namespace Go.Proofs.YtnjefbkhibfgmaaGreat
open Go.RowKit Go.BigFrame
def addL (l : List Pt) (p : Pt) : List Pt :=
  match l.getLast? with
  | none => [p]
  | some q => if goesOnB q p then l.dropLast ++ [⟨q.a, q.f, wrap64 (q.n + p.n)⟩] else l ++ [p]
structure ArgOk (a : Option Addr) (cap : Nat) : Prop where
  spot : ∀ ad, a = some ad → ad.spot = none
  nil : a = none → cap = 0
theorem ResAt.arg {α : Type} {cs : α → List Value} {sz : Nat} {t : TypeId} {w : World} {B n cap : Nat} {a : Option Addr} {l : List α} (h : ResAt cs sz t w B a n cap l) : ArgOk a cap := by
  rcases h.own with ⟨rfl, _, rfl⟩ | ⟨b, rfl, _⟩
  · exact ⟨fun ad h => (by cases h), fun _ => rfl⟩
  · exact ⟨fun ad h => (by cases h; rfl), fun h => (by cases h)⟩
theorem arg_own (b cap : Nat) : ArgOk (some ⟨b, 0, none⟩) cap := ⟨fun ad h => (by cases h; rfl), fun h => (by cases h)⟩
set_option maxHeartbeats 2000000 in
set_option maxRecDepth 100000 in
theorem spec_l2Add (a : Option Addr) (n cap : Nat) (l : List Pt) (p : Pt) (w : World) (h : PtsAt w a n l) (hn : n ≤ 4194304) (ha : ArgOk a cap) :
    Calls Tryz.prog 133 #[.slice a n cap, .agg #[.int .i64 p.a, .int .i64 p.f, .int .i64 p.n]] w fun e w' => (∃ a' n' cap', e = .returned (.slice a' n' cap') ∧ ResAt Pt.cs 3 46 w' w.heap.size a' n' cap' (addL l p)) ∧ Below w.heap.size w w' := by
  have hlen := h.len
  obtain ⟨i0, hi, hz0, hz1, hz2⟩ := info_parts infoP
  have x0 : (w.alloc (.cells #[.int .i64 p.a, .int .i64 p.f, .int .i64 p.n] 46)).cell? ⟨w.heap.size, 0, none⟩ = some (.int .i64 p.a) := by simp
  have x1 : (w.alloc (.cells #[.int .i64 p.a, .int .i64 p.f, .int .i64 p.n] 46)).cell? ⟨w.heap.size, 1, none⟩ = some (.int .i64 p.f) := by simp
  have x2 : (w.alloc (.cells #[.int .i64 p.a, .int .i64 p.f, .int .i64 p.n] 46)).cell? ⟨w.heap.size, 2, none⟩ = some (.int .i64 p.n) := by simp
  have hB1 : Below w.heap.size w (w.alloc (.cells #[.int .i64 p.a, .int .i64 p.f, .int .i64 p.n] 46)) := (Below.refl _ _).alloc (Nat.le_refl _) _
  rcases List.eq_nil_or_concat l with hL | ⟨L', q, hL⟩
  · have hr : Hid (addL l p = [] ++ l ++ [p]) := by show _ = _; rw [hL]; rfl
    obtain rfl : n = 0 := by rw [← hlen, hL]; rfl
    go_enter Tryz.func133, Tryz.ntmps133
    go_wp2_with fail
    go_quiet (fail)
    replace x0 := bcell (drewNB _ nq) x0
    replace x1 := bcell (drewNB _ nq) x1
    replace x2 := bcell (drewNB _ nq) x2
    have hB6 := chain hB1 (drewNB _ nq)
    clear hB1
    generalize (w.alloc (.cells #[.int .i64 p.a, .int .i64 p.f, .int .i64 p.n] 46)).drewN nq = W6 at *
    have h6 := h.below hB6
    have hs6 := hB6.size
    go_wp2_with fail
    have hlt6 : w.heap.size < W6.heap.size := World.block_lt_of_cell? W6 ⟨w.heap.size, 0, none⟩ x0
    go_region_held3 (fun u => u.cell? ⟨w.heap.size, 0, none⟩ = some (.int .i64 p.a) ∧ u.cell? ⟨w.heap.size, 1, none⟩ = some (.int .i64 p.f) ∧ u.cell? ⟨w.heap.size, 2, none⟩ = some (.int .i64 p.n)) (go_keep) (first | (refine step_app rfl (wp_app _ _ 42 rfl (w.heap.size + 1) 46 i0 (.agg #[.int .i64 0, .int .i64 0, .int .i64 0]) 24 Tryz.underlying42 hi hz0 hz1 hz2 rfl (by decide) pcs_len pcs_one _ 0 0 [] rfl (res_empty (by first | exact (Blk.new' _ _ _ _ (by simp)).drew | exact ((Blk.new' _ _ _ _ (by simp)).alloc _).drew) (by first | omega | (simp; omega))) a 0 cap l rfl (h6.below (by go_grown)) ha.spot ha.nil 0 (Nat.zero_add _) (by unfold maxLen; omega) (by omega) (by first | omega | (simp; omega)) ?_); intro a1 cap1 w1 hr1 hg1; have z0 := hg1.cell (a := ⟨w.heap.size, 0, none⟩) (by first | exact acell _ x0 | exact acell _ (acell _ x0)) (by simp [Value.ownBlock]; omega); have z1 := hg1.cell (a := ⟨w.heap.size, 1, none⟩) (by first | exact acell _ x1 | exact acell _ (acell _ x1)) (by simp [Value.ownBlock]; omega); have z2 := hg1.cell (a := ⟨w.heap.size, 2, none⟩) (by first | exact acell _ x2 | exact acell _ (acell _ x2)) (by simp [Value.ownBlock]; omega)) | (refine step_app rfl (wp_app _ _ 42 rfl (w.heap.size + 1) 46 i0 (.agg #[.int .i64 0, .int .i64 0, .int .i64 0]) 24 Tryz.underlying42 hi hz0 hz1 hz2 rfl (by decide) pcs_len pcs_one a1 0 cap1 ([] ++ l) rfl (by first | exact hr1 | exact hr1.alloc _) _ 1 1 [p] rfl (by first | exact sl_new' _ p _ _ (by simp) | (refine SlAt.grown (r := W6.heap.size) (sl_new' _ p _ _ (by simp)).drew hg1 ?_; intro ad h; cases h; first | (simp; done) | (simp; omega) | omega) | (refine SlAt.grown (r := W6.heap.size + 1) ((sl_new' _ p _ _ (by simp)).alloc _).drew hg1 ?_; intro ad h; cases h; first | (simp; done) | (simp; omega) | omega)) (fun ad h => (by cases h; rfl)) (fun h => (by cases h)) (0 + 1) rfl (by unfold maxLen; omega) (by omega) (by have := hg1.size; simp at this; first | omega | (simp; omega)) ?_); intro a2 cap2 w2 hr2 hg2; have y0 := hg2.cell (a := ⟨w.heap.size, 0, none⟩) (by first | exact z0 | exact acell _ z0) (own_ne fun ad h => (hr1.block ad h).1); have y1 := hg2.cell (a := ⟨w.heap.size, 1, none⟩) (by first | exact z1 | exact acell _ z1) (own_ne fun ad h => (hr1.block ad h).1); have y2 := hg2.cell (a := ⟨w.heap.size, 2, none⟩) (by first | exact z2 | exact acell _ z2) (own_ne fun ad h => (hr1.block ad h).1)))
    all_goals
      have hb1 : Below w.heap.size w w1 := Below.grown (by go_grown) hg1 (by first | omega | (simp; omega)) (fun k e => by simp [Value.ownBlock] at e; omega)
      have hb2 : Below w.heap.size w w2 := Below.grown (by first | exact hb1 | exact hb1.alloc hb1.size _) hg2 (by have := hb1.size; first | omega | (simp; omega)) (own_ge fun ad h => by have := (hr1.block ad h).1; omega)
      have hr3 : ResAt Pt.cs 3 46 w2 w.heap.size a2 (0 + 1) cap2 (addL l p) := by rw [hr.out]; exact hr2.mono (by omega)
      go_wp2
      go_returns
      exact ⟨⟨a2, _, cap2, rfl, hr3⟩, hb2⟩
  · -- there is a last part
    have hLl : l.length = L'.length + 1 := by rw [hL]; simp
    have hq : l[L'.length]? = some q := by rw [hL]; simp
    have hlast : l.getLast? = some q := by rw [hL]; simp
    have hdl : l.dropLast = L' := by rw [hL]; simp
    obtain ⟨j, rfl⟩ : ∃ j, n = j + 1 := ⟨L'.length, by omega⟩
    have hjl : L'.length = j := by omega
    rw [hjl] at hq
    obtain ⟨b, o, q', rfl, hq', d0, d1, d2⟩ := pts_at (h.below hB1) (k := j) (by omega)
    obtain rfl : q = q' := by rw [hq] at hq'; exact Option.some.inj hq'
    have hw1 : wrap64 ((j : Int) + 1 - 1) = (j : Int) := by unfold wrap64; omega
    have hj0 : (0 : Int) ≤ (j : Int) := by omega
    have hj1 : (j : Int) < (j : Int) + 1 := by omega
    have g0 := gcell d0
    have g1 := gcell d1
    have g2 := gcell d2
    have g3 := gcell x0
    have g4 := gcell x1
    have g5 := gcell x2
    have hne := grw_ne (w.alloc (.cells #[.int .i64 p.a, .int .i64 p.f, .int .i64 p.n] 46))
    cases hgo : goesOnB q p
    all_goals
      go_enter Tryz.func133, Tryz.ntmps133
      go_wp2_with fail
      refine wp_region_grow (by kernel_rfl) (by kernel_rfl) ?_
      repeat (go_big_quiet_step (first | (go_at_call 93; have qq := spec_l2Next q p; rw [hgo] at qq; exact grow_of (qq _))))
      refine wpQuiet_nil ?_
      intro W6 hx
      have hBx := grw_out hx
      clear hx g0 g1 g2 g3 g4 g5 hne
      replace x0 := bcell hBx x0
      replace x1 := bcell hBx x1
      replace x2 := bcell hBx x2
      replace d0 := bcell hBx d0
      replace d1 := bcell hBx d1
      replace d2 := bcell hBx d2
      have hB6 := chain hB1 hBx
      clear hB1 hBx
      have h6 := h.below hB6
      have hs6 := hB6.size
      have hlt6 : w.heap.size < W6.heap.size := World.block_lt_of_cell? W6 ⟨w.heap.size, 0, none⟩ x0
    · have hr : Hid (addL l p = [] ++ l ++ [p]) := by show _ = _; simp [addL, hlast, hgo]
      go_wp2_with fail
      go_region_held3 (fun u => u.cell? ⟨w.heap.size, 0, none⟩ = some (.int .i64 p.a) ∧ u.cell? ⟨w.heap.size, 1, none⟩ = some (.int .i64 p.f) ∧ u.cell? ⟨w.heap.size, 2, none⟩ = some (.int .i64 p.n)) (go_keep) (first | (refine step_app rfl (wp_app _ _ 42 rfl (w.heap.size + 1) 46 i0 (.agg #[.int .i64 0, .int .i64 0, .int .i64 0]) 24 Tryz.underlying42 hi hz0 hz1 hz2 rfl (by decide) pcs_len pcs_one _ 0 0 [] rfl (res_empty (by first | exact (Blk.new' _ _ _ _ (by simp)).drew | exact ((Blk.new' _ _ _ _ (by simp)).alloc _).drew) (by first | omega | (simp; omega))) (some ⟨b, o, none⟩) (j + 1) cap l rfl (h6.below (by go_grown)) ha.spot ha.nil (j + 1) (Nat.zero_add _) (by unfold maxLen; omega) (by omega) (by first | omega | (simp; omega)) ?_); intro a1 cap1 w1 hr1 hg1; have z0 := hg1.cell (a := ⟨w.heap.size, 0, none⟩) (by first | exact acell _ x0 | exact acell _ (acell _ x0)) (by simp [Value.ownBlock]; omega); have z1 := hg1.cell (a := ⟨w.heap.size, 1, none⟩) (by first | exact acell _ x1 | exact acell _ (acell _ x1)) (by simp [Value.ownBlock]; omega); have z2 := hg1.cell (a := ⟨w.heap.size, 2, none⟩) (by first | exact acell _ x2 | exact acell _ (acell _ x2)) (by simp [Value.ownBlock]; omega)) | (refine step_app rfl (wp_app _ _ 42 rfl (w.heap.size + 1) 46 i0 (.agg #[.int .i64 0, .int .i64 0, .int .i64 0]) 24 Tryz.underlying42 hi hz0 hz1 hz2 rfl (by decide) pcs_len pcs_one a1 (j + 1) cap1 ([] ++ l) rfl (by first | exact hr1 | exact hr1.alloc _) _ 1 1 [p] rfl (by first | exact sl_new' _ p _ _ (by simp) | (refine SlAt.grown (r := W6.heap.size) (sl_new' _ p _ _ (by simp)).drew hg1 ?_; intro ad h; cases h; first | (simp; done) | (simp; omega) | omega) | (refine SlAt.grown (r := W6.heap.size + 1) ((sl_new' _ p _ _ (by simp)).alloc _).drew hg1 ?_; intro ad h; cases h; first | (simp; done) | (simp; omega) | omega)) (fun ad h => (by cases h; rfl)) (fun h => (by cases h)) (j + 1 + 1) rfl (by unfold maxLen; omega) (by omega) (by have := hg1.size; simp at this; first | omega | (simp; omega)) ?_); intro a2 cap2 w2 hr2 hg2; have y0 := hg2.cell (a := ⟨w.heap.size, 0, none⟩) (by first | exact z0 | exact acell _ z0) (own_ne fun ad h => (hr1.block ad h).1); have y1 := hg2.cell (a := ⟨w.heap.size, 1, none⟩) (by first | exact z1 | exact acell _ z1) (own_ne fun ad h => (hr1.block ad h).1); have y2 := hg2.cell (a := ⟨w.heap.size, 2, none⟩) (by first | exact z2 | exact acell _ z2) (own_ne fun ad h => (hr1.block ad h).1)))
      all_goals
        have hb1 : Below w.heap.size w w1 := Below.grown (by go_grown) hg1 (by first | omega | (simp; omega)) (fun k e => by simp [Value.ownBlock] at e; omega)
        have hb2 : Below w.heap.size w w2 := Below.grown (by first | exact hb1 | exact hb1.alloc hb1.size _) hg2 (by have := hb1.size; first | omega | (simp; omega)) (own_ge fun ad h => by have := (hr1.block ad h).1; omega)
        have hr3 : ResAt Pt.cs 3 46 w2 w.heap.size a2 (j + 1 + 1) cap2 (addL l p) := by rw [hr.out]; exact hr2.mono (by omega)
        go_wp2
        go_returns
        exact ⟨⟨a2, _, cap2, rfl, hr3⟩, hb2⟩
    · have hr : Hid (addL l p = l.dropLast ++ [⟨q.a, q.f, wrap64 (q.n + p.n)⟩]) := by show _ = _; simp [addL, hlast, hgo]
      go_wp2_with (at_builtin; refine wpList_app rfl (fun K hK => wp_app _ _ 42 rfl (w.heap.size + 1) 46 i0 (.agg #[.int .i64 0, .int .i64 0, .int .i64 0]) 24 Tryz.underlying42 hi hz0 hz1 hz2 rfl (by decide) pcs_len pcs_one _ 0 0 [] rfl (res_empty (Blk.new' _ _ _ _ (by simp)) (by omega)) (some ⟨b, o, none⟩) (j + 1) cap l rfl (h6.below (by go_grown)) ha.spot ha.nil (j + 1) (Nat.zero_add _) (by unfold maxLen; omega) (by omega) (by simp; omega) (fun a1 cap1 w1 hr1 hg1 => hK _ _ ?_)))
      have hb1 : Below w.heap.size w w1 := Below.grown (by go_grown) hg1 (by simp; omega) (fun k e => by simp [Value.ownBlock] at e; omega)
      rcases hr1.own with ⟨_, h0, _⟩ | ⟨g, rfl, hgB, hgc, hgm, c, hgb, hgs, hgt⟩
      · exact absurd h0 (by omega)
      have z2 := hg1.cell (a := ⟨w.heap.size, 2, none⟩) (acell _ x2) (by simp [Value.ownBlock]; omega)
      obtain ⟨b', o', q', hbo, hq', e0, e1, e2⟩ := pts_at hr1.sl (k := j) (by omega)
      obtain ⟨rfl, rfl⟩ : g = b' ∧ 0 = o' := by simpa using hbo
      obtain rfl : q = q' := by simp only [List.nil_append] at hq'; rw [hq] at hq'; exact Option.some.inj hq'
      simp only [Nat.zero_add] at e0 e1 e2
      have f2 := hgb.frozen (j * 3 + 2)
      clear hbo
      refine wp_region_tail 12 (by kernel_rfl) (by kernel_rfl) ?_
      simp only [List.take_succ_cons, List.take_zero, List.drop_succ_cons, List.drop_zero]
      repeat still_step
      refine wpStill_nil ?_
      go_wp2
      go_returns
      go_light
      refine ⟨⟨some ⟨g, 0, none⟩, j + 1, cap1, rfl, ?_⟩, ((hb1.setCell (by show w.heap.size ≤ g; omega) _).drew)⟩
      rw [hr.out, hdl]
      have hfl : (L'.flatMap Pt.cs).length = j * 3 := by rw [flat_len pcs_len, hjl]
      have htk : (c.setIfInBounds (j * 3 + 2) (.int .i64 (wrap64 (q.n + p.n)))).toList.take ((j + 1) * 3) = (L' ++ [(⟨q.a, q.f, wrap64 (q.n + p.n)⟩ : Pt)]).flatMap Pt.cs := by
        rw [Array.toList_setIfInBounds, List.take_set, hgt, hL, List.nil_append, List.concat_eq_append, List.flatMap_append, List.flatMap_append, List.set_append_right _ _ (by omega), hfl]
        simp [Pt.cs]
      obtain ⟨a2, cap2, hv, hres⟩ := res_of_row (w := (w1.setCell ⟨g, j * 3 + 2, none⟩ (.int .i64 (wrap64 (q.n + p.n)))).drew) (B := w.heap.size) (t := 46) (n := j + 1) (v := .slice (some ⟨g, 0, none⟩) (j + 1) cap1) (l := L' ++ [(⟨q.a, q.f, wrap64 (q.n + p.n)⟩ : Pt)]) pcs_len (by simp [hjl])
        ⟨by rw [flat_len pcs_len]; simp [hjl], .inr ⟨g, cap1, _, rfl, by omega, (hgb.set _ _).drew, hgc, hgm, by simp [hgs], htk⟩⟩
      cases hv
      exact hres
end Go.Proofs.YtnjefbkhibfgmaaGreat
namespace Go.Proofs.YtnjefbkhibfgmaaGreat
open Go.RowKit Go.BigFrame
def joinL (l m : List Pt) : List Pt := m.foldl addL l
theorem addL_len (l : List Pt) (p : Pt) : (addL l p).length ≤ l.length + 1 := by
  unfold addL
  split
  · simp
  · split
    · simp only [List.length_append, List.length_dropLast, List.length_cons, List.length_nil]; omega
    · simp
theorem joinL_at {l m : List Pt} {k : Nat} {p : Pt} (h : m[k]? = some p) : joinL l (m.take (k + 1)) = addL (joinL l (m.take k)) p := by
  unfold joinL; rw [take_at h, List.foldl_append]; rfl
set_option maxHeartbeats 1000000 in
theorem spec_l2Join (a : Option Addr) (n cap : Nat) (l : List Pt) (a' : Option Addr) (n' cap' : Nat) (m : List Pt) (w : World) (h : PtsAt w a n l) (hn : n ≤ 1100000) (ha : ArgOk a cap) (h' : PtsAt w a' n' m) (hn' : n' ≤ 1100000) :
    Calls Tryz.prog 134 #[.slice a n cap, .slice a' n' cap'] w fun e w' => (∃ a1 n1 cap1, e = .returned (.slice a1 n1 cap1) ∧ n1 ≤ n + n' ∧ ResAt Pt.cs 3 46 w' w.heap.size a1 n1 cap1 (joinL l m)) ∧ Below w.heap.size w w' := by
  have hlen' : Hid (m.length = n') := h'.len
  obtain ⟨i0, hi, hz0, hz1, hz2⟩ := info_parts infoP
  go_enter Tryz.func134, Tryz.ntmps134
  go_wp2_with (at_builtin; refine wpList_app rfl (fun K hK => wp_app _ _ 42 rfl w.heap.size 46 i0 (.agg #[.int .i64 0, .int .i64 0, .int .i64 0]) 24 Tryz.underlying42 hi hz0 hz1 hz2 rfl (by decide) pcs_len pcs_one _ 0 0 [] rfl (res_empty (Blk.new' _ _ _ _ (by simp)) (by omega)) a n cap l rfl (h.below (by go_grown)) ha.spot ha.nil n (Nat.zero_add _) (by unfold maxLen; omega) (by omega) (by simp) (fun a1 cap1 w1 hr1 hg1 => hK _ _ ?_)))
  have hb1 : Below w.heap.size w w1 := Below.grown (by go_grown) hg1 (by simp) (fun k e => by simp [Value.ownBlock] at e; omega)
  simp only [List.nil_append] at hr1
  clear hg1 hi hz0 hz1 hz2
  go_loopw [5, 6] (fun out ix wr => ∃ (k : Nat) (a2 : Option Addr) (n2 cap2 : Nat), k ≤ n' ∧ ix = .int .i64 k ∧ out = .slice a2 n2 cap2 ∧ n2 ≤ n + k ∧ ResAt Pt.cs 3 46 wr w.heap.size a2 n2 cap2 (joinL l (m.take k)) ∧ Below w.heap.size w wr) (fun _ ix _ => n' - (intOf ix).toNat)
  case atStart => exact ⟨0, a1, n, cap1, Nat.zero_le _, rfl, rfl, by omega, hr1, hb1⟩
  case round =>
    obtain ⟨k, a2, n2, cap2, hk, rfl, rfl, hn2, hr2, hB⟩ := hrel
    by_cases hlt : k < n'
    · obtain ⟨b, o, p, rfl, hp, c0, c1, c2⟩ := pts_at (h'.below hB) hlt
      have hst : Hid (joinL l (m.take (k + 1)) = addL (joinL l (m.take k)) p) := joinL_at hp
      clear hp
      generalize joinL l (m.take k) = lk at *
      have hal := addL_len lk p
      rw [hr2.sl.len] at hal
      go_wp2_with fail
      refine (spec_l2Add a2 n2 cap2 lk p _ hr2.sl (by omega) hr2.arg).mono ?_
      rintro e w3 ⟨⟨a3, n3, cap3, rfl, hr3⟩, hB3⟩
      have hn3 := hr3.sl.len
      go_wp2
      go_roundw
      case rel => exact ⟨k + 1, a3, n3, cap3, by omega, by go_num, rfl, by omega, by rw [hst.out]; exact hr3.mono hB.size, chain hB hB3⟩
      case measure => simp [intOf]; omega
    · obtain rfl : k = n' := by omega
      go_wp2
      go_returns
      go_light
      rw [List.take_of_length_le (Nat.le_of_eq hlen'.out)] at hr2
      exact ⟨⟨a2, n2, cap2, rfl, hn2, hr2⟩, hB⟩
def Holes (l : List Pt) : Prop := ∀ p ∈ l, (1 ≤ p.n ∧ p.n ≤ 100 ∧ 0 ≤ p.f ∧ p.f ≤ 100) ∧ ((p.a = 0 ∧ p.f = 0) ∨ 0 < p.a)
theorem cut_hole {p : Pt} {x y : Int} (h : p.a = 0) (hf : p.f = 0) : cutP p x y = ⟨p.a, p.f, y - x⟩ := by simp [cutP, h, hf]
theorem cut_ext {p : Pt} {x y : Int} (h : 0 < p.a) : cutP p x y = ⟨p.a, p.f + x, y - x⟩ := by
  have : (p.a == 0) = false := beq_eq_false_iff_ne.2 (by omega)
  simp [cutP, this]
theorem slj_step {lk : List Pt} {fr to st x y : Int} {p : Pt} {r : List Pt} (hx : max (fr - st) 0 = x) (hy : min (to - st) p.n = y) (h : x < y) : joinL lk (slp fr to st (p :: r)) = joinL (addL lk (cutP p x y)) (slp fr to (st + p.n) r) := by
  rw [slp_yes hx hy h]; rfl
theorem slj_hole {lk : List Pt} {fr to st z : Int} {p : Pt} {r : List Pt} (h : max (fr - st) 0 < min (to - st) p.n) (ha : p.a = 0 ∧ p.f = 0) (hz : min (to - st) p.n - max (fr - st) 0 = z) : joinL lk (slp fr to st (p :: r)) = joinL (addL lk ⟨p.a, p.f, z⟩) (slp fr to (st + p.n) r) := by
  rw [slj_step rfl rfl h, cut_hole ha.1 ha.2, hz]
theorem slj_ext {lk : List Pt} {fr to st z f : Int} {p : Pt} {r : List Pt} (h : max (fr - st) 0 < min (to - st) p.n) (ha : 0 < p.a) (hf : p.f + max (fr - st) 0 = f) (hz : min (to - st) p.n - max (fr - st) 0 = z) : joinL lk (slp fr to st (p :: r)) = joinL (addL lk ⟨p.a, f, z⟩) (slp fr to (st + p.n) r) := by
  rw [slj_step rfl rfl h, cut_ext ha, hz, hf]
theorem addL_res {l : List Pt} {p : Pt} {n m : Nat} (h1 : (addL l p).length = n) (h2 : l.length = m) : n ≤ m + 1 := by
  have := addL_len l p; omega
set_option maxHeartbeats 8000000 in
set_option maxRecDepth 100000 in
theorem spec_l2Slice (a : Option Addr) (n cap : Nat) (l : List Pt) (fr to : Int) (w : World) (h : PtsAt w a n l) (hn : n ≤ 16) (hl : Holes l) (hf0 : 0 ≤ fr) (hf1 : fr ≤ 10000) (ht0 : 0 ≤ to) (ht1 : to ≤ 10000) :
    Calls Tryz.prog 125 #[.slice a n cap, .int .i64 fr, .int .i64 to] w fun e w' => (∃ a1 n1 cap1, e = .returned (.slice a1 n1 cap1) ∧ n1 ≤ n ∧ ResAt Pt.cs 3 46 w' w.heap.size a1 n1 cap1 (joinL [] (slp fr to 0 l))) ∧ Below w.heap.size w w' := by
  have hlen : Hid (l.length = n) := h.len
  go_enter Tryz.func125, Tryz.ntmps125
  go_wp2_with fail
  go_loopw [7, 8, 9] (fun out s ix wr => ∃ (k : Nat) (st : Int) (a2 : Option Addr) (n2 cap2 : Nat) (lk : List Pt), k ≤ n ∧ ix = .int .i64 k ∧ s = .int .i64 st ∧ 0 ≤ st ∧ st ≤ 100 * k ∧ out = .slice a2 n2 cap2 ∧ n2 ≤ k ∧ ResAt Pt.cs 3 46 wr w.heap.size a2 n2 cap2 lk ∧ Hid (joinL [] (slp fr to 0 l) = joinL lk (slp fr to st (l.drop k))) ∧ Below w.heap.size w wr) (fun _ _ ix _ => n - (intOf ix).toNat)
  case atStart => exact ⟨0, 0, _, 0, 0, [], Nat.zero_le _, rfl, rfl, by omega, by omega, rfl, by omega, res_empty (Blk.new _ _ _) (Nat.le_refl _), rfl, (Below.refl _ _).alloc (Nat.le_refl _) _⟩
  case round =>
    obtain ⟨k, st, a2, n2, cap2, lk, hk, rfl, rfl, hs0, hs1, rfl, hn2, hr2, hI, hB⟩ := hrel
    by_cases hlt : k < n
    · obtain ⟨b, o, p, rfl, hp, c0, c1, c2⟩ := pts_at (h.below hB) hlt
      have hd : Hid (l.drop k = p :: l.drop (k + 1)) := drop_at hp
      obtain ⟨⟨hp1, hp2, hp3, hp4⟩, hpa⟩ := hl p (List.mem_of_getElem? hp)
      clear hp
      have hsz := hB.size
      by_cases hxy : max (fr - st) 0 < min (to - st) p.n
      · rcases hpa with ⟨hpa, hpf⟩ | hpa
        · have hpa' : ¬ 0 < p.a := by omega
          have hHa : Hid (p.a = 0 ∧ p.f = 0) := ⟨hpa, hpf⟩
          clear hpa hpf
          by_cases hx : fr < st
          · by_cases hy : st + p.n < to
            · go_wp2_with fail
              refine (spec_l2Add a2 n2 cap2 lk ⟨p.a, p.f, (st + p.n) - st⟩ _ (hr2.sl.alloc _) (by omega) hr2.arg).mono ?_
              rintro e w3 ⟨⟨a3, n3, cap3, rfl, hr3⟩, hB3⟩
              have hal := addL_res hr3.sl.len hr2.sl.len
              obtain ⟨_, _, _, hB3', _⟩ := box3 hB3
              have y2 := bcell hB3' c2
              have hfin : Hid (joinL lk (slp fr to st (p :: l.drop (k + 1))) = joinL (addL lk ⟨p.a, p.f, (st + p.n) - st⟩) (slp fr to (st + p.n) (l.drop (k + 1)))) := slj_hole hxy hHa.out (by omega)
              clear hxy
              go_wp2
              go_roundw
              case rel => exact ⟨k + 1, st + p.n, a3, n3, cap3, _, by omega, by go_num, by go_num, by omega, by omega, rfl, by omega, hr3.mono (by simp; omega), by show _ = _; rw [hI.out, hd.out]; exact hfin.out, chain hB hB3'⟩
              case measure => simp [intOf]; omega
            · go_wp2_with fail
              refine (spec_l2Add a2 n2 cap2 lk ⟨p.a, p.f, to - st⟩ _ (hr2.sl.alloc _) (by omega) hr2.arg).mono ?_
              rintro e w3 ⟨⟨a3, n3, cap3, rfl, hr3⟩, hB3⟩
              have hal := addL_res hr3.sl.len hr2.sl.len
              obtain ⟨_, _, _, hB3', _⟩ := box3 hB3
              have y2 := bcell hB3' c2
              have hfin : Hid (joinL lk (slp fr to st (p :: l.drop (k + 1))) = joinL (addL lk ⟨p.a, p.f, to - st⟩) (slp fr to (st + p.n) (l.drop (k + 1)))) := slj_hole hxy hHa.out (by omega)
              clear hxy
              go_wp2
              go_roundw
              case rel => exact ⟨k + 1, st + p.n, a3, n3, cap3, _, by omega, by go_num, by go_num, by omega, by omega, rfl, by omega, hr3.mono (by simp; omega), by show _ = _; rw [hI.out, hd.out]; exact hfin.out, chain hB hB3'⟩
              case measure => simp [intOf]; omega
          · by_cases hy : st + p.n < to
            · go_wp2_with fail
              refine (spec_l2Add a2 n2 cap2 lk ⟨p.a, p.f, (st + p.n) - fr⟩ _ (hr2.sl.alloc _) (by omega) hr2.arg).mono ?_
              rintro e w3 ⟨⟨a3, n3, cap3, rfl, hr3⟩, hB3⟩
              have hal := addL_res hr3.sl.len hr2.sl.len
              obtain ⟨_, _, _, hB3', _⟩ := box3 hB3
              have y2 := bcell hB3' c2
              have hfin : Hid (joinL lk (slp fr to st (p :: l.drop (k + 1))) = joinL (addL lk ⟨p.a, p.f, (st + p.n) - fr⟩) (slp fr to (st + p.n) (l.drop (k + 1)))) := slj_hole hxy hHa.out (by omega)
              clear hxy
              go_wp2
              go_roundw
              case rel => exact ⟨k + 1, st + p.n, a3, n3, cap3, _, by omega, by go_num, by go_num, by omega, by omega, rfl, by omega, hr3.mono (by simp; omega), by show _ = _; rw [hI.out, hd.out]; exact hfin.out, chain hB hB3'⟩
              case measure => simp [intOf]; omega
            · go_wp2_with fail
              refine (spec_l2Add a2 n2 cap2 lk ⟨p.a, p.f, to - fr⟩ _ (hr2.sl.alloc _) (by omega) hr2.arg).mono ?_
              rintro e w3 ⟨⟨a3, n3, cap3, rfl, hr3⟩, hB3⟩
              have hal := addL_res hr3.sl.len hr2.sl.len
              obtain ⟨_, _, _, hB3', _⟩ := box3 hB3
              have y2 := bcell hB3' c2
              have hfin : Hid (joinL lk (slp fr to st (p :: l.drop (k + 1))) = joinL (addL lk ⟨p.a, p.f, to - fr⟩) (slp fr to (st + p.n) (l.drop (k + 1)))) := slj_hole hxy hHa.out (by omega)
              clear hxy
              go_wp2
              go_roundw
              case rel => exact ⟨k + 1, st + p.n, a3, n3, cap3, _, by omega, by go_num, by go_num, by omega, by omega, rfl, by omega, hr3.mono (by simp; omega), by show _ = _; rw [hI.out, hd.out]; exact hfin.out, chain hB hB3'⟩
              case measure => simp [intOf]; omega
        · by_cases hx : fr < st
          · by_cases hy : st + p.n < to
            · go_wp2_with fail
              refine (spec_l2Add a2 n2 cap2 lk ⟨p.a, p.f, (st + p.n) - st⟩ _ (hr2.sl.alloc _) (by omega) hr2.arg).mono ?_
              rintro e w3 ⟨⟨a3, n3, cap3, rfl, hr3⟩, hB3⟩
              have hal := addL_res hr3.sl.len hr2.sl.len
              obtain ⟨_, _, _, hB3', _⟩ := box3 hB3
              have y2 := bcell hB3' c2
              have hfin : Hid (joinL lk (slp fr to st (p :: l.drop (k + 1))) = joinL (addL lk ⟨p.a, p.f, (st + p.n) - st⟩) (slp fr to (st + p.n) (l.drop (k + 1)))) := slj_ext hxy hpa (by omega) (by omega)
              clear hxy
              go_wp2
              go_roundw
              case rel => exact ⟨k + 1, st + p.n, a3, n3, cap3, _, by omega, by go_num, by go_num, by omega, by omega, rfl, by omega, hr3.mono (by simp; omega), by show _ = _; rw [hI.out, hd.out]; exact hfin.out, chain hB hB3'⟩
              case measure => simp [intOf]; omega
            · go_wp2_with fail
              refine (spec_l2Add a2 n2 cap2 lk ⟨p.a, p.f, to - st⟩ _ (hr2.sl.alloc _) (by omega) hr2.arg).mono ?_
              rintro e w3 ⟨⟨a3, n3, cap3, rfl, hr3⟩, hB3⟩
              have hal := addL_res hr3.sl.len hr2.sl.len
              obtain ⟨_, _, _, hB3', _⟩ := box3 hB3
              have y2 := bcell hB3' c2
              have hfin : Hid (joinL lk (slp fr to st (p :: l.drop (k + 1))) = joinL (addL lk ⟨p.a, p.f, to - st⟩) (slp fr to (st + p.n) (l.drop (k + 1)))) := slj_ext hxy hpa (by omega) (by omega)
              clear hxy
              go_wp2
              go_roundw
              case rel => exact ⟨k + 1, st + p.n, a3, n3, cap3, _, by omega, by go_num, by go_num, by omega, by omega, rfl, by omega, hr3.mono (by simp; omega), by show _ = _; rw [hI.out, hd.out]; exact hfin.out, chain hB hB3'⟩
              case measure => simp [intOf]; omega
          · by_cases hy : st + p.n < to
            · go_wp2_with fail
              refine (spec_l2Add a2 n2 cap2 lk ⟨p.a, p.f + fr - st, (st + p.n) - fr⟩ _ (hr2.sl.alloc _) (by omega) hr2.arg).mono ?_
              rintro e w3 ⟨⟨a3, n3, cap3, rfl, hr3⟩, hB3⟩
              have hal := addL_res hr3.sl.len hr2.sl.len
              obtain ⟨_, _, _, hB3', _⟩ := box3 hB3
              have y2 := bcell hB3' c2
              have hfin : Hid (joinL lk (slp fr to st (p :: l.drop (k + 1))) = joinL (addL lk ⟨p.a, p.f + fr - st, (st + p.n) - fr⟩) (slp fr to (st + p.n) (l.drop (k + 1)))) := slj_ext hxy hpa (by omega) (by omega)
              clear hxy
              go_wp2
              go_roundw
              case rel => exact ⟨k + 1, st + p.n, a3, n3, cap3, _, by omega, by go_num, by go_num, by omega, by omega, rfl, by omega, hr3.mono (by simp; omega), by show _ = _; rw [hI.out, hd.out]; exact hfin.out, chain hB hB3'⟩
              case measure => simp [intOf]; omega
            · go_wp2_with fail
              refine (spec_l2Add a2 n2 cap2 lk ⟨p.a, p.f + fr - st, to - fr⟩ _ (hr2.sl.alloc _) (by omega) hr2.arg).mono ?_
              rintro e w3 ⟨⟨a3, n3, cap3, rfl, hr3⟩, hB3⟩
              have hal := addL_res hr3.sl.len hr2.sl.len
              obtain ⟨_, _, _, hB3', _⟩ := box3 hB3
              have y2 := bcell hB3' c2
              have hfin : Hid (joinL lk (slp fr to st (p :: l.drop (k + 1))) = joinL (addL lk ⟨p.a, p.f + fr - st, to - fr⟩) (slp fr to (st + p.n) (l.drop (k + 1)))) := slj_ext hxy hpa (by omega) (by omega)
              clear hxy
              go_wp2
              go_roundw
              case rel => exact ⟨k + 1, st + p.n, a3, n3, cap3, _, by omega, by go_num, by go_num, by omega, by omega, rfl, by omega, hr3.mono (by simp; omega), by show _ = _; rw [hI.out, hd.out]; exact hfin.out, chain hB hB3'⟩
              case measure => simp [intOf]; omega
      · by_cases hx : fr < st
        all_goals by_cases hy : st + p.n < to
        all_goals try (exfalso; omega)
        all_goals
          go_wp2
          go_roundw
          case rel => exact ⟨k + 1, st + p.n, a2, n2, cap2, lk, by omega, by go_num, by go_num, by omega, by omega, rfl, by omega, hr2, by show _ = _; rw [hI.out, hd.out, slp_no hxy], hB⟩
          case measure => simp [intOf]; omega
    · obtain rfl : k = n := by omega
      go_wp2
      go_returns
      go_light
      rw [List.drop_of_length_le (Nat.le_of_eq hlen.out)] at hI
      rw [hI.out]
      exact ⟨⟨a2, n2, cap2, rfl, hn2, hr2⟩, hB⟩
end Go.Proofs.YtnjefbkhibfgmaaGreat
namespace Go.Proofs.YtnjefbkhibfgmaaGreat
open Go.RowKit Go.BigFrame
theorem holes_of {l : List Pt} (h : partsOkB l = true) : Holes l := by
  intro p hp
  refine ⟨pos_of h p hp, ?_⟩
  have hk := (partsOkB_all h).2.1 p hp
  unfold partOkB at hk
  split at hk
  · rename_i ha
    simp at ha hk
    exact .inl ⟨ha, hk.1⟩
  · simp at hk
    exact .inr (by omega)
end Go.Proofs.YtnjefbkhibfgmaaGreat
namespace Go.Proofs.YtnjefbkhibfgmaaGreat
open Go.RowKit Go.BigFrame
def rowB : Option Addr → Option Nat
  | none => none
  | some ad => some ad.block
theorem SlAt.grownO {α : Type} {cs : α → List Value} {sz : Nat} {w w' : World} {a : Option Addr} {n : Nat} {l : List α} {row : Option Nat} (h : SlAt cs sz w a n l) (hg : w.grownBy w' row) (hr : ∀ ad, a = some ad → some ad.block ≠ row) : SlAt cs sz w' a n l :=
  ⟨h.len, fun i x hx => by
    obtain ⟨b, o, ha, hc⟩ := h.cell i x hx
    exact ⟨b, o, ha, fun j v hv => hg.cell (hc j v hv) (hr ⟨b, o, none⟩ ha)⟩⟩
theorem below_grownO {w w1 w' : World} {row : Option Nat} (hb : Below w.heap.size w w1) (hg : w1.grownBy w' row) (hn : ∀ k, row = some k → w.heap.size ≤ k) : Below w.heap.size w w' := hb.grown hg hb.size hn
theorem rowB_ge {a : Option Addr} {B : Nat} (h : ∀ ad, a = some ad → B ≤ ad.block) : ∀ k, rowB a = some k → B ≤ k := by
  intro k hk
  cases a with
  | none => cases hk
  | some ad => have := h ad rfl; simp [rowB] at hk; omega
end Go.Proofs.YtnjefbkhibfgmaaGreat
