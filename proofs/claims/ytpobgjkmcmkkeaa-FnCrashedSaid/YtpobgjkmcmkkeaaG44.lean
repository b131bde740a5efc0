/- What is drawn for the laws over disks. -/
import Derived.Test.YtpobgjkmcmkkeaaG43
namespace Go.Proofs.Ytpobgjkmcmkkeaa
open Go Go.RowKit Go.BigFrame

/-- A struct in a cell, and two values. -/
theorem results_cell_tmp2 {P : Program} {fn : Func} {p q r : Tmp} {ty : TypeId} (h : fn.results = #[.cell p ty, .tmp q, .tmp r]) (tmps : Array Value) (w : World) (g : Nat) (t : TypeId) (cs : Array Value) (fr : Nat × Nat) (d : TypeDesc) (v u : Value)
    (hp : tmps.getD p undef = .pointer (some ⟨g, 0, none⟩)) (hg : w.heap[g]? = some (.cells cs t fr))
    (hu : P.underlying ty = some d) (hd : (match d with | .struct _ | .array _ _ => true | _ => false) = true) (hi : (P.info? ty).map (·.size) = some cs.size) (hq : tmps.getD q undef = v) (hr : tmps.getD r undef = u) :
    (results fn tmps).run P w = .ok (.tuple #[.agg cs, v, u]) w := by
  have hp' : tmps[p]?.getD undef = .pointer (some ⟨g, 0, none⟩) := by simpa using hp
  have hq' : tmps[q]?.getD undef = v := by simpa using hq
  have hr' : tmps[r]?.getD undef = u := by simpa using hr
  simp [results, h, hp', hq', hr', asAddr, run_loadVar_row w g t ty cs fr d hg hu hd hi]

/-- Two results, each a struct in a block of its own. -/
theorem results_cell2K {P : Program} {fn : Func} {p q : Tmp} {ty ty' : TypeId} (h : fn.results = #[.cell p ty, .cell q ty']) (tmps : Array Value) (w : World) (g : Nat) (t : TypeId) (cs : Array Value) (g' : Nat) (t' : TypeId) (cs' : Array Value) (d d' : TypeDesc)
    (hp : tmps.getD p undef = .pointer (some ⟨g, 0, none⟩)) (hq : tmps.getD q undef = .pointer (some ⟨g', 0, none⟩)) (hg : Blk w g cs t) (hg' : Blk w g' cs' t')
    (hu : P.underlying ty = some d) (hu' : P.underlying ty' = some d') (hd : (match d with | .struct _ | .array _ _ => true | _ => false) = true) (hd' : (match d' with | .struct _ | .array _ _ => true | _ => false) = true) (hi : (P.info? ty).map (·.size) = some cs.size) (hi' : (P.info? ty').map (·.size) = some cs'.size) :
    (results fn tmps).run P w = .ok (.tuple #[.agg cs, .agg cs']) w := by
  have hp' : tmps[p]?.getD undef = .pointer (some ⟨g, 0, none⟩) := by simpa using hp
  have hq' : tmps[q]?.getD undef = .pointer (some ⟨g', 0, none⟩) := by simpa using hq
  simp [results, h, hp', hq', asAddr, run_loadVar_row w g t ty cs _ d hg hu hd hi, run_loadVar_row w g' t' ty' cs' _ d' hg' hu' hd' hi']

set_option maxHeartbeats 4000000 in
set_option maxRecDepth 100000 in
theorem spec_DrawDiskOk (a : Option Addr) (n cap : Nat) (w : World) (h : CodeAt w a n) (hn : n ≤ 1048576) :
    Calls Try.prog 13 #[.slice a n cap] w fun e w' => (∃ v d, e = .returned v ∧ DiskT w.heap.size w' v d ∧ DimD d) ∧ Below w.heap.size w w' := by
  go_enter Try.func13, Try.ntmps13
  go_wp2_with fail
  have hA0 : Below w.heap.size w (w.alloc (.cells #[.slice none 0 0, .slice none 0 0, .slice none 0 0] 27)) := by go_grown
  have D0 := Blk.new w #[.slice none 0 0, .slice none 0 0, .slice none 0 0] 27
  have hz0 : (w.alloc (.cells #[.slice none 0 0, .slice none 0 0, .slice none 0 0] 27)).heap.size = w.heap.size + 1 := by simp
  have h0 := h.below hA0
  generalize w.alloc (.cells #[.slice none 0 0, .slice none 0 0, .slice none 0 0] 27) = w0 at *
  refine (spec_l1Open a n cap w0 h0 hn).mono ?_
  rintro e w1 ⟨rfl, hR1, hB1⟩
  rw [hz0] at hR1 ⊢
  have D1 := D0.below hB1
  have hC1 := chain hA0 hB1
  have hs1 := hR1.lt
  clear D0 hB1 hA0 h0 hz0 w0
  go_wp2_with fail
  refine (spec_disk (w.heap.size + 1) _ hR1).mono ?_
  rintro e w2 ⟨⟨v, d, rfl, DT, hd⟩, hR2, hg2⟩
  obtain ⟨la, ln, lc, sa, sn, sc, oa, on, oc, rfl⟩ := DT.at.l.cells
  have D2 := D1.grown hg2 (by omega)
  have hC2 := below_grown hC1 hg2 (by omega)
  clear D1 hC1 hg2 hR1
  obtain ⟨⟨x0, x1, x2⟩, f0, f1, f2⟩ := blk_three D2
  go_wp2
  have E8 := D2.put3 (x := .slice la ln lc) (y := .slice sa sn sc) (z := .slice oa on oc)
  have hg8 := grown_put3 w2 w.heap.size (.slice la ln lc) (.slice sa sn sc) (.slice oa on oc)
  have DT8 := DT.low hg8 (by omega)
  have hB8 := below_grown hC2 hg8 (by omega)
  generalize ((w2.setCell ⟨w.heap.size, 0, none⟩ (.slice la ln lc)).setCell ⟨w.heap.size, 1, none⟩ (.slice sa sn sc)).setCell ⟨w.heap.size, 2, none⟩ (.slice oa on oc) = W8 at *
  refine bodyPost_ret (results_cell_row rfl _ W8 w.heap.size _ _ _ _ rfl E8 Try.underlying27 rfl (by kernel_rfl)) rfl ?_
  exact ⟨⟨_, d, rfl, DT8.mono (by omega), hd⟩, hB8⟩

set_option maxHeartbeats 4000000 in
set_option maxRecDepth 100000 in
theorem spec_DrawReplace (a : Option Addr) (n cap : Nat) (w : World) (h : CodeAt w a n) (hn : n ≤ 1048576) :
    Calls Try.prog 23 #[.slice a n cap] w fun e w' => (∃ v d nm data, e = .returned (.tuple #[v, .string nm, .string data]) ∧ DiskT w.heap.size w' v d ∧ DimD d ∧ nm.size ≤ 200 ∧ data.size ≤ 20) ∧ Below w.heap.size w w' := by
  go_enter Try.func23, Try.ntmps23
  go_wp2_with fail
  have hA0 : Below w.heap.size w (w.alloc (.cells #[.slice none 0 0, .slice none 0 0, .slice none 0 0] 27)) := by go_grown
  have D0 := Blk.new w #[.slice none 0 0, .slice none 0 0, .slice none 0 0] 27
  have hz0 : (w.alloc (.cells #[.slice none 0 0, .slice none 0 0, .slice none 0 0] 27)).heap.size = w.heap.size + 1 := by simp
  have h0 := h.below hA0
  generalize w.alloc (.cells #[.slice none 0 0, .slice none 0 0, .slice none 0 0] 27) = w0 at *
  refine (spec_l1Open a n cap w0 h0 hn).mono ?_
  rintro e w1 ⟨rfl, hR1, hB1⟩
  rw [hz0] at hR1 ⊢
  have D1 := D0.below hB1
  have hC1 := chain hA0 hB1
  have hs1 := hR1.lt
  clear D0 hB1 hA0 h0 hz0 w0
  go_wp2_with fail
  refine (spec_disk (w.heap.size + 1) _ hR1).mono ?_
  rintro e w2 ⟨⟨v, d, rfl, DT, hd⟩, hR2, hg2⟩
  obtain ⟨la, ln, lc, sa, sn, sc, oa, on, oc, rfl⟩ := DT.at.l.cells
  have D2 := D1.grown hg2 (by omega)
  have hC2 := below_grown hC1 hg2 (by omega)
  have hs2 := hg2.size
  replace DT := DT.mono (show w.heap.size + 2 ≤ w1.heap.size by omega)
  clear D1 hC1 hg2 hR1
  have hA3 : Below w2.heap.size w2 (w2.alloc (.cells #[.slice la ln lc, .slice sa sn sc, .slice oa on oc] 27)) := (Below.refl _ _).alloc (Nat.le_refl _) _
  have P3 := Blk.new w2 #[.slice la ln lc, .slice sa sn sc, .slice oa on oc] 27
  have hA4 : Below w2.heap.size w2 ((w2.alloc (.cells #[.slice la ln lc, .slice sa sn sc, .slice oa on oc] 27)).alloc (.cells #[.string ⟨#[115, 49]⟩, .string ⟨#[115, 48]⟩, .string ⟨#[115, 49]⟩, .string ⟨#[]⟩] 9)) := by go_grown
  have P4 := P3.alloc (.cells #[.string ⟨#[115, 49]⟩, .string ⟨#[115, 48]⟩, .string ⟨#[115, 49]⟩, .string ⟨#[]⟩] 9)
  have L4 : Blk ((w2.alloc (.cells #[.slice la ln lc, .slice sa sn sc, .slice oa on oc] 27)).alloc (.cells #[.string ⟨#[115, 49]⟩, .string ⟨#[115, 48]⟩, .string ⟨#[115, 49]⟩, .string ⟨#[]⟩] 9)) (w2.heap.size + 1) _ _ := Blk.new' _ _ _ _ (by simp)
  go_wp2_with fail
  generalize (w2.alloc (.cells #[.slice la ln lc, .slice sa sn sc, .slice oa on oc] 27)).alloc (.cells #[.string ⟨#[115, 49]⟩, .string ⟨#[115, 48]⟩, .string ⟨#[115, 49]⟩, .string ⟨#[]⟩] 9) = w3 at *
  have hs3 := hA4.size
  replace D2 := D2.below hA4
  replace DT := DT.below hA4
  replace hC2 := chain hC2 hA4
  replace hR2 := hR2.below hA4
  clear P3 hA3 hA4
  refine (spec_belowN (w.heap.size + 1) 4 _ hR2 (by omega) (by omega)).mono ?_
  rintro e w4 ⟨⟨x, rfl, hx⟩, hR4, hg4⟩
  have D4 := D2.grown hg4 (by omega)
  replace P4 := P4.grown hg4 (by omega)
  replace L4 := L4.grown hg4 (by omega)
  replace DT := DT.low hg4 (by omega)
  have hC4 := below_grown hC2 hg4 (by omega)
  clear D2 hR2 hC2 hg4
  obtain ⟨nm, hnm, hnm1⟩ : ∃ s : ByteArray, w4.cell? ⟨w2.heap.size + 1, x, none⟩ = some (.string s) ∧ s.size ≤ 200 := by
    rw [L4.cell]
    rcases (show x = 0 ∨ x = 1 ∨ x = 2 ∨ x = 3 by omega) with rfl | rfl | rfl | rfl
    all_goals exact ⟨_, rfl, by decide⟩
  have hx2 : (x : Int) < 4 := by omega
  clear L4
  go_wp2_with fail
  refine (spec_once (w.heap.size + 1) 12 _ hR4 (by omega) (by omega)).mono ?_
  rintro e w5 ⟨⟨bo, rfl⟩, hR5, hg5⟩
  have D5 := D4.grown hg5 (by omega)
  have P5 := P4.grown hg5 (by omega)
  replace DT := DT.low hg5 (by omega)
  have hC5 := below_grown hC4 hg5 (by omega)
  clear D4 P4 hR4 hC4 hg5 hnm hx2
  cases bo
  · go_wp2_with fail
    have D6 := D5
    have P6 := P5
    have hR6 := hR5
    have hC6 := hC5
    clear D5 P5 hR5 hC5
    have hW : Below w5.heap.size w5 w5.drew := (Below.refl _ _).drew
    have D := D6.below hW
    have P := P6.below hW
    have R := hR6.below hW
    have hC := chain hC6 hW
    have T := DT.below hW
    clear D6 P6 hR6 hC6 hW
    have hS0 : (fun u => u.cell? ⟨w2.heap.size, 0, none⟩ = some (.slice la ln lc) ∧ u.cell? ⟨w2.heap.size, 1, none⟩ = some (.slice sa sn sc) ∧ u.cell? ⟨w2.heap.size, 2, none⟩ = some (.slice oa on oc)) w5.drew := P.three
    refine wp_region_heldH (S := (fun u => u.cell? ⟨w2.heap.size, 0, none⟩ = some (.slice la ln lc) ∧ u.cell? ⟨w2.heap.size, 1, none⟩ = some (.slice sa sn sc) ∧ u.cell? ⟨w2.heap.size, 2, none⟩ = some (.slice oa on oc))) 7 (by kernel_rfl) rfl ?_
    generalize w5.drew = u0 at *
    refine takeL (i := 1) (v := ?vq101) rfl (by kernel_rfl) (by kernel_rfl) (by kernel_rfl) (fun _ _ _ h => h) (Or.inl ⟨by rfl, ?hyq101⟩) (by assumption) ?restq101
    case hyq101 => (intro u hu; (try dsimp only at hu); go_simp <;> with_reducible rfl)
    try simp only [Act.put, List.setIfInBounds_toArray, List.set_cons_zero, List.set_cons_succ]
    refine takeL (i := 2) (v := ?vq102) rfl (by kernel_rfl) (by kernel_rfl) (by kernel_rfl) (fun _ _ _ h => h) (Or.inl ⟨by rfl, ?hyq102⟩) (by assumption) ?restq102
    case hyq102 => (intro u hu; (try dsimp only at hu); go_simp <;> with_reducible rfl)
    try simp only [Act.put, List.setIfInBounds_toArray, List.set_cons_zero, List.set_cons_succ]
    refine takeL (i := 0) (v := ?vq103) rfl (by kernel_rfl) (by kernel_rfl) (by kernel_rfl) (fun _ _ _ h => h) (Or.inl ⟨by rfl, ?hyq103⟩) (by assumption) ?restq103
    case hyq103 => (intro u hu; (try dsimp only at hu); go_simp <;> with_reducible rfl)
    try simp only [Act.put, List.setIfInBounds_toArray, List.set_cons_zero, List.set_cons_succ]
    refine oneL (i := 3) (by kernel_rfl) rfl (fun K hK => ?_)
    go_simp
    refine (spec_text (w.heap.size + 1) _ R).mono ?_
    rintro e u1 ⟨⟨tx, rfl, htx⟩, R', hg⟩
    replace D := D.grown hg (by omega)
    replace P := P.grown hg (by omega)
    replace T := T.low hg (by omega)
    replace hC := below_grown hC hg (by omega)
    dsimp only
    refine hK.out _ _ P.three (fun hHeld => ?_)
    clear hK K
    try simp only [Act.put, List.setIfInBounds_toArray, List.set_cons_zero, List.set_cons_succ]
    obtain ⟨⟨y0, y1, y2⟩, e0, e1, e2⟩ := blk_three D
    refine oneL (i := 4) (by kernel_rfl) rfl (fun K hK => ?_)
    go_simp
    have E8 := D.put3 (x := .slice la ln lc) (y := .slice sa sn sc) (z := .slice oa on oc)
    have hg8 := grown_put3 u1 w.heap.size (.slice la ln lc) (.slice sa sn sc) (.slice oa on oc)
    have P8 := P.grown hg8 (by omega)
    have T8 := T.low hg8 (by omega)
    have C8 := below_grown hC hg8 (Nat.le_refl _)
    refine hK.out _ _ P8.three (fun hHeld => ?_)
    clear hK K
    try simp only [Act.put, List.setIfInBounds_toArray, List.set_cons_zero, List.set_cons_succ]
    clear y0 y1 y2 e0 e1 e2
    generalize ((u1.setCell ⟨w.heap.size, 0, none⟩ (.slice la ln lc)).setCell ⟨w.heap.size, 1, none⟩ (.slice sa sn sc)).setCell ⟨w.heap.size, 2, none⟩ (.slice oa on oc) = W8 at *
    refine takeL (i := 5) (v := ?vq104) rfl (by kernel_rfl) (by kernel_rfl) (by kernel_rfl) (fun _ _ _ h => h) (Or.inl ⟨by rfl, ?hyq104⟩) (by assumption) ?restq104
    case hyq104 => (intro u hu; (try dsimp only at hu); go_simp <;> with_reducible rfl)
    try simp only [Act.put, List.setIfInBounds_toArray, List.set_cons_zero, List.set_cons_succ]
    refine takeL (i := 6) (v := ?vq105) rfl (by kernel_rfl) (by kernel_rfl) (by kernel_rfl) (fun _ _ _ h => h) (Or.inl ⟨by rfl, ?hyq105⟩) (by assumption) ?restq105
    case hyq105 => (intro u hu; (try dsimp only at hu); go_simp <;> with_reducible rfl)
    try simp only [Act.put, List.setIfInBounds_toArray, List.set_cons_zero, List.set_cons_succ]
    refine wpAnyH_done (by kernel_rfl) ?_ _
    go_wp2
    refine bodyPost_ret (results_cell_tmp2 rfl _ W8 w.heap.size _ _ _ _ _ _ rfl E8 Try.underlying27 rfl (by kernel_rfl) rfl rfl) rfl ?_
    exact ⟨⟨_, d, nm, tx, rfl, T8.mono (by omega), hd, hnm1, htx⟩, C8⟩
  · go_wp2_with fail
    refine (spec_belowN (w.heap.size + 1) 4 _ hR5 (by omega) (by omega)).mono ?_
    rintro e w6 ⟨⟨y, rfl, hy⟩, hR6, hg6⟩
    have D6 := D5.grown hg6 (by omega)
    have P6 := P5.grown hg6 (by omega)
    replace DT := DT.low hg6 (by omega)
    have hC6 := below_grown hC5 hg6 (by omega)
    clear D5 P5 hR5 hC5 hg6
    obtain ⟨m, hm⟩ : ∃ m : Nat, (95 : Int) + y = m := ⟨95 + y, by omega⟩
    have hm2 : m ≤ 200 := by omega
    obtain ⟨W7, str, hmk, hcv, hB7, hstr⟩ := made_text w6 m (by omega)
    go_wp2_with fail
    replace D6 := D6.below hB7
    replace P6 := P6.below hB7
    replace DT := DT.below hB7
    replace hC6 := chain hC6 hB7
    replace hR6 := hR6.below hB7
    clear hmk hcv hB7
    have hW : Below W7.heap.size W7 W7.drew := (Below.refl _ _).drew
    have D := D6.below hW
    have P := P6.below hW
    have R := hR6.below hW
    have hC := chain hC6 hW
    have T := DT.below hW
    clear D6 P6 hR6 hC6 hW
    have hS0 : (fun u => u.cell? ⟨w2.heap.size, 0, none⟩ = some (.slice la ln lc) ∧ u.cell? ⟨w2.heap.size, 1, none⟩ = some (.slice sa sn sc) ∧ u.cell? ⟨w2.heap.size, 2, none⟩ = some (.slice oa on oc)) W7.drew := P.three
    refine wp_region_heldH (S := (fun u => u.cell? ⟨w2.heap.size, 0, none⟩ = some (.slice la ln lc) ∧ u.cell? ⟨w2.heap.size, 1, none⟩ = some (.slice sa sn sc) ∧ u.cell? ⟨w2.heap.size, 2, none⟩ = some (.slice oa on oc))) 7 (by kernel_rfl) rfl ?_
    generalize W7.drew = u0 at *
    refine takeL (i := 1) (v := ?vq106) rfl (by kernel_rfl) (by kernel_rfl) (by kernel_rfl) (fun _ _ _ h => h) (Or.inl ⟨by rfl, ?hyq106⟩) (by assumption) ?restq106
    case hyq106 => (intro u hu; (try dsimp only at hu); go_simp <;> with_reducible rfl)
    try simp only [Act.put, List.setIfInBounds_toArray, List.set_cons_zero, List.set_cons_succ]
    refine takeL (i := 2) (v := ?vq107) rfl (by kernel_rfl) (by kernel_rfl) (by kernel_rfl) (fun _ _ _ h => h) (Or.inl ⟨by rfl, ?hyq107⟩) (by assumption) ?restq107
    case hyq107 => (intro u hu; (try dsimp only at hu); go_simp <;> with_reducible rfl)
    try simp only [Act.put, List.setIfInBounds_toArray, List.set_cons_zero, List.set_cons_succ]
    refine takeL (i := 0) (v := ?vq108) rfl (by kernel_rfl) (by kernel_rfl) (by kernel_rfl) (fun _ _ _ h => h) (Or.inl ⟨by rfl, ?hyq108⟩) (by assumption) ?restq108
    case hyq108 => (intro u hu; (try dsimp only at hu); go_simp <;> with_reducible rfl)
    try simp only [Act.put, List.setIfInBounds_toArray, List.set_cons_zero, List.set_cons_succ]
    refine oneL (i := 3) (by kernel_rfl) rfl (fun K hK => ?_)
    go_simp
    refine (spec_text (w.heap.size + 1) _ R).mono ?_
    rintro e u1 ⟨⟨tx, rfl, htx⟩, R', hg⟩
    replace D := D.grown hg (by omega)
    replace P := P.grown hg (by omega)
    replace T := T.low hg (by omega)
    replace hC := below_grown hC hg (by omega)
    dsimp only
    refine hK.out _ _ P.three (fun hHeld => ?_)
    clear hK K
    try simp only [Act.put, List.setIfInBounds_toArray, List.set_cons_zero, List.set_cons_succ]
    obtain ⟨⟨y0, y1, y2⟩, e0, e1, e2⟩ := blk_three D
    refine oneL (i := 4) (by kernel_rfl) rfl (fun K hK => ?_)
    go_simp
    have E8 := D.put3 (x := .slice la ln lc) (y := .slice sa sn sc) (z := .slice oa on oc)
    have hg8 := grown_put3 u1 w.heap.size (.slice la ln lc) (.slice sa sn sc) (.slice oa on oc)
    have P8 := P.grown hg8 (by omega)
    have T8 := T.low hg8 (by omega)
    have C8 := below_grown hC hg8 (Nat.le_refl _)
    refine hK.out _ _ P8.three (fun hHeld => ?_)
    clear hK K
    try simp only [Act.put, List.setIfInBounds_toArray, List.set_cons_zero, List.set_cons_succ]
    clear y0 y1 y2 e0 e1 e2
    generalize ((u1.setCell ⟨w.heap.size, 0, none⟩ (.slice la ln lc)).setCell ⟨w.heap.size, 1, none⟩ (.slice sa sn sc)).setCell ⟨w.heap.size, 2, none⟩ (.slice oa on oc) = W8 at *
    refine takeL (i := 5) (v := ?vq109) rfl (by kernel_rfl) (by kernel_rfl) (by kernel_rfl) (fun _ _ _ h => h) (Or.inl ⟨by rfl, ?hyq109⟩) (by assumption) ?restq109
    case hyq109 => (intro u hu; (try dsimp only at hu); go_simp <;> with_reducible rfl)
    try simp only [Act.put, List.setIfInBounds_toArray, List.set_cons_zero, List.set_cons_succ]
    refine takeL (i := 6) (v := ?vq110) rfl (by kernel_rfl) (by kernel_rfl) (by kernel_rfl) (fun _ _ _ h => h) (Or.inl ⟨by rfl, ?hyq110⟩) (by assumption) ?restq110
    case hyq110 => (intro u hu; (try dsimp only at hu); go_simp <;> with_reducible rfl)
    try simp only [Act.put, List.setIfInBounds_toArray, List.set_cons_zero, List.set_cons_succ]
    refine wpAnyH_done (by kernel_rfl) ?_ _
    go_wp2
    refine bodyPost_ret (results_cell_tmp2 rfl _ W8 w.heap.size _ _ _ _ _ _ rfl E8 Try.underlying27 rfl (by kernel_rfl) rfl rfl) rfl ?_
    exact ⟨⟨_, d, str, tx, rfl, T8.mono (by omega), hd, (by omega), htx⟩, C8⟩

theorem put4K {w : World} {b : Nat} {c0 c1 c2 c3 : Value} {t : TypeId} (h : Blk w b #[c0, c1, c2, c3] t) (v0 v1 v2 v3 : Value) :
    Blk ((((w.setCell ⟨b, 0, none⟩ v0).setCell ⟨b, 1, none⟩ v1).setCell ⟨b, 2, none⟩ v2).setCell ⟨b, 3, none⟩ v3) b #[v0, v1, v2, v3] t ∧ w.grownBy ((((w.setCell ⟨b, 0, none⟩ v0).setCell ⟨b, 1, none⟩ v1).setCell ⟨b, 2, none⟩ v2).setCell ⟨b, 3, none⟩ v3) (some b) := by
  refine ⟨?_, grown_set (grown_set (grown_set (grown_set (World.grownBy.refl _ _) _ _) _ _) _ _) _ _⟩
  have := (((h.set 0 v0).set 1 v1).set 2 v2).set 3 v3
  simpa using this
set_option maxHeartbeats 4000000 in
set_option maxRecDepth 100000 in
theorem spec_DrawDo (a : Option Addr) (n cap : Nat) (w : World) (h : CodeAt w a n) (hn : n ≤ 1048576) :
    Calls Try.prog 19 #[.slice a n cap] w fun e w' => (∃ v d o, e = .returned (.tuple #[v, .agg #[.int .i64 o.k, .string o.nm, .string o.tt, .string o.d]]) ∧ DiskT w.heap.size w' v d ∧ DimD d ∧ StrD o ∧ o.d.size ≤ 10000000) ∧ Below w.heap.size w w' := by
  go_enter Try.func19, Try.ntmps19
  go_wp2_with fail
  have hA0 : Below w.heap.size w ((w.alloc (.cells #[.slice none 0 0, .slice none 0 0, .slice none 0 0] 27)).alloc (.cells #[.int .i64 0, .string ⟨#[]⟩, .string ⟨#[]⟩, .string ⟨#[]⟩] 36)) := by go_grown
  have D0 := (Blk.new w #[.slice none 0 0, .slice none 0 0, .slice none 0 0] 27).alloc (.cells #[.int .i64 0, .string ⟨#[]⟩, .string ⟨#[]⟩, .string ⟨#[]⟩] 36)
  have O0 : Blk ((w.alloc (.cells #[.slice none 0 0, .slice none 0 0, .slice none 0 0] 27)).alloc (.cells #[.int .i64 0, .string ⟨#[]⟩, .string ⟨#[]⟩, .string ⟨#[]⟩] 36)) (w.heap.size + 1) #[.int .i64 0, .string ⟨#[]⟩, .string ⟨#[]⟩, .string ⟨#[]⟩] 36 := Blk.new' _ _ _ _ (by simp)
  have hz0 : ((w.alloc (.cells #[.slice none 0 0, .slice none 0 0, .slice none 0 0] 27)).alloc (.cells #[.int .i64 0, .string ⟨#[]⟩, .string ⟨#[]⟩, .string ⟨#[]⟩] 36)).heap.size = w.heap.size + 2 := by simp
  have h0 := h.below hA0
  generalize (w.alloc (.cells #[.slice none 0 0, .slice none 0 0, .slice none 0 0] 27)).alloc (.cells #[.int .i64 0, .string ⟨#[]⟩, .string ⟨#[]⟩, .string ⟨#[]⟩] 36) = w0 at *
  refine (spec_l1Open a n cap w0 h0 hn).mono ?_
  rintro e w1 ⟨rfl, hR1, hB1⟩
  rw [hz0] at hR1 ⊢
  have D1 := D0.below hB1
  have O1 := O0.below hB1
  have hC1 := chain hA0 hB1
  have hs1 := hR1.lt
  clear D0 O0 hB1 hA0 h0 hz0 w0
  go_wp2_with fail
  refine (spec_disk (w.heap.size + 2) _ hR1).mono ?_
  rintro e w2 ⟨⟨v, d, rfl, DT, hd⟩, hR2, hg2⟩
  obtain ⟨la, ln, lc, sa, sn, sc, oa, on, oc, rfl⟩ := DT.at.l.cells
  have D2 := D1.grown hg2 (by omega)
  have O2 := O1.grown hg2 (by omega)
  have hC2 := below_grown hC1 hg2 (by omega)
  have hs2 := hg2.size
  replace DT := DT.mono (show w.heap.size + 3 ≤ w1.heap.size by omega)
  clear D1 O1 hC1 hg2 hR1
  have hA3 : Below w2.heap.size w2 (w2.alloc (.cells #[.slice la ln lc, .slice sa sn sc, .slice oa on oc] 27)) := (Below.refl _ _).alloc (Nat.le_refl _) _
  have P3 := Blk.new w2 #[.slice la ln lc, .slice sa sn sc, .slice oa on oc] 27
  have hz3 : (w2.alloc (.cells #[.slice la ln lc, .slice sa sn sc, .slice oa on oc] 27)).heap.size = w2.heap.size + 1 := by simp
  go_wp2_with fail
  have R3 := hR2.below hA3
  have D3 := D2.below hA3
  have O3 := O2.below hA3
  have hC3 := chain hC2 hA3
  replace DT := DT.below hA3
  obtain ⟨pb, hpb⟩ : ∃ pb, pb = w2.heap.size := ⟨_, rfl⟩
  rw [← hpb] at P3 hz3
  generalize w2.alloc (.cells #[.slice la ln lc, .slice sa sn sc, .slice oa on oc] 27) = w3 at *
  rw [← hpb]
  have hpb2 : w.heap.size + 3 ≤ pb := by omega
  clear hA3 D2 O2 hC2 hR2 hpb
  refine (spec_dop (w.heap.size + 2) _ R3).mono ?_
  rintro e w4 ⟨⟨o, rfl, hso⟩, R4, hg4⟩
  have D4 := D3.grown hg4 (by omega)
  have O4 := O3.grown hg4 (by omega)
  have P4 := P3.grown hg4 (by omega)
  have hC4 := below_grown hC3 hg4 (by omega)
  replace DT := DT.low hg4 (by omega)
  have hz4 : pb + 1 ≤ w4.heap.size := by have := hg4.size; omega
  clear D3 O3 P3 hC3 hg4 R3 hz3
  have hA5 : Below w4.heap.size w4 (w4.alloc (.cells #[.int .i64 o.k, .string o.nm, .string o.tt, .string o.d] 36)) := (Below.refl _ _).alloc (Nat.le_refl _) _
  have Q5 := Blk.new w4 #[.int .i64 o.k, .string o.nm, .string o.tt, .string o.d] 36
  go_wp2_with fail
  have R5 := R4.below hA5
  have D5 := D4.below hA5
  have O5 := O4.below hA5
  have P5 := P4.below hA5
  have hC5 := chain hC4 hA5
  have DT4 := DT
  have G4 := grown_below (grown_refl w4 (w.heap.size + 2)) hA5
  replace DT := DT.below hA5
  obtain ⟨qb, hqb⟩ : ∃ qb, qb = w4.heap.size := ⟨_, rfl⟩
  rw [← hqb] at Q5
  generalize w4.alloc (.cells #[.int .i64 o.k, .string o.nm, .string o.tt, .string o.d] 36) = w5 at *
  rw [← hqb]
  have hqb2 : pb + 1 ≤ qb := by omega
  have hqb3 : w4.heap.size ≤ qb := by omega
  clear hA5 D4 O4 P4 hC4 R4 hqb hz4
  have hso2 := hso.ok
  refine (spec_belowN (w.heap.size + 2) 20 _ R5 (by omega) (by omega)).mono ?_
  rintro e w6 ⟨⟨x, rfl, hx⟩, R6, hg6⟩
  have D := D5.grown hg6 (by omega)
  have O := O5.grown hg6 (by omega)
  have P := P5.grown hg6 (by omega)
  have Q := Q5.grown hg6 (by omega)
  have hC := below_grown hC5 hg6 (by omega)
  replace DT := DT.low hg6 (by omega)
  replace G4 := grown_trans G4 hg6
  clear D5 O5 P5 Q5 hC5 hg6 R5
  by_cases hx0 : x = 0
  · subst hx0
    go_wp2_with fail
    refine (spec_off (w.heap.size + 2) 1 3 _ R6 (by omega) (by omega) (by omega)).mono ?_
    rintro e w6b ⟨⟨kv, rfl, _, _⟩, R6b, hg6b⟩
    replace D := D.grown hg6b (by omega)
    replace O := O.grown hg6b (by omega)
    replace P := P.grown hg6b (by omega)
    replace Q := Q.grown hg6b (by omega)
    replace hC := below_grown hC hg6b (by omega)
    replace G4 := grown_trans G4 hg6b
    obtain ⟨z0, z1, z2, z3⟩ := blk_four Q
    have g0 := Q.frozen 0
    have g1 := Q.frozen 1
    have g2 := Q.frozen 2
    have g3 := Q.frozen 3
    go_wp2_with fail
    have hgq : w6b.grownBy (w6b.setCell ⟨qb, 0, none⟩ (.int .i64 kv)) (some qb) := grown_set (World.grownBy.refl _ _) _ _
    replace D := D.grown hgq (by omega)
    replace O := O.grown hgq (by omega)
    replace P := P.grown hgq (by omega)
    replace Q := Q.set 0 (.int .i64 kv)
    simp only [List.setIfInBounds_toArray, List.set_cons_zero] at Q
    replace hC := below_grown hC hgq (by omega)
    replace DT := DT4.low (grown_new G4 hgq hqb3) (by omega)
    generalize w6b.setCell ⟨qb, 0, none⟩ (.int .i64 kv) = w7 at *
    clear hgq z0 z1 z2 z3 g0 g1 g2 g3
    have hW : Below w7.heap.size w7 w7.drew := (Below.refl _ _).drew
    replace D := D.below hW
    replace O := O.below hW
    replace P := P.below hW
    replace Q := Q.below hW
    replace hC := chain hC hW
    replace DT := DT.below hW
    clear hW
    have hS0 : (fun u => u.cell? ⟨pb, 0, none⟩ = some (.slice la ln lc) ∧ u.cell? ⟨pb, 1, none⟩ = some (.slice sa sn sc) ∧ u.cell? ⟨pb, 2, none⟩ = some (.slice oa on oc) ∧ u.cell? ⟨qb, 0, none⟩ = some (.int .i64 kv) ∧ u.cell? ⟨qb, 1, none⟩ = some (.string o.nm) ∧ u.cell? ⟨qb, 2, none⟩ = some (.string o.tt) ∧ u.cell? ⟨qb, 3, none⟩ = some (.string o.d)) w7.drew := ⟨P.three.1, P.three.2.1, P.three.2.2, blk_four Q⟩
    refine wp_region_heldH (S := (fun u => u.cell? ⟨pb, 0, none⟩ = some (.slice la ln lc) ∧ u.cell? ⟨pb, 1, none⟩ = some (.slice sa sn sc) ∧ u.cell? ⟨pb, 2, none⟩ = some (.slice oa on oc) ∧ u.cell? ⟨qb, 0, none⟩ = some (.int .i64 kv) ∧ u.cell? ⟨qb, 1, none⟩ = some (.string o.nm) ∧ u.cell? ⟨qb, 2, none⟩ = some (.string o.tt) ∧ u.cell? ⟨qb, 3, none⟩ = some (.string o.d))) 4 (by kernel_rfl) rfl ?_
    generalize w7.drew = u0 at *
    refine takeL (i := 0) (v := ?vq111) rfl (by kernel_rfl) (by kernel_rfl) (by kernel_rfl) (fun _ _ _ h => h) (Or.inl ⟨by rfl, ?hyq111⟩) (by assumption) ?restq111
    case hyq111 => (intro u hu; (try dsimp only at hu); go_simp <;> with_reducible rfl)
    try simp only [Act.put, List.setIfInBounds_toArray, List.set_cons_zero, List.set_cons_succ]
    refine takeL (i := 1) (v := ?vq112) rfl (by kernel_rfl) (by kernel_rfl) (by kernel_rfl) (fun _ _ _ h => h) (Or.inl ⟨by rfl, ?hyq112⟩) (by assumption) ?restq112
    case hyq112 => (intro u hu; (try dsimp only at hu); go_simp <;> with_reducible rfl)
    try simp only [Act.put, List.setIfInBounds_toArray, List.set_cons_zero, List.set_cons_succ]
    obtain ⟨⟨y0, y1, y2⟩, e0, e1, e2⟩ := blk_three D
    refine oneL (i := 2) (by kernel_rfl) rfl (fun K hK => ?_)
    go_simp
    have D8 := D.put3 (x := .slice la ln lc) (y := .slice sa sn sc) (z := .slice oa on oc)
    have hg8 := grown_put3 u0 w.heap.size (.slice la ln lc) (.slice sa sn sc) (.slice oa on oc)
    have P8 := P.grown hg8 (by omega)
    have Q8 := Q.grown hg8 (by omega)
    have O8 := O.grown hg8 (by omega)
    have T8 := DT.low hg8 (by omega)
    have C8 := below_grown hC hg8 (Nat.le_refl _)
    refine hK.out _ _ ⟨P8.three.1, P8.three.2.1, P8.three.2.2, blk_four Q8⟩ (fun hHeld => ?_)
    clear hK K
    try simp only [Act.put, List.setIfInBounds_toArray, List.set_cons_zero, List.set_cons_succ]
    clear y0 y1 y2 e0 e1 e2
    generalize ((u0.setCell ⟨w.heap.size, 0, none⟩ (.slice la ln lc)).setCell ⟨w.heap.size, 1, none⟩ (.slice sa sn sc)).setCell ⟨w.heap.size, 2, none⟩ (.slice oa on oc) = W8 at *
    clear hg8
    obtain ⟨y0, y1, y2, y3⟩ := blk_four O8
    have e0 := O8.frozen 0
    have e1 := O8.frozen 1
    have e2 := O8.frozen 2
    have e3 := O8.frozen 3
    refine oneL (i := 3) (by kernel_rfl) rfl (fun K hK => ?_)
    go_simp
    obtain ⟨O9, hg9⟩ := put4K O8 (.int .i64 kv) (.string o.nm) (.string o.tt) (.string o.d)
    have D9 := D8.grown hg9 (by omega)
    have P9 := P8.grown hg9 (by omega)
    have Q9 := Q8.grown hg9 (by omega)
    have T9 := T8.low hg9 (by omega)
    have C9 := below_grown C8 hg9 (by omega)
    refine hK.out _ _ ⟨P9.three.1, P9.three.2.1, P9.three.2.2, blk_four Q9⟩ (fun hHeld => ?_)
    clear hK K
    try simp only [Act.put, List.setIfInBounds_toArray, List.set_cons_zero, List.set_cons_succ]
    clear y0 y1 y2 y3 e0 e1 e2 e3
    generalize (((W8.setCell ⟨w.heap.size + 1, 0, none⟩ (.int .i64 kv)).setCell ⟨w.heap.size + 1, 1, none⟩ (.string o.nm)).setCell ⟨w.heap.size + 1, 2, none⟩ (.string o.tt)).setCell ⟨w.heap.size + 1, 3, none⟩ (.string o.d) = W9 at *
    refine wpAnyH_done (by kernel_rfl) ?_ _
    go_wp2
    refine bodyPost_ret (results_cell2K rfl _ W9 w.heap.size _ _ (w.heap.size + 1) _ _ _ _ rfl rfl D9 O9 Try.underlying27 Try.underlying36 rfl rfl (by kernel_rfl) (by kernel_rfl)) rfl ?_
    exact ⟨⟨_, d, ⟨kv, o.nm, o.tt, o.d⟩, rfl, T9.mono (by omega), hd, hso2.1, hso2.2⟩, C9⟩
  · have hx0b : ((x : Int) == 0) = false := by simp; omega
    by_cases hx1 : x = 1
    · subst hx1
      obtain ⟨z0, z1, z2, z3⟩ := blk_four Q
      have g0 := Q.frozen 0
      have g1 := Q.frozen 1
      have g2 := Q.frozen 2
      have g3 := Q.frozen 3
      go_wp2_with fail
      have hgq : w6.grownBy (w6.setCell ⟨qb, 1, none⟩ (.string ⟨#[]⟩)) (some qb) := grown_set (World.grownBy.refl _ _) _ _
      replace D := D.grown hgq (by omega)
      replace O := O.grown hgq (by omega)
      replace P := P.grown hgq (by omega)
      replace Q := Q.set 1 (.string ⟨#[]⟩)
      simp only [List.setIfInBounds_toArray, List.set_cons_zero, List.set_cons_succ] at Q
      replace hC := below_grown hC hgq (by omega)
      replace DT := DT4.low (grown_new G4 hgq hqb3) (by omega)
      generalize w6.setCell ⟨qb, 1, none⟩ (.string ⟨#[]⟩) = w7 at *
      clear hgq z0 z1 z2 z3 g0 g1 g2 g3
      have hW : Below w7.heap.size w7 w7.drew := (Below.refl _ _).drew
      replace D := D.below hW
      replace O := O.below hW
      replace P := P.below hW
      replace Q := Q.below hW
      replace hC := chain hC hW
      replace DT := DT.below hW
      clear hW
      have hS0 : (fun u => u.cell? ⟨pb, 0, none⟩ = some (.slice la ln lc) ∧ u.cell? ⟨pb, 1, none⟩ = some (.slice sa sn sc) ∧ u.cell? ⟨pb, 2, none⟩ = some (.slice oa on oc) ∧ u.cell? ⟨qb, 0, none⟩ = some (.int .i64 o.k) ∧ u.cell? ⟨qb, 1, none⟩ = some (.string ⟨#[]⟩) ∧ u.cell? ⟨qb, 2, none⟩ = some (.string o.tt) ∧ u.cell? ⟨qb, 3, none⟩ = some (.string o.d)) w7.drew := ⟨P.three.1, P.three.2.1, P.three.2.2, blk_four Q⟩
      refine wp_region_heldH (S := (fun u => u.cell? ⟨pb, 0, none⟩ = some (.slice la ln lc) ∧ u.cell? ⟨pb, 1, none⟩ = some (.slice sa sn sc) ∧ u.cell? ⟨pb, 2, none⟩ = some (.slice oa on oc) ∧ u.cell? ⟨qb, 0, none⟩ = some (.int .i64 o.k) ∧ u.cell? ⟨qb, 1, none⟩ = some (.string ⟨#[]⟩) ∧ u.cell? ⟨qb, 2, none⟩ = some (.string o.tt) ∧ u.cell? ⟨qb, 3, none⟩ = some (.string o.d))) 4 (by kernel_rfl) rfl ?_
      generalize w7.drew = u0 at *
      refine takeL (i := 0) (v := ?vq113) rfl (by kernel_rfl) (by kernel_rfl) (by kernel_rfl) (fun _ _ _ h => h) (Or.inl ⟨by rfl, ?hyq113⟩) (by assumption) ?restq113
      case hyq113 => (intro u hu; (try dsimp only at hu); go_simp <;> with_reducible rfl)
      try simp only [Act.put, List.setIfInBounds_toArray, List.set_cons_zero, List.set_cons_succ]
      refine takeL (i := 1) (v := ?vq114) rfl (by kernel_rfl) (by kernel_rfl) (by kernel_rfl) (fun _ _ _ h => h) (Or.inl ⟨by rfl, ?hyq114⟩) (by assumption) ?restq114
      case hyq114 => (intro u hu; (try dsimp only at hu); go_simp <;> with_reducible rfl)
      try simp only [Act.put, List.setIfInBounds_toArray, List.set_cons_zero, List.set_cons_succ]
      obtain ⟨⟨y0, y1, y2⟩, e0, e1, e2⟩ := blk_three D
      refine oneL (i := 2) (by kernel_rfl) rfl (fun K hK => ?_)
      go_simp
      have D8 := D.put3 (x := .slice la ln lc) (y := .slice sa sn sc) (z := .slice oa on oc)
      have hg8 := grown_put3 u0 w.heap.size (.slice la ln lc) (.slice sa sn sc) (.slice oa on oc)
      have P8 := P.grown hg8 (by omega)
      have Q8 := Q.grown hg8 (by omega)
      have O8 := O.grown hg8 (by omega)
      have T8 := DT.low hg8 (by omega)
      have C8 := below_grown hC hg8 (Nat.le_refl _)
      refine hK.out _ _ ⟨P8.three.1, P8.three.2.1, P8.three.2.2, blk_four Q8⟩ (fun hHeld => ?_)
      clear hK K
      try simp only [Act.put, List.setIfInBounds_toArray, List.set_cons_zero, List.set_cons_succ]
      clear y0 y1 y2 e0 e1 e2
      generalize ((u0.setCell ⟨w.heap.size, 0, none⟩ (.slice la ln lc)).setCell ⟨w.heap.size, 1, none⟩ (.slice sa sn sc)).setCell ⟨w.heap.size, 2, none⟩ (.slice oa on oc) = W8 at *
      clear hg8
      obtain ⟨y0, y1, y2, y3⟩ := blk_four O8
      have e0 := O8.frozen 0
      have e1 := O8.frozen 1
      have e2 := O8.frozen 2
      have e3 := O8.frozen 3
      refine oneL (i := 3) (by kernel_rfl) rfl (fun K hK => ?_)
      go_simp
      obtain ⟨O9, hg9⟩ := put4K O8 (.int .i64 o.k) (.string ⟨#[]⟩) (.string o.tt) (.string o.d)
      have D9 := D8.grown hg9 (by omega)
      have P9 := P8.grown hg9 (by omega)
      have Q9 := Q8.grown hg9 (by omega)
      have T9 := T8.low hg9 (by omega)
      have C9 := below_grown C8 hg9 (by omega)
      refine hK.out _ _ ⟨P9.three.1, P9.three.2.1, P9.three.2.2, blk_four Q9⟩ (fun hHeld => ?_)
      clear hK K
      try simp only [Act.put, List.setIfInBounds_toArray, List.set_cons_zero, List.set_cons_succ]
      clear y0 y1 y2 y3 e0 e1 e2 e3
      generalize (((W8.setCell ⟨w.heap.size + 1, 0, none⟩ (.int .i64 o.k)).setCell ⟨w.heap.size + 1, 1, none⟩ (.string ⟨#[]⟩)).setCell ⟨w.heap.size + 1, 2, none⟩ (.string o.tt)).setCell ⟨w.heap.size + 1, 3, none⟩ (.string o.d) = W9 at *
      refine wpAnyH_done (by kernel_rfl) ?_ _
      go_wp2
      refine bodyPost_ret (results_cell2K rfl _ W9 w.heap.size _ _ (w.heap.size + 1) _ _ _ _ rfl rfl D9 O9 Try.underlying27 Try.underlying36 rfl rfl (by kernel_rfl) (by kernel_rfl)) rfl ?_
      exact ⟨⟨_, d, ⟨o.k, ⟨#[]⟩, o.tt, o.d⟩, rfl, T9.mono (by omega), hd, ⟨by show (⟨#[]⟩ : ByteArray).size ≤ _; decide, hso2.1.2.1, hso2.1.2.2⟩, hso2.2⟩, C9⟩
    · have hx1b : ((x : Int) == 1) = false := by simp; omega
      by_cases hx2 : x = 2
      · subst hx2
        obtain ⟨z0, z1, z2, z3⟩ := blk_four Q
        have g0 := Q.frozen 0
        have g1 := Q.frozen 1
        have g2 := Q.frozen 2
        have g3 := Q.frozen 3
        go_wp2_with fail
        have hgq : w6.grownBy (w6.setCell ⟨qb, 2, none⟩ (.string ⟨#[120]⟩)) (some qb) := grown_set (World.grownBy.refl _ _) _ _
        replace D := D.grown hgq (by omega)
        replace O := O.grown hgq (by omega)
        replace P := P.grown hgq (by omega)
        replace Q := Q.set 2 (.string ⟨#[120]⟩)
        simp only [List.setIfInBounds_toArray, List.set_cons_zero, List.set_cons_succ] at Q
        replace hC := below_grown hC hgq (by omega)
        replace DT := DT4.low (grown_new G4 hgq hqb3) (by omega)
        generalize w6.setCell ⟨qb, 2, none⟩ (.string ⟨#[120]⟩) = w7 at *
        clear hgq z0 z1 z2 z3 g0 g1 g2 g3
        have hW : Below w7.heap.size w7 w7.drew := (Below.refl _ _).drew
        replace D := D.below hW
        replace O := O.below hW
        replace P := P.below hW
        replace Q := Q.below hW
        replace hC := chain hC hW
        replace DT := DT.below hW
        clear hW
        have hS0 : (fun u => u.cell? ⟨pb, 0, none⟩ = some (.slice la ln lc) ∧ u.cell? ⟨pb, 1, none⟩ = some (.slice sa sn sc) ∧ u.cell? ⟨pb, 2, none⟩ = some (.slice oa on oc) ∧ u.cell? ⟨qb, 0, none⟩ = some (.int .i64 o.k) ∧ u.cell? ⟨qb, 1, none⟩ = some (.string o.nm) ∧ u.cell? ⟨qb, 2, none⟩ = some (.string ⟨#[120]⟩) ∧ u.cell? ⟨qb, 3, none⟩ = some (.string o.d)) w7.drew := ⟨P.three.1, P.three.2.1, P.three.2.2, blk_four Q⟩
        refine wp_region_heldH (S := (fun u => u.cell? ⟨pb, 0, none⟩ = some (.slice la ln lc) ∧ u.cell? ⟨pb, 1, none⟩ = some (.slice sa sn sc) ∧ u.cell? ⟨pb, 2, none⟩ = some (.slice oa on oc) ∧ u.cell? ⟨qb, 0, none⟩ = some (.int .i64 o.k) ∧ u.cell? ⟨qb, 1, none⟩ = some (.string o.nm) ∧ u.cell? ⟨qb, 2, none⟩ = some (.string ⟨#[120]⟩) ∧ u.cell? ⟨qb, 3, none⟩ = some (.string o.d))) 4 (by kernel_rfl) rfl ?_
        generalize w7.drew = u0 at *
        refine takeL (i := 0) (v := ?vq115) rfl (by kernel_rfl) (by kernel_rfl) (by kernel_rfl) (fun _ _ _ h => h) (Or.inl ⟨by rfl, ?hyq115⟩) (by assumption) ?restq115
        case hyq115 => (intro u hu; (try dsimp only at hu); go_simp <;> with_reducible rfl)
        try simp only [Act.put, List.setIfInBounds_toArray, List.set_cons_zero, List.set_cons_succ]
        refine takeL (i := 1) (v := ?vq116) rfl (by kernel_rfl) (by kernel_rfl) (by kernel_rfl) (fun _ _ _ h => h) (Or.inl ⟨by rfl, ?hyq116⟩) (by assumption) ?restq116
        case hyq116 => (intro u hu; (try dsimp only at hu); go_simp <;> with_reducible rfl)
        try simp only [Act.put, List.setIfInBounds_toArray, List.set_cons_zero, List.set_cons_succ]
        obtain ⟨⟨y0, y1, y2⟩, e0, e1, e2⟩ := blk_three D
        refine oneL (i := 2) (by kernel_rfl) rfl (fun K hK => ?_)
        go_simp
        have D8 := D.put3 (x := .slice la ln lc) (y := .slice sa sn sc) (z := .slice oa on oc)
        have hg8 := grown_put3 u0 w.heap.size (.slice la ln lc) (.slice sa sn sc) (.slice oa on oc)
        have P8 := P.grown hg8 (by omega)
        have Q8 := Q.grown hg8 (by omega)
        have O8 := O.grown hg8 (by omega)
        have T8 := DT.low hg8 (by omega)
        have C8 := below_grown hC hg8 (Nat.le_refl _)
        refine hK.out _ _ ⟨P8.three.1, P8.three.2.1, P8.three.2.2, blk_four Q8⟩ (fun hHeld => ?_)
        clear hK K
        try simp only [Act.put, List.setIfInBounds_toArray, List.set_cons_zero, List.set_cons_succ]
        clear y0 y1 y2 e0 e1 e2
        generalize ((u0.setCell ⟨w.heap.size, 0, none⟩ (.slice la ln lc)).setCell ⟨w.heap.size, 1, none⟩ (.slice sa sn sc)).setCell ⟨w.heap.size, 2, none⟩ (.slice oa on oc) = W8 at *
        clear hg8
        obtain ⟨y0, y1, y2, y3⟩ := blk_four O8
        have e0 := O8.frozen 0
        have e1 := O8.frozen 1
        have e2 := O8.frozen 2
        have e3 := O8.frozen 3
        refine oneL (i := 3) (by kernel_rfl) rfl (fun K hK => ?_)
        go_simp
        obtain ⟨O9, hg9⟩ := put4K O8 (.int .i64 o.k) (.string o.nm) (.string ⟨#[120]⟩) (.string o.d)
        have D9 := D8.grown hg9 (by omega)
        have P9 := P8.grown hg9 (by omega)
        have Q9 := Q8.grown hg9 (by omega)
        have T9 := T8.low hg9 (by omega)
        have C9 := below_grown C8 hg9 (by omega)
        refine hK.out _ _ ⟨P9.three.1, P9.three.2.1, P9.three.2.2, blk_four Q9⟩ (fun hHeld => ?_)
        clear hK K
        try simp only [Act.put, List.setIfInBounds_toArray, List.set_cons_zero, List.set_cons_succ]
        clear y0 y1 y2 y3 e0 e1 e2 e3
        generalize (((W8.setCell ⟨w.heap.size + 1, 0, none⟩ (.int .i64 o.k)).setCell ⟨w.heap.size + 1, 1, none⟩ (.string o.nm)).setCell ⟨w.heap.size + 1, 2, none⟩ (.string ⟨#[120]⟩)).setCell ⟨w.heap.size + 1, 3, none⟩ (.string o.d) = W9 at *
        refine wpAnyH_done (by kernel_rfl) ?_ _
        go_wp2
        refine bodyPost_ret (results_cell2K rfl _ W9 w.heap.size _ _ (w.heap.size + 1) _ _ _ _ rfl rfl D9 O9 Try.underlying27 Try.underlying36 rfl rfl (by kernel_rfl) (by kernel_rfl)) rfl ?_
        exact ⟨⟨_, d, ⟨o.k, o.nm, ⟨#[120]⟩, o.d⟩, rfl, T9.mono (by omega), hd, ⟨hso2.1.1, by show (⟨#[120]⟩ : ByteArray).size ≤ _; decide, hso2.1.2.2⟩, hso2.2⟩, C9⟩
      · have hx2b : ((x : Int) == 2) = false := by simp; omega
        by_cases hx3 : x = 3
        · subst hx3
          go_wp2_with fail
          go_loopw [7] (fun ix wr => ∃ (k : Nat) (d : Dk) (la : Option Addr) (ln lc : Nat) (sa : Option Addr) (sn sc : Nat) (oa : Option Addr) (on oc : Nat), ix = .int .i64 k ∧ k ≤ 200 ∧ Blk wr w.heap.size #[.slice none 0 0, .slice none 0 0, .slice none 0 0] 27 ∧ Blk wr (w.heap.size + 1) #[.int .i64 0, .string ⟨#[]⟩, .string ⟨#[]⟩, .string ⟨#[]⟩] 36 ∧ Blk wr pb #[.slice la ln lc, .slice sa sn sc, .slice oa on oc] 27 ∧ Blk wr qb #[.int .i64 o.k, .string o.nm, .string o.tt, .string o.d] 36 ∧ DiskT (w.heap.size + 3) wr (.agg #[.slice la ln lc, .slice sa sn sc, .slice oa on oc]) d ∧ DimD d ∧ Rd wr (w.heap.size + 2) ∧ Below w.heap.size w wr) (fun ix _ => 200 - (intOf ix).toNat)
          case atStart => exact ⟨0, d, la, ln, lc, sa, sn, sc, oa, on, oc, rfl, by omega, D, O, P, Q, DT, hd, R6, hC⟩
          case round =>
            clear D O P Q DT DT4 G4 hd R6 hC hqb3
            obtain ⟨k, d, la, ln, lc, sa, sn, sc, oa, on, oc, rfl, hk, D, O, P, Q, DT, hd, R, hC⟩ := hrel
            by_cases hk2 : k < 200
            · have hk1 : (k : Int) < 200 := by omega
              go_wp2_with fail
              have hW : Below wr.heap.size wr wr.drew := (Below.refl _ _).drew
              replace D := D.below hW
              replace O := O.below hW
              replace P := P.below hW
              replace Q := Q.below hW
              replace hC := chain hC hW
              replace DT := DT.below hW
              replace R := R.below hW
              clear hW
              have hS0 : (fun u => u.cell? ⟨pb, 2, none⟩ = some (.slice oa on oc)) wr.drew := P.three.2.2
              refine wp_region_heldH (S := (fun u => u.cell? ⟨pb, 2, none⟩ = some (.slice oa on oc))) 11 (by kernel_rfl) rfl ?_
              generalize wr.drew = v0 at *
              refine takeL (i := 0) (v := ?vq117) rfl (by kernel_rfl) (by kernel_rfl) (by kernel_rfl) (fun _ _ _ h => h) (Or.inl ⟨by rfl, ?hyq117⟩) (by assumption) ?restq117
              case hyq117 => (intro u hu; (try dsimp only at hu); go_simp <;> with_reducible rfl)
              try simp only [Act.put, List.setIfInBounds_toArray, List.set_cons_zero, List.set_cons_succ]
              refine takeL (i := 1) (v := ?vq118) rfl (by kernel_rfl) (by kernel_rfl) (by kernel_rfl) (fun _ _ _ h => h) (Or.inl ⟨by rfl, ?hyq118⟩) (by assumption) ?restq118
              case hyq118 => (intro u hu; (try dsimp only at hu); go_simp <;> with_reducible rfl)
              try simp only [Act.put, List.setIfInBounds_toArray, List.set_cons_zero, List.set_cons_succ]
              refine takeL (i := 2) (v := ?vq119) rfl (by kernel_rfl) (by kernel_rfl) (by kernel_rfl) (fun _ _ _ h => h) (Or.inl ⟨by rfl, ?hyq119⟩) (by assumption) ?restq119
              case hyq119 => (intro u hu; (try dsimp only at hu); go_simp <;> with_reducible rfl)
              try simp only [Act.put, List.setIfInBounds_toArray, List.set_cons_zero, List.set_cons_succ]
              refine takeL (i := 3) (v := ?vq120) rfl (by kernel_rfl) (by kernel_rfl) (by kernel_rfl) (fun _ _ _ h => h) (Or.inl ⟨by rfl, ?hyq120⟩) (by assumption) ?restq120
              case hyq120 => (intro u hu; (try dsimp only at hu); go_simp <;> with_reducible rfl)
              try simp only [Act.put, List.setIfInBounds_toArray, List.set_cons_zero, List.set_cons_succ]
              refine takeL (i := 4) (v := ?vq121) rfl (by kernel_rfl) (by kernel_rfl) (by kernel_rfl) (fun _ _ _ h => h) (Or.inl ⟨by rfl, ?hyq121⟩) (by assumption) ?restq121
              case hyq121 => (intro u hu; (try dsimp only at hu); go_simp <;> with_reducible rfl)
              try simp only [Act.put, List.setIfInBounds_toArray, List.set_cons_zero, List.set_cons_succ]
              refine takeL (i := 5) (v := ?vq122) rfl (by kernel_rfl) (by kernel_rfl) (by kernel_rfl) (fun _ _ _ h => h) (Or.inl ⟨by rfl, ?hyq122⟩) (by assumption) ?restq122
              case hyq122 => (intro u hu; (try dsimp only at hu); go_simp <;> with_reducible rfl)
              try simp only [Act.put, List.setIfInBounds_toArray, List.set_cons_zero, List.set_cons_succ]
              refine takeL (i := 6) (v := ?vq123) rfl (by kernel_rfl) (by kernel_rfl) (by kernel_rfl) (fun _ _ _ h => h) (Or.inl ⟨by rfl, ?hyq123⟩) (by assumption) ?restq123
              case hyq123 => (intro u hu; (try dsimp only at hu); go_simp <;> with_reducible rfl)
              try simp only [Act.put, List.setIfInBounds_toArray, List.set_cons_zero, List.set_cons_succ]
              refine oneL (i := 7) (by kernel_rfl) rfl (fun K hK => ?_)
              go_simp
              refine (spec_belowN (w.heap.size + 2) 2 _ R (by omega) (by omega)).mono ?_
              rintro e v1 ⟨⟨y, rfl, hy⟩, R', hg⟩
              replace D := D.grown hg (by omega)
              replace O := O.grown hg (by omega)
              replace P := P.grown hg (by omega)
              replace Q := Q.grown hg (by omega)
              replace DT := DT.low hg (by omega)
              replace hC := below_grown hC hg (by omega)
              replace R := R'
              clear hg R'
              dsimp only
              refine hK.out _ _ P.three.2.2 (fun hHeld => ?_)
              clear hK K
              try simp only [Act.put, List.setIfInBounds_toArray, List.set_cons_zero, List.set_cons_succ]
              refine takeL (i := 8) (v := ?vq124) rfl (by kernel_rfl) (by kernel_rfl) (by kernel_rfl) (fun _ _ _ h => h) (Or.inl ⟨by rfl, ?hyq124⟩) (by assumption) ?restq124
              case hyq124 => (intro u hu; (try dsimp only at hu); go_simp <;> with_reducible rfl)
              try simp only [Act.put, List.setIfInBounds_toArray, List.set_cons_zero, List.set_cons_succ]
              by_cases hon : on < 199 + y
              · have hon1 : decide ((on : Int) < IntKind.i64.wrap (199 + (y : Int))) = true := by rw [IntKind.wrap_i64]; simp; omega
                refine takeL (i := 9) (v := ?vq125) rfl (by kernel_rfl) (by kernel_rfl) (by kernel_rfl) (fun _ _ _ h => h) (Or.inl ⟨by rfl, ?hyq125⟩) (by assumption) ?restq125
                case hyq125 => (intro u hu; (try dsimp only at hu); go_simp <;> with_reducible rfl)
                try simp only [Act.put, List.setIfInBounds_toArray, List.set_cons_zero, List.set_cons_succ]
                refine takeL (i := 10) (v := ?vq126) rfl (by kernel_rfl) (by kernel_rfl) (by kernel_rfl) (fun _ _ _ h => h) (Or.inl ⟨by rfl, ?hyq126⟩) (by assumption) ?restq126
                case hyq126 => (intro u hu; (try dsimp only at hu); go_simp <;> with_reducible rfl)
                try simp only [Act.put, List.setIfInBounds_toArray, List.set_cons_zero, List.set_cons_succ]
                refine wpAnyH_done (by kernel_rfl) ?_ _
                obtain ⟨⟨x0, x1, x2⟩, f0, f1, f2⟩ := blk_three P
                go_wp2_with fail
                refine (spec_DoS _ d ⟨1, ⟨#[98]⟩, ⟨#[]⟩, ⟨#[]⟩⟩ _ DT.at hd ⟨⟨by decide, by decide, by decide⟩, by decide⟩).mono ?_
                rintro e v2 ⟨⟨v4, rfl, R4, _⟩, hB4⟩
                have hK4 : (doD d ⟨1, ⟨#[98]⟩, ⟨#[]⟩, ⟨#[]⟩⟩).2 = 0 → DimD (doD d ⟨1, ⟨#[98]⟩, ⟨#[]⟩, ⟨#[]⟩⟩).1 := fun h0 => dim_do hd ⟨⟨by decide, by decide, by decide⟩, by decide⟩ h0
                have T4 := R4.t.mono (show qb + 1 ≤ v1.heap.size + 1 by have := Q.lt; omega)
                obtain ⟨la4, ln4, lc4, sa4, sn4, sc4, oa4, on4, oc4, rfl⟩ := R4.at.l.cells
                replace D := D.below hB4
                replace O := O.below hB4
                replace P := P.below hB4
                replace Q := Q.below hB4
                replace DT := DT.below hB4
                replace hC := chain hC hB4
                replace R := R.below hB4
                clear hB4 R4 x0 x1 x2 f0 f1 f2
                obtain ⟨DD, hDD⟩ : ∃ DD, doD d ⟨1, ⟨#[98]⟩, ⟨#[]⟩, ⟨#[]⟩⟩ = DD := ⟨_, rfl⟩
                rw [hDD] at hK4 T4 ⊢
                clear hDD
                obtain ⟨d4, c4⟩ := DD
                dsimp only at hK4 T4
                have hA : Below v2.heap.size v2 (v2.alloc (.cells #[.slice la4 ln4 lc4, .slice sa4 sn4 sc4, .slice oa4 on4 oc4] 27)) := (Below.refl _ _).alloc (Nat.le_refl _) _
                have E := Blk.new v2 #[.slice la4 ln4 lc4, .slice sa4 sn4 sc4, .slice oa4 on4 oc4] 27
                have hv2 := P.lt
                by_cases hc4 : c4 = 0
                · subst hc4
                  have hd4 := hK4 rfl
                  clear hK4
                  replace D := D.below hA
                  replace O := O.below hA
                  replace P := P.below hA
                  replace Q := Q.below hA
                  replace T4 := T4.below hA
                  replace hC := chain hC hA
                  replace R := R.below hA
                  obtain ⟨⟨x0, x1, x2⟩, f0, f1, f2⟩ := blk_three P
                  obtain ⟨z0, z1, z2⟩ := E.three
                  have m1 : ¬ pb = v2.heap.size := by omega
                  have m2 : ¬ v2.heap.size = pb := by omega
                  dsimp only
                  iterate 20 (try (first | go_values | go_skip | go_guarded | go_step | go_upon | go_back))
                  generalize v2.alloc (.cells #[.slice la4 ln4 lc4, .slice sa4 sn4 sc4, .slice oa4 on4 oc4] 27) = v3 at *
                  go_wp2
                  have E8 := P.put3 (x := .slice la4 ln4 lc4) (y := .slice sa4 sn4 sc4) (z := .slice oa4 on4 oc4)
                  have hg8 := grown_put3 v3 pb (.slice la4 ln4 lc4) (.slice sa4 sn4 sc4) (.slice oa4 on4 oc4)
                  have T8 := T4.low hg8 (by omega)
                  have D8 := D.grown hg8 (by omega)
                  have O8 := O.grown hg8 (by omega)
                  have Q8 := Q.grown hg8 (by omega)
                  have R8 := R.grown hg8 (by omega)
                  have C8 := below_grown hC hg8 (by omega)
                  go_roundw
                  case rel => exact ⟨k + 1, d4, la4, ln4, lc4, sa4, sn4, sc4, oa4, on4, oc4, by go_num, by omega, D8, O8, E8, Q8, T8.mono (by omega), hd4, R8, C8⟩
                  case measure => simp [intOf]; omega
                · have hc5 : (c4 == 0) = false := by simpa using hc4
                  clear hK4
                  go_wp2
                  go_roundw
                  case rel => exact ⟨k + 1, d, la, ln, lc, sa, sn, sc, oa, on, oc, by go_num, by omega, D.below hA, O.below hA, P.below hA, Q.below hA, DT.below hA, hd, R.below hA, chain hC hA⟩
                  case measure => simp [intOf]; omega
              · have hon1 : decide ((on : Int) < IntKind.i64.wrap (199 + (y : Int))) = false := by rw [IntKind.wrap_i64]; simp; omega
                refine takeL (i := 9) (v := ?vq127) rfl (by kernel_rfl) (by kernel_rfl) (by kernel_rfl) (fun _ _ _ h => h) (Or.inl ⟨by rfl, ?hyq127⟩) (by assumption) ?restq127
                case hyq127 => (intro u hu; (try dsimp only at hu); go_simp <;> with_reducible rfl)
                try simp only [Act.put, List.setIfInBounds_toArray, List.set_cons_zero, List.set_cons_succ]
                refine takeL (i := 10) (v := ?vq128) rfl (by kernel_rfl) (by kernel_rfl) (by kernel_rfl) (fun _ _ _ h => h) (Or.inl ⟨by rfl, ?hyq128⟩) (by assumption) ?restq128
                case hyq128 => (intro u hu; (try dsimp only at hu); go_simp <;> with_reducible rfl)
                try simp only [Act.put, List.setIfInBounds_toArray, List.set_cons_zero, List.set_cons_succ]
                refine wpAnyH_done (by kernel_rfl) ?_ _
                go_wp2_with fail
                have hW : Below v1.heap.size v1 v1.drew := (Below.refl _ _).drew
                replace D := D.below hW
                replace O := O.below hW
                replace P := P.below hW
                replace Q := Q.below hW
                replace hC := chain hC hW
                replace DT := DT.below hW
                clear hW
                have hS0 : (fun u => u.cell? ⟨pb, 0, none⟩ = some (.slice la ln lc) ∧ u.cell? ⟨pb, 1, none⟩ = some (.slice sa sn sc) ∧ u.cell? ⟨pb, 2, none⟩ = some (.slice oa on oc) ∧ u.cell? ⟨qb, 0, none⟩ = some (.int .i64 o.k) ∧ u.cell? ⟨qb, 1, none⟩ = some (.string o.nm) ∧ u.cell? ⟨qb, 2, none⟩ = some (.string o.tt) ∧ u.cell? ⟨qb, 3, none⟩ = some (.string o.d)) v1.drew := ⟨P.three.1, P.three.2.1, P.three.2.2, blk_four Q⟩
                refine wp_region_heldH (S := (fun u => u.cell? ⟨pb, 0, none⟩ = some (.slice la ln lc) ∧ u.cell? ⟨pb, 1, none⟩ = some (.slice sa sn sc) ∧ u.cell? ⟨pb, 2, none⟩ = some (.slice oa on oc) ∧ u.cell? ⟨qb, 0, none⟩ = some (.int .i64 o.k) ∧ u.cell? ⟨qb, 1, none⟩ = some (.string o.nm) ∧ u.cell? ⟨qb, 2, none⟩ = some (.string o.tt) ∧ u.cell? ⟨qb, 3, none⟩ = some (.string o.d))) 4 (by kernel_rfl) rfl ?_
                generalize v1.drew = u0 at *
                refine takeL (i := 0) (v := ?vq129) rfl (by kernel_rfl) (by kernel_rfl) (by kernel_rfl) (fun _ _ _ h => h) (Or.inl ⟨by rfl, ?hyq129⟩) (by assumption) ?restq129
                case hyq129 => (intro u hu; (try dsimp only at hu); go_simp <;> with_reducible rfl)
                try simp only [Act.put, List.setIfInBounds_toArray, List.set_cons_zero, List.set_cons_succ]
                refine takeL (i := 1) (v := ?vq130) rfl (by kernel_rfl) (by kernel_rfl) (by kernel_rfl) (fun _ _ _ h => h) (Or.inl ⟨by rfl, ?hyq130⟩) (by assumption) ?restq130
                case hyq130 => (intro u hu; (try dsimp only at hu); go_simp <;> with_reducible rfl)
                try simp only [Act.put, List.setIfInBounds_toArray, List.set_cons_zero, List.set_cons_succ]
                obtain ⟨⟨y0, y1, y2⟩, e0, e1, e2⟩ := blk_three D
                refine oneL (i := 2) (by kernel_rfl) rfl (fun K hK => ?_)
                go_simp
                have D8 := D.put3 (x := .slice la ln lc) (y := .slice sa sn sc) (z := .slice oa on oc)
                have hg8 := grown_put3 u0 w.heap.size (.slice la ln lc) (.slice sa sn sc) (.slice oa on oc)
                have P8 := P.grown hg8 (by omega)
                have Q8 := Q.grown hg8 (by omega)
                have O8 := O.grown hg8 (by omega)
                have T8 := DT.low hg8 (by omega)
                have C8 := below_grown hC hg8 (Nat.le_refl _)
                refine hK.out _ _ ⟨P8.three.1, P8.three.2.1, P8.three.2.2, blk_four Q8⟩ (fun hHeld => ?_)
                clear hK K
                try simp only [Act.put, List.setIfInBounds_toArray, List.set_cons_zero, List.set_cons_succ]
                clear y0 y1 y2 e0 e1 e2
                generalize ((u0.setCell ⟨w.heap.size, 0, none⟩ (.slice la ln lc)).setCell ⟨w.heap.size, 1, none⟩ (.slice sa sn sc)).setCell ⟨w.heap.size, 2, none⟩ (.slice oa on oc) = W8 at *
                clear hg8
                obtain ⟨y0, y1, y2, y3⟩ := blk_four O8
                have e0 := O8.frozen 0
                have e1 := O8.frozen 1
                have e2 := O8.frozen 2
                have e3 := O8.frozen 3
                refine oneL (i := 3) (by kernel_rfl) rfl (fun K hK => ?_)
                go_simp
                obtain ⟨O9, hg9⟩ := put4K O8 (.int .i64 o.k) (.string o.nm) (.string o.tt) (.string o.d)
                have D9 := D8.grown hg9 (by omega)
                have P9 := P8.grown hg9 (by omega)
                have Q9 := Q8.grown hg9 (by omega)
                have T9 := T8.low hg9 (by omega)
                have C9 := below_grown C8 hg9 (by omega)
                refine hK.out _ _ ⟨P9.three.1, P9.three.2.1, P9.three.2.2, blk_four Q9⟩ (fun hHeld => ?_)
                clear hK K
                try simp only [Act.put, List.setIfInBounds_toArray, List.set_cons_zero, List.set_cons_succ]
                clear y0 y1 y2 y3 e0 e1 e2 e3
                generalize (((W8.setCell ⟨w.heap.size + 1, 0, none⟩ (.int .i64 o.k)).setCell ⟨w.heap.size + 1, 1, none⟩ (.string o.nm)).setCell ⟨w.heap.size + 1, 2, none⟩ (.string o.tt)).setCell ⟨w.heap.size + 1, 3, none⟩ (.string o.d) = W9 at *
                refine wpAnyH_done (by kernel_rfl) ?_ _
                go_wp2
                refine bodyPost_ret (results_cell2K rfl _ W9 w.heap.size _ _ (w.heap.size + 1) _ _ _ _ rfl rfl D9 O9 Try.underlying27 Try.underlying36 rfl rfl (by kernel_rfl) (by kernel_rfl)) rfl ?_
                exact ⟨⟨_, d, o, rfl, T9.mono (by omega), hd, hso2.1, hso2.2⟩, C9⟩
            · have hk1 : decide ((k : Int) < 200) = false := by simp; omega
              go_wp2_with fail
              have hW : Below wr.heap.size wr wr.drew := (Below.refl _ _).drew
              replace D := D.below hW
              replace O := O.below hW
              replace P := P.below hW
              replace Q := Q.below hW
              replace hC := chain hC hW
              replace DT := DT.below hW
              replace R := R.below hW
              clear hW
              have hS0 : (fun u => u.cell? ⟨pb, 2, none⟩ = some (.slice oa on oc)) wr.drew := P.three.2.2
              refine wp_region_heldH (S := (fun u => u.cell? ⟨pb, 2, none⟩ = some (.slice oa on oc))) 11 (by kernel_rfl) rfl ?_
              generalize wr.drew = v0 at *
              refine takeL (i := 0) (v := ?vq131) rfl (by kernel_rfl) (by kernel_rfl) (by kernel_rfl) (fun _ _ _ h => h) (Or.inl ⟨by rfl, ?hyq131⟩) (by assumption) ?restq131
              case hyq131 => (intro u hu; (try dsimp only at hu); go_simp <;> with_reducible rfl)
              try simp only [Act.put, List.setIfInBounds_toArray, List.set_cons_zero, List.set_cons_succ]
              refine takeL (i := 1) (v := ?vq132) rfl (by kernel_rfl) (by kernel_rfl) (by kernel_rfl) (fun _ _ _ h => h) (Or.inl ⟨by rfl, ?hyq132⟩) (by assumption) ?restq132
              case hyq132 => (intro u hu; (try dsimp only at hu); go_simp <;> with_reducible rfl)
              try simp only [Act.put, List.setIfInBounds_toArray, List.set_cons_zero, List.set_cons_succ]
              refine takeL (i := 2) (v := ?vq133) rfl (by kernel_rfl) (by kernel_rfl) (by kernel_rfl) (fun _ _ _ h => h) (Or.inl ⟨by rfl, ?hyq133⟩) (by assumption) ?restq133
              case hyq133 => (intro u hu; (try dsimp only at hu); go_simp <;> with_reducible rfl)
              try simp only [Act.put, List.setIfInBounds_toArray, List.set_cons_zero, List.set_cons_succ]
              refine takeL (i := 3) (v := undef) rfl (by kernel_rfl) (by kernel_rfl) (by kernel_rfl) (fun _ _ _ h => h) (Or.inr ⟨by rfl, rfl⟩) (by assumption) ?_
              try simp only [Act.put, List.setIfInBounds_toArray, List.set_cons_zero, List.set_cons_succ]
              refine takeL (i := 4) (v := undef) rfl (by kernel_rfl) (by kernel_rfl) (by kernel_rfl) (fun _ _ _ h => h) (Or.inr ⟨by rfl, rfl⟩) (by assumption) ?_
              try simp only [Act.put, List.setIfInBounds_toArray, List.set_cons_zero, List.set_cons_succ]
              refine takeL (i := 5) (v := undef) rfl (by kernel_rfl) (by kernel_rfl) (by kernel_rfl) (fun _ _ _ h => h) (Or.inr ⟨by rfl, rfl⟩) (by assumption) ?_
              try simp only [Act.put, List.setIfInBounds_toArray, List.set_cons_zero, List.set_cons_succ]
              refine takeL (i := 6) (v := undef) rfl (by kernel_rfl) (by kernel_rfl) (by kernel_rfl) (fun _ _ _ h => h) (Or.inr ⟨by rfl, rfl⟩) (by assumption) ?_
              try simp only [Act.put, List.setIfInBounds_toArray, List.set_cons_zero, List.set_cons_succ]
              refine takeL (i := 7) (v := undef) rfl (by kernel_rfl) (by kernel_rfl) (by kernel_rfl) (fun _ _ _ h => h) (Or.inr ⟨by rfl, rfl⟩) (by assumption) ?_
              try simp only [Act.put, List.setIfInBounds_toArray, List.set_cons_zero, List.set_cons_succ]
              refine takeL (i := 8) (v := undef) rfl (by kernel_rfl) (by kernel_rfl) (by kernel_rfl) (fun _ _ _ h => h) (Or.inr ⟨by rfl, rfl⟩) (by assumption) ?_
              try simp only [Act.put, List.setIfInBounds_toArray, List.set_cons_zero, List.set_cons_succ]
              refine takeL (i := 9) (v := undef) rfl (by kernel_rfl) (by kernel_rfl) (by kernel_rfl) (fun _ _ _ h => h) (Or.inr ⟨by rfl, rfl⟩) (by assumption) ?_
              try simp only [Act.put, List.setIfInBounds_toArray, List.set_cons_zero, List.set_cons_succ]
              refine takeL (i := 10) (v := ?vq134) rfl (by kernel_rfl) (by kernel_rfl) (by kernel_rfl) (fun _ _ _ h => h) (Or.inl ⟨by rfl, ?hyq134⟩) (by assumption) ?restq134
              case hyq134 => (intro u hu; (try dsimp only at hu); go_simp <;> with_reducible rfl)
              try simp only [Act.put, List.setIfInBounds_toArray, List.set_cons_zero, List.set_cons_succ]
              refine wpAnyH_done (by kernel_rfl) ?_ _
              go_wp2_with fail
              have hW : Below v0.heap.size v0 v0.drew := (Below.refl _ _).drew
              replace D := D.below hW
              replace O := O.below hW
              replace P := P.below hW
              replace Q := Q.below hW
              replace hC := chain hC hW
              replace DT := DT.below hW
              clear hW
              have hS0 : (fun u => u.cell? ⟨pb, 0, none⟩ = some (.slice la ln lc) ∧ u.cell? ⟨pb, 1, none⟩ = some (.slice sa sn sc) ∧ u.cell? ⟨pb, 2, none⟩ = some (.slice oa on oc) ∧ u.cell? ⟨qb, 0, none⟩ = some (.int .i64 o.k) ∧ u.cell? ⟨qb, 1, none⟩ = some (.string o.nm) ∧ u.cell? ⟨qb, 2, none⟩ = some (.string o.tt) ∧ u.cell? ⟨qb, 3, none⟩ = some (.string o.d)) v0.drew := ⟨P.three.1, P.three.2.1, P.three.2.2, blk_four Q⟩
              refine wp_region_heldH (S := (fun u => u.cell? ⟨pb, 0, none⟩ = some (.slice la ln lc) ∧ u.cell? ⟨pb, 1, none⟩ = some (.slice sa sn sc) ∧ u.cell? ⟨pb, 2, none⟩ = some (.slice oa on oc) ∧ u.cell? ⟨qb, 0, none⟩ = some (.int .i64 o.k) ∧ u.cell? ⟨qb, 1, none⟩ = some (.string o.nm) ∧ u.cell? ⟨qb, 2, none⟩ = some (.string o.tt) ∧ u.cell? ⟨qb, 3, none⟩ = some (.string o.d))) 4 (by kernel_rfl) rfl ?_
              generalize v0.drew = u0 at *
              refine takeL (i := 0) (v := ?vq135) rfl (by kernel_rfl) (by kernel_rfl) (by kernel_rfl) (fun _ _ _ h => h) (Or.inl ⟨by rfl, ?hyq135⟩) (by assumption) ?restq135
              case hyq135 => (intro u hu; (try dsimp only at hu); go_simp <;> with_reducible rfl)
              try simp only [Act.put, List.setIfInBounds_toArray, List.set_cons_zero, List.set_cons_succ]
              refine takeL (i := 1) (v := ?vq136) rfl (by kernel_rfl) (by kernel_rfl) (by kernel_rfl) (fun _ _ _ h => h) (Or.inl ⟨by rfl, ?hyq136⟩) (by assumption) ?restq136
              case hyq136 => (intro u hu; (try dsimp only at hu); go_simp <;> with_reducible rfl)
              try simp only [Act.put, List.setIfInBounds_toArray, List.set_cons_zero, List.set_cons_succ]
              obtain ⟨⟨y0, y1, y2⟩, e0, e1, e2⟩ := blk_three D
              refine oneL (i := 2) (by kernel_rfl) rfl (fun K hK => ?_)
              go_simp
              have D8 := D.put3 (x := .slice la ln lc) (y := .slice sa sn sc) (z := .slice oa on oc)
              have hg8 := grown_put3 u0 w.heap.size (.slice la ln lc) (.slice sa sn sc) (.slice oa on oc)
              have P8 := P.grown hg8 (by omega)
              have Q8 := Q.grown hg8 (by omega)
              have O8 := O.grown hg8 (by omega)
              have T8 := DT.low hg8 (by omega)
              have C8 := below_grown hC hg8 (Nat.le_refl _)
              refine hK.out _ _ ⟨P8.three.1, P8.three.2.1, P8.three.2.2, blk_four Q8⟩ (fun hHeld => ?_)
              clear hK K
              try simp only [Act.put, List.setIfInBounds_toArray, List.set_cons_zero, List.set_cons_succ]
              clear y0 y1 y2 e0 e1 e2
              generalize ((u0.setCell ⟨w.heap.size, 0, none⟩ (.slice la ln lc)).setCell ⟨w.heap.size, 1, none⟩ (.slice sa sn sc)).setCell ⟨w.heap.size, 2, none⟩ (.slice oa on oc) = W8 at *
              clear hg8
              obtain ⟨y0, y1, y2, y3⟩ := blk_four O8
              have e0 := O8.frozen 0
              have e1 := O8.frozen 1
              have e2 := O8.frozen 2
              have e3 := O8.frozen 3
              refine oneL (i := 3) (by kernel_rfl) rfl (fun K hK => ?_)
              go_simp
              obtain ⟨O9, hg9⟩ := put4K O8 (.int .i64 o.k) (.string o.nm) (.string o.tt) (.string o.d)
              have D9 := D8.grown hg9 (by omega)
              have P9 := P8.grown hg9 (by omega)
              have Q9 := Q8.grown hg9 (by omega)
              have T9 := T8.low hg9 (by omega)
              have C9 := below_grown C8 hg9 (by omega)
              refine hK.out _ _ ⟨P9.three.1, P9.three.2.1, P9.three.2.2, blk_four Q9⟩ (fun hHeld => ?_)
              clear hK K
              try simp only [Act.put, List.setIfInBounds_toArray, List.set_cons_zero, List.set_cons_succ]
              clear y0 y1 y2 y3 e0 e1 e2 e3
              generalize (((W8.setCell ⟨w.heap.size + 1, 0, none⟩ (.int .i64 o.k)).setCell ⟨w.heap.size + 1, 1, none⟩ (.string o.nm)).setCell ⟨w.heap.size + 1, 2, none⟩ (.string o.tt)).setCell ⟨w.heap.size + 1, 3, none⟩ (.string o.d) = W9 at *
              refine wpAnyH_done (by kernel_rfl) ?_ _
              go_wp2
              refine bodyPost_ret (results_cell2K rfl _ W9 w.heap.size _ _ (w.heap.size + 1) _ _ _ _ rfl rfl D9 O9 Try.underlying27 Try.underlying36 rfl rfl (by kernel_rfl) (by kernel_rfl)) rfl ?_
              exact ⟨⟨_, d, o, rfl, T9.mono (by omega), hd, hso2.1, hso2.2⟩, C9⟩
        · have hx3b : ((x : Int) == 3) = false := by simp; omega
          go_wp2_with fail
          have hW : Below w6.heap.size w6 w6.drew := (Below.refl _ _).drew
          replace D := D.below hW
          replace O := O.below hW
          replace P := P.below hW
          replace Q := Q.below hW
          replace hC := chain hC hW
          replace DT := DT.below hW
          clear hW
          have hS0 : (fun u => u.cell? ⟨pb, 0, none⟩ = some (.slice la ln lc) ∧ u.cell? ⟨pb, 1, none⟩ = some (.slice sa sn sc) ∧ u.cell? ⟨pb, 2, none⟩ = some (.slice oa on oc) ∧ u.cell? ⟨qb, 0, none⟩ = some (.int .i64 o.k) ∧ u.cell? ⟨qb, 1, none⟩ = some (.string o.nm) ∧ u.cell? ⟨qb, 2, none⟩ = some (.string o.tt) ∧ u.cell? ⟨qb, 3, none⟩ = some (.string o.d)) w6.drew := ⟨P.three.1, P.three.2.1, P.three.2.2, blk_four Q⟩
          refine wp_region_heldH (S := (fun u => u.cell? ⟨pb, 0, none⟩ = some (.slice la ln lc) ∧ u.cell? ⟨pb, 1, none⟩ = some (.slice sa sn sc) ∧ u.cell? ⟨pb, 2, none⟩ = some (.slice oa on oc) ∧ u.cell? ⟨qb, 0, none⟩ = some (.int .i64 o.k) ∧ u.cell? ⟨qb, 1, none⟩ = some (.string o.nm) ∧ u.cell? ⟨qb, 2, none⟩ = some (.string o.tt) ∧ u.cell? ⟨qb, 3, none⟩ = some (.string o.d))) 4 (by kernel_rfl) rfl ?_
          generalize w6.drew = u0 at *
          refine takeL (i := 0) (v := ?vq137) rfl (by kernel_rfl) (by kernel_rfl) (by kernel_rfl) (fun _ _ _ h => h) (Or.inl ⟨by rfl, ?hyq137⟩) (by assumption) ?restq137
          case hyq137 => (intro u hu; (try dsimp only at hu); go_simp <;> with_reducible rfl)
          try simp only [Act.put, List.setIfInBounds_toArray, List.set_cons_zero, List.set_cons_succ]
          refine takeL (i := 1) (v := ?vq138) rfl (by kernel_rfl) (by kernel_rfl) (by kernel_rfl) (fun _ _ _ h => h) (Or.inl ⟨by rfl, ?hyq138⟩) (by assumption) ?restq138
          case hyq138 => (intro u hu; (try dsimp only at hu); go_simp <;> with_reducible rfl)
          try simp only [Act.put, List.setIfInBounds_toArray, List.set_cons_zero, List.set_cons_succ]
          obtain ⟨⟨y0, y1, y2⟩, e0, e1, e2⟩ := blk_three D
          refine oneL (i := 2) (by kernel_rfl) rfl (fun K hK => ?_)
          go_simp
          have D8 := D.put3 (x := .slice la ln lc) (y := .slice sa sn sc) (z := .slice oa on oc)
          have hg8 := grown_put3 u0 w.heap.size (.slice la ln lc) (.slice sa sn sc) (.slice oa on oc)
          have P8 := P.grown hg8 (by omega)
          have Q8 := Q.grown hg8 (by omega)
          have O8 := O.grown hg8 (by omega)
          have T8 := DT.low hg8 (by omega)
          have C8 := below_grown hC hg8 (Nat.le_refl _)
          refine hK.out _ _ ⟨P8.three.1, P8.three.2.1, P8.three.2.2, blk_four Q8⟩ (fun hHeld => ?_)
          clear hK K
          try simp only [Act.put, List.setIfInBounds_toArray, List.set_cons_zero, List.set_cons_succ]
          clear y0 y1 y2 e0 e1 e2
          generalize ((u0.setCell ⟨w.heap.size, 0, none⟩ (.slice la ln lc)).setCell ⟨w.heap.size, 1, none⟩ (.slice sa sn sc)).setCell ⟨w.heap.size, 2, none⟩ (.slice oa on oc) = W8 at *
          clear hg8
          obtain ⟨y0, y1, y2, y3⟩ := blk_four O8
          have e0 := O8.frozen 0
          have e1 := O8.frozen 1
          have e2 := O8.frozen 2
          have e3 := O8.frozen 3
          refine oneL (i := 3) (by kernel_rfl) rfl (fun K hK => ?_)
          go_simp
          obtain ⟨O9, hg9⟩ := put4K O8 (.int .i64 o.k) (.string o.nm) (.string o.tt) (.string o.d)
          have D9 := D8.grown hg9 (by omega)
          have P9 := P8.grown hg9 (by omega)
          have Q9 := Q8.grown hg9 (by omega)
          have T9 := T8.low hg9 (by omega)
          have C9 := below_grown C8 hg9 (by omega)
          refine hK.out _ _ ⟨P9.three.1, P9.three.2.1, P9.three.2.2, blk_four Q9⟩ (fun hHeld => ?_)
          clear hK K
          try simp only [Act.put, List.setIfInBounds_toArray, List.set_cons_zero, List.set_cons_succ]
          clear y0 y1 y2 y3 e0 e1 e2 e3
          generalize (((W8.setCell ⟨w.heap.size + 1, 0, none⟩ (.int .i64 o.k)).setCell ⟨w.heap.size + 1, 1, none⟩ (.string o.nm)).setCell ⟨w.heap.size + 1, 2, none⟩ (.string o.tt)).setCell ⟨w.heap.size + 1, 3, none⟩ (.string o.d) = W9 at *
          refine wpAnyH_done (by kernel_rfl) ?_ _
          go_wp2
          refine bodyPost_ret (results_cell2K rfl _ W9 w.heap.size _ _ (w.heap.size + 1) _ _ _ _ rfl rfl D9 O9 Try.underlying27 Try.underlying36 rfl rfl (by kernel_rfl) (by kernel_rfl)) rfl ?_
          exact ⟨⟨_, d, o, rfl, T9.mono (by omega), hd, hso2.1, hso2.2⟩, C9⟩
end Go.Proofs.Ytpobgjkmcmkkeaa
