/- Copies of a disk, by the program. Do and Sync, by the program. -/
import Derived.Test.YtpobgjkmcmkkeaaG19
namespace Go.Proofs.Ytpobgjkmcmkkeaa
open Go Go.RowKit Go.BigFrame

def SepJ (x y : Value) : Prop := ∀ a n cap a' n' cap', x = .slice a n cap → y = .slice a' n' cap' → ∀ p q, a = some p → a' = some q → p.block ≠ q.block
theorem sepJ_new {α β : Type} {cs : α → List Value} {cs' : β → List Value} {sz sz' : Nat} {t t' : TypeId} {B n n' cap : Nat} {l : List α} {l' : List β} {u u' : World} {a : Option Addr} {y : Value} (h : ResAt cs sz t u' u.heap.size a n cap l) (h' : ResJ cs' sz' t' B n' l' u y) : SepJ (.slice a n cap) y ∧ SepJ y (.slice a n cap) := by
  obtain ⟨a', cap', rfl, R⟩ := h'
  constructor
  · intro b m k b' m' k' e e' p q hp hq
    cases e; cases e'
    have h1 := (h.block p hp).1
    have h2 := (R.block q hq).2
    omega
  · intro b m k b' m' k' e e' p q hp hq
    cases e; cases e'
    have h1 := (h.block q hq).1
    have h2 := (R.block p hp).2
    omega
/-- A disk whose three lists are answers that lie apart. -/
def DiskS (B : Nat) (w : World) (v : Value) (d : Dk) : Prop := ∃ la ln lc sa sn sc oa on oc, v = .agg #[.slice la ln lc, .slice sa sn sc, .slice oa on oc] ∧ ResAt Fl.cs 2 82 w B la ln lc d.live ∧ ResAt Fl.cs 2 82 w B sa sn sc d.safe ∧ ResAt Dp.cs 4 36 w B oa on oc d.ops ∧ ∀ x y, la = some x → sa = some y → x.block ≠ y.block
theorem DiskS.below {B : Nat} {w w' : World} {v : Value} {d : Dk} (h : DiskS B w v d) (hb : Below w.heap.size w w') : DiskS B w' v d := by
  obtain ⟨la, ln, lc, sa, sn, sc, oa, on, oc, hv, h1, h2, h3, h4⟩ := h
  exact ⟨la, ln, lc, sa, sn, sc, oa, on, oc, hv, h1.below hb, h2.below hb, h3.below hb, h4⟩
theorem DiskS.mono {B B' : Nat} {w : World} {v : Value} {d : Dk} (h : DiskS B w v d) (hb : B' ≤ B) : DiskS B' w v d := by
  obtain ⟨la, ln, lc, sa, sn, sc, oa, on, oc, hv, h1, h2, h3, h4⟩ := h
  exact ⟨la, ln, lc, sa, sn, sc, oa, on, oc, hv, h1.mono hb, h2.mono hb, h3.mono hb, h4⟩
theorem DiskS.r {B : Nat} {w : World} {v : Value} {d : Dk} (h : DiskS B w v d) : DiskR B w v d := by
  obtain ⟨la, ln, lc, sa, sn, sc, oa, on, oc, hv, h1, h2, h3, _⟩ := h
  exact ⟨la, ln, lc, sa, sn, sc, oa, on, oc, hv, h1, h2, h3⟩
theorem DiskS.wr {B : Nat} {w : World} {v : Value} {d : Dk} (h : DiskS B w v d) : DiskW B w v d := by
  obtain ⟨la, ln, lc, sa, sn, sc, oa, on, oc, hv, h1, h2, h3, h4⟩ := h
  exact ⟨la, ln, lc, sa, sn, sc, oa, on, oc, hv, h1.wr, h2.wr, h3.wr, h4⟩
theorem DiskS.off {B b : Nat} {w w' : World} {v : Value} {d : Dk} (h : DiskS B w v d) (hg : w.grownBy w' (some b)) (hb : b < B) : DiskS B w' v d := by
  obtain ⟨la, ln, lc, sa, sn, sc, oa, on, oc, hv, h1, h2, h3, h4⟩ := h
  exact ⟨la, ln, lc, sa, sn, sc, oa, on, oc, hv, h1.grown hg (fun ad e => by have := (h1.block ad e).1; omega), h2.grown hg (fun ad e => by have := (h2.block ad e).1; omega), h3.grown hg (fun ad e => by have := (h3.block ad e).1; omega), h4⟩
theorem noD_S (B : Nat) (w : World) : DiskS B w (.agg #[.slice none 0 0, .slice none 0 0, .slice none 0 0]) noD := ⟨_, _, _, _, _, _, _, _, _, rfl, res_nil, res_nil, res_nil, fun x y e => by cases e⟩
theorem SlH.zero {α : Type} {cs : α → List Value} {sz : Nat} {w : World} {a : Option Addr} {n cap : Nat} {l : List α} (h : SlH cs sz w a n cap l) : a = none → n = 0 ∧ cap = 0 := fun e => by
  refine ⟨?_, h.nil e⟩
  have hl := h.sl.len
  cases l with
  | nil => simpa using hl.symm
  | cons x r => obtain ⟨b, o, e2, _⟩ := h.sl.cell 0 x rfl; rw [e] at e2; cases e2

set_option maxHeartbeats 4000000 in
set_option maxRecDepth 100000 in
theorem impl_copyDisk (v : Value) (d : Dk) (w : World) (h : DiskAt w v d) (hn : d.live.length ≤ 4000000 ∧ d.safe.length ≤ 4000000 ∧ d.ops.length ≤ 4000000) :
    Calls Try.prog 56 #[v] w fun e w' => (∃ v', e = .returned v' ∧ DiskS (w.heap.size + 2) w' v' d) ∧ Below w.heap.size w w' := by
  obtain ⟨la, ln, lc, sa, sn, sc, oa, on, oc, rfl, hL, hS, hO⟩ := h
  rw [hL.sl.len, hS.sl.len, hO.sl.len] at hn
  obtain ⟨hn1, hn2, hn3⟩ := hn
  obtain ⟨live, safe, ops⟩ := d
  simp only at hL hS hO
  go_enter Try.func56, Try.ntmps56
  go_wp2_with fail
  have C := (Blk.new w #[.slice la ln lc, .slice sa sn sc, .slice oa on oc] 27).alloc (.cells #[.slice none 0 0, .slice none 0 0, .slice none 0 0] 27)
  have E : Blk ((w.alloc (.cells #[.slice la ln lc, .slice sa sn sc, .slice oa on oc] 27)).alloc (.cells #[.slice none 0 0, .slice none 0 0, .slice none 0 0] 27)) (w.heap.size + 1) _ _ := Blk.new' _ _ _ _ (by simp)
  have hB1 : Below w.heap.size w ((w.alloc (.cells #[.slice la ln lc, .slice sa sn sc, .slice oa on oc] 27)).alloc (.cells #[.slice none 0 0, .slice none 0 0, .slice none 0 0] 27)) := by go_grown
  have hs1 : ((w.alloc (.cells #[.slice la ln lc, .slice sa sn sc, .slice oa on oc] 27)).alloc (.cells #[.slice none 0 0, .slice none 0 0, .slice none 0 0] 27)).heap.size = w.heap.size + 2 := by simp
  generalize (w.alloc (.cells #[.slice la ln lc, .slice sa sn sc, .slice oa on oc] 27)).alloc (.cells #[.slice none 0 0, .slice none 0 0, .slice none 0 0] 27) = W at *
  obtain ⟨c0, c1, c2⟩ := C.three
  have hL1 := hL.below hB1
  have hS1 := hS.below hB1
  have hO1 := hO.below hB1
  have hSB : ∀ u, Below W.heap.size W u → (fun u => u.cell? ⟨w.heap.size, 0, none⟩ = some (.slice la ln lc) ∧ u.cell? ⟨w.heap.size, 1, none⟩ = some (.slice sa sn sc) ∧ u.cell? ⟨w.heap.size, 2, none⟩ = some (.slice oa on oc)) u := fun u hu => ⟨bcell hu c0, bcell hu c1, bcell hu c2⟩
  have hWd : Below W.heap.size W W.drew := (Below.refl _ _).drew
  have hsz : w.heap.size + 2 ≤ W.heap.size := by omega
  clear hs1
  have hS0 : (fun u => u.cell? ⟨w.heap.size, 0, none⟩ = some (.slice la ln lc) ∧ u.cell? ⟨w.heap.size, 1, none⟩ = some (.slice sa sn sc) ∧ u.cell? ⟨w.heap.size, 2, none⟩ = some (.slice oa on oc)) W.drew := hSB _ hWd
  refine wp_region_last (S := (fun u => u.cell? ⟨w.heap.size, 0, none⟩ = some (.slice la ln lc) ∧ u.cell? ⟨w.heap.size, 1, none⟩ = some (.slice sa sn sc) ∧ u.cell? ⟨w.heap.size, 2, none⟩ = some (.slice oa on oc))) 10 (by kernel_rfl) (by kernel_rfl) ?_
  refine takeL (i := 0) (v := ?vq29001) rfl (by kernel_rfl) (by kernel_rfl) (by kernel_rfl) (fun _ _ _ h => h) (Or.inl ⟨by rfl, ?hyq29001⟩) (by assumption) ?restq29001
  case hyq29001 => (intro u hu; (try dsimp only at hu); go_simp <;> with_reducible rfl)
  try simp only [Act.put, List.setIfInBounds_toArray, List.set_cons_zero, List.set_cons_succ]
  refine takeL (i := 1) (v := ?vq29002) rfl (by kernel_rfl) (by kernel_rfl) (by kernel_rfl) (fun _ _ _ h => h) (Or.inl ⟨by rfl, ?hyq29002⟩) (by assumption) ?restq29002
  case hyq29002 => (intro u hu; (try dsimp only at hu); go_simp <;> with_reducible rfl)
  try simp only [Act.put, List.setIfInBounds_toArray, List.set_cons_zero, List.set_cons_succ]
  refine takeL (i := 3) (v := ?vq29003) rfl (by kernel_rfl) (by kernel_rfl) (by kernel_rfl) (fun _ _ _ h => h) (Or.inl ⟨by rfl, ?hyq29003⟩) (by assumption) ?restq29003
  case hyq29003 => (intro u hu; (try dsimp only at hu); go_simp <;> with_reducible rfl)
  try simp only [Act.put, List.setIfInBounds_toArray, List.set_cons_zero, List.set_cons_succ]
  refine takeL (i := 4) (v := ?vq29004) rfl (by kernel_rfl) (by kernel_rfl) (by kernel_rfl) (fun _ _ _ h => h) (Or.inl ⟨by rfl, ?hyq29004⟩) (by assumption) ?restq29004
  case hyq29004 => (intro u hu; (try dsimp only at hu); go_simp <;> with_reducible rfl)
  try simp only [Act.put, List.setIfInBounds_toArray, List.set_cons_zero, List.set_cons_succ]
  refine takeL (i := 6) (v := ?vq29005) rfl (by kernel_rfl) (by kernel_rfl) (by kernel_rfl) (fun _ _ _ h => h) (Or.inl ⟨by rfl, ?hyq29005⟩) (by assumption) ?restq29005
  case hyq29005 => (intro u hu; (try dsimp only at hu); go_simp <;> with_reducible rfl)
  try simp only [Act.put, List.setIfInBounds_toArray, List.set_cons_zero, List.set_cons_succ]
  refine takeL (i := 7) (v := ?vq29006) rfl (by kernel_rfl) (by kernel_rfl) (by kernel_rfl) (fun _ _ _ h => h) (Or.inl ⟨by rfl, ?hyq29006⟩) (by assumption) ?restq29006
  case hyq29006 => (intro u hu; (try dsimp only at hu); go_simp <;> with_reducible rfl)
  try simp only [Act.put, List.setIfInBounds_toArray, List.set_cons_zero, List.set_cons_succ]
  refine wpAnyH_float W [5, 8, 11, 12] [2, 5, 8, 9] (fun i => [0, 0, 5, 0, 0, 8, 0, 0, 11, 12].getD i 0) (fun b x u => (b 2 = true → ResJ Fl.cs 2 82 (w.heap.size + 2) ln live u (x 5)) ∧ (b 5 = true → ResJ Fl.cs 2 82 (w.heap.size + 2) sn safe u (x 8)) ∧ (b 8 = true → ResJ Dp.cs 4 36 (w.heap.size + 2) on ops u (x 11)) ∧ (b 2 = true → b 5 = true → SepJ (x 5) (x 8)) ∧ (b 9 = true → ∃ y0 y1 y2, x 12 = .agg #[y0, y1, y2] ∧ ResJ Fl.cs 2 82 (w.heap.size + 2) ln live u y0 ∧ ResJ Fl.cs 2 82 (w.heap.size + 2) sn safe u y1 ∧ ResJ Dp.cs 4 36 (w.heap.size + 2) on ops u y2 ∧ SepJ y0 y1)) (by kernel_rfl) (by kernel_rfl) (by kernel_rfl) (by kernel_rfl) (Nat.le_of_eq (by kernel_rfl)) hSB hWd ?init ?step ?done
  case init => exact ⟨(fun h => by cases h), (fun h => by cases h), (fun h => by cases h), (fun h => by cases h), (fun h => by cases h)⟩
  case step =>
    intro i hi b a u hA hB hG hbi hdep
    obtain ⟨g2, g5, g8, gs, g9⟩ := hG
    have hBu := hB.size
    simp only [List.mem_cons, List.not_mem_nil, or_false] at hi
    rcases hi with rfl | rfl | rfl | rfl
    · refine wpOp_atJ rfl rfl (fun K hK => ?_)
      have e4 : a.eval (.tmp 4) = .slice la ln lc := by rw [hA.eval (by decide)]; rfl
      have ez : a.tmps[4]?.getD undef = .slice la ln lc := by simpa [Act.eval] using e4
      go_simp
      refine (files_Clone la ln lc live u (hL1.sl.below hB) (by omega) hL1.spot hL1.zero).mono ?_
      rintro e u3 ⟨⟨a3, c3, rfl, R3⟩, hb⟩
      dsimp only
      exact hK.out _ _ ⟨_, rfl, hb, (fun _ => (by simpa using resJ_of (R3.mono (by omega)))), (fun h => (by simpa using (g5 (by simpa using h)).below hb)), (fun h => (by simpa using (g8 (by simpa using h)).below hb)), (fun _ h => (by simpa using (sepJ_new R3 (g5 (by simpa using h))).1)), (fun h => (by obtain ⟨y0, y1, y2, e0, e1, e2, e3, e4⟩ := g9 (by simpa using h); exact ⟨y0, y1, y2, by simpa using e0, e1.below hb, e2.below hb, e3.below hb, e4⟩))⟩
    · refine wpOp_atJ rfl rfl (fun K hK => ?_)
      have e4 : a.eval (.tmp 7) = .slice sa sn sc := by rw [hA.eval (by decide)]; rfl
      have ez : a.tmps[7]?.getD undef = .slice sa sn sc := by simpa [Act.eval] using e4
      go_simp
      refine (files_Clone sa sn sc safe u (hS1.sl.below hB) (by omega) hS1.spot hS1.zero).mono ?_
      rintro e u3 ⟨⟨a3, c3, rfl, R3⟩, hb⟩
      dsimp only
      exact hK.out _ _ ⟨_, rfl, hb, (fun h => (by simpa using (g2 (by simpa using h)).below hb)), (fun _ => (by simpa using resJ_of (R3.mono (by omega)))), (fun h => (by simpa using (g8 (by simpa using h)).below hb)), (fun h _ => (by simpa using (sepJ_new R3 (g2 (by simpa using h))).2)), (fun h => (by obtain ⟨y0, y1, y2, e0, e1, e2, e3, e4⟩ := g9 (by simpa using h); exact ⟨y0, y1, y2, by simpa using e0, e1.below hb, e2.below hb, e3.below hb, e4⟩))⟩
    · refine wpOp_atJ rfl rfl (fun K hK => ?_)
      have e4 : a.eval (.tmp 10) = .slice oa on oc := by rw [hA.eval (by decide)]; rfl
      have ez : a.tmps[10]?.getD undef = .slice oa on oc := by simpa [Act.eval] using e4
      go_simp
      refine (dops_Clone oa on oc ops u (hO1.sl.below hB) (by omega) hO1.spot hO1.zero).mono ?_
      rintro e u3 ⟨⟨a3, c3, rfl, R3⟩, hb⟩
      dsimp only
      exact hK.out _ _ ⟨_, rfl, hb, (fun h => (by simpa using (g2 (by simpa using h)).below hb)), (fun h => (by simpa using (g5 (by simpa using h)).below hb)), (fun _ => (by simpa using resJ_of (R3.mono (by omega)))), (fun h h' => (by simpa using gs (by simpa using h) (by simpa using h'))), (fun h => (by obtain ⟨y0, y1, y2, e0, e1, e2, e3, e4⟩ := g9 (by simpa using h); exact ⟨y0, y1, y2, by simpa using e0, e1.below hb, e2.below hb, e3.below hb, e4⟩))⟩
    · refine wpOp_atJ rfl rfl (fun K hK => ?_)
      have d2 := hdep _ rfl ⟨2, .data⟩ (by simp) rfl
      have d5 := hdep _ rfl ⟨5, .data⟩ (by simp) rfl
      have d8 := hdep _ rfl ⟨8, .data⟩ (by simp) rfl
      have hsep := gs d2 d5
      have hb : Below u.heap.size u u := Below.refl _ _
      obtain ⟨ya0, yc0, ey0, ry0⟩ := g2 d2
      obtain ⟨ya1, yc1, ey1, ry1⟩ := g5 d5
      obtain ⟨ya2, yc2, ey2, ry2⟩ := g8 d8
      have ez0 : a.tmps[5]?.getD undef = .slice ya0 ln yc0 := by simpa [Act.eval] using ey0
      have ez1 : a.tmps[8]?.getD undef = .slice ya1 sn yc1 := by simpa [Act.eval] using ey1
      have ez2 : a.tmps[11]?.getD undef = .slice ya2 on yc2 := by simpa [Act.eval] using ey2
      simp only [ey0, ey1] at hsep
      go_simp
      refine hK.out _ _ ⟨_, rfl, hb, (fun h => (by simpa using (g2 (by simpa using h)).below hb)), (fun h => (by simpa using (g5 (by simpa using h)).below hb)), (fun h => (by simpa using (g8 (by simpa using h)).below hb)), (fun h h' => (by simpa using gs (by simpa using h) (by simpa using h'))), (fun _ => ⟨_, _, _, rfl, resJ_of ry0, resJ_of ry1, resJ_of ry2, hsep⟩)⟩
  case done =>
    rintro b x u hB ⟨_, _, _, _, g9⟩ hall
    obtain ⟨y0, y1, y2, e0, ⟨a0, k0, rfl, R0⟩, ⟨a1, k1, rfl, R1⟩, ⟨a2, k2, rfl, R2⟩, hsep⟩ := g9 (hall 9 (by simp))
    refine lastL rfl ?_
    simp only [putAll, List.foldl_cons, List.foldl_nil, e0]
    try simp only [Act.put, List.setIfInBounds_toArray, List.set_cons_zero, List.set_cons_succ]
    have E1 := E.below hB
    have hBw := chain hB1 hB
    obtain ⟨⟨z0, z1, z2⟩, f0, f1, f2⟩ := blk_three E1
    clear C c0 c1 c2 hSB hS0
    have DR : DiskS (w.heap.size + 2) u (.agg #[.slice a0 ln k0, .slice a1 sn k1, .slice a2 on k2]) ⟨live, safe, ops⟩ := ⟨_, _, _, _, _, _, _, _, _, rfl, R0, R1, R2, fun p q e1 e2 => hsep _ _ _ _ _ _ rfl rfl p q e1 e2⟩
    go_wp2
    have E8 := E1.put3 (x := .slice a0 ln k0) (y := .slice a1 sn k1) (z := .slice a2 on k2)
    have hg8 := grown_put3 u (w.heap.size + 1) (.slice a0 ln k0) (.slice a1 sn k1) (.slice a2 on k2)
    have DR8 := DR.off hg8 (by omega)
    have hB8 := below_grown hBw hg8 (by omega)
    generalize ((u.setCell ⟨w.heap.size + 1, 0, none⟩ (.slice a0 ln k0)).setCell ⟨w.heap.size + 1, 1, none⟩ (.slice a1 sn k1)).setCell ⟨w.heap.size + 1, 2, none⟩ (.slice a2 on k2) = W8 at *
    refine bodyPost_ret (results_cell_row rfl _ W8 (w.heap.size + 1) _ _ _ _ rfl E8 Try.underlying27 rfl (by kernel_rfl)) rfl ?_
    exact ⟨⟨_, rfl, DR8⟩, hB8⟩
end Go.Proofs.Ytpobgjkmcmkkeaa
namespace Go.Proofs.Ytpobgjkmcmkkeaa
open Go Go.RowKit Go.BigFrame

set_option maxHeartbeats 4000000 in
set_option maxRecDepth 100000 in
theorem impl_syncedS (a : Option Addr) (n cap : Nat) (l : List Fl) (w : World) (h : FlsAt w a n l) (hn : n ≤ 4194304) (ha1 : ∀ ad, a = some ad → ad.spot = none) (ha2 : a = none → n = 0 ∧ cap = 0) :
    Calls Try.prog 52 #[.slice a n cap] w fun e w' => (∃ a1 c1 a2 c2, e = .returned (.agg #[.slice a1 n c1, .slice a2 n c2, .slice none 0 0]) ∧ ResAt Fl.cs 2 82 w' w.heap.size a1 n c1 l ∧ ResAt Fl.cs 2 82 w' w.heap.size a2 n c2 l ∧ ∀ x y, a1 = some x → a2 = some y → x.block ≠ y.block) ∧ Below w.heap.size w w' := by
  have hA : Below w.heap.size w (w.alloc (.cells #[.slice none 0 0, .slice none 0 0, .slice none 0 0] 27)) := (Below.refl _ _).alloc (Nat.le_refl _) _
  have D := Blk.new w #[.slice none 0 0, .slice none 0 0, .slice none 0 0] 27
  have hc := fun u (hu : Below w.heap.size w u) => files_Clone a n cap l u (h.below hu) hn ha1 ha2
  clear h
  go_enter Try.func52, Try.ntmps52
  go_wp2_with fail
  refine (hc _ hA).mono ?_
  rintro e w1 ⟨⟨a1, c1, rfl, R1⟩, hB1⟩
  have D1 := D.below hB1
  have hB2 := chain hA hB1
  have R2 := R1.mono (show w.heap.size + 1 ≤ _ by simp)
  have hlo : Hid (∀ x, a1 = some x → x.block < w1.heap.size) := fun x e => (R1.block x e).2
  clear hA D hB1 R1
  go_wp2_with fail
  refine (hc _ hB2).mono ?_
  rintro e w2 ⟨⟨a2, c2, rfl, R3⟩, hB3⟩
  have hsep : Hid (∀ x y, a1 = some x → a2 = some y → x.block ≠ y.block) := fun x y e1 e2 => by have := hlo.out x e1; have := (R3.block y e2).1; omega
  have D3 := D1.below hB3
  have R4 := R2.below hB3
  have hw1 := D1.lt
  have R5 := R3.mono (show w.heap.size + 1 ≤ w1.heap.size by omega)
  have hB4 := chain hB2 hB3
  clear D1 R2 R3 hB2 hB3 hc
  have z0 := D3.cell 0
  have z1 := D3.cell 1
  have z2 := D3.cell 2
  have q0 := D3.frozen 0
  have q1 := D3.frozen 1
  have q2 := D3.frozen 2
  simp only [List.getElem?_toArray, List.getElem?_cons_zero, List.getElem?_cons_succ] at z0 z1 z2
  go_wp2
  have hg : w2.grownBy (((w2.setCell ⟨w.heap.size, 0, none⟩ (.slice a1 n c1)).setCell ⟨w.heap.size, 1, none⟩ (.slice a2 n c2)).setCell ⟨w.heap.size, 2, none⟩ (.slice none 0 0)) (some w.heap.size) := grown_set (grown_set (grown_set (World.grownBy.refl _ _) _ _) _ _) _ _
  have D5 := ((D3.set 0 (.slice a1 n c1)).set 1 (.slice a2 n c2)).set 2 (.slice none 0 0)
  simp only [List.setIfInBounds_toArray, List.set_cons_zero, List.set_cons_succ] at D5
  have R6 := (R4.grown hg (fun ad e => by have := (R4.block ad e).1; omega)).mono (show w.heap.size ≤ w.heap.size + 1 by omega)
  have R7 := (R5.grown hg (fun ad e => by have := (R5.block ad e).1; omega)).mono (show w.heap.size ≤ w.heap.size + 1 by omega)
  have hB5 := hB4.grown hg hB4.size (fun j e => by cases e; exact Nat.le_refl _)
  generalize ((w2.setCell ⟨w.heap.size, 0, none⟩ (.slice a1 n c1)).setCell ⟨w.heap.size, 1, none⟩ (.slice a2 n c2)).setCell ⟨w.heap.size, 2, none⟩ (.slice none 0 0) = W8 at *
  refine bodyPost_ret (results_cell_row rfl _ W8 w.heap.size _ _ _ _ rfl D5 Try.underlying27 rfl (by kernel_rfl)) rfl ?_
  exact ⟨⟨a1, c1, a2, c2, rfl, R6, R7, hsep.out⟩, hB5⟩

/-- What an op comes to, by the shelf. -/
theorem actD_form {d : Dk} {o : Dp} (h : formB o = false) : actD d o = (d, 2) := by simp [actD, h]
theorem actD_none {d : Dk} {o : Dp} (h : formB o = true) (hs : SrtH (d.live.map oneH)) (h2 : (doH (d.live.map oneH) o).2 = false) : actD d o = (d, 3) := by
  have := doH_do hs o
  rw [told_one] at this
  simp [actD, h, this, h2]
theorem actD_full {d : Dk} {o : Dp} (h : formB o = true) (hs : SrtH (d.live.map oneH)) (h2 : (doH (d.live.map oneH) o).2 = true) (hb : BndH 2 10000000 (doH (d.live.map oneH) o).1) (h3 : (decide (d.ops.length = 200) || !fitsB (doH (d.live.map oneH) o).1) = true) : actD d o = (d, 4) := by
  have := doH_do hs o
  rw [told_one] at this
  rw [← files_told (doH_srt hs o) hb] at h3
  simp only [actD, h, this, h2]
  rw [if_neg (by simp), if_neg (by simp), if_pos h3]
theorem actD_ok {d : Dk} {o : Dp} (h : formB o = true) (hs : SrtH (d.live.map oneH)) (h2 : (doH (d.live.map oneH) o).2 = true) (hb : BndH 2 10000000 (doH (d.live.map oneH) o).1) (h3 : (decide (d.ops.length = 200) || !fitsB (doH (d.live.map oneH) o).1) = false) : actD d o = (⟨(doH (d.live.map oneH) o).1.map toldF, d.safe, d.ops ++ [o]⟩, 0) := by
  have := doH_do hs o
  rw [told_one] at this
  rw [← files_told (doH_srt hs o) hb] at h3
  simp only [actD, h, this, h2]
  rw [if_neg (by simp), if_neg (by simp), if_neg (by rw [h3]; simp)]

set_option maxHeartbeats 4000000 in
set_option maxRecDepth 100000 in
theorem impl_Do (v : Value) (d : Dk) (o : Dp) (w : World) (h : DiskAt w v d) (hd : DimD d) (ho : StrD o ∧ o.d.size ≤ 10000000) :
    Calls Try.prog 20 #[v, .agg #[.int .i64 o.k, .string o.nm, .string o.tt, .string o.d]] w fun e w' => (∃ v', e = .returned (.tuple #[v', .int .i64 (doD d o).2]) ∧ DiskS (w.heap.size + 1) w' v' (doD d o).1) ∧ Below w.heap.size w w' := by
  have hD := h
  obtain ⟨la, ln, lc, sa, sn, sc, oa, on, oc, rfl, hL, hS, hO⟩ := h
  have hlen : d.live.length ≤ 4000000 ∧ d.safe.length ≤ 4000000 ∧ d.ops.length ≤ 4000000 := ⟨hd.live.1, hd.safe.1, hd.ops.1⟩
  have hon : on ≤ 4000000 := by rw [← hO.sl.len]; exact hd.ops.1
  have lO : Hid (d.ops.length = on) := hO.sl.len
  obtain ⟨W0, hW0⟩ : ∃ W0, W0 = ((w.alloc (.cells #[.slice la ln lc, .slice sa sn sc, .slice oa on oc] 27)).alloc (.cells #[.int .i64 o.k, .string o.nm, .string o.tt, .string o.d] 36)).alloc (.cells #[.slice none 0 0, .slice none 0 0, .slice none 0 0] 27) := ⟨_, rfl⟩
  have hB0 : Below w.heap.size w W0 := by rw [hW0]; go_grown
  have K0 : Blk W0 w.heap.size #[.slice la ln lc, .slice sa sn sc, .slice oa on oc] 27 := by rw [hW0]; exact ((Blk.new w _ _).alloc _).alloc _
  have K1 : Blk W0 (w.heap.size + 1) #[.int .i64 o.k, .string o.nm, .string o.tt, .string o.d] 36 := by rw [hW0]; exact (Blk.new' _ _ _ _ (by simp)).alloc _
  have K2 : Blk W0 (w.heap.size + 1 + 1) #[.slice none 0 0, .slice none 0 0, .slice none 0 0] 27 := by rw [hW0]; exact Blk.new' _ _ _ _ (by simp)
  have hz0 : Hid (W0.heap.size = w.heap.size + 1 + 1 + 1) := by show _ = _; rw [hW0]; simp
  go_enter Try.func20, Try.ntmps20
  go_wp2_with fail
  rw [← hW0]
  clear hW0
  refine (impl_DiskOk _ d W0 (hD.below hB0) hd).mono ?_
  rintro e w1 ⟨rfl, hB1⟩
  replace K0 := K0.below hB1
  replace K1 := K1.below hB1
  replace K2 := K2.below hB1
  have hz1 : Hid (w.heap.size + 1 + 1 + 1 ≤ w1.heap.size) := by have := hB1.size; have := hz0.out; show _ ≤ _; omega
  replace hB1 := chain hB0 hB1
  clear hB0 hz0
  cases hdb : diskB d
  · have hr : Hid (doD d o = (noD, 1)) := doD_no o hdb
    obtain ⟨⟨z0, z1, z2⟩, f0, f1, f2⟩ := blk_three K2
    have NR := noD_S (w.heap.size + 1 + 1 + 1) w1
    go_wp2
    have E8 := K2.put3 (x := .slice none 0 0) (y := .slice none 0 0) (z := .slice none 0 0)
    have hg8 := grown_put3 w1 (w.heap.size + 1 + 1) (.slice none 0 0) (.slice none 0 0) (.slice none 0 0)
    have DR8 := NR.off hg8 (by omega)
    have hB8 := below_grown hB1 hg8 (by omega)
    generalize ((w1.setCell ⟨w.heap.size + 1 + 1, 0, none⟩ (.slice none 0 0)).setCell ⟨w.heap.size + 1 + 1, 1, none⟩ (.slice none 0 0)).setCell ⟨w.heap.size + 1 + 1, 2, none⟩ (.slice none 0 0) = W8 at *
    refine bodyPost_ret (results_cell_tmpJ rfl _ W8 (w.heap.size + 1 + 1) _ _ _ _ _ rfl E8 Try.underlying27 rfl (by kernel_rfl) rfl) rfl ?_
    exact ⟨⟨_, by rw [hr.out] <;> rfl, by rw [hr.out]; exact DR8.mono (by omega)⟩, hB8⟩
  · have hr : Hid (doD d o = actD d o) := doD_yes o hdb
    obtain ⟨hfl, _, _⟩ := diskB_all hdb
    obtain ⟨hl60, hlsum, hlg⟩ := filesB_all hfl
    have hln : ln ≤ 60 := by rw [← hL.sl.len]; exact hl60
    have hsrt := srt_one hlg
    have hbnd := bnd_one hfl
    obtain ⟨y0, y1, y2, y3⟩ := blk_four K1
    go_wp2_with fail
    refine (impl_changeOf o.k o.nm o.tt o.d w1 ho.1.1 ho.1.2.1).mono ?_
    rintro e w2 ⟨⟨v5, rfl, hv5⟩, hB2⟩
    have hz2 := hB2.size
    replace K0 := K0.below hB2
    replace K1 := K1.below hB2
    replace K2 := K2.below hB2
    replace hB2 := chain hB1 hB2
    clear y0 y1 y2 y3 hB1
    cases hfo : formB o
    · replace hr : Hid (doD d o = (d, 2)) := hr.out.trans (actD_form hfo)
      obtain ⟨x0, x1, x2⟩ := K0.three
      go_wp2_with fail
      refine (impl_copyDisk _ d w2 (hD.below hB2) hlen).mono ?_
      rintro e w9 ⟨⟨v9, rfl, R9⟩, hB9⟩
      have hz9 := hB9.size
      replace K2 := K2.below hB9
      replace hB9 := chain hB2 hB9
      obtain ⟨la9, ln9, lc9, sa9, sn9, sc9, oa9, on9, oc9, rfl⟩ := R9.r.at.l.cells
      obtain ⟨⟨z0, z1, z2⟩, f0, f1, f2⟩ := blk_three K2
      clear x0 x1 x2
      go_wp2
      have E8 := K2.put3 (x := .slice la9 ln9 lc9) (y := .slice sa9 sn9 sc9) (z := .slice oa9 on9 oc9)
      have hg8 := grown_put3 w9 (w.heap.size + 1 + 1) (.slice la9 ln9 lc9) (.slice sa9 sn9 sc9) (.slice oa9 on9 oc9)
      have DR8 := R9.off hg8 (by have := hz1.out; omega)
      have hB8 := below_grown hB9 hg8 (by omega)
      generalize ((w9.setCell ⟨w.heap.size + 1 + 1, 0, none⟩ (.slice la9 ln9 lc9)).setCell ⟨w.heap.size + 1 + 1, 1, none⟩ (.slice sa9 sn9 sc9)).setCell ⟨w.heap.size + 1 + 1, 2, none⟩ (.slice oa9 on9 oc9) = W8 at *
      refine bodyPost_ret (results_cell_tmpJ rfl _ W8 (w.heap.size + 1 + 1) _ _ _ _ _ rfl E8 Try.underlying27 rfl (by kernel_rfl) rfl) rfl ?_
      exact ⟨⟨_, by rw [hr.out] <;> rfl, by rw [hr.out]; exact DR8.mono (by have := hz1.out; omega)⟩, hB8⟩
    · obtain rfl := hv5 hfo
      obtain ⟨x0, x1, x2⟩ := K0.three
      go_wp2_with fail
      refine (impl_shelfOf la ln lc d.live w2 (hL.sl.below hB2) (by omega)).mono ?_
      rintro e w3 ⟨⟨a3, c3, rows3, rfl, R3, T3⟩, hB3⟩
      have hA3 : Below w3.heap.size w3 (w3.alloc (.cells #[.slice a3 ln c3] 72)) := (Below.refl _ _).alloc (Nat.le_refl _) _
      have S4 := Blk.new w3 #[.slice a3 ln c3] 72
      have Sh4 : ShAt w2.heap.size w3.heap.size (w3.alloc (.cells #[.slice a3 ln c3] 72)) (d.live.map oneH) := ⟨a3, ln, c3, rows3, S4, R3.below hA3, T3.below hA3⟩
      have hB4 := chain hB3 hA3
      have hw3 := hB3.size
      have hlc : (d.live.map oneH).length ≤ 60 := by simpa using hl60
      obtain ⟨TT, xx, ff, hch, hme, hent, hcall⟩ := doneOn_of w2.heap.size w2.heap.size w3.heap.size (d.live.map oneH) o hfo hsrt (by omega) (fun y hy => by have := hbnd.ps y hy; omega) (Nat.le_refl _) hw3
      rw [show chV ⟨o.k, o.nm, o.tt, o.d⟩ = .iface TT xx from hch]
      have hbn : BndH 2 10000000 (doH (d.live.map oneH) o).1 := doH_bnd (hbnd.mono (Nat.le_refl _) (by omega)) hfo ho.2
      have hsn := doH_srt hsrt o
      have hln2 := doH_len (d.live.map oneH) o
      clear S4 R3 T3 hB3 hA3 x0 x1 x2 hv5 hch
      go_wp2_with fail
      refine (hcall _ Sh4 hB4.size).mono ?_
      rintro e w5 ⟨rfl, Sh5, hB5⟩
      have hB6 : Below w2.heap.size w2 w5 := hB4.trans hB5
      have hz5 := hB6.size
      replace K0 := K0.below hB6
      replace K1 := K1.below hB6
      replace K2 := K2.below hB6
      replace hB6 := chain hB2 hB6
      clear hcall hme hent Sh4 hB4 hB5
      cases hok : (doH (d.live.map oneH) o).2
      · replace hr : Hid (doD d o = (d, 3)) := hr.out.trans (actD_none hfo hsrt hok)
        obtain ⟨x0, x1, x2⟩ := K0.three
        go_wp2_with fail
        refine (impl_copyDisk _ d w5 (hD.below hB6) hlen).mono ?_
        rintro e w9 ⟨⟨v9, rfl, R9⟩, hB9⟩
        have hz9 := hB9.size
        replace K2 := K2.below hB9
        replace hB9 := chain hB6 hB9
        obtain ⟨la9, ln9, lc9, sa9, sn9, sc9, oa9, on9, oc9, rfl⟩ := R9.r.at.l.cells
        obtain ⟨⟨z0, z1, z2⟩, f0, f1, f2⟩ := blk_three K2
        clear x0 x1 x2
        go_wp2
        have E8 := K2.put3 (x := .slice la9 ln9 lc9) (y := .slice sa9 sn9 sc9) (z := .slice oa9 on9 oc9)
        have hg8 := grown_put3 w9 (w.heap.size + 1 + 1) (.slice la9 ln9 lc9) (.slice sa9 sn9 sc9) (.slice oa9 on9 oc9)
        have DR8 := R9.off hg8 (by have := hz1.out; omega)
        have hB8 := below_grown hB9 hg8 (by omega)
        generalize ((w9.setCell ⟨w.heap.size + 1 + 1, 0, none⟩ (.slice la9 ln9 lc9)).setCell ⟨w.heap.size + 1 + 1, 1, none⟩ (.slice sa9 sn9 sc9)).setCell ⟨w.heap.size + 1 + 1, 2, none⟩ (.slice oa9 on9 oc9) = W8 at *
        refine bodyPost_ret (results_cell_tmpJ rfl _ W8 (w.heap.size + 1 + 1) _ _ _ _ _ rfl E8 Try.underlying27 rfl (by kernel_rfl) rfl) rfl ?_
        exact ⟨⟨_, by rw [hr.out] <;> rfl, by rw [hr.out]; exact DR8.mono (by have := hz1.out; omega)⟩, hB8⟩
      · have hE3 := fun h3 => hr.out.trans (actD_full hfo hsrt hok hbn h3)
        have hE0 := fun h3 => hr.out.trans (actD_ok hfo hsrt hok hbn h3)
        clear hr
        generalize (doH (d.live.map oneH) o).1 = nx at *
        obtain ⟨a6, n6, c6, rows6, S6, R6, T6⟩ := Sh5
        have hn6 : n6 ≤ 61 := by rw [← R6.sl.len, T6.len]; omega
        by_cases h200 : on = 200
        · have hr : Hid (doD d o = (d, 4)) := hE3 (by rw [lO.out, h200]; simp)
          clear hE3 hE0
          subst h200
          obtain ⟨x0, x1, x2⟩ := K0.three
          go_wp2_with fail
          clear x0 x1 x2
          obtain ⟨x0, x1, x2⟩ := K0.three
          refine (impl_copyDisk _ d w5 (hD.below hB6) hlen).mono ?_
          rintro e w9 ⟨⟨v9, rfl, R9⟩, hB9⟩
          have hz9 := hB9.size
          replace K2 := K2.below hB9
          replace hB9 := chain hB6 hB9
          obtain ⟨la9, ln9, lc9, sa9, sn9, sc9, oa9, on9, oc9, rfl⟩ := R9.r.at.l.cells
          obtain ⟨⟨z0, z1, z2⟩, f0, f1, f2⟩ := blk_three K2
          clear x0 x1 x2
          go_wp2
          have E8 := K2.put3 (x := .slice la9 ln9 lc9) (y := .slice sa9 sn9 sc9) (z := .slice oa9 on9 oc9)
          have hg8 := grown_put3 w9 (w.heap.size + 1 + 1) (.slice la9 ln9 lc9) (.slice sa9 sn9 sc9) (.slice oa9 on9 oc9)
          have DR8 := R9.off hg8 (by have := hz1.out; omega)
          have hB8 := below_grown hB9 hg8 (by omega)
          generalize ((w9.setCell ⟨w.heap.size + 1 + 1, 0, none⟩ (.slice la9 ln9 lc9)).setCell ⟨w.heap.size + 1 + 1, 1, none⟩ (.slice sa9 sn9 sc9)).setCell ⟨w.heap.size + 1 + 1, 2, none⟩ (.slice oa9 on9 oc9) = W8 at *
          refine bodyPost_ret (results_cell_tmpJ rfl _ W8 (w.heap.size + 1 + 1) _ _ _ _ _ rfl E8 Try.underlying27 rfl (by kernel_rfl) rfl) rfl ?_
          exact ⟨⟨_, by rw [hr.out] <;> rfl, by rw [hr.out]; exact DR8.mono (by have := hz1.out; omega)⟩, hB8⟩
        · have h2b : ((on : Int) == 200) = false := by simp; omega
          obtain ⟨x0, x1, x2⟩ := K0.three
          go_wp2_with fail
          refine (impl_fits w2.heap.size w3.heap.size a6 n6 c6 rows6 nx w5 S6 R6 T6 (by omega) (fun y hy => by have := hbn.ps y hy; omega) (fun y hy s hm => by have := hbn.sz y hy s hm; omega)).mono ?_
          rintro e w7 ⟨rfl, hB7⟩
          have hz7 := hB7.size
          replace K0 := K0.below hB7
          replace K1 := K1.below hB7
          replace K2 := K2.below hB7
          replace S6 := S6.below hB7
          replace R6 := R6.below hB7
          replace T6 := T6.below hB7
          replace hB7 := chain hB6 hB7
          clear x0 x1 x2
          cases hft : fitsB nx
          · have hr : Hid (doD d o = (d, 4)) := hE3 (by rw [hft]; simp)
            clear hE3 hE0
            obtain ⟨x0, x1, x2⟩ := K0.three
            go_wp2_with fail
            refine (impl_copyDisk _ d w7 (hD.below hB7) hlen).mono ?_
            rintro e w9 ⟨⟨v9, rfl, R9⟩, hB9⟩
            have hz9 := hB9.size
            replace K2 := K2.below hB9
            replace hB9 := chain hB7 hB9
            obtain ⟨la9, ln9, lc9, sa9, sn9, sc9, oa9, on9, oc9, rfl⟩ := R9.r.at.l.cells
            obtain ⟨⟨z0, z1, z2⟩, f0, f1, f2⟩ := blk_three K2
            clear x0 x1 x2
            go_wp2
            have E8 := K2.put3 (x := .slice la9 ln9 lc9) (y := .slice sa9 sn9 sc9) (z := .slice oa9 on9 oc9)
            have hg8 := grown_put3 w9 (w.heap.size + 1 + 1) (.slice la9 ln9 lc9) (.slice sa9 sn9 sc9) (.slice oa9 on9 oc9)
            have DR8 := R9.off hg8 (by have := hz1.out; omega)
            have hB8 := below_grown hB9 hg8 (by omega)
            generalize ((w9.setCell ⟨w.heap.size + 1 + 1, 0, none⟩ (.slice la9 ln9 lc9)).setCell ⟨w.heap.size + 1 + 1, 1, none⟩ (.slice sa9 sn9 sc9)).setCell ⟨w.heap.size + 1 + 1, 2, none⟩ (.slice oa9 on9 oc9) = W8 at *
            refine bodyPost_ret (results_cell_tmpJ rfl _ W8 (w.heap.size + 1 + 1) _ _ _ _ _ rfl E8 Try.underlying27 rfl (by kernel_rfl) rfl) rfl ?_
            exact ⟨⟨_, by rw [hr.out] <;> rfl, by rw [hr.out]; exact DR8.mono (by have := hz1.out; omega)⟩, hB8⟩
          · have hr : Hid (doD d o = (⟨nx.map toldF, d.safe, d.ops ++ [o]⟩, 0)) := hE0 (by rw [hft, lO.out, decide_eq_false h200]; rfl)
            have hsum : sumH nx ≤ 200000 := by have h := hft; simp [fitsB] at h; exact h.2
            clear hE3 hE0
            obtain ⟨x0, x1, x2⟩ := K0.three
            go_wp2_with fail
            refine (impl_copyDisk _ d w7 (hD.below hB7) hlen).mono ?_
            rintro e w8 ⟨⟨v8, rfl, R8⟩, hB8⟩
            have hz8 := hB8.size
            replace K1 := K1.below hB8
            replace K2 := K2.below hB8
            replace S6 := S6.below hB8
            replace R6 := R6.below hB8
            replace T6 := T6.below hB8
            replace hB8 := chain hB7 hB8
            obtain ⟨la8, ln8, lc8, sa8, sn8, sc8, oa8, on8, oc8, rfl, RL8, RS8, RO8, hsep8⟩ := R8
            have hon8 : on8 = on := by rw [← RO8.sl.len, lO.out]
            subst hon8
            have hA9 : Below w8.heap.size w8 (w8.alloc (.cells #[.slice la8 ln8 lc8, .slice sa8 sn8 sc8, .slice oa8 on8 oc8] 27)) := (Below.refl _ _).alloc (Nat.le_refl _) _
            have E9 := Blk.new w8 #[.slice la8 ln8 lc8, .slice sa8 sn8 sc8, .slice oa8 on8 oc8] 27
            clear x0 x1 x2 K0
            go_wp2_with fail
            replace K1 := K1.below hA9
            replace K2 := K2.below hA9
            replace S6 := S6.below hA9
            replace R6 := R6.below hA9
            replace T6 := T6.below hA9
            have RS9 := RS8.below hA9
            have RO9 := RO8.below hA9
            have hbs : ∀ x, sa8 = some x → x.block < w8.heap.size := fun x e => (RS8.block x e).2
            have hB9 := chain hB8 hA9
            have hz9 : w8.heap.size < (w8.alloc (.cells #[.slice la8 ln8 lc8, .slice sa8 sn8 sc8, .slice oa8 on8 oc8] 27)).heap.size := by simp
            clear RL8 RS8 RO8 hA9 hsep8 hB8
            generalize w8.alloc (.cells #[.slice la8 ln8 lc8, .slice sa8 sn8 sc8, .slice oa8 on8 oc8] 27) = W9 at *
            refine (impl_told w2.heap.size w3.heap.size a6 n6 c6 rows6 nx W9 S6 R6 T6 (by omega) (fun y hy => by have := hbn.ps y hy; omega) hsum).mono ?_
            rintro e w10 ⟨⟨a10, c10, rfl, R10⟩, hB10⟩
            replace K1 := K1.below hB10
            replace K2 := K2.below hB10
            replace E9 := E9.below hB10
            replace RS9 := RS9.below hB10
            replace RO9 := RO9.below hB10
            have hz10 := hB10.size
            have hbl : Hid (∀ x y, a10 = some x → sa8 = some y → x.block ≠ y.block) := fun x y e1 e2 => by have := (R10.block x e1).1; have := hbs y e2; omega
            replace hB10 := chain hB9 hB10
            clear S6 R6 T6 hbs hB9
            obtain ⟨⟨p0, p1, p2⟩, q0, q1, q2⟩ := blk_three E9
            obtain ⟨y0, y1, y2, y3⟩ := blk_four K1
            have m3 : ¬ w8.heap.size = w.heap.size + 1 := by have := hz1.out; omega
            have m4 : ¬ w.heap.size + 1 = w8.heap.size := by have := hz1.out; omega
            go_wp2_with (at_builtin; refine wpList_app rfl (fun K hK => wp_appDp _ _ rfl (w7.heap.size + 2) oa8 on8 oc8 d.ops rfl ((RO9.ty (grown_set (World.grownBy.refl _ _) _ _) (rowTy_blk E9) (by decide)).alloc _) _ 1 1 [o] rfl (sl_newDp _ o _ _ (by simp)) (fun ad h => (by cases h; rfl)) (fun h => (by cases h)) (on8 + 1) rfl (by omega) (by simp only [World.size_alloc, World.size_setCell]; omega) (fun a11 c11 w11 R11 hg11 => hK _ _ ?_)); refine Held.out ?_)
            refine Held.mk ?_
            have hgE : w10.grownBy (w10.setCell ⟨w8.heap.size, 0, none⟩ (.slice a10 n6 c10)) (some w8.heap.size) := grown_set (World.grownBy.refl _ _) _ _
            have hty := ((RO9.ty hgE (rowTy_blk E9) (by decide)).alloc (.cells #[.int .i64 o.k, .string o.nm, .string o.tt, .string o.d] 36)).rowTy (m := on8) (k := oc8)
            have E10 := (E9.set 0 (.slice a10 n6 c10)).alloc (.cells #[.int .i64 o.k, .string o.nm, .string o.tt, .string o.d] 36)
            simp only [List.setIfInBounds_toArray, List.set_cons_zero] at E10
            have E11 := E10.ty hg11 hty (by decide)
            have K11 := ((K2.grown hgE (by have := hz1.out; omega)).alloc (.cells #[.int .i64 o.k, .string o.nm, .string o.tt, .string o.d] 36)).ty hg11 hty (by decide)
            have RL11 := ((R10.ty hgE (rowTy_blk E9) (by decide)).alloc (.cells #[.int .i64 o.k, .string o.nm, .string o.tt, .string o.d] 36)).ty hg11 hty (by decide)
            have RS11 := ((RS9.ty hgE (rowTy_blk E9) (by decide)).alloc (.cells #[.int .i64 o.k, .string o.nm, .string o.tt, .string o.d] 36)).ty hg11 hty (by decide)
            have hBE := below_grown hB10 hgE (by have := hz1.out; omega)
            have hBA : Below w.heap.size w ((w10.setCell ⟨w8.heap.size, 0, none⟩ (.slice a10 n6 c10)).alloc (.cells #[.int .i64 o.k, .string o.nm, .string o.tt, .string o.d] 36)) := hBE.alloc hBE.size _
            have hB11 : Below w.heap.size w w11 := hBA.grown hg11 hBA.size (own_ge fun ad e => by have := (RO9.block ad e).1; have := hz1.out; omega)
            clear hty hg11 hgE E9 E10 K2 K1 R10 RS9 RO9 hBE hBA y0 y1 y2 y3 p0 p1 p2 q0 q1 q2 hB10
            obtain ⟨⟨p0, p1, p2⟩, q0, q1, q2⟩ := blk_three E11
            obtain ⟨⟨z0, z1, z2⟩, f0, f1, f2⟩ := blk_three K11
            have m1 : ¬ w8.heap.size = w.heap.size + 1 + 1 := by have := hz1.out; omega
            have m2 : ¬ w.heap.size + 1 + 1 = w8.heap.size := by have := hz1.out; omega
            go_wp2
            have hg7 : w11.grownBy (w11.setCell ⟨w8.heap.size, 2, none⟩ (.slice a11 (on8 + 1) c11)) (some w8.heap.size) := grown_set (World.grownBy.refl _ _) _ _
            have K7 := K11.grown hg7 m2
            have RN7 := RL11.ty hg7 (rowTy_blk E11) (by decide)
            have RS7 := RS11.ty hg7 (rowTy_blk E11) (by decide)
            have RO7 := R11.ty hg7 (rowTy_blk E11) (by decide)
            have hB12 := below_grown hB11 hg7 (by have := hz1.out; omega)
            generalize w11.setCell ⟨w8.heap.size, 2, none⟩ (.slice a11 (on8 + 1) c11) = W7 at *
            have DR7 : DiskS (w.heap.size + 1 + 1 + 1) W7 (.agg #[.slice a10 n6 c10, .slice sa8 sn8 sc8, .slice a11 (on8 + 1) c11]) ⟨nx.map toldF, d.safe, d.ops ++ [o]⟩ := ⟨_, _, _, _, _, _, _, _, _, rfl, RN7.mono (by have := hz1.out; omega), RS7.mono (by have := hz1.out; omega), RO7.mono (by have := hz1.out; omega), hbl.out⟩
            have E8 := K7.put3 (x := .slice a10 n6 c10) (y := .slice sa8 sn8 sc8) (z := .slice a11 (on8 + 1) c11)
            have hg8 := grown_put3 W7 (w.heap.size + 1 + 1) (.slice a10 n6 c10) (.slice sa8 sn8 sc8) (.slice a11 (on8 + 1) c11)
            have DR8 := DR7.off hg8 (by omega)
            have hB8 := below_grown hB12 hg8 (by omega)
            generalize ((W7.setCell ⟨w.heap.size + 1 + 1, 0, none⟩ (.slice a10 n6 c10)).setCell ⟨w.heap.size + 1 + 1, 1, none⟩ (.slice sa8 sn8 sc8)).setCell ⟨w.heap.size + 1 + 1, 2, none⟩ (.slice a11 (on8 + 1) c11) = W8 at *
            refine bodyPost_ret (results_cell_tmpJ rfl _ W8 (w.heap.size + 1 + 1) _ _ _ _ _ rfl E8 Try.underlying27 rfl (by kernel_rfl) rfl) rfl ?_
            exact ⟨⟨_, by rw [hr.out] <;> rfl, by rw [hr.out]; exact DR8.mono (by omega)⟩, hB8⟩

set_option maxHeartbeats 4000000 in
set_option maxRecDepth 100000 in
theorem impl_Sync (v : Value) (d : Dk) (w : World) (h : DiskAt w v d) (hd : DimD d) :
    Calls Try.prog 17 #[v] w fun e w' => (∃ v', e = .returned v' ∧ DiskS (w.heap.size + 1) w' v' (syncD d)) ∧ Below w.heap.size w w' := by
  have hD := h
  obtain ⟨la, ln, lc, sa, sn, sc, oa, on, oc, rfl, hL, hS, hO⟩ := h
  have hn1 : ln ≤ 4000000 := by rw [← hL.sl.len]; exact hd.live.1
  obtain ⟨W0, hW0⟩ : ∃ W0, W0 = (w.alloc (.cells #[.slice la ln lc, .slice sa sn sc, .slice oa on oc] 27)).alloc (.cells #[.slice none 0 0, .slice none 0 0, .slice none 0 0] 27) := ⟨_, rfl⟩
  have hB0 : Below w.heap.size w W0 := by rw [hW0]; go_grown
  have C : Blk W0 w.heap.size #[.slice la ln lc, .slice sa sn sc, .slice oa on oc] 27 := by rw [hW0]; exact (Blk.new w _ _).alloc _
  have E : Blk W0 (w.heap.size + 1) #[.slice none 0 0, .slice none 0 0, .slice none 0 0] 27 := by rw [hW0]; exact Blk.new' _ _ _ _ (by simp)
  have hz0 : Hid (W0.heap.size = w.heap.size + 2) := by show _ = _; rw [hW0]; simp
  go_enter Try.func17, Try.ntmps17
  go_wp2_with fail
  rw [← hW0]
  clear hW0
  refine (impl_DiskOk _ d W0 (hD.below hB0) hd).mono ?_
  rintro e W ⟨rfl, hB1⟩
  replace C := C.below hB1
  replace E := E.below hB1
  have hsz : w.heap.size + 2 ≤ W.heap.size := by have := hB1.size; have := hz0.out; omega
  replace hB1 := chain hB0 hB1
  clear hB0 hz0
  cases hdb : diskB d
  · have hr : Hid (syncD d = noD) := syncD_no hdb
    obtain ⟨⟨z0, z1, z2⟩, f0, f1, f2⟩ := blk_three E
    have NR := noD_S (w.heap.size + 2) W
    go_wp2
    have E8 := E.put3 (x := .slice none 0 0) (y := .slice none 0 0) (z := .slice none 0 0)
    have hg8 := grown_put3 W (w.heap.size + 1) (.slice none 0 0) (.slice none 0 0) (.slice none 0 0)
    have DR8 := NR.off hg8 (by omega)
    have hB8 := below_grown hB1 hg8 (by omega)
    generalize ((W.setCell ⟨w.heap.size + 1, 0, none⟩ (.slice none 0 0)).setCell ⟨w.heap.size + 1, 1, none⟩ (.slice none 0 0)).setCell ⟨w.heap.size + 1, 2, none⟩ (.slice none 0 0) = W8 at *
    refine bodyPost_ret (results_cell_row rfl _ W8 (w.heap.size + 1) _ _ _ _ rfl E8 Try.underlying27 rfl (by kernel_rfl)) rfl ?_
    exact ⟨⟨_, rfl, by rw [hr.out]; exact DR8.mono (by omega)⟩, hB8⟩
  · have hr : Hid (syncD d = ⟨d.live, d.live, []⟩) := syncD_yes hdb
    have hL1 := hL.below hB1
    obtain ⟨c0, c1, c2⟩ := C.three
    generalize d.live = live at *
    go_wp2_with fail
    refine (impl_syncedS la ln lc live W hL1.sl (by omega) hL1.spot hL1.zero).mono ?_
    rintro e w2 ⟨⟨a0, k0, a1, k1, rfl, R0, R1, hsep⟩, hB2⟩
    replace E := E.below hB2
    replace hB2 := chain hB1 hB2
    obtain ⟨⟨z0, z1, z2⟩, f0, f1, f2⟩ := blk_three E
    clear c0 c1 c2 C
    have DR : DiskS (w.heap.size + 2) w2 (.agg #[.slice a0 ln k0, .slice a1 ln k1, .slice none 0 0]) ⟨live, live, []⟩ := ⟨_, _, _, _, _, _, _, _, _, rfl, R0.mono hsz, R1.mono hsz, res_nil, hsep⟩
    go_wp2
    have E8 := E.put3 (x := .slice a0 ln k0) (y := .slice a1 ln k1) (z := .slice none 0 0)
    have hg8 := grown_put3 w2 (w.heap.size + 1) (.slice a0 ln k0) (.slice a1 ln k1) (.slice none 0 0)
    have DR8 := DR.off hg8 (by omega)
    have hB8 := below_grown hB2 hg8 (by omega)
    generalize ((w2.setCell ⟨w.heap.size + 1, 0, none⟩ (.slice a0 ln k0)).setCell ⟨w.heap.size + 1, 1, none⟩ (.slice a1 ln k1)).setCell ⟨w.heap.size + 1, 2, none⟩ (.slice none 0 0) = W8 at *
    refine bodyPost_ret (results_cell_row rfl _ W8 (w.heap.size + 1) _ _ _ _ rfl E8 Try.underlying27 rfl (by kernel_rfl)) rfl ?_
    exact ⟨⟨_, rfl, by rw [hr.out]; exact DR8.mono (by omega)⟩, hB8⟩
end Go.Proofs.Ytpobgjkmcmkkeaa
