/- Copies of a disk, and a disk of which all is safe, by the model. -/
import Derived.ArgAppend
import Derived.Test.YtigldeccfpkdmaaGreatDoorCStoreNewx22
import Derived.Test.YtigldeccfpkdmaaGreatDoorCStoreNewx17
namespace Go.Proofs.YtigldeccfpkdmaaGreatDoor
open Go Go.RowKit Go.BigFrame
/-- append to a literal of no elements: the literal, or a new row. -/
theorem wp_appLitJ {α : Type} {cs : α → List Value} {size : Nat} {P : Program} {o : Oper} {a : Act} {w : World} {K : Act → World → Prop} {Q : Exit → Act → World → Prop}
    (s x : Operand) (t : TypeId) (ho : o.op = .call { callee := .builtin .append, args := #[s, x], argTypes := #[t, t] })
    (B : Nat) (e : TypeId) (i : TypeInfo) (z : Value) (bytes : Nat) (ht : P.underlying t = some (.slice e)) (hi : P.info? e = some i) (hz : i.zero = some z) (hsize : i.size = size) (hby : i.bytes = bytes) (hzs : z.cells.size = size) (hpos : 0 < size)
    (hsz : ∀ y, (cs y).length = size) (hone : ∀ (l : List α), ∀ u ∈ l.flatMap cs, u.oneCell' = true)
    (b : Nat) (hs : a.eval s = .slice (some ⟨b, 0, none⟩) 0 0) (hb : Blk w b #[] e) (hBb : B ≤ b)
    (sa : Option Addr) (sn scap : Nat) (ls : List α) (hx : a.eval x = .slice sa sn scap) (hsrc : SlAt cs size w sa sn ls) (hspot : ∀ ad, sa = some ad → ad.spot = none) (hnone : sa = none → scap = 0)
    (h63 : sn ≤ maxLen) (hbytes : sn * bytes ≤ 140737488355328) (hbase : B ≤ w.heap.size)
    (h : ∀ a' cap' w', ResAt cs size e w' B a' sn cap' ls → Below w.heap.size w w' → a' ≠ none → (0 < cap' → ∀ ad, a' = some ad → w.heap.size ≤ ad.block) → K (a.put o.dst (.slice a' sn cap')) w') : o.wp P a w K Q := by
  have hd : ResAt cs size e w B (some ⟨b, 0, none⟩) 0 0 ([] : List α) := res_empty hb hBb
  have hrow := hd.row hsz
  have hlit : sn = 0 → ls = [] := fun h0 => List.eq_nil_of_length_eq_zero (by rw [hsrc.len]; exact h0)
  cases sa with
  | none =>
    have h0 : sn = 0 := by
      cases ls with
      | nil => rw [← hsrc.len]; rfl
      | cons y r => obtain ⟨b, o', hb, _⟩ := hsrc.cell 0 y rfl; cases hb
    obtain rfl := hlit h0
    obtain rfl := h0
    obtain rfl := hnone rfl
    have hrun := run_append_owned_none (P := P) w B t o.type e i size ht hi (.slice (some ⟨b, 0, none⟩) 0 0) 0 _ hrow
    unfold Oper.wp
    simp [execOp, ho, resolve, invoke, builtin, hs, hx, hrun, Result.andThen]
    exact h _ 0 w hd (Below.refl _ _) (by simp) (fun h => absurd h (by omega))
  | some ad =>
    obtain ⟨sb, off, spot⟩ := ad
    have := hspot _ rfl
    simp only at this
    subst this
    have hnl : (ls.flatMap cs).length = sn * size := by rw [flat_len hsz, hsrc.len]
    by_cases hm : 0 < sn
    · obtain ⟨v', w', hr, hrow', hg, hiff⟩ := run_append_own (P := P) w B t o.type e i z size bytes ht hi hz hsize hby hzs hpos (.slice (some ⟨b, 0, none⟩) 0 0) 0 [] (by simpa using hrow) ⟨sb, off, none⟩ sn scap (ls.flatMap cs) hnl (SlAt.src hsz hsrc) (hone ls) (by omega) (by rw [Nat.zero_add]; exact hbytes) hbase
      subst hsize
      subst hby
      have hr2 := run_append_grow (P := P) w t o.type e i z ht hi hz ⟨b, 0, none⟩ 0 0 [] (by simp) (fun j v hv => by simp at hv) ⟨sb, off, none⟩ sn scap (ls.flatMap cs) hnl (SlAt.src hsz hsrc) (by omega) (by simp only [maxLen] at h63; omega) (growslice_fits (by omega) (by rw [Nat.zero_add]; exact hbytes))
      rw [hr] at hr2
      rw [List.nil_append, Nat.zero_add] at hrow'
      obtain ⟨a', cap', rfl, hres⟩ := res_of_row hsz hsrc.len hrow'
      injection hr2 with e1 e2
      injection e1 with e3 e4 e5
      have hBl : Below w.heap.size w w' := by rw [e2]; exact ((Below.refl _ _).drew).alloc (Nat.le_refl _) _
      unfold Oper.wp
      simp [execOp, ho, resolve, invoke, builtin, hs, hx, hr, Result.andThen]
      refine h a' cap' w' hres hBl (by rw [e3]; simp) (fun _ ad had => ?_)
      rw [e3] at had
      cases had
      exact Nat.le_refl _
    · obtain rfl : sn = 0 := by omega
      obtain rfl := hlit rfl
      subst hsize
      have hrun := run_append_room_cells (P := P) (w := w) t o.type e i ht hi b 0 0 0 ⟨sb, off, none⟩ 0 scap [] (by simp) (fun j u hu => by simp at hu) (fun u hu => by simp at hu) (by omega) (fun j hj => by simp at hj) (fun j hj => by simp at hj)
      unfold Oper.wp
      simp [execOp, ho, resolve, invoke, builtin, hs, hx, hrun, Result.andThen]
      exact h _ 0 w hd (Below.refl _ _) (by simp) (fun h => absurd h (by omega))
def LitJ (B : Nat) (t : TypeId) (u : World) (x : Value) : Prop := ∃ b, x = .slice (some ⟨b, 0, none⟩) 0 0 ∧ Blk u b #[] t ∧ B ≤ b
def ResJ {α : Type} (cs : α → List Value) (sz : Nat) (t : TypeId) (B n : Nat) (l : List α) (u : World) (x : Value) : Prop := ∃ a cap, x = .slice a n cap ∧ ResAt cs sz t u B a n cap l
theorem LitJ.below {B : Nat} {t : TypeId} {u u' : World} {x : Value} (h : LitJ B t u x) (hb : Below u.heap.size u u') : LitJ B t u' x := by
  obtain ⟨b, h1, h2, h3⟩ := h
  exact ⟨b, h1, h2.below hb, h3⟩
theorem ResJ.below {α : Type} {cs : α → List Value} {sz : Nat} {t : TypeId} {B n : Nat} {l : List α} {u u' : World} {x : Value} (h : ResJ cs sz t B n l u x) (hb : Below u.heap.size u u') : ResJ cs sz t B n l u' x := by
  obtain ⟨a, cap, h1, h2⟩ := h
  exact ⟨a, cap, h1, h2.below hb⟩
theorem litJ_new {B : Nat} {t : TypeId} {u : World} (h : B ≤ u.heap.size) : LitJ B t (u.alloc (.cells #[] t)) (.slice (some ⟨u.heap.size, 0, none⟩) 0 0) := ⟨u.heap.size, rfl, Blk.new _ _ _, h⟩
theorem resJ_of {α : Type} {cs : α → List Value} {sz : Nat} {t : TypeId} {B n cap : Nat} {l : List α} {u : World} {a : Option Addr} (h : ResAt cs sz t u B a n cap l) : ResJ cs sz t B n l u (.slice a n cap) := ⟨a, cap, rfl, h⟩
/-- A disk whose three lists are answers. -/
def DiskR (B : Nat) (w : World) (v : Value) (d : Dk) : Prop := ∃ la ln lc sa sn sc oa on oc, v = .agg #[.slice la ln lc, .slice sa sn sc, .slice oa on oc] ∧ ResAt Fl.cs 2 123 w B la ln lc d.live ∧ ResAt Fl.cs 2 123 w B sa sn sc d.safe ∧ ResAt Dp.cs 4 120 w B oa on oc d.ops
theorem DiskR.below {B : Nat} {w w' : World} {v : Value} {d : Dk} (h : DiskR B w v d) (hb : Below w.heap.size w w') : DiskR B w' v d := by
  obtain ⟨la, ln, lc, sa, sn, sc, oa, on, oc, hv, h1, h2, h3⟩ := h
  exact ⟨la, ln, lc, sa, sn, sc, oa, on, oc, hv, h1.below hb, h2.below hb, h3.below hb⟩
theorem DiskR.mono {B B' : Nat} {w : World} {v : Value} {d : Dk} (h : DiskR B w v d) (hb : B' ≤ B) : DiskR B' w v d := by
  obtain ⟨la, ln, lc, sa, sn, sc, oa, on, oc, hv, h1, h2, h3⟩ := h
  exact ⟨la, ln, lc, sa, sn, sc, oa, on, oc, hv, h1.mono hb, h2.mono hb, h3.mono hb⟩
theorem DiskR.at {B : Nat} {w : World} {v : Value} {d : Dk} (h : DiskR B w v d) : DiskAt w v d := by
  obtain ⟨la, ln, lc, sa, sn, sc, oa, on, oc, hv, h1, h2, h3⟩ := h
  exact ⟨la, ln, lc, sa, sn, sc, oa, on, oc, hv, h1.slH, h2.slH, h3.slH⟩
/-- A block of three cells that is written anew. -/
theorem Blk.put3 {w : World} {b : Nat} {c0 c1 c2 x y z : Value} {t : TypeId} (h : Blk w b #[c0, c1, c2] t) : Blk (((w.setCell ⟨b, 0, none⟩ x).setCell ⟨b, 1, none⟩ y).setCell ⟨b, 2, none⟩ z) b #[x, y, z] t := by
  have := ((h.set 0 x).set 1 y).set 2 z
  simpa using this
theorem grown_put3 (w : World) (b : Nat) (x y z : Value) : w.grownBy (((w.setCell ⟨b, 0, none⟩ x).setCell ⟨b, 1, none⟩ y).setCell ⟨b, 2, none⟩ z) (some b) := grown_set (grown_set (grown_set (World.grownBy.refl _ _) _ _) _ _) _ _
theorem DiskR.off {B b : Nat} {w w' : World} {v : Value} {d : Dk} (h : DiskR B w v d) (hg : w.grownBy w' (some b)) (hb : b < B) : DiskR B w' v d := by
  obtain ⟨la, ln, lc, sa, sn, sc, oa, on, oc, hv, h1, h2, h3⟩ := h
  exact ⟨la, ln, lc, sa, sn, sc, oa, on, oc, hv, h1.grown hg (fun ad e => by have := (h1.block ad e).1; omega), h2.grown hg (fun ad e => by have := (h2.block ad e).1; omega), h3.grown hg (fun ad e => by have := (h3.block ad e).1; omega)⟩
set_option maxHeartbeats 4000000 in
set_option maxRecDepth 100000 in
theorem spec_l8Copy (v : Value) (d : Dk) (w : World) (h : DiskAt w v d) (hn : d.live.length ≤ 4000000 ∧ d.safe.length ≤ 4000000 ∧ d.ops.length ≤ 4000000) :
    Calls Tryz.prog 147 #[v] w fun e w' => (∃ v', e = .returned v' ∧ DiskR (w.heap.size + 2) w' v' d) ∧ Below w.heap.size w w' := by
  obtain ⟨la, ln, lc, sa, sn, sc, oa, on, oc, rfl, hL, hS, hO⟩ := h
  rw [hL.sl.len, hS.sl.len, hO.sl.len] at hn
  obtain ⟨hn1, hn2, hn3⟩ := hn
  obtain ⟨live, safe, ops⟩ := d
  simp only at hL hS hO
  go_enter Tryz.func147, Tryz.ntmps147
  go_wp2_with fail
  have C := (Blk.new w #[.slice la ln lc, .slice sa sn sc, .slice oa on oc] 52).alloc (.cells #[.slice none 0 0, .slice none 0 0, .slice none 0 0] 52)
  have E : Blk ((w.alloc (.cells #[.slice la ln lc, .slice sa sn sc, .slice oa on oc] 52)).alloc (.cells #[.slice none 0 0, .slice none 0 0, .slice none 0 0] 52)) (w.heap.size + 1) _ _ := Blk.new' _ _ _ _ (by simp)
  have hB1 : Below w.heap.size w ((w.alloc (.cells #[.slice la ln lc, .slice sa sn sc, .slice oa on oc] 52)).alloc (.cells #[.slice none 0 0, .slice none 0 0, .slice none 0 0] 52)) := by go_grown
  have hs1 : ((w.alloc (.cells #[.slice la ln lc, .slice sa sn sc, .slice oa on oc] 52)).alloc (.cells #[.slice none 0 0, .slice none 0 0, .slice none 0 0] 52)).heap.size = w.heap.size + 2 := by simp
  generalize (w.alloc (.cells #[.slice la ln lc, .slice sa sn sc, .slice oa on oc] 52)).alloc (.cells #[.slice none 0 0, .slice none 0 0, .slice none 0 0] 52) = W at *
  obtain ⟨c0, c1, c2⟩ := C.three
  have hL1 := hL.below hB1
  have hS1 := hS.below hB1
  have hO1 := hO.below hB1
  have hSB : ∀ u, Below W.heap.size W u → (fun u => u.cell? ⟨w.heap.size, 0, none⟩ = some (.slice la ln lc) ∧ u.cell? ⟨w.heap.size, 1, none⟩ = some (.slice sa sn sc) ∧ u.cell? ⟨w.heap.size, 2, none⟩ = some (.slice oa on oc)) u := fun u hu => ⟨bcell hu c0, bcell hu c1, bcell hu c2⟩
  have hWd : Below W.heap.size W W.drew := (Below.refl _ _).drew
  have hsz : w.heap.size + 2 ≤ W.heap.size := by omega
  clear hs1
  have hS0 : (fun u => u.cell? ⟨w.heap.size, 0, none⟩ = some (.slice la ln lc) ∧ u.cell? ⟨w.heap.size, 1, none⟩ = some (.slice sa sn sc) ∧ u.cell? ⟨w.heap.size, 2, none⟩ = some (.slice oa on oc)) W.drew := hSB _ hWd
  refine wp_region_last (S := (fun u => u.cell? ⟨w.heap.size, 0, none⟩ = some (.slice la ln lc) ∧ u.cell? ⟨w.heap.size, 1, none⟩ = some (.slice sa sn sc) ∧ u.cell? ⟨w.heap.size, 2, none⟩ = some (.slice oa on oc))) 13 (by kernel_rfl) (by kernel_rfl) ?_
  refine takeQ (i := 1) (v := ?vq26001) rfl (by kernel_rfl) (fun _ _ _ h => h) (by rfl) ?hq26001 (by assumption) ?rq26001
  case hq26001 => (intro u hu; (try dsimp only at hu); go_simp <;> with_reducible rfl)
  try simp only [Act.put, lsA, lsB, lsC]
  refine takeQ (i := 2) (v := ?vq26002) rfl (by kernel_rfl) (fun _ _ _ h => h) (by rfl) ?hq26002 (by assumption) ?rq26002
  case hq26002 => (intro u hu; (try dsimp only at hu); go_simp <;> with_reducible rfl)
  try simp only [Act.put, lsA, lsB, lsC]
  refine takeQ (i := 5) (v := ?vq26003) rfl (by kernel_rfl) (fun _ _ _ h => h) (by rfl) ?hq26003 (by assumption) ?rq26003
  case hq26003 => (intro u hu; (try dsimp only at hu); go_simp <;> with_reducible rfl)
  try simp only [Act.put, lsA, lsB, lsC]
  refine takeQ (i := 6) (v := ?vq26004) rfl (by kernel_rfl) (fun _ _ _ h => h) (by rfl) ?hq26004 (by assumption) ?rq26004
  case hq26004 => (intro u hu; (try dsimp only at hu); go_simp <;> with_reducible rfl)
  try simp only [Act.put, lsA, lsB, lsC]
  refine takeQ (i := 9) (v := ?vq26005) rfl (by kernel_rfl) (fun _ _ _ h => h) (by rfl) ?hq26005 (by assumption) ?rq26005
  case hq26005 => (intro u hu; (try dsimp only at hu); go_simp <;> with_reducible rfl)
  try simp only [Act.put, lsA, lsB, lsC]
  refine takeQ (i := 10) (v := ?vq26006) rfl (by kernel_rfl) (fun _ _ _ h => h) (by rfl) ?hq26006 (by assumption) ?rq26006
  case hq26006 => (intro u hu; (try dsimp only at hu); go_simp <;> with_reducible rfl)
  try simp only [Act.put, lsA, lsB, lsC]
  refine wpAnyH_float W [3, 6, 7, 10, 11, 14, 15] [0, 3, 4, 7, 8, 11, 12] (fun i => [3, 0, 0, 6, 7, 0, 0, 10, 11, 0, 0, 14, 15].getD i 0) (fun b x u => (b 0 = true → LitJ (w.heap.size + 2) 123 u (x 3)) ∧ (b 3 = true → ResJ Fl.cs 2 123 (w.heap.size + 2) ln live u (x 6)) ∧ (b 4 = true → LitJ (w.heap.size + 2) 123 u (x 7)) ∧ (b 7 = true → ResJ Fl.cs 2 123 (w.heap.size + 2) sn safe u (x 10)) ∧ (b 8 = true → LitJ (w.heap.size + 2) 120 u (x 11)) ∧ (b 11 = true → ResJ Dp.cs 4 120 (w.heap.size + 2) on ops u (x 14)) ∧ (b 12 = true → ∃ y0 y1 y2, x 15 = .agg #[y0, y1, y2] ∧ ResJ Fl.cs 2 123 (w.heap.size + 2) ln live u y0 ∧ ResJ Fl.cs 2 123 (w.heap.size + 2) sn safe u y1 ∧ ResJ Dp.cs 4 120 (w.heap.size + 2) on ops u y2)) (by kernel_rfl) (by kernel_rfl) (by kernel_rfl) (by kernel_rfl) (Nat.le_of_eq (by kernel_rfl)) hSB hWd ?init ?step ?done
  case init => exact ⟨(fun h => by cases h), (fun h => by cases h), (fun h => by cases h), (fun h => by cases h), (fun h => by cases h), (fun h => by cases h), (fun h => by cases h)⟩
  case step =>
    intro i hi b a u hA hB hG hbi hdep
    obtain ⟨g0, g3, g4, g7, g8, g11, g12⟩ := hG
    simp only [List.mem_cons, List.not_mem_nil, or_false] at hi
    rcases hi with rfl | rfl | rfl | rfl | rfl | rfl | rfl
    · refine wpOp_atJ rfl rfl (fun K hK => ?_)
      have hb : Below u.heap.size u (u.alloc (.cells #[] 123)) := (Below.refl _ _).alloc (Nat.le_refl _) _
      go_simp
      exact hK.out _ _ ⟨_, rfl, hb, ⟨(fun _ => (by simpa using litJ_new (by have := hB.size; omega))), (fun h => (by simpa using (g3 (by simpa using h)).below hb)), (fun h => (by simpa using (g4 (by simpa using h)).below hb)), (fun h => (by simpa using (g7 (by simpa using h)).below hb)), (fun h => (by simpa using (g8 (by simpa using h)).below hb)), (fun h => (by simpa using (g11 (by simpa using h)).below hb)), (fun h => (by obtain ⟨y0, y1, y2, e0, e1, e2, e3⟩ := g12 (by simpa using h); exact ⟨y0, y1, y2, by simpa using e0, e1.below hb, e2.below hb, e3.below hb⟩))⟩⟩
    · obtain ⟨lb, e1, L1, l2⟩ := g0 (hdep _ rfl ⟨0, .data⟩ (by simp) rfl)
      refine wpOp_atJ rfl rfl (fun K hK => ?_)
      obtain ⟨i0, hi0, hz0, hz1, hz2⟩ := info_parts infoFl
      refine wp_appLitJ (.tmp 3) (.tmp 5) 49 rfl ((w.heap.size + 2)) 123 i0 _ 32 Tryz.underlying49 hi0 hz0 hz1 hz2 rfl (by decide) flcs_len flcs_one lb e1 L1 l2 la ln lc live (by rw [hA.eval (by decide)]; rfl) (hL1.sl.below hB) hL1.spot hL1.nil (by unfold maxLen; omega) (by omega) (by have := hB.size; omega) (fun a3 c3 u3 R3 hb _ _ => ?_)
      exact hK.out _ _ ⟨_, rfl, hb, ⟨(fun h => (by simpa using (g0 (by simpa using h)).below hb)), (fun _ => (by simpa using resJ_of R3)), (fun h => (by simpa using (g4 (by simpa using h)).below hb)), (fun h => (by simpa using (g7 (by simpa using h)).below hb)), (fun h => (by simpa using (g8 (by simpa using h)).below hb)), (fun h => (by simpa using (g11 (by simpa using h)).below hb)), (fun h => (by obtain ⟨y0, y1, y2, e0, e1, e2, e3⟩ := g12 (by simpa using h); exact ⟨y0, y1, y2, by simpa using e0, e1.below hb, e2.below hb, e3.below hb⟩))⟩⟩
    · refine wpOp_atJ rfl rfl (fun K hK => ?_)
      have hb : Below u.heap.size u (u.alloc (.cells #[] 123)) := (Below.refl _ _).alloc (Nat.le_refl _) _
      go_simp
      exact hK.out _ _ ⟨_, rfl, hb, ⟨(fun h => (by simpa using (g0 (by simpa using h)).below hb)), (fun h => (by simpa using (g3 (by simpa using h)).below hb)), (fun _ => (by simpa using litJ_new (by have := hB.size; omega))), (fun h => (by simpa using (g7 (by simpa using h)).below hb)), (fun h => (by simpa using (g8 (by simpa using h)).below hb)), (fun h => (by simpa using (g11 (by simpa using h)).below hb)), (fun h => (by obtain ⟨y0, y1, y2, e0, e1, e2, e3⟩ := g12 (by simpa using h); exact ⟨y0, y1, y2, by simpa using e0, e1.below hb, e2.below hb, e3.below hb⟩))⟩⟩
    · obtain ⟨lb, e1, L1, l2⟩ := g4 (hdep _ rfl ⟨4, .data⟩ (by simp) rfl)
      refine wpOp_atJ rfl rfl (fun K hK => ?_)
      obtain ⟨i0, hi0, hz0, hz1, hz2⟩ := info_parts infoFl
      refine wp_appLitJ (.tmp 7) (.tmp 9) 49 rfl ((w.heap.size + 2)) 123 i0 _ 32 Tryz.underlying49 hi0 hz0 hz1 hz2 rfl (by decide) flcs_len flcs_one lb e1 L1 l2 sa sn sc safe (by rw [hA.eval (by decide)]; rfl) (hS1.sl.below hB) hS1.spot hS1.nil (by unfold maxLen; omega) (by omega) (by have := hB.size; omega) (fun a3 c3 u3 R3 hb _ _ => ?_)
      exact hK.out _ _ ⟨_, rfl, hb, ⟨(fun h => (by simpa using (g0 (by simpa using h)).below hb)), (fun h => (by simpa using (g3 (by simpa using h)).below hb)), (fun h => (by simpa using (g4 (by simpa using h)).below hb)), (fun _ => (by simpa using resJ_of R3)), (fun h => (by simpa using (g8 (by simpa using h)).below hb)), (fun h => (by simpa using (g11 (by simpa using h)).below hb)), (fun h => (by obtain ⟨y0, y1, y2, e0, e1, e2, e3⟩ := g12 (by simpa using h); exact ⟨y0, y1, y2, by simpa using e0, e1.below hb, e2.below hb, e3.below hb⟩))⟩⟩
    · refine wpOp_atJ rfl rfl (fun K hK => ?_)
      have hb : Below u.heap.size u (u.alloc (.cells #[] 120)) := (Below.refl _ _).alloc (Nat.le_refl _) _
      go_simp
      exact hK.out _ _ ⟨_, rfl, hb, ⟨(fun h => (by simpa using (g0 (by simpa using h)).below hb)), (fun h => (by simpa using (g3 (by simpa using h)).below hb)), (fun h => (by simpa using (g4 (by simpa using h)).below hb)), (fun h => (by simpa using (g7 (by simpa using h)).below hb)), (fun _ => (by simpa using litJ_new (by have := hB.size; omega))), (fun h => (by simpa using (g11 (by simpa using h)).below hb)), (fun h => (by obtain ⟨y0, y1, y2, e0, e1, e2, e3⟩ := g12 (by simpa using h); exact ⟨y0, y1, y2, by simpa using e0, e1.below hb, e2.below hb, e3.below hb⟩))⟩⟩
    · obtain ⟨lb, e1, L1, l2⟩ := g8 (hdep _ rfl ⟨8, .data⟩ (by simp) rfl)
      refine wpOp_atJ rfl rfl (fun K hK => ?_)
      obtain ⟨i0, hi0, hz0, hz1, hz2⟩ := info_parts infoDp
      refine wp_appLitJ (.tmp 11) (.tmp 13) 50 rfl ((w.heap.size + 2)) 120 i0 _ 56 Tryz.underlying50 hi0 hz0 hz1 hz2 rfl (by decide) dpcs_len dpcs_one lb e1 L1 l2 oa on oc ops (by rw [hA.eval (by decide)]; rfl) (hO1.sl.below hB) hO1.spot hO1.nil (by unfold maxLen; omega) (by omega) (by have := hB.size; omega) (fun a3 c3 u3 R3 hb _ _ => ?_)
      exact hK.out _ _ ⟨_, rfl, hb, ⟨(fun h => (by simpa using (g0 (by simpa using h)).below hb)), (fun h => (by simpa using (g3 (by simpa using h)).below hb)), (fun h => (by simpa using (g4 (by simpa using h)).below hb)), (fun h => (by simpa using (g7 (by simpa using h)).below hb)), (fun h => (by simpa using (g8 (by simpa using h)).below hb)), (fun _ => (by simpa using resJ_of R3)), (fun h => (by obtain ⟨y0, y1, y2, e0, e1, e2, e3⟩ := g12 (by simpa using h); exact ⟨y0, y1, y2, by simpa using e0, e1.below hb, e2.below hb, e3.below hb⟩))⟩⟩
    · refine wpOp_atJ rfl rfl (fun K hK => ?_)
      have r0 := g3 (hdep _ rfl ⟨3, .data⟩ (by simp) rfl)
      have r1 := g7 (hdep _ rfl ⟨7, .data⟩ (by simp) rfl)
      have r2 := g11 (hdep _ rfl ⟨11, .data⟩ (by simp) rfl)
      have hb : Below u.heap.size u u := Below.refl _ _
      have hev : ∀ k, a.eval (.tmp k) = a.tmps.getD k undef := fun _ => rfl
      obtain ⟨ya0, yc0, ey0, ry0⟩ := r0
      have ez0 : a.tmps[6]?.getD undef = .slice ya0 ln yc0 := by simpa [Act.eval] using ey0
      obtain ⟨ya1, yc1, ey1, ry1⟩ := r1
      have ez1 : a.tmps[10]?.getD undef = .slice ya1 sn yc1 := by simpa [Act.eval] using ey1
      obtain ⟨ya2, yc2, ey2, ry2⟩ := r2
      have ez2 : a.tmps[14]?.getD undef = .slice ya2 on yc2 := by simpa [Act.eval] using ey2
      go_simp
      refine hK.out _ _ ⟨_, rfl, hb, ⟨(fun h => (by simpa using (g0 (by simpa using h)).below hb)), (fun h => (by simpa using (g3 (by simpa using h)).below hb)), (fun h => (by simpa using (g4 (by simpa using h)).below hb)), (fun h => (by simpa using (g7 (by simpa using h)).below hb)), (fun h => (by simpa using (g8 (by simpa using h)).below hb)), (fun h => (by simpa using (g11 (by simpa using h)).below hb)), (fun _ => ⟨_, _, _, rfl, resJ_of ry0, resJ_of ry1, resJ_of ry2⟩)⟩⟩
  case done =>
    rintro b x u hB ⟨_, _, _, _, _, _, g12⟩ hall
    obtain ⟨y0, y1, y2, e0, ⟨a0, k0, rfl, R0⟩, ⟨a1, k1, rfl, R1⟩, ⟨a2, k2, rfl, R2⟩⟩ := g12 (hall 12 (by simp))
    refine lastL rfl ?_
    simp only [putAll, List.foldl_cons, List.foldl_nil, e0]
    try simp only [Act.put, lsA, lsB, lsC]
    have E1 := E.below hB
    have hBw := chain hB1 hB
    obtain ⟨z0, z1, z2⟩ := E1.three
    have f0 := E1.frozen 0
    have f1 := E1.frozen 1
    have f2 := E1.frozen 2
    clear C c0 c1 c2 hSB hS0
    go_wp2
    have E2 := E1.put3 (x := .slice a0 ln k0) (y := .slice a1 sn k1) (z := .slice a2 on k2)
    have hg := grown_put3 u (w.heap.size + 1) (.slice a0 ln k0) (.slice a1 sn k1) (.slice a2 on k2)
    have DR : DiskR (w.heap.size + 2) u (.agg #[.slice a0 ln k0, .slice a1 sn k1, .slice a2 on k2]) ⟨live, safe, ops⟩ := ⟨_, _, _, _, _, _, _, _, _, rfl, R0, R1, R2⟩
    have DR2 := DR.off hg (by omega)
    have hB2 := below_grown hBw hg (by omega)
    generalize ((u.setCell ⟨w.heap.size + 1, 0, none⟩ (.slice a0 ln k0)).setCell ⟨w.heap.size + 1, 1, none⟩ (.slice a1 sn k1)).setCell ⟨w.heap.size + 1, 2, none⟩ (.slice a2 on k2) = W8 at *
    refine bodyPost_ret (results_cell_row rfl _ W8 (w.heap.size + 1) _ _ _ _ rfl E2 Tryz.underlying52 rfl (by kernel_rfl)) rfl ?_
    exact ⟨⟨_, rfl, DR2⟩, hB2⟩
end Go.Proofs.YtigldeccfpkdmaaGreatDoor
