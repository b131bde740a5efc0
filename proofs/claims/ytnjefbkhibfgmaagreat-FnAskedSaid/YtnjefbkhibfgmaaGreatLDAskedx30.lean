/- Copies of pools, by the model. -/
import Derived.Test.YtnjefbkhibfgmaaGreatProg
import Derived.Test.YtnjefbkhibfgmaaGreatLDAskedx14
import Derived.Test.YtnjefbkhibfgmaaGreatLDAskedx15
namespace Go.Proofs.YtnjefbkhibfgmaaGreat
open Go.RowKit Go.BigFrame
set_option maxHeartbeats 4000000 in
set_option maxRecDepth 100000 in
theorem spec_l4Copy (B0 : Nat) (hB0 : 0 < B0) (v : Value) (p : Po) (w : World) (h : PoolAt B0 w v p) (hd : DimP p) :
    Calls Tryz.prog 106 #[v] w fun e w' => (∃ v', e = .returned v' ∧ PoolT w.heap.size w' v' p ∧ NnE v') ∧ Below w.heap.size w w' := by
  obtain ⟨ea, en, ec, va, vn, vc, ra, rn, rc, la, ln, lc, rfl, ⟨h1, k1⟩, ⟨h2, k2⟩, ⟨h3, k3⟩, h4, k4⟩ := h
  obtain ⟨z1, z2, z3, z4, z5, z6, z7, z8⟩ := hd
  rw [h1.len] at z1
  rw [h2.len] at z3
  rw [h3.len] at z5
  rw [h4.len] at z7
  obtain ⟨size, next, ex, vs, rf, lt⟩ := p
  simp only at h1 h2 h3 h4 z2 z4 z6 z8
  go_enter Tryz.func106, Tryz.ntmps106
  go_wp2_with fail
  have C := (Blk.new w #[.int .i64 size, .int .i64 next, .slice ea en ec, .slice va vn vc, .slice ra rn rc, .slice la ln lc] 28).alloc (.cells #[.int .i64 0, .int .i64 0, .slice none 0 0, .slice none 0 0, .slice none 0 0, .slice none 0 0] 28)
  have D : Blk ((w.alloc (.cells #[.int .i64 size, .int .i64 next, .slice ea en ec, .slice va vn vc, .slice ra rn rc, .slice la ln lc] 28)).alloc (.cells #[.int .i64 0, .int .i64 0, .slice none 0 0, .slice none 0 0, .slice none 0 0, .slice none 0 0] 28)) (w.heap.size + 1) _ _ := Blk.new' _ _ _ _ (by simp)
  have hB1 : Below w.heap.size w ((w.alloc (.cells #[.int .i64 size, .int .i64 next, .slice ea en ec, .slice va vn vc, .slice ra rn rc, .slice la ln lc] 28)).alloc (.cells #[.int .i64 0, .int .i64 0, .slice none 0 0, .slice none 0 0, .slice none 0 0, .slice none 0 0] 28)) := by go_grown
  have hs1 : ((w.alloc (.cells #[.int .i64 size, .int .i64 next, .slice ea en ec, .slice va vn vc, .slice ra rn rc, .slice la ln lc] 28)).alloc (.cells #[.int .i64 0, .int .i64 0, .slice none 0 0, .slice none 0 0, .slice none 0 0, .slice none 0 0] 28)).heap.size = w.heap.size + 2 := by simp
  generalize (w.alloc (.cells #[.int .i64 size, .int .i64 next, .slice ea en ec, .slice va vn vc, .slice ra rn rc, .slice la ln lc] 28)).alloc (.cells #[.int .i64 0, .int .i64 0, .slice none 0 0, .slice none 0 0, .slice none 0 0, .slice none 0 0] 28) = W at *
  obtain ⟨c0, c1, c2, c3, c4, c5⟩ := C.six'
  have hSB : ∀ u, Below W.heap.size W u → (fun u => u.cell? ⟨w.heap.size, 0, none⟩ = some (.int .i64 size) ∧ u.cell? ⟨w.heap.size, 1, none⟩ = some (.int .i64 next) ∧ u.cell? ⟨w.heap.size, 2, none⟩ = some (.slice ea en ec) ∧ u.cell? ⟨w.heap.size, 4, none⟩ = some (.slice ra rn rc) ∧ u.cell? ⟨w.heap.size, 5, none⟩ = some (.slice la ln lc)) u := fun u hu => ⟨bcell hu c0, bcell hu c1, bcell hu c2, bcell hu c4, bcell hu c5⟩
  have hWd : Below W.heap.size W W.drew := (Below.refl _ _).drew
  have hS0 := hSB W.drew hWd
  refine wp_region_last (S := (fun u => u.cell? ⟨w.heap.size, 0, none⟩ = some (.int .i64 size) ∧ u.cell? ⟨w.heap.size, 1, none⟩ = some (.int .i64 next) ∧ u.cell? ⟨w.heap.size, 2, none⟩ = some (.slice ea en ec) ∧ u.cell? ⟨w.heap.size, 4, none⟩ = some (.slice ra rn rc) ∧ u.cell? ⟨w.heap.size, 5, none⟩ = some (.slice la ln lc))) 18 (by kernel_rfl) (by kernel_rfl) ?_
  refine takeQ (i := 0) (v := ?vq1) rfl (by kernel_rfl) (fun _ _ _ h => h) (by rfl) ?hq1 (by assumption) ?rq1
  case hq1 => (intro u hu; (try dsimp only at hu); go_simp <;> with_reducible rfl)
  try simp only [Act.put, lsA, lsB, lsC]
  refine takeQ (i := 1) (v := ?vq2) rfl (by kernel_rfl) (fun _ _ _ h => h) (by rfl) ?hq2 (by assumption) ?rq2
  case hq2 => (intro u hu; (try dsimp only at hu); go_simp <;> with_reducible rfl)
  try simp only [Act.put, lsA, lsB, lsC]
  refine takeQ (i := 2) (v := ?vq3) rfl (by kernel_rfl) (fun _ _ _ h => h) (by rfl) ?hq3 (by assumption) ?rq3
  case hq3 => (intro u hu; (try dsimp only at hu); go_simp <;> with_reducible rfl)
  try simp only [Act.put, lsA, lsB, lsC]
  refine takeQ (i := 3) (v := ?vq4) rfl (by kernel_rfl) (fun _ _ _ h => h) (by rfl) ?hq4 (by assumption) ?rq4
  case hq4 => (intro u hu; (try dsimp only at hu); go_simp <;> with_reducible rfl)
  try simp only [Act.put, lsA, lsB, lsC]
  refine takeQ (i := 5) (v := ?vq5) rfl (by kernel_rfl) (fun _ _ _ h => h) (by rfl) ?hq5 (by assumption) ?rq5
  case hq5 => (intro u hu; (try dsimp only at hu); go_simp <;> with_reducible rfl)
  try simp only [Act.put, lsA, lsB, lsC]
  refine takeQ (i := 6) (v := ?vq6) rfl (by kernel_rfl) (fun _ _ _ h => h) (by rfl) ?hq6 (by assumption) ?rq6
  case hq6 => (intro u hu; (try dsimp only at hu); go_simp <;> with_reducible rfl)
  try simp only [Act.put, lsA, lsB, lsC]
  refine takeQ (i := 9) (v := ?vq7) rfl (by kernel_rfl) (fun _ _ _ h => h) (by rfl) ?hq7 (by assumption) ?rq7
  case hq7 => (intro u hu; (try dsimp only at hu); go_simp <;> with_reducible rfl)
  try simp only [Act.put, lsA, lsB, lsC]
  refine takeQ (i := 10) (v := ?vq8) rfl (by kernel_rfl) (fun _ _ _ h => h) (by rfl) ?hq8 (by assumption) ?rq8
  case hq8 => (intro u hu; (try dsimp only at hu); go_simp <;> with_reducible rfl)
  try simp only [Act.put, lsA, lsB, lsC]
  refine takeQ (i := 13) (v := ?vq9) rfl (by kernel_rfl) (fun _ _ _ h => h) (by rfl) ?hq9 (by assumption) ?rq9
  case hq9 => (intro u hu; (try dsimp only at hu); go_simp <;> with_reducible rfl)
  try simp only [Act.put, lsA, lsB, lsC]
  refine takeQ (i := 14) (v := ?vq10) rfl (by kernel_rfl) (fun _ _ _ h => h) (by rfl) ?hq10 (by assumption) ?rq10
  case hq10 => (intro u hu; (try dsimp only at hu); go_simp <;> with_reducible rfl)
  try simp only [Act.put, lsA, lsB, lsC]
  refine wpAnyH_invF (F := (fun a0 => a0.tmps.size = 41 ∧ a0.eval (.tmp 6) = .int .i64 size ∧ a0.eval (.tmp 8) = .int .i64 next ∧ a0.eval (.tmp 11) = .slice ea en ec ∧ a0.eval (.tmp 15) = .slice ra rn rc ∧ a0.eval (.tmp 19) = .slice la ln lc)) (I := (fun a0 L a u => ∃ (b4 b7 b8 b11 b12 b15 b16 b17 : Bool) (x9 x12 x13 x16 x17 x20 x21 x3 : Value), L = #[true, true, true, true, b4, true, true, b7, b8, true, true, b11, b12, true, true, b15, b16, b17, true] ∧ a = putA a0 x9 x12 x13 x16 x17 x20 x21 x3 ∧ Below W.heap.size W u ∧ (b4 = true → LitT (w.heap.size + 2) 72 u x9) ∧ (b7 = true → ResT Ex.cs 2 72 (w.heap.size + 2) en ex u x12) ∧ (b8 = true → LitT (w.heap.size + 2) 38 u x13) ∧ (b11 = true → ResT Ct.cs 4 38 (w.heap.size + 2) rn rf u x16) ∧ (b12 = true → LitT (w.heap.size + 2) 38 u x17) ∧ (b15 = true → b11 = true ∧ ResT Ct.cs 4 38 (w.heap.size + 2) ln lt u x20 ∧ SepT x16 x20) ∧ (b16 = true → b7 = true ∧ b11 = true ∧ b15 = true ∧ x21 = .agg #[.int .i64 size, .int .i64 next, x12, .slice none 0 0, x16, x20]) ∧ (b17 = true → BoxT (w.heap.size + 2) 28 #[.int .i64 0, .int .i64 0, .slice none 0 0, .slice none 0 0, .slice none 0 0, .slice none 0 0] u x3))) ?fr ?step ?done ?sz ?cnt ?init
  case fr => exact ⟨rfl, rfl, rfl, rfl, rfl, rfl⟩
  case sz => (rintro L a u ⟨b4, b7, b8, b11, b12, b15, b16, b17, x9, x12, x13, x16, x17, x20, x21, x3, rfl, _⟩; rfl)
  case cnt => exact Nat.le_of_eq (by kernel_rfl)
  case init => exact ⟨false, false, false, false, false, false, false, false, undef, undef, undef, undef, undef, undef, undef, undef, by kernel_rfl, by kernel_rfl, hWd, (fun h => by cases h), (fun h => by cases h), (fun h => by cases h), (fun h => by cases h), (fun h => by cases h), (fun h => by cases h), (fun h => by cases h), (fun h => by cases h)⟩
  case done =>
    rintro L a u ⟨b4, b7, b8, b11, b12, b15, b16, b17, x9, x12, x13, x16, x17, x20, x21, x3, rfl, rfl, hBu, t4, t7, t8, t11, t12, t15, t16, t17⟩ hr
    have q4 : b4 = true := ready_all (k := 4) hr rfl (fun e he _ => by simp at he)
    subst q4
    have q7 : b7 = true := ready_all (k := 7) hr rfl (fun e he _ => by simp at he; rcases he with rfl | rfl <;> rfl)
    subst q7
    have q8 : b8 = true := ready_all (k := 8) hr rfl (fun e he _ => by simp at he)
    subst q8
    have q11 : b11 = true := ready_all (k := 11) hr rfl (fun e he _ => by simp at he; rcases he with rfl | rfl | rfl <;> rfl)
    subst q11
    have q12 : b12 = true := ready_all (k := 12) hr rfl (fun e he _ => by simp at he)
    subst q12
    have q15 : b15 = true := ready_all (k := 15) hr rfl (fun e he _ => by simp at he; rcases he with rfl | rfl | rfl <;> rfl)
    subst q15
    have q16 : b16 = true := ready_all (k := 16) hr rfl (fun e he _ => by simp at he; rcases he with rfl | rfl | rfl | rfl | rfl <;> rfl)
    subst q16
    have q17 : b17 = true := ready_all (k := 17) hr rfl (fun e he _ => by simp at he)
    subst q17
    clear hr
    obtain ⟨ea', ec', rfl, R1, hn1⟩ := t7 rfl
    obtain ⟨ra', rc', rfl, R3, _⟩ := t11 rfl
    obtain ⟨_, ⟨la', lc', rfl, R4, _⟩, sep⟩ := t15 rfl
    obtain ⟨_, _, _, rfl⟩ := t16 rfl
    obtain ⟨ob, rfl, Ob, hob⟩ := t17 rfl
    clear t4 t7 t8 t11 t12 t15 t16 t17
    refine lastL rfl ?_
    simp only [putA, Act.put, List.setIfInBounds_toArray, List.set_cons_zero, List.set_cons_succ]
    obtain ⟨o0, o1, o2, o3, o4, o5⟩ := Ob.six'
    have f0 := Ob.frozen 0
    have f1 := Ob.frozen 1
    have f2 := Ob.frozen 2
    have f3 := Ob.frozen 3
    have f4 := Ob.frozen 4
    have f5 := Ob.frozen 5
    obtain ⟨O1, hgO⟩ := set6 Ob (.int .i64 size) (.int .i64 next) (.slice ea' en ec') (.slice none 0 0) (.slice ra' rn rc') (.slice la' ln lc')
    have hgeO : ∀ j, some ob = some j → w.heap.size + 2 ≤ j := fun j e => by cases e; exact hob
    have C1 := (C.below hBu).offB hgO hgeO (by omega)
    have D1 := (D.below hBu).offB hgO hgeO (by omega)
    have Q1 := R1.ty hgO (rowTy_blk Ob) (by decide)
    have Q3 := R3.ty hgO (rowTy_blk Ob) (by decide)
    have Q4 := R4.ty hgO (rowTy_blk Ob) (by decide)
    have hBo := Below.grown (chain hB1 hBu) hgO (chain hB1 hBu).size (fun j e => by have := hgeO j e; omega)
    have hso := hgO.size
    have hus := hBu.size
    go_wp2_with fail
    generalize (((((u.setCell ⟨ob, 0, none⟩ (.int .i64 size)).setCell ⟨ob, 1, none⟩ (.int .i64 next)).setCell ⟨ob, 2, none⟩ (.slice ea' en ec')).setCell ⟨ob, 3, none⟩ (.slice none 0 0)).setCell ⟨ob, 4, none⟩ (.slice ra' rn rc')).setCell ⟨ob, 5, none⟩ (.slice la' ln lc') = U at *
    have hlen : Hid (vs.length = vn) := h2.len
    clear o0 o1 o2 o3 o4 o5 f0 f1 f2 f3 f4 f5 Ob hgO R1 R3 R4 c0 c1 c2 c3 c4 c5 hSB hS0 hWd C D
    go_loopw [4] (fun ix wr => ∃ (k : Nat) (a2 : Option Addr) (cap2 : Nat) (rows : List VR), k ≤ vn ∧ ix = .int .i64 k ∧ Blk wr w.heap.size #[.int .i64 size, .int .i64 next, .slice ea en ec, .slice va vn vc, .slice ra rn rc, .slice la ln lc] 28 ∧ Blk wr (w.heap.size + 1) #[.int .i64 0, .int .i64 0, .slice none 0 0, .slice none 0 0, .slice none 0 0, .slice none 0 0] 28 ∧ Blk wr ob #[.int .i64 size, .int .i64 next, .slice ea' en ec', .slice a2 k cap2, .slice ra' rn rc', .slice la' ln lc'] 28 ∧ ResAt Ex.cs 2 72 wr (w.heap.size + 2) ea' en ec' ex ∧ ResAt Ct.cs 4 38 wr (w.heap.size + 2) ra' rn rc' rf ∧ ResAt Ct.cs 4 38 wr (w.heap.size + 2) la' ln lc' lt ∧ ResAt vrs 4 41 wr (w.heap.size + 2) a2 k cap2 rows ∧ VolsT (w.heap.size + 2) wr rows (vs.take k) ∧ w.heap.size + 2 ≤ wr.heap.size ∧ Below w.heap.size w wr) (fun ix _ => vn - (intOf ix).toNat)
    case atStart => exact ⟨0, none, 0, [], Nat.zero_le _, rfl, C1, D1, O1, Q1, Q3, Q4, res_nil, by simpa using VolsT.nil _ _, by omega, hBo⟩
    case round =>
      clear C1 D1 O1 Q1 Q3 Q4 hBo
      obtain ⟨k, a2, cap2, rows, hk, rfl, C, D, O, Q1, Q3, Q4, RV, TV, hsz, hB⟩ := hrel
      have c3 : wr.cell? ⟨w.heap.size, 3, none⟩ = some (.slice va vn vc) := C.cell 3
      have o3 : wr.cell? ⟨ob, 3, none⟩ = some (.slice a2 k cap2) := O.cell 3
      by_cases hlt : k < vn
      · obtain ⟨b, o, x, qa, qn, qc, rfl, hx, e0, e1, e2, e3, hI, hh, _⟩ := vs_at (h2.below hB) hlt
        obtain ⟨m1, m2, m3⟩ := z4 x (List.mem_of_getElem? hx)
        rw [hI.len] at m2
        have hbw0 : b < w.heap.size := by
          obtain ⟨b', o', _, _, _, _, hbo, _, g0, _⟩ := vs_at h2 hlt
          obtain ⟨rfl, rfl⟩ : b = b' ∧ o = o' := by simpa using hbo
          exact World.block_lt_of_cell? w _ g0
        have hx' : Hid (vs.take (k + 1) = vs.take k ++ [x]) := take_at hx
        clear hx
        have hk1 : (k : Int) < vn := by omega
        have hk2 : (0 : Int) ≤ k := by omega
        go_wp2_with fail
        have hSB : ∀ u, Below wr.heap.size wr u → (fun u => u.cell? ⟨w.heap.size, 3, none⟩ = some (.slice (some ⟨b, o, none⟩) vn vc) ∧ u.cell? ⟨ob, 3, none⟩ = some (.slice a2 k cap2) ∧ u.cell? ⟨b, o + k * 4, none⟩ = some (.int .i64 x.id) ∧ u.cell? ⟨b, o + k * 4 + 1, none⟩ = some (.string x.nm) ∧ u.cell? ⟨b, o + k * 4 + 2, none⟩ = some (.bool x.fx) ∧ u.cell? ⟨b, o + k * 4 + 3, none⟩ = some (.slice qa qn qc)) u := fun u hu => ⟨bcell hu c3, bcell hu o3, bcell hu e0, bcell hu e1, bcell hu e2, bcell hu e3⟩
        have hS0 := hSB wr.drew ((Below.refl _ _).drew)
        refine wp_region_last (S := (fun u => u.cell? ⟨w.heap.size, 3, none⟩ = some (.slice (some ⟨b, o, none⟩) vn vc) ∧ u.cell? ⟨ob, 3, none⟩ = some (.slice a2 k cap2) ∧ u.cell? ⟨b, o + k * 4, none⟩ = some (.int .i64 x.id) ∧ u.cell? ⟨b, o + k * 4 + 1, none⟩ = some (.string x.nm) ∧ u.cell? ⟨b, o + k * 4 + 2, none⟩ = some (.bool x.fx) ∧ u.cell? ⟨b, o + k * 4 + 3, none⟩ = some (.slice qa qn qc))) 11 (by kernel_rfl) (by kernel_rfl) ?_
        refine takeQ (i := 0) (v := ?vq101) rfl (by kernel_rfl) (fun _ _ _ h => h) (by rfl) ?hq101 (by assumption) ?rq101
        case hq101 => (intro u hu; (try dsimp only at hu); go_simp <;> with_reducible rfl)
        try simp only [Act.put, lsA, lsB, lsC]
        refine takeQ (i := 1) (v := ?vq102) rfl (by kernel_rfl) (fun _ _ _ h => h) (by rfl) ?hq102 (by assumption) ?rq102
        case hq102 => (intro u hu; (try dsimp only at hu); go_simp <;> with_reducible rfl)
        try simp only [Act.put, lsA, lsB, lsC]
        refine takeQ (i := 2) (v := ?vq103) rfl (by kernel_rfl) (fun _ _ _ h => h) (by rfl) ?hq103 (by assumption) ?rq103
        case hq103 => (intro u hu; (try dsimp only at hu); go_simp <;> with_reducible rfl)
        try simp only [Act.put, lsA, lsB, lsC]
        refine takeQ (i := 3) (v := ?vq104) rfl (by kernel_rfl) (fun _ _ _ h => h) (by rfl) ?hq104 (by assumption) ?rq104
        case hq104 => (intro u hu; (try dsimp only at hu); go_simp <;> with_reducible rfl)
        try simp only [Act.put, lsA, lsB, lsC]
        refine takeQ (i := 4) (v := ?vq105) rfl (by kernel_rfl) (fun _ _ _ h => h) (by rfl) ?hq105 (by assumption) ?rq105
        case hq105 => (intro u hu; (try dsimp only at hu); go_simp <;> with_reducible rfl)
        try simp only [Act.put, lsA, lsB, lsC]
        refine takeQ (i := 5) (v := ?vq106) rfl (by kernel_rfl) (fun _ _ _ h => h) (by rfl) ?hq106 (by assumption) ?rq106
        case hq106 => (intro u hu; (try dsimp only at hu); go_simp <;> with_reducible rfl)
        try simp only [Act.put, lsA, lsB, lsC]
        refine takeQ (i := 6) (v := ?vq107) rfl (by kernel_rfl) (fun _ _ _ h => h) (by rfl) ?hq107 (by assumption) ?rq107
        case hq107 => (intro u hu; (try dsimp only at hu); go_simp <;> with_reducible rfl)
        try simp only [Act.put, lsA, lsB, lsC]
        refine oneL (i := 7) (by kernel_rfl) rfl (fun K hK => ?_)
        go_simp
        refine (spec_l4CopyVol B0 hB0 x.id x.nm x.fx x.its qa qn qc _ (hI.below ((Below.refl _ _).drew)) m2 (fun y hy => (m3 y hy).2)).mono ?_
        rintro e w1 ⟨⟨pa, pc, irows, rfl, RI, TI⟩, hB1'⟩
        have hB2 : Below wr.heap.size wr w1 := chain ((Below.refl _ _).drew) hB1'
        have hs1' := hB2.size
        dsimp only
        refine hK.out _ _ (hSB _ hB2) (fun hHeld => ?_)
        clear hK K
        try simp only [Act.put, lsA, lsB, lsC]
        refine oneL (i := 8) (by kernel_rfl) rfl (fun K hK => ?_)
        go_simp
        refine hK.out _ _ (hSB _ (chain hB2 (by go_grown))) (fun hHeld => ?_)
        clear hK K
        try simp only [Act.put, lsA, lsB, lsC]
        refine oneL (i := 9) (by kernel_rfl) rfl (fun K hK => ?_)
        have hB4 : Below wr.heap.size wr (w1.alloc (.cells #[.int .i64 x.id, .string x.nm, .bool x.fx, .slice pa qn pc] 41)) := chain hB2 (by go_grown)
        refine step_app rfl (wp_appV _ _ rfl (w.heap.size + 2) a2 k cap2 rows rfl (RV.below hB4) _ 1 1 [(⟨x.id, x.nm, x.fx, pa, qn, pc⟩ : VR)] rfl (sl_newVo _ (⟨x.id, x.nm, x.fx, pa, qn, pc⟩ : VR) _ _ (by simp)) (fun ad h => (by cases h; rfl)) (fun h => (by cases h)) (k + 1) rfl (by omega) (by have := hB4.size; omega) ?_)
        intro a4 cap4 w4 R4 hg4
        have hge4 : ∀ j, Value.ownBlock (.slice a2 k cap2) = some j → w.heap.size + 2 ≤ j := own_ge fun ad had => (RV.block ad had).1
        have hty4 := (RV.below hB4).rowTy (m := k) (k := cap2)
        have C4 := (C.below hB4).offB hg4 hge4 (by omega)
        have D4 := (D.below hB4).offB hg4 hge4 (by omega)
        have O4 := (O.below hB4).ty hg4 hty4 (by decide)
        have hbw : b < w.heap.size + 2 := by omega
        have g0 := hg4.cell (a := ⟨b, o + k * 4, none⟩) (bcell hB4 e0) (own_ne' (fun ad had => (RV.block ad had).1) hbw)
        have g1 := hg4.cell (a := ⟨b, o + k * 4 + 1, none⟩) (bcell hB4 e1) (own_ne' (fun ad had => (RV.block ad had).1) hbw)
        have g2 := hg4.cell (a := ⟨b, o + k * 4 + 2, none⟩) (bcell hB4 e2) (own_ne' (fun ad had => (RV.block ad had).1) hbw)
        have g3 := hg4.cell (a := ⟨b, o + k * 4 + 3, none⟩) (bcell hB4 e3) (own_ne' (fun ad had => (RV.block ad had).1) hbw)
        refine hK.out _ _ ⟨C4.cell 3, O4.cell 3, g0, g1, g2, g3⟩ (fun hHeld => ?_)
        clear hK K
        try simp only [Act.put, lsA, lsB, lsC]
        refine takeQ (i := 10) (v := ?vq108) rfl (by kernel_rfl) (fun _ _ _ h => h) (by rfl) ?hq108 (by assumption) ?rq108
        case hq108 => (intro u hu; (try dsimp only at hu); go_simp <;> with_reducible rfl)
        try simp only [Act.put, lsA, lsB, lsC]
        refine wpAnyH_done (by kernel_rfl) ?_ _
        refine lastL rfl ?_
        have y4 : w4.cell? ⟨ob, 3, none⟩ = some (.slice a2 k cap2) := O4.cell 3
        have f4 : w4.frozen? ⟨ob, 3, none⟩ = false := O4.frozen 3
        go_wp2
        go_roundw
        case rel =>
          have hg5 := gset w4 ob 3 (.slice a4 (k + 1) cap4)
          have hsB := hB.size
          have hs4 := hg4.size
          have hs5 := hg5.size
          have hsb := hB4.size
          have ht5 := rowTy_blk O4
          refine ⟨k + 1, a4, cap4, rows ++ [⟨x.id, x.nm, x.fx, pa, qn, pc⟩], by omega, by go_num, C4.other _ _ (by simp only [ne_eq]; omega), D4.other _ _ (by simp only [ne_eq]; omega), by simpa using O4.set 3 (.slice a4 (k + 1) cap4), ((Q1.below hB4).ty hg4 hty4 (by decide)).ty hg5 ht5 (by decide), ((Q3.below hB4).ty hg4 hty4 (by decide)).ty hg5 ht5 (by decide), ((Q4.below hB4).ty hg4 hty4 (by decide)).ty hg5 ht5 (by decide), R4.ty hg5 ht5 (by decide), ?_, by omega, ?_⟩
          · rw [hx'.out]
            have V4 : VolT (w.heap.size + 2) w4 ⟨x.id, x.nm, x.fx, pa, qn, pc⟩ x := ⟨rfl, rfl, rfl, irows, ((RI.alloc _).ty hg4 hty4 (by decide)).mono (by simp only [World.size_drew] at *; omega), ((TI.below (by go_grown)).ty hg4 hty4 (by decide)).mono (by simp only [World.size_drew] at *; omega)⟩
            exact (((TV.below hB4).ty hg4 hty4 (by decide) (by decide)).snoc V4).ty hg5 ht5 (by decide) (by decide)
          · exact Below.setCell (Below.grown (chain hB hB4) hg4 (by omega) (fun j e => by have := hge4 j e; omega)) (by simp only; omega) _
        case measure => simp [intOf]; omega
      · obtain rfl : k = vn := by omega
        obtain ⟨y0, y1, y2, y3, y4, y5⟩ := O.six'
        obtain ⟨x0, x1, x2, x3, x4, x5⟩ := D.six'
        have f0 := D.frozen 0
        have f1 := D.frozen 1
        have f2 := D.frozen 2
        have f3 := D.frozen 3
        have f4 := D.frozen 4
        have f5 := D.frozen 5
        obtain ⟨W0, hg0⟩ := set6 D (.int .i64 size) (.int .i64 next) (.slice ea' en ec') (.slice a2 k cap2) (.slice ra' rn rc') (.slice la' ln lc')
        have ht0 := rowTy_blk D
        have P1 := Q1.ty hg0 ht0 (by decide)
        have P3 := Q3.ty hg0 ht0 (by decide)
        have P4 := Q4.ty hg0 ht0 (by decide)
        have PV := RV.ty hg0 ht0 (by decide)
        have PT := TV.ty hg0 ht0 (by decide) (by decide)
        have PB := hB.grown hg0 hB.size (fun j e => by cases e; omega)
        go_wp2
        generalize (((((wr.setCell ⟨w.heap.size + 1, 0, none⟩ (.int .i64 size)).setCell ⟨w.heap.size + 1, 1, none⟩ (.int .i64 next)).setCell ⟨w.heap.size + 1, 2, none⟩ (.slice ea' en ec')).setCell ⟨w.heap.size + 1, 3, none⟩ (.slice a2 k cap2)).setCell ⟨w.heap.size + 1, 4, none⟩ (.slice ra' rn rc')).setCell ⟨w.heap.size + 1, 5, none⟩ (.slice la' ln lc') = W8 at *
        refine bodyPost_ret (results_cell_row rfl _ W8 (w.heap.size + 1) _ _ _ _ rfl W0 Tryz.underlying28 rfl (by kernel_rfl)) rfl ?_
        rw [List.take_of_length_le (Nat.le_of_eq hlen.out)] at PT
        exact ⟨⟨_, rfl, ⟨ea', en, ec', a2, k, cap2, ra', rn, rc', la', ln, lc', rows, rfl, P1.mono (by omega), ⟨PV.mono (by omega), PT.mono (by omega)⟩, P3.mono (by omega), P4.mono (by omega), fun p q ep eq hp hq => sep _ _ _ _ _ _ rfl rfl p q ep eq hp hq⟩, fun _ _ _ _ _ _ _ _ e => by cases e; exact hn1⟩, PB⟩
  case step =>
    rintro a0 ⟨fsz, f6, f8, f11, f15, f19⟩
    rintro L a u i ⟨b4, b7, b8, b11, b12, b15, b16, b17, x9, x12, x13, x16, x17, x20, x21, x3, rfl, rfl, hBu, t4, t7, t8, t11, t12, t15, t16, t17⟩ hi
    obtain ⟨h0, o, ho, hdep⟩ := mem_ready.1 hi
    have hi19 : i < 19 := (Array.getElem?_eq_some_iff.1 ho).1
    have hus := hBu.size
    clear hi
    obtain ⟨i0, hiC, hz0, hz1, hz2⟩ := info_parts infoC
    obtain ⟨i1, hiE, hy0, hy1, hy2⟩ := info_parts infoE
    obtain rfl | rfl | rfl | rfl | rfl | rfl | rfl | rfl | rfl | rfl | rfl | rfl | rfl | rfl | rfl | rfl | rfl | rfl | rfl : i = 0 ∨ i = 1 ∨ i = 2 ∨ i = 3 ∨ i = 4 ∨ i = 5 ∨ i = 6 ∨ i = 7 ∨ i = 8 ∨ i = 9 ∨ i = 10 ∨ i = 11 ∨ i = 12 ∨ i = 13 ∨ i = 14 ∨ i = 15 ∨ i = 16 ∨ i = 17 ∨ i = 18 := by omega
    · cases h0
    · cases h0
    · cases h0
    · cases h0
    · have hb : b4 = false := h0
      subst hb
      simp only [List.getElem?_toArray, List.getElem?_cons_succ, List.getElem?_cons_zero, Option.some.injEq] at ho
      subst ho
      refine wpOp_at rfl rfl (fun K hK => ?_)
      go_simp
      refine hK.out _ _ ⟨hSB _ (chain hBu (by go_grown)), ?_⟩
      exact ⟨true, b7, b8, b11, b12, b15, b16, b17, _, x12, x13, x16, x17, x20, x21, x3, rfl, putA_9 a0 x9 x12 x13 x16 x17 x20 x21 x3 _, chain hBu (by go_grown), fun _ => ⟨_, rfl, Blk.new _ _ _, by omega⟩, fun h => (t7 h).below (by go_grown), fun h => (t8 h).below (by go_grown), fun h => (t11 h).below (by go_grown), fun h => (t12 h).below (by go_grown), fun h => ⟨(t15 h).1, (t15 h).2.1.below (by go_grown), (t15 h).2.2⟩, t16, fun h => (t17 h).below (by go_grown)⟩
    · cases h0
    · cases h0
    · have hb : b7 = false := h0
      subst hb
      simp only [List.getElem?_toArray, List.getElem?_cons_succ, List.getElem?_cons_zero, Option.some.injEq] at ho
      subst ho
      have d4 : b4 = true := hdep ⟨4, .data⟩ (by simp) rfl
      have es := (putA_e11 a0 x9 x12 x13 x16 x17 x20 x21 x3).trans f11
      have el := putA_e9 fsz x9 x12 x13 x16 x17 x20 x21 x3
      obtain ⟨lb, hlx, lblk, lge⟩ := t4 d4
      replace el := el.trans hlx
      refine wpOp_at rfl rfl (fun K hK => ?_)
      refine wp_appLit _ _ 24 rfl (w.heap.size + 2) 72 i1 (.agg #[.int .i64 0, .string .empty]) 24 Tryz.underlying24 hiE hy0 hy1 hy2 rfl (by decide) ecs_len ecs_one lb el lblk lge ea en ec ex es (h1.below (chain hB1 hBu)) (k1.1.2.2 hB0).2 (k1.1.2.2 hB0).1 (by unfold maxLen; omega) (by omega) (by omega) ?_
      intro a1 cap1 u1 R1 hBl hne hfr
      dsimp only
      refine hK.out _ _ ⟨hSB _ (chain hBu hBl), ?_⟩
      exact ⟨b4, true, b8, b11, b12, b15, b16, b17, x9, _, x13, x16, x17, x20, x21, x3, rfl, putA_12 a0 x9 x12 x13 x16 x17 x20 x21 x3 _, chain hBu hBl, fun h => (t4 h).below hBl, fun _ => ⟨_, _, rfl, R1, hne⟩, fun h => (t8 h).below hBl, fun h => (t11 h).below hBl, fun h => (t12 h).below hBl, fun h => ⟨(t15 h).1, (t15 h).2.1.below hBl, (t15 h).2.2⟩, fun h => absurd (t16 h).1 (by simp), fun h => (t17 h).below hBl⟩
    · have hb : b8 = false := h0
      subst hb
      simp only [List.getElem?_toArray, List.getElem?_cons_succ, List.getElem?_cons_zero, Option.some.injEq] at ho
      subst ho
      refine wpOp_at rfl rfl (fun K hK => ?_)
      go_simp
      refine hK.out _ _ ⟨hSB _ (chain hBu (by go_grown)), ?_⟩
      exact ⟨b4, b7, true, b11, b12, b15, b16, b17, x9, x12, _, x16, x17, x20, x21, x3, rfl, putA_13 a0 x9 x12 x13 x16 x17 x20 x21 x3 _, chain hBu (by go_grown), fun h => (t4 h).below (by go_grown), fun h => (t7 h).below (by go_grown), fun _ => ⟨_, rfl, Blk.new _ _ _, by omega⟩, fun h => (t11 h).below (by go_grown), fun h => (t12 h).below (by go_grown), fun h => ⟨(t15 h).1, (t15 h).2.1.below (by go_grown), (t15 h).2.2⟩, t16, fun h => (t17 h).below (by go_grown)⟩
    · cases h0
    · cases h0
    · have hb : b11 = false := h0
      subst hb
      simp only [List.getElem?_toArray, List.getElem?_cons_succ, List.getElem?_cons_zero, Option.some.injEq] at ho
      subst ho
      have d8 : b8 = true := hdep ⟨8, .data⟩ (by simp) rfl
      have es := (putA_e15 a0 x9 x12 x13 x16 x17 x20 x21 x3).trans f15
      have el := putA_e13 fsz x9 x12 x13 x16 x17 x20 x21 x3
      obtain ⟨lb, hlx, lblk, lge⟩ := t8 d8
      replace el := el.trans hlx
      refine wpOp_at rfl rfl (fun K hK => ?_)
      refine wp_appLit _ _ 26 rfl (w.heap.size + 2) 38 i0 (.agg #[.int .i64 0, .int .i64 0, .string .empty, .int .i64 0]) 40 Tryz.underlying26 hiC hz0 hz1 hz2 rfl (by decide) ccs_len ccs_one lb el lblk lge ra rn rc rf es (h3.below (chain hB1 hBu)) (k3.1.2.2 hB0).2 (k3.1.2.2 hB0).1 (by unfold maxLen; omega) (by omega) (by omega) ?_
      intro a1 cap1 u1 R1 hBl hne hfr
      dsimp only
      refine hK.out _ _ ⟨hSB _ (chain hBu hBl), ?_⟩
      exact ⟨b4, b7, b8, true, b12, b15, b16, b17, x9, x12, x13, _, x17, x20, x21, x3, rfl, putA_16 a0 x9 x12 x13 x16 x17 x20 x21 x3 _, chain hBu hBl, fun h => (t4 h).below hBl, fun h => (t7 h).below hBl, fun h => (t8 h).below hBl, fun _ => ⟨_, _, rfl, R1, hne⟩, fun h => (t12 h).below hBl, fun h => absurd (t15 h).1 (by simp), fun h => absurd (t16 h).2.1 (by simp), fun h => (t17 h).below hBl⟩
    · have hb : b12 = false := h0
      subst hb
      simp only [List.getElem?_toArray, List.getElem?_cons_succ, List.getElem?_cons_zero, Option.some.injEq] at ho
      subst ho
      refine wpOp_at rfl rfl (fun K hK => ?_)
      go_simp
      refine hK.out _ _ ⟨hSB _ (chain hBu (by go_grown)), ?_⟩
      exact ⟨b4, b7, b8, b11, true, b15, b16, b17, x9, x12, x13, x16, _, x20, x21, x3, rfl, putA_17 a0 x9 x12 x13 x16 x17 x20 x21 x3 _, chain hBu (by go_grown), fun h => (t4 h).below (by go_grown), fun h => (t7 h).below (by go_grown), fun h => (t8 h).below (by go_grown), fun h => (t11 h).below (by go_grown), fun _ => ⟨_, rfl, Blk.new _ _ _, by omega⟩, fun h => ⟨(t15 h).1, (t15 h).2.1.below (by go_grown), (t15 h).2.2⟩, t16, fun h => (t17 h).below (by go_grown)⟩
    · cases h0
    · cases h0
    · have hb : b15 = false := h0
      subst hb
      simp only [List.getElem?_toArray, List.getElem?_cons_succ, List.getElem?_cons_zero, Option.some.injEq] at ho
      subst ho
      have d12 : b12 = true := hdep ⟨12, .data⟩ (by simp) rfl
      have es := (putA_e19 a0 x9 x12 x13 x16 x17 x20 x21 x3).trans f19
      have el := putA_e17 fsz x9 x12 x13 x16 x17 x20 x21 x3
      have d11 : b11 = true := hdep ⟨11, .chain⟩ (by simp) rfl
      obtain ⟨ra', rc', hx16, R3, hr3⟩ := t11 d11
      obtain ⟨lb, hlx, lblk, lge⟩ := t12 d12
      replace el := el.trans hlx
      refine wpOp_at rfl rfl (fun K hK => ?_)
      refine wp_appLit _ _ 26 rfl (w.heap.size + 2) 38 i0 (.agg #[.int .i64 0, .int .i64 0, .string .empty, .int .i64 0]) 40 Tryz.underlying26 hiC hz0 hz1 hz2 rfl (by decide) ccs_len ccs_one lb el lblk lge la ln lc lt es (h4.below (chain hB1 hBu)) (k4.1.2.2 hB0).2 (k4.1.2.2 hB0).1 (by unfold maxLen; omega) (by omega) (by omega) ?_
      intro a1 cap1 u1 R1 hBl hne hfr
      dsimp only
      refine hK.out _ _ ⟨hSB _ (chain hBu hBl), ?_⟩
      have sep : SepT x16 (.slice a1 ln cap1) := by
        intro q1 q2 q3 q4 q5 q6 e1 e2 p q ep eq hc1 hc2
        rw [hx16] at e1
        cases e1; cases e2
        have := hfr hc2 q eq
        have := (R3.block p ep).2
        omega
      exact ⟨b4, b7, b8, b11, b12, true, b16, b17, x9, x12, x13, x16, x17, _, x21, x3, rfl, putA_20 a0 x9 x12 x13 x16 x17 x20 x21 x3 _, chain hBu hBl, fun h => (t4 h).below hBl, fun h => (t7 h).below hBl, fun h => (t8 h).below hBl, fun h => (t11 h).below hBl, fun h => (t12 h).below hBl, fun _ => ⟨d11, ⟨_, _, rfl, R1, hne⟩, sep⟩, fun h => absurd (t16 h).2.2.1 (by simp), fun h => (t17 h).below hBl⟩
    · have hb : b16 = false := h0
      subst hb
      simp only [List.getElem?_toArray, List.getElem?_cons_succ, List.getElem?_cons_zero, Option.some.injEq] at ho
      subst ho
      have d7 : b7 = true := hdep ⟨7, .data⟩ (by simp) rfl
      have d11 : b11 = true := hdep ⟨11, .data⟩ (by simp) rfl
      have d15 : b15 = true := hdep ⟨15, .data⟩ (by simp) rfl
      have e6 := (putA_e6 a0 x9 x12 x13 x16 x17 x20 x21 x3).trans f6
      have e8 := (putA_e8 a0 x9 x12 x13 x16 x17 x20 x21 x3).trans f8
      have e12 := putA_e12 fsz x9 x12 x13 x16 x17 x20 x21 x3
      have e16 := putA_e16 fsz x9 x12 x13 x16 x17 x20 x21 x3
      have e20 := putA_e20 fsz x9 x12 x13 x16 x17 x20 x21 x3
      obtain ⟨ea', ec', g7, _, _⟩ := t7 d7
      obtain ⟨ra', rc', g11, _, _⟩ := t11 d11
      obtain ⟨_, ⟨la', lc', g15, _, _⟩, _⟩ := t15 d15
      replace e12 := e12.trans g7
      replace e16 := e16.trans g11
      replace e20 := e20.trans g15
      refine wpOp_at rfl rfl (fun K hK => ?_)
      generalize hA : putA a0 x9 x12 x13 x16 x17 x20 x21 x3 = A at *
      simp only [Oper.wp, execOp, List.map_toArray, List.map_cons, List.map_nil, e6, e8, e12, e16, e20]
      go_simp
      refine hK.out _ _ ⟨hSB _ hBu, ?_⟩
      rw [← hA]
      exact ⟨b4, b7, b8, b11, b12, b15, true, b17, x9, x12, x13, x16, x17, x20, _, x3, rfl, putA_21 a0 x9 x12 x13 x16 x17 x20 x21 x3 _, hBu, t4, t7, t8, t11, t12, t15, fun _ => ⟨d7, d11, d15, by rw [g7, g11, g15]⟩, t17⟩
    · have hb : b17 = false := h0
      subst hb
      simp only [List.getElem?_toArray, List.getElem?_cons_succ, List.getElem?_cons_zero, Option.some.injEq] at ho
      subst ho
      refine wpOp_at rfl rfl (fun K hK => ?_)
      go_simp
      refine hK.out _ _ ⟨hSB _ (chain hBu (by go_grown)), ?_⟩
      exact ⟨b4, b7, b8, b11, b12, b15, b16, true, x9, x12, x13, x16, x17, x20, x21, _, rfl, putA_3 a0 x9 x12 x13 x16 x17 x20 x21 x3 _, chain hBu (by go_grown), fun h => (t4 h).below (by go_grown), fun h => (t7 h).below (by go_grown), fun h => (t8 h).below (by go_grown), fun h => (t11 h).below (by go_grown), fun h => (t12 h).below (by go_grown), fun h => ⟨(t15 h).1, (t15 h).2.1.below (by go_grown), (t15 h).2.2⟩, t16, fun _ => ⟨_, rfl, Blk.new _ _ _, by omega⟩⟩
    · cases h0
end Go.Proofs.YtnjefbkhibfgmaaGreat
