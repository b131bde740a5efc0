/- At every disk and op the program's Do answers as its model does, writes nothing into its arguments and owns what it answers: no condition. -/
import Derived.Test.YtpobgjkmcmkkeaaRows
import Derived.Test.YtpobgjkmcmkkeaaKa
import Derived.Test.YtpobgjkmcmkkeaaKw
import Derived.Lib.SmallJoins
namespace Go.Proofs.Ytpobgjkmcmkkeaa
open Go.ChangeShapes Go.WideShapes Go.ChangeAt Go.RowKit Go.Deep Go.Joins
open Go.ChangeMaps (open_string shut_string)

theorem doD_len (d : Dk) (o : Dp) (h : d.live.length ≤ 1048576 ∧ d.safe.length ≤ 1048576 ∧ d.ops.length ≤ 1048576) : (doD d o).1.live.length ≤ 4194304 ∧ (doD d o).1.safe.length ≤ 4194304 ∧ (doD d o).1.ops.length ≤ 4194304 := by
  have h1 := doF_len d.live o
  unfold doD actD noD
  split
  · split
    · simp only; omega
    · split
      · simp only; omega
      · split
        · simp only; omega
        · simp only [List.length_append, List.length_cons, List.length_nil]; omega
  · simp
set_option maxHeartbeats 8000000 in
set_option maxRecDepth 100000 in
theorem walkDo (v : Value) (d : Dk) (o : Dp) (w : World) (h : DiskL w v d) (hb : BigD d) (ho : StrD o) :
    Calls Try.prog 7 #[v, .agg #[.int .i64 o.k, .string o.nm, .string o.tt, .string o.d]] w fun e w' => e = .returned (.bool true) ∧ Below w.heap.size w w' := by
  have hee := eqDk_refl d
  obtain ⟨la, ln, lc, sa, sn, sc, oa, on, oc, rfl⟩ := h.cells
  obtain ⟨W0, hW0⟩ : ∃ W0, W0 = (w.alloc (.cells #[.slice la ln lc, .slice sa sn sc, .slice oa on oc] 50)).alloc (.cells #[.int .i64 o.k, .string o.nm, .string o.tt, .string o.d] 55) := ⟨_, rfl⟩
  have C : Blk W0 w.heap.size #[.slice la ln lc, .slice sa sn sc, .slice oa on oc] 50 := by rw [hW0]; exact (Blk.new w _ _).alloc _
  have O : Blk W0 (w.heap.size + 1) #[.int .i64 o.k, .string o.nm, .string o.tt, .string o.d] 55 := by rw [hW0]; exact Blk.new' _ _ _ _ (by simp)
  have hB0 : Below w.heap.size w W0 := by rw [hW0]; go_grown
  go_enter Try.func7, Try.ntmps7
  go_wp2_with fail
  rw [← hW0]
  clear hW0
  refine (laws_szDisk _ d _ (h.below hB0) hb).mono ?_
  rintro e w0 ⟨⟨r, rfl, hr⟩, hB1⟩
  replace C := C.below hB1
  replace O := O.below hB1
  replace hB1 := chain hB0 hB1
  clear hB0
  rcases hr with rfl | ⟨r0, r1, hs⟩
  · go_wp2
    go_returns
    exact ⟨rfl, hB1⟩
  have hd := hs.dim
  have hdim := hs.dims
  have hl : d.live.length ≤ 4194304 ∧ d.safe.length ≤ 4194304 ∧ d.ops.length ≤ 4194304 := by omega
  obtain ⟨o0, o1, o2, o3⟩ := blk_four O
  go_wp2_with fail
  refine (laws_szDOp o r w0 r0 r1 ho).mono ?_
  rintro e w1 ⟨rfl, hB1'⟩
  replace C := C.below hB1'
  replace O := O.below hB1'
  replace hB1 := chain hB1 hB1'
  clear hB1' o0 o1 o2 o3
  by_cases hsm : r - bytesD o < 0
  · have hq : szD r o = -1 := by unfold szD; rw [if_pos hsm]
    rw [hq]
    go_wp2
    go_returns
    exact ⟨rfl, hB1⟩
  have hq : szD r o = r - bytesD o := by unfold szD; rw [if_neg hsm]
  rw [hq]
  obtain ⟨r2, hr2⟩ : ∃ r2, r2 = r - (bytesD o : Int) := ⟨_, rfl⟩
  rw [← hr2] at hsm ⊢
  have ho2 : StrD o ∧ o.d.size ≤ 10000000 := ⟨ho, by unfold bytesD at hr2; omega⟩
  clear hr2 hq
  have hspec := fun (u : World) (v : Value) (hv : DiskAt u v d) => spec_Do v d o u hv hd ho2
  have himpl := fun (u : World) (v : Value) (hv : DiskAt u v d) => impl_Do v d o u hv hd ho2
  have hls := doD_len d o hdim
  obtain ⟨R, hR⟩ : ∃ R, R = doD d o := ⟨_, rfl⟩
  simp only [← hR] at hspec himpl hls
  clear hR
  obtain ⟨sd, cd⟩ := R
  simp only at hspec himpl hls
  have hes := eqDk_refl sd
  have hcc : (cd != cd) = false := by simp
  obtain ⟨d0, d1, d2⟩ := C.three
  obtain ⟨o0, o1, o2, o3⟩ := blk_four O
  have hb1lt : Hid (w.heap.size + 1 < w1.heap.size) := O.lt
  go_wp2_with fail
  have hSB : ∀ u, Below w1.heap.size w1 u → (fun u => u.cell? ⟨w.heap.size, 0, none⟩ = some (.slice la ln lc) ∧ u.cell? ⟨w.heap.size, 1, none⟩ = some (.slice sa sn sc) ∧ u.cell? ⟨w.heap.size, 2, none⟩ = some (.slice oa on oc) ∧ u.cell? ⟨w.heap.size + 1, 0, none⟩ = some (.int .i64 o.k) ∧ u.cell? ⟨w.heap.size + 1, 1, none⟩ = some (.string o.nm) ∧ u.cell? ⟨w.heap.size + 1, 2, none⟩ = some (.string o.tt) ∧ u.cell? ⟨w.heap.size + 1, 3, none⟩ = some (.string o.d)) u := fun u hu => ⟨bcell hu d0, bcell hu d1, bcell hu d2, bcell hu o0, bcell hu o1, bcell hu o2, bcell hu o3⟩
  refine region_cut (fun u => u.cell? ⟨w.heap.size, 0, none⟩ = some (.slice la ln lc) ∧ u.cell? ⟨w.heap.size, 1, none⟩ = some (.slice sa sn sc) ∧ u.cell? ⟨w.heap.size, 2, none⟩ = some (.slice oa on oc) ∧ u.cell? ⟨w.heap.size + 1, 0, none⟩ = some (.int .i64 o.k) ∧ u.cell? ⟨w.heap.size + 1, 1, none⟩ = some (.string o.nm) ∧ u.cell? ⟨w.heap.size + 1, 2, none⟩ = some (.string o.tt) ∧ u.cell? ⟨w.heap.size + 1, 3, none⟩ = some (.string o.d)) 11 [27, 28, 29, 30, 31, 26, 32, 33, 6, 7] (fun x u => ∃ ab la3 ln3 lc3 sa3 sn3 sc3 oa3 on3 oc3, x 6 = .pointer (some ⟨ab, 0, none⟩) ∧ x 7 = .int .i64 cd ∧ Blk u ab #[.slice la3 ln3 lc3, .slice sa3 sn3 sc3, .slice oa3 on3 oc3] 27 ∧ DiskR 0 u (.agg #[.slice la3 ln3 lc3, .slice sa3 sn3 sc3, .slice oa3 on3 oc3]) sd ∧ Below w1.heap.size w1 u ∧ w1.heap.size ≤ ab) (by kernel_rfl) rfl ?walk8 ?rest8
  case walk8 =>
    have hWd : Below w1.heap.size w1 w1.drew := (Below.refl _ _).drew
    generalize w1.drew = WD at hWd ⊢
    have hS0 := hSB WD hWd
    have hWz := hWd.size
    refine takeC (i := 0) (v := ?vq33001) rfl (by kernel_rfl) (by kernel_rfl) (by kernel_rfl) (Or.inl ⟨by rfl, ?hyq33001⟩) (by assumption) ?restq33001
    case hyq33001 => (intro u hu; (try dsimp only at hu); go_simp <;> with_reducible rfl)
    try simp only [Act.put, List.setIfInBounds_toArray, List.set_cons_zero, List.set_cons_succ]
    refine takeC (i := 2) (v := ?vq33002) rfl (by kernel_rfl) (by kernel_rfl) (by kernel_rfl) (Or.inl ⟨by rfl, ?hyq33002⟩) (by assumption) ?restq33002
    case hyq33002 => (intro u hu; (try dsimp only at hu); go_simp <;> with_reducible rfl)
    try simp only [Act.put, List.setIfInBounds_toArray, List.set_cons_zero, List.set_cons_succ]
    refine twoLJ (i := 1) (j := 8) (by kernel_rfl) rfl rfl (fun K hK => ?_) (fun K hK => ?_)
    · skip
      go_simp
      refine (laws_toDisk _ d _ (h.below (chain hB1 hWd)) hs).mono ?_
      rintro e u1 ⟨⟨v2, rfl, P2⟩, hb1⟩
      have hU1 := chain hWd hb1
      have hz1 := hb1.size
      dsimp only
      refine hK.out _ _ (hSB u1 hU1) (fun hHeld => ?_)
      clear hK K
      try simp only [Act.put, List.setIfInBounds_toArray, List.set_cons_zero, List.set_cons_succ]
      refine twoLJ (i := 3) (j := 8) (by kernel_rfl) rfl rfl (fun K hK => ?_) (fun K hK => ?_)
      · skip
        go_simp
        refine (laws_toDOp o _).mono ?_
        rintro e u2 ⟨rfl, hb2⟩
        replace P2 := P2.below hb2
        have hU2 := chain hU1 hb2
        have hz2 := hb2.size
        dsimp only
        refine hK.out _ _ (hSB u2 hU2) (fun hHeld => ?_)
        clear hK K
        try simp only [Act.put, List.setIfInBounds_toArray, List.set_cons_zero, List.set_cons_succ]
        refine twoLJ (i := 4) (j := 8) (by kernel_rfl) rfl rfl (fun K hK => ?_) (fun K hK => ?_)
        · skip
          go_simp
          refine (hspec _ v2 P2.at).mono ?_
          rintro e u3 ⟨⟨v3, rfl, R3⟩, hb3⟩
          obtain ⟨la3, ln3, lc3, sa3, sn3, sc3, oa3, on3, oc3, rfl⟩ := R3.at.l.cells
          clear P2
          have hU3 := chain hU2 hb3
          have hz3 := hb3.size
          dsimp only
          refine hK.out _ _ (hSB u3 hU3) (fun hHeld => ?_)
          clear hK K
          try simp only [Act.put, List.setIfInBounds_toArray, List.set_cons_zero, List.set_cons_succ]
          refine takeC (i := 5) (v := ?vq33003) rfl (by kernel_rfl) (by kernel_rfl) (by kernel_rfl) (Or.inl ⟨by rfl, ?hyq33003⟩) (by assumption) ?restq33003
          case hyq33003 => (intro u hu; (try dsimp only at hu); go_simp <;> with_reducible rfl)
          try simp only [Act.put, List.setIfInBounds_toArray, List.set_cons_zero, List.set_cons_succ]
          refine takeC (i := 6) (v := ?vq33004) rfl (by kernel_rfl) (by kernel_rfl) (by kernel_rfl) (Or.inl ⟨by rfl, ?hyq33004⟩) (by assumption) ?restq33004
          case hyq33004 => (intro u hu; (try dsimp only at hu); go_simp <;> with_reducible rfl)
          try simp only [Act.put, List.setIfInBounds_toArray, List.set_cons_zero, List.set_cons_succ]
          refine takeC (i := 7) (v := ?vq33005) rfl (by kernel_rfl) (by kernel_rfl) (by kernel_rfl) (Or.inl ⟨by rfl, ?hyq33005⟩) (by assumption) ?restq33005
          case hyq33005 => (intro u hu; (try dsimp only at hu); go_simp <;> with_reducible rfl)
          try simp only [Act.put, List.setIfInBounds_toArray, List.set_cons_zero, List.set_cons_succ]
          refine oneL (i := 8) (by kernel_rfl) rfl (fun K hK => ?_)
          go_simp
          have hb4 : Below u3.heap.size u3 (u3.alloc (.cells #[.slice none 0 0, .slice none 0 0, .slice none 0 0] 27)) := (Below.refl _ _).alloc (Nat.le_refl _) _
          obtain ⟨ab, hab0⟩ : ∃ ab, ab = u3.heap.size := ⟨_, rfl⟩
          have AB : Blk (u3.alloc (.cells #[.slice none 0 0, .slice none 0 0, .slice none 0 0] 27)) ab #[.slice none 0 0, .slice none 0 0, .slice none 0 0] 27 := Blk.new' _ _ _ _ hab0
          have hab : Hid (ab < (u3.alloc (.cells #[.slice none 0 0, .slice none 0 0, .slice none 0 0] 27)).heap.size) := AB.lt
          have habl : Hid (ab = u3.heap.size) := hab0
          rw [← hab0]
          clear hab0
          have hU4 := chain hU3 hb4
          have hz4 := hb4.size
          replace R3 := R3.below hb4
          refine hK.out _ _ (hSB _ hU4) (fun hHeld => ?_)
          clear hK K
          try simp only [Act.put, List.setIfInBounds_toArray, List.set_cons_zero, List.set_cons_succ]
          generalize u3.alloc (.cells #[.slice none 0 0, .slice none 0 0, .slice none 0 0] 27) = u4 at *
          obtain ⟨⟨t0, t1, t2⟩, s0, s1, s2⟩ := blk_three AB
          refine oneL (i := 9) (by kernel_rfl) rfl (fun K hK => ?_)
          go_simp
          obtain ⟨E9, hU9, hg9, hs9⟩ := put3_all (x := .slice la3 ln3 lc3) (y := .slice sa3 sn3 sc3) (z := .slice oa3 on3 oc3) AB hU4 (by have := habl.out; omega)
          have R9 := (R3.ofTy hg9 AB).mono (Nat.zero_le _)
          refine hK.out _ _ (hSB _ hU9) (fun hHeld => ?_)
          clear hK K
          try simp only [Act.put, List.setIfInBounds_toArray, List.set_cons_zero, List.set_cons_succ]
          refine takeC (i := 10) (v := ?vq33006) rfl (by kernel_rfl) (by kernel_rfl) (by kernel_rfl) (Or.inl ⟨by rfl, ?hyq33006⟩) (by assumption) ?restq33006
          case hyq33006 => (intro u hu; (try dsimp only at hu); go_simp <;> with_reducible rfl)
          try simp only [Act.put, List.setIfInBounds_toArray, List.set_cons_zero, List.set_cons_succ]
          refine wpAnyH_done (by kernel_rfl) ?_ _
          refine leaf_of (by simp only [putAll, List.foldl_cons, List.foldl_nil, Act.put, Act.eval, List.setIfInBounds_toArray, List.set_cons_zero, List.set_cons_succ, Array.getD_eq_getD_getElem?, List.getElem?_toArray, List.getElem?_cons_succ, List.getElem?_cons_zero, Option.getD_some]) ?_
          exact ⟨ab, la3, ln3, lc3, sa3, sn3, sc3, oa3, on3, oc3, (by simp only [Act.eval, Array.getD_eq_getD_getElem?, List.getElem?_toArray, List.getElem?_cons_succ, List.getElem?_cons_zero, Option.getD_some]), (by simp only [Act.eval, Array.getD_eq_getD_getElem?, List.getElem?_toArray, List.getElem?_cons_succ, List.getElem?_cons_zero, Option.getD_some]), E9, R9, hU9, by have := habl.out; omega⟩
        · skip
          go_simp
          have hb3 : Below u2.heap.size u2 (u2.alloc (.cells #[.slice none 0 0, .slice none 0 0, .slice none 0 0] 27)) := (Below.refl _ _).alloc (Nat.le_refl _) _
          obtain ⟨ab, hab0⟩ : ∃ ab, ab = u2.heap.size := ⟨_, rfl⟩
          have AB : Blk (u2.alloc (.cells #[.slice none 0 0, .slice none 0 0, .slice none 0 0] 27)) ab #[.slice none 0 0, .slice none 0 0, .slice none 0 0] 27 := Blk.new' _ _ _ _ hab0
          have hab : Hid (ab < (u2.alloc (.cells #[.slice none 0 0, .slice none 0 0, .slice none 0 0] 27)).heap.size) := AB.lt
          have habl : Hid (ab = u2.heap.size) := hab0
          rw [← hab0]
          clear hab0
          have hU3 := chain hU2 hb3
          have hz3 := hb3.size
          replace P2 := P2.below hb3
          refine hK.out _ _ (hSB _ hU3) (fun hHeld => ?_)
          clear hK K
          try simp only [Act.put, List.setIfInBounds_toArray, List.set_cons_zero, List.set_cons_succ]
          generalize u2.alloc (.cells #[.slice none 0 0, .slice none 0 0, .slice none 0 0] 27) = u3 at *
          refine oneL (i := 4) (by kernel_rfl) rfl (fun K hK => ?_)
          go_simp
          refine (hspec _ v2 P2.at).mono ?_
          rintro e u4 ⟨⟨v3, rfl, R3⟩, hb4⟩
          obtain ⟨la3, ln3, lc3, sa3, sn3, sc3, oa3, on3, oc3, rfl⟩ := R3.at.l.cells
          clear P2
          have hU4 := chain hU3 hb4
          have hz4 := hb4.size
          replace AB := AB.below hb4
          have habc : Hid (ab < u3.heap.size) := hab.out
          replace hab : Hid (ab < u4.heap.size) := by have := hab.out; show _ < _; omega
          dsimp only
          refine hK.out _ _ (hSB u4 hU4) (fun hHeld => ?_)
          clear hK K
          try simp only [Act.put, List.setIfInBounds_toArray, List.set_cons_zero, List.set_cons_succ]
          refine takeC (i := 5) (v := ?vq33007) rfl (by kernel_rfl) (by kernel_rfl) (by kernel_rfl) (Or.inl ⟨by rfl, ?hyq33007⟩) (by assumption) ?restq33007
          case hyq33007 => (intro u hu; (try dsimp only at hu); go_simp <;> with_reducible rfl)
          try simp only [Act.put, List.setIfInBounds_toArray, List.set_cons_zero, List.set_cons_succ]
          refine takeC (i := 6) (v := ?vq33008) rfl (by kernel_rfl) (by kernel_rfl) (by kernel_rfl) (Or.inl ⟨by rfl, ?hyq33008⟩) (by assumption) ?restq33008
          case hyq33008 => (intro u hu; (try dsimp only at hu); go_simp <;> with_reducible rfl)
          try simp only [Act.put, List.setIfInBounds_toArray, List.set_cons_zero, List.set_cons_succ]
          refine takeC (i := 7) (v := ?vq33009) rfl (by kernel_rfl) (by kernel_rfl) (by kernel_rfl) (Or.inl ⟨by rfl, ?hyq33009⟩) (by assumption) ?restq33009
          case hyq33009 => (intro u hu; (try dsimp only at hu); go_simp <;> with_reducible rfl)
          try simp only [Act.put, List.setIfInBounds_toArray, List.set_cons_zero, List.set_cons_succ]
          obtain ⟨⟨t0, t1, t2⟩, s0, s1, s2⟩ := blk_three AB
          refine oneL (i := 9) (by kernel_rfl) rfl (fun K hK => ?_)
          go_simp
          obtain ⟨E9, hU9, hg9, hs9⟩ := put3_all (x := .slice la3 ln3 lc3) (y := .slice sa3 sn3 sc3) (z := .slice oa3 on3 oc3) AB hU4 (by have := habl.out; omega)
          have R9 := (R3.ofTy hg9 AB).mono (Nat.zero_le _)
          refine hK.out _ _ (hSB _ hU9) (fun hHeld => ?_)
          clear hK K
          try simp only [Act.put, List.setIfInBounds_toArray, List.set_cons_zero, List.set_cons_succ]
          refine takeC (i := 10) (v := ?vq33010) rfl (by kernel_rfl) (by kernel_rfl) (by kernel_rfl) (Or.inl ⟨by rfl, ?hyq33010⟩) (by assumption) ?restq33010
          case hyq33010 => (intro u hu; (try dsimp only at hu); go_simp <;> with_reducible rfl)
          try simp only [Act.put, List.setIfInBounds_toArray, List.set_cons_zero, List.set_cons_succ]
          refine wpAnyH_done (by kernel_rfl) ?_ _
          refine leaf_of (by simp only [putAll, List.foldl_cons, List.foldl_nil, Act.put, Act.eval, List.setIfInBounds_toArray, List.set_cons_zero, List.set_cons_succ, Array.getD_eq_getD_getElem?, List.getElem?_toArray, List.getElem?_cons_succ, List.getElem?_cons_zero, Option.getD_some]) ?_
          exact ⟨ab, la3, ln3, lc3, sa3, sn3, sc3, oa3, on3, oc3, (by simp only [Act.eval, Array.getD_eq_getD_getElem?, List.getElem?_toArray, List.getElem?_cons_succ, List.getElem?_cons_zero, Option.getD_some]), (by simp only [Act.eval, Array.getD_eq_getD_getElem?, List.getElem?_toArray, List.getElem?_cons_succ, List.getElem?_cons_zero, Option.getD_some]), E9, R9, hU9, by have := habl.out; omega⟩
      · skip
        go_simp
        have hb2 : Below u1.heap.size u1 (u1.alloc (.cells #[.slice none 0 0, .slice none 0 0, .slice none 0 0] 27)) := (Below.refl _ _).alloc (Nat.le_refl _) _
        obtain ⟨ab, hab0⟩ : ∃ ab, ab = u1.heap.size := ⟨_, rfl⟩
        have AB : Blk (u1.alloc (.cells #[.slice none 0 0, .slice none 0 0, .slice none 0 0] 27)) ab #[.slice none 0 0, .slice none 0 0, .slice none 0 0] 27 := Blk.new' _ _ _ _ hab0
        have hab : Hid (ab < (u1.alloc (.cells #[.slice none 0 0, .slice none 0 0, .slice none 0 0] 27)).heap.size) := AB.lt
        have habl : Hid (ab = u1.heap.size) := hab0
        rw [← hab0]
        clear hab0
        have hU2 := chain hU1 hb2
        have hz2 := hb2.size
        replace P2 := P2.below hb2
        refine hK.out _ _ (hSB _ hU2) (fun hHeld => ?_)
        clear hK K
        try simp only [Act.put, List.setIfInBounds_toArray, List.set_cons_zero, List.set_cons_succ]
        generalize u1.alloc (.cells #[.slice none 0 0, .slice none 0 0, .slice none 0 0] 27) = u2 at *
        refine oneL (i := 3) (by kernel_rfl) rfl (fun K hK => ?_)
        go_simp
        refine (laws_toDOp o _).mono ?_
        rintro e u3 ⟨rfl, hb3⟩
        replace P2 := P2.below hb3
        have hU3 := chain hU2 hb3
        have hz3 := hb3.size
        replace AB := AB.below hb3
        have habc : Hid (ab < u2.heap.size) := hab.out
        replace hab : Hid (ab < u3.heap.size) := by have := hab.out; show _ < _; omega
        dsimp only
        refine hK.out _ _ (hSB u3 hU3) (fun hHeld => ?_)
        clear hK K
        try simp only [Act.put, List.setIfInBounds_toArray, List.set_cons_zero, List.set_cons_succ]
        refine oneL (i := 4) (by kernel_rfl) rfl (fun K hK => ?_)
        go_simp
        refine (hspec _ v2 P2.at).mono ?_
        rintro e u4 ⟨⟨v3, rfl, R3⟩, hb4⟩
        obtain ⟨la3, ln3, lc3, sa3, sn3, sc3, oa3, on3, oc3, rfl⟩ := R3.at.l.cells
        clear P2
        have hU4 := chain hU3 hb4
        have hz4 := hb4.size
        replace AB := AB.below hb4
        have habc : Hid (ab < u3.heap.size) := hab.out
        replace hab : Hid (ab < u4.heap.size) := by have := hab.out; show _ < _; omega
        dsimp only
        refine hK.out _ _ (hSB u4 hU4) (fun hHeld => ?_)
        clear hK K
        try simp only [Act.put, List.setIfInBounds_toArray, List.set_cons_zero, List.set_cons_succ]
        refine takeC (i := 5) (v := ?vq33011) rfl (by kernel_rfl) (by kernel_rfl) (by kernel_rfl) (Or.inl ⟨by rfl, ?hyq33011⟩) (by assumption) ?restq33011
        case hyq33011 => (intro u hu; (try dsimp only at hu); go_simp <;> with_reducible rfl)
        try simp only [Act.put, List.setIfInBounds_toArray, List.set_cons_zero, List.set_cons_succ]
        refine takeC (i := 6) (v := ?vq33012) rfl (by kernel_rfl) (by kernel_rfl) (by kernel_rfl) (Or.inl ⟨by rfl, ?hyq33012⟩) (by assumption) ?restq33012
        case hyq33012 => (intro u hu; (try dsimp only at hu); go_simp <;> with_reducible rfl)
        try simp only [Act.put, List.setIfInBounds_toArray, List.set_cons_zero, List.set_cons_succ]
        refine takeC (i := 7) (v := ?vq33013) rfl (by kernel_rfl) (by kernel_rfl) (by kernel_rfl) (Or.inl ⟨by rfl, ?hyq33013⟩) (by assumption) ?restq33013
        case hyq33013 => (intro u hu; (try dsimp only at hu); go_simp <;> with_reducible rfl)
        try simp only [Act.put, List.setIfInBounds_toArray, List.set_cons_zero, List.set_cons_succ]
        obtain ⟨⟨t0, t1, t2⟩, s0, s1, s2⟩ := blk_three AB
        refine oneL (i := 9) (by kernel_rfl) rfl (fun K hK => ?_)
        go_simp
        obtain ⟨E9, hU9, hg9, hs9⟩ := put3_all (x := .slice la3 ln3 lc3) (y := .slice sa3 sn3 sc3) (z := .slice oa3 on3 oc3) AB hU4 (by have := habl.out; omega)
        have R9 := (R3.ofTy hg9 AB).mono (Nat.zero_le _)
        refine hK.out _ _ (hSB _ hU9) (fun hHeld => ?_)
        clear hK K
        try simp only [Act.put, List.setIfInBounds_toArray, List.set_cons_zero, List.set_cons_succ]
        refine takeC (i := 10) (v := ?vq33014) rfl (by kernel_rfl) (by kernel_rfl) (by kernel_rfl) (Or.inl ⟨by rfl, ?hyq33014⟩) (by assumption) ?restq33014
        case hyq33014 => (intro u hu; (try dsimp only at hu); go_simp <;> with_reducible rfl)
        try simp only [Act.put, List.setIfInBounds_toArray, List.set_cons_zero, List.set_cons_succ]
        refine wpAnyH_done (by kernel_rfl) ?_ _
        refine leaf_of (by simp only [putAll, List.foldl_cons, List.foldl_nil, Act.put, Act.eval, List.setIfInBounds_toArray, List.set_cons_zero, List.set_cons_succ, Array.getD_eq_getD_getElem?, List.getElem?_toArray, List.getElem?_cons_succ, List.getElem?_cons_zero, Option.getD_some]) ?_
        exact ⟨ab, la3, ln3, lc3, sa3, sn3, sc3, oa3, on3, oc3, (by simp only [Act.eval, Array.getD_eq_getD_getElem?, List.getElem?_toArray, List.getElem?_cons_succ, List.getElem?_cons_zero, Option.getD_some]), (by simp only [Act.eval, Array.getD_eq_getD_getElem?, List.getElem?_toArray, List.getElem?_cons_succ, List.getElem?_cons_zero, Option.getD_some]), E9, R9, hU9, by have := habl.out; omega⟩
    · skip
      go_simp
      have hb1 : Below WD.heap.size WD (WD.alloc (.cells #[.slice none 0 0, .slice none 0 0, .slice none 0 0] 27)) := (Below.refl _ _).alloc (Nat.le_refl _) _
      obtain ⟨ab, hab0⟩ : ∃ ab, ab = WD.heap.size := ⟨_, rfl⟩
      have AB : Blk (WD.alloc (.cells #[.slice none 0 0, .slice none 0 0, .slice none 0 0] 27)) ab #[.slice none 0 0, .slice none 0 0, .slice none 0 0] 27 := Blk.new' _ _ _ _ hab0
      have hab : Hid (ab < (WD.alloc (.cells #[.slice none 0 0, .slice none 0 0, .slice none 0 0] 27)).heap.size) := AB.lt
      have habl : Hid (ab = WD.heap.size) := hab0
      rw [← hab0]
      clear hab0
      have hU1 := chain hWd hb1
      have hz1 := hb1.size
      refine hK.out _ _ (hSB _ hU1) (fun hHeld => ?_)
      clear hK K
      try simp only [Act.put, List.setIfInBounds_toArray, List.set_cons_zero, List.set_cons_succ]
      generalize WD.alloc (.cells #[.slice none 0 0, .slice none 0 0, .slice none 0 0] 27) = u1 at *
      refine oneL (i := 1) (by kernel_rfl) rfl (fun K hK => ?_)
      go_simp
      refine (laws_toDisk _ d _ (h.below (chain hB1 hU1)) hs).mono ?_
      rintro e u2 ⟨⟨v2, rfl, P2⟩, hb2⟩
      have hU2 := chain hU1 hb2
      have hz2 := hb2.size
      replace AB := AB.below hb2
      have habc : Hid (ab < u1.heap.size) := hab.out
      replace hab : Hid (ab < u2.heap.size) := by have := hab.out; show _ < _; omega
      dsimp only
      refine hK.out _ _ (hSB u2 hU2) (fun hHeld => ?_)
      clear hK K
      try simp only [Act.put, List.setIfInBounds_toArray, List.set_cons_zero, List.set_cons_succ]
      refine oneL (i := 3) (by kernel_rfl) rfl (fun K hK => ?_)
      go_simp
      refine (laws_toDOp o _).mono ?_
      rintro e u3 ⟨rfl, hb3⟩
      replace P2 := P2.below hb3
      have hU3 := chain hU2 hb3
      have hz3 := hb3.size
      replace AB := AB.below hb3
      have habc : Hid (ab < u2.heap.size) := hab.out
      replace hab : Hid (ab < u3.heap.size) := by have := hab.out; show _ < _; omega
      dsimp only
      refine hK.out _ _ (hSB u3 hU3) (fun hHeld => ?_)
      clear hK K
      try simp only [Act.put, List.setIfInBounds_toArray, List.set_cons_zero, List.set_cons_succ]
      refine oneL (i := 4) (by kernel_rfl) rfl (fun K hK => ?_)
      go_simp
      refine (hspec _ v2 P2.at).mono ?_
      rintro e u4 ⟨⟨v3, rfl, R3⟩, hb4⟩
      obtain ⟨la3, ln3, lc3, sa3, sn3, sc3, oa3, on3, oc3, rfl⟩ := R3.at.l.cells
      clear P2
      have hU4 := chain hU3 hb4
      have hz4 := hb4.size
      replace AB := AB.below hb4
      have habc : Hid (ab < u3.heap.size) := hab.out
      replace hab : Hid (ab < u4.heap.size) := by have := hab.out; show _ < _; omega
      dsimp only
      refine hK.out _ _ (hSB u4 hU4) (fun hHeld => ?_)
      clear hK K
      try simp only [Act.put, List.setIfInBounds_toArray, List.set_cons_zero, List.set_cons_succ]
      refine takeC (i := 5) (v := ?vq33015) rfl (by kernel_rfl) (by kernel_rfl) (by kernel_rfl) (Or.inl ⟨by rfl, ?hyq33015⟩) (by assumption) ?restq33015
      case hyq33015 => (intro u hu; (try dsimp only at hu); go_simp <;> with_reducible rfl)
      try simp only [Act.put, List.setIfInBounds_toArray, List.set_cons_zero, List.set_cons_succ]
      refine takeC (i := 6) (v := ?vq33016) rfl (by kernel_rfl) (by kernel_rfl) (by kernel_rfl) (Or.inl ⟨by rfl, ?hyq33016⟩) (by assumption) ?restq33016
      case hyq33016 => (intro u hu; (try dsimp only at hu); go_simp <;> with_reducible rfl)
      try simp only [Act.put, List.setIfInBounds_toArray, List.set_cons_zero, List.set_cons_succ]
      refine takeC (i := 7) (v := ?vq33017) rfl (by kernel_rfl) (by kernel_rfl) (by kernel_rfl) (Or.inl ⟨by rfl, ?hyq33017⟩) (by assumption) ?restq33017
      case hyq33017 => (intro u hu; (try dsimp only at hu); go_simp <;> with_reducible rfl)
      try simp only [Act.put, List.setIfInBounds_toArray, List.set_cons_zero, List.set_cons_succ]
      obtain ⟨⟨t0, t1, t2⟩, s0, s1, s2⟩ := blk_three AB
      refine oneL (i := 9) (by kernel_rfl) rfl (fun K hK => ?_)
      go_simp
      obtain ⟨E9, hU9, hg9, hs9⟩ := put3_all (x := .slice la3 ln3 lc3) (y := .slice sa3 sn3 sc3) (z := .slice oa3 on3 oc3) AB hU4 (by have := habl.out; omega)
      have R9 := (R3.ofTy hg9 AB).mono (Nat.zero_le _)
      refine hK.out _ _ (hSB _ hU9) (fun hHeld => ?_)
      clear hK K
      try simp only [Act.put, List.setIfInBounds_toArray, List.set_cons_zero, List.set_cons_succ]
      refine takeC (i := 10) (v := ?vq33018) rfl (by kernel_rfl) (by kernel_rfl) (by kernel_rfl) (Or.inl ⟨by rfl, ?hyq33018⟩) (by assumption) ?restq33018
      case hyq33018 => (intro u hu; (try dsimp only at hu); go_simp <;> with_reducible rfl)
      try simp only [Act.put, List.setIfInBounds_toArray, List.set_cons_zero, List.set_cons_succ]
      refine wpAnyH_done (by kernel_rfl) ?_ _
      refine leaf_of (by simp only [putAll, List.foldl_cons, List.foldl_nil, Act.put, Act.eval, List.setIfInBounds_toArray, List.set_cons_zero, List.set_cons_succ, Array.getD_eq_getD_getElem?, List.getElem?_toArray, List.getElem?_cons_succ, List.getElem?_cons_zero, Option.getD_some]) ?_
      exact ⟨ab, la3, ln3, lc3, sa3, sn3, sc3, oa3, on3, oc3, (by simp only [Act.eval, Array.getD_eq_getD_getElem?, List.getElem?_toArray, List.getElem?_cons_succ, List.getElem?_cons_zero, Option.getD_some]), (by simp only [Act.eval, Array.getD_eq_getD_getElem?, List.getElem?_toArray, List.getElem?_cons_succ, List.getElem?_cons_zero, Option.getD_some]), E9, R9, hU9, by have := habl.out; omega⟩
  clear hSB d0 d1 d2 o0 o1 o2 o3
  rintro x w3 ⟨ab, la3, ln3, lc3, sa3, sn3, sc3, oa3, on3, oc3, e6, e7, A3, R3, hU3, hab3⟩
  simp only [putAll, List.foldl_cons, List.foldl_nil, e6, e7]
  try simp only [Act.put, List.setIfInBounds_toArray, List.set_cons_zero, List.set_cons_succ]
  clear e6 e7
  have habH : Hid (w1.heap.size ≤ ab ∧ ab < w3.heap.size) := ⟨hab3, A3.lt⟩
  clear hab3
  replace C := C.below hU3
  replace O := O.below hU3
  have hB3 := chain hB1 hU3
  have hlt1 : Hid (w.heap.size + 1 < w1.heap.size ∧ w1.heap.size ≤ w3.heap.size) := ⟨hb1lt.out, hU3.size⟩
  clear hU3 hB1
  obtain ⟨q0, q1, q2⟩ := C.three
  go_wp2_with fail
  refine (laws_toDisk _ d _ (h.below hB3) hs).mono ?_
  rintro e w4 ⟨⟨v4, rfl, P4⟩, hB4⟩
  obtain ⟨la4, ln4, lc4, sa4, sn4, sc4, oa4, on4, oc4, rfl⟩ := P4.at.l.cells
  have I4 := P4.inB
  have hA4 : Below w4.heap.size w4 (w4.alloc (.cells #[.slice la4 ln4 lc4, .slice sa4 sn4 sc4, .slice oa4 on4 oc4] 27)) := by go_grown
  have X4 := Blk.new w4 #[.slice la4 ln4 lc4, .slice sa4 sn4 sc4, .slice oa4 on4 oc4] 27
  have hs4 : Hid ((w4.alloc (.cells #[.slice la4 ln4 lc4, .slice sa4 sn4 sc4, .slice oa4 on4 oc4] 27)).heap.size = w4.heap.size + 1 ∧ w3.heap.size ≤ w4.heap.size) := ⟨by simp, hB4.size⟩
  have hC4 := chain hB4 hA4
  replace C := C.below hC4
  replace O := O.below hC4
  have A4 := A3.below hC4
  have Z4 : Below w3.heap.size w3 (w4.alloc (.cells #[.slice la4 ln4 lc4, .slice sa4 sn4 sc4, .slice oa4 on4 oc4] 27)) := hC4
  replace P4 := P4.below hA4
  have hB4' := chain hB3 hC4
  clear q0 q1 q2 A3 hB3 hB4 hC4 hA4
  go_wp2_with fail
  generalize w4.alloc (.cells #[.slice la4 ln4 lc4, .slice sa4 sn4 sc4, .slice oa4 on4 oc4] 27) = W4 at *
  obtain ⟨x0, x1, x2⟩ := X4.three
  obtain ⟨o0, o1, o2, o3⟩ := blk_four O
  have hSB : ∀ u, Below W4.heap.size W4 u → (fun u => u.cell? ⟨w4.heap.size, 0, none⟩ = some (.slice la4 ln4 lc4) ∧ u.cell? ⟨w4.heap.size, 1, none⟩ = some (.slice sa4 sn4 sc4) ∧ u.cell? ⟨w4.heap.size, 2, none⟩ = some (.slice oa4 on4 oc4) ∧ u.cell? ⟨w.heap.size + 1, 0, none⟩ = some (.int .i64 o.k) ∧ u.cell? ⟨w.heap.size + 1, 1, none⟩ = some (.string o.nm) ∧ u.cell? ⟨w.heap.size + 1, 2, none⟩ = some (.string o.tt) ∧ u.cell? ⟨w.heap.size + 1, 3, none⟩ = some (.string o.d)) u := fun u hu => ⟨bcell hu x0, bcell hu x1, bcell hu x2, bcell hu o0, bcell hu o1, bcell hu o2, bcell hu o3⟩
  refine region_cut (fun u => u.cell? ⟨w4.heap.size, 0, none⟩ = some (.slice la4 ln4 lc4) ∧ u.cell? ⟨w4.heap.size, 1, none⟩ = some (.slice sa4 sn4 sc4) ∧ u.cell? ⟨w4.heap.size, 2, none⟩ = some (.slice oa4 on4 oc4) ∧ u.cell? ⟨w.heap.size + 1, 0, none⟩ = some (.int .i64 o.k) ∧ u.cell? ⟨w.heap.size + 1, 1, none⟩ = some (.string o.nm) ∧ u.cell? ⟨w.heap.size + 1, 2, none⟩ = some (.string o.tt) ∧ u.cell? ⟨w.heap.size + 1, 3, none⟩ = some (.string o.d)) 10 [37, 38, 39, 40, 36, 41, 42, 9, 10] (fun x u => ∃ gb B2 T2 la5 ln5 lc5 sa5 sn5 sc5 oa5 on5 oc5, x 9 = .pointer (some ⟨gb, 0, none⟩) ∧ x 10 = .int .i64 cd ∧ Blk u gb #[.slice la5 ln5 lc5, .slice sa5 sn5 sc5, .slice oa5 on5 oc5] 27 ∧ DiskS B2 u (.agg #[.slice la5 ln5 lc5, .slice sa5 sn5 sc5, .slice oa5 on5 oc5]) sd ∧ InB B2 T2 (.agg #[.slice la5 ln5 lc5, .slice sa5 sn5 sc5, .slice oa5 on5 oc5]) ∧ (gb < B2 ∨ T2 ≤ gb) ∧ (T2 ≤ u.heap.size ∧ W4.heap.size ≤ B2 ∧ W4.heap.size ≤ gb) ∧ Below W4.heap.size W4 u) (by kernel_rfl) rfl ?walk10 ?rest10
  case walk10 =>
    have hWd : Below W4.heap.size W4 W4.drew := (Below.refl _ _).drew
    generalize W4.drew = WD at hWd ⊢
    have hS0 := hSB WD hWd
    have hWz := hWd.size
    refine takeC (i := 0) (v := ?vq33019) rfl (by kernel_rfl) (by kernel_rfl) (by kernel_rfl) (Or.inl ⟨by rfl, ?hyq33019⟩) (by assumption) ?restq33019
    case hyq33019 => (intro u hu; (try dsimp only at hu); go_simp <;> with_reducible rfl)
    try simp only [Act.put, List.setIfInBounds_toArray, List.set_cons_zero, List.set_cons_succ]
    refine takeC (i := 1) (v := ?vq33020) rfl (by kernel_rfl) (by kernel_rfl) (by kernel_rfl) (Or.inl ⟨by rfl, ?hyq33020⟩) (by assumption) ?restq33020
    case hyq33020 => (intro u hu; (try dsimp only at hu); go_simp <;> with_reducible rfl)
    try simp only [Act.put, List.setIfInBounds_toArray, List.set_cons_zero, List.set_cons_succ]
    refine twoLJ (i := 2) (j := 7) (by kernel_rfl) rfl rfl (fun K hK => ?_) (fun K hK => ?_)
    · skip
      go_simp
      refine (laws_toDOp o _).mono ?_
      rintro e u1 ⟨rfl, hb1⟩
      have hU1 := chain hWd hb1
      have hz1 := hb1.size
      dsimp only
      refine hK.out _ _ (hSB u1 hU1) (fun hHeld => ?_)
      clear hK K
      try simp only [Act.put, List.setIfInBounds_toArray, List.set_cons_zero, List.set_cons_succ]
      refine twoLJ (i := 3) (j := 7) (by kernel_rfl) rfl rfl (fun K hK => ?_) (fun K hK => ?_)
      · skip
        go_simp
        refine (himpl _ _ (P4.below hU1).at).mono ?_
        rintro e u2 ⟨⟨v5, rfl, S5⟩, hb2⟩
        obtain ⟨la5, ln5, lc5, sa5, sn5, sc5, oa5, on5, oc5, rfl⟩ := S5.r.at.l.cells
        have I5 := S5.wr.inB
        obtain ⟨B2, hB2⟩ : ∃ B2, B2 = u1.heap.size + 1 := ⟨_, rfl⟩
        obtain ⟨T2, hT2⟩ : ∃ T2, T2 = u2.heap.size := ⟨_, rfl⟩
        rw [← hB2] at S5
        rw [← hB2, ← hT2] at I5
        have hBT : Hid (B2 = u1.heap.size + 1 ∧ T2 = u2.heap.size) := ⟨hB2, hT2⟩
        clear hB2 hT2
        have hU2 := chain hU1 hb2
        have hz2 := hb2.size
        dsimp only
        refine hK.out _ _ (hSB u2 hU2) (fun hHeld => ?_)
        clear hK K
        try simp only [Act.put, List.setIfInBounds_toArray, List.set_cons_zero, List.set_cons_succ]
        refine takeC (i := 4) (v := ?vq33021) rfl (by kernel_rfl) (by kernel_rfl) (by kernel_rfl) (Or.inl ⟨by rfl, ?hyq33021⟩) (by assumption) ?restq33021
        case hyq33021 => (intro u hu; (try dsimp only at hu); go_simp <;> with_reducible rfl)
        try simp only [Act.put, List.setIfInBounds_toArray, List.set_cons_zero, List.set_cons_succ]
        refine takeC (i := 5) (v := ?vq33022) rfl (by kernel_rfl) (by kernel_rfl) (by kernel_rfl) (Or.inl ⟨by rfl, ?hyq33022⟩) (by assumption) ?restq33022
        case hyq33022 => (intro u hu; (try dsimp only at hu); go_simp <;> with_reducible rfl)
        try simp only [Act.put, List.setIfInBounds_toArray, List.set_cons_zero, List.set_cons_succ]
        refine takeC (i := 6) (v := ?vq33023) rfl (by kernel_rfl) (by kernel_rfl) (by kernel_rfl) (Or.inl ⟨by rfl, ?hyq33023⟩) (by assumption) ?restq33023
        case hyq33023 => (intro u hu; (try dsimp only at hu); go_simp <;> with_reducible rfl)
        try simp only [Act.put, List.setIfInBounds_toArray, List.set_cons_zero, List.set_cons_succ]
        refine oneL (i := 7) (by kernel_rfl) rfl (fun K hK => ?_)
        go_simp
        have hb3 : Below u2.heap.size u2 (u2.alloc (.cells #[.slice none 0 0, .slice none 0 0, .slice none 0 0] 27)) := (Below.refl _ _).alloc (Nat.le_refl _) _
        obtain ⟨ab, hab0⟩ : ∃ ab, ab = u2.heap.size := ⟨_, rfl⟩
        have AB : Blk (u2.alloc (.cells #[.slice none 0 0, .slice none 0 0, .slice none 0 0] 27)) ab #[.slice none 0 0, .slice none 0 0, .slice none 0 0] 27 := Blk.new' _ _ _ _ hab0
        have hab : Hid (ab < (u2.alloc (.cells #[.slice none 0 0, .slice none 0 0, .slice none 0 0] 27)).heap.size) := AB.lt
        have habl : Hid (ab = u2.heap.size) := hab0
        rw [← hab0]
        clear hab0
        have hU3 := chain hU2 hb3
        have hz3 := hb3.size
        replace S5 := S5.below hb3
        refine hK.out _ _ (hSB _ hU3) (fun hHeld => ?_)
        clear hK K
        try simp only [Act.put, List.setIfInBounds_toArray, List.set_cons_zero, List.set_cons_succ]
        generalize u2.alloc (.cells #[.slice none 0 0, .slice none 0 0, .slice none 0 0] 27) = u3 at *
        obtain ⟨⟨t0, t1, t2⟩, s0, s1, s2⟩ := blk_three AB
        refine oneL (i := 8) (by kernel_rfl) rfl (fun K hK => ?_)
        go_simp
        obtain ⟨E9, hU9, hg9, hs9⟩ := put3_all (x := .slice la5 ln5 lc5) (y := .slice sa5 sn5 sc5) (z := .slice oa5 on5 oc5) AB hU3 (by have := habl.out; omega)
        have S9 := S5.ofTy hg9 AB
        refine hK.out _ _ (hSB _ hU9) (fun hHeld => ?_)
        clear hK K
        try simp only [Act.put, List.setIfInBounds_toArray, List.set_cons_zero, List.set_cons_succ]
        refine takeC (i := 9) (v := ?vq33024) rfl (by kernel_rfl) (by kernel_rfl) (by kernel_rfl) (Or.inl ⟨by rfl, ?hyq33024⟩) (by assumption) ?restq33024
        case hyq33024 => (intro u hu; (try dsimp only at hu); go_simp <;> with_reducible rfl)
        try simp only [Act.put, List.setIfInBounds_toArray, List.set_cons_zero, List.set_cons_succ]
        refine wpAnyH_done (by kernel_rfl) ?_ _
        refine leaf_of (by simp only [putAll, List.foldl_cons, List.foldl_nil, Act.put, Act.eval, List.setIfInBounds_toArray, List.set_cons_zero, List.set_cons_succ, Array.getD_eq_getD_getElem?, List.getElem?_toArray, List.getElem?_cons_succ, List.getElem?_cons_zero, Option.getD_some]) ?_
        exact ⟨ab, B2, T2, la5, ln5, lc5, sa5, sn5, sc5, oa5, on5, oc5, (by simp only [Act.eval, Array.getD_eq_getD_getElem?, List.getElem?_toArray, List.getElem?_cons_succ, List.getElem?_cons_zero, Option.getD_some]), (by simp only [Act.eval, Array.getD_eq_getD_getElem?, List.getElem?_toArray, List.getElem?_cons_succ, List.getElem?_cons_zero, Option.getD_some]), E9, S9, I5, (by first | (have h1 := habc.out; have h2 := hBT.out; exact .inl (by omega)) | (have h1 := habl.out; have h2 := hBT.out; exact .inr (by omega))), (by have h1 := habl.out; have h2 := hBT.out; exact ⟨by omega, by omega, by omega⟩), hU9⟩
      · skip
        go_simp
        have hb2 : Below u1.heap.size u1 (u1.alloc (.cells #[.slice none 0 0, .slice none 0 0, .slice none 0 0] 27)) := (Below.refl _ _).alloc (Nat.le_refl _) _
        obtain ⟨ab, hab0⟩ : ∃ ab, ab = u1.heap.size := ⟨_, rfl⟩
        have AB : Blk (u1.alloc (.cells #[.slice none 0 0, .slice none 0 0, .slice none 0 0] 27)) ab #[.slice none 0 0, .slice none 0 0, .slice none 0 0] 27 := Blk.new' _ _ _ _ hab0
        have hab : Hid (ab < (u1.alloc (.cells #[.slice none 0 0, .slice none 0 0, .slice none 0 0] 27)).heap.size) := AB.lt
        have habl : Hid (ab = u1.heap.size) := hab0
        rw [← hab0]
        clear hab0
        have hU2 := chain hU1 hb2
        have hz2 := hb2.size
        refine hK.out _ _ (hSB _ hU2) (fun hHeld => ?_)
        clear hK K
        try simp only [Act.put, List.setIfInBounds_toArray, List.set_cons_zero, List.set_cons_succ]
        generalize u1.alloc (.cells #[.slice none 0 0, .slice none 0 0, .slice none 0 0] 27) = u2 at *
        refine oneL (i := 3) (by kernel_rfl) rfl (fun K hK => ?_)
        go_simp
        refine (himpl _ _ (P4.below hU2).at).mono ?_
        rintro e u3 ⟨⟨v5, rfl, S5⟩, hb3⟩
        obtain ⟨la5, ln5, lc5, sa5, sn5, sc5, oa5, on5, oc5, rfl⟩ := S5.r.at.l.cells
        have I5 := S5.wr.inB
        obtain ⟨B2, hB2⟩ : ∃ B2, B2 = u2.heap.size + 1 := ⟨_, rfl⟩
        obtain ⟨T2, hT2⟩ : ∃ T2, T2 = u3.heap.size := ⟨_, rfl⟩
        rw [← hB2] at S5
        rw [← hB2, ← hT2] at I5
        have hBT : Hid (B2 = u2.heap.size + 1 ∧ T2 = u3.heap.size) := ⟨hB2, hT2⟩
        clear hB2 hT2
        have hU3 := chain hU2 hb3
        have hz3 := hb3.size
        replace AB := AB.below hb3
        have habc : Hid (ab < u2.heap.size) := hab.out
        replace hab : Hid (ab < u3.heap.size) := by have := hab.out; show _ < _; omega
        dsimp only
        refine hK.out _ _ (hSB u3 hU3) (fun hHeld => ?_)
        clear hK K
        try simp only [Act.put, List.setIfInBounds_toArray, List.set_cons_zero, List.set_cons_succ]
        refine takeC (i := 4) (v := ?vq33025) rfl (by kernel_rfl) (by kernel_rfl) (by kernel_rfl) (Or.inl ⟨by rfl, ?hyq33025⟩) (by assumption) ?restq33025
        case hyq33025 => (intro u hu; (try dsimp only at hu); go_simp <;> with_reducible rfl)
        try simp only [Act.put, List.setIfInBounds_toArray, List.set_cons_zero, List.set_cons_succ]
        refine takeC (i := 5) (v := ?vq33026) rfl (by kernel_rfl) (by kernel_rfl) (by kernel_rfl) (Or.inl ⟨by rfl, ?hyq33026⟩) (by assumption) ?restq33026
        case hyq33026 => (intro u hu; (try dsimp only at hu); go_simp <;> with_reducible rfl)
        try simp only [Act.put, List.setIfInBounds_toArray, List.set_cons_zero, List.set_cons_succ]
        refine takeC (i := 6) (v := ?vq33027) rfl (by kernel_rfl) (by kernel_rfl) (by kernel_rfl) (Or.inl ⟨by rfl, ?hyq33027⟩) (by assumption) ?restq33027
        case hyq33027 => (intro u hu; (try dsimp only at hu); go_simp <;> with_reducible rfl)
        try simp only [Act.put, List.setIfInBounds_toArray, List.set_cons_zero, List.set_cons_succ]
        obtain ⟨⟨t0, t1, t2⟩, s0, s1, s2⟩ := blk_three AB
        refine oneL (i := 8) (by kernel_rfl) rfl (fun K hK => ?_)
        go_simp
        obtain ⟨E9, hU9, hg9, hs9⟩ := put3_all (x := .slice la5 ln5 lc5) (y := .slice sa5 sn5 sc5) (z := .slice oa5 on5 oc5) AB hU3 (by have := habl.out; omega)
        have S9 := S5.ofTy hg9 AB
        refine hK.out _ _ (hSB _ hU9) (fun hHeld => ?_)
        clear hK K
        try simp only [Act.put, List.setIfInBounds_toArray, List.set_cons_zero, List.set_cons_succ]
        refine takeC (i := 9) (v := ?vq33028) rfl (by kernel_rfl) (by kernel_rfl) (by kernel_rfl) (Or.inl ⟨by rfl, ?hyq33028⟩) (by assumption) ?restq33028
        case hyq33028 => (intro u hu; (try dsimp only at hu); go_simp <;> with_reducible rfl)
        try simp only [Act.put, List.setIfInBounds_toArray, List.set_cons_zero, List.set_cons_succ]
        refine wpAnyH_done (by kernel_rfl) ?_ _
        refine leaf_of (by simp only [putAll, List.foldl_cons, List.foldl_nil, Act.put, Act.eval, List.setIfInBounds_toArray, List.set_cons_zero, List.set_cons_succ, Array.getD_eq_getD_getElem?, List.getElem?_toArray, List.getElem?_cons_succ, List.getElem?_cons_zero, Option.getD_some]) ?_
        exact ⟨ab, B2, T2, la5, ln5, lc5, sa5, sn5, sc5, oa5, on5, oc5, (by simp only [Act.eval, Array.getD_eq_getD_getElem?, List.getElem?_toArray, List.getElem?_cons_succ, List.getElem?_cons_zero, Option.getD_some]), (by simp only [Act.eval, Array.getD_eq_getD_getElem?, List.getElem?_toArray, List.getElem?_cons_succ, List.getElem?_cons_zero, Option.getD_some]), E9, S9, I5, (by first | (have h1 := habc.out; have h2 := hBT.out; exact .inl (by omega)) | (have h1 := habl.out; have h2 := hBT.out; exact .inr (by omega))), (by have h1 := habl.out; have h2 := hBT.out; exact ⟨by omega, by omega, by omega⟩), hU9⟩
    · skip
      go_simp
      have hb1 : Below WD.heap.size WD (WD.alloc (.cells #[.slice none 0 0, .slice none 0 0, .slice none 0 0] 27)) := (Below.refl _ _).alloc (Nat.le_refl _) _
      obtain ⟨ab, hab0⟩ : ∃ ab, ab = WD.heap.size := ⟨_, rfl⟩
      have AB : Blk (WD.alloc (.cells #[.slice none 0 0, .slice none 0 0, .slice none 0 0] 27)) ab #[.slice none 0 0, .slice none 0 0, .slice none 0 0] 27 := Blk.new' _ _ _ _ hab0
      have hab : Hid (ab < (WD.alloc (.cells #[.slice none 0 0, .slice none 0 0, .slice none 0 0] 27)).heap.size) := AB.lt
      have habl : Hid (ab = WD.heap.size) := hab0
      rw [← hab0]
      clear hab0
      have hU1 := chain hWd hb1
      have hz1 := hb1.size
      refine hK.out _ _ (hSB _ hU1) (fun hHeld => ?_)
      clear hK K
      try simp only [Act.put, List.setIfInBounds_toArray, List.set_cons_zero, List.set_cons_succ]
      generalize WD.alloc (.cells #[.slice none 0 0, .slice none 0 0, .slice none 0 0] 27) = u1 at *
      refine oneL (i := 2) (by kernel_rfl) rfl (fun K hK => ?_)
      go_simp
      refine (laws_toDOp o _).mono ?_
      rintro e u2 ⟨rfl, hb2⟩
      have hU2 := chain hU1 hb2
      have hz2 := hb2.size
      replace AB := AB.below hb2
      have habc : Hid (ab < u1.heap.size) := hab.out
      replace hab : Hid (ab < u2.heap.size) := by have := hab.out; show _ < _; omega
      dsimp only
      refine hK.out _ _ (hSB u2 hU2) (fun hHeld => ?_)
      clear hK K
      try simp only [Act.put, List.setIfInBounds_toArray, List.set_cons_zero, List.set_cons_succ]
      refine oneL (i := 3) (by kernel_rfl) rfl (fun K hK => ?_)
      go_simp
      refine (himpl _ _ (P4.below hU2).at).mono ?_
      rintro e u3 ⟨⟨v5, rfl, S5⟩, hb3⟩
      obtain ⟨la5, ln5, lc5, sa5, sn5, sc5, oa5, on5, oc5, rfl⟩ := S5.r.at.l.cells
      have I5 := S5.wr.inB
      obtain ⟨B2, hB2⟩ : ∃ B2, B2 = u2.heap.size + 1 := ⟨_, rfl⟩
      obtain ⟨T2, hT2⟩ : ∃ T2, T2 = u3.heap.size := ⟨_, rfl⟩
      rw [← hB2] at S5
      rw [← hB2, ← hT2] at I5
      have hBT : Hid (B2 = u2.heap.size + 1 ∧ T2 = u3.heap.size) := ⟨hB2, hT2⟩
      clear hB2 hT2
      have hU3 := chain hU2 hb3
      have hz3 := hb3.size
      replace AB := AB.below hb3
      have habc : Hid (ab < u2.heap.size) := hab.out
      replace hab : Hid (ab < u3.heap.size) := by have := hab.out; show _ < _; omega
      dsimp only
      refine hK.out _ _ (hSB u3 hU3) (fun hHeld => ?_)
      clear hK K
      try simp only [Act.put, List.setIfInBounds_toArray, List.set_cons_zero, List.set_cons_succ]
      refine takeC (i := 4) (v := ?vq33029) rfl (by kernel_rfl) (by kernel_rfl) (by kernel_rfl) (Or.inl ⟨by rfl, ?hyq33029⟩) (by assumption) ?restq33029
      case hyq33029 => (intro u hu; (try dsimp only at hu); go_simp <;> with_reducible rfl)
      try simp only [Act.put, List.setIfInBounds_toArray, List.set_cons_zero, List.set_cons_succ]
      refine takeC (i := 5) (v := ?vq33030) rfl (by kernel_rfl) (by kernel_rfl) (by kernel_rfl) (Or.inl ⟨by rfl, ?hyq33030⟩) (by assumption) ?restq33030
      case hyq33030 => (intro u hu; (try dsimp only at hu); go_simp <;> with_reducible rfl)
      try simp only [Act.put, List.setIfInBounds_toArray, List.set_cons_zero, List.set_cons_succ]
      refine takeC (i := 6) (v := ?vq33031) rfl (by kernel_rfl) (by kernel_rfl) (by kernel_rfl) (Or.inl ⟨by rfl, ?hyq33031⟩) (by assumption) ?restq33031
      case hyq33031 => (intro u hu; (try dsimp only at hu); go_simp <;> with_reducible rfl)
      try simp only [Act.put, List.setIfInBounds_toArray, List.set_cons_zero, List.set_cons_succ]
      obtain ⟨⟨t0, t1, t2⟩, s0, s1, s2⟩ := blk_three AB
      refine oneL (i := 8) (by kernel_rfl) rfl (fun K hK => ?_)
      go_simp
      obtain ⟨E9, hU9, hg9, hs9⟩ := put3_all (x := .slice la5 ln5 lc5) (y := .slice sa5 sn5 sc5) (z := .slice oa5 on5 oc5) AB hU3 (by have := habl.out; omega)
      have S9 := S5.ofTy hg9 AB
      refine hK.out _ _ (hSB _ hU9) (fun hHeld => ?_)
      clear hK K
      try simp only [Act.put, List.setIfInBounds_toArray, List.set_cons_zero, List.set_cons_succ]
      refine takeC (i := 9) (v := ?vq33032) rfl (by kernel_rfl) (by kernel_rfl) (by kernel_rfl) (Or.inl ⟨by rfl, ?hyq33032⟩) (by assumption) ?restq33032
      case hyq33032 => (intro u hu; (try dsimp only at hu); go_simp <;> with_reducible rfl)
      try simp only [Act.put, List.setIfInBounds_toArray, List.set_cons_zero, List.set_cons_succ]
      refine wpAnyH_done (by kernel_rfl) ?_ _
      refine leaf_of (by simp only [putAll, List.foldl_cons, List.foldl_nil, Act.put, Act.eval, List.setIfInBounds_toArray, List.set_cons_zero, List.set_cons_succ, Array.getD_eq_getD_getElem?, List.getElem?_toArray, List.getElem?_cons_succ, List.getElem?_cons_zero, Option.getD_some]) ?_
      exact ⟨ab, B2, T2, la5, ln5, lc5, sa5, sn5, sc5, oa5, on5, oc5, (by simp only [Act.eval, Array.getD_eq_getD_getElem?, List.getElem?_toArray, List.getElem?_cons_succ, List.getElem?_cons_zero, Option.getD_some]), (by simp only [Act.eval, Array.getD_eq_getD_getElem?, List.getElem?_toArray, List.getElem?_cons_succ, List.getElem?_cons_zero, Option.getD_some]), E9, S9, I5, (by first | (have h1 := habc.out; have h2 := hBT.out; exact .inl (by omega)) | (have h1 := habl.out; have h2 := hBT.out; exact .inr (by omega))), (by have h1 := habl.out; have h2 := hBT.out; exact ⟨by omega, by omega, by omega⟩), hU9⟩
  clear hSB x0 x1 x2 o0 o1 o2 o3
  rintro x w5 ⟨gb, B2, T2, la5, ln5, lc5, sa5, sn5, sc5, oa5, on5, oc5, e6, e7, G5, S5, I5, hgb, hsz5, hU5⟩
  simp only [putAll, List.foldl_cons, List.foldl_nil, e6, e7]
  try simp only [Act.put, List.setIfInBounds_toArray, List.set_cons_zero, List.set_cons_succ]
  clear e6 e7
  have hsz : Hid ((w.heap.size + 1 < w1.heap.size ∧ w1.heap.size ≤ ab ∧ ab < w3.heap.size ∧ w3.heap.size ≤ w4.heap.size ∧ W4.heap.size = w4.heap.size + 1) ∧ (gb < B2 ∨ T2 ≤ gb) ∧ (T2 ≤ w5.heap.size ∧ W4.heap.size ≤ B2 ∧ W4.heap.size ≤ gb)) := ⟨⟨hlt1.out.1, habH.out.1, habH.out.2, hs4.out.2, hs4.out.1⟩, hgb, hsz5⟩
  clear hgb hsz5
  replace C := C.below hU5
  replace O := O.below hU5
  have A5 := A4.below hU5
  have X5 := X4.below hU5
  have Z5 := chain Z4 hU5
  have P5 := P4.below hU5
  have hz5 := hU5.size
  have hB5 := chain hB4' hU5
  clear hU5 A4 X4 Z4 P4 hB4'
  obtain ⟨a0, a1, a2⟩ := A5.three
  obtain ⟨g0, g1, g2⟩ := G5.three
  go_wp2_with fail
  refine (laws_eqDisk _ _ sd sd w5 S5.r.at.l (R3.below Z5).at.l hls hls).mono ?_
  rintro e w6 ⟨rfl, hB6⟩
  rw [hes]
  have C6 := (C.below hB6).drew
  have O6 := (O.below hB6).drew
  have A6 := (A5.below hB6).drew
  have X6 := (X5.below hB6).drew
  have G6 := (G5.below hB6).drew
  have hd6 : Below w6.heap.size w6 w6.drew := (Below.refl _ _).drew
  have P6 := (P5.below hB6).below hd6
  have S6 := (S5.below hB6).below hd6
  have Z6 := chain (chain Z5 hB6) hd6
  have hz6 := hB6.size
  replace hB6 : Below w.heap.size w w6.drew := (chain hB5 hB6).drew
  clear C O A5 X5 G5 P5 S5 Z5 hB5 a0 a1 a2 g0 g1 g2
  obtain ⟨d0, d1, d2⟩ := C6.three
  obtain ⟨x0, x1, x2⟩ := X6.three
  go_wp2_with fail
  have hS0 : (fun u => (u.cell? ⟨w4.heap.size, 0, none⟩ = some (.slice la4 ln4 lc4) ∧ u.cell? ⟨w4.heap.size, 1, none⟩ = some (.slice sa4 sn4 sc4) ∧ u.cell? ⟨w4.heap.size, 2, none⟩ = some (.slice oa4 on4 oc4)) ∧ u.cell? ⟨w.heap.size, 0, none⟩ = some (.slice la ln lc) ∧ u.cell? ⟨w.heap.size, 1, none⟩ = some (.slice sa sn sc) ∧ u.cell? ⟨w.heap.size, 2, none⟩ = some (.slice oa on oc)) w6.drew := ⟨X6.three, C6.three⟩
  refine wp_region_heldH (S := (fun u => (u.cell? ⟨w4.heap.size, 0, none⟩ = some (.slice la4 ln4 lc4) ∧ u.cell? ⟨w4.heap.size, 1, none⟩ = some (.slice sa4 sn4 sc4) ∧ u.cell? ⟨w4.heap.size, 2, none⟩ = some (.slice oa4 on4 oc4)) ∧ u.cell? ⟨w.heap.size, 0, none⟩ = some (.slice la ln lc) ∧ u.cell? ⟨w.heap.size, 1, none⟩ = some (.slice sa sn sc) ∧ u.cell? ⟨w.heap.size, 2, none⟩ = some (.slice oa on oc))) 5 (by kernel_rfl) rfl ?_
  refine takeL (i := 0) (v := ?vq33033) rfl (by kernel_rfl) (by kernel_rfl) (by kernel_rfl) (fun _ _ _ h => h) (Or.inl ⟨by rfl, ?hyq33033⟩) (by assumption) ?restq33033
  case hyq33033 => (intro u hu; (try dsimp only at hu); go_simp <;> with_reducible rfl)
  try simp only [Act.put, List.setIfInBounds_toArray, List.set_cons_zero, List.set_cons_succ]
  refine takeL (i := 1) (v := ?vq33034) rfl (by kernel_rfl) (by kernel_rfl) (by kernel_rfl) (fun _ _ _ h => h) (Or.inl ⟨by rfl, ?hyq33034⟩) (by assumption) ?restq33034
  case hyq33034 => (intro u hu; (try dsimp only at hu); go_simp <;> with_reducible rfl)
  try simp only [Act.put, List.setIfInBounds_toArray, List.set_cons_zero, List.set_cons_succ]
  refine oneL (i := 2) (by kernel_rfl) rfl (fun K hK => ?_)
  go_simp
  refine (laws_toDisk _ d _ (h.below hB6) hs).mono ?_
  rintro e w7 ⟨⟨v7, rfl, P7⟩, hB7⟩
  obtain ⟨la7, ln7, lc7, sa7, sn7, sc7, oa7, on7, oc7, rfl⟩ := P7.at.l.cells
  dsimp only
  refine hK.out _ _ ⟨(X6.below hB7).three, (C6.below hB7).three⟩ (fun hHeld => ?_)
  clear hK K
  try simp only [Act.put, List.setIfInBounds_toArray, List.set_cons_zero, List.set_cons_succ]
  refine oneL (i := 3) (by kernel_rfl) rfl (fun K hK => ?_)
  go_simp
  refine (laws_eqDisk _ _ d d _ (P6.below hB7).at.l P7.at.l hl hl).mono ?_
  rintro e w8 ⟨rfl, hB8⟩
  rw [hee]
  dsimp only
  refine hK.out _ _ ⟨(X6.below (chain hB7 hB8)).three, (C6.below (chain hB7 hB8)).three⟩ (fun hHeld => ?_)
  clear hK K
  try simp only [Act.put, List.setIfInBounds_toArray, List.set_cons_zero, List.set_cons_succ]
  refine takeL (i := 4) (v := ?vq33035) rfl (by kernel_rfl) (by kernel_rfl) (by kernel_rfl) (fun _ _ _ h => h) (Or.inl ⟨by rfl, ?hyq33035⟩) (by assumption) ?restq33035
  case hyq33035 => (intro u hu; (try dsimp only at hu); go_simp <;> with_reducible rfl)
  try simp only [Act.put, List.setIfInBounds_toArray, List.set_cons_zero, List.set_cons_succ]
  refine wpAnyH_done (by kernel_rfl) ?_ _
  clear hS0 hHeld
  have hC8 := chain hB7 hB8
  have hz8 := hC8.size
  clear d0 d1 d2 x0 x1 x2 P7
  replace C6 := C6.below hC8
  replace O6 := O6.below hC8
  replace A6 := A6.below hC8
  replace X6 := X6.below hC8
  replace G6 := G6.below hC8
  replace P6 := P6.below hC8
  replace S6 := S6.below hC8
  replace Z6 := chain Z6 hC8
  replace hB6 := chain hB6 hC8
  clear hB7 hB8 hC8
  have hz6' : w6.heap.size ≤ w8.heap.size := hz8
  clear hz8
  obtain ⟨x0, x1, x2⟩ := X6.three
  go_wp2_with fail
  refine (laws_markDisk _ _ _ d w8 P6 I4 (by have := hsz.out; omega) hl).mono ?_
  rintro e w9 ⟨rfl, _, F9⟩
  have C9 := F9.blk C6 (.inl (by have := hsz.out; omega))
  have O9 := F9.blk O6 (.inl (by have := hsz.out; omega))
  have A9 := F9.blk A6 (.inl (by have := hsz.out; omega))
  have G9 := F9.blk G6 (.inr (by have := hsz.out; omega))
  have S9 := S6.frd F9 (by have := hsz.out; omega)
  have Z9 : Below w3.heap.size w3 w9 := Z6.trans (F9.low (by have := hsz.out; omega) (by have := Z6.size; omega))
  have hz9 := F9.size
  have hB9 : Below w.heap.size w w9 := hB6.trans (F9.low (by have := hsz.out; omega) (by have := hB6.size; omega))
  clear C6 O6 A6 X6 G6 S6 Z6 P6 F9 hB6 x0 x1 x2
  obtain ⟨KM, hKM⟩ : ∃ KM : Int, KM = ((markN d : Nat) : Int) := ⟨_, rfl⟩
  rw [← hKM]
  have hKM0 : ¬ KM < 0 := by omega
  clear hKM
  obtain ⟨a0, a1, a2⟩ := A9.three
  obtain ⟨g0, g1, g2⟩ := G9.three
  go_wp2_with fail
  refine (laws_eqDisk _ _ sd sd w9 S9.r.at.l (R3.below Z9).at.l hls hls).mono ?_
  rintro e w10 ⟨rfl, hB10⟩
  rw [hes]
  have C10 := C9.below hB10
  have O10 := O9.below hB10
  have A10 := A9.below hB10
  have G10 := G9.below hB10
  have S10 := S9.below hB10
  have Z10 := chain Z9 hB10
  have hz10 := hB10.size
  replace hB10 := chain hB9 hB10
  clear C9 O9 A9 G9 S9 Z9 hB9 a0 a1 a2 g0 g1 g2
  obtain ⟨g0, g1, g2⟩ := G10.three
  go_wp2_with fail
  refine (laws_markDisk _ _ _ sd w10 S10.wr I5 (by have := hsz.out; omega) hls).mono ?_
  rintro e w11 ⟨rfl, M11, F11⟩
  have C11 := F11.blk C10 (.inl (by have := hsz.out; omega))
  have O11 := F11.blk O10 (.inl (by have := hsz.out; omega))
  have A11 := F11.blk A10 (.inl (by have := hsz.out; omega))
  have G11 := F11.blk G10 hsz.out.2.1
  have Z11 : Below w3.heap.size w3 w11 := Z10.trans (F11.low (by have := hsz.out; omega) (by have := Z10.size; omega))
  have hB11 : Below w.heap.size w w11 := hB10.trans (F11.low (by have := hsz.out; omega) (by have := hB10.size; omega))
  clear C10 O10 A10 G10 S10 Z10 F11 hB10 g0 g1 g2
  obtain ⟨KS, hKS⟩ : ∃ KS : Int, KS = ((markN sd : Nat) : Int) := ⟨_, rfl⟩
  have hKH : Hid (KS = ((markN sd : Nat) : Int)) := hKS
  have hKS0 : ¬ KS < 0 := by omega
  have hKSe : (KS != KS) = false := by simp
  rw [← hKS]
  clear hKS
  obtain ⟨g0, g1, g2⟩ := G11.three
  go_wp2_with fail
  refine (laws_heldDisk _ sd w11 M11 hls).mono ?_
  rintro e w12 ⟨rfl, hB12⟩
  rw [← hKH.out]
  have C12 := C11.below hB12
  have O12 := O11.below hB12
  have A12 := A11.below hB12
  have G12 := G11.below hB12
  have M12 := M11.below hB12
  have Z12 := chain Z11 hB12
  replace hB12 := chain hB11 hB12
  clear C11 O11 A11 G11 M11 Z11 hB11 g0 g1 g2
  obtain ⟨d0, d1, d2⟩ := C12.three
  obtain ⟨o0, o1, o2, o3⟩ := blk_four O12
  go_wp2_with fail
  have hSB : ∀ u, Below w12.heap.size w12 u → (fun u => u.cell? ⟨w.heap.size, 0, none⟩ = some (.slice la ln lc) ∧ u.cell? ⟨w.heap.size, 1, none⟩ = some (.slice sa sn sc) ∧ u.cell? ⟨w.heap.size, 2, none⟩ = some (.slice oa on oc) ∧ u.cell? ⟨w.heap.size + 1, 0, none⟩ = some (.int .i64 o.k) ∧ u.cell? ⟨w.heap.size + 1, 1, none⟩ = some (.string o.nm) ∧ u.cell? ⟨w.heap.size + 1, 2, none⟩ = some (.string o.tt) ∧ u.cell? ⟨w.heap.size + 1, 3, none⟩ = some (.string o.d)) u := fun u hu => ⟨bcell hu d0, bcell hu d1, bcell hu d2, bcell hu o0, bcell hu o1, bcell hu o2, bcell hu o3⟩
  refine region_cut (fun u => u.cell? ⟨w.heap.size, 0, none⟩ = some (.slice la ln lc) ∧ u.cell? ⟨w.heap.size, 1, none⟩ = some (.slice sa sn sc) ∧ u.cell? ⟨w.heap.size, 2, none⟩ = some (.slice oa on oc) ∧ u.cell? ⟨w.heap.size + 1, 0, none⟩ = some (.int .i64 o.k) ∧ u.cell? ⟨w.heap.size + 1, 1, none⟩ = some (.string o.nm) ∧ u.cell? ⟨w.heap.size + 1, 2, none⟩ = some (.string o.tt) ∧ u.cell? ⟨w.heap.size + 1, 3, none⟩ = some (.string o.d)) 11 [85, 86, 87, 88, 89, 84, 90, 91, 14, 15] (fun x u => ∃ ab la3 ln3 lc3 sa3 sn3 sc3 oa3 on3 oc3, x 14 = .pointer (some ⟨ab, 0, none⟩) ∧ x 15 = .int .i64 cd ∧ Blk u ab #[.slice la3 ln3 lc3, .slice sa3 sn3 sc3, .slice oa3 on3 oc3] 27 ∧ DiskR 0 u (.agg #[.slice la3 ln3 lc3, .slice sa3 sn3 sc3, .slice oa3 on3 oc3]) sd ∧ Below w12.heap.size w12 u ∧ w12.heap.size ≤ ab) (by kernel_rfl) rfl ?walk27 ?rest27
  case walk27 =>
    have hWd : Below w12.heap.size w12 w12.drew := (Below.refl _ _).drew
    generalize w12.drew = WD at hWd ⊢
    have hS0 := hSB WD hWd
    have hWz := hWd.size
    refine takeC (i := 0) (v := ?vq33036) rfl (by kernel_rfl) (by kernel_rfl) (by kernel_rfl) (Or.inl ⟨by rfl, ?hyq33036⟩) (by assumption) ?restq33036
    case hyq33036 => (intro u hu; (try dsimp only at hu); go_simp <;> with_reducible rfl)
    try simp only [Act.put, List.setIfInBounds_toArray, List.set_cons_zero, List.set_cons_succ]
    refine takeC (i := 2) (v := ?vq33037) rfl (by kernel_rfl) (by kernel_rfl) (by kernel_rfl) (Or.inl ⟨by rfl, ?hyq33037⟩) (by assumption) ?restq33037
    case hyq33037 => (intro u hu; (try dsimp only at hu); go_simp <;> with_reducible rfl)
    try simp only [Act.put, List.setIfInBounds_toArray, List.set_cons_zero, List.set_cons_succ]
    refine twoLJ (i := 1) (j := 8) (by kernel_rfl) rfl rfl (fun K hK => ?_) (fun K hK => ?_)
    · skip
      go_simp
      refine (laws_toDisk _ d _ (h.below (chain hB12 hWd)) hs).mono ?_
      rintro e u1 ⟨⟨v2, rfl, P2⟩, hb1⟩
      have hU1 := chain hWd hb1
      have hz1 := hb1.size
      dsimp only
      refine hK.out _ _ (hSB u1 hU1) (fun hHeld => ?_)
      clear hK K
      try simp only [Act.put, List.setIfInBounds_toArray, List.set_cons_zero, List.set_cons_succ]
      refine twoLJ (i := 3) (j := 8) (by kernel_rfl) rfl rfl (fun K hK => ?_) (fun K hK => ?_)
      · skip
        go_simp
        refine (laws_toDOp o _).mono ?_
        rintro e u2 ⟨rfl, hb2⟩
        replace P2 := P2.below hb2
        have hU2 := chain hU1 hb2
        have hz2 := hb2.size
        dsimp only
        refine hK.out _ _ (hSB u2 hU2) (fun hHeld => ?_)
        clear hK K
        try simp only [Act.put, List.setIfInBounds_toArray, List.set_cons_zero, List.set_cons_succ]
        refine twoLJ (i := 4) (j := 8) (by kernel_rfl) rfl rfl (fun K hK => ?_) (fun K hK => ?_)
        · skip
          go_simp
          refine (himpl _ v2 P2.at).mono ?_
          rintro e u3 ⟨⟨v5, rfl, S5⟩, hb3⟩
          have R3 := S5.r
          obtain ⟨la3, ln3, lc3, sa3, sn3, sc3, oa3, on3, oc3, rfl⟩ := R3.at.l.cells
          clear P2 S5
          have hU3 := chain hU2 hb3
          have hz3 := hb3.size
          dsimp only
          refine hK.out _ _ (hSB u3 hU3) (fun hHeld => ?_)
          clear hK K
          try simp only [Act.put, List.setIfInBounds_toArray, List.set_cons_zero, List.set_cons_succ]
          refine takeC (i := 5) (v := ?vq33038) rfl (by kernel_rfl) (by kernel_rfl) (by kernel_rfl) (Or.inl ⟨by rfl, ?hyq33038⟩) (by assumption) ?restq33038
          case hyq33038 => (intro u hu; (try dsimp only at hu); go_simp <;> with_reducible rfl)
          try simp only [Act.put, List.setIfInBounds_toArray, List.set_cons_zero, List.set_cons_succ]
          refine takeC (i := 6) (v := ?vq33039) rfl (by kernel_rfl) (by kernel_rfl) (by kernel_rfl) (Or.inl ⟨by rfl, ?hyq33039⟩) (by assumption) ?restq33039
          case hyq33039 => (intro u hu; (try dsimp only at hu); go_simp <;> with_reducible rfl)
          try simp only [Act.put, List.setIfInBounds_toArray, List.set_cons_zero, List.set_cons_succ]
          refine takeC (i := 7) (v := ?vq33040) rfl (by kernel_rfl) (by kernel_rfl) (by kernel_rfl) (Or.inl ⟨by rfl, ?hyq33040⟩) (by assumption) ?restq33040
          case hyq33040 => (intro u hu; (try dsimp only at hu); go_simp <;> with_reducible rfl)
          try simp only [Act.put, List.setIfInBounds_toArray, List.set_cons_zero, List.set_cons_succ]
          refine oneL (i := 8) (by kernel_rfl) rfl (fun K hK => ?_)
          go_simp
          have hb4 : Below u3.heap.size u3 (u3.alloc (.cells #[.slice none 0 0, .slice none 0 0, .slice none 0 0] 27)) := (Below.refl _ _).alloc (Nat.le_refl _) _
          obtain ⟨ab, hab0⟩ : ∃ ab, ab = u3.heap.size := ⟨_, rfl⟩
          have AB : Blk (u3.alloc (.cells #[.slice none 0 0, .slice none 0 0, .slice none 0 0] 27)) ab #[.slice none 0 0, .slice none 0 0, .slice none 0 0] 27 := Blk.new' _ _ _ _ hab0
          have hab : Hid (ab < (u3.alloc (.cells #[.slice none 0 0, .slice none 0 0, .slice none 0 0] 27)).heap.size) := AB.lt
          have habl : Hid (ab = u3.heap.size) := hab0
          rw [← hab0]
          clear hab0
          have hU4 := chain hU3 hb4
          have hz4 := hb4.size
          replace R3 := R3.below hb4
          refine hK.out _ _ (hSB _ hU4) (fun hHeld => ?_)
          clear hK K
          try simp only [Act.put, List.setIfInBounds_toArray, List.set_cons_zero, List.set_cons_succ]
          generalize u3.alloc (.cells #[.slice none 0 0, .slice none 0 0, .slice none 0 0] 27) = u4 at *
          obtain ⟨⟨t0, t1, t2⟩, s0, s1, s2⟩ := blk_three AB
          refine oneL (i := 9) (by kernel_rfl) rfl (fun K hK => ?_)
          go_simp
          obtain ⟨E9, hU9, hg9, hs9⟩ := put3_all (x := .slice la3 ln3 lc3) (y := .slice sa3 sn3 sc3) (z := .slice oa3 on3 oc3) AB hU4 (by have := habl.out; omega)
          have R9 := (R3.ofTy hg9 AB).mono (Nat.zero_le _)
          refine hK.out _ _ (hSB _ hU9) (fun hHeld => ?_)
          clear hK K
          try simp only [Act.put, List.setIfInBounds_toArray, List.set_cons_zero, List.set_cons_succ]
          refine takeC (i := 10) (v := ?vq33041) rfl (by kernel_rfl) (by kernel_rfl) (by kernel_rfl) (Or.inl ⟨by rfl, ?hyq33041⟩) (by assumption) ?restq33041
          case hyq33041 => (intro u hu; (try dsimp only at hu); go_simp <;> with_reducible rfl)
          try simp only [Act.put, List.setIfInBounds_toArray, List.set_cons_zero, List.set_cons_succ]
          refine wpAnyH_done (by kernel_rfl) ?_ _
          refine leaf_of (by simp only [putAll, List.foldl_cons, List.foldl_nil, Act.put, Act.eval, List.setIfInBounds_toArray, List.set_cons_zero, List.set_cons_succ, Array.getD_eq_getD_getElem?, List.getElem?_toArray, List.getElem?_cons_succ, List.getElem?_cons_zero, Option.getD_some]) ?_
          exact ⟨ab, la3, ln3, lc3, sa3, sn3, sc3, oa3, on3, oc3, (by simp only [Act.eval, Array.getD_eq_getD_getElem?, List.getElem?_toArray, List.getElem?_cons_succ, List.getElem?_cons_zero, Option.getD_some]), (by simp only [Act.eval, Array.getD_eq_getD_getElem?, List.getElem?_toArray, List.getElem?_cons_succ, List.getElem?_cons_zero, Option.getD_some]), E9, R9, hU9, by have := habl.out; omega⟩
        · skip
          go_simp
          have hb3 : Below u2.heap.size u2 (u2.alloc (.cells #[.slice none 0 0, .slice none 0 0, .slice none 0 0] 27)) := (Below.refl _ _).alloc (Nat.le_refl _) _
          obtain ⟨ab, hab0⟩ : ∃ ab, ab = u2.heap.size := ⟨_, rfl⟩
          have AB : Blk (u2.alloc (.cells #[.slice none 0 0, .slice none 0 0, .slice none 0 0] 27)) ab #[.slice none 0 0, .slice none 0 0, .slice none 0 0] 27 := Blk.new' _ _ _ _ hab0
          have hab : Hid (ab < (u2.alloc (.cells #[.slice none 0 0, .slice none 0 0, .slice none 0 0] 27)).heap.size) := AB.lt
          have habl : Hid (ab = u2.heap.size) := hab0
          rw [← hab0]
          clear hab0
          have hU3 := chain hU2 hb3
          have hz3 := hb3.size
          replace P2 := P2.below hb3
          refine hK.out _ _ (hSB _ hU3) (fun hHeld => ?_)
          clear hK K
          try simp only [Act.put, List.setIfInBounds_toArray, List.set_cons_zero, List.set_cons_succ]
          generalize u2.alloc (.cells #[.slice none 0 0, .slice none 0 0, .slice none 0 0] 27) = u3 at *
          refine oneL (i := 4) (by kernel_rfl) rfl (fun K hK => ?_)
          go_simp
          refine (himpl _ v2 P2.at).mono ?_
          rintro e u4 ⟨⟨v5, rfl, S5⟩, hb4⟩
          have R3 := S5.r
          obtain ⟨la3, ln3, lc3, sa3, sn3, sc3, oa3, on3, oc3, rfl⟩ := R3.at.l.cells
          clear P2 S5
          have hU4 := chain hU3 hb4
          have hz4 := hb4.size
          replace AB := AB.below hb4
          have habc : Hid (ab < u3.heap.size) := hab.out
          replace hab : Hid (ab < u4.heap.size) := by have := hab.out; show _ < _; omega
          dsimp only
          refine hK.out _ _ (hSB u4 hU4) (fun hHeld => ?_)
          clear hK K
          try simp only [Act.put, List.setIfInBounds_toArray, List.set_cons_zero, List.set_cons_succ]
          refine takeC (i := 5) (v := ?vq33042) rfl (by kernel_rfl) (by kernel_rfl) (by kernel_rfl) (Or.inl ⟨by rfl, ?hyq33042⟩) (by assumption) ?restq33042
          case hyq33042 => (intro u hu; (try dsimp only at hu); go_simp <;> with_reducible rfl)
          try simp only [Act.put, List.setIfInBounds_toArray, List.set_cons_zero, List.set_cons_succ]
          refine takeC (i := 6) (v := ?vq33043) rfl (by kernel_rfl) (by kernel_rfl) (by kernel_rfl) (Or.inl ⟨by rfl, ?hyq33043⟩) (by assumption) ?restq33043
          case hyq33043 => (intro u hu; (try dsimp only at hu); go_simp <;> with_reducible rfl)
          try simp only [Act.put, List.setIfInBounds_toArray, List.set_cons_zero, List.set_cons_succ]
          refine takeC (i := 7) (v := ?vq33044) rfl (by kernel_rfl) (by kernel_rfl) (by kernel_rfl) (Or.inl ⟨by rfl, ?hyq33044⟩) (by assumption) ?restq33044
          case hyq33044 => (intro u hu; (try dsimp only at hu); go_simp <;> with_reducible rfl)
          try simp only [Act.put, List.setIfInBounds_toArray, List.set_cons_zero, List.set_cons_succ]
          obtain ⟨⟨t0, t1, t2⟩, s0, s1, s2⟩ := blk_three AB
          refine oneL (i := 9) (by kernel_rfl) rfl (fun K hK => ?_)
          go_simp
          obtain ⟨E9, hU9, hg9, hs9⟩ := put3_all (x := .slice la3 ln3 lc3) (y := .slice sa3 sn3 sc3) (z := .slice oa3 on3 oc3) AB hU4 (by have := habl.out; omega)
          have R9 := (R3.ofTy hg9 AB).mono (Nat.zero_le _)
          refine hK.out _ _ (hSB _ hU9) (fun hHeld => ?_)
          clear hK K
          try simp only [Act.put, List.setIfInBounds_toArray, List.set_cons_zero, List.set_cons_succ]
          refine takeC (i := 10) (v := ?vq33045) rfl (by kernel_rfl) (by kernel_rfl) (by kernel_rfl) (Or.inl ⟨by rfl, ?hyq33045⟩) (by assumption) ?restq33045
          case hyq33045 => (intro u hu; (try dsimp only at hu); go_simp <;> with_reducible rfl)
          try simp only [Act.put, List.setIfInBounds_toArray, List.set_cons_zero, List.set_cons_succ]
          refine wpAnyH_done (by kernel_rfl) ?_ _
          refine leaf_of (by simp only [putAll, List.foldl_cons, List.foldl_nil, Act.put, Act.eval, List.setIfInBounds_toArray, List.set_cons_zero, List.set_cons_succ, Array.getD_eq_getD_getElem?, List.getElem?_toArray, List.getElem?_cons_succ, List.getElem?_cons_zero, Option.getD_some]) ?_
          exact ⟨ab, la3, ln3, lc3, sa3, sn3, sc3, oa3, on3, oc3, (by simp only [Act.eval, Array.getD_eq_getD_getElem?, List.getElem?_toArray, List.getElem?_cons_succ, List.getElem?_cons_zero, Option.getD_some]), (by simp only [Act.eval, Array.getD_eq_getD_getElem?, List.getElem?_toArray, List.getElem?_cons_succ, List.getElem?_cons_zero, Option.getD_some]), E9, R9, hU9, by have := habl.out; omega⟩
      · skip
        go_simp
        have hb2 : Below u1.heap.size u1 (u1.alloc (.cells #[.slice none 0 0, .slice none 0 0, .slice none 0 0] 27)) := (Below.refl _ _).alloc (Nat.le_refl _) _
        obtain ⟨ab, hab0⟩ : ∃ ab, ab = u1.heap.size := ⟨_, rfl⟩
        have AB : Blk (u1.alloc (.cells #[.slice none 0 0, .slice none 0 0, .slice none 0 0] 27)) ab #[.slice none 0 0, .slice none 0 0, .slice none 0 0] 27 := Blk.new' _ _ _ _ hab0
        have hab : Hid (ab < (u1.alloc (.cells #[.slice none 0 0, .slice none 0 0, .slice none 0 0] 27)).heap.size) := AB.lt
        have habl : Hid (ab = u1.heap.size) := hab0
        rw [← hab0]
        clear hab0
        have hU2 := chain hU1 hb2
        have hz2 := hb2.size
        replace P2 := P2.below hb2
        refine hK.out _ _ (hSB _ hU2) (fun hHeld => ?_)
        clear hK K
        try simp only [Act.put, List.setIfInBounds_toArray, List.set_cons_zero, List.set_cons_succ]
        generalize u1.alloc (.cells #[.slice none 0 0, .slice none 0 0, .slice none 0 0] 27) = u2 at *
        refine oneL (i := 3) (by kernel_rfl) rfl (fun K hK => ?_)
        go_simp
        refine (laws_toDOp o _).mono ?_
        rintro e u3 ⟨rfl, hb3⟩
        replace P2 := P2.below hb3
        have hU3 := chain hU2 hb3
        have hz3 := hb3.size
        replace AB := AB.below hb3
        have habc : Hid (ab < u2.heap.size) := hab.out
        replace hab : Hid (ab < u3.heap.size) := by have := hab.out; show _ < _; omega
        dsimp only
        refine hK.out _ _ (hSB u3 hU3) (fun hHeld => ?_)
        clear hK K
        try simp only [Act.put, List.setIfInBounds_toArray, List.set_cons_zero, List.set_cons_succ]
        refine oneL (i := 4) (by kernel_rfl) rfl (fun K hK => ?_)
        go_simp
        refine (himpl _ v2 P2.at).mono ?_
        rintro e u4 ⟨⟨v5, rfl, S5⟩, hb4⟩
        have R3 := S5.r
        obtain ⟨la3, ln3, lc3, sa3, sn3, sc3, oa3, on3, oc3, rfl⟩ := R3.at.l.cells
        clear P2 S5
        have hU4 := chain hU3 hb4
        have hz4 := hb4.size
        replace AB := AB.below hb4
        have habc : Hid (ab < u3.heap.size) := hab.out
        replace hab : Hid (ab < u4.heap.size) := by have := hab.out; show _ < _; omega
        dsimp only
        refine hK.out _ _ (hSB u4 hU4) (fun hHeld => ?_)
        clear hK K
        try simp only [Act.put, List.setIfInBounds_toArray, List.set_cons_zero, List.set_cons_succ]
        refine takeC (i := 5) (v := ?vq33046) rfl (by kernel_rfl) (by kernel_rfl) (by kernel_rfl) (Or.inl ⟨by rfl, ?hyq33046⟩) (by assumption) ?restq33046
        case hyq33046 => (intro u hu; (try dsimp only at hu); go_simp <;> with_reducible rfl)
        try simp only [Act.put, List.setIfInBounds_toArray, List.set_cons_zero, List.set_cons_succ]
        refine takeC (i := 6) (v := ?vq33047) rfl (by kernel_rfl) (by kernel_rfl) (by kernel_rfl) (Or.inl ⟨by rfl, ?hyq33047⟩) (by assumption) ?restq33047
        case hyq33047 => (intro u hu; (try dsimp only at hu); go_simp <;> with_reducible rfl)
        try simp only [Act.put, List.setIfInBounds_toArray, List.set_cons_zero, List.set_cons_succ]
        refine takeC (i := 7) (v := ?vq33048) rfl (by kernel_rfl) (by kernel_rfl) (by kernel_rfl) (Or.inl ⟨by rfl, ?hyq33048⟩) (by assumption) ?restq33048
        case hyq33048 => (intro u hu; (try dsimp only at hu); go_simp <;> with_reducible rfl)
        try simp only [Act.put, List.setIfInBounds_toArray, List.set_cons_zero, List.set_cons_succ]
        obtain ⟨⟨t0, t1, t2⟩, s0, s1, s2⟩ := blk_three AB
        refine oneL (i := 9) (by kernel_rfl) rfl (fun K hK => ?_)
        go_simp
        obtain ⟨E9, hU9, hg9, hs9⟩ := put3_all (x := .slice la3 ln3 lc3) (y := .slice sa3 sn3 sc3) (z := .slice oa3 on3 oc3) AB hU4 (by have := habl.out; omega)
        have R9 := (R3.ofTy hg9 AB).mono (Nat.zero_le _)
        refine hK.out _ _ (hSB _ hU9) (fun hHeld => ?_)
        clear hK K
        try simp only [Act.put, List.setIfInBounds_toArray, List.set_cons_zero, List.set_cons_succ]
        refine takeC (i := 10) (v := ?vq33049) rfl (by kernel_rfl) (by kernel_rfl) (by kernel_rfl) (Or.inl ⟨by rfl, ?hyq33049⟩) (by assumption) ?restq33049
        case hyq33049 => (intro u hu; (try dsimp only at hu); go_simp <;> with_reducible rfl)
        try simp only [Act.put, List.setIfInBounds_toArray, List.set_cons_zero, List.set_cons_succ]
        refine wpAnyH_done (by kernel_rfl) ?_ _
        refine leaf_of (by simp only [putAll, List.foldl_cons, List.foldl_nil, Act.put, Act.eval, List.setIfInBounds_toArray, List.set_cons_zero, List.set_cons_succ, Array.getD_eq_getD_getElem?, List.getElem?_toArray, List.getElem?_cons_succ, List.getElem?_cons_zero, Option.getD_some]) ?_
        exact ⟨ab, la3, ln3, lc3, sa3, sn3, sc3, oa3, on3, oc3, (by simp only [Act.eval, Array.getD_eq_getD_getElem?, List.getElem?_toArray, List.getElem?_cons_succ, List.getElem?_cons_zero, Option.getD_some]), (by simp only [Act.eval, Array.getD_eq_getD_getElem?, List.getElem?_toArray, List.getElem?_cons_succ, List.getElem?_cons_zero, Option.getD_some]), E9, R9, hU9, by have := habl.out; omega⟩
    · skip
      go_simp
      have hb1 : Below WD.heap.size WD (WD.alloc (.cells #[.slice none 0 0, .slice none 0 0, .slice none 0 0] 27)) := (Below.refl _ _).alloc (Nat.le_refl _) _
      obtain ⟨ab, hab0⟩ : ∃ ab, ab = WD.heap.size := ⟨_, rfl⟩
      have AB : Blk (WD.alloc (.cells #[.slice none 0 0, .slice none 0 0, .slice none 0 0] 27)) ab #[.slice none 0 0, .slice none 0 0, .slice none 0 0] 27 := Blk.new' _ _ _ _ hab0
      have hab : Hid (ab < (WD.alloc (.cells #[.slice none 0 0, .slice none 0 0, .slice none 0 0] 27)).heap.size) := AB.lt
      have habl : Hid (ab = WD.heap.size) := hab0
      rw [← hab0]
      clear hab0
      have hU1 := chain hWd hb1
      have hz1 := hb1.size
      refine hK.out _ _ (hSB _ hU1) (fun hHeld => ?_)
      clear hK K
      try simp only [Act.put, List.setIfInBounds_toArray, List.set_cons_zero, List.set_cons_succ]
      generalize WD.alloc (.cells #[.slice none 0 0, .slice none 0 0, .slice none 0 0] 27) = u1 at *
      refine oneL (i := 1) (by kernel_rfl) rfl (fun K hK => ?_)
      go_simp
      refine (laws_toDisk _ d _ (h.below (chain hB12 hU1)) hs).mono ?_
      rintro e u2 ⟨⟨v2, rfl, P2⟩, hb2⟩
      have hU2 := chain hU1 hb2
      have hz2 := hb2.size
      replace AB := AB.below hb2
      have habc : Hid (ab < u1.heap.size) := hab.out
      replace hab : Hid (ab < u2.heap.size) := by have := hab.out; show _ < _; omega
      dsimp only
      refine hK.out _ _ (hSB u2 hU2) (fun hHeld => ?_)
      clear hK K
      try simp only [Act.put, List.setIfInBounds_toArray, List.set_cons_zero, List.set_cons_succ]
      refine oneL (i := 3) (by kernel_rfl) rfl (fun K hK => ?_)
      go_simp
      refine (laws_toDOp o _).mono ?_
      rintro e u3 ⟨rfl, hb3⟩
      replace P2 := P2.below hb3
      have hU3 := chain hU2 hb3
      have hz3 := hb3.size
      replace AB := AB.below hb3
      have habc : Hid (ab < u2.heap.size) := hab.out
      replace hab : Hid (ab < u3.heap.size) := by have := hab.out; show _ < _; omega
      dsimp only
      refine hK.out _ _ (hSB u3 hU3) (fun hHeld => ?_)
      clear hK K
      try simp only [Act.put, List.setIfInBounds_toArray, List.set_cons_zero, List.set_cons_succ]
      refine oneL (i := 4) (by kernel_rfl) rfl (fun K hK => ?_)
      go_simp
      refine (himpl _ v2 P2.at).mono ?_
      rintro e u4 ⟨⟨v5, rfl, S5⟩, hb4⟩
      have R3 := S5.r
      obtain ⟨la3, ln3, lc3, sa3, sn3, sc3, oa3, on3, oc3, rfl⟩ := R3.at.l.cells
      clear P2 S5
      have hU4 := chain hU3 hb4
      have hz4 := hb4.size
      replace AB := AB.below hb4
      have habc : Hid (ab < u3.heap.size) := hab.out
      replace hab : Hid (ab < u4.heap.size) := by have := hab.out; show _ < _; omega
      dsimp only
      refine hK.out _ _ (hSB u4 hU4) (fun hHeld => ?_)
      clear hK K
      try simp only [Act.put, List.setIfInBounds_toArray, List.set_cons_zero, List.set_cons_succ]
      refine takeC (i := 5) (v := ?vq33050) rfl (by kernel_rfl) (by kernel_rfl) (by kernel_rfl) (Or.inl ⟨by rfl, ?hyq33050⟩) (by assumption) ?restq33050
      case hyq33050 => (intro u hu; (try dsimp only at hu); go_simp <;> with_reducible rfl)
      try simp only [Act.put, List.setIfInBounds_toArray, List.set_cons_zero, List.set_cons_succ]
      refine takeC (i := 6) (v := ?vq33051) rfl (by kernel_rfl) (by kernel_rfl) (by kernel_rfl) (Or.inl ⟨by rfl, ?hyq33051⟩) (by assumption) ?restq33051
      case hyq33051 => (intro u hu; (try dsimp only at hu); go_simp <;> with_reducible rfl)
      try simp only [Act.put, List.setIfInBounds_toArray, List.set_cons_zero, List.set_cons_succ]
      refine takeC (i := 7) (v := ?vq33052) rfl (by kernel_rfl) (by kernel_rfl) (by kernel_rfl) (Or.inl ⟨by rfl, ?hyq33052⟩) (by assumption) ?restq33052
      case hyq33052 => (intro u hu; (try dsimp only at hu); go_simp <;> with_reducible rfl)
      try simp only [Act.put, List.setIfInBounds_toArray, List.set_cons_zero, List.set_cons_succ]
      obtain ⟨⟨t0, t1, t2⟩, s0, s1, s2⟩ := blk_three AB
      refine oneL (i := 9) (by kernel_rfl) rfl (fun K hK => ?_)
      go_simp
      obtain ⟨E9, hU9, hg9, hs9⟩ := put3_all (x := .slice la3 ln3 lc3) (y := .slice sa3 sn3 sc3) (z := .slice oa3 on3 oc3) AB hU4 (by have := habl.out; omega)
      have R9 := (R3.ofTy hg9 AB).mono (Nat.zero_le _)
      refine hK.out _ _ (hSB _ hU9) (fun hHeld => ?_)
      clear hK K
      try simp only [Act.put, List.setIfInBounds_toArray, List.set_cons_zero, List.set_cons_succ]
      refine takeC (i := 10) (v := ?vq33053) rfl (by kernel_rfl) (by kernel_rfl) (by kernel_rfl) (Or.inl ⟨by rfl, ?hyq33053⟩) (by assumption) ?restq33053
      case hyq33053 => (intro u hu; (try dsimp only at hu); go_simp <;> with_reducible rfl)
      try simp only [Act.put, List.setIfInBounds_toArray, List.set_cons_zero, List.set_cons_succ]
      refine wpAnyH_done (by kernel_rfl) ?_ _
      refine leaf_of (by simp only [putAll, List.foldl_cons, List.foldl_nil, Act.put, Act.eval, List.setIfInBounds_toArray, List.set_cons_zero, List.set_cons_succ, Array.getD_eq_getD_getElem?, List.getElem?_toArray, List.getElem?_cons_succ, List.getElem?_cons_zero, Option.getD_some]) ?_
      exact ⟨ab, la3, ln3, lc3, sa3, sn3, sc3, oa3, on3, oc3, (by simp only [Act.eval, Array.getD_eq_getD_getElem?, List.getElem?_toArray, List.getElem?_cons_succ, List.getElem?_cons_zero, Option.getD_some]), (by simp only [Act.eval, Array.getD_eq_getD_getElem?, List.getElem?_toArray, List.getElem?_cons_succ, List.getElem?_cons_zero, Option.getD_some]), E9, R9, hU9, by have := habl.out; omega⟩
  clear hSB d0 d1 d2 o0 o1 o2 o3
  rintro x w14 ⟨bb, la14, ln14, lc14, sa14, sn14, sc14, oa14, on14, oc14, e6, e7, H14, R14, hU14, _⟩
  simp only [putAll, List.foldl_cons, List.foldl_nil, e6, e7]
  try simp only [Act.put, List.setIfInBounds_toArray, List.set_cons_zero, List.set_cons_succ]
  clear e6 e7
  have A14 := A12.below hU14
  have G14 := G12.below hU14
  have M14 := M12.below hU14
  have Z14 := chain Z12 hU14
  have hB14 := chain hB12 hU14
  clear C12 O12 A12 G12 M12 Z12 hB12 hU14
  obtain ⟨a0, a1, a2⟩ := A14.three
  obtain ⟨b0, b1, b2⟩ := H14.three
  go_wp2_with fail
  refine (laws_eqDisk _ _ sd sd w14 R14.at.l (R3.below Z14).at.l hls hls).mono ?_
  rintro e w15 ⟨rfl, hB15⟩
  rw [hes]
  have G15 := G14.below hB15
  have M15 := M14.below hB15
  replace hB15 := chain hB14 hB15
  clear A14 G14 M14 Z14 hB14 H14 R14 a0 a1 a2 b0 b1 b2
  obtain ⟨g0, g1, g2⟩ := G15.three
  go_wp2_with fail
  refine (laws_heldDisk _ sd w15 M15 hls).mono ?_
  rintro e w16 ⟨rfl, hB16⟩
  rw [← hKH.out]
  replace hB16 := chain hB15 hB16
  clear G15 M15 hB15 g0 g1 g2
  go_wp2
  go_returns
  exact ⟨rfl, hB16⟩

set_option maxRecDepth 100000 in
theorem open_dop {H : Type} {enc : TypeId × Value → H} {W : World} {r : Reach} {b0 : Nat} {spare : Nat → Bool} {held : Bool} {v : Value} {d : DataW H} {p : List MemPlace}
    (hv : Value.okWide Try.prog W r b0 55 v) (h : DataW.Trod enc Try.prog W 0 spare held 55 v d p) :
    ∃ o : Dp, v = .agg #[.int .i64 o.k, .string o.nm, .string o.tt, .string o.d] ∧ StrD o := by
  obtain ⟨v0, v1, v2, v3, y0, y1, y2, y3, n, rfl, _, _, t0, t1, t2, t3⟩ := open_agg4 Try.underlying55 (by kernel_rfl) (by kernel_rfl) hv h
  obtain ⟨z0, e0, _, _⟩ := DataW.trod_int Try.underlying2 t0
  obtain ⟨z1, e1, _, hz1⟩ := DataW.trod_string Try.underlying9 t1
  obtain ⟨z2, e2, _, hz2⟩ := DataW.trod_string Try.underlying9 t2
  obtain ⟨z3, e3, _, hz3⟩ := DataW.trod_string Try.underlying9 t3
  simp at e0 e1 e2 e3
  subst e0 e1 e2 e3
  unfold maxLen at hz1 hz2 hz3
  exact ⟨⟨z0, z1, z2, z3⟩, rfl, by show z1.size ≤ _; omega, by show z2.size ≤ _; omega, by show z3.size ≤ _; omega⟩

set_option maxRecDepth 100000 in
theorem liftedDo (os : Os) (started : os.Started) (H : Type) (enc : TypeId × Value → H) :
    ReturnsInHanded {} Try.checked os 7 .any (Rows.fnExactDoSpec.pre6 enc Try.prog Try.f7 Rows.fnExactDoRow.domain false) (Rows.fnExactDoSpec.post enc Try.prog Try.f7 false true false false) := by
  refine returnsInHanded_of_change (C := Try.checked) own started (by kernel_rfl) Try.func7
    (ChangeSpec.witness6 (enc := enc) (C := Try.checked) false ⟨#[], #[.agg #[.slice none 0 0, .slice none 0 0, .slice none 0 0], .agg #[.int .i64 0, .string .empty, .string .empty, .string .empty]], []⟩ 8 (by kernel_rfl) (by kernel_rfl) (by kernel_rfl) (by kernel_rfl)) ?_
  intro W base args ds gs before hval0 hW _ _
  have hval : ∀ (j : Nat) t v, Try.f7.params[j]? = some t → args[j]? = some v → Value.okWide Try.prog W .any base t v := hval0
  have hW' := hW
  obtain ⟨p, q, hA0, hV, rfl, _, _⟩ := hW
  have hA : DataW.TrodAll enc Try.prog W 0 (fun _ => true) true Try.f7.params.toList args.toList ds p := hA0
  rw [Try.params7] at hA hval
  obtain ⟨v0, vs0, d0, ds0, p0, q0, hargs, rfl, rfl, h0, r0⟩ := trodAll_cons hA
  obtain ⟨v1, vs1, d1, ds1, p1, q1, rfl, rfl, rfl, h1, r1⟩ := trodAll_cons r0
  obtain ⟨rfl, rfl, rfl⟩ := trodAll_nil r1
  obtain rfl : args = #[v0, v1] := by cases args; simp_all
  obtain ⟨rfl, rfl⟩ := trodVars_none hV
  clear hA0 hval0
  have h1o := h1
  obtain ⟨oo, rfl, hoo⟩ := open_dop (hval 1 55 v1 rfl rfl) h1
  simp only [List.append_nil] at hW'
  have hlt : ∀ x ∈ p0, x.block < W.heap.size := fun x hx => by simpa using hW'.lt x (by simp [hx])
  obtain ⟨q, hP, hb⟩ := open_disk (hval 0 50 v0 rfl rfl) h0
  refine (walkDo v0 q oo W hP hb hoo).mono fun e W' ⟨he, hB⟩ => ?_
  subst he
  have hargs : DataW.Trod enc Try.prog W' 0 (fun b => decide (b < W.heap.size)) true 50 v0 d0 p0 :=
    Below.trod laidOut (by kernel_rfl) (of_decide_eq_true (by kernel_rfl)) h0 hB hlt
  have hlt1 : ∀ x ∈ p1, x.block < W.heap.size := fun x hx => by simpa using hW'.lt x (by simp [hx])
  have hargs1 : DataW.Trod enc Try.prog W' 0 (fun b => decide (b < W.heap.size)) true 55 (.agg #[.int .i64 oo.k, .string oo.nm, .string oo.tt, .string oo.d]) d1 p1 :=
    Below.trod laidOut (by kernel_rfl) (of_decide_eq_true (by kernel_rfl)) h1o hB hlt1
  exact ⟨_, rfl, ⟨_, _, _, [], _, [], hW', trodAll_mk1 (shut_bool Try.underlying4 _), trodAll_cons_mk hargs (trodAll_mk1 hargs1), rfl, hB.frame _, fun h => by cases h⟩⟩

theorem holdsDo : Rows.FnExactDoSaid :=
  OpenClaim.holds_of_wide 7 Try.f7 rfl rfl rfl rfl rfl rfl rfl ⟨rfl, rfl, rfl, rfl, rfl⟩ rfl rfl rfl rfl rfl (by kernel_rfl) Try.func7 (joined_of (by kernel_rfl) (by kernel_rfl) (by kernel_rfl) (by kernel_rfl) rfl rfl rfl (by kernel_rfl))
    (of_decide_eq_true (by kernel_rfl)) (by unfold Func.isWrapper; first | (rw [if_pos (by decide +kernel)]; kernel_rfl) | (rw [if_neg (by decide +kernel)]; exact ⟨rfl, rfl⟩))
    (fun os started H enc _ => liftedDo os started H enc)
end Go.Proofs.Ytpobgjkmcmkkeaa
