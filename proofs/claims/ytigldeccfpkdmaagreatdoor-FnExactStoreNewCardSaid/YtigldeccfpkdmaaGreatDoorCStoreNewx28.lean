/- StoreNew, by the program. New pools, of the program and of the model; the laws' comparisons and marks of pools with nothing in them. -/
import Derived.Test.YtigldeccfpkdmaaGreatDoorCStoreNewx27
import Derived.Test.YtigldeccfpkdmaaGreatDoorProg
import Derived.Test.YtigldeccfpkdmaaGreatDoorCStoreNewx00
import Derived.Test.YtigldeccfpkdmaaGreatDoorCStoreNewx02
import Derived.Test.YtigldeccfpkdmaaGreatDoorCStoreNewx17
namespace Go.Proofs.YtigldeccfpkdmaaGreatDoor
open Go Go.RowKit Go.BigFrame Go.Shelf
theorem blk_two {w : World} {b : Nat} {c0 c1 : Value} {t : TypeId} (h : Blk w b #[c0, c1] t) : (w.cell? ⟨b, 0, none⟩ = some c0 ∧ w.cell? ⟨b, 1, none⟩ = some c1) ∧ w.frozen? ⟨b, 0, none⟩ = false ∧ w.frozen? ⟨b, 1, none⟩ = false := ⟨⟨h.cell 0, h.cell 1⟩, h.frozen 0, h.frozen 1⟩
theorem put2F {w : World} {b : Nat} {c0 c1 : Value} {t : TypeId} (h : Blk w b #[c0, c1] t) (x y : Value) : Blk ((w.setCell ⟨b, 0, none⟩ x).setCell ⟨b, 1, none⟩ y) b #[x, y] t ∧ w.grownBy ((w.setCell ⟨b, 0, none⟩ x).setCell ⟨b, 1, none⟩ y) (some b) := by
  have := (h.set 0 x).set 1 y
  exact ⟨by simpa using this, grown_set (grown_set (World.grownBy.refl _ _) _ _) _ _⟩
set_option maxHeartbeats 4000000 in
set_option maxRecDepth 100000 in
theorem impl_StoreNew (size : Int) (w : World) (ht : TabP w) (hg : 9 ≤ w.heap.size) :
    Calls Tryz.prog 27 #[.int .i64 size] w fun e w' => ((newB size = false ∧ e = .returned (.tuple #[stZ, .bool false])) ∨ (newB size = true ∧ ∃ la ln lc sa sn sc oa on oc, e = .returned (.tuple #[.agg (stC10 (.slice la ln lc) (.slice sa sn sc) (.slice oa on oc) size 1 0), .bool true]) ∧ DiskS (w.heap.size + 1) w' (.agg #[.slice la ln lc, .slice sa sn sc, .slice oa on oc]) (newD (newF size)))) ∧ Below w.heap.size w w' := by
  have C := Blk.new w #[.slice none 0 0, .slice none 0 0, .slice none 0 0, .int .i64 0, .int .i64 0, .slice none 0 0, .slice none 0 0, .slice none 0 0, .slice none 0 0, .int .i64 0] 58
  have hB0 : Below w.heap.size w (w.alloc (.cells #[.slice none 0 0, .slice none 0 0, .slice none 0 0, .int .i64 0, .int .i64 0, .slice none 0 0, .slice none 0 0, .slice none 0 0, .slice none 0 0, .int .i64 0] 58)) := by go_grown
  go_enter Tryz.func27, Tryz.ntmps27
  go_wp2_with fail
  generalize w.alloc (.cells #[.slice none 0 0, .slice none 0 0, .slice none 0 0, .int .i64 0, .int .i64 0, .slice none 0 0, .slice none 0 0, .slice none 0 0, .slice none 0 0, .int .i64 0] 58) = W0 at *
  refine (impl_PoolNew size W0).mono ?_
  rintro e w1 ⟨rfl, hB1⟩
  replace C := C.below hB1
  replace hB1 := chain hB0 hB1
  clear hB0
  have hw1 := C.lt
  cases hn : newB size
  · rw [if_neg (by simp)]
    unfold poolV
    go_upto_region 3 with fail
    have A1 : Below w1.heap.size w1 (w1.alloc (.cells #[.int .i64 0, .int .i64 0, .slice none 0 0, .slice none 0 0, .slice none 0 0, .slice none 0 0] 26)) := by go_grown
    replace C := C.below A1
    replace hB1 := chain hB1 A1
    generalize w1.alloc (.cells #[.int .i64 0, .int .i64 0, .slice none 0 0, .slice none 0 0, .slice none 0 0, .slice none 0 0] 26) = W1 at *
    clear A1 hw1
    obtain ⟨⟨c0, c1, c2, c3, c4, c5, c6, c7, c8, c9⟩, f0, f1, f2, f3, f4, f5, f6, f7, f8, f9⟩ := blk_ten C
    have CH : Hid (Blk W1 w.heap.size #[.slice none 0 0, .slice none 0 0, .slice none 0 0, .int .i64 0, .int .i64 0, .slice none 0 0, .slice none 0 0, .slice none 0 0, .slice none 0 0, .int .i64 0] 58) := C
    clear C
    go_wp2
    have E := blk_put10 CH.out (.slice none 0 0) (.slice none 0 0) (.slice none 0 0) (.int .i64 0) (.int .i64 0) (.slice none 0 0) (.slice none 0 0) (.slice none 0 0) (.slice none 0 0) (.int .i64 0)
    have hB8 := below_grown hB1 (grown_put10 W1 w.heap.size (.slice none 0 0) (.slice none 0 0) (.slice none 0 0) (.int .i64 0) (.int .i64 0) (.slice none 0 0) (.slice none 0 0) (.slice none 0 0) (.slice none 0 0) (.int .i64 0)) (Nat.le_refl _)
    change bodyPost _ _ _ _ _ (put10 W1 w.heap.size (.slice none 0 0) (.slice none 0 0) (.slice none 0 0) (.int .i64 0) (.int .i64 0) (.slice none 0 0) (.slice none 0 0) (.slice none 0 0) (.slice none 0 0) (.int .i64 0))
    generalize put10 W1 w.heap.size (.slice none 0 0) (.slice none 0 0) (.slice none 0 0) (.int .i64 0) (.int .i64 0) (.slice none 0 0) (.slice none 0 0) (.slice none 0 0) (.slice none 0 0) (.int .i64 0) = W8 at *
    refine bodyPost_ret (results_cell_tmpJ rfl _ W8 w.heap.size _ _ _ _ _ rfl E Tryz.underlying58 rfl (by kernel_rfl) rfl) rfl ?_
    exact ⟨.inl ⟨hn, rfl⟩, hB8⟩
  · rw [if_pos rfl]
    unfold poolV
    go_upto_region 4 with fail
    have A1 : Below w1.heap.size w1 (w1.alloc (.cells #[.int .i64 size, .int .i64 1, .slice none 0 0, .slice none 0 0, .slice none 0 0, .slice none 0 0] 26)) := by go_grown
    have P := Blk.new w1 #[.int .i64 size, .int .i64 1, .slice none 0 0, .slice none 0 0, .slice none 0 0, .slice none 0 0] 26
    replace C := C.below A1
    replace hB1 := chain hB1 A1
    generalize w1.alloc (.cells #[.int .i64 size, .int .i64 1, .slice none 0 0, .slice none 0 0, .slice none 0 0, .slice none 0 0] 26) = W1 at *
    clear A1
    have T1 := tab_low ht hB1 hg
    have hgW : 9 ≤ W1.heap.size := by have := hB1.size; omega
    obtain ⟨F, hFe⟩ : ∃ F, Hid (newF size = F) := ⟨_, rfl⟩
    have hF := newF_size hn
    rw [hFe.out] at hF
    have hSB : ∀ u, Below W1.heap.size W1 u → (fun u => u.cell? ⟨w1.heap.size, 0, none⟩ = some (.int .i64 size) ∧ u.cell? ⟨w1.heap.size, 1, none⟩ = some (.int .i64 1) ∧ u.cell? ⟨w1.heap.size, 2, none⟩ = some (.slice none 0 0) ∧ u.cell? ⟨w1.heap.size, 3, none⟩ = some (.slice none 0 0) ∧ u.cell? ⟨w1.heap.size, 4, none⟩ = some (.slice none 0 0) ∧ u.cell? ⟨w1.heap.size, 5, none⟩ = some (.slice none 0 0)) u := fun u hu => (P.below hu).six
    refine region_cut (fun u => u.cell? ⟨w1.heap.size, 0, none⟩ = some (.int .i64 size) ∧ u.cell? ⟨w1.heap.size, 1, none⟩ = some (.int .i64 1) ∧ u.cell? ⟨w1.heap.size, 2, none⟩ = some (.slice none 0 0) ∧ u.cell? ⟨w1.heap.size, 3, none⟩ = some (.slice none 0 0) ∧ u.cell? ⟨w1.heap.size, 4, none⟩ = some (.slice none 0 0) ∧ u.cell? ⟨w1.heap.size, 5, none⟩ = some (.slice none 0 0)) 6 [15, 16, 17, 18, 6] (fun x u => ∃ fb, x 6 = .pointer (some ⟨fb, 0, none⟩) ∧ Blk u fb #[.string s0N, .string F] 123 ∧ Below W1.heap.size W1 u ∧ W1.heap.size ≤ fb) (by kernel_rfl) rfl ?walk4 ?rest4
    case walk4 =>
      have hWd : Below W1.heap.size W1 W1.drew := (Below.refl _ _).drew
      generalize W1.drew = WD at hWd ⊢
      have hS0 := hSB WD hWd
      refine takeC (i := 1) (v := ?vq1) rfl (by kernel_rfl) (by kernel_rfl) (by kernel_rfl) (Or.inl ⟨by rfl, ?hyq1⟩) (by assumption) ?restq1
      case hyq1 => (intro u hu; (try dsimp only at hu); go_simp <;> with_reducible rfl)
      try simp only [Act.put, lsA, lsB, lsC]
      refine twoLJ (i := 0) (j := 4) (by kernel_rfl) rfl rfl (fun K hK => ?_) (fun K hK => ?_)
      · skip
        go_simp
        refine (impl_slotOf0 _ (tab_low T1 hWd hgW)).mono ?_
        rintro e u1 ⟨rfl, hb1⟩
        have hUu1 := chain hWd hb1
        dsimp only
        refine hK.out _ _ (hSB u1 hUu1) (fun hHeld => ?_)
        clear hK K
        try simp only [Act.put, lsA, lsB, lsC]
        refine twoLJ (i := 2) (j := 4) (by kernel_rfl) rfl rfl (fun K hK => ?_) (fun K hK => ?_)
        · skip
          go_simp
          refine (impl_SuperText 1 _ (poolN size) 0 _ (poolN_at 1 _ size) (poolN_dim size) (fun _ => numO_new hn) (tab_low T1 hUu1 hgW) (by have := hUu1.size; omega)).mono ?_
          rintro e u2 ⟨rfl, hb2⟩
          rw [newF_o hn, hFe.out]
          have hUu2 := chain hUu1 hb2
          dsimp only
          refine hK.out _ _ (hSB u2 hUu2) (fun hHeld => ?_)
          clear hK K
          try simp only [Act.put, lsA, lsB, lsC]
          refine takeC (i := 3) (v := ?vq2) rfl (by kernel_rfl) (by kernel_rfl) (by kernel_rfl) (Or.inl ⟨by rfl, ?hyq2⟩) (by assumption) ?restq2
          case hyq2 => (intro u hu; (try dsimp only at hu); go_simp <;> with_reducible rfl)
          try simp only [Act.put, lsA, lsB, lsC]
          refine oneL (i := 4) (by kernel_rfl) rfl (fun K hK => ?_)
          go_simp
          have hbu3 : Below u2.heap.size u2 (u2.alloc (.cells #[.string ⟨#[]⟩, .string ⟨#[]⟩] 123)) := (Below.refl _ _).alloc (Nat.le_refl _) _
          obtain ⟨fb, hfb0⟩ : ∃ fb, fb = u2.heap.size := ⟨_, rfl⟩
          have FB : Blk (u2.alloc (.cells #[.string ⟨#[]⟩, .string ⟨#[]⟩] 123)) fb #[.string ⟨#[]⟩, .string ⟨#[]⟩] 123 := Blk.new' _ _ _ _ hfb0
          have hfl : Hid (W1.heap.size ≤ fb) := by show _ ≤ _; rw [hfb0]; exact hUu2.size
          rw [← hfb0]
          clear hfb0
          have hUu3 := chain hUu2 hbu3
          refine hK.out _ _ (hSB _ hUu3) (fun hHeld => ?_)
          clear hK K
          try simp only [Act.put, lsA, lsB, lsC]
          generalize u2.alloc (.cells #[.string ⟨#[]⟩, .string ⟨#[]⟩] 123) = u3 at *
          obtain ⟨⟨t0, t1⟩, s0, s1⟩ := blk_two FB
          refine oneL (i := 5) (by kernel_rfl) rfl (fun K hK => ?_)
          go_simp
          obtain ⟨F9, hg9⟩ := put2F FB (.string s0N) (.string F)
          have hU9 := below_grown hUu3 hg9 hfl.out
          refine hK.out _ _ (hSB _ hU9) (fun hHeld => ?_)
          clear hK K
          try simp only [Act.put, lsA, lsB, lsC]
          refine wpAnyH_done (by kernel_rfl) ?_ _
          refine leaf_of (by simp only [putAll, List.foldl_cons, List.foldl_nil, Act.put, Act.eval, List.setIfInBounds_toArray, List.set_cons_zero, List.set_cons_succ, Array.getD_eq_getD_getElem?, List.getElem?_toArray, List.getElem?_cons_succ, List.getElem?_cons_zero, Option.getD_some]) ?_
          exact ⟨fb, (by simp only [Act.eval, Array.getD_eq_getD_getElem?, List.getElem?_toArray, List.getElem?_cons_succ, List.getElem?_cons_zero, Option.getD_some]), F9, hU9, hfl.out⟩
        · skip
          go_simp
          have hbu2 : Below u1.heap.size u1 (u1.alloc (.cells #[.string ⟨#[]⟩, .string ⟨#[]⟩] 123)) := (Below.refl _ _).alloc (Nat.le_refl _) _
          obtain ⟨fb, hfb0⟩ : ∃ fb, fb = u1.heap.size := ⟨_, rfl⟩
          have FB : Blk (u1.alloc (.cells #[.string ⟨#[]⟩, .string ⟨#[]⟩] 123)) fb #[.string ⟨#[]⟩, .string ⟨#[]⟩] 123 := Blk.new' _ _ _ _ hfb0
          have hfl : Hid (W1.heap.size ≤ fb) := by show _ ≤ _; rw [hfb0]; exact hUu1.size
          rw [← hfb0]
          clear hfb0
          have hUu2 := chain hUu1 hbu2
          refine hK.out _ _ (hSB _ hUu2) (fun hHeld => ?_)
          clear hK K
          try simp only [Act.put, lsA, lsB, lsC]
          generalize u1.alloc (.cells #[.string ⟨#[]⟩, .string ⟨#[]⟩] 123) = u2 at *
          refine oneL (i := 2) (by kernel_rfl) rfl (fun K hK => ?_)
          go_simp
          refine (impl_SuperText 1 _ (poolN size) 0 _ (poolN_at 1 _ size) (poolN_dim size) (fun _ => numO_new hn) (tab_low T1 hUu2 hgW) (by have := hUu2.size; omega)).mono ?_
          rintro e u3 ⟨rfl, hb3⟩
          rw [newF_o hn, hFe.out]
          have hUu3 := chain hUu2 hb3
          replace FB := FB.below hb3
          dsimp only
          refine hK.out _ _ (hSB u3 hUu3) (fun hHeld => ?_)
          clear hK K
          try simp only [Act.put, lsA, lsB, lsC]
          refine takeC (i := 3) (v := ?vq3) rfl (by kernel_rfl) (by kernel_rfl) (by kernel_rfl) (Or.inl ⟨by rfl, ?hyq3⟩) (by assumption) ?restq3
          case hyq3 => (intro u hu; (try dsimp only at hu); go_simp <;> with_reducible rfl)
          try simp only [Act.put, lsA, lsB, lsC]
          obtain ⟨⟨t0, t1⟩, s0, s1⟩ := blk_two FB
          refine oneL (i := 5) (by kernel_rfl) rfl (fun K hK => ?_)
          go_simp
          obtain ⟨F9, hg9⟩ := put2F FB (.string s0N) (.string F)
          have hU9 := below_grown hUu3 hg9 hfl.out
          refine hK.out _ _ (hSB _ hU9) (fun hHeld => ?_)
          clear hK K
          try simp only [Act.put, lsA, lsB, lsC]
          refine wpAnyH_done (by kernel_rfl) ?_ _
          refine leaf_of (by simp only [putAll, List.foldl_cons, List.foldl_nil, Act.put, Act.eval, List.setIfInBounds_toArray, List.set_cons_zero, List.set_cons_succ, Array.getD_eq_getD_getElem?, List.getElem?_toArray, List.getElem?_cons_succ, List.getElem?_cons_zero, Option.getD_some]) ?_
          exact ⟨fb, (by simp only [Act.eval, Array.getD_eq_getD_getElem?, List.getElem?_toArray, List.getElem?_cons_succ, List.getElem?_cons_zero, Option.getD_some]), F9, hU9, hfl.out⟩
      · skip
        go_simp
        have hbu1 : Below WD.heap.size WD (WD.alloc (.cells #[.string ⟨#[]⟩, .string ⟨#[]⟩] 123)) := (Below.refl _ _).alloc (Nat.le_refl _) _
        obtain ⟨fb, hfb0⟩ : ∃ fb, fb = WD.heap.size := ⟨_, rfl⟩
        have FB : Blk (WD.alloc (.cells #[.string ⟨#[]⟩, .string ⟨#[]⟩] 123)) fb #[.string ⟨#[]⟩, .string ⟨#[]⟩] 123 := Blk.new' _ _ _ _ hfb0
        have hfl : Hid (W1.heap.size ≤ fb) := by show _ ≤ _; rw [hfb0]; exact hWd.size
        rw [← hfb0]
        clear hfb0
        have hUu1 := chain hWd hbu1
        refine hK.out _ _ (hSB _ hUu1) (fun hHeld => ?_)
        clear hK K
        try simp only [Act.put, lsA, lsB, lsC]
        generalize WD.alloc (.cells #[.string ⟨#[]⟩, .string ⟨#[]⟩] 123) = u1 at *
        refine oneL (i := 0) (by kernel_rfl) rfl (fun K hK => ?_)
        go_simp
        refine (impl_slotOf0 _ (tab_low T1 hUu1 hgW)).mono ?_
        rintro e u2 ⟨rfl, hb2⟩
        have hUu2 := chain hUu1 hb2
        replace FB := FB.below hb2
        dsimp only
        refine hK.out _ _ (hSB u2 hUu2) (fun hHeld => ?_)
        clear hK K
        try simp only [Act.put, lsA, lsB, lsC]
        refine oneL (i := 2) (by kernel_rfl) rfl (fun K hK => ?_)
        go_simp
        refine (impl_SuperText 1 _ (poolN size) 0 _ (poolN_at 1 _ size) (poolN_dim size) (fun _ => numO_new hn) (tab_low T1 hUu2 hgW) (by have := hUu2.size; omega)).mono ?_
        rintro e u3 ⟨rfl, hb3⟩
        rw [newF_o hn, hFe.out]
        have hUu3 := chain hUu2 hb3
        replace FB := FB.below hb3
        dsimp only
        refine hK.out _ _ (hSB u3 hUu3) (fun hHeld => ?_)
        clear hK K
        try simp only [Act.put, lsA, lsB, lsC]
        refine takeC (i := 3) (v := ?vq4) rfl (by kernel_rfl) (by kernel_rfl) (by kernel_rfl) (Or.inl ⟨by rfl, ?hyq4⟩) (by assumption) ?restq4
        case hyq4 => (intro u hu; (try dsimp only at hu); go_simp <;> with_reducible rfl)
        try simp only [Act.put, lsA, lsB, lsC]
        obtain ⟨⟨t0, t1⟩, s0, s1⟩ := blk_two FB
        refine oneL (i := 5) (by kernel_rfl) rfl (fun K hK => ?_)
        go_simp
        obtain ⟨F9, hg9⟩ := put2F FB (.string s0N) (.string F)
        have hU9 := below_grown hUu3 hg9 hfl.out
        refine hK.out _ _ (hSB _ hU9) (fun hHeld => ?_)
        clear hK K
        try simp only [Act.put, lsA, lsB, lsC]
        refine wpAnyH_done (by kernel_rfl) ?_ _
        refine leaf_of (by simp only [putAll, List.foldl_cons, List.foldl_nil, Act.put, Act.eval, List.setIfInBounds_toArray, List.set_cons_zero, List.set_cons_succ, Array.getD_eq_getD_getElem?, List.getElem?_toArray, List.getElem?_cons_succ, List.getElem?_cons_zero, Option.getD_some]) ?_
        exact ⟨fb, (by simp only [Act.eval, Array.getD_eq_getD_getElem?, List.getElem?_toArray, List.getElem?_cons_succ, List.getElem?_cons_zero, Option.getD_some]), F9, hU9, hfl.out⟩
    case rest4 =>
      rintro x u ⟨fb, e6, FB, hU, hfl⟩
      simp only [putAll, List.foldl_cons, List.foldl_nil, e6]
      try simp only [Act.put, lsA, lsB, lsC]
      clear e6 hSB
      have hUs := hU.size
      have hfu := FB.lt
      have hw2 := C.lt
      replace C := C.below hU
      replace P := P.below hU
      replace hB1 := chain hB1 hU
      clear hU T1 ht
      go_wp2_with fail
      have hWd : Below u.heap.size u u.drew := (Below.refl _ _).drew
      have hS0 : (fun u => (u.cell? ⟨fb, 0, none⟩ = some (.string s0N) ∧ u.cell? ⟨fb, 1, none⟩ = some (.string F)) ∧ u.cell? ⟨w1.heap.size, 0, none⟩ = some (.int .i64 size) ∧ u.cell? ⟨w1.heap.size, 1, none⟩ = some (.int .i64 1) ∧ u.cell? ⟨w1.heap.size, 2, none⟩ = some (.slice none 0 0) ∧ u.cell? ⟨w1.heap.size, 3, none⟩ = some (.slice none 0 0) ∧ u.cell? ⟨w1.heap.size, 4, none⟩ = some (.slice none 0 0) ∧ u.cell? ⟨w1.heap.size, 5, none⟩ = some (.slice none 0 0)) u.drew := ⟨(blk_two (FB.below hWd)).1, (P.below hWd).six⟩
      refine wp_region_heldH (S := (fun u => (u.cell? ⟨fb, 0, none⟩ = some (.string s0N) ∧ u.cell? ⟨fb, 1, none⟩ = some (.string F)) ∧ u.cell? ⟨w1.heap.size, 0, none⟩ = some (.int .i64 size) ∧ u.cell? ⟨w1.heap.size, 1, none⟩ = some (.int .i64 1) ∧ u.cell? ⟨w1.heap.size, 2, none⟩ = some (.slice none 0 0) ∧ u.cell? ⟨w1.heap.size, 3, none⟩ = some (.slice none 0 0) ∧ u.cell? ⟨w1.heap.size, 4, none⟩ = some (.slice none 0 0) ∧ u.cell? ⟨w1.heap.size, 5, none⟩ = some (.slice none 0 0))) 7 (by kernel_rfl) rfl ?_
      replace C := C.below hWd
      replace P := P.below hWd
      replace FB := FB.below hWd
      replace hB1 := chain hB1 hWd
      have hwz := hWd.size
      clear hWd
      generalize u.drew = u0 at *
      refine takeQ (i := 0) (v := ?vq5) rfl (by kernel_rfl) (fun _ _ _ h => h) (by rfl) ?hq5 (by assumption) ?rq5
      case hq5 => (intro u hu; (try dsimp only at hu); go_simp <;> with_reducible rfl)
      try simp only [Act.put, lsA, lsB, lsC]
      refine takeQ (i := 3) (v := ?vq6) rfl (by kernel_rfl) (fun _ _ _ h => h) (by rfl) ?hq6 (by assumption) ?rq6
      case hq6 => (intro u hu; (try dsimp only at hu); go_simp <;> with_reducible rfl)
      try simp only [Act.put, lsA, lsB, lsC]
      refine oneL (i := 1) (by kernel_rfl) rfl (fun K hK => ?_)
      go_simp
      have hA1 : Below u0.heap.size u0 (u0.alloc (.cells #[.string s0N, .string F] 123)) := (Below.refl _ _).alloc (Nat.le_refl _) _
      have L1 := sl_newFl u0 ⟨s0N, F⟩ 123 _ rfl
      replace C := C.below hA1
      replace P := P.below hA1
      replace FB := FB.below hA1
      replace hB1 := chain hB1 hA1
      have hwz2 := hA1.size
      clear hA1
      change K _ (u0.alloc (.cells #[.string (⟨s0N, F⟩ : Fl).nm, .string (⟨s0N, F⟩ : Fl).d] 123))
      generalize u0.alloc (.cells #[.string (⟨s0N, F⟩ : Fl).nm, .string (⟨s0N, F⟩ : Fl).d] 123) = u1 at *
      refine hK.out _ _ ⟨(blk_two FB).1, P.six⟩ (fun hHeld => ?_)
      clear hK K
      try simp only [Act.put, lsA, lsB, lsC]
      refine oneL (i := 2) (by kernel_rfl) rfl (fun K hK => ?_)
      go_simp
      refine (impl_syncedS _ 1 1 [⟨s0N, F⟩] u1 L1 (by omega) (fun ad e => by cases e; rfl) (fun e => by cases e)).mono ?_
      rintro e u2 ⟨⟨a1, c1, a2, c2, rfl, R1, R2, hap⟩, hb2⟩
      replace C := C.below hb2
      replace P := P.below hb2
      replace FB := FB.below hb2
      replace hB1 := chain hB1 hb2
      clear hb2 L1
      dsimp only
      refine hK.out _ _ ⟨(blk_two FB).1, P.six⟩ (fun hHeld => ?_)
      clear hK K
      try simp only [Act.put, lsA, lsB, lsC]
      refine takeQ (i := 4) (v := ?vq7) rfl (by kernel_rfl) (fun _ _ _ h => h) (by rfl) ?hq7 (by assumption) ?rq7
      case hq7 => (intro u hu; (try dsimp only at hu); go_simp <;> with_reducible rfl)
      try simp only [Act.put, lsA, lsB, lsC]
      obtain ⟨⟨c0, c1', c2', c3, c4, c5, c6, c7, c8, c9⟩, f0, f1, f2, f3, f4, f5, f6, f7, f8, f9⟩ := blk_ten C
      refine oneL (i := 5) (by kernel_rfl) rfl (fun K hK => ?_)
      go_simp
      have E := blk_put10 C (.slice a1 1 c1) (.slice a2 1 c2) (.slice none 0 0) (.int .i64 size) (.int .i64 1) (.slice none 0 0) (.slice none 0 0) (.slice none 0 0) (.slice none 0 0) (.int .i64 0)
      have hg8 := grown_put10 u2 w.heap.size (.slice a1 1 c1) (.slice a2 1 c2) (.slice none 0 0) (.int .i64 size) (.int .i64 1) (.slice none 0 0) (.slice none 0 0) (.slice none 0 0) (.slice none 0 0) (.int .i64 0)
      have hB8 := below_grown hB1 hg8 (Nat.le_refl _)
      have P8 := P.grown hg8 (by omega)
      have F8 := FB.grown hg8 (by omega)
      have R8 := (R1.mono (show w.heap.size + 1 ≤ u1.heap.size by omega)).grown hg8 (fun ad e => by have := (R1.block ad e).1; omega)
      have R9 := (R2.mono (show w.heap.size + 1 ≤ u1.heap.size by omega)).grown hg8 (fun ad e => by have := (R2.block ad e).1; omega)
      change K _ (put10 u2 w.heap.size (.slice a1 1 c1) (.slice a2 1 c2) (.slice none 0 0) (.int .i64 size) (.int .i64 1) (.slice none 0 0) (.slice none 0 0) (.slice none 0 0) (.slice none 0 0) (.int .i64 0))
      generalize put10 u2 w.heap.size (.slice a1 1 c1) (.slice a2 1 c2) (.slice none 0 0) (.int .i64 size) (.int .i64 1) (.slice none 0 0) (.slice none 0 0) (.slice none 0 0) (.slice none 0 0) (.int .i64 0) = W8 at *
      refine hK.out _ _ ⟨(blk_two F8).1, P8.six⟩ (fun hHeld => ?_)
      clear hK K
      try simp only [Act.put, lsA, lsB, lsC]
      clear c0 c1' c2' c3 c4 c5 c6 c7 c8 c9 f0 f1 f2 f3 f4 f5 f6 f7 f8 f9
      refine takeQ (i := 6) (v := ?vq8) rfl (by kernel_rfl) (fun _ _ _ h => h) (by rfl) ?hq8 (by assumption) ?rq8
      case hq8 => (intro u hu; (try dsimp only at hu); go_simp <;> with_reducible rfl)
      try simp only [Act.put, lsA, lsB, lsC]
      refine wpAnyH_done (by kernel_rfl) ?_ _
      go_wp2
      refine bodyPost_ret (results_cell_tmpJ rfl _ W8 w.heap.size _ _ _ _ _ rfl E Tryz.underlying58 rfl (by kernel_rfl) rfl) rfl ?_
      exact ⟨.inr ⟨hn, _, _, _, _, _, _, _, _, _, rfl, by rw [hFe.out]; exact ⟨_, _, _, _, _, _, _, _, _, rfl, R8, R9, res_nil, hap⟩⟩, hB8⟩
end Go.Proofs.YtigldeccfpkdmaaGreatDoor
namespace Go.Proofs.YtigldeccfpkdmaaGreatDoor
open Go.RowKit Go.BigFrame
theorem nil_eqExtentS (w : World) : Calls Tryz.prog 42 #[.slice none 0 0, .slice none 0 0] w fun e w' => e = .returned (.bool true) ∧ w' = w := by
  go_enter Tryz.func42, Tryz.ntmps42
  go_wp2_with fail
  go_rounds 1
  go_returns
  exact ⟨rfl, rfl⟩
theorem nil_eqVolumeS (w : World) : Calls Tryz.prog 43 #[.slice none 0 0, .slice none 0 0] w fun e w' => e = .returned (.bool true) ∧ w' = w := by
  go_enter Tryz.func43, Tryz.ntmps43
  go_wp2_with fail
  go_rounds 1
  go_returns
  exact ⟨rfl, rfl⟩
theorem nil_eqCountedS (w : World) : Calls Tryz.prog 44 #[.slice none 0 0, .slice none 0 0] w fun e w' => e = .returned (.bool true) ∧ w' = w := by
  go_enter Tryz.func44, Tryz.ntmps44
  go_wp2_with fail
  go_rounds 1
  go_returns
  exact ⟨rfl, rfl⟩
theorem nil_markExtentS (k : Int) (w : World) : Calls Tryz.prog 45 #[.slice none 0 0, .int .i64 k] w fun e w' => e = .returned (.int .i64 k) ∧ w' = w := by
  go_enter Tryz.func45, Tryz.ntmps45
  go_wp2_with fail
  go_rounds 1
  go_returns
  exact ⟨rfl, rfl⟩
theorem nil_markVolumeS (k : Int) (w : World) : Calls Tryz.prog 46 #[.slice none 0 0, .int .i64 k] w fun e w' => e = .returned (.int .i64 k) ∧ w' = w := by
  go_enter Tryz.func46, Tryz.ntmps46
  go_wp2_with fail
  go_rounds 1
  go_returns
  exact ⟨rfl, rfl⟩
theorem nil_markCountedS (k : Int) (w : World) : Calls Tryz.prog 47 #[.slice none 0 0, .int .i64 k] w fun e w' => e = .returned (.int .i64 k) ∧ w' = w := by
  go_enter Tryz.func47, Tryz.ntmps47
  go_wp2_with fail
  go_rounds 1
  go_returns
  exact ⟨rfl, rfl⟩
theorem nil_heldExtentS (k : Int) (w : World) : Calls Tryz.prog 48 #[.slice none 0 0, .int .i64 k] w fun e w' => e = .returned (.int .i64 k) ∧ w' = w := by
  go_enter Tryz.func48, Tryz.ntmps48
  go_wp2_with fail
  go_rounds 1
  go_returns
  exact ⟨rfl, rfl⟩
theorem nil_heldVolumeS (k : Int) (w : World) : Calls Tryz.prog 49 #[.slice none 0 0, .int .i64 k] w fun e w' => e = .returned (.int .i64 k) ∧ w' = w := by
  go_enter Tryz.func49, Tryz.ntmps49
  go_wp2_with fail
  go_rounds 1
  go_returns
  exact ⟨rfl, rfl⟩
theorem nil_heldCountedS (k : Int) (w : World) : Calls Tryz.prog 50 #[.slice none 0 0, .int .i64 k] w fun e w' => e = .returned (.int .i64 k) ∧ w' = w := by
  go_enter Tryz.func50, Tryz.ntmps50
  go_wp2_with fail
  go_rounds 1
  go_returns
  exact ⟨rfl, rfl⟩
theorem eqPool_new (s n : Int) (w : World) : Calls Tryz.prog 11 #[poolV s n, poolV s n] w fun e w' => e = .returned (.bool true) ∧ Below w.heap.size w w' := by
  have e1 : (s != s) = false := by simp
  have e2 : (n != n) = false := by simp
  unfold poolV
  go_enter Tryz.func11, Tryz.ntmps11
  go_wp2_with (first | (go_at_call 42; refine (nil_eqExtentS _).mono ?_; rintro e w1 ⟨rfl, rfl⟩) | (go_at_call 43; refine (nil_eqVolumeS _).mono ?_; rintro e w1 ⟨rfl, rfl⟩) | (go_at_call 44; refine (nil_eqCountedS _).mono ?_; rintro e w1 ⟨rfl, rfl⟩))
  go_returns
  go_light
  exact ⟨rfl, by go_grown⟩
end Go.Proofs.YtigldeccfpkdmaaGreatDoor
