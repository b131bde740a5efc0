/- The text of a pool, by the program. The text of any pool, by the program. -/
import Derived.Test.YtigldeccfpkdmaaGreatDoorCReadSuperx13
import Derived.Test.YtigldeccfpkdmaaGreatDoorCReadSuperx27
namespace Go.Proofs.YtigldeccfpkdmaaGreatDoor
open Go Go.RowKit Go.BigFrame Go.Shelf
theorem wr_new (w : World) : Wr w.heap.size w.heap.size [] (w.alloc (.cells #[.pointer none, .slice none 0 0] 182)) := ⟨.inl ⟨Nat.le_refl _, .slice none 0 0, Blk.new w _ _, ⟨rfl, .inl ⟨rfl, rfl⟩⟩, by simp [Value.ownBlock]⟩⟩
set_option maxHeartbeats 4000000 in
set_option maxRecDepth 100000 in
theorem impl_PoolText_right (B0 : Nat) (v : Value) (p : Po) (w : World) (h : PoolAt B0 w v p) (hd : DimP p) (hp : poolB p = true) (hN : NumO p) (ht : TabP w) (hg : 9 ≤ w.heap.size) :
    Calls Tryz.prog 60 #[v] w fun e w' => e = .returned (.string ⟨(textW p).toArray⟩) ∧ Below w.heap.size w w' := by
  have hPA := h
  obtain ⟨ea, en, ec, va, vn, vc, ra, rn, rc, la, ln, lc, rfl, ⟨h1, k1⟩, ⟨h2, k2⟩, ⟨h3, k3⟩, h4, k4⟩ := h
  obtain ⟨R, hR⟩ : ∃ R, Hid (textW p = R) := ⟨_, rfl⟩
  have hlenT := hN.len
  rw [hR.out] at hlenT
  rw [hR.out]
  obtain ⟨ds, hds⟩ : ∃ x, decB p.size = x := ⟨_, rfl⟩
  obtain ⟨dn, hdn⟩ : ∃ x, decB p.next = x := ⟨_, rfl⟩
  obtain ⟨L1, hL1⟩ : ∃ x, Hid (lineL [⟨#[112, 111, 111, 108]⟩, ds, dn] = x) := ⟨_, rfl⟩
  obtain ⟨L2, hL2⟩ : ∃ x, Hid (L1 ++ exsW p.ex = x) := ⟨_, rfl⟩
  obtain ⟨L3, hL3⟩ : ∃ x, Hid (L2 ++ volsW p.vs = x) := ⟨_, rfl⟩
  obtain ⟨L4, hL4⟩ : ∃ x, Hid (L3 ++ ctsW refW p.rf = x) := ⟨_, rfl⟩
  have hL5 : Hid (L4 ++ ctsW lateW p.lt = R) := by show _ = _; rw [← hR.out, ← hL4.out, ← hL3.out, ← hL2.out, ← hL1.out, ← hds, ← hdn]; rfl
  have l5 : Hid ((L4 ++ ctsW lateW p.lt).length ≤ 1000000) := by show _ ≤ _; rw [hL5.out]; exact hlenT
  have l4 : Hid ((L3 ++ ctsW refW p.rf).length ≤ 1000000) := by have := l5.out; rw [List.length_append] at this; show _ ≤ _; rw [hL4.out]; omega
  have l3 : Hid ((L2 ++ volsW p.vs).length ≤ 1000000) := by have := l4.out; rw [List.length_append] at this; show _ ≤ _; rw [hL3.out]; omega
  have l2 : Hid ((L1 ++ exsW p.ex).length ≤ 1000000) := by have := l3.out; rw [List.length_append] at this; show _ ≤ _; rw [hL2.out]; omega
  have l1 : ([] : List UInt8).length + (lineL [⟨#[112, 111, 111, 108]⟩, ds, dn]).length ≤ 1000000 := by have := l2.out; rw [List.length_append, ← hL1.out] at this; simp; omega
  have hR0 : R ≠ [] := by
    rw [← hL5.out, ← hL4.out, ← hL3.out, ← hL2.out, ← hL1.out]
    unfold lineL
    simp
  have hlx : Hid (p.ex.length = en) := h1.len
  have hlv : Hid (p.vs.length = vn) := h2.len
  have hlr : Hid (p.rf.length = rn) := h3.len
  have hll : Hid (p.lt.length = ln) := h4.len
  have hn1 : en ≤ 4194304 := by rw [← h1.len]; exact hd.1
  have hn2 : vn ≤ 4194304 := by rw [← h2.len]; exact hd.2.2.1
  have hn3 : rn ≤ 4194304 := by rw [← h3.len]; exact hd.2.2.2.2.1
  have hn4 : ln ≤ 4194304 := by rw [← h4.len]; exact hd.2.2.2.2.2.2.1
  obtain ⟨sz1, sz2⟩ := hN.size
  obtain ⟨nx1, nx2⟩ := hN.next
  go_enter Tryz.func60, Tryz.ntmps60
  go_wp2_with fail
  refine (impl_PoolOk B0 _ p _ (hPA.below (by go_grown)) hd).mono ?_
  rintro e w1 ⟨rfl, hB1⟩
  have C : Blk w1 w.heap.size #[.int .i64 p.size, .int .i64 p.next, .slice ea en ec, .slice va vn vc, .slice ra rn rc, .slice la ln lc] 26 := (Blk.new w _ _).below hB1
  have hBw1 : Below w.heap.size w w1 := chain (by go_grown) hB1
  have hs1 : w.heap.size + 1 ≤ w1.heap.size := by have := hB1.size; simp at this; omega
  clear hB1
  rw [hp]
  go_wp2_with fail
  have hA : Below w1.heap.size w1 (w1.alloc (.cells #[.pointer none, .slice none 0 0] 182)) := (Below.refl _ _).alloc (Nat.le_refl _) _
  have hW := wr_new w1
  replace h1 := h1.below hBw1
  replace h2 := h2.below hBw1
  replace h3 := h3.below hBw1
  replace h4 := h4.below hBw1
  have ht1 := tab_low ht hBw1 hg
  have hg1 : 9 ≤ w1.heap.size := by omega
  clear k1 k2 k3 k4 hPA hR hlenT ht
  generalize w1.alloc (.cells #[.pointer none, .slice none 0 0] 182) = W at *
  have hSB : ∀ u : World, Below w1.heap.size w1 u → u.cell? ⟨w.heap.size, 0, none⟩ = some (.int .i64 p.size) ∧ u.cell? ⟨w.heap.size, 1, none⟩ = some (.int .i64 p.next) := fun u hu => ⟨(C.below hu).cell 0, (C.below hu).cell 1⟩
  have hAd : Below w1.heap.size w1 W.drew := hA.drew
  have hS0 : (fun u : World => u.cell? ⟨w.heap.size, 0, none⟩ = some (.int .i64 p.size) ∧ u.cell? ⟨w.heap.size, 1, none⟩ = some (.int .i64 p.next)) W.drew := (hSB _ hAd)
  refine wp_region_heldX (S := (fun u : World => u.cell? ⟨w.heap.size, 0, none⟩ = some (.int .i64 p.size) ∧ u.cell? ⟨w.heap.size, 1, none⟩ = some (.int .i64 p.next))) 8 (by kernel_rfl) rfl ?_
  refine takeL (i := 0) (v := ?vt101) rfl (by kernel_rfl) (by kernel_rfl) (by kernel_rfl) (fun _ _ _ h => h) (Or.inl ⟨by rfl, ?hyt101⟩) (by assumption) ?restt101
  case hyt101 => (intro u hu; obtain ⟨u0, u1⟩ := hu; go_simp <;> with_reducible rfl)
  try simp only [Act.put, lsA, lsB, lsC]
  refine takeL (i := 1) (v := ?vt102) rfl (by kernel_rfl) (by kernel_rfl) (by kernel_rfl) (fun _ _ _ h => h) (Or.inl ⟨by rfl, ?hyt102⟩) (by assumption) ?restt102
  case hyt102 => (intro u hu; obtain ⟨u0, u1⟩ := hu; go_simp <;> with_reducible rfl)
  try simp only [Act.put, lsA, lsB, lsC]
  refine takeL (i := 3) (v := ?vt103) rfl (by kernel_rfl) (by kernel_rfl) (by kernel_rfl) (fun _ _ _ h => h) (Or.inl ⟨by rfl, ?hyt103⟩) (by assumption) ?restt103
  case hyt103 => (intro u hu; obtain ⟨u0, u1⟩ := hu; go_simp <;> with_reducible rfl)
  try simp only [Act.put, lsA, lsB, lsC]
  refine takeL (i := 4) (v := ?vt104) rfl (by kernel_rfl) (by kernel_rfl) (by kernel_rfl) (fun _ _ _ h => h) (Or.inl ⟨by rfl, ?hyt104⟩) (by assumption) ?restt104
  case hyt104 => (intro u hu; obtain ⟨u0, u1⟩ := hu; go_simp <;> with_reducible rfl)
  try simp only [Act.put, lsA, lsB, lsC]
  refine oneL (i := 2) (by kernel_rfl) rfl (fun K hK => ?_)
  go_simp
  refine (impl_decimal p.size W.drew (by omega) (by omega) (tab_low ht1 hAd hg1)).mono ?_
  rintro e w2 ⟨rfl, hB2'⟩
  rw [hds]
  have hB2 : Below W.heap.size W w2 := chain (Below.refl _ W).drew hB2'
  have hC2 := chain hA hB2
  dsimp only
  refine hK.out _ _ (hSB _ hC2) (fun hHeld => ?_)
  clear hK K
  try simp only [Act.put, lsA, lsB, lsC]
  refine oneL (i := 5) (by kernel_rfl) rfl (fun K hK => ?_)
  go_simp
  refine (impl_decimal p.next w2 (by omega) (by omega) (tab_low ht1 hC2 hg1)).mono ?_
  rintro e w3 ⟨rfl, hB3'⟩
  rw [hdn]
  have hB3 := chain hB2 hB3'
  have hC3 := chain hA hB3
  dsimp only
  refine hK.out _ _ (hSB _ hC3) (fun hHeld => ?_)
  clear hK K
  try simp only [Act.put, lsA, lsB, lsC]
  refine oneL (i := 6) (by kernel_rfl) rfl (fun K hK => ?_)
  go_simp
  have hA4 : Below w3.heap.size w3 (w3.alloc (.cells #[.string ⟨#[112, 111, 111, 108]⟩, .string ds, .string dn] 9)) := (Below.refl _ _).alloc (Nat.le_refl _) _
  have X4 := Blk.new w3 #[.string ⟨#[112, 111, 111, 108]⟩, .string ds, .string dn] 9
  have hB4 := chain hB3 hA4
  have hC4 := chain hA hB4
  have hz4 := hC4.size
  have hz3 := X4.lt
  refine hK.out _ _ (hSB _ hC4) (fun hHeld => ?_)
  clear hK K
  try simp only [Act.put, lsA, lsB, lsC]
  generalize w3.alloc (.cells #[.string ⟨#[112, 111, 111, 108]⟩, .string ds, .string dn] 9) = w4 at *
  refine oneL (i := 7) (by kernel_rfl) rfl (fun K hK => ?_)
  go_simp
  refine (impl_line w1.heap.size w1.heap.size [] [⟨#[112, 111, 111, 108]⟩, ds, dn] w3.heap.size 0 3 w4 (hW.below hB4) (sl5 (ps := [⟨#[112, 111, 111, 108]⟩, ds, dn]) X4) hz3 (by simp) l1 (by simp) (by omega)).mono ?_
  rintro e w5 ⟨rfl, h5, hB5, _⟩
  rw [List.nil_append, hL1.out] at h5
  have hC5 := hC4.trans hB5
  dsimp only
  refine hK.out _ _ (hSB _ hC5) (fun hHeld => ?_)
  clear hK K
  try simp only [Act.put, lsA, lsB, lsC]
  refine wpAnyH_done (by kernel_rfl) ?_ _
  clear hS0 hHeld hSB X4 hB4 hC4 hA4 hB2 hB2' hB3 hB3' hB5 l1 hz3 hz4 hC2 hC3 hAd hA hW
  have y2 : w5.cell? ⟨w.heap.size, 2, none⟩ = some (.slice ea en ec) := (C.below hC5).cell 2
  go_wp2_with fail
  go_loopw [26] (fun ix wr => ∃ (k : Nat), k ≤ en ∧ ix = .int .i64 k ∧ Wr w1.heap.size w1.heap.size (L1 ++ exsW (p.ex.take k)) wr ∧ Below w1.heap.size w1 wr) (fun ix _ => en - (intOf ix).toNat)
  case atStart => exact ⟨0, Nat.zero_le _, rfl, by simpa [exsW] using h5, hC5⟩
  case round =>
    clear h5 hC5 y2
    obtain ⟨k, hk, rfl, h6, hB6⟩ := hrel
    by_cases hlt : k < en
    · obtain ⟨eb, eo, x, rfl, hx, c0, c1⟩ := exs_at h1 hlt
      obtain ⟨na1, na2⟩ := hN.ex x (List.mem_of_getElem? hx)
      have hst : Hid (exsW (p.ex.take (k + 1)) = exsW (p.ex.take k) ++ lineL (exW x)) := flat_step hx
      have hlp := flat_len1 (f := fun e => lineL (exW e)) hx l2.out
      obtain ⟨Q0, hQ0⟩ : ∃ P, Hid (L1 ++ exsW (p.ex.take k) = P) := ⟨_, rfl⟩
      change (L1 ++ exsW (p.ex.take k) ++ lineL (exW x)).length ≤ 1000000 at hlp
      rw [hQ0.out] at h6 hlp
      rw [List.length_append] at hlp
      obtain ⟨da, hda⟩ : ∃ z, decB x.a = z := ⟨_, rfl⟩
      have hpt : Hid (exW x = [⟨#[101, 120, 116, 101, 110, 116]⟩, da, x.d]) := by show _ = _; unfold exW; rw [hda]
      rw [hpt.out] at hlp
      have g0 := bcell hB6 c0
      have g1 := bcell hB6 c1
      have hk1 : (k : Int) < en := by omega
      have hk2 : (0 : Int) ≤ k := by omega
      have hz6 := hB6.size
      have hbl6 := h6.lt
      clear hx c0 c1
      go_wp2_with fail
      have hA : Below wr.heap.size wr (wr.alloc (.cells #[.int .i64 x.a, .string x.d] 136)) := (Below.refl _ _).alloc (Nat.le_refl _) _
      have PB := Blk.new wr #[.int .i64 x.a, .string x.d] 136
      clear g0 g1
      generalize wr.alloc (.cells #[.int .i64 x.a, .string x.d] 136) = V at *
      have hSB : ∀ u : World, Below V.heap.size V u → u.cell? ⟨wr.heap.size, 0, none⟩ = some (.int .i64 x.a) ∧ u.cell? ⟨wr.heap.size, 1, none⟩ = some (.string x.d) := fun u hu => ⟨(PB.below hu).cell 0, (PB.below hu).cell 1⟩
      have hS0 : (fun u : World => u.cell? ⟨wr.heap.size, 0, none⟩ = some (.int .i64 x.a) ∧ u.cell? ⟨wr.heap.size, 1, none⟩ = some (.string x.d)) V.drew := (hSB _ (Below.refl _ V).drew)
      refine wp_region_heldX (S := (fun u : World => u.cell? ⟨wr.heap.size, 0, none⟩ = some (.int .i64 x.a) ∧ u.cell? ⟨wr.heap.size, 1, none⟩ = some (.string x.d))) 7 (by kernel_rfl) rfl ?_
      refine takeL (i := 0) (v := ?vt105) rfl (by kernel_rfl) (by kernel_rfl) (by kernel_rfl) (fun _ _ _ h => h) (Or.inl ⟨by rfl, ?hyt105⟩) (by assumption) ?restt105
      case hyt105 => (intro u hu; obtain ⟨u0, u1⟩ := hu; go_simp <;> with_reducible rfl)
      try simp only [Act.put, lsA, lsB, lsC]
      refine takeL (i := 1) (v := ?vt106) rfl (by kernel_rfl) (by kernel_rfl) (by kernel_rfl) (fun _ _ _ h => h) (Or.inl ⟨by rfl, ?hyt106⟩) (by assumption) ?restt106
      case hyt106 => (intro u hu; obtain ⟨u0, u1⟩ := hu; go_simp <;> with_reducible rfl)
      try simp only [Act.put, lsA, lsB, lsC]
      refine takeL (i := 3) (v := ?vt107) rfl (by kernel_rfl) (by kernel_rfl) (by kernel_rfl) (fun _ _ _ h => h) (Or.inl ⟨by rfl, ?hyt107⟩) (by assumption) ?restt107
      case hyt107 => (intro u hu; obtain ⟨u0, u1⟩ := hu; go_simp <;> with_reducible rfl)
      try simp only [Act.put, lsA, lsB, lsC]
      refine takeL (i := 4) (v := ?vt108) rfl (by kernel_rfl) (by kernel_rfl) (by kernel_rfl) (fun _ _ _ h => h) (Or.inl ⟨by rfl, ?hyt108⟩) (by assumption) ?restt108
      case hyt108 => (intro u hu; obtain ⟨u0, u1⟩ := hu; go_simp <;> with_reducible rfl)
      try simp only [Act.put, lsA, lsB, lsC]
      refine oneL (i := 2) (by kernel_rfl) rfl (fun K hK => ?_)
      go_simp
      refine (impl_decimal x.a V.drew (by omega) (by omega) (tab_low ht1 (hB6.trans (hA.drew.mono hz6)) hg1)).mono ?_
      rintro e w2 ⟨rfl, hB2'⟩
      rw [hda]
      have hB2 : Below V.heap.size V w2 := chain (Below.refl _ V).drew hB2'
      dsimp only
      refine hK.out _ _ (hSB _ hB2) (fun hHeld => ?_)
      clear hK K
      try simp only [Act.put, lsA, lsB, lsC]
      refine oneL (i := 5) (by kernel_rfl) rfl (fun K hK => ?_)
      go_simp
      have hA4 : Below w2.heap.size w2 (w2.alloc (.cells #[.string ⟨#[101, 120, 116, 101, 110, 116]⟩, .string da, .string x.d] 9)) := (Below.refl _ _).alloc (Nat.le_refl _) _
      have X4 := Blk.new w2 #[.string ⟨#[101, 120, 116, 101, 110, 116]⟩, .string da, .string x.d] 9
      have hB4 := chain hB2 hA4
      have hC4 := chain hA hB4
      have hz4 := hC4.size
      have hz3 := X4.lt
      refine hK.out _ _ (hSB _ hB4) (fun hHeld => ?_)
      clear hK K
      try simp only [Act.put, lsA, lsB, lsC]
      generalize w2.alloc (.cells #[.string ⟨#[101, 120, 116, 101, 110, 116]⟩, .string da, .string x.d] 9) = w4 at *
      refine oneL (i := 6) (by kernel_rfl) rfl (fun K hK => ?_)
      go_simp
      refine (impl_line w1.heap.size w1.heap.size Q0 [⟨#[101, 120, 116, 101, 110, 116]⟩, da, x.d] w2.heap.size 0 3 w4 (h6.below hC4) (sl5 (ps := [⟨#[101, 120, 116, 101, 110, 116]⟩, da, x.d]) X4) hz3 (by simp) hlp (by simp) (by omega)).mono ?_
      rintro e w9 ⟨rfl, h9, hB9, hk9⟩
      have P9 := (PB.below hB4).ok hk9 (by omega) (by decide)
      dsimp only
      refine hK.out _ _ ⟨P9.cell 0, P9.cell 1⟩ (fun hHeld => ?_)
      clear hK K
      try simp only [Act.put, lsA, lsB, lsC]
      refine wpAnyH_done (by kernel_rfl) ?_ _
      have hBw9 : Below w1.heap.size w1 w9 := hB6.trans ((hC4.mono hz6).trans hB9)
      have h9' : Wr w1.heap.size w1.heap.size (L1 ++ exsW (p.ex.take (k + 1))) w9 := by rw [hst.out, ← List.append_assoc, hQ0.out, hpt.out]; exact h9
      clear hS0 hHeld hSB X4 hB4 hC4 hA4 hB2 hB2' hB9 hk9 P9 PB hA
      go_wp2
      go_roundw
      case rel => exact ⟨k + 1, by omega, by go_num, h9', hBw9⟩
      case measure => simp [intOf]; omega
    · obtain rfl : k = en := by omega
      rw [List.take_of_length_le (Nat.le_of_eq hlx.out), hL2.out] at h6
      obtain ⟨wa, hwa⟩ : ∃ y, y = wr := ⟨_, rfl⟩
      subst hwa
      have y3 : wa.cell? ⟨w.heap.size, 3, none⟩ = some (.slice va vn vc) := (C.below hB6).cell 3
      go_wp2_with fail
      go_loopw [41] (fun ix wr => ∃ (k : Nat), k ≤ vn ∧ ix = .int .i64 k ∧ Wr w1.heap.size w1.heap.size (L2 ++ volsW (p.vs.take k)) wr ∧ Below w1.heap.size w1 wr) (fun ix _ => vn - (intOf ix).toNat)
      case atStart => exact ⟨0, Nat.zero_le _, rfl, by simpa [volsW] using h6, hB6⟩
      case round =>
        clear h6 hB6 y3
        obtain ⟨k, hk, rfl, h6, hB6⟩ := hrel
        by_cases hlt : k < vn
        · obtain ⟨vb, vo, x, pa, pn, pc, rfl, hx, c0, c1, c2, c3, hP, _, _⟩ := vs_at h2 hlt
          obtain ⟨m1, m2, m3, m4⟩ := hN.vs x (List.mem_of_getElem? hx)
          rw [hP.len] at m3
          have hst : Hid (volsW (p.vs.take (k + 1)) = volsW (p.vs.take k) ++ volW x) := flat_step hx
          have hlp := flat_len1 (f := volW) hx l3.out
          obtain ⟨Q0, hQ0⟩ : ∃ P, Hid (L2 ++ volsW (p.vs.take k) = P) := ⟨_, rfl⟩
          change (L2 ++ volsW (p.vs.take k) ++ volW x).length ≤ 1000000 at hlp
          rw [hQ0.out] at h6 hlp
          have g0 := bcell hB6 c0
          have g1 := bcell hB6 c1
          have g2 := bcell hB6 c2
          have g3 := bcell hB6 c3
          have hk1 : (k : Int) < vn := by omega
          have hk2 : (0 : Int) ≤ k := by omega
          have hz6 := hB6.size
          clear hx c0 c1 c2 c3
          go_wp2_with fail
          have hA : Below wr.heap.size wr (wr.alloc (.cells #[.int .i64 x.id, .string x.nm, .bool x.fx, .slice pa pn pc] 128)) := (Below.refl _ _).alloc (Nat.le_refl _) _
          have hzA := hA.size
          clear g0 g1 g2 g3
          generalize wr.alloc (.cells #[.int .i64 x.id, .string x.nm, .bool x.fx, .slice pa pn pc] 128) = V at *
          have hBV : Below w1.heap.size w1 V := hB6.trans (hA.mono hz6)
          refine (impl_volume w1.heap.size w1.heap.size Q0 x B0 pa pn pc w1 V hP hBV (Nat.le_refl _) (h6.below hA) (tab_low ht1 hBV hg1) hg1 (by omega) m1 m2 m3 m4 hlp).mono ?_
          rintro e w9 ⟨rfl, h9, hB9, _⟩
          have hBw9 := hBV.trans hB9
          have h9' : Wr w1.heap.size w1.heap.size (L2 ++ volsW (p.vs.take (k + 1))) w9 := by rw [hst.out, ← List.append_assoc, hQ0.out]; exact h9
          clear hB9 hBV hA
          go_wp2
          go_roundw
          case rel => exact ⟨k + 1, by omega, by go_num, h9', hBw9⟩
          case measure => simp [intOf]; omega
        · obtain rfl : k = vn := by omega
          rw [List.take_of_length_le (Nat.le_of_eq hlv.out), hL3.out] at h6
          obtain ⟨wb, hwb⟩ : ∃ y, y = wr := ⟨_, rfl⟩
          subst hwb
          have y4 : wb.cell? ⟨w.heap.size, 4, none⟩ = some (.slice ra rn rc) := (C.below hB6).cell 4
          go_wp2_with fail
          go_loopw [51] (fun ix wr => ∃ (k : Nat), k ≤ rn ∧ ix = .int .i64 k ∧ Wr w1.heap.size w1.heap.size (L3 ++ ctsW refW (p.rf.take k)) wr ∧ Below w1.heap.size w1 wr) (fun ix _ => rn - (intOf ix).toNat)
          case atStart => exact ⟨0, Nat.zero_le _, rfl, by simpa [ctsW] using h6, hB6⟩
          case round =>
            clear h6 hB6 y4
            obtain ⟨k, hk, rfl, h6, hB6⟩ := hrel
            by_cases hlt : k < rn
            · obtain ⟨cb, co, x, rfl, hx, c0, c1, c2, c3⟩ := cts_at h3 hlt
              obtain ⟨m1, m2, m3⟩ := hN.rf x (List.mem_of_getElem? hx)
              have hst : Hid (ctsW refW (p.rf.take (k + 1)) = ctsW refW (p.rf.take k) ++ lineL (ctL refW x)) := flat_step hx
              have hlp := flat_len1 (f := fun c => lineL (ctL refW c)) hx l4.out
              obtain ⟨Q0, hQ0⟩ : ∃ P, Hid (L3 ++ ctsW refW (p.rf.take k) = P) := ⟨_, rfl⟩
              change (L3 ++ ctsW refW (p.rf.take k) ++ lineL (ctL refW x)).length ≤ 1000000 at hlp
              rw [hQ0.out] at h6 hlp
              rw [List.length_append] at hlp
              have g0 := bcell hB6 c0
              have g1 := bcell hB6 c1
              have g2 := bcell hB6 c2
              have g3 := bcell hB6 c3
              have hk1 : (k : Int) < rn := by omega
              have hk2 : (0 : Int) ≤ k := by omega
              have hz6 := hB6.size
              clear hx c0 c1 c2 c3
              go_wp2_with fail
              have hA : Below wr.heap.size wr (wr.alloc (.cells #[.int .i64 x.o.a, .int .i64 x.o.v, .string x.o.f, .int .i64 x.n] 134)) := (Below.refl _ _).alloc (Nat.le_refl _) _
              have hzA := hA.size
              clear g0 g1 g2 g3
              generalize wr.alloc (.cells #[.int .i64 x.o.a, .int .i64 x.o.v, .string x.o.f, .int .i64 x.n] 134) = V at *
              have hBV : Below w1.heap.size w1 V := hB6.trans (hA.mono hz6)
              refine (impl_counted w1.heap.size w1.heap.size Q0 refW x V (h6.below hA) (tab_low ht1 hBV hg1) hg1 (by omega) m1 m2 m3 hlp).mono ?_
              rintro e w9 ⟨rfl, h9, hB9, _⟩
              have hBw9 := hBV.trans hB9
              have h9' : Wr w1.heap.size w1.heap.size (L3 ++ ctsW refW (p.rf.take (k + 1))) w9 := by rw [hst.out, ← List.append_assoc, hQ0.out]; exact h9
              clear hB9 hBV hA
              go_wp2
              go_roundw
              case rel => exact ⟨k + 1, by omega, by go_num, h9', hBw9⟩
              case measure => simp [intOf]; omega
            · obtain rfl : k = rn := by omega
              rw [List.take_of_length_le (Nat.le_of_eq hlr.out), hL4.out] at h6
              obtain ⟨wc, hwc⟩ : ∃ y, y = wr := ⟨_, rfl⟩
              subst hwc
              have y5 : wc.cell? ⟨w.heap.size, 5, none⟩ = some (.slice la ln lc) := (C.below hB6).cell 5
              go_wp2_with fail
              go_loopw [61] (fun ix wr => ∃ (k : Nat), k ≤ ln ∧ ix = .int .i64 k ∧ Wr w1.heap.size w1.heap.size (L4 ++ ctsW lateW (p.lt.take k)) wr ∧ Below w1.heap.size w1 wr) (fun ix _ => ln - (intOf ix).toNat)
              case atStart => exact ⟨0, Nat.zero_le _, rfl, by simpa [ctsW] using h6, hB6⟩
              case round =>
                clear h6 hB6 y5
                obtain ⟨k, hk, rfl, h6, hB6⟩ := hrel
                by_cases hlt : k < ln
                · obtain ⟨cb, co, x, rfl, hx, c0, c1, c2, c3⟩ := cts_at h4 hlt
                  obtain ⟨m1, m2, m3⟩ := hN.lt x (List.mem_of_getElem? hx)
                  have hst : Hid (ctsW lateW (p.lt.take (k + 1)) = ctsW lateW (p.lt.take k) ++ lineL (ctL lateW x)) := flat_step hx
                  have hlp := flat_len1 (f := fun c => lineL (ctL lateW c)) hx l5.out
                  obtain ⟨Q0, hQ0⟩ : ∃ P, Hid (L4 ++ ctsW lateW (p.lt.take k) = P) := ⟨_, rfl⟩
                  change (L4 ++ ctsW lateW (p.lt.take k) ++ lineL (ctL lateW x)).length ≤ 1000000 at hlp
                  rw [hQ0.out] at h6 hlp
                  rw [List.length_append] at hlp
                  have g0 := bcell hB6 c0
                  have g1 := bcell hB6 c1
                  have g2 := bcell hB6 c2
                  have g3 := bcell hB6 c3
                  have hk1 : (k : Int) < ln := by omega
                  have hk2 : (0 : Int) ≤ k := by omega
                  have hz6 := hB6.size
                  clear hx c0 c1 c2 c3
                  go_wp2_with fail
                  have hA : Below wr.heap.size wr (wr.alloc (.cells #[.int .i64 x.o.a, .int .i64 x.o.v, .string x.o.f, .int .i64 x.n] 134)) := (Below.refl _ _).alloc (Nat.le_refl _) _
                  have hzA := hA.size
                  clear g0 g1 g2 g3
                  generalize wr.alloc (.cells #[.int .i64 x.o.a, .int .i64 x.o.v, .string x.o.f, .int .i64 x.n] 134) = V at *
                  have hBV : Below w1.heap.size w1 V := hB6.trans (hA.mono hz6)
                  refine (impl_counted w1.heap.size w1.heap.size Q0 lateW x V (h6.below hA) (tab_low ht1 hBV hg1) hg1 (by omega) m1 m2 m3 hlp).mono ?_
                  rintro e w9 ⟨rfl, h9, hB9, _⟩
                  have hBw9 := hBV.trans hB9
                  have h9' : Wr w1.heap.size w1.heap.size (L4 ++ ctsW lateW (p.lt.take (k + 1))) w9 := by rw [hst.out, ← List.append_assoc, hQ0.out]; exact h9
                  clear hB9 hBV hA
                  go_wp2
                  go_roundw
                  case rel => exact ⟨k + 1, by omega, by go_num, h9', hBw9⟩
                  case measure => simp [intOf]; omega
                · obtain rfl : k = ln := by omega
                  rw [List.take_of_length_le (Nat.le_of_eq hll.out), hL5.out] at h6
                  go_wp2_with fail
                  refine (bu_String w1.heap.size w1.heap.size R wr h6.h hR0).mono ?_
                  rintro e w9 ⟨rfl, hB9⟩
                  have hfin := hBw1.trans ((hB6.trans hB9).mono (show w.heap.size ≤ w1.heap.size by omega))
                  go_wp2
                  go_returns
                  exact ⟨rfl, hfin⟩
end Go.Proofs.YtigldeccfpkdmaaGreatDoor
namespace Go.Proofs.YtigldeccfpkdmaaGreatDoor
open Go Go.RowKit Go.BigFrame Go.Shelf
set_option maxHeartbeats 4000000 in
set_option maxRecDepth 100000 in
theorem impl_PoolText (B0 : Nat) (v : Value) (p : Po) (w : World) (h : PoolAt B0 w v p) (hd : DimP p) (hN : poolB p = true → NumO p) (ht : TabP w) (hg : 9 ≤ w.heap.size) :
    Calls Tryz.prog 60 #[v] w fun e w' => e = .returned (.string (textO p)) ∧ Below w.heap.size w w' := by
  cases hp : poolB p
  · have hO : textO p = ⟨#[]⟩ := by unfold textO; rw [hp]; rfl
    rw [hO]
    have hPA := h
    obtain ⟨ea, en, ec, va, vn, vc, ra, rn, rc, la, ln, lc, rfl, _⟩ := h
    go_enter Tryz.func60, Tryz.ntmps60
    go_wp2_with fail
    refine (impl_PoolOk B0 _ p _ (hPA.below (by go_grown)) hd).mono ?_
    rintro e w1 ⟨rfl, hB1⟩
    have hBw1 : Below w.heap.size w w1 := chain (by go_grown) hB1
    clear hB1 hPA
    rw [hp]
    go_wp2_with fail
    go_returns
    exact ⟨rfl, hBw1⟩
  · have hO : textO p = ⟨(textW p).toArray⟩ := by unfold textO; rw [hp]; rfl
    rw [hO]
    exact impl_PoolText_right B0 v p w h hd hp (hN hp) ht hg
end Go.Proofs.YtigldeccfpkdmaaGreatDoor
