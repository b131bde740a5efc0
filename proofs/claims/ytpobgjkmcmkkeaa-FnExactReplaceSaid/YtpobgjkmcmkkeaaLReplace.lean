/- At every disk, name and data the program's Replace answers as its model does, writes nothing into its arguments and owns what it answers: no condition. -/
import Derived.Test.YtpobgjkmcmkkeaaRows
import Derived.Test.YtpobgjkmcmkkeaaKa
import Derived.Test.YtpobgjkmcmkkeaaKz
import Derived.Lib.SmallJoins
namespace Go.Proofs.Ytpobgjkmcmkkeaa
open Go.ChangeShapes Go.WideShapes Go.ChangeAt Go.RowKit Go.Deep Go.Joins
open Go.ChangeMaps (open_string shut_string)

theorem seqD_len : ∀ (ops : List Dp) (d : Dk), (seqD d ops).1.live.length ≤ d.live.length + ops.length ∧ (seqD d ops).1.safe.length ≤ d.safe.length ∧ (seqD d ops).1.ops.length ≤ d.ops.length + ops.length
  | [], d => by simp [seqD]
  | o :: r, d => by
    have h1 := doF_len d.live o
    unfold seqD
    split
    · rename_i h0
      have ih := seqD_len r (actD d o).1
      have ha : (actD d o).1.live.length ≤ d.live.length + 1 ∧ (actD d o).1.safe.length = d.safe.length ∧ (actD d o).1.ops.length ≤ d.ops.length + 1 := by
        unfold actD
        split
        · simp
        · split
          · simp
          · split
            · simp
            · exact ⟨h1, rfl, by show (d.ops ++ [o]).length ≤ _; simp⟩
      simp only [List.length_cons]
      omega
    · simp [noD]
theorem repD_len (d : Dk) (nm data : ByteArray) (h : d.live.length ≤ 1048576 ∧ d.safe.length ≤ 1048576 ∧ d.ops.length ≤ 1048576) : (repD d nm data).1.live.length ≤ 4194304 ∧ (repD d nm data).1.safe.length ≤ 4194304 ∧ (repD d nm data).1.ops.length ≤ 4194304 := by
  unfold repD
  split
  · have h1 := seqD_len (repOps nm data (atF d.live (freshB nm)).isSome) d
    have h2 : (repOps nm data (atF d.live (freshB nm)).isSome).length ≤ 3 := by unfold repOps; split <;> simp
    unfold repA
    split
    · simp only; omega
    · simp only; omega
  · simp [noD]
set_option maxHeartbeats 4000000 in
set_option maxRecDepth 100000 in
theorem walkReplace (v : Value) (d : Dk) (nm data : ByteArray) (w : World) (h : DiskL w v d) (hb : BigD d) (hnm : nm.size ≤ 9223372036854775807) (hdt : data.size ≤ 9223372036854775807) :
    Calls Try.prog 11 #[v, .string nm, .string data] w fun e w' => e = .returned (.bool true) ∧ Below w.heap.size w w' := by
  have hee := eqDk_refl d
  obtain ⟨la, ln, lc, sa, sn, sc, oa, on, oc, rfl⟩ := h.cells
  have C := (Blk.new w #[.slice la ln lc, .slice sa sn sc, .slice oa on oc] 50)
  have hB0 : Below w.heap.size w (w.alloc (.cells #[.slice la ln lc, .slice sa sn sc, .slice oa on oc] 50)) := by go_grown
  by_cases gnm : 1048576 < nm.size
  · go_enter Try.func11, Try.ntmps11
    go_wp2
    go_returns
    exact ⟨rfl, hB0⟩
  by_cases gdt : 1048576 < data.size
  · go_enter Try.func11, Try.ntmps11
    go_wp2
    go_returns
    exact ⟨rfl, hB0⟩
  go_enter Try.func11, Try.ntmps11
  go_wp2_with fail
  generalize w.alloc (.cells #[.slice la ln lc, .slice sa sn sc, .slice oa on oc] 50) = W0 at *
  refine (laws_szDisk _ d _ (h.below hB0) hb).mono ?_
  rintro e w1 ⟨⟨r, rfl, hr⟩, hB1⟩
  have C1 := C.below hB1
  replace hB1 := chain hB0 hB1
  clear C hB0
  rcases hr with rfl | ⟨r0, r1, hs⟩
  · go_wp2
    go_returns
    exact ⟨rfl, hB1⟩
  · have hd := hs.dim
    have hdim := hs.dims
    have hl : d.live.length ≤ 4194304 ∧ d.safe.length ≤ 4194304 ∧ d.ops.length ≤ 4194304 := by omega
    have hspec := fun (u : World) (v : Value) (hv : DiskAt u v d) => spec_Replace v d nm data u hv hd (by omega) (by omega)
    have himpl := fun (u : World) (v : Value) (hv : DiskAt u v d) => impl_Replace v d nm data u hv hd (by omega) (by omega)
    have hls := repD_len d nm data hdim
    obtain ⟨R, hR⟩ : ∃ R, R = repD d nm data := ⟨_, rfl⟩
    simp only [← hR] at hspec himpl hls
    clear hR
    obtain ⟨sd, cd⟩ := R
    simp only at hspec himpl hls
    have hes := eqDk_refl sd
    have hcc : (cd != cd) = false := by simp
    obtain ⟨d0, d1, d2⟩ := C1.three
    go_wp2_with fail
    refine (laws_toDisk _ d _ (h.below hB1) hs).mono ?_
    rintro e w2 ⟨⟨v2, rfl, P2⟩, hB2⟩
    have C2 := C1.below hB2
    replace hB2 := chain hB1 hB2
    clear d0 d1 d2 C1 hB1
    go_wp2_with fail
    refine (hspec _ v2 P2.at).mono ?_
    rintro e w3 ⟨⟨v3, rfl, R3⟩, hB3⟩
    obtain ⟨la3, ln3, lc3, sa3, sn3, sc3, oa3, on3, oc3, rfl⟩ := R3.at.l.cells
    have C3 := C2.below hB3
    replace hB3 := chain hB2 hB3
    clear C2 hB2 P2
    have hlt3 : Hid (w.heap.size < w3.heap.size) := C3.lt
    have hA3 : Below w3.heap.size w3 (w3.alloc (.cells #[.slice la3 ln3 lc3, .slice sa3 sn3 sc3, .slice oa3 on3 oc3] 27)) := by go_grown
    have A3 := Blk.new w3 #[.slice la3 ln3 lc3, .slice sa3 sn3 sc3, .slice oa3 on3 oc3] 27
    have hs3 : (w3.alloc (.cells #[.slice la3 ln3 lc3, .slice sa3 sn3 sc3, .slice oa3 on3 oc3] 27)).heap.size = w3.heap.size + 1 := by simp
    have q0 := (C3.below hA3).three.1
    have q1 := (C3.below hA3).three.2.1
    have q2 := (C3.below hA3).three.2.2
    go_wp2_with fail
    generalize w3.alloc (.cells #[.slice la3 ln3 lc3, .slice sa3 sn3 sc3, .slice oa3 on3 oc3] 27) = W3 at *
    clear q0 q1 q2
    replace C3 := C3.below hA3
    have Z3 : Below w3.heap.size w3 W3 := hA3
    replace hB3 := chain hB3 hA3
    have hs3H : Hid (W3.heap.size = w3.heap.size + 1) := hs3
    clear hA3 hs3
    refine (laws_toDisk _ d _ (h.below hB3) hs).mono ?_
    rintro e w4 ⟨⟨v4, rfl, P4⟩, hB4⟩
    obtain ⟨la4, ln4, lc4, sa4, sn4, sc4, oa4, on4, oc4, rfl⟩ := P4.at.l.cells
    have I4 := P4.inB
    have C4 := C3.below hB4
    have A4 := A3.below hB4
    have Z4 := chain Z3 hB4
    have hz4 := hB4.size
    replace hB4 := chain hB3 hB4
    clear C3 A3 Z3 hB3
    have hA4 : Below w4.heap.size w4 (w4.alloc (.cells #[.slice la4 ln4 lc4, .slice sa4 sn4 sc4, .slice oa4 on4 oc4] 27)) := by go_grown
    have X4 := Blk.new w4 #[.slice la4 ln4 lc4, .slice sa4 sn4 sc4, .slice oa4 on4 oc4] 27
    have hs4 : Hid ((w4.alloc (.cells #[.slice la4 ln4 lc4, .slice sa4 sn4 sc4, .slice oa4 on4 oc4] 27)).heap.size = w4.heap.size + 1) := by show _ = _; simp
    go_wp2_with fail
    generalize w4.alloc (.cells #[.slice la4 ln4 lc4, .slice sa4 sn4 sc4, .slice oa4 on4 oc4] 27) = W4 at *
    replace C4 := C4.below hA4
    replace A4 := A4.below hA4
    replace Z4 := chain Z4 hA4
    replace P4 := P4.below hA4
    replace hB4 := chain hB4 hA4
    clear hA4
    refine (himpl W4 _ P4.at).mono ?_
    rintro e w5 ⟨⟨v5, rfl, S5⟩, hB5⟩
    obtain ⟨la5, ln5, lc5, sa5, sn5, sc5, oa5, on5, oc5, rfl⟩ := S5.r.at.l.cells
    have I5 := S5.wr.inB
    have C5 := C4.below hB5
    have A5 := A4.below hB5
    have X5 := X4.below hB5
    have Z5 := chain Z4 hB5
    have P5 := P4.below hB5
    have hz5 := hB5.size
    replace hB5 := chain hB4 hB5
    have hsz : Hid (w.heap.size < w3.heap.size ∧ W3.heap.size = w3.heap.size + 1 ∧ W3.heap.size ≤ w4.heap.size ∧ W4.heap.size = w4.heap.size + 1 ∧ W4.heap.size ≤ w5.heap.size) := ⟨hlt3.out, hs3H.out, hz4, hs4.out, hz5⟩
    clear C4 A4 X4 Z4 P4 hB4
    have hA5 : Below w5.heap.size w5 (w5.alloc (.cells #[.slice la5 ln5 lc5, .slice sa5 sn5 sc5, .slice oa5 on5 oc5] 27)) := by go_grown
    have G5 := Blk.new w5 #[.slice la5 ln5 lc5, .slice sa5 sn5 sc5, .slice oa5 on5 oc5] 27
    obtain ⟨a0, a1, a2⟩ := (A5.below hA5).three
    go_wp2_with fail
    generalize w5.alloc (.cells #[.slice la5 ln5 lc5, .slice sa5 sn5 sc5, .slice oa5 on5 oc5] 27) = W5 at *
    clear a0 a1 a2
    replace C5 := C5.below hA5
    replace A5 := A5.below hA5
    replace X5 := X5.below hA5
    replace Z5 := chain Z5 hA5
    replace P5 := P5.below hA5
    replace S5 := S5.below hA5
    have hz5' := hA5.size
    replace hB5 := chain hB5 hA5
    clear hA5
    refine (laws_eqDisk _ _ sd sd W5 S5.r.at.l (R3.below Z5).at.l hls hls).mono ?_
    rintro e w6 ⟨rfl, hB6⟩
    rw [hes]
    have C6 := (C5.below hB6).drew
    have A6 := (A5.below hB6).drew
    have X6 := (X5.below hB6).drew
    have G6 := (G5.below hB6).drew
    have hd6 : Below w6.heap.size w6 w6.drew := (Below.refl _ _).drew
    have P6 := (P5.below hB6).below hd6
    have S6 := (S5.below hB6).below hd6
    have Z6 := chain (chain Z5 hB6) hd6
    have hz6 := hB6.size
    replace hB6 : Below w.heap.size w w6.drew := (chain hB5 hB6).drew
    clear C5 A5 X5 G5 P5 S5 Z5 hB5
    obtain ⟨d0, d1, d2⟩ := C6.three
    obtain ⟨x0, x1, x2⟩ := X6.three
    go_wp2_with fail
    have hS0 : (fun u => (u.cell? ⟨w4.heap.size, 0, none⟩ = some (.slice la4 ln4 lc4) ∧ u.cell? ⟨w4.heap.size, 1, none⟩ = some (.slice sa4 sn4 sc4) ∧ u.cell? ⟨w4.heap.size, 2, none⟩ = some (.slice oa4 on4 oc4)) ∧ u.cell? ⟨w.heap.size, 0, none⟩ = some (.slice la ln lc) ∧ u.cell? ⟨w.heap.size, 1, none⟩ = some (.slice sa sn sc) ∧ u.cell? ⟨w.heap.size, 2, none⟩ = some (.slice oa on oc)) w6.drew := ⟨X6.three, C6.three⟩
    refine wp_region_heldH (S := (fun u => (u.cell? ⟨w4.heap.size, 0, none⟩ = some (.slice la4 ln4 lc4) ∧ u.cell? ⟨w4.heap.size, 1, none⟩ = some (.slice sa4 sn4 sc4) ∧ u.cell? ⟨w4.heap.size, 2, none⟩ = some (.slice oa4 on4 oc4)) ∧ u.cell? ⟨w.heap.size, 0, none⟩ = some (.slice la ln lc) ∧ u.cell? ⟨w.heap.size, 1, none⟩ = some (.slice sa sn sc) ∧ u.cell? ⟨w.heap.size, 2, none⟩ = some (.slice oa on oc))) 5 (by kernel_rfl) rfl ?_
    refine takeL (i := 0) (v := ?vq39001) rfl (by kernel_rfl) (by kernel_rfl) (by kernel_rfl) (fun _ _ _ h => h) (Or.inl ⟨by rfl, ?hyq39001⟩) (by assumption) ?restq39001
    case hyq39001 => (intro u hu; (try dsimp only at hu); go_simp <;> with_reducible rfl)
    try simp only [Act.put, List.setIfInBounds_toArray, List.set_cons_zero, List.set_cons_succ]
    refine takeL (i := 1) (v := ?vq39002) rfl (by kernel_rfl) (by kernel_rfl) (by kernel_rfl) (fun _ _ _ h => h) (Or.inl ⟨by rfl, ?hyq39002⟩) (by assumption) ?restq39002
    case hyq39002 => (intro u hu; (try dsimp only at hu); go_simp <;> with_reducible rfl)
    try simp only [Act.put, List.setIfInBounds_toArray, List.set_cons_zero, List.set_cons_succ]
    refine oneL (i := 2) (by kernel_rfl) rfl (fun K hK => ?_)
    go_simp
    refine (laws_toDisk _ d _ (h.below hB6) hs).mono ?_
    rintro e w7 ⟨⟨v7, rfl, P7⟩, hB7⟩
    obtain ⟨la7, ln7, lc7, sa7, sn7, sc7, oa7, on7, oc7, rfl⟩ := P7.at.l.cells
    dsimp only
    refine hK.out _ _ ⟨(X6.below hB7).three, (C6.below hB7).three⟩ (fun hHeld => ?_)
    clear hK K
    try simp only [Act.put, List.setIfInBounds_toArray, List.set_cons_zero, List.set_cons_succ]
    refine oneL (i := 3) (by kernel_rfl) rfl (fun K hK => ?_)
    go_simp
    refine (laws_eqDisk _ _ d d _ (P6.below hB7).at.l P7.at.l hl hl).mono ?_
    rintro e w8 ⟨rfl, hB8⟩
    rw [hee]
    dsimp only
    refine hK.out _ _ ⟨(X6.below (chain hB7 hB8)).three, (C6.below (chain hB7 hB8)).three⟩ (fun hHeld => ?_)
    clear hK K
    try simp only [Act.put, List.setIfInBounds_toArray, List.set_cons_zero, List.set_cons_succ]
    refine takeL (i := 4) (v := ?vq39003) rfl (by kernel_rfl) (by kernel_rfl) (by kernel_rfl) (fun _ _ _ h => h) (Or.inl ⟨by rfl, ?hyq39003⟩) (by assumption) ?restq39003
    case hyq39003 => (intro u hu; (try dsimp only at hu); go_simp <;> with_reducible rfl)
    try simp only [Act.put, List.setIfInBounds_toArray, List.set_cons_zero, List.set_cons_succ]
    refine wpAnyH_done (by kernel_rfl) ?_ _
    clear hS0 hHeld
    have hC8 := chain hB7 hB8
    have hz8 := hC8.size
    clear d0 d1 d2 x0 x1 x2 P7
    replace C6 := C6.below hC8
    replace A6 := A6.below hC8
    replace X6 := X6.below hC8
    replace G6 := G6.below hC8
    replace P6 := P6.below hC8
    replace S6 := S6.below hC8
    replace Z6 := chain Z6 hC8
    replace hB6 := chain hB6 hC8
    clear hB7 hB8 hC8
    have hz6' : w6.heap.size ≤ w8.heap.size := hz8
    clear hz8
    obtain ⟨x0, x1, x2⟩ := X6.three
    go_wp2_with fail
    refine (laws_markDisk _ _ _ d w8 P6 I4 (by have := hsz.out; omega) hl).mono ?_
    rintro e w9 ⟨rfl, _, F9⟩
    have C9 := F9.blk C6 (.inl (by have := hsz.out; have := Z6.size; omega))
    have A9 := F9.blk A6 (.inl (by have := hsz.out; omega))
    have X9 := F9.blk X6 (.inr (Nat.le_refl _))
    have G9 := F9.blk G6 (.inr (by have := hsz.out; omega))
    have S9 := S6.frd F9 (by have := hsz.out; omega)
    have Z9 : Below w3.heap.size w3 w9 := Z6.trans (F9.low (by have := hsz.out; omega) (by have := hsz.out; have := Z6.size; omega))
    have hz9 := F9.size
    have hB9 : Below w.heap.size w w9 := hB6.trans (F9.low (by have := hsz.out; have := C6.lt; omega) (by have := hsz.out; have := hB6.size; omega))
    clear C6 A6 X6 G6 S6 Z6 P6 F9 hB6 x0 x1 x2
    obtain ⟨KM, hKM⟩ : ∃ KM : Int, KM = ((markN d : Nat) : Int) := ⟨_, rfl⟩
    rw [← hKM]
    have hKM0 : ¬ KM < 0 := by omega
    clear hKM
    obtain ⟨a0, a1, a2⟩ := A9.three
    obtain ⟨g0, g1, g2⟩ := G9.three
    go_wp2_with fail
    refine (laws_eqDisk _ _ sd sd w9 S9.r.at.l (R3.below Z9).at.l hls hls).mono ?_
    rintro e w10 ⟨rfl, hB10⟩
    rw [hes]
    have C10 := C9.below hB10
    have A10 := A9.below hB10
    have G10 := G9.below hB10
    have S10 := S9.below hB10
    have Z10 := chain Z9 hB10
    have hz10 := hB10.size
    replace hB10 := chain hB9 hB10
    clear C9 A9 X9 G9 S9 Z9 hB9 a0 a1 a2 g0 g1 g2
    obtain ⟨g0, g1, g2⟩ := G10.three
    go_wp2_with fail
    refine (laws_markDisk _ _ _ sd w10 S10.wr I5 (by have := hsz.out; omega) hls).mono ?_
    rintro e w11 ⟨rfl, M11, F11⟩
    have C11 := F11.blk C10 (.inl (by have := hsz.out; have := Z10.size; have := C10.lt; omega))
    have A11 := F11.blk A10 (.inl (by have := hsz.out; omega))
    have G11 := F11.blk G10 (.inr (Nat.le_refl _))
    have Z11 : Below w3.heap.size w3 w11 := Z10.trans (F11.low (by have := hsz.out; omega) (by have := hsz.out; have := Z10.size; omega))
    have hB11 : Below w.heap.size w w11 := hB10.trans (F11.low (by have := hsz.out; have := C10.lt; omega) (by have := hsz.out; have := hB10.size; omega))
    clear C10 A10 G10 S10 Z10 F11 hB10 g0 g1 g2
    obtain ⟨KS, hKS⟩ : ∃ KS : Int, KS = ((markN sd : Nat) : Int) := ⟨_, rfl⟩
    have hKH : Hid (KS = ((markN sd : Nat) : Int)) := hKS
    have hKS0 : ¬ KS < 0 := by omega
    have hKSe : (KS != KS) = false := by simp
    rw [← hKS]
    clear hKS
    obtain ⟨g0, g1, g2⟩ := G11.three
    go_wp2_with fail
    refine (laws_heldDisk _ sd w11 M11 hls).mono ?_
    rintro e w12 ⟨rfl, hB12⟩
    rw [← hKH.out]
    have C12 := C11.below hB12
    have A12 := A11.below hB12
    have G12 := G11.below hB12
    have M12 := M11.below hB12
    have Z12 := chain Z11 hB12
    replace hB12 := chain hB11 hB12
    clear C11 A11 G11 M11 Z11 hB11 g0 g1 g2
    obtain ⟨d0, d1, d2⟩ := C12.three
    go_wp2_with fail
    refine (laws_toDisk _ d _ (h.below hB12) hs).mono ?_
    rintro e w13 ⟨⟨v13, rfl, P13⟩, hB13⟩
    have A13 := A12.below hB13
    have G13 := G12.below hB13
    have M13 := M12.below hB13
    have Z13 := chain Z12 hB13
    replace hB13 := chain hB12 hB13
    clear C12 A12 G12 M12 Z12 hB12 d0 d1 d2
    go_wp2_with fail
    refine (himpl w13 _ P13.at).mono ?_
    rintro e w14 ⟨⟨v14, rfl, S14⟩, hB14⟩
    obtain ⟨la14, ln14, lc14, sa14, sn14, sc14, oa14, on14, oc14, rfl⟩ := S14.r.at.l.cells
    have hA14 : Below w14.heap.size w14 (w14.alloc (.cells #[.slice la14 ln14 lc14, .slice sa14 sn14 sc14, .slice oa14 on14 oc14] 27)) := by go_grown
    have hC14 := chain hB14 hA14
    have A14 := A13.below hC14
    have G14 := G13.below hC14
    have M14 := M13.below hC14
    have Z14 := chain Z13 hC14
    have S15 := S14.below hA14
    replace hB14 := chain hB13 hC14
    clear A13 G13 M13 Z13 hB13 hC14 S14 P13
    obtain ⟨a0, a1, a2⟩ := A14.three
    go_wp2_with fail
    generalize w14.alloc (.cells #[.slice la14 ln14 lc14, .slice sa14 sn14 sc14, .slice oa14 on14 oc14] 27) = W14 at *
    clear a0 a1 a2 hA14
    refine (laws_eqDisk _ _ sd sd W14 S15.r.at.l (R3.below Z14).at.l hls hls).mono ?_
    rintro e w15 ⟨rfl, hB15⟩
    rw [hes]
    have G15 := G14.below hB15
    have M15 := M14.below hB15
    replace hB15 := chain hB14 hB15
    clear A14 G14 M14 Z14 hB14 S15
    obtain ⟨g0, g1, g2⟩ := G15.three
    go_wp2_with fail
    refine (laws_heldDisk _ sd w15 M15 hls).mono ?_
    rintro e w16 ⟨rfl, hB16⟩
    rw [← hKH.out]
    replace hB16 := chain hB15 hB16
    clear G15 M15 hB15 g0 g1 g2
    go_wp2
    go_returns
    exact ⟨rfl, hB16⟩

set_option maxRecDepth 100000 in
theorem liftedReplace (os : Os) (started : os.Started) (H : Type) (enc : TypeId × Value → H) :
    ReturnsInHanded {} Try.checked os 11 .any (Rows.fnExactReplaceSpec.pre6 enc Try.prog Try.f11 Rows.fnExactReplaceRow.domain false) (Rows.fnExactReplaceSpec.post enc Try.prog Try.f11 false true false false) := by
  refine returnsInHanded_of_change (C := Try.checked) own started (by kernel_rfl) Try.func11
    (ChangeSpec.witness6 (enc := enc) (C := Try.checked) false ⟨#[], #[.agg #[.slice none 0 0, .slice none 0 0, .slice none 0 0], .string .empty, .string .empty], []⟩ 8 (by kernel_rfl) (by kernel_rfl) (by kernel_rfl) (by kernel_rfl)) ?_
  intro W base args ds gs before hval0 hW _ _
  have hval : ∀ (j : Nat) t v, Try.f11.params[j]? = some t → args[j]? = some v → Value.okWide Try.prog W .any base t v := hval0
  have hW' := hW
  obtain ⟨p, q, hA0, hV, rfl, _, _⟩ := hW
  have hA : DataW.TrodAll enc Try.prog W 0 (fun _ => true) true Try.f11.params.toList args.toList ds p := hA0
  rw [Try.params11] at hA hval
  obtain ⟨v0, vs0, d0, ds0, p0, q0, hargs, rfl, rfl, h0, r0⟩ := trodAll_cons hA
  obtain ⟨v1, vs1, d1, ds1, p1, q1, rfl, rfl, rfl, h1, r1⟩ := trodAll_cons r0
  obtain ⟨v2, vs2, d2, ds2, p2, q2, rfl, rfl, rfl, h2, r2⟩ := trodAll_cons r1
  obtain ⟨rfl, rfl, rfl⟩ := trodAll_nil r2
  obtain rfl : args = #[v0, v1, v2] := by cases args; simp_all
  obtain ⟨rfl, rfl⟩ := trodVars_none hV
  clear hA0 hval0
  obtain ⟨nm, rfl, rfl, rfl, wx1⟩ := open_string Try.underlying9 (hval 1 9 v1 rfl rfl) h1
  have wy1 := wx1
  unfold maxLen at wy1
  obtain ⟨data, rfl, rfl, rfl, wx2⟩ := open_string Try.underlying9 (hval 2 9 v2 rfl rfl) h2
  have wy2 := wx2
  unfold maxLen at wy2
  simp only [List.append_nil] at hW'
  have hlt : ∀ x ∈ p0, x.block < W.heap.size := fun x hx => by simpa using hW'.lt x (by simp [hx])
  obtain ⟨q, hP, hb⟩ := open_disk (hval 0 50 v0 rfl rfl) h0
  refine (walkReplace v0 q nm data W hP hb (by omega) (by omega)).mono fun e W' ⟨he, hB⟩ => ?_
  subst he
  have hargs : DataW.Trod enc Try.prog W' 0 (fun b => decide (b < W.heap.size)) true 50 v0 d0 p0 :=
    Below.trod laidOut (by kernel_rfl) (of_decide_eq_true (by kernel_rfl)) h0 hB hlt
  exact ⟨_, rfl, ⟨_, _, _, [], _, [], hW', trodAll_mk1 (shut_bool Try.underlying4 _), trodAll_cons_mk hargs (trodAll_cons_mk (shut_string Try.underlying9 wx1) (trodAll_cons_mk (shut_string Try.underlying9 wx2) trodAll_mk0)), rfl, hB.frame _, fun h => by cases h⟩⟩

theorem holdsReplace : Rows.FnExactReplaceSaid :=
  OpenClaim.holds_of_wide 11 Try.f11 rfl rfl rfl rfl rfl rfl rfl ⟨rfl, rfl, rfl, rfl, rfl⟩ rfl rfl rfl rfl rfl (by kernel_rfl) Try.func11 (joined_of (by kernel_rfl) (by kernel_rfl) (by kernel_rfl) (by kernel_rfl) rfl rfl rfl (by kernel_rfl))
    (of_decide_eq_true (by kernel_rfl)) (by unfold Func.isWrapper; first | (rw [if_pos (by decide +kernel)]; kernel_rfl) | (rw [if_neg (by decide +kernel)]; exact ⟨rfl, rfl⟩))
    (fun os started H enc _ => liftedReplace os started H enc)
end Go.Proofs.Ytpobgjkmcmkkeaa
