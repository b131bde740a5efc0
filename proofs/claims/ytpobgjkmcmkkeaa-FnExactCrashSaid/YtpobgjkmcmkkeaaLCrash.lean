/- At every disk, list of places and number the program's Crash answers as its model does, writes nothing into its arguments and owns what it answers: no condition. -/
import Derived.Test.YtpobgjkmcmkkeaaRows
import Derived.Test.YtpobgjkmcmkkeaaKa
import Derived.Test.YtpobgjkmcmkkeaaKz3
import Derived.Lib.SmallJoins
namespace Go.Proofs.Ytpobgjkmcmkkeaa
open Go.ChangeShapes Go.WideShapes Go.ChangeAt Go.RowKit Go.Deep Go.Joins
open Go.ChangeMaps (open_string shut_string)

set_option maxRecDepth 100000 in
theorem open_int64s {H : Type} {enc : TypeId × Value → H} {w : World} {spare : Nat → Bool} {held : Bool} {a : Option Addr} {n cap : Nat} {d : DataW H} {p : List MemPlace}
    (h : DataW.Trod enc Try.prog w 0 spare held 30 (.slice a n cap) d p) : n ≤ maxLen ∧ ∃ l : List Int, IntsAt w a n l := by
  obtain ⟨fuel, hf⟩ := h
  rcases open_slice Try.underlying30 hf with ⟨hcs, _⟩ | ⟨ad, len, cap', m, n', D, Pl, hcs, _, hl, hm, hmm, _, hel⟩
  · simp [Value.cells] at hcs
    obtain ⟨rfl, rfl, rfl⟩ := hcs
    exact ⟨Nat.zero_le _, [], ⟨rfl, fun i x hx => by simp at hx⟩⟩
  · simp [Value.cells] at hcs
    obtain ⟨rfl, rfl, rfl⟩ := hcs
    have hle : n ≤ m := by rw [hmm]; split <;> omega
    refine ⟨Nat.le_trans hl hm, ?_⟩
    have hone : ∀ i, i < n → ∃ q : Int, ∀ j v, (icj q)[j]? = some v → w.cell? (ad.add (i * 1 + j)) = some v := by
      intro i hi
      obtain ⟨cs', h1, h2⟩ := hel i (by omega)
      rw [show Try.prog.cellsOf 2 = 1 by kernel_rfl] at h1
      obtain ⟨_, hlen, hcell⟩ := World.cells?_some h1
      obtain ⟨z0, e0, _, _⟩ := DataW.trod_int Try.underlying2 h2
      match cs', hlen with
      | [x0], _ =>
        simp at e0
        subst e0
        refine ⟨z0, fun j v hv => ?_⟩
        have hj : j < 1 := by have := (List.getElem?_eq_some_iff.1 hv).1; simpa [icj] using this
        have := hcell j hj
        rw [Addr.add_add] at this
        rw [this]; exact hv
    obtain ⟨L, hL⟩ := choose_lt (α := Int) (p := fun i q => ∀ j v, (icj q)[j]? = some v → w.cell? (ad.add (i * 1 + j)) = some v) hone
    refine ⟨(List.range n).map L, ⟨by simp, fun i x hx => ?_⟩⟩
    have hi : i < n := by have := (List.getElem?_eq_some_iff.1 hx).1; simpa using this
    simp [hi] at hx
    subst hx
    have h00 := (hL 0 (by omega)) 0 _ rfl
    obtain ⟨b, o, rfl⟩ := spotless h00 rfl
    exact ⟨b, o, rfl, fun j v hv => by have := (hL i hi) j v hv; rw [Addr.add_lit] at this; rw [Nat.add_assoc]; exact this⟩

set_option maxHeartbeats 4000000 in
set_option maxRecDepth 100000 in
theorem walkCrash (v : Value) (d : Dk) (ka : Option Addr) (kn kc : Nat) (keep : List Int) (t : Int) (w : World) (h : DiskL w v d) (hb : BigD d) (hk : IntsAt w ka kn keep) (hnm : kn ≤ 9223372036854775807) :
    Calls Try.prog 9 #[v, .slice ka kn kc, .int .i64 t] w fun e w' => e = .returned (.bool true) ∧ Below w.heap.size w w' := by
  have hee := eqDk_refl d
  obtain ⟨la, ln, lc, sa, sn, sc, oa, on, oc, rfl⟩ := h.cells
  have C := (Blk.new w #[.slice la ln lc, .slice sa sn sc, .slice oa on oc] 50)
  have hB0 : Below w.heap.size w (w.alloc (.cells #[.slice la ln lc, .slice sa sn sc, .slice oa on oc] 50)) := by go_grown
  by_cases gnm : 1048576 < kn
  · go_enter Try.func9, Try.ntmps9
    go_wp2
    go_returns
    exact ⟨rfl, hB0⟩
  go_enter Try.func9, Try.ntmps9
  go_wp2_with fail
  generalize w.alloc (.cells #[.slice la ln lc, .slice sa sn sc, .slice oa on oc] 50) = W0 at *
  refine (laws_szDisk _ d _ (h.below hB0) hb).mono ?_
  rintro e w1 ⟨⟨r, rfl, hr⟩, hB1⟩
  have C1 := C.below hB1
  replace hB1 := chain hB0 hB1
  clear C hB0
  rcases hr with rfl | ⟨r0, r1, hs⟩
  · go_wp2
    go_returns
    exact ⟨rfl, hB1⟩
  · have hd := hs.dim
    have hdim := hs.dims
    have hl : d.live.length ≤ 4194304 ∧ d.safe.length ≤ 4194304 ∧ d.ops.length ≤ 4194304 := by omega
    have hspec := fun (u : World) (v : Value) (kx : Option Addr) (ky : Nat) (hv : DiskAt u v d) (hi : IntsAt u kx kn keep) => spec_Crash v d kx kn ky keep t u hv hd hi (by omega)
    have himpl := fun (u : World) (v : Value) (kx : Option Addr) (ky : Nat) (hv : DiskAt u v d) (hi : IntsAt u kx kn keep) => impl_Crash v d kx kn ky keep t u hv hd hi (by omega)
    have hls := crashD_len d keep t
    obtain ⟨R, hR⟩ : ∃ R, R = crashD d keep t := ⟨_, rfl⟩
    simp only [← hR] at hspec himpl hls
    clear hR
    obtain ⟨sd, cd⟩ := R
    simp only at hspec himpl hls
    have hes := eqDk_refl sd
    have hcc : (cd != cd) = false := by simp
    have hkn4 : kn ≤ 4194304 := by omega
    obtain ⟨d0, d1, d2⟩ := C1.three
    go_wp2_with fail
    refine (laws_toDisk _ d _ (h.below hB1) hs).mono ?_
    rintro e w2 ⟨⟨v2, rfl, P2⟩, hB2⟩
    have C2 := C1.below hB2
    replace hB2 := chain hB1 hB2
    clear d0 d1 d2 C1 hB1
    go_wp2_with fail
    refine (laws_toInt64S ka kn kc keep w2 (hk.below hB2) hkn4).mono ?_
    rintro e w2' ⟨rfl, O2, hB2'⟩
    replace C2 := C2.below hB2'
    replace P2 := P2.below hB2'
    replace hB2 := chain hB2 hB2'
    go_wp2_with fail
    refine (hspec w2' v2 _ _ P2.at O2.sl).mono ?_
    rintro e w3 ⟨⟨v3, rfl, R3⟩, hB3⟩
    clear O2 hB2'
    obtain ⟨la3, ln3, lc3, sa3, sn3, sc3, oa3, on3, oc3, rfl⟩ := R3.at.l.cells
    have C3 := C2.below hB3
    replace hB3 := chain hB2 hB3
    clear C2 hB2 P2
    have hlt3 : Hid (w.heap.size < w3.heap.size) := C3.lt
    have hA3 : Below w3.heap.size w3 (w3.alloc (.cells #[.slice la3 ln3 lc3, .slice sa3 sn3 sc3, .slice oa3 on3 oc3] 27)) := by go_grown
    have A3 := Blk.new w3 #[.slice la3 ln3 lc3, .slice sa3 sn3 sc3, .slice oa3 on3 oc3] 27
    have hs3 : (w3.alloc (.cells #[.slice la3 ln3 lc3, .slice sa3 sn3 sc3, .slice oa3 on3 oc3] 27)).heap.size = w3.heap.size + 1 := by simp
    have q0 := (C3.below hA3).three.1
    have q1 := (C3.below hA3).three.2.1
    have q2 := (C3.below hA3).three.2.2
    go_wp2_with fail
    generalize w3.alloc (.cells #[.slice la3 ln3 lc3, .slice sa3 sn3 sc3, .slice oa3 on3 oc3] 27) = W3 at *
    clear q0 q1 q2
    replace C3 := C3.below hA3
    have Z3 : Below w3.heap.size w3 W3 := hA3
    replace hB3 := chain hB3 hA3
    have hs3H : Hid (W3.heap.size = w3.heap.size + 1) := hs3
    clear hA3 hs3
    refine (laws_toDisk _ d _ (h.below hB3) hs).mono ?_
    rintro e w4 ⟨⟨v4, rfl, P4⟩, hB4⟩
    obtain ⟨la4, ln4, lc4, sa4, sn4, sc4, oa4, on4, oc4, rfl⟩ := P4.at.l.cells
    have I4 := P4.inB
    have C4 := C3.below hB4
    have A4 := A3.below hB4
    have Z4 := chain Z3 hB4
    have hz4 := hB4.size
    replace hB4 := chain hB3 hB4
    clear C3 A3 Z3 hB3
    have hA4 : Below w4.heap.size w4 (w4.alloc (.cells #[.slice la4 ln4 lc4, .slice sa4 sn4 sc4, .slice oa4 on4 oc4] 27)) := by go_grown
    have X4 := Blk.new w4 #[.slice la4 ln4 lc4, .slice sa4 sn4 sc4, .slice oa4 on4 oc4] 27
    have hs4 : Hid ((w4.alloc (.cells #[.slice la4 ln4 lc4, .slice sa4 sn4 sc4, .slice oa4 on4 oc4] 27)).heap.size = w4.heap.size + 1) := by show _ = _; simp
    go_wp2_with fail
    generalize w4.alloc (.cells #[.slice la4 ln4 lc4, .slice sa4 sn4 sc4, .slice oa4 on4 oc4] 27) = W4 at *
    replace C4 := C4.below hA4
    replace A4 := A4.below hA4
    replace Z4 := chain Z4 hA4
    replace P4 := P4.below hA4
    replace hB4 := chain hB4 hA4
    clear hA4
    refine (laws_toInt64S ka kn kc keep W4 (hk.below hB4) hkn4).mono ?_
    rintro e w4' ⟨rfl, O4, hB4'⟩
    replace C4 := C4.below hB4'
    replace A4 := A4.below hB4'
    replace X4 := X4.below hB4'
    replace Z4 := chain Z4 hB4'
    replace P4 := P4.below hB4'
    have hz4' := hB4'.size
    have hO4lt : W4.heap.size < w4'.heap.size := by obtain ⟨_, c, hY, _⟩ := O4; exact hY.lt
    replace hB4 := chain hB4 hB4'
    clear hB4'
    obtain ⟨x0, x1, x2⟩ := X4.three
    go_wp2_with fail
    clear x0 x1 x2
    refine (himpl w4' _ _ _ P4.at O4.sl).mono ?_
    rintro e w5 ⟨⟨v5, rfl, S5⟩, hB5⟩
    obtain ⟨la5, ln5, lc5, sa5, sn5, sc5, oa5, on5, oc5, rfl⟩ := S5.r.at.l.cells
    have I5 := S5.wr.inB
    have C5 := C4.below hB5
    have A5 := A4.below hB5
    have X5 := X4.below hB5
    have Z5 := chain Z4 hB5
    have P5 := P4.below hB5
    have O5 := O4.below hB5
    have hz5 := hB5.size
    replace hB5 := chain hB4 hB5
    have hsz : Hid (w.heap.size < w3.heap.size ∧ W3.heap.size = w3.heap.size + 1 ∧ W3.heap.size ≤ w4.heap.size ∧ W4.heap.size = w4.heap.size + 1 ∧ W4.heap.size < w4'.heap.size ∧ w4'.heap.size ≤ w5.heap.size) := ⟨hlt3.out, hs3H.out, hz4, hs4.out, hO4lt, hz5⟩
    clear C4 A4 X4 Z4 P4 hB4 O4
    have hA5 : Below w5.heap.size w5 (w5.alloc (.cells #[.slice la5 ln5 lc5, .slice sa5 sn5 sc5, .slice oa5 on5 oc5] 27)) := by go_grown
    have G5 := Blk.new w5 #[.slice la5 ln5 lc5, .slice sa5 sn5 sc5, .slice oa5 on5 oc5] 27
    obtain ⟨a0, a1, a2⟩ := (A5.below hA5).three
    go_wp2_with fail
    generalize w5.alloc (.cells #[.slice la5 ln5 lc5, .slice sa5 sn5 sc5, .slice oa5 on5 oc5] 27) = W5 at *
    clear a0 a1 a2
    replace C5 := C5.below hA5
    replace A5 := A5.below hA5
    replace X5 := X5.below hA5
    replace Z5 := chain Z5 hA5
    replace P5 := P5.below hA5
    replace O5 := O5.below hA5
    replace S5 := S5.below hA5
    have hz5' := hA5.size
    replace hB5 := chain hB5 hA5
    clear hA5
    refine (laws_eqDisk _ _ sd sd W5 S5.r.at.l (R3.below Z5).at.l hls hls).mono ?_
    rintro e w6 ⟨rfl, hB6⟩
    rw [hes]
    have C6 := (C5.below hB6).drew
    have A6 := (A5.below hB6).drew
    have X6 := (X5.below hB6).drew
    have G6 := (G5.below hB6).drew
    have hd6 : Below w6.heap.size w6 w6.drew := (Below.refl _ _).drew
    have P6 := (P5.below hB6).below hd6
    have O6 := (O5.below hB6).below hd6
    have S6 := (S5.below hB6).below hd6
    have Z6 := chain (chain Z5 hB6) hd6
    have hz6 := hB6.size
    replace hB6 : Below w.heap.size w w6.drew := (chain hB5 hB6).drew
    clear C5 A5 X5 G5 P5 S5 Z5 hB5 O5
    obtain ⟨d0, d1, d2⟩ := C6.three
    obtain ⟨x0, x1, x2⟩ := X6.three
    go_wp2_with fail
    have hS0 : (fun u => (u.cell? ⟨w4.heap.size, 0, none⟩ = some (.slice la4 ln4 lc4) ∧ u.cell? ⟨w4.heap.size, 1, none⟩ = some (.slice sa4 sn4 sc4) ∧ u.cell? ⟨w4.heap.size, 2, none⟩ = some (.slice oa4 on4 oc4)) ∧ u.cell? ⟨w.heap.size, 0, none⟩ = some (.slice la ln lc) ∧ u.cell? ⟨w.heap.size, 1, none⟩ = some (.slice sa sn sc) ∧ u.cell? ⟨w.heap.size, 2, none⟩ = some (.slice oa on oc)) w6.drew := ⟨X6.three, C6.three⟩
    refine wp_region_heldH (S := (fun u => (u.cell? ⟨w4.heap.size, 0, none⟩ = some (.slice la4 ln4 lc4) ∧ u.cell? ⟨w4.heap.size, 1, none⟩ = some (.slice sa4 sn4 sc4) ∧ u.cell? ⟨w4.heap.size, 2, none⟩ = some (.slice oa4 on4 oc4)) ∧ u.cell? ⟨w.heap.size, 0, none⟩ = some (.slice la ln lc) ∧ u.cell? ⟨w.heap.size, 1, none⟩ = some (.slice sa sn sc) ∧ u.cell? ⟨w.heap.size, 2, none⟩ = some (.slice oa on oc))) 5 (by kernel_rfl) rfl ?_
    refine takeL (i := 0) (v := ?vq1) rfl (by kernel_rfl) (by kernel_rfl) (by kernel_rfl) (fun _ _ _ h => h) (Or.inl ⟨by rfl, ?hyq1⟩) (by assumption) ?restq1
    case hyq1 => (intro u hu; (try dsimp only at hu); go_simp <;> with_reducible rfl)
    try simp only [Act.put, List.setIfInBounds_toArray, List.set_cons_zero, List.set_cons_succ]
    refine takeL (i := 1) (v := ?vq2) rfl (by kernel_rfl) (by kernel_rfl) (by kernel_rfl) (fun _ _ _ h => h) (Or.inl ⟨by rfl, ?hyq2⟩) (by assumption) ?restq2
    case hyq2 => (intro u hu; (try dsimp only at hu); go_simp <;> with_reducible rfl)
    try simp only [Act.put, List.setIfInBounds_toArray, List.set_cons_zero, List.set_cons_succ]
    refine oneL (i := 2) (by kernel_rfl) rfl (fun K hK => ?_)
    go_simp
    refine (laws_toDisk _ d _ (h.below hB6) hs).mono ?_
    rintro e w7 ⟨⟨v7, rfl, P7⟩, hB7⟩
    obtain ⟨la7, ln7, lc7, sa7, sn7, sc7, oa7, on7, oc7, rfl⟩ := P7.at.l.cells
    dsimp only
    refine hK.out _ _ ⟨(X6.below hB7).three, (C6.below hB7).three⟩ (fun hHeld => ?_)
    clear hK K
    try simp only [Act.put, List.setIfInBounds_toArray, List.set_cons_zero, List.set_cons_succ]
    refine oneL (i := 3) (by kernel_rfl) rfl (fun K hK => ?_)
    go_simp
    refine (laws_eqDisk _ _ d d _ (P6.below hB7).at.l P7.at.l hl hl).mono ?_
    rintro e w8 ⟨rfl, hB8⟩
    rw [hee]
    dsimp only
    refine hK.out _ _ ⟨(X6.below (chain hB7 hB8)).three, (C6.below (chain hB7 hB8)).three⟩ (fun hHeld => ?_)
    clear hK K
    try simp only [Act.put, List.setIfInBounds_toArray, List.set_cons_zero, List.set_cons_succ]
    refine takeL (i := 4) (v := ?vq3) rfl (by kernel_rfl) (by kernel_rfl) (by kernel_rfl) (fun _ _ _ h => h) (Or.inl ⟨by rfl, ?hyq3⟩) (by assumption) ?restq3
    case hyq3 => (intro u hu; (try dsimp only at hu); go_simp <;> with_reducible rfl)
    try simp only [Act.put, List.setIfInBounds_toArray, List.set_cons_zero, List.set_cons_succ]
    refine wpAnyH_done (by kernel_rfl) ?_ _
    clear hS0 hHeld
    have hC8 := chain hB7 hB8
    have hz8 := hC8.size
    clear d0 d1 d2 x0 x1 x2 P7
    replace C6 := C6.below hC8
    replace A6 := A6.below hC8
    replace X6 := X6.below hC8
    replace G6 := G6.below hC8
    replace P6 := P6.below hC8
    replace O6 := O6.below hC8
    replace S6 := S6.below hC8
    replace Z6 := chain Z6 hC8
    replace hB6 := chain hB6 hC8
    clear hB7 hB8 hC8
    have hz6' : w6.heap.size ≤ w8.heap.size := hz8
    clear hz8
    go_wp2_with fail
    refine (laws_toInt64S ka kn kc keep w8 (hk.below hB6) hkn4).mono ?_
    rintro e w8' ⟨rfl, O8, hB8⟩
    go_wp2_with fail
    refine (laws_eqInt64J _ kn _ _ _ keep w8' (O6.below hB8).sl O8.sl hkn4).mono ?_
    rintro e w8'' ⟨rfl, hB8'⟩
    have hC8 := chain hB8 hB8'
    have hz8'' := hC8.size
    clear O8 hB8 hB8'
    replace C6 := C6.below hC8
    replace A6 := A6.below hC8
    replace X6 := X6.below hC8
    replace G6 := G6.below hC8
    replace P6 := P6.below hC8
    replace S6 := S6.below hC8
    replace Z6 := chain Z6 hC8
    replace hB6 := chain hB6 hC8
    obtain ⟨_, yc, Y6, hyc, _⟩ := O6.below hC8
    have hycs : kn ≤ yc.size := by omega
    clear hC8 O6 hyc
    obtain ⟨x0, x1, x2⟩ := X6.three
    go_wp2_with fail
    refine (laws_markDisk _ _ _ d w8'' P6 I4 (by have := hsz.out; omega) hl).mono ?_
    rintro e w9 ⟨rfl, _, F9⟩
    have C9 := F9.blk C6 (.inl (by have := hsz.out; have := Z6.size; omega))
    have A9 := F9.blk A6 (.inl (by have := hsz.out; omega))
    have X9 := F9.blk X6 (.inr (Nat.le_refl _))
    have G9 := F9.blk G6 (.inr (by have := hsz.out; omega))
    have S9 := S6.frd F9 (by have := hsz.out; omega)
    have Y9 := F9.blk Y6 (.inr (by have := hsz.out; omega))
    have Z9 : Below w3.heap.size w3 w9 := Z6.trans (F9.low (by have := hsz.out; omega) (by have := hsz.out; have := Z6.size; omega))
    have hz9 := F9.size
    have hB9 : Below w.heap.size w w9 := hB6.trans (F9.low (by have := hsz.out; have := C6.lt; omega) (by have := hsz.out; have := hB6.size; omega))
    clear C6 A6 X6 G6 S6 Z6 P6 F9 hB6 x0 x1 x2 Y6 X9
    go_wp2_with fail
    refine (markI_from (markN d) W4.heap.size kn _ yc w9 Y9 hycs hkn4 (markN_le hl)).mono ?_
    rintro e w9' ⟨rfl, hgY⟩
    replace C9 := C9.grown hgY (by have := hsz.out; omega)
    replace A9 := A9.grown hgY (by have := hsz.out; omega)
    replace G9 := G9.grown hgY (by have := hsz.out; omega)
    replace S9 := S9.ofTyI hgY Y9
    replace Z9 := below_grown Z9 hgY (by have := hsz.out; omega)
    replace hB9 := below_grown hB9 hgY (by have := hsz.out; omega)
    have hz9' : w9.heap.size ≤ w9'.heap.size := hgY.size
    clear hgY Y9
    obtain ⟨KM, hKM⟩ : ∃ KM : Int, KM = ((markN d : Nat) : Int) + (kn : Int) := ⟨_, rfl⟩
    rw [← hKM]
    have hKM0 : ¬ KM < 0 := by omega
    clear hKM
    obtain ⟨a0, a1, a2⟩ := A9.three
    obtain ⟨g0, g1, g2⟩ := G9.three
    go_wp2_with fail
    refine (laws_eqDisk _ _ sd sd w9' S9.r.at.l (R3.below Z9).at.l hls hls).mono ?_
    rintro e w10 ⟨rfl, hB10⟩
    rw [hes]
    have C10 := C9.below hB10
    have A10 := A9.below hB10
    have G10 := G9.below hB10
    have S10 := S9.below hB10
    have Z10 := chain Z9 hB10
    have hz10 := hB10.size
    replace hB10 := chain hB9 hB10
    clear C9 A9 G9 S9 Z9 hB9 a0 a1 a2 g0 g1 g2
    obtain ⟨g0, g1, g2⟩ := G10.three
    go_wp2_with fail
    refine (laws_markDisk _ _ _ sd w10 S10.wr I5 (by have := hsz.out; omega) hls).mono ?_
    rintro e w11 ⟨rfl, M11, F11⟩
    have C11 := F11.blk C10 (.inl (by have := hsz.out; have := Z10.size; have := C10.lt; omega))
    have A11 := F11.blk A10 (.inl (by have := hsz.out; omega))
    have G11 := F11.blk G10 (.inr (Nat.le_refl _))
    have Z11 : Below w3.heap.size w3 w11 := Z10.trans (F11.low (by have := hsz.out; omega) (by have := hsz.out; have := Z10.size; omega))
    have hB11 : Below w.heap.size w w11 := hB10.trans (F11.low (by have := hsz.out; have := C10.lt; omega) (by have := hsz.out; have := hB10.size; omega))
    clear C10 A10 G10 S10 Z10 F11 hB10 g0 g1 g2
    obtain ⟨KS, hKS⟩ : ∃ KS : Int, KS = ((markN sd : Nat) : Int) := ⟨_, rfl⟩
    have hKH : Hid (KS = ((markN sd : Nat) : Int)) := hKS
    have hKS0 : ¬ KS < 0 := by omega
    have hKSe : (KS != KS) = false := by simp
    rw [← hKS]
    clear hKS
    obtain ⟨g0, g1, g2⟩ := G11.three
    go_wp2_with fail
    refine (laws_heldDisk _ sd w11 M11 hls).mono ?_
    rintro e w12 ⟨rfl, hB12⟩
    rw [← hKH.out]
    have C12 := C11.below hB12
    have A12 := A11.below hB12
    have G12 := G11.below hB12
    have M12 := M11.below hB12
    have Z12 := chain Z11 hB12
    replace hB12 := chain hB11 hB12
    clear C11 A11 G11 M11 Z11 hB11 g0 g1 g2
    obtain ⟨d0, d1, d2⟩ := C12.three
    go_wp2_with fail
    refine (laws_toDisk _ d _ (h.below hB12) hs).mono ?_
    rintro e w13 ⟨⟨v13, rfl, P13⟩, hB13⟩
    have A13 := A12.below hB13
    have G13 := G12.below hB13
    have M13 := M12.below hB13
    have Z13 := chain Z12 hB13
    replace hB13 := chain hB12 hB13
    clear C12 A12 G12 M12 Z12 hB12 d0 d1 d2
    go_wp2_with fail
    refine (laws_toInt64S ka kn kc keep w13 (hk.below hB13) hkn4).mono ?_
    rintro e w13' ⟨rfl, O13, hB13'⟩
    replace A13 := A13.below hB13'
    replace G13 := G13.below hB13'
    replace M13 := M13.below hB13'
    replace Z13 := chain Z13 hB13'
    replace P13 := P13.below hB13'
    replace hB13 := chain hB13 hB13'
    go_wp2_with fail
    refine (himpl w13' _ _ _ P13.at O13.sl).mono ?_
    rintro e w14 ⟨⟨v14, rfl, S14⟩, hB14⟩
    obtain ⟨la14, ln14, lc14, sa14, sn14, sc14, oa14, on14, oc14, rfl⟩ := S14.r.at.l.cells
    have hA14 : Below w14.heap.size w14 (w14.alloc (.cells #[.slice la14 ln14 lc14, .slice sa14 sn14 sc14, .slice oa14 on14 oc14] 27)) := by go_grown
    have hC14 := chain hB14 hA14
    have A14 := A13.below hC14
    have G14 := G13.below hC14
    have M14 := M13.below hC14
    have Z14 := chain Z13 hC14
    have S15 := S14.below hA14
    replace hB14 := chain hB13 hC14
    clear A13 G13 M13 Z13 hB13 hC14 S14 P13
    obtain ⟨a0, a1, a2⟩ := A14.three
    go_wp2_with fail
    generalize w14.alloc (.cells #[.slice la14 ln14 lc14, .slice sa14 sn14 sc14, .slice oa14 on14 oc14] 27) = W14 at *
    clear a0 a1 a2 hA14
    refine (laws_eqDisk _ _ sd sd W14 S15.r.at.l (R3.below Z14).at.l hls hls).mono ?_
    rintro e w15 ⟨rfl, hB15⟩
    rw [hes]
    have G15 := G14.below hB15
    have M15 := M14.below hB15
    replace hB15 := chain hB14 hB15
    clear A14 G14 M14 Z14 hB14 S15
    obtain ⟨g0, g1, g2⟩ := G15.three
    go_wp2_with fail
    refine (laws_heldDisk _ sd w15 M15 hls).mono ?_
    rintro e w16 ⟨rfl, hB16⟩
    rw [← hKH.out]
    replace hB16 := chain hB15 hB16
    clear G15 M15 hB15 g0 g1 g2
    go_wp2
    go_returns
    exact ⟨rfl, hB16⟩

set_option maxRecDepth 100000 in
theorem liftedCrash (os : Os) (started : os.Started) (H : Type) (enc : TypeId × Value → H) :
    ReturnsInHanded {} Try.checked os 9 .any (Rows.fnExactCrashSpec.pre6 enc Try.prog Try.f9 Rows.fnExactCrashRow.domain false) (Rows.fnExactCrashSpec.post enc Try.prog Try.f9 false true false false) := by
  refine returnsInHanded_of_change (C := Try.checked) own started (by kernel_rfl) Try.func9
    (ChangeSpec.witness6 (enc := enc) (C := Try.checked) false ⟨#[], #[.agg #[.slice none 0 0, .slice none 0 0, .slice none 0 0], .slice none 0 0, .int .i64 0], []⟩ 8 (by kernel_rfl) (by kernel_rfl) (by kernel_rfl) (by kernel_rfl)) ?_
  intro W base args ds gs before hval0 hW _ _
  have hval : ∀ (j : Nat) t v, Try.f9.params[j]? = some t → args[j]? = some v → Value.okWide Try.prog W .any base t v := hval0
  have hW' := hW
  obtain ⟨p, q, hA0, hV, rfl, _, _⟩ := hW
  have hA : DataW.TrodAll enc Try.prog W 0 (fun _ => true) true Try.f9.params.toList args.toList ds p := hA0
  rw [Try.params9] at hA hval
  obtain ⟨v0, vs0, d0, ds0, p0, q0, hargs, rfl, rfl, h0, r0⟩ := trodAll_cons hA
  obtain ⟨v1, vs1, d1, ds1, p1, q1, rfl, rfl, rfl, h1, r1⟩ := trodAll_cons r0
  obtain ⟨v2, vs2, d2, ds2, p2, q2, rfl, rfl, rfl, h2, r2⟩ := trodAll_cons r1
  obtain ⟨rfl, rfl, rfl⟩ := trodAll_nil r2
  obtain rfl : args = #[v0, v1, v2] := by cases args; simp_all
  obtain ⟨rfl, rfl⟩ := trodVars_none hV
  clear hA0 hval0
  obtain ⟨x2, rfl, rfl, rfl, wx2⟩ := open_int Try.underlying2 (hval 2 2 v2 rfl rfl) h2
  obtain ⟨ka, kn, kc, rfl⟩ := okWide_slice Try.underlying30 (hval 1 30 v1 rfl rfl)
  obtain ⟨hkm, keep, hK⟩ := open_int64s h1
  unfold maxLen at hkm
  simp only [List.append_nil] at hW'
  have hlt : ∀ x ∈ p0, x.block < W.heap.size := fun x hx => by simpa using hW'.lt x (by simp [hx])
  have hlt1 : ∀ x ∈ p1, x.block < W.heap.size := fun x hx => by simpa using hW'.lt x (by simp [hx])
  obtain ⟨q, hP, hb⟩ := open_disk (hval 0 50 v0 rfl rfl) h0
  refine (walkCrash v0 q ka kn kc keep x2 W hP hb hK (by omega)).mono fun e W' ⟨he, hB⟩ => ?_
  subst he
  have hargs : DataW.Trod enc Try.prog W' 0 (fun b => decide (b < W.heap.size)) true 50 v0 d0 p0 :=
    Below.trod laidOut (by kernel_rfl) (of_decide_eq_true (by kernel_rfl)) h0 hB hlt
  have hargs1 : DataW.Trod enc Try.prog W' 0 (fun b => decide (b < W.heap.size)) true 30 (.slice ka kn kc) d1 p1 :=
    Below.trod laidOut (by kernel_rfl) (of_decide_eq_true (by kernel_rfl)) h1 hB hlt1
  exact ⟨_, rfl, ⟨_, _, _, [], _, [], hW', trodAll_mk1 (shut_bool Try.underlying4 _), trodAll_cons_mk hargs (trodAll_cons_mk hargs1 (trodAll_cons_mk (shut_int Try.underlying2 wx2) trodAll_mk0)), rfl, hB.frame _, fun h => by cases h⟩⟩

theorem holdsCrash : Rows.FnExactCrashSaid :=
  OpenClaim.holds_of_wide 9 Try.f9 rfl rfl rfl rfl rfl rfl rfl ⟨rfl, rfl, rfl, rfl, rfl⟩ rfl rfl rfl rfl rfl (by kernel_rfl) Try.func9 (joined_of (by kernel_rfl) (by kernel_rfl) (by kernel_rfl) (by kernel_rfl) rfl rfl rfl (by kernel_rfl))
    (of_decide_eq_true (by kernel_rfl)) (by unfold Func.isWrapper; first | (rw [if_pos (by decide +kernel)]; kernel_rfl) | (rw [if_neg (by decide +kernel)]; exact ⟨rfl, rfl⟩))
    (fun os started H enc _ => liftedCrash os started H enc)
end Go.Proofs.Ytpobgjkmcmkkeaa
