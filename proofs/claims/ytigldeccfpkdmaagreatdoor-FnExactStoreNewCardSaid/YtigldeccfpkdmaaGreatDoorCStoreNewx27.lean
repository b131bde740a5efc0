/- A region, cut behind it: what it leaves in its slots, whatever came up first. StoreNew, by the program and by the model. -/
import Derived.Test.YtigldeccfpkdmaaGreatDoorCStoreNewx26
import Derived.Deep.DeepCutAuto
import Derived.Test.YtigldeccfpkdmaaGreatDoorCStoreNewx19
import Derived.Test.YtigldeccfpkdmaaGreatDoorCStoreNewx25
namespace Go.Proofs.YtigldeccfpkdmaaGreatDoor
open Go Go.RowKit Go.BigFrame
/-- What a region leaves: the slots' values and the world. -/
def CutQ (D : List Nat) (a0 : Act) (Φ : (Nat → Value) → World → Prop) : Exit → Act → World → Prop := fun e a u => e = .normal ∧ ∃ x, a = putAll x D a0 ∧ Φ x u
theorem region_cut {P : Program} {l : List Oper} {Q : Exit → Act → World → Prop} {id : Nat} {a0 : Act} {w : World} (S : World → Prop) (n : Nat) (D : List Nat) (Φ : (Nat → Value) → World → Prop) (hm : P.follows .mixedOrders = true) (hn : l.toArray.size = n)
    (h1 : wpAnyH P .any l.toArray (CutQ D a0 Φ) S n (Array.replicate n false) a0 w.drew) (h2 : ∀ x u, Φ x u → Q .normal (putAll x D a0) u) : (Code.region id l.toArray true).wp P Q a0 w := by
  refine Code.wp_mono ?_ (wp_region_heldH (S := S) n hm hn h1)
  rintro e a u ⟨rfl, x, rfl, hx⟩
  exact h2 x u hx
theorem cut_panic {D : List Nat} {a0 : Act} {Φ : (Nat → Value) → World → Prop} {x y : Act} : ∀ c (w : World), CutQ D a0 Φ (.panic c) x w → CutQ D a0 Φ (.panic c) y w := fun _ _ h => by cases h.1
theorem leaf_of {D : List Nat} {a0 a : Act} {Φ : (Nat → Value) → World → Prop} {u : World} (hA : a = putAll (fun k => a.eval (.tmp k)) D a0) (hΦ : Φ (fun k => a.eval (.tmp k)) u) : CutQ D a0 Φ .normal a u := ⟨rfl, _, hA, hΦ⟩
theorem takeC {P : Program} {D : List Nat} {a0 : Act} {Φ : (Nat → Value) → World → Prop} {md : Region.Mode} {S : World → Prop} {l : List Oper} {i : Nat} {oi : Oper} {v : Value} {fuel : Nat} {listed : Array Bool} {a : Act} {w : World} (hi : l[i]? = some oi)
    (hs : Region.noSelect l.toArray = true) (hf : Region.free md l.toArray listed i = true) (hr : (Region.ready md l.toArray listed).contains i = true)
    (hy : YieldsIf P l.toArray S oi v a) (hS : S w)
    (h : wpAnyH P md l.toArray (CutQ D a0 Φ) S fuel (listed.setIfInBounds i true) (a.put oi.dst v) w) : wpAnyH P md l.toArray (CutQ D a0 Φ) S (fuel + 1) listed a w :=
  takeL hi hs hf hr (fun c _ w h => cut_panic c w h) hy hS h
theorem twoLJ {P : Program} {Q : Exit → Act → World → Prop} {md : Region.Mode} {S : World → Prop} {l : List Oper} {i j : Nat} {o o' : Oper} {fuel : Nat} {listed : Array Bool} {a : Act} {w : World} (hr : Region.ready md l.toArray listed = [i, j]) (hi : l[i]? = some o) (hj : l[j]? = some o')
    (h : ∀ K' : Act → World → Prop, Shut (∀ a w, S w → (S w → wpAnyH P md l.toArray Q S fuel (listed.setIfInBounds i true) a w) → K' a w) → if Region.wanted o (yielded l.toArray a.tmps) = true then Oper.wp P o a w K' Q else K' (a.put o.dst undef) w)
    (h' : ∀ K' : Act → World → Prop, Shut (∀ a w, S w → (S w → wpAnyH P md l.toArray Q S fuel (listed.setIfInBounds j true) a w) → K' a w) → if Region.wanted o' (yielded l.toArray a.tmps) = true then Oper.wp P o' a w K' Q else K' (a.put o'.dst undef) w) :
    wpAnyH P md l.toArray Q S (fuel + 1) listed a w :=
  wpAnyH_ready hr (by simp) (AllReadyH.cons (by simpa using hi) h (AllReadyH.cons (by simpa using hj) h' AllReadyH.nil))
end Go.Proofs.YtigldeccfpkdmaaGreatDoor
namespace Go.Proofs.YtigldeccfpkdmaaGreatDoor
open Go Go.RowKit Go.BigFrame Go.Shelf
theorem dec_0 : decB 0 = ⟨#[48]⟩ := by
  unfold decB Lib.itoa
  rw [if_neg (by omega)]
  rw [show (0 : Int).toNat = 0 from rfl, Lib.decDigits]
  rfl
theorem impl_slotOf0 (w : World) (ht : TabP w) :
    Calls Tryz.prog 75 #[.int .i64 0] w fun e w' => e = .returned (.string s0N) ∧ Below w.heap.size w w' := by
  have e1 : ¬ 9223372036854775807 < (⟨#[115]⟩ : ByteArray).size + (⟨#[48]⟩ : ByteArray).size := by decide
  go_enter Tryz.func75, Tryz.ntmps75
  go_wp2_with fail
  refine (impl_decimal 0 _ (by omega) (by omega) ht).mono ?_
  rintro e w1 ⟨rfl, hB1⟩
  rw [dec_0]
  go_wp2
  go_returns
  exact ⟨rfl, hB1⟩
/-- A store's cells. -/
def stC10 (l s o : Value) (size next num : Int) : Array Value := #[l, s, o, .int .i64 size, .int .i64 next, .slice none 0 0, .slice none 0 0, .slice none 0 0, .slice none 0 0, .int .i64 num]
def stZ : Value := .agg (stC10 (.slice none 0 0) (.slice none 0 0) (.slice none 0 0) 0 0 0)
def put10 (w : World) (b : Nat) (x0 x1 x2 x3 x4 x5 x6 x7 x8 x9 : Value) : World := (((((((((w.setCell ⟨b, 0, none⟩ x0).setCell ⟨b, 1, none⟩ x1).setCell ⟨b, 2, none⟩ x2).setCell ⟨b, 3, none⟩ x3).setCell ⟨b, 4, none⟩ x4).setCell ⟨b, 5, none⟩ x5).setCell ⟨b, 6, none⟩ x6).setCell ⟨b, 7, none⟩ x7).setCell ⟨b, 8, none⟩ x8).setCell ⟨b, 9, none⟩ x9
theorem blk_put10 {w : World} {b : Nat} {c0 c1 c2 c3 c4 c5 c6 c7 c8 c9 : Value} {t : TypeId} (h : Blk w b #[c0, c1, c2, c3, c4, c5, c6, c7, c8, c9] t) (x0 x1 x2 x3 x4 x5 x6 x7 x8 x9 : Value) : Blk (put10 w b x0 x1 x2 x3 x4 x5 x6 x7 x8 x9) b #[x0, x1, x2, x3, x4, x5, x6, x7, x8, x9] t := by
  unfold put10
  have := (((((((((h.set 0 x0).set 1 x1).set 2 x2).set 3 x3).set 4 x4).set 5 x5).set 6 x6).set 7 x7).set 8 x8).set 9 x9
  simpa using this
theorem blk_ten {w : World} {b : Nat} {c0 c1 c2 c3 c4 c5 c6 c7 c8 c9 : Value} {t : TypeId} (h : Blk w b #[c0, c1, c2, c3, c4, c5, c6, c7, c8, c9] t) :
    (w.cell? ⟨b, 0, none⟩ = some c0 ∧ w.cell? ⟨b, 1, none⟩ = some c1 ∧ w.cell? ⟨b, 2, none⟩ = some c2 ∧ w.cell? ⟨b, 3, none⟩ = some c3 ∧ w.cell? ⟨b, 4, none⟩ = some c4 ∧ w.cell? ⟨b, 5, none⟩ = some c5 ∧ w.cell? ⟨b, 6, none⟩ = some c6 ∧ w.cell? ⟨b, 7, none⟩ = some c7 ∧ w.cell? ⟨b, 8, none⟩ = some c8 ∧ w.cell? ⟨b, 9, none⟩ = some c9) ∧
    w.frozen? ⟨b, 0, none⟩ = false ∧ w.frozen? ⟨b, 1, none⟩ = false ∧ w.frozen? ⟨b, 2, none⟩ = false ∧ w.frozen? ⟨b, 3, none⟩ = false ∧ w.frozen? ⟨b, 4, none⟩ = false ∧ w.frozen? ⟨b, 5, none⟩ = false ∧ w.frozen? ⟨b, 6, none⟩ = false ∧ w.frozen? ⟨b, 7, none⟩ = false ∧ w.frozen? ⟨b, 8, none⟩ = false ∧ w.frozen? ⟨b, 9, none⟩ = false :=
  ⟨⟨h.cell 0, h.cell 1, h.cell 2, h.cell 3, h.cell 4, h.cell 5, h.cell 6, h.cell 7, h.cell 8, h.cell 9⟩, h.frozen 0, h.frozen 1, h.frozen 2, h.frozen 3, h.frozen 4, h.frozen 5, h.frozen 6, h.frozen 7, h.frozen 8, h.frozen 9⟩
theorem grown_put10 (w : World) (b : Nat) (x0 x1 x2 x3 x4 x5 x6 x7 x8 x9 : Value) : w.grownBy (put10 w b x0 x1 x2 x3 x4 x5 x6 x7 x8 x9) (some b) := grown_set (grown_set (grown_set (grown_set (grown_set (grown_set (grown_set (grown_set (grown_set (grown_set (World.grownBy.refl _ _) _ _) _ _) _ _) _ _) _ _) _ _) _ _) _ _) _ _) _ _
theorem numO_new {size : Int} (h : newB size = true) : NumO (poolN size) := numO_of (poolN_ok h)
theorem op_small {F : ByteArray} (h : F.size ≤ 200000) : StrD (opN F) ∧ (opN F).d.size ≤ 10000000 := ⟨⟨by show (2 : Nat) ≤ 9223372036854775807; omega, by show (0 : Nat) ≤ 9223372036854775807; omega, by show F.size ≤ _; omega⟩, by show F.size ≤ _; omega⟩
theorem newD_dim {F : ByteArray} (h : F.size ≤ 200000) : DimD ⟨[⟨s0N, F⟩], [], [opN F]⟩ := by
  refine ⟨⟨by simp, ?_⟩, ⟨by simp, ?_⟩, by simp, ?_⟩
  · intro x hx
    simp at hx
    subst hx
    exact ⟨by show (2 : Nat) ≤ 9223372036854775807; omega, by show F.size ≤ _; omega⟩
  · simp [BndF]
  · intro o ho
    simp at ho
    subst ho
    exact op_small h
theorem noD_at (w : World) : DiskAt w (.agg #[.slice none 0 0, .slice none 0 0, .slice none 0 0]) noD := (noD_R 0 w).at
theorem noD_dim : DimD noD := by
  refine ⟨⟨by simp [noD], ?_⟩, ⟨by simp [noD], ?_⟩, by simp [noD], ?_⟩
  · simp [noD, BndF]
  · simp [noD, BndF]
  · simp [noD]
set_option maxHeartbeats 4000000 in
set_option maxRecDepth 100000 in
theorem spec_StoreNew (size : Int) (w : World) :
    Calls Tryz.prog 26 #[.int .i64 size] w fun e w' => ((newB size = false ∧ e = .returned (.tuple #[stZ, .bool false])) ∨ (newB size = true ∧ ∃ la ln lc sa sn sc oa on oc, e = .returned (.tuple #[.agg (stC10 (.slice la ln lc) (.slice sa sn sc) (.slice oa on oc) size 1 0), .bool true]) ∧ DiskR (w.heap.size + 1) w' (.agg #[.slice la ln lc, .slice sa sn sc, .slice oa on oc]) (newD (newF size)))) ∧ Below w.heap.size w w' := by
  have C := Blk.new w #[.slice none 0 0, .slice none 0 0, .slice none 0 0, .int .i64 0, .int .i64 0, .slice none 0 0, .slice none 0 0, .slice none 0 0, .slice none 0 0, .int .i64 0] 58
  have hB0 : Below w.heap.size w (w.alloc (.cells #[.slice none 0 0, .slice none 0 0, .slice none 0 0, .int .i64 0, .int .i64 0, .slice none 0 0, .slice none 0 0, .slice none 0 0, .slice none 0 0, .int .i64 0] 58)) := by go_grown
  go_enter Tryz.func26, Tryz.ntmps26
  go_wp2_with fail
  generalize w.alloc (.cells #[.slice none 0 0, .slice none 0 0, .slice none 0 0, .int .i64 0, .int .i64 0, .slice none 0 0, .slice none 0 0, .slice none 0 0, .slice none 0 0, .int .i64 0] 58) = W0 at *
  refine (spec_PoolNew size W0).mono ?_
  rintro e w1 ⟨rfl, hB1⟩
  replace C := C.below hB1
  replace hB1 := chain hB0 hB1
  clear hB0
  have hw1 := C.lt
  cases hn : newB size
  · rw [if_neg (by simp)]
    unfold poolV
    go_upto_region 3 with fail
    have A1 : Below w1.heap.size w1 (w1.alloc (.cells #[.int .i64 0, .int .i64 0, .slice none 0 0, .slice none 0 0, .slice none 0 0, .slice none 0 0] 26)) := by go_grown
    replace C := C.below A1
    replace hB1 := chain hB1 A1
    generalize w1.alloc (.cells #[.int .i64 0, .int .i64 0, .slice none 0 0, .slice none 0 0, .slice none 0 0, .slice none 0 0] 26) = W1 at *
    clear A1 hw1
    obtain ⟨⟨c0, c1, c2, c3, c4, c5, c6, c7, c8, c9⟩, f0, f1, f2, f3, f4, f5, f6, f7, f8, f9⟩ := blk_ten C
    have CH : Hid (Blk W1 w.heap.size #[.slice none 0 0, .slice none 0 0, .slice none 0 0, .int .i64 0, .int .i64 0, .slice none 0 0, .slice none 0 0, .slice none 0 0, .slice none 0 0, .int .i64 0] 58) := C
    clear C
    go_wp2
    have E := blk_put10 CH.out (.slice none 0 0) (.slice none 0 0) (.slice none 0 0) (.int .i64 0) (.int .i64 0) (.slice none 0 0) (.slice none 0 0) (.slice none 0 0) (.slice none 0 0) (.int .i64 0)
    have hB8 := below_grown hB1 (grown_put10 W1 w.heap.size (.slice none 0 0) (.slice none 0 0) (.slice none 0 0) (.int .i64 0) (.int .i64 0) (.slice none 0 0) (.slice none 0 0) (.slice none 0 0) (.slice none 0 0) (.int .i64 0)) (Nat.le_refl _)
    change bodyPost _ _ _ _ _ (put10 W1 w.heap.size (.slice none 0 0) (.slice none 0 0) (.slice none 0 0) (.int .i64 0) (.int .i64 0) (.slice none 0 0) (.slice none 0 0) (.slice none 0 0) (.slice none 0 0) (.int .i64 0))
    generalize put10 W1 w.heap.size (.slice none 0 0) (.slice none 0 0) (.slice none 0 0) (.int .i64 0) (.int .i64 0) (.slice none 0 0) (.slice none 0 0) (.slice none 0 0) (.slice none 0 0) (.int .i64 0) = W8 at *
    refine bodyPost_ret (results_cell_tmpJ rfl _ W8 w.heap.size _ _ _ _ _ rfl E Tryz.underlying58 rfl (by kernel_rfl) rfl) rfl ?_
    exact ⟨.inl ⟨hn, rfl⟩, hB8⟩
  · rw [if_pos rfl]
    unfold poolV
    go_upto_region 4 with fail
    have A1 : Below w1.heap.size w1 (w1.alloc (.cells #[.int .i64 size, .int .i64 1, .slice none 0 0, .slice none 0 0, .slice none 0 0, .slice none 0 0] 26)) := by go_grown
    have P := Blk.new w1 #[.int .i64 size, .int .i64 1, .slice none 0 0, .slice none 0 0, .slice none 0 0, .slice none 0 0] 26
    replace C := C.below A1
    replace hB1 := chain hB1 A1
    generalize w1.alloc (.cells #[.int .i64 size, .int .i64 1, .slice none 0 0, .slice none 0 0, .slice none 0 0, .slice none 0 0] 26) = W1 at *
    clear A1
    obtain ⟨d0, d1, d2, d3, d4, d5⟩ := P.six
    go_wp2_with fail
    refine (spec_l9Super 1 _ (poolN size) 0 W1 (poolN_at 1 W1 size) (poolN_dim size) (numO_new hn) (by omega) (by omega)).mono ?_
    rintro e w2 ⟨rfl, hB2⟩
    have hF := newF_size hn
    obtain ⟨F, hFe⟩ : ∃ F, Hid (newF size = F) := ⟨_, rfl⟩
    rw [show superC 0 (textW (poolN size)) = newF size from rfl, hFe.out]
    rw [hFe.out] at hF
    replace C := C.below hB2
    replace P := P.below hB2
    replace hB2 := chain hB1 hB2
    clear hB1 d0 d1 d2 d3 d4 d5
    go_wp2_with fail
    refine (spec_l8ActS _ noD (opN F) w2 (noD_at w2) noD_dim (by decide) (op_small hF)).mono ?_
    rintro e w3 ⟨⟨v3, rfl, R3, _⟩, hB3⟩
    rw [act_new hF] at R3
    rw [act_new hF]
    obtain ⟨la, ln, lc, sa, sn, sc, oa, on, oc, rfl⟩ := R3.at.l.cells
    replace C := C.below hB3
    replace P := P.below hB3
    replace hB3 := chain hB2 hB3
    clear hB2
    go_upto_region 5 with fail
    have A3 : Below w3.heap.size w3 (w3.alloc (.cells #[.slice la ln lc, .slice sa sn sc, .slice oa on oc] 52)) := by go_grown
    have D := Blk.new w3 #[.slice la ln lc, .slice sa sn sc, .slice oa on oc] 52
    have hw3 := C.lt
    replace C := (C.below A3).drew
    replace P := (P.below A3).drew
    replace D := D.drew
    replace R3 := (R3.below A3).below (Below.refl _ _).drew
    replace hB3 := (chain hB3 A3).drew
    have hS0 : (fun u => (u.cell? ⟨w3.heap.size, 0, none⟩ = some (.slice la ln lc) ∧ u.cell? ⟨w3.heap.size, 1, none⟩ = some (.slice sa sn sc) ∧ u.cell? ⟨w3.heap.size, 2, none⟩ = some (.slice oa on oc)) ∧ u.cell? ⟨w1.heap.size, 0, none⟩ = some (.int .i64 size) ∧ u.cell? ⟨w1.heap.size, 1, none⟩ = some (.int .i64 1) ∧ u.cell? ⟨w1.heap.size, 2, none⟩ = some (.slice none 0 0) ∧ u.cell? ⟨w1.heap.size, 3, none⟩ = some (.slice none 0 0) ∧ u.cell? ⟨w1.heap.size, 4, none⟩ = some (.slice none 0 0) ∧ u.cell? ⟨w1.heap.size, 5, none⟩ = some (.slice none 0 0)) (w3.alloc (.cells #[.slice la ln lc, .slice sa sn sc, .slice oa on oc] 52)).drew := ⟨D.three, P.six⟩
    refine wp_region_heldH (S := (fun u => (u.cell? ⟨w3.heap.size, 0, none⟩ = some (.slice la ln lc) ∧ u.cell? ⟨w3.heap.size, 1, none⟩ = some (.slice sa sn sc) ∧ u.cell? ⟨w3.heap.size, 2, none⟩ = some (.slice oa on oc)) ∧ u.cell? ⟨w1.heap.size, 0, none⟩ = some (.int .i64 size) ∧ u.cell? ⟨w1.heap.size, 1, none⟩ = some (.int .i64 1) ∧ u.cell? ⟨w1.heap.size, 2, none⟩ = some (.slice none 0 0) ∧ u.cell? ⟨w1.heap.size, 3, none⟩ = some (.slice none 0 0) ∧ u.cell? ⟨w1.heap.size, 4, none⟩ = some (.slice none 0 0) ∧ u.cell? ⟨w1.heap.size, 5, none⟩ = some (.slice none 0 0))) 6 (by kernel_rfl) rfl ?_
    generalize (w3.alloc (.cells #[.slice la ln lc, .slice sa sn sc, .slice oa on oc] 52)).drew = W3 at *
    clear A3
    refine takeQ (i := 0) (v := ?vq1) rfl (by kernel_rfl) (fun _ _ _ h => h) (by rfl) ?hq1 (by assumption) ?rq1
    case hq1 => (intro u hu; (try dsimp only at hu); go_simp <;> with_reducible rfl)
    try simp only [Act.put, lsA, lsB, lsC]
    refine takeQ (i := 2) (v := ?vq2) rfl (by kernel_rfl) (fun _ _ _ h => h) (by rfl) ?hq2 (by assumption) ?rq2
    case hq2 => (intro u hu; (try dsimp only at hu); go_simp <;> with_reducible rfl)
    try simp only [Act.put, lsA, lsB, lsC]
    refine oneL (i := 1) (by kernel_rfl) rfl (fun K hK => ?_)
    go_simp
    refine (spec_Sync _ _ W3 R3.at (newD_dim hF)).mono ?_
    rintro e w4 ⟨⟨v4, rfl, R4⟩, hB4⟩
    rw [sync_new hF] at R4
    obtain ⟨la4, ln4, lc4, sa4, sn4, sc4, oa4, on4, oc4, rfl⟩ := R4.at.l.cells
    have hlt := D.lt
    replace C := C.below hB4
    replace P := P.below hB4
    replace D := D.below hB4
    replace hB4 := chain hB3 hB4
    clear hB3 R3
    dsimp only
    refine hK.out _ _ ⟨D.three, P.six⟩ (fun hHeld => ?_)
    clear hK K
    try simp only [Act.put, lsA, lsB, lsC]
    refine takeQ (i := 3) (v := ?vq3) rfl (by kernel_rfl) (fun _ _ _ h => h) (by rfl) ?hq3 (by assumption) ?rq3
    case hq3 => (intro u hu; (try dsimp only at hu); go_simp <;> with_reducible rfl)
    try simp only [Act.put, lsA, lsB, lsC]
    obtain ⟨⟨c0, c1, c2, c3, c4, c5, c6, c7, c8, c9⟩, f0, f1, f2, f3, f4, f5, f6, f7, f8, f9⟩ := blk_ten C
    refine oneL (i := 4) (by kernel_rfl) rfl (fun K hK => ?_)
    go_simp
    have hwW : w.heap.size ≤ W3.heap.size := by omega
    have E := blk_put10 C (.slice la4 ln4 lc4) (.slice sa4 sn4 sc4) (.slice oa4 on4 oc4) (.int .i64 size) (.int .i64 1) (.slice none 0 0) (.slice none 0 0) (.slice none 0 0) (.slice none 0 0) (.int .i64 0)
    have hg8 := grown_put10 w4 w.heap.size (.slice la4 ln4 lc4) (.slice sa4 sn4 sc4) (.slice oa4 on4 oc4) (.int .i64 size) (.int .i64 1) (.slice none 0 0) (.slice none 0 0) (.slice none 0 0) (.slice none 0 0) (.int .i64 0)
    have hB8 := below_grown hB4 hg8 (Nat.le_refl _)
    have P8 := P.grown hg8 (by omega)
    have D8 := D.grown hg8 (by omega)
    have R8 := (R4.mono (show w.heap.size + 1 ≤ W3.heap.size + 1 by omega)).off hg8 (by omega)
    change K _ (put10 w4 w.heap.size (.slice la4 ln4 lc4) (.slice sa4 sn4 sc4) (.slice oa4 on4 oc4) (.int .i64 size) (.int .i64 1) (.slice none 0 0) (.slice none 0 0) (.slice none 0 0) (.slice none 0 0) (.int .i64 0))
    generalize put10 w4 w.heap.size (.slice la4 ln4 lc4) (.slice sa4 sn4 sc4) (.slice oa4 on4 oc4) (.int .i64 size) (.int .i64 1) (.slice none 0 0) (.slice none 0 0) (.slice none 0 0) (.slice none 0 0) (.int .i64 0) = W8 at *
    refine hK.out _ _ ⟨D8.three, P8.six⟩ (fun hHeld => ?_)
    clear hK K
    try simp only [Act.put, lsA, lsB, lsC]
    clear c0 c1 c2 c3 c4 c5 c6 c7 c8 c9 f0 f1 f2 f3 f4 f5 f6 f7 f8 f9
    refine takeQ (i := 5) (v := ?vq4) rfl (by kernel_rfl) (fun _ _ _ h => h) (by rfl) ?hq4 (by assumption) ?rq4
    case hq4 => (intro u hu; (try dsimp only at hu); go_simp <;> with_reducible rfl)
    try simp only [Act.put, lsA, lsB, lsC]
    refine wpAnyH_done (by kernel_rfl) ?_ _
    go_wp2
    refine bodyPost_ret (results_cell_tmpJ rfl _ W8 w.heap.size _ _ _ _ _ rfl E Tryz.underlying58 rfl (by kernel_rfl) rfl) rfl ?_
    exact ⟨.inr ⟨hn, _, _, _, _, _, _, _, _, _, rfl, by rw [hFe.out]; exact R8⟩, hB8⟩
end Go.Proofs.YtigldeccfpkdmaaGreatDoor
