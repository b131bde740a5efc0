/- A new store's disk: plain. A new pool, and the commitment of it. A commitment's bytes, by the program. Copies of a disk, by the program. Do and Sync, by the program. The laws' marks of texts, at a number that is told by an equation. -/
import Derived.Test.YtigldeccfpkdmaaGreatDoorCStoreNewx24
import Derived.Test.YtigldeccfpkdmaaGreatDoorCStoreNewx17
import Derived.Test.YtigldeccfpkdmaaGreatDoorCStoreNewx13
import Derived.Test.YtigldeccfpkdmaaGreatDoorProg
import Derived.Test.YtigldeccfpkdmaaGreatDoorCStoreNewx02
namespace Go.Proofs.YtigldeccfpkdmaaGreatDoor
open Go Go.RowKit Go.BigFrame
def s0N : ByteArray := ⟨#[115, 48]⟩
def opN (F : ByteArray) : Dp := ⟨1, s0N, ⟨#[]⟩, F⟩
def newD (F : ByteArray) : Dk := ⟨[⟨s0N, F⟩], [⟨s0N, F⟩], []⟩
theorem files_new {F : ByteArray} (h : F.size ≤ 200000) : filesB [⟨s0N, F⟩] = true := by
  unfold filesB
  have h1 : fgo none [⟨s0N, F⟩] = true := by
    simp only [fgo]
    decide
  rw [h1]
  simp [sumB, h]
theorem form_new (F : ByteArray) : formB (opN F) = true := by
  unfold formB opN
  have h1 : nmB s0N = true := by decide
  have h2 : emB ⟨#[]⟩ = true := by unfold emB; simp
  simp [h1, h2]
theorem do_new (F : ByteArray) : doF [] (opN F) = ([⟨s0N, F⟩], true) := rfl
theorem act_new {F : ByteArray} (h : F.size ≤ 200000) : actD noD (opN F) = (⟨[⟨s0N, F⟩], [], [opN F]⟩, 0) := by
  unfold actD
  rw [form_new]
  simp only [noD, do_new, files_new h]
  simp
theorem sync_new {F : ByteArray} (h : F.size ≤ 200000) : syncD ⟨[⟨s0N, F⟩], [], [opN F]⟩ = newD F := by
  refine syncD_yes ?_
  have h2 : runF [] [opN F] = some [⟨s0N, F⟩] := by
    rw [runF, do_new, form_new, files_new h]
    rfl
  unfold diskB
  simp only [h2, files_new h]
  have h3 : filesB [] = true := by decide
  simp [h3, eqFls_refl]
end Go.Proofs.YtigldeccfpkdmaaGreatDoor
namespace Go.Proofs.YtigldeccfpkdmaaGreatDoor
open Go Go.RowKit Go.BigFrame Go.Shelf
def poolN (size : Int) : Po := ⟨size, 1, [], [], [], []⟩
theorem poolN_at (B : Nat) (w : World) (size : Int) : PoolAt B w (poolV size 1) (poolN size) := by
  have e : ∀ {α : Type} {cs : α → List Value} {sz : Nat}, SlAt cs sz w none 0 ([] : List α) := fun {α cs sz} => ⟨rfl, fun i x hx => by simp at hx⟩
  have hd : Hd B none 0 0 := ⟨Nat.le_refl _, Nat.zero_le _, fun _ => ⟨fun _ => rfl, fun ad e => by cases e⟩⟩
  have sf : Sf B w none := fun _ ad e => by cases e
  exact ⟨none, 0, 0, none, 0, 0, none, 0, 0, none, 0, 0, rfl, ⟨e, hd, sf⟩, ⟨⟨rfl, fun i x hx => by simp [poolN] at hx⟩, hd⟩, ⟨e, hd, sf⟩, e, hd, sf⟩
theorem poolN_ok {size : Int} (h : newB size = true) : poolB (poolN size) = true := by
  simp only [newB, Bool.and_eq_true, decide_eq_true_eq] at h
  have h1 : spaceOkB size [] = true := by simp [spaceOkB, xgo, h]
  have h2 : poolB (poolN size) = spaceOkB size [] := by
    unfold poolB poolN
    simp only [h1]
    have e : ∀ b : Bool, b = true → (true && decide ((1 : Int) ≤ 1) && decide ((1 : Int) ≤ 1000000000) && volsB 1 [] [] && namesB [] && b && addrB [] ([] ++ [])) = true := fun b hb => by subst hb; decide
    refine e _ ?_
    rw [show flushedO [] [] = some [] from rfl]
    rfl
  rw [h2, h1]
theorem poolN_dim (size : Int) : DimP (poolN size) := by
  unfold DimP poolN Strs StrV StrC
  simp
def newF (size : Int) : ByteArray := superC 0 (textW (poolN size))
theorem newF_o {size : Int} (h : newB size = true) : superO 0 (poolN size) = newF size := superO_yes (by omega) (by omega) (poolN_ok h) rfl
theorem newF_size {size : Int} (h : newB size = true) : (newF size).size ≤ 200000 := by
  simp only [newB, Bool.and_eq_true, decide_eq_true_eq] at h
  have d1 := decB_size (n := size) (by omega) (by omega)
  have d2 := decB_size (n := 1) (by omega) (by omega)
  have d3 := decB_size (n := 0) (by omega) (by omega)
  have t : (textW (poolN size)).length ≤ 40 := by
    have h1 := word_lenT (hdW (poolN size))
    have h2 : (textW (poolN size)).length = (wordL (hdW (poolN size))).length + 1 := by
      unfold textW lineL poolN exsW volsW ctsW
      simp
    rw [h2]
    have h3 : (⟨#[112, 111, 111, 108]⟩ : ByteArray).size = 4 := rfl
    simp [hdW, poolN, h3] at h1 ⊢
    omega
  have b : (bodyC 0 (textW (poolN size))).length ≤ 60 := by
    unfold bodyC
    simp at t ⊢
    omega
  unfold newF superC
  rw [app_size, app_size, hiB, loB, strOfNums_size, strOfNums_size]
  have : ((⟨(bodyC 0 (textW (poolN size))).toArray⟩ : ByteArray).size) = (bodyC 0 (textW (poolN size))).length := by show (bodyC 0 (textW (poolN size))).toArray.size = _; simp
  rw [this]
  simp
  omega
end Go.Proofs.YtigldeccfpkdmaaGreatDoor
namespace Go.Proofs.YtigldeccfpkdmaaGreatDoor
open Go Go.RowKit Go.BigFrame Go.Shelf
theorem text_ne (p : Po) : ¬ (⟨(textW p).toArray⟩ : ByteArray).toList = [] := by
  have h : textW p ≠ [] := by unfold textW lineL; simp
  rw [ByteArray.toList_eq]
  simpa using h
theorem emp_no {T : ByteArray} (h : ¬ T.toList = []) : T.toList.isEmpty = false := by
  cases hc : T.toList with
  | nil => exact absurd hc h
  | cons x l => rfl
set_option maxHeartbeats 4000000 in
set_option maxRecDepth 100000 in
theorem impl_SuperText (B0 : Nat) (v : Value) (p : Po) (n : Int) (w : World) (h : PoolAt B0 w v p) (hd : DimP p) (hN : poolB p = true → NumO p) (ht : TabP w) (hg : 9 ≤ w.heap.size) :
    Calls Tryz.prog 17 #[.int .i64 n, v] w fun e w' => e = .returned (.string (superO n p)) ∧ Below w.heap.size w w' := by
  have hPA := h
  obtain ⟨ea, en, ec, va, vn, vc, ra, rn, rc, la, ln, lc, rfl, _, _, _, h4, _⟩ := h
  have hlen : Hid (p.lt.length = ln) := h4.len
  clear h4
  have C := Blk.new w #[.int .i64 p.size, .int .i64 p.next, .slice ea en ec, .slice va vn vc, .slice ra rn rc, .slice la ln lc] 26
  have hBw : Below w.heap.size w (w.alloc (.cells #[.int .i64 p.size, .int .i64 p.next, .slice ea en ec, .slice va vn vc, .slice ra rn rc, .slice la ln lc] 26)) := by go_grown
  have kt := fun (u : World) (hu : Below w.heap.size w u) => impl_PoolText B0 _ p u (hPA.below hu) hd hN (tab_low ht hu hg) (by have := hu.size; omega)
  obtain ⟨T, hT⟩ : ∃ z, Hid (textO p = z) := ⟨_, rfl⟩
  rw [hT.out] at kt
  by_cases hx : (0 ≤ n ∧ n ≤ 1000000000) ∧ poolB p = true ∧ p.lt = []
  · obtain ⟨⟨h0, h1⟩, hp, hl⟩ := hx
    have hln : ln = 0 := by rw [← hlen.out, hl]; rfl
    subst hln
    have hTw : Hid (T = ⟨(textW p).toArray⟩) := by show _ = _; rw [← hT.out]; unfold textO; rw [hp]; rfl
    have hT0 : ¬ T.toList = [] := by rw [hTw.out]; exact text_ne p
    have hT1 := emp_no hT0
    have hTs : T.size ≤ 1000000 := by rw [hTw.out]; show (textW p).toArray.size ≤ _; simpa using (hN hp).len
    obtain ⟨dn, hdn⟩ : ∃ zz, Hid (decB n = zz) := ⟨_, rfl⟩
    have hdl : dn.size ≤ 13 := by rw [← hdn.out]; exact decB_size (by omega) (by omega)
    obtain ⟨b, hb⟩ : ∃ z, Hid (z = dn ++ ⟨#[10]⟩ ++ T) := ⟨_, rfl⟩
    have hbb : Hid (b = ⟨(bodyC n (textW p)).toArray⟩) := by show _ = _; rw [hb.out, body_eq hdn.out hTw.out.symm]
    have hbs : b.size ≤ 1000014 := by
      rw [hbb.out]
      show (bodyC n (textW p)).toArray.size ≤ _
      simpa using body_len h0 h1 (hN hp).len
    have e1 : ¬ 9223372036854775807 < dn.size + (⟨#[10]⟩ : ByteArray).size := by show ¬ _ < _ + 1; omega
    have e2 : ¬ 9223372036854775807 < dn.size + (⟨#[10]⟩ : ByteArray).size + T.size := by show ¬ _ < _ + 1 + _; omega
    have hfin : Hid (superO n p = hiB b.size ++ b ++ loB (crcS b.data.toList)) := by
      show _ = _
      rw [superO_yes h0 h1 hp hl]
      unfold superC
      rw [hbb.out]
      have : ((⟨(bodyC n (textW p)).toArray⟩ : ByteArray).size) = (bodyC n (textW p)).length := by show (bodyC n (textW p)).toArray.size = _; simp
      rw [this]
    generalize superO n p = R at *
    go_enter Tryz.func17, Tryz.ntmps17
    go_wp2_with fail
    generalize w.alloc (.cells #[.int .i64 p.size, .int .i64 p.next, .slice ea en ec, .slice va vn vc, .slice ra rn rc, .slice la 0 lc] 26) = W at *
    refine (kt W hBw).mono ?_
    rintro e w1 ⟨rfl, hB1⟩
    have c5 := (C.below hB1).cell 5
    replace hB1 := chain hBw hB1
    clear C hBw kt
    go_wp2_with fail
    refine (impl_decimal n _ (by omega) (by omega) (tab_low ht hB1 hg)).mono ?_
    rintro e w2 ⟨rfl, hB2⟩
    rw [hdn.out]
    replace hB2 := chain hB1 hB2
    go_wp2_with fail
    have hsz : (dn.size : Int) + 1 + T.size = b.size := by
      rw [hb.out, app_size, app_size]
      show _ = ((dn.size + 1 + T.size : Nat) : Int)
      omega
    rw [hsz, ← hb.out]
    clear hsz
    refine (impl_highestFirst b.size _ ⟨by omega, by omega⟩).mono ?_
    rintro e w3 ⟨rfl, hB3⟩
    replace hB3 := chain hB2 hB3
    obtain ⟨H, hH⟩ : ∃ z, Hid (hiB b.size = z) := ⟨_, rfl⟩
    obtain ⟨L, hL⟩ : ∃ z, Hid (loB (crcS b.data.toList) = z) := ⟨_, rfl⟩
    have e3 : ¬ 9223372036854775807 < H.size + b.size := by
      have : H.size = 4 := by rw [← hH.out, hiB, strOfNums_size]; rfl
      omega
    have e4 : ¬ 9223372036854775807 < H.size + b.size + L.size := by
      have : H.size = 4 := by rw [← hH.out, hiB, strOfNums_size]; rfl
      have : L.size = 4 := by rw [← hL.out, loB, strOfNums_size]; rfl
      omega
    rw [hH.out, hL.out] at hfin
    rw [hH.out]
    go_wp2_with fail
    refine (impl_checksum b _ (by omega)).mono ?_
    rintro e w4 ⟨rfl, rfl⟩
    go_wp2_with fail
    refine (impl_lowestFirst (crcS b.data.toList) _ (bits_u32 _ _ _)).mono ?_
    rintro e w5 ⟨rfl, hB5⟩
    rw [hL.out]
    go_wp2
    go_returns
    exact ⟨by rw [hfin.out]; rfl, chain hB3 hB5⟩
  · rw [superO_no hx]
    go_enter Tryz.func17, Tryz.ntmps17
    go_wp2_with fail
    generalize w.alloc (.cells #[.int .i64 p.size, .int .i64 p.next, .slice ea en ec, .slice va vn vc, .slice ra rn rc, .slice la ln lc] 26) = W at *
    refine (kt W hBw).mono ?_
    rintro e w1 ⟨rfl, hB1⟩
    have c5 := (C.below hB1).cell 5
    replace hB1 := chain hBw hB1
    clear C hBw kt
    by_cases x0 : n < 0
    · go_wp2
      go_returns
      exact ⟨rfl, hB1⟩
    · by_cases x1 : 1000000000 < n
      · go_wp2
        go_returns
        exact ⟨rfl, hB1⟩
      · cases hp : poolB p
        · have hT0 : T.toList = [] := by
            rw [← hT.out]; unfold textO
            rw [hp, if_neg (by simp), ByteArray.toList_eq]
          have hT1 : T.toList.isEmpty = true := by rw [hT0]; rfl
          go_wp2
          go_returns
          exact ⟨rfl, hB1⟩
        · have hT0 : ¬ T.toList = [] := by rw [← hT.out]; unfold textO; rw [hp]; exact text_ne p
          have hT1 := emp_no hT0
          have hl : 0 < ln := by
            rcases Nat.eq_zero_or_pos ln with h | h
            · exact absurd ⟨⟨by omega, by omega⟩, hp, List.eq_nil_of_length_eq_zero (by rw [hlen.out]; exact h)⟩ hx
            · exact h
          go_wp2
          go_returns
          exact ⟨rfl, hB1⟩
end Go.Proofs.YtigldeccfpkdmaaGreatDoor
namespace Go.Proofs.YtigldeccfpkdmaaGreatDoor
open Go Go.RowKit Go.BigFrame
/-- A disk whose three lists are answers that lie apart. -/
def DiskS (B : Nat) (w : World) (v : Value) (d : Dk) : Prop := ∃ la ln lc sa sn sc oa on oc, v = .agg #[.slice la ln lc, .slice sa sn sc, .slice oa on oc] ∧ ResAt Fl.cs 2 123 w B la ln lc d.live ∧ ResAt Fl.cs 2 123 w B sa sn sc d.safe ∧ ResAt Dp.cs 4 120 w B oa on oc d.ops ∧ ∀ x y, la = some x → sa = some y → x.block ≠ y.block
theorem DiskS.below {B : Nat} {w w' : World} {v : Value} {d : Dk} (h : DiskS B w v d) (hb : Below w.heap.size w w') : DiskS B w' v d := by
  obtain ⟨la, ln, lc, sa, sn, sc, oa, on, oc, hv, h1, h2, h3, h4⟩ := h
  exact ⟨la, ln, lc, sa, sn, sc, oa, on, oc, hv, h1.below hb, h2.below hb, h3.below hb, h4⟩
theorem DiskS.mono {B B' : Nat} {w : World} {v : Value} {d : Dk} (h : DiskS B w v d) (hb : B' ≤ B) : DiskS B' w v d := by
  obtain ⟨la, ln, lc, sa, sn, sc, oa, on, oc, hv, h1, h2, h3, h4⟩ := h
  exact ⟨la, ln, lc, sa, sn, sc, oa, on, oc, hv, h1.mono hb, h2.mono hb, h3.mono hb, h4⟩
theorem DiskS.r {B : Nat} {w : World} {v : Value} {d : Dk} (h : DiskS B w v d) : DiskR B w v d := by
  obtain ⟨la, ln, lc, sa, sn, sc, oa, on, oc, hv, h1, h2, h3, _⟩ := h
  exact ⟨la, ln, lc, sa, sn, sc, oa, on, oc, hv, h1, h2, h3⟩
theorem DiskS.wr {B : Nat} {w : World} {v : Value} {d : Dk} (h : DiskS B w v d) : DiskW B w v d := by
  obtain ⟨la, ln, lc, sa, sn, sc, oa, on, oc, hv, h1, h2, h3, h4⟩ := h
  exact ⟨la, ln, lc, sa, sn, sc, oa, on, oc, hv, h1.wr, h2.wr, h3.wr, h4⟩
theorem DiskS.off {B b : Nat} {w w' : World} {v : Value} {d : Dk} (h : DiskS B w v d) (hg : w.grownBy w' (some b)) (hb : b < B) : DiskS B w' v d := by
  obtain ⟨la, ln, lc, sa, sn, sc, oa, on, oc, hv, h1, h2, h3, h4⟩ := h
  exact ⟨la, ln, lc, sa, sn, sc, oa, on, oc, hv, h1.grown hg (fun ad e => by have := (h1.block ad e).1; omega), h2.grown hg (fun ad e => by have := (h2.block ad e).1; omega), h3.grown hg (fun ad e => by have := (h3.block ad e).1; omega), h4⟩
theorem noD_S (B : Nat) (w : World) : DiskS B w (.agg #[.slice none 0 0, .slice none 0 0, .slice none 0 0]) noD := ⟨_, _, _, _, _, _, _, _, _, rfl, res_nil, res_nil, res_nil, fun x y e => by cases e⟩
theorem SlH.zero {α : Type} {cs : α → List Value} {sz : Nat} {w : World} {a : Option Addr} {n cap : Nat} {l : List α} (h : SlH cs sz w a n cap l) : a = none → n = 0 ∧ cap = 0 := fun e => by
  refine ⟨?_, h.nil e⟩
  have hl := h.sl.len
  cases l with
  | nil => simpa using hl.symm
  | cons x r => obtain ⟨b, o, e2, _⟩ := h.sl.cell 0 x rfl; rw [e] at e2; cases e2
end Go.Proofs.YtigldeccfpkdmaaGreatDoor
namespace Go.Proofs.YtigldeccfpkdmaaGreatDoor
open Go Go.RowKit Go.BigFrame
set_option maxHeartbeats 4000000 in
set_option maxRecDepth 100000 in
theorem impl_syncedS (a : Option Addr) (n cap : Nat) (l : List Fl) (w : World) (h : FlsAt w a n l) (hn : n ≤ 4194304) (ha1 : ∀ ad, a = some ad → ad.spot = none) (ha2 : a = none → n = 0 ∧ cap = 0) :
    Calls Tryz.prog 84 #[.slice a n cap] w fun e w' => (∃ a1 c1 a2 c2, e = .returned (.agg #[.slice a1 n c1, .slice a2 n c2, .slice none 0 0]) ∧ ResAt Fl.cs 2 123 w' w.heap.size a1 n c1 l ∧ ResAt Fl.cs 2 123 w' w.heap.size a2 n c2 l ∧ ∀ x y, a1 = some x → a2 = some y → x.block ≠ y.block) ∧ Below w.heap.size w w' := by
  have hA : Below w.heap.size w (w.alloc (.cells #[.slice none 0 0, .slice none 0 0, .slice none 0 0] 52)) := (Below.refl _ _).alloc (Nat.le_refl _) _
  have D := Blk.new w #[.slice none 0 0, .slice none 0 0, .slice none 0 0] 52
  have hc := fun u (hu : Below w.heap.size w u) => files_Clone a n cap l u (h.below hu) hn ha1 ha2
  clear h
  go_enter Tryz.func84, Tryz.ntmps84
  go_wp2_with fail
  refine (hc _ hA).mono ?_
  rintro e w1 ⟨⟨a1, c1, rfl, R1⟩, hB1⟩
  have D1 := D.below hB1
  have hB2 := chain hA hB1
  have R2 := R1.mono (show w.heap.size + 1 ≤ _ by simp)
  have hlo : Hid (∀ x, a1 = some x → x.block < w1.heap.size) := fun x e => (R1.block x e).2
  clear hA D hB1 R1
  go_wp2_with fail
  refine (hc _ hB2).mono ?_
  rintro e w2 ⟨⟨a2, c2, rfl, R3⟩, hB3⟩
  have hsep : Hid (∀ x y, a1 = some x → a2 = some y → x.block ≠ y.block) := fun x y e1 e2 => by have := hlo.out x e1; have := (R3.block y e2).1; omega
  have D3 := D1.below hB3
  have R4 := R2.below hB3
  have hw1 := D1.lt
  have R5 := R3.mono (show w.heap.size + 1 ≤ w1.heap.size by omega)
  have hB4 := chain hB2 hB3
  clear D1 R2 R3 hB2 hB3 hc
  have z0 := D3.cell 0
  have z1 := D3.cell 1
  have z2 := D3.cell 2
  have q0 := D3.frozen 0
  have q1 := D3.frozen 1
  have q2 := D3.frozen 2
  simp only [lgA, lgB, lgC] at z0 z1 z2
  go_wp2
  have hg : w2.grownBy (((w2.setCell ⟨w.heap.size, 0, none⟩ (.slice a1 n c1)).setCell ⟨w.heap.size, 1, none⟩ (.slice a2 n c2)).setCell ⟨w.heap.size, 2, none⟩ (.slice none 0 0)) (some w.heap.size) := grown_set (grown_set (grown_set (World.grownBy.refl _ _) _ _) _ _) _ _
  have D5 := ((D3.set 0 (.slice a1 n c1)).set 1 (.slice a2 n c2)).set 2 (.slice none 0 0)
  simp only [List.setIfInBounds_toArray, List.set_cons_zero, List.set_cons_succ] at D5
  have R6 := (R4.grown hg (fun ad e => by have := (R4.block ad e).1; omega)).mono (show w.heap.size ≤ w.heap.size + 1 by omega)
  have R7 := (R5.grown hg (fun ad e => by have := (R5.block ad e).1; omega)).mono (show w.heap.size ≤ w.heap.size + 1 by omega)
  have hB5 := hB4.grown hg hB4.size (fun j e => by cases e; exact Nat.le_refl _)
  generalize ((w2.setCell ⟨w.heap.size, 0, none⟩ (.slice a1 n c1)).setCell ⟨w.heap.size, 1, none⟩ (.slice a2 n c2)).setCell ⟨w.heap.size, 2, none⟩ (.slice none 0 0) = W8 at *
  refine bodyPost_ret (results_cell_row rfl _ W8 w.heap.size _ _ _ _ rfl D5 Tryz.underlying52 rfl (by kernel_rfl)) rfl ?_
  exact ⟨⟨a1, c1, a2, c2, rfl, R6, R7, hsep.out⟩, hB5⟩
end Go.Proofs.YtigldeccfpkdmaaGreatDoor
namespace Go.Proofs.YtigldeccfpkdmaaGreatDoor
open Go.RowKit Go.BigFrame
theorem laws_markTextZ (k : Nat) (x : Int) (hx : x = k) (w : World) (h1 : 1 ≤ k) (h2 : k ≤ 100000000) :
    Calls Tryz.prog 109 #[.int .i64 x] w fun e w' => e = .returned (.string (markT k)) ∧ Below w.heap.size w w' := by
  subst hx; exact laws_markText k w h1 h2
end Go.Proofs.YtigldeccfpkdmaaGreatDoor
