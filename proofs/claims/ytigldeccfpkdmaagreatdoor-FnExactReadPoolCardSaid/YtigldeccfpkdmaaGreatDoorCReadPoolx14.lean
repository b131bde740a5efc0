/- The laws' marks of items and volumes: plain, and what they leave alone. The laws' marks of items: written and held. -/
import Derived.Test.YtigldeccfpkdmaaGreatDoorCReadPoolx13
namespace Go.Proofs.YtigldeccfpkdmaaGreatDoor
open Go Go.RowKit Go.BigFrame
/-- Only these blocks have turned. -/
structure Chg (L : List Nat) (w w' : World) : Prop where
  os : w'.os = w.os
  tape : w'.tape = w.tape
  output : w'.output = w.output
  size : w.heap.size ≤ w'.heap.size
  block : ∀ k, k < w.heap.size → k ∉ L → w'.heap[k]? = w.heap[k]?
theorem Chg.refl (L : List Nat) (w : World) : Chg L w w := ⟨rfl, rfl, rfl, Nat.le_refl _, fun _ _ _ => rfl⟩
theorem Chg.mono {L L' : List Nat} {w w' : World} (h : Chg L w w') (hL : ∀ k ∈ L, k ∈ L') : Chg L' w w' := ⟨h.os, h.tape, h.output, h.size, fun k hk hn => h.block k hk (fun e => hn (hL k e))⟩
theorem Chg.trans {L : List Nat} {a b c : World} (h : Chg L a b) (h' : Chg L b c) : Chg L a c := ⟨h'.os.trans h.os, h'.tape.trans h.tape, h'.output.trans h.output, Nat.le_trans h.size h'.size, fun k hk hn => (h'.block k (Nat.lt_of_lt_of_le hk h.size) hn).trans (h.block k hk hn)⟩
theorem Chg.ofB {L : List Nat} {w w' : World} (h : Below w.heap.size w w') : Chg L w w' := ⟨h.os, h.tape, h.output, h.size, fun k hk _ => h.block k hk⟩
theorem Chg.ofG {L : List Nat} {w w' : World} {row : Option Nat} (h : w.grownBy w' row) (hr : ∀ b, row = some b → b ∈ L) : Chg L w w' := by
  obtain ⟨o, t, p, s, b⟩ := h
  exact ⟨o, t, p, s, fun k hk hn => b k hk (fun e => hn (hr k e.symm))⟩
theorem Chg.cell {L : List Nat} {w w' : World} (h : Chg L w w') {b o : Nat} {v : Value} (hc : w.cell? ⟨b, o, none⟩ = some v) (hb : b ∉ L) : w'.cell? ⟨b, o, none⟩ = some v := by
  have hl : b < w.heap.size := World.block_lt_of_cell? w ⟨b, o, none⟩ hc
  unfold World.cell? at hc ⊢
  simp only at hc ⊢
  rw [h.block b hl hb]
  exact hc
theorem Chg.blk {L : List Nat} {w w' : World} (h : Chg L w w') {b : Nat} {c : Array Value} {t : TypeId} (hc : Blk w b c t) (hb : b ∉ L) : Blk w' b c t := (h.block b hc.lt hb).trans hc
theorem ResAt.chg {α : Type} {cs : α → List Value} {sz : Nat} {t : TypeId} {w w' : World} {B n cap : Nat} {a : Option Addr} {l : List α} {L : List Nat} (h : ResAt cs sz t w B a n cap l) (hc : Chg L w w') (hn : ∀ ad, a = some ad → ad.block ∉ L) : ResAt cs sz t w' B a n cap l := by
  refine ⟨⟨h.sl.len, fun i x hx => ?_⟩, ?_⟩
  · obtain ⟨b, o, ha, hq⟩ := h.sl.cell i x hx
    exact ⟨b, o, ha, fun j v hv => hc.cell (hq j v hv) (hn _ ha)⟩
  · rcases h.own with h0 | ⟨b, ha, hB, h1, h2, c, hb, q⟩
    · exact .inl h0
    · exact .inr ⟨b, ha, hB, h1, h2, c, hc.blk hb (hn _ ha), q⟩
theorem MkP.chg {w w' : World} {a : Option Addr} {n k0 : Nat} {L : List Nat} (h : MkP w a n k0) (hc : Chg L w w') (hn : 0 < n → ∀ ad, a = some ad → ad.block ∉ L) : MkP w' a n k0 := fun j hj => by
  obtain ⟨b, ha, c0, c1, c2⟩ := h j hj
  have := hn (by omega) _ ha
  exact ⟨b, ha, hc.cell c0 this, hc.cell c1 this, hc.cell c2 this⟩
/-- The number behind the marks of items, of volumes. -/
def kIt (k0 : Nat) (irs : List IR) : Nat := k0 + (irs.map fun x => 1 + 3 * x.n).sum
def kVo (k0 : Nat) (vr : List VR) : Nat := k0 + (vr.map fun x => 3 + (x.irs.map fun x => 1 + 3 * x.n).sum).sum
theorem kIt_take {k0 : Nat} {irs : List IR} {i : Nat} {x : IR} (h : irs[i]? = some x) : kIt k0 (irs.take (i + 1)) = kIt k0 (irs.take i) + 1 + 3 * x.n := by
  unfold kIt
  rw [List.take_add_one, h]
  simp
  omega
theorem kVo_take {k0 : Nat} {vr : List VR} {i : Nat} {x : VR} (h : vr[i]? = some x) : kVo k0 (vr.take (i + 1)) = kIt (kVo k0 (vr.take i) + 3) x.irs := by
  unfold kVo kIt
  rw [List.take_add_one, h]
  simp
  omega
theorem kIt_le {k0 : Nat} {irs : List IR} (i : Nat) : kIt k0 (irs.take i) ≤ kIt k0 irs := by
  have h := congrArg (fun l => (l.map fun x : IR => 1 + 3 * x.n).sum) (List.take_append_drop i irs)
  simp only [List.map_append, List.sum_append] at h
  unfold kIt
  omega
theorem kVo_le {k0 : Nat} {vr : List VR} (i : Nat) : kVo k0 (vr.take i) ≤ kVo k0 vr := by
  have h := congrArg (fun l => (l.map fun x : VR => 3 + (x.irs.map fun x => 1 + 3 * x.n).sum).sum) (List.take_append_drop i vr)
  simp only [List.map_append, List.sum_append] at h
  unfold kVo
  omega
theorem kIt_ge (k0 : Nat) (irs : List IR) : k0 ≤ kIt k0 irs := Nat.le_add_right _ _
theorem kVo_ge (k0 : Nat) (vr : List VR) : k0 ≤ kVo k0 vr := Nat.le_add_right _ _
/-- Marked items, from k0 on. -/
def MkI (w : World) (a : Option Addr) (irs : List IR) (k0 : Nat) : Prop := ∀ j x, irs[j]? = some x → ∃ b, a = some ⟨b, 0, none⟩ ∧ w.cell? ⟨b, j * 2, none⟩ = some (.string (markT (kIt k0 (irs.take j)))) ∧ w.cell? ⟨b, j * 2 + 1, none⟩ = some (.slice x.a x.n x.c) ∧ MkP w x.a x.n (kIt k0 (irs.take j) + 1)
/-- Marked volumes. -/
def MkV (w : World) (a : Option Addr) (vr : List VR) (k0 : Nat) : Prop := ∀ j x, vr[j]? = some x → ∃ b, a = some ⟨b, 0, none⟩ ∧ w.cell? ⟨b, j * 4, none⟩ = some (.int .i64 ((kVo k0 (vr.take j) : Nat) : Int)) ∧ w.cell? ⟨b, j * 4 + 1, none⟩ = some (.string (markT (kVo k0 (vr.take j) + 1))) ∧ w.cell? ⟨b, j * 4 + 2, none⟩ = some (.bool ((((kVo k0 (vr.take j) : Nat) : Int) + 1 + 1) % 3 == 0)) ∧ w.cell? ⟨b, j * 4 + 3, none⟩ = some (.slice x.a x.n x.c) ∧ MkI w x.a x.irs (kVo k0 (vr.take j) + 3)
theorem MkI.below {w w' : World} {a : Option Addr} {irs : List IR} {k0 : Nat} (h : MkI w a irs k0) (hb : Below w.heap.size w w') : MkI w' a irs k0 := fun j x hx => by
  obtain ⟨b, ha, c0, c1, m⟩ := h j x hx
  exact ⟨b, ha, bcell hb c0, bcell hb c1, m.below hb⟩
theorem MkV.below {w w' : World} {a : Option Addr} {vr : List VR} {k0 : Nat} (h : MkV w a vr k0) (hb : Below w.heap.size w w') : MkV w' a vr k0 := fun j x hx => by
  obtain ⟨b, ha, c0, c1, c2, c3, m⟩ := h j x hx
  exact ⟨b, ha, bcell hb c0, bcell hb c1, bcell hb c2, bcell hb c3, m.below hb⟩
theorem MkI.chg {w w' : World} {a : Option Addr} {irs : List IR} {k0 : Nat} {L : List Nat} (h : MkI w a irs k0) (hc : Chg L w w') (ha : ∀ ad, a = some ad → ad.block ∉ L) (hp : ∀ x ∈ irs, ∀ ad, x.a = some ad → ad.block ∉ L) : MkI w' a irs k0 := fun j x hx => by
  obtain ⟨b, e, c0, c1, m⟩ := h j x hx
  exact ⟨b, e, hc.cell c0 (ha _ e), hc.cell c1 (ha _ e), m.chg hc (fun _ => hp x (List.mem_of_getElem? hx))⟩
theorem MkV.chg {w w' : World} {a : Option Addr} {vr : List VR} {k0 : Nat} {L : List Nat} (h : MkV w a vr k0) (hc : Chg L w w') (ha : ∀ ad, a = some ad → ad.block ∉ L) (hv : ∀ x ∈ vr, ∀ ad, x.a = some ad → ad.block ∉ L) (hp : ∀ x ∈ vr, ∀ y ∈ x.irs, ∀ ad, y.a = some ad → ad.block ∉ L) : MkV w' a vr k0 := fun j x hx => by
  obtain ⟨b, e, c0, c1, c2, c3, m⟩ := h j x hx
  have hm := List.mem_of_getElem? hx
  exact ⟨b, e, hc.cell c0 (ha _ e), hc.cell c1 (ha _ e), hc.cell c2 (ha _ e), hc.cell c3 (ha _ e), m.chg hc (hv x hm) (hp x hm)⟩
/-- Whose blocks a list of items reaches. -/
abbrev ibl (irs : List IR) : List Nat := irs.filterMap fun x => blkO x.a
theorem ibl_mem {irs : List IR} {x : IR} {ad : Addr} (h : x ∈ irs) (ha : x.a = some ad) : ad.block ∈ ibl irs := List.mem_filterMap.2 ⟨x, h, by simp [blkO, ha]⟩
theorem ibl_take {irs : List IR} {i : Nat} {x : IR} (h : irs[i]? = some x) : ibl (irs.take (i + 1)) = ibl (irs.take i) ++ (blkO x.a).toList := by
  unfold ibl
  rw [List.take_add_one, h]
  show ((irs.take i) ++ [x]).filterMap _ = _
  rw [iblk_app]
theorem ibl_no {irs : List IR} {i : Nat} {x : IR} {ad : Addr} (hN : (ibl irs).Nodup) (h : irs[i]? = some x) (ha : x.a = some ad) : ad.block ∉ ibl (irs.take i) := fun hm => by
  have h1 := ibl_take h
  have h2 : ((irs.take (i + 1)).filterMap fun x => blkO x.a).Nodup := List.Nodup.sublist ((List.take_sublist _ _).filterMap _) hN
  change (ibl (irs.take (i + 1))).Nodup at h2
  rw [h1, ha] at h2
  exact (List.nodup_append.1 h2).2.2 _ hm _ (by simp [blkO]) rfl
end Go.Proofs.YtigldeccfpkdmaaGreatDoor
namespace Go.Proofs.YtigldeccfpkdmaaGreatDoor
open Go Go.RowKit Go.BigFrame
theorem al_mem {α β : Type} {R : α → β → Prop} {l : List α} {m : List β} (h : Al2 R l m) {x : α} (hx : x ∈ l) : ∃ y, R x y := by
  induction h with
  | nil => cases hx
  | cons hr _ ih =>
    rcases List.mem_cons.1 hx with rfl | hx
    · exact ⟨_, hr⟩
    · exact ih hx
theorem own_chg {a : Option Addr} {n c : Nat} {w w' : World} (h : w.grownBy w' (Value.ownBlock (.slice a n c))) : Chg (blkO a).toList w w' := Chg.ofG h (fun b e => by
  cases a with
  | none => simp [Value.ownBlock] at e
  | some ad => simp [Value.ownBlock] at e; simp [blkO, e])
theorem res_ne {α β : Type} {cs : α → List Value} {cs' : β → List Value} {sz sz' : Nat} {t t' : TypeId} {w : World} {B n cap B' n' cap' : Nat} {a a' : Option Addr} {l : List α} {l' : List β} (h : ResAt cs sz t w B a n cap l) (h' : ResAt cs' sz' t' w B' a' n' cap' l') (ht : t ≠ t') {ad ad' : Addr} (e : a = some ad) (e' : a' = some ad') : ad.block ≠ ad'.block := fun he => by
  rcases h.own with ⟨h0, _⟩ | ⟨b, ha, _, _, _, c, hc, _⟩
  · rw [h0] at e; cases e
  · rcases h'.own with ⟨h0, _⟩ | ⟨b', ha', _, _, _, c', hc', _⟩
    · rw [h0] at e'; cases e'
    · rw [ha] at e; cases e
      rw [ha'] at e'; cases e'
      simp only at he
      subst he
      have := hc.symm.trans hc'
      simp at this
      exact ht this.2
set_option maxHeartbeats 4000000 in
set_option maxRecDepth 100000 in
theorem laws_markItemM (B : Nat) (a : Option Addr) (n cap k0 : Nat) (irs : List IR) (its : List It) (w : World) (RI : ResAt IR.cs 2 tI w B a n cap irs) (IL : Al2 (ItR w B) irs its) (hN : (ibl irs).Nodup) (hn : n ≤ 4194304) (hpn : ∀ x ∈ irs, x.n ≤ 4194304) (hk1 : 1 ≤ k0) (hk2 : kIt k0 irs ≤ 40000000) :
    Calls Tryz.prog 110 #[.slice a n cap, .int .i64 ((k0 : Nat) : Int)] w fun e w' => e = .returned (.int .i64 ((kIt k0 irs : Nat) : Int)) ∧ MkI w' a irs k0 ∧ Chg ((blkO a).toList ++ ibl irs) w w' := by
  have hlen := RI.sl.len
  rcases RI.own with ⟨rfl, rfl, rfl⟩ | ⟨ib, rfl, hB, hnc, hcm, c, hc, hs, _⟩
  · obtain rfl := List.eq_nil_of_length_eq_zero hlen
    go_enter Tryz.func110, Tryz.ntmps110
    go_wp2_with fail
    go_rounds 1
    go_returns
    exact ⟨rfl, fun j x hx => (by simp at hx), Chg.refl _ _⟩
  · have hsl : Hid (∀ j x, irs[j]? = some x → c[j * 2 + 1]? = some (.slice x.a x.n x.c)) := fun j x hx => by
      obtain ⟨b, o, e, hq⟩ := RI.sl.cell j x hx
      cases e
      have := hq 1 _ rfl
      rw [hc.cell] at this
      simpa using this
    have hP : Hid (∀ x ∈ irs, ∃ ps, ResAt Pt.cs 3 tP w B x.a x.n x.c ps) := fun x hx => by
      obtain ⟨y, hy⟩ := al_mem IL hx
      exact ⟨_, hy.ps⟩
    have hne : Hid (∀ x ∈ irs, ∀ ad, x.a = some ad → ad.block ≠ ib) := fun x hx ad e => by
      obtain ⟨ps, hp⟩ := hP.out x hx
      exact res_ne hp RI (by decide) e rfl
    have hkl : Hid (∀ i, kIt k0 (irs.take i) ≤ 40000000) := fun i => Nat.le_trans (kIt_le i) hk2
    have hkg : Hid (∀ i, 1 ≤ kIt k0 (irs.take i)) := fun i => Nat.le_trans hk1 (kIt_ge _ _)
    obtain ⟨kE, hkE⟩ : ∃ kE, Hid (kIt k0 irs = kE) := ⟨_, rfl⟩
    rw [hkE.out]
    go_enter Tryz.func110, Tryz.ntmps110
    go_wp2_with fail
    go_loopw [1, 5] (fun kk ix wr => ∃ (i : Nat) (c' : Array Value), i ≤ n ∧ ix = .int .i64 i ∧ kk = .int .i64 ((kIt k0 (irs.take i) : Nat) : Int) ∧ Blk wr ib c' tI ∧ Hid (c'.size = c.size) ∧ Hid (∀ j x, irs[j]? = some x → c'[j * 2 + 1]? = some (.slice x.a x.n x.c)) ∧ Hid (∀ j, j < i → c'[j * 2]? = some (.string (markT (kIt k0 (irs.take j))))) ∧ Hid (∀ j x, j < i → irs[j]? = some x → MkP wr x.a x.n (kIt k0 (irs.take j) + 1)) ∧ Chg (ib :: ibl (irs.take i)) w wr) (fun _ ix _ => n - (intOf ix).toNat)
    case atStart => exact ⟨0, c, Nat.zero_le _, rfl, rfl, hc, rfl, hsl.out, fun j hj => (by omega), fun j x hj => (by omega), Chg.refl _ _⟩
    case round =>
      obtain ⟨i, c', hi, rfl, rfl, hblk, hcs, hcc, hcm1, hmk, hC⟩ := hrel
      by_cases hlt : i < n
      · obtain ⟨x, hx⟩ : ∃ x, irs[i]? = some x := ⟨irs[i]'(by omega), by simp⟩
        have hxm := List.mem_of_getElem? hx
        obtain ⟨ps, hps⟩ := hP.out x hxm
        have hc3 : i * 2 + 1 < c'.size := by rw [hcs.out, hs]; have := Nat.mul_le_mul_right 2 hnc; omega
        have hi1 : (i : Int) < n := by omega
        have hi2 : (0 : Int) ≤ i := by omega
        obtain ⟨q, hq⟩ : ∃ q, Hid (kIt k0 (irs.take i) = q) := ⟨_, rfl⟩
        have hq1 : 1 ≤ q := by rw [← hq.out]; exact hkg.out i
        have hq2 : q ≤ 40000000 := by rw [← hq.out]; exact hkl.out i
        have hq3 : Hid (kIt k0 (irs.take (i + 1)) = q + 1 + 3 * x.n) := by show _ = _; rw [kIt_take hx, hq.out]
        have hq4 : q + 1 + 3 * x.n ≤ 40000000 := by rw [← hq3.out]; exact hkl.out (i + 1)
        have hxn := hpn x hxm
        rw [hq.out]
        go_wp2_with fail
        refine (laws_markTextZ q _ rfl _ (by omega) (by omega)).mono ?_
        rintro e w1 ⟨rfl, hB1⟩
        have b1 := hblk.below hB1
        obtain ⟨v0, y0⟩ := b1.has (i := i * 2) (by omega)
        have f0 := b1.frozen (i * 2)
        have y1 : w1.cell? ⟨ib, i * 2 + 1, none⟩ = some (.slice x.a x.n x.c) := by rw [b1.cell]; exact hcc.out i x hx
        go_wp2_with fail
        rw [show ((q : Nat) : Int) + 1 = ((q + 1 : Nat) : Int) by omega]
        have b2 := b1.set (i * 2) (.string (markT q))
        have C12 : Chg [ib] wr (w1.setCell ⟨ib, i * 2, none⟩ (.string (markT q))) := (Chg.ofB hB1).trans (Chg.ofG (grown_set (World.grownBy.refl _ _) _ _) (fun b e => by cases e; simp))
        generalize w1.setCell ⟨ib, i * 2, none⟩ (.string (markT q)) = W2 at *
        clear y0 y1 f0 b1
        have hC2 : Chg (ib :: ibl (irs.take i)) w W2 := hC.trans (C12.mono (by simp))
        have hps2 := hps.chg hC2 (fun ad e => by
          simp only [List.mem_cons, not_or]
          exact ⟨hne.out x hxm ad e, ibl_no hN hx e⟩)
        refine (markMkP B x.a x.n x.c (q + 1) ps W2 hps2 hxn ⟨by omega, by omega⟩).mono ?_
        rintro e w3 ⟨rfl, hMk, hg3⟩
        have b3 := b2.ty hg3 (hps2.rowTy (m := x.n) (k := x.c)) (by decide)
        have C23 := own_chg hg3
        have hC3 : Chg (ib :: ibl (irs.take (i + 1))) w w3 := (hC2.mono (fun k hk => by
          rw [ibl_take hx]
          rcases List.mem_cons.1 hk with rfl | hk
          · simp
          · exact List.mem_cons_of_mem _ (List.mem_append_left _ hk))).trans (C23.mono (fun k hk => by rw [ibl_take hx]; exact List.mem_cons_of_mem _ (List.mem_append_right _ hk)))
        have hmk3 : Hid (∀ j z, j < i + 1 → irs[j]? = some z → MkP w3 z.a z.n (kIt k0 (irs.take j) + 1)) := fun j z hj hz => by
          by_cases hji : j = i
          · subst hji
            obtain rfl : x = z := Option.some.inj (hx.symm.trans hz)
            rw [hq.out]
            exact hMk
          · have hzm := List.mem_of_getElem? hz
            have h1 := hmk.out j z (by omega) hz
            refine (h1.chg C12 (fun _ ad e => by simpa using hne.out z hzm ad e)).chg C23 (fun _ ad e => ?_)
            intro hm
            cases hxa : x.a with
            | none => rw [hxa] at hm; simp [blkO] at hm
            | some ax =>
              rw [hxa] at hm
              simp [blkO] at hm
              refine ibl_no hN hx hxa ?_
              rw [← hm]
              exact ibl_mem (List.mem_of_getElem? (i := j) (by rw [List.getElem?_take_of_lt (by omega)]; exact hz)) e
        clear hMk hg3 C23 hC2 hps2 hps C12 hB1 hblk b2
        go_wp2
        go_roundw
        case rel =>
          refine ⟨i + 1, _, by omega, by go_num, ?_, b3, by show _ = _; simp [hcs.out], ?_, ?_, hmk3, hC3⟩
          · rw [hq3.out]
            rfl
          · intro j z hz
            rw [Array.getElem?_setIfInBounds_ne (by omega)]
            exact hcc.out j z hz
          · intro j hj
            by_cases hji : j = i
            · subst hji
              rw [Array.getElem?_setIfInBounds_self_of_lt (by omega), hq.out]
            · rw [Array.getElem?_setIfInBounds_ne (by omega)]
              exact hcm1.out j (by omega)
        case measure => simp [intOf]; omega
      · obtain rfl : i = n := by omega
        have ht : irs.take i = irs := List.take_of_length_le (by omega)
        rw [ht] at hC ⊢
        rw [hkE.out]
        go_wp2
        go_returns
        refine ⟨rfl, fun j x hx => ?_, hC⟩
        have hj : j < i := by rw [← hlen]; exact (List.getElem?_eq_some_iff.1 hx).1
        exact ⟨ib, rfl, by rw [hblk.cell]; exact hcm1.out j hj, by rw [hblk.cell]; exact hcc.out j x hx, hmk.out j x hj hx⟩
set_option maxHeartbeats 4000000 in
set_option maxRecDepth 100000 in
theorem laws_heldItemM (a : Option Addr) (n cap k0 : Nat) (irs : List IR) (w : World) (h : MkI w a irs k0) (hlen : irs.length = n) (hn : n ≤ 4194304) (hpn : ∀ x ∈ irs, x.n ≤ 4194304) (hk1 : 1 ≤ k0) (hk2 : kIt k0 irs ≤ 40000000) :
    Calls Tryz.prog 111 #[.slice a n cap, .int .i64 ((k0 : Nat) : Int)] w fun e w' => e = .returned (.int .i64 ((kIt k0 irs : Nat) : Int)) ∧ Below w.heap.size w w' := by
  have hkl : Hid (∀ i, kIt k0 (irs.take i) ≤ 40000000) := fun i => Nat.le_trans (kIt_le i) hk2
  have hkg : Hid (∀ i, 1 ≤ kIt k0 (irs.take i)) := fun i => Nat.le_trans hk1 (kIt_ge _ _)
  obtain ⟨kE, hkE⟩ : ∃ kE, Hid (kIt k0 irs = kE) := ⟨_, rfl⟩
  rw [hkE.out]
  go_enter Tryz.func111, Tryz.ntmps111
  go_wp2_with fail
  go_loopw [1, 5] (fun kk ix wr => ∃ (i : Nat), i ≤ n ∧ ix = .int .i64 i ∧ kk = .int .i64 ((kIt k0 (irs.take i) : Nat) : Int) ∧ Below w.heap.size w wr) (fun _ ix _ => n - (intOf ix).toNat)
  case atStart => exact ⟨0, Nat.zero_le _, rfl, rfl, Below.refl _ _⟩
  case round =>
    obtain ⟨i, hi, rfl, rfl, hB⟩ := hrel
    by_cases hlt : i < n
    · obtain ⟨x, hx⟩ : ∃ x, irs[i]? = some x := ⟨irs[i]'(by omega), by simp⟩
      have hxm := List.mem_of_getElem? hx
      obtain ⟨b, rfl, c0, c1, hm⟩ := h i x hx
      have hi1 : (i : Int) < n := by omega
      have hi2 : (0 : Int) ≤ i := by omega
      obtain ⟨q, hq⟩ : ∃ q, Hid (kIt k0 (irs.take i) = q) := ⟨_, rfl⟩
      have hq1 : 1 ≤ q := by rw [← hq.out]; exact hkg.out i
      have hq3 : Hid (kIt k0 (irs.take (i + 1)) = q + 1 + 3 * x.n) := by show _ = _; rw [kIt_take hx, hq.out]
      have hq4 : q + 1 + 3 * x.n ≤ 40000000 := by rw [← hq3.out]; exact hkl.out (i + 1)
      have hxn := hpn x hxm
      rw [hq.out] at c0 hm ⊢
      replace c0 := bcell hB c0
      replace c1 := bcell hB c1
      replace hm := hm.below hB
      have e0 : (!((markT q).toList == (markT q).toList)) = false := by simp
      go_wp2_with fail
      have g0 := gcell c0
      have hne := grw_ne wr
      refine wp_region_grow (by kernel_rfl) (by kernel_rfl) ?_
      repeat (go_big_quiet_step (first | (go_at_call 109; exact grow_of (laws_markTextZ q ((q : Nat) : Int) rfl _ (by omega) (by omega)))))
      refine wpQuiet_nil ?_
      intro w2 hxx
      have hB2 := grw_out hxx
      clear hxx g0 hne e0
      replace c1 := bcell hB2 c1
      replace hm := hm.below hB2
      have hC2 := chain hB hB2
      go_wp2_with fail
      rw [show ((q : Nat) : Int) + 1 = ((q + 1 : Nat) : Int) by omega]
      refine (heldMkP x.a x.n x.c (q + 1) w2 hm hxn ⟨by omega, by omega⟩).mono ?_
      rintro e w3 ⟨rfl, hB3⟩
      have hC3 := chain hC2 hB3
      obtain ⟨qq, hqq⟩ : ∃ qq : Int, ((q + 1 + 3 * x.n : Nat) : Int) = qq := ⟨_, rfl⟩
      have hqh : Hid (((q + 1 + 3 * x.n : Nat) : Int) = qq) := hqq
      have hq5 : 0 ≤ qq := by omega
      have hq6 : ¬ qq < 0 := by omega
      have hq7 : qq ≤ 40000000 := by omega
      rw [hqq]
      clear hqq
      go_wp2
      go_roundw
      case rel => exact ⟨i + 1, by omega, by go_num, by rw [← hqh.out, hq3.out], hC3⟩
      case measure => simp [intOf]; omega
    · obtain rfl : i = n := by omega
      have ht : irs.take i = irs := List.take_of_length_le (by omega)
      rw [ht, hkE.out]
      go_wp2
      go_returns
      exact ⟨rfl, hB⟩
end Go.Proofs.YtigldeccfpkdmaaGreatDoor
