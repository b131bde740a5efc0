/- A disk that is drawn. -/
import Derived.Test.YtpobgjkmcmkkeaaG42
import Derived.Test.YtpobgjkmcmkkeaaG24
import Derived.Test.YtpobgjkmcmkkeaaG22
namespace Go.Proofs.Ytpobgjkmcmkkeaa
open Go Go.RowKit Go.BigFrame

/-- A disk in memory behind a block. -/
def DiskT (B0 : Nat) (w : World) (v : Value) (d : Dk) : Prop :=
  ∃ la ln lc sa sn sc oa on oc, v = .agg #[.slice la ln lc, .slice sa sn sc, .slice oa on oc] ∧ SlH Fl.cs 2 w la ln lc d.live ∧ SlH Fl.cs 2 w sa sn sc d.safe ∧ SlH Dp.cs 4 w oa on oc d.ops ∧ (∀ ad, la = some ad → B0 ≤ ad.block) ∧ (∀ ad, sa = some ad → B0 ≤ ad.block) ∧ (∀ ad, oa = some ad → B0 ≤ ad.block)
theorem DiskT.at {B0 : Nat} {w : World} {v : Value} {d : Dk} (h : DiskT B0 w v d) : DiskAt w v d := by
  obtain ⟨la, ln, lc, sa, sn, sc, oa, on, oc, hv, h1, h2, h3, _⟩ := h
  exact ⟨la, ln, lc, sa, sn, sc, oa, on, oc, hv, h1, h2, h3⟩
theorem DiskT.below {B0 : Nat} {w w' : World} {v : Value} {d : Dk} (h : DiskT B0 w v d) (hb : Below w.heap.size w w') : DiskT B0 w' v d := by
  obtain ⟨la, ln, lc, sa, sn, sc, oa, on, oc, hv, h1, h2, h3, h4⟩ := h
  exact ⟨la, ln, lc, sa, sn, sc, oa, on, oc, hv, h1.below hb, h2.below hb, h3.below hb, h4⟩
theorem SlH.grown {α : Type} {cs : α → List Value} {sz : Nat} {w w' : World} {a : Option Addr} {n cap r : Nat} {l : List α} (h : SlH cs sz w a n cap l) (hg : w.grownBy w' (some r)) (hr : ∀ ad, a = some ad → ad.block ≠ r) : SlH cs sz w' a n cap l := ⟨h.sl.grown hg hr, h.spot, h.nil⟩
theorem DiskT.low {B0 b : Nat} {w w' : World} {v : Value} {d : Dk} (h : DiskT B0 w v d) (hg : w.grownBy w' (some b)) (hb : b < B0) : DiskT B0 w' v d := by
  obtain ⟨la, ln, lc, sa, sn, sc, oa, on, oc, hv, h1, h2, h3, h4, h5, h6⟩ := h
  exact ⟨la, ln, lc, sa, sn, sc, oa, on, oc, hv, h1.grown hg (fun ad e => by have := h4 ad e; omega), h2.grown hg (fun ad e => by have := h5 ad e; omega), h3.grown hg (fun ad e => by have := h6 ad e; omega), h4, h5, h6⟩
theorem DiskT.mono {B0 B1 : Nat} {w : World} {v : Value} {d : Dk} (h : DiskT B0 w v d) (hb : B1 ≤ B0) : DiskT B1 w v d := by
  obtain ⟨la, ln, lc, sa, sn, sc, oa, on, oc, hv, h1, h2, h3, h4, h5, h6⟩ := h
  exact ⟨la, ln, lc, sa, sn, sc, oa, on, oc, hv, h1, h2, h3, fun ad e => Nat.le_trans hb (h4 ad e), fun ad e => Nat.le_trans hb (h5 ad e), fun ad e => Nat.le_trans hb (h6 ad e)⟩
theorem DiskR.t {B0 : Nat} {w : World} {v : Value} {d : Dk} (h : DiskR B0 w v d) : DiskT B0 w v d := by
  obtain ⟨la, ln, lc, sa, sn, sc, oa, on, oc, hv, h1, h2, h3⟩ := h
  exact ⟨la, ln, lc, sa, sn, sc, oa, on, oc, hv, h1.slH, h2.slH, h3.slH, fun ad e => (h1.block ad e).1, fun ad e => (h2.block ad e).1, fun ad e => (h3.block ad e).1⟩
theorem dim_no : DimD noD := ⟨⟨Nat.zero_le _, fun x h => by cases h⟩, ⟨Nat.zero_le _, fun x h => by cases h⟩, Nat.zero_le _, fun x h => by cases h⟩
theorem dim_sync {d : Dk} (h : DimD d) : DimD (syncD d) := by
  unfold syncD
  split
  · exact ⟨h.live, h.live, Nat.zero_le _, fun x h => by cases h⟩
  · exact dim_no
theorem sync_len (d : Dk) : (syncD d).safe.length ≤ (syncD d).live.length := by
  unfold syncD
  split
  · exact Nat.le_refl _
  · exact Nat.le_refl _
theorem dim_do {d : Dk} {o : Dp} (hd : DimD d) (ho : StrD o ∧ o.d.size ≤ 10000000) (h0 : (doD d o).2 = 0) : DimD (doD d o).1 := by
  unfold doD at h0 ⊢
  split at h0
  · rename_i hb
    rw [if_pos hb]
    exact act_dim hb hd ho h0
  · cases h0
theorem sync_60 {d : Dk} (h : d.live.length ≤ 60) : (syncD d).live.length ≤ 60 := by
  unfold syncD
  split
  · exact h
  · exact Nat.zero_le _
theorem do_60 {d : Dk} {o : Dp} (h0 : (doD d o).2 = 0) : (doD d o).1.live.length ≤ 60 := by
  unfold doD at h0 ⊢
  split at h0
  · rename_i hb
    rw [if_pos hb]
    obtain ⟨_, e, hf⟩ := act_right hb h0
    rw [e]
    exact (filesB_all hf).1
  · cases h0
theorem DpSmall.ok {o : Dp} (h : DpSmall o) : StrD o ∧ o.d.size ≤ 10000000 := by
  obtain ⟨_, _, h1, h2, h3⟩ := h
  exact ⟨⟨by omega, by omega, by omega⟩, by omega⟩
theorem grown_new {w u w' : World} {B b : Nat} (h : w.grownBy u (some B)) (hg : u.grownBy w' (some b)) (hb : w.heap.size ≤ b) : w.grownBy w' (some B) :=
  ⟨hg.os.trans h.os, hg.tape.trans h.tape, hg.output.trans h.output, Nat.le_trans h.size hg.size, fun k hk hne => by
    rw [hg.block k (Nat.lt_of_lt_of_le hk h.size) (by simp; omega)]; exact h.block k hk hne⟩
theorem grown_some {w w' : World} {row : Option Nat} (hg : w.grownBy w' row) (r : Nat) (hn : row = none) : w.grownBy w' (some r) := ⟨hg.os, hg.tape, hg.output, hg.size, fun k hk _ => hg.block k hk (by rw [hn]; simp)⟩
theorem rd_row {w w' : World} {B : Nat} {row : Option Nat} (h : Rd w B) (hg : w.grownBy w' row) (hr : ∀ k, row = some k → B < k) : Rd w' B := by
  cases row with
  | none => exact h.grown (grown_some hg (B + 1) rfl) (by omega)
  | some r => exact h.grown hg (hr r rfl)
theorem grown_newR {w u w' : World} {B : Nat} {row : Option Nat} (h : w.grownBy u (some B)) (hg : u.grownBy w' row) (hr : ∀ k, row = some k → w.heap.size ≤ k) : w.grownBy w' (some B) :=
  ⟨hg.os.trans h.os, hg.tape.trans h.tape, hg.output.trans h.output, Nat.le_trans h.size hg.size, fun k hk hne => by
    rw [hg.block k (Nat.lt_of_lt_of_le hk h.size) (fun e => by have := hr k e.symm; omega)]; exact h.block k hk hne⟩
/-- What the loop keeps of a disk in its block. -/
def DiskK (B0 : Nat) (w : World) (v : Value) (d : Dk) : Prop := DiskR B0 w v d ∧ (DimD d ∧ d.live.length ≤ 60) ∧ (SepD v ∨ d.safe.length ≤ d.live.length)
theorem DiskK.below {B0 : Nat} {w w' : World} {v : Value} {d : Dk} (h : DiskK B0 w v d) (hb : Below w.heap.size w w') : DiskK B0 w' v d := ⟨h.1.below hb, h.2⟩
theorem DiskK.off {B0 b : Nat} {w w' : World} {v : Value} {d : Dk} (h : DiskK B0 w v d) (hg : w.grownBy w' (some b)) (hb : b < B0) : DiskK B0 w' v d := ⟨h.1.off hg hb, h.2⟩

theorem sl_drop1 {α : Type} {cs : α → List Value} {sz : Nat} {w : World} {b n cap off : Nat} {l : List α} (h : SlAt cs sz w (some ⟨b, 0, none⟩) n l) (ho : off = sz ∨ n = 1) : SlH cs sz w (some ⟨b, off, none⟩) (n - 1) (cap - 1) (l.drop 1) := by
  refine ⟨⟨by rw [List.length_drop, h.len], fun k x hx => ?_⟩, fun ad e => by cases e; rfl, fun e => by cases e⟩
  rw [List.getElem?_drop] at hx
  obtain ⟨b', o, e, hc⟩ := h.cell (1 + k) x hx
  have hlt := (List.getElem?_eq_some_iff.1 hx).1
  rw [h.len] at hlt
  obtain rfl : off = sz := by rcases ho with h1 | h1; · exact h1
                              · omega
  cases e
  refine ⟨b, off, rfl, fun j v hv => ?_⟩
  have := hc j v hv
  rw [show 0 + (1 + k) * off + j = off + k * off + j by rw [Nat.add_mul, Nat.one_mul]; omega] at this
  exact this
theorem made_byte (u : World) {m i : Nat} (hi : i < m) : (u.alloc (.cells (madeCells #[.int .u8 0] m) 5)).cell? ⟨u.heap.size, 0 + i, none⟩ = some (.int .u8 ((List.replicate m (0 : Int)).getD i 0)) := by
  rw [Nat.zero_add, (Blk.new u (madeCells #[.int .u8 0] m) 5).cell i, ← Array.getElem?_toList, toList_madeCells_one]
  simp [hi]
theorem made_text (u : World) (m : Nat) (hm : m ≤ 200000) : ∃ W s, (Instr.makeSlice 22 (.int .i64 (m : Int)) (.int .i64 (m : Int))).run Try.prog u = .ok (.slice (some ⟨u.heap.size, 0, none⟩) m m) W ∧ (convert 22 9 (.slice (some ⟨u.heap.size, 0, none⟩) m m)).run Try.prog W = .ok (.string s) W ∧ Below u.heap.size u W ∧ s.size = m := by
  have hinfo : (Try.prog.info? 5).map (fun i => (i.zero, i.size, i.bytes)) = some (some (.int .u8 0), 1, 1) := by kernel_rfl
  obtain ⟨i0, hi, hz0, hz1, hz2⟩ := info_parts hinfo
  have hmk : (Instr.makeSlice 22 (.int .i64 (m : Int)) (.int .i64 (m : Int))).run Try.prog u = .ok (.slice (some ⟨u.heap.size, 0, none⟩) m m) (u.alloc (.cells (madeCells #[.int .u8 0] m) 5)) := by
    have hmm := run_make (P := Try.prog) u 22 5 i0 (.int .u8 0) Try.underlying22 hi hz0 .i64 .i64 (m : Int) (m : Int) (by omega) (Int.le_refl _) (by rw [hz2]; omega) (by omega)
    simpa [hz1, Value.cells] using hmm
  exact ⟨_, _, hmk, run_convert_bytes_arg (P := Try.prog) _ 22 5 Try.underlying22 Try.underlying5 u.heap.size 0 m m (List.replicate m 0) (by simp) (fun i hi => made_byte u hi) 9 Try.underlying9, (Below.refl _ _).alloc (Nat.le_refl _) _, by simp [strOfNums, ByteArray.size]⟩
theorem bnd_big {str : ByteArray} (h : str.size ≤ 200000) : BndF [⟨⟨#[98, 105, 103]⟩, str⟩] := by
  intro x hx
  simp at hx
  subst hx
  exact ⟨by show (⟨#[98, 105, 103]⟩ : ByteArray).size ≤ _; decide, by show str.size ≤ _; omega⟩
theorem bnd_zz {l : List Fl} (h : BndF l) : BndF (l ++ [⟨⟨#[122, 122]⟩, ⟨#[]⟩⟩]) := by
  intro x hx
  rcases List.mem_append.1 hx with hx | hx
  · exact h x hx
  · simp at hx
    subst hx
    exact ⟨by decide, by decide⟩

theorem DiskK.ofTy {B b : Nat} {w w' : World} {v : Value} {d : Dk} {c : Array Value} (h : DiskK B w v d) (hg : w.grownBy w' (some b)) (hb : Blk w b c 27) : DiskK B w' v d := ⟨h.1.ofTy hg hb, h.2⟩

set_option maxHeartbeats 4000000 in
set_option maxRecDepth 100000 in
theorem spec_disk (B : Nat) (w : World) (h : Rd w B) :
    Calls Try.prog 40 #[.pointer (some ⟨B, 0, none⟩)] w fun e w' => (∃ v d, e = .returned v ∧ DiskT w.heap.size w' v d ∧ DimD d) ∧ Rd w' B ∧ w.grownBy w' (some B) := by
  have hlt := h.lt
  go_enter Try.func40, Try.ntmps40
  go_wp2_with fail
  obtain ⟨W0, hW0⟩ : ∃ W0, W0 = (w.alloc (.cells #[.slice none 0 0, .slice none 0 0, .slice none 0 0] 27)).alloc (.cells #[.slice none 0 0, .slice none 0 0, .slice none 0 0] 27) := ⟨_, rfl⟩
  have hB0 : Below w.heap.size w W0 := by rw [hW0]; go_grown
  have D0 : Blk W0 w.heap.size #[.slice none 0 0, .slice none 0 0, .slice none 0 0] 27 := by rw [hW0]; exact (Blk.new w _ _).alloc _
  have P0 : Blk W0 (w.heap.size + 1) #[.slice none 0 0, .slice none 0 0, .slice none 0 0] 27 := by rw [hW0]; exact Blk.new' _ _ _ _ (by simp)
  rw [← hW0]
  clear hW0
  refine (spec_size B W0 (h.below hB0)).mono ?_
  rintro e w1 ⟨⟨k0, rfl, hk0⟩, hR1, hg1⟩
  have D1 := D0.grown hg1 (by omega)
  have P1 := P0.grown hg1 (by omega)
  have hG1 : w.grownBy w1 (some B) := grown_trans (grown_below (grown_refl w B) hB0) hg1
  have K1 : DiskK (w.heap.size + 2) w1 (.agg #[.slice none 0 0, .slice none 0 0, .slice none 0 0]) noD := ⟨noD_R _ _, ⟨dim_no, Nat.zero_le _⟩, .inr (Nat.le_refl _)⟩
  clear D0 P0 hB0 hg1
  go_wp2_with fail
  go_loopw [4] (fun ix wr => ∃ (k : Nat) (d : Dk) (la : Option Addr) (ln lc : Nat) (sa : Option Addr) (sn sc : Nat) (oa : Option Addr) (on oc : Nat), ix = .int .i64 k ∧ k ≤ k0 ∧ Blk wr w.heap.size #[.slice none 0 0, .slice none 0 0, .slice none 0 0] 27 ∧ Blk wr (w.heap.size + 1) #[.slice la ln lc, .slice sa sn sc, .slice oa on oc] 27 ∧ DiskK (w.heap.size + 2) wr (.agg #[.slice la ln lc, .slice sa sn sc, .slice oa on oc]) d ∧ Rd wr B ∧ w.grownBy wr (some B)) (fun ix _ => (intOf ix).toNat)
  case atStart => exact ⟨k0, noD, none, 0, 0, none, 0, 0, none, 0, 0, rfl, Nat.le_refl _, D1, P1, K1, hR1, hG1⟩
  case round =>
    clear D1 P1 K1 hR1 hG1
    obtain ⟨k, d, la, ln, lc, sa, sn, sc, oa, on, oc, rfl, hk, D, P, KD, hR, hG⟩ := hrel
    by_cases hpos : 0 < k
    · have hk1 : (0 : Int) < k := by omega
      go_wp2_with fail
      refine (spec_once B 5 _ hR (by omega) (by omega)).mono ?_
      rintro e w2 ⟨⟨bo, rfl⟩, hR2, hg2⟩
      replace D := D.grown hg2 (by omega)
      replace P := P.grown hg2 (by omega)
      replace KD := KD.off hg2 (by omega)
      replace hG := grown_trans hG hg2
      clear hg2 hR
      obtain ⟨⟨x0, x1, x2⟩, f0, f1, f2⟩ := blk_three P
      cases bo
      · go_wp2_with fail
        have hW : Below w2.heap.size w2 w2.drew := (Below.refl _ _).drew
        have hsz : w.heap.size + 2 ≤ w2.heap.size := by have := P.lt; omega
        have R := hR2
        have G := hG
        clear hR2 hG x0 x1 x2 f0 f1 f2
        replace D := D.below hW
        replace P := P.below hW
        replace KD := KD.below hW
        replace R := R.below hW
        replace G := grown_below G hW
        replace hsz := Nat.le_trans hsz hW.size
        clear hW
        have hS0 : (fun u => u.cell? ⟨w.heap.size + 1, 0, none⟩ = some (.slice la ln lc) ∧ u.cell? ⟨w.heap.size + 1, 1, none⟩ = some (.slice sa sn sc) ∧ u.cell? ⟨w.heap.size + 1, 2, none⟩ = some (.slice oa on oc)) w2.drew := P.three
        refine wp_region_heldH (S := (fun u => u.cell? ⟨w.heap.size + 1, 0, none⟩ = some (.slice la ln lc) ∧ u.cell? ⟨w.heap.size + 1, 1, none⟩ = some (.slice sa sn sc) ∧ u.cell? ⟨w.heap.size + 1, 2, none⟩ = some (.slice oa on oc))) 10 (by kernel_rfl) rfl ?_
        skip
        generalize w2.drew = u0 at *
        refine takeL (i := 1) (v := ?vq1) rfl (by kernel_rfl) (by kernel_rfl) (by kernel_rfl) (fun _ _ _ h => h) (Or.inl ⟨by rfl, ?hyq1⟩) (by assumption) ?restq1
        case hyq1 => (intro u hu; (try dsimp only at hu); go_simp <;> with_reducible rfl)
        try simp only [Act.put, List.setIfInBounds_toArray, List.set_cons_zero, List.set_cons_succ]
        refine takeL (i := 0) (v := ?vq2) rfl (by kernel_rfl) (by kernel_rfl) (by kernel_rfl) (fun _ _ _ h => h) (Or.inl ⟨by rfl, ?hyq2⟩) (by assumption) ?restq2
        case hyq2 => (intro u hu; (try dsimp only at hu); go_simp <;> with_reducible rfl)
        try simp only [Act.put, List.setIfInBounds_toArray, List.set_cons_zero, List.set_cons_succ]
        refine twoLJ (i := 2) (j := 7) (by kernel_rfl) rfl rfl (fun K hK => ?_) (fun K hK => ?_)
        · go_simp
          refine (spec_dop B _ R).mono ?_
          rintro e ua1 ⟨⟨o, rfl, hso⟩, R', hg⟩
          replace D := D.grown hg (by omega)
          replace P := P.grown hg (by omega)
          replace KD := KD.off hg (by omega)
          replace G := grown_trans G hg
          replace hsz := Nat.le_trans hsz hg.size
          replace R := R'
          clear hg R'
          dsimp only
          refine hK.out _ _ P.three (fun hHeld => ?_)
          clear hK K
          try simp only [Act.put, List.setIfInBounds_toArray, List.set_cons_zero, List.set_cons_succ]
          refine twoLJ (i := 3) (j := 7) (by kernel_rfl) rfl rfl (fun K hK => ?_) (fun K hK => ?_)
          · go_simp
            refine (spec_DoS _ d o _ KD.1.at KD.2.1.1 hso.ok).mono ?_
            rintro e ub1 ⟨⟨v4, rfl, R4, hsp4⟩, hB4⟩
            have hK4 : (doD d o).2 = 0 → DiskK (w.heap.size + 2) ub1 v4 (doD d o).1 := fun h0 => ⟨R4.mono (by omega), ⟨dim_do KD.2.1.1 hso.ok h0, do_60 h0⟩, .inl (hsp4 h0)⟩
            obtain ⟨la4, ln4, lc4, sa4, sn4, sc4, oa4, on4, oc4, rfl⟩ := R4.at.l.cells
            replace D := D.below hB4
            replace P := P.below hB4
            replace KD := KD.below hB4
            replace R := R.below hB4
            replace G := grown_below G hB4
            replace hsz := Nat.le_trans hsz hB4.size
            clear hB4 R4 hsp4
            obtain ⟨DD, hDD⟩ : ∃ DD, doD d o = DD := ⟨_, rfl⟩
            rw [hDD] at hK4 ⊢
            clear hDD
            obtain ⟨d4, c4⟩ := DD
            dsimp only at hK4 ⊢
            refine hK.out _ _ P.three (fun hHeld => ?_)
            clear hK K
            try simp only [Act.put, List.setIfInBounds_toArray, List.set_cons_zero, List.set_cons_succ]
            refine takeL (i := 4) (v := ?vq3) rfl (by kernel_rfl) (by kernel_rfl) (by kernel_rfl) (fun _ _ _ h => h) (Or.inl ⟨by rfl, ?hyq3⟩) (by assumption) ?restq3
            case hyq3 => (intro u hu; (try dsimp only at hu); go_simp <;> with_reducible rfl)
            try simp only [Act.put, List.setIfInBounds_toArray, List.set_cons_zero, List.set_cons_succ]
            refine takeL (i := 5) (v := ?vq4) rfl (by kernel_rfl) (by kernel_rfl) (by kernel_rfl) (fun _ _ _ h => h) (Or.inl ⟨by rfl, ?hyq4⟩) (by assumption) ?restq4
            case hyq4 => (intro u hu; (try dsimp only at hu); go_simp <;> with_reducible rfl)
            try simp only [Act.put, List.setIfInBounds_toArray, List.set_cons_zero, List.set_cons_succ]
            refine takeL (i := 6) (v := ?vq5) rfl (by kernel_rfl) (by kernel_rfl) (by kernel_rfl) (fun _ _ _ h => h) (Or.inl ⟨by rfl, ?hyq5⟩) (by assumption) ?restq5
            case hyq5 => (intro u hu; (try dsimp only at hu); go_simp <;> with_reducible rfl)
            try simp only [Act.put, List.setIfInBounds_toArray, List.set_cons_zero, List.set_cons_succ]
            refine oneL (i := 7) (by kernel_rfl) rfl (fun K hK => ?_)
            have hA : Below ub1.heap.size ub1 (ub1.alloc (.cells #[.slice none 0 0, .slice none 0 0, .slice none 0 0] 27)) := (Below.refl _ _).alloc (Nat.le_refl _) _
            have E := Blk.new ub1 #[.slice none 0 0, .slice none 0 0, .slice none 0 0] 27
            obtain ⟨b5, hb5⟩ : ∃ b, b = ub1.heap.size := ⟨_, rfl⟩
            have hb6 : w.heap.size + 2 ≤ b5 := by rw [hb5]; exact hsz
            replace D := D.below hA
            replace P := P.below hA
            replace KD := KD.below hA
            replace R := R.below hA
            replace G := grown_below G hA
            replace hsz := Nat.le_trans hsz hA.size
            replace hK4 := fun h0 => (hK4 h0).below hA
            go_simp
            refine hK.out _ _ P.three (fun hHeld => ?_)
            clear hK K
            try simp only [Act.put, List.setIfInBounds_toArray, List.set_cons_zero, List.set_cons_succ]
            rw [← hb5] at E ⊢
            generalize ub1.alloc (.cells #[.slice none 0 0, .slice none 0 0, .slice none 0 0] 27) = ub2 at *
            clear hA hb5
            refine oneL (i := 8) (by kernel_rfl) rfl (fun K hK => ?_)
            obtain ⟨⟨z0, z1, z2⟩, g0, g1, g2⟩ := blk_three E
            go_simp
            have E5 := E.put3 (x := .slice la4 ln4 lc4) (y := .slice sa4 sn4 sc4) (z := .slice oa4 on4 oc4)
            have hg5 := grown_put3 ub2 b5 (.slice la4 ln4 lc4) (.slice sa4 sn4 sc4) (.slice oa4 on4 oc4)
            replace D := D.grown hg5 (by omega)
            replace P := P.grown hg5 (by omega)
            replace KD := KD.ofTy hg5 E
            replace hK4 := fun h0 => (hK4 h0).ofTy hg5 E
            replace R := R.grown hg5 (by omega)
            replace G := grown_new G hg5 (by omega)
            replace hsz := Nat.le_trans hsz hg5.size
            refine hK.out _ _ P.three (fun hHeld => ?_)
            clear hK K
            try simp only [Act.put, List.setIfInBounds_toArray, List.set_cons_zero, List.set_cons_succ]
            clear z0 z1 z2 g0 g1 g2
            generalize ((ub2.setCell ⟨b5, 0, none⟩ (.slice la4 ln4 lc4)).setCell ⟨b5, 1, none⟩ (.slice sa4 sn4 sc4)).setCell ⟨b5, 2, none⟩ (.slice oa4 on4 oc4) = ub3 at *
            clear hg5 E
            refine takeL (i := 9) (v := ?vq6) rfl (by kernel_rfl) (by kernel_rfl) (by kernel_rfl) (fun _ _ _ h => h) (Or.inl ⟨by rfl, ?hyq6⟩) (by assumption) ?restq6
            case hyq6 => (intro u hu; (try dsimp only at hu); go_simp <;> with_reducible rfl)
            try simp only [Act.put, List.setIfInBounds_toArray, List.set_cons_zero, List.set_cons_succ]
            refine wpAnyH_done (by kernel_rfl) ?_ _
            obtain ⟨⟨x0, x1, x2⟩, f0, f1, f2⟩ := blk_three P
            obtain ⟨z0, z1, z2⟩ := E5.three
            by_cases hc4 : c4 = 0
            · subst hc4
              have K4 := hK4 rfl
              clear hK4
              go_wp2
              have E8 := P.put3 (x := .slice la4 ln4 lc4) (y := .slice sa4 sn4 sc4) (z := .slice oa4 on4 oc4)
              have hg8 := grown_put3 ub3 (w.heap.size + 1) (.slice la4 ln4 lc4) (.slice sa4 sn4 sc4) (.slice oa4 on4 oc4)
              have K8 := K4.off hg8 (by omega)
              have D8 := D.grown hg8 (by omega)
              have R8 := R.grown hg8 (by omega)
              have G8 := grown_new G hg8 (by omega)
              go_roundw
              case rel => exact ⟨k - 1, d4, la4, ln4, lc4, sa4, sn4, sc4, oa4, on4, oc4, by go_num, by omega, D8, E8, K8, R8, G8⟩
              case measure => simp [intOf]; omega
            · have hc5 : (c4 == 0) = false := by simpa using hc4
              clear hK4
              go_wp2
              go_roundw
              case rel => exact ⟨k - 1, d, la, ln, lc, sa, sn, sc, oa, on, oc, by go_num, by omega, D, P, KD, R, G⟩
              case measure => simp [intOf]; omega
          · have hA : Below ua1.heap.size ua1 (ua1.alloc (.cells #[.slice none 0 0, .slice none 0 0, .slice none 0 0] 27)) := (Below.refl _ _).alloc (Nat.le_refl _) _
            have E := Blk.new ua1 #[.slice none 0 0, .slice none 0 0, .slice none 0 0] 27
            obtain ⟨b5, hb5⟩ : ∃ b, b = ua1.heap.size := ⟨_, rfl⟩
            have hb6 : w.heap.size + 2 ≤ b5 := by rw [hb5]; exact hsz
            replace D := D.below hA
            replace P := P.below hA
            replace KD := KD.below hA
            replace R := R.below hA
            replace G := grown_below G hA
            replace hsz := Nat.le_trans hsz hA.size
            go_simp
            refine hK.out _ _ P.three (fun hHeld => ?_)
            clear hK K
            try simp only [Act.put, List.setIfInBounds_toArray, List.set_cons_zero, List.set_cons_succ]
            rw [← hb5] at E ⊢
            generalize ua1.alloc (.cells #[.slice none 0 0, .slice none 0 0, .slice none 0 0] 27) = uc1 at *
            clear hA hb5
            refine oneL (i := 3) (by kernel_rfl) rfl (fun K hK => ?_)
            go_simp
            refine (spec_DoS _ d o _ KD.1.at KD.2.1.1 hso.ok).mono ?_
            rintro e uc2 ⟨⟨v4, rfl, R4, hsp4⟩, hB4⟩
            have hK4 : (doD d o).2 = 0 → DiskK (w.heap.size + 2) uc2 v4 (doD d o).1 := fun h0 => ⟨R4.mono (by omega), ⟨dim_do KD.2.1.1 hso.ok h0, do_60 h0⟩, .inl (hsp4 h0)⟩
            obtain ⟨la4, ln4, lc4, sa4, sn4, sc4, oa4, on4, oc4, rfl⟩ := R4.at.l.cells
            replace D := D.below hB4
            replace P := P.below hB4
            replace KD := KD.below hB4
            replace R := R.below hB4
            replace G := grown_below G hB4
            replace hsz := Nat.le_trans hsz hB4.size
            replace E := E.below hB4
            clear hB4 R4 hsp4
            obtain ⟨DD, hDD⟩ : ∃ DD, doD d o = DD := ⟨_, rfl⟩
            rw [hDD] at hK4 ⊢
            clear hDD
            obtain ⟨d4, c4⟩ := DD
            dsimp only at hK4 ⊢
            refine hK.out _ _ P.three (fun hHeld => ?_)
            clear hK K
            try simp only [Act.put, List.setIfInBounds_toArray, List.set_cons_zero, List.set_cons_succ]
            refine takeL (i := 4) (v := ?vq7) rfl (by kernel_rfl) (by kernel_rfl) (by kernel_rfl) (fun _ _ _ h => h) (Or.inl ⟨by rfl, ?hyq7⟩) (by assumption) ?restq7
            case hyq7 => (intro u hu; (try dsimp only at hu); go_simp <;> with_reducible rfl)
            try simp only [Act.put, List.setIfInBounds_toArray, List.set_cons_zero, List.set_cons_succ]
            refine takeL (i := 5) (v := ?vq8) rfl (by kernel_rfl) (by kernel_rfl) (by kernel_rfl) (fun _ _ _ h => h) (Or.inl ⟨by rfl, ?hyq8⟩) (by assumption) ?restq8
            case hyq8 => (intro u hu; (try dsimp only at hu); go_simp <;> with_reducible rfl)
            try simp only [Act.put, List.setIfInBounds_toArray, List.set_cons_zero, List.set_cons_succ]
            refine takeL (i := 6) (v := ?vq9) rfl (by kernel_rfl) (by kernel_rfl) (by kernel_rfl) (fun _ _ _ h => h) (Or.inl ⟨by rfl, ?hyq9⟩) (by assumption) ?restq9
            case hyq9 => (intro u hu; (try dsimp only at hu); go_simp <;> with_reducible rfl)
            try simp only [Act.put, List.setIfInBounds_toArray, List.set_cons_zero, List.set_cons_succ]
            refine oneL (i := 8) (by kernel_rfl) rfl (fun K hK => ?_)
            obtain ⟨⟨z0, z1, z2⟩, g0, g1, g2⟩ := blk_three E
            go_simp
            have E5 := E.put3 (x := .slice la4 ln4 lc4) (y := .slice sa4 sn4 sc4) (z := .slice oa4 on4 oc4)
            have hg5 := grown_put3 uc2 b5 (.slice la4 ln4 lc4) (.slice sa4 sn4 sc4) (.slice oa4 on4 oc4)
            replace D := D.grown hg5 (by omega)
            replace P := P.grown hg5 (by omega)
            replace KD := KD.ofTy hg5 E
            replace hK4 := fun h0 => (hK4 h0).ofTy hg5 E
            replace R := R.grown hg5 (by omega)
            replace G := grown_new G hg5 (by omega)
            replace hsz := Nat.le_trans hsz hg5.size
            refine hK.out _ _ P.three (fun hHeld => ?_)
            clear hK K
            try simp only [Act.put, List.setIfInBounds_toArray, List.set_cons_zero, List.set_cons_succ]
            clear z0 z1 z2 g0 g1 g2
            generalize ((uc2.setCell ⟨b5, 0, none⟩ (.slice la4 ln4 lc4)).setCell ⟨b5, 1, none⟩ (.slice sa4 sn4 sc4)).setCell ⟨b5, 2, none⟩ (.slice oa4 on4 oc4) = uc3 at *
            clear hg5 E
            refine takeL (i := 9) (v := ?vq10) rfl (by kernel_rfl) (by kernel_rfl) (by kernel_rfl) (fun _ _ _ h => h) (Or.inl ⟨by rfl, ?hyq10⟩) (by assumption) ?restq10
            case hyq10 => (intro u hu; (try dsimp only at hu); go_simp <;> with_reducible rfl)
            try simp only [Act.put, List.setIfInBounds_toArray, List.set_cons_zero, List.set_cons_succ]
            refine wpAnyH_done (by kernel_rfl) ?_ _
            obtain ⟨⟨x0, x1, x2⟩, f0, f1, f2⟩ := blk_three P
            obtain ⟨z0, z1, z2⟩ := E5.three
            by_cases hc4 : c4 = 0
            · subst hc4
              have K4 := hK4 rfl
              clear hK4
              go_wp2
              have E8 := P.put3 (x := .slice la4 ln4 lc4) (y := .slice sa4 sn4 sc4) (z := .slice oa4 on4 oc4)
              have hg8 := grown_put3 uc3 (w.heap.size + 1) (.slice la4 ln4 lc4) (.slice sa4 sn4 sc4) (.slice oa4 on4 oc4)
              have K8 := K4.off hg8 (by omega)
              have D8 := D.grown hg8 (by omega)
              have R8 := R.grown hg8 (by omega)
              have G8 := grown_new G hg8 (by omega)
              go_roundw
              case rel => exact ⟨k - 1, d4, la4, ln4, lc4, sa4, sn4, sc4, oa4, on4, oc4, by go_num, by omega, D8, E8, K8, R8, G8⟩
              case measure => simp [intOf]; omega
            · have hc5 : (c4 == 0) = false := by simpa using hc4
              clear hK4
              go_wp2
              go_roundw
              case rel => exact ⟨k - 1, d, la, ln, lc, sa, sn, sc, oa, on, oc, by go_num, by omega, D, P, KD, R, G⟩
              case measure => simp [intOf]; omega
        · have hA : Below u0.heap.size u0 (u0.alloc (.cells #[.slice none 0 0, .slice none 0 0, .slice none 0 0] 27)) := (Below.refl _ _).alloc (Nat.le_refl _) _
          have E := Blk.new u0 #[.slice none 0 0, .slice none 0 0, .slice none 0 0] 27
          obtain ⟨b5, hb5⟩ : ∃ b, b = u0.heap.size := ⟨_, rfl⟩
          have hb6 : w.heap.size + 2 ≤ b5 := by rw [hb5]; exact hsz
          replace D := D.below hA
          replace P := P.below hA
          replace KD := KD.below hA
          replace R := R.below hA
          replace G := grown_below G hA
          replace hsz := Nat.le_trans hsz hA.size
          go_simp
          refine hK.out _ _ P.three (fun hHeld => ?_)
          clear hK K
          try simp only [Act.put, List.setIfInBounds_toArray, List.set_cons_zero, List.set_cons_succ]
          rw [← hb5] at E ⊢
          generalize u0.alloc (.cells #[.slice none 0 0, .slice none 0 0, .slice none 0 0] 27) = ud1 at *
          clear hA hb5
          refine oneL (i := 2) (by kernel_rfl) rfl (fun K hK => ?_)
          go_simp
          refine (spec_dop B _ R).mono ?_
          rintro e ud2 ⟨⟨o, rfl, hso⟩, R', hg⟩
          replace D := D.grown hg (by omega)
          replace P := P.grown hg (by omega)
          replace KD := KD.off hg (by omega)
          replace G := grown_trans G hg
          replace hsz := Nat.le_trans hsz hg.size
          replace E := E.grown hg (by omega)
          replace R := R'
          clear hg R'
          dsimp only
          refine hK.out _ _ P.three (fun hHeld => ?_)
          clear hK K
          try simp only [Act.put, List.setIfInBounds_toArray, List.set_cons_zero, List.set_cons_succ]
          refine oneL (i := 3) (by kernel_rfl) rfl (fun K hK => ?_)
          go_simp
          refine (spec_DoS _ d o _ KD.1.at KD.2.1.1 hso.ok).mono ?_
          rintro e ud3 ⟨⟨v4, rfl, R4, hsp4⟩, hB4⟩
          have hK4 : (doD d o).2 = 0 → DiskK (w.heap.size + 2) ud3 v4 (doD d o).1 := fun h0 => ⟨R4.mono (by omega), ⟨dim_do KD.2.1.1 hso.ok h0, do_60 h0⟩, .inl (hsp4 h0)⟩
          obtain ⟨la4, ln4, lc4, sa4, sn4, sc4, oa4, on4, oc4, rfl⟩ := R4.at.l.cells
          replace D := D.below hB4
          replace P := P.below hB4
          replace KD := KD.below hB4
          replace R := R.below hB4
          replace G := grown_below G hB4
          replace hsz := Nat.le_trans hsz hB4.size
          replace E := E.below hB4
          clear hB4 R4 hsp4
          obtain ⟨DD, hDD⟩ : ∃ DD, doD d o = DD := ⟨_, rfl⟩
          rw [hDD] at hK4 ⊢
          clear hDD
          obtain ⟨d4, c4⟩ := DD
          dsimp only at hK4 ⊢
          refine hK.out _ _ P.three (fun hHeld => ?_)
          clear hK K
          try simp only [Act.put, List.setIfInBounds_toArray, List.set_cons_zero, List.set_cons_succ]
          refine takeL (i := 4) (v := ?vq11) rfl (by kernel_rfl) (by kernel_rfl) (by kernel_rfl) (fun _ _ _ h => h) (Or.inl ⟨by rfl, ?hyq11⟩) (by assumption) ?restq11
          case hyq11 => (intro u hu; (try dsimp only at hu); go_simp <;> with_reducible rfl)
          try simp only [Act.put, List.setIfInBounds_toArray, List.set_cons_zero, List.set_cons_succ]
          refine takeL (i := 5) (v := ?vq12) rfl (by kernel_rfl) (by kernel_rfl) (by kernel_rfl) (fun _ _ _ h => h) (Or.inl ⟨by rfl, ?hyq12⟩) (by assumption) ?restq12
          case hyq12 => (intro u hu; (try dsimp only at hu); go_simp <;> with_reducible rfl)
          try simp only [Act.put, List.setIfInBounds_toArray, List.set_cons_zero, List.set_cons_succ]
          refine takeL (i := 6) (v := ?vq13) rfl (by kernel_rfl) (by kernel_rfl) (by kernel_rfl) (fun _ _ _ h => h) (Or.inl ⟨by rfl, ?hyq13⟩) (by assumption) ?restq13
          case hyq13 => (intro u hu; (try dsimp only at hu); go_simp <;> with_reducible rfl)
          try simp only [Act.put, List.setIfInBounds_toArray, List.set_cons_zero, List.set_cons_succ]
          refine oneL (i := 8) (by kernel_rfl) rfl (fun K hK => ?_)
          obtain ⟨⟨z0, z1, z2⟩, g0, g1, g2⟩ := blk_three E
          go_simp
          have E5 := E.put3 (x := .slice la4 ln4 lc4) (y := .slice sa4 sn4 sc4) (z := .slice oa4 on4 oc4)
          have hg5 := grown_put3 ud3 b5 (.slice la4 ln4 lc4) (.slice sa4 sn4 sc4) (.slice oa4 on4 oc4)
          replace D := D.grown hg5 (by omega)
          replace P := P.grown hg5 (by omega)
          replace KD := KD.ofTy hg5 E
          replace hK4 := fun h0 => (hK4 h0).ofTy hg5 E
          replace R := R.grown hg5 (by omega)
          replace G := grown_new G hg5 (by omega)
          replace hsz := Nat.le_trans hsz hg5.size
          refine hK.out _ _ P.three (fun hHeld => ?_)
          clear hK K
          try simp only [Act.put, List.setIfInBounds_toArray, List.set_cons_zero, List.set_cons_succ]
          clear z0 z1 z2 g0 g1 g2
          generalize ((ud3.setCell ⟨b5, 0, none⟩ (.slice la4 ln4 lc4)).setCell ⟨b5, 1, none⟩ (.slice sa4 sn4 sc4)).setCell ⟨b5, 2, none⟩ (.slice oa4 on4 oc4) = ud4 at *
          clear hg5 E
          refine takeL (i := 9) (v := ?vq14) rfl (by kernel_rfl) (by kernel_rfl) (by kernel_rfl) (fun _ _ _ h => h) (Or.inl ⟨by rfl, ?hyq14⟩) (by assumption) ?restq14
          case hyq14 => (intro u hu; (try dsimp only at hu); go_simp <;> with_reducible rfl)
          try simp only [Act.put, List.setIfInBounds_toArray, List.set_cons_zero, List.set_cons_succ]
          refine wpAnyH_done (by kernel_rfl) ?_ _
          obtain ⟨⟨x0, x1, x2⟩, f0, f1, f2⟩ := blk_three P
          obtain ⟨z0, z1, z2⟩ := E5.three
          by_cases hc4 : c4 = 0
          · subst hc4
            have K4 := hK4 rfl
            clear hK4
            go_wp2
            have E8 := P.put3 (x := .slice la4 ln4 lc4) (y := .slice sa4 sn4 sc4) (z := .slice oa4 on4 oc4)
            have hg8 := grown_put3 ud4 (w.heap.size + 1) (.slice la4 ln4 lc4) (.slice sa4 sn4 sc4) (.slice oa4 on4 oc4)
            have K8 := K4.off hg8 (by omega)
            have D8 := D.grown hg8 (by omega)
            have R8 := R.grown hg8 (by omega)
            have G8 := grown_new G hg8 (by omega)
            go_roundw
            case rel => exact ⟨k - 1, d4, la4, ln4, lc4, sa4, sn4, sc4, oa4, on4, oc4, by go_num, by omega, D8, E8, K8, R8, G8⟩
            case measure => simp [intOf]; omega
          · have hc5 : (c4 == 0) = false := by simpa using hc4
            clear hK4
            go_wp2
            go_roundw
            case rel => exact ⟨k - 1, d, la, ln, lc, sa, sn, sc, oa, on, oc, by go_num, by omega, D, P, KD, R, G⟩
            case measure => simp [intOf]; omega
      · go_wp2_with fail
        refine (spec_Sync _ d w2 KD.1.at KD.2.1.1).mono ?_
        rintro e w3 ⟨⟨v3, rfl, R3⟩, hB3⟩
        have K3 : DiskK (w.heap.size + 2) w3 v3 (syncD d) := ⟨R3.mono (by have := P.lt; omega), ⟨dim_sync KD.2.1.1, sync_60 KD.2.1.2⟩, .inr (sync_len d)⟩
        obtain ⟨la3, ln3, lc3, sa3, sn3, sc3, oa3, on3, oc3, rfl⟩ := R3.at.l.cells
        replace D := D.below hB3
        replace P := P.below hB3
        replace hG := grown_below hG hB3
        replace hR2 := hR2.below hB3
        clear hB3 R3 KD x0 x1 x2 f0 f1 f2
        obtain ⟨⟨x0, x1, x2⟩, f0, f1, f2⟩ := blk_three P
        go_wp2
        have E8 := P.put3 (x := .slice la3 ln3 lc3) (y := .slice sa3 sn3 sc3) (z := .slice oa3 on3 oc3)
        have hg8 := grown_put3 w3 (w.heap.size + 1) (.slice la3 ln3 lc3) (.slice sa3 sn3 sc3) (.slice oa3 on3 oc3)
        have K8 := K3.off hg8 (by omega)
        have D8 := D.grown hg8 (by omega)
        have R8 := hR2.grown hg8 (by omega)
        have G8 := grown_new hG hg8 (by omega)
        go_roundw
        case rel => exact ⟨k - 1, syncD d, la3, ln3, lc3, sa3, sn3, sc3, oa3, on3, oc3, by go_num, by omega, D8, E8, K8, R8, G8⟩
        case measure => simp [intOf]; omega
    · obtain rfl : k = 0 := by omega
      clear hpos hk
      go_wp2_with fail
      refine (spec_belowN B 40 _ hR (by omega) (by omega)).mono ?_
      rintro e w2 ⟨⟨x, rfl, hx⟩, hR2, hg2⟩
      replace D := D.grown hg2 (by omega)
      replace P := P.grown hg2 (by omega)
      replace KD := KD.off hg2 (by omega)
      replace hG := grown_trans hG hg2
      have hsz : w.heap.size + 2 ≤ w2.heap.size := by have := P.lt; omega
      clear hg2 hR
      obtain ⟨KR, ⟨hdim, h60⟩, hsep⟩ := KD
      by_cases hx0 : x = 0
      · subst hx0
        obtain ⟨la', ln', lc', sa', sn', sc', oa', on', oc', he, RL, RS, RO⟩ := KR
        obtain ⟨⟨rfl, rfl, rfl⟩, ⟨rfl, rfl, rfl⟩, rfl, rfl, rfl⟩ : (la = la' ∧ ln = ln' ∧ lc = lc') ∧ (sa = sa' ∧ sn = sn' ∧ sc = sc') ∧ oa = oa' ∧ on = on' ∧ oc = oc' := by simpa using he
        clear he
        have hln : ln ≤ 60 := by rw [← RL.sl.len]; exact h60
        have hap : sn ≤ ln ∨ ∀ x y, la = some x → sa = some y → x.block ≠ y.block := by
          rcases hsep with h1 | h1
          · exact .inr (h1 _ _ _ _ _ _ _ rfl)
          · exact .inl (by rw [← RL.sl.len, ← RS.sl.len]; exact h1)
        have hA : Below w2.heap.size w2 (w2.alloc (.cells #[.string ⟨#[122, 122]⟩, .string ⟨#[]⟩] 82)) := (Below.refl _ _).alloc (Nat.le_refl _) _
        obtain ⟨i0, hi, hz0, hz1, hz2⟩ := info_parts infoFl
        obtain ⟨⟨x0, x1, x2⟩, f0, f1, f2⟩ := blk_three P
        go_wp2_with (at_builtin; refine wpList_app rfl (fun K hK => wp_appKeep _ _ 24 rfl (w.heap.size + 2) 82 i0 _ 32 Try.underlying24 hi hz0 hz1 hz2 rfl (by decide) flcs_len flcs_one la ln lc d.live rfl (RL.below hA) w2.heap.size 0 [⟨⟨#[122, 122]⟩, ⟨#[]⟩⟩] rfl (sl_blk flcs_len (Blk.new w2 _ _)) sa sn sc d.safe (RS.below hA) hap (by unfold maxLen; omega) (by omega) (by have := hA.size; omega) (fun a6 c6 w6 R6 RS6 hg6 => hK _ _ ?_)); refine Held.out ?_)
        refine Held.mk ?_
        have hty := (RL.below hA).rowTy (m := ln) (k := lc)
        have D6 := (D.below hA).ty hg6 hty (by decide)
        have P6 := (P.below hA).ty hg6 hty (by decide)
        have RO6 := (RO.below hA).ty hg6 hty (by decide)
        have hR6 := rd_row (hR2.below hA) hg6 (own_ge fun ad e => by have := (RL.block ad e).1; omega)
        have hG6 := grown_newR (grown_below hG hA) hg6 (own_ge fun ad e => by have := (RL.block ad e).1; omega)
        clear hty hg6 hA RL RS RO D P x0 x1 x2 f0 f1 f2 hR2 hG
        obtain ⟨⟨x0, x1, x2⟩, f0, f1, f2⟩ := blk_three P6
        obtain ⟨⟨y0, y1, y2⟩, e0, e1, e2⟩ := blk_three D6
        go_wp2
        have hg7 : w6.grownBy (w6.setCell ⟨w.heap.size + 1, 0, none⟩ (.slice a6 (ln + 1) c6)) (some (w.heap.size + 1)) := grown_set (World.grownBy.refl _ _) _ _
        have D7 := D6.grown hg7 (by omega)
        have DT7 : DiskT (w.heap.size + 2) (w6.setCell ⟨w.heap.size + 1, 0, none⟩ (.slice a6 (ln + 1) c6)) (.agg #[.slice a6 (ln + 1) c6, .slice sa sn sc, .slice oa on oc]) ⟨d.live ++ [⟨⟨#[122, 122]⟩, ⟨#[]⟩⟩], d.safe, d.ops⟩ := DiskT.low (DiskR.t ⟨_, _, _, _, _, _, _, _, _, rfl, R6, RS6, RO6⟩) hg7 (by omega)
        have hR7 := hR6.grown hg7 (by omega)
        have hG7 := grown_new hG6 hg7 (by omega)
        generalize w6.setCell ⟨w.heap.size + 1, 0, none⟩ (.slice a6 (ln + 1) c6) = W7 at *
        have E8 := D7.put3 (x := .slice a6 (ln + 1) c6) (y := .slice sa sn sc) (z := .slice oa on oc)
        have hg8 := grown_put3 W7 w.heap.size (.slice a6 (ln + 1) c6) (.slice sa sn sc) (.slice oa on oc)
        have DT8 := DT7.low hg8 (by omega)
        have R8 := hR7.grown hg8 (by omega)
        have G8 := grown_new hG7 hg8 (Nat.le_refl _)
        generalize ((W7.setCell ⟨w.heap.size, 0, none⟩ (.slice a6 (ln + 1) c6)).setCell ⟨w.heap.size, 1, none⟩ (.slice sa sn sc)).setCell ⟨w.heap.size, 2, none⟩ (.slice oa on oc) = W8 at *
        refine bodyPost_ret (results_cell_row rfl _ W8 w.heap.size _ _ _ _ rfl E8 Try.underlying27 rfl (by kernel_rfl)) rfl ?_
        exact ⟨⟨_, _, rfl, DT8.mono (by omega), ⟨⟨by simp only [List.length_append, List.length_cons, List.length_nil]; omega, bnd_zz hdim.live.2⟩, hdim.safe, hdim.ops⟩⟩, R8, G8⟩
      · have hx0b : ((x : Int) == 0) = false := by simp; omega
        obtain ⟨⟨x0, x1, x2⟩, f0, f1, f2⟩ := blk_three P
        obtain ⟨⟨y0, y1, y2⟩, e0, e1, e2⟩ := blk_three D
        by_cases hx1 : x = 1
        · subst hx1
          by_cases hon : 0 < on
          · obtain ⟨la', ln', lc', sa', sn', sc', oa', on', oc', he, RL, RS, RO⟩ := KR
            obtain ⟨⟨rfl, rfl, rfl⟩, ⟨rfl, rfl, rfl⟩, rfl, rfl, rfl⟩ : (la = la' ∧ ln = ln' ∧ lc = lc') ∧ (sa = sa' ∧ sn = sn' ∧ sc = sc') ∧ oa = oa' ∧ on = on' ∧ oc = oc' := by simpa using he
            clear he
            obtain ⟨b, rfl, hb, hnc, hcm⟩ : ∃ b, oa = some ⟨b, 0, none⟩ ∧ w.heap.size + 2 ≤ b ∧ on ≤ oc ∧ oc ≤ maxLen := by
              rcases RO.own with ⟨_, h1, _⟩ | ⟨b, h1, h2, h3, h4, _⟩
              · omega
              · exact ⟨b, h1, h2, h3, h4⟩
            have honi : (0 : Int) < on := by omega
            have hoc : on ≤ oc ∧ oc ≤ 9223372036854775807 := ⟨hnc, hcm⟩
            by_cases hc1 : oc = 1
            · obtain rfl : on = 1 := by omega
              subst hc1
              go_wp2
              have hg7 : w2.grownBy (w2.setCell ⟨w.heap.size + 1, 2, none⟩ (.slice (some ⟨b, 0, none⟩) 0 0)) (some (w.heap.size + 1)) := grown_set (World.grownBy.refl _ _) _ _
              have D7 := D.grown hg7 (by omega)
              have DT7 : DiskT (w.heap.size + 2) (w2.setCell ⟨w.heap.size + 1, 2, none⟩ (.slice (some ⟨b, 0, none⟩) 0 0)) (.agg #[.slice la ln lc, .slice sa sn sc, .slice (some ⟨b, 0, none⟩) 0 0]) ⟨d.live, d.safe, d.ops.drop 1⟩ := DiskT.low (w := w2) ⟨_, _, _, _, _, _, _, _, _, rfl, RL.slH, RS.slH, sl_drop1 (cap := 1) RO.sl (.inr rfl), fun ad e => (RL.block ad e).1, fun ad e => (RS.block ad e).1, fun ad e => by cases e; exact hb⟩ hg7 (by omega)
              have hR7 := hR2.grown hg7 (by omega)
              have hG7 := grown_new hG hg7 (by omega)
              generalize w2.setCell ⟨w.heap.size + 1, 2, none⟩ (.slice (some ⟨b, 0, none⟩) 0 0) = W7 at *
              have E8 := D7.put3 (x := .slice la ln lc) (y := .slice sa sn sc) (z := .slice (some ⟨b, 0, none⟩) 0 0)
              have hg8 := grown_put3 W7 w.heap.size (.slice la ln lc) (.slice sa sn sc) (.slice (some ⟨b, 0, none⟩) 0 0)
              have DT8 := DT7.low hg8 (by omega)
              have R8 := hR7.grown hg8 (by omega)
              have G8 := grown_new hG7 hg8 (Nat.le_refl _)
              generalize ((W7.setCell ⟨w.heap.size, 0, none⟩ (.slice la ln lc)).setCell ⟨w.heap.size, 1, none⟩ (.slice sa sn sc)).setCell ⟨w.heap.size, 2, none⟩ (.slice (some ⟨b, 0, none⟩) 0 0) = W8 at *
              refine bodyPost_ret (results_cell_row rfl _ W8 w.heap.size _ _ _ _ rfl E8 Try.underlying27 rfl (by kernel_rfl)) rfl ?_
              exact ⟨⟨_, _, rfl, DT8.mono (by omega), ⟨hdim.live, hdim.safe, by have := hdim.ops.1; simp only [List.length_drop]; omega, fun p hp => hdim.ops.2 p (List.mem_of_mem_drop hp)⟩⟩, R8, G8⟩
            · go_wp2
              have hg7 : w2.grownBy (w2.setCell ⟨w.heap.size + 1, 2, none⟩ (.slice (some ⟨b, 4, none⟩) (on - 1) (oc - 1))) (some (w.heap.size + 1)) := grown_set (World.grownBy.refl _ _) _ _
              have D7 := D.grown hg7 (by omega)
              have DT7 : DiskT (w.heap.size + 2) (w2.setCell ⟨w.heap.size + 1, 2, none⟩ (.slice (some ⟨b, 4, none⟩) (on - 1) (oc - 1))) (.agg #[.slice la ln lc, .slice sa sn sc, .slice (some ⟨b, 4, none⟩) (on - 1) (oc - 1)]) ⟨d.live, d.safe, d.ops.drop 1⟩ := DiskT.low (w := w2) ⟨_, _, _, _, _, _, _, _, _, rfl, RL.slH, RS.slH, sl_drop1 (cap := oc) RO.sl (.inl rfl), fun ad e => (RL.block ad e).1, fun ad e => (RS.block ad e).1, fun ad e => by cases e; exact hb⟩ hg7 (by omega)
              have hR7 := hR2.grown hg7 (by omega)
              have hG7 := grown_new hG hg7 (by omega)
              generalize w2.setCell ⟨w.heap.size + 1, 2, none⟩ (.slice (some ⟨b, 4, none⟩) (on - 1) (oc - 1)) = W7 at *
              have E8 := D7.put3 (x := .slice la ln lc) (y := .slice sa sn sc) (z := .slice (some ⟨b, 4, none⟩) (on - 1) (oc - 1))
              have hg8 := grown_put3 W7 w.heap.size (.slice la ln lc) (.slice sa sn sc) (.slice (some ⟨b, 4, none⟩) (on - 1) (oc - 1))
              have DT8 := DT7.low hg8 (by omega)
              have R8 := hR7.grown hg8 (by omega)
              have G8 := grown_new hG7 hg8 (Nat.le_refl _)
              generalize ((W7.setCell ⟨w.heap.size, 0, none⟩ (.slice la ln lc)).setCell ⟨w.heap.size, 1, none⟩ (.slice sa sn sc)).setCell ⟨w.heap.size, 2, none⟩ (.slice (some ⟨b, 4, none⟩) (on - 1) (oc - 1)) = W8 at *
              refine bodyPost_ret (results_cell_row rfl _ W8 w.heap.size _ _ _ _ rfl E8 Try.underlying27 rfl (by kernel_rfl)) rfl ?_
              exact ⟨⟨_, _, rfl, DT8.mono (by omega), ⟨hdim.live, hdim.safe, by have := hdim.ops.1; simp only [List.length_drop]; omega, fun p hp => hdim.ops.2 p (List.mem_of_mem_drop hp)⟩⟩, R8, G8⟩
          · have honi : ¬ (0 : Int) < on := by omega
            have DT := KR.t
            go_wp2
            have E8 := D.put3 (x := .slice la ln lc) (y := .slice sa sn sc) (z := .slice oa on oc)
            have hg8 := grown_put3 w2 w.heap.size (.slice la ln lc) (.slice sa sn sc) (.slice oa on oc)
            have DT8 := DT.low hg8 (by omega)
            have R8 := hR2.grown hg8 (by omega)
            have G8 := grown_new hG hg8 (Nat.le_refl _)
            generalize ((w2.setCell ⟨w.heap.size, 0, none⟩ (.slice la ln lc)).setCell ⟨w.heap.size, 1, none⟩ (.slice sa sn sc)).setCell ⟨w.heap.size, 2, none⟩ (.slice oa on oc) = W8 at *
            refine bodyPost_ret (results_cell_row rfl _ W8 w.heap.size _ _ _ _ rfl E8 Try.underlying27 rfl (by kernel_rfl)) rfl ?_
            exact ⟨⟨_, d, rfl, DT8.mono (by omega), hdim⟩, R8, G8⟩
        · have hx1b : ((x : Int) == 1) = false := by simp; omega
          by_cases hx2 : x = 2
          · subst hx2
            go_wp2_with fail
            refine (spec_belowN B 9 _ hR2 (by omega) (by omega)).mono ?_
            rintro e w3 ⟨⟨y, rfl, hy⟩, hR3, hg3⟩
            replace D := D.grown hg3 (by omega)
            replace P := P.grown hg3 (by omega)
            replace hG := grown_trans hG hg3
            have hs3 := hg3.size
            clear hg3 hR2 KR hsep x0 x1 x2 f0 f1 f2 y0 y1 y2 e0 e1 e2
            obtain ⟨m, hm⟩ : ∃ m : Nat, (200000 : Int) - y = m := ⟨(200000 - (y : Int)).toNat, by omega⟩
            have hm2 : m ≤ 200000 := by omega
            obtain ⟨W4, str, hmk, hcv, hB4, hstr⟩ := made_text w3 m hm2
            have hz4 := hB4.size
            replace D := D.below hB4
            replace P := P.below hB4
            replace hR3 := hR3.below hB4
            replace hG := grown_below hG hB4
            have m1 : ¬ w.heap.size + 1 = W4.heap.size := by omega
            have m2 : ¬ W4.heap.size = w.heap.size + 1 := by omega
            have m3 : ¬ w.heap.size = W4.heap.size := by omega
            have m4 : ¬ W4.heap.size = w.heap.size := by omega
            have x0 := fun ob => acell (w := W4) ob P.three.1
            have x1 := fun ob => acell (w := W4) ob P.three.2.1
            have x2 := fun ob => acell (w := W4) ob P.three.2.2
            have f0 := fun ob => (P.alloc ob).frozen 0
            have f1 := fun ob => (P.alloc ob).frozen 1
            have f2 := fun ob => (P.alloc ob).frozen 2
            dsimp only
            iterate 26 (try (first | go_values | go_skip | go_guarded | go_step | go_upon | go_back))
            have hA : Below W4.heap.size W4 (W4.alloc (.cells #[.string ⟨#[98, 105, 103]⟩, .string str] 82)) := (Below.refl _ _).alloc (Nat.le_refl _) _
            have L5 : SlAt Fl.cs 2 (W4.alloc (.cells #[.string ⟨#[98, 105, 103]⟩, .string str] 82)) (some ⟨W4.heap.size, 0, none⟩) 1 [⟨⟨#[98, 105, 103]⟩, str⟩] := sl_blk flcs_len (Blk.new W4 _ _)
            have E5 := (P.below hA).put3 (x := .slice (some ⟨W4.heap.size, 0, none⟩) 1 1) (y := .slice none 0 0) (z := .slice none 0 0)
            have hg5 := grown_put3 (W4.alloc (.cells #[.string ⟨#[98, 105, 103]⟩, .string str] 82)) (w.heap.size + 1) (.slice (some ⟨W4.heap.size, 0, none⟩) 1 1) (.slice none 0 0) (.slice none 0 0)
            replace D := (D.below hA).grown hg5 (by omega)
            replace L5 := L5.grown hg5 (fun ad e => by cases e; exact m2)
            replace hR3 := (hR3.below hA).grown hg5 (by omega)
            replace hG := grown_new (grown_below hG hA) hg5 (by omega)
            clear x0 x1 x2 f0 f1 f2 hmk hcv P
            generalize (((W4.alloc (.cells #[.string ⟨#[98, 105, 103]⟩, .string str] 82)).setCell ⟨w.heap.size + 1, 0, none⟩ (.slice (some ⟨W4.heap.size, 0, none⟩) 1 1)).setCell ⟨w.heap.size + 1, 1, none⟩ (.slice none 0 0)).setCell ⟨w.heap.size + 1, 2, none⟩ (.slice none 0 0) = W5 at *
            clear hA hg5
            obtain ⟨⟨x0, x1, x2⟩, f0, f1, f2⟩ := blk_three E5
            obtain ⟨⟨y0, y1, y2⟩, e0, e1, e2⟩ := blk_three D
            go_wp2
            have hg7 : W5.grownBy (W5.setCell ⟨w.heap.size + 1, 1, none⟩ (.slice (some ⟨W4.heap.size, 0, none⟩) 1 1)) (some (w.heap.size + 1)) := grown_set (World.grownBy.refl _ _) _ _
            have D7 := D.grown hg7 (by omega)
            have DT7 : DiskT (w.heap.size + 2) (W5.setCell ⟨w.heap.size + 1, 1, none⟩ (.slice (some ⟨W4.heap.size, 0, none⟩) 1 1)) (.agg #[.slice (some ⟨W4.heap.size, 0, none⟩) 1 1, .slice (some ⟨W4.heap.size, 0, none⟩) 1 1, .slice none 0 0]) ⟨[⟨⟨#[98, 105, 103]⟩, str⟩], [⟨⟨#[98, 105, 103]⟩, str⟩], []⟩ := DiskT.low (w := W5) ⟨_, _, _, _, _, _, _, _, _, rfl, ⟨L5, fun ad e => by cases e; rfl, fun e => by cases e⟩, ⟨L5, fun ad e => by cases e; rfl, fun e => by cases e⟩, (res_nil (cs := Dp.cs) (sz := 4) (t := 36) (B := 0)).slH, fun ad e => by cases e; show _ ≤ W4.heap.size; omega, fun ad e => by cases e; show _ ≤ W4.heap.size; omega, fun ad e => by cases e⟩ hg7 (by omega)
            have hR7 := hR3.grown hg7 (by omega)
            have hG7 := grown_new hG hg7 (by omega)
            generalize W5.setCell ⟨w.heap.size + 1, 1, none⟩ (.slice (some ⟨W4.heap.size, 0, none⟩) 1 1) = W7 at *
            have E8 := D7.put3 (x := .slice (some ⟨W4.heap.size, 0, none⟩) 1 1) (y := .slice (some ⟨W4.heap.size, 0, none⟩) 1 1) (z := .slice none 0 0)
            have hg8 := grown_put3 W7 w.heap.size (.slice (some ⟨W4.heap.size, 0, none⟩) 1 1) (.slice (some ⟨W4.heap.size, 0, none⟩) 1 1) (.slice none 0 0)
            have DT8 := DT7.low hg8 (by omega)
            have R8 := hR7.grown hg8 (by omega)
            have G8 := grown_new hG7 hg8 (Nat.le_refl _)
            generalize ((W7.setCell ⟨w.heap.size, 0, none⟩ (.slice (some ⟨W4.heap.size, 0, none⟩) 1 1)).setCell ⟨w.heap.size, 1, none⟩ (.slice (some ⟨W4.heap.size, 0, none⟩) 1 1)).setCell ⟨w.heap.size, 2, none⟩ (.slice none 0 0) = W8 at *
            refine bodyPost_ret (results_cell_row rfl _ W8 w.heap.size _ _ _ _ rfl E8 Try.underlying27 rfl (by kernel_rfl)) rfl ?_
            exact ⟨⟨_, _, rfl, DT8.mono (by omega), ⟨⟨by simp, bnd_big (by omega)⟩, ⟨by simp, bnd_big (by omega)⟩, Nat.zero_le _, fun x h => by cases h⟩⟩, R8, G8⟩
          · have hx2b : ((x : Int) == 2) = false := by simp; omega
            have DT := KR.t
            go_wp2
            have E8 := D.put3 (x := .slice la ln lc) (y := .slice sa sn sc) (z := .slice oa on oc)
            have hg8 := grown_put3 w2 w.heap.size (.slice la ln lc) (.slice sa sn sc) (.slice oa on oc)
            have DT8 := DT.low hg8 (by omega)
            have R8 := hR2.grown hg8 (by omega)
            have G8 := grown_new hG hg8 (Nat.le_refl _)
            generalize ((w2.setCell ⟨w.heap.size, 0, none⟩ (.slice la ln lc)).setCell ⟨w.heap.size, 1, none⟩ (.slice sa sn sc)).setCell ⟨w.heap.size, 2, none⟩ (.slice oa on oc) = W8 at *
            refine bodyPost_ret (results_cell_row rfl _ W8 w.heap.size _ _ _ _ rfl E8 Try.underlying27 rfl (by kernel_rfl)) rfl ?_
            exact ⟨⟨_, d, rfl, DT8.mono (by omega), hdim⟩, R8, G8⟩
end Go.Proofs.Ytpobgjkmcmkkeaa
