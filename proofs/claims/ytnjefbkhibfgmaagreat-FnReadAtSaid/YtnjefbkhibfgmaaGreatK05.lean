/- The row in the making: addAll, within, addSlice. The row told; Slice, Joined, Laid of the program. The model's l2Add. -/
import Derived.Test.YtnjefbkhibfgmaaGreatProg
import Derived.Test.YtnjefbkhibfgmaaGreatK04
import Derived.Test.YtnjefbkhibfgmaaGreatK02
namespace Go.Proofs.YtnjefbkhibfgmaaGreat
open Go.RowKit Go.BigFrame
def rall (r : RSt) (l : List Pt) : RSt := l.foldl radd r
theorem radd_s (r : RSt) (p : Pt) : (radd r p).s = r.s + p.n := by
  unfold radd
  split
  · rfl
  · split
    · rfl
    · split
      · rfl
      · split <;> rfl
theorem radd_inv {r : RSt} {p : Pt} (h : RInv r) (hp : 1 ≤ p.n) : RInv (radd r p) := by
  obtain ⟨h0, h1⟩ := h
  have hold : ∀ q ∈ r.L, 1 ≤ q.n ∧ q.n ≤ r.s + p.n := fun q hq => by have := h1 q hq; omega
  refine ⟨by rw [radd_s]; omega, ?_⟩
  rw [radd_s]
  unfold radd
  split
  · exact hold
  · split
    · rename_i hl
      intro q hq
      simp at hq
      subst hq
      omega
    · rename_i q0 hl
      have hq0 := h1 q0 (List.mem_of_getLast? hl)
      split
      · intro q hq
        simp only [List.mem_append, List.mem_singleton] at hq
        rcases hq with hq | rfl
        · exact hold q (List.dropLast_subset _ hq)
        · show 1 ≤ q0.n + p.n ∧ q0.n + p.n ≤ r.s + p.n
          omega
      · split
        · intro q hq
          simp only [List.mem_append, List.mem_singleton] at hq
          rcases hq with hq | rfl
          · exact hold q hq
          · omega
        · exact hold
/-- A part box behind which the row is added to: the row's block, and the slice, are as they were. -/
theorem RowAt.below {w w' : World} {b : Nat} {r : RSt} (h : RowAt w b r) (hb : Below w.heap.size w w') : RowAt w' b r := by
  obtain ⟨hle, c, hc, q⟩ := h
  exact ⟨hle, c, hc.below hb, q⟩
theorem RowAt.lt {w : World} {b : Nat} {r : RSt} (h : RowAt w b r) : b < w.heap.size := by
  obtain ⟨_, c, hc, _⟩ := h
  exact hc.lt
/-- The piece x .. y - 1 of a part. -/
def cutP (p : Pt) (x y : Int) : Pt := if p.a == 0 then ⟨0, 0, y - x⟩ else ⟨p.a, p.f + x, y - x⟩
theorem impl_within (p : Pt) (x y : Int) (w : World) (hf : -1000 ≤ p.f) (hf' : p.f ≤ 1000) (hx0 : 0 ≤ x) (hx1 : x ≤ 1000) (hy0 : 0 ≤ y) (hy1 : y ≤ 1000) :
    Calls Tryz.prog 104 #[.agg #[.int .i64 p.a, .int .i64 p.f, .int .i64 p.n], .int .i64 x, .int .i64 y] w fun e w' => e = .returned (.agg #[.int .i64 (cutP p x y).a, .int .i64 (cutP p x y).f, .int .i64 (cutP p x y).n]) ∧ Below w.heap.size w w' := by
  obtain ⟨a, f, n⟩ := p
  simp only at hf hf'
  cases ha : (a == 0)
  · have hc : Hid (cutP ⟨a, f, n⟩ x y = ⟨a, f + x, y - x⟩) := by show _ = _; simp [cutP, ha]
    go_enter Tryz.func104, Tryz.ntmps104
    go_wp2
    go_returns
    go_light
    refine ⟨?_, by go_grown⟩
    rw [hc.out]
  · have hc : Hid (cutP ⟨a, f, n⟩ x y = ⟨0, 0, y - x⟩) := by show _ = _; simp [cutP, ha]
    go_enter Tryz.func104, Tryz.ntmps104
    go_wp2
    go_returns
    go_light
    refine ⟨?_, by go_grown⟩
    rw [hc.out]
/-- The pieces that make up the bytes from .. to - 1, the parts beginning at st. -/
def slp (fr to : Int) : Int → List Pt → List Pt
  | _, [] => []
  | st, p :: r => if max (fr - st) 0 < min (to - st) p.n then cutP p (max (fr - st) 0) (min (to - st) p.n) :: slp fr to (st + p.n) r else slp fr to (st + p.n) r
theorem cutP_n (p : Pt) (x y : Int) : (cutP p x y).n = y - x := by unfold cutP; split <;> rfl
theorem slp_yes {fr to st x y : Int} {p : Pt} {r : List Pt} (hx : max (fr - st) 0 = x) (hy : min (to - st) p.n = y) (h : x < y) : slp fr to st (p :: r) = cutP p x y :: slp fr to (st + p.n) r := by
  subst hx hy; simp only [slp, h, if_true]
theorem slp_step {rk : RSt} {fr to st x y : Int} {p : Pt} {r : List Pt} (hx : max (fr - st) 0 = x) (hy : min (to - st) p.n = y) (h : x < y) : rall rk (slp fr to st (p :: r)) = rall (radd rk (cutP p x y)) (slp fr to (st + p.n) r) := by
  rw [slp_yes hx hy h]; rfl
theorem slp_no {fr to st : Int} {p : Pt} {r : List Pt} (h : ¬ max (fr - st) 0 < min (to - st) p.n) : slp fr to st (p :: r) = slp fr to (st + p.n) r := by
  simp only [slp, h, if_false]
set_option maxHeartbeats 4000000 in
theorem impl_addSlice (b : Nat) (r : RSt) (a : Option Addr) (n cap : Nat) (l : List Pt) (fr to : Int) (w : World) (hR : RowAt w b r) (hi : RInv r) (hs : r.s ≤ 900000) (h : PtsAt w a n l) (hne : ∀ ad, a = some ad → ad.block ≠ b) (hn : n ≤ 16) (hl : ∀ p ∈ l, 1 ≤ p.n ∧ p.n ≤ 100 ∧ 0 ≤ p.f ∧ p.f ≤ 100) (hf0 : 0 ≤ fr) (hf1 : fr ≤ 10000) (ht0 : 0 ≤ to) (ht1 : to ≤ 10000) :
    Calls Tryz.prog 85 #[.pointer (some ⟨b, 0, none⟩), .slice a n cap, .int .i64 fr, .int .i64 to] w fun e w' => e = .returned (.tuple #[]) ∧ RowAt w' b (rall r (slp fr to 0 l)) ∧ RInv (rall r (slp fr to 0 l)) ∧ (rall r (slp fr to 0 l)).s ≤ r.s + 1600 ∧ w.grownBy w' (some b) := by
  have hlen : Hid (l.length = n) := h.len
  go_enter Tryz.func85, Tryz.ntmps85
  go_wp2_with fail
  go_loopw [8, 15] (fun s ix wr => ∃ (k : Nat) (st : Int) (rk : RSt), k ≤ n ∧ ix = .int .i64 k ∧ s = .int .i64 st ∧ 0 ≤ st ∧ st ≤ 100 * k ∧ RowAt wr b rk ∧ RInv rk ∧ rk.s ≤ r.s + 100 * k ∧ Hid (rall r (slp fr to 0 l) = rall rk (slp fr to st (l.drop k))) ∧ w.grownBy wr (some b)) (fun _ ix _ => n - (intOf ix).toNat)
  case atStart => exact ⟨0, 0, r, Nat.zero_le _, rfl, rfl, by omega, by omega, hR, hi, by omega, rfl, World.grownBy.refl _ _⟩
  case round =>
    obtain ⟨k, st, rk, hk, rfl, rfl, hs0, hs1, hRk, hik, hsk, hI, hg⟩ := hrel
    by_cases hlt : k < n
    · obtain ⟨b', o, p, rfl, hp, c0, c1, c2⟩ := pts_at (h.grown hg hne) hlt
      have hd : Hid (l.drop k = p :: l.drop (k + 1)) := drop_at hp
      obtain ⟨hp1, hp2, hp3, hp4⟩ := hl p (List.mem_of_getElem? hp)
      clear hp
      have hbl := hRk.lt
      by_cases hxy : max (fr - st) 0 < min (to - st) p.n
      · by_cases hx : fr - st < 0
        all_goals by_cases hy : p.n < to - st
        all_goals
          go_wp2_with fail
          refine (impl_within p _ _ _ (by omega) (by omega) (by omega) (by omega) (by omega) (by omega)).mono ?_
          rintro e w1 ⟨rfl, hB1⟩
          obtain ⟨x0, x1, x2, hB1', hs1⟩ := box3 hB1
          clear hB1
          go_wp2_with fail
          refine (impl_add b rk (cutP p _ _) _ (hRk.below hB1') hik (by omega) (by rw [cutP_n]; omega) (by rw [cutP_n]; omega)).mono ?_
          rintro e w2 ⟨rfl, hR2, hg2⟩
          have z2 := hg2.cell x2 (by simp; omega)
          have hg3 := grown_trans (grown_below hg hB1') hg2
          clear x0 x1 x2 hB1' c0 c1 c2
          go_wp2
          go_roundw
          case rel => exact ⟨k + 1, st + p.n, _, by omega, by go_num, by go_num, by omega, by omega, hR2, radd_inv hik (by rw [cutP_n]; omega), by rw [radd_s, cutP_n]; omega, by show _ = _; rw [hI.out, hd.out]; exact slp_step (by omega) (by omega) (by omega), hg3⟩
          case measure => simp [intOf]; omega
      · by_cases hx : fr - st < 0
        all_goals by_cases hy : p.n < to - st
        all_goals try (exfalso; omega)
        all_goals
          go_wp2
          go_roundw
          case rel => exact ⟨k + 1, st + p.n, rk, by omega, by go_num, by go_num, by omega, by omega, hRk.below ((Below.refl _ _).alloc (Nat.le_refl _) _), hik, by omega, by show _ = _; rw [hI.out, hd.out, slp_no hxy], grown_below hg ((Below.refl _ _).alloc (Nat.le_refl _) _)⟩
          case measure => simp [intOf]; omega
    · obtain rfl : k = n := by omega
      go_wp2
      go_returns
      go_light
      rw [List.drop_of_length_le (Nat.le_of_eq hlen.out)] at hI
      rw [hI.out]
      exact ⟨rfl, hRk, hik, by show rk.s ≤ _; omega, hg⟩
end Go.Proofs.YtnjefbkhibfgmaaGreat
namespace Go.Proofs.YtnjefbkhibfgmaaGreat
open Go.RowKit Go.BigFrame
theorem infoP : (Tryz.prog.info? 46).map (fun i => (i.zero, i.size, i.bytes)) = some (some (.agg #[.int .i64 0, .int .i64 0, .int .i64 0]), 3, 24) := by kernel_rfl
theorem impl_told_over (b : Nat) (r : RSt) (w : World) (hR : RowAt w b r) (hov : r.ov = true) :
    Calls Tryz.prog 86 #[.pointer (some ⟨b, 0, none⟩)] w fun e w' => e = .returned (.tuple #[.slice none 0 0, .bool false]) ∧ w' = w := by
  obtain ⟨hle, c, hblk, hcs, hcp, e48, e49, e50⟩ := hR
  have c50 := (hblk.cell 50).trans e50
  rw [hov] at c50
  go_enter Tryz.func86, Tryz.ntmps86
  go_wp2
  go_returns
  exact ⟨rfl, rfl⟩
theorem RowAt.sl {w : World} {b : Nat} {r : RSt} (h : RowAt w b r) : PtsAt w (some ⟨b, 0, none⟩) r.L.length r.L := by
  obtain ⟨hle, c, hblk, hcs, hcp, _⟩ := h
  refine ⟨rfl, fun i x hx => ⟨b, 0, rfl, fun j v hv => ?_⟩⟩
  obtain ⟨r0, r1, r2⟩ := hcp i x hx
  rw [hblk.cell, Nat.zero_add]
  match j, hv with
  | 0, hv => obtain rfl := Option.some.inj hv; exact r0
  | 1, hv => obtain rfl := Option.some.inj hv; exact r1
  | 2, hv => obtain rfl := Option.some.inj hv; exact r2
  | j + 3, hv => simp [Pt.cs] at hv
set_option maxHeartbeats 1000000 in
set_option maxRecDepth 100000 in
theorem impl_told (b : Nat) (r : RSt) (w : World) (hR : RowAt w b r) (hov : r.ov = false) :
    Calls Tryz.prog 86 #[.pointer (some ⟨b, 0, none⟩)] w fun e w' => ∃ a cap, e = .returned (.tuple #[.slice a r.L.length cap, .bool true]) ∧ ResAt Pt.cs 3 46 w' w.heap.size a r.L.length cap r.L ∧ Below w.heap.size w w' := by
  have hsl := hR.sl
  obtain ⟨hle, c, hblk, hcs, hcp, e48, e49, e50⟩ := hR
  have c50 := (hblk.cell 50).trans e50
  have c48 := (hblk.cell 48).trans e48
  rw [hov] at c50
  obtain ⟨i0, hi, hz0, hz1, hz2⟩ := info_parts infoP
  have hli : (r.L.length : Int) ≤ 16 := by omega
  have hl0 : (0 : Int) ≤ r.L.length := by omega
  generalize hn : r.L.length = n at *
  go_enter Tryz.func86, Tryz.ntmps86
  go_wp2_with fail
  refine wp_region_tail 8 (by kernel_rfl) (by kernel_rfl) ?_
  simp only [List.take_succ_cons, List.take_zero, List.drop_succ_cons, List.drop_zero]
  repeat still_step
  refine wpStill_nil ?_
  refine wpList_append_own _ rfl _ _ 42 rfl w.heap.size 46 i0 (.agg #[.int .i64 0, .int .i64 0, .int .i64 0]) 3 24 Tryz.underlying42 hi hz0 hz1 hz2 rfl (by decide) (.slice none 0 0) 0 [] rfl (World.ownsRow_nil _ _ _ _) ⟨b, 0, none⟩ n 16 (r.L.flatMap Pt.cs) rfl (by rw [flat_len pcs_len, hn]) (SlAt.src pcs_len hsl.drew) (pcs_one _) (by unfold maxLen; omega) (by omega) (by simp) ?_
  intro v' w1 hrow hg _
  simp only [Nat.zero_add, List.nil_append] at hrow
  obtain ⟨a, cap, rfl, hres⟩ := res_of_row pcs_len hn hrow
  have hB : Below w.heap.size w w1 := ((Below.refl _ _).drew).grown hg (by simp) (fun k e => by simp [Value.ownBlock] at e)
  go_wp2
  go_returns
  exact ⟨a, cap, rfl, hres, hB⟩
/-- Slice, as a plain function: the row that comes of it. -/
def rowOf (l : List Pt) : RSt := rall ⟨[], 0, false⟩ l
theorem pos_of {l : List Pt} (h : partsOkB l = true) : ∀ p ∈ l, 1 ≤ p.n ∧ p.n ≤ 100 ∧ 0 ≤ p.f ∧ p.f ≤ 100 := by
  intro p hp
  obtain ⟨_, h1, h2⟩ := partsOkB_all h
  have hk := h1 p hp
  have hpos := partOkB_pos hk
  have h3 : p.n ≤ sumN l := by
    obtain ⟨i, hi⟩ := List.mem_iff_getElem?.1 hp
    have e := sumN_take hi
    have b1 := sumN_take_bd h1 i
    have b2 := sumN_take_bd h1 (i + 1)
    omega
  unfold partOkB at hk
  split at hk <;> simp at hk <;> omega
theorem row_new (w : World) : RowAt (w.alloc (.cells #[.int .i64 0, .int .i64 0, .int .i64 0, .int .i64 0, .int .i64 0, .int .i64 0, .int .i64 0, .int .i64 0, .int .i64 0, .int .i64 0, .int .i64 0, .int .i64 0, .int .i64 0, .int .i64 0, .int .i64 0, .int .i64 0, .int .i64 0, .int .i64 0, .int .i64 0, .int .i64 0, .int .i64 0, .int .i64 0, .int .i64 0, .int .i64 0, .int .i64 0, .int .i64 0, .int .i64 0, .int .i64 0, .int .i64 0, .int .i64 0, .int .i64 0, .int .i64 0, .int .i64 0, .int .i64 0, .int .i64 0, .int .i64 0, .int .i64 0, .int .i64 0, .int .i64 0, .int .i64 0, .int .i64 0, .int .i64 0, .int .i64 0, .int .i64 0, .int .i64 0, .int .i64 0, .int .i64 0, .int .i64 0, .int .i64 0, .int .i64 0, .bool false] 120)) w.heap.size ⟨[], 0, false⟩ :=
  ⟨Nat.zero_le _, _, Blk.new _ _ _, rfl, fun i p hp => by simp at hp, rfl, rfl, rfl⟩
theorem inv_new : RInv ⟨[], 0, false⟩ := ⟨Int.le_refl _, fun q hq => by simp at hq⟩
/-- What a row tells. -/
def outc (r : RSt) : Option (List Pt) := if r.ov then none else some r.L
/-- A list of parts and a flag, as an answer: nothing and false, or a list in new memory and true. -/
def RetPts (B : Nat) (e : Ending) (w' : World) : Option (List Pt) → Prop
  | none => e = .returned (.tuple #[.slice none 0 0, .bool false])
  | some L => ∃ a n cap, e = .returned (.tuple #[.slice a n cap, .bool true]) ∧ ResAt Pt.cs 3 46 w' B a n cap L
/-- The row told, whatever it holds. -/
theorem impl_told_any (B b : Nat) (r : RSt) (w : World) (hR : RowAt w b r) (hB : B ≤ w.heap.size) :
    Calls Tryz.prog 86 #[.pointer (some ⟨b, 0, none⟩)] w fun e w' => RetPts B e w' (outc r) ∧ Below w.heap.size w w' := by
  cases hov : r.ov
  · refine (impl_told b r w hR hov).mono ?_
    rintro e w' ⟨a, cap, rfl, hres, hb⟩
    exact ⟨by simp only [outc, hov]; exact ⟨a, _, cap, rfl, hres.mono hB⟩, hb⟩
  · refine (impl_told_over b r w hR hov).mono ?_
    rintro e w' ⟨rfl, rfl⟩
    exact ⟨by simp only [outc, hov]; rfl, Below.refl _ _⟩
def sliceO (l : List Pt) (fr to : Int) : Option (List Pt) :=
  if partsOkB l = true ∧ 0 ≤ fr ∧ fr ≤ sumN l ∧ fr ≤ to ∧ to ≤ sumN l then outc (rowOf (slp fr to 0 l)) else none
set_option maxHeartbeats 1000000 in
set_option maxRecDepth 100000 in
theorem impl_Slice (a : Option Addr) (n cap : Nat) (l : List Pt) (fr to : Int) (w : World) (h : PtsAt w a n l) (hn : n ≤ 4194304) (hb : ∀ ad, a = some ad → ad.block < w.heap.size) :
    Calls Tryz.prog 50 #[.slice a n cap, .int .i64 fr, .int .i64 to] w fun e w' => RetPts w.heap.size e w' (sliceO l fr to) ∧ Below w.heap.size w w' := by
  cases hok : partsOkB l
  · have hf : sliceO l fr to = none := by simp [sliceO, hok]
    rw [hf]
    go_enter Tryz.func50, Tryz.ntmps50
    go_wp2_with fail
    refine (impl_PartsOk a n cap l _ h hn).mono ?_
    rintro e w1 ⟨rfl, hB1⟩
    rw [hok]
    go_wp2
    go_returns
    exact ⟨rfl, hB1⟩
  · have hs : Hid (lenB l = sumN l) := by show _ = _; simp [lenB, hok]
    have h100 := (partsOkB_all hok).2.2
    have hnn := sumN_nonneg l (partsOkB_all hok).2.1
    have h16 : n ≤ 16 := by rw [← h.len]; exact (partsOkB_all hok).1
    by_cases hr : 0 ≤ fr ∧ fr ≤ sumN l ∧ fr ≤ to ∧ to ≤ sumN l
    · have hf : sliceO l fr to = outc (rowOf (slp fr to 0 l)) := by simp [sliceO, hok, hr]
      rw [hf]
      clear hf
      generalize hoo' : outc (rowOf (slp fr to 0 l)) = oo
      have hoo : Hid (outc (rowOf (slp fr to 0 l)) = oo) := hoo'
      clear hoo'
      obtain ⟨r1, r2, r3, r4⟩ := hr
      go_enter Tryz.func50, Tryz.ntmps50
      go_wp2_with fail
      refine (impl_PartsOk a n cap l _ h hn).mono ?_
      rintro e w1 ⟨rfl, hB1⟩
      rw [hok]
      go_wp2_with fail
      refine (impl_LenOf a n cap l _ (h.below hB1) hn).mono ?_
      rintro e w2 ⟨rfl, hB2⟩
      rw [hs.out]
      replace hB2 := chain hB1 hB2
      go_wp2_with fail
      refine (impl_addSlice w2.heap.size _ a n cap l fr to _ (row_new w2) inv_new (by show (0 : Int) ≤ _; omega) ((h.below hB2).alloc _) (fun ad had => by have := hb ad had; have := hB2.size; omega) h16 (pos_of hok) (by omega) (by omega) (by omega) (by omega)).mono ?_
      rintro e w3 ⟨rfl, hR3, _, _, hg3⟩
      have hB3 : Below w.heap.size w w3 := below_grown (chain hB2 ((Below.refl _ _).alloc (Nat.le_refl _) _)) hg3 hB2.size
      go_wp2_with fail
      refine (impl_told_any w.heap.size _ _ _ hR3 hB3.size).mono ?_
      rintro e w4 ⟨hret, hB4⟩
      replace hB4 := chain hB3 hB4
      change RetPts _ _ _ (outc (rowOf (slp fr to 0 l))) at hret
      rw [hoo.out] at hret
      clear hoo
      cases oo with
      | none =>
        obtain rfl := hret
        go_wp2
        go_returns
        exact ⟨rfl, hB4⟩
      | some L =>
        obtain ⟨a', n', cap', rfl, hres⟩ := hret
        go_wp2
        go_returns
        exact ⟨⟨a', n', cap', rfl, hres⟩, hB4⟩
    · have hf : sliceO l fr to = none := by simp only [sliceO, hok, true_and]; rw [if_neg hr]
      rw [hf]
      clear hf
      go_enter Tryz.func50, Tryz.ntmps50
      go_wp2_with fail
      refine (impl_PartsOk a n cap l _ h hn).mono ?_
      rintro e w1 ⟨rfl, hB1⟩
      rw [hok]
      go_wp2_with fail
      refine (impl_LenOf a n cap l _ (h.below hB1) hn).mono ?_
      rintro e w2 ⟨rfl, hB2⟩
      rw [hs.out]
      replace hB2 := chain hB1 hB2
      go_wp2
      all_goals go_returns
      all_goals exact ⟨rfl, hB2⟩
end Go.Proofs.YtnjefbkhibfgmaaGreat
namespace Go.Proofs.YtnjefbkhibfgmaaGreat
open Go.RowKit Go.BigFrame
/-- l2Add, as a plain function. -/
def addL (l : List Pt) (p : Pt) : List Pt :=
  match l.getLast? with
  | none => [p]
  | some q => if goesOnB q p then l.dropLast ++ [⟨q.a, q.f, wrap64 (q.n + p.n)⟩] else l ++ [p]
/-- A slice value as Go has it. -/
structure ArgOk (a : Option Addr) (cap : Nat) : Prop where
  spot : ∀ ad, a = some ad → ad.spot = none
  nil : a = none → cap = 0
theorem ResAt.arg {α : Type} {cs : α → List Value} {sz : Nat} {t : TypeId} {w : World} {B n cap : Nat} {a : Option Addr} {l : List α} (h : ResAt cs sz t w B a n cap l) : ArgOk a cap := by
  rcases h.own with ⟨rfl, _, rfl⟩ | ⟨b, rfl, _⟩
  · exact ⟨fun ad h => (by cases h), fun _ => rfl⟩
  · exact ⟨fun ad h => (by cases h; rfl), fun h => (by cases h)⟩
theorem arg_own (b cap : Nat) : ArgOk (some ⟨b, 0, none⟩) cap := ⟨fun ad h => (by cases h; rfl), fun h => (by cases h)⟩
set_option maxHeartbeats 2000000 in
set_option maxRecDepth 100000 in
theorem spec_l2Add (a : Option Addr) (n cap : Nat) (l : List Pt) (p : Pt) (w : World) (h : PtsAt w a n l) (hn : n ≤ 4194304) (ha : ArgOk a cap) :
    Calls Tryz.prog 133 #[.slice a n cap, .agg #[.int .i64 p.a, .int .i64 p.f, .int .i64 p.n]] w fun e w' => (∃ a' n' cap', e = .returned (.slice a' n' cap') ∧ ResAt Pt.cs 3 46 w' w.heap.size a' n' cap' (addL l p)) ∧ Below w.heap.size w w' := by
  have hlen := h.len
  obtain ⟨i0, hi, hz0, hz1, hz2⟩ := info_parts infoP
  have x0 : (w.alloc (.cells #[.int .i64 p.a, .int .i64 p.f, .int .i64 p.n] 46)).cell? ⟨w.heap.size, 0, none⟩ = some (.int .i64 p.a) := by simp
  have x1 : (w.alloc (.cells #[.int .i64 p.a, .int .i64 p.f, .int .i64 p.n] 46)).cell? ⟨w.heap.size, 1, none⟩ = some (.int .i64 p.f) := by simp
  have x2 : (w.alloc (.cells #[.int .i64 p.a, .int .i64 p.f, .int .i64 p.n] 46)).cell? ⟨w.heap.size, 2, none⟩ = some (.int .i64 p.n) := by simp
  have hB1 : Below w.heap.size w (w.alloc (.cells #[.int .i64 p.a, .int .i64 p.f, .int .i64 p.n] 46)) := (Below.refl _ _).alloc (Nat.le_refl _) _
  rcases List.eq_nil_or_concat l with hL | ⟨L', q, hL⟩
  · have hr : Hid (addL l p = [] ++ l ++ [p]) := by show _ = _; rw [hL]; rfl
    obtain rfl : n = 0 := by rw [← hlen, hL]; rfl
    go_enter Tryz.func133, Tryz.ntmps133
    go_wp2_with fail
    go_quiet (fail)
    replace x0 := bcell (drewNB _ nq) x0
    replace x1 := bcell (drewNB _ nq) x1
    replace x2 := bcell (drewNB _ nq) x2
    have hB6 := chain hB1 (drewNB _ nq)
    clear hB1
    generalize (w.alloc (.cells #[.int .i64 p.a, .int .i64 p.f, .int .i64 p.n] 46)).drewN nq = W6 at *
    have h6 := h.below hB6
    have hs6 := hB6.size
    go_wp2_with fail
    have hlt6 : w.heap.size < W6.heap.size := World.block_lt_of_cell? W6 ⟨w.heap.size, 0, none⟩ x0
    go_region_held3 (fun u => u.cell? ⟨w.heap.size, 0, none⟩ = some (.int .i64 p.a) ∧ u.cell? ⟨w.heap.size, 1, none⟩ = some (.int .i64 p.f) ∧ u.cell? ⟨w.heap.size, 2, none⟩ = some (.int .i64 p.n)) (go_keep) (first | (refine step_app rfl (wp_app _ _ 42 rfl (w.heap.size + 1) 46 i0 (.agg #[.int .i64 0, .int .i64 0, .int .i64 0]) 24 Tryz.underlying42 hi hz0 hz1 hz2 rfl (by decide) pcs_len pcs_one _ 0 0 [] rfl (res_empty (by first | exact (Blk.new' _ _ _ _ (by simp)).drew | exact ((Blk.new' _ _ _ _ (by simp)).alloc _).drew) (by first | omega | (simp; omega))) a 0 cap l rfl (h6.below (by go_grown)) ha.spot ha.nil 0 (Nat.zero_add _) (by unfold maxLen; omega) (by omega) (by first | omega | (simp; omega)) ?_); intro a1 cap1 w1 hr1 hg1; have z0 := hg1.cell (a := ⟨w.heap.size, 0, none⟩) (by first | exact acell _ x0 | exact acell _ (acell _ x0)) (by simp [Value.ownBlock]; omega); have z1 := hg1.cell (a := ⟨w.heap.size, 1, none⟩) (by first | exact acell _ x1 | exact acell _ (acell _ x1)) (by simp [Value.ownBlock]; omega); have z2 := hg1.cell (a := ⟨w.heap.size, 2, none⟩) (by first | exact acell _ x2 | exact acell _ (acell _ x2)) (by simp [Value.ownBlock]; omega)) | (refine step_app rfl (wp_app _ _ 42 rfl (w.heap.size + 1) 46 i0 (.agg #[.int .i64 0, .int .i64 0, .int .i64 0]) 24 Tryz.underlying42 hi hz0 hz1 hz2 rfl (by decide) pcs_len pcs_one a1 0 cap1 ([] ++ l) rfl (by first | exact hr1 | exact hr1.alloc _) _ 1 1 [p] rfl (by first | exact sl_new' _ p _ _ (by simp) | (refine SlAt.grown (r := W6.heap.size) (sl_new' _ p _ _ (by simp)).drew hg1 ?_; intro ad h; cases h; first | (simp; done) | (simp; omega) | omega) | (refine SlAt.grown (r := W6.heap.size + 1) ((sl_new' _ p _ _ (by simp)).alloc _).drew hg1 ?_; intro ad h; cases h; first | (simp; done) | (simp; omega) | omega)) (fun ad h => (by cases h; rfl)) (fun h => (by cases h)) (0 + 1) rfl (by unfold maxLen; omega) (by omega) (by have := hg1.size; simp at this; first | omega | (simp; omega)) ?_); intro a2 cap2 w2 hr2 hg2; have y0 := hg2.cell (a := ⟨w.heap.size, 0, none⟩) (by first | exact z0 | exact acell _ z0) (own_ne fun ad h => (hr1.block ad h).1); have y1 := hg2.cell (a := ⟨w.heap.size, 1, none⟩) (by first | exact z1 | exact acell _ z1) (own_ne fun ad h => (hr1.block ad h).1); have y2 := hg2.cell (a := ⟨w.heap.size, 2, none⟩) (by first | exact z2 | exact acell _ z2) (own_ne fun ad h => (hr1.block ad h).1)))
    all_goals
      have hb1 : Below w.heap.size w w1 := Below.grown (by go_grown) hg1 (by first | omega | (simp; omega)) (fun k e => by simp [Value.ownBlock] at e; omega)
      have hb2 : Below w.heap.size w w2 := Below.grown (by first | exact hb1 | exact hb1.alloc hb1.size _) hg2 (by have := hb1.size; first | omega | (simp; omega)) (own_ge fun ad h => by have := (hr1.block ad h).1; omega)
      have hr3 : ResAt Pt.cs 3 46 w2 w.heap.size a2 (0 + 1) cap2 (addL l p) := by rw [hr.out]; exact hr2.mono (by omega)
      go_wp2
      go_returns
      exact ⟨⟨a2, _, cap2, rfl, hr3⟩, hb2⟩
  · -- there is a last part
    have hLl : l.length = L'.length + 1 := by rw [hL]; simp
    have hq : l[L'.length]? = some q := by rw [hL]; simp
    have hlast : l.getLast? = some q := by rw [hL]; simp
    have hdl : l.dropLast = L' := by rw [hL]; simp
    obtain ⟨j, rfl⟩ : ∃ j, n = j + 1 := ⟨L'.length, by omega⟩
    have hjl : L'.length = j := by omega
    rw [hjl] at hq
    obtain ⟨b, o, q', rfl, hq', d0, d1, d2⟩ := pts_at (h.below hB1) (k := j) (by omega)
    obtain rfl : q = q' := by rw [hq] at hq'; exact Option.some.inj hq'
    have hw1 : wrap64 ((j : Int) + 1 - 1) = (j : Int) := by unfold wrap64; omega
    have hj0 : (0 : Int) ≤ (j : Int) := by omega
    have hj1 : (j : Int) < (j : Int) + 1 := by omega
    have g0 := gcell d0
    have g1 := gcell d1
    have g2 := gcell d2
    have g3 := gcell x0
    have g4 := gcell x1
    have g5 := gcell x2
    have hne := grw_ne (w.alloc (.cells #[.int .i64 p.a, .int .i64 p.f, .int .i64 p.n] 46))
    cases hgo : goesOnB q p
    all_goals
      go_enter Tryz.func133, Tryz.ntmps133
      go_wp2_with fail
      refine wp_region_grow (by kernel_rfl) (by kernel_rfl) ?_
      repeat (go_big_quiet_step (first | (go_at_call 93; have qq := spec_l2Next q p; rw [hgo] at qq; exact grow_of (qq _))))
      refine wpQuiet_nil ?_
      intro W6 hx
      have hBx := grw_out hx
      clear hx g0 g1 g2 g3 g4 g5 hne
      replace x0 := bcell hBx x0
      replace x1 := bcell hBx x1
      replace x2 := bcell hBx x2
      replace d0 := bcell hBx d0
      replace d1 := bcell hBx d1
      replace d2 := bcell hBx d2
      have hB6 := chain hB1 hBx
      clear hB1 hBx
      have h6 := h.below hB6
      have hs6 := hB6.size
      have hlt6 : w.heap.size < W6.heap.size := World.block_lt_of_cell? W6 ⟨w.heap.size, 0, none⟩ x0
    · have hr : Hid (addL l p = [] ++ l ++ [p]) := by show _ = _; simp [addL, hlast, hgo]
      go_wp2_with fail
      go_region_held3 (fun u => u.cell? ⟨w.heap.size, 0, none⟩ = some (.int .i64 p.a) ∧ u.cell? ⟨w.heap.size, 1, none⟩ = some (.int .i64 p.f) ∧ u.cell? ⟨w.heap.size, 2, none⟩ = some (.int .i64 p.n)) (go_keep) (first | (refine step_app rfl (wp_app _ _ 42 rfl (w.heap.size + 1) 46 i0 (.agg #[.int .i64 0, .int .i64 0, .int .i64 0]) 24 Tryz.underlying42 hi hz0 hz1 hz2 rfl (by decide) pcs_len pcs_one _ 0 0 [] rfl (res_empty (by first | exact (Blk.new' _ _ _ _ (by simp)).drew | exact ((Blk.new' _ _ _ _ (by simp)).alloc _).drew) (by first | omega | (simp; omega))) (some ⟨b, o, none⟩) (j + 1) cap l rfl (h6.below (by go_grown)) ha.spot ha.nil (j + 1) (Nat.zero_add _) (by unfold maxLen; omega) (by omega) (by first | omega | (simp; omega)) ?_); intro a1 cap1 w1 hr1 hg1; have z0 := hg1.cell (a := ⟨w.heap.size, 0, none⟩) (by first | exact acell _ x0 | exact acell _ (acell _ x0)) (by simp [Value.ownBlock]; omega); have z1 := hg1.cell (a := ⟨w.heap.size, 1, none⟩) (by first | exact acell _ x1 | exact acell _ (acell _ x1)) (by simp [Value.ownBlock]; omega); have z2 := hg1.cell (a := ⟨w.heap.size, 2, none⟩) (by first | exact acell _ x2 | exact acell _ (acell _ x2)) (by simp [Value.ownBlock]; omega)) | (refine step_app rfl (wp_app _ _ 42 rfl (w.heap.size + 1) 46 i0 (.agg #[.int .i64 0, .int .i64 0, .int .i64 0]) 24 Tryz.underlying42 hi hz0 hz1 hz2 rfl (by decide) pcs_len pcs_one a1 (j + 1) cap1 ([] ++ l) rfl (by first | exact hr1 | exact hr1.alloc _) _ 1 1 [p] rfl (by first | exact sl_new' _ p _ _ (by simp) | (refine SlAt.grown (r := W6.heap.size) (sl_new' _ p _ _ (by simp)).drew hg1 ?_; intro ad h; cases h; first | (simp; done) | (simp; omega) | omega) | (refine SlAt.grown (r := W6.heap.size + 1) ((sl_new' _ p _ _ (by simp)).alloc _).drew hg1 ?_; intro ad h; cases h; first | (simp; done) | (simp; omega) | omega)) (fun ad h => (by cases h; rfl)) (fun h => (by cases h)) (j + 1 + 1) rfl (by unfold maxLen; omega) (by omega) (by have := hg1.size; simp at this; first | omega | (simp; omega)) ?_); intro a2 cap2 w2 hr2 hg2; have y0 := hg2.cell (a := ⟨w.heap.size, 0, none⟩) (by first | exact z0 | exact acell _ z0) (own_ne fun ad h => (hr1.block ad h).1); have y1 := hg2.cell (a := ⟨w.heap.size, 1, none⟩) (by first | exact z1 | exact acell _ z1) (own_ne fun ad h => (hr1.block ad h).1); have y2 := hg2.cell (a := ⟨w.heap.size, 2, none⟩) (by first | exact z2 | exact acell _ z2) (own_ne fun ad h => (hr1.block ad h).1)))
      all_goals
        have hb1 : Below w.heap.size w w1 := Below.grown (by go_grown) hg1 (by first | omega | (simp; omega)) (fun k e => by simp [Value.ownBlock] at e; omega)
        have hb2 : Below w.heap.size w w2 := Below.grown (by first | exact hb1 | exact hb1.alloc hb1.size _) hg2 (by have := hb1.size; first | omega | (simp; omega)) (own_ge fun ad h => by have := (hr1.block ad h).1; omega)
        have hr3 : ResAt Pt.cs 3 46 w2 w.heap.size a2 (j + 1 + 1) cap2 (addL l p) := by rw [hr.out]; exact hr2.mono (by omega)
        go_wp2
        go_returns
        exact ⟨⟨a2, _, cap2, rfl, hr3⟩, hb2⟩
    · have hr : Hid (addL l p = l.dropLast ++ [⟨q.a, q.f, wrap64 (q.n + p.n)⟩]) := by show _ = _; simp [addL, hlast, hgo]
      go_wp2_with (at_builtin; refine wpList_app rfl (fun K hK => wp_app _ _ 42 rfl (w.heap.size + 1) 46 i0 (.agg #[.int .i64 0, .int .i64 0, .int .i64 0]) 24 Tryz.underlying42 hi hz0 hz1 hz2 rfl (by decide) pcs_len pcs_one _ 0 0 [] rfl (res_empty (Blk.new' _ _ _ _ (by simp)) (by omega)) (some ⟨b, o, none⟩) (j + 1) cap l rfl (h6.below (by go_grown)) ha.spot ha.nil (j + 1) (Nat.zero_add _) (by unfold maxLen; omega) (by omega) (by simp; omega) (fun a1 cap1 w1 hr1 hg1 => hK _ _ ?_)))
      have hb1 : Below w.heap.size w w1 := Below.grown (by go_grown) hg1 (by simp; omega) (fun k e => by simp [Value.ownBlock] at e; omega)
      rcases hr1.own with ⟨_, h0, _⟩ | ⟨g, rfl, hgB, hgc, hgm, c, hgb, hgs, hgt⟩
      · exact absurd h0 (by omega)
      have z2 := hg1.cell (a := ⟨w.heap.size, 2, none⟩) (acell _ x2) (by simp [Value.ownBlock]; omega)
      obtain ⟨b', o', q', hbo, hq', e0, e1, e2⟩ := pts_at hr1.sl (k := j) (by omega)
      obtain ⟨rfl, rfl⟩ : g = b' ∧ 0 = o' := by simpa using hbo
      obtain rfl : q = q' := by simp only [List.nil_append] at hq'; rw [hq] at hq'; exact Option.some.inj hq'
      simp only [Nat.zero_add] at e0 e1 e2
      have f2 := hgb.frozen (j * 3 + 2)
      clear hbo
      refine wp_region_tail 12 (by kernel_rfl) (by kernel_rfl) ?_
      simp only [List.take_succ_cons, List.take_zero, List.drop_succ_cons, List.drop_zero]
      repeat still_step
      refine wpStill_nil ?_
      go_wp2
      go_returns
      go_light
      refine ⟨⟨some ⟨g, 0, none⟩, j + 1, cap1, rfl, ?_⟩, ((hb1.setCell (by show w.heap.size ≤ g; omega) _).drew)⟩
      rw [hr.out, hdl]
      have hfl : (L'.flatMap Pt.cs).length = j * 3 := by rw [flat_len pcs_len, hjl]
      have htk : (c.setIfInBounds (j * 3 + 2) (.int .i64 (wrap64 (q.n + p.n)))).toList.take ((j + 1) * 3) = (L' ++ [(⟨q.a, q.f, wrap64 (q.n + p.n)⟩ : Pt)]).flatMap Pt.cs := by
        rw [Array.toList_setIfInBounds, List.take_set, hgt, hL, List.nil_append, List.concat_eq_append, List.flatMap_append, List.flatMap_append, List.set_append_right _ _ (by omega), hfl]
        simp [Pt.cs]
      obtain ⟨a2, cap2, hv, hres⟩ := res_of_row (w := (w1.setCell ⟨g, j * 3 + 2, none⟩ (.int .i64 (wrap64 (q.n + p.n)))).drew) (B := w.heap.size) (t := 46) (n := j + 1) (v := .slice (some ⟨g, 0, none⟩) (j + 1) cap1) (l := L' ++ [(⟨q.a, q.f, wrap64 (q.n + p.n)⟩ : Pt)]) pcs_len (by simp [hjl])
        ⟨by rw [flat_len pcs_len]; simp [hjl], .inr ⟨g, cap1, _, rfl, by omega, (hgb.set _ _).drew, hgc, hgm, by simp [hgs], htk⟩⟩
      cases hv
      exact hres
end Go.Proofs.YtnjefbkhibfgmaaGreat
