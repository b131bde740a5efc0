/- The row told; Slice, Joined, Laid of the program. -/
import Derived.Test.YtbmkedickkpjjaaProg
import Derived.Test.YtbmkedickkpjjaaRb
import Derived.Test.YtbmkedickkpjjaaApp
namespace Go.Proofs.Ytbmkedickkpjjaa
open Go.RowKit Go.BigFrame

theorem infoP : (Try.prog.info? 131).map (fun i => (i.zero, i.size, i.bytes)) = some (some (.agg #[.int .i64 0, .int .i64 0, .int .i64 0]), 3, 24) := by kernel_rfl

theorem impl_told_over (b : Nat) (r : RSt) (w : World) (hR : RowAt w b r) (hov : r.ov = true) :
    Calls Try.prog 123 #[.pointer (some ⟨b, 0, none⟩)] w fun e w' => e = .returned (.tuple #[.slice none 0 0, .bool false]) ∧ w' = w := by
  obtain ⟨hle, c, hblk, hcs, hcp, e48, e49, e50⟩ := hR
  have c50 := (hblk.cell 50).trans e50
  rw [hov] at c50
  go_enter Try.func123, Try.ntmps123
  go_wp2
  go_returns
  exact ⟨rfl, rfl⟩

theorem RowAt.sl {w : World} {b : Nat} {r : RSt} (h : RowAt w b r) : PtsAt w (some ⟨b, 0, none⟩) r.L.length r.L := by
  obtain ⟨hle, c, hblk, hcs, hcp, _⟩ := h
  refine ⟨rfl, fun i x hx => ⟨b, 0, rfl, fun j v hv => ?_⟩⟩
  obtain ⟨r0, r1, r2⟩ := hcp i x hx
  rw [hblk.cell, Nat.zero_add]
  match j, hv with
  | 0, hv => obtain rfl := Option.some.inj hv; exact r0
  | 1, hv => obtain rfl := Option.some.inj hv; exact r1
  | 2, hv => obtain rfl := Option.some.inj hv; exact r2
  | j + 3, hv => simp [Pt.cs] at hv

set_option maxHeartbeats 1000000 in
set_option maxRecDepth 100000 in
theorem impl_told (b : Nat) (r : RSt) (w : World) (hR : RowAt w b r) (hov : r.ov = false) :
    Calls Try.prog 123 #[.pointer (some ⟨b, 0, none⟩)] w fun e w' => ∃ a cap, e = .returned (.tuple #[.slice a r.L.length cap, .bool true]) ∧ ResAt Pt.cs 3 131 w' w.heap.size a r.L.length cap r.L ∧ Below w.heap.size w w' := by
  have hsl := hR.sl
  obtain ⟨hle, c, hblk, hcs, hcp, e48, e49, e50⟩ := hR
  have c50 := (hblk.cell 50).trans e50
  have c48 := (hblk.cell 48).trans e48
  rw [hov] at c50
  obtain ⟨i0, hi, hz0, hz1, hz2⟩ := info_parts infoP
  have hli : (r.L.length : Int) ≤ 16 := by omega
  have hl0 : (0 : Int) ≤ r.L.length := by omega
  generalize hn : r.L.length = n at *
  go_enter Try.func123, Try.ntmps123
  go_wp2_with fail
  refine wp_region_tail 8 (by kernel_rfl) (by kernel_rfl) ?_
  simp only [List.take_succ_cons, List.take_zero, List.drop_succ_cons, List.drop_zero]
  repeat still_step
  refine wpStill_nil ?_
  refine wpList_append_own _ rfl _ _ 39 rfl w.heap.size 131 i0 (.agg #[.int .i64 0, .int .i64 0, .int .i64 0]) 3 24 Try.underlying39 hi hz0 hz1 hz2 rfl (by decide) (.slice none 0 0) 0 [] rfl (World.ownsRow_nil _ _ _ _) ⟨b, 0, none⟩ n 16 (r.L.flatMap Pt.cs) rfl (by rw [flat_len pcs_len, hn]) (SlAt.src pcs_len hsl.drew) (pcs_one _) (by unfold maxLen; omega) (by omega) (by simp) ?_
  intro v' w1 hrow hg _
  simp only [Nat.zero_add, List.nil_append] at hrow
  obtain ⟨a, cap, rfl, hres⟩ := res_of_row pcs_len hn hrow
  have hB : Below w.heap.size w w1 := ((Below.refl _ _).drew).grown hg (by simp) (fun k e => by simp [Value.ownBlock] at e)
  go_wp2
  go_returns
  exact ⟨a, cap, rfl, hres, hB⟩

/-- Slice, as a plain function: the row that comes of it. -/
def rowOf (l : List Pt) : RSt := rall ⟨[], 0, false⟩ l

theorem pos_of {l : List Pt} (h : partsOkB l = true) : ∀ p ∈ l, 1 ≤ p.n ∧ p.n ≤ 100 ∧ 0 ≤ p.f ∧ p.f ≤ 100 := by
  intro p hp
  obtain ⟨_, h1, h2⟩ := partsOkB_all h
  have hk := h1 p hp
  have hpos := partOkB_pos hk
  have h3 : p.n ≤ sumN l := by
    obtain ⟨i, hi⟩ := List.mem_iff_getElem?.1 hp
    have e := sumN_take hi
    have b1 := sumN_take_bd h1 i
    have b2 := sumN_take_bd h1 (i + 1)
    omega
  unfold partOkB at hk
  split at hk <;> simp at hk <;> omega

theorem row_new (w : World) : RowAt (w.alloc (.cells #[.int .i64 0, .int .i64 0, .int .i64 0, .int .i64 0, .int .i64 0, .int .i64 0, .int .i64 0, .int .i64 0, .int .i64 0, .int .i64 0, .int .i64 0, .int .i64 0, .int .i64 0, .int .i64 0, .int .i64 0, .int .i64 0, .int .i64 0, .int .i64 0, .int .i64 0, .int .i64 0, .int .i64 0, .int .i64 0, .int .i64 0, .int .i64 0, .int .i64 0, .int .i64 0, .int .i64 0, .int .i64 0, .int .i64 0, .int .i64 0, .int .i64 0, .int .i64 0, .int .i64 0, .int .i64 0, .int .i64 0, .int .i64 0, .int .i64 0, .int .i64 0, .int .i64 0, .int .i64 0, .int .i64 0, .int .i64 0, .int .i64 0, .int .i64 0, .int .i64 0, .int .i64 0, .int .i64 0, .int .i64 0, .int .i64 0, .int .i64 0, .bool false] 134)) w.heap.size ⟨[], 0, false⟩ :=
  ⟨Nat.zero_le _, _, Blk.new _ _ _, rfl, fun i p hp => by simp at hp, rfl, rfl, rfl⟩

theorem inv_new : RInv ⟨[], 0, false⟩ := ⟨Int.le_refl _, fun q hq => by simp at hq⟩

/-- What a row tells. -/
def outc (r : RSt) : Option (List Pt) := if r.ov then none else some r.L

/-- A list of parts and a flag, as an answer: nothing and false, or a list in new memory and true. -/
def RetPts (B : Nat) (e : Ending) (w' : World) : Option (List Pt) → Prop
  | none => e = .returned (.tuple #[.slice none 0 0, .bool false])
  | some L => ∃ a n cap, e = .returned (.tuple #[.slice a n cap, .bool true]) ∧ ResAt Pt.cs 3 131 w' B a n cap L

/-- The row told, whatever it holds. -/
theorem impl_told_any (B b : Nat) (r : RSt) (w : World) (hR : RowAt w b r) (hB : B ≤ w.heap.size) :
    Calls Try.prog 123 #[.pointer (some ⟨b, 0, none⟩)] w fun e w' => RetPts B e w' (outc r) ∧ Below w.heap.size w w' := by
  cases hov : r.ov
  · refine (impl_told b r w hR hov).mono ?_
    rintro e w' ⟨a, cap, rfl, hres, hb⟩
    exact ⟨by simp only [outc, hov]; exact ⟨a, _, cap, rfl, hres.mono hB⟩, hb⟩
  · refine (impl_told_over b r w hR hov).mono ?_
    rintro e w' ⟨rfl, rfl⟩
    exact ⟨by simp only [outc, hov]; rfl, Below.refl _ _⟩

def sliceO (l : List Pt) (fr to : Int) : Option (List Pt) :=
  if partsOkB l = true ∧ 0 ≤ fr ∧ fr ≤ sumN l ∧ fr ≤ to ∧ to ≤ sumN l then outc (rowOf (slp fr to 0 l)) else none

set_option maxHeartbeats 1000000 in
set_option maxRecDepth 100000 in
theorem impl_Slice (a : Option Addr) (n cap : Nat) (l : List Pt) (fr to : Int) (w : World) (h : PtsAt w a n l) (hn : n ≤ 4194304) (hb : ∀ ad, a = some ad → ad.block < w.heap.size) :
    Calls Try.prog 47 #[.slice a n cap, .int .i64 fr, .int .i64 to] w fun e w' => RetPts w.heap.size e w' (sliceO l fr to) ∧ Below w.heap.size w w' := by
  cases hok : partsOkB l
  · have hf : sliceO l fr to = none := by simp [sliceO, hok]
    rw [hf]
    go_enter Try.func47, Try.ntmps47
    go_wp2_with fail
    refine (impl_PartsOk a n cap l _ h hn).mono ?_
    rintro e w1 ⟨rfl, hB1⟩
    rw [hok]
    go_wp2
    go_returns
    exact ⟨rfl, hB1⟩
  · have hs : Hid (lenB l = sumN l) := by show _ = _; simp [lenB, hok]
    have h100 := (partsOkB_all hok).2.2
    have hnn := sumN_nonneg l (partsOkB_all hok).2.1
    have h16 : n ≤ 16 := by rw [← h.len]; exact (partsOkB_all hok).1
    by_cases hr : 0 ≤ fr ∧ fr ≤ sumN l ∧ fr ≤ to ∧ to ≤ sumN l
    · have hf : sliceO l fr to = outc (rowOf (slp fr to 0 l)) := by simp [sliceO, hok, hr]
      rw [hf]
      clear hf
      generalize hoo' : outc (rowOf (slp fr to 0 l)) = oo
      have hoo : Hid (outc (rowOf (slp fr to 0 l)) = oo) := hoo'
      clear hoo'
      obtain ⟨r1, r2, r3, r4⟩ := hr
      go_enter Try.func47, Try.ntmps47
      go_wp2_with fail
      refine (impl_PartsOk a n cap l _ h hn).mono ?_
      rintro e w1 ⟨rfl, hB1⟩
      rw [hok]
      go_wp2_with fail
      refine (impl_LenOf a n cap l _ (h.below hB1) hn).mono ?_
      rintro e w2 ⟨rfl, hB2⟩
      rw [hs.out]
      replace hB2 := chain hB1 hB2
      go_wp2_with fail
      refine (impl_addSlice w2.heap.size _ a n cap l fr to _ (row_new w2) inv_new (by show (0 : Int) ≤ _; omega) ((h.below hB2).alloc _) (fun ad had => by have := hb ad had; have := hB2.size; omega) h16 (pos_of hok) (by omega) (by omega) (by omega) (by omega)).mono ?_
      rintro e w3 ⟨rfl, hR3, _, _, hg3⟩
      have hB3 : Below w.heap.size w w3 := below_grown (chain hB2 ((Below.refl _ _).alloc (Nat.le_refl _) _)) hg3 hB2.size
      go_wp2_with fail
      refine (impl_told_any w.heap.size _ _ _ hR3 hB3.size).mono ?_
      rintro e w4 ⟨hret, hB4⟩
      replace hB4 := chain hB3 hB4
      change RetPts _ _ _ (outc (rowOf (slp fr to 0 l))) at hret
      rw [hoo.out] at hret
      clear hoo
      cases oo with
      | none =>
        obtain rfl := hret
        go_wp2
        go_returns
        exact ⟨rfl, hB4⟩
      | some L =>
        obtain ⟨a', n', cap', rfl, hres⟩ := hret
        go_wp2
        go_returns
        exact ⟨⟨a', n', cap', rfl, hres⟩, hB4⟩
    · have hf : sliceO l fr to = none := by simp only [sliceO, hok, true_and]; rw [if_neg hr]
      rw [hf]
      clear hf
      go_enter Try.func47, Try.ntmps47
      go_wp2_with fail
      refine (impl_PartsOk a n cap l _ h hn).mono ?_
      rintro e w1 ⟨rfl, hB1⟩
      rw [hok]
      go_wp2_with fail
      refine (impl_LenOf a n cap l _ (h.below hB1) hn).mono ?_
      rintro e w2 ⟨rfl, hB2⟩
      rw [hs.out]
      replace hB2 := chain hB1 hB2
      go_wp2
      all_goals go_returns
      all_goals exact ⟨rfl, hB2⟩
end Go.Proofs.Ytbmkedickkpjjaa
