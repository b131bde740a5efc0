/- The laws' marks in a pool: cells of the same kinds, the slices as they were, nothing else turned. Walked of both; answers that marks leave alone. -/
import Derived.Test.YtllbojcjdpelnaaGreatProg
import Derived.Test.YtllbojcjdpelnaaGreatKt
import Derived.Test.YtllbojcjdpelnaaGreatMt
import Derived.Test.YtllbojcjdpelnaaGreatKu
import Derived.Test.YtllbojcjdpelnaaGreatMc
import Derived.Test.YtllbojcjdpelnaaGreatLh
namespace Go.Proofs.YtllbojcjdpelnaaGreat
open Go.RowKit Go.BigFrame

def SameK : Value → Value → Prop
  | .slice a n c, v' => v' = .slice a n c
  | .int k _, v' => ∃ y, v' = .int k y
  | .string _, v' => ∃ s, v' = .string s
  | .bool _, v' => ∃ b, v' = .bool b
  | _, _ => True
theorem SameK.refl (v : Value) : SameK v v := by cases v <;> simp [SameK]

/-- From w0 on, blocks at B or behind it have kept the kinds of their cells. -/
structure Kp (B : Nat) (w0 w1 : World) : Prop where
  size : w0.heap.size ≤ w1.heap.size
  blk : ∀ b c t, B ≤ b → Blk w0 b c t → ∃ c', Blk w1 b c' t ∧ ∀ (i : Nat) (v : Value), c[i]? = some v → ∃ v', c'[i]? = some v' ∧ SameK v v'
/-- Blocks ahead of B, or at T or behind it, are as they were. -/
structure Fr (B T : Nat) (w w' : World) : Prop where
  size : w.heap.size ≤ w'.heap.size
  blk : ∀ b, b < w.heap.size → (b < B ∨ T ≤ b) → w'.heap[b]? = w.heap[b]?
  os : w'.os = w.os
  tape : w'.tape = w.tape
  output : w'.output = w.output
theorem Kp.of_below {B : Nat} {w0 w1 : World} (h : Below w0.heap.size w0 w1) : Kp B w0 w1 := ⟨h.size, fun _ c _ _ hb => ⟨c, hb.below h, fun _ v hv => ⟨v, hv, SameK.refl v⟩⟩⟩
theorem Kp.below {B : Nat} {w0 w1 w2 : World} (h : Kp B w0 w1) (hb : Below w1.heap.size w1 w2) : Kp B w0 w2 := ⟨Nat.le_trans h.size hb.size, fun b c t h0 h1 => by
  obtain ⟨c', h2, h3⟩ := h.blk b c t h0 h1
  exact ⟨c', h2.below hb, h3⟩⟩
theorem Kp.set {B b j : Nat} {w0 w1 : World} {c : Array Value} {t : TypeId} {v x : Value} (h : Kp B w0 w1) (hb : Blk w0 b c t) (hv : w0.cell? ⟨b, j, none⟩ = some v) (hk : SameK v x) : Kp B w0 (w1.setCell ⟨b, j, none⟩ x) :=
  ⟨by simpa using h.size, fun b' c' t' h0 h1 => by
    obtain ⟨d, h2, h3⟩ := h.blk b' c' t' h0 h1
    by_cases e : b' = b
    · subst e
      refine ⟨_, h2.set j x, fun i u hu => ?_⟩
      obtain ⟨u', hu', hk'⟩ := h3 i u hu
      by_cases ei : j = i
      · subst ei
        have hin : j < d.size := (Array.getElem?_eq_some_iff.1 hu').1
        refine ⟨x, by simp [hin], ?_⟩
        have : w0.cell? ⟨b', j, none⟩ = some u := by rw [h1.cell]; exact hu
        rw [hv] at this
        obtain rfl := Option.some.inj this
        exact hk
      · exact ⟨u', by rw [Array.getElem?_setIfInBounds_ne ei]; exact hu', hk'⟩
    · exact ⟨d, h2.other ⟨b, j, none⟩ x e, h3⟩⟩
/-- A cell that may be marked. -/
theorem Kp.at {B b o j : Nat} {w0 w1 : World} {v : Value} (h : Kp B w0 w1) (hB : 0 < B) (sf : Sf B w0 (some ⟨b, o, none⟩)) (hv : w0.cell? ⟨b, j, none⟩ = some v) :
    (∃ c t, Blk w0 b c t) ∧ B ≤ b ∧ b < w0.heap.size ∧ w1.frozen? ⟨b, j, none⟩ = false ∧ ∃ v', w1.cell? ⟨b, j, none⟩ = some v' ∧ SameK v v' := by
  obtain ⟨h1, c, t, h2⟩ := sf hB _ rfl
  obtain ⟨c', h3, h4⟩ := h.blk b c t h1 h2
  rw [h2.cell] at hv
  obtain ⟨v', h5, h6⟩ := h4 j v hv
  exact ⟨⟨c, t, h2⟩, h1, h2.lt, h3.frozen j, v', by rw [h3.cell]; exact h5, h6⟩
theorem Fr.refl (B T : Nat) (w : World) : Fr B T w w := ⟨Nat.le_refl _, fun _ _ _ => rfl, rfl, rfl, rfl⟩
theorem Fr.below {B T : Nat} {w w1 w2 : World} (h : Fr B T w w1) (hb : Below w1.heap.size w1 w2) : Fr B T w w2 := ⟨Nat.le_trans h.size hb.size, fun b h0 h1 => by
  rw [hb.block b (Nat.lt_of_lt_of_le h0 h.size), h.blk b h0 h1], by rw [hb.os, h.os], by rw [hb.tape, h.tape], by rw [hb.output, h.output]⟩
theorem Fr.trans {B T : Nat} {w w1 w2 : World} (h : Fr B T w w1) (h' : Fr B T w1 w2) : Fr B T w w2 := ⟨Nat.le_trans h.size h'.size, fun b h0 h1 => by
  rw [h'.blk b (Nat.lt_of_lt_of_le h0 h.size) h1, h.blk b h0 h1], by rw [h'.os, h.os], by rw [h'.tape, h.tape], by rw [h'.output, h.output]⟩
theorem Fr.set {B T b j : Nat} {w w1 : World} {x : Value} (h : Fr B T w w1) (hB : B ≤ b) (hT : b < T) : Fr B T w (w1.setCell ⟨b, j, none⟩ x) :=
  ⟨by simpa using h.size, fun b' h0 h1 => by rw [Below.heap_setCell _ _ _ _ (by show b' ≠ b; omega)]; exact h.blk b' h0 h1, h.os, h.tape, h.output⟩

set_option maxHeartbeats 1000000 in
set_option maxRecDepth 100000 in
theorem laws_markTextW (kz : Int) (w : World) (h1 : 1 ≤ kz) (h2 : kz ≤ 4611686018427387904) :
    Calls Tryz.prog 48 #[.int .i64 kz] w fun e w' => (∃ s, e = .returned (.string s)) ∧ Below w.heap.size w w' := by
  have hcv : ∀ (u : World) (x : Int), (convert 126 9 (.slice (some ⟨u.heap.size, 0, none⟩) 1 1)).run Tryz.prog (u.alloc (.cells #[.int .u8 x] 5)) = .ok (.string (strOfNums [x])) (u.alloc (.cells #[.int .u8 x] 5)) := fun u x =>
    run_convert_bytes_arg (P := Tryz.prog) _ 126 5 Tryz.underlying126 Tryz.underlying5 u.heap.size 0 1 1 [x] rfl (fun i hi => (by obtain rfl : i = 0 := (by omega); simp)) 9 Tryz.underlying9
  go_enter Tryz.func48, Tryz.ntmps48
  go_wp2_with fail
  go_loopw [0, 3] (fun kk out wr => ∃ (j : Nat) (o : ByteArray), kk = .int .i64 j ∧ out = .string o ∧ j ≤ 4611686018427387904 ∧ Hid (∃ m, j < 10 ^ m ∧ o.size + m ≤ 19) ∧ Below w.heap.size w wr) (fun kk _ _ => (intOf kk).toNat)
  case atStart => exact ⟨kz.toNat, .empty, by go_num, rfl, by omega, ⟨19, by omega, by decide⟩, Below.refl _ _⟩
  case round =>
    obtain ⟨j, o, rfl, rfl, hj, hm, hB⟩ := hrel
    have ho : o.size ≤ 19 := by obtain ⟨m, _, h⟩ := hm.out; omega
    by_cases hlt : 0 < j
    · have hss : ¬ 9223372036854775807 < (strOfNums [48 + (j : Int) % 10]).size + o.size := by rw [strOfNums_size]; simp; omega
      go_wp2
      go_roundw
      case rel =>
        refine ⟨j / 10, _, by go_num, rfl, by omega, ?_, hB.alloc hB.size _⟩
        obtain ⟨m, h3, h4⟩ := hm.out
        cases m with
        | zero => simp at h3; omega
        | succ m => exact ⟨m, by rw [Nat.pow_succ] at h3; omega, by rw [app_size, strOfNums_size]; simp; omega⟩
      case measure => simp [intOf]; omega
    · obtain rfl : j = 0 := by omega
      have hss : ¬ 9223372036854775807 < (ByteArray.mk #[109]).size + o.size := by show ¬ _ < 1 + _; omega
      go_wp2
      go_returns
      go_light
      exact ⟨⟨_, rfl⟩, hB⟩

set_option maxHeartbeats 1000000 in
theorem laws_markPartW (B : Nat) (hB0 : 0 < B) (a : Option Addr) (n cap : Nat) (l : List Pt) (kz : Int) (w0 w1 : World) (h : PtsAt w0 a n l) (sf : Sf B w0 a) (hK : Kp B w0 w1) (hn : n ≤ 4194304) (h1 : 1 ≤ kz) (h2 : kz ≤ 4500000000000000000) :
    Calls Tryz.prog 111 #[.slice a n cap, .int .i64 kz] w1 fun e w' => (∃ k' : Int, e = .returned (.int .i64 k') ∧ kz ≤ k' ∧ k' ≤ kz + 3 * n) ∧ Kp B w0 w' ∧ Fr B w0.heap.size w1 w' := by
  go_enter Tryz.func111, Tryz.ntmps111
  go_wp2_with fail
  go_loopw [1, 5] (fun kk ix wr => ∃ (i : Nat) (k : Int), i ≤ n ∧ ix = .int .i64 i ∧ kk = .int .i64 k ∧ kz ≤ k ∧ k ≤ kz + 3 * i ∧ Kp B w0 wr ∧ Fr B w0.heap.size w1 wr) (fun _ ix _ => n - (intOf ix).toNat)
  case atStart => exact ⟨0, kz, Nat.zero_le _, rfl, rfl, by omega, by omega, hK, Fr.refl _ _ _⟩
  case round =>
    obtain ⟨i, k, hi, rfl, rfl, hk1, hk2, K, F⟩ := hrel
    by_cases hlt : i < n
    · obtain ⟨b, o, p, rfl, hp, c0, c1, c2⟩ := pts_at h hlt
      obtain ⟨⟨c, t, hb⟩, hBb, hbT, f0, v0, y0, _⟩ := K.at hB0 sf c0
      obtain ⟨_, _, _, f1, v1, y1, _⟩ := K.at hB0 sf c1
      obtain ⟨_, _, _, f2, v2, y2, _⟩ := K.at hB0 sf c2
      have hj1 : (i : Int) < n := by omega
      have hj2 : (0 : Int) ≤ i := by omega
      have K3 := ((K.set hb c0 (x := .int .i64 k) ⟨_, rfl⟩).set hb c1 (x := .int .i64 (k + 1)) ⟨_, rfl⟩).set hb c2 (x := .int .i64 (k + 1 + 1)) ⟨_, rfl⟩
      have F3 := ((F.set (j := o + i * 3) (x := .int .i64 k) hBb hbT).set (j := o + i * 3 + 1) (x := .int .i64 (k + 1)) hBb hbT).set (j := o + i * 3 + 2) (x := .int .i64 (k + 1 + 1)) hBb hbT
      clear hp
      go_wp2
      go_roundw
      case rel => exact ⟨i + 1, k + 1 + 1 + 1, by omega, by go_num, by go_num, by omega, by omega, K3, F3⟩
      case measure => simp [intOf]; omega
    · obtain rfl : i = n := by omega
      go_wp2
      go_returns
      exact ⟨⟨k, rfl, by omega, by omega⟩, K, F⟩

set_option maxHeartbeats 1000000 in
theorem laws_markExtentW (B : Nat) (hB0 : 0 < B) (a : Option Addr) (n cap : Nat) (l : List Ex) (kz : Int) (w0 w1 : World) (h : ExsAt w0 a n l) (sf : Sf B w0 a) (hK : Kp B w0 w1) (hn : n ≤ 4194304) (h1 : 1 ≤ kz) (h2 : kz ≤ 4500000000000000000) :
    Calls Tryz.prog 46 #[.slice a n cap, .int .i64 kz] w1 fun e w' => (∃ k' : Int, e = .returned (.int .i64 k') ∧ kz ≤ k' ∧ k' ≤ kz + 2 * n) ∧ Kp B w0 w' ∧ Fr B w0.heap.size w1 w' := by
  go_enter Tryz.func46, Tryz.ntmps46
  go_wp2_with fail
  go_loopw [1, 5] (fun kk ix wr => ∃ (i : Nat) (k : Int), i ≤ n ∧ ix = .int .i64 i ∧ kk = .int .i64 k ∧ kz ≤ k ∧ k ≤ kz + 2 * i ∧ Kp B w0 wr ∧ Fr B w0.heap.size w1 wr) (fun _ ix _ => n - (intOf ix).toNat)
  case atStart => exact ⟨0, kz, Nat.zero_le _, rfl, rfl, by omega, by omega, hK, Fr.refl _ _ _⟩
  case round =>
    obtain ⟨i, k, hi, rfl, rfl, hk1, hk2, K, F⟩ := hrel
    by_cases hlt : i < n
    · obtain ⟨b, o, p, rfl, hp, c0, c1⟩ := exs_at h hlt
      obtain ⟨⟨c, t, hb⟩, hBb, hbT, f0, v0, y0, _⟩ := K.at hB0 sf c0
      have hj1 : (i : Int) < n := by omega
      have hj2 : (0 : Int) ≤ i := by omega
      have K1 := K.set hb c0 (x := .int .i64 k) ⟨_, rfl⟩
      have F1 := F.set (j := o + i * 2) (x := .int .i64 k) hBb hbT
      clear hp K F
      go_wp2_with fail
      generalize wr.setCell ⟨b, o + i * 2, none⟩ (.int .i64 k) = W1 at *
      refine (laws_markTextW (k + 1) _ (by omega) (by omega)).mono ?_
      rintro e w2 ⟨⟨s, rfl⟩, hB2⟩
      have K2 := K1.below hB2
      have F2 := F1.below hB2
      obtain ⟨_, _, _, f1, v1, y1, _⟩ := K2.at hB0 sf c1
      have K3 := K2.set hb c1 (x := .string s) ⟨_, rfl⟩
      have F3 := F2.set (j := o + i * 2 + 1) (x := .string s) hBb hbT
      clear K1 F1 K2 F2
      go_wp2
      go_roundw
      case rel => exact ⟨i + 1, k + 1 + 1, by omega, by go_num, by go_num, by omega, by omega, K3, F3⟩
      case measure => simp [intOf]; omega
    · obtain rfl : i = n := by omega
      go_wp2
      go_returns
      exact ⟨⟨k, rfl, by omega, by omega⟩, K, F⟩

set_option maxHeartbeats 1000000 in
theorem laws_markCountedW (B : Nat) (hB0 : 0 < B) (a : Option Addr) (n cap : Nat) (l : List Ct) (kz : Int) (w0 w1 : World) (h : CtsAt w0 a n l) (sf : Sf B w0 a) (hK : Kp B w0 w1) (hn : n ≤ 4194304) (h1 : 1 ≤ kz) (h2 : kz ≤ 4500000000000000000) :
    Calls Tryz.prog 17 #[.slice a n cap, .int .i64 kz] w1 fun e w' => (∃ k' : Int, e = .returned (.int .i64 k') ∧ kz ≤ k' ∧ k' ≤ kz + 4 * n) ∧ Kp B w0 w' ∧ Fr B w0.heap.size w1 w' := by
  go_enter Tryz.func17, Tryz.ntmps17
  go_wp2_with fail
  go_loopw [1, 5] (fun kk ix wr => ∃ (i : Nat) (k : Int), i ≤ n ∧ ix = .int .i64 i ∧ kk = .int .i64 k ∧ kz ≤ k ∧ k ≤ kz + 4 * i ∧ Kp B w0 wr ∧ Fr B w0.heap.size w1 wr) (fun _ ix _ => n - (intOf ix).toNat)
  case atStart => exact ⟨0, kz, Nat.zero_le _, rfl, rfl, by omega, by omega, hK, Fr.refl _ _ _⟩
  case round =>
    obtain ⟨i, k, hi, rfl, rfl, hk1, hk2, K, F⟩ := hrel
    by_cases hlt : i < n
    · obtain ⟨b, o, p, rfl, hp, c0, c1, c2, c3⟩ := cts_at h hlt
      obtain ⟨⟨c, t, hb⟩, hBb, hbT, f0, v0, y0, _⟩ := K.at hB0 sf c0
      obtain ⟨_, _, _, f1, v1, y1, _⟩ := K.at hB0 sf c1
      have hj1 : (i : Int) < n := by omega
      have hj2 : (0 : Int) ≤ i := by omega
      have K1 := (K.set hb c0 (x := .int .i64 k) ⟨_, rfl⟩).set hb c1 (x := .int .i64 (k + 1)) ⟨_, rfl⟩
      have F1 := (F.set (j := o + i * 4) (x := .int .i64 k) hBb hbT).set (j := o + i * 4 + 1) (x := .int .i64 (k + 1)) hBb hbT
      clear hp K F
      go_wp2_with fail
      generalize (wr.setCell ⟨b, o + i * 4, none⟩ (.int .i64 k)).setCell ⟨b, o + i * 4 + 1, none⟩ (.int .i64 (k + 1)) = W1 at *
      refine (laws_markTextW (k + 1 + 1) _ (by omega) (by omega)).mono ?_
      rintro e w2 ⟨⟨s, rfl⟩, hB2⟩
      have K2 := K1.below hB2
      have F2 := F1.below hB2
      obtain ⟨_, _, _, f2, v2, y2, _⟩ := K2.at hB0 sf c2
      obtain ⟨_, _, _, f3, v3, y3, _⟩ := K2.at hB0 sf c3
      have K3 := (K2.set hb c2 (x := .string s) ⟨_, rfl⟩).set hb c3 (x := .int .i64 (k + 1 + 1 + 1)) ⟨_, rfl⟩
      have F3 := (F2.set (j := o + i * 4 + 2) (x := .string s) hBb hbT).set (j := o + i * 4 + 3) (x := .int .i64 (k + 1 + 1 + 1)) hBb hbT
      clear K1 F1 K2 F2
      go_wp2
      go_roundw
      case rel => exact ⟨i + 1, k + 1 + 1 + 1 + 1, by omega, by go_num, by go_num, by omega, by omega, K3, F3⟩
      case measure => simp [intOf]; omega
    · obtain rfl : i = n := by omega
      go_wp2
      go_returns
      exact ⟨⟨k, rfl, by omega, by omega⟩, K, F⟩

set_option maxHeartbeats 1000000 in
theorem laws_markItemW (B : Nat) (hB0 : 0 < B) (a : Option Addr) (n cap : Nat) (l : List It) (kz : Int) (w0 w1 : World) (h : ItsAt B w0 a n l) (hK : Kp B w0 w1) (hn : n ≤ 1048576) (hl : ∀ x ∈ l, x.ps.length ≤ 1048576) (h1 : 1 ≤ kz) (h2 : kz ≤ 4000000000000000000) :
    Calls Tryz.prog 85 #[.slice a n cap, .int .i64 kz] w1 fun e w' => (∃ k' : Int, e = .returned (.int .i64 k') ∧ kz ≤ k' ∧ k' ≤ kz + 3145729 * n) ∧ Kp B w0 w' ∧ Fr B w0.heap.size w1 w' := by
  go_enter Tryz.func85, Tryz.ntmps85
  go_wp2_with fail
  go_loopw [1, 5] (fun kk ix wr => ∃ (i : Nat) (k : Int), i ≤ n ∧ ix = .int .i64 i ∧ kk = .int .i64 k ∧ kz ≤ k ∧ k ≤ kz + 3145729 * i ∧ Kp B w0 wr ∧ Fr B w0.heap.size w1 wr) (fun _ ix _ => n - (intOf ix).toNat)
  case atStart => exact ⟨0, kz, Nat.zero_le _, rfl, rfl, by omega, by omega, hK, Fr.refl _ _ _⟩
  case round =>
    obtain ⟨i, k, hi, rfl, rfl, hk1, hk2, K, F⟩ := hrel
    by_cases hlt : i < n
    · have hx0 : l[i]? = some (l[i]'(by rw [h.len]; exact hlt)) := by simp [h.len, hlt]
      obtain ⟨b, o, pa, pn, pc, rfl, c0, c1, hP, hH, hBB, hA, sp, sf⟩ := h.cell i _ hx0
      have hpl := hl _ (List.mem_of_getElem? hx0)
      rw [hP.len] at hpl
      have hj1 : (i : Int) < n := by omega
      have hj2 : (0 : Int) ≤ i := by omega
      clear hx0
      go_wp2_with fail
      refine (laws_markTextW k _ (by omega) (by omega)).mono ?_
      rintro e w2 ⟨⟨s, rfl⟩, hB2⟩
      have K2 := K.below hB2
      have F2 := F.below hB2
      obtain ⟨⟨c, t, hb⟩, hBb, hbT, f0, v0, y0, _⟩ := K2.at hB0 sf c0
      have K3 := K2.set hb c0 (x := .string s) ⟨_, rfl⟩
      have F3 := F2.set (j := o + i * 2) (x := .string s) hBb hbT
      obtain ⟨_, _, _, _, v1, y1, e1⟩ := K3.at hB0 sf c1
      obtain rfl : v1 = .slice pa pn pc := e1
      clear K F K2 F2
      go_wp2_with fail
      generalize w2.setCell ⟨b, o + i * 2, none⟩ (.string s) = W3 at *
      refine (laws_markPartW B hB0 pa pn pc _ (k + 1) w0 _ hP sp K3 (by omega) (by omega) (by omega)).mono ?_
      rintro e w4 ⟨⟨k4, rfl, hk3, hk4⟩, K4, F4⟩
      have F5 := F3.trans F4
      clear K3 F3 F4
      go_wp2
      go_roundw
      case rel => exact ⟨i + 1, k4, by omega, by go_num, rfl, by omega, by omega, K4, F5⟩
      case measure => simp [intOf]; omega
    · obtain rfl : i = n := by omega
      go_wp2
      go_returns
      exact ⟨⟨k, rfl, by omega, by omega⟩, K, F⟩

set_option maxHeartbeats 2000000 in
theorem laws_markVolumeW (B : Nat) (hB0 : 0 < B) (a : Option Addr) (n cap : Nat) (l : List Vo) (kz : Int) (w0 w1 : World) (h : VsAt B w0 a n l) (hK : Kp B w0 w1) (hn : n ≤ 1048576) (hl : ∀ v ∈ l, v.its.length ≤ 1048576 ∧ ∀ x ∈ v.its, x.ps.length ≤ 1048576) (h1 : 1 ≤ kz) (h2 : kz ≤ 10000000) :
    Calls Tryz.prog 47 #[.slice a n cap, .int .i64 kz] w1 fun e w' => (∃ k' : Int, e = .returned (.int .i64 k') ∧ kz ≤ k' ∧ k' ≤ kz + 3298535931907 * n) ∧ Kp B w0 w' ∧ Fr B w0.heap.size w1 w' := by
  go_enter Tryz.func47, Tryz.ntmps47
  go_wp2_with fail
  go_loopw [1, 5] (fun kk ix wr => ∃ (i : Nat) (k : Int), i ≤ n ∧ ix = .int .i64 i ∧ kk = .int .i64 k ∧ kz ≤ k ∧ k ≤ kz + 3298535931907 * i ∧ Kp B w0 wr ∧ Fr B w0.heap.size w1 wr) (fun _ ix _ => n - (intOf ix).toNat)
  case atStart => exact ⟨0, kz, Nat.zero_le _, rfl, rfl, by omega, by omega, hK, Fr.refl _ _ _⟩
  case round =>
    obtain ⟨i, k, hi, rfl, rfl, hk1, hk2, K, F⟩ := hrel
    by_cases hlt : i < n
    · have hx0 : l[i]? = some (l[i]'(by rw [h.len]; exact hlt)) := by simp [h.len, hlt]
      obtain ⟨b, o, pa, pn, pc, rfl, c0, c1, c2, c3, hP, hH, hBB, sf⟩ := h.cell i _ hx0
      obtain ⟨hpl, hpp⟩ := hl _ (List.mem_of_getElem? hx0)
      rw [hP.len] at hpl
      have hj1 : (i : Int) < n := by omega
      have hj2 : (0 : Int) ≤ i := by omega
      clear hx0
      obtain ⟨⟨c, t, hb⟩, hBb, hbT, f0, v0, y0, _⟩ := K.at hB0 sf c0
      have K1 := K.set hb c0 (x := .int .i64 k) ⟨_, rfl⟩
      have F1 := F.set (j := o + i * 4) (x := .int .i64 k) hBb hbT
      clear K F
      go_wp2_with fail
      generalize wr.setCell ⟨b, o + i * 4, none⟩ (.int .i64 k) = W1 at *
      refine (laws_markTextW (k + 1) _ (by omega) (by omega)).mono ?_
      rintro e w2 ⟨⟨s, rfl⟩, hB2⟩
      have K2 := K1.below hB2
      have F2 := F1.below hB2
      obtain ⟨_, _, _, f1, v1, y1, _⟩ := K2.at hB0 sf c1
      obtain ⟨_, _, _, f2, v2, y2, _⟩ := K2.at hB0 sf c2
      have K3 := (K2.set hb c1 (x := .string s) ⟨_, rfl⟩).set hb c2 (x := .bool ((k + 1 + 1) % 3 == 0)) ⟨_, rfl⟩
      have F3 := (F2.set (j := o + i * 4 + 1) (x := .string s) hBb hbT).set (j := o + i * 4 + 2) (x := .bool ((k + 1 + 1) % 3 == 0)) hBb hbT
      obtain ⟨_, _, _, _, v3, y3, e3⟩ := K2.at hB0 sf c3
      obtain rfl : v3 = .slice pa pn pc := e3
      clear K1 F1 K2 F2
      go_wp2_with fail
      generalize (w2.setCell ⟨b, o + i * 4 + 1, none⟩ (.string s)).setCell ⟨b, o + i * 4 + 2, none⟩ (.bool ((k + 1 + 1) % 3 == 0)) = W3 at *
      refine (laws_markItemW B hB0 pa pn pc _ (k + 1 + 1 + 1) w0 _ hP K3 hpl hpp (by omega) (by omega)).mono ?_
      rintro e w4 ⟨⟨k4, rfl, hk3, hk4⟩, K4, F4⟩
      have F5 := F3.trans F4
      clear K3 F3 F4
      go_wp2
      go_roundw
      case rel => exact ⟨i + 1, k4, by omega, by go_num, rfl, by omega, by omega, K4, F5⟩
      case measure => simp [intOf]; omega
    · obtain rfl : i = n := by omega
      go_wp2
      go_returns
      exact ⟨⟨k, rfl, by omega, by omega⟩, K, F⟩

set_option maxHeartbeats 2000000 in
set_option maxRecDepth 100000 in
/-- A pool marked: what lies ahead of it, and behind it, is as it was. -/
theorem laws_markPoolW (B : Nat) (hB0 : 0 < B) (v : Value) (p : Po) (w0 w1 : World) (h : PoolAt B w0 v p) (hs : SmallP p) (hK : Kp B w0 w1) :
    Calls Tryz.prog 16 #[v, .int .i64 1] w1 fun e w' => (∃ k' : Int, e = .returned (.int .i64 k') ∧ 0 ≤ k') ∧ Kp B w0 w' ∧ Fr B w0.heap.size w1 w' := by
  obtain ⟨ea, en, ec, va, vn, vc, ra, rn, rc, la, ln, lc, rfl, ⟨h1, k1, s1⟩, ⟨h2, k2⟩, ⟨h3, k3, s3⟩, h4, k4, s4⟩ := h
  have hd2 : ∀ v ∈ p.vs, v.its.length ≤ 1048576 ∧ ∀ x ∈ v.its, x.ps.length ≤ 1048576 := fun v hv => ⟨(hs.2.1.2 v hv).2.1, fun x hx => ((hs.2.1.2 v hv).2.2 x hx).2⟩
  obtain ⟨d1, d2, d3, d4, d5⟩ := hs.dims
  rw [h1.len] at d1
  rw [h2.len] at d2
  rw [h3.len] at d4
  rw [h4.len] at d5
  have C := (Blk.new w1 #[.int .i64 p.size, .int .i64 p.next, .slice ea en ec, .slice va vn vc, .slice ra rn rc, .slice la ln lc] 33)
  have hBw : Below w1.heap.size w1 (w1.alloc (.cells #[.int .i64 p.size, .int .i64 p.next, .slice ea en ec, .slice va vn vc, .slice ra rn rc, .slice la ln lc] 33)) := by go_grown
  have K1 := hK.below hBw
  have F1 := (Fr.refl B w0.heap.size w1).below hBw
  have hT := hK.size
  go_enter Tryz.func16, Tryz.ntmps16
  go_wp2_with fail
  generalize w1.alloc (.cells #[.int .i64 p.size, .int .i64 p.next, .slice ea en ec, .slice va vn vc, .slice ra rn rc, .slice la ln lc] 33) = W0 at *
  have hlt := C.lt
  refine (laws_markExtentW B hB0 ea en ec p.ex 1 w0 _ h1 s1 K1 (by omega) (by omega) (by omega)).mono ?_
  rintro e w2 ⟨⟨k5, rfl, a1, a2⟩, K2, F2⟩
  have C2 : Blk w2 w1.heap.size #[.int .i64 p.size, .int .i64 p.next, .slice ea en ec, .slice va vn vc, .slice ra rn rc, .slice la ln lc] 33 := (F2.blk _ hlt (.inr hT)).trans C
  replace F2 := F1.trans F2
  clear K1 F1 C hBw
  have x3 := C2.cell 3
  simp only [List.getElem?_toArray, List.getElem?_cons_zero, List.getElem?_cons_succ] at x3
  have hlt2 := C2.lt
  go_wp2_with fail
  refine (laws_markVolumeW B hB0 va vn vc p.vs k5 w0 _ h2 K2 d2 hd2 (by omega) (by omega)).mono ?_
  rintro e w3 ⟨⟨k6, rfl, a3, a4⟩, K3, F3⟩
  have C3 : Blk w3 w1.heap.size #[.int .i64 p.size, .int .i64 p.next, .slice ea en ec, .slice va vn vc, .slice ra rn rc, .slice la ln lc] 33 := (F3.blk _ hlt2 (.inr hT)).trans C2
  replace F3 := F2.trans F3
  clear K2 F2 C2 x3
  have x4 := C3.cell 4
  simp only [List.getElem?_toArray, List.getElem?_cons_zero, List.getElem?_cons_succ] at x4
  have hlt3 := C3.lt
  go_wp2_with fail
  refine (laws_markCountedW B hB0 ra rn rc p.rf k6 w0 _ h3 s3 K3 (by omega) (by omega) (by omega)).mono ?_
  rintro e w4 ⟨⟨k7, rfl, a5, a6⟩, K4, F4⟩
  have C4 : Blk w4 w1.heap.size #[.int .i64 p.size, .int .i64 p.next, .slice ea en ec, .slice va vn vc, .slice ra rn rc, .slice la ln lc] 33 := (F4.blk _ hlt3 (.inr hT)).trans C3
  replace F4 := F3.trans F4
  clear K3 F3 C3 x4
  have x5 := C4.cell 5
  simp only [List.getElem?_toArray, List.getElem?_cons_zero, List.getElem?_cons_succ] at x5
  go_wp2_with fail
  refine (laws_markCountedW B hB0 la ln lc p.lt k7 w0 _ h4 s4 K4 (by omega) (by omega) (by omega)).mono ?_
  rintro e w5 ⟨⟨k8, rfl, a7, a8⟩, K5, F5⟩
  replace F5 := F4.trans F5
  go_wp2
  go_returns
  exact ⟨⟨k8, rfl, by omega⟩, K5, F5⟩
end Go.Proofs.YtllbojcjdpelnaaGreat
namespace Go.Proofs.YtllbojcjdpelnaaGreat
open Go.RowKit Go.BigFrame

theorem ResAt.same {α : Type} {cs : α → List Value} {sz : Nat} {t : TypeId} {w w' : World} {B n cap : Nat} {a : Option Addr} {l : List α} (h : ResAt cs sz t w B a n cap l) (he : ∀ ad, a = some ad → w'.heap[ad.block]? = w.heap[ad.block]?) : ResAt cs sz t w' B a n cap l := by
  have hcell : ∀ b o, a = some ⟨b, o, none⟩ → ∀ j, w'.cell? ⟨b, j, none⟩ = w.cell? ⟨b, j, none⟩ := fun b o ha j => by
    have := he _ ha
    simp only [World.cell?]
    rw [this]
  refine ⟨⟨h.sl.len, fun i x hx => ?_⟩, ?_⟩
  · obtain ⟨b, o, ha, hc⟩ := h.sl.cell i x hx
    exact ⟨b, o, ha, fun j v hv => by rw [hcell b o ha]; exact hc j v hv⟩
  · rcases h.own with h0 | ⟨b, ha, hB, h1, h2, c, hc, q⟩
    · exact .inl h0
    · exact .inr ⟨b, ha, hB, h1, h2, c, (he _ ha).trans hc, q⟩
theorem Fr.res {α : Type} {cs : α → List Value} {sz : Nat} {t : TypeId} {w w' : World} {B0 T B n cap : Nat} {a : Option Addr} {l : List α} (hF : Fr B0 T w w') (h : ResAt cs sz t w B a n cap l) (hb : ∀ ad, a = some ad → ad.block < w.heap.size ∧ (ad.block < B0 ∨ T ≤ ad.block)) : ResAt cs sz t w' B a n cap l :=
  h.same (fun ad had => hF.blk _ (hb ad had).1 (hb ad had).2)
theorem Fr.blkAt {w w' : World} {B0 T b : Nat} {c : Array Value} {t : TypeId} (hF : Fr B0 T w w') (h : Blk w b c t) (hb : b < B0 ∨ T ≤ b) : Blk w' b c t := (hF.blk _ h.lt hb).trans h
theorem Fr.belowOf {w w1 w2 : World} {B0 T n : Nat} (hF : Fr B0 T w1 w2) (h : Below n w w1) (hn : n ≤ B0) (hs : n ≤ w1.heap.size) : Below n w w2 :=
  ⟨by rw [hF.os, h.os], by rw [hF.tape, h.tape], by rw [hF.output, h.output], Nat.le_trans h.size hF.size, fun k hk => by rw [hF.blk k (by omega) (.inl (by omega)), h.block k hk]⟩
theorem grown_blk {w w' : World} {b B : Nat} {c : Array Value} {t : TypeId} {a : Option Addr} (h : Blk w b c t) (hg : w.grownBy w' (rowB a)) (ha : ∀ ad, a = some ad → B ≤ ad.block) (hb : b < B) : Blk w' b c t :=
  (hg.block b h.lt (fun e => by have := rowB_ge ha b e.symm; omega)).trans h

/-- What is found in a right pool. -/
def walkedL (p : Po) : List Ct := if poolB p = true then walkL p.vs else []

set_option maxHeartbeats 2000000 in
set_option maxRecDepth 100000 in
theorem spec_Walked (B : Nat) (hB0 : 0 < B) (v : Value) (p : Po) (w : World) (h : PoolAt B w v p) (hd : DimP p) :
    Calls Tryz.prog 11 #[v] w fun e w' => (∃ a n cap, e = .returned (.slice a n cap) ∧ n ≤ 480 ∧ ResAt Ct.cs 4 70 w' w.heap.size a n cap (walkedL p)) ∧ Below w.heap.size w w' := by
  obtain ⟨ea, en, ec, va, vn, vc, ra, rn, rc, la, ln, lc, rfl, hrest⟩ := h
  have h : PoolAt B w (.agg #[.int .i64 p.size, .int .i64 p.next, .slice ea en ec, .slice va vn vc, .slice ra rn rc, .slice la ln lc]) p := ⟨ea, en, ec, va, vn, vc, ra, rn, rc, la, ln, lc, rfl, hrest⟩
  have h2 := hrest.2.1.1
  clear hrest
  have C := (Blk.new w #[.int .i64 p.size, .int .i64 p.next, .slice ea en ec, .slice va vn vc, .slice ra rn rc, .slice la ln lc] 33)
  have hBw : Below w.heap.size w (w.alloc (.cells #[.int .i64 p.size, .int .i64 p.next, .slice ea en ec, .slice va vn vc, .slice ra rn rc, .slice la ln lc] 33)) := by go_grown
  have hT : Hid (poolB p = true → walkedL p = walkL p.vs) := fun e => by simp [walkedL, e]
  have hF : Hid (poolB p = false → walkedL p = []) := fun e => by simp [walkedL, e]
  have hty := fun e : poolB p = true => tiny_of (poolB_vs e).1 (poolB_vs e).2.1
  generalize walkedL p = R at *
  go_enter Tryz.func11, Tryz.ntmps11
  go_wp2_with fail
  generalize w.alloc (.cells #[.int .i64 p.size, .int .i64 p.next, .slice ea en ec, .slice va vn vc, .slice ra rn rc, .slice la ln lc] 33) = W0 at *
  refine (spec_PoolOk B hB0 _ p _ (h.below hBw) hd).mono ?_
  rintro e w1 ⟨rfl, hB1⟩
  have C1 := C.below hB1
  replace hB1 := chain hBw hB1
  clear C hBw
  cases hpk : poolB p
  · have hR := hF.out hpk
    subst hR
    clear hpk hT hF hty
    have hs1 := hB1.size
    go_wp2
    go_returns
    exact ⟨⟨_, 0, 0, rfl, by omega, res_empty (Blk.new' w1 _ _ _ rfl) hs1⟩, hB1.alloc hs1 _⟩
  · have hR := hT.out hpk
    subst hR
    have hty' := hty hpk
    clear hpk hT hF hty
    have d3 := C1.cell 3
    simp only [List.getElem?_toArray, List.getElem?_cons_zero, List.getElem?_cons_succ] at d3
    go_wp2_with fail
    refine (spec_l4Walked B va vn vc p.vs _ (h2.below hB1) hty').mono ?_
    rintro e w2 ⟨⟨a2, n2, cap2, rfl, hn2, R2⟩, hB2⟩
    have hs1 := hB1.size
    replace hB2 := chain hB1 hB2
    go_wp2
    go_returns
    exact ⟨⟨a2, n2, cap2, rfl, hn2, R2.mono hs1⟩, hB2⟩

set_option maxHeartbeats 2000000 in
set_option maxRecDepth 100000 in
theorem impl_Walked (B : Nat) (v : Value) (p : Po) (w : World) (h : PoolAt B w v p) (hd : DimP p) :
    Calls Tryz.prog 13 #[v] w fun e w' => (∃ a n cap, e = .returned (.slice a n cap) ∧ n ≤ 480 ∧ ResAt Ct.cs 4 70 w' w.heap.size a n cap (walkedL p)) ∧ Below w.heap.size w w' := by
  obtain ⟨ea, en, ec, va, vn, vc, ra, rn, rc, la, ln, lc, rfl, hrest⟩ := h
  have h : PoolAt B w (.agg #[.int .i64 p.size, .int .i64 p.next, .slice ea en ec, .slice va vn vc, .slice ra rn rc, .slice la ln lc]) p := ⟨ea, en, ec, va, vn, vc, ra, rn, rc, la, ln, lc, rfl, hrest⟩
  have h2 := hrest.2.1.1
  have z3 := hd.2.2.1
  have z4 := hd.2.2.2.1
  rw [h2.len] at z3
  clear hrest
  obtain ⟨pb, po, hpb⟩ : ∃ pb po, 0 < vn → va = some ⟨pb, po, none⟩ := by
    by_cases h0 : 0 < vn
    · obtain ⟨b, o, _, _, _, _, hv, _⟩ := vs_at h2 h0
      exact ⟨b, o, fun _ => hv⟩
    · exact ⟨0, 0, fun h => absurd h h0⟩
  have C := (Blk.new w #[.int .i64 p.size, .int .i64 p.next, .slice ea en ec, .slice va vn vc, .slice ra rn rc, .slice la ln lc] 33)
  have hBw : Below w.heap.size w (w.alloc (.cells #[.int .i64 p.size, .int .i64 p.next, .slice ea en ec, .slice va vn vc, .slice ra rn rc, .slice la ln lc] 33)) := by go_grown
  have hT : Hid (poolB p = true → walkedL p = walkL p.vs) := fun e => by simp [walkedL, e]
  have hF : Hid (poolB p = false → walkedL p = []) := fun e => by simp [walkedL, e]
  have hpv := fun e : poolB p = true => poolB_vs e
  generalize walkedL p = R at *
  go_enter Tryz.func13, Tryz.ntmps13
  go_wp2_with fail
  generalize w.alloc (.cells #[.int .i64 p.size, .int .i64 p.next, .slice ea en ec, .slice va vn vc, .slice ra rn rc, .slice la ln lc] 33) = W0 at *
  refine (impl_PoolOk B _ p _ (h.below hBw) hd).mono ?_
  rintro e w1 ⟨rfl, hB1⟩
  have C1 := C.below hB1
  replace hB1 := chain hBw hB1
  clear C hBw
  cases hpk : poolB p
  · have hR := hF.out hpk
    subst hR
    clear hpk hT hF hpv
    go_wp2
    go_returns
    exact ⟨⟨none, 0, 0, rfl, by omega, res_nil⟩, hB1⟩
  · have hR := hT.out hpk
    subst hR
    obtain ⟨q1, q2, q3, q4, q5⟩ := hpv hpk
    clear hpk hT hF hpv
    obtain ⟨d0, d1, d2, d3, d4, d5⟩ := C1.six
    go_wp2_with fail
    refine (impl_volumesOf B p.size p.next ea en ec va vn vc ra rn rc la ln lc p.vs pb po hpb _ (h2.below hB1) z3 z4).mono ?_
    rintro e w2 ⟨⟨mb, D, rfl, hmb, hO, hV⟩, hB2⟩
    replace hB2 := chain hB1 hB2
    clear d0 d1 d2 d3 d4 d5 C1 hB1
    go_wp2_with fail
    refine (impl_found B mb pb po D va vn p.vs hpb _ hO hV q5 (h2.below hB2) (tiny_of q1 q2) (wfV_of q3 q2)).mono ?_
    rintro e w3 ⟨⟨a3, n3, cap3, rfl, hn3, R3⟩, hB3⟩
    have hs2 := hB2.size
    replace hB3 := chain hB2 hB3
    go_wp2
    go_returns
    exact ⟨⟨a3, n3, cap3, rfl, hn3, R3.mono hs2⟩, hB3⟩
end Go.Proofs.YtllbojcjdpelnaaGreat
