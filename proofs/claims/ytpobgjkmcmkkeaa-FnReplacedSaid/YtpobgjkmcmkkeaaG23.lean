/- slices.Insert of one row, at impl.DOp. -/
import Derived.Test.YtpobgjkmcmkkeaaG14
namespace Go.Proofs.Ytpobgjkmcmkkeaa
open Go Go.RowKit Go.BigFrame

theorem dop_info : ∃ i0, Try.prog.info? 36 = some i0 ∧ i0.zero = some (.agg #[.int .i64 0, .string .empty, .string .empty, .string .empty]) ∧ i0.size = 4 ∧ i0.bytes = 56 := by
  have h := infoDp
  cases hh : Try.prog.info? 36 with
  | none => rw [hh] at h; cases h
  | some i0 => rw [hh] at h; simp at h; exact ⟨i0, rfl, h.1, h.2.1, h.2.2⟩
theorem dop_size : (Try.prog.info? 36).map (·.size) = some 4 := by
  obtain ⟨i0, h, _, h2, _⟩ := dop_info
  rw [h]; simp [h2]

set_option maxHeartbeats 4000000 in
set_option maxRecDepth 100000 in
theorem dop_Insert_end (B : Nat) (a : Option Addr) (n cap vb : Nat) (rows : List Dp) (x : Dp) (w : World) (R : ResAt Dp.cs 4 36 w B a n cap rows) (hv : Blk w vb (Dp.cs x).toArray 36) (hn : n ≤ 4194304) (hBw : B ≤ w.heap.size) :
    Calls Try.prog 60 #[.slice a n cap, .int .i64 n, .slice (some ⟨vb, 0, none⟩) 1 1] w fun e w' => (∃ a' cap', e = .returned (.slice a' (n + 1) cap') ∧ ResAt Dp.cs 4 36 w' B a' (n + 1) cap' (rows ++ [x])) ∧ w.grownBy w' (Value.ownBlock (.slice a n cap)) := by
  have hS := sl_blk dpcs_len hv
  have hnc : n ≤ cap := R.le
  have hz1 : ¬ ((1 : Int) = 0) := by omega
  cases a with
  | none =>
    obtain ⟨rfl, rfl⟩ := R.none
    go_enter Try.func60, Try.ntmps60
    go_wp2_with (at_builtin; refine wpList_app rfl (fun K hK => wp_appDp _ _ rfl B none 0 0 rows rfl R (some ⟨vb, 0, none⟩) 1 1 [x] rfl hS (fun ad h => (by cases h; rfl)) (fun h => (by cases h)) (0 + 1) rfl (by omega) hBw (fun a3 c3 w3 R3 hg3 => hK _ _ ?_)))
    go_returns
    exact ⟨⟨a3, c3, rfl, R3⟩, hg3⟩
  | some ad =>
    obtain ⟨b, rfl⟩ : ∃ b, ad = ⟨b, 0, none⟩ := by
      rcases R.own with ⟨h0, _⟩ | ⟨b, h0, _⟩
      · cases h0
      · cases h0; exact ⟨b, rfl⟩
    go_enter Try.func60, Try.ntmps60
    go_wp2_with (at_builtin; refine wpList_app rfl (fun K hK => wp_appDp _ _ rfl B (some ⟨b, 0, none⟩) n cap rows rfl R (some ⟨vb, 0, none⟩) 1 1 [x] rfl hS (fun ad h => (by cases h; rfl)) (fun h => (by cases h)) (n + 1) rfl (by omega) hBw (fun a3 c3 w3 R3 hg3 => hK _ _ ?_)))
    all_goals (go_returns; exact ⟨⟨a3, c3, rfl, R3⟩, hg3⟩)

set_option maxHeartbeats 4000000 in
set_option maxRecDepth 100000 in
theorem dop_Insert_grow (B b n cap i vb : Nat) (rows : List Dp) (x : Dp) (w : World) (R : ResAt Dp.cs 4 36 w B (some ⟨b, 0, none⟩) n cap rows) (hv : Blk w vb (Dp.cs x).toArray 36) (hn : n ≤ 4194304) (hBw : B ≤ w.heap.size) (hi : i < n) (hcap : cap = n) :
    Calls Try.prog 60 #[.slice (some ⟨b, 0, none⟩) n cap, .int .i64 i, .slice (some ⟨vb, 0, none⟩) 1 1] w fun e w' => (∃ a' cap', e = .returned (.slice a' (n + 1) cap') ∧ ResAt Dp.cs 4 36 w' B a' (n + 1) cap' (rows.take i ++ [x] ++ rows.drop i)) ∧ w.grownBy w' (Value.ownBlock (.slice (some ⟨b, 0, none⟩) n cap)) := by
  subst hcap
  have hlen := R.sl.len
  have hS := sl_blk dpcs_len hv
  have hblt := (R.block _ rfl).2
  have hvlt := hv.lt
  obtain ⟨i0, hi0, hz0, hzs, hzb⟩ := dop_info
  have hkk : (cap : Int) + 1 - (i : Int) = ((cap + 1 - i : Nat) : Int) := by omega
  have hik : i + (cap + 1 - i) = cap + 1 := by omega
  have hzc : ((.agg #[.int .i64 0, .string .empty, .string .empty, .string .empty]) : Value).cells.size = 4 := rfl
  have hfl : ((rows.take i).flatMap Dp.cs).length = i * 4 := by rw [flat_len dpcs_len, List.length_take, hlen, Nat.min_eq_left (by omega)]
  have hold : (Builtin.firstCells i0.size i (.slice (some ⟨b, 0, none⟩) i cap)).run Try.prog w.drew = .ok ((rows.take i).flatMap Dp.cs).toArray w.drew := by
    rw [hzs]
    refine run_firstCells_some w.drew 4 i ⟨b, 0, none⟩ i cap _ hfl (fun j v hj => ?_)
    have := SlAt.src dpcs_len R.sl j v (by
      rw [← take_flat dpcs_len, List.getElem?_take] at hj
      split at hj
      · exact hj
      · cases hj)
    exact this
  have hrz : ∀ ty, (Builtin.append_ #[25, 3] ty #[.slice (some ⟨b, 0, none⟩) i cap, .int .i64 ((cap : Int) + 1 - (i : Int))]).run Try.prog w =
      .ok (.slice (some ⟨w.heap.size, 0, none⟩) (cap + 1) (grownCap w (cap + 1) cap 36)) (w.drew.alloc (.cells (((rows.take i).flatMap Dp.cs).toArray ++ Builtin.zeroCells ((.agg #[.int .i64 0, .string .empty, .string .empty, .string .empty]) : Value).cells (cap + 1 - i) ++ Builtin.zeroCells ((.agg #[.int .i64 0, .string .empty, .string .empty, .string .empty]) : Value).cells (grownCap w (cap + 1) cap 36 - (cap + 1))) 36)) := fun ty => by
    have h := Lib.run_append_grow_zeros w 25 3 ty 36 i0 _ .i64 .i64 Try.underlying25 Try.underlying3 hi0 hz0 (some ⟨b, 0, none⟩) i cap ((rows.take i).flatMap Dp.cs) hold (cap + 1 - i) (by omega) (by omega) (by omega) (by omega) (by rw [hzb]; omega) (by rw [hzb, hik]; exact growslice_fits (by omega) (by omega))
    rw [hik] at h
    rw [hkk]
    exact h
  have hGn : cap + 1 ≤ grownCap w (cap + 1) cap 36 := grownCap_ge w _ _ _
  have hGm : grownCap w (cap + 1) cap 36 ≤ maxLen := grownCap_le_maxLen w (cap + 1) cap 36 (by unfold maxLen; omega)
  generalize grownCap w (cap + 1) cap 36 = G at *
  obtain ⟨ROW, hRl, hRt, hRe⟩ : ∃ ROW : List Value, ROW.length = G * 4 ∧ ROW.take (i * 4) = (rows.take i).flatMap Dp.cs ∧ (((rows.take i).flatMap Dp.cs).toArray ++ Builtin.zeroCells ((.agg #[.int .i64 0, .string .empty, .string .empty, .string .empty]) : Value).cells (cap + 1 - i) ++ Builtin.zeroCells ((.agg #[.int .i64 0, .string .empty, .string .empty, .string .empty]) : Value).cells (G - (cap + 1))) = ROW.toArray := by
    refine ⟨((rows.take i).flatMap Dp.cs) ++ (Builtin.zeroCells ((.agg #[.int .i64 0, .string .empty, .string .empty, .string .empty]) : Value).cells (cap + 1 - i)).toList ++ (Builtin.zeroCells ((.agg #[.int .i64 0, .string .empty, .string .empty, .string .empty]) : Value).cells (G - (cap + 1))).toList, ?_, ?_, ?_⟩
    · simp only [List.length_append, Array.length_toList, size_zeroCells, hzc, hfl]; omega
    · rw [List.append_assoc, ← hfl, List.take_left]
    · apply Array.toList_inj.1; simp
  rw [hRe] at hrz
  have hC := ins_A (cs := Dp.cs) (x := x) dpcs_len hlen (Nat.le_of_lt hi) hRl hGn hRt
  replace hC : Hid _ := hC
  have D1 : Blk (w.drew.alloc (.cells ROW.toArray 36)) w.heap.size ROW.toArray 36 := Blk.new w.drew _ _
  have hB1 : Below w.heap.size w (w.drew.alloc (.cells ROW.toArray 36)) := ((Below.refl _ _).drew).alloc (Nat.le_refl _) _
  have hz1 : ¬ ((1 : Int) = 0) := by omega
  have hz2 : ¬ ((i : Int) = (cap : Int)) := by omega
  have hz3 : (cap : Int) < (cap : Int) + 1 := by omega
  have hGi : ¬ (G = i) := by omega
  have hGim : ¬ (G = i + 1) := by omega
  have hci : ¬ (cap = i) := by omega
  have hw1 : IntKind.i64.wrap ((i : Int) + 1) = (i : Int) + 1 := by rw [IntKind.wrap_i64]; omega
  have hb1 : (0 : Int) ≤ (i : Int) + 1 := by omega
  have hin : i ≤ cap := by omega
  have htn : ((i : Int) + 1).toNat = i + 1 := by omega
  have hb3 : (i : Int) ≤ (cap : Int) := by omega
  have hG63 : G ≤ 9223372036854775807 := by unfold maxLen at hGm; omega
  have hSl := R.sl
  have hone1 : ∀ v ∈ Dp.cs x, v.oneCell' = true := fun v hv => dpcs_one [x] v (by simpa using hv)
  have hone2 : ∀ v ∈ (rows.drop i).flatMap Dp.cs, v.oneCell' = true := dpcs_one _
  have hbl : Hid (B ≤ w.heap.size ∧ rows.length = cap) := ⟨hBw, hlen⟩
  clear hkk hik hold R hfl hi0 hz0 hzs hzb hRe hRt hlen hRl
  generalize hW1 : w.drew.alloc (.cells ROW.toArray 36) = W1 at *
  clear hW1
  obtain ⟨w2, hcp, D2, hg2, hs2⟩ := copy_at (P := Try.prog) W1 25 25 36 4 w.heap.size (i * 4) (cap + 1 - i) (G - i) ⟨vb, 0, none⟩ 1 1 ROW 36 (Dp.cs x) 1 Try.underlying25 dop_size D1 (by simp only [Nat.min_def]; split <;> omega) (by rw [dpcs_len, Nat.one_mul]) (fun j v hj => by rw [Addr.add_lit]; exact bcell hB1 ((hv.cell _).trans (by simpa using hj))) hC.out.1 hone1
  go_enter Try.func60, Try.ntmps60
  go_wp2_with (first
    | (at_builtin; refine Lib.wpList_append_run _ rfl _ _ _ _ rfl _ _ rfl rfl _ _ (hrz _) ?_)
    | (at_builtin; refine wpList_copyR _ rfl _ _ 25 25 rfl _ _ rfl rfl (hcp _) ?_))
  clear hcp
  have hB2 := below_grown hB1 hg2 (Nat.le_refl _)
  have hw2 := D2.lt
  clear hrz hB1 hg2 hs2
  have hS0 : (fun _ => True) w2.drew := trivial
  refine wp_region_heldH (S := (fun _ => True)) 9 (by kernel_rfl) rfl ?_
  refine takeL (i := 0) (v := ?vq35001) rfl (by kernel_rfl) (by kernel_rfl) (by kernel_rfl) (fun _ _ _ h => h) (Or.inl ⟨by rfl, ?hyq35001⟩) (by assumption) ?restq35001
  case hyq35001 => (intro u hu; (try dsimp only at hu); go_simp <;> with_reducible rfl)
  try simp only [Act.put, List.setIfInBounds_toArray, List.set_cons_zero, List.set_cons_succ]
  refine takeL (i := 1) (v := ?vq35002) rfl (by kernel_rfl) (by kernel_rfl) (by kernel_rfl) (fun _ _ _ h => h) (Or.inl ⟨by rfl, ?hyq35002⟩) (by assumption) ?restq35002
  case hyq35002 => (intro u hu; (try dsimp only at hu); go_simp <;> with_reducible rfl)
  try simp only [Act.put, List.setIfInBounds_toArray, List.set_cons_zero, List.set_cons_succ]
  refine takeL (i := 2) (v := ?vq35003) rfl (by kernel_rfl) (by kernel_rfl) (by kernel_rfl) (fun _ _ _ h => h) (Or.inl ⟨by rfl, ?hyq35003⟩) (by assumption) ?restq35003
  case hyq35003 => (intro u hu; (try dsimp only at hu); go_simp <;> with_reducible rfl)
  try simp only [Act.put, List.setIfInBounds_toArray, List.set_cons_zero, List.set_cons_succ]
  refine takeL (i := 3) (v := ?vq35004) rfl (by kernel_rfl) (by kernel_rfl) (by kernel_rfl) (fun _ _ _ h => h) (Or.inl ⟨by rfl, ?hyq35004⟩) (by assumption) ?restq35004
  case hyq35004 => (intro u hu; (try dsimp only at hu); go_simp <;> with_reducible rfl)
  try simp only [Act.put, List.setIfInBounds_toArray, List.set_cons_zero, List.set_cons_succ]
  refine takeL (i := 4) (v := ?vq35005) rfl (by kernel_rfl) (by kernel_rfl) (by kernel_rfl) (fun _ _ _ h => h) (Or.inl ⟨by rfl, ?hyq35005⟩) (by assumption) ?restq35005
  case hyq35005 => (intro u hu; (try dsimp only at hu); go_simp <;> with_reducible rfl)
  try simp only [Act.put, List.setIfInBounds_toArray, List.set_cons_zero, List.set_cons_succ]
  refine takeL (i := 5) (v := ?vq35006) rfl (by kernel_rfl) (by kernel_rfl) (by kernel_rfl) (fun _ _ _ h => h) (Or.inl ⟨by rfl, ?hyq35006⟩) (by assumption) ?restq35006
  case hyq35006 => (intro u hu; (try dsimp only at hu); go_simp <;> with_reducible rfl)
  try simp only [Act.put, List.setIfInBounds_toArray, List.set_cons_zero, List.set_cons_succ]
  refine takeL (i := 6) (v := ?vq35007) rfl (by kernel_rfl) (by kernel_rfl) (by kernel_rfl) (fun _ _ _ h => h) (Or.inl ⟨by rfl, ?hyq35007⟩) (by assumption) ?restq35007
  case hyq35007 => (intro u hu; (try dsimp only at hu); go_simp <;> with_reducible rfl)
  try simp only [Act.put, List.setIfInBounds_toArray, List.set_cons_zero, List.set_cons_succ]
  refine takeL (i := 7) (v := ?vq35008) rfl (by kernel_rfl) (by kernel_rfl) (by kernel_rfl) (fun _ _ _ h => h) (Or.inl ⟨by rfl, ?hyq35008⟩) (by assumption) ?restq35008
  case hyq35008 => (intro u hu; (try dsimp only at hu); go_simp <;> with_reducible rfl)
  try simp only [Act.put, List.setIfInBounds_toArray, List.set_cons_zero, List.set_cons_succ]
  refine oneL (i := 8) (by kernel_rfl) rfl (fun K hK => ?_)
  refine step_app rfl (wp_copyN _ _ 25 25 36 4 rfl Try.underlying25 dop_size w.heap.size ((i + 1) * 4) (cap - i) (G - (i + 1)) ⟨b, i * 4, none⟩ (cap - i) (cap - i) rfl rfl _ 36 D2.drew ((rows.drop i).flatMap Dp.cs) (cap - i) (by simp only [Nat.min_def]; split <;> omega) hC.out.2.2.2.1 (fun j v hj => ?src) hC.out.2.2.1 hone2 (fun w3 D3 hg3 hs3 => ?_))
  case src =>
    have := SlAt.src dpcs_len hSl (i * 4 + j) v (by rw [← hj]; exact drop_flat dpcs_len rows i j)
    rw [Addr.add_lit] at this ⊢
    rw [Nat.zero_add] at this
    exact bcell hB2 this
  dsimp only
  refine hK.out _ _ trivial (fun hHeld => ?_)
  clear hK K
  try simp only [Act.put, List.setIfInBounds_toArray, List.set_cons_zero, List.set_cons_succ]
  refine wpAnyH_done (by kernel_rfl) ?_ _
  have hB3 : Below w.heap.size w w3 := below_grown (chain hB2 (Below.refl _ _).drew) hg3 (Nat.le_refl _)
  have R3 := res_of_cells (l := rows.take i ++ [x] ++ rows.drop i) (n := cap + 1) (cap := G) dpcs_len D3 hbl.out.1 (ins_len hbl.out.2 (Nat.le_of_lt hi)) hGn hGm (by rw [List.size_toArray]; exact hC.out.2.2.2.2.1) hC.out.2.2.2.2.2
  clear D3 D2 hg3 hs3 hS0 hHeld
  have hG3 : w.grownBy w3 (Value.ownBlock (.slice (some ⟨b, 0, none⟩) cap cap)) := ⟨hB3.os, hB3.tape, hB3.output, hB3.size, fun k hk _ => hB3.block k hk⟩
  go_wp2
  go_returns
  exact ⟨⟨_, G, rfl, R3⟩, hG3⟩

set_option maxHeartbeats 4000000 in
set_option maxRecDepth 100000 in
theorem dop_Insert_room (B b n cap i vb : Nat) (rows : List Dp) (x : Dp) (w : World) (R : ResAt Dp.cs 4 36 w B (some ⟨b, 0, none⟩) n cap rows) (hv : Blk w vb (Dp.cs x).toArray 36) (hvb : vb ≠ b) (hn : n ≤ 4194304) (hi : i < n) (hcap : n + 1 ≤ cap) :
    Calls Try.prog 60 #[.slice (some ⟨b, 0, none⟩) n cap, .int .i64 i, .slice (some ⟨vb, 0, none⟩) 1 1] w fun e w' => (∃ a' cap', e = .returned (.slice a' (n + 1) cap') ∧ ResAt Dp.cs 4 36 w' B a' (n + 1) cap' (rows.take i ++ [x] ++ rows.drop i)) ∧ w.grownBy w' (Value.ownBlock (.slice (some ⟨b, 0, none⟩) n cap)) := by
  have hlen := R.sl.len
  rcases R.own with ⟨h0, _⟩ | ⟨b', ha, hBb, _, hcm, c, hb, hc, ht⟩
  · cases h0
  cases ha
  obtain ⟨L, rfl⟩ : ∃ L : List Value, c = L.toArray := ⟨c.toList, by simp⟩
  have hC := ins_B (cs := Dp.cs) (x := x) (L := L) dpcs_len hlen (Nat.le_of_lt hi) (by simpa using hc) hcap (by simpa using ht)
  replace hC : Hid _ := hC
  have hov : ∀ lb cb, (callFunc 84 #[.slice (some ⟨vb, 0, none⟩) 1 1, .slice (some ⟨b, (i + 1) * 4, none⟩) lb cb]).run Try.prog w = .ok (.value (.bool false)) w := fun lb cb => by
    rw [run_callFunc_extern Try.func84 (by kernel_rfl) (by kernel_rfl) (by kernel_rfl) (e := Extern.SlicesOverlaps.overlaps #[25, 25] #[4]) (by kernel_rfl),
      Lib.run_overlaps_apart w 25 4 36 Try.underlying25 4 Try.sizeOf36 ⟨vb, 0, none⟩ ⟨b, (i + 1) * 4, none⟩ 1 1 lb cb hvb 36 36 (Dp.cs x).toArray.size L.toArray.size (by unfold Blk at hv; simp [World.shape?, hv]) (by unfold Blk at hb; simp [World.shape?, hb]) (by rw [hc]; omega) (hv.frozen _) (hv.frozen _)]
    rfl
  have hz1 : ¬ ((1 : Int) = 0) := by omega
  have hz2 : ¬ ((i : Int) = (n : Int)) := by omega
  have hz3 : ¬ (cap : Int) < (n : Int) + 1 := by omega
  have hci : ¬ (cap = i) := by omega
  have hcim : ¬ (cap = i + 1) := by omega
  have hw1 : IntKind.i64.wrap ((i : Int) + 1) = (i : Int) + 1 := by rw [IntKind.wrap_i64]; omega
  have hb1 : (0 : Int) ≤ (i : Int) + 1 := by omega
  have hin : i ≤ n := by omega
  have htn : ((i : Int) + 1).toNat = i + 1 := by omega
  have hb3 : (i : Int) ≤ (n : Int) := by omega
  have hb4 : (i : Int) ≤ (n : Int) + 1 := by omega
  have hcap63 : cap ≤ 9223372036854775807 := by unfold maxLen at hcm; omega
  have hSl := R.sl
  have hone1 : ∀ v ∈ Dp.cs x, v.oneCell' = true := fun v hv => dpcs_one [x] v (by simpa using hv)
  have hone2 : ∀ v ∈ (rows.drop i).flatMap Dp.cs, v.oneCell' = true := dpcs_one _
  have hbl : Hid (B ≤ b ∧ rows.length = n ∧ n + 1 ≤ cap ∧ cap ≤ maxLen) := ⟨hBb, hlen, hcap, hcm⟩
  clear R hlen ht hc hBb hcm
  go_enter Try.func60, Try.ntmps60
  go_wp2_with (simp only [hov])
  clear hov
  have hS0 : (fun _ => True) w.drew := trivial
  refine wp_region_heldH (S := (fun _ => True)) 9 (by kernel_rfl) rfl ?_
  refine takeL (i := 0) (v := ?vq35009) rfl (by kernel_rfl) (by kernel_rfl) (by kernel_rfl) (fun _ _ _ h => h) (Or.inl ⟨by rfl, ?hyq35009⟩) (by assumption) ?restq35009
  case hyq35009 => (intro u hu; (try dsimp only at hu); go_simp <;> with_reducible rfl)
  try simp only [Act.put, List.setIfInBounds_toArray, List.set_cons_zero, List.set_cons_succ]
  refine takeL (i := 1) (v := ?vq35010) rfl (by kernel_rfl) (by kernel_rfl) (by kernel_rfl) (fun _ _ _ h => h) (Or.inl ⟨by rfl, ?hyq35010⟩) (by assumption) ?restq35010
  case hyq35010 => (intro u hu; (try dsimp only at hu); go_simp <;> with_reducible rfl)
  try simp only [Act.put, List.setIfInBounds_toArray, List.set_cons_zero, List.set_cons_succ]
  refine takeL (i := 2) (v := ?vq35011) rfl (by kernel_rfl) (by kernel_rfl) (by kernel_rfl) (fun _ _ _ h => h) (Or.inl ⟨by rfl, ?hyq35011⟩) (by assumption) ?restq35011
  case hyq35011 => (intro u hu; (try dsimp only at hu); go_simp <;> with_reducible rfl)
  try simp only [Act.put, List.setIfInBounds_toArray, List.set_cons_zero, List.set_cons_succ]
  refine takeL (i := 3) (v := ?vq35012) rfl (by kernel_rfl) (by kernel_rfl) (by kernel_rfl) (fun _ _ _ h => h) (Or.inl ⟨by rfl, ?hyq35012⟩) (by assumption) ?restq35012
  case hyq35012 => (intro u hu; (try dsimp only at hu); go_simp <;> with_reducible rfl)
  try simp only [Act.put, List.setIfInBounds_toArray, List.set_cons_zero, List.set_cons_succ]
  refine takeL (i := 4) (v := ?vq35013) rfl (by kernel_rfl) (by kernel_rfl) (by kernel_rfl) (fun _ _ _ h => h) (Or.inl ⟨by rfl, ?hyq35013⟩) (by assumption) ?restq35013
  case hyq35013 => (intro u hu; (try dsimp only at hu); go_simp <;> with_reducible rfl)
  try simp only [Act.put, List.setIfInBounds_toArray, List.set_cons_zero, List.set_cons_succ]
  refine takeL (i := 5) (v := ?vq35014) rfl (by kernel_rfl) (by kernel_rfl) (by kernel_rfl) (fun _ _ _ h => h) (Or.inl ⟨by rfl, ?hyq35014⟩) (by assumption) ?restq35014
  case hyq35014 => (intro u hu; (try dsimp only at hu); go_simp <;> with_reducible rfl)
  try simp only [Act.put, List.setIfInBounds_toArray, List.set_cons_zero, List.set_cons_succ]
  refine takeL (i := 6) (v := ?vq35015) rfl (by kernel_rfl) (by kernel_rfl) (by kernel_rfl) (fun _ _ _ h => h) (Or.inl ⟨by rfl, ?hyq35015⟩) (by assumption) ?restq35015
  case hyq35015 => (intro u hu; (try dsimp only at hu); go_simp <;> with_reducible rfl)
  try simp only [Act.put, List.setIfInBounds_toArray, List.set_cons_zero, List.set_cons_succ]
  refine takeL (i := 7) (v := ?vq35016) rfl (by kernel_rfl) (by kernel_rfl) (by kernel_rfl) (fun _ _ _ h => h) (Or.inl ⟨by rfl, ?hyq35016⟩) (by assumption) ?restq35016
  case hyq35016 => (intro u hu; (try dsimp only at hu); go_simp <;> with_reducible rfl)
  try simp only [Act.put, List.setIfInBounds_toArray, List.set_cons_zero, List.set_cons_succ]
  refine oneL (i := 8) (by kernel_rfl) rfl (fun K hK => ?_)
  refine step_app rfl (wp_copyN _ _ 25 25 36 4 rfl Try.underlying25 dop_size b ((i + 1) * 4) (n - i) (cap - (i + 1)) ⟨b, i * 4, none⟩ (n + 1 - i) (cap - i) rfl rfl L 36 hb.drew ((rows.drop i).flatMap Dp.cs) (n - i) (by simp only [Nat.min_def]; split <;> omega) hC.out.2.2.2.1 (fun j v hj => ?src) hC.out.1 hone2 (fun w2 D2 hg2 hs2 => ?_))
  case src =>
    have := SlAt.src dpcs_len hSl (i * 4 + j) v (by rw [← hj]; exact drop_flat dpcs_len rows i j)
    rw [Addr.add_lit] at this ⊢
    rw [Nat.zero_add] at this
    exact this
  dsimp only
  refine hK.out _ _ trivial (fun hHeld => ?_)
  clear hK K
  try simp only [Act.put, List.setIfInBounds_toArray, List.set_cons_zero, List.set_cons_succ]
  refine wpAnyH_done (by kernel_rfl) ?_ _
  have hg2' : w.grownBy w2 (some b) := grown_trans (grown_below (World.grownBy.refl _ _) (Below.refl _ _).drew) hg2
  have hv2 := hv.grown hg2' hvb
  clear hg2 hs2 hS0 hHeld
  obtain ⟨w3, hcp, D3, hg3, hs3⟩ := copy_at (P := Try.prog) w2 25 25 36 4 b (i * 4) (n + 1 - i) (cap - i) ⟨vb, 0, none⟩ 1 1 _ 36 (Dp.cs x) 1 Try.underlying25 dop_size D2 (by simp only [Nat.min_def]; split <;> omega) (by rw [dpcs_len, Nat.one_mul]) (fun j v hj => by rw [Addr.add_lit]; exact (hv2.cell _).trans (by simpa using hj)) hC.out.2.2.1 hone1
  go_wp2_with (at_builtin; refine wpList_copyR _ rfl _ _ 25 25 rfl _ _ rfl rfl (hcp _) ?_)
  clear hcp
  have hG3 : w.grownBy w3 (some b) := grown_trans hg2' hg3
  have R3 := res_of_cells (l := rows.take i ++ [x] ++ rows.drop i) (n := n + 1) (cap := cap) dpcs_len D3 hbl.out.1 (ins_len hbl.out.2.1 (Nat.le_of_lt hi)) hbl.out.2.2.1 hbl.out.2.2.2 (by rw [List.size_toArray]; exact hC.out.2.2.2.2.1) hC.out.2.2.2.2.2
  clear D3 D2 hg3 hs3
  go_returns
  exact ⟨⟨_, cap, rfl, R3⟩, hG3⟩

theorem dop_Insert (B : Nat) (a : Option Addr) (n cap i vb : Nat) (rows : List Dp) (x : Dp) (w : World) (R : ResAt Dp.cs 4 36 w B a n cap rows) (hv : Blk w vb (Dp.cs x).toArray 36) (hvb : ∀ ad, a = some ad → vb ≠ ad.block) (hn : n ≤ 4194304) (hBw : B ≤ w.heap.size) (hi : i ≤ n) :
    Calls Try.prog 60 #[.slice a n cap, .int .i64 i, .slice (some ⟨vb, 0, none⟩) 1 1] w fun e w' => (∃ a' cap', e = .returned (.slice a' (n + 1) cap') ∧ ResAt Dp.cs 4 36 w' B a' (n + 1) cap' (rows.take i ++ [x] ++ rows.drop i)) ∧ w.grownBy w' (Value.ownBlock (.slice a n cap)) := by
  by_cases hin : i = n
  · subst hin
    have hl := R.sl.len
    have := dop_Insert_end B a i cap vb rows x w R hv hn hBw
    rw [List.take_of_length_le (by omega), List.drop_of_length_le (by omega), List.append_nil]
    exact this
  · rcases R.own with ⟨_, h0, _⟩ | ⟨b, rfl, _, hnc, _⟩
    · omega
    · by_cases hc : cap = n
      · exact dop_Insert_grow B b n cap i vb rows x w R hv hn hBw (by omega) hc
      · exact dop_Insert_room B b n cap i vb rows x w R hv (hvb _ rfl) hn (by omega) (by omega)
end Go.Proofs.Ytpobgjkmcmkkeaa
