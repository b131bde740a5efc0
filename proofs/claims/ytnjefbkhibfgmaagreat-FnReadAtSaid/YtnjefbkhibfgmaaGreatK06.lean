/- The model's l2Join, l2Slice, l2Laid. Slice, Joined, Laid of the model. Answers' blocks, and what is kept while one of them is written. The gaps of the model: l1Gaps, GapsOf. -/
import Derived.Test.YtnjefbkhibfgmaaGreatProg
import Derived.Test.YtnjefbkhibfgmaaGreatK05
import Derived.Test.YtnjefbkhibfgmaaGreatK04
namespace Go.Proofs.YtnjefbkhibfgmaaGreat
open Go.RowKit Go.BigFrame
def joinL (l m : List Pt) : List Pt := m.foldl addL l
theorem addL_len (l : List Pt) (p : Pt) : (addL l p).length ≤ l.length + 1 := by
  unfold addL
  split
  · simp
  · split
    · simp only [List.length_append, List.length_dropLast, List.length_cons, List.length_nil]; omega
    · simp
theorem joinL_at {l m : List Pt} {k : Nat} {p : Pt} (h : m[k]? = some p) : joinL l (m.take (k + 1)) = addL (joinL l (m.take k)) p := by
  unfold joinL; rw [take_at h, List.foldl_append]; rfl
set_option maxHeartbeats 1000000 in
theorem spec_l2Join (a : Option Addr) (n cap : Nat) (l : List Pt) (a' : Option Addr) (n' cap' : Nat) (m : List Pt) (w : World) (h : PtsAt w a n l) (hn : n ≤ 1100000) (ha : ArgOk a cap) (h' : PtsAt w a' n' m) (hn' : n' ≤ 1100000) :
    Calls Tryz.prog 134 #[.slice a n cap, .slice a' n' cap'] w fun e w' => (∃ a1 n1 cap1, e = .returned (.slice a1 n1 cap1) ∧ n1 ≤ n + n' ∧ ResAt Pt.cs 3 46 w' w.heap.size a1 n1 cap1 (joinL l m)) ∧ Below w.heap.size w w' := by
  have hlen' : Hid (m.length = n') := h'.len
  obtain ⟨i0, hi, hz0, hz1, hz2⟩ := info_parts infoP
  go_enter Tryz.func134, Tryz.ntmps134
  go_wp2_with (at_builtin; refine wpList_app rfl (fun K hK => wp_app _ _ 42 rfl w.heap.size 46 i0 (.agg #[.int .i64 0, .int .i64 0, .int .i64 0]) 24 Tryz.underlying42 hi hz0 hz1 hz2 rfl (by decide) pcs_len pcs_one _ 0 0 [] rfl (res_empty (Blk.new' _ _ _ _ (by simp)) (by omega)) a n cap l rfl (h.below (by go_grown)) ha.spot ha.nil n (Nat.zero_add _) (by unfold maxLen; omega) (by omega) (by simp) (fun a1 cap1 w1 hr1 hg1 => hK _ _ ?_)))
  have hb1 : Below w.heap.size w w1 := Below.grown (by go_grown) hg1 (by simp) (fun k e => by simp [Value.ownBlock] at e; omega)
  simp only [List.nil_append] at hr1
  clear hg1 hi hz0 hz1 hz2
  go_loopw [5, 6] (fun out ix wr => ∃ (k : Nat) (a2 : Option Addr) (n2 cap2 : Nat), k ≤ n' ∧ ix = .int .i64 k ∧ out = .slice a2 n2 cap2 ∧ n2 ≤ n + k ∧ ResAt Pt.cs 3 46 wr w.heap.size a2 n2 cap2 (joinL l (m.take k)) ∧ Below w.heap.size w wr) (fun _ ix _ => n' - (intOf ix).toNat)
  case atStart => exact ⟨0, a1, n, cap1, Nat.zero_le _, rfl, rfl, by omega, hr1, hb1⟩
  case round =>
    obtain ⟨k, a2, n2, cap2, hk, rfl, rfl, hn2, hr2, hB⟩ := hrel
    by_cases hlt : k < n'
    · obtain ⟨b, o, p, rfl, hp, c0, c1, c2⟩ := pts_at (h'.below hB) hlt
      have hst : Hid (joinL l (m.take (k + 1)) = addL (joinL l (m.take k)) p) := joinL_at hp
      clear hp
      generalize joinL l (m.take k) = lk at *
      have hal := addL_len lk p
      rw [hr2.sl.len] at hal
      go_wp2_with fail
      refine (spec_l2Add a2 n2 cap2 lk p _ hr2.sl (by omega) hr2.arg).mono ?_
      rintro e w3 ⟨⟨a3, n3, cap3, rfl, hr3⟩, hB3⟩
      have hn3 := hr3.sl.len
      go_wp2
      go_roundw
      case rel => exact ⟨k + 1, a3, n3, cap3, by omega, by go_num, rfl, by omega, by rw [hst.out]; exact hr3.mono hB.size, chain hB hB3⟩
      case measure => simp [intOf]; omega
    · obtain rfl : k = n' := by omega
      go_wp2
      go_returns
      go_light
      rw [List.take_of_length_le (Nat.le_of_eq hlen'.out)] at hr2
      exact ⟨⟨a2, n2, cap2, rfl, hn2, hr2⟩, hB⟩
/-- Parts as right ones are: a hole begins at 0. -/
def Holes (l : List Pt) : Prop := ∀ p ∈ l, (1 ≤ p.n ∧ p.n ≤ 100 ∧ 0 ≤ p.f ∧ p.f ≤ 100) ∧ ((p.a = 0 ∧ p.f = 0) ∨ 0 < p.a)
theorem cut_hole {p : Pt} {x y : Int} (h : p.a = 0) (hf : p.f = 0) : cutP p x y = ⟨p.a, p.f, y - x⟩ := by simp [cutP, h, hf]
theorem cut_ext {p : Pt} {x y : Int} (h : 0 < p.a) : cutP p x y = ⟨p.a, p.f + x, y - x⟩ := by
  have : (p.a == 0) = false := beq_eq_false_iff_ne.2 (by omega)
  simp [cutP, this]
theorem slj_step {lk : List Pt} {fr to st x y : Int} {p : Pt} {r : List Pt} (hx : max (fr - st) 0 = x) (hy : min (to - st) p.n = y) (h : x < y) : joinL lk (slp fr to st (p :: r)) = joinL (addL lk (cutP p x y)) (slp fr to (st + p.n) r) := by
  rw [slp_yes hx hy h]; rfl
theorem slj_hole {lk : List Pt} {fr to st z : Int} {p : Pt} {r : List Pt} (h : max (fr - st) 0 < min (to - st) p.n) (ha : p.a = 0 ∧ p.f = 0) (hz : min (to - st) p.n - max (fr - st) 0 = z) : joinL lk (slp fr to st (p :: r)) = joinL (addL lk ⟨p.a, p.f, z⟩) (slp fr to (st + p.n) r) := by
  rw [slj_step rfl rfl h, cut_hole ha.1 ha.2, hz]
theorem slj_ext {lk : List Pt} {fr to st z f : Int} {p : Pt} {r : List Pt} (h : max (fr - st) 0 < min (to - st) p.n) (ha : 0 < p.a) (hf : p.f + max (fr - st) 0 = f) (hz : min (to - st) p.n - max (fr - st) 0 = z) : joinL lk (slp fr to st (p :: r)) = joinL (addL lk ⟨p.a, f, z⟩) (slp fr to (st + p.n) r) := by
  rw [slj_step rfl rfl h, cut_ext ha, hz, hf]
theorem addL_res {l : List Pt} {p : Pt} {n m : Nat} (h1 : (addL l p).length = n) (h2 : l.length = m) : n ≤ m + 1 := by
  have := addL_len l p; omega
set_option maxHeartbeats 8000000 in
set_option maxRecDepth 100000 in
theorem spec_l2Slice (a : Option Addr) (n cap : Nat) (l : List Pt) (fr to : Int) (w : World) (h : PtsAt w a n l) (hn : n ≤ 16) (hl : Holes l) (hf0 : 0 ≤ fr) (hf1 : fr ≤ 10000) (ht0 : 0 ≤ to) (ht1 : to ≤ 10000) :
    Calls Tryz.prog 125 #[.slice a n cap, .int .i64 fr, .int .i64 to] w fun e w' => (∃ a1 n1 cap1, e = .returned (.slice a1 n1 cap1) ∧ n1 ≤ n ∧ ResAt Pt.cs 3 46 w' w.heap.size a1 n1 cap1 (joinL [] (slp fr to 0 l))) ∧ Below w.heap.size w w' := by
  have hlen : Hid (l.length = n) := h.len
  go_enter Tryz.func125, Tryz.ntmps125
  go_wp2_with fail
  go_loopw [7, 8, 9] (fun out s ix wr => ∃ (k : Nat) (st : Int) (a2 : Option Addr) (n2 cap2 : Nat) (lk : List Pt), k ≤ n ∧ ix = .int .i64 k ∧ s = .int .i64 st ∧ 0 ≤ st ∧ st ≤ 100 * k ∧ out = .slice a2 n2 cap2 ∧ n2 ≤ k ∧ ResAt Pt.cs 3 46 wr w.heap.size a2 n2 cap2 lk ∧ Hid (joinL [] (slp fr to 0 l) = joinL lk (slp fr to st (l.drop k))) ∧ Below w.heap.size w wr) (fun _ _ ix _ => n - (intOf ix).toNat)
  case atStart => exact ⟨0, 0, _, 0, 0, [], Nat.zero_le _, rfl, rfl, by omega, by omega, rfl, by omega, res_empty (Blk.new _ _ _) (Nat.le_refl _), rfl, (Below.refl _ _).alloc (Nat.le_refl _) _⟩
  case round =>
    obtain ⟨k, st, a2, n2, cap2, lk, hk, rfl, rfl, hs0, hs1, rfl, hn2, hr2, hI, hB⟩ := hrel
    by_cases hlt : k < n
    · obtain ⟨b, o, p, rfl, hp, c0, c1, c2⟩ := pts_at (h.below hB) hlt
      have hd : Hid (l.drop k = p :: l.drop (k + 1)) := drop_at hp
      obtain ⟨⟨hp1, hp2, hp3, hp4⟩, hpa⟩ := hl p (List.mem_of_getElem? hp)
      clear hp
      have hsz := hB.size
      by_cases hxy : max (fr - st) 0 < min (to - st) p.n
      · rcases hpa with ⟨hpa, hpf⟩ | hpa
        · have hpa' : ¬ 0 < p.a := by omega
          have hHa : Hid (p.a = 0 ∧ p.f = 0) := ⟨hpa, hpf⟩
          clear hpa hpf
          by_cases hx : fr < st
          · by_cases hy : st + p.n < to
            · go_wp2_with fail
              refine (spec_l2Add a2 n2 cap2 lk ⟨p.a, p.f, (st + p.n) - st⟩ _ (hr2.sl.alloc _) (by omega) hr2.arg).mono ?_
              rintro e w3 ⟨⟨a3, n3, cap3, rfl, hr3⟩, hB3⟩
              have hal := addL_res hr3.sl.len hr2.sl.len
              obtain ⟨_, _, _, hB3', _⟩ := box3 hB3
              have y2 := bcell hB3' c2
              have hfin : Hid (joinL lk (slp fr to st (p :: l.drop (k + 1))) = joinL (addL lk ⟨p.a, p.f, (st + p.n) - st⟩) (slp fr to (st + p.n) (l.drop (k + 1)))) := slj_hole hxy hHa.out (by omega)
              clear hxy
              go_wp2
              go_roundw
              case rel => exact ⟨k + 1, st + p.n, a3, n3, cap3, _, by omega, by go_num, by go_num, by omega, by omega, rfl, by omega, hr3.mono (by simp; omega), by show _ = _; rw [hI.out, hd.out]; exact hfin.out, chain hB hB3'⟩
              case measure => simp [intOf]; omega
            · go_wp2_with fail
              refine (spec_l2Add a2 n2 cap2 lk ⟨p.a, p.f, to - st⟩ _ (hr2.sl.alloc _) (by omega) hr2.arg).mono ?_
              rintro e w3 ⟨⟨a3, n3, cap3, rfl, hr3⟩, hB3⟩
              have hal := addL_res hr3.sl.len hr2.sl.len
              obtain ⟨_, _, _, hB3', _⟩ := box3 hB3
              have y2 := bcell hB3' c2
              have hfin : Hid (joinL lk (slp fr to st (p :: l.drop (k + 1))) = joinL (addL lk ⟨p.a, p.f, to - st⟩) (slp fr to (st + p.n) (l.drop (k + 1)))) := slj_hole hxy hHa.out (by omega)
              clear hxy
              go_wp2
              go_roundw
              case rel => exact ⟨k + 1, st + p.n, a3, n3, cap3, _, by omega, by go_num, by go_num, by omega, by omega, rfl, by omega, hr3.mono (by simp; omega), by show _ = _; rw [hI.out, hd.out]; exact hfin.out, chain hB hB3'⟩
              case measure => simp [intOf]; omega
          · by_cases hy : st + p.n < to
            · go_wp2_with fail
              refine (spec_l2Add a2 n2 cap2 lk ⟨p.a, p.f, (st + p.n) - fr⟩ _ (hr2.sl.alloc _) (by omega) hr2.arg).mono ?_
              rintro e w3 ⟨⟨a3, n3, cap3, rfl, hr3⟩, hB3⟩
              have hal := addL_res hr3.sl.len hr2.sl.len
              obtain ⟨_, _, _, hB3', _⟩ := box3 hB3
              have y2 := bcell hB3' c2
              have hfin : Hid (joinL lk (slp fr to st (p :: l.drop (k + 1))) = joinL (addL lk ⟨p.a, p.f, (st + p.n) - fr⟩) (slp fr to (st + p.n) (l.drop (k + 1)))) := slj_hole hxy hHa.out (by omega)
              clear hxy
              go_wp2
              go_roundw
              case rel => exact ⟨k + 1, st + p.n, a3, n3, cap3, _, by omega, by go_num, by go_num, by omega, by omega, rfl, by omega, hr3.mono (by simp; omega), by show _ = _; rw [hI.out, hd.out]; exact hfin.out, chain hB hB3'⟩
              case measure => simp [intOf]; omega
            · go_wp2_with fail
              refine (spec_l2Add a2 n2 cap2 lk ⟨p.a, p.f, to - fr⟩ _ (hr2.sl.alloc _) (by omega) hr2.arg).mono ?_
              rintro e w3 ⟨⟨a3, n3, cap3, rfl, hr3⟩, hB3⟩
              have hal := addL_res hr3.sl.len hr2.sl.len
              obtain ⟨_, _, _, hB3', _⟩ := box3 hB3
              have y2 := bcell hB3' c2
              have hfin : Hid (joinL lk (slp fr to st (p :: l.drop (k + 1))) = joinL (addL lk ⟨p.a, p.f, to - fr⟩) (slp fr to (st + p.n) (l.drop (k + 1)))) := slj_hole hxy hHa.out (by omega)
              clear hxy
              go_wp2
              go_roundw
              case rel => exact ⟨k + 1, st + p.n, a3, n3, cap3, _, by omega, by go_num, by go_num, by omega, by omega, rfl, by omega, hr3.mono (by simp; omega), by show _ = _; rw [hI.out, hd.out]; exact hfin.out, chain hB hB3'⟩
              case measure => simp [intOf]; omega
        · by_cases hx : fr < st
          · by_cases hy : st + p.n < to
            · go_wp2_with fail
              refine (spec_l2Add a2 n2 cap2 lk ⟨p.a, p.f, (st + p.n) - st⟩ _ (hr2.sl.alloc _) (by omega) hr2.arg).mono ?_
              rintro e w3 ⟨⟨a3, n3, cap3, rfl, hr3⟩, hB3⟩
              have hal := addL_res hr3.sl.len hr2.sl.len
              obtain ⟨_, _, _, hB3', _⟩ := box3 hB3
              have y2 := bcell hB3' c2
              have hfin : Hid (joinL lk (slp fr to st (p :: l.drop (k + 1))) = joinL (addL lk ⟨p.a, p.f, (st + p.n) - st⟩) (slp fr to (st + p.n) (l.drop (k + 1)))) := slj_ext hxy hpa (by omega) (by omega)
              clear hxy
              go_wp2
              go_roundw
              case rel => exact ⟨k + 1, st + p.n, a3, n3, cap3, _, by omega, by go_num, by go_num, by omega, by omega, rfl, by omega, hr3.mono (by simp; omega), by show _ = _; rw [hI.out, hd.out]; exact hfin.out, chain hB hB3'⟩
              case measure => simp [intOf]; omega
            · go_wp2_with fail
              refine (spec_l2Add a2 n2 cap2 lk ⟨p.a, p.f, to - st⟩ _ (hr2.sl.alloc _) (by omega) hr2.arg).mono ?_
              rintro e w3 ⟨⟨a3, n3, cap3, rfl, hr3⟩, hB3⟩
              have hal := addL_res hr3.sl.len hr2.sl.len
              obtain ⟨_, _, _, hB3', _⟩ := box3 hB3
              have y2 := bcell hB3' c2
              have hfin : Hid (joinL lk (slp fr to st (p :: l.drop (k + 1))) = joinL (addL lk ⟨p.a, p.f, to - st⟩) (slp fr to (st + p.n) (l.drop (k + 1)))) := slj_ext hxy hpa (by omega) (by omega)
              clear hxy
              go_wp2
              go_roundw
              case rel => exact ⟨k + 1, st + p.n, a3, n3, cap3, _, by omega, by go_num, by go_num, by omega, by omega, rfl, by omega, hr3.mono (by simp; omega), by show _ = _; rw [hI.out, hd.out]; exact hfin.out, chain hB hB3'⟩
              case measure => simp [intOf]; omega
          · by_cases hy : st + p.n < to
            · go_wp2_with fail
              refine (spec_l2Add a2 n2 cap2 lk ⟨p.a, p.f + fr - st, (st + p.n) - fr⟩ _ (hr2.sl.alloc _) (by omega) hr2.arg).mono ?_
              rintro e w3 ⟨⟨a3, n3, cap3, rfl, hr3⟩, hB3⟩
              have hal := addL_res hr3.sl.len hr2.sl.len
              obtain ⟨_, _, _, hB3', _⟩ := box3 hB3
              have y2 := bcell hB3' c2
              have hfin : Hid (joinL lk (slp fr to st (p :: l.drop (k + 1))) = joinL (addL lk ⟨p.a, p.f + fr - st, (st + p.n) - fr⟩) (slp fr to (st + p.n) (l.drop (k + 1)))) := slj_ext hxy hpa (by omega) (by omega)
              clear hxy
              go_wp2
              go_roundw
              case rel => exact ⟨k + 1, st + p.n, a3, n3, cap3, _, by omega, by go_num, by go_num, by omega, by omega, rfl, by omega, hr3.mono (by simp; omega), by show _ = _; rw [hI.out, hd.out]; exact hfin.out, chain hB hB3'⟩
              case measure => simp [intOf]; omega
            · go_wp2_with fail
              refine (spec_l2Add a2 n2 cap2 lk ⟨p.a, p.f + fr - st, to - fr⟩ _ (hr2.sl.alloc _) (by omega) hr2.arg).mono ?_
              rintro e w3 ⟨⟨a3, n3, cap3, rfl, hr3⟩, hB3⟩
              have hal := addL_res hr3.sl.len hr2.sl.len
              obtain ⟨_, _, _, hB3', _⟩ := box3 hB3
              have y2 := bcell hB3' c2
              have hfin : Hid (joinL lk (slp fr to st (p :: l.drop (k + 1))) = joinL (addL lk ⟨p.a, p.f + fr - st, to - fr⟩) (slp fr to (st + p.n) (l.drop (k + 1)))) := slj_ext hxy hpa (by omega) (by omega)
              clear hxy
              go_wp2
              go_roundw
              case rel => exact ⟨k + 1, st + p.n, a3, n3, cap3, _, by omega, by go_num, by go_num, by omega, by omega, rfl, by omega, hr3.mono (by simp; omega), by show _ = _; rw [hI.out, hd.out]; exact hfin.out, chain hB hB3'⟩
              case measure => simp [intOf]; omega
      · by_cases hx : fr < st
        all_goals by_cases hy : st + p.n < to
        all_goals try (exfalso; omega)
        all_goals
          go_wp2
          go_roundw
          case rel => exact ⟨k + 1, st + p.n, a2, n2, cap2, lk, by omega, by go_num, by go_num, by omega, by omega, rfl, by omega, hr2, by show _ = _; rw [hI.out, hd.out, slp_no hxy], hB⟩
          case measure => simp [intOf]; omega
    · obtain rfl : k = n := by omega
      go_wp2
      go_returns
      go_light
      rw [List.drop_of_length_le (Nat.le_of_eq hlen.out)] at hI
      rw [hI.out]
      exact ⟨⟨a2, n2, cap2, rfl, hn2, hr2⟩, hB⟩
end Go.Proofs.YtnjefbkhibfgmaaGreat
namespace Go.Proofs.YtnjefbkhibfgmaaGreat
open Go.RowKit Go.BigFrame
theorem holes_of {l : List Pt} (h : partsOkB l = true) : Holes l := by
  intro p hp
  refine ⟨pos_of h p hp, ?_⟩
  have hk := (partsOkB_all h).2.1 p hp
  unfold partOkB at hk
  split at hk
  · rename_i ha
    simp at ha hk
    exact .inl ⟨ha, hk.1⟩
  · simp at hk
    exact .inr (by omega)
end Go.Proofs.YtnjefbkhibfgmaaGreat
namespace Go.Proofs.YtnjefbkhibfgmaaGreat
open Go.RowKit Go.BigFrame
/-- The row that a slice of the call's own lies in. -/
def rowB : Option Addr → Option Nat
  | none => none
  | some ad => some ad.block
theorem SlAt.grownO {α : Type} {cs : α → List Value} {sz : Nat} {w w' : World} {a : Option Addr} {n : Nat} {l : List α} {row : Option Nat} (h : SlAt cs sz w a n l) (hg : w.grownBy w' row) (hr : ∀ ad, a = some ad → some ad.block ≠ row) : SlAt cs sz w' a n l :=
  ⟨h.len, fun i x hx => by
    obtain ⟨b, o, ha, hc⟩ := h.cell i x hx
    exact ⟨b, o, ha, fun j v hv => hg.cell (hc j v hv) (hr ⟨b, o, none⟩ ha)⟩⟩
theorem below_grownO {w w1 w' : World} {row : Option Nat} (hb : Below w.heap.size w w1) (hg : w1.grownBy w' row) (hn : ∀ k, row = some k → w.heap.size ≤ k) : Below w.heap.size w w' := hb.grown hg hb.size hn
theorem rowB_ge {a : Option Addr} {B : Nat} (h : ∀ ad, a = some ad → B ≤ ad.block) : ∀ k, rowB a = some k → B ≤ k := by
  intro k hk
  cases a with
  | none => cases hk
  | some ad => have := h ad rfl; simp [rowB] at hk; omega
end Go.Proofs.YtnjefbkhibfgmaaGreat
namespace Go.Proofs.YtnjefbkhibfgmaaGreat
open Go.RowKit Go.BigFrame
theorem ics_one : ∀ (l : List Int), ∀ u ∈ l.flatMap ics, u.oneCell' = true := by
  intro l u hu
  obtain ⟨x, _, hx⟩ := List.mem_flatMap.1 hu
  simp at hx
  subst hx
  rfl
theorem sl_newI' (w : World) (x : Int) (t : TypeId) (b : Nat) (hb : b = w.heap.size) : SlAt ics 1 (w.alloc (.cells #[.int .i64 x] t)) (some ⟨b, 0, none⟩) 1 [x] := by
  subst hb
  refine ⟨rfl, fun i y hy => ⟨w.heap.size, 0, rfl, fun j v hv => ?_⟩⟩
  have hi : i = 0 := by have := (List.getElem?_eq_some_iff.1 hy).1; simp at this; exact this
  subst hi
  simp at hy
  subst hy
  match j, hv with
  | 0, hv => obtain rfl := Option.some.inj hv; simp
  | j + 1, hv => simp at hv
theorem own_ne' {a : Option Addr} {n cap x B : Nat} (h : ∀ ad, a = some ad → B ≤ ad.block) (hx : x < B) : some x ≠ Value.ownBlock (.slice a n cap) := by
  cases a with
  | none => simp [Value.ownBlock]
  | some ad => have := h ad rfl; simp [Value.ownBlock]; omega
/-- All gaps, those of nought too. -/
def gl (size : Int) : Int → List Ex → List Int
  | next, [] => [size + 1 - next]
  | next, e :: r => (e.a - next) :: gl size (e.a + e.d.size) r
/-- How long the gaps ahead of the first k extents are, and the byte behind these. -/
def glA (size : Int) (l : List Ex) : Nat → List Int × Int
  | 0 => ([], 1)
  | k + 1 => match l[k]? with
    | none => glA size l k
    | some e => ((glA size l k).1 ++ [e.a - (glA size l k).2], e.a + e.d.size)
theorem glA_succ {size : Int} {l : List Ex} {k : Nat} {p : Ex} (h : l[k]? = some p) : glA size l (k + 1) = ((glA size l k).1 ++ [p.a - (glA size l k).2], p.a + p.d.size) := by simp [glA, h]
theorem glA_gl {size : Int} {l : List Ex} : ∀ k, k ≤ l.length → gl size 1 l = (glA size l k).1 ++ gl size (glA size l k).2 (l.drop k)
  | 0, _ => by simp [glA]
  | k + 1, h => by
    have hk : l[k]? = some l[k] := by simp [show k < l.length by omega]
    rw [glA_gl k (by omega), drop_at hk, glA_succ hk]
    simp [gl]
theorem glA_len {size : Int} {l : List Ex} : ∀ k, k ≤ l.length → (glA size l k).1.length = k
  | 0, _ => rfl
  | k + 1, h => by
    have hk : l[k]? = some l[k] := by simp [show k < l.length by omega]
    rw [glA_succ hk]
    simp [glA_len (size := size) (l := l) k (by omega)]
theorem glA_bd {size : Int} {l : List Ex} (hs : size ≤ 400) : ∀ k, k ≤ l.length → xgo size 1 l = true → 1 ≤ (glA size l k).2 ∧ (glA size l k).2 ≤ 421 ∧ xgo size (glA size l k).2 (l.drop k) = true
  | 0, _, h => ⟨by simp [glA], by simp [glA], by simpa [glA] using h⟩
  | k + 1, hk', h => by
    have hk : l[k]? = some l[k] := by simp [show k < l.length by omega]
    obtain ⟨q1, q2, q3⟩ := glA_bd hs k (by omega) h
    rw [drop_at hk] at q3
    simp only [xgo, Bool.and_eq_true, decide_eq_true_eq] at q3
    obtain ⟨⟨⟨h1, h2⟩, h3⟩, h4⟩ := q3
    have h20 : l[k].d.size ≤ 20 := by simp [dataOkB] at h1; omega
    rw [glA_succ hk]
    exact ⟨by simp; omega, by simp; omega, h4⟩
set_option maxHeartbeats 2000000 in
set_option maxRecDepth 100000 in
theorem spec_l1Gaps (size : Int) (a : Option Addr) (n cap : Nat) (l : List Ex) (w : World) (h : ExsAt w a n l) (hn : n ≤ 60) (hs1 : 1 ≤ size) (hs2 : size ≤ 400) (hx : xgo size 1 l = true) :
    Calls Tryz.prog 132 #[.int .i64 size, .slice a n cap] w fun e w' => (∃ a' n' cap', e = .returned (.slice a' n' cap') ∧ ResAt ics 1 2 w' w.heap.size a' n' cap' (gl size 1 l)) ∧ Below w.heap.size w w' := by
  have hlen : Hid (l.length = n) := h.len
  obtain ⟨i0, hi, hz0, hz1, hz2⟩ := info_parts infoI
  go_enter Tryz.func132, Tryz.ntmps132
  go_wp2_with fail
  go_loopw [5, 6, 7] (fun out nx ix wr => ∃ (k : Nat) (a2 : Option Addr) (n2 cap2 : Nat), k ≤ n ∧ ix = .int .i64 k ∧ nx = .int .i64 (glA size l k).2 ∧ out = .slice a2 n2 cap2 ∧ n2 = k ∧ ResAt ics 1 2 wr w.heap.size a2 n2 cap2 (glA size l k).1 ∧ Below w.heap.size w wr) (fun _ _ ix _ => n - (intOf ix).toNat)
  case atStart => exact ⟨0, _, 0, 0, Nat.zero_le _, rfl, rfl, rfl, rfl, res_empty (Blk.new _ _ _) (Nat.le_refl _), by go_grown⟩
  case round =>
    obtain ⟨k, a2, n2, cap2, hk, rfl, rfl, rfl, rfl, R2, hB⟩ := hrel
    have hsz := hB.size
    obtain ⟨q1, q2, q3⟩ := glA_bd (k := n2) hs2 (by rw [hlen.out]; exact hk) hx
    by_cases hlt : n2 < n
    · obtain ⟨b, o, p, rfl, hp, c0, c1⟩ := exs_at (h.below hB) hlt
      have hst : Hid (glA size l (n2 + 1) = ((glA size l n2).1 ++ [p.a - (glA size l n2).2], p.a + p.d.size)) := glA_succ hp
      rw [drop_at hp] at q3
      simp only [xgo, Bool.and_eq_true, decide_eq_true_eq] at q3
      obtain ⟨⟨⟨h1, h2⟩, h3⟩, _⟩ := q3
      have h20 : p.d.size ≤ 20 := by simp [dataOkB] at h1; omega
      have hlb : b < wr.heap.size := World.block_lt_of_cell? wr _ c0
      have hbw : b < w.heap.size := by
        obtain ⟨b', o', p', hbo, _, d0, _⟩ := exs_at h hlt
        obtain ⟨rfl, rfl⟩ : b = b' ∧ o = o' := by simpa using hbo
        exact World.block_lt_of_cell? w _ d0
      clear hp h1
      generalize glA size l n2 = G at *
      obtain ⟨gk, nk⟩ := G
      simp only at *
      have hk1 : (n2 : Int) < n := by omega
      have hk2 : (0 : Int) ≤ n2 := by omega
      go_wp2_with (at_builtin; refine wpList_app rfl (fun K hK => wp_app _ _ 116 rfl w.heap.size 2 i0 (.int .i64 0) 8 Tryz.underlying116 hi hz0 hz1 hz2 rfl (by decide) ics_len ics_one a2 n2 cap2 gk rfl (R2.alloc _) _ 1 1 [p.a - nk] rfl (sl_newI' _ _ _ _ (by simp)) (fun ad h => (by cases h; rfl)) (fun h => (by cases h)) (n2 + 1) rfl (by unfold maxLen; omega) (by omega) (by simp; omega) (fun a3 cap3 w3 R3 hg3 => hK _ _ ?_)))
      have hB3 : Below w.heap.size w w3 := Below.grown (hB.alloc hsz _) hg3 (by simp; omega) (own_ge fun ad had => (R2.block ad had).1)
      have d0 := hg3.cell (acell (.cells #[.int .i64 (p.a - nk)] 2) c0) (own_ne' (fun ad had => (R2.block ad had).1) hbw)
      have d1 := hg3.cell (acell (.cells #[.int .i64 (p.a - nk)] 2) c1) (own_ne' (fun ad had => (R2.block ad had).1) hbw)
      clear c0 c1 hK
      go_wp2_with fail
      go_quiet (fail)
      have R4 := R3.below (drewNB w3 nq)
      have hB4 := chain hB3 (drewNB w3 nq)
      go_wp2
      go_roundw
      case rel => exact ⟨n2 + 1, a3, n2 + 1, cap3, by omega, by go_num, by rw [hst.out], rfl, rfl, by rw [hst.out]; exact R4, hB4⟩
      case measure => simp [intOf]; omega
    · obtain rfl : n2 = n := by omega
      have hst : Hid (gl size 1 l = (glA size l n2).1 ++ [size + 1 - (glA size l n2).2]) := by
        show _ = _
        rw [glA_gl n2 (by rw [hlen.out]; omega), List.drop_of_length_le (Nat.le_of_eq hlen.out), gl]
      clear q3
      generalize glA size l n2 = G at *
      obtain ⟨gk, nk⟩ := G
      simp only at *
      go_wp2_with (at_builtin; refine wpList_app rfl (fun K hK => wp_app _ _ 116 rfl w.heap.size 2 i0 (.int .i64 0) 8 Tryz.underlying116 hi hz0 hz1 hz2 rfl (by decide) ics_len ics_one a2 n2 cap2 gk rfl (R2.alloc _) _ 1 1 [size + 1 - nk] rfl (sl_newI' _ _ _ _ (by simp)) (fun ad h => (by cases h; rfl)) (fun h => (by cases h)) (n2 + 1) rfl (by unfold maxLen; omega) (by omega) (by simp; omega) (fun a3 cap3 w3 R3 hg3 => hK _ _ ?_)))
      have hB3 : Below w.heap.size w w3 := Below.grown (hB.alloc hsz _) hg3 (by simp; omega) (own_ge fun ad had => (R2.block ad had).1)
      go_returns
      exact ⟨⟨a3, n2 + 1, cap3, rfl, by rw [hst.out]; exact R3⟩, hB3⟩
theorem gl_len {size : Int} : ∀ {L : List Ex} {next : Int}, (gl size next L).length = L.length + 1
  | [], _ => rfl
  | e :: r, next => by simp [gl, gl_len (L := r)]
end Go.Proofs.YtnjefbkhibfgmaaGreat
