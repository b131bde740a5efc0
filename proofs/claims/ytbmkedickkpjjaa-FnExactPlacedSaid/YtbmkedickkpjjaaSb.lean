/- The model's l2Join, l2Slice, l2Laid. -/
import Derived.Test.YtbmkedickkpjjaaProg
import Derived.Test.YtbmkedickkpjjaaSa
namespace Go.Proofs.Ytbmkedickkpjjaa
open Go.RowKit Go.BigFrame

def joinL (l m : List Pt) : List Pt := m.foldl addL l

theorem addL_len (l : List Pt) (p : Pt) : (addL l p).length ≤ l.length + 1 := by
  unfold addL
  split
  · simp
  · split
    · simp only [List.length_append, List.length_dropLast, List.length_cons, List.length_nil]; omega
    · simp
theorem joinL_at {l m : List Pt} {k : Nat} {p : Pt} (h : m[k]? = some p) : joinL l (m.take (k + 1)) = addL (joinL l (m.take k)) p := by
  unfold joinL; rw [take_at h, List.foldl_append]; rfl

set_option maxHeartbeats 1000000 in
theorem spec_l2Join (a : Option Addr) (n cap : Nat) (l : List Pt) (a' : Option Addr) (n' cap' : Nat) (m : List Pt) (w : World) (h : PtsAt w a n l) (hn : n ≤ 1100000) (ha : ArgOk a cap) (h' : PtsAt w a' n' m) (hn' : n' ≤ 1100000) :
    Calls Try.prog 131 #[.slice a n cap, .slice a' n' cap'] w fun e w' => (∃ a1 n1 cap1, e = .returned (.slice a1 n1 cap1) ∧ n1 ≤ n + n' ∧ ResAt Pt.cs 3 131 w' w.heap.size a1 n1 cap1 (joinL l m)) ∧ Below w.heap.size w w' := by
  have hlen' : Hid (m.length = n') := h'.len
  obtain ⟨i0, hi, hz0, hz1, hz2⟩ := info_parts infoP
  go_enter Try.func131, Try.ntmps131
  go_wp2_with (at_builtin; refine wpList_app rfl (fun K hK => wp_app _ _ 39 rfl w.heap.size 131 i0 (.agg #[.int .i64 0, .int .i64 0, .int .i64 0]) 24 Try.underlying39 hi hz0 hz1 hz2 rfl (by decide) pcs_len pcs_one _ 0 0 [] rfl (res_empty (Blk.new' _ _ _ _ (by simp)) (by omega)) a n cap l rfl (h.below (by go_grown)) ha.spot ha.nil n (Nat.zero_add _) (by unfold maxLen; omega) (by omega) (by simp) (fun a1 cap1 w1 hr1 hg1 => hK _ _ ?_)))
  have hb1 : Below w.heap.size w w1 := Below.grown (by go_grown) hg1 (by simp) (fun k e => by simp [Value.ownBlock] at e; omega)
  simp only [List.nil_append] at hr1
  clear hg1 hi hz0 hz1 hz2
  go_loopw [5, 6] (fun out ix wr => ∃ (k : Nat) (a2 : Option Addr) (n2 cap2 : Nat), k ≤ n' ∧ ix = .int .i64 k ∧ out = .slice a2 n2 cap2 ∧ n2 ≤ n + k ∧ ResAt Pt.cs 3 131 wr w.heap.size a2 n2 cap2 (joinL l (m.take k)) ∧ Below w.heap.size w wr) (fun _ ix _ => n' - (intOf ix).toNat)
  case atStart => exact ⟨0, a1, n, cap1, Nat.zero_le _, rfl, rfl, by omega, hr1, hb1⟩
  case round =>
    obtain ⟨k, a2, n2, cap2, hk, rfl, rfl, hn2, hr2, hB⟩ := hrel
    by_cases hlt : k < n'
    · obtain ⟨b, o, p, rfl, hp, c0, c1, c2⟩ := pts_at (h'.below hB) hlt
      have hst : Hid (joinL l (m.take (k + 1)) = addL (joinL l (m.take k)) p) := joinL_at hp
      clear hp
      generalize joinL l (m.take k) = lk at *
      have hal := addL_len lk p
      rw [hr2.sl.len] at hal
      go_wp2_with fail
      refine (spec_l2Add a2 n2 cap2 lk p _ hr2.sl (by omega) hr2.arg).mono ?_
      rintro e w3 ⟨⟨a3, n3, cap3, rfl, hr3⟩, hB3⟩
      have hn3 := hr3.sl.len
      go_wp2
      go_roundw
      case rel => exact ⟨k + 1, a3, n3, cap3, by omega, by go_num, rfl, by omega, by rw [hst.out]; exact hr3.mono hB.size, chain hB hB3⟩
      case measure => simp [intOf]; omega
    · obtain rfl : k = n' := by omega
      go_wp2
      go_returns
      go_light
      rw [List.take_of_length_le (Nat.le_of_eq hlen'.out)] at hr2
      exact ⟨⟨a2, n2, cap2, rfl, hn2, hr2⟩, hB⟩

/-- Parts as right ones are: a hole begins at 0. -/
def Holes (l : List Pt) : Prop := ∀ p ∈ l, (1 ≤ p.n ∧ p.n ≤ 100 ∧ 0 ≤ p.f ∧ p.f ≤ 100) ∧ ((p.a = 0 ∧ p.f = 0) ∨ 0 < p.a)

theorem cut_hole {p : Pt} {x y : Int} (h : p.a = 0) (hf : p.f = 0) : cutP p x y = ⟨p.a, p.f, y - x⟩ := by simp [cutP, h, hf]
theorem cut_ext {p : Pt} {x y : Int} (h : 0 < p.a) : cutP p x y = ⟨p.a, p.f + x, y - x⟩ := by
  have : (p.a == 0) = false := beq_eq_false_iff_ne.2 (by omega)
  simp [cutP, this]
theorem slj_step {lk : List Pt} {fr to st x y : Int} {p : Pt} {r : List Pt} (hx : max (fr - st) 0 = x) (hy : min (to - st) p.n = y) (h : x < y) : joinL lk (slp fr to st (p :: r)) = joinL (addL lk (cutP p x y)) (slp fr to (st + p.n) r) := by
  rw [slp_yes hx hy h]; rfl

theorem slj_hole {lk : List Pt} {fr to st z : Int} {p : Pt} {r : List Pt} (h : max (fr - st) 0 < min (to - st) p.n) (ha : p.a = 0 ∧ p.f = 0) (hz : min (to - st) p.n - max (fr - st) 0 = z) : joinL lk (slp fr to st (p :: r)) = joinL (addL lk ⟨p.a, p.f, z⟩) (slp fr to (st + p.n) r) := by
  rw [slj_step rfl rfl h, cut_hole ha.1 ha.2, hz]
theorem slj_ext {lk : List Pt} {fr to st z f : Int} {p : Pt} {r : List Pt} (h : max (fr - st) 0 < min (to - st) p.n) (ha : 0 < p.a) (hf : p.f + max (fr - st) 0 = f) (hz : min (to - st) p.n - max (fr - st) 0 = z) : joinL lk (slp fr to st (p :: r)) = joinL (addL lk ⟨p.a, f, z⟩) (slp fr to (st + p.n) r) := by
  rw [slj_step rfl rfl h, cut_ext ha, hz, hf]
theorem addL_res {l : List Pt} {p : Pt} {n m : Nat} (h1 : (addL l p).length = n) (h2 : l.length = m) : n ≤ m + 1 := by
  have := addL_len l p; omega

set_option maxHeartbeats 8000000 in
set_option maxRecDepth 100000 in
theorem spec_l2Slice (a : Option Addr) (n cap : Nat) (l : List Pt) (fr to : Int) (w : World) (h : PtsAt w a n l) (hn : n ≤ 16) (hl : Holes l) (hf0 : 0 ≤ fr) (hf1 : fr ≤ 10000) (ht0 : 0 ≤ to) (ht1 : to ≤ 10000) :
    Calls Try.prog 125 #[.slice a n cap, .int .i64 fr, .int .i64 to] w fun e w' => (∃ a1 n1 cap1, e = .returned (.slice a1 n1 cap1) ∧ n1 ≤ n ∧ ResAt Pt.cs 3 131 w' w.heap.size a1 n1 cap1 (joinL [] (slp fr to 0 l))) ∧ Below w.heap.size w w' := by
  have hlen : Hid (l.length = n) := h.len
  go_enter Try.func125, Try.ntmps125
  go_wp2_with fail
  go_loopw [7, 8, 9] (fun out s ix wr => ∃ (k : Nat) (st : Int) (a2 : Option Addr) (n2 cap2 : Nat) (lk : List Pt), k ≤ n ∧ ix = .int .i64 k ∧ s = .int .i64 st ∧ 0 ≤ st ∧ st ≤ 100 * k ∧ out = .slice a2 n2 cap2 ∧ n2 ≤ k ∧ ResAt Pt.cs 3 131 wr w.heap.size a2 n2 cap2 lk ∧ Hid (joinL [] (slp fr to 0 l) = joinL lk (slp fr to st (l.drop k))) ∧ Below w.heap.size w wr) (fun _ _ ix _ => n - (intOf ix).toNat)
  case atStart => exact ⟨0, 0, _, 0, 0, [], Nat.zero_le _, rfl, rfl, by omega, by omega, rfl, by omega, res_empty (Blk.new _ _ _) (Nat.le_refl _), rfl, (Below.refl _ _).alloc (Nat.le_refl _) _⟩
  case round =>
    obtain ⟨k, st, a2, n2, cap2, lk, hk, rfl, rfl, hs0, hs1, rfl, hn2, hr2, hI, hB⟩ := hrel
    by_cases hlt : k < n
    · obtain ⟨b, o, p, rfl, hp, c0, c1, c2⟩ := pts_at (h.below hB) hlt
      have hd : Hid (l.drop k = p :: l.drop (k + 1)) := drop_at hp
      obtain ⟨⟨hp1, hp2, hp3, hp4⟩, hpa⟩ := hl p (List.mem_of_getElem? hp)
      clear hp
      have hsz := hB.size
      by_cases hxy : max (fr - st) 0 < min (to - st) p.n
      · rcases hpa with ⟨hpa, hpf⟩ | hpa
        · have hpa' : ¬ 0 < p.a := by omega
          have hHa : Hid (p.a = 0 ∧ p.f = 0) := ⟨hpa, hpf⟩
          clear hpa hpf
          by_cases hx : fr < st
          · by_cases hy : st + p.n < to
            · go_wp2_with fail
              refine (spec_l2Add a2 n2 cap2 lk ⟨p.a, p.f, (st + p.n) - st⟩ _ (hr2.sl.alloc _) (by omega) hr2.arg).mono ?_
              rintro e w3 ⟨⟨a3, n3, cap3, rfl, hr3⟩, hB3⟩
              have hal := addL_res hr3.sl.len hr2.sl.len
              obtain ⟨_, _, _, hB3', _⟩ := box3 hB3
              have y2 := bcell hB3' c2
              have hfin : Hid (joinL lk (slp fr to st (p :: l.drop (k + 1))) = joinL (addL lk ⟨p.a, p.f, (st + p.n) - st⟩) (slp fr to (st + p.n) (l.drop (k + 1)))) := slj_hole hxy hHa.out (by omega)
              clear hxy
              go_wp2
              go_roundw
              case rel => exact ⟨k + 1, st + p.n, a3, n3, cap3, _, by omega, by go_num, by go_num, by omega, by omega, rfl, by omega, hr3.mono (by simp; omega), by show _ = _; rw [hI.out, hd.out]; exact hfin.out, chain hB hB3'⟩
              case measure => simp [intOf]; omega
            · go_wp2_with fail
              refine (spec_l2Add a2 n2 cap2 lk ⟨p.a, p.f, to - st⟩ _ (hr2.sl.alloc _) (by omega) hr2.arg).mono ?_
              rintro e w3 ⟨⟨a3, n3, cap3, rfl, hr3⟩, hB3⟩
              have hal := addL_res hr3.sl.len hr2.sl.len
              obtain ⟨_, _, _, hB3', _⟩ := box3 hB3
              have y2 := bcell hB3' c2
              have hfin : Hid (joinL lk (slp fr to st (p :: l.drop (k + 1))) = joinL (addL lk ⟨p.a, p.f, to - st⟩) (slp fr to (st + p.n) (l.drop (k + 1)))) := slj_hole hxy hHa.out (by omega)
              clear hxy
              go_wp2
              go_roundw
              case rel => exact ⟨k + 1, st + p.n, a3, n3, cap3, _, by omega, by go_num, by go_num, by omega, by omega, rfl, by omega, hr3.mono (by simp; omega), by show _ = _; rw [hI.out, hd.out]; exact hfin.out, chain hB hB3'⟩
              case measure => simp [intOf]; omega
          · by_cases hy : st + p.n < to
            · go_wp2_with fail
              refine (spec_l2Add a2 n2 cap2 lk ⟨p.a, p.f, (st + p.n) - fr⟩ _ (hr2.sl.alloc _) (by omega) hr2.arg).mono ?_
              rintro e w3 ⟨⟨a3, n3, cap3, rfl, hr3⟩, hB3⟩
              have hal := addL_res hr3.sl.len hr2.sl.len
              obtain ⟨_, _, _, hB3', _⟩ := box3 hB3
              have y2 := bcell hB3' c2
              have hfin : Hid (joinL lk (slp fr to st (p :: l.drop (k + 1))) = joinL (addL lk ⟨p.a, p.f, (st + p.n) - fr⟩) (slp fr to (st + p.n) (l.drop (k + 1)))) := slj_hole hxy hHa.out (by omega)
              clear hxy
              go_wp2
              go_roundw
              case rel => exact ⟨k + 1, st + p.n, a3, n3, cap3, _, by omega, by go_num, by go_num, by omega, by omega, rfl, by omega, hr3.mono (by simp; omega), by show _ = _; rw [hI.out, hd.out]; exact hfin.out, chain hB hB3'⟩
              case measure => simp [intOf]; omega
            · go_wp2_with fail
              refine (spec_l2Add a2 n2 cap2 lk ⟨p.a, p.f, to - fr⟩ _ (hr2.sl.alloc _) (by omega) hr2.arg).mono ?_
              rintro e w3 ⟨⟨a3, n3, cap3, rfl, hr3⟩, hB3⟩
              have hal := addL_res hr3.sl.len hr2.sl.len
              obtain ⟨_, _, _, hB3', _⟩ := box3 hB3
              have y2 := bcell hB3' c2
              have hfin : Hid (joinL lk (slp fr to st (p :: l.drop (k + 1))) = joinL (addL lk ⟨p.a, p.f, to - fr⟩) (slp fr to (st + p.n) (l.drop (k + 1)))) := slj_hole hxy hHa.out (by omega)
              clear hxy
              go_wp2
              go_roundw
              case rel => exact ⟨k + 1, st + p.n, a3, n3, cap3, _, by omega, by go_num, by go_num, by omega, by omega, rfl, by omega, hr3.mono (by simp; omega), by show _ = _; rw [hI.out, hd.out]; exact hfin.out, chain hB hB3'⟩
              case measure => simp [intOf]; omega
        · by_cases hx : fr < st
          · by_cases hy : st + p.n < to
            · go_wp2_with fail
              refine (spec_l2Add a2 n2 cap2 lk ⟨p.a, p.f, (st + p.n) - st⟩ _ (hr2.sl.alloc _) (by omega) hr2.arg).mono ?_
              rintro e w3 ⟨⟨a3, n3, cap3, rfl, hr3⟩, hB3⟩
              have hal := addL_res hr3.sl.len hr2.sl.len
              obtain ⟨_, _, _, hB3', _⟩ := box3 hB3
              have y2 := bcell hB3' c2
              have hfin : Hid (joinL lk (slp fr to st (p :: l.drop (k + 1))) = joinL (addL lk ⟨p.a, p.f, (st + p.n) - st⟩) (slp fr to (st + p.n) (l.drop (k + 1)))) := slj_ext hxy hpa (by omega) (by omega)
              clear hxy
              go_wp2
              go_roundw
              case rel => exact ⟨k + 1, st + p.n, a3, n3, cap3, _, by omega, by go_num, by go_num, by omega, by omega, rfl, by omega, hr3.mono (by simp; omega), by show _ = _; rw [hI.out, hd.out]; exact hfin.out, chain hB hB3'⟩
              case measure => simp [intOf]; omega
            · go_wp2_with fail
              refine (spec_l2Add a2 n2 cap2 lk ⟨p.a, p.f, to - st⟩ _ (hr2.sl.alloc _) (by omega) hr2.arg).mono ?_
              rintro e w3 ⟨⟨a3, n3, cap3, rfl, hr3⟩, hB3⟩
              have hal := addL_res hr3.sl.len hr2.sl.len
              obtain ⟨_, _, _, hB3', _⟩ := box3 hB3
              have y2 := bcell hB3' c2
              have hfin : Hid (joinL lk (slp fr to st (p :: l.drop (k + 1))) = joinL (addL lk ⟨p.a, p.f, to - st⟩) (slp fr to (st + p.n) (l.drop (k + 1)))) := slj_ext hxy hpa (by omega) (by omega)
              clear hxy
              go_wp2
              go_roundw
              case rel => exact ⟨k + 1, st + p.n, a3, n3, cap3, _, by omega, by go_num, by go_num, by omega, by omega, rfl, by omega, hr3.mono (by simp; omega), by show _ = _; rw [hI.out, hd.out]; exact hfin.out, chain hB hB3'⟩
              case measure => simp [intOf]; omega
          · by_cases hy : st + p.n < to
            · go_wp2_with fail
              refine (spec_l2Add a2 n2 cap2 lk ⟨p.a, p.f + fr - st, (st + p.n) - fr⟩ _ (hr2.sl.alloc _) (by omega) hr2.arg).mono ?_
              rintro e w3 ⟨⟨a3, n3, cap3, rfl, hr3⟩, hB3⟩
              have hal := addL_res hr3.sl.len hr2.sl.len
              obtain ⟨_, _, _, hB3', _⟩ := box3 hB3
              have y2 := bcell hB3' c2
              have hfin : Hid (joinL lk (slp fr to st (p :: l.drop (k + 1))) = joinL (addL lk ⟨p.a, p.f + fr - st, (st + p.n) - fr⟩) (slp fr to (st + p.n) (l.drop (k + 1)))) := slj_ext hxy hpa (by omega) (by omega)
              clear hxy
              go_wp2
              go_roundw
              case rel => exact ⟨k + 1, st + p.n, a3, n3, cap3, _, by omega, by go_num, by go_num, by omega, by omega, rfl, by omega, hr3.mono (by simp; omega), by show _ = _; rw [hI.out, hd.out]; exact hfin.out, chain hB hB3'⟩
              case measure => simp [intOf]; omega
            · go_wp2_with fail
              refine (spec_l2Add a2 n2 cap2 lk ⟨p.a, p.f + fr - st, to - fr⟩ _ (hr2.sl.alloc _) (by omega) hr2.arg).mono ?_
              rintro e w3 ⟨⟨a3, n3, cap3, rfl, hr3⟩, hB3⟩
              have hal := addL_res hr3.sl.len hr2.sl.len
              obtain ⟨_, _, _, hB3', _⟩ := box3 hB3
              have y2 := bcell hB3' c2
              have hfin : Hid (joinL lk (slp fr to st (p :: l.drop (k + 1))) = joinL (addL lk ⟨p.a, p.f + fr - st, to - fr⟩) (slp fr to (st + p.n) (l.drop (k + 1)))) := slj_ext hxy hpa (by omega) (by omega)
              clear hxy
              go_wp2
              go_roundw
              case rel => exact ⟨k + 1, st + p.n, a3, n3, cap3, _, by omega, by go_num, by go_num, by omega, by omega, rfl, by omega, hr3.mono (by simp; omega), by show _ = _; rw [hI.out, hd.out]; exact hfin.out, chain hB hB3'⟩
              case measure => simp [intOf]; omega
      · by_cases hx : fr < st
        all_goals by_cases hy : st + p.n < to
        all_goals try (exfalso; omega)
        all_goals
          go_wp2
          go_roundw
          case rel => exact ⟨k + 1, st + p.n, a2, n2, cap2, lk, by omega, by go_num, by go_num, by omega, by omega, rfl, by omega, hr2, by show _ = _; rw [hI.out, hd.out, slp_no hxy], hB⟩
          case measure => simp [intOf]; omega
    · obtain rfl : k = n := by omega
      go_wp2
      go_returns
      go_light
      rw [List.drop_of_length_le (Nat.le_of_eq hlen.out)] at hI
      rw [hI.out]
      exact ⟨⟨a2, n2, cap2, rfl, hn2, hr2⟩, hB⟩
end Go.Proofs.Ytbmkedickkpjjaa
