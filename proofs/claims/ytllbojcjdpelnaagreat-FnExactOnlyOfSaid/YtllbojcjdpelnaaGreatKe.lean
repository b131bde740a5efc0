/- The lengths of parts, of the program and of the model; the model's PartsOk. Lengths; the laws' copies and comparisons of lists of parts. Content of the model. -/
import Derived.Test.YtllbojcjdpelnaaGreatProg
import Derived.Test.YtllbojcjdpelnaaGreatKb
import Derived.Test.YtllbojcjdpelnaaGreatKd
namespace Go.Proofs.YtllbojcjdpelnaaGreat
open Go.RowKit Go.BigFrame

set_option maxHeartbeats 1000000 in
theorem spec_PartsOk (a : Option Addr) (n cap : Nat) (l : List Pt) (w : World) (h : PtsAt w a n l) (hn : n ≤ 4194304) :
    Calls Tryz.prog 88 #[.slice a n cap] w fun e w' => e = .returned (.bool (partsOkB l)) ∧ Below w.heap.size w w' := by
  have hlen := h.len
  by_cases h16 : n ≤ 16
  · have hfin : Hid (partsOkB l = sgo none 0 l) := by show _ = _; rw [sgo_pgo l none 0 (by omega) (by omega)]; simp [partsOkB, hlen, h16]
    have hlen' : Hid (l.length = n) := hlen
    clear hlen
    go_enter Tryz.func88, Tryz.ntmps88
    go_wp2_with fail
    go_loopw [2, 3, 4] (fun r s ix wr => ∃ (k : Nat) (lf : Int), k ≤ n ∧ ix = .int .i64 k ∧ s = .int .i64 lf ∧ 0 ≤ lf ∧ lf ≤ 100 * k ∧ Hid (sgo none 0 l = sgo (ahead l k) lf (l.drop k)) ∧ Below w.heap.size w wr) (fun _ _ ix _ => n - (intOf ix).toNat)
    case atStart => exact ⟨0, 0, Nat.zero_le _, rfl, rfl, by omega, by omega, rfl, Below.refl _ _⟩
    case round =>
      obtain ⟨k, lf, hk, rfl, rfl, hf0, hf1, hI, hB⟩ := hrel
      by_cases hlt : k < n
      · obtain ⟨b, o, p, rfl, hp, c0, c1, c2⟩ := pts_at (h.below hB) hlt
        have hd : Hid (l.drop k = p :: l.drop (k + 1)) := drop_at hp
        have hq : Hid (l[k]? = some p) := hp
        clear hp
        have hk1 : (k : Int) < n := by omega
        have hk2 : (0 : Int) ≤ k := by omega
        cases hpo : (partOkB p && decide (p.n ≤ 100))
        · go_wp2_with fail
          have g0 := gcell c0
          have g1 := gcell c1
          have g2 := gcell c2
          have hne := grw_ne wr
          refine wp_region_grow (by kernel_rfl) (by kernel_rfl) ?_
          repeat (go_big_quiet_step (first | (go_at_call 112; have qq := spec_l2PartOk p; rw [hpo] at qq; exact grow_of (qq _))))
          refine wpQuiet_nil ?_
          intro w2 hx
          have hB2 := grw_out hx
          clear hx
          go_wp2
          go_returns
          go_light
          refine ⟨ret_bool ?_, chain hB hB2⟩
          rw [hfin.out, hI.out, hd.out]; cases ahead l k <;> simp only [sgo, hpo, Bool.false_and]
        · have hpn : 1 ≤ p.n ∧ p.n ≤ 100 := by simp at hpo; exact ⟨partOkB_pos hpo.1, hpo.2⟩
          rcases k with _ | j
          · simp only [Nat.zero_mul, Nat.add_zero] at c0 c1 c2
            go_wp2_with fail
            have g0 := gcell c0
            have g1 := gcell c1
            have g2 := gcell c2
            have hne := grw_ne wr
            refine wp_region_grow (by kernel_rfl) (by kernel_rfl) ?_
            repeat (go_big_quiet_step (first | (go_at_call 112; have qq := spec_l2PartOk p; rw [hpo] at qq; exact grow_of (qq _))))
            refine wpQuiet_nil ?_
            intro w2 hx
            have hB2 := grw_out hx
            have d2 := bcell hB2 c2
            clear hx
            go_wp2
            go_roundw
            case rel => exact ⟨1, lf + p.n, by omega, by go_num, by go_num, by omega, by omega, by show _ = _; rw [hI.out, hd.out, ahead_zero, ahead_succ, hq.out]; simp only [sgo, hpo, Bool.true_and], chain hB hB2⟩
            case measure => simp [intOf]; omega
          · obtain ⟨b', o', q, hbo, hq', d0, d1, d2⟩ := pts_at (h.below hB) (k := j) (by omega)
            obtain ⟨rfl, rfl⟩ : b = b' ∧ o = o' := by simpa using hbo
            have ha : Hid (ahead l (j + 1) = some q) := by show _ = _; rw [ahead_succ]; exact hq'
            clear hq' hbo
            cases hgo : goesOnB q p
            all_goals
              go_wp2_with fail
              have g0 := gcell c0
              have g1 := gcell c1
              have g2 := gcell c2
              have g3 := gcell d0
              have g4 := gcell d1
              have g5 := gcell d2
              have hne := grw_ne wr
              refine wp_region_grow (by kernel_rfl) (by kernel_rfl) ?_
              repeat (go_big_quiet_step (first | (go_at_call 112; have qq := spec_l2PartOk p; rw [hpo] at qq; exact grow_of (qq _)) | (go_at_call 113; have qq := spec_l2Next q p; rw [hgo] at qq; exact grow_of (qq _))))
              refine wpQuiet_nil ?_
              intro w2 hx
              have hB2 := grw_out hx
              have e2 := bcell hB2 c2
              clear hx
              go_wp2
            · go_roundw
              case rel => exact ⟨j + 2, lf + p.n, by omega, by go_num, by go_num, by omega, by omega, by show _ = _; rw [hI.out, hd.out, ha.out, ahead_succ, hq.out]; simp only [sgo, hpo, hgo, Bool.true_and, Bool.not_false], chain hB hB2⟩
              case measure => simp [intOf]; omega
            · go_returns
              go_light
              refine ⟨ret_bool ?_, chain hB hB2⟩
              rw [hfin.out, hI.out, hd.out, ha.out]; simp only [sgo, hpo, hgo, Bool.true_and, Bool.not_true, Bool.false_and]
      · obtain rfl : k = n := by omega
        go_wp2
        go_returns
        go_light
        refine ⟨ret_bool ?_, hB⟩
        rw [hfin.out, hI.out, List.drop_of_length_le (Nat.le_of_eq hlen'.out)]; cases ahead l k <;> rfl
  · go_enter Tryz.func88, Tryz.ntmps88
    go_wp2
    go_returns
    go_light
    refine ⟨ret_bool ?_, Below.refl _ _⟩
    simp [partsOkB, hlen]; omega
end Go.Proofs.YtllbojcjdpelnaaGreat
namespace Go.Proofs.YtllbojcjdpelnaaGreat
open Go.RowKit Go.BigFrame

theorem spec_l2Len (a : Option Addr) (n cap : Nat) (l : List Pt) (w : World) (h : PtsAt w a n l) (hn : n ≤ 4194304) (hs : ∀ k, 0 ≤ sumN (l.take k) ∧ sumN (l.take k) ≤ 100) :
    Calls Tryz.prog 62 #[.slice a n cap] w fun e w' => e = .returned (.int .i64 (sumN l)) ∧ w' = w := by
  have hlen' : Hid (l.length = n) := h.len
  go_enter Tryz.func62, Tryz.ntmps62
  go_wp2_with fail
  go_loop [3, 4] (fun s ix => ∃ (k : Nat), k ≤ n ∧ ix = .int .i64 k ∧ s = .int .i64 (sumN (l.take k))) (fun _ ix => n - (intOf ix).toNat)
  case atStart => exact ⟨0, Nat.zero_le _, rfl, rfl⟩
  case round =>
    obtain ⟨k, hk, rfl, rfl⟩ := hrel
    have hs1 := hs k
    have hs2 := hs (k + 1)
    by_cases hlt : k < n
    · obtain ⟨b, o, p, rfl, hp, c0, c1, c2⟩ := pts_at h hlt
      have hst : Hid (sumN (l.take (k + 1)) = sumN (l.take k) + p.n) := sumN_take hp
      have hsb : 0 ≤ sumN (l.take k) + p.n ∧ sumN (l.take k) + p.n ≤ 100 := by rw [← hst.out]; exact hs2
      clear hp hs2
      generalize sumN (l.take k) = s at *
      go_wp2
      go_round
      case rel => exact ⟨k + 1, by omega, by go_num, by rw [hst.out]⟩
      case measure => simp [intOf]; omega
    · obtain rfl : k = n := by omega
      go_wp2
      go_returns
      go_light
      refine ⟨ret_int ?_, rfl⟩
      rw [List.take_of_length_le (Nat.le_of_eq hlen'.out)]

theorem sums_of {l : List Pt} (h : partsOkB l = true) : ∀ k, 0 ≤ sumN (l.take k) ∧ sumN (l.take k) ≤ 100 := by
  intro k
  obtain ⟨_, h1, h2⟩ := partsOkB_all h
  have := sumN_take_bd h1 k
  omega

/-- LenOf, as a plain function. -/
def lenB (l : List Pt) : Int := if partsOkB l = true then sumN l else -1

theorem impl_LenOf (a : Option Addr) (n cap : Nat) (l : List Pt) (w : World) (h : PtsAt w a n l) (hn : n ≤ 4194304) :
    Calls Tryz.prog 67 #[.slice a n cap] w fun e w' => e = .returned (.int .i64 (lenB l)) ∧ Below w.heap.size w w' := by
  cases hok : partsOkB l
  · have hf : Hid (lenB l = -1) := by show _ = _; simp [lenB, hok]
    go_enter Tryz.func67, Tryz.ntmps67
    go_wp2_with fail
    refine (impl_PartsOk a n cap l _ h hn).mono ?_
    rintro e w1 ⟨rfl, hB1⟩
    rw [hok]
    go_wp2
    go_returns
    go_light
    exact ⟨ret_int hf.out.symm, hB1⟩
  · have hf : Hid (lenB l = sumN l) := by show _ = _; simp [lenB, hok]
    have hs : Hid (∀ k, 0 ≤ sumN (l.take k) ∧ sumN (l.take k) ≤ 100) := sums_of hok
    have hlen' : Hid (l.length = n) := h.len
    go_enter Tryz.func67, Tryz.ntmps67
    go_wp2_with fail
    refine (impl_PartsOk a n cap l _ h hn).mono ?_
    rintro e w1 ⟨rfl, hB1⟩
    rw [hok]
    go_wp2_with fail
    go_loopw [3, 11] (fun s ix wr => ∃ (k : Nat), k ≤ n ∧ ix = .int .i64 k ∧ s = .int .i64 (sumN (l.take k)) ∧ Below w.heap.size w wr) (fun _ ix _ => n - (intOf ix).toNat)
    case atStart => exact ⟨0, Nat.zero_le _, rfl, rfl, hB1⟩
    case round =>
      obtain ⟨k, hk, rfl, rfl, hB⟩ := hrel
      have hs1 := hs.out k
      have hs2 := hs.out (k + 1)
      by_cases hlt : k < n
      · obtain ⟨b, o, p, rfl, hp, c0, c1, c2⟩ := pts_at (h.below hB) hlt
        have hst : Hid (sumN (l.take (k + 1)) = sumN (l.take k) + p.n) := sumN_take hp
        have hsb : 0 ≤ sumN (l.take k) + p.n ∧ sumN (l.take k) + p.n ≤ 100 := by rw [← hst.out]; exact hs2
        clear hp hs2
        generalize sumN (l.take k) = s at *
        go_wp2
        go_roundw
        case rel => exact ⟨k + 1, by omega, by go_num, by rw [hst.out], by have := hB.size; go_grown⟩
        case measure => simp [intOf]; omega
      · obtain rfl : k = n := by omega
        go_wp2
        go_returns
        go_light
        refine ⟨ret_int ?_, hB⟩
        rw [List.take_of_length_le (Nat.le_of_eq hlen'.out), hf.out]

theorem laws_toPartS (a : Option Addr) (n cap : Nat) (l : List Pt) (w : World) (h : PtsAt w a n l) (hn : n ≤ 4194304) :
    Calls Tryz.prog 130 #[.slice a n cap] w fun e w' => e = .returned (.slice (some ⟨w.heap.size, 0, none⟩) n n) ∧ OwnAt Pt.cs 3 113 w' w.heap.size n l ∧ Below w.heap.size w w' := by
  have hlen' : Hid (l.length = n) := h.len
  have hinfo : (Tryz.prog.info? 113).map (fun i => (i.zero, i.size, i.bytes)) = some (some (.agg #[.int .i64 0, .int .i64 0, .int .i64 0]), 3, 24) := by kernel_rfl
  obtain ⟨i0, hi, hz0, hz1, hz2⟩ := info_parts hinfo
  have hmk : ∀ u : World, (Instr.makeSlice 88 (.int .i64 (n : Int)) (.int .i64 (n : Int))).run Tryz.prog u =
      .ok (.slice (some ⟨u.heap.size, 0, none⟩) n n) (u.alloc (.cells (madeCells #[.int .i64 0, .int .i64 0, .int .i64 0] (n * 3)) 113)) := fun u => by
    have hm := run_make (P := Tryz.prog) u 88 113 i0 (.agg #[.int .i64 0, .int .i64 0, .int .i64 0]) Tryz.underlying88 hi hz0 .i64 .i64 (n : Int) (n : Int) (by omega) (Int.le_refl _) (by rw [hz2]; omega) (by omega)
    simpa [hz1, Value.cells] using hm
  clear hinfo hi hz0 hz1 hz2
  go_enter Tryz.func130, Tryz.ntmps130
  go_wp2_with fail
  go_loopw [4] (fun ix wr => ∃ (k : Nat) (c : Array Value), k ≤ n ∧ ix = .int .i64 k ∧ Blk wr w.heap.size c 113 ∧ Hid (c.size = n * 3) ∧ Hid (∀ i p, i < k → l[i]? = some p → c[i * 3]? = some (.int .i64 p.a) ∧ c[i * 3 + 1]? = some (.int .i64 p.f) ∧ c[i * 3 + 2]? = some (.int .i64 p.n)) ∧ Below w.heap.size w wr) (fun ix _ => n - (intOf ix).toNat)
  case atStart => exact ⟨0, _, Nat.zero_le _, rfl, Blk.new _ _ _, size_madeCells _ _, fun i p hi => by omega, (Below.refl _ _).alloc (Nat.le_refl _) _⟩
  case round =>
    obtain ⟨k, c, hk, rfl, hblk, hcs, hcc, hB⟩ := hrel
    by_cases hlt : k < n
    · obtain ⟨b, o, p, rfl, hp, c0, c1, c2⟩ := pts_at (h.below hB) hlt
      have hp' : Hid (l[k]? = some p) := hp
      clear hp hmk
      go_wp2_with fail
      refine (laws_toPart p _).mono ?_
      rintro e w1 ⟨rfl, hB1⟩
      have hb1 := hblk.below hB1
      have f0 := hb1.frozen (k * 3)
      have f1 := hb1.frozen (k * 3 + 1)
      have f2 := hb1.frozen (k * 3 + 2)
      have hsz := hB.size
      obtain ⟨v0, y0⟩ := hb1.has (i := k * 3) (by rw [hcs.out]; omega)
      obtain ⟨v1, y1⟩ := hb1.has (i := k * 3 + 1) (by rw [hcs.out]; omega)
      obtain ⟨v2, y2⟩ := hb1.has (i := k * 3 + 2) (by rw [hcs.out]; omega)
      go_wp2
      go_roundw
      case rel =>
        refine ⟨k + 1, _, by omega, by go_num, ((hb1.set _ _).set _ _).set _ _, by show _ = _; simp [hcs.out], ?_, ?_⟩
        · intro i q hi hq
          have hcs' := hcs.out
          by_cases hik : i = k
          · subst hik
            obtain rfl : p = q := by rw [hp'.out] at hq; exact Option.some.inj hq
            refine ⟨?_, ?_, ?_⟩
            all_goals (simp [Array.getElem?_setIfInBounds]; omega)
          · obtain ⟨r0, r1, r2⟩ := hcc.out i q (by omega) hq
            refine ⟨?_, ?_, ?_⟩
            all_goals (rw [Array.getElem?_setIfInBounds_ne (by omega), Array.getElem?_setIfInBounds_ne (by omega), Array.getElem?_setIfInBounds_ne (by omega)]; assumption)
        · exact (((chain hB hB1).setCell (by simp) _).setCell (by simp) _).setCell (by simp) _
      case measure => simp [intOf]; omega
    · obtain rfl : k = n := by omega
      go_wp2
      go_returns
      go_light
      refine ⟨rfl, ⟨hlen'.out, c, hblk, Nat.le_of_eq hcs.out.symm, ?_⟩, hB⟩
      intro i x hx j v hv
      have hi : i < k := by have := (List.getElem?_eq_some_iff.1 hx).1; rw [hlen'.out] at this; exact this
      obtain ⟨r0, r1, r2⟩ := hcc.out i x hi hx
      match j, hv with
      | 0, hv => obtain rfl := Option.some.inj hv; exact r0
      | 1, hv => obtain rfl := Option.some.inj hv; exact r1
      | 2, hv => obtain rfl := Option.some.inj hv; exact r2
      | j + 3, hv => simp [Pt.cs] at hv
end Go.Proofs.YtllbojcjdpelnaaGreat
namespace Go.Proofs.YtllbojcjdpelnaaGreat
open Go.RowKit Go.BigFrame Go.Lib

theorem atG_find (addr : Int) : ∀ (l : List Ex) (k : Nat), (atG addr k l = -1 ∧ dataAtB addr l = ⟨#[]⟩) ∨ ∃ (j : Nat) (x : Ex), l[j]? = some x ∧ atG addr k l = (k : Int) + j ∧ dataAtB addr l = x.d
  | [], k => .inl ⟨rfl, rfl⟩
  | e :: r, k => by
    unfold atG dataAtB
    split
    · rename_i h; exact .inr ⟨0, e, rfl, by simp, rfl⟩
    · rename_i h
      rcases atG_find addr r (k + 1) with ⟨h1, h2⟩ | ⟨j, x, h1, h2, h3⟩
      · exact .inl ⟨h1, h2⟩
      · exact .inr ⟨j + 1, x, by simpa using h1, by rw [h2]; omega, h3⟩

set_option maxHeartbeats 2000000 in
set_option maxRecDepth 100000 in
theorem spec_l2Content (a : Option Addr) (n cap : Nat) (l : List Pt) (a' : Option Addr) (n' cap' : Nat) (e : List Ex) (w : World) (h : PtsAt w a n l) (h' : ExsAt w a' n' e) (hstr : Strs e) (hn : n ≤ 16) (hn' : n' ≤ 4194304) (hall : ∀ p ∈ l, 1 ≤ p.n ∧ p.n ≤ 100 ∧ (p.a ≠ 0 → 0 ≤ p.f ∧ p.f < 20)) :
    Calls Tryz.prog 63 #[.slice a n cap, .slice a' n' cap'] w fun x w' => RetStr x (cgo e ⟨#[]⟩ l) ∧ Below w.heap.size w w' := by
  have hlen : Hid (l.length = n) := h.len
  have hf : Hid (cgo e ⟨#[]⟩ l = cgo e ⟨#[]⟩ (l.drop 0)) := rfl
  generalize cgo e ⟨#[]⟩ l = R at *
  obtain ⟨i0, hi, hz0, hz1, hz2⟩ := info_parts info5
  go_enter Tryz.func63, Tryz.ntmps63
  go_wp2_with fail
  go_loopw [6, 7] (fun out ix wr => ∃ (k : Nat) (s : ByteArray), k ≤ n ∧ ix = .int .i64 k ∧ s.size ≤ 100 * k ∧ out = .string s ∧ Hid (R = cgo e s (l.drop k)) ∧ Below w.heap.size w wr) (fun _ ix _ => n - (intOf ix).toNat)
  case atStart => exact ⟨0, ⟨#[]⟩, Nat.zero_le _, rfl, by simp [ByteArray.size], rfl, hf, Below.refl _ _⟩
  case round =>
    obtain ⟨k, s, hk, rfl, hm, rfl, hI, hB⟩ := hrel
    have hsz := hB.size
    by_cases hlt : k < n
    · obtain ⟨b, o, p, rfl, hp, c0, c1, c2⟩ := pts_at (h.below hB) hlt
      have hd : Hid (l.drop k = p :: l.drop (k + 1)) := drop_at hp
      obtain ⟨hp1, hp2, hp3⟩ := hall p (List.mem_of_getElem? hp)
      obtain ⟨pa, pf, pn⟩ := p
      dsimp only at *
      obtain ⟨pk, rfl⟩ : ∃ pk : Nat, pn = pk := ⟨pn.toNat, by omega⟩
      cases ha : (pa == 0)
      · have hne : pa ≠ 0 := by simpa using ha
        obtain ⟨f0, f20⟩ := hp3 hne
        obtain ⟨fk, rfl⟩ : ∃ fk : Nat, pf = fk := ⟨pf.toNat, by omega⟩
        have hst : Hid (R = match pieceO e ⟨pa, fk, pk⟩ with | none => none | some d => cgo e (s ++ d) (l.drop (k + 1))) := by show _ = _; rw [hI.out, hd.out]; rfl
        have hpc : Hid (pieceO e ⟨pa, fk, pk⟩ = if ((dataAtB pa e).size : Int) < fk + pk then none else some ((dataAtB pa e).extract fk (fk + pk))) := by
          show _ = _
          simp only [pieceO, ha, Bool.false_eq_true, if_false, Int.toNat_natCast]
          rw [show ((fk : Int) + (pk : Int)).toNat = fk + pk by omega]
        have hD := dataAtB_str (addr := pa) hstr
        go_wp2_with fail
        refine (spec_l1At a' n' cap' e pa _ ((h'.below hB).alloc _) hn').mono ?_
        rintro x w3 ⟨rfl, rfl⟩
        rcases atG_find pa e 0 with ⟨g1, g2⟩ | ⟨j, x, g1, g2, g3⟩
        · rw [g1]
          rw [g2, if_pos (by simp [ByteArray.size]; omega)] at hpc
          clear hI hd hp c0 c1 c2
          go_wp2_with fail
          go_quiet (fail)
          go_wp2
          go_returns
          rw [hst.out, hpc.out]
          exact ⟨rfl, below_drewN (by go_grown) _⟩
        · rw [g2, show ((0 : Nat) : Int) + (j : Int) = j by omega]
          rw [g3] at hpc hD
          have hj : j < n' := by rw [← h'.len]; exact (List.getElem?_eq_some_iff.1 g1).1
          obtain ⟨b', o', x', rfl, hx', y0, y1⟩ := exs_at ((h'.below hB).alloc (.cells #[.int .i64 pa, .int .i64 fk, .int .i64 pk] 113)) hj
          rw [g1] at hx'
          obtain rfl := Option.some.inj hx'
          have hB2 : Below w.heap.size w (wr.alloc (.cells #[.int .i64 pa, .int .i64 fk, .int .i64 pk] 113)) := hB.alloc hsz _
          have z0 : (wr.alloc (.cells #[.int .i64 pa, .int .i64 fk, .int .i64 pk] 113)).cell? ⟨wr.heap.size, 0, none⟩ = some (.int .i64 pa) := by simp
          have z1 : (wr.alloc (.cells #[.int .i64 pa, .int .i64 fk, .int .i64 pk] 113)).cell? ⟨wr.heap.size, 1, none⟩ = some (.int .i64 fk) := by simp
          have z2 : (wr.alloc (.cells #[.int .i64 pa, .int .i64 fk, .int .i64 pk] 113)).cell? ⟨wr.heap.size, 2, none⟩ = some (.int .i64 pk) := by simp
          clear c0 c1 c2 hI hd hp g1 g2 g3
          generalize wr.alloc (.cells #[.int .i64 pa, .int .i64 fk, .int .i64 pk] 113) = W at *
          obtain ⟨xa, D⟩ := x
          dsimp only at *
          have hj1 : (0 : Int) ≤ j := by omega
          have hj2 : (j : Int) < n' := by omega
          have hj3 : decide ((j : Int) < 0) = false := by simp
          by_cases hlt2 : (D.size : Int) < fk + pk
          · rw [if_pos hlt2] at hpc
            go_wp2_with fail
            go_quiet (fail)
            go_wp2
            go_returns
            rw [hst.out, hpc.out]
            exact ⟨rfl, below_drewN hB2 _⟩
          · rw [if_neg hlt2] at hpc
            have hle : (fk : Int) + (pk : Int) ≤ D.size := by omega
            have hsl := fun W' => run_slice_string (P := Tryz.prog) W' 9 D .i64 .i64 fk (fk + pk) Tryz.underlying9 (by omega) (by omega) (by omega)
            rw [show ((fk : Int) + (pk : Int)).toNat = fk + pk by omega, Int.toNat_natCast] at hsl
            have hxs : (D.extract fk (fk + pk)).size = pk := by rw [ByteArray.size_extract]; omega
            generalize D.extract fk (fk + pk) = X at *
            go_wp2_with fail
            go_quiet (fail)
            have hB3 := below_drewN hB2 nq
            replace z0 : (W.drewN nq).cell? ⟨wr.heap.size, 0, none⟩ = some (.int .i64 pa) := z0
            replace z1 : (W.drewN nq).cell? ⟨wr.heap.size, 1, none⟩ = some (.int .i64 fk) := z1
            replace z2 : (W.drewN nq).cell? ⟨wr.heap.size, 2, none⟩ = some (.int .i64 pk) := z2
            replace y1 : (W.drewN nq).cell? ⟨b', o' + j * 2 + 1, none⟩ = some (.string D) := y1
            clear y0
            generalize W.drewN nq = W1 at *
            go_wp2_with fail
            go_quiet (fail)
            go_wp2
            go_roundw
            case rel => exact ⟨k + 1, s ++ X, by omega, by go_num, by rw [ByteArray.size_append]; omega, rfl, by show _ = _; rw [hst.out, hpc.out], below_drewN hB3 _⟩
            case measure => simp [intOf]; omega
      · have hst : Hid (R = cgo e (s ++ zs pk) (l.drop (k + 1))) := by
          show _ = _
          rw [hI.out, hd.out]
          simp [cgo, pieceO, ha]
        have hmk : ∀ u : World, (Instr.makeSlice 126 (.int .i64 (pk : Int)) (.int .i64 (pk : Int))).run Tryz.prog u = .ok (.slice (some ⟨u.heap.size, 0, none⟩) pk pk) (u.alloc (.cells (strCells (zs pk)).toArray 5)) := fun u => by
          have hm := run_make (P := Tryz.prog) u 126 5 i0 (.int .u8 0) Tryz.underlying126 hi hz0 .i64 .i64 (pk : Int) (pk : Int) (by omega) (Int.le_refl _) (by rw [hz2]; omega) (by omega)
          rw [zs_cells]
          simpa [hz1, Value.cells, madeCells, Builtin.zeroCells] using hm
        have hcv : ∀ u : World, (convert 126 9 (.slice (some ⟨u.heap.size, 0, none⟩) pk pk)).run Tryz.prog (u.alloc (.cells (strCells (zs pk)).toArray 5)) = .ok (.string (zs pk)) (u.alloc (.cells (strCells (zs pk)).toArray 5)) := fun u =>
          row_text (B := 0) (e := 5) (n := pk) ⟨by rw [strCells_length, zs_size, Nat.mul_one], .inr ⟨u.heap.size, pk, _, rfl, Nat.zero_le _, Blk.new u _ 5, Nat.le_refl _, by unfold maxLen; omega, by simp [strCells_length, zs_size], by rw [Nat.mul_one, List.take_of_length_le (by simp [strCells_length, zs_size])]⟩⟩ 126 Tryz.underlying126 Tryz.underlying5 9 Tryz.underlying9
        have hmk1 := hmk (wr.alloc (.cells #[.int .i64 pa, .int .i64 pf, .int .i64 pk] 113))
        have hcv1 := hcv (wr.alloc (.cells #[.int .i64 pa, .int .i64 pf, .int .i64 pk] 113))
        rw [show (wr.alloc (.cells #[.int .i64 pa, .int .i64 pf, .int .i64 pk] 113)).heap.size = wr.heap.size + 1 by simp] at hmk1 hcv1
        have hzsz := zs_size pk
        generalize zs pk = Z at *
        clear hmk hcv
        go_wp2
        go_roundw
        case rel => exact ⟨k + 1, s ++ Z, by omega, by go_num, by rw [ByteArray.size_append]; omega, rfl, hst, by go_grown⟩
        case measure => simp [intOf]; omega
    · obtain rfl : k = n := by omega
      go_wp2
      go_returns
      rw [hI.out, List.drop_of_length_le (by rw [hlen.out]; exact Nat.le_refl _)]
      exact ⟨rfl, hB⟩

end Go.Proofs.YtllbojcjdpelnaaGreat
