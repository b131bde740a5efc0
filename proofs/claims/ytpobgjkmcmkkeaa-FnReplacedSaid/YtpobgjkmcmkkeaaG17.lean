/- What is read of a disk, by the model and by the program. -/
import Derived.Test.YtpobgjkmcmkkeaaG16
namespace Go.Proofs.Ytpobgjkmcmkkeaa
open Go Go.RowKit Go.BigFrame

def rdL (l : List Fl) (nm : ByteArray) : ByteArray × Bool := match atF l nm with | none => (⟨#[]⟩, false) | some i => match l[i]? with | some f => (f.d, true) | none => (⟨#[]⟩, false)
def rdD (d : Dk) (nm : ByteArray) : ByteArray × Bool := if diskB d = true then rdL d.live nm else (⟨#[]⟩, false)
theorem rdD_no {d : Dk} (nm : ByteArray) (h : diskB d = false) : rdD d nm = (⟨#[]⟩, false) := by simp [rdD, h]
theorem rdD_yes {d : Dk} (nm : ByteArray) (h : diskB d = true) : rdD d nm = rdL d.live nm := by simp [rdD, h]
theorem atF_lt {l : List Fl} {nm : ByteArray} {i : Nat} (h : atF l nm = some i) : ∃ f, l[i]? = some f ∧ f.nm.toList = nm.toList := by
  unfold atF at h
  obtain ⟨h1, h2, _⟩ := List.findIdx?_eq_some_iff_getElem.1 h
  exact ⟨l[i], by simp [h1], by simpa using h2⟩

set_option maxHeartbeats 2000000 in
set_option maxRecDepth 100000 in
theorem spec_ReadFile (v : Value) (d : Dk) (nm : ByteArray) (w : World) (h : DiskAt w v d) (hd : DimD d) :
    Calls Try.prog 38 #[v, .string nm] w fun e w' => e = .returned (.tuple #[.string (rdD d nm).1, .bool (rdD d nm).2]) ∧ Below w.heap.size w w' := by
  have hD := h
  obtain ⟨la, ln, lc, sa, sn, sc, oa, on, oc, rfl, hL, hS, hO⟩ := h
  have hln : ln ≤ 4000000 := by rw [← hL.sl.len]; exact hd.live.1
  have hB0 : Below w.heap.size w (w.alloc (.cells #[.slice la ln lc, .slice sa sn sc, .slice oa on oc] 27)) := by go_grown
  have D0 := Blk.new w #[.slice la ln lc, .slice sa sn sc, .slice oa on oc] 27
  go_enter Try.func38, Try.ntmps38
  go_wp2_with fail
  refine (spec_DiskOk _ d _ (hD.below hB0) hd).mono ?_
  rintro e w1 ⟨rfl, hB1⟩
  have D1 := D0.below hB1
  have hC1 := chain hB0 hB1
  cases hdb : diskB d
  · have hr : Hid (rdD d nm = (⟨#[]⟩, false)) := rdD_no nm hdb
    go_wp2
    go_returns
    exact ⟨by rw [hr.out] <;> rfl, hC1⟩
  · have hr : Hid (rdD d nm = rdL d.live nm) := rdD_yes nm hdb
    obtain ⟨x0, x1, x2⟩ := D1.three
    go_wp2_with fail
    refine (spec_l8At la ln lc d.live nm _ (hL.sl.below hC1) (by omega)).mono ?_
    rintro e w2 ⟨rfl, rfl⟩
    cases hat : atF d.live nm with
    | none =>
      have hr2 : Hid (rdD d nm = (⟨#[]⟩, false)) := by show _ = _; rw [hr.out]; unfold rdL; rw [hat]
      have hp : plF (none : Option Nat) = -1 := rfl
      rw [hp]
      go_wp2
      go_returns
      exact ⟨by rw [hr2.out] <;> rfl, hC1⟩
    | some i =>
      obtain ⟨f, hf, _⟩ := atF_lt hat
      have hr2 : Hid (rdD d nm = (f.d, true)) := by show _ = _; rw [hr.out]; unfold rdL; rw [hat]; simp only [hf]
      have hi : i < ln := by rw [← hL.sl.len]; exact (List.getElem?_eq_some_iff.1 hf).1
      obtain ⟨b, o, p, rfl, hp, c0, c1⟩ := fl_at (hL.sl.below hC1) hi
      rw [hf] at hp
      cases hp
      have hp : plF (some i) = (i : Int) := rfl
      rw [hp]
      have hi1 : (i : Int) < ln := by omega
      have hi2 : (0 : Int) ≤ i := by omega
      have hi3 : ¬ (i : Int) < 0 := by omega
      go_wp2
      go_returns
      exact ⟨by rw [hr2.out] <;> rfl, hC1⟩

set_option maxHeartbeats 2000000 in
set_option maxRecDepth 100000 in
theorem impl_ReadFile (v : Value) (d : Dk) (nm : ByteArray) (w : World) (h : DiskAt w v d) (hd : DimD d) :
    Calls Try.prog 22 #[v, .string nm] w fun e w' => e = .returned (.tuple #[.string (rdD d nm).1, .bool (rdD d nm).2]) ∧ Below w.heap.size w w' := by
  have hD := h
  obtain ⟨la, ln, lc, sa, sn, sc, oa, on, oc, rfl, hL, hS, hO⟩ := h
  have hln : ln ≤ 4000000 := by rw [← hL.sl.len]; exact hd.live.1
  have hB0 : Below w.heap.size w (w.alloc (.cells #[.slice la ln lc, .slice sa sn sc, .slice oa on oc] 27)) := by go_grown
  have D0 := Blk.new w #[.slice la ln lc, .slice sa sn sc, .slice oa on oc] 27
  go_enter Try.func22, Try.ntmps22
  go_wp2_with fail
  refine (impl_DiskOk _ d _ (hD.below hB0) hd).mono ?_
  rintro e w1 ⟨rfl, hB1⟩
  have D1 := D0.below hB1
  have hC1 := chain hB0 hB1
  cases hdb : diskB d
  · have hr : Hid (rdD d nm = (⟨#[]⟩, false)) := rdD_no nm hdb
    go_wp2
    go_returns
    exact ⟨by rw [hr.out] <;> rfl, hC1⟩
  · have hr : Hid (rdD d nm = rdL d.live nm) := rdD_yes nm hdb
    obtain ⟨x0, x1, x2⟩ := D1.three
    have hL1 := hL.sl.below hC1
    have hlen : Hid (d.live.length = ln) := hL.sl.len
    generalize d.live = live at *
    go_wp2_with fail
    go_loopw [14] (fun ix wr => ∃ k : Nat, k ≤ ln ∧ ix = .int .i64 k ∧ Hid (atF live nm = (atF (live.drop k) nm).map (· + k)) ∧ Below w1.heap.size w1 wr) (fun ix _ => ln - (intOf ix).toNat)
    case atStart => exact ⟨0, Nat.zero_le _, rfl, by show _ = _; simp, Below.refl _ _⟩
    case round =>
      obtain ⟨k, hk, rfl, hI, hB⟩ := hrel
      by_cases hlt : k < ln
      · obtain ⟨b, o, p, rfl, hp, c0, c1⟩ := fl_at (hL1.below hB) hlt
        have hst := atF_drop (nm := nm) hp
        have hp' : Hid (live[k]? = some p) := hp
        clear hp
        have hk1 : (k : Int) < ln := by omega
        have hk2 : (0 : Int) ≤ k := by omega
        have hA : Below wr.heap.size wr (wr.alloc (.cells #[.string p.nm, .string p.d] 82)) := (Below.refl _ _).alloc (Nat.le_refl _) _
        cases heq : (p.nm.toList == nm.toList)
        · have hq : ¬ p.nm.toList = nm.toList := by simpa using heq
          rw [heq, if_neg (by simp)] at hst
          have hst' : Hid (atF live nm = (atF (live.drop (k + 1)) nm).map (· + (k + 1))) := by show _ = _; rw [hI.out]; exact hst
          clear hst hI
          go_wp2
          go_roundw
          case rel => exact ⟨k + 1, by omega, by go_num, hst', chain hB hA⟩
          case measure => simp [intOf]; omega
        · have hq : p.nm.toList = nm.toList := by simpa using heq
          rw [heq, if_pos rfl] at hst
          have hr2 : Hid (rdD d nm = (p.d, true)) := by
            show _ = _
            rw [hr.out]; unfold rdL; rw [hI.out, hst]; simp only [hp'.out]
          clear hst hI
          go_wp2
          go_returns
          exact ⟨by rw [hr2.out] <;> rfl, chain (chain hC1 hB) hA⟩
      · obtain rfl : k = ln := by omega
        have hend : atF live nm = none := by
          rw [hI.out, List.drop_of_length_le (Nat.le_of_eq hlen.out)]; rfl
        have hr2 : Hid (rdD d nm = (⟨#[]⟩, false)) := by show _ = _; rw [hr.out]; unfold rdL; rw [hend]
        clear hI hend
        go_wp2
        go_returns
        exact ⟨by rw [hr2.out] <;> rfl, chain hC1 hB⟩
end Go.Proofs.Ytpobgjkmcmkkeaa
