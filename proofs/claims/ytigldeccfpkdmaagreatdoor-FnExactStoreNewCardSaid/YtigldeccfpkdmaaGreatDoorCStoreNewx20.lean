/- Lists of files that are right, and an op that is done on one, by the model. -/
import Derived.Test.YtigldeccfpkdmaaGreatDoorCStoreNewx19
namespace Go.Proofs.YtigldeccfpkdmaaGreatDoor
open Go Go.RowKit Go.BigFrame
/-- Files that are not too great. -/
def BndF (l : List Fl) : Prop := ∀ x ∈ l, x.nm.size ≤ 9223372036854775807 ∧ x.d.size ≤ 100000000
def prevF (l : List Fl) (k : Nat) : Option Fl := if k = 0 then none else l[k - 1]?
theorem fgo_at {l : List Fl} {k : Nat} {p : Fl} {q : Option Fl} (h : l[k]? = some p) : fgo q (l.drop k) = (nmB p.nm && (match q with | none => true | some x => bl x.nm.toList p.nm.toList) && fgo (some p) (l.drop (k + 1))) := by
  rw [drop_at h]
  rfl
theorem sumB_take {l : List Fl} {k : Nat} {p : Fl} (h : l[k]? = some p) : sumB (l.take (k + 1)) = sumB (l.take k) + p.d.size := by
  rw [take_at h, sumB_app]
  simp [sumB]
theorem sumB_bd {l : List Fl} (h : BndF l) : sumB l ≤ 100000000 * l.length := by
  induction l with
  | nil => simp [sumB]
  | cons x r ih =>
    have h1 := (h x (by simp)).2
    have h2 := ih (fun y hy => h y (by simp [hy]))
    simp only [sumB, List.length_cons]
    omega
set_option maxHeartbeats 4000000 in
set_option maxRecDepth 100000 in
theorem spec_l8Files (a : Option Addr) (n cap : Nat) (l : List Fl) (w : World) (h : FlsAt w a n l) (hb : BndF l) (hn : n ≤ 9223372036854775807) :
    Calls Tryz.prog 137 #[.slice a n cap] w fun e w' => e = .returned (.bool (filesB l)) ∧ Below w.heap.size w w' := by
  have hlen : Hid (l.length = n) := h.len
  by_cases h60 : n ≤ 60
  · have hfl : Hid (filesB l = (fgo none l && decide (sumB l ≤ 200000))) := by show _ = _; simp [filesB, hlen.out, h60]
    have h60' : ¬ (60 : Int) < n := by omega
    go_enter Tryz.func137, Tryz.ntmps137
    go_wp2_with fail
    go_loopw [3, 4] (fun sm ix wr => ∃ k : Nat, k ≤ n ∧ ix = .int .i64 k ∧ sm = .int .i64 (sumB (l.take k) : Nat) ∧ Hid (fgo none l = fgo (prevF l k) (l.drop k)) ∧ Below w.heap.size w wr) (fun _ ix _ => n - (intOf ix).toNat)
    case atStart => exact ⟨0, Nat.zero_le _, rfl, by simp [sumB], by show _ = _; simp [prevF], Below.refl _ _⟩
    case round =>
      obtain ⟨k, hk, rfl, rfl, hI, hB⟩ := hrel
      by_cases hlt : k < n
      · obtain ⟨b, o, p, rfl, hp, c0, c1⟩ := fl_at (h.below hB) hlt
        have hpb := hb p (List.mem_of_getElem? hp)
        have hsb := sumB_bd (l := l.take k) (fun x hx => hb x (List.mem_of_mem_take hx))
        have htl : (l.take k).length ≤ 60 := by rw [List.length_take]; omega
        have hst : Hid (sumB (l.take (k + 1)) = sumB (l.take k) + p.d.size) := sumB_take hp
        have hgo : ∀ q, fgo q (l.drop k) = (nmB p.nm && (match q with | none => true | some x => bl x.nm.toList p.nm.toList) && fgo (some p) (l.drop (k + 1))) := fun q => fgo_at hp
        have hpv : Hid (prevF l (k + 1) = some p) := by show _ = _; simp [prevF, hp]
        have hk1 : (k : Int) < n := by omega
        have hk2 : (0 : Int) ≤ k := by omega
        generalize hSB : sumB (l.take k) = sb at *
        have hname := fun u => spec_l8Name p.nm u hpb.1
        cases hnm : nmB p.nm
        · have hf : Hid (fgo none l = false) := by show _ = _; rw [hI.out, hgo, hnm]; simp
          clear hgo
          go_wp2_with fail
          have hS0 : (fun u => u.cell? ⟨b, o + k * 2, none⟩ = some (.string p.nm)) wr.drew := c0
          refine wp_region_heldH (S := (fun u => u.cell? ⟨b, o + k * 2, none⟩ = some (.string p.nm))) 25 (by kernel_rfl) rfl ?_
          refine takeQ (i := 0) (v := ?vq11001) rfl (by kernel_rfl) (fun _ _ _ h => h) (by rfl) ?hq11001 (by assumption) ?rq11001
          case hq11001 => (intro u hu; (try dsimp only at hu); go_simp <;> with_reducible rfl)
          try simp only [Act.put, lsA, lsB, lsC]
          refine takeQ (i := 1) (v := ?vq11002) rfl (by kernel_rfl) (fun _ _ _ h => h) (by rfl) ?hq11002 (by assumption) ?rq11002
          case hq11002 => (intro u hu; (try dsimp only at hu); go_simp <;> with_reducible rfl)
          try simp only [Act.put, lsA, lsB, lsC]
          refine takeQ (i := 2) (v := ?vq11003) rfl (by kernel_rfl) (fun _ _ _ h => h) (by rfl) ?hq11003 (by assumption) ?rq11003
          case hq11003 => (intro u hu; (try dsimp only at hu); go_simp <;> with_reducible rfl)
          try simp only [Act.put, lsA, lsB, lsC]
          refine takeQ (i := 3) (v := ?vq11004) rfl (by kernel_rfl) (fun _ _ _ h => h) (by rfl) ?hq11004 (by assumption) ?rq11004
          case hq11004 => (intro u hu; (try dsimp only at hu); go_simp <;> with_reducible rfl)
          try simp only [Act.put, lsA, lsB, lsC]
          refine takeQ (i := 4) (v := ?vq11005) rfl (by kernel_rfl) (fun _ _ _ h => h) (by rfl) ?hq11005 (by assumption) ?rq11005
          case hq11005 => (intro u hu; (try dsimp only at hu); go_simp <;> with_reducible rfl)
          try simp only [Act.put, lsA, lsB, lsC]
          refine oneL (i := 5) (by kernel_rfl) rfl (fun K hK => ?_)
          go_simp
          refine (hname _).mono ?_
          rintro e w1 ⟨rfl, rfl⟩
          rw [hnm]
          dsimp only
          refine hK.out _ _ (by assumption) (fun hHeld => ?_)
          clear hK K
          try simp only [Act.put, lsA, lsB, lsC]
          refine takeQ (i := 6) (v := ?vq11006) rfl (by kernel_rfl) (fun _ _ _ h => h) (by rfl) ?hq11006 (by assumption) ?rq11006
          case hq11006 => (intro u hu; (try dsimp only at hu); go_simp <;> with_reducible rfl)
          try simp only [Act.put, lsA, lsB, lsC]
          refine takeQ (i := 7) (v := ?vq11007) rfl (by kernel_rfl) (fun _ _ _ h => h) (by rfl) ?hq11007 (by assumption) ?rq11007
          case hq11007 => (intro u hu; (try dsimp only at hu); go_simp <;> with_reducible rfl)
          try simp only [Act.put, lsA, lsB, lsC]
          refine takeL (i := 8) (v := undef) rfl (by kernel_rfl) (by kernel_rfl) (by kernel_rfl) (fun _ _ _ h => h) (Or.inr ⟨by rfl, rfl⟩) (by assumption) ?_
          try simp only [Act.put, lsA, lsB, lsC]
          refine takeL (i := 9) (v := undef) rfl (by kernel_rfl) (by kernel_rfl) (by kernel_rfl) (fun _ _ _ h => h) (Or.inr ⟨by rfl, rfl⟩) (by assumption) ?_
          try simp only [Act.put, lsA, lsB, lsC]
          refine takeL (i := 10) (v := undef) rfl (by kernel_rfl) (by kernel_rfl) (by kernel_rfl) (fun _ _ _ h => h) (Or.inr ⟨by rfl, rfl⟩) (by assumption) ?_
          try simp only [Act.put, lsA, lsB, lsC]
          refine takeL (i := 11) (v := undef) rfl (by kernel_rfl) (by kernel_rfl) (by kernel_rfl) (fun _ _ _ h => h) (Or.inr ⟨by rfl, rfl⟩) (by assumption) ?_
          try simp only [Act.put, lsA, lsB, lsC]
          refine takeL (i := 12) (v := undef) rfl (by kernel_rfl) (by kernel_rfl) (by kernel_rfl) (fun _ _ _ h => h) (Or.inr ⟨by rfl, rfl⟩) (by assumption) ?_
          try simp only [Act.put, lsA, lsB, lsC]
          refine takeL (i := 13) (v := undef) rfl (by kernel_rfl) (by kernel_rfl) (by kernel_rfl) (fun _ _ _ h => h) (Or.inr ⟨by rfl, rfl⟩) (by assumption) ?_
          try simp only [Act.put, lsA, lsB, lsC]
          refine takeL (i := 14) (v := undef) rfl (by kernel_rfl) (by kernel_rfl) (by kernel_rfl) (fun _ _ _ h => h) (Or.inr ⟨by rfl, rfl⟩) (by assumption) ?_
          try simp only [Act.put, lsA, lsB, lsC]
          refine takeL (i := 15) (v := undef) rfl (by kernel_rfl) (by kernel_rfl) (by kernel_rfl) (fun _ _ _ h => h) (Or.inr ⟨by rfl, rfl⟩) (by assumption) ?_
          try simp only [Act.put, lsA, lsB, lsC]
          refine takeL (i := 16) (v := undef) rfl (by kernel_rfl) (by kernel_rfl) (by kernel_rfl) (fun _ _ _ h => h) (Or.inr ⟨by rfl, rfl⟩) (by assumption) ?_
          try simp only [Act.put, lsA, lsB, lsC]
          refine takeL (i := 17) (v := undef) rfl (by kernel_rfl) (by kernel_rfl) (by kernel_rfl) (fun _ _ _ h => h) (Or.inr ⟨by rfl, rfl⟩) (by assumption) ?_
          try simp only [Act.put, lsA, lsB, lsC]
          refine takeL (i := 18) (v := undef) rfl (by kernel_rfl) (by kernel_rfl) (by kernel_rfl) (fun _ _ _ h => h) (Or.inr ⟨by rfl, rfl⟩) (by assumption) ?_
          try simp only [Act.put, lsA, lsB, lsC]
          refine takeL (i := 19) (v := undef) rfl (by kernel_rfl) (by kernel_rfl) (by kernel_rfl) (fun _ _ _ h => h) (Or.inr ⟨by rfl, rfl⟩) (by assumption) ?_
          try simp only [Act.put, lsA, lsB, lsC]
          refine takeL (i := 20) (v := undef) rfl (by kernel_rfl) (by kernel_rfl) (by kernel_rfl) (fun _ _ _ h => h) (Or.inr ⟨by rfl, rfl⟩) (by assumption) ?_
          try simp only [Act.put, lsA, lsB, lsC]
          refine takeL (i := 21) (v := undef) rfl (by kernel_rfl) (by kernel_rfl) (by kernel_rfl) (fun _ _ _ h => h) (Or.inr ⟨by rfl, rfl⟩) (by assumption) ?_
          try simp only [Act.put, lsA, lsB, lsC]
          refine takeL (i := 22) (v := undef) rfl (by kernel_rfl) (by kernel_rfl) (by kernel_rfl) (fun _ _ _ h => h) (Or.inr ⟨by rfl, rfl⟩) (by assumption) ?_
          try simp only [Act.put, lsA, lsB, lsC]
          refine takeL (i := 23) (v := undef) rfl (by kernel_rfl) (by kernel_rfl) (by kernel_rfl) (fun _ _ _ h => h) (Or.inr ⟨by rfl, rfl⟩) (by assumption) ?_
          try simp only [Act.put, lsA, lsB, lsC]
          refine takeQ (i := 24) (v := ?vq11008) rfl (by kernel_rfl) (fun _ _ _ h => h) (by rfl) ?hq11008 (by assumption) ?rq11008
          case hq11008 => (intro u hu; (try dsimp only at hu); go_simp <;> with_reducible rfl)
          try simp only [Act.put, lsA, lsB, lsC]
          refine wpAnyH_done (by kernel_rfl) ?_ _
          clear hS0 hHeld
          go_wp2
          go_returns
          exact ⟨by rw [hfl.out, hf.out]; rfl, chain hB ((Below.refl _ _).drew)⟩
        · by_cases hk0 : k = 0
          · subst hk0
            have hnx : Hid (fgo none l = fgo (prevF l (0 + 1)) (l.drop (0 + 1))) := by show _ = _; rw [hI.out, hgo, hnm, hpv.out]; simp [prevF]
            clear hgo
            go_wp2_with fail
            have hS0 : (fun u => u.cell? ⟨b, o, none⟩ = some (.string p.nm)) wr.drew := by simpa using c0
            refine wp_region_heldH (S := (fun u => u.cell? ⟨b, o, none⟩ = some (.string p.nm))) 25 (by kernel_rfl) rfl ?_
            refine takeQ (i := 0) (v := ?vq11009) rfl (by kernel_rfl) (fun _ _ _ h => h) (by rfl) ?hq11009 (by assumption) ?rq11009
            case hq11009 => (intro u hu; (try dsimp only at hu); go_simp <;> with_reducible rfl)
            try simp only [Act.put, lsA, lsB, lsC]
            refine takeQ (i := 1) (v := ?vq11010) rfl (by kernel_rfl) (fun _ _ _ h => h) (by rfl) ?hq11010 (by assumption) ?rq11010
            case hq11010 => (intro u hu; (try dsimp only at hu); go_simp <;> with_reducible rfl)
            try simp only [Act.put, lsA, lsB, lsC]
            refine takeQ (i := 2) (v := ?vq11011) rfl (by kernel_rfl) (fun _ _ _ h => h) (by rfl) ?hq11011 (by assumption) ?rq11011
            case hq11011 => (intro u hu; (try dsimp only at hu); go_simp <;> with_reducible rfl)
            try simp only [Act.put, lsA, lsB, lsC]
            refine takeQ (i := 3) (v := ?vq11012) rfl (by kernel_rfl) (fun _ _ _ h => h) (by rfl) ?hq11012 (by assumption) ?rq11012
            case hq11012 => (intro u hu; (try dsimp only at hu); go_simp <;> with_reducible rfl)
            try simp only [Act.put, lsA, lsB, lsC]
            refine takeQ (i := 4) (v := ?vq11013) rfl (by kernel_rfl) (fun _ _ _ h => h) (by rfl) ?hq11013 (by assumption) ?rq11013
            case hq11013 => (intro u hu; (try dsimp only at hu); go_simp <;> with_reducible rfl)
            try simp only [Act.put, lsA, lsB, lsC]
            refine oneL (i := 5) (by kernel_rfl) rfl (fun K hK => ?_)
            go_simp
            refine (hname _).mono ?_
            rintro e w1 ⟨rfl, rfl⟩
            rw [hnm]
            dsimp only
            refine hK.out _ _ (by assumption) (fun hHeld => ?_)
            clear hK K
            try simp only [Act.put, lsA, lsB, lsC]
            refine takeQ (i := 6) (v := ?vq11014) rfl (by kernel_rfl) (fun _ _ _ h => h) (by rfl) ?hq11014 (by assumption) ?rq11014
            case hq11014 => (intro u hu; (try dsimp only at hu); go_simp <;> with_reducible rfl)
            try simp only [Act.put, lsA, lsB, lsC]
            refine takeQ (i := 7) (v := ?vq11015) rfl (by kernel_rfl) (fun _ _ _ h => h) (by rfl) ?hq11015 (by assumption) ?rq11015
            case hq11015 => (intro u hu; (try dsimp only at hu); go_simp <;> with_reducible rfl)
            try simp only [Act.put, lsA, lsB, lsC]
            refine takeQ (i := 8) (v := ?vq11016) rfl (by kernel_rfl) (fun _ _ _ h => h) (by rfl) ?hq11016 (by assumption) ?rq11016
            case hq11016 => (intro u hu; (try dsimp only at hu); go_simp <;> with_reducible rfl)
            try simp only [Act.put, lsA, lsB, lsC]
            refine takeQ (i := 9) (v := ?vq11017) rfl (by kernel_rfl) (fun _ _ _ h => h) (by rfl) ?hq11017 (by assumption) ?rq11017
            case hq11017 => (intro u hu; (try dsimp only at hu); go_simp <;> with_reducible rfl)
            try simp only [Act.put, lsA, lsB, lsC]
            refine takeQ (i := 10) (v := ?vq11018) rfl (by kernel_rfl) (fun _ _ _ h => h) (by rfl) ?hq11018 (by assumption) ?rq11018
            case hq11018 => (intro u hu; (try dsimp only at hu); go_simp <;> with_reducible rfl)
            try simp only [Act.put, lsA, lsB, lsC]
            refine takeL (i := 11) (v := undef) rfl (by kernel_rfl) (by kernel_rfl) (by kernel_rfl) (fun _ _ _ h => h) (Or.inr ⟨by rfl, rfl⟩) (by assumption) ?_
            try simp only [Act.put, lsA, lsB, lsC]
            refine takeL (i := 12) (v := undef) rfl (by kernel_rfl) (by kernel_rfl) (by kernel_rfl) (fun _ _ _ h => h) (Or.inr ⟨by rfl, rfl⟩) (by assumption) ?_
            try simp only [Act.put, lsA, lsB, lsC]
            refine takeL (i := 13) (v := undef) rfl (by kernel_rfl) (by kernel_rfl) (by kernel_rfl) (fun _ _ _ h => h) (Or.inr ⟨by rfl, rfl⟩) (by assumption) ?_
            try simp only [Act.put, lsA, lsB, lsC]
            refine takeL (i := 14) (v := undef) rfl (by kernel_rfl) (by kernel_rfl) (by kernel_rfl) (fun _ _ _ h => h) (Or.inr ⟨by rfl, rfl⟩) (by assumption) ?_
            try simp only [Act.put, lsA, lsB, lsC]
            refine takeL (i := 15) (v := undef) rfl (by kernel_rfl) (by kernel_rfl) (by kernel_rfl) (fun _ _ _ h => h) (Or.inr ⟨by rfl, rfl⟩) (by assumption) ?_
            try simp only [Act.put, lsA, lsB, lsC]
            refine takeL (i := 16) (v := undef) rfl (by kernel_rfl) (by kernel_rfl) (by kernel_rfl) (fun _ _ _ h => h) (Or.inr ⟨by rfl, rfl⟩) (by assumption) ?_
            try simp only [Act.put, lsA, lsB, lsC]
            refine takeL (i := 17) (v := undef) rfl (by kernel_rfl) (by kernel_rfl) (by kernel_rfl) (fun _ _ _ h => h) (Or.inr ⟨by rfl, rfl⟩) (by assumption) ?_
            try simp only [Act.put, lsA, lsB, lsC]
            refine takeL (i := 18) (v := undef) rfl (by kernel_rfl) (by kernel_rfl) (by kernel_rfl) (fun _ _ _ h => h) (Or.inr ⟨by rfl, rfl⟩) (by assumption) ?_
            try simp only [Act.put, lsA, lsB, lsC]
            refine takeL (i := 19) (v := undef) rfl (by kernel_rfl) (by kernel_rfl) (by kernel_rfl) (fun _ _ _ h => h) (Or.inr ⟨by rfl, rfl⟩) (by assumption) ?_
            try simp only [Act.put, lsA, lsB, lsC]
            refine takeL (i := 20) (v := undef) rfl (by kernel_rfl) (by kernel_rfl) (by kernel_rfl) (fun _ _ _ h => h) (Or.inr ⟨by rfl, rfl⟩) (by assumption) ?_
            try simp only [Act.put, lsA, lsB, lsC]
            refine takeL (i := 21) (v := undef) rfl (by kernel_rfl) (by kernel_rfl) (by kernel_rfl) (fun _ _ _ h => h) (Or.inr ⟨by rfl, rfl⟩) (by assumption) ?_
            try simp only [Act.put, lsA, lsB, lsC]
            refine takeL (i := 22) (v := undef) rfl (by kernel_rfl) (by kernel_rfl) (by kernel_rfl) (fun _ _ _ h => h) (Or.inr ⟨by rfl, rfl⟩) (by assumption) ?_
            try simp only [Act.put, lsA, lsB, lsC]
            refine takeQ (i := 23) (v := ?vq11019) rfl (by kernel_rfl) (fun _ _ _ h => h) (by rfl) ?hq11019 (by assumption) ?rq11019
            case hq11019 => (intro u hu; (try dsimp only at hu); go_simp <;> with_reducible rfl)
            try simp only [Act.put, lsA, lsB, lsC]
            refine takeQ (i := 24) (v := ?vq11020) rfl (by kernel_rfl) (fun _ _ _ h => h) (by rfl) ?hq11020 (by assumption) ?rq11020
            case hq11020 => (intro u hu; (try dsimp only at hu); go_simp <;> with_reducible rfl)
            try simp only [Act.put, lsA, lsB, lsC]
            refine wpAnyH_done (by kernel_rfl) ?_ _
            clear hS0 hHeld
            have c1' : wr.drew.cell? ⟨b, o + 1, none⟩ = some (.string p.d) := by simpa using c1
            have hsw : IntKind.i64.wrap ((sb : Int) + (p.d.size : Int)) = (sb : Int) + (p.d.size : Int) := by rw [IntKind.wrap_i64]; omega
            go_wp2
            go_roundw
            case rel => exact ⟨0 + 1, by omega, by go_num, by rw [hst.out]; go_num, hnx, chain hB ((Below.refl _ _).drew)⟩
            case measure => simp [intOf]; omega
          · obtain ⟨x, hx⟩ : ∃ x, l[k - 1]? = some x := ⟨_, List.getElem?_eq_getElem (by rw [hlen.out]; omega)⟩
            have hpx : Hid (prevF l k = some x) := by show _ = _; simp [prevF, hk0, hx]
            obtain ⟨b2, o2, x2, hbo, hx2, e0, _⟩ := fl_at (h.below hB) (show k - 1 < n by omega)
            cases hbo
            rw [hx] at hx2
            cases hx2
            have hk3 : (0 : Int) < k := by omega
            have hk7 : decide ((0 : Int) < k) = true := by simp; omega
            have hk8 : 0 < k := by omega
            have hk9 : decide (0 < k) = true := by simp; omega
            have hkw : IntKind.i64.wrap ((k : Int) - 1) = ((k - 1 : Nat) : Int) := by rw [IntKind.wrap_i64]; omega
            have hkn : ((k : Int) - 1).toNat = k - 1 := by omega
            have hk5 : (0 : Int) ≤ ((k - 1 : Nat) : Int) := by omega
            have hk6 : ((k - 1 : Nat) : Int) < n := by omega
            cases hbl : bl x.nm.toList p.nm.toList
            · have hf : Hid (fgo none l = false) := by show _ = _; rw [hI.out, hpx.out, hgo, hnm]; simp [hbl]
              clear hgo
              have hS0 : (fun u => u.cell? ⟨b, o + k * 2, none⟩ = some (.string p.nm) ∧ u.cell? ⟨b, o + (k - 1) * 2, none⟩ = some (.string x.nm)) wr.drew := ⟨c0, e0⟩
              by_cases hq3 : p.nm.toList = x.nm.toList
              · have hq2 : (p.nm.toList == x.nm.toList) = true := by simpa using hq3
                go_wp2_with fail
                refine wp_region_heldH (S := (fun u => u.cell? ⟨b, o + k * 2, none⟩ = some (.string p.nm) ∧ u.cell? ⟨b, o + (k - 1) * 2, none⟩ = some (.string x.nm))) 25 (by kernel_rfl) rfl ?_
                refine takeQ (i := 0) (v := ?vq11021) rfl (by kernel_rfl) (fun _ _ _ h => h) (by rfl) ?hq11021 (by assumption) ?rq11021
                case hq11021 => (intro u hu; (try dsimp only at hu); go_simp <;> with_reducible rfl)
                try simp only [Act.put, lsA, lsB, lsC]
                refine takeQ (i := 1) (v := ?vq11022) rfl (by kernel_rfl) (fun _ _ _ h => h) (by rfl) ?hq11022 (by assumption) ?rq11022
                case hq11022 => (intro u hu; (try dsimp only at hu); go_simp <;> with_reducible rfl)
                try simp only [Act.put, lsA, lsB, lsC]
                refine takeQ (i := 2) (v := ?vq11023) rfl (by kernel_rfl) (fun _ _ _ h => h) (by rfl) ?hq11023 (by assumption) ?rq11023
                case hq11023 => (intro u hu; (try dsimp only at hu); go_simp <;> with_reducible rfl)
                try simp only [Act.put, lsA, lsB, lsC]
                refine takeQ (i := 3) (v := ?vq11024) rfl (by kernel_rfl) (fun _ _ _ h => h) (by rfl) ?hq11024 (by assumption) ?rq11024
                case hq11024 => (intro u hu; (try dsimp only at hu); go_simp <;> with_reducible rfl)
                try simp only [Act.put, lsA, lsB, lsC]
                refine takeQ (i := 4) (v := ?vq11025) rfl (by kernel_rfl) (fun _ _ _ h => h) (by rfl) ?hq11025 (by assumption) ?rq11025
                case hq11025 => (intro u hu; (try dsimp only at hu); go_simp <;> with_reducible rfl)
                try simp only [Act.put, lsA, lsB, lsC]
                refine oneL (i := 5) (by kernel_rfl) rfl (fun K hK => ?_)
                go_simp
                refine (hname _).mono ?_
                rintro e w1 ⟨rfl, rfl⟩
                rw [hnm]
                dsimp only
                refine hK.out _ _ (by assumption) (fun hHeld => ?_)
                clear hK K
                try simp only [Act.put, lsA, lsB, lsC]
                refine takeQ (i := 6) (v := ?vq11026) rfl (by kernel_rfl) (fun _ _ _ h => h) (by rfl) ?hq11026 (by assumption) ?rq11026
                case hq11026 => (intro u hu; (try dsimp only at hu); go_simp <;> with_reducible rfl)
                try simp only [Act.put, lsA, lsB, lsC]
                refine takeQ (i := 7) (v := ?vq11027) rfl (by kernel_rfl) (fun _ _ _ h => h) (by rfl) ?hq11027 (by assumption) ?rq11027
                case hq11027 => (intro u hu; (try dsimp only at hu); go_simp <;> with_reducible rfl)
                try simp only [Act.put, lsA, lsB, lsC]
                refine takeQ (i := 8) (v := ?vq11028) rfl (by kernel_rfl) (fun _ _ _ h => h) (by rfl) ?hq11028 (by assumption) ?rq11028
                case hq11028 => (intro u hu; (try dsimp only at hu); go_simp <;> with_reducible rfl)
                try simp only [Act.put, lsA, lsB, lsC]
                refine takeQ (i := 9) (v := ?vq11029) rfl (by kernel_rfl) (fun _ _ _ h => h) (by rfl) ?hq11029 (by assumption) ?rq11029
                case hq11029 => (intro u hu; (try dsimp only at hu); go_simp <;> with_reducible rfl)
                try simp only [Act.put, lsA, lsB, lsC]
                refine takeQ (i := 10) (v := ?vq11030) rfl (by kernel_rfl) (fun _ _ _ h => h) (by rfl) ?hq11030 (by assumption) ?rq11030
                case hq11030 => (intro u hu; (try dsimp only at hu); go_simp <;> with_reducible rfl)
                try simp only [Act.put, lsA, lsB, lsC]
                refine takeQ (i := 11) (v := ?vq11031) rfl (by kernel_rfl) (fun _ _ _ h => h) (by rfl) ?hq11031 (by assumption) ?rq11031
                case hq11031 => (intro u hu; (try dsimp only at hu); go_simp <;> with_reducible rfl)
                try simp only [Act.put, lsA, lsB, lsC]
                refine takeQ (i := 12) (v := ?vq11032) rfl (by kernel_rfl) (fun _ _ _ h => h) (by rfl) ?hq11032 (by assumption) ?rq11032
                case hq11032 => (intro u hu; (try dsimp only at hu); go_simp <;> with_reducible rfl)
                try simp only [Act.put, lsA, lsB, lsC]
                refine takeQ (i := 13) (v := ?vq11033) rfl (by kernel_rfl) (fun _ _ _ h => h) (by rfl) ?hq11033 (by assumption) ?rq11033
                case hq11033 => (intro u hu; (try dsimp only at hu); go_simp <;> with_reducible rfl)
                try simp only [Act.put, lsA, lsB, lsC]
                refine takeQ (i := 14) (v := ?vq11034) rfl (by kernel_rfl) (fun _ _ _ h => h) (by rfl) ?hq11034 (by assumption) ?rq11034
                case hq11034 => (intro u hu; (try dsimp only at hu); go_simp <;> with_reducible rfl)
                try simp only [Act.put, lsA, lsB, lsC]
                refine takeQ (i := 15) (v := ?vq11035) rfl (by kernel_rfl) (fun _ _ _ h => h) (by rfl) ?hq11035 (by assumption) ?rq11035
                case hq11035 => (intro u hu; (try dsimp only at hu); go_simp <;> with_reducible rfl)
                try simp only [Act.put, lsA, lsB, lsC]
                refine takeQ (i := 16) (v := ?vq11036) rfl (by kernel_rfl) (fun _ _ _ h => h) (by rfl) ?hq11036 (by assumption) ?rq11036
                case hq11036 => (intro u hu; (try dsimp only at hu); go_simp <;> with_reducible rfl)
                try simp only [Act.put, lsA, lsB, lsC]
                refine takeQ (i := 17) (v := ?vq11037) rfl (by kernel_rfl) (fun _ _ _ h => h) (by rfl) ?hq11037 (by assumption) ?rq11037
                case hq11037 => (intro u hu; (try dsimp only at hu); go_simp <;> with_reducible rfl)
                try simp only [Act.put, lsA, lsB, lsC]
                refine takeQ (i := 18) (v := ?vq11038) rfl (by kernel_rfl) (fun _ _ _ h => h) (by rfl) ?hq11038 (by assumption) ?rq11038
                case hq11038 => (intro u hu; (try dsimp only at hu); go_simp <;> with_reducible rfl)
                try simp only [Act.put, lsA, lsB, lsC]
                refine takeQ (i := 19) (v := ?vq11039) rfl (by kernel_rfl) (fun _ _ _ h => h) (by rfl) ?hq11039 (by assumption) ?rq11039
                case hq11039 => (intro u hu; (try dsimp only at hu); go_simp <;> with_reducible rfl)
                try simp only [Act.put, lsA, lsB, lsC]
                refine takeQ (i := 20) (v := ?vq11040) rfl (by kernel_rfl) (fun _ _ _ h => h) (by rfl) ?hq11040 (by assumption) ?rq11040
                case hq11040 => (intro u hu; (try dsimp only at hu); go_simp <;> with_reducible rfl)
                try simp only [Act.put, lsA, lsB, lsC]
                refine takeQ (i := 21) (v := ?vq11041) rfl (by kernel_rfl) (fun _ _ _ h => h) (by rfl) ?hq11041 (by assumption) ?rq11041
                case hq11041 => (intro u hu; (try dsimp only at hu); go_simp <;> with_reducible rfl)
                try simp only [Act.put, lsA, lsB, lsC]
                refine takeQ (i := 22) (v := ?vq11042) rfl (by kernel_rfl) (fun _ _ _ h => h) (by rfl) ?hq11042 (by assumption) ?rq11042
                case hq11042 => (intro u hu; (try dsimp only at hu); go_simp <;> with_reducible rfl)
                try simp only [Act.put, lsA, lsB, lsC]
                refine takeQ (i := 23) (v := ?vq11043) rfl (by kernel_rfl) (fun _ _ _ h => h) (by rfl) ?hq11043 (by assumption) ?rq11043
                case hq11043 => (intro u hu; (try dsimp only at hu); go_simp <;> with_reducible rfl)
                try simp only [Act.put, lsA, lsB, lsC]
                refine takeQ (i := 24) (v := ?vq11044) rfl (by kernel_rfl) (fun _ _ _ h => h) (by rfl) ?hq11044 (by assumption) ?rq11044
                case hq11044 => (intro u hu; (try dsimp only at hu); go_simp <;> with_reducible rfl)
                try simp only [Act.put, lsA, lsB, lsC]
                refine wpAnyH_done (by kernel_rfl) ?_ _
                clear hS0 hHeld
                go_wp2
                go_returns
                exact ⟨by rw [hfl.out, hf.out]; rfl, chain hB ((Below.refl _ _).drew)⟩
              · have hq2 : (p.nm.toList == x.nm.toList) = false := by simpa using hq3
                have hq1 : bl p.nm.toList x.nm.toList = true := bl_total hbl (fun e => hq3 e.symm)
                go_wp2_with fail
                refine wp_region_heldH (S := (fun u => u.cell? ⟨b, o + k * 2, none⟩ = some (.string p.nm) ∧ u.cell? ⟨b, o + (k - 1) * 2, none⟩ = some (.string x.nm))) 25 (by kernel_rfl) rfl ?_
                refine takeQ (i := 0) (v := ?vq11045) rfl (by kernel_rfl) (fun _ _ _ h => h) (by rfl) ?hq11045 (by assumption) ?rq11045
                case hq11045 => (intro u hu; (try dsimp only at hu); go_simp <;> with_reducible rfl)
                try simp only [Act.put, lsA, lsB, lsC]
                refine takeQ (i := 1) (v := ?vq11046) rfl (by kernel_rfl) (fun _ _ _ h => h) (by rfl) ?hq11046 (by assumption) ?rq11046
                case hq11046 => (intro u hu; (try dsimp only at hu); go_simp <;> with_reducible rfl)
                try simp only [Act.put, lsA, lsB, lsC]
                refine takeQ (i := 2) (v := ?vq11047) rfl (by kernel_rfl) (fun _ _ _ h => h) (by rfl) ?hq11047 (by assumption) ?rq11047
                case hq11047 => (intro u hu; (try dsimp only at hu); go_simp <;> with_reducible rfl)
                try simp only [Act.put, lsA, lsB, lsC]
                refine takeQ (i := 3) (v := ?vq11048) rfl (by kernel_rfl) (fun _ _ _ h => h) (by rfl) ?hq11048 (by assumption) ?rq11048
                case hq11048 => (intro u hu; (try dsimp only at hu); go_simp <;> with_reducible rfl)
                try simp only [Act.put, lsA, lsB, lsC]
                refine takeQ (i := 4) (v := ?vq11049) rfl (by kernel_rfl) (fun _ _ _ h => h) (by rfl) ?hq11049 (by assumption) ?rq11049
                case hq11049 => (intro u hu; (try dsimp only at hu); go_simp <;> with_reducible rfl)
                try simp only [Act.put, lsA, lsB, lsC]
                refine oneL (i := 5) (by kernel_rfl) rfl (fun K hK => ?_)
                go_simp
                refine (hname _).mono ?_
                rintro e w1 ⟨rfl, rfl⟩
                rw [hnm]
                dsimp only
                refine hK.out _ _ (by assumption) (fun hHeld => ?_)
                clear hK K
                try simp only [Act.put, lsA, lsB, lsC]
                refine takeQ (i := 6) (v := ?vq11050) rfl (by kernel_rfl) (fun _ _ _ h => h) (by rfl) ?hq11050 (by assumption) ?rq11050
                case hq11050 => (intro u hu; (try dsimp only at hu); go_simp <;> with_reducible rfl)
                try simp only [Act.put, lsA, lsB, lsC]
                refine takeQ (i := 7) (v := ?vq11051) rfl (by kernel_rfl) (fun _ _ _ h => h) (by rfl) ?hq11051 (by assumption) ?rq11051
                case hq11051 => (intro u hu; (try dsimp only at hu); go_simp <;> with_reducible rfl)
                try simp only [Act.put, lsA, lsB, lsC]
                refine takeQ (i := 8) (v := ?vq11052) rfl (by kernel_rfl) (fun _ _ _ h => h) (by rfl) ?hq11052 (by assumption) ?rq11052
                case hq11052 => (intro u hu; (try dsimp only at hu); go_simp <;> with_reducible rfl)
                try simp only [Act.put, lsA, lsB, lsC]
                refine takeQ (i := 9) (v := ?vq11053) rfl (by kernel_rfl) (fun _ _ _ h => h) (by rfl) ?hq11053 (by assumption) ?rq11053
                case hq11053 => (intro u hu; (try dsimp only at hu); go_simp <;> with_reducible rfl)
                try simp only [Act.put, lsA, lsB, lsC]
                refine takeQ (i := 10) (v := ?vq11054) rfl (by kernel_rfl) (fun _ _ _ h => h) (by rfl) ?hq11054 (by assumption) ?rq11054
                case hq11054 => (intro u hu; (try dsimp only at hu); go_simp <;> with_reducible rfl)
                try simp only [Act.put, lsA, lsB, lsC]
                refine takeQ (i := 11) (v := ?vq11055) rfl (by kernel_rfl) (fun _ _ _ h => h) (by rfl) ?hq11055 (by assumption) ?rq11055
                case hq11055 => (intro u hu; (try dsimp only at hu); go_simp <;> with_reducible rfl)
                try simp only [Act.put, lsA, lsB, lsC]
                refine takeQ (i := 12) (v := ?vq11056) rfl (by kernel_rfl) (fun _ _ _ h => h) (by rfl) ?hq11056 (by assumption) ?rq11056
                case hq11056 => (intro u hu; (try dsimp only at hu); go_simp <;> with_reducible rfl)
                try simp only [Act.put, lsA, lsB, lsC]
                refine takeQ (i := 13) (v := ?vq11057) rfl (by kernel_rfl) (fun _ _ _ h => h) (by rfl) ?hq11057 (by assumption) ?rq11057
                case hq11057 => (intro u hu; (try dsimp only at hu); go_simp <;> with_reducible rfl)
                try simp only [Act.put, lsA, lsB, lsC]
                refine takeQ (i := 14) (v := ?vq11058) rfl (by kernel_rfl) (fun _ _ _ h => h) (by rfl) ?hq11058 (by assumption) ?rq11058
                case hq11058 => (intro u hu; (try dsimp only at hu); go_simp <;> with_reducible rfl)
                try simp only [Act.put, lsA, lsB, lsC]
                refine takeQ (i := 15) (v := ?vq11059) rfl (by kernel_rfl) (fun _ _ _ h => h) (by rfl) ?hq11059 (by assumption) ?rq11059
                case hq11059 => (intro u hu; (try dsimp only at hu); go_simp <;> with_reducible rfl)
                try simp only [Act.put, lsA, lsB, lsC]
                refine takeQ (i := 16) (v := ?vq11060) rfl (by kernel_rfl) (fun _ _ _ h => h) (by rfl) ?hq11060 (by assumption) ?rq11060
                case hq11060 => (intro u hu; (try dsimp only at hu); go_simp <;> with_reducible rfl)
                try simp only [Act.put, lsA, lsB, lsC]
                refine takeQ (i := 17) (v := ?vq11061) rfl (by kernel_rfl) (fun _ _ _ h => h) (by rfl) ?hq11061 (by assumption) ?rq11061
                case hq11061 => (intro u hu; (try dsimp only at hu); go_simp <;> with_reducible rfl)
                try simp only [Act.put, lsA, lsB, lsC]
                refine takeQ (i := 18) (v := ?vq11062) rfl (by kernel_rfl) (fun _ _ _ h => h) (by rfl) ?hq11062 (by assumption) ?rq11062
                case hq11062 => (intro u hu; (try dsimp only at hu); go_simp <;> with_reducible rfl)
                try simp only [Act.put, lsA, lsB, lsC]
                refine takeQ (i := 19) (v := ?vq11063) rfl (by kernel_rfl) (fun _ _ _ h => h) (by rfl) ?hq11063 (by assumption) ?rq11063
                case hq11063 => (intro u hu; (try dsimp only at hu); go_simp <;> with_reducible rfl)
                try simp only [Act.put, lsA, lsB, lsC]
                refine takeQ (i := 20) (v := ?vq11064) rfl (by kernel_rfl) (fun _ _ _ h => h) (by rfl) ?hq11064 (by assumption) ?rq11064
                case hq11064 => (intro u hu; (try dsimp only at hu); go_simp <;> with_reducible rfl)
                try simp only [Act.put, lsA, lsB, lsC]
                refine takeQ (i := 21) (v := ?vq11065) rfl (by kernel_rfl) (fun _ _ _ h => h) (by rfl) ?hq11065 (by assumption) ?rq11065
                case hq11065 => (intro u hu; (try dsimp only at hu); go_simp <;> with_reducible rfl)
                try simp only [Act.put, lsA, lsB, lsC]
                refine takeQ (i := 22) (v := ?vq11066) rfl (by kernel_rfl) (fun _ _ _ h => h) (by rfl) ?hq11066 (by assumption) ?rq11066
                case hq11066 => (intro u hu; (try dsimp only at hu); go_simp <;> with_reducible rfl)
                try simp only [Act.put, lsA, lsB, lsC]
                refine takeQ (i := 23) (v := ?vq11067) rfl (by kernel_rfl) (fun _ _ _ h => h) (by rfl) ?hq11067 (by assumption) ?rq11067
                case hq11067 => (intro u hu; (try dsimp only at hu); go_simp <;> with_reducible rfl)
                try simp only [Act.put, lsA, lsB, lsC]
                refine takeQ (i := 24) (v := ?vq11068) rfl (by kernel_rfl) (fun _ _ _ h => h) (by rfl) ?hq11068 (by assumption) ?rq11068
                case hq11068 => (intro u hu; (try dsimp only at hu); go_simp <;> with_reducible rfl)
                try simp only [Act.put, lsA, lsB, lsC]
                refine wpAnyH_done (by kernel_rfl) ?_ _
                clear hS0 hHeld
                go_wp2
                go_returns
                exact ⟨by rw [hfl.out, hf.out]; rfl, chain hB ((Below.refl _ _).drew)⟩
            · have hnx : Hid (fgo none l = fgo (prevF l (k + 1)) (l.drop (k + 1))) := by show _ = _; rw [hI.out, hpx.out, hgo, hnm, hpv.out]; simp [hbl]
              clear hgo
              have hq1 : bl p.nm.toList x.nm.toList = false := bl_asymm hbl
              have hq3 : ¬ p.nm.toList = x.nm.toList := fun e => by rw [e, bl_irrefl] at hbl; cases hbl
              have hq2 : (p.nm.toList == x.nm.toList) = false := by simpa using hq3
              have hS0 : (fun u => u.cell? ⟨b, o + k * 2, none⟩ = some (.string p.nm) ∧ u.cell? ⟨b, o + (k - 1) * 2, none⟩ = some (.string x.nm)) wr.drew := ⟨c0, e0⟩
              go_wp2_with fail
              refine wp_region_heldH (S := (fun u => u.cell? ⟨b, o + k * 2, none⟩ = some (.string p.nm) ∧ u.cell? ⟨b, o + (k - 1) * 2, none⟩ = some (.string x.nm))) 25 (by kernel_rfl) rfl ?_
              refine takeQ (i := 0) (v := ?vq11069) rfl (by kernel_rfl) (fun _ _ _ h => h) (by rfl) ?hq11069 (by assumption) ?rq11069
              case hq11069 => (intro u hu; (try dsimp only at hu); go_simp <;> with_reducible rfl)
              try simp only [Act.put, lsA, lsB, lsC]
              refine takeQ (i := 1) (v := ?vq11070) rfl (by kernel_rfl) (fun _ _ _ h => h) (by rfl) ?hq11070 (by assumption) ?rq11070
              case hq11070 => (intro u hu; (try dsimp only at hu); go_simp <;> with_reducible rfl)
              try simp only [Act.put, lsA, lsB, lsC]
              refine takeQ (i := 2) (v := ?vq11071) rfl (by kernel_rfl) (fun _ _ _ h => h) (by rfl) ?hq11071 (by assumption) ?rq11071
              case hq11071 => (intro u hu; (try dsimp only at hu); go_simp <;> with_reducible rfl)
              try simp only [Act.put, lsA, lsB, lsC]
              refine takeQ (i := 3) (v := ?vq11072) rfl (by kernel_rfl) (fun _ _ _ h => h) (by rfl) ?hq11072 (by assumption) ?rq11072
              case hq11072 => (intro u hu; (try dsimp only at hu); go_simp <;> with_reducible rfl)
              try simp only [Act.put, lsA, lsB, lsC]
              refine takeQ (i := 4) (v := ?vq11073) rfl (by kernel_rfl) (fun _ _ _ h => h) (by rfl) ?hq11073 (by assumption) ?rq11073
              case hq11073 => (intro u hu; (try dsimp only at hu); go_simp <;> with_reducible rfl)
              try simp only [Act.put, lsA, lsB, lsC]
              refine oneL (i := 5) (by kernel_rfl) rfl (fun K hK => ?_)
              go_simp
              refine (hname _).mono ?_
              rintro e w1 ⟨rfl, rfl⟩
              rw [hnm]
              dsimp only
              refine hK.out _ _ (by assumption) (fun hHeld => ?_)
              clear hK K
              try simp only [Act.put, lsA, lsB, lsC]
              refine takeQ (i := 6) (v := ?vq11074) rfl (by kernel_rfl) (fun _ _ _ h => h) (by rfl) ?hq11074 (by assumption) ?rq11074
              case hq11074 => (intro u hu; (try dsimp only at hu); go_simp <;> with_reducible rfl)
              try simp only [Act.put, lsA, lsB, lsC]
              refine takeQ (i := 7) (v := ?vq11075) rfl (by kernel_rfl) (fun _ _ _ h => h) (by rfl) ?hq11075 (by assumption) ?rq11075
              case hq11075 => (intro u hu; (try dsimp only at hu); go_simp <;> with_reducible rfl)
              try simp only [Act.put, lsA, lsB, lsC]
              refine takeQ (i := 8) (v := ?vq11076) rfl (by kernel_rfl) (fun _ _ _ h => h) (by rfl) ?hq11076 (by assumption) ?rq11076
              case hq11076 => (intro u hu; (try dsimp only at hu); go_simp <;> with_reducible rfl)
              try simp only [Act.put, lsA, lsB, lsC]
              refine takeQ (i := 9) (v := ?vq11077) rfl (by kernel_rfl) (fun _ _ _ h => h) (by rfl) ?hq11077 (by assumption) ?rq11077
              case hq11077 => (intro u hu; (try dsimp only at hu); go_simp <;> with_reducible rfl)
              try simp only [Act.put, lsA, lsB, lsC]
              refine takeQ (i := 10) (v := ?vq11078) rfl (by kernel_rfl) (fun _ _ _ h => h) (by rfl) ?hq11078 (by assumption) ?rq11078
              case hq11078 => (intro u hu; (try dsimp only at hu); go_simp <;> with_reducible rfl)
              try simp only [Act.put, lsA, lsB, lsC]
              refine takeQ (i := 11) (v := ?vq11079) rfl (by kernel_rfl) (fun _ _ _ h => h) (by rfl) ?hq11079 (by assumption) ?rq11079
              case hq11079 => (intro u hu; (try dsimp only at hu); go_simp <;> with_reducible rfl)
              try simp only [Act.put, lsA, lsB, lsC]
              refine takeQ (i := 12) (v := ?vq11080) rfl (by kernel_rfl) (fun _ _ _ h => h) (by rfl) ?hq11080 (by assumption) ?rq11080
              case hq11080 => (intro u hu; (try dsimp only at hu); go_simp <;> with_reducible rfl)
              try simp only [Act.put, lsA, lsB, lsC]
              refine takeQ (i := 13) (v := ?vq11081) rfl (by kernel_rfl) (fun _ _ _ h => h) (by rfl) ?hq11081 (by assumption) ?rq11081
              case hq11081 => (intro u hu; (try dsimp only at hu); go_simp <;> with_reducible rfl)
              try simp only [Act.put, lsA, lsB, lsC]
              refine takeQ (i := 14) (v := ?vq11082) rfl (by kernel_rfl) (fun _ _ _ h => h) (by rfl) ?hq11082 (by assumption) ?rq11082
              case hq11082 => (intro u hu; (try dsimp only at hu); go_simp <;> with_reducible rfl)
              try simp only [Act.put, lsA, lsB, lsC]
              refine takeQ (i := 15) (v := ?vq11083) rfl (by kernel_rfl) (fun _ _ _ h => h) (by rfl) ?hq11083 (by assumption) ?rq11083
              case hq11083 => (intro u hu; (try dsimp only at hu); go_simp <;> with_reducible rfl)
              try simp only [Act.put, lsA, lsB, lsC]
              refine takeQ (i := 16) (v := ?vq11084) rfl (by kernel_rfl) (fun _ _ _ h => h) (by rfl) ?hq11084 (by assumption) ?rq11084
              case hq11084 => (intro u hu; (try dsimp only at hu); go_simp <;> with_reducible rfl)
              try simp only [Act.put, lsA, lsB, lsC]
              refine takeQ (i := 17) (v := ?vq11085) rfl (by kernel_rfl) (fun _ _ _ h => h) (by rfl) ?hq11085 (by assumption) ?rq11085
              case hq11085 => (intro u hu; (try dsimp only at hu); go_simp <;> with_reducible rfl)
              try simp only [Act.put, lsA, lsB, lsC]
              refine takeQ (i := 18) (v := ?vq11086) rfl (by kernel_rfl) (fun _ _ _ h => h) (by rfl) ?hq11086 (by assumption) ?rq11086
              case hq11086 => (intro u hu; (try dsimp only at hu); go_simp <;> with_reducible rfl)
              try simp only [Act.put, lsA, lsB, lsC]
              refine takeQ (i := 19) (v := ?vq11087) rfl (by kernel_rfl) (fun _ _ _ h => h) (by rfl) ?hq11087 (by assumption) ?rq11087
              case hq11087 => (intro u hu; (try dsimp only at hu); go_simp <;> with_reducible rfl)
              try simp only [Act.put, lsA, lsB, lsC]
              refine takeQ (i := 20) (v := ?vq11088) rfl (by kernel_rfl) (fun _ _ _ h => h) (by rfl) ?hq11088 (by assumption) ?rq11088
              case hq11088 => (intro u hu; (try dsimp only at hu); go_simp <;> with_reducible rfl)
              try simp only [Act.put, lsA, lsB, lsC]
              refine takeQ (i := 21) (v := ?vq11089) rfl (by kernel_rfl) (fun _ _ _ h => h) (by rfl) ?hq11089 (by assumption) ?rq11089
              case hq11089 => (intro u hu; (try dsimp only at hu); go_simp <;> with_reducible rfl)
              try simp only [Act.put, lsA, lsB, lsC]
              refine takeQ (i := 22) (v := ?vq11090) rfl (by kernel_rfl) (fun _ _ _ h => h) (by rfl) ?hq11090 (by assumption) ?rq11090
              case hq11090 => (intro u hu; (try dsimp only at hu); go_simp <;> with_reducible rfl)
              try simp only [Act.put, lsA, lsB, lsC]
              refine takeQ (i := 23) (v := ?vq11091) rfl (by kernel_rfl) (fun _ _ _ h => h) (by rfl) ?hq11091 (by assumption) ?rq11091
              case hq11091 => (intro u hu; (try dsimp only at hu); go_simp <;> with_reducible rfl)
              try simp only [Act.put, lsA, lsB, lsC]
              refine takeQ (i := 24) (v := ?vq11092) rfl (by kernel_rfl) (fun _ _ _ h => h) (by rfl) ?hq11092 (by assumption) ?rq11092
              case hq11092 => (intro u hu; (try dsimp only at hu); go_simp <;> with_reducible rfl)
              try simp only [Act.put, lsA, lsB, lsC]
              refine wpAnyH_done (by kernel_rfl) ?_ _
              clear hS0 hHeld
              have c1' : wr.drew.cell? ⟨b, o + k * 2 + 1, none⟩ = some (.string p.d) := c1
              have hsw : IntKind.i64.wrap ((sb : Int) + (p.d.size : Int)) = (sb : Int) + (p.d.size : Int) := by rw [IntKind.wrap_i64]; omega
              go_wp2
              go_roundw
              case rel => exact ⟨k + 1, by omega, by go_num, by rw [hst.out]; go_num, hnx, chain hB ((Below.refl _ _).drew)⟩
              case measure => simp [intOf]; omega
      · obtain rfl : k = n := by omega
        have hall : Hid (fgo none l = true) := by
          show _ = _
          rw [hI.out, List.drop_of_length_le (Nat.le_of_eq hlen.out)]; rfl
        rw [List.take_of_length_le (Nat.le_of_eq hlen.out)]
        clear hI
        have hf : Hid (decide ((sumB l : Int) ≤ 200000) = filesB l) := by
          show _ = _
          have h2 : ((sumB l : Int) ≤ 200000) ↔ sumB l ≤ 200000 := by omega
          rw [hfl.out, hall.out]
          simp [h2]
        go_wp2
        go_returns
        exact ⟨ret_bool hf.out, hB⟩
  · have h60' : (60 : Int) < n := by omega
    have hf : Hid (filesB l = false) := by show _ = _; simp [filesB, hlen.out, h60]
    go_enter Tryz.func137, Tryz.ntmps137
    go_wp2
    go_returns
    exact ⟨ret_bool hf.out.symm, Below.refl _ _⟩
end Go.Proofs.YtigldeccfpkdmaaGreatDoor
