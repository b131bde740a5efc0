/- The parts: partOk, goesOn, PartsOk of the program: each returns what the plain function gives, and turns nothing that was there. -/
import Derived.Test.YtbmkedickkpjjaaProg
import Derived.Test.YtbmkedickkpjjaaBase
namespace Go.Proofs.Ytbmkedickkpjjaa
open Go.RowKit

theorem impl_partOk (p : Pt) (w : World) :
    Calls Try.prog 129 #[.agg #[.int .i64 p.a, .int .i64 p.f, .int .i64 p.n]] w fun e w' => e = .returned (.bool (partOkB p)) ∧ Below w.heap.size w w' := by
  obtain ⟨a, f, n⟩ := p
  go_enter Try.func129, Try.ntmps129
  go_wp2
  all_goals go_returns
  all_goals go_light
  all_goals refine ⟨?_, by go_grown⟩
  all_goals simp [partOkB, *]
  all_goals try omega

theorem impl_goesOn (p q : Pt) (w : World) :
    Calls Try.prog 130 #[.agg #[.int .i64 p.a, .int .i64 p.f, .int .i64 p.n], .agg #[.int .i64 q.a, .int .i64 q.f, .int .i64 q.n]] w fun e w' => e = .returned (.bool (goesOnB p q)) ∧ Below w.heap.size w w' := by
  obtain ⟨a, f, n⟩ := p
  obtain ⟨b, g, m⟩ := q
  go_enter Try.func130, Try.ntmps130
  go_wp2
  all_goals go_returns
  all_goals go_light
  all_goals refine ⟨?_, by go_grown⟩
  all_goals simp_all [goesOnB]

theorem impl_PartsOk (a : Option Addr) (n cap : Nat) (l : List Pt) (w : World) (h : PtsAt w a n l) (hn : n ≤ 4194304) :
    Calls Try.prog 55 #[.slice a n cap] w fun e w' => e = .returned (.bool (partsOkB l)) ∧ Below w.heap.size w w' := by
  have hlen := h.len
  by_cases h16 : n ≤ 16
  · have hfin : Hid (partsOkB l = pgo none 100 l) := by show _ = _; simp [partsOkB, hlen, h16]
    have hlen' : Hid (l.length = n) := hlen
    clear hlen
    go_enter Try.func55, Try.ntmps55
    go_wp2_with fail
    go_loopw [2, 3, 4, 5, 11] (fun r left i p ix wr => ∃ (k : Nat) (lf : Int), k ≤ n ∧ ix = .int .i64 k ∧ left = .int .i64 lf ∧ 0 ≤ lf ∧ lf ≤ 100 ∧ Hid (pgo none 100 l = pgo (ahead l k) lf (l.drop k)) ∧ Below w.heap.size w wr) (fun _ _ _ _ ix _ => n - (intOf ix).toNat)
    case atStart => exact ⟨0, 100, Nat.zero_le _, rfl, rfl, by omega, by omega, rfl, Below.refl _ _⟩
    case round =>
      obtain ⟨k, lf, hk, rfl, rfl, hf0, hf1, hI, hB⟩ := hrel
      by_cases hlt : k < n
      · obtain ⟨b, o, p, rfl, hp, c0, c1, c2⟩ := pts_at (h.below hB) hlt
        have hd : Hid (l.drop k = p :: l.drop (k + 1)) := drop_at hp
        have hq : Hid (l[k]? = some p) := hp
        clear hp
        have hwr : w.heap.size ≤ wr.heap.size := hB.size
        cases hpo : partOkB p
        · go_wp2_with fail
          refine (impl_partOk p _).mono ?_
          rintro e w1 ⟨rfl, hB1⟩
          obtain ⟨x0, x1, x2, hB1', hs1⟩ := box3 hB1
          rw [hpo]
          go_wp2_with fail
          go_returns
          go_light
          refine ⟨ret_bool ?_, chain hB hB1'⟩
          rw [hfin.out, hI.out, hd.out]; cases ahead l k <;> simp [pgo, hpo]
        by_cases hle : p.n ≤ lf
        · rcases k with _ | j
          · simp only [Nat.zero_mul, Nat.add_zero] at c0 c1 c2
            go_wp2_with fail
            refine (impl_partOk p _).mono ?_
            rintro e w1 ⟨rfl, hB1⟩
            rw [hpo]
            obtain ⟨x0, x1, x2, hB1', hs1⟩ := box3 hB1
            clear hB1 c0 c1 c2
            have hp1 := partOkB_pos hpo
            go_wp2_with fail
            go_quiet (fail)
            go_wp2
            go_roundw
            case rel => exact ⟨1, lf - p.n, by omega, by go_num, by go_num, by omega, by omega, by show _ = _; rw [hI.out, hd.out, ahead_zero, ahead_succ, hq.out]; simp [pgo, hpo, hle], chain hB (chain hB1' (drewNB _ _))⟩
            case measure => simp [intOf]; omega
          · obtain ⟨b', o', q, hbo, hq', d0, d1, d2⟩ := pts_at (h.below hB) (k := j) (by omega)
            obtain ⟨rfl, rfl⟩ : b = b' ∧ o = o' := by simpa using hbo
            have ha : Hid (ahead l (j + 1) = some q) := by show _ = _; rw [ahead_succ]; exact hq'
            clear hq' hbo
            have hp1 := partOkB_pos hpo
            cases hgo : goesOnB q p
            all_goals
              go_wp2_with fail
              refine (impl_partOk p _).mono ?_
              rintro e w1 ⟨rfl, hB1⟩
              rw [hpo]
              obtain ⟨x0, x1, x2, hB1', hs1⟩ := box3 hB1
              clear hB1
              replace d0 := bcell hB1' d0
              replace d1 := bcell hB1' d1
              replace d2 := bcell hB1' d2
              clear c0 c1 c2
              have hj : (0 : Int) < (j : Int) + 1 := by omega
              have hj1 : (j : Int) < n := by omega
              have hj2 : (0 : Int) ≤ j := by omega
              have hw1 : IntKind.i64.wrap ((j : Int) + 1 - 1) = (j : Int) := by rw [IntKind.wrap_i64]; omega
              have hw2 : IntKind.i64.wrap (j : Int) = (j : Int) := by rw [IntKind.wrap_i64]; omega
              go_wp2_with fail
              go_region_held3 (fun w' => w'.cell? ⟨b, o + j * 3, none⟩ = some (.int .i64 q.a) ∧ w'.cell? ⟨b, o + j * 3 + 1, none⟩ = some (.int .i64 q.f) ∧ w'.cell? ⟨b, o + j * 3 + 2, none⟩ = some (.int .i64 q.n) ∧ w'.cell? ⟨wr.heap.size, 0, none⟩ = some (.int .i64 p.a) ∧ w'.cell? ⟨wr.heap.size, 1, none⟩ = some (.int .i64 p.f) ∧ w'.cell? ⟨wr.heap.size, 2, none⟩ = some (.int .i64 p.n)) (go_keep)
                (first | (go_at_call 130; refine (impl_goesOn q p _).mono ?_; rintro e w2 ⟨rfl, hB2⟩; have y0 := bcell hB2 d0; have y1 := bcell hB2 d1; have y2 := bcell hB2 d2; have z0 := bcell hB2 x0; have z1 := bcell hB2 x1; have z2 := bcell hB2 x2))
              go_wp2
            · go_roundw
              case rel => exact ⟨j + 2, lf - p.n, by omega, by go_num, by go_num, by omega, by omega, by show _ = _; rw [hI.out, hd.out, ha.out, ahead_succ, hq.out]; simp [pgo, hpo, hle, hgo], chain hB (chain hB1' (undrew hB2))⟩
              case measure => simp [intOf]; omega
            · go_returns
              go_light
              refine ⟨ret_bool ?_, chain hB (chain hB1' (undrew hB2))⟩
              rw [hfin.out, hI.out, hd.out, ha.out]; simp [pgo, hgo]
        · go_wp2_with fail
          refine (impl_partOk p _).mono ?_
          rintro e w1 ⟨rfl, hB1⟩
          rw [hpo]
          obtain ⟨x0, x1, x2, hB1', hs1⟩ := box3 hB1
          go_wp2
          go_returns
          go_light
          refine ⟨ret_bool ?_, chain hB hB1'⟩
          have hle' : ¬ p.n ≤ lf := by omega
          rw [hfin.out, hI.out, hd.out]; cases ahead l k <;> simp [pgo, hle']
      · obtain rfl : k = n := by omega
        go_wp2
        go_returns
        go_light
        refine ⟨ret_bool ?_, hB⟩
        rw [hfin.out, hI.out, List.drop_of_length_le (Nat.le_of_eq hlen'.out)]; cases ahead l k <;> rfl
  · go_enter Try.func55, Try.ntmps55
    go_wp2
    go_returns
    go_light
    refine ⟨ret_bool ?_, Below.refl _ _⟩
    simp [partsOkB, hlen]; omega
end Go.Proofs.Ytbmkedickkpjjaa
