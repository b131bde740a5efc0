/- ownerOk of the program, l3Owner of the model. -/
import Derived.Test.YtbmkedickkpjjaaProg
import Derived.Test.YtbmkedickkpjjaaNa
import Derived.Test.YtbmkedickkpjjaaNc
namespace Go.Proofs.Ytbmkedickkpjjaa
open Go.RowKit Go.BigFrame

def ownerOkB (o : Ow) : Bool := decide (1 ≤ o.a) && decide (o.a ≤ 400) && decide (1 ≤ o.v) && decide (o.v ≤ 1000000000) && nameB o.f

set_option maxHeartbeats 400000 in
theorem impl_ownerOk (p : Ow) (w : World) (hd : p.f.size ≤ 9223372036854775807) :
    Calls Try.prog 139 #[.agg #[.int .i64 p.a, .int .i64 p.v, .string p.f]] w fun e w' => e = .returned (.bool (ownerOkB p)) ∧ Below w.heap.size w w' := by
  by_cases h : 1 ≤ p.a ∧ p.a ≤ 400 ∧ 1 ≤ p.v ∧ p.v ≤ 1000000000
  · have hfin : Hid (ownerOkB p = nameB p.f) := by show _ = _; simp [ownerOkB, h]
    generalize ownerOkB p = R at *
    obtain ⟨a, v, f⟩ := p
    simp only at *
    obtain ⟨h1, h2, h3, h4⟩ := h
    go_enter Try.func139, Try.ntmps139
    go_wp2_with fail
    refine (impl_NameOk f _ hd).mono ?_
    rintro e w1 ⟨rfl, rfl⟩
    go_wp2
    go_returns
    go_light
    exact ⟨ret_bool hfin.out.symm, by go_grown⟩
  · have hfin : Hid (ownerOkB p = false) := by show _ = _; simp [ownerOkB]; omega
    generalize ownerOkB p = R at *
    obtain ⟨a, v, f⟩ := p
    simp only at *
    go_enter Try.func139, Try.ntmps139
    go_wp2
    all_goals go_returns
    all_goals go_light
    all_goals exact ⟨ret_bool hfin.out.symm, by go_grown⟩

set_option maxHeartbeats 400000 in
theorem spec_l3Owner (p : Ow) (w : World) (hd : p.f.size ≤ 9223372036854775807) :
    Calls Try.prog 140 #[.agg #[.int .i64 p.a, .int .i64 p.v, .string p.f]] w fun e w' => e = .returned (.bool (ownerOkB p)) ∧ Below w.heap.size w w' := by
  have hfin : Hid (ownerOkB p = ((decide (1 ≤ p.a) && decide (p.a ≤ 400)) && (decide (1 ≤ p.v) && decide (p.v ≤ 1000000000)) && nameB p.f)) := by show _ = _; simp [ownerOkB, Bool.and_assoc]
  generalize ownerOkB p = R at *
  obtain ⟨a, v, f⟩ := p
  simp only at *
  cases h1 : (decide (1 ≤ a) && decide (a ≤ 400))
  · go_enter Try.func140, Try.ntmps140
    go_wp2_with fail
    refine (spec_l1In _ _ _ _).mono ?_
    rintro e w1 ⟨rfl, rfl⟩
    rw [h1]
    go_wp2
    go_returns
    go_light
    exact ⟨ret_bool (by rw [hfin.out, h1]; rfl), by go_grown⟩
  · cases h2 : (decide (1 ≤ v) && decide (v ≤ 1000000000))
    · go_enter Try.func140, Try.ntmps140
      go_wp2_with fail
      refine (spec_l1In _ _ _ _).mono ?_
      rintro e w1 ⟨rfl, rfl⟩
      rw [h1]
      go_wp2_with fail
      refine (spec_l1In _ _ _ _).mono ?_
      rintro e w1 ⟨rfl, rfl⟩
      rw [h2]
      go_wp2
      go_returns
      go_light
      exact ⟨ret_bool (by rw [hfin.out, h1, h2]; rfl), by go_grown⟩
    · go_enter Try.func140, Try.ntmps140
      go_wp2_with fail
      refine (spec_l1In _ _ _ _).mono ?_
      rintro e w1 ⟨rfl, rfl⟩
      rw [h1]
      go_wp2_with fail
      refine (spec_l1In _ _ _ _).mono ?_
      rintro e w1 ⟨rfl, rfl⟩
      rw [h2]
      go_wp2_with fail
      refine (spec_NameOk f _ hd).mono ?_
      rintro e w1 ⟨rfl, rfl⟩
      go_wp2
      go_returns
      go_light
      exact ⟨ret_bool (by rw [hfin.out, h1, h2]; rfl), by go_grown⟩
end Go.Proofs.Ytbmkedickkpjjaa
