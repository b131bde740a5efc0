/- OpOk of the model: one Kind. OpOk of the model: one Kind. OpOk of the model: one Kind. OpOk of the model, at every Kind. -/
import Derived.Test.YtbjejnkeekndbaaKm
import Derived.Deep.DeepCutAuto
import Derived.Test.YtbjejnkeekndbaaKn
import Derived.Test.YtbjejnkeekndbaaKo
namespace Go.Proofs.Ytbjejnkeekndbaa
open Go.RowKit Go.BigFrame

set_option maxHeartbeats 4000000 in
set_option maxRecDepth 100000 in
theorem spec_OpOk8 (vol file tt into : ByteArray) (at' fr ln : Int) (data : ByteArray) (w : World) (hs : StrO ⟨8, vol, file, tt, into, at', fr, ln, data⟩) :
    Calls Try.prog 76 #[.agg #[.int .i64 8, .string vol, .string file, .string tt, .string into, .int .i64 at', .int .i64 fr, .int .i64 ln, .string data]] w fun e w' => e = .returned (.bool (opB ⟨8, vol, file, tt, into, at', fr, ln, data⟩)) ∧ Below w.heap.size w w' := by
  have hv := hs.vol
  have hf := hs.file
  have ht := hs.to
  have hi := hs.into
  have hd := hs.data
  dsimp only at hv hf ht hi hd
  clear hs
  have hfin : Hid (opB ⟨8, vol, file, tt, into, at', fr, ln, data⟩ = (nameB vol && (zB file && ((zB tt && zB into) && (at' == 0 && (fr == 0 && (ln == 0 && zB data))))))) := by
    show _ = _
    simp [opB, Bool.and_assoc]
  generalize opB ⟨8, vol, file, tt, into, at', fr, ln, data⟩ = R at *
  go_enter Try.func76, Try.ntmps76
  go_upto_region 1 with fail
  go_cut [3] (fun s wc => s = .bool (at' == 0 && (fr == 0 && (ln == 0 && zB data))) ∧ wc = w.alloc (.cells #[.int .i64 8, .string vol, .string file, .string tt, .string into, .int .i64 at', .int .i64 fr, .int .i64 ln, .string data] 97))
  case first =>
    cases h1 : (at' == 0)
    case false =>
      go_wp2
      go_meet
      exact ⟨by rw [h1]; rfl, rfl⟩
    cases h2 : (fr == 0)
    case false =>
      go_wp2
      go_meet
      exact ⟨by rw [h1, h2]; rfl, rfl⟩
    cases h3 : (ln == 0)
    case false =>
      go_wp2
      go_meet
      exact ⟨by rw [h1, h2, h3]; rfl, rfl⟩
    go_wp2
    go_meet
    exact ⟨by rw [h1, h2, h3]; simp [zB], rfl⟩
  case rest =>
    obtain ⟨rfl, rfl⟩ := hcut
    go_upto_region 2 with fail
    go_cut [4] (fun s wc => s = .bool (zB tt && zB into) ∧ wc = w.alloc (.cells #[.int .i64 8, .string vol, .string file, .string tt, .string into, .int .i64 at', .int .i64 fr, .int .i64 ln, .string data] 97))
    case first =>
      go_wp2
      all_goals go_meet
      all_goals (refine ⟨?_, rfl⟩; simp_all [zB])
    case rest =>
      obtain ⟨rfl, rfl⟩ := hcut
      generalize hB : (at' == 0 && (fr == 0 && (ln == 0 && zB data))) = B at *
      generalize hT : (zB tt && zB into) = T at *
      go_wp2_with fail
      refine (spec_l1In at' 0 100 _).mono ?_
      rintro e w1 ⟨rfl, rfl⟩
      generalize hC1 : (decide (0 ≤ at') && decide (at' ≤ 100)) = C1
      go_wp2_with fail
      refine (spec_l1In ln 1 100 _).mono ?_
      rintro e w1 ⟨rfl, rfl⟩
      generalize hC2 : (decide (1 ≤ ln) && decide (ln ≤ 100)) = C2
      go_wp2_with fail
      refine (spec_NameOk vol _ hv).mono ?_
      rintro e w1 ⟨rfl, rfl⟩
      cases h_vol : nameB vol
      case false =>
        go_wp2
        all_goals go_returns
        all_goals go_light
        all_goals refine ⟨ret_bool ?_, by go_grown⟩
        all_goals rw [hfin.out]
        all_goals simp_all [zB]
      go_wp2
      all_goals go_returns
      all_goals go_light
      all_goals refine ⟨ret_bool ?_, by go_grown⟩
      all_goals rw [hfin.out]
      all_goals simp_all [zB]
end Go.Proofs.Ytbjejnkeekndbaa
namespace Go.Proofs.Ytbjejnkeekndbaa
open Go.RowKit Go.BigFrame

set_option maxHeartbeats 4000000 in
set_option maxRecDepth 100000 in
theorem spec_OpOk9 (vol file tt into : ByteArray) (at' fr ln : Int) (data : ByteArray) (w : World) (hs : StrO ⟨9, vol, file, tt, into, at', fr, ln, data⟩) :
    Calls Try.prog 76 #[.agg #[.int .i64 9, .string vol, .string file, .string tt, .string into, .int .i64 at', .int .i64 fr, .int .i64 ln, .string data]] w fun e w' => e = .returned (.bool (opB ⟨9, vol, file, tt, into, at', fr, ln, data⟩)) ∧ Below w.heap.size w w' := by
  have hv := hs.vol
  have hf := hs.file
  have ht := hs.to
  have hi := hs.into
  have hd := hs.data
  dsimp only at hv hf ht hi hd
  clear hs
  have hfin : Hid (opB ⟨9, vol, file, tt, into, at', fr, ln, data⟩ = (zB vol && (zB file && ((zB tt && zB into) && (at' == 0 && (fr == 0 && (ln == 0 && zB data))))))) := by
    show _ = _
    simp [opB, Bool.and_assoc]
  generalize opB ⟨9, vol, file, tt, into, at', fr, ln, data⟩ = R at *
  go_enter Try.func76, Try.ntmps76
  go_upto_region 1 with fail
  go_cut [3] (fun s wc => s = .bool (at' == 0 && (fr == 0 && (ln == 0 && zB data))) ∧ wc = w.alloc (.cells #[.int .i64 9, .string vol, .string file, .string tt, .string into, .int .i64 at', .int .i64 fr, .int .i64 ln, .string data] 97))
  case first =>
    cases h1 : (at' == 0)
    case false =>
      go_wp2
      go_meet
      exact ⟨by rw [h1]; rfl, rfl⟩
    cases h2 : (fr == 0)
    case false =>
      go_wp2
      go_meet
      exact ⟨by rw [h1, h2]; rfl, rfl⟩
    cases h3 : (ln == 0)
    case false =>
      go_wp2
      go_meet
      exact ⟨by rw [h1, h2, h3]; rfl, rfl⟩
    go_wp2
    go_meet
    exact ⟨by rw [h1, h2, h3]; simp [zB], rfl⟩
  case rest =>
    obtain ⟨rfl, rfl⟩ := hcut
    go_upto_region 2 with fail
    go_cut [4] (fun s wc => s = .bool (zB tt && zB into) ∧ wc = w.alloc (.cells #[.int .i64 9, .string vol, .string file, .string tt, .string into, .int .i64 at', .int .i64 fr, .int .i64 ln, .string data] 97))
    case first =>
      go_wp2
      all_goals go_meet
      all_goals (refine ⟨?_, rfl⟩; simp_all [zB])
    case rest =>
      obtain ⟨rfl, rfl⟩ := hcut
      generalize hB : (at' == 0 && (fr == 0 && (ln == 0 && zB data))) = B at *
      generalize hT : (zB tt && zB into) = T at *
      go_wp2_with fail
      refine (spec_l1In at' 0 100 _).mono ?_
      rintro e w1 ⟨rfl, rfl⟩
      generalize hC1 : (decide (0 ≤ at') && decide (at' ≤ 100)) = C1
      go_wp2_with fail
      refine (spec_l1In ln 1 100 _).mono ?_
      rintro e w1 ⟨rfl, rfl⟩
      generalize hC2 : (decide (1 ≤ ln) && decide (ln ≤ 100)) = C2
      go_wp2
      all_goals go_returns
      all_goals go_light
      all_goals refine ⟨ret_bool ?_, by go_grown⟩
      all_goals rw [hfin.out]
      all_goals simp_all [zB]
end Go.Proofs.Ytbjejnkeekndbaa
namespace Go.Proofs.Ytbjejnkeekndbaa
open Go.RowKit Go.BigFrame

set_option maxHeartbeats 4000000 in
set_option maxRecDepth 100000 in
theorem spec_OpOk10 (vol file tt into : ByteArray) (at' fr ln : Int) (data : ByteArray) (w : World) (hs : StrO ⟨10, vol, file, tt, into, at', fr, ln, data⟩) :
    Calls Try.prog 76 #[.agg #[.int .i64 10, .string vol, .string file, .string tt, .string into, .int .i64 at', .int .i64 fr, .int .i64 ln, .string data]] w fun e w' => e = .returned (.bool (opB ⟨10, vol, file, tt, into, at', fr, ln, data⟩)) ∧ Below w.heap.size w w' := by
  have hv := hs.vol
  have hf := hs.file
  have ht := hs.to
  have hi := hs.into
  have hd := hs.data
  dsimp only at hv hf ht hi hd
  clear hs
  have hfin : Hid (opB ⟨10, vol, file, tt, into, at', fr, ln, data⟩ = (nameB vol && (nameB file && ((zB tt && zB into) && ((decide (0 ≤ at') && decide (at' ≤ 100)) && (fr == 0 && ((decide (1 ≤ ln) && decide (ln ≤ 100)) && zB data))))))) := by
    show _ = _
    simp [opB, inB, Bool.and_assoc, Bool.and_comm, Bool.and_left_comm]
  generalize opB ⟨10, vol, file, tt, into, at', fr, ln, data⟩ = R at *
  go_enter Try.func76, Try.ntmps76
  go_upto_region 1 with fail
  go_cut [3] (fun s wc => s = .bool (at' == 0 && (fr == 0 && (ln == 0 && zB data))) ∧ wc = w.alloc (.cells #[.int .i64 10, .string vol, .string file, .string tt, .string into, .int .i64 at', .int .i64 fr, .int .i64 ln, .string data] 97))
  case first =>
    cases h1 : (at' == 0)
    case false =>
      go_wp2
      go_meet
      exact ⟨by rw [h1]; rfl, rfl⟩
    cases h2 : (fr == 0)
    case false =>
      go_wp2
      go_meet
      exact ⟨by rw [h1, h2]; rfl, rfl⟩
    cases h3 : (ln == 0)
    case false =>
      go_wp2
      go_meet
      exact ⟨by rw [h1, h2, h3]; rfl, rfl⟩
    go_wp2
    go_meet
    exact ⟨by rw [h1, h2, h3]; simp [zB], rfl⟩
  case rest =>
    obtain ⟨rfl, rfl⟩ := hcut
    go_upto_region 2 with fail
    go_cut [4] (fun s wc => s = .bool (zB tt && zB into) ∧ wc = w.alloc (.cells #[.int .i64 10, .string vol, .string file, .string tt, .string into, .int .i64 at', .int .i64 fr, .int .i64 ln, .string data] 97))
    case first =>
      go_wp2
      all_goals go_meet
      all_goals (refine ⟨?_, rfl⟩; simp_all [zB])
    case rest =>
      obtain ⟨rfl, rfl⟩ := hcut
      generalize hB : (at' == 0 && (fr == 0 && (ln == 0 && zB data))) = B
      generalize hT : (zB tt && zB into) = T at *
      go_wp2_with fail
      refine (spec_l1In at' 0 100 _).mono ?_
      rintro e w1 ⟨rfl, rfl⟩
      generalize hC1 : (decide (0 ≤ at') && decide (at' ≤ 100)) = C1 at *
      go_wp2_with fail
      refine (spec_l1In ln 1 100 _).mono ?_
      rintro e w1 ⟨rfl, rfl⟩
      generalize hC2 : (decide (1 ≤ ln) && decide (ln ≤ 100)) = C2 at *
      go_wp2_with fail
      refine (spec_NameOk vol _ hv).mono ?_
      rintro e w1 ⟨rfl, rfl⟩
      cases h_vol : nameB vol
      case false =>
        go_wp2
        all_goals go_returns
        all_goals go_light
        all_goals refine ⟨ret_bool ?_, by go_grown⟩
        all_goals rw [hfin.out]
        all_goals simp_all [zB]
      go_wp2_with fail
      refine (spec_NameOk file _ hf).mono ?_
      rintro e w1 ⟨rfl, rfl⟩
      cases h_file : nameB file
      case false =>
        go_wp2
        all_goals go_returns
        all_goals go_light
        all_goals refine ⟨ret_bool ?_, by go_grown⟩
        all_goals rw [hfin.out]
        all_goals simp_all [zB]
      go_wp2
      all_goals go_returns
      all_goals go_light
      all_goals refine ⟨ret_bool ?_, by go_grown⟩
      all_goals rw [hfin.out]
      all_goals simp_all [zB]
end Go.Proofs.Ytbjejnkeekndbaa
namespace Go.Proofs.Ytbjejnkeekndbaa
open Go.RowKit Go.BigFrame

theorem spec_OpOk (o : Opr) (w : World) (hs : StrO o) :
    Calls Try.prog 76 #[.agg #[.int .i64 o.k, .string o.vol, .string o.file, .string o.to, .string o.into, .int .i64 o.at', .int .i64 o.fr, .int .i64 o.ln, .string o.data]] w fun e w' => e = .returned (.bool (opB o)) ∧ Below w.heap.size w w' := by
  obtain ⟨k, vol, file, tt, into, at', fr, ln, data⟩ := o
  by_cases hk : 1 ≤ k ∧ k ≤ 10
  · have hk' : k = 1 ∨ k = 2 ∨ k = 3 ∨ k = 4 ∨ k = 5 ∨ k = 6 ∨ k = 7 ∨ k = 8 ∨ k = 9 ∨ k = 10 := by omega
    rcases hk' with rfl | rfl | rfl | rfl | rfl | rfl | rfl | rfl | rfl | rfl
    · exact spec_OpOk1 vol file tt into at' fr ln data w hs
    · exact spec_OpOk2 vol file tt into at' fr ln data w hs
    · exact spec_OpOk3 vol file tt into at' fr ln data w hs
    · exact spec_OpOk4 vol file tt into at' fr ln data w hs
    · exact spec_OpOk5 vol file tt into at' fr ln data w hs
    · exact spec_OpOk6 vol file tt into at' fr ln data w hs
    · exact spec_OpOk7 vol file tt into at' fr ln data w hs
    · exact spec_OpOk8 vol file tt into at' fr ln data w hs
    · exact spec_OpOk9 vol file tt into at' fr ln data w hs
    · exact spec_OpOk10 vol file tt into at' fr ln data w hs
  · exact spec_OpOk0 k vol file tt into at' fr ln data w hk
end Go.Proofs.Ytbjejnkeekndbaa
