/- OpOk of the model: one Kind. OpOk of the model: one Kind. OpOk of the model: one Kind. OpOk of the model: one Kind. -/
import Derived.Test.YtbjejnkeekndbaaKm
import Derived.Deep.DeepCutAuto
namespace Go.Proofs.Ytbjejnkeekndbaa
open Go.RowKit Go.BigFrame

set_option maxHeartbeats 4000000 in
set_option maxRecDepth 100000 in
theorem spec_OpOk4 (vol file tt into : ByteArray) (at' fr ln : Int) (data : ByteArray) (w : World) (hs : StrO ⟨4, vol, file, tt, into, at', fr, ln, data⟩) :
    Calls Try.prog 76 #[.agg #[.int .i64 4, .string vol, .string file, .string tt, .string into, .int .i64 at', .int .i64 fr, .int .i64 ln, .string data]] w fun e w' => e = .returned (.bool (opB ⟨4, vol, file, tt, into, at', fr, ln, data⟩)) ∧ Below w.heap.size w w' := by
  have hv := hs.vol
  have hf := hs.file
  have ht := hs.to
  have hi := hs.into
  have hd := hs.data
  dsimp only at hv hf ht hi hd
  clear hs
  have hfin : Hid (opB ⟨4, vol, file, tt, into, at', fr, ln, data⟩ = (nameB vol && (nameB file && ((zB tt && zB into) && (at' == 0 && (fr == 0 && (ln == 0 && zB data))))))) := by
    show _ = _
    simp [opB, Bool.and_assoc]
  generalize opB ⟨4, vol, file, tt, into, at', fr, ln, data⟩ = R at *
  go_enter Try.func76, Try.ntmps76
  go_upto_region 1 with fail
  go_cut [3] (fun s wc => s = .bool (at' == 0 && (fr == 0 && (ln == 0 && zB data))) ∧ wc = w.alloc (.cells #[.int .i64 4, .string vol, .string file, .string tt, .string into, .int .i64 at', .int .i64 fr, .int .i64 ln, .string data] 97))
  case first =>
    cases h1 : (at' == 0)
    case false =>
      go_wp2
      go_meet
      exact ⟨by rw [h1]; rfl, rfl⟩
    cases h2 : (fr == 0)
    case false =>
      go_wp2
      go_meet
      exact ⟨by rw [h1, h2]; rfl, rfl⟩
    cases h3 : (ln == 0)
    case false =>
      go_wp2
      go_meet
      exact ⟨by rw [h1, h2, h3]; rfl, rfl⟩
    go_wp2
    go_meet
    exact ⟨by rw [h1, h2, h3]; simp [zB], rfl⟩
  case rest =>
    obtain ⟨rfl, rfl⟩ := hcut
    go_upto_region 2 with fail
    go_cut [4] (fun s wc => s = .bool (zB tt && zB into) ∧ wc = w.alloc (.cells #[.int .i64 4, .string vol, .string file, .string tt, .string into, .int .i64 at', .int .i64 fr, .int .i64 ln, .string data] 97))
    case first =>
      go_wp2
      all_goals go_meet
      all_goals (refine ⟨?_, rfl⟩; simp_all [zB])
    case rest =>
      obtain ⟨rfl, rfl⟩ := hcut
      generalize hB : (at' == 0 && (fr == 0 && (ln == 0 && zB data))) = B at *
      generalize hT : (zB tt && zB into) = T at *
      go_wp2_with fail
      refine (spec_l1In at' 0 100 _).mono ?_
      rintro e w1 ⟨rfl, rfl⟩
      generalize hC1 : (decide (0 ≤ at') && decide (at' ≤ 100)) = C1
      go_wp2_with fail
      refine (spec_l1In ln 1 100 _).mono ?_
      rintro e w1 ⟨rfl, rfl⟩
      generalize hC2 : (decide (1 ≤ ln) && decide (ln ≤ 100)) = C2
      go_wp2_with fail
      refine (spec_NameOk vol _ hv).mono ?_
      rintro e w1 ⟨rfl, rfl⟩
      cases h_vol : nameB vol
      case false =>
        go_wp2
        all_goals go_returns
        all_goals go_light
        all_goals refine ⟨ret_bool ?_, by go_grown⟩
        all_goals rw [hfin.out]
        all_goals simp_all [zB]
      go_wp2_with fail
      refine (spec_NameOk file _ hf).mono ?_
      rintro e w1 ⟨rfl, rfl⟩
      cases h_file : nameB file
      case false =>
        go_wp2
        all_goals go_returns
        all_goals go_light
        all_goals refine ⟨ret_bool ?_, by go_grown⟩
        all_goals rw [hfin.out]
        all_goals simp_all [zB]
      go_wp2
      all_goals go_returns
      all_goals go_light
      all_goals refine ⟨ret_bool ?_, by go_grown⟩
      all_goals rw [hfin.out]
      all_goals simp_all [zB]
end Go.Proofs.Ytbjejnkeekndbaa
namespace Go.Proofs.Ytbjejnkeekndbaa
open Go.RowKit Go.BigFrame

set_option maxHeartbeats 4000000 in
set_option maxRecDepth 100000 in
theorem spec_OpOk5 (vol file tt into : ByteArray) (at' fr ln : Int) (data : ByteArray) (w : World) (hs : StrO ⟨5, vol, file, tt, into, at', fr, ln, data⟩) :
    Calls Try.prog 76 #[.agg #[.int .i64 5, .string vol, .string file, .string tt, .string into, .int .i64 at', .int .i64 fr, .int .i64 ln, .string data]] w fun e w' => e = .returned (.bool (opB ⟨5, vol, file, tt, into, at', fr, ln, data⟩)) ∧ Below w.heap.size w w' := by
  have hv := hs.vol
  have hf := hs.file
  have ht := hs.to
  have hi := hs.into
  have hd := hs.data
  dsimp only at hv hf ht hi hd
  clear hs
  have hfin : Hid (opB ⟨5, vol, file, tt, into, at', fr, ln, data⟩ = (nameB vol && (nameB file && (nameB tt && (nameB into && ((decide (0 ≤ at') && decide (at' ≤ 100)) && ((decide (0 ≤ fr) && decide (fr ≤ 100)) && ((decide (1 ≤ ln) && decide (ln ≤ 100)) && zB data)))))))) := by
    show _ = _
    simp [opB, inB, Bool.and_assoc]
  generalize opB ⟨5, vol, file, tt, into, at', fr, ln, data⟩ = R at *
  go_enter Try.func76, Try.ntmps76
  go_upto_region 1 with fail
  go_cut [3] (fun s wc => s = .bool (at' == 0 && (fr == 0 && (ln == 0 && zB data))) ∧ wc = w.alloc (.cells #[.int .i64 5, .string vol, .string file, .string tt, .string into, .int .i64 at', .int .i64 fr, .int .i64 ln, .string data] 97))
  case first =>
    cases h1 : (at' == 0)
    case false =>
      go_wp2
      go_meet
      exact ⟨by rw [h1]; rfl, rfl⟩
    cases h2 : (fr == 0)
    case false =>
      go_wp2
      go_meet
      exact ⟨by rw [h1, h2]; rfl, rfl⟩
    cases h3 : (ln == 0)
    case false =>
      go_wp2
      go_meet
      exact ⟨by rw [h1, h2, h3]; rfl, rfl⟩
    go_wp2
    go_meet
    exact ⟨by rw [h1, h2, h3]; simp [zB], rfl⟩
  case rest =>
    obtain ⟨rfl, rfl⟩ := hcut
    go_upto_region 2 with fail
    go_cut [4] (fun s wc => s = .bool (zB tt && zB into) ∧ wc = w.alloc (.cells #[.int .i64 5, .string vol, .string file, .string tt, .string into, .int .i64 at', .int .i64 fr, .int .i64 ln, .string data] 97))
    case first =>
      go_wp2
      all_goals go_meet
      all_goals (refine ⟨?_, rfl⟩; simp_all [zB])
    case rest =>
      obtain ⟨rfl, rfl⟩ := hcut
      generalize hB : (at' == 0 && (fr == 0 && (ln == 0 && zB data))) = B
      generalize hT : (zB tt && zB into) = T
      go_wp2_with fail
      refine (spec_l1In at' 0 100 _).mono ?_
      rintro e w1 ⟨rfl, rfl⟩
      generalize hC1 : (decide (0 ≤ at') && decide (at' ≤ 100)) = C1 at *
      go_wp2_with fail
      refine (spec_l1In ln 1 100 _).mono ?_
      rintro e w1 ⟨rfl, rfl⟩
      generalize hC2 : (decide (1 ≤ ln) && decide (ln ≤ 100)) = C2 at *
      go_wp2_with fail
      refine (spec_NameOk vol _ hv).mono ?_
      rintro e w1 ⟨rfl, rfl⟩
      cases h_vol : nameB vol
      case false =>
        go_wp2
        all_goals go_returns
        all_goals go_light
        all_goals refine ⟨ret_bool ?_, by go_grown⟩
        all_goals rw [hfin.out]
        all_goals simp_all [zB]
      go_wp2_with fail
      refine (spec_NameOk file _ hf).mono ?_
      rintro e w1 ⟨rfl, rfl⟩
      cases h_file : nameB file
      case false =>
        go_wp2
        all_goals go_returns
        all_goals go_light
        all_goals refine ⟨ret_bool ?_, by go_grown⟩
        all_goals rw [hfin.out]
        all_goals simp_all [zB]
      go_wp2_with fail
      refine (spec_NameOk tt _ ht).mono ?_
      rintro e w1 ⟨rfl, rfl⟩
      cases h_tt : nameB tt
      case false =>
        go_wp2
        all_goals go_returns
        all_goals go_light
        all_goals refine ⟨ret_bool ?_, by go_grown⟩
        all_goals rw [hfin.out]
        all_goals simp_all [zB]
      go_wp2_with fail
      refine (spec_NameOk into _ hi).mono ?_
      rintro e w1 ⟨rfl, rfl⟩
      cases h_into : nameB into
      case false =>
        go_wp2
        all_goals go_returns
        all_goals go_light
        all_goals refine ⟨ret_bool ?_, by go_grown⟩
        all_goals rw [hfin.out]
        all_goals simp_all [zB]
      cases C1
      case false =>
        go_wp2
        all_goals go_returns
        all_goals go_light
        all_goals refine ⟨ret_bool ?_, by go_grown⟩
        all_goals rw [hfin.out]
        all_goals simp_all [zB]
      go_wp2_with fail
      refine (spec_l1In fr 0 100 _).mono ?_
      rintro e w1 ⟨rfl, rfl⟩
      generalize hC3 : (decide (0 ≤ fr) && decide (fr ≤ 100)) = C3 at *
      go_wp2
      all_goals go_returns
      all_goals go_light
      all_goals refine ⟨ret_bool ?_, by go_grown⟩
      all_goals rw [hfin.out]
      all_goals simp_all [zB]
end Go.Proofs.Ytbjejnkeekndbaa
namespace Go.Proofs.Ytbjejnkeekndbaa
open Go.RowKit Go.BigFrame

set_option maxHeartbeats 4000000 in
set_option maxRecDepth 100000 in
theorem spec_OpOk6 (vol file tt into : ByteArray) (at' fr ln : Int) (data : ByteArray) (w : World) (hs : StrO ⟨6, vol, file, tt, into, at', fr, ln, data⟩) :
    Calls Try.prog 76 #[.agg #[.int .i64 6, .string vol, .string file, .string tt, .string into, .int .i64 at', .int .i64 fr, .int .i64 ln, .string data]] w fun e w' => e = .returned (.bool (opB ⟨6, vol, file, tt, into, at', fr, ln, data⟩)) ∧ Below w.heap.size w w' := by
  have hv := hs.vol
  have hf := hs.file
  have ht := hs.to
  have hi := hs.into
  have hd := hs.data
  dsimp only at hv hf ht hi hd
  clear hs
  have hfin : Hid (opB ⟨6, vol, file, tt, into, at', fr, ln, data⟩ = (nameB vol && (zB file && (nameB tt && (zB into && (at' == 0 && (fr == 0 && (ln == 0 && zB data)))))))) := by
    show _ = _
    simp [opB, Bool.and_assoc, Bool.and_left_comm]
  generalize opB ⟨6, vol, file, tt, into, at', fr, ln, data⟩ = R at *
  go_enter Try.func76, Try.ntmps76
  go_upto_region 1 with fail
  go_cut [3] (fun s wc => s = .bool (at' == 0 && (fr == 0 && (ln == 0 && zB data))) ∧ wc = w.alloc (.cells #[.int .i64 6, .string vol, .string file, .string tt, .string into, .int .i64 at', .int .i64 fr, .int .i64 ln, .string data] 97))
  case first =>
    cases h1 : (at' == 0)
    case false =>
      go_wp2
      go_meet
      exact ⟨by rw [h1]; rfl, rfl⟩
    cases h2 : (fr == 0)
    case false =>
      go_wp2
      go_meet
      exact ⟨by rw [h1, h2]; rfl, rfl⟩
    cases h3 : (ln == 0)
    case false =>
      go_wp2
      go_meet
      exact ⟨by rw [h1, h2, h3]; rfl, rfl⟩
    go_wp2
    go_meet
    exact ⟨by rw [h1, h2, h3]; simp [zB], rfl⟩
  case rest =>
    obtain ⟨rfl, rfl⟩ := hcut
    go_upto_region 2 with fail
    go_cut [4] (fun s wc => s = .bool (zB tt && zB into) ∧ wc = w.alloc (.cells #[.int .i64 6, .string vol, .string file, .string tt, .string into, .int .i64 at', .int .i64 fr, .int .i64 ln, .string data] 97))
    case first =>
      go_wp2
      all_goals go_meet
      all_goals (refine ⟨?_, rfl⟩; simp_all [zB])
    case rest =>
      obtain ⟨rfl, rfl⟩ := hcut
      generalize hB : (at' == 0 && (fr == 0 && (ln == 0 && zB data))) = B at *
      generalize hT : (zB tt && zB into) = T
      go_wp2_with fail
      refine (spec_l1In at' 0 100 _).mono ?_
      rintro e w1 ⟨rfl, rfl⟩
      generalize hC1 : (decide (0 ≤ at') && decide (at' ≤ 100)) = C1
      go_wp2_with fail
      refine (spec_l1In ln 1 100 _).mono ?_
      rintro e w1 ⟨rfl, rfl⟩
      generalize hC2 : (decide (1 ≤ ln) && decide (ln ≤ 100)) = C2
      go_wp2_with fail
      refine (spec_NameOk vol _ hv).mono ?_
      rintro e w1 ⟨rfl, rfl⟩
      cases h_vol : nameB vol
      case false =>
        go_wp2
        all_goals go_returns
        all_goals go_light
        all_goals refine ⟨ret_bool ?_, by go_grown⟩
        all_goals rw [hfin.out]
        all_goals simp_all [zB]
      go_wp2_with fail
      refine (spec_NameOk tt _ ht).mono ?_
      rintro e w1 ⟨rfl, rfl⟩
      cases h_tt : nameB tt
      case false =>
        go_wp2
        all_goals go_returns
        all_goals go_light
        all_goals refine ⟨ret_bool ?_, by go_grown⟩
        all_goals rw [hfin.out]
        all_goals simp_all [zB]
      go_wp2
      all_goals go_returns
      all_goals go_light
      all_goals refine ⟨ret_bool ?_, by go_grown⟩
      all_goals rw [hfin.out]
      all_goals simp_all [zB]
end Go.Proofs.Ytbjejnkeekndbaa
namespace Go.Proofs.Ytbjejnkeekndbaa
open Go.RowKit Go.BigFrame

set_option maxHeartbeats 4000000 in
set_option maxRecDepth 100000 in
theorem spec_OpOk7 (vol file tt into : ByteArray) (at' fr ln : Int) (data : ByteArray) (w : World) (hs : StrO ⟨7, vol, file, tt, into, at', fr, ln, data⟩) :
    Calls Try.prog 76 #[.agg #[.int .i64 7, .string vol, .string file, .string tt, .string into, .int .i64 at', .int .i64 fr, .int .i64 ln, .string data]] w fun e w' => e = .returned (.bool (opB ⟨7, vol, file, tt, into, at', fr, ln, data⟩)) ∧ Below w.heap.size w w' := by
  have hv := hs.vol
  have hf := hs.file
  have ht := hs.to
  have hi := hs.into
  have hd := hs.data
  dsimp only at hv hf ht hi hd
  clear hs
  have hfin : Hid (opB ⟨7, vol, file, tt, into, at', fr, ln, data⟩ = (nameB vol && (zB file && ((zB tt && zB into) && (at' == 0 && (fr == 0 && (ln == 0 && zB data))))))) := by
    show _ = _
    simp [opB, Bool.and_assoc]
  generalize opB ⟨7, vol, file, tt, into, at', fr, ln, data⟩ = R at *
  go_enter Try.func76, Try.ntmps76
  go_upto_region 1 with fail
  go_cut [3] (fun s wc => s = .bool (at' == 0 && (fr == 0 && (ln == 0 && zB data))) ∧ wc = w.alloc (.cells #[.int .i64 7, .string vol, .string file, .string tt, .string into, .int .i64 at', .int .i64 fr, .int .i64 ln, .string data] 97))
  case first =>
    cases h1 : (at' == 0)
    case false =>
      go_wp2
      go_meet
      exact ⟨by rw [h1]; rfl, rfl⟩
    cases h2 : (fr == 0)
    case false =>
      go_wp2
      go_meet
      exact ⟨by rw [h1, h2]; rfl, rfl⟩
    cases h3 : (ln == 0)
    case false =>
      go_wp2
      go_meet
      exact ⟨by rw [h1, h2, h3]; rfl, rfl⟩
    go_wp2
    go_meet
    exact ⟨by rw [h1, h2, h3]; simp [zB], rfl⟩
  case rest =>
    obtain ⟨rfl, rfl⟩ := hcut
    go_upto_region 2 with fail
    go_cut [4] (fun s wc => s = .bool (zB tt && zB into) ∧ wc = w.alloc (.cells #[.int .i64 7, .string vol, .string file, .string tt, .string into, .int .i64 at', .int .i64 fr, .int .i64 ln, .string data] 97))
    case first =>
      go_wp2
      all_goals go_meet
      all_goals (refine ⟨?_, rfl⟩; simp_all [zB])
    case rest =>
      obtain ⟨rfl, rfl⟩ := hcut
      generalize hB : (at' == 0 && (fr == 0 && (ln == 0 && zB data))) = B at *
      generalize hT : (zB tt && zB into) = T at *
      go_wp2_with fail
      refine (spec_l1In at' 0 100 _).mono ?_
      rintro e w1 ⟨rfl, rfl⟩
      generalize hC1 : (decide (0 ≤ at') && decide (at' ≤ 100)) = C1
      go_wp2_with fail
      refine (spec_l1In ln 1 100 _).mono ?_
      rintro e w1 ⟨rfl, rfl⟩
      generalize hC2 : (decide (1 ≤ ln) && decide (ln ≤ 100)) = C2
      go_wp2_with fail
      refine (spec_NameOk vol _ hv).mono ?_
      rintro e w1 ⟨rfl, rfl⟩
      cases h_vol : nameB vol
      case false =>
        go_wp2
        all_goals go_returns
        all_goals go_light
        all_goals refine ⟨ret_bool ?_, by go_grown⟩
        all_goals rw [hfin.out]
        all_goals simp_all [zB]
      go_wp2
      all_goals go_returns
      all_goals go_light
      all_goals refine ⟨ret_bool ?_, by go_grown⟩
      all_goals rw [hfin.out]
      all_goals simp_all [zB]
end Go.Proofs.Ytbjejnkeekndbaa
