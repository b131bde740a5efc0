/- OpOk of the model: one Kind. -/
import Derived.Deep.DeepCutAuto
import Derived.Test.YtnjefbkhibfgmaaGreatLDAskedx16
import Derived.Test.YtnjefbkhibfgmaaGreatLDAskedx31
import Derived.Test.YtnjefbkhibfgmaaGreatLDAskedx30
import Derived.Test.YtnjefbkhibfgmaaGreatLDAskedx29
namespace Go.Proofs.YtnjefbkhibfgmaaGreat
open Go.RowKit Go.BigFrame
set_option maxHeartbeats 4000000 in
set_option maxRecDepth 100000 in
theorem spec_OpOk5 (vol file tt into : ByteArray) (at' fr ln : Int) (data : ByteArray) (w : World) (hs : StrO ⟨5, vol, file, tt, into, at', fr, ln, data⟩) :
    Calls Tryz.prog 105 #[.agg #[.int .i64 5, .string vol, .string file, .string tt, .string into, .int .i64 at', .int .i64 fr, .int .i64 ln, .string data]] w fun e w' => e = .returned (.bool (opB ⟨5, vol, file, tt, into, at', fr, ln, data⟩)) ∧ Below w.heap.size w w' := by
  have hv := hs.vol
  have hf := hs.file
  have ht := hs.to
  have hi := hs.into
  have hd := hs.data
  dsimp only at hv hf ht hi hd
  clear hs
  have hfin : Hid (opB ⟨5, vol, file, tt, into, at', fr, ln, data⟩ = (nameB vol && (nameB file && (nameB tt && (nameB into && ((decide (0 ≤ at') && decide (at' ≤ 100)) && ((decide (0 ≤ fr) && decide (fr ≤ 100)) && ((decide (1 ≤ ln) && decide (ln ≤ 100)) && zB data)))))))) := by
    show _ = _
    simp [opB, inB, Bool.and_assoc]
  generalize opB ⟨5, vol, file, tt, into, at', fr, ln, data⟩ = R at *
  go_enter Tryz.func105, Tryz.ntmps105
  go_upto_region 1 with fail
  go_cut [3] (fun s wc => s = .bool (at' == 0 && (fr == 0 && (ln == 0 && zB data))) ∧ wc = w.alloc (.cells #[.int .i64 5, .string vol, .string file, .string tt, .string into, .int .i64 at', .int .i64 fr, .int .i64 ln, .string data] 102))
  case first =>
    cases h1 : (at' == 0)
    case false =>
      go_wp2
      go_meet
      exact ⟨by rw [h1]; rfl, rfl⟩
    cases h2 : (fr == 0)
    case false =>
      go_wp2
      go_meet
      exact ⟨by rw [h1, h2]; rfl, rfl⟩
    cases h3 : (ln == 0)
    case false =>
      go_wp2
      go_meet
      exact ⟨by rw [h1, h2, h3]; rfl, rfl⟩
    go_wp2
    go_meet
    exact ⟨by rw [h1, h2, h3]; simp [zB], rfl⟩
  case rest =>
    obtain ⟨rfl, rfl⟩ := hcut
    go_upto_region 2 with fail
    go_cut [4] (fun s wc => s = .bool (zB tt && zB into) ∧ wc = w.alloc (.cells #[.int .i64 5, .string vol, .string file, .string tt, .string into, .int .i64 at', .int .i64 fr, .int .i64 ln, .string data] 102))
    case first =>
      go_wp2
      all_goals go_meet
      all_goals (refine ⟨?_, rfl⟩; simp_all [zB])
    case rest =>
      obtain ⟨rfl, rfl⟩ := hcut
      generalize hB : (at' == 0 && (fr == 0 && (ln == 0 && zB data))) = B
      generalize hT : (zB tt && zB into) = T
      go_wp2_with fail
      refine (spec_l1In at' 0 100 _).mono ?_
      rintro e w1 ⟨rfl, rfl⟩
      generalize hC1 : (decide (0 ≤ at') && decide (at' ≤ 100)) = C1 at *
      go_wp2_with fail
      refine (spec_l1In ln 1 100 _).mono ?_
      rintro e w1 ⟨rfl, rfl⟩
      generalize hC2 : (decide (1 ≤ ln) && decide (ln ≤ 100)) = C2 at *
      go_wp2_with fail
      refine (spec_NameOk vol _ hv).mono ?_
      rintro e w1 ⟨rfl, rfl⟩
      cases h_vol : nameB vol
      case false =>
        go_wp2
        all_goals go_returns
        all_goals go_light
        all_goals refine ⟨ret_bool ?_, by go_grown⟩
        all_goals rw [hfin.out]
        all_goals simp_all [zB]
      go_wp2_with fail
      refine (spec_NameOk file _ hf).mono ?_
      rintro e w1 ⟨rfl, rfl⟩
      cases h_file : nameB file
      case false =>
        go_wp2
        all_goals go_returns
        all_goals go_light
        all_goals refine ⟨ret_bool ?_, by go_grown⟩
        all_goals rw [hfin.out]
        all_goals simp_all [zB]
      go_wp2_with fail
      refine (spec_NameOk tt _ ht).mono ?_
      rintro e w1 ⟨rfl, rfl⟩
      cases h_tt : nameB tt
      case false =>
        go_wp2
        all_goals go_returns
        all_goals go_light
        all_goals refine ⟨ret_bool ?_, by go_grown⟩
        all_goals rw [hfin.out]
        all_goals simp_all [zB]
      go_wp2_with fail
      refine (spec_NameOk into _ hi).mono ?_
      rintro e w1 ⟨rfl, rfl⟩
      cases h_into : nameB into
      case false =>
        go_wp2
        all_goals go_returns
        all_goals go_light
        all_goals refine ⟨ret_bool ?_, by go_grown⟩
        all_goals rw [hfin.out]
        all_goals simp_all [zB]
      cases C1
      case false =>
        go_wp2
        all_goals go_returns
        all_goals go_light
        all_goals refine ⟨ret_bool ?_, by go_grown⟩
        all_goals rw [hfin.out]
        all_goals simp_all [zB]
      go_wp2_with fail
      refine (spec_l1In fr 0 100 _).mono ?_
      rintro e w1 ⟨rfl, rfl⟩
      generalize hC3 : (decide (0 ≤ fr) && decide (fr ≤ 100)) = C3 at *
      go_wp2
      all_goals go_returns
      all_goals go_light
      all_goals refine ⟨ret_bool ?_, by go_grown⟩
      all_goals rw [hfin.out]
      all_goals simp_all [zB]
end Go.Proofs.YtnjefbkhibfgmaaGreat
namespace Go.Proofs.YtnjefbkhibfgmaaGreat
open Go.RowKit Go.BigFrame
set_option maxHeartbeats 4000000 in
set_option maxRecDepth 100000 in
theorem spec_OpOk6 (vol file tt into : ByteArray) (at' fr ln : Int) (data : ByteArray) (w : World) (hs : StrO ⟨6, vol, file, tt, into, at', fr, ln, data⟩) :
    Calls Tryz.prog 105 #[.agg #[.int .i64 6, .string vol, .string file, .string tt, .string into, .int .i64 at', .int .i64 fr, .int .i64 ln, .string data]] w fun e w' => e = .returned (.bool (opB ⟨6, vol, file, tt, into, at', fr, ln, data⟩)) ∧ Below w.heap.size w w' := by
  have hv := hs.vol
  have hf := hs.file
  have ht := hs.to
  have hi := hs.into
  have hd := hs.data
  dsimp only at hv hf ht hi hd
  clear hs
  have hfin : Hid (opB ⟨6, vol, file, tt, into, at', fr, ln, data⟩ = (nameB vol && (zB file && (nameB tt && (zB into && (at' == 0 && (fr == 0 && (ln == 0 && zB data)))))))) := by
    show _ = _
    simp [opB, Bool.and_assoc, Bool.and_left_comm]
  generalize opB ⟨6, vol, file, tt, into, at', fr, ln, data⟩ = R at *
  go_enter Tryz.func105, Tryz.ntmps105
  go_upto_region 1 with fail
  go_cut [3] (fun s wc => s = .bool (at' == 0 && (fr == 0 && (ln == 0 && zB data))) ∧ wc = w.alloc (.cells #[.int .i64 6, .string vol, .string file, .string tt, .string into, .int .i64 at', .int .i64 fr, .int .i64 ln, .string data] 102))
  case first =>
    cases h1 : (at' == 0)
    case false =>
      go_wp2
      go_meet
      exact ⟨by rw [h1]; rfl, rfl⟩
    cases h2 : (fr == 0)
    case false =>
      go_wp2
      go_meet
      exact ⟨by rw [h1, h2]; rfl, rfl⟩
    cases h3 : (ln == 0)
    case false =>
      go_wp2
      go_meet
      exact ⟨by rw [h1, h2, h3]; rfl, rfl⟩
    go_wp2
    go_meet
    exact ⟨by rw [h1, h2, h3]; simp [zB], rfl⟩
  case rest =>
    obtain ⟨rfl, rfl⟩ := hcut
    go_upto_region 2 with fail
    go_cut [4] (fun s wc => s = .bool (zB tt && zB into) ∧ wc = w.alloc (.cells #[.int .i64 6, .string vol, .string file, .string tt, .string into, .int .i64 at', .int .i64 fr, .int .i64 ln, .string data] 102))
    case first =>
      go_wp2
      all_goals go_meet
      all_goals (refine ⟨?_, rfl⟩; simp_all [zB])
    case rest =>
      obtain ⟨rfl, rfl⟩ := hcut
      generalize hB : (at' == 0 && (fr == 0 && (ln == 0 && zB data))) = B at *
      generalize hT : (zB tt && zB into) = T
      go_wp2_with fail
      refine (spec_l1In at' 0 100 _).mono ?_
      rintro e w1 ⟨rfl, rfl⟩
      generalize hC1 : (decide (0 ≤ at') && decide (at' ≤ 100)) = C1
      go_wp2_with fail
      refine (spec_l1In ln 1 100 _).mono ?_
      rintro e w1 ⟨rfl, rfl⟩
      generalize hC2 : (decide (1 ≤ ln) && decide (ln ≤ 100)) = C2
      go_wp2_with fail
      refine (spec_NameOk vol _ hv).mono ?_
      rintro e w1 ⟨rfl, rfl⟩
      cases h_vol : nameB vol
      case false =>
        go_wp2
        all_goals go_returns
        all_goals go_light
        all_goals refine ⟨ret_bool ?_, by go_grown⟩
        all_goals rw [hfin.out]
        all_goals simp_all [zB]
      go_wp2_with fail
      refine (spec_NameOk tt _ ht).mono ?_
      rintro e w1 ⟨rfl, rfl⟩
      cases h_tt : nameB tt
      case false =>
        go_wp2
        all_goals go_returns
        all_goals go_light
        all_goals refine ⟨ret_bool ?_, by go_grown⟩
        all_goals rw [hfin.out]
        all_goals simp_all [zB]
      go_wp2
      all_goals go_returns
      all_goals go_light
      all_goals refine ⟨ret_bool ?_, by go_grown⟩
      all_goals rw [hfin.out]
      all_goals simp_all [zB]
end Go.Proofs.YtnjefbkhibfgmaaGreat
namespace Go.Proofs.YtnjefbkhibfgmaaGreat
open Go.RowKit Go.BigFrame
set_option maxHeartbeats 4000000 in
set_option maxRecDepth 100000 in
theorem spec_OpOk7 (vol file tt into : ByteArray) (at' fr ln : Int) (data : ByteArray) (w : World) (hs : StrO ⟨7, vol, file, tt, into, at', fr, ln, data⟩) :
    Calls Tryz.prog 105 #[.agg #[.int .i64 7, .string vol, .string file, .string tt, .string into, .int .i64 at', .int .i64 fr, .int .i64 ln, .string data]] w fun e w' => e = .returned (.bool (opB ⟨7, vol, file, tt, into, at', fr, ln, data⟩)) ∧ Below w.heap.size w w' := by
  have hv := hs.vol
  have hf := hs.file
  have ht := hs.to
  have hi := hs.into
  have hd := hs.data
  dsimp only at hv hf ht hi hd
  clear hs
  have hfin : Hid (opB ⟨7, vol, file, tt, into, at', fr, ln, data⟩ = (nameB vol && (zB file && ((zB tt && zB into) && (at' == 0 && (fr == 0 && (ln == 0 && zB data))))))) := by
    show _ = _
    simp [opB, Bool.and_assoc]
  generalize opB ⟨7, vol, file, tt, into, at', fr, ln, data⟩ = R at *
  go_enter Tryz.func105, Tryz.ntmps105
  go_upto_region 1 with fail
  go_cut [3] (fun s wc => s = .bool (at' == 0 && (fr == 0 && (ln == 0 && zB data))) ∧ wc = w.alloc (.cells #[.int .i64 7, .string vol, .string file, .string tt, .string into, .int .i64 at', .int .i64 fr, .int .i64 ln, .string data] 102))
  case first =>
    cases h1 : (at' == 0)
    case false =>
      go_wp2
      go_meet
      exact ⟨by rw [h1]; rfl, rfl⟩
    cases h2 : (fr == 0)
    case false =>
      go_wp2
      go_meet
      exact ⟨by rw [h1, h2]; rfl, rfl⟩
    cases h3 : (ln == 0)
    case false =>
      go_wp2
      go_meet
      exact ⟨by rw [h1, h2, h3]; rfl, rfl⟩
    go_wp2
    go_meet
    exact ⟨by rw [h1, h2, h3]; simp [zB], rfl⟩
  case rest =>
    obtain ⟨rfl, rfl⟩ := hcut
    go_upto_region 2 with fail
    go_cut [4] (fun s wc => s = .bool (zB tt && zB into) ∧ wc = w.alloc (.cells #[.int .i64 7, .string vol, .string file, .string tt, .string into, .int .i64 at', .int .i64 fr, .int .i64 ln, .string data] 102))
    case first =>
      go_wp2
      all_goals go_meet
      all_goals (refine ⟨?_, rfl⟩; simp_all [zB])
    case rest =>
      obtain ⟨rfl, rfl⟩ := hcut
      generalize hB : (at' == 0 && (fr == 0 && (ln == 0 && zB data))) = B at *
      generalize hT : (zB tt && zB into) = T at *
      go_wp2_with fail
      refine (spec_l1In at' 0 100 _).mono ?_
      rintro e w1 ⟨rfl, rfl⟩
      generalize hC1 : (decide (0 ≤ at') && decide (at' ≤ 100)) = C1
      go_wp2_with fail
      refine (spec_l1In ln 1 100 _).mono ?_
      rintro e w1 ⟨rfl, rfl⟩
      generalize hC2 : (decide (1 ≤ ln) && decide (ln ≤ 100)) = C2
      go_wp2_with fail
      refine (spec_NameOk vol _ hv).mono ?_
      rintro e w1 ⟨rfl, rfl⟩
      cases h_vol : nameB vol
      case false =>
        go_wp2
        all_goals go_returns
        all_goals go_light
        all_goals refine ⟨ret_bool ?_, by go_grown⟩
        all_goals rw [hfin.out]
        all_goals simp_all [zB]
      go_wp2
      all_goals go_returns
      all_goals go_light
      all_goals refine ⟨ret_bool ?_, by go_grown⟩
      all_goals rw [hfin.out]
      all_goals simp_all [zB]
end Go.Proofs.YtnjefbkhibfgmaaGreat
namespace Go.Proofs.YtnjefbkhibfgmaaGreat
open Go.RowKit Go.BigFrame
set_option maxHeartbeats 4000000 in
set_option maxRecDepth 100000 in
theorem spec_OpOk8 (vol file tt into : ByteArray) (at' fr ln : Int) (data : ByteArray) (w : World) (hs : StrO ⟨8, vol, file, tt, into, at', fr, ln, data⟩) :
    Calls Tryz.prog 105 #[.agg #[.int .i64 8, .string vol, .string file, .string tt, .string into, .int .i64 at', .int .i64 fr, .int .i64 ln, .string data]] w fun e w' => e = .returned (.bool (opB ⟨8, vol, file, tt, into, at', fr, ln, data⟩)) ∧ Below w.heap.size w w' := by
  have hv := hs.vol
  have hf := hs.file
  have ht := hs.to
  have hi := hs.into
  have hd := hs.data
  dsimp only at hv hf ht hi hd
  clear hs
  have hfin : Hid (opB ⟨8, vol, file, tt, into, at', fr, ln, data⟩ = (nameB vol && (zB file && ((zB tt && zB into) && (at' == 0 && (fr == 0 && (ln == 0 && zB data))))))) := by
    show _ = _
    simp [opB, Bool.and_assoc]
  generalize opB ⟨8, vol, file, tt, into, at', fr, ln, data⟩ = R at *
  go_enter Tryz.func105, Tryz.ntmps105
  go_upto_region 1 with fail
  go_cut [3] (fun s wc => s = .bool (at' == 0 && (fr == 0 && (ln == 0 && zB data))) ∧ wc = w.alloc (.cells #[.int .i64 8, .string vol, .string file, .string tt, .string into, .int .i64 at', .int .i64 fr, .int .i64 ln, .string data] 102))
  case first =>
    cases h1 : (at' == 0)
    case false =>
      go_wp2
      go_meet
      exact ⟨by rw [h1]; rfl, rfl⟩
    cases h2 : (fr == 0)
    case false =>
      go_wp2
      go_meet
      exact ⟨by rw [h1, h2]; rfl, rfl⟩
    cases h3 : (ln == 0)
    case false =>
      go_wp2
      go_meet
      exact ⟨by rw [h1, h2, h3]; rfl, rfl⟩
    go_wp2
    go_meet
    exact ⟨by rw [h1, h2, h3]; simp [zB], rfl⟩
  case rest =>
    obtain ⟨rfl, rfl⟩ := hcut
    go_upto_region 2 with fail
    go_cut [4] (fun s wc => s = .bool (zB tt && zB into) ∧ wc = w.alloc (.cells #[.int .i64 8, .string vol, .string file, .string tt, .string into, .int .i64 at', .int .i64 fr, .int .i64 ln, .string data] 102))
    case first =>
      go_wp2
      all_goals go_meet
      all_goals (refine ⟨?_, rfl⟩; simp_all [zB])
    case rest =>
      obtain ⟨rfl, rfl⟩ := hcut
      generalize hB : (at' == 0 && (fr == 0 && (ln == 0 && zB data))) = B at *
      generalize hT : (zB tt && zB into) = T at *
      go_wp2_with fail
      refine (spec_l1In at' 0 100 _).mono ?_
      rintro e w1 ⟨rfl, rfl⟩
      generalize hC1 : (decide (0 ≤ at') && decide (at' ≤ 100)) = C1
      go_wp2_with fail
      refine (spec_l1In ln 1 100 _).mono ?_
      rintro e w1 ⟨rfl, rfl⟩
      generalize hC2 : (decide (1 ≤ ln) && decide (ln ≤ 100)) = C2
      go_wp2_with fail
      refine (spec_NameOk vol _ hv).mono ?_
      rintro e w1 ⟨rfl, rfl⟩
      cases h_vol : nameB vol
      case false =>
        go_wp2
        all_goals go_returns
        all_goals go_light
        all_goals refine ⟨ret_bool ?_, by go_grown⟩
        all_goals rw [hfin.out]
        all_goals simp_all [zB]
      go_wp2
      all_goals go_returns
      all_goals go_light
      all_goals refine ⟨ret_bool ?_, by go_grown⟩
      all_goals rw [hfin.out]
      all_goals simp_all [zB]
end Go.Proofs.YtnjefbkhibfgmaaGreat
namespace Go.Proofs.YtnjefbkhibfgmaaGreat
open Go.RowKit Go.BigFrame
set_option maxHeartbeats 4000000 in
set_option maxRecDepth 100000 in
theorem spec_OpOk9 (vol file tt into : ByteArray) (at' fr ln : Int) (data : ByteArray) (w : World) (hs : StrO ⟨9, vol, file, tt, into, at', fr, ln, data⟩) :
    Calls Tryz.prog 105 #[.agg #[.int .i64 9, .string vol, .string file, .string tt, .string into, .int .i64 at', .int .i64 fr, .int .i64 ln, .string data]] w fun e w' => e = .returned (.bool (opB ⟨9, vol, file, tt, into, at', fr, ln, data⟩)) ∧ Below w.heap.size w w' := by
  have hv := hs.vol
  have hf := hs.file
  have ht := hs.to
  have hi := hs.into
  have hd := hs.data
  dsimp only at hv hf ht hi hd
  clear hs
  have hfin : Hid (opB ⟨9, vol, file, tt, into, at', fr, ln, data⟩ = (zB vol && (zB file && ((zB tt && zB into) && (at' == 0 && (fr == 0 && (ln == 0 && zB data))))))) := by
    show _ = _
    simp [opB, Bool.and_assoc]
  generalize opB ⟨9, vol, file, tt, into, at', fr, ln, data⟩ = R at *
  go_enter Tryz.func105, Tryz.ntmps105
  go_upto_region 1 with fail
  go_cut [3] (fun s wc => s = .bool (at' == 0 && (fr == 0 && (ln == 0 && zB data))) ∧ wc = w.alloc (.cells #[.int .i64 9, .string vol, .string file, .string tt, .string into, .int .i64 at', .int .i64 fr, .int .i64 ln, .string data] 102))
  case first =>
    cases h1 : (at' == 0)
    case false =>
      go_wp2
      go_meet
      exact ⟨by rw [h1]; rfl, rfl⟩
    cases h2 : (fr == 0)
    case false =>
      go_wp2
      go_meet
      exact ⟨by rw [h1, h2]; rfl, rfl⟩
    cases h3 : (ln == 0)
    case false =>
      go_wp2
      go_meet
      exact ⟨by rw [h1, h2, h3]; rfl, rfl⟩
    go_wp2
    go_meet
    exact ⟨by rw [h1, h2, h3]; simp [zB], rfl⟩
  case rest =>
    obtain ⟨rfl, rfl⟩ := hcut
    go_upto_region 2 with fail
    go_cut [4] (fun s wc => s = .bool (zB tt && zB into) ∧ wc = w.alloc (.cells #[.int .i64 9, .string vol, .string file, .string tt, .string into, .int .i64 at', .int .i64 fr, .int .i64 ln, .string data] 102))
    case first =>
      go_wp2
      all_goals go_meet
      all_goals (refine ⟨?_, rfl⟩; simp_all [zB])
    case rest =>
      obtain ⟨rfl, rfl⟩ := hcut
      generalize hB : (at' == 0 && (fr == 0 && (ln == 0 && zB data))) = B at *
      generalize hT : (zB tt && zB into) = T at *
      go_wp2_with fail
      refine (spec_l1In at' 0 100 _).mono ?_
      rintro e w1 ⟨rfl, rfl⟩
      generalize hC1 : (decide (0 ≤ at') && decide (at' ≤ 100)) = C1
      go_wp2_with fail
      refine (spec_l1In ln 1 100 _).mono ?_
      rintro e w1 ⟨rfl, rfl⟩
      generalize hC2 : (decide (1 ≤ ln) && decide (ln ≤ 100)) = C2
      go_wp2
      all_goals go_returns
      all_goals go_light
      all_goals refine ⟨ret_bool ?_, by go_grown⟩
      all_goals rw [hfin.out]
      all_goals simp_all [zB]
end Go.Proofs.YtnjefbkhibfgmaaGreat
namespace Go.Proofs.YtnjefbkhibfgmaaGreat
open Go.RowKit Go.BigFrame
set_option maxHeartbeats 4000000 in
set_option maxRecDepth 100000 in
theorem spec_OpOk10 (vol file tt into : ByteArray) (at' fr ln : Int) (data : ByteArray) (w : World) (hs : StrO ⟨10, vol, file, tt, into, at', fr, ln, data⟩) :
    Calls Tryz.prog 105 #[.agg #[.int .i64 10, .string vol, .string file, .string tt, .string into, .int .i64 at', .int .i64 fr, .int .i64 ln, .string data]] w fun e w' => e = .returned (.bool (opB ⟨10, vol, file, tt, into, at', fr, ln, data⟩)) ∧ Below w.heap.size w w' := by
  have hv := hs.vol
  have hf := hs.file
  have ht := hs.to
  have hi := hs.into
  have hd := hs.data
  dsimp only at hv hf ht hi hd
  clear hs
  have hfin : Hid (opB ⟨10, vol, file, tt, into, at', fr, ln, data⟩ = (nameB vol && (nameB file && ((zB tt && zB into) && ((decide (0 ≤ at') && decide (at' ≤ 100)) && (fr == 0 && ((decide (1 ≤ ln) && decide (ln ≤ 100)) && zB data))))))) := by
    show _ = _
    simp [opB, inB, Bool.and_assoc, Bool.and_comm, Bool.and_left_comm]
  generalize opB ⟨10, vol, file, tt, into, at', fr, ln, data⟩ = R at *
  go_enter Tryz.func105, Tryz.ntmps105
  go_upto_region 1 with fail
  go_cut [3] (fun s wc => s = .bool (at' == 0 && (fr == 0 && (ln == 0 && zB data))) ∧ wc = w.alloc (.cells #[.int .i64 10, .string vol, .string file, .string tt, .string into, .int .i64 at', .int .i64 fr, .int .i64 ln, .string data] 102))
  case first =>
    cases h1 : (at' == 0)
    case false =>
      go_wp2
      go_meet
      exact ⟨by rw [h1]; rfl, rfl⟩
    cases h2 : (fr == 0)
    case false =>
      go_wp2
      go_meet
      exact ⟨by rw [h1, h2]; rfl, rfl⟩
    cases h3 : (ln == 0)
    case false =>
      go_wp2
      go_meet
      exact ⟨by rw [h1, h2, h3]; rfl, rfl⟩
    go_wp2
    go_meet
    exact ⟨by rw [h1, h2, h3]; simp [zB], rfl⟩
  case rest =>
    obtain ⟨rfl, rfl⟩ := hcut
    go_upto_region 2 with fail
    go_cut [4] (fun s wc => s = .bool (zB tt && zB into) ∧ wc = w.alloc (.cells #[.int .i64 10, .string vol, .string file, .string tt, .string into, .int .i64 at', .int .i64 fr, .int .i64 ln, .string data] 102))
    case first =>
      go_wp2
      all_goals go_meet
      all_goals (refine ⟨?_, rfl⟩; simp_all [zB])
    case rest =>
      obtain ⟨rfl, rfl⟩ := hcut
      generalize hB : (at' == 0 && (fr == 0 && (ln == 0 && zB data))) = B
      generalize hT : (zB tt && zB into) = T at *
      go_wp2_with fail
      refine (spec_l1In at' 0 100 _).mono ?_
      rintro e w1 ⟨rfl, rfl⟩
      generalize hC1 : (decide (0 ≤ at') && decide (at' ≤ 100)) = C1 at *
      go_wp2_with fail
      refine (spec_l1In ln 1 100 _).mono ?_
      rintro e w1 ⟨rfl, rfl⟩
      generalize hC2 : (decide (1 ≤ ln) && decide (ln ≤ 100)) = C2 at *
      go_wp2_with fail
      refine (spec_NameOk vol _ hv).mono ?_
      rintro e w1 ⟨rfl, rfl⟩
      cases h_vol : nameB vol
      case false =>
        go_wp2
        all_goals go_returns
        all_goals go_light
        all_goals refine ⟨ret_bool ?_, by go_grown⟩
        all_goals rw [hfin.out]
        all_goals simp_all [zB]
      go_wp2_with fail
      refine (spec_NameOk file _ hf).mono ?_
      rintro e w1 ⟨rfl, rfl⟩
      cases h_file : nameB file
      case false =>
        go_wp2
        all_goals go_returns
        all_goals go_light
        all_goals refine ⟨ret_bool ?_, by go_grown⟩
        all_goals rw [hfin.out]
        all_goals simp_all [zB]
      go_wp2
      all_goals go_returns
      all_goals go_light
      all_goals refine ⟨ret_bool ?_, by go_grown⟩
      all_goals rw [hfin.out]
      all_goals simp_all [zB]
end Go.Proofs.YtnjefbkhibfgmaaGreat
namespace Go.Proofs.YtnjefbkhibfgmaaGreat
open Go.RowKit Go.BigFrame
theorem spec_OpOk (o : Opr) (w : World) (hs : StrO o) :
    Calls Tryz.prog 105 #[.agg #[.int .i64 o.k, .string o.vol, .string o.file, .string o.to, .string o.into, .int .i64 o.at', .int .i64 o.fr, .int .i64 o.ln, .string o.data]] w fun e w' => e = .returned (.bool (opB o)) ∧ Below w.heap.size w w' := by
  obtain ⟨k, vol, file, tt, into, at', fr, ln, data⟩ := o
  by_cases hk : 1 ≤ k ∧ k ≤ 10
  · have hk' : k = 1 ∨ k = 2 ∨ k = 3 ∨ k = 4 ∨ k = 5 ∨ k = 6 ∨ k = 7 ∨ k = 8 ∨ k = 9 ∨ k = 10 := by omega
    rcases hk' with rfl | rfl | rfl | rfl | rfl | rfl | rfl | rfl | rfl | rfl
    · exact spec_OpOk1 vol file tt into at' fr ln data w hs
    · exact spec_OpOk2 vol file tt into at' fr ln data w hs
    · exact spec_OpOk3 vol file tt into at' fr ln data w hs
    · exact spec_OpOk4 vol file tt into at' fr ln data w hs
    · exact spec_OpOk5 vol file tt into at' fr ln data w hs
    · exact spec_OpOk6 vol file tt into at' fr ln data w hs
    · exact spec_OpOk7 vol file tt into at' fr ln data w hs
    · exact spec_OpOk8 vol file tt into at' fr ln data w hs
    · exact spec_OpOk9 vol file tt into at' fr ln data w hs
    · exact spec_OpOk10 vol file tt into at' fr ln data w hs
  · exact spec_OpOk0 k vol file tt into at' fr ln data w hk
end Go.Proofs.YtnjefbkhibfgmaaGreat
namespace Go.Proofs.YtnjefbkhibfgmaaGreat
open Go Go.RowKit Go.BigFrame
theorem addC_len (c : Ct) : ∀ (l : List Ct), (addC l c).length ≤ l.length + 1
  | [] => by simp [addC]
  | y :: r => by
    have := addC_len c r
    unfold addC
    split
    · simp only [List.length_cons]; omega
    · split
      · split
        · simp only [List.length_cons]; omega
        · simp only [List.length_cons]; omega
      · simp only [List.length_cons]; omega
theorem sumC_len2 : ∀ (m l : List Ct), (sumC l m).length ≤ l.length + m.length
  | [], l => Nat.le_refl _
  | c :: r, l => by
    have h1 := sumC_len2 r (addC l c)
    have h2 := addC_len c l
    show (sumC (addC l c) r).length ≤ _
    simp only [List.length_cons]
    omega
theorem flush_dim {p : Po} (hp : poolB p = true) (hd : DimP p) : DimP (flushS p) := by
  obtain ⟨_, _, _, hr, hl⟩ := pool_right hp
  obtain ⟨z1, z2, z3, z4, z5, z6, z7, z8⟩ := hd
  have hs := sumC_len2 p.lt p.rf
  have q1 := (refs_bound hr).1
  have q2 := (late_bound hl).1
  refine ⟨Nat.le_trans (List.length_filter_le _ _) z1, fun e he => z2 e (List.mem_filter.1 he).1, z3, z4, ?_, sum_str z6 z8, Nat.zero_le _, fun c hc => by cases hc⟩
  show (sumC p.rf p.lt).length ≤ _
  omega
set_option maxHeartbeats 4000000 in
set_option maxRecDepth 100000 in
theorem spec_l6Done_form (B0 : Nat) (hB0 : 0 < B0) (v : Value) (p : Po) (o : Opr) (w : World) (h : PoolAt B0 w v p) (hd : DimP p) (hp : poolB p = true) (hso : StrO o) (hf : opB o = false) :
    Calls Tryz.prog 89 #[v, .agg #[.int .i64 o.k, .string o.vol, .string o.file, .string o.to, .string o.into, .int .i64 o.at', .int .i64 o.fr, .int .i64 o.ln, .string o.data]] w fun e w' => (∃ v' c, e = .returned (.tuple #[v', .int .i64 c]) ∧ c = (opS p o).1 ∧ PoolT w.heap.size w' v' (opS p o).2 ∧ DimP (opS p o).2) ∧ Below w.heap.size w w' := by
  have _ := hB0
  have _ := hp
  have hPA := h
  obtain ⟨ea, en, ec, va, vn, vc, ra, rn, rc, la, ln, lc, rfl, ⟨h1, k1⟩, ⟨h2, k2⟩, ⟨h3, k3⟩, h4, k4⟩ := h
  have hS : Hid (opS p o = (2, p)) := by show _ = _; simp [opS, hf]
  generalize opS p o = R at *
  go_enter Tryz.func89, Tryz.ntmps89
  go_wp2_with fail
  refine (spec_OpOk o _ hso).mono ?_
  rintro e w1 ⟨rfl, hB1⟩
  have C : Blk w1 w.heap.size #[.int .i64 p.size, .int .i64 p.next, .slice ea en ec, .slice va vn vc, .slice ra rn rc, .slice la ln lc] 28 := (((Blk.new w _ _).alloc _).alloc _).below hB1
  have O : Blk w1 (w.heap.size + 1) #[.int .i64 o.k, .string o.vol, .string o.file, .string o.to, .string o.into, .int .i64 o.at', .int .i64 o.fr, .int .i64 o.ln, .string o.data] 102 := ((Blk.new' _ _ _ _ (by simp)).alloc _).below hB1
  have D : Blk w1 (w.heap.size + 2) #[.int .i64 0, .int .i64 0, .slice none 0 0, .slice none 0 0, .slice none 0 0, .slice none 0 0] 28 := (Blk.new' _ _ _ _ (by simp)).below hB1
  have hBw1 : Below w.heap.size w w1 := chain (by go_grown) hB1
  have hs1 : w.heap.size + 3 ≤ w1.heap.size := by have := hB1.size; simp at this; omega
  clear hB1
  rw [hf]
  obtain ⟨x0, x1, x2, x3, x4, x5⟩ := D.six'
  have f0 := D.frozen 0
  have f1 := D.frozen 1
  have f2 := D.frozen 2
  have f3 := D.frozen 3
  have f4 := D.frozen 4
  have f5 := D.frozen 5
  obtain ⟨c0, c1, c2, c3, c4, c5⟩ := C.six'
  go_wp2_with fail
  refine (spec_l4Copy B0 hB0 _ p _ (hPA.below hBw1) hd).mono ?_
  rintro e wk ⟨⟨v', rfl, PT, _⟩, hBk⟩
  have PT0 := PT
  obtain ⟨ea', en', ec', va', vn', vc', ra', rn', rc', la', ln', lc', rows', rfl, _⟩ := PT
  have Dk := D.below hBk
  have hBwk := chain hBw1 hBk
  have hsk := hBk.size
  have hsw := hBw1.size
  clear x0 x1 x2 x3 x4 x5 f0 f1 f2 f3 f4 f5
  obtain ⟨x0, x1, x2, x3, x4, x5⟩ := Dk.six'
  have f0 := Dk.frozen 0
  have f1 := Dk.frozen 1
  have f2 := Dk.frozen 2
  have f3 := Dk.frozen 3
  have f4 := Dk.frozen 4
  have f5 := Dk.frozen 5
  go_wp2
  obtain ⟨W0, hg0⟩ := set6 Dk (.int .i64 p.size) (.int .i64 p.next) (.slice ea' en' ec') (.slice va' vn' vc') (.slice ra' rn' rc') (.slice la' ln' lc')
  have PF := (PT0.tyP hg0 (rowTy_blk Dk)).mono (show w.heap.size ≤ w1.heap.size by omega)
  have B8 := hBwk.grown hg0 hBwk.size (fun j e => by cases e; omega)
  generalize ((((((wk.setCell ⟨w.heap.size + 2, 0, none⟩ (.int .i64 p.size)).setCell ⟨w.heap.size + 2, 1, none⟩ (.int .i64 p.next)).setCell ⟨w.heap.size + 2, 2, none⟩ (.slice ea' en' ec')).setCell ⟨w.heap.size + 2, 3, none⟩ (.slice va' vn' vc')).setCell ⟨w.heap.size + 2, 4, none⟩ (.slice ra' rn' rc')).setCell ⟨w.heap.size + 2, 5, none⟩ (.slice la' ln' lc')) = W8 at *
  refine bodyPost_ret (results_cell_tmp rfl _ W8 (w.heap.size + 2) _ _ _ _ _ rfl W0 Tryz.underlying28 rfl (by kernel_rfl) rfl) rfl ?_
  exact ⟨⟨_, 2, rfl, by rw [hS.out], by rw [hS.out]; exact PF, by rw [hS.out]; exact hd⟩, B8⟩
end Go.Proofs.YtnjefbkhibfgmaaGreat
namespace Go.Proofs.YtnjefbkhibfgmaaGreat
open Go Go.RowKit Go.BigFrame
set_option maxHeartbeats 4000000 in
set_option maxRecDepth 100000 in
theorem spec_l6Done_flush (B0 : Nat) (hB0 : 0 < B0) (v : Value) (p : Po) (o : Opr) (w : World) (h : PoolAt B0 w v p) (hd : DimP p) (hp : poolB p = true) (hso : StrO o) (hf : opB o = true) (hk : o.k = 9) :
    Calls Tryz.prog 89 #[v, .agg #[.int .i64 o.k, .string o.vol, .string o.file, .string o.to, .string o.into, .int .i64 o.at', .int .i64 o.fr, .int .i64 o.ln, .string o.data]] w fun e w' => (∃ v' c, e = .returned (.tuple #[v', .int .i64 c]) ∧ c = (opS p o).1 ∧ PoolT w.heap.size w' v' (opS p o).2 ∧ DimP (opS p o).2) ∧ Below w.heap.size w w' := by
  have _ := hB0
  have _ := hp
  have hPA := h
  obtain ⟨ea, en, ec, va, vn, vc, ra, rn, rc, la, ln, lc, rfl, ⟨h1, k1⟩, ⟨h2, k2⟩, ⟨h3, k3⟩, h4, k4⟩ := h
  have hS : Hid (opS p o = (0, flushS p)) := by show _ = _; simp [opS, hf, hk]
  generalize opS p o = R at *
  obtain ⟨_, _, _, hrB, hlB⟩ := pool_right hp
  have hk9 : Hid (o.k = 9) := hk
  clear hk
  go_enter Tryz.func89, Tryz.ntmps89
  go_wp2_with fail
  refine (spec_OpOk o _ hso).mono ?_
  rintro e w1 ⟨rfl, hB1⟩
  have C : Blk w1 w.heap.size #[.int .i64 p.size, .int .i64 p.next, .slice ea en ec, .slice va vn vc, .slice ra rn rc, .slice la ln lc] 28 := (((Blk.new w _ _).alloc _).alloc _).below hB1
  have O : Blk w1 (w.heap.size + 1) #[.int .i64 o.k, .string o.vol, .string o.file, .string o.to, .string o.into, .int .i64 o.at', .int .i64 o.fr, .int .i64 o.ln, .string o.data] 102 := ((Blk.new' _ _ _ _ (by simp)).alloc _).below hB1
  have D : Blk w1 (w.heap.size + 2) #[.int .i64 0, .int .i64 0, .slice none 0 0, .slice none 0 0, .slice none 0 0, .slice none 0 0] 28 := (Blk.new' _ _ _ _ (by simp)).below hB1
  have hBw1 : Below w.heap.size w w1 := chain (by go_grown) hB1
  have hs1 : w.heap.size + 3 ≤ w1.heap.size := by have := hB1.size; simp at this; omega
  clear hB1
  rw [hf]
  obtain ⟨x0, x1, x2, x3, x4, x5⟩ := D.six'
  have f0 := D.frozen 0
  have f1 := D.frozen 1
  have f2 := D.frozen 2
  have f3 := D.frozen 3
  have f4 := D.frozen 4
  have f5 := D.frozen 5
  obtain ⟨c0, c1, c2, c3, c4, c5⟩ := C.six'
  have o0 : w1.cell? ⟨w.heap.size + 1, 0, none⟩ = some (.int .i64 9) := by rw [← hk9.out]; exact O.cell 0
  go_wp2_with fail
  refine (spec_l4Copy B0 hB0 _ p _ (hPA.below hBw1) hd).mono ?_
  rintro e wk ⟨⟨v', rfl, PT, _⟩, hBk⟩
  have hBwk := chain hBw1 hBk
  have hsk := hBk.size
  go_wp2_with fail
  refine (spec_l6Flush w1.heap.size v' p _ PT hsk hd.1 (by have := (refs_bound hrB).1; omega) (by have := (late_bound hlB).1; omega) (fun x hx => by have := (refs_bound hrB).2 x hx; omega) (fun x hx => by have := (late_bound hlB).2 x hx; omega)).mono ?_
  rintro e wl ⟨⟨v2, rfl, PT2⟩, hBl⟩
  have PT0 := PT2
  obtain ⟨ea', en', ec', va', vn', vc', ra', rn', rc', la', ln', lc', rows', rfl, _⟩ := PT2
  have Dl := (D.below hBk).below hBl
  have hBwl := chain hBwk hBl
  have hsl := hBl.size
  clear x0 x1 x2 x3 x4 x5 f0 f1 f2 f3 f4 f5
  obtain ⟨x0, x1, x2, x3, x4, x5⟩ := Dl.six'
  have f0 := Dl.frozen 0
  have f1 := Dl.frozen 1
  have f2 := Dl.frozen 2
  have f3 := Dl.frozen 3
  have f4 := Dl.frozen 4
  have f5 := Dl.frozen 5
  go_wp2
  obtain ⟨W0, hg0⟩ := set6 Dl (.int .i64 (flushS p).size) (.int .i64 (flushS p).next) (.slice ea' en' ec') (.slice va' vn' vc') (.slice ra' rn' rc') (.slice la' ln' lc')
  have PF := (PT0.tyP hg0 (rowTy_blk Dl)).mono (show w.heap.size ≤ w1.heap.size by omega)
  have B8 := hBwl.grown hg0 hBwl.size (fun j e => by cases e; omega)
  generalize ((((((wl.setCell ⟨w.heap.size + 2, 0, none⟩ (.int .i64 (flushS p).size)).setCell ⟨w.heap.size + 2, 1, none⟩ (.int .i64 (flushS p).next)).setCell ⟨w.heap.size + 2, 2, none⟩ (.slice ea' en' ec')).setCell ⟨w.heap.size + 2, 3, none⟩ (.slice va' vn' vc')).setCell ⟨w.heap.size + 2, 4, none⟩ (.slice ra' rn' rc')).setCell ⟨w.heap.size + 2, 5, none⟩ (.slice la' ln' lc')) = W8 at *
  refine bodyPost_ret (results_cell_tmp rfl _ W8 (w.heap.size + 2) _ _ _ _ _ rfl W0 Tryz.underlying28 rfl (by kernel_rfl) rfl) rfl ?_
  exact ⟨⟨_, 0, rfl, by rw [hS.out], by rw [hS.out]; exact PF, by rw [hS.out]; exact flush_dim hp hd⟩, B8⟩
end Go.Proofs.YtnjefbkhibfgmaaGreat
