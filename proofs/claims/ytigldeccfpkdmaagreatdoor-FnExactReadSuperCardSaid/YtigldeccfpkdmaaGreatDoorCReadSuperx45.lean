/- A commitment's bytes, by the model: what stands between its edges is any text. What the laws over pools have in common. A commitment's bytes, by the model. A commitment's bytes, by the program. -/
import Derived.Test.YtigldeccfpkdmaaGreatDoorCReadSuperx03
import Derived.Test.YtigldeccfpkdmaaGreatDoorCReadSuperx04
import Derived.Test.YtigldeccfpkdmaaGreatDoorCReadSuperx44
import Derived.Test.YtigldeccfpkdmaaGreatDoorCReadSuperx10
import Derived.Lib.SmallJoins
import Derived.Test.YtigldeccfpkdmaaGreatDoorCReadSuperx00
import Derived.Test.YtigldeccfpkdmaaGreatDoorCReadSuperx20
import Derived.Test.YtigldeccfpkdmaaGreatDoorCReadSuperx27
import Derived.Test.YtigldeccfpkdmaaGreatDoorCReadSuperx31
import Derived.Test.YtigldeccfpkdmaaGreatDoorCReadSuperx28
namespace Go.Proofs.YtigldeccfpkdmaaGreatDoor
open Go Go.RowKit Go.BigFrame Go.Shelf
theorem conv4w {w : World} {b : Nat} {a c d e : Int} (h : Blk w b #[.int .u8 a, .int .u8 c, .int .u8 d, .int .u8 e] 5) : (convert 173 9 (.slice (some ⟨b, 0, none⟩) 4 4)).run Tryz.prog w = .ok (.string (strOfNums [a, c, d, e])) w :=
  run_convert_bytes_arg (P := Tryz.prog) _ 173 5 Tryz.underlying173 Tryz.underlying5 b 0 4 4 [a, c, d, e] rfl (fun i hi => (by
    rcases i with _ | _ | _ | _ | i
    · exact h.cell 0
    · exact h.cell 1
    · exact h.cell 2
    · exact h.cell 3
    · omega)) 9 Tryz.underlying9
theorem body_eq {dn T : ByteArray} {n : Int} {t : List UInt8} (hd : decB n = dn) (hT : (⟨t.toArray⟩ : ByteArray) = T) : dn ++ ⟨#[10]⟩ ++ T = ⟨(bodyC n t).toArray⟩ := by
  rw [← hd, ← hT]
  refine ba_eqX ?_
  simp [bodyC, ByteArray.data_append]
theorem body_len {n : Int} {t : List UInt8} (h0 : 0 ≤ n) (h1 : n ≤ 1000000000) (ht : t.length ≤ 1000000) : (bodyC n t).length ≤ 1000014 := by
  have := decB_size (n := n) (by omega) (by omega)
  have h2 : (decB n).data.toList.length = (decB n).size := by simp
  unfold bodyC
  simp only [List.length_append, List.length_singleton]
  omega
theorem twoLX {P : Program} {Q : Exit → Act → World → Prop} {md : Region.Mode} {S : World → Prop} {l : List Oper} {i j : Nat} {o o' : Oper} {fuel : Nat} {listed : Array Bool} {a : Act} {w : World} (hr : Region.ready md l.toArray listed = [i, j]) (hi : l[i]? = some o) (hj : l[j]? = some o')
    (h : ∀ K' : Act → World → Prop, Shut (∀ a w, S w → (S w → wpAnyH P md l.toArray Q S fuel (listed.setIfInBounds i true) a w) → K' a w) → if Region.wanted o (yielded l.toArray a.tmps) = true then Oper.wp P o a w K' Q else K' (a.put o.dst undef) w)
    (h' : ∀ K' : Act → World → Prop, Shut (∀ a w, S w → (S w → wpAnyH P md l.toArray Q S fuel (listed.setIfInBounds j true) a w) → K' a w) → if Region.wanted o' (yielded l.toArray a.tmps) = true then Oper.wp P o' a w K' Q else K' (a.put o'.dst undef) w) :
    wpAnyH P md l.toArray Q S (fuel + 1) listed a w :=
  wpAnyH_ready hr (by simp) (AllReadyH.cons (by simpa using hi) h (AllReadyH.cons (by simpa using hj) h' AllReadyH.nil))
set_option maxHeartbeats 4000000 in
set_option maxRecDepth 100000 in
theorem spec_l9SuperG (sz nx : Int) (ea : Option Addr) (en ec : Nat) (va : Option Addr) (vn vc : Nat) (ra : Option Addr) (rn rc : Nat) (la : Option Addr) (ln lc : Nat) (n : Int) (T : ByteArray) (w : World) (h0 : 0 ≤ n) (h1 : n ≤ 1000000000) (hTs : T.size ≤ 1000000)
    (kt : ∀ u : World, Below w.heap.size w u → Calls Tryz.prog 92 #[.agg #[.int .i64 sz, .int .i64 nx, .slice ea en ec, .slice va vn vc, .slice ra rn rc, .slice la ln lc]] u fun e w' => e = .returned (.string T) ∧ Below u.heap.size u w') :
    Calls Tryz.prog 56 #[.int .i64 n, .agg #[.int .i64 sz, .int .i64 nx, .slice ea en ec, .slice va vn vc, .slice ra rn rc, .slice la ln lc]] w fun e w' => e = .returned (.string (superC n T.data.toList)) ∧ Below w.heap.size w w' := by
  obtain ⟨dn, hdn⟩ : ∃ zz, Hid (decB n = zz) := ⟨_, rfl⟩
  have kd : ∀ u : World, Calls Tryz.prog 122 #[.int .i64 n] u fun e w' => e = .returned (.string dn) ∧ Below u.heap.size u w' := fun u => by rw [← hdn.out]; exact spec_l1Dec n u (by omega) (by omega)
  have hTl : T.data.toList.length ≤ 1000000 := by rw [← Lib.size_eq]; exact hTs
  have hbl := body_len h0 h1 hTl
  obtain ⟨b, hb⟩ : ∃ z, Hid (z = dn ++ ⟨#[10]⟩ ++ T) := ⟨_, rfl⟩
  have hbb : Hid (b = ⟨(bodyC n T.data.toList).toArray⟩) := by show _ = _; rw [hb.out, body_eq hdn.out (Lib.mk_data T)]
  have hbs : b.size ≤ 1000014 := by
    rw [hbb.out]
    show (bodyC n T.data.toList).toArray.size ≤ _
    simpa using hbl
  have hdl : dn.size ≤ 13 := by rw [← hdn.out]; exact decB_size (by omega) (by omega)
  have e1 : ¬ 9223372036854775807 < dn.size + (⟨#[10]⟩ : ByteArray).size := by show ¬ _ < _ + 1; omega
  have e2 : ¬ 9223372036854775807 < (dn ++ ⟨#[10]⟩).size + T.size := by
    have : (dn ++ ⟨#[10]⟩ ++ T).size ≤ 1000014 := by rw [← hb.out]; exact hbs
    rw [app_size] at this
    omega
  have hfin : Hid (superC n T.data.toList = hiB b.size ++ b ++ loB (crcS b.data.toList)) := by
    show _ = _
    unfold superC
    rw [hbb.out]
    have : ((⟨(bodyC n T.data.toList).toArray⟩ : ByteArray).size) = (bodyC n T.data.toList).length := by show (bodyC n T.data.toList).toArray.size = _; simp
    rw [this]
  generalize superC n T.data.toList = R at *
  go_enter Tryz.func56, Tryz.ntmps56
  have C := Blk.new w #[.int .i64 sz, .int .i64 nx, .slice ea en ec, .slice va vn vc, .slice ra rn rc, .slice la ln lc] 26
  have hBw : Below w.heap.size w (w.alloc (.cells #[.int .i64 sz, .int .i64 nx, .slice ea en ec, .slice va vn vc, .slice ra rn rc, .slice la ln lc] 26)) := by go_grown
  go_wp2_with fail
  generalize w.alloc (.cells #[.int .i64 sz, .int .i64 nx, .slice ea en ec, .slice va vn vc, .slice ra rn rc, .slice la ln lc] 26) = W at *
  replace kt := fun (u : World) (hu : Below W.heap.size W u) => kt u (chain hBw hu)
  have q0 := gcell (C.cell 0)
  have q1 := gcell (C.cell 1)
  have q2 := gcell (C.cell 2)
  have q3 := gcell (C.cell 3)
  have q4 := gcell (C.cell 4)
  have q5 := gcell (C.cell 5)
  refine wp_region_grow (by kernel_rfl) (by kernel_rfl) ?_
  have hne := grw_ne W
  iterate 2 (go_big_quiet_step (first | (go_at_call 122; exact grow_of (kd _))))
  iterate 3 (go_big_quiet_step (first | (go_at_call 92; exact grow_of (kt _ (Grw.h _)))))
  iterate 2 (go_big_quiet_step (fail))
  refine wpQuiet_nil ?_
  intro w1 hx1
  have hB1 := chain hBw (grw_out hx1)
  rw [← hb.out]
  clear hx1 q0 q1 q2 q3 q4 q5 e1 e2 kd kt hdl hBw C
  go_wp2_with fail
  obtain ⟨H, hH⟩ : ∃ z, Hid (strOfNums [IntKind.u8.wrap ((b.size : Int) / 16777216), IntKind.u8.wrap ((b.size : Int) / 65536), IntKind.u8.wrap ((b.size : Int) / 256), IntKind.u8.wrap (b.size : Int)] = z) := ⟨_, rfl⟩
  have hHh : Hid (H = hiB b.size) := by
    show _ = _
    rw [← hH.out, hiB]
    simp only [IntKind.wrap_u8]
    rw [Int.emod_eq_of_lt (a := (b.size : Int) / 16777216) (by omega) (by omega)]
  obtain ⟨L, hL⟩ : ∃ z, Hid (loB (crcS b.data.toList) = z) := ⟨_, rfl⟩
  have hHs : H.size = 4 := by rw [← hH.out, strOfNums_size]; rfl
  have hLs : L.size = 4 := by rw [← hL.out, loB, strOfNums_size]; rfl
  have e3 : ¬ 9223372036854775807 < H.size + b.size := by omega
  have e4 : ¬ 9223372036854775807 < H.size + b.size + L.size := by omega
  clear hHs hLs
  have hB2 := hB1.drew
  have hS0 : (fun _ => True) w1.drew := trivial
  refine wp_region_heldX (S := (fun _ => True)) 19 (by kernel_rfl) rfl ?_
  generalize w1.drew = W2 at *
  clear hB1 w1
  refine takeQ (i := 0) (v := ?vq1) rfl (by kernel_rfl) (fun _ _ _ h => h) (by rfl) ?hq1 (by assumption) ?rq1
  case hq1 => (intro u hu; (try dsimp only at hu); go_simp <;> with_reducible rfl)
  try simp only [Act.put, lsA, lsB, lsC]
  refine takeQ (i := 1) (v := ?vq2) rfl (by kernel_rfl) (fun _ _ _ h => h) (by rfl) ?hq2 (by assumption) ?rq2
  case hq2 => (intro u hu; (try dsimp only at hu); go_simp <;> with_reducible rfl)
  try simp only [Act.put, lsA, lsB, lsC]
  refine takeQ (i := 2) (v := ?vq3) rfl (by kernel_rfl) (fun _ _ _ h => h) (by rfl) ?hq3 (by assumption) ?rq3
  case hq3 => (intro u hu; (try dsimp only at hu); go_simp <;> with_reducible rfl)
  try simp only [Act.put, lsA, lsB, lsC]
  refine takeQ (i := 3) (v := ?vq4) rfl (by kernel_rfl) (fun _ _ _ h => h) (by rfl) ?hq4 (by assumption) ?rq4
  case hq4 => (intro u hu; (try dsimp only at hu); go_simp <;> with_reducible rfl)
  try simp only [Act.put, lsA, lsB, lsC]
  refine takeQ (i := 4) (v := ?vq5) rfl (by kernel_rfl) (fun _ _ _ h => h) (by rfl) ?hq5 (by assumption) ?rq5
  case hq5 => (intro u hu; (try dsimp only at hu); go_simp <;> with_reducible rfl)
  try simp only [Act.put, lsA, lsB, lsC]
  refine takeQ (i := 5) (v := ?vq6) rfl (by kernel_rfl) (fun _ _ _ h => h) (by rfl) ?hq6 (by assumption) ?rq6
  case hq6 => (intro u hu; (try dsimp only at hu); go_simp <;> with_reducible rfl)
  try simp only [Act.put, lsA, lsB, lsC]
  refine takeQ (i := 6) (v := ?vq7) rfl (by kernel_rfl) (fun _ _ _ h => h) (by rfl) ?hq7 (by assumption) ?rq7
  case hq7 => (intro u hu; (try dsimp only at hu); go_simp <;> with_reducible rfl)
  try simp only [Act.put, lsA, lsB, lsC]
  refine takeQ (i := 7) (v := ?vq8) rfl (by kernel_rfl) (fun _ _ _ h => h) (by rfl) ?hq8 (by assumption) ?rq8
  case hq8 => (intro u hu; (try dsimp only at hu); go_simp <;> with_reducible rfl)
  try simp only [Act.put, lsA, lsB, lsC]
  refine takeQ (i := 8) (v := ?vq9) rfl (by kernel_rfl) (fun _ _ _ h => h) (by rfl) ?hq9 (by assumption) ?rq9
  case hq9 => (intro u hu; (try dsimp only at hu); go_simp <;> with_reducible rfl)
  try simp only [Act.put, lsA, lsB, lsC]
  refine takeQ (i := 9) (v := ?vq10) rfl (by kernel_rfl) (fun _ _ _ h => h) (by rfl) ?hq10 (by assumption) ?rq10
  case hq10 => (intro u hu; (try dsimp only at hu); go_simp <;> with_reducible rfl)
  try simp only [Act.put, lsA, lsB, lsC]
  refine takeQ (i := 10) (v := ?vq11) rfl (by kernel_rfl) (fun _ _ _ h => h) (by rfl) ?hq11 (by assumption) ?rq11
  case hq11 => (intro u hu; (try dsimp only at hu); go_simp <;> with_reducible rfl)
  try simp only [Act.put, lsA, lsB, lsC]
  refine takeQ (i := 13) (v := ?vq12) rfl (by kernel_rfl) (fun _ _ _ h => h) (by rfl) ?hq12 (by assumption) ?rq12
  case hq12 => (intro u hu; (try dsimp only at hu); go_simp <;> with_reducible rfl)
  try simp only [Act.put, lsA, lsB, lsC]
  refine takeQ (i := 15) (v := ?vq13) rfl (by kernel_rfl) (fun _ _ _ h => h) (by rfl) ?hq13 (by assumption) ?rq13
  case hq13 => (intro u hu; (try dsimp only at hu); go_simp <;> with_reducible rfl)
  try simp only [Act.put, lsA, lsB, lsC]
  refine twoLX (i := 11) (j := 16) (by kernel_rfl) rfl rfl (fun K hK => ?_) (fun K hK => ?_)
  · go_simp
    have V3 := Blk.new W2 #[.int .u8 (IntKind.u8.wrap (↑b.size / 16777216)), .int .u8 (IntKind.u8.wrap (↑b.size / 65536)), .int .u8 (IntKind.u8.wrap (↑b.size / 256)), .int .u8 (IntKind.u8.wrap ↑b.size)] 5
    have hB3 : Below w.heap.size w (W2.alloc (.cells #[.int .u8 (IntKind.u8.wrap (↑b.size / 16777216)), .int .u8 (IntKind.u8.wrap (↑b.size / 65536)), .int .u8 (IntKind.u8.wrap (↑b.size / 256)), .int .u8 (IntKind.u8.wrap ↑b.size)] 5)) := hB2.alloc hB2.size _
    generalize W2.alloc (.cells #[.int .u8 (IntKind.u8.wrap (↑b.size / 16777216)), .int .u8 (IntKind.u8.wrap (↑b.size / 65536)), .int .u8 (IntKind.u8.wrap (↑b.size / 256)), .int .u8 (IntKind.u8.wrap ↑b.size)] 5) = W3 at *
    refine hK.out _ _ trivial (fun hHeld => ?_)
    clear hK K
    try simp only [Act.put, lsA, lsB, lsC]
    refine twoLX (i := 12) (j := 16) (by kernel_rfl) rfl rfl (fun K hK => ?_) (fun K hK => ?_)
    · have hcv := conv4w V3
      rw [hH.out] at hcv
      go_simp
      refine hK.out _ _ trivial (fun hHeld => ?_)
      clear hK K
      try simp only [Act.put, lsA, lsB, lsC]
      refine takeQ (i := 14) (v := ?vq14) rfl (by kernel_rfl) (fun _ _ _ h => h) (by rfl) ?hq14 (by assumption) ?rq14
      case hq14 => (intro u hu; (try dsimp only at hu); go_simp <;> with_reducible rfl)
      try simp only [Act.put, lsA, lsB, lsC]
      refine oneL (i := 16) (by kernel_rfl) rfl (fun K hK => ?_)
      go_simp
      refine (spec_l9Sum b _ (by omega)).mono ?_
      rintro e W4 ⟨rfl, hB4⟩
      replace hB4 := chain hB3 hB4
      rw [hL.out]
      dsimp only
      refine hK.out _ _ trivial (fun hHeld => ?_)
      clear hK K
      try simp only [Act.put, lsA, lsB, lsC]
      refine takeQ (i := 17) (v := ?vq15) rfl (by kernel_rfl) (fun _ _ _ h => h) (by rfl) ?hq15 (by assumption) ?rq15
      case hq15 => (intro u hu; (try dsimp only at hu); go_simp <;> with_reducible rfl)
      try simp only [Act.put, lsA, lsB, lsC]
      refine takeQ (i := 18) (v := ?vq16) rfl (by kernel_rfl) (fun _ _ _ h => h) (by rfl) ?hq16 (by assumption) ?rq16
      case hq16 => (intro u hu; (try dsimp only at hu); go_simp <;> with_reducible rfl)
      try simp only [Act.put, lsA, lsB, lsC]
      refine wpAnyH_done (by kernel_rfl) ?_ _
      go_wp2
      go_returns
      exact ⟨by rw [hfin.out, ← hHh.out, hL.out]; rfl, hB4⟩
    · go_simp
      refine (spec_l9Sum b _ (by omega)).mono ?_
      rintro e W4 ⟨rfl, hB4⟩
      have V4 := V3.below hB4
      replace hB4 := chain hB3 hB4
      rw [hL.out]
      dsimp only
      refine hK.out _ _ trivial (fun hHeld => ?_)
      clear hK K
      try simp only [Act.put, lsA, lsB, lsC]
      refine oneL (i := 12) (by kernel_rfl) rfl (fun K hK => ?_)
      have hcv := conv4w V4
      rw [hH.out] at hcv
      go_simp
      refine hK.out _ _ trivial (fun hHeld => ?_)
      clear hK K
      try simp only [Act.put, lsA, lsB, lsC]
      refine takeQ (i := 14) (v := ?vq17) rfl (by kernel_rfl) (fun _ _ _ h => h) (by rfl) ?hq17 (by assumption) ?rq17
      case hq17 => (intro u hu; (try dsimp only at hu); go_simp <;> with_reducible rfl)
      try simp only [Act.put, lsA, lsB, lsC]
      refine takeQ (i := 17) (v := ?vq18) rfl (by kernel_rfl) (fun _ _ _ h => h) (by rfl) ?hq18 (by assumption) ?rq18
      case hq18 => (intro u hu; (try dsimp only at hu); go_simp <;> with_reducible rfl)
      try simp only [Act.put, lsA, lsB, lsC]
      refine takeQ (i := 18) (v := ?vq19) rfl (by kernel_rfl) (fun _ _ _ h => h) (by rfl) ?hq19 (by assumption) ?rq19
      case hq19 => (intro u hu; (try dsimp only at hu); go_simp <;> with_reducible rfl)
      try simp only [Act.put, lsA, lsB, lsC]
      refine wpAnyH_done (by kernel_rfl) ?_ _
      go_wp2
      go_returns
      exact ⟨by rw [hfin.out, ← hHh.out, hL.out]; rfl, hB4⟩
  · go_simp
    refine (spec_l9Sum b _ (by omega)).mono ?_
    rintro e W3 ⟨rfl, hB3⟩
    replace hB3 := chain hB2 hB3
    rw [hL.out]
    dsimp only
    refine hK.out _ _ trivial (fun hHeld => ?_)
    clear hK K
    try simp only [Act.put, lsA, lsB, lsC]
    refine oneL (i := 11) (by kernel_rfl) rfl (fun K hK => ?_)
    go_simp
    have V4 := Blk.new W3 #[.int .u8 (IntKind.u8.wrap (↑b.size / 16777216)), .int .u8 (IntKind.u8.wrap (↑b.size / 65536)), .int .u8 (IntKind.u8.wrap (↑b.size / 256)), .int .u8 (IntKind.u8.wrap ↑b.size)] 5
    have hB4 : Below w.heap.size w (W3.alloc (.cells #[.int .u8 (IntKind.u8.wrap (↑b.size / 16777216)), .int .u8 (IntKind.u8.wrap (↑b.size / 65536)), .int .u8 (IntKind.u8.wrap (↑b.size / 256)), .int .u8 (IntKind.u8.wrap ↑b.size)] 5)) := hB3.alloc hB3.size _
    generalize W3.alloc (.cells #[.int .u8 (IntKind.u8.wrap (↑b.size / 16777216)), .int .u8 (IntKind.u8.wrap (↑b.size / 65536)), .int .u8 (IntKind.u8.wrap (↑b.size / 256)), .int .u8 (IntKind.u8.wrap ↑b.size)] 5) = W4 at *
    refine hK.out _ _ trivial (fun hHeld => ?_)
    clear hK K
    try simp only [Act.put, lsA, lsB, lsC]
    refine oneL (i := 12) (by kernel_rfl) rfl (fun K hK => ?_)
    have hcv := conv4w V4
    rw [hH.out] at hcv
    go_simp
    refine hK.out _ _ trivial (fun hHeld => ?_)
    clear hK K
    try simp only [Act.put, lsA, lsB, lsC]
    refine takeQ (i := 14) (v := ?vq20) rfl (by kernel_rfl) (fun _ _ _ h => h) (by rfl) ?hq20 (by assumption) ?rq20
    case hq20 => (intro u hu; (try dsimp only at hu); go_simp <;> with_reducible rfl)
    try simp only [Act.put, lsA, lsB, lsC]
    refine takeQ (i := 17) (v := ?vq21) rfl (by kernel_rfl) (fun _ _ _ h => h) (by rfl) ?hq21 (by assumption) ?rq21
    case hq21 => (intro u hu; (try dsimp only at hu); go_simp <;> with_reducible rfl)
    try simp only [Act.put, lsA, lsB, lsC]
    refine takeQ (i := 18) (v := ?vq22) rfl (by kernel_rfl) (fun _ _ _ h => h) (by rfl) ?hq22 (by assumption) ?rq22
    case hq22 => (intro u hu; (try dsimp only at hu); go_simp <;> with_reducible rfl)
    try simp only [Act.put, lsA, lsB, lsC]
    refine wpAnyH_done (by kernel_rfl) ?_ _
    go_wp2
    go_returns
    exact ⟨by rw [hfin.out, ← hHh.out, hL.out]; rfl, hB4⟩
end Go.Proofs.YtigldeccfpkdmaaGreatDoor
namespace Go.Proofs.YtigldeccfpkdmaaGreatDoor
open Go.RowKit Go.BigFrame
theorem SmallP.dim {p : Po} (h : SmallP p) : DimP p := by
  obtain ⟨h1, h2, h3, h4⟩ := h
  refine ⟨by have := h1.1; omega, h1.strs, by have := h2.1; omega, fun v hv => ?_, by have := h3.1; omega, h3.strs, by have := h4.1; omega, h4.strs⟩
  obtain ⟨a1, a2, a3⟩ := h2.2 v hv
  exact ⟨by omega, by omega, fun x hx => by have := a3 x hx; omega⟩
theorem PoolAt.cells {B : Nat} {w : World} {v : Value} {p : Po} (h : PoolAt B w v p) : ∃ ea en ec va vn vc ra rn rc la ln lc, v = .agg #[.int .i64 p.size, .int .i64 p.next, .slice ea en ec, .slice va vn vc, .slice ra rn rc, .slice la ln lc] := by
  obtain ⟨ea, en, ec, va, vn, vc, ra, rn, rc, la, ln, lc, rfl, _⟩ := h
  exact ⟨_, _, _, _, _, _, _, _, _, _, _, _, rfl⟩
/-- The six cells of a block that holds a pool. -/
theorem Blk.six {w : World} {b : Nat} {c0 c1 c2 c3 c4 c5 : Value} {t : TypeId} (h : Blk w b #[c0, c1, c2, c3, c4, c5] t) : w.cell? ⟨b, 0, none⟩ = some c0 ∧ w.cell? ⟨b, 1, none⟩ = some c1 ∧ w.cell? ⟨b, 2, none⟩ = some c2 ∧ w.cell? ⟨b, 3, none⟩ = some c3 ∧ w.cell? ⟨b, 4, none⟩ = some c4 ∧ w.cell? ⟨b, 5, none⟩ = some c5 :=
  ⟨h.cell 0, h.cell 1, h.cell 2, h.cell 3, h.cell 4, h.cell 5⟩
end Go.Proofs.YtigldeccfpkdmaaGreatDoor
namespace Go.Proofs.YtigldeccfpkdmaaGreatDoor
open Go Go.RowKit Go.BigFrame Go.Shelf
/-- The bytes of a commitment; none where it is not right. -/
def superO (n : Int) (p : Po) : ByteArray := if (0 ≤ n ∧ n ≤ 1000000000) ∧ poolB p = true ∧ p.lt = [] then superC n (textW p) else ⟨#[]⟩
theorem superO_no {n : Int} {p : Po} (h : ¬ ((0 ≤ n ∧ n ≤ 1000000000) ∧ poolB p = true ∧ p.lt = [])) : superO n p = ⟨#[]⟩ := if_neg h
theorem superO_yes {n : Int} {p : Po} (h0 : 0 ≤ n) (h1 : n ≤ 1000000000) (hp : poolB p = true) (hl : p.lt = []) : superO n p = superC n (textW p) := if_pos ⟨⟨h0, h1⟩, hp, hl⟩
theorem spec_l9Super (B0 : Nat) (v : Value) (p : Po) (n : Int) (w : World) (h : PoolAt B0 w v p) (hd : DimP p) (hN : NumO p) (h0 : 0 ≤ n) (h1 : n ≤ 1000000000) :
    Calls Tryz.prog 56 #[.int .i64 n, v] w fun e w' => e = .returned (.string (superC n (textW p))) ∧ Below w.heap.size w w' := by
  have hPA := h
  obtain ⟨ea, en, ec, va, vn, vc, ra, rn, rc, la, ln, lc, rfl, _⟩ := h
  have hs : (⟨(textW p).toArray⟩ : ByteArray).size ≤ 1000000 := by show (textW p).toArray.size ≤ _; simpa using hN.len
  have := spec_l9SuperG p.size p.next ea en ec va vn vc ra rn rc la ln lc n ⟨(textW p).toArray⟩ w h0 h1 hs (fun u hu => spec_l7Text B0 _ p u (hPA.below hu) hd hN)
  simpa using this
set_option maxHeartbeats 4000000 in
set_option maxRecDepth 100000 in
theorem spec_SuperText (B0 : Nat) (hB0 : 0 < B0) (v : Value) (p : Po) (n : Int) (w : World) (h : PoolAt B0 w v p) (hd : DimP p) (hN : poolB p = true → NumO p) :
    Calls Tryz.prog 15 #[.int .i64 n, v] w fun e w' => e = .returned (.string (superO n p)) ∧ Below w.heap.size w w' := by
  have hPA := h
  obtain ⟨ea, en, ec, va, vn, vc, ra, rn, rc, la, ln, lc, rfl, _, _, _, h4, _⟩ := h
  have hlen : Hid (p.lt.length = ln) := h4.len
  clear h4
  have C := Blk.new w #[.int .i64 p.size, .int .i64 p.next, .slice ea en ec, .slice va vn vc, .slice ra rn rc, .slice la ln lc] 26
  have hBw : Below w.heap.size w (w.alloc (.cells #[.int .i64 p.size, .int .i64 p.next, .slice ea en ec, .slice va vn vc, .slice ra rn rc, .slice la ln lc] 26)) := by go_grown
  have kin := fun (u : World) => spec_l1In n 0 1000000000 u
  by_cases hx : (0 ≤ n ∧ n ≤ 1000000000) ∧ poolB p = true ∧ p.lt = []
  · obtain ⟨⟨h0, h1⟩, hp, hl⟩ := hx
    have hln : ln = 0 := by rw [← hlen.out, hl]; rfl
    subst hln
    have ks := fun (u : World) (hu : Below w.heap.size w u) => spec_l9Super B0 _ p n u (hPA.below hu) hd (hN hp) h0 h1
    have kp := fun (u : World) (hu : Below w.heap.size w u) => spec_PoolOk B0 hB0 _ p u (hPA.below hu) hd
    rw [hp] at kp
    rw [superO_yes h0 h1 hp hl]
    obtain ⟨T, hT⟩ : ∃ z, Hid (superC n (textW p) = z) := ⟨_, rfl⟩
    rw [hT.out] at ks
    rw [hT.out]
    go_enter Tryz.func15, Tryz.ntmps15
    go_wp2_with fail
    generalize w.alloc (.cells #[.int .i64 p.size, .int .i64 p.next, .slice ea en ec, .slice va vn vc, .slice ra rn rc, .slice la 0 lc] 26) = W at *
    have d0 := C.cell 0
    have d1 := C.cell 1
    have d2 := C.cell 2
    have d3 := C.cell 3
    have d4 := C.cell 4
    have d5 := C.cell 5
    refine (kin W).mono ?_
    rintro e w1 ⟨rfl, rfl⟩
    rw [show (decide (0 ≤ n) && decide (n ≤ 1000000000)) = true by simp [h0, h1]]
    go_wp2_with fail
    refine (kp _ hBw).mono ?_
    rintro e w2 ⟨rfl, hB2⟩
    have C2 := C.below hB2
    replace hB2 := chain hBw hB2
    clear d0 d1 d2 d3 d4 d5 C hBw
    obtain ⟨d0, d1, d2, d3, d4, d5⟩ := C2.six
    go_wp2_with fail
    refine (ks w2 hB2).mono ?_
    rintro e w3 ⟨rfl, hB3⟩
    go_wp2
    go_returns
    exact ⟨rfl, chain hB2 hB3⟩
  · rw [superO_no hx]
    have kp := fun (u : World) (hu : Below w.heap.size w u) => spec_PoolOk B0 hB0 _ p u (hPA.below hu) hd
    go_enter Tryz.func15, Tryz.ntmps15
    go_wp2_with fail
    generalize w.alloc (.cells #[.int .i64 p.size, .int .i64 p.next, .slice ea en ec, .slice va vn vc, .slice ra rn rc, .slice la ln lc] 26) = W at *
    obtain ⟨d0, d1, d2, d3, d4, d5⟩ := C.six
    refine (kin W).mono ?_
    rintro e w1 ⟨rfl, rfl⟩
    by_cases hin : 0 ≤ n ∧ n ≤ 1000000000
    · rw [show (decide (0 ≤ n) && decide (n ≤ 1000000000)) = true by simp [hin.1, hin.2]]
      go_wp2_with fail
      refine (kp _ hBw).mono ?_
      rintro e w2 ⟨rfl, hB2⟩
      have C2 := C.below hB2
      replace hB2 := chain hBw hB2
      clear d0 d1 d2 d3 d4 d5 C hBw
      obtain ⟨d0, d1, d2, d3, d4, d5⟩ := C2.six
      cases hp : poolB p
      · go_wp2
        go_returns
        exact ⟨rfl, hB2⟩
      · have hl : 0 < ln := by
          rcases Nat.eq_zero_or_pos ln with h | h
          · exact absurd ⟨hin, hp, List.eq_nil_of_length_eq_zero (by rw [hlen.out]; exact h)⟩ hx
          · exact h
        go_wp2
        go_returns
        exact ⟨rfl, hB2⟩
    · have hb : (decide (0 ≤ n) && decide (n ≤ 1000000000)) = false := by
        cases hc : (decide (0 ≤ n) && decide (n ≤ 1000000000)) with
        | false => rfl
        | true => simp at hc; exact absurd hc hin
      rw [hb]
      go_wp2
      go_returns
      exact ⟨rfl, hBw⟩
end Go.Proofs.YtigldeccfpkdmaaGreatDoor
namespace Go.Proofs.YtigldeccfpkdmaaGreatDoor
open Go Go.RowKit Go.BigFrame Go.Shelf
theorem text_ne (p : Po) : ¬ (⟨(textW p).toArray⟩ : ByteArray).toList = [] := by
  have h : textW p ≠ [] := by unfold textW lineL; simp
  rw [ByteArray.toList_eq]
  simpa using h
theorem emp_no {T : ByteArray} (h : ¬ T.toList = []) : T.toList.isEmpty = false := by
  cases hc : T.toList with
  | nil => exact absurd hc h
  | cons x l => rfl
set_option maxHeartbeats 4000000 in
set_option maxRecDepth 100000 in
theorem impl_SuperText (B0 : Nat) (v : Value) (p : Po) (n : Int) (w : World) (h : PoolAt B0 w v p) (hd : DimP p) (hN : poolB p = true → NumO p) (ht : TabP w) (hg : 9 ≤ w.heap.size) :
    Calls Tryz.prog 17 #[.int .i64 n, v] w fun e w' => e = .returned (.string (superO n p)) ∧ Below w.heap.size w w' := by
  have hPA := h
  obtain ⟨ea, en, ec, va, vn, vc, ra, rn, rc, la, ln, lc, rfl, _, _, _, h4, _⟩ := h
  have hlen : Hid (p.lt.length = ln) := h4.len
  clear h4
  have C := Blk.new w #[.int .i64 p.size, .int .i64 p.next, .slice ea en ec, .slice va vn vc, .slice ra rn rc, .slice la ln lc] 26
  have hBw : Below w.heap.size w (w.alloc (.cells #[.int .i64 p.size, .int .i64 p.next, .slice ea en ec, .slice va vn vc, .slice ra rn rc, .slice la ln lc] 26)) := by go_grown
  have kt := fun (u : World) (hu : Below w.heap.size w u) => impl_PoolText B0 _ p u (hPA.below hu) hd hN (tab_low ht hu hg) (by have := hu.size; omega)
  obtain ⟨T, hT⟩ : ∃ z, Hid (textO p = z) := ⟨_, rfl⟩
  rw [hT.out] at kt
  by_cases hx : (0 ≤ n ∧ n ≤ 1000000000) ∧ poolB p = true ∧ p.lt = []
  · obtain ⟨⟨h0, h1⟩, hp, hl⟩ := hx
    have hln : ln = 0 := by rw [← hlen.out, hl]; rfl
    subst hln
    have hTw : Hid (T = ⟨(textW p).toArray⟩) := by show _ = _; rw [← hT.out]; unfold textO; rw [hp]; rfl
    have hT0 : ¬ T.toList = [] := by rw [hTw.out]; exact text_ne p
    have hT1 := emp_no hT0
    have hTs : T.size ≤ 1000000 := by rw [hTw.out]; show (textW p).toArray.size ≤ _; simpa using (hN hp).len
    obtain ⟨dn, hdn⟩ : ∃ zz, Hid (decB n = zz) := ⟨_, rfl⟩
    have hdl : dn.size ≤ 13 := by rw [← hdn.out]; exact decB_size (by omega) (by omega)
    obtain ⟨b, hb⟩ : ∃ z, Hid (z = dn ++ ⟨#[10]⟩ ++ T) := ⟨_, rfl⟩
    have hbb : Hid (b = ⟨(bodyC n (textW p)).toArray⟩) := by show _ = _; rw [hb.out, body_eq hdn.out hTw.out.symm]
    have hbs : b.size ≤ 1000014 := by
      rw [hbb.out]
      show (bodyC n (textW p)).toArray.size ≤ _
      simpa using body_len h0 h1 (hN hp).len
    have e1 : ¬ 9223372036854775807 < dn.size + (⟨#[10]⟩ : ByteArray).size := by show ¬ _ < _ + 1; omega
    have e2 : ¬ 9223372036854775807 < dn.size + (⟨#[10]⟩ : ByteArray).size + T.size := by show ¬ _ < _ + 1 + _; omega
    have hfin : Hid (superO n p = hiB b.size ++ b ++ loB (crcS b.data.toList)) := by
      show _ = _
      rw [superO_yes h0 h1 hp hl]
      unfold superC
      rw [hbb.out]
      have : ((⟨(bodyC n (textW p)).toArray⟩ : ByteArray).size) = (bodyC n (textW p)).length := by show (bodyC n (textW p)).toArray.size = _; simp
      rw [this]
    generalize superO n p = R at *
    go_enter Tryz.func17, Tryz.ntmps17
    go_wp2_with fail
    generalize w.alloc (.cells #[.int .i64 p.size, .int .i64 p.next, .slice ea en ec, .slice va vn vc, .slice ra rn rc, .slice la 0 lc] 26) = W at *
    refine (kt W hBw).mono ?_
    rintro e w1 ⟨rfl, hB1⟩
    have c5 := (C.below hB1).cell 5
    replace hB1 := chain hBw hB1
    clear C hBw kt
    go_wp2_with fail
    refine (impl_decimal n _ (by omega) (by omega) (tab_low ht hB1 hg)).mono ?_
    rintro e w2 ⟨rfl, hB2⟩
    rw [hdn.out]
    replace hB2 := chain hB1 hB2
    go_wp2_with fail
    have hsz : (dn.size : Int) + 1 + T.size = b.size := by
      rw [hb.out, app_size, app_size]
      show _ = ((dn.size + 1 + T.size : Nat) : Int)
      omega
    rw [hsz, ← hb.out]
    clear hsz
    refine (impl_highestFirst b.size _ ⟨by omega, by omega⟩).mono ?_
    rintro e w3 ⟨rfl, hB3⟩
    replace hB3 := chain hB2 hB3
    obtain ⟨H, hH⟩ : ∃ z, Hid (hiB b.size = z) := ⟨_, rfl⟩
    obtain ⟨L, hL⟩ : ∃ z, Hid (loB (crcS b.data.toList) = z) := ⟨_, rfl⟩
    have e3 : ¬ 9223372036854775807 < H.size + b.size := by
      have : H.size = 4 := by rw [← hH.out, hiB, strOfNums_size]; rfl
      omega
    have e4 : ¬ 9223372036854775807 < H.size + b.size + L.size := by
      have : H.size = 4 := by rw [← hH.out, hiB, strOfNums_size]; rfl
      have : L.size = 4 := by rw [← hL.out, loB, strOfNums_size]; rfl
      omega
    rw [hH.out, hL.out] at hfin
    rw [hH.out]
    go_wp2_with fail
    refine (impl_checksum b _ (by omega)).mono ?_
    rintro e w4 ⟨rfl, rfl⟩
    go_wp2_with fail
    refine (impl_lowestFirst (crcS b.data.toList) _ (bits_u32 _ _ _)).mono ?_
    rintro e w5 ⟨rfl, hB5⟩
    rw [hL.out]
    go_wp2
    go_returns
    exact ⟨by rw [hfin.out]; rfl, chain hB3 hB5⟩
  · rw [superO_no hx]
    go_enter Tryz.func17, Tryz.ntmps17
    go_wp2_with fail
    generalize w.alloc (.cells #[.int .i64 p.size, .int .i64 p.next, .slice ea en ec, .slice va vn vc, .slice ra rn rc, .slice la ln lc] 26) = W at *
    refine (kt W hBw).mono ?_
    rintro e w1 ⟨rfl, hB1⟩
    have c5 := (C.below hB1).cell 5
    replace hB1 := chain hBw hB1
    clear C hBw kt
    by_cases x0 : n < 0
    · go_wp2
      go_returns
      exact ⟨rfl, hB1⟩
    · by_cases x1 : 1000000000 < n
      · go_wp2
        go_returns
        exact ⟨rfl, hB1⟩
      · cases hp : poolB p
        · have hT0 : T.toList = [] := by
            rw [← hT.out]; unfold textO
            rw [hp, if_neg (by simp), ByteArray.toList_eq]
          have hT1 : T.toList.isEmpty = true := by rw [hT0]; rfl
          go_wp2
          go_returns
          exact ⟨rfl, hB1⟩
        · have hT0 : ¬ T.toList = [] := by rw [← hT.out]; unfold textO; rw [hp]; exact text_ne p
          have hT1 := emp_no hT0
          have hl : 0 < ln := by
            rcases Nat.eq_zero_or_pos ln with h | h
            · exact absurd ⟨⟨by omega, by omega⟩, hp, List.eq_nil_of_length_eq_zero (by rw [hlen.out]; exact h)⟩ hx
            · exact h
          go_wp2
          go_returns
          exact ⟨rfl, hB1⟩
end Go.Proofs.YtigldeccfpkdmaaGreatDoor
