/- A commitment's bytes, by the model: what stands between its edges is any text. What the laws over pools have in common. A commitment's bytes, by the model. New pools, of the program and of the model. Regions in which several operations come up in whatever order, each laying memory of its own. -/
import Derived.Test.YtigldeccfpkdmaaGreatDoorCStoreNewx01
import Derived.Test.YtigldeccfpkdmaaGreatDoorCStoreNewx02
import Derived.Test.YtigldeccfpkdmaaGreatDoorCStoreNewx16
import Derived.Test.YtigldeccfpkdmaaGreatDoorCStoreNewx05
import Derived.Lib.SmallJoins
import Derived.Test.YtigldeccfpkdmaaGreatDoorCStoreNewx00
import Derived.Test.YtigldeccfpkdmaaGreatDoorCStoreNewx12
import Derived.Test.YtigldeccfpkdmaaGreatDoorProg
namespace Go.Proofs.YtigldeccfpkdmaaGreatDoor
open Go Go.RowKit Go.BigFrame Go.Shelf
theorem conv4w {w : World} {b : Nat} {a c d e : Int} (h : Blk w b #[.int .u8 a, .int .u8 c, .int .u8 d, .int .u8 e] 5) : (convert 173 9 (.slice (some ⟨b, 0, none⟩) 4 4)).run Tryz.prog w = .ok (.string (strOfNums [a, c, d, e])) w :=
  run_convert_bytes_arg (P := Tryz.prog) _ 173 5 Tryz.underlying173 Tryz.underlying5 b 0 4 4 [a, c, d, e] rfl (fun i hi => (by
    rcases i with _ | _ | _ | _ | i
    · exact h.cell 0
    · exact h.cell 1
    · exact h.cell 2
    · exact h.cell 3
    · omega)) 9 Tryz.underlying9
theorem body_eq {dn T : ByteArray} {n : Int} {t : List UInt8} (hd : decB n = dn) (hT : (⟨t.toArray⟩ : ByteArray) = T) : dn ++ ⟨#[10]⟩ ++ T = ⟨(bodyC n t).toArray⟩ := by
  rw [← hd, ← hT]
  refine ba_eqX ?_
  simp [bodyC, ByteArray.data_append]
theorem body_len {n : Int} {t : List UInt8} (h0 : 0 ≤ n) (h1 : n ≤ 1000000000) (ht : t.length ≤ 1000000) : (bodyC n t).length ≤ 1000014 := by
  have := decB_size (n := n) (by omega) (by omega)
  have h2 : (decB n).data.toList.length = (decB n).size := by simp
  unfold bodyC
  simp only [List.length_append, List.length_singleton]
  omega
theorem twoLX {P : Program} {Q : Exit → Act → World → Prop} {md : Region.Mode} {S : World → Prop} {l : List Oper} {i j : Nat} {o o' : Oper} {fuel : Nat} {listed : Array Bool} {a : Act} {w : World} (hr : Region.ready md l.toArray listed = [i, j]) (hi : l[i]? = some o) (hj : l[j]? = some o')
    (h : ∀ K' : Act → World → Prop, Shut (∀ a w, S w → (S w → wpAnyH P md l.toArray Q S fuel (listed.setIfInBounds i true) a w) → K' a w) → if Region.wanted o (yielded l.toArray a.tmps) = true then Oper.wp P o a w K' Q else K' (a.put o.dst undef) w)
    (h' : ∀ K' : Act → World → Prop, Shut (∀ a w, S w → (S w → wpAnyH P md l.toArray Q S fuel (listed.setIfInBounds j true) a w) → K' a w) → if Region.wanted o' (yielded l.toArray a.tmps) = true then Oper.wp P o' a w K' Q else K' (a.put o'.dst undef) w) :
    wpAnyH P md l.toArray Q S (fuel + 1) listed a w :=
  wpAnyH_ready hr (by simp) (AllReadyH.cons (by simpa using hi) h (AllReadyH.cons (by simpa using hj) h' AllReadyH.nil))
set_option maxHeartbeats 4000000 in
set_option maxRecDepth 100000 in
theorem spec_l9SuperG (sz nx : Int) (ea : Option Addr) (en ec : Nat) (va : Option Addr) (vn vc : Nat) (ra : Option Addr) (rn rc : Nat) (la : Option Addr) (ln lc : Nat) (n : Int) (T : ByteArray) (w : World) (h0 : 0 ≤ n) (h1 : n ≤ 1000000000) (hTs : T.size ≤ 1000000)
    (kt : ∀ u : World, Below w.heap.size w u → Calls Tryz.prog 92 #[.agg #[.int .i64 sz, .int .i64 nx, .slice ea en ec, .slice va vn vc, .slice ra rn rc, .slice la ln lc]] u fun e w' => e = .returned (.string T) ∧ Below u.heap.size u w') :
    Calls Tryz.prog 56 #[.int .i64 n, .agg #[.int .i64 sz, .int .i64 nx, .slice ea en ec, .slice va vn vc, .slice ra rn rc, .slice la ln lc]] w fun e w' => e = .returned (.string (superC n T.data.toList)) ∧ Below w.heap.size w w' := by
  obtain ⟨dn, hdn⟩ : ∃ zz, Hid (decB n = zz) := ⟨_, rfl⟩
  have kd : ∀ u : World, Calls Tryz.prog 122 #[.int .i64 n] u fun e w' => e = .returned (.string dn) ∧ Below u.heap.size u w' := fun u => by rw [← hdn.out]; exact spec_l1Dec n u (by omega) (by omega)
  have hTl : T.data.toList.length ≤ 1000000 := by rw [← Lib.size_eq]; exact hTs
  have hbl := body_len h0 h1 hTl
  obtain ⟨b, hb⟩ : ∃ z, Hid (z = dn ++ ⟨#[10]⟩ ++ T) := ⟨_, rfl⟩
  have hbb : Hid (b = ⟨(bodyC n T.data.toList).toArray⟩) := by show _ = _; rw [hb.out, body_eq hdn.out (Lib.mk_data T)]
  have hbs : b.size ≤ 1000014 := by
    rw [hbb.out]
    show (bodyC n T.data.toList).toArray.size ≤ _
    simpa using hbl
  have hdl : dn.size ≤ 13 := by rw [← hdn.out]; exact decB_size (by omega) (by omega)
  have e1 : ¬ 9223372036854775807 < dn.size + (⟨#[10]⟩ : ByteArray).size := by show ¬ _ < _ + 1; omega
  have e2 : ¬ 9223372036854775807 < (dn ++ ⟨#[10]⟩).size + T.size := by
    have : (dn ++ ⟨#[10]⟩ ++ T).size ≤ 1000014 := by rw [← hb.out]; exact hbs
    rw [app_size] at this
    omega
  have hfin : Hid (superC n T.data.toList = hiB b.size ++ b ++ loB (crcS b.data.toList)) := by
    show _ = _
    unfold superC
    rw [hbb.out]
    have : ((⟨(bodyC n T.data.toList).toArray⟩ : ByteArray).size) = (bodyC n T.data.toList).length := by show (bodyC n T.data.toList).toArray.size = _; simp
    rw [this]
  generalize superC n T.data.toList = R at *
  go_enter Tryz.func56, Tryz.ntmps56
  have C := Blk.new w #[.int .i64 sz, .int .i64 nx, .slice ea en ec, .slice va vn vc, .slice ra rn rc, .slice la ln lc] 26
  have hBw : Below w.heap.size w (w.alloc (.cells #[.int .i64 sz, .int .i64 nx, .slice ea en ec, .slice va vn vc, .slice ra rn rc, .slice la ln lc] 26)) := by go_grown
  go_wp2_with fail
  generalize w.alloc (.cells #[.int .i64 sz, .int .i64 nx, .slice ea en ec, .slice va vn vc, .slice ra rn rc, .slice la ln lc] 26) = W at *
  replace kt := fun (u : World) (hu : Below W.heap.size W u) => kt u (chain hBw hu)
  have q0 := gcell (C.cell 0)
  have q1 := gcell (C.cell 1)
  have q2 := gcell (C.cell 2)
  have q3 := gcell (C.cell 3)
  have q4 := gcell (C.cell 4)
  have q5 := gcell (C.cell 5)
  refine wp_region_grow (by kernel_rfl) (by kernel_rfl) ?_
  have hne := grw_ne W
  iterate 2 (go_big_quiet_step (first | (go_at_call 122; exact grow_of (kd _))))
  iterate 3 (go_big_quiet_step (first | (go_at_call 92; exact grow_of (kt _ (Grw.h _)))))
  iterate 2 (go_big_quiet_step (fail))
  refine wpQuiet_nil ?_
  intro w1 hx1
  have hB1 := chain hBw (grw_out hx1)
  rw [← hb.out]
  clear hx1 q0 q1 q2 q3 q4 q5 e1 e2 kd kt hdl hBw C
  go_wp2_with fail
  obtain ⟨H, hH⟩ : ∃ z, Hid (strOfNums [IntKind.u8.wrap ((b.size : Int) / 16777216), IntKind.u8.wrap ((b.size : Int) / 65536), IntKind.u8.wrap ((b.size : Int) / 256), IntKind.u8.wrap (b.size : Int)] = z) := ⟨_, rfl⟩
  have hHh : Hid (H = hiB b.size) := by
    show _ = _
    rw [← hH.out, hiB]
    simp only [IntKind.wrap_u8]
    rw [Int.emod_eq_of_lt (a := (b.size : Int) / 16777216) (by omega) (by omega)]
  obtain ⟨L, hL⟩ : ∃ z, Hid (loB (crcS b.data.toList) = z) := ⟨_, rfl⟩
  have hHs : H.size = 4 := by rw [← hH.out, strOfNums_size]; rfl
  have hLs : L.size = 4 := by rw [← hL.out, loB, strOfNums_size]; rfl
  have e3 : ¬ 9223372036854775807 < H.size + b.size := by omega
  have e4 : ¬ 9223372036854775807 < H.size + b.size + L.size := by omega
  clear hHs hLs
  have hB2 := hB1.drew
  have hS0 : (fun _ => True) w1.drew := trivial
  refine wp_region_heldX (S := (fun _ => True)) 19 (by kernel_rfl) rfl ?_
  generalize w1.drew = W2 at *
  clear hB1 w1
  refine takeQ (i := 0) (v := ?vq1) rfl (by kernel_rfl) (fun _ _ _ h => h) (by rfl) ?hq1 (by assumption) ?rq1
  case hq1 => (intro u hu; (try dsimp only at hu); go_simp <;> with_reducible rfl)
  try simp only [Act.put, lsA, lsB, lsC]
  refine takeQ (i := 1) (v := ?vq2) rfl (by kernel_rfl) (fun _ _ _ h => h) (by rfl) ?hq2 (by assumption) ?rq2
  case hq2 => (intro u hu; (try dsimp only at hu); go_simp <;> with_reducible rfl)
  try simp only [Act.put, lsA, lsB, lsC]
  refine takeQ (i := 2) (v := ?vq3) rfl (by kernel_rfl) (fun _ _ _ h => h) (by rfl) ?hq3 (by assumption) ?rq3
  case hq3 => (intro u hu; (try dsimp only at hu); go_simp <;> with_reducible rfl)
  try simp only [Act.put, lsA, lsB, lsC]
  refine takeQ (i := 3) (v := ?vq4) rfl (by kernel_rfl) (fun _ _ _ h => h) (by rfl) ?hq4 (by assumption) ?rq4
  case hq4 => (intro u hu; (try dsimp only at hu); go_simp <;> with_reducible rfl)
  try simp only [Act.put, lsA, lsB, lsC]
  refine takeQ (i := 4) (v := ?vq5) rfl (by kernel_rfl) (fun _ _ _ h => h) (by rfl) ?hq5 (by assumption) ?rq5
  case hq5 => (intro u hu; (try dsimp only at hu); go_simp <;> with_reducible rfl)
  try simp only [Act.put, lsA, lsB, lsC]
  refine takeQ (i := 5) (v := ?vq6) rfl (by kernel_rfl) (fun _ _ _ h => h) (by rfl) ?hq6 (by assumption) ?rq6
  case hq6 => (intro u hu; (try dsimp only at hu); go_simp <;> with_reducible rfl)
  try simp only [Act.put, lsA, lsB, lsC]
  refine takeQ (i := 6) (v := ?vq7) rfl (by kernel_rfl) (fun _ _ _ h => h) (by rfl) ?hq7 (by assumption) ?rq7
  case hq7 => (intro u hu; (try dsimp only at hu); go_simp <;> with_reducible rfl)
  try simp only [Act.put, lsA, lsB, lsC]
  refine takeQ (i := 7) (v := ?vq8) rfl (by kernel_rfl) (fun _ _ _ h => h) (by rfl) ?hq8 (by assumption) ?rq8
  case hq8 => (intro u hu; (try dsimp only at hu); go_simp <;> with_reducible rfl)
  try simp only [Act.put, lsA, lsB, lsC]
  refine takeQ (i := 8) (v := ?vq9) rfl (by kernel_rfl) (fun _ _ _ h => h) (by rfl) ?hq9 (by assumption) ?rq9
  case hq9 => (intro u hu; (try dsimp only at hu); go_simp <;> with_reducible rfl)
  try simp only [Act.put, lsA, lsB, lsC]
  refine takeQ (i := 9) (v := ?vq10) rfl (by kernel_rfl) (fun _ _ _ h => h) (by rfl) ?hq10 (by assumption) ?rq10
  case hq10 => (intro u hu; (try dsimp only at hu); go_simp <;> with_reducible rfl)
  try simp only [Act.put, lsA, lsB, lsC]
  refine takeQ (i := 10) (v := ?vq11) rfl (by kernel_rfl) (fun _ _ _ h => h) (by rfl) ?hq11 (by assumption) ?rq11
  case hq11 => (intro u hu; (try dsimp only at hu); go_simp <;> with_reducible rfl)
  try simp only [Act.put, lsA, lsB, lsC]
  refine takeQ (i := 13) (v := ?vq12) rfl (by kernel_rfl) (fun _ _ _ h => h) (by rfl) ?hq12 (by assumption) ?rq12
  case hq12 => (intro u hu; (try dsimp only at hu); go_simp <;> with_reducible rfl)
  try simp only [Act.put, lsA, lsB, lsC]
  refine takeQ (i := 15) (v := ?vq13) rfl (by kernel_rfl) (fun _ _ _ h => h) (by rfl) ?hq13 (by assumption) ?rq13
  case hq13 => (intro u hu; (try dsimp only at hu); go_simp <;> with_reducible rfl)
  try simp only [Act.put, lsA, lsB, lsC]
  refine twoLX (i := 11) (j := 16) (by kernel_rfl) rfl rfl (fun K hK => ?_) (fun K hK => ?_)
  · go_simp
    have V3 := Blk.new W2 #[.int .u8 (IntKind.u8.wrap (↑b.size / 16777216)), .int .u8 (IntKind.u8.wrap (↑b.size / 65536)), .int .u8 (IntKind.u8.wrap (↑b.size / 256)), .int .u8 (IntKind.u8.wrap ↑b.size)] 5
    have hB3 : Below w.heap.size w (W2.alloc (.cells #[.int .u8 (IntKind.u8.wrap (↑b.size / 16777216)), .int .u8 (IntKind.u8.wrap (↑b.size / 65536)), .int .u8 (IntKind.u8.wrap (↑b.size / 256)), .int .u8 (IntKind.u8.wrap ↑b.size)] 5)) := hB2.alloc hB2.size _
    generalize W2.alloc (.cells #[.int .u8 (IntKind.u8.wrap (↑b.size / 16777216)), .int .u8 (IntKind.u8.wrap (↑b.size / 65536)), .int .u8 (IntKind.u8.wrap (↑b.size / 256)), .int .u8 (IntKind.u8.wrap ↑b.size)] 5) = W3 at *
    refine hK.out _ _ trivial (fun hHeld => ?_)
    clear hK K
    try simp only [Act.put, lsA, lsB, lsC]
    refine twoLX (i := 12) (j := 16) (by kernel_rfl) rfl rfl (fun K hK => ?_) (fun K hK => ?_)
    · have hcv := conv4w V3
      rw [hH.out] at hcv
      go_simp
      refine hK.out _ _ trivial (fun hHeld => ?_)
      clear hK K
      try simp only [Act.put, lsA, lsB, lsC]
      refine takeQ (i := 14) (v := ?vq14) rfl (by kernel_rfl) (fun _ _ _ h => h) (by rfl) ?hq14 (by assumption) ?rq14
      case hq14 => (intro u hu; (try dsimp only at hu); go_simp <;> with_reducible rfl)
      try simp only [Act.put, lsA, lsB, lsC]
      refine oneL (i := 16) (by kernel_rfl) rfl (fun K hK => ?_)
      go_simp
      refine (spec_l9Sum b _ (by omega)).mono ?_
      rintro e W4 ⟨rfl, hB4⟩
      replace hB4 := chain hB3 hB4
      rw [hL.out]
      dsimp only
      refine hK.out _ _ trivial (fun hHeld => ?_)
      clear hK K
      try simp only [Act.put, lsA, lsB, lsC]
      refine takeQ (i := 17) (v := ?vq15) rfl (by kernel_rfl) (fun _ _ _ h => h) (by rfl) ?hq15 (by assumption) ?rq15
      case hq15 => (intro u hu; (try dsimp only at hu); go_simp <;> with_reducible rfl)
      try simp only [Act.put, lsA, lsB, lsC]
      refine takeQ (i := 18) (v := ?vq16) rfl (by kernel_rfl) (fun _ _ _ h => h) (by rfl) ?hq16 (by assumption) ?rq16
      case hq16 => (intro u hu; (try dsimp only at hu); go_simp <;> with_reducible rfl)
      try simp only [Act.put, lsA, lsB, lsC]
      refine wpAnyH_done (by kernel_rfl) ?_ _
      go_wp2
      go_returns
      exact ⟨by rw [hfin.out, ← hHh.out, hL.out]; rfl, hB4⟩
    · go_simp
      refine (spec_l9Sum b _ (by omega)).mono ?_
      rintro e W4 ⟨rfl, hB4⟩
      have V4 := V3.below hB4
      replace hB4 := chain hB3 hB4
      rw [hL.out]
      dsimp only
      refine hK.out _ _ trivial (fun hHeld => ?_)
      clear hK K
      try simp only [Act.put, lsA, lsB, lsC]
      refine oneL (i := 12) (by kernel_rfl) rfl (fun K hK => ?_)
      have hcv := conv4w V4
      rw [hH.out] at hcv
      go_simp
      refine hK.out _ _ trivial (fun hHeld => ?_)
      clear hK K
      try simp only [Act.put, lsA, lsB, lsC]
      refine takeQ (i := 14) (v := ?vq17) rfl (by kernel_rfl) (fun _ _ _ h => h) (by rfl) ?hq17 (by assumption) ?rq17
      case hq17 => (intro u hu; (try dsimp only at hu); go_simp <;> with_reducible rfl)
      try simp only [Act.put, lsA, lsB, lsC]
      refine takeQ (i := 17) (v := ?vq18) rfl (by kernel_rfl) (fun _ _ _ h => h) (by rfl) ?hq18 (by assumption) ?rq18
      case hq18 => (intro u hu; (try dsimp only at hu); go_simp <;> with_reducible rfl)
      try simp only [Act.put, lsA, lsB, lsC]
      refine takeQ (i := 18) (v := ?vq19) rfl (by kernel_rfl) (fun _ _ _ h => h) (by rfl) ?hq19 (by assumption) ?rq19
      case hq19 => (intro u hu; (try dsimp only at hu); go_simp <;> with_reducible rfl)
      try simp only [Act.put, lsA, lsB, lsC]
      refine wpAnyH_done (by kernel_rfl) ?_ _
      go_wp2
      go_returns
      exact ⟨by rw [hfin.out, ← hHh.out, hL.out]; rfl, hB4⟩
  · go_simp
    refine (spec_l9Sum b _ (by omega)).mono ?_
    rintro e W3 ⟨rfl, hB3⟩
    replace hB3 := chain hB2 hB3
    rw [hL.out]
    dsimp only
    refine hK.out _ _ trivial (fun hHeld => ?_)
    clear hK K
    try simp only [Act.put, lsA, lsB, lsC]
    refine oneL (i := 11) (by kernel_rfl) rfl (fun K hK => ?_)
    go_simp
    have V4 := Blk.new W3 #[.int .u8 (IntKind.u8.wrap (↑b.size / 16777216)), .int .u8 (IntKind.u8.wrap (↑b.size / 65536)), .int .u8 (IntKind.u8.wrap (↑b.size / 256)), .int .u8 (IntKind.u8.wrap ↑b.size)] 5
    have hB4 : Below w.heap.size w (W3.alloc (.cells #[.int .u8 (IntKind.u8.wrap (↑b.size / 16777216)), .int .u8 (IntKind.u8.wrap (↑b.size / 65536)), .int .u8 (IntKind.u8.wrap (↑b.size / 256)), .int .u8 (IntKind.u8.wrap ↑b.size)] 5)) := hB3.alloc hB3.size _
    generalize W3.alloc (.cells #[.int .u8 (IntKind.u8.wrap (↑b.size / 16777216)), .int .u8 (IntKind.u8.wrap (↑b.size / 65536)), .int .u8 (IntKind.u8.wrap (↑b.size / 256)), .int .u8 (IntKind.u8.wrap ↑b.size)] 5) = W4 at *
    refine hK.out _ _ trivial (fun hHeld => ?_)
    clear hK K
    try simp only [Act.put, lsA, lsB, lsC]
    refine oneL (i := 12) (by kernel_rfl) rfl (fun K hK => ?_)
    have hcv := conv4w V4
    rw [hH.out] at hcv
    go_simp
    refine hK.out _ _ trivial (fun hHeld => ?_)
    clear hK K
    try simp only [Act.put, lsA, lsB, lsC]
    refine takeQ (i := 14) (v := ?vq20) rfl (by kernel_rfl) (fun _ _ _ h => h) (by rfl) ?hq20 (by assumption) ?rq20
    case hq20 => (intro u hu; (try dsimp only at hu); go_simp <;> with_reducible rfl)
    try simp only [Act.put, lsA, lsB, lsC]
    refine takeQ (i := 17) (v := ?vq21) rfl (by kernel_rfl) (fun _ _ _ h => h) (by rfl) ?hq21 (by assumption) ?rq21
    case hq21 => (intro u hu; (try dsimp only at hu); go_simp <;> with_reducible rfl)
    try simp only [Act.put, lsA, lsB, lsC]
    refine takeQ (i := 18) (v := ?vq22) rfl (by kernel_rfl) (fun _ _ _ h => h) (by rfl) ?hq22 (by assumption) ?rq22
    case hq22 => (intro u hu; (try dsimp only at hu); go_simp <;> with_reducible rfl)
    try simp only [Act.put, lsA, lsB, lsC]
    refine wpAnyH_done (by kernel_rfl) ?_ _
    go_wp2
    go_returns
    exact ⟨by rw [hfin.out, ← hHh.out, hL.out]; rfl, hB4⟩
end Go.Proofs.YtigldeccfpkdmaaGreatDoor
namespace Go.Proofs.YtigldeccfpkdmaaGreatDoor
open Go.RowKit Go.BigFrame
theorem PoolAt.cells {B : Nat} {w : World} {v : Value} {p : Po} (h : PoolAt B w v p) : ∃ ea en ec va vn vc ra rn rc la ln lc, v = .agg #[.int .i64 p.size, .int .i64 p.next, .slice ea en ec, .slice va vn vc, .slice ra rn rc, .slice la ln lc] := by
  obtain ⟨ea, en, ec, va, vn, vc, ra, rn, rc, la, ln, lc, rfl, _⟩ := h
  exact ⟨_, _, _, _, _, _, _, _, _, _, _, _, rfl⟩
/-- The six cells of a block that holds a pool. -/
theorem Blk.six {w : World} {b : Nat} {c0 c1 c2 c3 c4 c5 : Value} {t : TypeId} (h : Blk w b #[c0, c1, c2, c3, c4, c5] t) : w.cell? ⟨b, 0, none⟩ = some c0 ∧ w.cell? ⟨b, 1, none⟩ = some c1 ∧ w.cell? ⟨b, 2, none⟩ = some c2 ∧ w.cell? ⟨b, 3, none⟩ = some c3 ∧ w.cell? ⟨b, 4, none⟩ = some c4 ∧ w.cell? ⟨b, 5, none⟩ = some c5 :=
  ⟨h.cell 0, h.cell 1, h.cell 2, h.cell 3, h.cell 4, h.cell 5⟩
end Go.Proofs.YtigldeccfpkdmaaGreatDoor
namespace Go.Proofs.YtigldeccfpkdmaaGreatDoor
open Go Go.RowKit Go.BigFrame Go.Shelf
/-- The bytes of a commitment; none where it is not right. -/
def superO (n : Int) (p : Po) : ByteArray := if (0 ≤ n ∧ n ≤ 1000000000) ∧ poolB p = true ∧ p.lt = [] then superC n (textW p) else ⟨#[]⟩
theorem superO_no {n : Int} {p : Po} (h : ¬ ((0 ≤ n ∧ n ≤ 1000000000) ∧ poolB p = true ∧ p.lt = [])) : superO n p = ⟨#[]⟩ := if_neg h
theorem superO_yes {n : Int} {p : Po} (h0 : 0 ≤ n) (h1 : n ≤ 1000000000) (hp : poolB p = true) (hl : p.lt = []) : superO n p = superC n (textW p) := if_pos ⟨⟨h0, h1⟩, hp, hl⟩
theorem spec_l9Super (B0 : Nat) (v : Value) (p : Po) (n : Int) (w : World) (h : PoolAt B0 w v p) (hd : DimP p) (hN : NumO p) (h0 : 0 ≤ n) (h1 : n ≤ 1000000000) :
    Calls Tryz.prog 56 #[.int .i64 n, v] w fun e w' => e = .returned (.string (superC n (textW p))) ∧ Below w.heap.size w w' := by
  have hPA := h
  obtain ⟨ea, en, ec, va, vn, vc, ra, rn, rc, la, ln, lc, rfl, _⟩ := h
  have hs : (⟨(textW p).toArray⟩ : ByteArray).size ≤ 1000000 := by show (textW p).toArray.size ≤ _; simpa using hN.len
  have := spec_l9SuperG p.size p.next ea en ec va vn vc ra rn rc la ln lc n ⟨(textW p).toArray⟩ w h0 h1 hs (fun u hu => spec_l7Text B0 _ p u (hPA.below hu) hd hN)
  simpa using this
end Go.Proofs.YtigldeccfpkdmaaGreatDoor
namespace Go.Proofs.YtigldeccfpkdmaaGreatDoor
open Go.RowKit Go.BigFrame
def poolV (s n : Int) : Value := .agg #[.int .i64 s, .int .i64 n, .slice none 0 0, .slice none 0 0, .slice none 0 0, .slice none 0 0]
def newB (size : Int) : Bool := decide (1 ≤ size) && decide (size ≤ 400)
theorem impl_PoolNew (size : Int) (w : World) :
    Calls Tryz.prog 83 #[.int .i64 size] w fun e w' => e = .returned (.tuple #[if newB size = true then poolV size 1 else poolV 0 0, .bool (newB size)]) ∧ Below w.heap.size w w' := by
  by_cases h : 1 ≤ size ∧ size ≤ 400
  · have hn : newB size = true := by simp [newB, h]
    rw [hn, if_pos rfl]
    obtain ⟨h1, h2⟩ := h
    go_enter Tryz.func83, Tryz.ntmps83
    go_wp2
    go_returns
    go_light
    exact ⟨rfl, by go_grown⟩
  · have hn : newB size = false := by simp [newB]; omega
    rw [hn, if_neg (by simp)]
    go_enter Tryz.func83, Tryz.ntmps83
    go_wp2
    all_goals go_returns
    all_goals go_light
    all_goals exact ⟨rfl, by go_grown⟩
theorem spec_PoolNew (size : Int) (w : World) :
    Calls Tryz.prog 80 #[.int .i64 size] w fun e w' => e = .returned (.tuple #[if newB size = true then poolV size 1 else poolV 0 0, .bool (newB size)]) ∧ Below w.heap.size w w' := by
  cases hn : newB size
  all_goals
    have hn' : (decide (1 ≤ size) && decide (size ≤ 400)) = _ := hn
    go_enter Tryz.func80, Tryz.ntmps80
    go_wp2_with fail
    refine (spec_l1In _ _ _ _).mono ?_
    rintro e w1 ⟨rfl, rfl⟩
    rw [hn']
    go_wp2
    go_returns
    go_light
    exact ⟨rfl, by go_grown⟩
end Go.Proofs.YtigldeccfpkdmaaGreatDoor
namespace Go.Proofs.YtigldeccfpkdmaaGreatDoor
open Go Go.RowKit Go.BigFrame
/-- Two states that differ in these slots alone. -/
structure Agree (D : List Nat) (a0 a : Act) : Prop where
  rest : ∀ k, k ∉ D → a.tmps[k]? = a0.tmps[k]?
  size : a.tmps.size = a0.tmps.size
  defers : a.defers = a0.defers
theorem Agree.refl (D : List Nat) (a : Act) : Agree D a a := ⟨fun _ _ => rfl, rfl, rfl⟩
theorem Agree.put {D : List Nat} {a0 a : Act} (h : Agree D a0 a) {k : Nat} (v : Value) (hk : k ∈ D) : Agree D a0 (a.put (some k) v) := by
  refine ⟨fun j hj => ?_, by simp [Act.put, h.size], h.defers⟩
  rw [← h.rest j hj]
  have hne : k ≠ j := fun e => hj (e ▸ hk)
  simp [Act.put, Array.getElem?_setIfInBounds_ne hne]
theorem Agree.eval {D : List Nat} {a0 a : Act} (h : Agree D a0 a) {k : Nat} (hk : k ∉ D) : a.eval (.tmp k) = a0.eval (.tmp k) := by
  have := h.rest k hk
  simp only [Act.eval, Array.getD_eq_getD_getElem?, this]
theorem put_vals {a : Act} {k : Nat} {v : Value} (hk : k < a.tmps.size) : (fun j => (a.put (some k) v).eval (.tmp j)) = fun j => if j = k then v else a.eval (.tmp j) := by
  funext j
  by_cases h : j = k
  · subst h; simp [Act.put, Act.eval, hk]
  · have hne : k ≠ j := fun e => h e.symm
    simp [Act.put, Act.eval, Array.getElem?_setIfInBounds_ne hne, h]
/-- All of them put, one behind the other. -/
def putAll (x : Nat → Value) (D : List Nat) (a : Act) : Act := D.foldl (fun b k => b.put (some k) (x k)) a
theorem putAll_at (x : Nat → Value) : ∀ (D : List Nat) (a : Act), (∀ k ∈ D, k < a.tmps.size) → (putAll x D a).tmps.size = a.tmps.size ∧ (putAll x D a).defers = a.defers ∧ ∀ j, (putAll x D a).tmps[j]? = if j ∈ D then some (x j) else a.tmps[j]?
  | [], a, _ => ⟨rfl, rfl, fun j => by simp [putAll]⟩
  | k :: r, a, h => by
    have hk := h k (by simp)
    have hs : (a.put (some k) (x k)).tmps.size = a.tmps.size := by simp [Act.put]
    obtain ⟨h1, h2, h3⟩ := putAll_at x r (a.put (some k) (x k)) (fun j hj => by rw [hs]; exact h j (by simp [hj]))
    refine ⟨h1.trans hs, h2, fun j => ?_⟩
    show (putAll x r (a.put (some k) (x k))).tmps[j]? = _
    rw [h3 j]
    by_cases hj : j ∈ r
    · simp [hj]
    · by_cases he : j = k
      · subst he; simp [hj, Act.put, hk]
      · have hne : k ≠ j := fun e => he e.symm
        simp [hj, he, Act.put, Array.getElem?_setIfInBounds_ne hne]
theorem Agree.eq {D : List Nat} {a0 a : Act} (h : Agree D a0 a) (hD : ∀ k ∈ D, k < a0.tmps.size) : a = putAll (fun k => a.eval (.tmp k)) D a0 := by
  obtain ⟨h1, h2, h3⟩ := putAll_at (fun k => a.eval (.tmp k)) D a0 hD
  have ht : a.tmps = (putAll (fun k => a.eval (.tmp k)) D a0).tmps := by
    apply Array.ext_getElem?
    intro j
    rw [h3 j]
    split
    · rename_i hj
      have := hD j hj
      rw [← h.size] at this
      simp [Act.eval, this]
    · rename_i hj
      exact h.rest j hj
  have hd : a.defers = (putAll (fun k => a.eval (.tmp k)) D a0).defers := by rw [h2]; exact h.defers
  revert ht hd
  generalize putAll (fun k => a.eval (.tmp k)) D a0 = b
  intro ht hd
  cases a; cases b
  simp only at ht hd
  rw [ht, hd]
theorem wpAnyH_invJ {P : Program} {md : Region.Mode} {ops : Array Oper} {Q : Exit → Act → World → Prop} {S : World → Prop} (I : Array Bool → Act → World → Prop)
    (hstep : ∀ listed a u i, I listed a u → i ∈ Region.ready md ops listed → wpOp P ops Q i (fun a' u' => S u' ∧ I (listed.setIfInBounds i true) a' u') a u)
    (hdone : ∀ listed a u, I listed a u → Region.ready md ops listed = [] → Q .normal a u) (hsz : ∀ listed a u, I listed a u → listed.size = ops.size) :
    ∀ (fuel : Nat) (listed : Array Bool) (a : Act) (u : World), unl ops.size listed ≤ fuel → I listed a u → wpAnyH P md ops Q S fuel listed a u := by
  have hin : ∀ (listed : Array Bool) i, i ∈ Region.ready md ops listed → i < ops.size ∧ listed.getD i true = false := fun listed i hi => by
    obtain ⟨h1, o, h2, _⟩ := mem_ready.1 hi
    exact ⟨(Array.getElem?_eq_some_iff.1 h2).1, h1⟩
  intro fuel
  induction fuel with
  | zero =>
    intro listed a u hu hI
    have hr : Region.ready md ops listed = [] := by
      cases hl : Region.ready md ops listed with
      | nil => rfl
      | cons i r =>
        obtain ⟨h1, h2⟩ := hin listed i (by rw [hl]; simp)
        rw [unl_zero (by omega) i h1] at h2
        cases h2
    exact ⟨hr, hdone listed a u hI hr⟩
  | succ fuel ih =>
    intro listed a u hu hI
    refine ⟨fun hr => hdone listed a u hI hr, fun i hi => ?_⟩
    obtain ⟨h1, h2⟩ := hin listed i hi
    refine wpOp_mono (fun a' u' hq => ⟨hq.1, ih _ a' u' ?_ hq.2⟩) (hstep listed a u i hI hi)
    have := count_set (listed := listed) (i := i) (by rw [hsz listed a u hI]; exact h1) h2 (List.range ops.size) List.nodup_range (List.mem_range.2 h1)
    unfold unl at *
    omega
theorem wpOp_atJ {P : Program} {l : List Oper} {Q : Exit → Act → World → Prop} {K : Act → World → Prop} {a : Act} {w : World} {i : Nat} {o : Oper} (hi : l[i]? = some o) (hg : o.guard = none) (h : ∀ K' : Act → World → Prop, Shut (∀ a w, K a w → K' a w) → o.wp P a w K' Q) : wpOp P l.toArray Q i K a w := by
  have hi' : l.toArray[i]? = some o := by simpa using hi
  unfold wpOp
  simp only [hi']
  rw [if_pos (by simp [Region.wanted, hg])]
  exact .inl (h K (fun _ _ h => h))
/-- Whatever comes up keeps an invariant of what has come up, of the slots' values and of the world. -/
theorem wpAnyH_float {P : Program} {md : Region.Mode} {l : List Oper} {Q : Exit → Act → World → Prop} {S : World → Prop} {fuel : Nat} {L0 : Array Bool} {a0 : Act} {u0 : World} (W : World) (D J : List Nat) (dst : Nat → Nat) (G : (Nat → Bool) → (Nat → Value) → World → Prop)
    (hdag : dagB l.toArray = true) (hL : (L0.size == l.length && (List.range l.length).all fun i => J.contains i || L0.getD i true) = true) (hD : (D.all fun k => decide (k < a0.tmps.size)) = true) (hJD : (J.all fun i => D.contains (dst i)) = true)
    (hu : unl l.toArray.size L0 ≤ fuel) (hS : ∀ u, Below W.heap.size W u → S u) (hB0 : Below W.heap.size W u0) (hG0 : G (fun j => L0.getD j true) (fun k => a0.eval (.tmp k)) u0)
    (hstep : ∀ i ∈ J, ∀ (b : Nat → Bool) (a : Act) (u : World), Agree D a0 a → Below W.heap.size W u → G b (fun k => a.eval (.tmp k)) u → b i = false → (∀ o, l[i]? = some o → ∀ e ∈ o.after, Region.binds md e = true → b e.on = true) →
      wpOp P l.toArray Q i (fun a' u' => ∃ v, a' = a.put (some (dst i)) v ∧ Below u.heap.size u u' ∧ G (fun j => b j || j == i) (fun k => if k = dst i then v else a.eval (.tmp k)) u') a u)
    (hdone : ∀ (b : Nat → Bool) (x : Nat → Value) (u : World), Below W.heap.size W u → G b x u → (∀ j ∈ J, b j = true) → Q .normal (putAll x D a0) u) : wpAnyH P md l.toArray Q S fuel L0 a0 u0 := by
  simp only [Bool.and_eq_true, beq_iff_eq, List.all_eq_true, Bool.or_eq_true, List.contains_iff_mem, decide_eq_true_eq, List.mem_range] at hL hD hJD
  refine wpAnyH_invJ (I := fun L a u => L.size = l.length ∧ Agree D a0 a ∧ Below W.heap.size W u ∧ G (fun j => L.getD j true) (fun k => a.eval (.tmp k)) u ∧ ∀ i, i < l.length → i ∈ J ∨ L.getD i true = true) ?_ ?_ ?_ fuel L0 a0 u0 hu ⟨hL.1, Agree.refl _ _, hB0, hG0, fun i hi => hL.2 i hi⟩
  · rintro L a u i ⟨h1, h2, h3, h4, h5⟩ hi
    obtain ⟨r1, o, r2, r3⟩ := mem_ready.1 hi
    have hil : i < l.length := by have := (Array.getElem?_eq_some_iff.1 r2).1; simpa using this
    have hiJ : i ∈ J := by
      rcases h5 i hil with h | h
      · exact h
      · rw [h] at r1; cases r1
    refine wpOp_mono ?_ (hstep i hiJ (fun j => L.getD j true) a u h2 h3 h4 r1 (fun o' ho' e he hb => ?_))
    · rintro a' u' ⟨v, rfl, hb, hg⟩
      have hB := chain h3 hb
      refine ⟨hS u' hB, by simpa using h1, h2.put v (by have := hJD i hiJ; exact this), hB, ?_, fun j hj => ?_⟩
      · rw [put_vals (by rw [h2.size]; exact hD _ (by have := hJD i hiJ; exact this))]
        have : (fun j => (L.setIfInBounds i true).getD j true) = fun j => L.getD j true || j == i := by
          funext j
          by_cases h : j = i
          · subst h; simp [h1, hil]
          · have hne : i ≠ j := fun e => h e.symm
            simp [Array.getElem?_setIfInBounds_ne hne, h]
        rw [this]
        exact hg
      · by_cases h : j = i
        · subst h; exact .inl hiJ
        · have hne : i ≠ j := fun e => h e.symm
          rcases h5 j hj with h' | h'
          · exact .inl h'
          · exact .inr (by rw [getD_set_ne true hne]; exact h')
    · have ho : l[i]? = some o := by simpa using r2
      rw [ho] at ho'
      cases ho'
      have := r3 e he hb
      cases hq : L[e.on]? with
      | none => simp [hq] at this
      | some z => simp [hq] at this ⊢; exact this
  · rintro L a u ⟨h1, h2, h3, h4, h5⟩ hr
    have hall : ∀ j, j < l.length → L.getD j true = true := by
      have : ∀ n j, j < n → j < l.length → L.getD j true = true := by
        intro n
        induction n with
        | zero => intro j hj; omega
        | succ n ih =>
          intro j hj hjl
          cases hq : L.getD j true with
          | true => rfl
          | false =>
            have ho : l.toArray[j]? = some l[j] := by simp [hjl]
            have hm : j ∈ Region.ready md l.toArray L := mem_ready.2 ⟨hq, l[j], ho, fun e he _ => by
              have hlt := dag_spec hdag ho e he
              have := ih e.on (by omega) (by omega)
              have hs : e.on < L.size := by omega
              simp [hs] at this ⊢; exact this⟩
            rw [hr] at hm; cases hm
      exact fun j hj => this (j + 1) j (by omega) hj
    rw [h2.eq hD]
    exact hdone _ _ u h3 h4 (fun j hj => by
      by_cases hjl : j < l.length
      · exact hall j hjl
      · have : L[j]? = none := by simp; omega
        simp [this])
  · rintro L a u ⟨h1, _⟩
    simpa using h1
end Go.Proofs.YtigldeccfpkdmaaGreatDoor
