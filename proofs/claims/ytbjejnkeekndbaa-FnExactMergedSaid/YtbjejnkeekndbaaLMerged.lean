/- At every list of counts the program's Merged answers as its model does, writes nothing into its argument and owns what it answers: no condition. -/
import Derived.Test.YtbjejnkeekndbaaRows
import Derived.Test.YtbjejnkeekndbaaKg
import Derived.Test.YtbjejnkeekndbaaKl
import Derived.Test.YtbjejnkeekndbaaKf
import Derived.Test.YtbjejnkeekndbaaKd
namespace Go.Proofs.Ytbjejnkeekndbaa
open Go.ChangeShapes Go.WideShapes Go.ChangeAt Go.RowKit Go.Deep

theorem addC_len (c : Ct) : ∀ l : List Ct, (addC l c).length ≤ l.length + 1
  | [] => by simp [addC]
  | x :: r => by
    unfold addC
    split
    · have := addC_len c r; simp; omega
    · split
      · split <;> simp only [List.length_cons] <;> omega
      · simp
theorem sumC_len : ∀ (more l : List Ct), (sumC l more).length ≤ l.length + more.length
  | [], l => by simp [sumC]
  | c :: r, l => by
    have h1 := sumC_len r (addC l c)
    have h2 := addC_len c l
    have e : sumC l (c :: r) = sumC (addC l c) r := rfl
    rw [e, List.length_cons]
    omega
theorem mergedL_len (l : List Ct) : (mergedL l).length ≤ 200 := by
  unfold mergedL
  split
  · rename_i h
    have := (late_bound h).1
    have := sumC_len l []
    simp at this
    omega
  · simp

set_option maxHeartbeats 4000000 in
set_option maxRecDepth 100000 in
theorem walkMerged (a : Option Addr) (n cap : Nat) (l : List Ct) (w : World) (h : CtsAt w a n l) (hs : StrC l) (hm : n ≤ 9223372036854775807) :
    Calls Try.prog 13 #[.slice a n cap] w fun e w' => e = .returned (.bool true) ∧ Below w.heap.size w w' := by
  have hL16 := mergedL_len l
  generalize hoo' : mergedL l = oo at *
  have hoo : Hid (mergedL l = oo) := hoo'
  clear hoo'
  go_enter Try.func13, Try.ntmps13
  go_wp2_with fail
  refine (laws_szCountedS a n cap l 1048576 _ h hs hm (by omega) (by omega)).mono ?_
  rintro e w0 ⟨⟨r, rfl, hr⟩, hB0⟩
  rcases hr with rfl | ⟨hr0, hr1, hsm⟩
  · go_wp2
    go_returns
    exact ⟨rfl, hB0⟩
  · have hn := hsm.1
    go_wp2_with fail
    refine (laws_toCountedS a n cap l _ (h.below hB0) (by omega)).mono ?_
    rintro e w1 ⟨rfl, o1, hB1⟩
    replace hB1 := chain hB0 hB1
    go_wp2_with fail
    refine (spec_Merged _ n n l _ o1.sl hs (by omega)).mono ?_
    rintro e w2 ⟨hret, hB2'⟩
    rw [hoo.out] at hret
    obtain ⟨a2, n2, cap2, rfl, S2⟩ := hret
    have hn2 := S2.sl.len
    have hB2 := chain hB1 hB2'
    have S2b := S2.block
    go_wp2_with fail
    refine (laws_toCountedS a n cap l _ (h.below hB2) (by omega)).mono ?_
    rintro e w3 ⟨rfl, X3, hB3'⟩
    have S3 := S2.below hB3'
    have hB3 := chain hB2 hB3'
    have hz3 := X3.lt
    go_wp2_with fail
    refine (impl_Merged _ n n l _ X3.sl hs (by omega)).mono ?_
    rintro e w4 ⟨hret, hB4'⟩
    rw [hoo.out] at hret
    obtain ⟨a4, n4, cap4, rfl, _, G4⟩ := hret
    have hn4 := G4.sl.len
    have S4 := S3.below hB4'
    have X4 := X3.below hB4'
    have hB4 := chain hB3 hB4'
    have G4b := G4.block
    have heq := eqCts_refl oo
    have heql := eqCts_refl l
    go_wp2_with fail
    refine (laws_eqCountedS a4 n4 cap4 _ a2 n2 cap2 _ _ G4.sl S4.sl (by omega) (by omega)).mono ?_
    rintro e w5 ⟨rfl, hB5'⟩
    rw [heq]
    have S5 := S4.below hB5'
    have X5 := X4.below hB5'
    have G5 := G4.below hB5'
    have hB5 := chain hB4 hB5'
    go_wp2_with fail
    refine (laws_toCountedS a n cap l _ (h.below hB5) (by omega)).mono ?_
    rintro e w6 ⟨rfl, Y6, hB6'⟩
    have S6 := S5.below hB6'
    have X6 := X5.below hB6'
    have G6 := G5.below hB6'
    have hB6 := chain hB5 hB6'
    go_wp2_with fail
    refine (laws_eqCountedS _ n n l _ n n l _ X6.sl Y6.sl (by omega) (by omega)).mono ?_
    rintro e w7 ⟨rfl, hB7'⟩
    rw [heql]
    have S7 := S6.below hB7'
    have X7 := X6.below hB7'
    have G7 := G6.below hB7'
    have hB7 := chain hB6 hB7'
    obtain ⟨cx, hcx, hcs, _⟩ := X7.blk
    go_wp2_with fail
    refine (markC_own _ n n cx _ hcx hcs (by omega)).mono ?_
    rintro e w8 ⟨rfl, _, hg8⟩
    have S8 := S7.grownO hg8 (fun ad had => by have := (S2b ad had).2; simp; omega)
    have G8 := G7.grownO hg8 (fun ad had => by have := (G4b ad had).1; simp; omega)
    have hB8 := below_grownO hB7 hg8 (fun k e => by cases e; exact hB2.size)
    clear X3 X4 X5 X6 X7 Y6 hcx hcs S3 S4 S5 S6 S7 G4 G5 G6 G7 o1
    go_wp2_with fail
    refine (laws_eqCountedS a4 n4 cap4 _ a2 n2 cap2 _ _ G8.sl S8.sl (by omega) (by omega)).mono ?_
    rintro e w9 ⟨rfl, hB9'⟩
    rw [heq]
    have S9 := S8.below hB9'
    have G9 := G8.below hB9'
    have hB9 := chain hB8 hB9'
    go_wp2_with fail
    refine (markC_res _ a4 n4 cap4 _ _ G9 (by omega)).mono ?_
    rintro e w10 ⟨rfl, M10, hg10⟩
    have S10 := S9.grownO hg10 (rowB_ne (B := w3.heap.size) (fun ad had => by have := (S2b ad had).2; omega) (fun ad had => (G4b ad had).1))
    have hB10 := below_grownO hB9 hg10 (rowB_ge (fun ad had => by have := (G4b ad had).1; have := hB3.size; omega))
    clear S8 S9 G8 G9
    go_wp2_with fail
    refine (heldC a4 n4 cap4 _ M10 (by omega)).mono ?_
    rintro e w11 ⟨rfl, hB11'⟩
    have S11 := S10.below hB11'
    have M11 := M10.below hB11'
    have hB11 := chain hB10 hB11'
    have hne1 : ((1 : Int) + 4 * (n4 : Int) != 1 + 4 * (n4 : Int)) = false := by simp
    go_wp2_with fail
    refine (laws_toCountedS a n cap l _ (h.below hB11) (by omega)).mono ?_
    rintro e w12 ⟨rfl, X12, hB12'⟩
    have S12 := S11.below hB12'
    have M12 := M11.below hB12'
    have hB12 := chain hB11 hB12'
    go_wp2_with fail
    refine (impl_Merged _ n n l _ X12.sl hs (by omega)).mono ?_
    rintro e w13 ⟨hret, hB13'⟩
    rw [hoo.out] at hret
    obtain ⟨a13, n13, cap13, rfl, _, G13⟩ := hret
    have hn13 := G13.sl.len
    have S13 := S12.below hB13'
    have M13 := M12.below hB13'
    have hB13 := chain hB12 hB13'
    go_wp2_with fail
    refine (laws_eqCountedS a13 n13 cap13 _ a2 n2 cap2 _ _ G13.sl S13.sl (by omega) (by omega)).mono ?_
    rintro e w14 ⟨rfl, hB14'⟩
    rw [heq]
    have M14 := M13.below hB14'
    have hB14 := chain hB13 hB14'
    go_wp2_with fail
    refine (heldC a4 n4 cap4 _ M14 (by omega)).mono ?_
    rintro e w15 ⟨rfl, hB15'⟩
    have hB15 := chain hB14 hB15'
    go_wp2
    go_returns
    exact ⟨rfl, hB15⟩

set_option maxRecDepth 100000 in
theorem liftedMerged (os : Os) (started : os.Started) (H : Type) (enc : TypeId × Value → H) :
    ReturnsInHanded {} Try.checked os 13 .any (Rows.fnExactMergedSpec.pre6 enc Try.prog Try.f13 Rows.fnExactMergedRow.domain false) (Rows.fnExactMergedSpec.post enc Try.prog Try.f13 false true false false) := by
  refine returnsInHanded_of_change (C := Try.checked) own started (by kernel_rfl) Try.func13
    (ChangeSpec.witness6 (enc := enc) (C := Try.checked) false ⟨#[], #[.slice none 0 0], []⟩ 8 (by kernel_rfl) (by kernel_rfl) (by kernel_rfl) (by kernel_rfl)) ?_
  intro W base args ds gs before hval0 hW _ _
  have hval : ∀ (j : Nat) t v, Try.f13.params[j]? = some t → args[j]? = some v → Value.okWide Try.prog W .any base t v := hval0
  have hW' := hW
  obtain ⟨p, q, hA0, hV, rfl, _, _⟩ := hW
  have hA : DataW.TrodAll enc Try.prog W 0 (fun _ => true) true Try.f13.params.toList args.toList ds p := hA0
  rw [Try.params13] at hA hval
  obtain ⟨v0, vs0, d0, ds0, p0, q0, hargs, rfl, rfl, h0, r0⟩ := trodAll_cons hA
  obtain ⟨rfl, rfl, rfl⟩ := trodAll_nil r0
  obtain rfl : args = #[v0] := by cases args; simp_all
  obtain ⟨rfl, rfl⟩ := trodVars_none hV
  clear hA0 hval0
  simp only [List.append_nil] at hW'
  have hlt : ∀ x ∈ p0, x.block < W.heap.size := fun x hx => by simpa using hW'.lt x hx
  obtain ⟨a0, len, cap, rfl⟩ := okWide_slice Try.underlying87 (hval 0 87 v0 rfl rfl)
  obtain ⟨hmx, l, hl, hls⟩ := open_cts h0
  unfold maxLen at hmx hls
  refine (walkMerged a0 len cap l W hl hls (by omega)).mono fun e W' ⟨he, hB⟩ => ?_
  subst he
  have hargs : DataW.Trod enc Try.prog W' 0 (fun b => decide (b < W.heap.size)) true 87 (.slice a0 len cap) d0 p0 :=
    Below.trod laidOut (by kernel_rfl) (of_decide_eq_true (by kernel_rfl)) h0 hB hlt
  exact ⟨_, rfl, ⟨_, _, _, [], _, [], hW', trodAll_mk1 (shut_bool Try.underlying4 _), trodAll_mk1 hargs, rfl, hB.frame _, fun h => by cases h⟩⟩

theorem holdsMerged : Rows.FnExactMergedSaid :=
  OpenClaim.holds_of_wide 13 Try.f13 rfl rfl rfl rfl rfl rfl rfl ⟨rfl, rfl, rfl, rfl, rfl⟩ rfl rfl rfl rfl rfl (by kernel_rfl) Try.func13 (joined_of (by kernel_rfl) (by kernel_rfl) (by kernel_rfl) (by kernel_rfl) rfl rfl rfl (by kernel_rfl))
    (of_decide_eq_true (by kernel_rfl)) (by unfold Func.isWrapper; first | (rw [if_pos (by decide +kernel)]; kernel_rfl) | (rw [if_neg (by decide +kernel)]; exact ⟨rfl, rfl⟩))
    (fun os started H enc _ => liftedMerged os started H enc)
end Go.Proofs.Ytbjejnkeekndbaa
