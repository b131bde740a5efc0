/- At every two lists of counts the program's Flushed answers as its model does, writes nothing into its arguments and owns what it answers: no condition. -/
import Derived.Test.YtbjejnkeekndbaaRows
import Derived.Test.YtbjejnkeekndbaaKg
import Derived.Test.YtbjejnkeekndbaaKl
import Derived.Test.YtbjejnkeekndbaaKf
import Derived.Test.YtbjejnkeekndbaaKd
namespace Go.Proofs.Ytbjejnkeekndbaa
open Go.ChangeShapes Go.WideShapes Go.ChangeAt Go.RowKit Go.Deep

theorem retc_out {B : Nat} {e : Ending} {w' : World} {oo : Option (List Ct)} (h : RetCts B e w' oo) : ∃ a n cap, e = .returned (.tuple #[.slice a n cap, .bool oo.isSome]) ∧ ResAt Ct.cs 4 66 w' B a n cap (oo.getD []) := by
  cases oo with
  | none => exact ⟨none, 0, 0, h, res_nil⟩
  | some L => exact h
theorem retcn_out {B : Nat} {e : Ending} {w' : World} {oo : Option (List Ct)} (h : RetCtsN B e w' oo) : ∃ a n cap, e = .returned (.tuple #[.slice a n cap, .bool oo.isSome]) ∧ ResAt Ct.cs 4 66 w' B a n cap (oo.getD []) := by
  cases oo with
  | none => exact ⟨none, 0, 0, h, res_nil⟩
  | some L => obtain ⟨a, n, cap, h1, _, h2⟩ := h; exact ⟨a, n, cap, h1, h2⟩
theorem flushedO_len (l m : List Ct) : ((flushedO l m).getD []).length ≤ 200 := by
  unfold flushedO
  split
  · split
    · rename_i h; exact (refs_bound h).1
    · simp
  · simp

set_option maxHeartbeats 4000000 in
set_option maxRecDepth 100000 in
theorem walkFlushed (a : Option Addr) (n cap : Nat) (l : List Ct) (a' : Option Addr) (n' cap' : Nat) (m : List Ct) (w : World) (h : CtsAt w a n l) (hs : StrC l) (hm : n ≤ 9223372036854775807) (h' : CtsAt w a' n' m) (hs' : StrC m) (hm' : n' ≤ 9223372036854775807) :
    Calls Try.prog 14 #[.slice a n cap, .slice a' n' cap'] w fun e w' => e = .returned (.bool true) ∧ Below w.heap.size w w' := by
  have hL16 := flushedO_len l m
  generalize hoo' : flushedO l m = oo at *
  have hoo : Hid (flushedO l m = oo) := hoo'
  clear hoo'
  have hbb : (oo.isSome != oo.isSome) = false := by simp
  have heq := eqCts_refl (oo.getD [])
  have heql := eqCts_refl l
  have heqm := eqCts_refl m
  go_enter Try.func14, Try.ntmps14
  go_wp2_with fail
  refine (laws_szCountedS a n cap l 1048576 _ h hs hm (by omega) (by omega)).mono ?_
  rintro e w0 ⟨⟨r, rfl, hr⟩, hB0⟩
  rcases hr with rfl | ⟨hr0, hr1, hsm⟩
  · go_wp2
    go_returns
    exact ⟨rfl, hB0⟩
  · have hn := hsm.1
    go_wp2_with fail
    refine (laws_szCountedS a' n' cap' m r _ (h'.below hB0) hs' hm' hr0 hr1).mono ?_
    rintro e w00 ⟨⟨r', rfl, hr'⟩, hB00⟩
    replace hB00 := chain hB0 hB00
    rcases hr' with rfl | ⟨hr0', hr1', hsm'⟩
    · go_wp2
      go_returns
      exact ⟨rfl, hB00⟩
    · have hn' := hsm'.1
      go_wp2_with fail
      refine (laws_toCountedS a n cap l _ (h.below hB00) (by omega)).mono ?_
      rintro e w1 ⟨rfl, o1, hB1'⟩
      have hB1 := chain hB00 hB1'
      go_wp2_with fail
      refine (laws_toCountedS a' n' cap' m _ (h'.below hB1) (by omega)).mono ?_
      rintro e w1b ⟨rfl, p1, hB1b'⟩
      have o1b := o1.below hB1b'
      have hB1b := chain hB1 hB1b'
      go_wp2_with fail
      refine (spec_Flushed _ n n l _ n' n' m _ o1b.sl (fun ad had => by cases had; rfl) (fun h => by cases h) p1.sl hs hs' (by omega) (by omega)).mono ?_
      rintro e w2 ⟨hret, hB2'⟩
      rw [hoo.out] at hret
      obtain ⟨a2, n2, cap2, rfl, S2⟩ := retc_out hret
      clear hret
      have hn2 := S2.sl.len
      have hB2 := chain hB1b hB2'
      have S2b := S2.block
      go_wp2_with fail
      refine (laws_toCountedS a n cap l _ (h.below hB2) (by omega)).mono ?_
      rintro e w3 ⟨rfl, X3, hB3'⟩
      have S3 := S2.below hB3'
      have hB3 := chain hB2 hB3'
      have hz3 := X3.lt
      go_wp2_with fail
      refine (laws_toCountedS a' n' cap' m _ (h'.below hB3) (by omega)).mono ?_
      rintro e w3b ⟨rfl, Z3, hB3b'⟩
      have S3b := S3.below hB3b'
      have X3b := X3.below hB3b'
      have hB3b := chain hB3 hB3b'
      have hz3b := Z3.lt
      go_wp2_with fail
      refine (impl_Flushed _ n n l _ n' n' m _ X3b.sl Z3.sl hs hs' (by omega) (by omega)).mono ?_
      rintro e w4 ⟨hret, hB4'⟩
      rw [hoo.out] at hret
      obtain ⟨a4, n4, cap4, rfl, G4⟩ := retcn_out hret
      clear hret
      have hn4 := G4.sl.len
      have S4 := S3b.below hB4'
      have X4 := X3b.below hB4'
      have Z4 := Z3.below hB4'
      have hB4 := chain hB3b hB4'
      have G4b := G4.block
      go_wp2_with fail
      refine (laws_eqCountedS a4 n4 cap4 _ a2 n2 cap2 _ _ G4.sl S4.sl (by omega) (by omega)).mono ?_
      rintro e w5 ⟨rfl, hB5'⟩
      rw [heq]
      have S5 := S4.below hB5'
      have X5 := X4.below hB5'
      have Z5 := Z4.below hB5'
      have G5 := G4.below hB5'
      have hB5 := chain hB4 hB5'
      go_wp2_with fail
      refine (laws_toCountedS a n cap l _ (h.below hB5) (by omega)).mono ?_
      rintro e w6 ⟨rfl, Y6, hB6'⟩
      have S6 := S5.below hB6'
      have X6 := X5.below hB6'
      have Z6 := Z5.below hB6'
      have G6 := G5.below hB6'
      have hB6 := chain hB5 hB6'
      go_wp2_with fail
      refine (laws_eqCountedS _ n n l _ n n l _ X6.sl Y6.sl (by omega) (by omega)).mono ?_
      rintro e w7 ⟨rfl, hB7'⟩
      rw [heql]
      have S7 := S6.below hB7'
      have X7 := X6.below hB7'
      have Z7 := Z6.below hB7'
      have G7 := G6.below hB7'
      have hB7 := chain hB6 hB7'
      clear S3 S3b S4 S5 S6 X3 X3b X4 X5 X6 Z3 Z4 Z5 Z6 G4 G5 G6 o1 o1b p1 Y6
      go_wp2_with fail
      refine (laws_toCountedS a' n' cap' m _ (h'.below hB7) (by omega)).mono ?_
      rintro e w7b ⟨rfl, Y7, hB7b'⟩
      have S7b := S7.below hB7b'
      have X7b := X7.below hB7b'
      have Z7b := Z7.below hB7b'
      have G7b := G7.below hB7b'
      have hB7b := chain hB7 hB7b'
      go_wp2_with fail
      refine (laws_eqCountedS _ n' n' m _ n' n' m _ Z7b.sl Y7.sl (by omega) (by omega)).mono ?_
      rintro e w7c ⟨rfl, hB7c'⟩
      rw [heqm]
      have S7c := S7b.below hB7c'
      have X7c := X7b.below hB7c'
      have Z7c := Z7b.below hB7c'
      have G7c := G7b.below hB7c'
      have hB7c := chain hB7b hB7c'
      obtain ⟨cx, hcx, hcs, _⟩ := X7c.blk
      go_wp2_with fail
      refine (markC_fromZ _ n n 1 cx _ hcx hcs (by omega) (by omega) (by omega)).mono ?_
      rintro e w8 ⟨rfl, hg8⟩
      have S8 := S7c.grownO hg8 (fun ad had => by have := (S2b ad had).2; simp; omega)
      have G8 := G7c.grownO hg8 (fun ad had => by have := (G4b ad had).1; simp; omega)
      have Z8 := Z7c.grown hg8 (by omega)
      have hB8 := below_grownO hB7c hg8 (fun k e => by cases e; exact hB2.size)
      obtain ⟨cz, hcz, hcsz, _⟩ := Z8.blk
      clear S7 S7b S7c X7 X7b X7c Z7 Z7b Z7c G7 G7b G7c Y7 hcx hcs Z8
      go_wp2_with fail
      refine (markC_fromZ _ n' n' _ cz _ hcz hcsz (by omega) (by omega) (by omega)).mono ?_
      rintro e w8b ⟨rfl, hg8b⟩
      have S8b := S8.grownO hg8b (fun ad had => by have := (S2b ad had).2; simp; omega)
      have G8b := G8.grownO hg8b (fun ad had => by have := (G4b ad had).1; simp; omega)
      have hB8b := below_grownO hB8 hg8b (fun k e => by cases e; exact hB3.size)
      clear S8 G8 hcz hcsz
      go_wp2_with fail
      refine (laws_eqCountedS a4 n4 cap4 _ a2 n2 cap2 _ _ G8b.sl S8b.sl (by omega) (by omega)).mono ?_
      rintro e w9 ⟨rfl, hB9'⟩
      rw [heq]
      have S9 := S8b.below hB9'
      have G9 := G8b.below hB9'
      have hB9 := chain hB8b hB9'
      go_wp2_with fail
      refine (markC_res _ a4 n4 cap4 _ _ G9 (by omega)).mono ?_
      rintro e w10 ⟨rfl, M10, hg10⟩
      have S10 := S9.grownO hg10 (rowB_ne (B := w3b.heap.size) (fun ad had => by have := (S2b ad had).2; omega) (fun ad had => (G4b ad had).1))
      have hB10 := below_grownO hB9 hg10 (rowB_ge (fun ad had => by have := (G4b ad had).1; have := hB3b.size; omega))
      clear S8b S9 G8b G9
      go_wp2_with fail
      refine (heldC a4 n4 cap4 _ M10 (by omega)).mono ?_
      rintro e w11 ⟨rfl, hB11'⟩
      have S11 := S10.below hB11'
      have M11 := M10.below hB11'
      have hB11 := chain hB10 hB11'
      have hne1 : ((1 : Int) + 4 * (n4 : Int) != 1 + 4 * (n4 : Int)) = false := by simp
      go_wp2_with fail
      refine (laws_toCountedS a n cap l _ (h.below hB11) (by omega)).mono ?_
      rintro e w12 ⟨rfl, X12, hB12'⟩
      have S12 := S11.below hB12'
      have M12 := M11.below hB12'
      have hB12 := chain hB11 hB12'
      go_wp2_with fail
      refine (laws_toCountedS a' n' cap' m _ (h'.below hB12) (by omega)).mono ?_
      rintro e w12b ⟨rfl, Z12, hB12b'⟩
      have S12b := S12.below hB12b'
      have M12b := M12.below hB12b'
      have X12b := X12.below hB12b'
      have hB12b := chain hB12 hB12b'
      go_wp2_with fail
      refine (impl_Flushed _ n n l _ n' n' m _ X12b.sl Z12.sl hs hs' (by omega) (by omega)).mono ?_
      rintro e w13 ⟨hret, hB13'⟩
      rw [hoo.out] at hret
      obtain ⟨a13, n13, cap13, rfl, G13⟩ := retcn_out hret
      clear hret
      have hn13 := G13.sl.len
      have S13 := S12b.below hB13'
      have M13 := M12b.below hB13'
      have hB13 := chain hB12b hB13'
      go_wp2_with fail
      refine (laws_eqCountedS a13 n13 cap13 _ a2 n2 cap2 _ _ G13.sl S13.sl (by omega) (by omega)).mono ?_
      rintro e w14 ⟨rfl, hB14'⟩
      rw [heq]
      have M14 := M13.below hB14'
      have hB14 := chain hB13 hB14'
      go_wp2_with fail
      refine (heldC a4 n4 cap4 _ M14 (by omega)).mono ?_
      rintro e w15 ⟨rfl, hB15'⟩
      have hB15 := chain hB14 hB15'
      go_wp2
      go_returns
      exact ⟨rfl, hB15⟩

set_option maxRecDepth 100000 in
theorem liftedFlushed (os : Os) (started : os.Started) (H : Type) (enc : TypeId × Value → H) :
    ReturnsInHanded {} Try.checked os 14 .any (Rows.fnExactFlushedSpec.pre6 enc Try.prog Try.f14 Rows.fnExactFlushedRow.domain false) (Rows.fnExactFlushedSpec.post enc Try.prog Try.f14 false true false false) := by
  refine returnsInHanded_of_change (C := Try.checked) own started (by kernel_rfl) Try.func14
    (ChangeSpec.witness6 (enc := enc) (C := Try.checked) false ⟨#[], #[.slice none 0 0, .slice none 0 0], []⟩ 8 (by kernel_rfl) (by kernel_rfl) (by kernel_rfl) (by kernel_rfl)) ?_
  intro W base args ds gs before hval0 hW _ _
  have hval : ∀ (j : Nat) t v, Try.f14.params[j]? = some t → args[j]? = some v → Value.okWide Try.prog W .any base t v := hval0
  have hW' := hW
  obtain ⟨p, q, hA0, hV, rfl, _, _⟩ := hW
  have hA : DataW.TrodAll enc Try.prog W 0 (fun _ => true) true Try.f14.params.toList args.toList ds p := hA0
  rw [Try.params14] at hA hval
  obtain ⟨v0, vs0, d0, ds0, p0, q0, hargs, rfl, rfl, h0, r0⟩ := trodAll_cons hA
  obtain ⟨v1, vs1, d1, ds1, p1, q1, rfl, rfl, rfl, h1, r1⟩ := trodAll_cons r0
  obtain ⟨rfl, rfl, rfl⟩ := trodAll_nil r1
  obtain rfl : args = #[v0, v1] := by cases args; simp_all
  obtain ⟨rfl, rfl⟩ := trodVars_none hV
  clear hA0 hval0
  simp only [List.append_nil] at hW'
  have hlt : ∀ x ∈ p0, x.block < W.heap.size := fun x hx => by simpa using hW'.lt x (by simp [hx])
  have hlt1 : ∀ x ∈ p1, x.block < W.heap.size := fun x hx => by simpa using hW'.lt x (by simp [hx])
  obtain ⟨a0, len, cap, rfl⟩ := okWide_slice Try.underlying87 (hval 0 87 v0 rfl rfl)
  obtain ⟨a1, len1, cap1, rfl⟩ := okWide_slice Try.underlying87 (hval 1 87 v1 rfl rfl)
  obtain ⟨hmx, l, hl, hls⟩ := open_cts h0
  obtain ⟨hmx1, l1, hl1, hls1⟩ := open_cts h1
  unfold maxLen at hmx hmx1 hls hls1
  refine (walkFlushed a0 len cap l a1 len1 cap1 l1 W hl hls (by omega) hl1 hls1 (by omega)).mono fun e W' ⟨he, hB⟩ => ?_
  subst he
  have hargs : DataW.Trod enc Try.prog W' 0 (fun b => decide (b < W.heap.size)) true 87 (.slice a0 len cap) d0 p0 :=
    Below.trod laidOut (by kernel_rfl) (of_decide_eq_true (by kernel_rfl)) h0 hB hlt
  have hargs1 : DataW.Trod enc Try.prog W' 0 (fun b => decide (b < W.heap.size)) true 87 (.slice a1 len1 cap1) d1 p1 :=
    Below.trod laidOut (by kernel_rfl) (of_decide_eq_true (by kernel_rfl)) h1 hB hlt1
  exact ⟨_, rfl, ⟨_, _, _, [], _, [], hW', trodAll_mk1 (shut_bool Try.underlying4 _), trodAll_cons_mk hargs (trodAll_cons_mk hargs1 trodAll_mk0), rfl, hB.frame _, fun h => by cases h⟩⟩

theorem holdsFlushed : Rows.FnExactFlushedSaid :=
  OpenClaim.holds_of_wide 14 Try.f14 rfl rfl rfl rfl rfl rfl rfl ⟨rfl, rfl, rfl, rfl, rfl⟩ rfl rfl rfl rfl rfl (by kernel_rfl) Try.func14 (joined_of (by kernel_rfl) (by kernel_rfl) (by kernel_rfl) (by kernel_rfl) rfl rfl rfl (by kernel_rfl))
    (of_decide_eq_true (by kernel_rfl)) (by unfold Func.isWrapper; first | (rw [if_pos (by decide +kernel)]; kernel_rfl) | (rw [if_neg (by decide +kernel)]; exact ⟨rfl, rfl⟩))
    (fun os started H enc _ => liftedFlushed os started H enc)
end Go.Proofs.Ytbjejnkeekndbaa
