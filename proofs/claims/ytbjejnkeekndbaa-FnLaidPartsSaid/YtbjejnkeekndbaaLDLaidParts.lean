/- At every code: Laid of what is drawn is what its model tells, is right, and its content is the list's with the piece's laid over it: no condition. -/
import Derived.Test.YtbjejnkeekndbaaRows
import Derived.Test.YtbjejnkeekndbaaKg
import Derived.Test.YtbjejnkeekndbaaKr
import Derived.Test.YtbjejnkeekndbaaKu
namespace Go.Proofs.Ytbjejnkeekndbaa
open Go.ChangeShapes Go.WideShapes Go.ChangeAt Go.RowKit Go.Deep

theorem parts_grw {W : World} {x : Grw W} {a : Option Addr} {n cap : Nat} {l : List Pt} (h : PtsAt W a n l) (hn : n ≤ 4194304) (hok : Hid (partsOkB l = true)) : Calls Try.prog 40 #[.slice a n cap] x.w fun e w' => e = .returned (.bool true) ∧ ∃ y : Grw W, w' = y.w := by
  have := impl_PartsOk a n cap l x.w (h.below x.h) hn
  rw [show partsOkB l = true from hok] at this
  exact grow_of this

set_option maxHeartbeats 2000000 in
set_option maxRecDepth 100000 in
theorem walkDLaidParts (a : Option Addr) (n cap : Nat) (w : World) (h : CodeAt w a n) (hm : n ≤ 9223372036854775807) :
    Calls Try.prog 7 #[.slice a n cap] w fun e w' => e = .returned (.bool true) ∧ Below w.heap.size w w' := by
  by_cases hn : n ≤ 1048576
  · have hb : decide (1048576 < n) = false := by simp; omega
    go_enter Try.func7, Try.ntmps7
    go_wp2_with fail
    refine (laws_bigC a n cap _ hm).mono ?_
    rintro e w1 ⟨rfl, rfl⟩
    rw [hb]
    go_wp2_with fail
    refine (spec_DrawLaid a n cap _ h hn).mono ?_
    rintro e w2 ⟨⟨a1, n1, cap1, l1, t, a2, n2, cap2, l2, rfl, hn1, R1, hn2, R2⟩, hC2⟩
    go_wp2_with fail
    refine (impl_Laid a1 n1 cap1 l1 t a2 n2 cap2 l2 _ R1.sl (by omega) (fun ad had => (R1.block ad had).2) R2.sl (by omega) (fun ad had => (R2.block ad had).2)).mono ?_
    rintro e w3 ⟨hret, hB3⟩
    obtain ⟨a3, n3, cap3, rfl, R3⟩ := retp_out hret
    have hn3 : n3 ≤ 16 := by rw [← R3.sl.len]; exact laid_len ..
    replace R1 := R1.below hB3
    replace R2 := R2.below hB3
    have hC3 := chain hC2 hB3
    clear hret hC2 hB3
    go_wp2_with fail
    refine (spec_Laid a1 n1 cap1 l1 t a2 n2 cap2 l2 _ R1.sl (by omega) R2.sl (by omega)).mono ?_
    rintro e w4 ⟨hret, hB4⟩
    rw [← laid_eq] at hret
    obtain ⟨a4, n4, cap4, rfl, R4⟩ := retp_out hret
    replace R1 := R1.below hB4
    replace R2 := R2.below hB4
    replace R3 := R3.below hB4
    have hC4 := chain hC3 hB4
    clear hret hC3 hB4
    cases ho : laidO l1 t l2 with
    | none =>
      rw [ho] at R3 R4
      simp only [Option.isSome_none]
      go_wp2_with fail
      refine (laws_sameParts a3 n3 cap3 _ a4 n4 cap4 _ R3.sl R4.sl (by omega)).mono ?_
      rintro e w5 ⟨rfl, hB5⟩
      replace R3 := R3.below hB5
      replace R4 := R4.below hB5
      have hC5 := chain hC4 hB5
      go_wp2_with fail
      refine (laws_sameParts a3 n3 cap3 _ a4 n4 cap4 _ R3.sl R4.sl (by omega)).mono ?_
      rintro e w6 ⟨rfl, hB6⟩
      have hC6 := chain hC5 hB6
      go_wp2
      go_returns
      exact ⟨rfl, hC6⟩
    | some o =>
      rw [ho] at R3 R4
      simp only [Option.getD_some] at R3 R4
      simp only [Option.isSome_some]
      have hcat : Hid (∀ e x y z, contentO l1 e = some x → contentO l2 e = some y → contentO o e = some z → z = (x ++ zs (t.toNat - x.size)).extract 0 t.toNat ++ y ++ (x ++ zs (t.toNat - x.size)).extract (min (x ++ zs (t.toNat - x.size)).size (t.toNat + y.size)) (x ++ zs (t.toNat - x.size)).size ∧ x.size ≤ 100 ∧ y.size ≤ 100) := fun e x y z hx hy hz => ⟨content_laid ho hx hy hz, (content_lenJ hx).2, (content_lenJ hy).2⟩
      obtain ⟨_, t0, t1, _, hok', _⟩ := laid_some ho
      have hok : Hid (partsOkB o = true) := hok'
      clear ho hok'
      go_wp2_with fail
      refine (laws_sameParts a3 n3 cap3 _ a4 n4 cap4 _ R3.sl R4.sl (by omega)).mono ?_
      rintro e w5 ⟨rfl, hB5⟩
      replace R1 := R1.below hB5
      replace R2 := R2.below hB5
      replace R3 := R3.below hB5
      have hC5 := chain hC4 hB5
      clear R4 hC4 hB5
      go_wp2_with fail
      refine (spec_DrawContent a n cap _ (h.below hC5) hn).mono ?_
      rintro e w6 ⟨⟨a8, n8, cap8, l8, a9, n9, cap9, l9, rfl, hn8, _, R8, hn9, hs9, R9⟩, hB6⟩
      replace R1 := R1.below hB6
      replace R2 := R2.below hB6
      replace R3 := R3.below hB6
      have hC6 := chain hC5 hB6
      clear R8 hC5 hB6
      go_wp2_with fail
      refine (impl_Content a1 n1 cap1 l1 a9 n9 cap9 l9 _ R1.sl R9.sl hs9 (by omega) (by omega)).mono ?_
      rintro e w7 ⟨hret, hB7⟩
      obtain rfl := rets_outJ hret
      replace R2 := R2.below hB7
      replace R3 := R3.below hB7
      replace R9 := R9.below hB7
      have hC7 := chain hC6 hB7
      clear hret hC6 hB7 R1
      go_wp2_with fail
      refine (impl_Content a2 n2 cap2 l2 a9 n9 cap9 l9 _ R2.sl R9.sl hs9 (by omega) (by omega)).mono ?_
      rintro e w8 ⟨hret, hB8⟩
      obtain rfl := rets_outJ hret
      replace R3 := R3.below hB8
      replace R9 := R9.below hB8
      have hC8 := chain hC7 hB8
      clear hret hC7 hB8 R2
      go_wp2_with fail
      refine (impl_Content a3 n3 cap3 o a9 n9 cap9 l9 _ R3.sl R9.sl hs9 (by omega) (by omega)).mono ?_
      rintro e w9 ⟨hret, hB9⟩
      obtain rfl := rets_outJ hret
      replace R3 := R3.below hB9
      have hC9 := chain hC8 hB9
      clear hret hC8 hB9 R9
      replace hcat := hcat l9
      generalize contentO l1 l9 = cx at hcat ⊢
      generalize contentO l2 l9 = cy at hcat ⊢
      generalize contentO o l9 = cz at hcat ⊢
      rcases cx with _ | x
      · go_wp2
        go_returns
        exact ⟨rfl, hC9⟩
      rcases cy with _ | y
      · go_wp2
        go_returns
        exact ⟨rfl, hC9⟩
      rcases cz with _ | z
      · go_wp2
        go_returns
        exact ⟨rfl, hC9⟩
      obtain ⟨hz', hx100, hy100⟩ := hcat x y z rfl rfl rfl
      have hz : Hid (z = _) := hz'
      clear hcat hz'
      simp only [Option.getD_some, Option.isSome_some]
      go_wp2_with fail
      obtain ⟨T, rfl⟩ := Int.eq_ofNat_of_zero_le t0
      go_loopw [12] (fun v wr => ∃ (k : Nat), v = .string (x ++ zs k) ∧ (k = 0 ∨ x.size + k ≤ T) ∧ wr = w9) (fun v _ => match v with | .string s => T - s.size | _ => 0)
      case atStart => exact ⟨0, by rw [zs_nought], .inl rfl, rfl⟩
      case round =>
        obtain ⟨k, rfl, hk, rfl⟩ := hrel
        have hsz := zs_sizeX x k
        by_cases hlt : x.size + k < T
        · have hmore := zs_more x k
          rw [← hsz] at hlt
          generalize hX : x ++ zs k = X at *
          have hlt' : (X.size : Int) < (T : Int) := by omega
          go_wp2_with fail
          refine ⟨⟨k + 1, rfl, .inr (by omega), trivial⟩, ?_⟩
          show T - (x ++ zs (k + 1)).size < T - X.size
          rw [zs_sizeX]
          omega
        · obtain rfl : k = T - x.size := by omega
          have hz' : z = _ := hz
          rw [Int.toNat_natCast] at hz'
          generalize x ++ zs (T - x.size) = X at *
          have hT : T ≤ X.size := by omega
          have hX : X.size ≤ 200 := by omega
          have hT' : ¬ (X.size : Int) < (T : Int) := by omega
          clear hz hsz hlt hk
          have hz : Hid (z = _) := hz'
          clear hz'
          by_cases hE : X.size ≤ T + y.size
          · have hz' : z = X.extract 0 T ++ y ++ X.extract X.size X.size := by
              have := hz.out
              rwa [Nat.min_eq_left hE] at this
            subst hz'
            clear hz
            go_wp2_with fail
            have hne := grw_ne wr
            refine wp_region_grow (by kernel_rfl) (by kernel_rfl) ?_
            repeat (go_big_quiet_step (first | (go_at_call 40; exact parts_grw R3.sl (by omega) hok)))
            refine wpQuiet_nil ?_
            intro w10 hx
            have hB10 := grw_out hx
            clear hx
            go_wp2
            go_returns
            exact ⟨rfl, chain hC9 hB10⟩
          · have hz' : z = X.extract 0 T ++ y ++ X.extract (T + y.size) X.size := by
              have := hz.out
              rwa [Nat.min_eq_right (by omega)] at this
            subst hz'
            clear hz
            go_wp2_with fail
            have hne := grw_ne wr
            refine wp_region_grow (by kernel_rfl) (by kernel_rfl) ?_
            repeat (go_big_quiet_step (first | (go_at_call 40; exact parts_grw R3.sl (by omega) hok)))
            refine wpQuiet_nil ?_
            intro w10 hx
            have hB10 := grw_out hx
            clear hx
            go_wp2
            go_returns
            exact ⟨rfl, chain hC9 hB10⟩
  · have hb : decide (1048576 < n) = true := by simp; omega
    go_enter Try.func7, Try.ntmps7
    go_wp2_with fail
    refine (laws_bigC a n cap _ hm).mono ?_
    rintro e w1 ⟨rfl, rfl⟩
    rw [hb]
    go_wp2
    go_returns
    exact ⟨rfl, Below.refl _ _⟩

set_option maxRecDepth 100000 in
theorem liftedDLaidParts (os : Os) (started : os.Started) (H : Type) (enc : TypeId × Value → H) :
    ReturnsInHanded {} Try.checked os 7 .any (Rows.fnLaidPartsSpec.pre6 enc Try.prog Try.f7 Rows.fnLaidPartsRow.domain false) (Rows.fnLaidPartsSpec.post enc Try.prog Try.f7 false true false false) := by
  refine returnsInHanded_of_change (C := Try.checked) own started (by kernel_rfl) Try.func7
    (ChangeSpec.witness6 (enc := enc) (C := Try.checked) false ⟨#[], #[.slice none 0 0], []⟩ 8 (by kernel_rfl) (by kernel_rfl) (by kernel_rfl) (by kernel_rfl)) ?_
  intro W base args ds gs before hval0 hW _ _
  have hval : ∀ (j : Nat) t v, Try.f7.params[j]? = some t → args[j]? = some v → Value.okWide Try.prog W .any base t v := hval0
  have hW' := hW
  obtain ⟨p, q, hA0, hV, rfl, _, _⟩ := hW
  have hA : DataW.TrodAll enc Try.prog W 0 (fun _ => true) true Try.f7.params.toList args.toList ds p := hA0
  rw [Try.params7] at hA hval
  obtain ⟨v0, vs0, d0, ds0, p0, q0, hargs, rfl, rfl, h0, r0⟩ := trodAll_cons hA
  obtain ⟨rfl, rfl, rfl⟩ := trodAll_nil r0
  obtain rfl : args = #[v0] := by cases args; simp_all
  obtain ⟨rfl, rfl⟩ := trodVars_none hV
  clear hA0 hval0
  simp only [List.append_nil] at hW'
  have hlt : ∀ x ∈ p0, x.block < W.heap.size := fun x hx => by simpa using hW'.lt x hx
  obtain ⟨a0, len, cap, rfl⟩ := okWide_slice Try.underlying22 (hval 0 22 v0 rfl rfl)
  obtain ⟨hmx, hl⟩ := open_code h0
  unfold maxLen at hmx
  refine (walkDLaidParts a0 len cap W hl (by omega)).mono fun e W' ⟨he, hB⟩ => ?_
  subst he
  have hargs : DataW.Trod enc Try.prog W' 0 (fun b => decide (b < W.heap.size)) true 22 (.slice a0 len cap) d0 p0 :=
    Below.trod laidOut (by kernel_rfl) (of_decide_eq_true (by kernel_rfl)) h0 hB hlt
  exact ⟨_, rfl, ⟨_, _, _, [], _, [], hW', trodAll_mk1 (shut_bool Try.underlying4 _), trodAll_mk1 hargs, rfl, hB.frame _, fun h => by cases h⟩⟩

theorem holdsDLaidParts : Rows.FnLaidPartsSaid :=
  OpenClaim.holds_of_wide 7 Try.f7 rfl rfl rfl rfl rfl rfl rfl ⟨rfl, rfl, rfl, rfl, rfl⟩ rfl rfl rfl rfl rfl (by kernel_rfl) Try.func7 (joined_of (by kernel_rfl) (by kernel_rfl) (by kernel_rfl) (by kernel_rfl) rfl rfl rfl (by kernel_rfl))
    (of_decide_eq_true (by kernel_rfl)) (by unfold Func.isWrapper; first | (rw [if_pos (by decide +kernel)]; kernel_rfl) | (rw [if_neg (by decide +kernel)]; exact ⟨rfl, rfl⟩))
    (fun os started H enc _ => liftedDLaidParts os started H enc)
end Go.Proofs.Ytbjejnkeekndbaa
