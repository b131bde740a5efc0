/- At every code: what is drawn of it, a list of parts and extents, has a Content that is as long as its parts, and as its model tells: no condition. -/
import Derived.Test.YtbjejnkeekndbaaRows
import Derived.Test.YtbjejnkeekndbaaKg
import Derived.Test.YtbjejnkeekndbaaKq
import Derived.Test.YtbjejnkeekndbaaKr
import Derived.Test.YtbjejnkeekndbaaKb
namespace Go.Proofs.Ytbjejnkeekndbaa
open Go.ChangeShapes Go.WideShapes Go.ChangeAt Go.RowKit Go.Deep

theorem rets_outD {e : Ending} {oo : Option ByteArray} (h : RetStr e oo) : e = .returned (.tuple #[.string (oo.getD ⟨#[]⟩), .bool oo.isSome]) := by
  cases oo <;> exact h

theorem cgo_size (e : List Ex) : ∀ (l : List Pt) (acc s : ByteArray), (∀ p ∈ l, 1 ≤ p.n ∧ p.n ≤ 100 ∧ (p.a ≠ 0 → 0 ≤ p.f ∧ p.f < 20)) → cgo e acc l = some s → (s.size : Int) = acc.size + sumN l
  | [], acc, s, _, h => by simp [cgo] at h; subst h; simp [sumN]
  | p :: r, acc, s, hp, h => by
    unfold cgo at h
    split at h
    · cases h
    · rename_i d hd
      obtain ⟨h1, _, h3⟩ := hp p (by simp)
      have hs := pieceO_size h1 (fun ha => (h3 ha).1) hd
      have := cgo_size e r (acc ++ d) s (fun q hq => hp q (by simp [hq])) h
      rw [ByteArray.size_append] at this
      simp only [sumN]
      omega
theorem content_len {l : List Pt} {e : List Ex} {s : ByteArray} (h : contentO l e = some s) : (s.size : Int) = lenB l := by
  unfold contentO at h
  split at h
  · rename_i hh
    have := cgo_size e l _ s (parts_all hh.1).2 h
    rw [lenB, if_pos hh.1]
    have h0 : (((⟨#[]⟩ : ByteArray).size : Nat) : Int) = 0 := rfl
    omega
  · cases h

set_option maxHeartbeats 1000000 in
set_option maxRecDepth 100000 in
theorem walkDContent (a : Option Addr) (n cap : Nat) (w : World) (h : CodeAt w a n) (hm : n ≤ 9223372036854775807) :
    Calls Try.prog 8 #[.slice a n cap] w fun e w' => e = .returned (.bool true) ∧ Below w.heap.size w w' := by
  by_cases hn : n ≤ 1048576
  · have hb : decide (1048576 < n) = false := by simp; omega
    go_enter Try.func8, Try.ntmps8
    go_wp2_with fail
    refine (laws_bigC a n cap _ hm).mono ?_
    rintro e w1 ⟨rfl, rfl⟩
    rw [hb]
    go_wp2_with fail
    refine (spec_DrawContent a n cap _ h hn).mono ?_
    rintro e w2 ⟨⟨a1, n1, cap1, l1, a2, n2, cap2, l2, rfl, hn1, _, R1, hn2, hs2, R2⟩, hB2⟩
    go_wp2_with fail
    refine (impl_Content a1 n1 cap1 l1 a2 n2 cap2 l2 _ R1.sl R2.sl hs2 (by omega) (by omega)).mono ?_
    rintro e w3 ⟨hret, hB3⟩
    obtain rfl := rets_outD hret
    clear hret
    have hB4 := chain hB2 hB3
    have S1 := R1.sl.below hB3
    have S2 := R2.sl.below hB3
    go_wp2_with fail
    refine (spec_Content a1 n1 cap1 l1 a2 n2 cap2 l2 _ S1 S2 hs2 (by omega) (by omega)).mono ?_
    rintro e w5 ⟨hret, hB5⟩
    obtain rfl := rets_outD hret
    clear hret
    have hB6 := chain hB4 hB5
    have T1 := S1.below hB5
    cases hc : contentO l1 l2 with
    | none =>
      go_wp2
      go_returns
      exact ⟨rfl, hB6⟩
    | some s =>
      have hl := content_len hc
      have hlb : ((s.size : Int) == lenB l1) = true := by simp [hl]
      simp only [Option.getD_some, Option.isSome_some]
      go_wp2_with fail
      refine (impl_LenOf a1 n1 cap1 l1 _ T1 (by omega)).mono ?_
      rintro e w7 ⟨rfl, hB7⟩
      have hB8 := chain hB6 hB7
      go_wp2
      go_returns
      exact ⟨rfl, hB8⟩
  · have hb : decide (1048576 < n) = true := by simp; omega
    go_enter Try.func8, Try.ntmps8
    go_wp2_with fail
    refine (laws_bigC a n cap _ hm).mono ?_
    rintro e w1 ⟨rfl, rfl⟩
    rw [hb]
    go_wp2
    go_returns
    exact ⟨rfl, Below.refl _ _⟩

set_option maxRecDepth 100000 in
theorem liftedDContent (os : Os) (started : os.Started) (H : Type) (enc : TypeId × Value → H) :
    ReturnsInHanded {} Try.checked os 8 .any (Rows.fnContentSpec.pre6 enc Try.prog Try.f8 Rows.fnContentRow.domain false) (Rows.fnContentSpec.post enc Try.prog Try.f8 false true false false) := by
  refine returnsInHanded_of_change (C := Try.checked) own started (by kernel_rfl) Try.func8
    (ChangeSpec.witness6 (enc := enc) (C := Try.checked) false ⟨#[], #[.slice none 0 0], []⟩ 8 (by kernel_rfl) (by kernel_rfl) (by kernel_rfl) (by kernel_rfl)) ?_
  intro W base args ds gs before hval0 hW _ _
  have hval : ∀ (j : Nat) t v, Try.f8.params[j]? = some t → args[j]? = some v → Value.okWide Try.prog W .any base t v := hval0
  have hW' := hW
  obtain ⟨p, q, hA0, hV, rfl, _, _⟩ := hW
  have hA : DataW.TrodAll enc Try.prog W 0 (fun _ => true) true Try.f8.params.toList args.toList ds p := hA0
  rw [Try.params8] at hA hval
  obtain ⟨v0, vs0, d0, ds0, p0, q0, hargs, rfl, rfl, h0, r0⟩ := trodAll_cons hA
  obtain ⟨rfl, rfl, rfl⟩ := trodAll_nil r0
  obtain rfl : args = #[v0] := by cases args; simp_all
  obtain ⟨rfl, rfl⟩ := trodVars_none hV
  clear hA0 hval0
  simp only [List.append_nil] at hW'
  have hlt : ∀ x ∈ p0, x.block < W.heap.size := fun x hx => by simpa using hW'.lt x hx
  obtain ⟨a0, len, cap, rfl⟩ := okWide_slice Try.underlying22 (hval 0 22 v0 rfl rfl)
  obtain ⟨hmx, hl⟩ := open_code h0
  unfold maxLen at hmx
  refine (walkDContent a0 len cap W hl (by omega)).mono fun e W' ⟨he, hB⟩ => ?_
  subst he
  have hargs : DataW.Trod enc Try.prog W' 0 (fun b => decide (b < W.heap.size)) true 22 (.slice a0 len cap) d0 p0 :=
    Below.trod laidOut (by kernel_rfl) (of_decide_eq_true (by kernel_rfl)) h0 hB hlt
  exact ⟨_, rfl, ⟨_, _, _, [], _, [], hW', trodAll_mk1 (shut_bool Try.underlying4 _), trodAll_mk1 hargs, rfl, hB.frame _, fun h => by cases h⟩⟩

theorem holdsDContent : Rows.FnContentSaid :=
  OpenClaim.holds_of_wide 8 Try.f8 rfl rfl rfl rfl rfl rfl rfl ⟨rfl, rfl, rfl, rfl, rfl⟩ rfl rfl rfl rfl rfl (by kernel_rfl) Try.func8 (joined_of (by kernel_rfl) (by kernel_rfl) (by kernel_rfl) (by kernel_rfl) rfl rfl rfl (by kernel_rfl))
    (of_decide_eq_true (by kernel_rfl)) (by unfold Func.isWrapper; first | (rw [if_pos (by decide +kernel)]; kernel_rfl) | (rw [if_neg (by decide +kernel)]; exact ⟨rfl, rfl⟩))
    (fun os started H enc _ => liftedDContent os started H enc)
end Go.Proofs.Ytbjejnkeekndbaa
