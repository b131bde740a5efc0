/- The text of a pool, by the model: flags and counts. -/
import Derived.Test.YtigldeccfpkdmaaGreatDoorCReadSuperx28
namespace Go.Proofs.YtigldeccfpkdmaaGreatDoor
open Go Go.RowKit Go.BigFrame Go.Shelf
theorem cat_dn {a b : ByteArray} (h : (a ++ b).size ≤ 1000000) : ¬ 9223372036854775807 < a.size + b.size ∧ a.size ≤ 1000000 := by
  rw [app_size] at h; omega
theorem spec_l7Flag (b : Bool) (w : World) : Calls Tryz.prog 157 #[.bool b] w fun e w' => e = .returned (.string (flagB b)) ∧ w' = w := by
  cases b <;> (go_enter Tryz.func157, Tryz.ntmps157; go_wp2; go_returns; exact ⟨rfl, rfl⟩)
theorem ct_line (s word da dv f dn : ByteArray) : s ++ word ++ ⟨#[32]⟩ ++ da ++ ⟨#[32]⟩ ++ dv ++ ⟨#[32]⟩ ++ f ++ ⟨#[32]⟩ ++ dn ++ ⟨#[10]⟩ = (⟨(s.data.toList ++ lineL [word, da, dv, f, dn]).toArray⟩ : ByteArray) := by
  refine ba_eqX ?_
  unfold lineL
  simp [word_step, word_one, ByteArray.data_append]
theorem ctsW_take {word : ByteArray} {l : List Ct} {k : Nat} {c : Ct} (h : l[k]? = some c) : ctsW word (l.take (k + 1)) = ctsW word (l.take k) ++ lineL (ctL word c) := flat_step h
set_option maxHeartbeats 4000000 in
set_option maxRecDepth 100000 in
theorem spec_l7Counts (word : ByteArray) (a : Option Addr) (n cap : Nat) (l : List Ct) (w : World) (h : CtsAt w a n l) (hn : n ≤ 4194304) (hN : ∀ c ∈ l, Num c.o.a ∧ Num c.o.v ∧ Num c.n) (hlen : (ctsW word l).length ≤ 1000000) :
    Calls Tryz.prog 158 #[.string word, .slice a n cap] w fun e w' => e = .returned (.string ⟨(ctsW word l).toArray⟩) ∧ Below w.heap.size w w' := by
  have hll : Hid (l.length = n) := h.len
  obtain ⟨R, hR⟩ : ∃ R, Hid (ctsW word l = R) := ⟨_, rfl⟩
  have hlen' := Hid.mk' hlen
  rw [hR.out]
  clear hlen
  go_enter Tryz.func158, Tryz.ntmps158
  go_wp2_with fail
  go_loopw [5, 6] (fun s ix wr => ∃ (k : Nat) (o : ByteArray), k ≤ n ∧ ix = .int .i64 k ∧ s = .string o ∧ Hid (o.data.toList = ctsW word (l.take k)) ∧ Below w.heap.size w wr) (fun _ ix _ => n - (intOf ix).toNat)
  case atStart => exact ⟨0, .empty, Nat.zero_le _, rfl, rfl, rfl, Below.refl _ _⟩
  case round =>
    obtain ⟨k, o, hk, rfl, rfl, ho, hB⟩ := hrel
    by_cases hlt : k < n
    · obtain ⟨b, q, c, rfl, hc, c0, c1, c2, c3⟩ := cts_at (h.below hB) hlt
      obtain ⟨⟨na1, na2⟩, ⟨nv1, nv2⟩, nn1, nn2⟩ := hN c (List.mem_of_getElem? hc)
      have hst : Hid (ctsW word (l.take (k + 1)) = ctsW word (l.take k) ++ lineL (ctL word c)) := ctsW_take hc
      have hlp := flat_len1 (P := []) (f := fun c => lineL (ctL word c)) hc (by simpa [ctsW] using hlen'.out)
      have hol : o.size = (ctsW word (l.take k)).length := by rw [← ho.out]; rfl
      have hcl := ct_line o word (decB c.o.a) (decB c.o.v) c.o.f (decB c.n)
      have hcs := congrArg ByteArray.size hcl
      have hrs : ((⟨(o.data.toList ++ lineL [word, decB c.o.a, decB c.o.v, c.o.f, decB c.n]).toArray⟩ : ByteArray)).size ≤ 1000000 := by
        show (o.data.toList ++ lineL _).toArray.size ≤ _
        rw [List.size_toArray, ho.out]
        simpa [ctsW, ctL] using hlp
      rw [← hcs] at hrs
      have hcl' : Hid (o ++ word ++ ⟨#[32]⟩ ++ decB c.o.a ++ ⟨#[32]⟩ ++ decB c.o.v ++ ⟨#[32]⟩ ++ c.o.f ++ ⟨#[32]⟩ ++ decB c.n ++ ⟨#[10]⟩ = (⟨(o.data.toList ++ lineL (ctL word c)).toArray⟩ : ByteArray)) := hcl
      obtain ⟨d1, hd1⟩ : ∃ z, Hid (decB c.o.a = z) := ⟨_, rfl⟩
      obtain ⟨d2, hd2⟩ : ∃ z, Hid (decB c.o.v = z) := ⟨_, rfl⟩
      obtain ⟨d3, hd3⟩ : ∃ z, Hid (decB c.n = z) := ⟨_, rfl⟩
      have k1 : ∀ u : World, Calls Tryz.prog 122 #[.int .i64 c.o.a] u fun e w' => e = .returned (.string d1) ∧ Below u.heap.size u w' := fun u => by rw [← hd1.out]; exact spec_l1Dec c.o.a u na1 na2
      have k2 : ∀ u : World, Calls Tryz.prog 122 #[.int .i64 c.o.v] u fun e w' => e = .returned (.string d2) ∧ Below u.heap.size u w' := fun u => by rw [← hd2.out]; exact spec_l1Dec c.o.v u nv1 nv2
      have k3 : ∀ u : World, Calls Tryz.prog 122 #[.int .i64 c.n] u fun e w' => e = .returned (.string d3) ∧ Below u.heap.size u w' := fun u => by rw [← hd3.out]; exact spec_l1Dec c.n u nn1 nn2
      rw [hd1.out, hd2.out, hd3.out] at hrs
      unfold Hid at hcl'
      rw [hd1.out, hd2.out, hd3.out] at hcl'
      obtain ⟨o', ho'⟩ : ∃ z, Hid (z = (⟨(o.data.toList ++ lineL (ctL word c)).toArray⟩ : ByteArray)) := ⟨_, rfl⟩
      replace hcl' : Hid (_ = o') := hcl'.trans ho'.out.symm
      obtain ⟨ff, hff⟩ : ∃ z, c.o.f = z := ⟨_, rfl⟩
      rw [hff] at hrs hcl' c2
      clear hcl hcs hlp hol hst
      replace hrs : (o ++ word ++ ⟨#[32]⟩ ++ d1 ++ ⟨#[32]⟩ ++ d2 ++ ⟨#[32]⟩ ++ ff ++ ⟨#[32]⟩ ++ d3 ++ ⟨#[10]⟩).size ≤ 1000000 := hrs
      obtain ⟨e10, hrs⟩ := cat_dn hrs
      obtain ⟨e9, hrs⟩ := cat_dn hrs
      obtain ⟨e8, hrs⟩ := cat_dn hrs
      obtain ⟨e7, hrs⟩ := cat_dn hrs
      obtain ⟨e6, hrs⟩ := cat_dn hrs
      obtain ⟨e5, hrs⟩ := cat_dn hrs
      obtain ⟨e4, hrs⟩ := cat_dn hrs
      obtain ⟨e3, hrs⟩ := cat_dn hrs
      obtain ⟨e2, hrs⟩ := cat_dn hrs
      obtain ⟨e1, hrs⟩ := cat_dn hrs
      have hlt' : (k : Int) < n := by omega
      have q0 := gcell c0
      have q1 := gcell c1
      have q2 := gcell c2
      have q3 := gcell c3
      go_wp2_with fail
      refine wp_region_grow (by kernel_rfl) (by kernel_rfl) ?_
      have hne := grw_ne wr
      iterate 11 (go_big_quiet_step (first | (go_at_call 122; exact grow_of (k1 _))))
      iterate 9 (go_big_quiet_step (first | (go_at_call 122; exact grow_of (k2 _))))
      iterate 19 (go_big_quiet_step (first | (go_at_call 122; exact grow_of (k3 _))))
      refine wpQuiet_nil ?_
      intro w2 hx2
      have hB2 := chain hB (grw_out hx2)
      clear hx2
      go_wp2
      go_roundw
      case rel =>
        refine ⟨k + 1, _, by omega, by go_num, rfl, ?_, hB2⟩
        show _ = _
        rw [hcl'.out, ho'.out, ctsW_take hc, ← ho.out]
      case measure => simp [intOf]; omega
    · obtain rfl : k = n := by omega
      have hlt' : ¬ (k : Int) < k := by omega
      go_wp2
      go_returns
      rw [List.take_of_length_le (by rw [hll.out]; exact Nat.le_refl _), hR.out] at ho
      have hoR : o = ⟨R.toArray⟩ := ba_eqX (by simpa using ho.out)
      subst hoR
      exact ⟨rfl, hB⟩
end Go.Proofs.YtigldeccfpkdmaaGreatDoor
