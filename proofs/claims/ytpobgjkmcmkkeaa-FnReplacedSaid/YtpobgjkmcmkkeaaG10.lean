/- The change that an op is. A file removed, by the program. -/
import Derived.Test.YtpobgjkmcmkkeaaG09
namespace Go.Proofs.Ytpobgjkmcmkkeaa
open Go Go.RowKit Go.BigFrame

def chV (o : Dp) : Value := if o.k = 1 then .iface 113 (.agg #[.string o.nm, .string o.d]) else if o.k = 2 then .iface 115 (.agg #[.string o.nm, .string o.tt]) else .iface 117 (.agg #[.string o.nm])

theorem em_is (d : ByteArray) : emB d = d.toList.isEmpty := by
  have h : (⟨#[]⟩ : ByteArray).toList = [] := by simp [ByteArray.toList_eq]
  unfold emB
  rw [h]
  cases d.toList <;> rfl

set_option maxHeartbeats 4000000 in
set_option maxRecDepth 100000 in
theorem impl_changeOf (k : Int) (nm tt d : ByteArray) (w : World) (h1 : nm.size ≤ 9223372036854775807) (h2 : tt.size ≤ 9223372036854775807) :
    Calls Try.prog 43 #[.agg #[.int .i64 k, .string nm, .string tt, .string d]] w fun e w' => (∃ v, e = .returned (.tuple #[v, .bool (formB ⟨k, nm, tt, d⟩)]) ∧ (formB ⟨k, nm, tt, d⟩ = true → v = chV ⟨k, nm, tt, d⟩)) ∧ Below w.heap.size w w' := by
  have hname := fun u => impl_fileNameOk nm u h1
  have hnamt := fun u => impl_fileNameOk tt u h2
  have hA : Below w.heap.size w (w.alloc (.cells #[.int .i64 k, .string nm, .string tt, .string d] 36)) := (Below.refl _ _).alloc (Nat.le_refl _) _
  have D := Blk.new w #[.int .i64 k, .string nm, .string tt, .string d] 36
  cases hn : nmB nm
  · have hf : Hid (formB ⟨k, nm, tt, d⟩ = false) := by show _ = _; simp [formB, hn]
    rw [hn] at hname
    go_enter Try.func43, Try.ntmps43
    go_wp2_with (go_at_call 75; refine (hname _).mono ?_; rintro e w1 ⟨rfl, rfl⟩)
    go_returns
    exact ⟨⟨_, by rw [hf.out]; rfl, fun h => by rw [hf.out] at h; cases h⟩, hA⟩
  · rw [hn] at hname
    by_cases hk1 : k = 1
    · subst hk1
      have hf : Hid (formB ⟨1, nm, tt, d⟩ = tt.toList.isEmpty) := by show _ = _; simp [formB, hn, em_is]
      go_enter Try.func43, Try.ntmps43
      go_wp2_with (go_at_call 75; refine (hname _).mono ?_; rintro e w1 ⟨rfl, rfl⟩)
      generalize w.alloc (.cells #[.int .i64 1, .string nm, .string tt, .string d] 36) = W at *
      have hS0 : (fun u => u.cell? ⟨w.heap.size, 1, none⟩ = some (.string nm) ∧ u.cell? ⟨w.heap.size, 2, none⟩ = some (.string tt) ∧ u.cell? ⟨w.heap.size, 3, none⟩ = some (.string d)) W.drew := ⟨D.cell 1, D.cell 2, D.cell 3⟩
      refine wp_region_heldH (S := (fun u => u.cell? ⟨w.heap.size, 1, none⟩ = some (.string nm) ∧ u.cell? ⟨w.heap.size, 2, none⟩ = some (.string tt) ∧ u.cell? ⟨w.heap.size, 3, none⟩ = some (.string d))) 11 (by kernel_rfl) rfl ?_
      refine takeL (i := 0) (v := ?vq16001) rfl (by kernel_rfl) (by kernel_rfl) (by kernel_rfl) (fun _ _ _ h => h) (Or.inl ⟨by rfl, ?hyq16001⟩) (by assumption) ?restq16001
      case hyq16001 => (intro u hu; (try dsimp only at hu); go_simp <;> with_reducible rfl)
      try simp only [Act.put, List.setIfInBounds_toArray, List.set_cons_zero, List.set_cons_succ]
      refine takeL (i := 1) (v := ?vq16002) rfl (by kernel_rfl) (by kernel_rfl) (by kernel_rfl) (fun _ _ _ h => h) (Or.inl ⟨by rfl, ?hyq16002⟩) (by assumption) ?restq16002
      case hyq16002 => (intro u hu; (try dsimp only at hu); go_simp <;> with_reducible rfl)
      try simp only [Act.put, List.setIfInBounds_toArray, List.set_cons_zero, List.set_cons_succ]
      refine takeL (i := 2) (v := ?vq16003) rfl (by kernel_rfl) (by kernel_rfl) (by kernel_rfl) (fun _ _ _ h => h) (Or.inl ⟨by rfl, ?hyq16003⟩) (by assumption) ?restq16003
      case hyq16003 => (intro u hu; (try dsimp only at hu); go_simp <;> with_reducible rfl)
      try simp only [Act.put, List.setIfInBounds_toArray, List.set_cons_zero, List.set_cons_succ]
      refine takeL (i := 3) (v := ?vq16004) rfl (by kernel_rfl) (by kernel_rfl) (by kernel_rfl) (fun _ _ _ h => h) (Or.inl ⟨by rfl, ?hyq16004⟩) (by assumption) ?restq16004
      case hyq16004 => (intro u hu; (try dsimp only at hu); go_simp <;> with_reducible rfl)
      try simp only [Act.put, List.setIfInBounds_toArray, List.set_cons_zero, List.set_cons_succ]
      refine takeL (i := 4) (v := ?vq16005) rfl (by kernel_rfl) (by kernel_rfl) (by kernel_rfl) (fun _ _ _ h => h) (Or.inl ⟨by rfl, ?hyq16005⟩) (by assumption) ?restq16005
      case hyq16005 => (intro u hu; (try dsimp only at hu); go_simp <;> with_reducible rfl)
      try simp only [Act.put, List.setIfInBounds_toArray, List.set_cons_zero, List.set_cons_succ]
      refine takeL (i := 5) (v := ?vq16006) rfl (by kernel_rfl) (by kernel_rfl) (by kernel_rfl) (fun _ _ _ h => h) (Or.inl ⟨by rfl, ?hyq16006⟩) (by assumption) ?restq16006
      case hyq16006 => (intro u hu; (try dsimp only at hu); go_simp <;> with_reducible rfl)
      try simp only [Act.put, List.setIfInBounds_toArray, List.set_cons_zero, List.set_cons_succ]
      refine takeL (i := 6) (v := ?vq16007) rfl (by kernel_rfl) (by kernel_rfl) (by kernel_rfl) (fun _ _ _ h => h) (Or.inl ⟨by rfl, ?hyq16007⟩) (by assumption) ?restq16007
      case hyq16007 => (intro u hu; (try dsimp only at hu); go_simp <;> with_reducible rfl)
      try simp only [Act.put, List.setIfInBounds_toArray, List.set_cons_zero, List.set_cons_succ]
      refine takeL (i := 7) (v := ?vq16008) rfl (by kernel_rfl) (by kernel_rfl) (by kernel_rfl) (fun _ _ _ h => h) (Or.inl ⟨by rfl, ?hyq16008⟩) (by assumption) ?restq16008
      case hyq16008 => (intro u hu; (try dsimp only at hu); go_simp <;> with_reducible rfl)
      try simp only [Act.put, List.setIfInBounds_toArray, List.set_cons_zero, List.set_cons_succ]
      refine takeL (i := 8) (v := ?vq16009) rfl (by kernel_rfl) (by kernel_rfl) (by kernel_rfl) (fun _ _ _ h => h) (Or.inl ⟨by rfl, ?hyq16009⟩) (by assumption) ?restq16009
      case hyq16009 => (intro u hu; (try dsimp only at hu); go_simp <;> with_reducible rfl)
      try simp only [Act.put, List.setIfInBounds_toArray, List.set_cons_zero, List.set_cons_succ]
      refine takeL (i := 9) (v := ?vq16010) rfl (by kernel_rfl) (by kernel_rfl) (by kernel_rfl) (fun _ _ _ h => h) (Or.inl ⟨by rfl, ?hyq16010⟩) (by assumption) ?restq16010
      case hyq16010 => (intro u hu; (try dsimp only at hu); go_simp <;> with_reducible rfl)
      try simp only [Act.put, List.setIfInBounds_toArray, List.set_cons_zero, List.set_cons_succ]
      refine takeL (i := 10) (v := ?vq16011) rfl (by kernel_rfl) (by kernel_rfl) (by kernel_rfl) (fun _ _ _ h => h) (Or.inl ⟨by rfl, ?hyq16011⟩) (by assumption) ?restq16011
      case hyq16011 => (intro u hu; (try dsimp only at hu); go_simp <;> with_reducible rfl)
      try simp only [Act.put, List.setIfInBounds_toArray, List.set_cons_zero, List.set_cons_succ]
      refine wpAnyH_done (by kernel_rfl) ?_ _
      clear hS0
      go_wp2
      go_returns
      exact ⟨⟨_, by rw [hf.out]; rfl, fun _ => rfl⟩, hA.drew⟩
    · by_cases hk2 : k = 2
      · subst hk2
        cases ht : nmB tt
        · have hf : Hid (formB ⟨2, nm, tt, d⟩ = false) := by show _ = _; simp [formB, hn, ht, em_is]
          rw [ht] at hnamt
          go_enter Try.func43, Try.ntmps43
          go_wp2_with (go_at_call 75; refine (hname _).mono ?_; rintro e w1 ⟨rfl, rfl⟩)
          generalize w.alloc (.cells #[.int .i64 2, .string nm, .string tt, .string d] 36) = W at *
          have hS0 : (fun u => u.cell? ⟨w.heap.size, 1, none⟩ = some (.string nm) ∧ u.cell? ⟨w.heap.size, 2, none⟩ = some (.string tt) ∧ u.cell? ⟨w.heap.size, 3, none⟩ = some (.string d)) W.drew := ⟨D.cell 1, D.cell 2, D.cell 3⟩
          refine wp_region_heldH (S := (fun u => u.cell? ⟨w.heap.size, 1, none⟩ = some (.string nm) ∧ u.cell? ⟨w.heap.size, 2, none⟩ = some (.string tt) ∧ u.cell? ⟨w.heap.size, 3, none⟩ = some (.string d))) 16 (by kernel_rfl) rfl ?_
          refine takeL (i := 0) (v := ?vq16012) rfl (by kernel_rfl) (by kernel_rfl) (by kernel_rfl) (fun _ _ _ h => h) (Or.inl ⟨by rfl, ?hyq16012⟩) (by assumption) ?restq16012
          case hyq16012 => (intro u hu; (try dsimp only at hu); go_simp <;> with_reducible rfl)
          try simp only [Act.put, List.setIfInBounds_toArray, List.set_cons_zero, List.set_cons_succ]
          refine takeL (i := 1) (v := ?vq16013) rfl (by kernel_rfl) (by kernel_rfl) (by kernel_rfl) (fun _ _ _ h => h) (Or.inl ⟨by rfl, ?hyq16013⟩) (by assumption) ?restq16013
          case hyq16013 => (intro u hu; (try dsimp only at hu); go_simp <;> with_reducible rfl)
          try simp only [Act.put, List.setIfInBounds_toArray, List.set_cons_zero, List.set_cons_succ]
          refine takeL (i := 2) (v := ?vq16014) rfl (by kernel_rfl) (by kernel_rfl) (by kernel_rfl) (fun _ _ _ h => h) (Or.inl ⟨by rfl, ?hyq16014⟩) (by assumption) ?restq16014
          case hyq16014 => (intro u hu; (try dsimp only at hu); go_simp <;> with_reducible rfl)
          try simp only [Act.put, List.setIfInBounds_toArray, List.set_cons_zero, List.set_cons_succ]
          refine takeL (i := 3) (v := ?vq16015) rfl (by kernel_rfl) (by kernel_rfl) (by kernel_rfl) (fun _ _ _ h => h) (Or.inl ⟨by rfl, ?hyq16015⟩) (by assumption) ?restq16015
          case hyq16015 => (intro u hu; (try dsimp only at hu); go_simp <;> with_reducible rfl)
          try simp only [Act.put, List.setIfInBounds_toArray, List.set_cons_zero, List.set_cons_succ]
          refine takeL (i := 4) (v := ?vq16016) rfl (by kernel_rfl) (by kernel_rfl) (by kernel_rfl) (fun _ _ _ h => h) (Or.inl ⟨by rfl, ?hyq16016⟩) (by assumption) ?restq16016
          case hyq16016 => (intro u hu; (try dsimp only at hu); go_simp <;> with_reducible rfl)
          try simp only [Act.put, List.setIfInBounds_toArray, List.set_cons_zero, List.set_cons_succ]
          refine takeL (i := 5) (v := ?vq16017) rfl (by kernel_rfl) (by kernel_rfl) (by kernel_rfl) (fun _ _ _ h => h) (Or.inl ⟨by rfl, ?hyq16017⟩) (by assumption) ?restq16017
          case hyq16017 => (intro u hu; (try dsimp only at hu); go_simp <;> with_reducible rfl)
          try simp only [Act.put, List.setIfInBounds_toArray, List.set_cons_zero, List.set_cons_succ]
          refine takeL (i := 6) (v := ?vq16018) rfl (by kernel_rfl) (by kernel_rfl) (by kernel_rfl) (fun _ _ _ h => h) (Or.inl ⟨by rfl, ?hyq16018⟩) (by assumption) ?restq16018
          case hyq16018 => (intro u hu; (try dsimp only at hu); go_simp <;> with_reducible rfl)
          try simp only [Act.put, List.setIfInBounds_toArray, List.set_cons_zero, List.set_cons_succ]
          refine takeL (i := 7) (v := ?vq16019) rfl (by kernel_rfl) (by kernel_rfl) (by kernel_rfl) (fun _ _ _ h => h) (Or.inl ⟨by rfl, ?hyq16019⟩) (by assumption) ?restq16019
          case hyq16019 => (intro u hu; (try dsimp only at hu); go_simp <;> with_reducible rfl)
          try simp only [Act.put, List.setIfInBounds_toArray, List.set_cons_zero, List.set_cons_succ]
          refine oneL (i := 8) (by kernel_rfl) rfl (fun K hK => ?_)
          go_simp
          refine (hnamt _).mono ?_
          rintro e w1 ⟨rfl, rfl⟩
          dsimp only
          refine hK.out _ _ (by assumption) (fun hHeld => ?_)
          clear hK K
          try simp only [Act.put, List.setIfInBounds_toArray, List.set_cons_zero, List.set_cons_succ]
          refine takeL (i := 9) (v := ?vq16020) rfl (by kernel_rfl) (by kernel_rfl) (by kernel_rfl) (fun _ _ _ h => h) (Or.inl ⟨by rfl, ?hyq16020⟩) (by assumption) ?restq16020
          case hyq16020 => (intro u hu; (try dsimp only at hu); go_simp <;> with_reducible rfl)
          try simp only [Act.put, List.setIfInBounds_toArray, List.set_cons_zero, List.set_cons_succ]
          refine takeL (i := 10) (v := undef) rfl (by kernel_rfl) (by kernel_rfl) (by kernel_rfl) (fun _ _ _ h => h) (Or.inr ⟨by rfl, rfl⟩) (by assumption) ?_
          try simp only [Act.put, List.setIfInBounds_toArray, List.set_cons_zero, List.set_cons_succ]
          refine takeL (i := 11) (v := undef) rfl (by kernel_rfl) (by kernel_rfl) (by kernel_rfl) (fun _ _ _ h => h) (Or.inr ⟨by rfl, rfl⟩) (by assumption) ?_
          try simp only [Act.put, List.setIfInBounds_toArray, List.set_cons_zero, List.set_cons_succ]
          refine takeL (i := 12) (v := undef) rfl (by kernel_rfl) (by kernel_rfl) (by kernel_rfl) (fun _ _ _ h => h) (Or.inr ⟨by rfl, rfl⟩) (by assumption) ?_
          try simp only [Act.put, List.setIfInBounds_toArray, List.set_cons_zero, List.set_cons_succ]
          refine takeL (i := 13) (v := ?vq16021) rfl (by kernel_rfl) (by kernel_rfl) (by kernel_rfl) (fun _ _ _ h => h) (Or.inl ⟨by rfl, ?hyq16021⟩) (by assumption) ?restq16021
          case hyq16021 => (intro u hu; (try dsimp only at hu); go_simp <;> with_reducible rfl)
          try simp only [Act.put, List.setIfInBounds_toArray, List.set_cons_zero, List.set_cons_succ]
          refine takeL (i := 14) (v := ?vq16022) rfl (by kernel_rfl) (by kernel_rfl) (by kernel_rfl) (fun _ _ _ h => h) (Or.inl ⟨by rfl, ?hyq16022⟩) (by assumption) ?restq16022
          case hyq16022 => (intro u hu; (try dsimp only at hu); go_simp <;> with_reducible rfl)
          try simp only [Act.put, List.setIfInBounds_toArray, List.set_cons_zero, List.set_cons_succ]
          refine takeL (i := 15) (v := ?vq16023) rfl (by kernel_rfl) (by kernel_rfl) (by kernel_rfl) (fun _ _ _ h => h) (Or.inl ⟨by rfl, ?hyq16023⟩) (by assumption) ?restq16023
          case hyq16023 => (intro u hu; (try dsimp only at hu); go_simp <;> with_reducible rfl)
          try simp only [Act.put, List.setIfInBounds_toArray, List.set_cons_zero, List.set_cons_succ]
          refine wpAnyH_done (by kernel_rfl) ?_ _
          clear hS0 hHeld
          go_wp2
          go_returns
          exact ⟨⟨_, by rw [hf.out]; rfl, fun h => by rw [hf.out] at h; cases h⟩, hA.drew⟩
        · have hf : Hid (formB ⟨2, nm, tt, d⟩ = d.toList.isEmpty) := by show _ = _; simp [formB, hn, ht, em_is]
          rw [ht] at hnamt
          go_enter Try.func43, Try.ntmps43
          go_wp2_with (go_at_call 75; refine (hname _).mono ?_; rintro e w1 ⟨rfl, rfl⟩)
          generalize w.alloc (.cells #[.int .i64 2, .string nm, .string tt, .string d] 36) = W at *
          have hS0 : (fun u => u.cell? ⟨w.heap.size, 1, none⟩ = some (.string nm) ∧ u.cell? ⟨w.heap.size, 2, none⟩ = some (.string tt) ∧ u.cell? ⟨w.heap.size, 3, none⟩ = some (.string d)) W.drew := ⟨D.cell 1, D.cell 2, D.cell 3⟩
          refine wp_region_heldH (S := (fun u => u.cell? ⟨w.heap.size, 1, none⟩ = some (.string nm) ∧ u.cell? ⟨w.heap.size, 2, none⟩ = some (.string tt) ∧ u.cell? ⟨w.heap.size, 3, none⟩ = some (.string d))) 16 (by kernel_rfl) rfl ?_
          refine takeL (i := 0) (v := ?vq16024) rfl (by kernel_rfl) (by kernel_rfl) (by kernel_rfl) (fun _ _ _ h => h) (Or.inl ⟨by rfl, ?hyq16024⟩) (by assumption) ?restq16024
          case hyq16024 => (intro u hu; (try dsimp only at hu); go_simp <;> with_reducible rfl)
          try simp only [Act.put, List.setIfInBounds_toArray, List.set_cons_zero, List.set_cons_succ]
          refine takeL (i := 1) (v := ?vq16025) rfl (by kernel_rfl) (by kernel_rfl) (by kernel_rfl) (fun _ _ _ h => h) (Or.inl ⟨by rfl, ?hyq16025⟩) (by assumption) ?restq16025
          case hyq16025 => (intro u hu; (try dsimp only at hu); go_simp <;> with_reducible rfl)
          try simp only [Act.put, List.setIfInBounds_toArray, List.set_cons_zero, List.set_cons_succ]
          refine takeL (i := 2) (v := ?vq16026) rfl (by kernel_rfl) (by kernel_rfl) (by kernel_rfl) (fun _ _ _ h => h) (Or.inl ⟨by rfl, ?hyq16026⟩) (by assumption) ?restq16026
          case hyq16026 => (intro u hu; (try dsimp only at hu); go_simp <;> with_reducible rfl)
          try simp only [Act.put, List.setIfInBounds_toArray, List.set_cons_zero, List.set_cons_succ]
          refine takeL (i := 3) (v := ?vq16027) rfl (by kernel_rfl) (by kernel_rfl) (by kernel_rfl) (fun _ _ _ h => h) (Or.inl ⟨by rfl, ?hyq16027⟩) (by assumption) ?restq16027
          case hyq16027 => (intro u hu; (try dsimp only at hu); go_simp <;> with_reducible rfl)
          try simp only [Act.put, List.setIfInBounds_toArray, List.set_cons_zero, List.set_cons_succ]
          refine takeL (i := 4) (v := ?vq16028) rfl (by kernel_rfl) (by kernel_rfl) (by kernel_rfl) (fun _ _ _ h => h) (Or.inl ⟨by rfl, ?hyq16028⟩) (by assumption) ?restq16028
          case hyq16028 => (intro u hu; (try dsimp only at hu); go_simp <;> with_reducible rfl)
          try simp only [Act.put, List.setIfInBounds_toArray, List.set_cons_zero, List.set_cons_succ]
          refine takeL (i := 5) (v := ?vq16029) rfl (by kernel_rfl) (by kernel_rfl) (by kernel_rfl) (fun _ _ _ h => h) (Or.inl ⟨by rfl, ?hyq16029⟩) (by assumption) ?restq16029
          case hyq16029 => (intro u hu; (try dsimp only at hu); go_simp <;> with_reducible rfl)
          try simp only [Act.put, List.setIfInBounds_toArray, List.set_cons_zero, List.set_cons_succ]
          refine takeL (i := 6) (v := ?vq16030) rfl (by kernel_rfl) (by kernel_rfl) (by kernel_rfl) (fun _ _ _ h => h) (Or.inl ⟨by rfl, ?hyq16030⟩) (by assumption) ?restq16030
          case hyq16030 => (intro u hu; (try dsimp only at hu); go_simp <;> with_reducible rfl)
          try simp only [Act.put, List.setIfInBounds_toArray, List.set_cons_zero, List.set_cons_succ]
          refine takeL (i := 7) (v := ?vq16031) rfl (by kernel_rfl) (by kernel_rfl) (by kernel_rfl) (fun _ _ _ h => h) (Or.inl ⟨by rfl, ?hyq16031⟩) (by assumption) ?restq16031
          case hyq16031 => (intro u hu; (try dsimp only at hu); go_simp <;> with_reducible rfl)
          try simp only [Act.put, List.setIfInBounds_toArray, List.set_cons_zero, List.set_cons_succ]
          refine oneL (i := 8) (by kernel_rfl) rfl (fun K hK => ?_)
          go_simp
          refine (hnamt _).mono ?_
          rintro e w1 ⟨rfl, rfl⟩
          dsimp only
          refine hK.out _ _ (by assumption) (fun hHeld => ?_)
          clear hK K
          try simp only [Act.put, List.setIfInBounds_toArray, List.set_cons_zero, List.set_cons_succ]
          refine takeL (i := 9) (v := ?vq16032) rfl (by kernel_rfl) (by kernel_rfl) (by kernel_rfl) (fun _ _ _ h => h) (Or.inl ⟨by rfl, ?hyq16032⟩) (by assumption) ?restq16032
          case hyq16032 => (intro u hu; (try dsimp only at hu); go_simp <;> with_reducible rfl)
          try simp only [Act.put, List.setIfInBounds_toArray, List.set_cons_zero, List.set_cons_succ]
          refine takeL (i := 10) (v := ?vq16033) rfl (by kernel_rfl) (by kernel_rfl) (by kernel_rfl) (fun _ _ _ h => h) (Or.inl ⟨by rfl, ?hyq16033⟩) (by assumption) ?restq16033
          case hyq16033 => (intro u hu; (try dsimp only at hu); go_simp <;> with_reducible rfl)
          try simp only [Act.put, List.setIfInBounds_toArray, List.set_cons_zero, List.set_cons_succ]
          refine takeL (i := 11) (v := ?vq16034) rfl (by kernel_rfl) (by kernel_rfl) (by kernel_rfl) (fun _ _ _ h => h) (Or.inl ⟨by rfl, ?hyq16034⟩) (by assumption) ?restq16034
          case hyq16034 => (intro u hu; (try dsimp only at hu); go_simp <;> with_reducible rfl)
          try simp only [Act.put, List.setIfInBounds_toArray, List.set_cons_zero, List.set_cons_succ]
          refine takeL (i := 12) (v := ?vq16035) rfl (by kernel_rfl) (by kernel_rfl) (by kernel_rfl) (fun _ _ _ h => h) (Or.inl ⟨by rfl, ?hyq16035⟩) (by assumption) ?restq16035
          case hyq16035 => (intro u hu; (try dsimp only at hu); go_simp <;> with_reducible rfl)
          try simp only [Act.put, List.setIfInBounds_toArray, List.set_cons_zero, List.set_cons_succ]
          refine takeL (i := 13) (v := ?vq16036) rfl (by kernel_rfl) (by kernel_rfl) (by kernel_rfl) (fun _ _ _ h => h) (Or.inl ⟨by rfl, ?hyq16036⟩) (by assumption) ?restq16036
          case hyq16036 => (intro u hu; (try dsimp only at hu); go_simp <;> with_reducible rfl)
          try simp only [Act.put, List.setIfInBounds_toArray, List.set_cons_zero, List.set_cons_succ]
          refine takeL (i := 14) (v := ?vq16037) rfl (by kernel_rfl) (by kernel_rfl) (by kernel_rfl) (fun _ _ _ h => h) (Or.inl ⟨by rfl, ?hyq16037⟩) (by assumption) ?restq16037
          case hyq16037 => (intro u hu; (try dsimp only at hu); go_simp <;> with_reducible rfl)
          try simp only [Act.put, List.setIfInBounds_toArray, List.set_cons_zero, List.set_cons_succ]
          refine takeL (i := 15) (v := ?vq16038) rfl (by kernel_rfl) (by kernel_rfl) (by kernel_rfl) (fun _ _ _ h => h) (Or.inl ⟨by rfl, ?hyq16038⟩) (by assumption) ?restq16038
          case hyq16038 => (intro u hu; (try dsimp only at hu); go_simp <;> with_reducible rfl)
          try simp only [Act.put, List.setIfInBounds_toArray, List.set_cons_zero, List.set_cons_succ]
          refine wpAnyH_done (by kernel_rfl) ?_ _
          clear hS0 hHeld
          go_wp2
          go_returns
          exact ⟨⟨_, by rw [hf.out]; rfl, fun _ => rfl⟩, hA.drew⟩
      · by_cases hk3 : k = 3
        · subst hk3
          cases ht : emB tt
          · have hf : Hid (formB ⟨3, nm, tt, d⟩ = false) := by show _ = _; simp [formB, hn, ht]; try rw [em_is]
            have hq : tt.toList.isEmpty = false := by rw [← em_is]; exact ht
            have hq2 : ¬ tt.toList = (⟨#[]⟩ : ByteArray).toList := by simpa [emB] using ht
            go_enter Try.func43, Try.ntmps43
            go_wp2_with (go_at_call 75; refine (hname _).mono ?_; rintro e w1 ⟨rfl, rfl⟩)
            generalize w.alloc (.cells #[.int .i64 3, .string nm, .string tt, .string d] 36) = W at *
            have hS0 : (fun u => u.cell? ⟨w.heap.size, 1, none⟩ = some (.string nm) ∧ u.cell? ⟨w.heap.size, 2, none⟩ = some (.string tt) ∧ u.cell? ⟨w.heap.size, 3, none⟩ = some (.string d)) W.drew := ⟨D.cell 1, D.cell 2, D.cell 3⟩
            refine wp_region_heldH (S := (fun u => u.cell? ⟨w.heap.size, 1, none⟩ = some (.string nm) ∧ u.cell? ⟨w.heap.size, 2, none⟩ = some (.string tt) ∧ u.cell? ⟨w.heap.size, 3, none⟩ = some (.string d))) 14 (by kernel_rfl) rfl ?_
            refine takeL (i := 0) (v := ?vq16039) rfl (by kernel_rfl) (by kernel_rfl) (by kernel_rfl) (fun _ _ _ h => h) (Or.inl ⟨by rfl, ?hyq16039⟩) (by assumption) ?restq16039
            case hyq16039 => (intro u hu; (try dsimp only at hu); go_simp <;> with_reducible rfl)
            try simp only [Act.put, List.setIfInBounds_toArray, List.set_cons_zero, List.set_cons_succ]
            refine takeL (i := 1) (v := ?vq16040) rfl (by kernel_rfl) (by kernel_rfl) (by kernel_rfl) (fun _ _ _ h => h) (Or.inl ⟨by rfl, ?hyq16040⟩) (by assumption) ?restq16040
            case hyq16040 => (intro u hu; (try dsimp only at hu); go_simp <;> with_reducible rfl)
            try simp only [Act.put, List.setIfInBounds_toArray, List.set_cons_zero, List.set_cons_succ]
            refine takeL (i := 2) (v := ?vq16041) rfl (by kernel_rfl) (by kernel_rfl) (by kernel_rfl) (fun _ _ _ h => h) (Or.inl ⟨by rfl, ?hyq16041⟩) (by assumption) ?restq16041
            case hyq16041 => (intro u hu; (try dsimp only at hu); go_simp <;> with_reducible rfl)
            try simp only [Act.put, List.setIfInBounds_toArray, List.set_cons_zero, List.set_cons_succ]
            refine takeL (i := 3) (v := ?vq16042) rfl (by kernel_rfl) (by kernel_rfl) (by kernel_rfl) (fun _ _ _ h => h) (Or.inl ⟨by rfl, ?hyq16042⟩) (by assumption) ?restq16042
            case hyq16042 => (intro u hu; (try dsimp only at hu); go_simp <;> with_reducible rfl)
            try simp only [Act.put, List.setIfInBounds_toArray, List.set_cons_zero, List.set_cons_succ]
            refine takeL (i := 4) (v := ?vq16043) rfl (by kernel_rfl) (by kernel_rfl) (by kernel_rfl) (fun _ _ _ h => h) (Or.inl ⟨by rfl, ?hyq16043⟩) (by assumption) ?restq16043
            case hyq16043 => (intro u hu; (try dsimp only at hu); go_simp <;> with_reducible rfl)
            try simp only [Act.put, List.setIfInBounds_toArray, List.set_cons_zero, List.set_cons_succ]
            refine takeL (i := 5) (v := ?vq16044) rfl (by kernel_rfl) (by kernel_rfl) (by kernel_rfl) (fun _ _ _ h => h) (Or.inl ⟨by rfl, ?hyq16044⟩) (by assumption) ?restq16044
            case hyq16044 => (intro u hu; (try dsimp only at hu); go_simp <;> with_reducible rfl)
            try simp only [Act.put, List.setIfInBounds_toArray, List.set_cons_zero, List.set_cons_succ]
            refine takeL (i := 6) (v := ?vq16045) rfl (by kernel_rfl) (by kernel_rfl) (by kernel_rfl) (fun _ _ _ h => h) (Or.inl ⟨by rfl, ?hyq16045⟩) (by assumption) ?restq16045
            case hyq16045 => (intro u hu; (try dsimp only at hu); go_simp <;> with_reducible rfl)
            try simp only [Act.put, List.setIfInBounds_toArray, List.set_cons_zero, List.set_cons_succ]
            refine takeL (i := 7) (v := ?vq16046) rfl (by kernel_rfl) (by kernel_rfl) (by kernel_rfl) (fun _ _ _ h => h) (Or.inl ⟨by rfl, ?hyq16046⟩) (by assumption) ?restq16046
            case hyq16046 => (intro u hu; (try dsimp only at hu); go_simp <;> with_reducible rfl)
            try simp only [Act.put, List.setIfInBounds_toArray, List.set_cons_zero, List.set_cons_succ]
            refine takeL (i := 8) (v := undef) rfl (by kernel_rfl) (by kernel_rfl) (by kernel_rfl) (fun _ _ _ h => h) (Or.inr ⟨by rfl, rfl⟩) (by assumption) ?_
            try simp only [Act.put, List.setIfInBounds_toArray, List.set_cons_zero, List.set_cons_succ]
            refine takeL (i := 9) (v := undef) rfl (by kernel_rfl) (by kernel_rfl) (by kernel_rfl) (fun _ _ _ h => h) (Or.inr ⟨by rfl, rfl⟩) (by assumption) ?_
            try simp only [Act.put, List.setIfInBounds_toArray, List.set_cons_zero, List.set_cons_succ]
            refine takeL (i := 10) (v := undef) rfl (by kernel_rfl) (by kernel_rfl) (by kernel_rfl) (fun _ _ _ h => h) (Or.inr ⟨by rfl, rfl⟩) (by assumption) ?_
            try simp only [Act.put, List.setIfInBounds_toArray, List.set_cons_zero, List.set_cons_succ]
            refine takeL (i := 11) (v := ?vq16047) rfl (by kernel_rfl) (by kernel_rfl) (by kernel_rfl) (fun _ _ _ h => h) (Or.inl ⟨by rfl, ?hyq16047⟩) (by assumption) ?restq16047
            case hyq16047 => (intro u hu; (try dsimp only at hu); go_simp <;> with_reducible rfl)
            try simp only [Act.put, List.setIfInBounds_toArray, List.set_cons_zero, List.set_cons_succ]
            refine takeL (i := 12) (v := ?vq16048) rfl (by kernel_rfl) (by kernel_rfl) (by kernel_rfl) (fun _ _ _ h => h) (Or.inl ⟨by rfl, ?hyq16048⟩) (by assumption) ?restq16048
            case hyq16048 => (intro u hu; (try dsimp only at hu); go_simp <;> with_reducible rfl)
            try simp only [Act.put, List.setIfInBounds_toArray, List.set_cons_zero, List.set_cons_succ]
            refine takeL (i := 13) (v := ?vq16049) rfl (by kernel_rfl) (by kernel_rfl) (by kernel_rfl) (fun _ _ _ h => h) (Or.inl ⟨by rfl, ?hyq16049⟩) (by assumption) ?restq16049
            case hyq16049 => (intro u hu; (try dsimp only at hu); go_simp <;> with_reducible rfl)
            try simp only [Act.put, List.setIfInBounds_toArray, List.set_cons_zero, List.set_cons_succ]
            refine wpAnyH_done (by kernel_rfl) ?_ _
            clear hS0
            go_wp2
            go_returns
            exact ⟨⟨_, by rw [hf.out]; rfl, fun h => by rw [hf.out] at h; cases h⟩, hA.drew⟩
          · have hf : Hid (formB ⟨3, nm, tt, d⟩ = d.toList.isEmpty) := by show _ = _; simp [formB, hn, ht]; try rw [em_is]
            have hq : tt.toList.isEmpty = true := by rw [← em_is]; exact ht
            have hq2 : tt.toList = (⟨#[]⟩ : ByteArray).toList := by simpa [emB] using ht
            go_enter Try.func43, Try.ntmps43
            go_wp2_with (go_at_call 75; refine (hname _).mono ?_; rintro e w1 ⟨rfl, rfl⟩)
            generalize w.alloc (.cells #[.int .i64 3, .string nm, .string tt, .string d] 36) = W at *
            have hS0 : (fun u => u.cell? ⟨w.heap.size, 1, none⟩ = some (.string nm) ∧ u.cell? ⟨w.heap.size, 2, none⟩ = some (.string tt) ∧ u.cell? ⟨w.heap.size, 3, none⟩ = some (.string d)) W.drew := ⟨D.cell 1, D.cell 2, D.cell 3⟩
            refine wp_region_heldH (S := (fun u => u.cell? ⟨w.heap.size, 1, none⟩ = some (.string nm) ∧ u.cell? ⟨w.heap.size, 2, none⟩ = some (.string tt) ∧ u.cell? ⟨w.heap.size, 3, none⟩ = some (.string d))) 14 (by kernel_rfl) rfl ?_
            refine takeL (i := 0) (v := ?vq16050) rfl (by kernel_rfl) (by kernel_rfl) (by kernel_rfl) (fun _ _ _ h => h) (Or.inl ⟨by rfl, ?hyq16050⟩) (by assumption) ?restq16050
            case hyq16050 => (intro u hu; (try dsimp only at hu); go_simp <;> with_reducible rfl)
            try simp only [Act.put, List.setIfInBounds_toArray, List.set_cons_zero, List.set_cons_succ]
            refine takeL (i := 1) (v := ?vq16051) rfl (by kernel_rfl) (by kernel_rfl) (by kernel_rfl) (fun _ _ _ h => h) (Or.inl ⟨by rfl, ?hyq16051⟩) (by assumption) ?restq16051
            case hyq16051 => (intro u hu; (try dsimp only at hu); go_simp <;> with_reducible rfl)
            try simp only [Act.put, List.setIfInBounds_toArray, List.set_cons_zero, List.set_cons_succ]
            refine takeL (i := 2) (v := ?vq16052) rfl (by kernel_rfl) (by kernel_rfl) (by kernel_rfl) (fun _ _ _ h => h) (Or.inl ⟨by rfl, ?hyq16052⟩) (by assumption) ?restq16052
            case hyq16052 => (intro u hu; (try dsimp only at hu); go_simp <;> with_reducible rfl)
            try simp only [Act.put, List.setIfInBounds_toArray, List.set_cons_zero, List.set_cons_succ]
            refine takeL (i := 3) (v := ?vq16053) rfl (by kernel_rfl) (by kernel_rfl) (by kernel_rfl) (fun _ _ _ h => h) (Or.inl ⟨by rfl, ?hyq16053⟩) (by assumption) ?restq16053
            case hyq16053 => (intro u hu; (try dsimp only at hu); go_simp <;> with_reducible rfl)
            try simp only [Act.put, List.setIfInBounds_toArray, List.set_cons_zero, List.set_cons_succ]
            refine takeL (i := 4) (v := ?vq16054) rfl (by kernel_rfl) (by kernel_rfl) (by kernel_rfl) (fun _ _ _ h => h) (Or.inl ⟨by rfl, ?hyq16054⟩) (by assumption) ?restq16054
            case hyq16054 => (intro u hu; (try dsimp only at hu); go_simp <;> with_reducible rfl)
            try simp only [Act.put, List.setIfInBounds_toArray, List.set_cons_zero, List.set_cons_succ]
            refine takeL (i := 5) (v := ?vq16055) rfl (by kernel_rfl) (by kernel_rfl) (by kernel_rfl) (fun _ _ _ h => h) (Or.inl ⟨by rfl, ?hyq16055⟩) (by assumption) ?restq16055
            case hyq16055 => (intro u hu; (try dsimp only at hu); go_simp <;> with_reducible rfl)
            try simp only [Act.put, List.setIfInBounds_toArray, List.set_cons_zero, List.set_cons_succ]
            refine takeL (i := 6) (v := ?vq16056) rfl (by kernel_rfl) (by kernel_rfl) (by kernel_rfl) (fun _ _ _ h => h) (Or.inl ⟨by rfl, ?hyq16056⟩) (by assumption) ?restq16056
            case hyq16056 => (intro u hu; (try dsimp only at hu); go_simp <;> with_reducible rfl)
            try simp only [Act.put, List.setIfInBounds_toArray, List.set_cons_zero, List.set_cons_succ]
            refine takeL (i := 7) (v := ?vq16057) rfl (by kernel_rfl) (by kernel_rfl) (by kernel_rfl) (fun _ _ _ h => h) (Or.inl ⟨by rfl, ?hyq16057⟩) (by assumption) ?restq16057
            case hyq16057 => (intro u hu; (try dsimp only at hu); go_simp <;> with_reducible rfl)
            try simp only [Act.put, List.setIfInBounds_toArray, List.set_cons_zero, List.set_cons_succ]
            refine takeL (i := 8) (v := ?vq16058) rfl (by kernel_rfl) (by kernel_rfl) (by kernel_rfl) (fun _ _ _ h => h) (Or.inl ⟨by rfl, ?hyq16058⟩) (by assumption) ?restq16058
            case hyq16058 => (intro u hu; (try dsimp only at hu); go_simp <;> with_reducible rfl)
            try simp only [Act.put, List.setIfInBounds_toArray, List.set_cons_zero, List.set_cons_succ]
            refine takeL (i := 9) (v := ?vq16059) rfl (by kernel_rfl) (by kernel_rfl) (by kernel_rfl) (fun _ _ _ h => h) (Or.inl ⟨by rfl, ?hyq16059⟩) (by assumption) ?restq16059
            case hyq16059 => (intro u hu; (try dsimp only at hu); go_simp <;> with_reducible rfl)
            try simp only [Act.put, List.setIfInBounds_toArray, List.set_cons_zero, List.set_cons_succ]
            refine takeL (i := 10) (v := ?vq16060) rfl (by kernel_rfl) (by kernel_rfl) (by kernel_rfl) (fun _ _ _ h => h) (Or.inl ⟨by rfl, ?hyq16060⟩) (by assumption) ?restq16060
            case hyq16060 => (intro u hu; (try dsimp only at hu); go_simp <;> with_reducible rfl)
            try simp only [Act.put, List.setIfInBounds_toArray, List.set_cons_zero, List.set_cons_succ]
            refine takeL (i := 11) (v := ?vq16061) rfl (by kernel_rfl) (by kernel_rfl) (by kernel_rfl) (fun _ _ _ h => h) (Or.inl ⟨by rfl, ?hyq16061⟩) (by assumption) ?restq16061
            case hyq16061 => (intro u hu; (try dsimp only at hu); go_simp <;> with_reducible rfl)
            try simp only [Act.put, List.setIfInBounds_toArray, List.set_cons_zero, List.set_cons_succ]
            refine takeL (i := 12) (v := ?vq16062) rfl (by kernel_rfl) (by kernel_rfl) (by kernel_rfl) (fun _ _ _ h => h) (Or.inl ⟨by rfl, ?hyq16062⟩) (by assumption) ?restq16062
            case hyq16062 => (intro u hu; (try dsimp only at hu); go_simp <;> with_reducible rfl)
            try simp only [Act.put, List.setIfInBounds_toArray, List.set_cons_zero, List.set_cons_succ]
            refine takeL (i := 13) (v := ?vq16063) rfl (by kernel_rfl) (by kernel_rfl) (by kernel_rfl) (fun _ _ _ h => h) (Or.inl ⟨by rfl, ?hyq16063⟩) (by assumption) ?restq16063
            case hyq16063 => (intro u hu; (try dsimp only at hu); go_simp <;> with_reducible rfl)
            try simp only [Act.put, List.setIfInBounds_toArray, List.set_cons_zero, List.set_cons_succ]
            refine wpAnyH_done (by kernel_rfl) ?_ _
            clear hS0
            go_wp2
            go_returns
            exact ⟨⟨_, by rw [hf.out]; rfl, fun _ => rfl⟩, hA.drew⟩
        · have hf : Hid (formB ⟨k, nm, tt, d⟩ = false) := by
            show _ = _
            have : ¬ (1 ≤ k ∧ k ≤ 3) := by omega
            simp only [formB]
            by_cases h1 : 1 ≤ k
            · have h3 : ¬ k ≤ 3 := by omega
              simp [h3]
            · simp [h1]
          go_enter Try.func43, Try.ntmps43
          go_wp2_with (go_at_call 75; refine (hname _).mono ?_; rintro e w1 ⟨rfl, rfl⟩)
          go_returns
          exact ⟨⟨_, by rw [hf.out]; rfl, fun h => by rw [hf.out] at h; cases h⟩, hA⟩
end Go.Proofs.Ytpobgjkmcmkkeaa
namespace Go.Proofs.Ytpobgjkmcmkkeaa
open Go Go.RowKit Go.BigFrame

theorem impl_remove_none (B sb : Nat) (a : Option Addr) (n cap : Nat) (rows : List Hr) (l : List Hy) (s : ByteArray) (w : World) (hS : Blk w sb #[.slice a n cap] 72) (R : ResAt hrs 2 111 w B a n cap rows) (T : HsT B w rows l) (hs : SrtH l) (hn : n ≤ 4194304) (hh : hasH l s = false) :
    Calls Try.prog 136 #[.agg #[.string s], .pointer (some ⟨sb, 0, none⟩)] w fun e w' => e = .returned (.bool false) ∧ Below w.heap.size w w' := by
  have hA : Below w.heap.size w (w.alloc (.cells #[.string s] 117)) := (Below.refl _ _).alloc (Nat.le_refl _) _
  have hc := impl_has B sb a n cap rows l s _ (hS.below hA) (R.below hA) (T.below hA) hs hn
  rw [hh] at hc
  clear hS R T hs hh
  go_enter Try.func136, Try.ntmps136
  go_wp2_with (go_at_call 135; refine hc.mono ?_; rintro e w1 ⟨rfl, hB1⟩)
  go_returns
  exact ⟨rfl, chain hA hB1⟩

theorem Lifted.from {B B0 sb : Nat} {a : Option Addr} {n cap p : Nat} {rows : List Hr} {l : List Hy} {r : Hr} {y : Hy} {w0 w w' : World} (h : Lifted B B0 sb a n cap p rows l r y w w') (hb : Below w0.heap.size w0 w) (h0 : B0 ≤ w0.heap.size) : Lifted B B0 sb a n cap p rows l r y w0 w' :=
  ⟨h.sh, h.res, h.its, h.one, (hb.mono h0).trans h.low, h.fr.from hb⟩

theorem impl_remove_some (B B0 sb : Nat) (a : Option Addr) (n cap : Nat) (rows : List Hr) (l : List Hy) (s : ByteArray) (w : World) (hS : Blk w sb #[.slice a n cap] 72) (R : ResAt hrs 2 111 w B a n cap rows) (T : HsT B w rows l) (hs : SrtH l) (hn : n ≤ 4194304) (hh : hasH l s = true) (h0 : B0 ≤ B) (h1 : B0 ≤ sb) :
    Calls Try.prog 136 #[.agg #[.string s], .pointer (some ⟨sb, 0, none⟩)] w fun e w' => e = .returned (.bool true) ∧ ∃ r y, Lifted B B0 sb a n cap (plH l s) rows l r y w w' := by
  have hA : Below w.heap.size w (w.alloc (.cells #[.string s] 117)) := (Below.refl _ _).alloc (Nat.le_refl _) _
  have D := Blk.new w #[.string s] 117
  have hsb := hS.lt
  have hc := impl_has B sb a n cap rows l s _ (hS.below hA) (R.below hA) (T.below hA) hs hn
  have hl := fun u (hu : Below w.heap.size w u) => impl_lift_some B B0 sb a n cap rows l s u (hS.below hu) (R.below hu) (T.below hu) hs hn hh h0 h1
  rw [hh] at hc
  clear hS R T hs hh
  generalize plH l s = p at *
  go_enter Try.func136, Try.ntmps136
  go_wp2_with fail
  refine hc.mono ?_
  rintro e w1 ⟨rfl, hB1⟩
  have hB2 := chain hA hB1
  have d0 := (D.below hB1).one
  clear hc D hA hB1
  go_wp2_with fail
  refine (hl w1 hB2).mono ?_
  rintro e w2 ⟨r, y, _, _, _, rfl, L⟩
  have L2 := L.from hB2 (by omega)
  clear L hl
  go_wp2
  go_returns
  exact ⟨rfl, r, y, L2⟩
end Go.Proofs.Ytpobgjkmcmkkeaa
