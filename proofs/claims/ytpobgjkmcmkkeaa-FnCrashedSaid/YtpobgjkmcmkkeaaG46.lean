/- Files held against files, by the drawn laws (the model's own text under another name). -/
import Derived.Test.YtpobgjkmcmkkeaaG04
namespace Go.Proofs.Ytpobgjkmcmkkeaa
open Go Go.RowKit Go.BigFrame

set_option maxHeartbeats 1000000 in
theorem laws_sameFiles (a : Option Addr) (n cap : Nat) (l : List Fl) (a' : Option Addr) (n' cap' : Nat) (m : List Fl) (w : World) (h : FlsAt w a n l) (h' : FlsAt w a' n' m) (hn : n ≤ 4194304) (hn' : n' ≤ 4194304) :
    Calls Try.prog 18 #[.slice a n cap, .slice a' n' cap'] w fun e w' => e = .returned (.bool (eqFls l m)) ∧ Below w.heap.size w w' := by
  have hlen : Hid (l.length = n) := h.len
  have hlen' : Hid (m.length = n') := h'.len
  by_cases hne : n = n'
  · subst hne
    have hbn : ((n : Int) != (n : Int)) = false := by simp
    go_enter Try.func18, Try.ntmps18
    go_wp2_with fail
    go_loopw [5] (fun ix wr => ∃ (k : Nat), k ≤ n ∧ ix = .int .i64 k ∧ Hid (eqFls l m = eqFls (l.drop k) (m.drop k)) ∧ Below w.heap.size w wr) (fun ix _ => n - (intOf ix).toNat)
    case atStart => exact ⟨0, Nat.zero_le _, rfl, rfl, Below.refl _ _⟩
    case round =>
      obtain ⟨k, hk, rfl, hI, hB⟩ := hrel
      by_cases hlt : k < n
      · obtain ⟨b, o, p, rfl, hp, c0, c1⟩ := fl_at (h.below hB) hlt
        obtain ⟨b', o', q, rfl, hq, d0, d1⟩ := fl_at (h'.below hB) hlt
        have hd : Hid (l.drop k = p :: l.drop (k + 1)) := drop_at hp
        have hd' : Hid (m.drop k = q :: m.drop (k + 1)) := drop_at hq
        clear hp hq
        have hk1 : (k : Int) < n := by omega
        have hk2 : (0 : Int) ≤ k := by omega
        have hpq : eqFl p q = (p.nm.toList == q.nm.toList && p.d.toList == q.d.toList) := rfl
        by_cases e1 : p.nm.toList = q.nm.toList
        · by_cases e2 : p.d.toList = q.d.toList
          · replace hpq : eqFl p q = true := by rw [hpq]; simp [e1, e2]
            have hS0 : (fun u => u.cell? ⟨b, o + k * 2, none⟩ = some (.string p.nm) ∧ u.cell? ⟨b, o + k * 2 + 1, none⟩ = some (.string p.d) ∧ u.cell? ⟨b', o' + k * 2, none⟩ = some (.string q.nm) ∧ u.cell? ⟨b', o' + k * 2 + 1, none⟩ = some (.string q.d)) wr.drew := ⟨c0, c1, d0, d1⟩
            go_wp2_with fail
            refine wp_region_heldH (S := (fun u => u.cell? ⟨b, o + k * 2, none⟩ = some (.string p.nm) ∧ u.cell? ⟨b, o + k * 2 + 1, none⟩ = some (.string p.d) ∧ u.cell? ⟨b', o' + k * 2, none⟩ = some (.string q.nm) ∧ u.cell? ⟨b', o' + k * 2 + 1, none⟩ = some (.string q.d))) 9 (by kernel_rfl) rfl ?_
            refine takeL (i := 0) (v := ?vq10001) rfl (by kernel_rfl) (by kernel_rfl) (by kernel_rfl) (fun _ _ _ h => h) (Or.inl ⟨by rfl, ?hyq10001⟩) (by assumption) ?restq10001
            case hyq10001 => (intro u hu; (try dsimp only at hu); go_simp <;> with_reducible rfl)
            try simp only [Act.put, List.setIfInBounds_toArray, List.set_cons_zero, List.set_cons_succ]
            refine takeL (i := 1) (v := ?vq10002) rfl (by kernel_rfl) (by kernel_rfl) (by kernel_rfl) (fun _ _ _ h => h) (Or.inl ⟨by rfl, ?hyq10002⟩) (by assumption) ?restq10002
            case hyq10002 => (intro u hu; (try dsimp only at hu); go_simp <;> with_reducible rfl)
            try simp only [Act.put, List.setIfInBounds_toArray, List.set_cons_zero, List.set_cons_succ]
            refine takeL (i := 2) (v := ?vq10003) rfl (by kernel_rfl) (by kernel_rfl) (by kernel_rfl) (fun _ _ _ h => h) (Or.inl ⟨by rfl, ?hyq10003⟩) (by assumption) ?restq10003
            case hyq10003 => (intro u hu; (try dsimp only at hu); go_simp <;> with_reducible rfl)
            try simp only [Act.put, List.setIfInBounds_toArray, List.set_cons_zero, List.set_cons_succ]
            refine takeL (i := 3) (v := ?vq10004) rfl (by kernel_rfl) (by kernel_rfl) (by kernel_rfl) (fun _ _ _ h => h) (Or.inl ⟨by rfl, ?hyq10004⟩) (by assumption) ?restq10004
            case hyq10004 => (intro u hu; (try dsimp only at hu); go_simp <;> with_reducible rfl)
            try simp only [Act.put, List.setIfInBounds_toArray, List.set_cons_zero, List.set_cons_succ]
            refine takeL (i := 4) (v := ?vq10005) rfl (by kernel_rfl) (by kernel_rfl) (by kernel_rfl) (fun _ _ _ h => h) (Or.inl ⟨by rfl, ?hyq10005⟩) (by assumption) ?restq10005
            case hyq10005 => (intro u hu; (try dsimp only at hu); go_simp <;> with_reducible rfl)
            try simp only [Act.put, List.setIfInBounds_toArray, List.set_cons_zero, List.set_cons_succ]
            refine takeL (i := 5) (v := ?vq10006) rfl (by kernel_rfl) (by kernel_rfl) (by kernel_rfl) (fun _ _ _ h => h) (Or.inl ⟨by rfl, ?hyq10006⟩) (by assumption) ?restq10006
            case hyq10006 => (intro u hu; (try dsimp only at hu); go_simp <;> with_reducible rfl)
            try simp only [Act.put, List.setIfInBounds_toArray, List.set_cons_zero, List.set_cons_succ]
            refine takeL (i := 6) (v := ?vq10007) rfl (by kernel_rfl) (by kernel_rfl) (by kernel_rfl) (fun _ _ _ h => h) (Or.inl ⟨by rfl, ?hyq10007⟩) (by assumption) ?restq10007
            case hyq10007 => (intro u hu; (try dsimp only at hu); go_simp <;> with_reducible rfl)
            try simp only [Act.put, List.setIfInBounds_toArray, List.set_cons_zero, List.set_cons_succ]
            refine takeL (i := 7) (v := ?vq10008) rfl (by kernel_rfl) (by kernel_rfl) (by kernel_rfl) (fun _ _ _ h => h) (Or.inl ⟨by rfl, ?hyq10008⟩) (by assumption) ?restq10008
            case hyq10008 => (intro u hu; (try dsimp only at hu); go_simp <;> with_reducible rfl)
            try simp only [Act.put, List.setIfInBounds_toArray, List.set_cons_zero, List.set_cons_succ]
            refine takeL (i := 8) (v := ?vq10009) rfl (by kernel_rfl) (by kernel_rfl) (by kernel_rfl) (fun _ _ _ h => h) (Or.inl ⟨by rfl, ?hyq10009⟩) (by assumption) ?restq10009
            case hyq10009 => (intro u hu; (try dsimp only at hu); go_simp <;> with_reducible rfl)
            try simp only [Act.put, List.setIfInBounds_toArray, List.set_cons_zero, List.set_cons_succ]
            refine wpAnyH_done (by kernel_rfl) ?_ _
            clear hS0
            go_wp2
            go_roundw
            case rel => exact ⟨k + 1, by omega, by go_num, by show _ = _; rw [hI.out, hd.out, hd'.out]; simp only [eqFls, hpq, Bool.true_and], chain hB ((Below.refl _ _).drew)⟩
            case measure => simp [intOf]; omega
          · replace hpq : eqFl p q = false := by rw [hpq]; simp [e2]
            have hS0 : (fun u => u.cell? ⟨b, o + k * 2, none⟩ = some (.string p.nm) ∧ u.cell? ⟨b, o + k * 2 + 1, none⟩ = some (.string p.d) ∧ u.cell? ⟨b', o' + k * 2, none⟩ = some (.string q.nm) ∧ u.cell? ⟨b', o' + k * 2 + 1, none⟩ = some (.string q.d)) wr.drew := ⟨c0, c1, d0, d1⟩
            go_wp2_with fail
            refine wp_region_heldH (S := (fun u => u.cell? ⟨b, o + k * 2, none⟩ = some (.string p.nm) ∧ u.cell? ⟨b, o + k * 2 + 1, none⟩ = some (.string p.d) ∧ u.cell? ⟨b', o' + k * 2, none⟩ = some (.string q.nm) ∧ u.cell? ⟨b', o' + k * 2 + 1, none⟩ = some (.string q.d))) 9 (by kernel_rfl) rfl ?_
            refine takeL (i := 0) (v := ?vq10010) rfl (by kernel_rfl) (by kernel_rfl) (by kernel_rfl) (fun _ _ _ h => h) (Or.inl ⟨by rfl, ?hyq10010⟩) (by assumption) ?restq10010
            case hyq10010 => (intro u hu; (try dsimp only at hu); go_simp <;> with_reducible rfl)
            try simp only [Act.put, List.setIfInBounds_toArray, List.set_cons_zero, List.set_cons_succ]
            refine takeL (i := 1) (v := ?vq10011) rfl (by kernel_rfl) (by kernel_rfl) (by kernel_rfl) (fun _ _ _ h => h) (Or.inl ⟨by rfl, ?hyq10011⟩) (by assumption) ?restq10011
            case hyq10011 => (intro u hu; (try dsimp only at hu); go_simp <;> with_reducible rfl)
            try simp only [Act.put, List.setIfInBounds_toArray, List.set_cons_zero, List.set_cons_succ]
            refine takeL (i := 2) (v := ?vq10012) rfl (by kernel_rfl) (by kernel_rfl) (by kernel_rfl) (fun _ _ _ h => h) (Or.inl ⟨by rfl, ?hyq10012⟩) (by assumption) ?restq10012
            case hyq10012 => (intro u hu; (try dsimp only at hu); go_simp <;> with_reducible rfl)
            try simp only [Act.put, List.setIfInBounds_toArray, List.set_cons_zero, List.set_cons_succ]
            refine takeL (i := 3) (v := ?vq10013) rfl (by kernel_rfl) (by kernel_rfl) (by kernel_rfl) (fun _ _ _ h => h) (Or.inl ⟨by rfl, ?hyq10013⟩) (by assumption) ?restq10013
            case hyq10013 => (intro u hu; (try dsimp only at hu); go_simp <;> with_reducible rfl)
            try simp only [Act.put, List.setIfInBounds_toArray, List.set_cons_zero, List.set_cons_succ]
            refine takeL (i := 4) (v := ?vq10014) rfl (by kernel_rfl) (by kernel_rfl) (by kernel_rfl) (fun _ _ _ h => h) (Or.inl ⟨by rfl, ?hyq10014⟩) (by assumption) ?restq10014
            case hyq10014 => (intro u hu; (try dsimp only at hu); go_simp <;> with_reducible rfl)
            try simp only [Act.put, List.setIfInBounds_toArray, List.set_cons_zero, List.set_cons_succ]
            refine takeL (i := 5) (v := ?vq10015) rfl (by kernel_rfl) (by kernel_rfl) (by kernel_rfl) (fun _ _ _ h => h) (Or.inl ⟨by rfl, ?hyq10015⟩) (by assumption) ?restq10015
            case hyq10015 => (intro u hu; (try dsimp only at hu); go_simp <;> with_reducible rfl)
            try simp only [Act.put, List.setIfInBounds_toArray, List.set_cons_zero, List.set_cons_succ]
            refine takeL (i := 6) (v := ?vq10016) rfl (by kernel_rfl) (by kernel_rfl) (by kernel_rfl) (fun _ _ _ h => h) (Or.inl ⟨by rfl, ?hyq10016⟩) (by assumption) ?restq10016
            case hyq10016 => (intro u hu; (try dsimp only at hu); go_simp <;> with_reducible rfl)
            try simp only [Act.put, List.setIfInBounds_toArray, List.set_cons_zero, List.set_cons_succ]
            refine takeL (i := 7) (v := ?vq10017) rfl (by kernel_rfl) (by kernel_rfl) (by kernel_rfl) (fun _ _ _ h => h) (Or.inl ⟨by rfl, ?hyq10017⟩) (by assumption) ?restq10017
            case hyq10017 => (intro u hu; (try dsimp only at hu); go_simp <;> with_reducible rfl)
            try simp only [Act.put, List.setIfInBounds_toArray, List.set_cons_zero, List.set_cons_succ]
            refine takeL (i := 8) (v := ?vq10018) rfl (by kernel_rfl) (by kernel_rfl) (by kernel_rfl) (fun _ _ _ h => h) (Or.inl ⟨by rfl, ?hyq10018⟩) (by assumption) ?restq10018
            case hyq10018 => (intro u hu; (try dsimp only at hu); go_simp <;> with_reducible rfl)
            try simp only [Act.put, List.setIfInBounds_toArray, List.set_cons_zero, List.set_cons_succ]
            refine wpAnyH_done (by kernel_rfl) ?_ _
            clear hS0
            go_wp2
            go_returns
            go_light
            refine ⟨ret_bool ?_, chain hB ((Below.refl _ _).drew)⟩
            rw [hI.out, hd.out, hd'.out]; simp only [eqFls, hpq, Bool.false_and]
        · replace hpq : eqFl p q = false := by rw [hpq]; simp [e1]
          have hS0 : (fun u => u.cell? ⟨b, o + k * 2, none⟩ = some (.string p.nm) ∧ u.cell? ⟨b, o + k * 2 + 1, none⟩ = some (.string p.d) ∧ u.cell? ⟨b', o' + k * 2, none⟩ = some (.string q.nm) ∧ u.cell? ⟨b', o' + k * 2 + 1, none⟩ = some (.string q.d)) wr.drew := ⟨c0, c1, d0, d1⟩
          go_wp2_with fail
          refine wp_region_heldH (S := (fun u => u.cell? ⟨b, o + k * 2, none⟩ = some (.string p.nm) ∧ u.cell? ⟨b, o + k * 2 + 1, none⟩ = some (.string p.d) ∧ u.cell? ⟨b', o' + k * 2, none⟩ = some (.string q.nm) ∧ u.cell? ⟨b', o' + k * 2 + 1, none⟩ = some (.string q.d))) 9 (by kernel_rfl) rfl ?_
          refine takeL (i := 0) (v := ?vq10019) rfl (by kernel_rfl) (by kernel_rfl) (by kernel_rfl) (fun _ _ _ h => h) (Or.inl ⟨by rfl, ?hyq10019⟩) (by assumption) ?restq10019
          case hyq10019 => (intro u hu; (try dsimp only at hu); go_simp <;> with_reducible rfl)
          try simp only [Act.put, List.setIfInBounds_toArray, List.set_cons_zero, List.set_cons_succ]
          refine takeL (i := 1) (v := ?vq10020) rfl (by kernel_rfl) (by kernel_rfl) (by kernel_rfl) (fun _ _ _ h => h) (Or.inl ⟨by rfl, ?hyq10020⟩) (by assumption) ?restq10020
          case hyq10020 => (intro u hu; (try dsimp only at hu); go_simp <;> with_reducible rfl)
          try simp only [Act.put, List.setIfInBounds_toArray, List.set_cons_zero, List.set_cons_succ]
          refine takeL (i := 2) (v := ?vq10021) rfl (by kernel_rfl) (by kernel_rfl) (by kernel_rfl) (fun _ _ _ h => h) (Or.inl ⟨by rfl, ?hyq10021⟩) (by assumption) ?restq10021
          case hyq10021 => (intro u hu; (try dsimp only at hu); go_simp <;> with_reducible rfl)
          try simp only [Act.put, List.setIfInBounds_toArray, List.set_cons_zero, List.set_cons_succ]
          refine takeL (i := 3) (v := ?vq10022) rfl (by kernel_rfl) (by kernel_rfl) (by kernel_rfl) (fun _ _ _ h => h) (Or.inl ⟨by rfl, ?hyq10022⟩) (by assumption) ?restq10022
          case hyq10022 => (intro u hu; (try dsimp only at hu); go_simp <;> with_reducible rfl)
          try simp only [Act.put, List.setIfInBounds_toArray, List.set_cons_zero, List.set_cons_succ]
          refine takeL (i := 4) (v := ?vq10023) rfl (by kernel_rfl) (by kernel_rfl) (by kernel_rfl) (fun _ _ _ h => h) (Or.inl ⟨by rfl, ?hyq10023⟩) (by assumption) ?restq10023
          case hyq10023 => (intro u hu; (try dsimp only at hu); go_simp <;> with_reducible rfl)
          try simp only [Act.put, List.setIfInBounds_toArray, List.set_cons_zero, List.set_cons_succ]
          refine takeL (i := 5) (v := ?vq10024) rfl (by kernel_rfl) (by kernel_rfl) (by kernel_rfl) (fun _ _ _ h => h) (Or.inl ⟨by rfl, ?hyq10024⟩) (by assumption) ?restq10024
          case hyq10024 => (intro u hu; (try dsimp only at hu); go_simp <;> with_reducible rfl)
          try simp only [Act.put, List.setIfInBounds_toArray, List.set_cons_zero, List.set_cons_succ]
          refine takeL (i := 6) (v := ?vq10025) rfl (by kernel_rfl) (by kernel_rfl) (by kernel_rfl) (fun _ _ _ h => h) (Or.inl ⟨by rfl, ?hyq10025⟩) (by assumption) ?restq10025
          case hyq10025 => (intro u hu; (try dsimp only at hu); go_simp <;> with_reducible rfl)
          try simp only [Act.put, List.setIfInBounds_toArray, List.set_cons_zero, List.set_cons_succ]
          refine takeL (i := 7) (v := ?vq10026) rfl (by kernel_rfl) (by kernel_rfl) (by kernel_rfl) (fun _ _ _ h => h) (Or.inl ⟨by rfl, ?hyq10026⟩) (by assumption) ?restq10026
          case hyq10026 => (intro u hu; (try dsimp only at hu); go_simp <;> with_reducible rfl)
          try simp only [Act.put, List.setIfInBounds_toArray, List.set_cons_zero, List.set_cons_succ]
          refine takeL (i := 8) (v := ?vq10027) rfl (by kernel_rfl) (by kernel_rfl) (by kernel_rfl) (fun _ _ _ h => h) (Or.inl ⟨by rfl, ?hyq10027⟩) (by assumption) ?restq10027
          case hyq10027 => (intro u hu; (try dsimp only at hu); go_simp <;> with_reducible rfl)
          try simp only [Act.put, List.setIfInBounds_toArray, List.set_cons_zero, List.set_cons_succ]
          refine wpAnyH_done (by kernel_rfl) ?_ _
          clear hS0
          go_wp2
          go_returns
          go_light
          refine ⟨ret_bool ?_, chain hB ((Below.refl _ _).drew)⟩
          rw [hI.out, hd.out, hd'.out]; simp only [eqFls, hpq, Bool.false_and]
      · obtain rfl : k = n := by omega
        go_wp2
        go_returns
        go_light
        refine ⟨ret_bool ?_, hB⟩
        rw [hI.out, List.drop_of_length_le (Nat.le_of_eq hlen.out), List.drop_of_length_le (Nat.le_of_eq hlen'.out)]; rfl
  · have hbn : ((n : Int) != (n' : Int)) = true := by simp; omega
    go_enter Try.func18, Try.ntmps18
    go_wp2
    go_returns
    go_light
    refine ⟨ret_bool ?_, Below.refl _ _⟩
    rw [eqFls_len (by rw [hlen.out, hlen'.out]; exact hne)]
end Go.Proofs.Ytpobgjkmcmkkeaa
