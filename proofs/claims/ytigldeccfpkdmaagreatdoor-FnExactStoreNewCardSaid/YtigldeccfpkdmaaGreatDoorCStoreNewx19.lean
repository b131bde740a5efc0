/- Files put in their place, by the model. Files of a disk, by the model: what is the same, forms, lists that are right, an op that is done. -/
import Derived.Test.YtigldeccfpkdmaaGreatDoorCStoreNewx18
import Derived.Test.YtigldeccfpkdmaaGreatDoorCStoreNewx01
namespace Go.Proofs.YtigldeccfpkdmaaGreatDoor
open Go.RowKit Go.BigFrame
theorem own_neF {a : Option Addr} {n cap x B : Nat} (h : ∀ ad, a = some ad → B ≤ ad.block) (hx : x < B) : some x ≠ Value.ownBlock (.slice a n cap) := by
  cases a with
  | none => simp [Value.ownBlock]
  | some ad => have := h ad rfl; simp [Value.ownBlock]; omega
set_option maxHeartbeats 4000000 in
set_option maxRecDepth 100000 in
theorem spec_l8Put (a : Option Addr) (n cap : Nat) (l : List Fl) (nm d : ByteArray) (w : World) (h : FlsAt w a n l) (hn : n ≤ 4194304) :
    Calls Tryz.prog 196 #[.slice a n cap, .string nm, .string d] w fun e w' => (∃ a' n' cap', e = .returned (.slice a' n' cap') ∧ ResAt Fl.cs 2 123 w' w.heap.size a' n' cap' (putF ⟨nm, d⟩ l)) ∧ Below w.heap.size w w' := by
  have hlen : Hid (l.length = n) := h.len
  go_enter Tryz.func196, Tryz.ntmps196
  go_wp2_with fail
  go_loopw [7, 8, 9] (fun out dn ix wr => ∃ (k : Nat) (a2 : Option Addr) (n2 cap2 : Nat), k ≤ n ∧ ix = .int .i64 k ∧ dn = .bool (putK ⟨nm, d⟩ l k).2 ∧ out = .slice a2 n2 cap2 ∧ n2 ≤ 2 * k ∧ ResAt Fl.cs 2 123 wr w.heap.size a2 n2 cap2 (putK ⟨nm, d⟩ l k).1 ∧ Below w.heap.size w wr) (fun _ _ ix _ => n - (intOf ix).toNat)
  case atStart => exact ⟨0, _, 0, 0, Nat.zero_le _, rfl, rfl, rfl, by omega, res_empty (Blk.new' _ _ _ _ rfl) (Nat.le_refl _), by go_grown⟩
  case round =>
    obtain ⟨k, a2, n2, cap2, hk, rfl, rfl, rfl, hn2, R, hB⟩ := hrel
    have hsz := hB.size
    by_cases hlt : k < n
    · obtain ⟨b, o, y, rfl, hy, c0, c1⟩ := fl_at (h.below hB) hlt
      have hbw : b < w.heap.size := by
        obtain ⟨b', o', _, hbo, _, f0, _⟩ := fl_at h hlt
        obtain ⟨rfl, rfl⟩ : b = b' ∧ o = o' := by simpa using hbo
        exact World.block_lt_of_cell? w _ f0
      have hst : Hid (putK ⟨nm, d⟩ l (k + 1) = putS ⟨nm, d⟩ (putK ⟨nm, d⟩ l k) y) := putK_succ hy
      clear hy
      have hk1 : (k : Int) < n := by omega
      have hk2 : (0 : Int) ≤ k := by omega
      generalize putK ⟨nm, d⟩ l k = G at *
      obtain ⟨gl, dd⟩ := G
      simp only at R ⊢
      cases dd
      · cases hbl : bl y.nm.toList nm.toList
        · cases heq : (y.nm.toList == nm.toList)
          · have he : Hid (putS ⟨nm, d⟩ (gl, false) y = (gl ++ [(⟨nm, d⟩ : Fl)] ++ [y], true)) := by show _ = _; simp [putS, hbl, heq]
            have hq : ¬ y.nm.toList = nm.toList := by simpa using heq
            go_wp2_with (first | (at_builtin; refine wpList_app rfl (fun K hK => wp_appFl _ _ rfl w.heap.size a3 (n2 + 1) cap3 (gl ++ [(⟨nm, d⟩ : Fl)]) rfl (R3.alloc _) _ 1 1 [y] rfl (sl_newFl _ y _ _ (by simp)) (fun ad h => (by cases h; rfl)) (fun h => (by cases h)) ((n2 + 1) + 1) rfl (by omega) (by simp; omega) (fun a4 cap4 w4 R4 hg4 => hK _ _ ?_)); have hB4 : Below w.heap.size w w4 := Below.grown (hB3.alloc hB3.size _) hg4 (by have := hB3.size; simp; omega) (own_ge fun ad had => (R3.block ad had).1); have hsz4 := hB4.size) | (at_builtin; refine wpList_app rfl (fun K hK => wp_appFl _ _ rfl w.heap.size a2 n2 cap2 gl rfl (R.alloc _) _ 1 1 [(⟨nm, d⟩ : Fl)] rfl (sl_newFl _ (⟨nm, d⟩ : Fl) _ _ (by simp)) (fun ad h => (by cases h; rfl)) (fun h => (by cases h)) (n2 + 1) rfl (by omega) (by simp; omega) (fun a3 cap3 w3 R3 hg3 => hK _ _ ?_)); have hB3 : Below w.heap.size w w3 := Below.grown (hB.alloc hsz _) hg3 (by have := hsz; simp; omega) (own_ge fun ad had => (R.block ad had).1); have hsz3 := hB3.size; have c0' := hg3.cell (a := ⟨b, o + k * 2, none⟩) (acell _ c0) (own_neF (fun ad had => (R.block ad had).1) hbw); have c1' := hg3.cell (a := ⟨b, o + k * 2 + 1, none⟩) (acell _ c1) (own_neF (fun ad had => (R.block ad had).1) hbw); have za := fun ob => acell (w := w3) ob c0'; have zb := fun ob => acell (w := w3) ob c1'))
            go_wp2
            go_roundw
            case rel => exact ⟨k + 1, a4, (n2 + 1 + 1), cap4, by omega, by go_num, by rw [hst.out, he.out], rfl, by omega, by rw [hst.out, he.out]; exact R4, hB4⟩
            case measure => simp [intOf]; omega
          · have he : Hid (putS ⟨nm, d⟩ (gl, false) y = (gl ++ [(⟨nm, d⟩ : Fl)], true)) := by show _ = _; simp [putS, hbl, heq]
            have hq : y.nm.toList = nm.toList := by simpa using heq
            have hbl2 := hbl
            rw [hq] at hbl2
            go_wp2_with (at_builtin; refine wpList_app rfl (fun K hK => wp_appFl _ _ rfl w.heap.size a2 n2 cap2 gl rfl (R.alloc _) _ 1 1 [(⟨nm, d⟩ : Fl)] rfl (sl_newFl _ (⟨nm, d⟩ : Fl) _ _ (by simp)) (fun ad h => (by cases h; rfl)) (fun h => (by cases h)) (n2 + 1) rfl (by omega) (by simp; omega) (fun a3 cap3 w3 R3 hg3 => hK _ _ ?_)); have hB3 : Below w.heap.size w w3 := Below.grown (hB.alloc hsz _) hg3 (by have := hsz; simp; omega) (own_ge fun ad had => (R.block ad had).1); have hsz3 := hB3.size; have c0' := hg3.cell (a := ⟨b, o + k * 2, none⟩) (acell _ c0) (own_neF (fun ad had => (R.block ad had).1) hbw); have c1' := hg3.cell (a := ⟨b, o + k * 2 + 1, none⟩) (acell _ c1) (own_neF (fun ad had => (R.block ad had).1) hbw))
            go_wp2
            go_roundw
            case rel => exact ⟨k + 1, a3, (n2 + 1), cap3, by omega, by go_num, by rw [hst.out, he.out], rfl, by omega, by rw [hst.out, he.out]; exact R3, hB3⟩
            case measure => simp [intOf]; omega
        · cases heq : (y.nm.toList == nm.toList)
          · have he : Hid (putS ⟨nm, d⟩ (gl, false) y = (gl ++ [y], false)) := by show _ = _; simp [putS, hbl, heq]
            have hq : ¬ y.nm.toList = nm.toList := by simpa using heq
            go_wp2_with (at_builtin; refine wpList_app rfl (fun K hK => wp_appFl _ _ rfl w.heap.size a2 n2 cap2 gl rfl (R.alloc _) _ 1 1 [y] rfl (sl_newFl _ y _ _ (by simp)) (fun ad h => (by cases h; rfl)) (fun h => (by cases h)) (n2 + 1) rfl (by omega) (by simp; omega) (fun a3 cap3 w3 R3 hg3 => hK _ _ ?_)); have hB3 : Below w.heap.size w w3 := Below.grown (hB.alloc hsz _) hg3 (by have := hsz; simp; omega) (own_ge fun ad had => (R.block ad had).1); have hsz3 := hB3.size)
            go_wp2
            go_roundw
            case rel => exact ⟨k + 1, a3, (n2 + 1), cap3, by omega, by go_num, by rw [hst.out, he.out], rfl, by omega, by rw [hst.out, he.out]; exact R3, hB3⟩
            case measure => simp [intOf]; omega
          · have he : Hid (putS ⟨nm, d⟩ (gl, false) y = (gl, false)) := by show _ = _; simp [putS, hbl, heq]
            have hq : y.nm.toList = nm.toList := by simpa using heq
            have hbl2 := hbl
            rw [hq] at hbl2
            go_wp2
            go_roundw
            case rel => exact ⟨k + 1, a2, n2, cap2, by omega, by go_num, by rw [hst.out, he.out], rfl, by omega, by rw [hst.out, he.out]; exact R, hB⟩
            case measure => simp [intOf]; omega
      · cases hbl : bl y.nm.toList nm.toList
        · cases heq : (y.nm.toList == nm.toList)
          · have he : Hid (putS ⟨nm, d⟩ (gl, true) y = (gl ++ [y], true)) := by show _ = _; simp [putS, hbl, heq]
            have hq : ¬ y.nm.toList = nm.toList := by simpa using heq
            go_wp2_with (at_builtin; refine wpList_app rfl (fun K hK => wp_appFl _ _ rfl w.heap.size a2 n2 cap2 gl rfl (R.alloc _) _ 1 1 [y] rfl (sl_newFl _ y _ _ (by simp)) (fun ad h => (by cases h; rfl)) (fun h => (by cases h)) (n2 + 1) rfl (by omega) (by simp; omega) (fun a3 cap3 w3 R3 hg3 => hK _ _ ?_)); have hB3 : Below w.heap.size w w3 := Below.grown (hB.alloc hsz _) hg3 (by have := hsz; simp; omega) (own_ge fun ad had => (R.block ad had).1); have hsz3 := hB3.size)
            go_wp2
            go_roundw
            case rel => exact ⟨k + 1, a3, (n2 + 1), cap3, by omega, by go_num, by rw [hst.out, he.out], rfl, by omega, by rw [hst.out, he.out]; exact R3, hB3⟩
            case measure => simp [intOf]; omega
          · have he : Hid (putS ⟨nm, d⟩ (gl, true) y = (gl, true)) := by show _ = _; simp [putS, hbl, heq]
            have hq : y.nm.toList = nm.toList := by simpa using heq
            have hbl2 := hbl
            rw [hq] at hbl2
            go_wp2
            go_roundw
            case rel => exact ⟨k + 1, a2, n2, cap2, by omega, by go_num, by rw [hst.out, he.out], rfl, by omega, by rw [hst.out, he.out]; exact R, hB⟩
            case measure => simp [intOf]; omega
        · cases heq : (y.nm.toList == nm.toList)
          · have he : Hid (putS ⟨nm, d⟩ (gl, true) y = (gl ++ [y], true)) := by show _ = _; simp [putS, hbl, heq]
            have hq : ¬ y.nm.toList = nm.toList := by simpa using heq
            go_wp2_with (at_builtin; refine wpList_app rfl (fun K hK => wp_appFl _ _ rfl w.heap.size a2 n2 cap2 gl rfl (R.alloc _) _ 1 1 [y] rfl (sl_newFl _ y _ _ (by simp)) (fun ad h => (by cases h; rfl)) (fun h => (by cases h)) (n2 + 1) rfl (by omega) (by simp; omega) (fun a3 cap3 w3 R3 hg3 => hK _ _ ?_)); have hB3 : Below w.heap.size w w3 := Below.grown (hB.alloc hsz _) hg3 (by have := hsz; simp; omega) (own_ge fun ad had => (R.block ad had).1); have hsz3 := hB3.size)
            go_wp2
            go_roundw
            case rel => exact ⟨k + 1, a3, (n2 + 1), cap3, by omega, by go_num, by rw [hst.out, he.out], rfl, by omega, by rw [hst.out, he.out]; exact R3, hB3⟩
            case measure => simp [intOf]; omega
          · have he : Hid (putS ⟨nm, d⟩ (gl, true) y = (gl, true)) := by show _ = _; simp [putS, hbl, heq]
            have hq : y.nm.toList = nm.toList := by simpa using heq
            have hbl2 := hbl
            rw [hq] at hbl2
            go_wp2
            go_roundw
            case rel => exact ⟨k + 1, a2, n2, cap2, by omega, by go_num, by rw [hst.out, he.out], rfl, by omega, by rw [hst.out, he.out]; exact R, hB⟩
            case measure => simp [intOf]; omega
    · obtain rfl : k = n := by omega
      have hend : Hid (putE ⟨nm, d⟩ (putK ⟨nm, d⟩ l k) = putF ⟨nm, d⟩ l) := putK_all hlen.out
      generalize putK ⟨nm, d⟩ l k = G at *
      obtain ⟨gl, dd⟩ := G
      simp only at R ⊢
      cases dd
      · have he : Hid (putF ⟨nm, d⟩ l = gl ++ [(⟨nm, d⟩ : Fl)]) := by show _ = _; rw [← hend.out]; simp [putE]
        go_wp2_with (at_builtin; refine wpList_app rfl (fun K hK => wp_appFl _ _ rfl w.heap.size a2 n2 cap2 gl rfl (R.alloc _) _ 1 1 [(⟨nm, d⟩ : Fl)] rfl (sl_newFl _ (⟨nm, d⟩ : Fl) _ _ (by simp)) (fun ad h => (by cases h; rfl)) (fun h => (by cases h)) (n2 + 1) rfl (by omega) (by simp; omega) (fun a3 cap3 w3 R3 hg3 => hK _ _ ?_)); have hB3 : Below w.heap.size w w3 := Below.grown (hB.alloc hsz _) hg3 (by have := hsz; simp; omega) (own_ge fun ad had => (R.block ad had).1); have hsz3 := hB3.size)
        go_wp2
        go_returns
        exact ⟨⟨a3, _, cap3, rfl, by rw [he.out]; exact R3⟩, hB3⟩
      · have he : Hid (putF ⟨nm, d⟩ l = gl) := by show _ = _; rw [← hend.out]; simp [putE]
        go_wp2
        go_returns
        exact ⟨⟨a2, n2, cap2, rfl, by rw [he.out]; exact R⟩, hB⟩
end Go.Proofs.YtigldeccfpkdmaaGreatDoor
namespace Go.Proofs.YtigldeccfpkdmaaGreatDoor
open Go Go.RowKit Go.BigFrame
theorem wp_region_heldH {P : Program} {ops : Array Oper} {Q : Exit → Act → World → Prop} {S : World → Prop} {id : Nat} {a : Act} {w : World} (n : Nat) (hm : P.follows .mixedOrders = true) (hn : ops.size = n)
    (h : wpAnyH P .any ops Q S n (Array.replicate n false) a w.drew) : (Code.region id ops true).wp P Q a w := by
  subst hn
  exact wp_region_held hm h
set_option maxHeartbeats 1000000 in
theorem spec_l8Same (a : Option Addr) (n cap : Nat) (l : List Fl) (a' : Option Addr) (n' cap' : Nat) (m : List Fl) (w : World) (h : FlsAt w a n l) (h' : FlsAt w a' n' m) (hn : n ≤ 4194304) (hn' : n' ≤ 4194304) :
    Calls Tryz.prog 140 #[.slice a n cap, .slice a' n' cap'] w fun e w' => e = .returned (.bool (eqFls l m)) ∧ Below w.heap.size w w' := by
  have hlen : Hid (l.length = n) := h.len
  have hlen' : Hid (m.length = n') := h'.len
  by_cases hne : n = n'
  · subst hne
    have hbn : ((n : Int) != (n : Int)) = false := by simp
    go_enter Tryz.func140, Tryz.ntmps140
    go_wp2_with fail
    go_loopw [5] (fun ix wr => ∃ (k : Nat), k ≤ n ∧ ix = .int .i64 k ∧ Hid (eqFls l m = eqFls (l.drop k) (m.drop k)) ∧ Below w.heap.size w wr) (fun ix _ => n - (intOf ix).toNat)
    case atStart => exact ⟨0, Nat.zero_le _, rfl, rfl, Below.refl _ _⟩
    case round =>
      obtain ⟨k, hk, rfl, hI, hB⟩ := hrel
      by_cases hlt : k < n
      · obtain ⟨b, o, p, rfl, hp, c0, c1⟩ := fl_at (h.below hB) hlt
        obtain ⟨b', o', q, rfl, hq, d0, d1⟩ := fl_at (h'.below hB) hlt
        have hd : Hid (l.drop k = p :: l.drop (k + 1)) := drop_at hp
        have hd' : Hid (m.drop k = q :: m.drop (k + 1)) := drop_at hq
        clear hp hq
        have hk1 : (k : Int) < n := by omega
        have hk2 : (0 : Int) ≤ k := by omega
        have hpq : eqFl p q = (p.nm.toList == q.nm.toList && p.d.toList == q.d.toList) := rfl
        by_cases e1 : p.nm.toList = q.nm.toList
        · by_cases e2 : p.d.toList = q.d.toList
          · replace hpq : eqFl p q = true := by rw [hpq]; simp [e1, e2]
            have hS0 : (fun u => u.cell? ⟨b, o + k * 2, none⟩ = some (.string p.nm) ∧ u.cell? ⟨b, o + k * 2 + 1, none⟩ = some (.string p.d) ∧ u.cell? ⟨b', o' + k * 2, none⟩ = some (.string q.nm) ∧ u.cell? ⟨b', o' + k * 2 + 1, none⟩ = some (.string q.d)) wr.drew := ⟨c0, c1, d0, d1⟩
            go_wp2_with fail
            refine wp_region_heldH (S := (fun u => u.cell? ⟨b, o + k * 2, none⟩ = some (.string p.nm) ∧ u.cell? ⟨b, o + k * 2 + 1, none⟩ = some (.string p.d) ∧ u.cell? ⟨b', o' + k * 2, none⟩ = some (.string q.nm) ∧ u.cell? ⟨b', o' + k * 2 + 1, none⟩ = some (.string q.d))) 9 (by kernel_rfl) rfl ?_
            refine takeQ (i := 0) (v := ?vq10001) rfl (by kernel_rfl) (fun _ _ _ h => h) (by rfl) ?hq10001 (by assumption) ?rq10001
            case hq10001 => (intro u hu; (try dsimp only at hu); go_simp <;> with_reducible rfl)
            try simp only [Act.put, lsA, lsB, lsC]
            refine takeQ (i := 1) (v := ?vq10002) rfl (by kernel_rfl) (fun _ _ _ h => h) (by rfl) ?hq10002 (by assumption) ?rq10002
            case hq10002 => (intro u hu; (try dsimp only at hu); go_simp <;> with_reducible rfl)
            try simp only [Act.put, lsA, lsB, lsC]
            refine takeQ (i := 2) (v := ?vq10003) rfl (by kernel_rfl) (fun _ _ _ h => h) (by rfl) ?hq10003 (by assumption) ?rq10003
            case hq10003 => (intro u hu; (try dsimp only at hu); go_simp <;> with_reducible rfl)
            try simp only [Act.put, lsA, lsB, lsC]
            refine takeQ (i := 3) (v := ?vq10004) rfl (by kernel_rfl) (fun _ _ _ h => h) (by rfl) ?hq10004 (by assumption) ?rq10004
            case hq10004 => (intro u hu; (try dsimp only at hu); go_simp <;> with_reducible rfl)
            try simp only [Act.put, lsA, lsB, lsC]
            refine takeQ (i := 4) (v := ?vq10005) rfl (by kernel_rfl) (fun _ _ _ h => h) (by rfl) ?hq10005 (by assumption) ?rq10005
            case hq10005 => (intro u hu; (try dsimp only at hu); go_simp <;> with_reducible rfl)
            try simp only [Act.put, lsA, lsB, lsC]
            refine takeQ (i := 5) (v := ?vq10006) rfl (by kernel_rfl) (fun _ _ _ h => h) (by rfl) ?hq10006 (by assumption) ?rq10006
            case hq10006 => (intro u hu; (try dsimp only at hu); go_simp <;> with_reducible rfl)
            try simp only [Act.put, lsA, lsB, lsC]
            refine takeQ (i := 6) (v := ?vq10007) rfl (by kernel_rfl) (fun _ _ _ h => h) (by rfl) ?hq10007 (by assumption) ?rq10007
            case hq10007 => (intro u hu; (try dsimp only at hu); go_simp <;> with_reducible rfl)
            try simp only [Act.put, lsA, lsB, lsC]
            refine takeQ (i := 7) (v := ?vq10008) rfl (by kernel_rfl) (fun _ _ _ h => h) (by rfl) ?hq10008 (by assumption) ?rq10008
            case hq10008 => (intro u hu; (try dsimp only at hu); go_simp <;> with_reducible rfl)
            try simp only [Act.put, lsA, lsB, lsC]
            refine takeQ (i := 8) (v := ?vq10009) rfl (by kernel_rfl) (fun _ _ _ h => h) (by rfl) ?hq10009 (by assumption) ?rq10009
            case hq10009 => (intro u hu; (try dsimp only at hu); go_simp <;> with_reducible rfl)
            try simp only [Act.put, lsA, lsB, lsC]
            refine wpAnyH_done (by kernel_rfl) ?_ _
            clear hS0
            go_wp2
            go_roundw
            case rel => exact ⟨k + 1, by omega, by go_num, by show _ = _; rw [hI.out, hd.out, hd'.out]; simp only [eqFls, hpq, Bool.true_and], chain hB ((Below.refl _ _).drew)⟩
            case measure => simp [intOf]; omega
          · replace hpq : eqFl p q = false := by rw [hpq]; simp [e2]
            have hS0 : (fun u => u.cell? ⟨b, o + k * 2, none⟩ = some (.string p.nm) ∧ u.cell? ⟨b, o + k * 2 + 1, none⟩ = some (.string p.d) ∧ u.cell? ⟨b', o' + k * 2, none⟩ = some (.string q.nm) ∧ u.cell? ⟨b', o' + k * 2 + 1, none⟩ = some (.string q.d)) wr.drew := ⟨c0, c1, d0, d1⟩
            go_wp2_with fail
            refine wp_region_heldH (S := (fun u => u.cell? ⟨b, o + k * 2, none⟩ = some (.string p.nm) ∧ u.cell? ⟨b, o + k * 2 + 1, none⟩ = some (.string p.d) ∧ u.cell? ⟨b', o' + k * 2, none⟩ = some (.string q.nm) ∧ u.cell? ⟨b', o' + k * 2 + 1, none⟩ = some (.string q.d))) 9 (by kernel_rfl) rfl ?_
            refine takeQ (i := 0) (v := ?vq10010) rfl (by kernel_rfl) (fun _ _ _ h => h) (by rfl) ?hq10010 (by assumption) ?rq10010
            case hq10010 => (intro u hu; (try dsimp only at hu); go_simp <;> with_reducible rfl)
            try simp only [Act.put, lsA, lsB, lsC]
            refine takeQ (i := 1) (v := ?vq10011) rfl (by kernel_rfl) (fun _ _ _ h => h) (by rfl) ?hq10011 (by assumption) ?rq10011
            case hq10011 => (intro u hu; (try dsimp only at hu); go_simp <;> with_reducible rfl)
            try simp only [Act.put, lsA, lsB, lsC]
            refine takeQ (i := 2) (v := ?vq10012) rfl (by kernel_rfl) (fun _ _ _ h => h) (by rfl) ?hq10012 (by assumption) ?rq10012
            case hq10012 => (intro u hu; (try dsimp only at hu); go_simp <;> with_reducible rfl)
            try simp only [Act.put, lsA, lsB, lsC]
            refine takeQ (i := 3) (v := ?vq10013) rfl (by kernel_rfl) (fun _ _ _ h => h) (by rfl) ?hq10013 (by assumption) ?rq10013
            case hq10013 => (intro u hu; (try dsimp only at hu); go_simp <;> with_reducible rfl)
            try simp only [Act.put, lsA, lsB, lsC]
            refine takeQ (i := 4) (v := ?vq10014) rfl (by kernel_rfl) (fun _ _ _ h => h) (by rfl) ?hq10014 (by assumption) ?rq10014
            case hq10014 => (intro u hu; (try dsimp only at hu); go_simp <;> with_reducible rfl)
            try simp only [Act.put, lsA, lsB, lsC]
            refine takeQ (i := 5) (v := ?vq10015) rfl (by kernel_rfl) (fun _ _ _ h => h) (by rfl) ?hq10015 (by assumption) ?rq10015
            case hq10015 => (intro u hu; (try dsimp only at hu); go_simp <;> with_reducible rfl)
            try simp only [Act.put, lsA, lsB, lsC]
            refine takeQ (i := 6) (v := ?vq10016) rfl (by kernel_rfl) (fun _ _ _ h => h) (by rfl) ?hq10016 (by assumption) ?rq10016
            case hq10016 => (intro u hu; (try dsimp only at hu); go_simp <;> with_reducible rfl)
            try simp only [Act.put, lsA, lsB, lsC]
            refine takeQ (i := 7) (v := ?vq10017) rfl (by kernel_rfl) (fun _ _ _ h => h) (by rfl) ?hq10017 (by assumption) ?rq10017
            case hq10017 => (intro u hu; (try dsimp only at hu); go_simp <;> with_reducible rfl)
            try simp only [Act.put, lsA, lsB, lsC]
            refine takeQ (i := 8) (v := ?vq10018) rfl (by kernel_rfl) (fun _ _ _ h => h) (by rfl) ?hq10018 (by assumption) ?rq10018
            case hq10018 => (intro u hu; (try dsimp only at hu); go_simp <;> with_reducible rfl)
            try simp only [Act.put, lsA, lsB, lsC]
            refine wpAnyH_done (by kernel_rfl) ?_ _
            clear hS0
            go_wp2
            go_returns
            go_light
            refine ⟨ret_bool ?_, chain hB ((Below.refl _ _).drew)⟩
            rw [hI.out, hd.out, hd'.out]; simp only [eqFls, hpq, Bool.false_and]
        · replace hpq : eqFl p q = false := by rw [hpq]; simp [e1]
          have hS0 : (fun u => u.cell? ⟨b, o + k * 2, none⟩ = some (.string p.nm) ∧ u.cell? ⟨b, o + k * 2 + 1, none⟩ = some (.string p.d) ∧ u.cell? ⟨b', o' + k * 2, none⟩ = some (.string q.nm) ∧ u.cell? ⟨b', o' + k * 2 + 1, none⟩ = some (.string q.d)) wr.drew := ⟨c0, c1, d0, d1⟩
          go_wp2_with fail
          refine wp_region_heldH (S := (fun u => u.cell? ⟨b, o + k * 2, none⟩ = some (.string p.nm) ∧ u.cell? ⟨b, o + k * 2 + 1, none⟩ = some (.string p.d) ∧ u.cell? ⟨b', o' + k * 2, none⟩ = some (.string q.nm) ∧ u.cell? ⟨b', o' + k * 2 + 1, none⟩ = some (.string q.d))) 9 (by kernel_rfl) rfl ?_
          refine takeQ (i := 0) (v := ?vq10019) rfl (by kernel_rfl) (fun _ _ _ h => h) (by rfl) ?hq10019 (by assumption) ?rq10019
          case hq10019 => (intro u hu; (try dsimp only at hu); go_simp <;> with_reducible rfl)
          try simp only [Act.put, lsA, lsB, lsC]
          refine takeQ (i := 1) (v := ?vq10020) rfl (by kernel_rfl) (fun _ _ _ h => h) (by rfl) ?hq10020 (by assumption) ?rq10020
          case hq10020 => (intro u hu; (try dsimp only at hu); go_simp <;> with_reducible rfl)
          try simp only [Act.put, lsA, lsB, lsC]
          refine takeQ (i := 2) (v := ?vq10021) rfl (by kernel_rfl) (fun _ _ _ h => h) (by rfl) ?hq10021 (by assumption) ?rq10021
          case hq10021 => (intro u hu; (try dsimp only at hu); go_simp <;> with_reducible rfl)
          try simp only [Act.put, lsA, lsB, lsC]
          refine takeQ (i := 3) (v := ?vq10022) rfl (by kernel_rfl) (fun _ _ _ h => h) (by rfl) ?hq10022 (by assumption) ?rq10022
          case hq10022 => (intro u hu; (try dsimp only at hu); go_simp <;> with_reducible rfl)
          try simp only [Act.put, lsA, lsB, lsC]
          refine takeQ (i := 4) (v := ?vq10023) rfl (by kernel_rfl) (fun _ _ _ h => h) (by rfl) ?hq10023 (by assumption) ?rq10023
          case hq10023 => (intro u hu; (try dsimp only at hu); go_simp <;> with_reducible rfl)
          try simp only [Act.put, lsA, lsB, lsC]
          refine takeQ (i := 5) (v := ?vq10024) rfl (by kernel_rfl) (fun _ _ _ h => h) (by rfl) ?hq10024 (by assumption) ?rq10024
          case hq10024 => (intro u hu; (try dsimp only at hu); go_simp <;> with_reducible rfl)
          try simp only [Act.put, lsA, lsB, lsC]
          refine takeQ (i := 6) (v := ?vq10025) rfl (by kernel_rfl) (fun _ _ _ h => h) (by rfl) ?hq10025 (by assumption) ?rq10025
          case hq10025 => (intro u hu; (try dsimp only at hu); go_simp <;> with_reducible rfl)
          try simp only [Act.put, lsA, lsB, lsC]
          refine takeQ (i := 7) (v := ?vq10026) rfl (by kernel_rfl) (fun _ _ _ h => h) (by rfl) ?hq10026 (by assumption) ?rq10026
          case hq10026 => (intro u hu; (try dsimp only at hu); go_simp <;> with_reducible rfl)
          try simp only [Act.put, lsA, lsB, lsC]
          refine takeQ (i := 8) (v := ?vq10027) rfl (by kernel_rfl) (fun _ _ _ h => h) (by rfl) ?hq10027 (by assumption) ?rq10027
          case hq10027 => (intro u hu; (try dsimp only at hu); go_simp <;> with_reducible rfl)
          try simp only [Act.put, lsA, lsB, lsC]
          refine wpAnyH_done (by kernel_rfl) ?_ _
          clear hS0
          go_wp2
          go_returns
          go_light
          refine ⟨ret_bool ?_, chain hB ((Below.refl _ _).drew)⟩
          rw [hI.out, hd.out, hd'.out]; simp only [eqFls, hpq, Bool.false_and]
      · obtain rfl : k = n := by omega
        go_wp2
        go_returns
        go_light
        refine ⟨ret_bool ?_, hB⟩
        rw [hI.out, List.drop_of_length_le (Nat.le_of_eq hlen.out), List.drop_of_length_le (Nat.le_of_eq hlen'.out)]; rfl
  · have hbn : ((n : Int) != (n' : Int)) = true := by simp; omega
    go_enter Tryz.func140, Tryz.ntmps140
    go_wp2
    go_returns
    go_light
    refine ⟨ret_bool ?_, Below.refl _ _⟩
    rw [eqFls_len (by rw [hlen.out, hlen'.out]; exact hne)]
set_option maxHeartbeats 2000000 in
theorem spec_l8Form (o : Dp) (w : World) (hs : StrD o) :
    Calls Tryz.prog 139 #[.agg #[.int .i64 o.k, .string o.nm, .string o.tt, .string o.d]] w fun e w' => e = .returned (.bool (formB o)) ∧ Below w.heap.size w w' := by
  obtain ⟨k, nm, tt, d⟩ := o
  obtain ⟨g1, g2, g3⟩ := hs
  simp only at g1 g2 g3
  have hB0 : Below w.heap.size w (w.alloc (.cells #[.int .i64 k, .string nm, .string tt, .string d] 120)) := by go_grown
  have hin := spec_l1InD k 1 3
  have hnm := fun u => spec_l8Name nm u g1
  have htt := fun u => spec_l8Name tt u g2
  by_cases hk : 1 ≤ k ∧ k ≤ 3
  · have hkb : (decide ((1 : Int) ≤ k) && decide (k ≤ 3)) = true := by simp; omega
    cases hn : nmB nm
    · have hf : Hid (formB ⟨k, nm, tt, d⟩ = false) := by show _ = _; simp [formB, hn]
      go_enter Tryz.func139, Tryz.ntmps139
      go_wp2_with fail
      refine (hin _).mono ?_
      rintro e w1 ⟨rfl, rfl⟩
      rw [hkb]
      go_wp2_with fail
      refine (hnm _).mono ?_
      rintro e w2 ⟨rfl, rfl⟩
      rw [hn]
      go_wp2
      go_returns
      exact ⟨ret_bool hf.out.symm, hB0⟩
    · by_cases h2 : k = 2
      · subst h2
        have hf : Hid (formB ⟨2, nm, tt, d⟩ = (nmB tt && emB d)) := by show _ = _; simp [formB, hn]
        go_enter Tryz.func139, Tryz.ntmps139
        go_wp2_with fail
        refine (hin _).mono ?_
        rintro e w1 ⟨rfl, rfl⟩
        rw [hkb]
        go_wp2_with fail
        refine (hnm _).mono ?_
        rintro e w2 ⟨rfl, rfl⟩
        rw [hn]
        go_wp2_with fail
        refine (htt _).mono ?_
        rintro e w3 ⟨rfl, rfl⟩
        cases ht : nmB tt
        · go_wp2
          go_returns
          exact ⟨by rw [hf.out, ht]; rfl, hB0⟩
        · cases he : emB d
          · have hq : ¬ d.toList = (⟨#[]⟩ : ByteArray).toList := by simpa [emB] using he
            go_wp2
            go_returns
            exact ⟨by rw [hf.out, ht, he]; first | rfl | simp_all [emB], hB0⟩
          · have hq : d.toList = (⟨#[]⟩ : ByteArray).toList := by simpa [emB] using he
            go_wp2
            go_returns
            exact ⟨by rw [hf.out, ht, he]; first | rfl | simp_all [emB], hB0⟩
      · have h2b : (k == 2) = false := by simpa using h2
        have hf : Hid (formB ⟨k, nm, tt, d⟩ = (emB tt && (decide (k = 1) || emB d))) := by show _ = _; simp [formB, hn, h2, hk]
        go_enter Tryz.func139, Tryz.ntmps139
        go_wp2_with fail
        refine (hin _).mono ?_
        rintro e w1 ⟨rfl, rfl⟩
        rw [hkb]
        go_wp2_with fail
        refine (hnm _).mono ?_
        rintro e w2 ⟨rfl, rfl⟩
        rw [hn]
        by_cases h1 : k = 1
        · subst h1
          go_wp2
          all_goals go_returns
          all_goals exact ⟨by rw [hf.out]; simp_all [emB], hB0⟩
        · have h1b : (k == 1) = false := by simpa using h1
          go_wp2
          all_goals go_returns
          all_goals exact ⟨by rw [hf.out]; simp_all [emB], hB0⟩
  · have hkb : (decide ((1 : Int) ≤ k) && decide (k ≤ 3)) = false := by simp; omega
    have hf : Hid (formB ⟨k, nm, tt, d⟩ = false) := by show _ = _; simp only [formB, hkb, Bool.false_and]
    go_enter Tryz.func139, Tryz.ntmps139
    go_wp2_with fail
    refine (hin _).mono ?_
    rintro e w1 ⟨rfl, rfl⟩
    rw [hkb]
    go_wp2
    go_returns
    exact ⟨ret_bool hf.out.symm, hB0⟩
end Go.Proofs.YtigldeccfpkdmaaGreatDoor
