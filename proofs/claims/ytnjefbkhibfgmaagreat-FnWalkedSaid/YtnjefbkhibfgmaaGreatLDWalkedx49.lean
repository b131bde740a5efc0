/- At every code: what is found by going through all volumes of the pool that is drawn is what its model tells, and, where the pool is right, what is counted with what is late: no condition. -/
import Derived.Test.YtnjefbkhibfgmaaGreatRows
import Derived.Test.YtnjefbkhibfgmaaGreatLDWalkedx48
import Derived.Test.YtnjefbkhibfgmaaGreatK00
import Derived.Test.YtnjefbkhibfgmaaGreatK01
namespace Go.Proofs.YtnjefbkhibfgmaaGreat
open Go.ChangeShapes Go.WideShapes Go.ChangeAt Go.RowKit Go.Deep Go.BigFrame
theorem sumAll_take {l : List Ct} {k : Nat} {c : Ct} (h : l[k]? = some c) : sumAll (l.take (k + 1)) = sumAll (l.take k) + c.n := by
  rw [take_at h]
  have : ∀ m : List Ct, sumAll (m ++ [c]) = sumAll m + c.n := fun m => by
    induction m with
    | nil => simp [sumAll]
    | cons y r ih => simp only [List.cons_append, sumAll, ih]; omega
  exact this _
theorem sumAll_bd {l : List Ct} (h : ∀ c ∈ l, 1 ≤ c.n ∧ c.n ≤ 1000) : 0 ≤ sumAll l ∧ sumAll l ≤ 1000 * (l.length : Int) := by
  induction l with
  | nil => simp [sumAll]
  | cons c r ih =>
    have h1 := h c (by simp)
    have h2 := ih (fun d hd => h d (by simp [hd]))
    simp only [sumAll, List.length_cons]
    omega
theorem pool_refs {p : Po} (h : poolB p = true) : (walkL p.vs).length ≤ 200 ∧ ∀ c ∈ walkL p.vs, 1 ≤ c.n ∧ c.n ≤ 1000 := by
  have h1 := (poolB_fl h).1
  rw [pool_walk h] at h1
  have h2 : refsOkB (walkL p.vs) = true := by
    unfold flushedO at h1
    split at h1
    · split at h1
      · rename_i h3; rw [pool_walk h] at h3; exact h3
      · cases h1
    · cases h1
  exact refs_bound h2
set_option maxHeartbeats 8000000 in
set_option maxRecDepth 100000 in
theorem walkDWalked (a : Option Addr) (n cap : Nat) (w : World) (h : CodeAt w a n) (hm : n ≤ 9223372036854775807) :
    Calls Tryz.prog 3 #[.slice a n cap] w fun e w' => e = .returned (.bool true) ∧ Below w.heap.size w w' := by
  by_cases hn : n ≤ 1048576
  · have hb : decide (1048576 < n) = false := by simp; omega
    go_enter Tryz.func3, Tryz.ntmps3
    go_wp2_with fail
    refine (laws_bigC a n cap _ hm).mono ?_
    rintro e w1 ⟨rfl, rfl⟩
    rw [hb]
    go_wp2_with fail
    refine (spec_DrawWalked a n cap _ h hn).mono ?_
    rintro e w2 ⟨⟨v, p, rfl, PT, hd⟩, hB2⟩
    have PT2 := PT
    obtain ⟨ea, en, ec, va, vn, vc, ra, rn, rc, la, ln, lc, rows, rfl, hjunk⟩ := PT
    clear hjunk
    have hAl : Below w2.heap.size w2 (w2.alloc (.cells #[.int .i64 p.size, .int .i64 p.next, .slice ea en ec, .slice va vn vc, .slice ra rn rc, .slice la ln lc] 28)) := (Below.refl _ _).alloc (Nat.le_refl _) _
    have P3 := Blk.new w2 #[.int .i64 p.size, .int .i64 p.next, .slice ea en ec, .slice va vn vc, .slice ra rn rc, .slice la ln lc] 28
    go_wp2_with fail
    have PT3 := PT2.below hAl
    have hC3 := chain hB2 hAl
    have hw1 := hB2.size
    obtain ⟨pb, hpb⟩ : ∃ pb, w2.heap.size = pb := ⟨_, rfl⟩
    rw [hpb] at P3
    generalize w2.alloc (.cells #[.int .i64 p.size, .int .i64 p.next, .slice ea en ec, .slice va vn vc, .slice ra rn rc, .slice la ln lc] 28) = w3 at *
    rw [hpb]
    clear hAl hB2 PT2 hpb
    have hA3 : PoolAt (w1.heap.size + 1) w3 (.agg #[.int .i64 p.size, .int .i64 p.next, .slice ea en ec, .slice va vn vc, .slice ra rn rc, .slice la ln lc]) p := PT3.at'
    obtain ⟨x0, x1, x2, x3, x4, x5⟩ := P3.six'
    go_wp2_with fail
    refine (impl_Walked (w1.heap.size + 1) _ p _ hA3 hd.1).mono ?_
    rintro e w4 ⟨⟨wa, wn, wc, rfl, hwn, RW⟩, hB4⟩
    have P4 := P3.below hB4
    have hA4 := hA3.below hB4
    have hC4 := chain hC3 hB4
    clear x0 x1 x2 x3 x4 x5 P3 hA3 hC3 hB4 PT3
    cases hpk : poolB p
    · obtain ⟨x0, x1, x2, x3, x4, x5⟩ := P4.six'
      go_wp2_with fail
      have hSB : ∀ u, Below w4.heap.size w4 u → (fun u => u.cell? ⟨pb, 0, none⟩ = some (.int .i64 p.size) ∧ u.cell? ⟨pb, 1, none⟩ = some (.int .i64 p.next) ∧ u.cell? ⟨pb, 2, none⟩ = some (.slice ea en ec) ∧ u.cell? ⟨pb, 3, none⟩ = some (.slice va vn vc) ∧ u.cell? ⟨pb, 4, none⟩ = some (.slice ra rn rc) ∧ u.cell? ⟨pb, 5, none⟩ = some (.slice la ln lc)) u := fun u hu => ⟨bcell hu x0, bcell hu x1, bcell hu x2, bcell hu x3, bcell hu x4, bcell hu x5⟩
      have hS0 := hSB w4.drew ((Below.refl _ _).drew)
      refine wp_region_heldN (S := (fun u => u.cell? ⟨pb, 0, none⟩ = some (.int .i64 p.size) ∧ u.cell? ⟨pb, 1, none⟩ = some (.int .i64 p.next) ∧ u.cell? ⟨pb, 2, none⟩ = some (.slice ea en ec) ∧ u.cell? ⟨pb, 3, none⟩ = some (.slice va vn vc) ∧ u.cell? ⟨pb, 4, none⟩ = some (.slice ra rn rc) ∧ u.cell? ⟨pb, 5, none⟩ = some (.slice la ln lc))) 17 (by kernel_rfl) rfl ?_
      refine takeQ (i := 0) (v := ?vq7001) rfl (by kernel_rfl) (fun _ _ _ h => h) (by rfl) ?hq7001 (by assumption) ?rq7001
      case hq7001 => (intro u hu; (try dsimp only at hu); go_simp <;> with_reducible rfl)
      try simp only [Act.put, lsA, lsB, lsC]
      refine takeQ (i := 1) (v := ?vq7002) rfl (by kernel_rfl) (fun _ _ _ h => h) (by rfl) ?hq7002 (by assumption) ?rq7002
      case hq7002 => (intro u hu; (try dsimp only at hu); go_simp <;> with_reducible rfl)
      try simp only [Act.put, lsA, lsB, lsC]
      refine oneL (i := 2) (by kernel_rfl) rfl (fun K hK => ?_)
      go_simp
      refine (spec_Walked (w1.heap.size + 1) (by omega) _ p _ (hA4.below ((Below.refl _ _).drew)) hd.1).mono ?_
      rintro e w5 ⟨⟨xa, xn, xc, rfl, hxn, RX⟩, hB5'⟩
      have hB5 : Below w4.heap.size w4 w5 := chain ((Below.refl _ _).drew) hB5'
      dsimp only
      refine hK.out _ _ (hSB _ hB5) (fun hHeld => ?_)
      clear hK K
      try simp only [Act.put, lsA, lsB, lsC]
      refine oneL (i := 3) (by kernel_rfl) rfl (fun K hK => ?_)
      go_simp
      refine (laws_sameCounts wa wn wc (walkedL p) xa xn xc w5 (RW.sl.below hB5) RX.sl (by omega)).mono ?_
      rintro e w6 ⟨rfl, hB6'⟩
      have hB6 := chain hB5 hB6'
      dsimp only
      refine hK.out _ _ (hSB _ hB6) (fun hHeld => ?_)
      clear hK K
      try simp only [Act.put, lsA, lsB, lsC]
      refine takeQ (i := 4) (v := ?vq7003) rfl (by kernel_rfl) (fun _ _ _ h => h) (by rfl) ?hq7003 (by assumption) ?rq7003
      case hq7003 => (intro u hu; (try dsimp only at hu); go_simp <;> with_reducible rfl)
      try simp only [Act.put, lsA, lsB, lsC]
      refine takeQ (i := 5) (v := ?vq7004) rfl (by kernel_rfl) (fun _ _ _ h => h) (by rfl) ?hq7004 (by assumption) ?rq7004
      case hq7004 => (intro u hu; (try dsimp only at hu); go_simp <;> with_reducible rfl)
      try simp only [Act.put, lsA, lsB, lsC]
      refine takeQ (i := 6) (v := ?vq7005) rfl (by kernel_rfl) (fun _ _ _ h => h) (by rfl) ?hq7005 (by assumption) ?rq7005
      case hq7005 => (intro u hu; (try dsimp only at hu); go_simp <;> with_reducible rfl)
      try simp only [Act.put, lsA, lsB, lsC]
      refine takeQ (i := 8) (v := ?vq7006) rfl (by kernel_rfl) (fun _ _ _ h => h) (by rfl) ?hq7006 (by assumption) ?rq7006
      case hq7006 => (intro u hu; (try dsimp only at hu); go_simp <;> with_reducible rfl)
      try simp only [Act.put, lsA, lsB, lsC]
      refine oneL (i := 7) (by kernel_rfl) rfl (fun K hK => ?_)
      go_simp
      refine (impl_PoolOk (w1.heap.size + 1) _ p w6 (hA4.below hB6) hd.1).mono ?_
      rintro e w7 ⟨rfl, hB7'⟩
      rw [hpk]
      have hB7 := chain hB6 hB7'
      dsimp only
      refine hK.out _ _ (hSB _ hB7) (fun hHeld => ?_)
      clear hK K
      try simp only [Act.put, lsA, lsB, lsC]
      refine oneL (i := 9) (by kernel_rfl) rfl (fun K hK => ?_)
      go_simp
      refine (spec_PoolOk (w1.heap.size + 1) (by omega) _ p w7 (hA4.below hB7) hd.1).mono ?_
      rintro e w8 ⟨rfl, hB8'⟩
      rw [hpk]
      have hB8 := chain hB7 hB8'
      dsimp only
      refine hK.out _ _ (hSB _ hB8) (fun hHeld => ?_)
      clear hK K
      try simp only [Act.put, lsA, lsB, lsC]
      refine takeQ (i := 10) (v := ?vq7007) rfl (by kernel_rfl) (fun _ _ _ h => h) (by rfl) ?hq7007 (by assumption) ?rq7007
      case hq7007 => (intro u hu; (try dsimp only at hu); go_simp <;> with_reducible rfl)
      try simp only [Act.put, lsA, lsB, lsC]
      refine takeQ (i := 11) (v := ?vq7008) rfl (by kernel_rfl) (fun _ _ _ h => h) (by rfl) ?hq7008 (by assumption) ?rq7008
      case hq7008 => (intro u hu; (try dsimp only at hu); go_simp <;> with_reducible rfl)
      try simp only [Act.put, lsA, lsB, lsC]
      refine takeQ (i := 12) (v := ?vq7009) rfl (by kernel_rfl) (fun _ _ _ h => h) (by rfl) ?hq7009 (by assumption) ?rq7009
      case hq7009 => (intro u hu; (try dsimp only at hu); go_simp <;> with_reducible rfl)
      try simp only [Act.put, lsA, lsB, lsC]
      refine takeQ (i := 13) (v := ?vq7010) rfl (by kernel_rfl) (fun _ _ _ h => h) (by rfl) ?hq7010 (by assumption) ?rq7010
      case hq7010 => (intro u hu; (try dsimp only at hu); go_simp <;> with_reducible rfl)
      try simp only [Act.put, lsA, lsB, lsC]
      refine oneL (i := 14) (by kernel_rfl) rfl (fun K hK => ?_)
      go_simp
      refine (spec_PoolOk (w1.heap.size + 1) (by omega) _ p w8 (hA4.below hB8) hd.1).mono ?_
      rintro e w9 ⟨rfl, hB9'⟩
      rw [hpk]
      have hB9 := chain hB8 hB9'
      dsimp only
      refine hK.out _ _ (hSB _ hB9) (fun hHeld => ?_)
      clear hK K
      try simp only [Act.put, lsA, lsB, lsC]
      refine takeQ (i := 15) (v := ?vq7011) rfl (by kernel_rfl) (fun _ _ _ h => h) (by rfl) ?hq7011 (by assumption) ?rq7011
      case hq7011 => (intro u hu; (try dsimp only at hu); go_simp <;> with_reducible rfl)
      try simp only [Act.put, lsA, lsB, lsC]
      refine takeQ (i := 16) (v := ?vq7012) rfl (by kernel_rfl) (fun _ _ _ h => h) (by rfl) ?hq7012 (by assumption) ?rq7012
      case hq7012 => (intro u hu; (try dsimp only at hu); go_simp <;> with_reducible rfl)
      try simp only [Act.put, lsA, lsB, lsC]
      refine wpAnyH_done (by kernel_rfl) ?_ _
      clear hS0 hSB hHeld x0 x1 x2 x3 x4 x5 RX hB5' hB6' hB7' hB8' hB9' hB5 hB6 hB7 hB8
      have P9 := P4.below hB9
      have hA9 := hA4.below hB9
      have hC9 := chain hC4 hB9
      have RW9 := RW.below hB9
      clear P4 hA4 hC4 RW hB9
      obtain ⟨x0, x1, x2, x3, x4, x5⟩ := P9.six'
      go_wp2_with fail
      have hSB : ∀ u, Below w9.heap.size w9 u → (fun u => u.cell? ⟨pb, 0, none⟩ = some (.int .i64 p.size) ∧ u.cell? ⟨pb, 1, none⟩ = some (.int .i64 p.next) ∧ u.cell? ⟨pb, 2, none⟩ = some (.slice ea en ec) ∧ u.cell? ⟨pb, 3, none⟩ = some (.slice va vn vc) ∧ u.cell? ⟨pb, 4, none⟩ = some (.slice ra rn rc) ∧ u.cell? ⟨pb, 5, none⟩ = some (.slice la ln lc)) u := fun u hu => ⟨bcell hu x0, bcell hu x1, bcell hu x2, bcell hu x3, bcell hu x4, bcell hu x5⟩
      have hS0 := hSB w9.drew ((Below.refl _ _).drew)
      refine wp_region_heldN (S := (fun u => u.cell? ⟨pb, 0, none⟩ = some (.int .i64 p.size) ∧ u.cell? ⟨pb, 1, none⟩ = some (.int .i64 p.next) ∧ u.cell? ⟨pb, 2, none⟩ = some (.slice ea en ec) ∧ u.cell? ⟨pb, 3, none⟩ = some (.slice va vn vc) ∧ u.cell? ⟨pb, 4, none⟩ = some (.slice ra rn rc) ∧ u.cell? ⟨pb, 5, none⟩ = some (.slice la ln lc))) 12 (by kernel_rfl) rfl ?_
      refine takeQ (i := 0) (v := ?vq7013) rfl (by kernel_rfl) (fun _ _ _ h => h) (by rfl) ?hq7013 (by assumption) ?rq7013
      case hq7013 => (intro u hu; (try dsimp only at hu); go_simp <;> with_reducible rfl)
      try simp only [Act.put, lsA, lsB, lsC]
      refine takeQ (i := 1) (v := ?vq7014) rfl (by kernel_rfl) (fun _ _ _ h => h) (by rfl) ?hq7014 (by assumption) ?rq7014
      case hq7014 => (intro u hu; (try dsimp only at hu); go_simp <;> with_reducible rfl)
      try simp only [Act.put, lsA, lsB, lsC]
      refine oneL (i := 2) (by kernel_rfl) rfl (fun K hK => ?_)
      go_simp
      refine (spec_Walked (w1.heap.size + 1) (by omega) _ p _ (hA9.below ((Below.refl _ _).drew)) hd.1).mono ?_
      rintro e w5 ⟨⟨xa, xn, xc, rfl, hxn, RX⟩, hB5'⟩
      have hB5 : Below w9.heap.size w9 w5 := chain ((Below.refl _ _).drew) hB5'
      dsimp only
      refine hK.out _ _ (hSB _ hB5) (fun hHeld => ?_)
      clear hK K
      try simp only [Act.put, lsA, lsB, lsC]
      refine oneL (i := 3) (by kernel_rfl) rfl (fun K hK => ?_)
      go_simp
      refine (laws_sameCounts wa wn wc (walkedL p) xa xn xc w5 (RW9.sl.below hB5) RX.sl (by omega)).mono ?_
      rintro e w6 ⟨rfl, hB6'⟩
      have hB6 := chain hB5 hB6'
      dsimp only
      refine hK.out _ _ (hSB _ hB6) (fun hHeld => ?_)
      clear hK K
      try simp only [Act.put, lsA, lsB, lsC]
      refine takeQ (i := 4) (v := ?vq7015) rfl (by kernel_rfl) (fun _ _ _ h => h) (by rfl) ?hq7015 (by assumption) ?rq7015
      case hq7015 => (intro u hu; (try dsimp only at hu); go_simp <;> with_reducible rfl)
      try simp only [Act.put, lsA, lsB, lsC]
      refine takeQ (i := 5) (v := ?vq7016) rfl (by kernel_rfl) (fun _ _ _ h => h) (by rfl) ?hq7016 (by assumption) ?rq7016
      case hq7016 => (intro u hu; (try dsimp only at hu); go_simp <;> with_reducible rfl)
      try simp only [Act.put, lsA, lsB, lsC]
      refine takeQ (i := 7) (v := ?vq7017) rfl (by kernel_rfl) (fun _ _ _ h => h) (by rfl) ?hq7017 (by assumption) ?rq7017
      case hq7017 => (intro u hu; (try dsimp only at hu); go_simp <;> with_reducible rfl)
      try simp only [Act.put, lsA, lsB, lsC]
      refine oneL (i := 6) (by kernel_rfl) rfl (fun K hK => ?_)
      go_simp
      refine (impl_PoolOk (w1.heap.size + 1) _ p w6 (hA9.below hB6) hd.1).mono ?_
      rintro e w7 ⟨rfl, hB7'⟩
      rw [hpk]
      have hB7 := chain hB6 hB7'
      dsimp only
      refine hK.out _ _ (hSB _ hB7) (fun hHeld => ?_)
      clear hK K
      try simp only [Act.put, lsA, lsB, lsC]
      refine oneL (i := 8) (by kernel_rfl) rfl (fun K hK => ?_)
      go_simp
      refine (spec_PoolOk (w1.heap.size + 1) (by omega) _ p w7 (hA9.below hB7) hd.1).mono ?_
      rintro e w8 ⟨rfl, hB8'⟩
      rw [hpk]
      have hB8 := chain hB7 hB8'
      dsimp only
      refine hK.out _ _ (hSB _ hB8) (fun hHeld => ?_)
      clear hK K
      try simp only [Act.put, lsA, lsB, lsC]
      refine takeQ (i := 9) (v := ?vq7018) rfl (by kernel_rfl) (fun _ _ _ h => h) (by rfl) ?hq7018 (by assumption) ?rq7018
      case hq7018 => (intro u hu; (try dsimp only at hu); go_simp <;> with_reducible rfl)
      try simp only [Act.put, lsA, lsB, lsC]
      refine takeQ (i := 10) (v := ?vq7019) rfl (by kernel_rfl) (fun _ _ _ h => h) (by rfl) ?hq7019 (by assumption) ?rq7019
      case hq7019 => (intro u hu; (try dsimp only at hu); go_simp <;> with_reducible rfl)
      try simp only [Act.put, lsA, lsB, lsC]
      refine takeQ (i := 11) (v := ?vq7020) rfl (by kernel_rfl) (fun _ _ _ h => h) (by rfl) ?hq7020 (by assumption) ?rq7020
      case hq7020 => (intro u hu; (try dsimp only at hu); go_simp <;> with_reducible rfl)
      try simp only [Act.put, lsA, lsB, lsC]
      refine wpAnyH_done (by kernel_rfl) ?_ _
      go_wp2
      go_returns
      exact ⟨rfl, chain hC9 hB8⟩
    · obtain ⟨x0, x1, x2, x3, x4, x5⟩ := P4.six'
      go_wp2_with fail
      have hSB : ∀ u, Below w4.heap.size w4 u → (fun u => u.cell? ⟨pb, 0, none⟩ = some (.int .i64 p.size) ∧ u.cell? ⟨pb, 1, none⟩ = some (.int .i64 p.next) ∧ u.cell? ⟨pb, 2, none⟩ = some (.slice ea en ec) ∧ u.cell? ⟨pb, 3, none⟩ = some (.slice va vn vc) ∧ u.cell? ⟨pb, 4, none⟩ = some (.slice ra rn rc) ∧ u.cell? ⟨pb, 5, none⟩ = some (.slice la ln lc)) u := fun u hu => ⟨bcell hu x0, bcell hu x1, bcell hu x2, bcell hu x3, bcell hu x4, bcell hu x5⟩
      have hS0 := hSB w4.drew ((Below.refl _ _).drew)
      refine wp_region_heldN (S := (fun u => u.cell? ⟨pb, 0, none⟩ = some (.int .i64 p.size) ∧ u.cell? ⟨pb, 1, none⟩ = some (.int .i64 p.next) ∧ u.cell? ⟨pb, 2, none⟩ = some (.slice ea en ec) ∧ u.cell? ⟨pb, 3, none⟩ = some (.slice va vn vc) ∧ u.cell? ⟨pb, 4, none⟩ = some (.slice ra rn rc) ∧ u.cell? ⟨pb, 5, none⟩ = some (.slice la ln lc))) 17 (by kernel_rfl) rfl ?_
      refine takeQ (i := 0) (v := ?vq7021) rfl (by kernel_rfl) (fun _ _ _ h => h) (by rfl) ?hq7021 (by assumption) ?rq7021
      case hq7021 => (intro u hu; (try dsimp only at hu); go_simp <;> with_reducible rfl)
      try simp only [Act.put, lsA, lsB, lsC]
      refine takeQ (i := 1) (v := ?vq7022) rfl (by kernel_rfl) (fun _ _ _ h => h) (by rfl) ?hq7022 (by assumption) ?rq7022
      case hq7022 => (intro u hu; (try dsimp only at hu); go_simp <;> with_reducible rfl)
      try simp only [Act.put, lsA, lsB, lsC]
      refine oneL (i := 2) (by kernel_rfl) rfl (fun K hK => ?_)
      go_simp
      refine (spec_Walked (w1.heap.size + 1) (by omega) _ p _ (hA4.below ((Below.refl _ _).drew)) hd.1).mono ?_
      rintro e w5 ⟨⟨xa, xn, xc, rfl, hxn, RX⟩, hB5'⟩
      have hB5 : Below w4.heap.size w4 w5 := chain ((Below.refl _ _).drew) hB5'
      dsimp only
      refine hK.out _ _ (hSB _ hB5) (fun hHeld => ?_)
      clear hK K
      try simp only [Act.put, lsA, lsB, lsC]
      refine oneL (i := 3) (by kernel_rfl) rfl (fun K hK => ?_)
      go_simp
      refine (laws_sameCounts wa wn wc (walkedL p) xa xn xc w5 (RW.sl.below hB5) RX.sl (by omega)).mono ?_
      rintro e w6 ⟨rfl, hB6'⟩
      have hB6 := chain hB5 hB6'
      dsimp only
      refine hK.out _ _ (hSB _ hB6) (fun hHeld => ?_)
      clear hK K
      try simp only [Act.put, lsA, lsB, lsC]
      refine takeQ (i := 4) (v := ?vq7023) rfl (by kernel_rfl) (fun _ _ _ h => h) (by rfl) ?hq7023 (by assumption) ?rq7023
      case hq7023 => (intro u hu; (try dsimp only at hu); go_simp <;> with_reducible rfl)
      try simp only [Act.put, lsA, lsB, lsC]
      refine takeQ (i := 5) (v := ?vq7024) rfl (by kernel_rfl) (fun _ _ _ h => h) (by rfl) ?hq7024 (by assumption) ?rq7024
      case hq7024 => (intro u hu; (try dsimp only at hu); go_simp <;> with_reducible rfl)
      try simp only [Act.put, lsA, lsB, lsC]
      refine takeQ (i := 6) (v := ?vq7025) rfl (by kernel_rfl) (fun _ _ _ h => h) (by rfl) ?hq7025 (by assumption) ?rq7025
      case hq7025 => (intro u hu; (try dsimp only at hu); go_simp <;> with_reducible rfl)
      try simp only [Act.put, lsA, lsB, lsC]
      refine takeQ (i := 8) (v := ?vq7026) rfl (by kernel_rfl) (fun _ _ _ h => h) (by rfl) ?hq7026 (by assumption) ?rq7026
      case hq7026 => (intro u hu; (try dsimp only at hu); go_simp <;> with_reducible rfl)
      try simp only [Act.put, lsA, lsB, lsC]
      refine oneL (i := 7) (by kernel_rfl) rfl (fun K hK => ?_)
      go_simp
      refine (impl_PoolOk (w1.heap.size + 1) _ p w6 (hA4.below hB6) hd.1).mono ?_
      rintro e w7 ⟨rfl, hB7'⟩
      rw [hpk]
      have hB7 := chain hB6 hB7'
      dsimp only
      refine hK.out _ _ (hSB _ hB7) (fun hHeld => ?_)
      clear hK K
      try simp only [Act.put, lsA, lsB, lsC]
      refine oneL (i := 9) (by kernel_rfl) rfl (fun K hK => ?_)
      go_simp
      refine (spec_PoolOk (w1.heap.size + 1) (by omega) _ p w7 (hA4.below hB7) hd.1).mono ?_
      rintro e w8 ⟨rfl, hB8'⟩
      rw [hpk]
      have hB8 := chain hB7 hB8'
      dsimp only
      refine hK.out _ _ (hSB _ hB8) (fun hHeld => ?_)
      clear hK K
      try simp only [Act.put, lsA, lsB, lsC]
      refine takeQ (i := 10) (v := ?vq7027) rfl (by kernel_rfl) (fun _ _ _ h => h) (by rfl) ?hq7027 (by assumption) ?rq7027
      case hq7027 => (intro u hu; (try dsimp only at hu); go_simp <;> with_reducible rfl)
      try simp only [Act.put, lsA, lsB, lsC]
      refine takeQ (i := 11) (v := ?vq7028) rfl (by kernel_rfl) (fun _ _ _ h => h) (by rfl) ?hq7028 (by assumption) ?rq7028
      case hq7028 => (intro u hu; (try dsimp only at hu); go_simp <;> with_reducible rfl)
      try simp only [Act.put, lsA, lsB, lsC]
      refine takeQ (i := 12) (v := ?vq7029) rfl (by kernel_rfl) (fun _ _ _ h => h) (by rfl) ?hq7029 (by assumption) ?rq7029
      case hq7029 => (intro u hu; (try dsimp only at hu); go_simp <;> with_reducible rfl)
      try simp only [Act.put, lsA, lsB, lsC]
      refine takeQ (i := 13) (v := ?vq7030) rfl (by kernel_rfl) (fun _ _ _ h => h) (by rfl) ?hq7030 (by assumption) ?rq7030
      case hq7030 => (intro u hu; (try dsimp only at hu); go_simp <;> with_reducible rfl)
      try simp only [Act.put, lsA, lsB, lsC]
      refine oneL (i := 14) (by kernel_rfl) rfl (fun K hK => ?_)
      go_simp
      refine (spec_PoolOk (w1.heap.size + 1) (by omega) _ p w8 (hA4.below hB8) hd.1).mono ?_
      rintro e w9 ⟨rfl, hB9'⟩
      rw [hpk]
      have hB9 := chain hB8 hB9'
      dsimp only
      refine hK.out _ _ (hSB _ hB9) (fun hHeld => ?_)
      clear hK K
      try simp only [Act.put, lsA, lsB, lsC]
      refine takeQ (i := 15) (v := ?vq7031) rfl (by kernel_rfl) (fun _ _ _ h => h) (by rfl) ?hq7031 (by assumption) ?rq7031
      case hq7031 => (intro u hu; (try dsimp only at hu); go_simp <;> with_reducible rfl)
      try simp only [Act.put, lsA, lsB, lsC]
      refine takeQ (i := 16) (v := ?vq7032) rfl (by kernel_rfl) (fun _ _ _ h => h) (by rfl) ?hq7032 (by assumption) ?rq7032
      case hq7032 => (intro u hu; (try dsimp only at hu); go_simp <;> with_reducible rfl)
      try simp only [Act.put, lsA, lsB, lsC]
      refine wpAnyH_done (by kernel_rfl) ?_ _
      clear hS0 hSB hHeld x0 x1 x2 x3 x4 x5 RX hB5' hB6' hB7' hB8' hB9' hB5 hB6 hB7 hB8
      have P9 := P4.below hB9
      have hA9 := hA4.below hB9
      have hC9 := chain hC4 hB9
      have RW9 := RW.below hB9
      clear P4 hA4 hC4 RW hB9
      obtain ⟨x0, x1, x2, x3, x4, x5⟩ := P9.six'
      have hfl : Hid (flushedO p.rf p.lt = some (walkL p.vs)) := by
        show _ = _
        rw [(poolB_fl hpk).1, pool_walk hpk]
      obtain ⟨hr200, hrb⟩ := pool_refs hpk
      have htv := (pool_right hpk).2.2.1
      have hwk : walkedL p = walkL p.vs := by unfold walkedL; rw [if_pos hpk]
      rw [hwk] at RW9
      clear hwk
      obtain ⟨_, _, _, _, _, _, _, _, _, _, _, _, hv9, ⟨h1, k1⟩, ⟨h2, k2⟩, ⟨h3, k3⟩, h4, k4⟩ := hA9
      simp only [Value.agg.injEq, Array.mk.injEq, List.cons.injEq, Value.slice.injEq, and_true, true_and] at hv9
      obtain ⟨⟨rfl, rfl, rfl⟩, ⟨rfl, rfl, rfl⟩, ⟨rfl, rfl, rfl⟩, ⟨rfl, rfl, rfl⟩⟩ := hv9
      go_wp2_with fail
      refine (impl_Flushed ra rn rc p.rf la ln lc p.lt w9 h3 h4 hd.1.2.2.2.2.2.1 hd.1.2.2.2.2.2.2.2 (by rw [← h3.len]; exact hd.1.2.2.2.2.1) (by rw [← h4.len]; exact hd.1.2.2.2.2.2.2.1)).mono ?_
      rintro e w10 ⟨hret, hB10⟩
      rw [hfl.out] at hret
      obtain ⟨fa, fn, fc, rfl, hfn, RF⟩ := hret
      have P10 := P9.below hB10
      have hV := h2.below hB10
      have RW10 := RW9.below hB10
      have hC10 := chain hC9 hB10
      have hlw : Hid ((walkL p.vs).length = wn) := RW10.sl.len
      have hwn2 : wn ≤ 200 := by rw [← hlw.out]; exact hr200
      clear x0 x1 x2 x3 x4 x5 P9 RW9 hC9 hB10 h1 h2 h3 h4 hfl k1 k2 k3 k4
      have hsw : Hid (sumAll (walkL p.vs) = ((allCs p.vs).length : Int)) := sum_walk p.vs
      go_wp2_with fail
      go_loopw [7, 8] (fun sm ix wr => ∃ k : Nat, k ≤ wn ∧ ix = .int .i64 k ∧ sm = .int .i64 (sumAll ((walkL p.vs).take k)) ∧ w10 = wr) (fun _ ix _ => wn - (intOf ix).toNat)
      case atStart => exact ⟨0, Nat.zero_le _, rfl, by simp [sumAll], rfl⟩
      case round =>
        obtain ⟨k, hk, rfl, rfl, rfl⟩ := hrel
        by_cases hlt : k < wn
        · obtain ⟨b, o, c, rfl, hc, _, _, _, c3⟩ := cts_at RW10.sl hlt
          have hcb := hrb c (List.mem_of_getElem? hc)
          have hsb := sumAll_bd (l := (walkL p.vs).take k) (fun d hd => hrb d (List.mem_of_mem_take hd))
          have hlk : ((walkL p.vs).take k).length ≤ 200 := Nat.le_trans (List.length_take_le' ..) hr200
          have hst : Hid (sumAll ((walkL p.vs).take (k + 1)) = sumAll ((walkL p.vs).take k) + c.n) := sumAll_take hc
          obtain ⟨sv, hsv⟩ : ∃ sv, sumAll ((walkL p.vs).take k) = sv := ⟨_, rfl⟩
          rw [hsv] at hsb hst ⊢
          clear hc hsv
          have hk1 : (k : Int) < wn := by omega
          have hk2 : (0 : Int) ≤ k := by omega
          have hs0 : IntKind.i64.wrap (sv + c.n) = sv + c.n := by rw [IntKind.wrap_i64]; omega
          go_wp2
          go_roundw
          case rel => exact ⟨k + 1, by omega, by go_num, by rw [hst.out], by first | trivial | rfl⟩
          case measure => simp [intOf]; omega
        · obtain rfl : k = wn := by omega
          rw [List.take_of_length_le (Nat.le_of_eq hlw.out), hsw.out]
          have hlv : Hid (p.vs.length = vn) := hV.len
          have hv6 : vn ≤ 6 := by rw [← hlv.out]; exact htv.1
          obtain ⟨x0, x1, x2, x3, x4, x5⟩ := P10.six'
          have hmax : Hid ((allCs p.vs).length = (allCs p.vs).length) := rfl
          generalize hML : (allCs p.vs).length = ML at *
          go_wp2_with fail
          go_loopw [9, 10] (fun mn ix wr => ∃ i : Nat, i ≤ vn ∧ ix = .int .i64 i ∧ mn = .int .i64 ((allCs (p.vs.take i)).length : Int) ∧ (allCs (p.vs.take i)).length ≤ 80 * i ∧ w10 = wr) (fun _ ix _ => vn - (intOf ix).toNat)
          case atStart => exact ⟨0, Nat.zero_le _, rfl, by simp [allCs], by simp [allCs], rfl⟩
          case round =>
            obtain ⟨i, hi, rfl, rfl, hib, rfl⟩ := hrel
            by_cases hlt : i < vn
            · obtain ⟨b, o, v, ia, inn, icp, rfl, hv, _, _, _, c3, hI, _, _⟩ := vs_at hV hlt
              obtain ⟨t1, t2⟩ := htv.2 v (List.mem_of_getElem? hv)
              have hil : Hid (v.its.length = inn) := hI.len
              rw [hil.out] at t1
              have hi1 : (i : Int) < vn := by omega
              have hi2 : (0 : Int) ≤ i := by omega
              have hall : Hid ((allCs (p.vs.take (i + 1))).length = (allCs (p.vs.take i)).length + (itsCs v v.its).length) := by
                show _ = _
                rw [allCs_take hv, List.length_append]
              clear hv
              generalize (allCs (p.vs.take i)).length = MA at *
              go_wp2_with fail
              go_loopw [9, 11] (fun mn ix wr => ∃ k : Nat, k ≤ inn ∧ ix = .int .i64 k ∧ mn = .int .i64 ((MA + (itsCs v (v.its.take k)).length : Nat) : Int) ∧ (itsCs v (v.its.take k)).length ≤ 16 * k ∧ w10 = wr) (fun _ ix _ => inn - (intOf ix).toNat)
              case atStart => exact ⟨0, Nat.zero_le _, rfl, by simp [itsCs], by simp [itsCs], rfl⟩
              case round =>
                obtain ⟨k, hk, rfl, rfl, hkb, rfl⟩ := hrel
                by_cases hlk : k < inn
                · obtain ⟨b', o', x, pa, pn, pc, rfl, hx, _, d1, hP, _, _, _⟩ := its_at hI hlk
                  obtain ⟨u1, u2⟩ := t2 x (List.mem_of_getElem? hx)
                  have hpl : Hid (x.ps.length = pn) := hP.len
                  rw [hpl.out] at u1
                  have hk1 : (k : Int) < inn := by omega
                  have hk2 : (0 : Int) ≤ k := by omega
                  have hits : Hid ((itsCs v (v.its.take (k + 1))).length = (itsCs v (v.its.take k)).length + (partCs v.id x.nm x.ps).length) := by
                    show _ = _
                    rw [itsCs_take hx, List.length_append]
                  clear hx
                  generalize (itsCs v (v.its.take k)).length = MI at *
                  go_wp2_with fail
                  go_loopw [9, 12] (fun mn ix wr => ∃ j : Nat, j ≤ pn ∧ ix = .int .i64 j ∧ mn = .int .i64 ((MA + MI + (partCs v.id x.nm (x.ps.take j)).length : Nat) : Int) ∧ (partCs v.id x.nm (x.ps.take j)).length ≤ j ∧ w10 = wr) (fun _ ix _ => pn - (intOf ix).toNat)
                  case atStart => exact ⟨0, Nat.zero_le _, rfl, by simp [partCs], by simp [partCs], rfl⟩
                  case round =>
                    obtain ⟨j, hj, rfl, rfl, hjb, rfl⟩ := hrel
                    by_cases hlj : j < pn
                    · obtain ⟨b2, o2, q, rfl, hq, f0, _, _⟩ := pts_at hP hlj
                      have hqa := u2 q (List.mem_of_getElem? hq)
                      have hpt := partCs_take (id := v.id) (nm := x.nm) hq
                      clear hq
                      have hj1 : (j : Int) < pn := by omega
                      have hj2 : (0 : Int) ≤ j := by omega
                      by_cases hz : 0 < q.a
                      · have hne : (q.a == 0) = false := beq_eq_false_iff_ne.2 (by omega)
                        rw [hne] at hpt
                        have hpl2 : Hid ((partCs v.id x.nm (x.ps.take (j + 1))).length = (partCs v.id x.nm (x.ps.take j)).length + 1) := by
                          show _ = _
                          rw [hpt]; simp
                        clear hpt hne
                        generalize (partCs v.id x.nm (x.ps.take j)).length = MP at *
                        go_wp2
                        go_roundw
                        case rel => exact ⟨j + 1, by omega, by go_num, by rw [hpl2.out]; go_num, by rw [hpl2.out]; omega, by first | trivial | rfl⟩
                        case measure => simp [intOf]; omega
                      · have hne : (q.a == 0) = true := by simp; omega
                        rw [hne] at hpt
                        simp only [if_true, List.append_nil] at hpt
                        have hpl2 : Hid ((partCs v.id x.nm (x.ps.take (j + 1))).length = (partCs v.id x.nm (x.ps.take j)).length) := by
                          show _ = _
                          rw [hpt]
                        clear hpt hne
                        generalize (partCs v.id x.nm (x.ps.take j)).length = MP at *
                        go_wp2
                        go_roundw
                        case rel => exact ⟨j + 1, by omega, by go_num, by rw [hpl2.out], by rw [hpl2.out]; omega, by first | trivial | rfl⟩
                        case measure => simp [intOf]; omega
                    · obtain rfl : j = pn := by omega
                      rw [List.take_of_length_le (Nat.le_of_eq hpl.out)] at hjb ⊢
                      generalize (partCs v.id x.nm x.ps).length = MP at *
                      go_wp2
                      go_roundw
                      case rel => exact ⟨k + 1, by omega, by go_num, by rw [hits.out]; simp only [Nat.add_assoc], by rw [hits.out]; omega, by first | trivial | rfl⟩
                      case measure => simp [intOf]; omega
                · obtain rfl : k = inn := by omega
                  rw [List.take_of_length_le (Nat.le_of_eq hil.out)] at hkb ⊢
                  generalize (itsCs v v.its).length = MI at *
                  go_wp2
                  go_roundw
                  case rel => exact ⟨i + 1, by omega, by go_num, by rw [hall.out], by rw [hall.out]; omega, by first | trivial | rfl⟩
                  case measure => simp [intOf]; omega
            · obtain rfl : i = vn := by omega
              rw [List.take_of_length_le (Nat.le_of_eq hlv.out), hML]
              go_wp2_with fail
              refine (laws_sameCounts fa fn fc (walkL p.vs) wa _ wc w10 RF.sl RW10.sl (by omega)).mono ?_
              rintro e w11 ⟨rfl, hB11⟩
              have heq : ((ML : Int) == (ML : Int)) = true := by simp
              go_wp2
              go_returns
              exact ⟨rfl, chain hC10 hB11⟩
  · have hb : decide (1048576 < n) = true := by simp; omega
    go_enter Tryz.func3, Tryz.ntmps3
    go_wp2_with fail
    refine (laws_bigC a n cap _ hm).mono ?_
    rintro e w1 ⟨rfl, rfl⟩
    rw [hb]
    go_wp2
    go_returns
    exact ⟨rfl, Below.refl _ _⟩
set_option maxRecDepth 100000 in
theorem liftedDWalked (os : Os) (started : os.Started) (H : Type) (enc : TypeId × Value → H) :
    ReturnsInHanded {} Tryz.checked os 3 .any (Rows.fnWalkedSpec.pre6 enc Tryz.prog Tryz.f3 Rows.fnWalkedRow.domain false) (Rows.fnWalkedSpec.post enc Tryz.prog Tryz.f3 false true false false) := by
  refine returnsInHanded_of_change (C := Tryz.checked) own started (by kernel_rfl) Tryz.func3
    (ChangeSpec.witness6 (enc := enc) (C := Tryz.checked) false ⟨#[], #[.slice none 0 0], []⟩ 8 (by kernel_rfl) (by kernel_rfl) (by kernel_rfl) (by kernel_rfl)) ?_
  intro W base args ds gs before hval0 hW _ _
  have hval : ∀ (j : Nat) t v, Tryz.f3.params[j]? = some t → args[j]? = some v → Value.okWide Tryz.prog W .any base t v := hval0
  have hW' := hW
  obtain ⟨p, q, hA0, hV, rfl, _, _⟩ := hW
  have hA : DataW.TrodAll enc Tryz.prog W 0 (fun _ => true) true Tryz.f3.params.toList args.toList ds p := hA0
  rw [Tryz.params3] at hA hval
  obtain ⟨v0, vs0, d0, ds0, p0, q0, hargs, rfl, rfl, h0, r0⟩ := trodAll_cons hA
  obtain ⟨rfl, rfl, rfl⟩ := trodAll_nil r0
  obtain rfl : args = #[v0] := by cases args; simp_all
  obtain ⟨rfl, rfl⟩ := trodVars_none hV
  clear hA0 hval0
  simp only [List.append_nil] at hW'
  have hlt : ∀ x ∈ p0, x.block < W.heap.size := fun x hx => by simpa using hW'.lt x hx
  obtain ⟨a0, len, cap, rfl⟩ := okWide_slice Tryz.underlying22 (hval 0 22 v0 rfl rfl)
  obtain ⟨hmx, hl⟩ := open_code h0
  unfold maxLen at hmx
  refine (walkDWalked a0 len cap W hl (by omega)).mono fun e W' ⟨he, hB⟩ => ?_
  subst he
  have hargs : DataW.Trod enc Tryz.prog W' 0 (fun b => decide (b < W.heap.size)) true 22 (.slice a0 len cap) d0 p0 :=
    Below.trod laidOut (by kernel_rfl) (of_decide_eq_true (by kernel_rfl)) h0 hB hlt
  exact ⟨_, rfl, ⟨_, _, _, [], _, [], hW', trodAll_mk1 (shut_bool Tryz.underlying4 _), trodAll_mk1 hargs, rfl, hB.frame _, fun h => by cases h⟩⟩
theorem holdsDWalked : Rows.FnWalkedSaid :=
  OpenClaim.holds_of_wide 3 Tryz.f3 rfl rfl rfl rfl rfl rfl rfl ⟨rfl, rfl, rfl, rfl, rfl⟩ rfl rfl rfl rfl rfl (by kernel_rfl) Tryz.func3 (joined_of (by kernel_rfl) (by kernel_rfl) (by kernel_rfl) (by kernel_rfl) rfl rfl rfl (by kernel_rfl))
    (of_decide_eq_true (by kernel_rfl)) (by unfold Func.isWrapper; first | (rw [if_pos (by decide +kernel)]; kernel_rfl) | (rw [if_neg (by decide +kernel)]; exact ⟨rfl, rfl⟩))
    (fun os started H enc _ => liftedDWalked os started H enc)
end Go.Proofs.YtnjefbkhibfgmaaGreat
