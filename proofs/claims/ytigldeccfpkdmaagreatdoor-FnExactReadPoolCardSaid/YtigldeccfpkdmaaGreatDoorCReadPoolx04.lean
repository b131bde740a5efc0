/- Appending one element: the row that comes of it is the old one, or new. The lengths of parts, of the program and of the model; the model's PartsOk. The laws' comparison of two lists of parts. The row in the making: (*row).add. The model's l2Add. Answers' blocks, and what is kept while one of them is written. The gaps of the model: l1Gaps, GapsOf. -/
import Derived.Test.YtigldeccfpkdmaaGreatDoorCReadPoolx01
import Derived.Test.YtigldeccfpkdmaaGreatDoorCReadPoolx03
import Derived.Maps.AppendAt
import Derived.Test.YtigldeccfpkdmaaGreatDoorProg
import Derived.Test.YtigldeccfpkdmaaGreatDoorCReadPoolx00
import Derived.StillTailTactics
namespace Go.Proofs.YtigldeccfpkdmaaGreatDoor
open Go.RowKit
theorem app_fresh {P : Program} {w w' : World} {v v' : Value} (base : Nat) (t ty e : TypeId) (i : TypeInfo) (z : Value) (size bytes : Nat) (ht : P.underlying t = some (.slice e)) (hi : P.info? e = some i) (hz : i.zero = some z)
    (hsize : i.size = size) (hby : i.bytes = bytes) (n : Nat) (xs : List Value) (hown : w.ownsRow base e size v n xs)
    (a : Addr) (m c : Nat) (news : List Value) (hm : 0 < m) (hl : news.length = m * size) (hnews : ∀ j u, news[j]? = some u → w.cell? (a.add j) = some u) (h1 : ∀ u ∈ news, u.oneCell' = true)
    (h63 : n + m ≤ maxLen) (hbytes : (n + m) * bytes ≤ 140737488355328) (hr : (Builtin.append_ #[t, t] ty #[v, .slice (some a) m c]).run P w = .ok v' w') :
    ∀ g, v'.ownBlock = some g → v.ownBlock = some g ∨ w.heap.size ≤ g := by
  subst hsize
  subst hby
  have hsmall : n + m ≤ 9223372036854775807 := by simp only [maxLen] at h63; omega
  intro g' hg'
  rcases hown.2 with ⟨rfl, rfl⟩ | ⟨g, cap, cur, rfl, hbg, hg, hnc, hcm, hcs, htake⟩
  · have hr2 := run_append_nil (P := P) w t ty e i z ht hi hz a m c news hl hnews (by omega) (by omega) (by have hb := hbytes; simp only [Nat.zero_add] at hb; omega)
    rw [hr] at hr2
    cases hr2
    right
    simp [Value.ownBlock] at hg'
    omega
  · by_cases hroom : n + m ≤ cap
    · have hfit : n * i.size + news.length ≤ cur.size := by rw [hl, hcs, ← Nat.add_mul]; exact Nat.mul_le_mul_right _ hroom
      have hr2 := run_append_room (P := P) w t ty e i ht hi g n cap cur hg a m c news hl hnews h1 hroom hfit
      rw [hr] at hr2
      cases hr2
      left
      simpa [Value.ownBlock] using hg'
    · have holds : ∀ j u, xs[j]? = some u → w.cell? ((⟨g, 0, none⟩ : Addr).add j) = some u := hown.cells (g := g) rfl
      have hr2 := run_append_grow (P := P) w t ty e i z ht hi hz ⟨g, 0, none⟩ n cap xs hown.1 holds a m c news hl hnews (by omega) (by omega) (growslice_fits (by omega) hbytes)
      rw [hr] at hr2
      cases hr2
      right
      simp [Value.ownBlock] at hg'
      omega
end Go.Proofs.YtigldeccfpkdmaaGreatDoor
namespace Go.Proofs.YtigldeccfpkdmaaGreatDoor
open Go.RowKit Go.BigFrame
set_option maxHeartbeats 1000000 in
theorem spec_PartsOk (a : Option Addr) (n cap : Nat) (l : List Pt) (w : World) (h : PtsAt w a n l) (hn : n ≤ 4194304) :
    Calls Tryz.prog 179 #[.slice a n cap] w fun e w' => e = .returned (.bool (partsOkB l)) ∧ Below w.heap.size w w' := by
  have hlen := h.len
  by_cases h16 : n ≤ 16
  · have hfin : Hid (partsOkB l = sgo none 0 l) := by show _ = _; rw [sgo_pgo l none 0 (by omega) (by omega)]; simp [partsOkB, hlen, h16]
    have hlen' : Hid (l.length = n) := hlen
    clear hlen
    go_enter Tryz.func179, Tryz.ntmps179
    go_wp2_with fail
    go_loopw [2, 3, 4] (fun r s ix wr => ∃ (k : Nat) (lf : Int), k ≤ n ∧ ix = .int .i64 k ∧ s = .int .i64 lf ∧ 0 ≤ lf ∧ lf ≤ 100 * k ∧ Hid (sgo none 0 l = sgo (ahead l k) lf (l.drop k)) ∧ Below w.heap.size w wr) (fun _ _ ix _ => n - (intOf ix).toNat)
    case atStart => exact ⟨0, 0, Nat.zero_le _, rfl, rfl, by omega, by omega, rfl, Below.refl _ _⟩
    case round =>
      obtain ⟨k, lf, hk, rfl, rfl, hf0, hf1, hI, hB⟩ := hrel
      by_cases hlt : k < n
      · obtain ⟨b, o, p, rfl, hp, c0, c1, c2⟩ := pts_at (h.below hB) hlt
        have hd : Hid (l.drop k = p :: l.drop (k + 1)) := drop_at hp
        have hq : Hid (l[k]? = some p) := hp
        clear hp
        have hk1 : (k : Int) < n := by omega
        have hk2 : (0 : Int) ≤ k := by omega
        cases hpo : (partOkB p && decide (p.n ≤ 100))
        · go_wp2_with fail
          have g0 := gcell c0
          have g1 := gcell c1
          have g2 := gcell c2
          have hne := grw_ne wr
          refine wp_region_grow (by kernel_rfl) (by kernel_rfl) ?_
          repeat (go_big_quiet_step (first | (go_at_call 211; have qq := spec_l2PartOk p; rw [hpo] at qq; exact grow_of (qq _))))
          refine wpQuiet_nil ?_
          intro w2 hx
          have hB2 := grw_out hx
          clear hx
          go_wp2
          go_returns
          go_light
          refine ⟨ret_bool ?_, chain hB hB2⟩
          rw [hfin.out, hI.out, hd.out]; cases ahead l k <;> simp only [sgo, hpo, Bool.false_and]
        · have hpn : 1 ≤ p.n ∧ p.n ≤ 100 := by simp at hpo; exact ⟨partOkB_pos hpo.1, hpo.2⟩
          rcases k with _ | j
          · simp only [Nat.zero_mul, Nat.add_zero] at c0 c1 c2
            go_wp2_with fail
            have g0 := gcell c0
            have g1 := gcell c1
            have g2 := gcell c2
            have hne := grw_ne wr
            refine wp_region_grow (by kernel_rfl) (by kernel_rfl) ?_
            repeat (go_big_quiet_step (first | (go_at_call 211; have qq := spec_l2PartOk p; rw [hpo] at qq; exact grow_of (qq _))))
            refine wpQuiet_nil ?_
            intro w2 hx
            have hB2 := grw_out hx
            have d2 := bcell hB2 c2
            clear hx
            go_wp2
            go_roundw
            case rel => exact ⟨1, lf + p.n, by omega, by go_num, by go_num, by omega, by omega, by show _ = _; rw [hI.out, hd.out, ahead_zero, ahead_succ, hq.out]; simp only [sgo, hpo, Bool.true_and], chain hB hB2⟩
            case measure => simp [intOf]; omega
          · obtain ⟨b', o', q, hbo, hq', d0, d1, d2⟩ := pts_at (h.below hB) (k := j) (by omega)
            obtain ⟨rfl, rfl⟩ : b = b' ∧ o = o' := by simpa using hbo
            have ha : Hid (ahead l (j + 1) = some q) := by show _ = _; rw [ahead_succ]; exact hq'
            clear hq' hbo
            cases hgo : goesOnB q p
            all_goals
              go_wp2_with fail
              have g0 := gcell c0
              have g1 := gcell c1
              have g2 := gcell c2
              have g3 := gcell d0
              have g4 := gcell d1
              have g5 := gcell d2
              have hne := grw_ne wr
              refine wp_region_grow (by kernel_rfl) (by kernel_rfl) ?_
              repeat (go_big_quiet_step (first | (go_at_call 211; have qq := spec_l2PartOk p; rw [hpo] at qq; exact grow_of (qq _)) | (go_at_call 212; have qq := spec_l2Next q p; rw [hgo] at qq; exact grow_of (qq _))))
              refine wpQuiet_nil ?_
              intro w2 hx
              have hB2 := grw_out hx
              have e2 := bcell hB2 c2
              clear hx
              go_wp2
            · go_roundw
              case rel => exact ⟨j + 2, lf + p.n, by omega, by go_num, by go_num, by omega, by omega, by show _ = _; rw [hI.out, hd.out, ha.out, ahead_succ, hq.out]; simp only [sgo, hpo, hgo, Bool.true_and, Bool.not_false], chain hB hB2⟩
              case measure => simp [intOf]; omega
            · go_returns
              go_light
              refine ⟨ret_bool ?_, chain hB hB2⟩
              rw [hfin.out, hI.out, hd.out, ha.out]; simp only [sgo, hpo, hgo, Bool.true_and, Bool.not_true, Bool.false_and]
      · obtain rfl : k = n := by omega
        go_wp2
        go_returns
        go_light
        refine ⟨ret_bool ?_, hB⟩
        rw [hfin.out, hI.out, List.drop_of_length_le (Nat.le_of_eq hlen'.out)]; cases ahead l k <;> rfl
  · go_enter Tryz.func179, Tryz.ntmps179
    go_wp2
    go_returns
    go_light
    refine ⟨ret_bool ?_, Below.refl _ _⟩
    simp [partsOkB, hlen]; omega
end Go.Proofs.YtigldeccfpkdmaaGreatDoor
namespace Go.Proofs.YtigldeccfpkdmaaGreatDoor
open Go.RowKit Go.BigFrame
def eqPts : List Pt → List Pt → Bool
  | [], [] => true
  | p :: r, q :: s => eqPtB p q && eqPts r s
  | _, _ => false
theorem eqPtB_iff (p q : Pt) : eqPtB p q = true ↔ p = q := by
  cases p; cases q; simp [eqPtB, and_assoc]
theorem eqPts_iff (l : List Pt) : ∀ m, eqPts l m = true ↔ l = m := by
  induction l with
  | nil => intro m; cases m <;> simp [eqPts]
  | cons p r ih => intro m; cases m <;> simp [eqPts, eqPtB_iff, ih]
theorem eqPts_refl (l : List Pt) : eqPts l l = true := (eqPts_iff l l).2 rfl
theorem eqPts_len {l : List Pt} : ∀ {m : List Pt}, l.length ≠ m.length → eqPts l m = false := by
  induction l with
  | nil => intro m h; cases m <;> simp [eqPts] at *
  | cons p r ih => intro m h; cases m <;> simp [eqPts] at *; exact fun _ => ih h
set_option maxHeartbeats 1000000 in
theorem laws_eqPartS (a : Option Addr) (n cap : Nat) (l : List Pt) (a' : Option Addr) (n' cap' : Nat) (m : List Pt) (w : World) (h : PtsAt w a n l) (h' : PtsAt w a' n' m) (hn : n ≤ 4194304) (hn' : n' ≤ 4194304) :
    Calls Tryz.prog 241 #[.slice a n cap, .slice a' n' cap'] w fun e w' => e = .returned (.bool (eqPts l m)) ∧ Below w.heap.size w w' := by
  have hlen : Hid (l.length = n) := h.len
  have hlen' : Hid (m.length = n') := h'.len
  by_cases hne : n = n'
  · subst hne
    have hbn : ((n : Int) != (n : Int)) = false := by simp
    go_enter Tryz.func241, Tryz.ntmps241
    go_wp2_with fail
    go_loopw [5] (fun ix wr => ∃ (k : Nat), k ≤ n ∧ ix = .int .i64 k ∧ Hid (eqPts l m = eqPts (l.drop k) (m.drop k)) ∧ Below w.heap.size w wr) (fun ix _ => n - (intOf ix).toNat)
    case atStart => exact ⟨0, Nat.zero_le _, rfl, rfl, Below.refl _ _⟩
    case round =>
      obtain ⟨k, hk, rfl, hI, hB⟩ := hrel
      by_cases hlt : k < n
      · obtain ⟨b, o, p, rfl, hp, c0, c1, c2⟩ := pts_at (h.below hB) hlt
        obtain ⟨b', o', q, rfl, hq, d0, d1, d2⟩ := pts_at (h'.below hB) hlt
        have hd : Hid (l.drop k = p :: l.drop (k + 1)) := drop_at hp
        have hd' : Hid (m.drop k = q :: m.drop (k + 1)) := drop_at hq
        clear hp hq
        have hk1 : (k : Int) < n := by omega
        have hk2 : (0 : Int) ≤ k := by omega
        cases hpq : eqPtB p q
        all_goals
          go_wp2_with fail
          have g0 := gcell c0
          have g1 := gcell c1
          have g2 := gcell c2
          have g3 := gcell d0
          have g4 := gcell d1
          have g5 := gcell d2
          have hne := grw_ne wr
          refine wp_region_grow (by kernel_rfl) (by kernel_rfl) ?_
          repeat (go_big_quiet_step (first | (go_at_call 272; have qq := laws_eqPart p q; rw [hpq] at qq; exact grow_of (qq _))))
          refine wpQuiet_nil ?_
          intro w2 hx
          have hB2 := grw_out hx
          clear hx
          go_wp2
        · go_returns
          go_light
          refine ⟨ret_bool ?_, chain hB hB2⟩
          rw [hI.out, hd.out, hd'.out]; simp only [eqPts, hpq, Bool.false_and]
        · go_roundw
          case rel => exact ⟨k + 1, by omega, by go_num, by show _ = _; rw [hI.out, hd.out, hd'.out]; simp only [eqPts, hpq, Bool.true_and], chain hB hB2⟩
          case measure => simp [intOf]; omega
      · obtain rfl : k = n := by omega
        go_wp2
        go_returns
        go_light
        refine ⟨ret_bool ?_, hB⟩
        rw [hI.out, List.drop_of_length_le (Nat.le_of_eq hlen.out), List.drop_of_length_le (Nat.le_of_eq hlen'.out)]; rfl
  · have hbn : ((n : Int) != (n' : Int)) = true := by simp; omega
    go_enter Tryz.func241, Tryz.ntmps241
    go_wp2
    go_returns
    go_light
    refine ⟨ret_bool ?_, Below.refl _ _⟩
    rw [eqPts_len (by rw [hlen.out, hlen'.out]; exact hne)]
end Go.Proofs.YtigldeccfpkdmaaGreatDoor
namespace Go.Proofs.YtigldeccfpkdmaaGreatDoor
open Go.RowKit Go.BigFrame
/-- A region that draws its order, whose first n operations only read, what is left coming behind them in its own order. -/
theorem wp_region_tail {P : Program} {id : Nat} {Q : Exit → Act → World → Prop} {a : Act} {w : World} {l : List Oper} (n : Nat) (hm : P.follows .mixedOrders = true) (hB : Region.lexTailB .any l.toArray n = true)
    (h : wpStill P l.toArray w.drew (fun a' => wpList P l.toArray Q (l.drop n) a' w.drew) (l.take n) a) : (Code.region id l.toArray true).wp P Q a w :=
  wp_region_still_tail n hm hB h
/-- A row in the making: its parts, all lengths together, whether it grew too great. -/
structure RSt where
  L : List Pt
  s : Int
  ov : Bool
end Go.Proofs.YtigldeccfpkdmaaGreatDoor
namespace Go.Proofs.YtigldeccfpkdmaaGreatDoor
open Go.RowKit Go.BigFrame
/-- A slice value as Go has it. -/
structure ArgOk (a : Option Addr) (cap : Nat) : Prop where
  spot : ∀ ad, a = some ad → ad.spot = none
  nil : a = none → cap = 0
theorem ResAt.arg {α : Type} {cs : α → List Value} {sz : Nat} {t : TypeId} {w : World} {B n cap : Nat} {a : Option Addr} {l : List α} (h : ResAt cs sz t w B a n cap l) : ArgOk a cap := by
  rcases h.own with ⟨rfl, _, rfl⟩ | ⟨b, rfl, _⟩
  · exact ⟨fun ad h => (by cases h), fun _ => rfl⟩
  · exact ⟨fun ad h => (by cases h; rfl), fun h => (by cases h)⟩
end Go.Proofs.YtigldeccfpkdmaaGreatDoor
namespace Go.Proofs.YtigldeccfpkdmaaGreatDoor
open Go.RowKit Go.BigFrame
/-- The row that a slice of the call's own lies in. -/
def rowB : Option Addr → Option Nat
  | none => none
  | some ad => some ad.block
theorem below_grownO {w w1 w' : World} {row : Option Nat} (hb : Below w.heap.size w w1) (hg : w1.grownBy w' row) (hn : ∀ k, row = some k → w.heap.size ≤ k) : Below w.heap.size w w' := hb.grown hg hb.size hn
theorem rowB_ge {a : Option Addr} {B : Nat} (h : ∀ ad, a = some ad → B ≤ ad.block) : ∀ k, rowB a = some k → B ≤ k := by
  intro k hk
  cases a with
  | none => cases hk
  | some ad => have := h ad rfl; simp [rowB] at hk; omega
end Go.Proofs.YtigldeccfpkdmaaGreatDoor
namespace Go.Proofs.YtigldeccfpkdmaaGreatDoor
open Go.RowKit Go.BigFrame
theorem own_ne' {a : Option Addr} {n cap x B : Nat} (h : ∀ ad, a = some ad → B ≤ ad.block) (hx : x < B) : some x ≠ Value.ownBlock (.slice a n cap) := by
  cases a with
  | none => simp [Value.ownBlock]
  | some ad => have := h ad rfl; simp [Value.ownBlock]; omega
end Go.Proofs.YtigldeccfpkdmaaGreatDoor
