/- Names and owners: NameOk, ownerOk, the order of owners, of the program and of the model. -/
import Derived.Test.YtnjefbkhibfgmaaGreatProg
import Derived.Test.YtnjefbkhibfgmaaGreatLDAskedx02
import Derived.Test.YtnjefbkhibfgmaaGreatLDAskedx01
import Derived.Test.YtnjefbkhibfgmaaGreatLDAskedx03
namespace Go.Proofs.YtnjefbkhibfgmaaGreat
open Go.RowKit Go.BigFrame
def letB (c : UInt8) : Bool := decide (97 ≤ (c.toNat : Int)) && decide ((c.toNat : Int) ≤ 122)
def nameB (d : ByteArray) : Bool := decide (1 ≤ d.size) && decide (d.size ≤ 8) && d.data.toList.all letB
set_option maxHeartbeats 400000 in
theorem impl_NameOk (d : ByteArray) (w : World) (hd : d.size ≤ 9223372036854775807) :
    Calls Tryz.prog 69 #[.string d] w fun e w' => e = .returned (.bool (nameB d)) ∧ w' = w := by
  by_cases h1 : 1 ≤ d.size ∧ d.size ≤ 8
  · have hfin : Hid (nameB d = (d.data.toList.drop 0).all letB) := by show _ = _; simp [nameB, h1]
    obtain ⟨h1, h20⟩ := h1
    go_enter Tryz.func69, Tryz.ntmps69
    go_wp2_with fail
    go_loop [14] (fun ix => ∃ (k : Nat), k ≤ d.size ∧ ix = .int .i64 k ∧ Hid (nameB d = (d.data.toList.drop k).all letB)) (fun ix => d.size - (intOf ix).toNat)
    case atStart => exact ⟨0, Nat.zero_le _, rfl, hfin⟩
    case round =>
      obtain ⟨k, hk, rfl, hI⟩ := hrel
      by_cases hlt : k < d.size
      · have hs : Hid (d.data.toList.drop k = d[k] :: d.data.toList.drop (k + 1)) := str_drop d k hlt
        cases hc : letB d[k]
        · have hc' : (d[k].toNat : Int) < 97 ∨ 122 < (d[k].toNat : Int) := by simp [letB] at hc; omega
          go_wp2
          all_goals go_returns
          all_goals go_light
          all_goals (refine ⟨ret_bool ?_, rfl⟩; rw [hI.out, hs.out]; simp [hc])
        · have hc' : 97 ≤ (d[k].toNat : Int) ∧ (d[k].toNat : Int) ≤ 122 := by simp [letB] at hc; omega
          obtain ⟨hc1, hc2⟩ := hc'
          go_wp2
          go_round
          case rel => exact ⟨k + 1, by omega, by go_num, by show _ = _; rw [hI.out, hs.out]; simp [hc]⟩
          case measure => simp [intOf]; omega
      · obtain rfl : k = d.size := by omega
        go_wp2
        go_returns
        go_light
        refine ⟨ret_bool ?_, rfl⟩
        rw [hI.out, List.drop_of_length_le (by simp)]; rfl
  · have hfin : Hid (nameB d = false) := by show _ = _; simp [nameB]; omega
    go_enter Tryz.func69, Tryz.ntmps69
    go_wp2
    all_goals go_returns
    all_goals go_light
    all_goals exact ⟨ret_bool hfin.out.symm, rfl⟩
set_option maxHeartbeats 400000 in
theorem spec_NameOk (d : ByteArray) (w : World) (hd : d.size ≤ 9223372036854775807) :
    Calls Tryz.prog 72 #[.string d] w fun e w' => e = .returned (.bool (nameB d)) ∧ w' = w := by
  by_cases h1 : 1 ≤ d.size ∧ d.size ≤ 8
  · have hfin : Hid (nameB d = (d.data.toList.drop 0).all letB) := by show _ = _; simp [nameB, h1]
    obtain ⟨h1, h20⟩ := h1
    go_enter Tryz.func72, Tryz.ntmps72
    go_wp2_with fail
    go_loop [3] (fun ix => ∃ (k : Nat), k ≤ d.size ∧ ix = .int .i64 k ∧ Hid (nameB d = (d.data.toList.drop k).all letB)) (fun ix => d.size - (intOf ix).toNat)
    case atStart => exact ⟨0, Nat.zero_le _, rfl, hfin⟩
    case round =>
      obtain ⟨k, hk, rfl, hI⟩ := hrel
      by_cases hlt : k < d.size
      · have hs : Hid (d.data.toList.drop k = d[k] :: d.data.toList.drop (k + 1)) := str_drop d k hlt
        cases hc : letB d[k]
        · have hc' : (d[k].toNat : Int) < 97 ∨ 122 < (d[k].toNat : Int) := by simp [letB] at hc; omega
          go_wp2
          all_goals go_returns
          all_goals go_light
          all_goals (refine ⟨ret_bool ?_, rfl⟩; rw [hI.out, hs.out]; simp [hc])
        · have hc' : 97 ≤ (d[k].toNat : Int) ∧ (d[k].toNat : Int) ≤ 122 := by simp [letB] at hc; omega
          obtain ⟨hc1, hc2⟩ := hc'
          go_wp2
          go_round
          case rel => exact ⟨k + 1, by omega, by go_num, by show _ = _; rw [hI.out, hs.out]; simp [hc]⟩
          case measure => simp [intOf]; omega
      · obtain rfl : k = d.size := by omega
        go_wp2
        go_returns
        go_light
        refine ⟨ret_bool ?_, rfl⟩
        rw [hI.out, List.drop_of_length_le (by simp)]; rfl
  · have hfin : Hid (nameB d = false) := by show _ = _; simp [nameB]; omega
    go_enter Tryz.func72, Tryz.ntmps72
    go_wp2
    all_goals go_returns
    all_goals go_light
    all_goals exact ⟨ret_bool hfin.out.symm, rfl⟩
end Go.Proofs.YtnjefbkhibfgmaaGreat
namespace Go.Proofs.YtnjefbkhibfgmaaGreat
open Go.RowKit Go.BigFrame
def ownerOkB (o : Ow) : Bool := decide (1 ≤ o.a) && decide (o.a ≤ 400) && decide (1 ≤ o.v) && decide (o.v ≤ 1000000000) && nameB o.f
set_option maxHeartbeats 400000 in
theorem impl_ownerOk (p : Ow) (w : World) (hd : p.f.size ≤ 9223372036854775807) :
    Calls Tryz.prog 76 #[.agg #[.int .i64 p.a, .int .i64 p.v, .string p.f]] w fun e w' => e = .returned (.bool (ownerOkB p)) ∧ Below w.heap.size w w' := by
  by_cases h : 1 ≤ p.a ∧ p.a ≤ 400 ∧ 1 ≤ p.v ∧ p.v ≤ 1000000000
  · have hfin : Hid (ownerOkB p = nameB p.f) := by show _ = _; simp [ownerOkB, h]
    generalize ownerOkB p = R at *
    obtain ⟨a, v, f⟩ := p
    simp only at *
    obtain ⟨h1, h2, h3, h4⟩ := h
    go_enter Tryz.func76, Tryz.ntmps76
    go_wp2_with fail
    refine (impl_NameOk f _ hd).mono ?_
    rintro e w1 ⟨rfl, rfl⟩
    go_wp2
    go_returns
    go_light
    exact ⟨ret_bool hfin.out.symm, by go_grown⟩
  · have hfin : Hid (ownerOkB p = false) := by show _ = _; simp [ownerOkB]; omega
    generalize ownerOkB p = R at *
    obtain ⟨a, v, f⟩ := p
    simp only at *
    go_enter Tryz.func76, Tryz.ntmps76
    go_wp2
    all_goals go_returns
    all_goals go_light
    all_goals exact ⟨ret_bool hfin.out.symm, by go_grown⟩
set_option maxHeartbeats 400000 in
theorem spec_l3Owner (p : Ow) (w : World) (hd : p.f.size ≤ 9223372036854775807) :
    Calls Tryz.prog 94 #[.agg #[.int .i64 p.a, .int .i64 p.v, .string p.f]] w fun e w' => e = .returned (.bool (ownerOkB p)) ∧ Below w.heap.size w w' := by
  have hfin : Hid (ownerOkB p = ((decide (1 ≤ p.a) && decide (p.a ≤ 400)) && (decide (1 ≤ p.v) && decide (p.v ≤ 1000000000)) && nameB p.f)) := by show _ = _; simp [ownerOkB, Bool.and_assoc]
  generalize ownerOkB p = R at *
  obtain ⟨a, v, f⟩ := p
  simp only at *
  cases h1 : (decide (1 ≤ a) && decide (a ≤ 400))
  · go_enter Tryz.func94, Tryz.ntmps94
    go_wp2_with fail
    refine (spec_l1In _ _ _ _).mono ?_
    rintro e w1 ⟨rfl, rfl⟩
    rw [h1]
    go_wp2
    go_returns
    go_light
    exact ⟨ret_bool (by rw [hfin.out, h1]; rfl), by go_grown⟩
  · cases h2 : (decide (1 ≤ v) && decide (v ≤ 1000000000))
    · go_enter Tryz.func94, Tryz.ntmps94
      go_wp2_with fail
      refine (spec_l1In _ _ _ _).mono ?_
      rintro e w1 ⟨rfl, rfl⟩
      rw [h1]
      go_wp2_with fail
      refine (spec_l1In _ _ _ _).mono ?_
      rintro e w1 ⟨rfl, rfl⟩
      rw [h2]
      go_wp2
      go_returns
      go_light
      exact ⟨ret_bool (by rw [hfin.out, h1, h2]; rfl), by go_grown⟩
    · go_enter Tryz.func94, Tryz.ntmps94
      go_wp2_with fail
      refine (spec_l1In _ _ _ _).mono ?_
      rintro e w1 ⟨rfl, rfl⟩
      rw [h1]
      go_wp2_with fail
      refine (spec_l1In _ _ _ _).mono ?_
      rintro e w1 ⟨rfl, rfl⟩
      rw [h2]
      go_wp2_with fail
      refine (spec_NameOk f _ hd).mono ?_
      rintro e w1 ⟨rfl, rfl⟩
      go_wp2
      go_returns
      go_light
      exact ⟨ret_bool (by rw [hfin.out, h1, h2]; rfl), by go_grown⟩
end Go.Proofs.YtnjefbkhibfgmaaGreat
namespace Go.Proofs.YtnjefbkhibfgmaaGreat
open Go.RowKit Go.BigFrame
def StrC (l : List Ct) : Prop := ∀ c ∈ l, c.o.f.size ≤ 9223372036854775807
theorem StrC.at {l : List Ct} (h : StrC l) {k : Nat} {e : Ct} (he : l[k]? = some e) : e.o.f.size ≤ 9223372036854775807 := h e (List.mem_of_getElem? he)
def lateB (c : Ct) : Bool := ownerOkB c.o && decide (-1000 ≤ c.n) && decide (c.n ≤ 1000) && !(c.n == 0)
def lateOkB (l : List Ct) : Bool := decide (l.length ≤ 200) && l.all lateB
theorem box4 {w w1 : World} {x y z u : Value} {t : TypeId} (hb : Below (w.alloc (.cells #[x, y, z, u] t)).heap.size (w.alloc (.cells #[x, y, z, u] t)) w1) :
    w1.cell? ⟨w.heap.size, 0, none⟩ = some x ∧ w1.cell? ⟨w.heap.size, 1, none⟩ = some y ∧ w1.cell? ⟨w.heap.size, 2, none⟩ = some z ∧ w1.cell? ⟨w.heap.size, 3, none⟩ = some u ∧ Below w.heap.size w w1 ∧ w.heap.size < w1.heap.size :=
  ⟨bcell hb (World.cell?_alloc_new _ _ _ 0), bcell hb (World.cell?_alloc_new _ _ _ 1), bcell hb (World.cell?_alloc_new _ _ _ 2), bcell hb (World.cell?_alloc_new _ _ _ 3),
    ((Below.refl _ _).alloc (Nat.le_refl _) _).trans (hb.mono (by simp)), by have := hb.size; simp at this; omega⟩
set_option maxHeartbeats 1000000 in
theorem impl_LateOk (a : Option Addr) (n cap : Nat) (l : List Ct) (w : World) (h : CtsAt w a n l) (hstr : StrC l) (hn : n ≤ 4194304) :
    Calls Tryz.prog 43 #[.slice a n cap] w fun e w' => e = .returned (.bool (lateOkB l)) ∧ Below w.heap.size w w' := by
  have hlen : Hid (l.length = n) := h.len
  by_cases h2 : n ≤ 200
  · have hfin : Hid (lateOkB l = (l.drop 0).all lateB) := by show _ = _; simp [lateOkB, hlen.out, h2]
    go_enter Tryz.func43, Tryz.ntmps43
    go_wp2_with fail
    go_loopw [10] (fun ix wr => ∃ (k : Nat), k ≤ n ∧ ix = .int .i64 k ∧ Hid (lateOkB l = (l.drop k).all lateB) ∧ Below w.heap.size w wr) (fun ix _ => n - (intOf ix).toNat)
    case atStart => exact ⟨0, Nat.zero_le _, rfl, hfin, Below.refl _ _⟩
    case round =>
      obtain ⟨k, hk, rfl, hI, hB⟩ := hrel
      by_cases hlt : k < n
      · obtain ⟨b, o, p, rfl, hp, c0, c1, c2, c3⟩ := cts_at (h.below hB) hlt
        have hd : Hid (l.drop k = p :: l.drop (k + 1)) := drop_at hp
        have hsz := hstr.at hp
        clear hp
        have hwr := hB.size
        cases hdo : ownerOkB p.o
        · go_wp2_with fail
          refine (impl_ownerOk p.o _ hsz).mono ?_
          rintro e w1 ⟨rfl, hB1⟩
          obtain ⟨x0, x1, x2, x3, hB1', hs1⟩ := box4 hB1
          rw [hdo]
          go_wp2
          go_returns
          go_light
          refine ⟨ret_bool ?_, chain hB hB1'⟩
          rw [hI.out, hd.out]; simp [lateB, hdo]
        · by_cases hok : -1000 ≤ p.n ∧ p.n ≤ 1000 ∧ p.n ≠ 0
          · obtain ⟨ha1, ha2, ha3⟩ := hok
            have hz : (p.n == 0) = false := beq_eq_false_iff_ne.2 ha3
            go_wp2_with fail
            refine (impl_ownerOk p.o _ hsz).mono ?_
            rintro e w1 ⟨rfl, hB1⟩
            obtain ⟨x0, x1, x2, x3, hB1', hs1⟩ := box4 hB1
            rw [hdo]
            go_wp2
            go_roundw
            case rel => exact ⟨k + 1, by omega, by go_num, by show _ = _; rw [hI.out, hd.out]; simp [lateB, hdo, ha1, ha2, ha3], chain hB hB1'⟩
            case measure => simp [intOf]; omega
          · have hz : Hid (lateB p = false) := by
              show _ = _
              by_cases hz : p.n = 0
              · simp [lateB, hz]
              · simp [lateB, hz]; omega
            go_wp2_with fail
            refine (impl_ownerOk p.o _ hsz).mono ?_
            rintro e w1 ⟨rfl, hB1⟩
            obtain ⟨x0, x1, x2, x3, hB1', hs1⟩ := box4 hB1
            rw [hdo]
            cases hz' : (p.n == 0)
            all_goals (have hzz := hz'; simp at hzz)
            all_goals go_wp2
            all_goals go_returns
            all_goals go_light
            all_goals refine ⟨ret_bool ?_, chain hB hB1'⟩
            all_goals (rw [hI.out, hd.out]; simp [hz.out])
      · obtain rfl : k = n := by omega
        go_wp2
        go_returns
        go_light
        refine ⟨ret_bool ?_, hB⟩
        rw [hI.out, List.drop_of_length_le (Nat.le_of_eq hlen.out)]; rfl
  · have hfin : Hid (lateOkB l = false) := by show _ = _; have := hlen.out; simp [lateOkB]; omega
    go_enter Tryz.func43, Tryz.ntmps43
    go_wp2
    go_returns
    go_light
    exact ⟨ret_bool hfin.out.symm, Below.refl _ _⟩
set_option maxHeartbeats 1000000 in
theorem spec_LateOk (a : Option Addr) (n cap : Nat) (l : List Ct) (w : World) (h : CtsAt w a n l) (hstr : StrC l) (hn : n ≤ 4194304) :
    Calls Tryz.prog 75 #[.slice a n cap] w fun e w' => e = .returned (.bool (lateOkB l)) ∧ Below w.heap.size w w' := by
  have hlen : Hid (l.length = n) := h.len
  by_cases h2 : n ≤ 200
  · have hfin : Hid (lateOkB l = (l.drop 0).all lateB) := by show _ = _; simp [lateOkB, hlen.out, h2]
    go_enter Tryz.func75, Tryz.ntmps75
    go_wp2_with fail
    go_loopw [3] (fun ix wr => ∃ (k : Nat), k ≤ n ∧ ix = .int .i64 k ∧ Hid (lateOkB l = (l.drop k).all lateB) ∧ Below w.heap.size w wr) (fun ix _ => n - (intOf ix).toNat)
    case atStart => exact ⟨0, Nat.zero_le _, rfl, hfin, Below.refl _ _⟩
    case round =>
      obtain ⟨k, hk, rfl, hI, hB⟩ := hrel
      by_cases hlt : k < n
      · obtain ⟨b, o, p, rfl, hp, c0, c1, c2, c3⟩ := cts_at (h.below hB) hlt
        have hd : Hid (l.drop k = p :: l.drop (k + 1)) := drop_at hp
        have hsz := hstr.at hp
        clear hp
        have hwr := hB.size
        cases hdo : ownerOkB p.o
        · go_wp2_with fail
          refine (spec_l3Owner p.o _ hsz).mono ?_
          rintro e w1 ⟨rfl, hB1⟩
          rw [hdo]
          go_wp2
          go_returns
          go_light
          refine ⟨ret_bool ?_, chain hB hB1⟩
          rw [hI.out, hd.out]; simp [lateB, hdo]
        · cases hii : (decide (-1000 ≤ p.n) && decide (p.n ≤ 1000))
          · go_wp2_with fail
            refine (spec_l3Owner p.o _ hsz).mono ?_
            rintro e w1 ⟨rfl, hB1⟩
            rw [hdo]
            have e3 := bcell hB1 c3
            go_wp2_with fail
            refine (spec_l1In _ _ _ _).mono ?_
            rintro e w2 ⟨rfl, rfl⟩
            rw [hii]
            go_wp2
            go_returns
            go_light
            refine ⟨ret_bool ?_, chain hB hB1⟩
            rw [hI.out, hd.out]; simp only [List.all_cons, lateB, hdo, Bool.true_and, hii, Bool.false_and]
          · cases hz : (p.n == 0)
            all_goals
              go_wp2_with fail
              refine (spec_l3Owner p.o _ hsz).mono ?_
              rintro e w1 ⟨rfl, hB1⟩
              rw [hdo]
              have e3 := bcell hB1 c3
              go_wp2_with fail
              refine (spec_l1In _ _ _ _).mono ?_
              rintro e w2 ⟨rfl, rfl⟩
              rw [hii]
              go_wp2
            · go_roundw
              case rel => exact ⟨k + 1, by omega, by go_num, by show _ = _; rw [hI.out, hd.out]; simp only [List.all_cons, lateB, hdo, Bool.true_and, hii, hz, Bool.not_false], chain hB hB1⟩
              case measure => simp [intOf]; omega
            · go_returns
              go_light
              refine ⟨ret_bool ?_, chain hB hB1⟩
              rw [hI.out, hd.out]; simp only [List.all_cons, lateB, hdo, Bool.true_and, hii, hz, Bool.not_true, Bool.false_and]
      · obtain rfl : k = n := by omega
        go_wp2
        go_returns
        go_light
        refine ⟨ret_bool ?_, hB⟩
        rw [hI.out, List.drop_of_length_le (Nat.le_of_eq hlen.out)]; rfl
  · have hfin : Hid (lateOkB l = false) := by show _ = _; have := hlen.out; simp [lateOkB]; omega
    go_enter Tryz.func75, Tryz.ntmps75
    go_wp2
    go_returns
    go_light
    exact ⟨ret_bool hfin.out.symm, Below.refl _ _⟩
end Go.Proofs.YtnjefbkhibfgmaaGreat
namespace Go.Proofs.YtnjefbkhibfgmaaGreat
open Go.RowKit Go.BigFrame
def refB (c : Ct) : Bool := ownerOkB c.o && decide (1 ≤ c.n) && decide (c.n ≤ 1000)
def rgo : Option Ct → List Ct → Bool
  | _, [] => true
  | none, c :: r => refB c && rgo (some c) r
  | some q, c :: r => refB c && owLt q.o c.o && rgo (some c) r
def refsOkB (l : List Ct) : Bool := decide (l.length ≤ 200) && rgo none l
def aheadC (l : List Ct) (k : Nat) : Option Ct := if k = 0 then none else l[k - 1]?
theorem aheadC_zero (l : List Ct) : aheadC l 0 = none := rfl
theorem aheadC_succ (l : List Ct) (k : Nat) : aheadC l (k + 1) = l[k]? := by simp [aheadC]
set_option maxHeartbeats 2000000 in
theorem impl_RefsOk (a : Option Addr) (n cap : Nat) (l : List Ct) (w : World) (h : CtsAt w a n l) (hstr : StrC l) (hn : n ≤ 4194304) :
    Calls Tryz.prog 42 #[.slice a n cap] w fun e w' => e = .returned (.bool (refsOkB l)) ∧ Below w.heap.size w w' := by
  have hlen : Hid (l.length = n) := h.len
  by_cases h2 : n ≤ 200
  · have hfin : Hid (refsOkB l = rgo (aheadC l 0) (l.drop 0)) := by show _ = _; simp [refsOkB, hlen.out, h2, aheadC]
    go_enter Tryz.func42, Tryz.ntmps42
    go_wp2_with fail
    go_loopw [10] (fun ix wr => ∃ (k : Nat), k ≤ n ∧ ix = .int .i64 k ∧ Hid (refsOkB l = rgo (aheadC l k) (l.drop k)) ∧ Below w.heap.size w wr) (fun ix _ => n - (intOf ix).toNat)
    case atStart => exact ⟨0, Nat.zero_le _, rfl, hfin, Below.refl _ _⟩
    case round =>
      obtain ⟨k, hk, rfl, hI, hB⟩ := hrel
      by_cases hlt : k < n
      · obtain ⟨b, o, p, rfl, hp, c0, c1, c2, c3⟩ := cts_at (h.below hB) hlt
        have hd : Hid (l.drop k = p :: l.drop (k + 1)) := drop_at hp
        have hq : Hid (l[k]? = some p) := hp
        have hsz := hstr.at hp
        clear hp
        have hwr := hB.size
        cases hdo : ownerOkB p.o
        · go_wp2_with fail
          refine (impl_ownerOk p.o _ hsz).mono ?_
          rintro e w1 ⟨rfl, hB1⟩
          obtain ⟨x0, x1, x2, x3, hB1', hs1⟩ := box4 hB1
          rw [hdo]
          go_wp2
          go_returns
          go_light
          refine ⟨ret_bool ?_, chain hB hB1'⟩
          rw [hI.out, hd.out]; cases aheadC l k <;> simp [rgo, refB, hdo]
        · by_cases hok : 1 ≤ p.n ∧ p.n ≤ 1000
          · obtain ⟨ha1, ha2⟩ := hok
            have hrb : Hid (refB p = true) := by show _ = _; simp [refB, hdo, ha1, ha2]
            rcases k with _ | j
            · simp only [Nat.zero_mul, Nat.add_zero] at c0 c1 c2 c3
              go_wp2_with fail
              refine (impl_ownerOk p.o _ hsz).mono ?_
              rintro e w1 ⟨rfl, hB1⟩
              obtain ⟨x0, x1, x2, x3, hB1', hs1⟩ := box4 hB1
              rw [hdo]
              go_wp2_with fail
              go_quiet (fail)
              go_wp2
              go_roundw
              case rel => exact ⟨1, by omega, by go_num, by show _ = _; rw [hI.out, hd.out, aheadC_zero, aheadC_succ, hq.out]; simp [rgo, hrb.out], chain hB (chain hB1' (drewNB _ _))⟩
              case measure => simp [intOf]; omega
            · obtain ⟨b', o', q, hbo, hq', d0, d1, d2, d3⟩ := cts_at (h.below hB) (k := j) (by omega)
              obtain ⟨rfl, rfl⟩ : b = b' ∧ o = o' := by simpa using hbo
              have hah : Hid (aheadC l (j + 1) = some q) := by show _ = _; rw [aheadC_succ]; exact hq'
              clear hq' hbo
              cases hgo : owLt q.o p.o
              all_goals
                go_wp2_with fail
                refine (impl_ownerOk p.o _ hsz).mono ?_
                rintro e w1 ⟨rfl, hB1⟩
                obtain ⟨x0, x1, x2, x3, hB1', hs1⟩ := box4 hB1
                rw [hdo]
                replace d0 := bcell hB1' d0
                replace d1 := bcell hB1' d1
                replace d2 := bcell hB1' d2
                have hj : (0 : Int) < (j : Int) + 1 := by omega
                have hj1 : (j : Int) < n := by omega
                have hj2 : (0 : Int) ≤ j := by omega
                have hw1 : IntKind.i64.wrap ((j : Int) + 1 - 1) = (j : Int) := by rw [IntKind.wrap_i64]; omega
                have hw2 : IntKind.i64.wrap (j : Int) = (j : Int) := by rw [IntKind.wrap_i64]; omega
                clear c0 c1 c2 c3
                go_wp2_with fail
                have g0 := gcell x0
                have g1 := gcell x1
                have g2 := gcell x2
                have g3 := gcell d0
                have g4 := gcell d1
                have g5 := gcell d2
                have hne := grw_ne w1
                refine wp_region_grow (by kernel_rfl) (by kernel_rfl) ?_
                repeat (go_big_quiet_step (first | (go_at_call 77; have qq := impl_OwnerAhead q.o p.o; rw [hgo] at qq; exact grow_of (qq _))))
                refine wpQuiet_nil ?_
                intro w2 hx
                have hB2 := grw_out hx
                clear hx
                go_wp2
              · go_returns
                go_light
                refine ⟨ret_bool ?_, chain hB (chain hB1' hB2)⟩
                rw [hI.out, hd.out, hah.out]; simp [rgo, hgo]
              · go_roundw
                case rel => exact ⟨j + 2, by omega, by go_num, by show _ = _; rw [hI.out, hd.out, hah.out, aheadC_succ, hq.out]; simp [rgo, hgo, hrb.out], chain hB (chain hB1' hB2)⟩
                case measure => simp [intOf]; omega
          · have hz : Hid (refB p = false) := by show _ = _; simp [refB]; omega
            go_wp2_with fail
            refine (impl_ownerOk p.o _ hsz).mono ?_
            rintro e w1 ⟨rfl, hB1⟩
            obtain ⟨x0, x1, x2, x3, hB1', hs1⟩ := box4 hB1
            rw [hdo]
            go_wp2
            all_goals go_returns
            all_goals go_light
            all_goals refine ⟨ret_bool ?_, chain hB hB1'⟩
            all_goals (rw [hI.out, hd.out]; cases aheadC l k <;> simp [rgo, hz.out])
      · obtain rfl : k = n := by omega
        go_wp2
        go_returns
        go_light
        refine ⟨ret_bool ?_, hB⟩
        rw [hI.out, List.drop_of_length_le (Nat.le_of_eq hlen.out)]; cases aheadC l k <;> rfl
  · have hfin : Hid (refsOkB l = false) := by show _ = _; have := hlen.out; simp [refsOkB]; omega
    go_enter Tryz.func42, Tryz.ntmps42
    go_wp2
    go_returns
    go_light
    exact ⟨ret_bool hfin.out.symm, Below.refl _ _⟩
set_option maxHeartbeats 2000000 in
theorem spec_RefsOk (a : Option Addr) (n cap : Nat) (l : List Ct) (w : World) (h : CtsAt w a n l) (hstr : StrC l) (hn : n ≤ 4194304) :
    Calls Tryz.prog 74 #[.slice a n cap] w fun e w' => e = .returned (.bool (refsOkB l)) ∧ Below w.heap.size w w' := by
  have hlen : Hid (l.length = n) := h.len
  by_cases h2 : n ≤ 200
  · have hfin : Hid (refsOkB l = rgo (aheadC l 0) (l.drop 0)) := by show _ = _; simp [refsOkB, hlen.out, h2, aheadC]
    go_enter Tryz.func74, Tryz.ntmps74
    go_wp2_with fail
    go_loopw [3] (fun ix wr => ∃ (k : Nat), k ≤ n ∧ ix = .int .i64 k ∧ Hid (refsOkB l = rgo (aheadC l k) (l.drop k)) ∧ Below w.heap.size w wr) (fun ix _ => n - (intOf ix).toNat)
    case atStart => exact ⟨0, Nat.zero_le _, rfl, hfin, Below.refl _ _⟩
    case round =>
      obtain ⟨k, hk, rfl, hI, hB⟩ := hrel
      by_cases hlt : k < n
      · obtain ⟨b, o, p, rfl, hp, c0, c1, c2, c3⟩ := cts_at (h.below hB) hlt
        have hd : Hid (l.drop k = p :: l.drop (k + 1)) := drop_at hp
        have hq : Hid (l[k]? = some p) := hp
        have hsz := hstr.at hp
        clear hp
        have hwr := hB.size
        have hk1 : (k : Int) < n := by omega
        have hk2 : (0 : Int) ≤ k := by omega
        cases hdo : ownerOkB p.o
        · go_wp2_with fail
          have g0 := gcell c0
          have g1 := gcell c1
          have g2 := gcell c2
          have g3 := gcell c3
          have hne := grw_ne wr
          refine wp_region_grow (by kernel_rfl) (by kernel_rfl) ?_
          repeat (go_big_quiet_step (first | (go_at_call 94; have qq := fun w => spec_l3Owner p.o w hsz; rw [hdo] at qq; exact grow_of (qq _))))
          refine wpQuiet_nil ?_
          intro w2 hx
          have hB2 := grw_out hx
          clear hx
          go_wp2
          go_returns
          go_light
          refine ⟨ret_bool ?_, chain hB hB2⟩
          rw [hI.out, hd.out]; cases aheadC l k <;> simp [rgo, refB, hdo]
        · cases hii : (decide (1 ≤ p.n) && decide (p.n ≤ 1000))
          · have hz : Hid (refB p = false) := by show _ = _; simp only [refB, hdo, Bool.true_and, hii]
            go_wp2_with fail
            have g0 := gcell c0
            have g1 := gcell c1
            have g2 := gcell c2
            have g3 := gcell c3
            have hne := grw_ne wr
            refine wp_region_grow (by kernel_rfl) (by kernel_rfl) ?_
            repeat (go_big_quiet_step (first | (go_at_call 94; have qq := fun w => spec_l3Owner p.o w hsz; rw [hdo] at qq; exact grow_of (qq _)) | (go_at_call 36; have qq := spec_l1In p.n 1 1000; rw [hii] at qq; exact grow_of_same (qq _))))
            refine wpQuiet_nil ?_
            intro w2 hx
            have hB2 := grw_out hx
            clear hx
            go_wp2
            go_returns
            go_light
            refine ⟨ret_bool ?_, chain hB hB2⟩
            rw [hI.out, hd.out]; cases aheadC l k <;> simp [rgo, hz.out]
          · have hrb : Hid (refB p = true) := by show _ = _; simp only [refB, hdo, Bool.true_and, hii]
            rcases k with _ | j
            · simp only [Nat.zero_mul, Nat.add_zero] at c0 c1 c2 c3
              go_wp2_with fail
              have g0 := gcell c0
              have g1 := gcell c1
              have g2 := gcell c2
              have g3 := gcell c3
              have hne := grw_ne wr
              refine wp_region_grow (by kernel_rfl) (by kernel_rfl) ?_
              repeat (go_big_quiet_step (first | (go_at_call 94; have qq := fun w => spec_l3Owner p.o w hsz; rw [hdo] at qq; exact grow_of (qq _)) | (go_at_call 36; have qq := spec_l1In p.n 1 1000; rw [hii] at qq; exact grow_of_same (qq _))))
              refine wpQuiet_nil ?_
              intro w2 hx
              have hB2 := grw_out hx
              clear hx
              go_wp2
              go_roundw
              case rel => exact ⟨1, by omega, by go_num, by show _ = _; rw [hI.out, hd.out, aheadC_zero, aheadC_succ, hq.out]; simp [rgo, hrb.out], chain hB hB2⟩
              case measure => simp [intOf]; omega
            · obtain ⟨b', o', q, hbo, hq', d0, d1, d2, d3⟩ := cts_at (h.below hB) (k := j) (by omega)
              obtain ⟨rfl, rfl⟩ : b = b' ∧ o = o' := by simpa using hbo
              have hah : Hid (aheadC l (j + 1) = some q) := by show _ = _; rw [aheadC_succ]; exact hq'
              clear hq' hbo d3
              cases hgo : owLt q.o p.o
              all_goals
                go_wp2_with fail
                have g0 := gcell c0
                have g1 := gcell c1
                have g2 := gcell c2
                have g3 := gcell c3
                have g4 := gcell d0
                have g5 := gcell d1
                have g6 := gcell d2
                have hne := grw_ne wr
                refine wp_region_grow (by kernel_rfl) (by kernel_rfl) ?_
                repeat (go_big_quiet_step (first | (go_at_call 94; have qq := fun w => spec_l3Owner p.o w hsz; rw [hdo] at qq; exact grow_of (qq _)) | (go_at_call 36; have qq := spec_l1In p.n 1 1000; rw [hii] at qq; exact grow_of_same (qq _)) | (go_at_call 91; have qq := spec_OwnerAhead q.o p.o; rw [hgo] at qq; exact grow_of (qq _))))
                refine wpQuiet_nil ?_
                intro w2 hx
                have hB2 := grw_out hx
                clear hx
                go_wp2
              · go_returns
                go_light
                refine ⟨ret_bool ?_, chain hB hB2⟩
                rw [hI.out, hd.out, hah.out]; simp [rgo, hgo]
              · go_roundw
                case rel => exact ⟨j + 2, by omega, by go_num, by show _ = _; rw [hI.out, hd.out, hah.out, aheadC_succ, hq.out]; simp [rgo, hgo, hrb.out], chain hB hB2⟩
                case measure => simp [intOf]; omega
      · obtain rfl : k = n := by omega
        go_wp2
        go_returns
        go_light
        refine ⟨ret_bool ?_, hB⟩
        rw [hI.out, List.drop_of_length_le (Nat.le_of_eq hlen.out)]; cases aheadC l k <;> rfl
  · have hfin : Hid (refsOkB l = false) := by show _ = _; have := hlen.out; simp [refsOkB]; omega
    go_enter Tryz.func74, Tryz.ntmps74
    go_wp2
    go_returns
    go_light
    exact ⟨ret_bool hfin.out.symm, Below.refl _ _⟩
end Go.Proofs.YtnjefbkhibfgmaaGreat
