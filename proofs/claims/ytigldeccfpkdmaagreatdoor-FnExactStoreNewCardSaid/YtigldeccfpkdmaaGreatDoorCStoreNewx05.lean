/- Names and owners: NameOk, ownerOk, the order of owners, of the program and of the model. ownerOk of the program, l3Owner of the model. LateOk and RefsOk, of the program and of the model. RefsOk, of the program and of the model. Merged and Flushed of the model. The laws' sizes, copies and comparisons of owners and counts. The laws' sizes, copies and comparisons of lists of counts. Volumes and items as plain data, and how they lie in memory. -/
import Derived.Test.YtigldeccfpkdmaaGreatDoorProg
import Derived.Test.YtigldeccfpkdmaaGreatDoorCStoreNewx02
import Derived.Test.YtigldeccfpkdmaaGreatDoorCStoreNewx03
import Derived.Test.YtigldeccfpkdmaaGreatDoorCStoreNewx04
import Derived.Laws.StructEq
import Derived.Laws.Rows
namespace Go.Proofs.YtigldeccfpkdmaaGreatDoor
open Go.RowKit Go.BigFrame
def letB (c : UInt8) : Bool := decide (97 ≤ (c.toNat : Int)) && decide ((c.toNat : Int) ≤ 122)
def nameB (d : ByteArray) : Bool := decide (1 ≤ d.size) && decide (d.size ≤ 8) && d.data.toList.all letB
set_option maxHeartbeats 400000 in
theorem impl_NameOk (d : ByteArray) (w : World) (hd : d.size ≤ 9223372036854775807) :
    Calls Tryz.prog 164 #[.string d] w fun e w' => e = .returned (.bool (nameB d)) ∧ w' = w := by
  by_cases h1 : 1 ≤ d.size ∧ d.size ≤ 8
  · have hfin : Hid (nameB d = (d.data.toList.drop 0).all letB) := by show _ = _; simp [nameB, h1]
    obtain ⟨h1, h20⟩ := h1
    go_enter Tryz.func164, Tryz.ntmps164
    go_wp2_with fail
    go_loop [14] (fun ix => ∃ (k : Nat), k ≤ d.size ∧ ix = .int .i64 k ∧ Hid (nameB d = (d.data.toList.drop k).all letB)) (fun ix => d.size - (intOf ix).toNat)
    case atStart => exact ⟨0, Nat.zero_le _, rfl, hfin⟩
    case round =>
      obtain ⟨k, hk, rfl, hI⟩ := hrel
      by_cases hlt : k < d.size
      · have hs : Hid (d.data.toList.drop k = d[k] :: d.data.toList.drop (k + 1)) := str_drop d k hlt
        cases hc : letB d[k]
        · have hc' : (d[k].toNat : Int) < 97 ∨ 122 < (d[k].toNat : Int) := by simp [letB] at hc; omega
          go_wp2
          all_goals go_returns
          all_goals go_light
          all_goals (refine ⟨ret_bool ?_, rfl⟩; rw [hI.out, hs.out]; simp [hc])
        · have hc' : 97 ≤ (d[k].toNat : Int) ∧ (d[k].toNat : Int) ≤ 122 := by simp [letB] at hc; omega
          obtain ⟨hc1, hc2⟩ := hc'
          go_wp2
          go_round
          case rel => exact ⟨k + 1, by omega, by go_num, by show _ = _; rw [hI.out, hs.out]; simp [hc]⟩
          case measure => simp [intOf]; omega
      · obtain rfl : k = d.size := by omega
        go_wp2
        go_returns
        go_light
        refine ⟨ret_bool ?_, rfl⟩
        rw [hI.out, List.drop_of_length_le (by simp)]; rfl
  · have hfin : Hid (nameB d = false) := by show _ = _; simp [nameB]; omega
    go_enter Tryz.func164, Tryz.ntmps164
    go_wp2
    all_goals go_returns
    all_goals go_light
    all_goals exact ⟨ret_bool hfin.out.symm, rfl⟩
end Go.Proofs.YtigldeccfpkdmaaGreatDoor
namespace Go.Proofs.YtigldeccfpkdmaaGreatDoor
open Go.RowKit Go.BigFrame
def ownerOkB (o : Ow) : Bool := decide (1 ≤ o.a) && decide (o.a ≤ 400) && decide (1 ≤ o.v) && decide (o.v ≤ 1000000000) && nameB o.f
set_option maxHeartbeats 400000 in
theorem impl_ownerOk (p : Ow) (w : World) (hd : p.f.size ≤ 9223372036854775807) :
    Calls Tryz.prog 204 #[.agg #[.int .i64 p.a, .int .i64 p.v, .string p.f]] w fun e w' => e = .returned (.bool (ownerOkB p)) ∧ Below w.heap.size w w' := by
  by_cases h : 1 ≤ p.a ∧ p.a ≤ 400 ∧ 1 ≤ p.v ∧ p.v ≤ 1000000000
  · have hfin : Hid (ownerOkB p = nameB p.f) := by show _ = _; simp [ownerOkB, h]
    generalize ownerOkB p = R at *
    obtain ⟨a, v, f⟩ := p
    simp only at *
    obtain ⟨h1, h2, h3, h4⟩ := h
    go_enter Tryz.func204, Tryz.ntmps204
    go_wp2_with fail
    refine (impl_NameOk f _ hd).mono ?_
    rintro e w1 ⟨rfl, rfl⟩
    go_wp2
    go_returns
    go_light
    exact ⟨ret_bool hfin.out.symm, by go_grown⟩
  · have hfin : Hid (ownerOkB p = false) := by show _ = _; simp [ownerOkB]; omega
    generalize ownerOkB p = R at *
    obtain ⟨a, v, f⟩ := p
    simp only at *
    go_enter Tryz.func204, Tryz.ntmps204
    go_wp2
    all_goals go_returns
    all_goals go_light
    all_goals exact ⟨ret_bool hfin.out.symm, by go_grown⟩
end Go.Proofs.YtigldeccfpkdmaaGreatDoor
namespace Go.Proofs.YtigldeccfpkdmaaGreatDoor
open Go.RowKit Go.BigFrame
def StrC (l : List Ct) : Prop := ∀ c ∈ l, c.o.f.size ≤ 9223372036854775807
theorem StrC.at {l : List Ct} (h : StrC l) {k : Nat} {e : Ct} (he : l[k]? = some e) : e.o.f.size ≤ 9223372036854775807 := h e (List.mem_of_getElem? he)
def lateB (c : Ct) : Bool := ownerOkB c.o && decide (-1000 ≤ c.n) && decide (c.n ≤ 1000) && !(c.n == 0)
def lateOkB (l : List Ct) : Bool := decide (l.length ≤ 200) && l.all lateB
theorem box4 {w w1 : World} {x y z u : Value} {t : TypeId} (hb : Below (w.alloc (.cells #[x, y, z, u] t)).heap.size (w.alloc (.cells #[x, y, z, u] t)) w1) :
    w1.cell? ⟨w.heap.size, 0, none⟩ = some x ∧ w1.cell? ⟨w.heap.size, 1, none⟩ = some y ∧ w1.cell? ⟨w.heap.size, 2, none⟩ = some z ∧ w1.cell? ⟨w.heap.size, 3, none⟩ = some u ∧ Below w.heap.size w w1 ∧ w.heap.size < w1.heap.size :=
  ⟨bcell hb (World.cell?_alloc_new _ _ _ 0), bcell hb (World.cell?_alloc_new _ _ _ 1), bcell hb (World.cell?_alloc_new _ _ _ 2), bcell hb (World.cell?_alloc_new _ _ _ 3),
    ((Below.refl _ _).alloc (Nat.le_refl _) _).trans (hb.mono (by simp)), by have := hb.size; simp at this; omega⟩
set_option maxHeartbeats 1000000 in
theorem impl_LateOk (a : Option Addr) (n cap : Nat) (l : List Ct) (w : World) (h : CtsAt w a n l) (hstr : StrC l) (hn : n ≤ 4194304) :
    Calls Tryz.prog 167 #[.slice a n cap] w fun e w' => e = .returned (.bool (lateOkB l)) ∧ Below w.heap.size w w' := by
  have hlen : Hid (l.length = n) := h.len
  by_cases h2 : n ≤ 200
  · have hfin : Hid (lateOkB l = (l.drop 0).all lateB) := by show _ = _; simp [lateOkB, hlen.out, h2]
    go_enter Tryz.func167, Tryz.ntmps167
    go_wp2_with fail
    go_loopw [10] (fun ix wr => ∃ (k : Nat), k ≤ n ∧ ix = .int .i64 k ∧ Hid (lateOkB l = (l.drop k).all lateB) ∧ Below w.heap.size w wr) (fun ix _ => n - (intOf ix).toNat)
    case atStart => exact ⟨0, Nat.zero_le _, rfl, hfin, Below.refl _ _⟩
    case round =>
      obtain ⟨k, hk, rfl, hI, hB⟩ := hrel
      by_cases hlt : k < n
      · obtain ⟨b, o, p, rfl, hp, c0, c1, c2, c3⟩ := cts_at (h.below hB) hlt
        have hd : Hid (l.drop k = p :: l.drop (k + 1)) := drop_at hp
        have hsz := hstr.at hp
        clear hp
        have hwr := hB.size
        cases hdo : ownerOkB p.o
        · go_wp2_with fail
          refine (impl_ownerOk p.o _ hsz).mono ?_
          rintro e w1 ⟨rfl, hB1⟩
          obtain ⟨x0, x1, x2, x3, hB1', hs1⟩ := box4 hB1
          rw [hdo]
          go_wp2
          go_returns
          go_light
          refine ⟨ret_bool ?_, chain hB hB1'⟩
          rw [hI.out, hd.out]; simp [lateB, hdo]
        · by_cases hok : -1000 ≤ p.n ∧ p.n ≤ 1000 ∧ p.n ≠ 0
          · obtain ⟨ha1, ha2, ha3⟩ := hok
            have hz : (p.n == 0) = false := beq_eq_false_iff_ne.2 ha3
            go_wp2_with fail
            refine (impl_ownerOk p.o _ hsz).mono ?_
            rintro e w1 ⟨rfl, hB1⟩
            obtain ⟨x0, x1, x2, x3, hB1', hs1⟩ := box4 hB1
            rw [hdo]
            go_wp2
            go_roundw
            case rel => exact ⟨k + 1, by omega, by go_num, by show _ = _; rw [hI.out, hd.out]; simp [lateB, hdo, ha1, ha2, ha3], chain hB hB1'⟩
            case measure => simp [intOf]; omega
          · have hz : Hid (lateB p = false) := by
              show _ = _
              by_cases hz : p.n = 0
              · simp [lateB, hz]
              · simp [lateB, hz]; omega
            go_wp2_with fail
            refine (impl_ownerOk p.o _ hsz).mono ?_
            rintro e w1 ⟨rfl, hB1⟩
            obtain ⟨x0, x1, x2, x3, hB1', hs1⟩ := box4 hB1
            rw [hdo]
            cases hz' : (p.n == 0)
            all_goals (have hzz := hz'; simp at hzz)
            all_goals go_wp2
            all_goals go_returns
            all_goals go_light
            all_goals refine ⟨ret_bool ?_, chain hB hB1'⟩
            all_goals (rw [hI.out, hd.out]; simp [hz.out])
      · obtain rfl : k = n := by omega
        go_wp2
        go_returns
        go_light
        refine ⟨ret_bool ?_, hB⟩
        rw [hI.out, List.drop_of_length_le (Nat.le_of_eq hlen.out)]; rfl
  · have hfin : Hid (lateOkB l = false) := by show _ = _; have := hlen.out; simp [lateOkB]; omega
    go_enter Tryz.func167, Tryz.ntmps167
    go_wp2
    go_returns
    go_light
    exact ⟨ret_bool hfin.out.symm, Below.refl _ _⟩
end Go.Proofs.YtigldeccfpkdmaaGreatDoor
namespace Go.Proofs.YtigldeccfpkdmaaGreatDoor
open Go.RowKit Go.BigFrame
def refB (c : Ct) : Bool := ownerOkB c.o && decide (1 ≤ c.n) && decide (c.n ≤ 1000)
def rgo : Option Ct → List Ct → Bool
  | _, [] => true
  | none, c :: r => refB c && rgo (some c) r
  | some q, c :: r => refB c && owLt q.o c.o && rgo (some c) r
def refsOkB (l : List Ct) : Bool := decide (l.length ≤ 200) && rgo none l
/-- The count ahead of the k-th. -/
def aheadC (l : List Ct) (k : Nat) : Option Ct := if k = 0 then none else l[k - 1]?
theorem aheadC_zero (l : List Ct) : aheadC l 0 = none := rfl
theorem aheadC_succ (l : List Ct) (k : Nat) : aheadC l (k + 1) = l[k]? := by simp [aheadC]
set_option maxHeartbeats 2000000 in
theorem impl_RefsOk (a : Option Addr) (n cap : Nat) (l : List Ct) (w : World) (h : CtsAt w a n l) (hstr : StrC l) (hn : n ≤ 4194304) :
    Calls Tryz.prog 166 #[.slice a n cap] w fun e w' => e = .returned (.bool (refsOkB l)) ∧ Below w.heap.size w w' := by
  have hlen : Hid (l.length = n) := h.len
  by_cases h2 : n ≤ 200
  · have hfin : Hid (refsOkB l = rgo (aheadC l 0) (l.drop 0)) := by show _ = _; simp [refsOkB, hlen.out, h2, aheadC]
    go_enter Tryz.func166, Tryz.ntmps166
    go_wp2_with fail
    go_loopw [10] (fun ix wr => ∃ (k : Nat), k ≤ n ∧ ix = .int .i64 k ∧ Hid (refsOkB l = rgo (aheadC l k) (l.drop k)) ∧ Below w.heap.size w wr) (fun ix _ => n - (intOf ix).toNat)
    case atStart => exact ⟨0, Nat.zero_le _, rfl, hfin, Below.refl _ _⟩
    case round =>
      obtain ⟨k, hk, rfl, hI, hB⟩ := hrel
      by_cases hlt : k < n
      · obtain ⟨b, o, p, rfl, hp, c0, c1, c2, c3⟩ := cts_at (h.below hB) hlt
        have hd : Hid (l.drop k = p :: l.drop (k + 1)) := drop_at hp
        have hq : Hid (l[k]? = some p) := hp
        have hsz := hstr.at hp
        clear hp
        have hwr := hB.size
        cases hdo : ownerOkB p.o
        · go_wp2_with fail
          refine (impl_ownerOk p.o _ hsz).mono ?_
          rintro e w1 ⟨rfl, hB1⟩
          obtain ⟨x0, x1, x2, x3, hB1', hs1⟩ := box4 hB1
          rw [hdo]
          go_wp2
          go_returns
          go_light
          refine ⟨ret_bool ?_, chain hB hB1'⟩
          rw [hI.out, hd.out]; cases aheadC l k <;> simp [rgo, refB, hdo]
        · by_cases hok : 1 ≤ p.n ∧ p.n ≤ 1000
          · obtain ⟨ha1, ha2⟩ := hok
            have hrb : Hid (refB p = true) := by show _ = _; simp [refB, hdo, ha1, ha2]
            rcases k with _ | j
            · simp only [Nat.zero_mul, Nat.add_zero] at c0 c1 c2 c3
              go_wp2_with fail
              refine (impl_ownerOk p.o _ hsz).mono ?_
              rintro e w1 ⟨rfl, hB1⟩
              obtain ⟨x0, x1, x2, x3, hB1', hs1⟩ := box4 hB1
              rw [hdo]
              go_wp2_with fail
              go_quiet (fail)
              go_wp2
              go_roundw
              case rel => exact ⟨1, by omega, by go_num, by show _ = _; rw [hI.out, hd.out, aheadC_zero, aheadC_succ, hq.out]; simp [rgo, hrb.out], chain hB (chain hB1' (drewNB _ _))⟩
              case measure => simp [intOf]; omega
            · obtain ⟨b', o', q, hbo, hq', d0, d1, d2, d3⟩ := cts_at (h.below hB) (k := j) (by omega)
              obtain ⟨rfl, rfl⟩ : b = b' ∧ o = o' := by simpa using hbo
              have hah : Hid (aheadC l (j + 1) = some q) := by show _ = _; rw [aheadC_succ]; exact hq'
              clear hq' hbo
              cases hgo : owLt q.o p.o
              all_goals
                go_wp2_with fail
                refine (impl_ownerOk p.o _ hsz).mono ?_
                rintro e w1 ⟨rfl, hB1⟩
                obtain ⟨x0, x1, x2, x3, hB1', hs1⟩ := box4 hB1
                rw [hdo]
                replace d0 := bcell hB1' d0
                replace d1 := bcell hB1' d1
                replace d2 := bcell hB1' d2
                have hj : (0 : Int) < (j : Int) + 1 := by omega
                have hj1 : (j : Int) < n := by omega
                have hj2 : (0 : Int) ≤ j := by omega
                have hw1 : IntKind.i64.wrap ((j : Int) + 1 - 1) = (j : Int) := by rw [IntKind.wrap_i64]; omega
                have hw2 : IntKind.i64.wrap (j : Int) = (j : Int) := by rw [IntKind.wrap_i64]; omega
                clear c0 c1 c2 c3
                go_wp2_with fail
                have g0 := gcell x0
                have g1 := gcell x1
                have g2 := gcell x2
                have g3 := gcell d0
                have g4 := gcell d1
                have g5 := gcell d2
                have hne := grw_ne w1
                refine wp_region_grow (by kernel_rfl) (by kernel_rfl) ?_
                repeat (go_big_quiet_step (first | (go_at_call 205; have qq := impl_OwnerAhead q.o p.o; rw [hgo] at qq; exact grow_of (qq _))))
                refine wpQuiet_nil ?_
                intro w2 hx
                have hB2 := grw_out hx
                clear hx
                go_wp2
              · go_returns
                go_light
                refine ⟨ret_bool ?_, chain hB (chain hB1' hB2)⟩
                rw [hI.out, hd.out, hah.out]; simp [rgo, hgo]
              · go_roundw
                case rel => exact ⟨j + 2, by omega, by go_num, by show _ = _; rw [hI.out, hd.out, hah.out, aheadC_succ, hq.out]; simp [rgo, hgo, hrb.out], chain hB (chain hB1' hB2)⟩
                case measure => simp [intOf]; omega
          · have hz : Hid (refB p = false) := by show _ = _; simp [refB]; omega
            go_wp2_with fail
            refine (impl_ownerOk p.o _ hsz).mono ?_
            rintro e w1 ⟨rfl, hB1⟩
            obtain ⟨x0, x1, x2, x3, hB1', hs1⟩ := box4 hB1
            rw [hdo]
            go_wp2
            all_goals go_returns
            all_goals go_light
            all_goals refine ⟨ret_bool ?_, chain hB hB1'⟩
            all_goals (rw [hI.out, hd.out]; cases aheadC l k <;> simp [rgo, hz.out])
      · obtain rfl : k = n := by omega
        go_wp2
        go_returns
        go_light
        refine ⟨ret_bool ?_, hB⟩
        rw [hI.out, List.drop_of_length_le (Nat.le_of_eq hlen.out)]; cases aheadC l k <;> rfl
  · have hfin : Hid (refsOkB l = false) := by show _ = _; have := hlen.out; simp [refsOkB]; omega
    go_enter Tryz.func166, Tryz.ntmps166
    go_wp2
    go_returns
    go_light
    exact ⟨ret_bool hfin.out.symm, Below.refl _ _⟩
end Go.Proofs.YtigldeccfpkdmaaGreatDoor
namespace Go.Proofs.YtigldeccfpkdmaaGreatDoor
open Go.RowKit Go.BigFrame
def flushedO (refs late : List Ct) : Option (List Ct) := if refsOkB refs = true ∧ lateOkB late = true then (if refsOkB (sumC refs late) = true then some (sumC refs late) else none) else none
theorem late_bound {l : List Ct} (h : lateOkB l = true) : l.length ≤ 200 ∧ ∀ x ∈ l, -1000 ≤ x.n ∧ x.n ≤ 1000 := by
  simp only [lateOkB, Bool.and_eq_true, decide_eq_true_eq, List.all_eq_true] at h
  refine ⟨h.1, fun x hx => ?_⟩
  have := h.2 x hx
  simp only [lateB, Bool.and_eq_true, decide_eq_true_eq] at this
  exact ⟨this.1.1.2, this.1.2⟩
theorem str_addC {c : Ct} (hc : c.o.f.size ≤ 9223372036854775807) : ∀ {l : List Ct}, StrC l → StrC (addC l c)
  | [], _ => by intro x hx; simp [addC] at hx; subst hx; exact hc
  | y :: r, h => by
    have hy := h y (by simp)
    have hr : StrC r := fun x hx => h x (by simp [hx])
    unfold addC
    split
    · intro x hx
      rcases List.mem_cons.1 hx with rfl | hx
      · exact hy
      · exact str_addC hc hr x hx
    · split
      · split
        · intro x hx
          rcases List.mem_cons.1 hx with rfl | hx
          · exact hc
          · exact hr x hx
        · exact hr
      · intro x hx
        rcases List.mem_cons.1 hx with rfl | hx
        · exact hc
        · exact h x hx
theorem str_sumC : ∀ {more l : List Ct}, StrC l → StrC more → StrC (sumC l more)
  | [], l, h, _ => h
  | c :: r, l, h, hm => str_sumC (more := r) (l := addC l c) (str_addC (hm c (by simp)) h) (fun x hx => hm x (by simp [hx]))
theorem rgo_all : ∀ {l : List Ct} {q : Option Ct}, rgo q l = true → ∀ x ∈ l, refB x = true
  | [], _, _ => by simp
  | c :: r, q, h => by
    have h2 : refB c = true ∧ rgo (some c) r = true := by
      cases q
      · simpa only [rgo, Bool.and_eq_true] using h
      · simp only [rgo, Bool.and_eq_true] at h; exact ⟨h.1.1, h.2⟩
    intro x hx
    rcases List.mem_cons.1 hx with rfl | hx
    · exact h2.1
    · exact rgo_all h2.2 x hx
theorem refs_bound {l : List Ct} (h : refsOkB l = true) : l.length ≤ 200 ∧ ∀ x ∈ l, 1 ≤ x.n ∧ x.n ≤ 1000 := by
  simp only [refsOkB, Bool.and_eq_true, decide_eq_true_eq] at h
  refine ⟨h.1, fun x hx => ?_⟩
  have := rgo_all h.2 x hx
  simp only [refB, Bool.and_eq_true, decide_eq_true_eq] at this
  exact ⟨this.1.2, this.2⟩
end Go.Proofs.YtigldeccfpkdmaaGreatDoor
namespace Go.Proofs.YtigldeccfpkdmaaGreatDoor
open Go.RowKit Go.BigFrame
theorem Blk.other {w : World} {b : Nat} {c : Array Value} {t : TypeId} (h : Blk w b c t) (p : Addr) (v : Value) (hp : b ≠ p.block) : Blk (w.setCell p v) b c t := by
  unfold Blk at *; rw [Below.heap_setCell _ _ _ _ (by simpa using hp)]; exact h
def eqCt (p q : Ct) : Bool := owEq p.o q.o && p.n == q.n
end Go.Proofs.YtigldeccfpkdmaaGreatDoor
namespace Go.Proofs.YtigldeccfpkdmaaGreatDoor
open Go.RowKit Go.BigFrame
def eqCts : List Ct → List Ct → Bool
  | [], [] => true
  | p :: r, q :: s => eqCt p q && eqCts r s
  | _, _ => false
theorem eqCts_len {l : List Ct} : ∀ {m : List Ct}, l.length ≠ m.length → eqCts l m = false := by
  induction l with
  | nil => intro m h; cases m <;> simp [eqCts] at *
  | cons p r ih => intro m h; cases m <;> simp [eqCts] at *; exact fun _ => ih h
end Go.Proofs.YtigldeccfpkdmaaGreatDoor
namespace Go.Proofs.YtigldeccfpkdmaaGreatDoor
open Go.RowKit
/-- A file: its name, its parts. -/
structure It where
  nm : ByteArray
  ps : List Pt
/-- A volume. -/
structure Vo where
  id : Int
  nm : ByteArray
  fx : Bool
  its : List It
/-- A pool. -/
structure Po where
  size : Int
  next : Int
  ex : List Ex
  vs : List Vo
  rf : List Ct
  lt : List Ct
/-- A slice's head; where B is not nought, one as the program itself makes them. -/
def Hd (B : Nat) (a : Option Addr) (n cap : Nat) : Prop := n ≤ cap ∧ cap ≤ 9223372036854775807 ∧ (0 < B → (a = none → cap = 0) ∧ ∀ ad, a = some ad → ad.spot = none)
theorem Hd.mono {B B' : Nat} {a : Option Addr} {n cap : Nat} (h : Hd B a n cap) (hb : B' ≤ B) : Hd B' a n cap := ⟨h.1, h.2.1, fun h0 => h.2.2 (by omega)⟩
/-- Where B is not nought: a slice lies at B or behind it, in a block that may be written. -/
def Sf (B : Nat) (w : World) (a : Option Addr) : Prop := 0 < B → ∀ ad, a = some ad → B ≤ ad.block ∧ ∃ c t, Blk w ad.block c t
theorem Sf.below {B : Nat} {w w' : World} {a : Option Addr} (h : Sf B w a) (hb : Below w.heap.size w w') : Sf B w' a := fun h0 ad e => by
  obtain ⟨h1, c, t, h2⟩ := h h0 ad e
  exact ⟨h1, c, t, h2.below hb⟩
theorem Sf.mono {B B' : Nat} {w : World} {a : Option Addr} (h : Sf B w a) (hb : B' ≤ B) : Sf B' w a := fun h0 ad e => by
  obtain ⟨h1, r⟩ := h (by omega) ad e
  exact ⟨by omega, r⟩
theorem Sf.grown {B r : Nat} {w w' : World} {a : Option Addr} (h : Sf B w a) (hg : w.grownBy w' (some r)) (hr : r < B) : Sf B w' a := fun h0 ad e => by
  obtain ⟨h1, c, t, h2⟩ := h h0 ad e
  exact ⟨h1, c, t, h2.grown hg (by simp only [ne_eq]; omega)⟩
/-- A slice holds these items; all that it reaches lies at B or behind it. -/
structure ItsAt (B : Nat) (w : World) (a : Option Addr) (n : Nat) (l : List It) : Prop where
  len : l.length = n
  cell : ∀ i x, l[i]? = some x → ∃ b o pa pn pc, a = some ⟨b, o, none⟩ ∧ w.cell? ⟨b, o + i * 2, none⟩ = some (.string x.nm) ∧ w.cell? ⟨b, o + i * 2 + 1, none⟩ = some (.slice pa pn pc) ∧ PtsAt w pa pn x.ps ∧ Hd B pa pn pc ∧ B ≤ b ∧ (∀ ad, pa = some ad → B ≤ ad.block) ∧ Sf B w pa ∧ Sf B w a
/-- A slice holds these volumes. -/
structure VsAt (B : Nat) (w : World) (a : Option Addr) (n : Nat) (l : List Vo) : Prop where
  len : l.length = n
  cell : ∀ i x, l[i]? = some x → ∃ b o pa pn pc, a = some ⟨b, o, none⟩ ∧ w.cell? ⟨b, o + i * 4, none⟩ = some (.int .i64 x.id) ∧ w.cell? ⟨b, o + i * 4 + 1, none⟩ = some (.string x.nm) ∧ w.cell? ⟨b, o + i * 4 + 2, none⟩ = some (.bool x.fx) ∧ w.cell? ⟨b, o + i * 4 + 3, none⟩ = some (.slice pa pn pc) ∧ ItsAt B w pa pn x.its ∧ Hd B pa pn pc ∧ B ≤ b ∧ Sf B w a
theorem ItsAt.below {B : Nat} {w w' : World} {a : Option Addr} {n : Nat} {l : List It} (h : ItsAt B w a n l) (hb : Below w.heap.size w w') : ItsAt B w' a n l :=
  ⟨h.len, fun i x hx => by
    obtain ⟨b, o, pa, pn, pc, ha, c0, c1, hp, hh, hB, hA, s1, s2⟩ := h.cell i x hx
    exact ⟨b, o, pa, pn, pc, ha, bcell hb c0, bcell hb c1, hp.below hb, hh, hB, hA, s1.below hb, s2.below hb⟩⟩
theorem VsAt.below {B : Nat} {w w' : World} {a : Option Addr} {n : Nat} {l : List Vo} (h : VsAt B w a n l) (hb : Below w.heap.size w w') : VsAt B w' a n l :=
  ⟨h.len, fun i x hx => by
    obtain ⟨b, o, pa, pn, pc, ha, c0, c1, c2, c3, hp, hh, hB, s2⟩ := h.cell i x hx
    exact ⟨b, o, pa, pn, pc, ha, bcell hb c0, bcell hb c1, bcell hb c2, bcell hb c3, hp.below hb, hh, hB, s2.below hb⟩⟩
theorem ItsAt.mono {B B' : Nat} {w : World} {a : Option Addr} {n : Nat} {l : List It} (h : ItsAt B w a n l) (hb : B' ≤ B) : ItsAt B' w a n l :=
  ⟨h.len, fun i x hx => by
    obtain ⟨b, o, pa, pn, pc, ha, c0, c1, hp, hh, hB, hA, s1, s2⟩ := h.cell i x hx
    exact ⟨b, o, pa, pn, pc, ha, c0, c1, hp, hh.mono hb, by omega, fun ad had => by have := hA ad had; omega, s1.mono hb, s2.mono hb⟩⟩
theorem VsAt.mono {B B' : Nat} {w : World} {a : Option Addr} {n : Nat} {l : List Vo} (h : VsAt B w a n l) (hb : B' ≤ B) : VsAt B' w a n l :=
  ⟨h.len, fun i x hx => by
    obtain ⟨b, o, pa, pn, pc, ha, c0, c1, c2, c3, hp, hh, hB, s2⟩ := h.cell i x hx
    exact ⟨b, o, pa, pn, pc, ha, c0, c1, c2, c3, hp.mono hb, hh.mono hb, by omega, s2.mono hb⟩⟩
theorem ItsAt.grown {B r : Nat} {w w' : World} {a : Option Addr} {n : Nat} {l : List It} (h : ItsAt B w a n l) (hg : w.grownBy w' (some r)) (hr : r < B) : ItsAt B w' a n l :=
  ⟨h.len, fun i x hx => by
    obtain ⟨b, o, pa, pn, pc, ha, c0, c1, hp, hh, hB, hA, s1, s2⟩ := h.cell i x hx
    exact ⟨b, o, pa, pn, pc, ha, hg.cell c0 (by simp; omega), hg.cell c1 (by simp; omega), hp.grown hg (fun ad had => by have := hA ad had; omega), hh, hB, hA, s1.grown hg hr, s2.grown hg hr⟩⟩
theorem its_at {B : Nat} {w : World} {a : Option Addr} {n : Nat} {l : List It} (h : ItsAt B w a n l) {k : Nat} (hk : k < n) :
    ∃ b o x pa pn pc, a = some ⟨b, o, none⟩ ∧ l[k]? = some x ∧ w.cell? ⟨b, o + k * 2, none⟩ = some (.string x.nm) ∧ w.cell? ⟨b, o + k * 2 + 1, none⟩ = some (.slice pa pn pc) ∧ PtsAt w pa pn x.ps ∧ Hd B pa pn pc ∧ B ≤ b ∧ ∀ ad, pa = some ad → B ≤ ad.block := by
  have hx : l[k]? = some (l[k]'(by rw [h.len]; exact hk)) := by simp [h.len, hk]
  obtain ⟨b, o, pa, pn, pc, ha, c0, c1, hp, hh, hB, hA, _⟩ := h.cell k _ hx
  exact ⟨b, o, _, pa, pn, pc, ha, hx, c0, c1, hp, hh, hB, hA⟩
theorem vs_at {B : Nat} {w : World} {a : Option Addr} {n : Nat} {l : List Vo} (h : VsAt B w a n l) {k : Nat} (hk : k < n) :
    ∃ b o x pa pn pc, a = some ⟨b, o, none⟩ ∧ l[k]? = some x ∧ w.cell? ⟨b, o + k * 4, none⟩ = some (.int .i64 x.id) ∧ w.cell? ⟨b, o + k * 4 + 1, none⟩ = some (.string x.nm) ∧ w.cell? ⟨b, o + k * 4 + 2, none⟩ = some (.bool x.fx) ∧ w.cell? ⟨b, o + k * 4 + 3, none⟩ = some (.slice pa pn pc) ∧ ItsAt B w pa pn x.its ∧ Hd B pa pn pc ∧ B ≤ b := by
  have hx : l[k]? = some (l[k]'(by rw [h.len]; exact hk)) := by simp [h.len, hk]
  obtain ⟨b, o, pa, pn, pc, ha, c0, c1, c2, c3, hp, hh, hB, _⟩ := h.cell k _ hx
  exact ⟨b, o, _, pa, pn, pc, ha, hx, c0, c1, c2, c3, hp, hh, hB⟩
/-- Strings and lists as short as memory has them. -/
def StrI (l : List It) : Prop := ∀ x ∈ l, x.nm.size ≤ 9223372036854775807 ∧ x.ps.length ≤ 4194304
def StrV (l : List Vo) : Prop := ∀ v ∈ l, v.nm.size ≤ 9223372036854775807 ∧ v.its.length ≤ 4194304 ∧ StrI v.its
/-- Items are right, behind the one ahead. -/
def igo (e : List Ex) : Option It → List It → Bool
  | _, [] => true
  | q, x :: r => nameB x.nm && (match q with | none => true | some p => bl p.nm.toList x.nm.toList) && (contentO x.ps e).isSome && igo e (some x) r
def itemsB (l : List It) (e : List Ex) : Bool := decide (l.length ≤ 5) && igo e none l
/-- Volumes have rising ids and are right. -/
def vgo (next : Int) (e : List Ex) : Int → List Vo → Bool
  | _, [] => true
  | last, v :: r => decide (last < v.id) && decide (v.id < next) && nameB v.nm && itemsB v.its e && vgo next e v.id r
def volsB (next : Int) (l : List Vo) (e : List Ex) : Bool := decide (l.length ≤ 6) && vgo next e 0 l
/-- What a file's parts, an item, a volume and all of them add to what is counted. -/
def partCs (vol : Int) (f : ByteArray) (ps : List Pt) : List Ct := (ps.filter (fun p => !(p.a == 0))).map (fun p => ⟨⟨p.a, vol, f⟩, 1⟩)
def volCs (v : Vo) : List Ct := v.its.flatMap (fun x => partCs v.id x.nm x.ps)
def allCs (l : List Vo) : List Ct := l.flatMap volCs
def walkL (l : List Vo) : List Ct := sumC [] (allCs l)
def namesB (l : List Vo) : Bool := decide ((l.map (·.nm.toList)).Nodup)
/-- Just the extents that somebody names. -/
def addrB (e : List Ex) (l : List Ct) : Bool := e.all (fun x => l.any (fun c => c.o.a == x.a)) && l.all (fun c => e.any (fun x => x.a == c.o.a))
/-- A right pool. -/
def poolB (p : Po) : Bool := spaceOkB p.size p.ex && decide (1 ≤ p.next) && decide (p.next ≤ 1000000000) && volsB p.next p.vs p.ex && namesB p.vs && (match flushedO p.rf p.lt with | none => false | some s => eqCts s (walkL p.vs)) && addrB p.ex (p.rf ++ p.lt)
end Go.Proofs.YtigldeccfpkdmaaGreatDoor
