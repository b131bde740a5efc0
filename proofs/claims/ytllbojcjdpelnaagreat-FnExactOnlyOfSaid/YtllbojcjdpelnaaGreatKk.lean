/- l3Sum of the model. Names and owners: NameOk, ownerOk, the order of owners, of the program and of the model. ownerOk of the program, l3Owner of the model. LateOk and RefsOk, of the program and of the model. RefsOk, of the program and of the model. Merged and Flushed of the model. The laws' sizes, copies and comparisons of owners and counts. The laws' sizes, copies and comparisons of lists of counts. -/
import Derived.Test.YtllbojcjdpelnaaGreatProg
import Derived.Test.YtllbojcjdpelnaaGreatKj
import Derived.Test.YtllbojcjdpelnaaGreatKc
import Derived.Test.YtllbojcjdpelnaaGreatKf
import Derived.Laws.Rows
namespace Go.Proofs.YtllbojcjdpelnaaGreat
open Go.RowKit Go.BigFrame

theorem bound_addC {B : Int} (hB : 0 ≤ B) {c : Ct} (h1 : -1000 ≤ c.n) (h2 : c.n ≤ 1000) : ∀ {l : List Ct}, (∀ x ∈ l, -B ≤ x.n ∧ x.n ≤ B) → ∀ x ∈ addC l c, -(B + 1000) ≤ x.n ∧ x.n ≤ B + 1000
  | [], _ => by intro x hx; simp [addC] at hx; subst hx; omega
  | y :: r, h => by
    have hy := h y (by simp)
    have hr : ∀ x ∈ r, -B ≤ x.n ∧ x.n ≤ B := fun x hx => h x (by simp [hx])
    have hr' : ∀ x ∈ r, -(B + 1000) ≤ x.n ∧ x.n ≤ B + 1000 := fun x hx => by have := hr x hx; omega
    unfold addC
    split
    · intro x hx
      rcases List.mem_cons.1 hx with rfl | hx
      · omega
      · exact bound_addC hB h1 h2 hr x hx
    · split
      · split
        · intro x hx
          rcases List.mem_cons.1 hx with rfl | hx
          · simp only; omega
          · exact hr' x hx
        · exact hr'
      · intro x hx
        rcases List.mem_cons.1 hx with rfl | hx
        · omega
        · rcases List.mem_cons.1 hx with rfl | hx
          · omega
          · exact hr' x hx

/-- The first k of them added. -/
def sumK (l more : List Ct) (k : Nat) : List Ct := (more.take k).foldl addC l
theorem sumK_succ {l more : List Ct} {k : Nat} {p : Ct} (h : more[k]? = some p) : sumK l more (k + 1) = addC (sumK l more k) p := by
  unfold sumK
  rw [List.take_add_one, h]
  simp
theorem sumK_all {l more : List Ct} {n : Nat} (h : more.length = n) : sumK l more n = sumC l more := by
  unfold sumK sumC
  rw [List.take_of_length_le (Nat.le_of_eq h)]

set_option maxHeartbeats 2000000 in
set_option maxRecDepth 100000 in
theorem spec_l3Sum (a : Option Addr) (n cap : Nat) (l : List Ct) (a' : Option Addr) (n' cap' : Nat) (more : List Ct) (w : World) (h : CtsAt w a n l) (ha1 : ∀ ad, a = some ad → ad.spot = none) (ha2 : a = none → cap = 0) (h' : CtsAt w a' n' more) (hn : n ≤ 200) (hn' : n' ≤ 200) (hb : ∀ x ∈ l, -1000 ≤ x.n ∧ x.n ≤ 1000) (hb' : ∀ x ∈ more, -1000 ≤ x.n ∧ x.n ≤ 1000) :
    Calls Tryz.prog 70 #[.slice a n cap, .slice a' n' cap'] w fun e w' => (∃ a2 n2 cap2, e = .returned (.slice a2 n2 cap2) ∧ n2 ≤ n + n' ∧ ResAt Ct.cs 4 70 w' w.heap.size a2 n2 cap2 (sumC l more)) ∧ Below w.heap.size w w' := by
  have hlen : Hid (l.length = n) := h.len
  have hlen' : Hid (more.length = n') := h'.len
  obtain ⟨i0, hi, hz0, hz1, hz2⟩ := info_parts infoC
  go_enter Tryz.func70, Tryz.ntmps70
  go_wp2_with (at_builtin; refine wpList_app rfl (fun K hK => wp_app _ _ 28 rfl w.heap.size 70 i0 (.agg #[.int .i64 0, .int .i64 0, .string .empty, .int .i64 0]) 40 Tryz.underlying28 hi hz0 hz1 hz2 rfl (by decide) ccs_len ccs_one _ 0 0 [] rfl (res_empty (Blk.new' _ _ _ _ (by simp)) (by simp)) a n cap l rfl (h.alloc _) ha1 ha2 n (Nat.zero_add _) (by unfold maxLen; omega) (by omega) (by simp) (fun a1 cap1 w1 hr1 hg1 => hK _ _ ?_)))
  have hB1 : Below w.heap.size w w1 := Below.grown (by go_grown) hg1 (by simp) (fun k e => by simp [Value.ownBlock] at e; omega)
  rw [List.nil_append] at hr1
  go_loopw [5, 6] (fun out ix wr => ∃ (k : Nat) (a2 : Option Addr) (n2 cap2 : Nat), k ≤ n' ∧ ix = .int .i64 k ∧ out = .slice a2 n2 cap2 ∧ n2 ≤ n + k ∧ ResAt Ct.cs 4 70 wr w.heap.size a2 n2 cap2 (sumK l more k) ∧ (∀ x ∈ sumK l more k, -(1000 + 1000 * (k : Int)) ≤ x.n ∧ x.n ≤ 1000 + 1000 * (k : Int)) ∧ Below w.heap.size w wr) (fun _ ix _ => n' - (intOf ix).toNat)
  case atStart => exact ⟨0, _, n, cap1, Nat.zero_le _, rfl, rfl, by omega, hr1, by simpa [sumK] using hb, hB1⟩
  case round =>
    obtain ⟨k, a2, n2, cap2, hk, rfl, rfl, hn2, R2, hbk, hB⟩ := hrel
    have hsz := hB.size
    by_cases hlt : k < n'
    · obtain ⟨b, o, p, rfl, hp, c0, c1, c2, c3⟩ := cts_at (h'.below hB) hlt
      have hst : Hid (sumK l more (k + 1) = addC (sumK l more k) p) := sumK_succ hp
      obtain ⟨hb1, hb2⟩ := hb' p (List.mem_of_getElem? hp)
      have hbn := bound_addC (B := 1000 + 1000 * (k : Int)) (by omega) hb1 hb2 hbk
      have hbk' : ∀ x ∈ sumK l more k, -1000000000 ≤ x.n ∧ x.n ≤ 1000000000 := fun x hx => by have := hbk x hx; omega
      clear hp
      generalize sumK l more k = G at *
      have hk1 : (k : Int) < n' := by omega
      have hk2 : (0 : Int) ≤ k := by omega
      go_wp2_with fail
      refine (spec_l3Add a2 n2 cap2 G p wr R2.sl (by omega) hbk' ⟨by omega, by omega⟩).mono ?_
      rintro e w3 ⟨⟨a3, n3, cap3, rfl, hn3, R3⟩, hB3⟩
      have hB4 := chain hB hB3
      go_wp2
      go_roundw
      case rel => exact ⟨k + 1, a3, n3, cap3, by omega, by go_num, rfl, by omega, by rw [hst.out]; exact R3.mono hsz, by rw [hst.out]; intro x hx; have := hbn x hx; omega, hB4⟩
      case measure => simp [intOf]; omega
    · obtain rfl : k = n' := by omega
      have hst : Hid (sumK l more k = sumC l more) := sumK_all hlen'.out
      go_wp2
      go_returns
      exact ⟨⟨a2, n2, cap2, rfl, hn2, by rw [← hst.out]; exact R2⟩, hB⟩
end Go.Proofs.YtllbojcjdpelnaaGreat
namespace Go.Proofs.YtllbojcjdpelnaaGreat
open Go.RowKit Go.BigFrame

def letB (c : UInt8) : Bool := decide (97 ≤ (c.toNat : Int)) && decide ((c.toNat : Int) ≤ 122)
def nameB (d : ByteArray) : Bool := decide (1 ≤ d.size) && decide (d.size ≤ 8) && d.data.toList.all letB

set_option maxHeartbeats 400000 in
theorem impl_NameOk (d : ByteArray) (w : World) (hd : d.size ≤ 9223372036854775807) :
    Calls Tryz.prog 92 #[.string d] w fun e w' => e = .returned (.bool (nameB d)) ∧ w' = w := by
  by_cases h1 : 1 ≤ d.size ∧ d.size ≤ 8
  · have hfin : Hid (nameB d = (d.data.toList.drop 0).all letB) := by show _ = _; simp [nameB, h1]
    obtain ⟨h1, h20⟩ := h1
    go_enter Tryz.func92, Tryz.ntmps92
    go_wp2_with fail
    go_loop [14] (fun ix => ∃ (k : Nat), k ≤ d.size ∧ ix = .int .i64 k ∧ Hid (nameB d = (d.data.toList.drop k).all letB)) (fun ix => d.size - (intOf ix).toNat)
    case atStart => exact ⟨0, Nat.zero_le _, rfl, hfin⟩
    case round =>
      obtain ⟨k, hk, rfl, hI⟩ := hrel
      by_cases hlt : k < d.size
      · have hs : Hid (d.data.toList.drop k = d[k] :: d.data.toList.drop (k + 1)) := str_drop d k hlt
        cases hc : letB d[k]
        · have hc' : (d[k].toNat : Int) < 97 ∨ 122 < (d[k].toNat : Int) := by simp [letB] at hc; omega
          go_wp2
          all_goals go_returns
          all_goals go_light
          all_goals (refine ⟨ret_bool ?_, rfl⟩; rw [hI.out, hs.out]; simp [hc])
        · have hc' : 97 ≤ (d[k].toNat : Int) ∧ (d[k].toNat : Int) ≤ 122 := by simp [letB] at hc; omega
          obtain ⟨hc1, hc2⟩ := hc'
          go_wp2
          go_round
          case rel => exact ⟨k + 1, by omega, by go_num, by show _ = _; rw [hI.out, hs.out]; simp [hc]⟩
          case measure => simp [intOf]; omega
      · obtain rfl : k = d.size := by omega
        go_wp2
        go_returns
        go_light
        refine ⟨ret_bool ?_, rfl⟩
        rw [hI.out, List.drop_of_length_le (by simp)]; rfl
  · have hfin : Hid (nameB d = false) := by show _ = _; simp [nameB]; omega
    go_enter Tryz.func92, Tryz.ntmps92
    go_wp2
    all_goals go_returns
    all_goals go_light
    all_goals exact ⟨ret_bool hfin.out.symm, rfl⟩

set_option maxHeartbeats 400000 in
theorem spec_NameOk (d : ByteArray) (w : World) (hd : d.size ≤ 9223372036854775807) :
    Calls Tryz.prog 87 #[.string d] w fun e w' => e = .returned (.bool (nameB d)) ∧ w' = w := by
  by_cases h1 : 1 ≤ d.size ∧ d.size ≤ 8
  · have hfin : Hid (nameB d = (d.data.toList.drop 0).all letB) := by show _ = _; simp [nameB, h1]
    obtain ⟨h1, h20⟩ := h1
    go_enter Tryz.func87, Tryz.ntmps87
    go_wp2_with fail
    go_loop [3] (fun ix => ∃ (k : Nat), k ≤ d.size ∧ ix = .int .i64 k ∧ Hid (nameB d = (d.data.toList.drop k).all letB)) (fun ix => d.size - (intOf ix).toNat)
    case atStart => exact ⟨0, Nat.zero_le _, rfl, hfin⟩
    case round =>
      obtain ⟨k, hk, rfl, hI⟩ := hrel
      by_cases hlt : k < d.size
      · have hs : Hid (d.data.toList.drop k = d[k] :: d.data.toList.drop (k + 1)) := str_drop d k hlt
        cases hc : letB d[k]
        · have hc' : (d[k].toNat : Int) < 97 ∨ 122 < (d[k].toNat : Int) := by simp [letB] at hc; omega
          go_wp2
          all_goals go_returns
          all_goals go_light
          all_goals (refine ⟨ret_bool ?_, rfl⟩; rw [hI.out, hs.out]; simp [hc])
        · have hc' : 97 ≤ (d[k].toNat : Int) ∧ (d[k].toNat : Int) ≤ 122 := by simp [letB] at hc; omega
          obtain ⟨hc1, hc2⟩ := hc'
          go_wp2
          go_round
          case rel => exact ⟨k + 1, by omega, by go_num, by show _ = _; rw [hI.out, hs.out]; simp [hc]⟩
          case measure => simp [intOf]; omega
      · obtain rfl : k = d.size := by omega
        go_wp2
        go_returns
        go_light
        refine ⟨ret_bool ?_, rfl⟩
        rw [hI.out, List.drop_of_length_le (by simp)]; rfl
  · have hfin : Hid (nameB d = false) := by show _ = _; simp [nameB]; omega
    go_enter Tryz.func87, Tryz.ntmps87
    go_wp2
    all_goals go_returns
    all_goals go_light
    all_goals exact ⟨ret_bool hfin.out.symm, rfl⟩
end Go.Proofs.YtllbojcjdpelnaaGreat
namespace Go.Proofs.YtllbojcjdpelnaaGreat
open Go.RowKit Go.BigFrame

def ownerOkB (o : Ow) : Bool := decide (1 ≤ o.a) && decide (o.a ≤ 400) && decide (1 ≤ o.v) && decide (o.v ≤ 1000000000) && nameB o.f

set_option maxHeartbeats 400000 in
theorem impl_ownerOk (p : Ow) (w : World) (hd : p.f.size ≤ 9223372036854775807) :
    Calls Tryz.prog 115 #[.agg #[.int .i64 p.a, .int .i64 p.v, .string p.f]] w fun e w' => e = .returned (.bool (ownerOkB p)) ∧ Below w.heap.size w w' := by
  by_cases h : 1 ≤ p.a ∧ p.a ≤ 400 ∧ 1 ≤ p.v ∧ p.v ≤ 1000000000
  · have hfin : Hid (ownerOkB p = nameB p.f) := by show _ = _; simp [ownerOkB, h]
    generalize ownerOkB p = R at *
    obtain ⟨a, v, f⟩ := p
    simp only at *
    obtain ⟨h1, h2, h3, h4⟩ := h
    go_enter Tryz.func115, Tryz.ntmps115
    go_wp2_with fail
    refine (impl_NameOk f _ hd).mono ?_
    rintro e w1 ⟨rfl, rfl⟩
    go_wp2
    go_returns
    go_light
    exact ⟨ret_bool hfin.out.symm, by go_grown⟩
  · have hfin : Hid (ownerOkB p = false) := by show _ = _; simp [ownerOkB]; omega
    generalize ownerOkB p = R at *
    obtain ⟨a, v, f⟩ := p
    simp only at *
    go_enter Tryz.func115, Tryz.ntmps115
    go_wp2
    all_goals go_returns
    all_goals go_light
    all_goals exact ⟨ret_bool hfin.out.symm, by go_grown⟩

set_option maxHeartbeats 400000 in
theorem spec_l3Owner (p : Ow) (w : World) (hd : p.f.size ≤ 9223372036854775807) :
    Calls Tryz.prog 114 #[.agg #[.int .i64 p.a, .int .i64 p.v, .string p.f]] w fun e w' => e = .returned (.bool (ownerOkB p)) ∧ Below w.heap.size w w' := by
  have hfin : Hid (ownerOkB p = ((decide (1 ≤ p.a) && decide (p.a ≤ 400)) && (decide (1 ≤ p.v) && decide (p.v ≤ 1000000000)) && nameB p.f)) := by show _ = _; simp [ownerOkB, Bool.and_assoc]
  generalize ownerOkB p = R at *
  obtain ⟨a, v, f⟩ := p
  simp only at *
  cases h1 : (decide (1 ≤ a) && decide (a ≤ 400))
  · go_enter Tryz.func114, Tryz.ntmps114
    go_wp2_with fail
    refine (spec_l1In _ _ _ _).mono ?_
    rintro e w1 ⟨rfl, rfl⟩
    rw [h1]
    go_wp2
    go_returns
    go_light
    exact ⟨ret_bool (by rw [hfin.out, h1]; rfl), by go_grown⟩
  · cases h2 : (decide (1 ≤ v) && decide (v ≤ 1000000000))
    · go_enter Tryz.func114, Tryz.ntmps114
      go_wp2_with fail
      refine (spec_l1In _ _ _ _).mono ?_
      rintro e w1 ⟨rfl, rfl⟩
      rw [h1]
      go_wp2_with fail
      refine (spec_l1In _ _ _ _).mono ?_
      rintro e w1 ⟨rfl, rfl⟩
      rw [h2]
      go_wp2
      go_returns
      go_light
      exact ⟨ret_bool (by rw [hfin.out, h1, h2]; rfl), by go_grown⟩
    · go_enter Tryz.func114, Tryz.ntmps114
      go_wp2_with fail
      refine (spec_l1In _ _ _ _).mono ?_
      rintro e w1 ⟨rfl, rfl⟩
      rw [h1]
      go_wp2_with fail
      refine (spec_l1In _ _ _ _).mono ?_
      rintro e w1 ⟨rfl, rfl⟩
      rw [h2]
      go_wp2_with fail
      refine (spec_NameOk f _ hd).mono ?_
      rintro e w1 ⟨rfl, rfl⟩
      go_wp2
      go_returns
      go_light
      exact ⟨ret_bool (by rw [hfin.out, h1, h2]; rfl), by go_grown⟩
end Go.Proofs.YtllbojcjdpelnaaGreat
namespace Go.Proofs.YtllbojcjdpelnaaGreat
open Go.RowKit Go.BigFrame

def StrC (l : List Ct) : Prop := ∀ c ∈ l, c.o.f.size ≤ 9223372036854775807
theorem StrC.at {l : List Ct} (h : StrC l) {k : Nat} {e : Ct} (he : l[k]? = some e) : e.o.f.size ≤ 9223372036854775807 := h e (List.mem_of_getElem? he)

def lateB (c : Ct) : Bool := ownerOkB c.o && decide (-1000 ≤ c.n) && decide (c.n ≤ 1000) && !(c.n == 0)
def lateOkB (l : List Ct) : Bool := decide (l.length ≤ 200) && l.all lateB

theorem box4 {w w1 : World} {x y z u : Value} {t : TypeId} (hb : Below (w.alloc (.cells #[x, y, z, u] t)).heap.size (w.alloc (.cells #[x, y, z, u] t)) w1) :
    w1.cell? ⟨w.heap.size, 0, none⟩ = some x ∧ w1.cell? ⟨w.heap.size, 1, none⟩ = some y ∧ w1.cell? ⟨w.heap.size, 2, none⟩ = some z ∧ w1.cell? ⟨w.heap.size, 3, none⟩ = some u ∧ Below w.heap.size w w1 ∧ w.heap.size < w1.heap.size :=
  ⟨bcell hb (World.cell?_alloc_new _ _ _ 0), bcell hb (World.cell?_alloc_new _ _ _ 1), bcell hb (World.cell?_alloc_new _ _ _ 2), bcell hb (World.cell?_alloc_new _ _ _ 3),
    ((Below.refl _ _).alloc (Nat.le_refl _) _).trans (hb.mono (by simp)), by have := hb.size; simp at this; omega⟩

set_option maxHeartbeats 1000000 in
theorem impl_LateOk (a : Option Addr) (n cap : Nat) (l : List Ct) (w : World) (h : CtsAt w a n l) (hstr : StrC l) (hn : n ≤ 4194304) :
    Calls Tryz.prog 95 #[.slice a n cap] w fun e w' => e = .returned (.bool (lateOkB l)) ∧ Below w.heap.size w w' := by
  have hlen : Hid (l.length = n) := h.len
  by_cases h2 : n ≤ 200
  · have hfin : Hid (lateOkB l = (l.drop 0).all lateB) := by show _ = _; simp [lateOkB, hlen.out, h2]
    go_enter Tryz.func95, Tryz.ntmps95
    go_wp2_with fail
    go_loopw [10] (fun ix wr => ∃ (k : Nat), k ≤ n ∧ ix = .int .i64 k ∧ Hid (lateOkB l = (l.drop k).all lateB) ∧ Below w.heap.size w wr) (fun ix _ => n - (intOf ix).toNat)
    case atStart => exact ⟨0, Nat.zero_le _, rfl, hfin, Below.refl _ _⟩
    case round =>
      obtain ⟨k, hk, rfl, hI, hB⟩ := hrel
      by_cases hlt : k < n
      · obtain ⟨b, o, p, rfl, hp, c0, c1, c2, c3⟩ := cts_at (h.below hB) hlt
        have hd : Hid (l.drop k = p :: l.drop (k + 1)) := drop_at hp
        have hsz := hstr.at hp
        clear hp
        have hwr := hB.size
        cases hdo : ownerOkB p.o
        · go_wp2_with fail
          refine (impl_ownerOk p.o _ hsz).mono ?_
          rintro e w1 ⟨rfl, hB1⟩
          obtain ⟨x0, x1, x2, x3, hB1', hs1⟩ := box4 hB1
          rw [hdo]
          go_wp2
          go_returns
          go_light
          refine ⟨ret_bool ?_, chain hB hB1'⟩
          rw [hI.out, hd.out]; simp [lateB, hdo]
        · by_cases hok : -1000 ≤ p.n ∧ p.n ≤ 1000 ∧ p.n ≠ 0
          · obtain ⟨ha1, ha2, ha3⟩ := hok
            have hz : (p.n == 0) = false := beq_eq_false_iff_ne.2 ha3
            go_wp2_with fail
            refine (impl_ownerOk p.o _ hsz).mono ?_
            rintro e w1 ⟨rfl, hB1⟩
            obtain ⟨x0, x1, x2, x3, hB1', hs1⟩ := box4 hB1
            rw [hdo]
            go_wp2
            go_roundw
            case rel => exact ⟨k + 1, by omega, by go_num, by show _ = _; rw [hI.out, hd.out]; simp [lateB, hdo, ha1, ha2, ha3], chain hB hB1'⟩
            case measure => simp [intOf]; omega
          · have hz : Hid (lateB p = false) := by
              show _ = _
              by_cases hz : p.n = 0
              · simp [lateB, hz]
              · simp [lateB, hz]; omega
            go_wp2_with fail
            refine (impl_ownerOk p.o _ hsz).mono ?_
            rintro e w1 ⟨rfl, hB1⟩
            obtain ⟨x0, x1, x2, x3, hB1', hs1⟩ := box4 hB1
            rw [hdo]
            cases hz' : (p.n == 0)
            all_goals (have hzz := hz'; simp at hzz)
            all_goals go_wp2
            all_goals go_returns
            all_goals go_light
            all_goals refine ⟨ret_bool ?_, chain hB hB1'⟩
            all_goals (rw [hI.out, hd.out]; simp [hz.out])
      · obtain rfl : k = n := by omega
        go_wp2
        go_returns
        go_light
        refine ⟨ret_bool ?_, hB⟩
        rw [hI.out, List.drop_of_length_le (Nat.le_of_eq hlen.out)]; rfl
  · have hfin : Hid (lateOkB l = false) := by show _ = _; have := hlen.out; simp [lateOkB]; omega
    go_enter Tryz.func95, Tryz.ntmps95
    go_wp2
    go_returns
    go_light
    exact ⟨ret_bool hfin.out.symm, Below.refl _ _⟩

set_option maxHeartbeats 1000000 in
theorem spec_LateOk (a : Option Addr) (n cap : Nat) (l : List Ct) (w : World) (h : CtsAt w a n l) (hstr : StrC l) (hn : n ≤ 4194304) :
    Calls Tryz.prog 90 #[.slice a n cap] w fun e w' => e = .returned (.bool (lateOkB l)) ∧ Below w.heap.size w w' := by
  have hlen : Hid (l.length = n) := h.len
  by_cases h2 : n ≤ 200
  · have hfin : Hid (lateOkB l = (l.drop 0).all lateB) := by show _ = _; simp [lateOkB, hlen.out, h2]
    go_enter Tryz.func90, Tryz.ntmps90
    go_wp2_with fail
    go_loopw [3] (fun ix wr => ∃ (k : Nat), k ≤ n ∧ ix = .int .i64 k ∧ Hid (lateOkB l = (l.drop k).all lateB) ∧ Below w.heap.size w wr) (fun ix _ => n - (intOf ix).toNat)
    case atStart => exact ⟨0, Nat.zero_le _, rfl, hfin, Below.refl _ _⟩
    case round =>
      obtain ⟨k, hk, rfl, hI, hB⟩ := hrel
      by_cases hlt : k < n
      · obtain ⟨b, o, p, rfl, hp, c0, c1, c2, c3⟩ := cts_at (h.below hB) hlt
        have hd : Hid (l.drop k = p :: l.drop (k + 1)) := drop_at hp
        have hsz := hstr.at hp
        clear hp
        have hwr := hB.size
        cases hdo : ownerOkB p.o
        · go_wp2_with fail
          refine (spec_l3Owner p.o _ hsz).mono ?_
          rintro e w1 ⟨rfl, hB1⟩
          rw [hdo]
          go_wp2
          go_returns
          go_light
          refine ⟨ret_bool ?_, chain hB hB1⟩
          rw [hI.out, hd.out]; simp [lateB, hdo]
        · cases hii : (decide (-1000 ≤ p.n) && decide (p.n ≤ 1000))
          · go_wp2_with fail
            refine (spec_l3Owner p.o _ hsz).mono ?_
            rintro e w1 ⟨rfl, hB1⟩
            rw [hdo]
            have e3 := bcell hB1 c3
            go_wp2_with fail
            refine (spec_l1In _ _ _ _).mono ?_
            rintro e w2 ⟨rfl, rfl⟩
            rw [hii]
            go_wp2
            go_returns
            go_light
            refine ⟨ret_bool ?_, chain hB hB1⟩
            rw [hI.out, hd.out]; simp only [List.all_cons, lateB, hdo, Bool.true_and, hii, Bool.false_and]
          · cases hz : (p.n == 0)
            all_goals
              go_wp2_with fail
              refine (spec_l3Owner p.o _ hsz).mono ?_
              rintro e w1 ⟨rfl, hB1⟩
              rw [hdo]
              have e3 := bcell hB1 c3
              go_wp2_with fail
              refine (spec_l1In _ _ _ _).mono ?_
              rintro e w2 ⟨rfl, rfl⟩
              rw [hii]
              go_wp2
            · go_roundw
              case rel => exact ⟨k + 1, by omega, by go_num, by show _ = _; rw [hI.out, hd.out]; simp only [List.all_cons, lateB, hdo, Bool.true_and, hii, hz, Bool.not_false], chain hB hB1⟩
              case measure => simp [intOf]; omega
            · go_returns
              go_light
              refine ⟨ret_bool ?_, chain hB hB1⟩
              rw [hI.out, hd.out]; simp only [List.all_cons, lateB, hdo, Bool.true_and, hii, hz, Bool.not_true, Bool.false_and]
      · obtain rfl : k = n := by omega
        go_wp2
        go_returns
        go_light
        refine ⟨ret_bool ?_, hB⟩
        rw [hI.out, List.drop_of_length_le (Nat.le_of_eq hlen.out)]; rfl
  · have hfin : Hid (lateOkB l = false) := by show _ = _; have := hlen.out; simp [lateOkB]; omega
    go_enter Tryz.func90, Tryz.ntmps90
    go_wp2
    go_returns
    go_light
    exact ⟨ret_bool hfin.out.symm, Below.refl _ _⟩
end Go.Proofs.YtllbojcjdpelnaaGreat
namespace Go.Proofs.YtllbojcjdpelnaaGreat
open Go.RowKit Go.BigFrame

def refB (c : Ct) : Bool := ownerOkB c.o && decide (1 ≤ c.n) && decide (c.n ≤ 1000)
def rgo : Option Ct → List Ct → Bool
  | _, [] => true
  | none, c :: r => refB c && rgo (some c) r
  | some q, c :: r => refB c && owLt q.o c.o && rgo (some c) r
def refsOkB (l : List Ct) : Bool := decide (l.length ≤ 200) && rgo none l
/-- The count ahead of the k-th. -/
def aheadC (l : List Ct) (k : Nat) : Option Ct := if k = 0 then none else l[k - 1]?
theorem aheadC_zero (l : List Ct) : aheadC l 0 = none := rfl
theorem aheadC_succ (l : List Ct) (k : Nat) : aheadC l (k + 1) = l[k]? := by simp [aheadC]

set_option maxHeartbeats 2000000 in
theorem impl_RefsOk (a : Option Addr) (n cap : Nat) (l : List Ct) (w : World) (h : CtsAt w a n l) (hstr : StrC l) (hn : n ≤ 4194304) :
    Calls Tryz.prog 94 #[.slice a n cap] w fun e w' => e = .returned (.bool (refsOkB l)) ∧ Below w.heap.size w w' := by
  have hlen : Hid (l.length = n) := h.len
  by_cases h2 : n ≤ 200
  · have hfin : Hid (refsOkB l = rgo (aheadC l 0) (l.drop 0)) := by show _ = _; simp [refsOkB, hlen.out, h2, aheadC]
    go_enter Tryz.func94, Tryz.ntmps94
    go_wp2_with fail
    go_loopw [10] (fun ix wr => ∃ (k : Nat), k ≤ n ∧ ix = .int .i64 k ∧ Hid (refsOkB l = rgo (aheadC l k) (l.drop k)) ∧ Below w.heap.size w wr) (fun ix _ => n - (intOf ix).toNat)
    case atStart => exact ⟨0, Nat.zero_le _, rfl, hfin, Below.refl _ _⟩
    case round =>
      obtain ⟨k, hk, rfl, hI, hB⟩ := hrel
      by_cases hlt : k < n
      · obtain ⟨b, o, p, rfl, hp, c0, c1, c2, c3⟩ := cts_at (h.below hB) hlt
        have hd : Hid (l.drop k = p :: l.drop (k + 1)) := drop_at hp
        have hq : Hid (l[k]? = some p) := hp
        have hsz := hstr.at hp
        clear hp
        have hwr := hB.size
        cases hdo : ownerOkB p.o
        · go_wp2_with fail
          refine (impl_ownerOk p.o _ hsz).mono ?_
          rintro e w1 ⟨rfl, hB1⟩
          obtain ⟨x0, x1, x2, x3, hB1', hs1⟩ := box4 hB1
          rw [hdo]
          go_wp2
          go_returns
          go_light
          refine ⟨ret_bool ?_, chain hB hB1'⟩
          rw [hI.out, hd.out]; cases aheadC l k <;> simp [rgo, refB, hdo]
        · by_cases hok : 1 ≤ p.n ∧ p.n ≤ 1000
          · obtain ⟨ha1, ha2⟩ := hok
            have hrb : Hid (refB p = true) := by show _ = _; simp [refB, hdo, ha1, ha2]
            rcases k with _ | j
            · simp only [Nat.zero_mul, Nat.add_zero] at c0 c1 c2 c3
              go_wp2_with fail
              refine (impl_ownerOk p.o _ hsz).mono ?_
              rintro e w1 ⟨rfl, hB1⟩
              obtain ⟨x0, x1, x2, x3, hB1', hs1⟩ := box4 hB1
              rw [hdo]
              go_wp2_with fail
              go_quiet (fail)
              go_wp2
              go_roundw
              case rel => exact ⟨1, by omega, by go_num, by show _ = _; rw [hI.out, hd.out, aheadC_zero, aheadC_succ, hq.out]; simp [rgo, hrb.out], chain hB (chain hB1' (drewNB _ _))⟩
              case measure => simp [intOf]; omega
            · obtain ⟨b', o', q, hbo, hq', d0, d1, d2, d3⟩ := cts_at (h.below hB) (k := j) (by omega)
              obtain ⟨rfl, rfl⟩ : b = b' ∧ o = o' := by simpa using hbo
              have hah : Hid (aheadC l (j + 1) = some q) := by show _ = _; rw [aheadC_succ]; exact hq'
              clear hq' hbo
              cases hgo : owLt q.o p.o
              all_goals
                go_wp2_with fail
                refine (impl_ownerOk p.o _ hsz).mono ?_
                rintro e w1 ⟨rfl, hB1⟩
                obtain ⟨x0, x1, x2, x3, hB1', hs1⟩ := box4 hB1
                rw [hdo]
                replace d0 := bcell hB1' d0
                replace d1 := bcell hB1' d1
                replace d2 := bcell hB1' d2
                have hj : (0 : Int) < (j : Int) + 1 := by omega
                have hj1 : (j : Int) < n := by omega
                have hj2 : (0 : Int) ≤ j := by omega
                have hw1 : IntKind.i64.wrap ((j : Int) + 1 - 1) = (j : Int) := by rw [IntKind.wrap_i64]; omega
                have hw2 : IntKind.i64.wrap (j : Int) = (j : Int) := by rw [IntKind.wrap_i64]; omega
                clear c0 c1 c2 c3
                go_wp2_with fail
                have g0 := gcell x0
                have g1 := gcell x1
                have g2 := gcell x2
                have g3 := gcell d0
                have g4 := gcell d1
                have g5 := gcell d2
                have hne := grw_ne w1
                refine wp_region_grow (by kernel_rfl) (by kernel_rfl) ?_
                repeat (go_big_quiet_step (first | (go_at_call 116; have qq := impl_OwnerAhead q.o p.o; rw [hgo] at qq; exact grow_of (qq _))))
                refine wpQuiet_nil ?_
                intro w2 hx
                have hB2 := grw_out hx
                clear hx
                go_wp2
              · go_returns
                go_light
                refine ⟨ret_bool ?_, chain hB (chain hB1' hB2)⟩
                rw [hI.out, hd.out, hah.out]; simp [rgo, hgo]
              · go_roundw
                case rel => exact ⟨j + 2, by omega, by go_num, by show _ = _; rw [hI.out, hd.out, hah.out, aheadC_succ, hq.out]; simp [rgo, hgo, hrb.out], chain hB (chain hB1' hB2)⟩
                case measure => simp [intOf]; omega
          · have hz : Hid (refB p = false) := by show _ = _; simp [refB]; omega
            go_wp2_with fail
            refine (impl_ownerOk p.o _ hsz).mono ?_
            rintro e w1 ⟨rfl, hB1⟩
            obtain ⟨x0, x1, x2, x3, hB1', hs1⟩ := box4 hB1
            rw [hdo]
            go_wp2
            all_goals go_returns
            all_goals go_light
            all_goals refine ⟨ret_bool ?_, chain hB hB1'⟩
            all_goals (rw [hI.out, hd.out]; cases aheadC l k <;> simp [rgo, hz.out])
      · obtain rfl : k = n := by omega
        go_wp2
        go_returns
        go_light
        refine ⟨ret_bool ?_, hB⟩
        rw [hI.out, List.drop_of_length_le (Nat.le_of_eq hlen.out)]; cases aheadC l k <;> rfl
  · have hfin : Hid (refsOkB l = false) := by show _ = _; have := hlen.out; simp [refsOkB]; omega
    go_enter Tryz.func94, Tryz.ntmps94
    go_wp2
    go_returns
    go_light
    exact ⟨ret_bool hfin.out.symm, Below.refl _ _⟩

set_option maxHeartbeats 2000000 in
theorem spec_RefsOk (a : Option Addr) (n cap : Nat) (l : List Ct) (w : World) (h : CtsAt w a n l) (hstr : StrC l) (hn : n ≤ 4194304) :
    Calls Tryz.prog 89 #[.slice a n cap] w fun e w' => e = .returned (.bool (refsOkB l)) ∧ Below w.heap.size w w' := by
  have hlen : Hid (l.length = n) := h.len
  by_cases h2 : n ≤ 200
  · have hfin : Hid (refsOkB l = rgo (aheadC l 0) (l.drop 0)) := by show _ = _; simp [refsOkB, hlen.out, h2, aheadC]
    go_enter Tryz.func89, Tryz.ntmps89
    go_wp2_with fail
    go_loopw [3] (fun ix wr => ∃ (k : Nat), k ≤ n ∧ ix = .int .i64 k ∧ Hid (refsOkB l = rgo (aheadC l k) (l.drop k)) ∧ Below w.heap.size w wr) (fun ix _ => n - (intOf ix).toNat)
    case atStart => exact ⟨0, Nat.zero_le _, rfl, hfin, Below.refl _ _⟩
    case round =>
      obtain ⟨k, hk, rfl, hI, hB⟩ := hrel
      by_cases hlt : k < n
      · obtain ⟨b, o, p, rfl, hp, c0, c1, c2, c3⟩ := cts_at (h.below hB) hlt
        have hd : Hid (l.drop k = p :: l.drop (k + 1)) := drop_at hp
        have hq : Hid (l[k]? = some p) := hp
        have hsz := hstr.at hp
        clear hp
        have hwr := hB.size
        have hk1 : (k : Int) < n := by omega
        have hk2 : (0 : Int) ≤ k := by omega
        cases hdo : ownerOkB p.o
        · go_wp2_with fail
          have g0 := gcell c0
          have g1 := gcell c1
          have g2 := gcell c2
          have g3 := gcell c3
          have hne := grw_ne wr
          refine wp_region_grow (by kernel_rfl) (by kernel_rfl) ?_
          repeat (go_big_quiet_step (first | (go_at_call 114; have qq := fun w => spec_l3Owner p.o w hsz; rw [hdo] at qq; exact grow_of (qq _))))
          refine wpQuiet_nil ?_
          intro w2 hx
          have hB2 := grw_out hx
          clear hx
          go_wp2
          go_returns
          go_light
          refine ⟨ret_bool ?_, chain hB hB2⟩
          rw [hI.out, hd.out]; cases aheadC l k <;> simp [rgo, refB, hdo]
        · cases hii : (decide (1 ≤ p.n) && decide (p.n ≤ 1000))
          · have hz : Hid (refB p = false) := by show _ = _; simp only [refB, hdo, Bool.true_and, hii]
            go_wp2_with fail
            have g0 := gcell c0
            have g1 := gcell c1
            have g2 := gcell c2
            have g3 := gcell c3
            have hne := grw_ne wr
            refine wp_region_grow (by kernel_rfl) (by kernel_rfl) ?_
            repeat (go_big_quiet_step (first | (go_at_call 114; have qq := fun w => spec_l3Owner p.o w hsz; rw [hdo] at qq; exact grow_of (qq _)) | (go_at_call 50; have qq := spec_l1In p.n 1 1000; rw [hii] at qq; exact grow_of_same (qq _))))
            refine wpQuiet_nil ?_
            intro w2 hx
            have hB2 := grw_out hx
            clear hx
            go_wp2
            go_returns
            go_light
            refine ⟨ret_bool ?_, chain hB hB2⟩
            rw [hI.out, hd.out]; cases aheadC l k <;> simp [rgo, hz.out]
          · have hrb : Hid (refB p = true) := by show _ = _; simp only [refB, hdo, Bool.true_and, hii]
            rcases k with _ | j
            · simp only [Nat.zero_mul, Nat.add_zero] at c0 c1 c2 c3
              go_wp2_with fail
              have g0 := gcell c0
              have g1 := gcell c1
              have g2 := gcell c2
              have g3 := gcell c3
              have hne := grw_ne wr
              refine wp_region_grow (by kernel_rfl) (by kernel_rfl) ?_
              repeat (go_big_quiet_step (first | (go_at_call 114; have qq := fun w => spec_l3Owner p.o w hsz; rw [hdo] at qq; exact grow_of (qq _)) | (go_at_call 50; have qq := spec_l1In p.n 1 1000; rw [hii] at qq; exact grow_of_same (qq _))))
              refine wpQuiet_nil ?_
              intro w2 hx
              have hB2 := grw_out hx
              clear hx
              go_wp2
              go_roundw
              case rel => exact ⟨1, by omega, by go_num, by show _ = _; rw [hI.out, hd.out, aheadC_zero, aheadC_succ, hq.out]; simp [rgo, hrb.out], chain hB hB2⟩
              case measure => simp [intOf]; omega
            · obtain ⟨b', o', q, hbo, hq', d0, d1, d2, d3⟩ := cts_at (h.below hB) (k := j) (by omega)
              obtain ⟨rfl, rfl⟩ : b = b' ∧ o = o' := by simpa using hbo
              have hah : Hid (aheadC l (j + 1) = some q) := by show _ = _; rw [aheadC_succ]; exact hq'
              clear hq' hbo d3
              cases hgo : owLt q.o p.o
              all_goals
                go_wp2_with fail
                have g0 := gcell c0
                have g1 := gcell c1
                have g2 := gcell c2
                have g3 := gcell c3
                have g4 := gcell d0
                have g5 := gcell d1
                have g6 := gcell d2
                have hne := grw_ne wr
                refine wp_region_grow (by kernel_rfl) (by kernel_rfl) ?_
                repeat (go_big_quiet_step (first | (go_at_call 114; have qq := fun w => spec_l3Owner p.o w hsz; rw [hdo] at qq; exact grow_of (qq _)) | (go_at_call 50; have qq := spec_l1In p.n 1 1000; rw [hii] at qq; exact grow_of_same (qq _)) | (go_at_call 104; have qq := spec_OwnerAhead q.o p.o; rw [hgo] at qq; exact grow_of (qq _))))
                refine wpQuiet_nil ?_
                intro w2 hx
                have hB2 := grw_out hx
                clear hx
                go_wp2
              · go_returns
                go_light
                refine ⟨ret_bool ?_, chain hB hB2⟩
                rw [hI.out, hd.out, hah.out]; simp [rgo, hgo]
              · go_roundw
                case rel => exact ⟨j + 2, by omega, by go_num, by show _ = _; rw [hI.out, hd.out, hah.out, aheadC_succ, hq.out]; simp [rgo, hgo, hrb.out], chain hB hB2⟩
                case measure => simp [intOf]; omega
      · obtain rfl : k = n := by omega
        go_wp2
        go_returns
        go_light
        refine ⟨ret_bool ?_, hB⟩
        rw [hI.out, List.drop_of_length_le (Nat.le_of_eq hlen.out)]; cases aheadC l k <;> rfl
  · have hfin : Hid (refsOkB l = false) := by show _ = _; have := hlen.out; simp [refsOkB]; omega
    go_enter Tryz.func89, Tryz.ntmps89
    go_wp2
    go_returns
    go_light
    exact ⟨ret_bool hfin.out.symm, Below.refl _ _⟩
end Go.Proofs.YtllbojcjdpelnaaGreat
namespace Go.Proofs.YtllbojcjdpelnaaGreat
open Go.RowKit Go.BigFrame

def mergedL (l : List Ct) : List Ct := if lateOkB l = true then sumC [] l else []
def flushedO (refs late : List Ct) : Option (List Ct) := if refsOkB refs = true ∧ lateOkB late = true then (if refsOkB (sumC refs late) = true then some (sumC refs late) else none) else none

theorem late_bound {l : List Ct} (h : lateOkB l = true) : l.length ≤ 200 ∧ ∀ x ∈ l, -1000 ≤ x.n ∧ x.n ≤ 1000 := by
  simp only [lateOkB, Bool.and_eq_true, decide_eq_true_eq, List.all_eq_true] at h
  refine ⟨h.1, fun x hx => ?_⟩
  have := h.2 x hx
  simp only [lateB, Bool.and_eq_true, decide_eq_true_eq] at this
  exact ⟨this.1.1.2, this.1.2⟩

theorem str_addC {c : Ct} (hc : c.o.f.size ≤ 9223372036854775807) : ∀ {l : List Ct}, StrC l → StrC (addC l c)
  | [], _ => by intro x hx; simp [addC] at hx; subst hx; exact hc
  | y :: r, h => by
    have hy := h y (by simp)
    have hr : StrC r := fun x hx => h x (by simp [hx])
    unfold addC
    split
    · intro x hx
      rcases List.mem_cons.1 hx with rfl | hx
      · exact hy
      · exact str_addC hc hr x hx
    · split
      · split
        · intro x hx
          rcases List.mem_cons.1 hx with rfl | hx
          · exact hc
          · exact hr x hx
        · exact hr
      · intro x hx
        rcases List.mem_cons.1 hx with rfl | hx
        · exact hc
        · exact h x hx
theorem str_sumC : ∀ {more l : List Ct}, StrC l → StrC more → StrC (sumC l more)
  | [], l, h, _ => h
  | c :: r, l, h, hm => str_sumC (more := r) (l := addC l c) (str_addC (hm c (by simp)) h) (fun x hx => hm x (by simp [hx]))

theorem rgo_all : ∀ {l : List Ct} {q : Option Ct}, rgo q l = true → ∀ x ∈ l, refB x = true
  | [], _, _ => by simp
  | c :: r, q, h => by
    have h2 : refB c = true ∧ rgo (some c) r = true := by
      cases q
      · simpa only [rgo, Bool.and_eq_true] using h
      · simp only [rgo, Bool.and_eq_true] at h; exact ⟨h.1.1, h.2⟩
    intro x hx
    rcases List.mem_cons.1 hx with rfl | hx
    · exact h2.1
    · exact rgo_all h2.2 x hx
theorem refs_bound {l : List Ct} (h : refsOkB l = true) : l.length ≤ 200 ∧ ∀ x ∈ l, 1 ≤ x.n ∧ x.n ≤ 1000 := by
  simp only [refsOkB, Bool.and_eq_true, decide_eq_true_eq] at h
  refine ⟨h.1, fun x hx => ?_⟩
  have := rgo_all h.2 x hx
  simp only [refB, Bool.and_eq_true, decide_eq_true_eq] at this
  exact ⟨this.1.2, this.2⟩

def RetCts (B : Nat) (e : Ending) (w' : World) : Option (List Ct) → Prop
  | none => e = .returned (.tuple #[.slice none 0 0, .bool false])
  | some L => ∃ a n cap, e = .returned (.tuple #[.slice a n cap, .bool true]) ∧ ResAt Ct.cs 4 70 w' B a n cap L

set_option maxHeartbeats 2000000 in
set_option maxRecDepth 100000 in
theorem spec_Flushed (a : Option Addr) (n cap : Nat) (l : List Ct) (a' : Option Addr) (n' cap' : Nat) (more : List Ct) (w : World) (h : CtsAt w a n l) (ha1 : ∀ ad, a = some ad → ad.spot = none) (ha2 : a = none → cap = 0) (h' : CtsAt w a' n' more) (hstr : StrC l) (hstr' : StrC more) (hn : n ≤ 4194304) (hn' : n' ≤ 4194304) :
    Calls Tryz.prog 52 #[.slice a n cap, .slice a' n' cap'] w fun e w' => RetCts w.heap.size e w' (flushedO l more) ∧ Below w.heap.size w w' := by
  have hlen : Hid (l.length = n) := h.len
  have hlen' : Hid (more.length = n') := h'.len
  cases hok : refsOkB l
  · have hf : flushedO l more = none := by simp [flushedO, hok]
    rw [hf]
    go_enter Tryz.func52, Tryz.ntmps52
    go_wp2_with fail
    refine (spec_RefsOk a n cap l _ h hstr hn).mono ?_
    rintro e w1 ⟨rfl, hB1⟩
    rw [hok]
    go_wp2
    go_returns
    go_light
    exact ⟨rfl, hB1⟩
  · cases hok' : lateOkB more
    · have hf : flushedO l more = none := by simp [flushedO, hok']
      rw [hf]
      go_enter Tryz.func52, Tryz.ntmps52
      go_wp2_with fail
      refine (spec_RefsOk a n cap l _ h hstr hn).mono ?_
      rintro e w1 ⟨rfl, hB1⟩
      rw [hok]
      go_wp2_with fail
      refine (spec_LateOk a' n' cap' more _ (h'.below hB1) hstr' hn').mono ?_
      rintro e w2 ⟨rfl, hB2⟩
      rw [hok']
      have hB3 := chain hB1 hB2
      go_wp2
      go_returns
      go_light
      exact ⟨rfl, hB3⟩
    · obtain ⟨hl, hb⟩ := refs_bound hok
      obtain ⟨hl2, hb2⟩ := late_bound hok'
      have hl' : n ≤ 200 := by rw [← hlen.out]; exact hl
      have hl2' : n' ≤ 200 := by rw [← hlen'.out]; exact hl2
      have hss := str_sumC hstr hstr'
      cases hok3 : refsOkB (sumC l more)
      · have hf : flushedO l more = none := by simp [flushedO, hok, hok', hok3]
        rw [hf]
        clear hf
        go_enter Tryz.func52, Tryz.ntmps52
        go_wp2_with fail
        refine (spec_RefsOk a n cap l _ h hstr hn).mono ?_
        rintro e w1 ⟨rfl, hB1⟩
        rw [hok]
        go_wp2_with fail
        refine (spec_LateOk a' n' cap' more _ (h'.below hB1) hstr' hn').mono ?_
        rintro e w2 ⟨rfl, hB2⟩
        rw [hok']
        have hB3 := chain hB1 hB2
        go_wp2_with fail
        refine (spec_l3Sum a n cap l a' n' cap' more w2 (h.below hB3) ha1 ha2 (h'.below hB3) hl' hl2' (fun x hx => by have := hb x hx; omega) hb2).mono ?_
        rintro e w4 ⟨⟨a2, n2, cap2, rfl, hn2, R2⟩, hB4⟩
        have hB5 := chain hB3 hB4
        replace R2 := R2.mono hB3.size
        go_wp2_with fail
        refine (spec_RefsOk a2 n2 cap2 (sumC l more) _ R2.sl hss (by omega)).mono ?_
        rintro e w6 ⟨rfl, hB6⟩
        rw [hok3]
        have hB7 := chain hB5 hB6
        replace R2 := R2.below hB6
        go_wp2
        go_returns
        go_light
        exact ⟨rfl, hB7⟩
      · have hf : flushedO l more = some (sumC l more) := by simp [flushedO, hok, hok', hok3]
        rw [hf]
        clear hf
        go_enter Tryz.func52, Tryz.ntmps52
        go_wp2_with fail
        refine (spec_RefsOk a n cap l _ h hstr hn).mono ?_
        rintro e w1 ⟨rfl, hB1⟩
        rw [hok]
        go_wp2_with fail
        refine (spec_LateOk a' n' cap' more _ (h'.below hB1) hstr' hn').mono ?_
        rintro e w2 ⟨rfl, hB2⟩
        rw [hok']
        have hB3 := chain hB1 hB2
        go_wp2_with fail
        refine (spec_l3Sum a n cap l a' n' cap' more w2 (h.below hB3) ha1 ha2 (h'.below hB3) hl' hl2' (fun x hx => by have := hb x hx; omega) hb2).mono ?_
        rintro e w4 ⟨⟨a2, n2, cap2, rfl, hn2, R2⟩, hB4⟩
        have hB5 := chain hB3 hB4
        replace R2 := R2.mono hB3.size
        go_wp2_with fail
        refine (spec_RefsOk a2 n2 cap2 (sumC l more) _ R2.sl hss (by omega)).mono ?_
        rintro e w6 ⟨rfl, hB6⟩
        rw [hok3]
        have hB7 := chain hB5 hB6
        replace R2 := R2.below hB6
        go_wp2
        go_returns
        go_light
        exact ⟨⟨a2, n2, cap2, rfl, R2⟩, hB7⟩
end Go.Proofs.YtllbojcjdpelnaaGreat
namespace Go.Proofs.YtllbojcjdpelnaaGreat
open Go.RowKit Go.BigFrame

theorem laws_toOwner (p : Ow) (w : World) :
    Calls Tryz.prog 106 #[.agg #[.int .i64 p.a, .int .i64 p.v, .string p.f]] w fun e w' => e = .returned (.agg #[.int .i64 p.a, .int .i64 p.v, .string p.f]) ∧ Below w.heap.size w w' := by
  obtain ⟨a, v, f⟩ := p
  go_enter Tryz.func106, Tryz.ntmps106
  go_wp2
  go_returns
  go_light
  refine ⟨rfl, by go_grown⟩

theorem box443 {w w1 : World} {x y z u : Value} {c d : Array Value} {t t1 t2 : TypeId} (hb : Below (((w.alloc (.cells #[x, y, z, u] t)).alloc (.cells c t1)).alloc (.cells d t2)).heap.size (((w.alloc (.cells #[x, y, z, u] t)).alloc (.cells c t1)).alloc (.cells d t2)) w1) :
    w1.cell? ⟨w.heap.size, 3, none⟩ = some u ∧ Blk w1 (w.heap.size + 1) c t1 ∧ Blk w1 (w.heap.size + 1 + 1) d t2 ∧ Below w.heap.size w w1 := by
  refine ⟨bcell hb (acell _ (acell _ (World.cell?_alloc_new _ _ _ 3))), ?_, ?_, chain (by go_grown) hb⟩
  · have := ((Blk.new (w.alloc (.cells #[x, y, z, u] t)) c t1).alloc (.cells d t2)).below hb
    simpa using this
  · have := (Blk.new ((w.alloc (.cells #[x, y, z, u] t)).alloc (.cells c t1)) d t2).below hb
    simpa using this

theorem Blk.other {w : World} {b : Nat} {c : Array Value} {t : TypeId} (h : Blk w b c t) (p : Addr) (v : Value) (hp : b ≠ p.block) : Blk (w.setCell p v) b c t := by
  unfold Blk at *; rw [Below.heap_setCell _ _ _ _ (by simpa using hp)]; exact h

set_option maxHeartbeats 1000000 in
theorem laws_toCounted (p : Ct) (w : World) :
    Calls Tryz.prog 79 #[.agg #[.int .i64 p.o.a, .int .i64 p.o.v, .string p.o.f, .int .i64 p.n]] w fun e w' => e = .returned (.agg #[.int .i64 p.o.a, .int .i64 p.o.v, .string p.o.f, .int .i64 p.n]) ∧ Below w.heap.size w w' := by
  obtain ⟨⟨a, v, f⟩, n⟩ := p
  go_enter Tryz.func79, Tryz.ntmps79
  go_wp2_with fail
  refine (laws_toOwner ⟨a, v, f⟩ _).mono ?_
  rintro e w1 ⟨rfl, hB1⟩
  obtain ⟨c3, hb2, hb1, hB2⟩ := box443 hB1
  clear hB1
  have g0 := hb2.frozen 0
  have g1 := hb2.frozen 1
  have g2 := hb2.frozen 2
  have g3 := hb2.frozen 3
  have z0 : w1.cell? ⟨w.heap.size + 1, 0, none⟩ = some (.int .i64 0) := hb2.cell 0
  have z1 : w1.cell? ⟨w.heap.size + 1, 1, none⟩ = some (.int .i64 0) := hb2.cell 1
  have z2 : w1.cell? ⟨w.heap.size + 1, 2, none⟩ = some (.string ⟨#[]⟩) := hb2.cell 2
  have z3 : w1.cell? ⟨w.heap.size + 1, 3, none⟩ = some (.int .i64 0) := hb2.cell 3
  have f0 := hb1.frozen 0
  have f1 := hb1.frozen 1
  have f2 := hb1.frozen 2
  have f3 := hb1.frozen 3
  have y0 : w1.cell? ⟨w.heap.size + 1 + 1, 0, none⟩ = some (.int .i64 0) := hb1.cell 0
  have y1 : w1.cell? ⟨w.heap.size + 1 + 1, 1, none⟩ = some (.int .i64 0) := hb1.cell 1
  have y2 : w1.cell? ⟨w.heap.size + 1 + 1, 2, none⟩ = some (.string ⟨#[]⟩) := hb1.cell 2
  have y3 : w1.cell? ⟨w.heap.size + 1 + 1, 3, none⟩ = some (.int .i64 0) := hb1.cell 3
  have hW4 : Blk ((((w1.setCell ⟨w.heap.size + 1 + 1, 0, none⟩ (.int .i64 a)).setCell ⟨w.heap.size + 1 + 1, 1, none⟩ (.int .i64 v)).setCell ⟨w.heap.size + 1 + 1, 2, none⟩ (.string f)).setCell ⟨w.heap.size + 1 + 1, 3, none⟩ (.int .i64 n)) (w.heap.size + 1) #[.int .i64 0, .int .i64 0, .string ⟨#[]⟩, .int .i64 0] 70 :=
    (((hb2.other ⟨w.heap.size + 1 + 1, 0, none⟩ (.int .i64 a) (by simp)).other ⟨w.heap.size + 1 + 1, 1, none⟩ (.int .i64 v) (by simp)).other ⟨w.heap.size + 1 + 1, 2, none⟩ (.string f) (by simp)).other ⟨w.heap.size + 1 + 1, 3, none⟩ (.int .i64 n) (by simp)
  have hBW : Below w.heap.size w ((((((((w1.setCell ⟨w.heap.size + 1 + 1, 0, none⟩ (.int .i64 a)).setCell ⟨w.heap.size + 1 + 1, 1, none⟩ (.int .i64 v)).setCell ⟨w.heap.size + 1 + 1, 2, none⟩ (.string f)).setCell ⟨w.heap.size + 1 + 1, 3, none⟩ (.int .i64 n)).setCell ⟨w.heap.size + 1, 0, none⟩ (.int .i64 a)).setCell ⟨w.heap.size + 1, 1, none⟩ (.int .i64 v)).setCell ⟨w.heap.size + 1, 2, none⟩ (.string f)).setCell ⟨w.heap.size + 1, 3, none⟩ (.int .i64 n)) := by
    refine (((((((hB2.setCell ?_ _).setCell ?_ _).setCell ?_ _).setCell ?_ _).setCell ?_ _).setCell ?_ _).setCell ?_ _).setCell ?_ _
    all_goals (simp; try omega)
  have hW : Blk ((((((((w1.setCell ⟨w.heap.size + 1 + 1, 0, none⟩ (.int .i64 a)).setCell ⟨w.heap.size + 1 + 1, 1, none⟩ (.int .i64 v)).setCell ⟨w.heap.size + 1 + 1, 2, none⟩ (.string f)).setCell ⟨w.heap.size + 1 + 1, 3, none⟩ (.int .i64 n)).setCell ⟨w.heap.size + 1, 0, none⟩ (.int .i64 a)).setCell ⟨w.heap.size + 1, 1, none⟩ (.int .i64 v)).setCell ⟨w.heap.size + 1, 2, none⟩ (.string f)).setCell ⟨w.heap.size + 1, 3, none⟩ (.int .i64 n)) (w.heap.size + 1) #[.int .i64 a, .int .i64 v, .string f, .int .i64 n] 70 := by
    have := (((hW4.set 0 (.int .i64 a)).set 1 (.int .i64 v)).set 2 (.string f)).set 3 (.int .i64 n)
    simpa using this
  clear hb1 hb2 hW4
  go_wp2
  generalize ((((((((w1.setCell ⟨w.heap.size + 1 + 1, 0, none⟩ (.int .i64 a)).setCell ⟨w.heap.size + 1 + 1, 1, none⟩ (.int .i64 v)).setCell ⟨w.heap.size + 1 + 1, 2, none⟩ (.string f)).setCell ⟨w.heap.size + 1 + 1, 3, none⟩ (.int .i64 n)).setCell ⟨w.heap.size + 1, 0, none⟩ (.int .i64 a)).setCell ⟨w.heap.size + 1, 1, none⟩ (.int .i64 v)).setCell ⟨w.heap.size + 1, 2, none⟩ (.string f)).setCell ⟨w.heap.size + 1, 3, none⟩ (.int .i64 n)) = W8 at *
  refine bodyPost_ret (results_cell_row rfl _ W8 (w.heap.size + 1) _ _ _ _ rfl hW Tryz.underlying70 rfl (by kernel_rfl)) rfl ?_
  exact ⟨rfl, hBW⟩

theorem laws_eqOwner (p q : Ow) (w : World) :
    Calls Tryz.prog 82 #[.agg #[.int .i64 p.a, .int .i64 p.v, .string p.f], .agg #[.int .i64 q.a, .int .i64 q.v, .string q.f]] w fun e w' => e = .returned (.bool (owEq p q)) ∧ Below w.heap.size w w' := by
  obtain ⟨a, v, f⟩ := p
  obtain ⟨b, u, g⟩ := q
  go_enter Tryz.func82, Tryz.ntmps82
  go_wp2
  all_goals go_returns
  all_goals go_light
  all_goals refine ⟨?_, by go_grown⟩
  all_goals simp_all [owEq]

def eqCt (p q : Ct) : Bool := owEq p.o q.o && p.n == q.n

theorem laws_eqCounted (p q : Ct) (w : World) :
    Calls Tryz.prog 43 #[.agg #[.int .i64 p.o.a, .int .i64 p.o.v, .string p.o.f, .int .i64 p.n], .agg #[.int .i64 q.o.a, .int .i64 q.o.v, .string q.o.f, .int .i64 q.n]] w fun e w' => e = .returned (.bool (eqCt p q)) ∧ Below w.heap.size w w' := by
  cases he : owEq p.o q.o
  all_goals
    have hfin : Hid (eqCt p q = (owEq p.o q.o && p.n == q.n)) := rfl
    generalize eqCt p q = R at *
    obtain ⟨⟨a, v, f⟩, n⟩ := p
    obtain ⟨⟨b, u, g⟩, m⟩ := q
    simp only at *
    go_enter Tryz.func43, Tryz.ntmps43
    go_wp2_with fail
    refine (laws_eqOwner ⟨a, v, f⟩ ⟨b, u, g⟩ _).mono ?_
    rintro e w1 ⟨rfl, hB1⟩
    rw [he]
    have c3 : w1.cell? ⟨w.heap.size, 3, none⟩ = some (.int .i64 n) := bcell hB1 (acell _ (by simp))
    have d3 : w1.cell? ⟨w.heap.size + 1, 3, none⟩ = some (.int .i64 m) := bcell hB1 (by simp)
    have hB2 : Below w.heap.size w w1 := chain (by go_grown) hB1
    clear hB1
  · go_wp2
    go_returns
    go_light
    exact ⟨ret_bool (by rw [hfin.out, he]; rfl), hB2⟩
  · go_wp2
    all_goals go_returns
    all_goals go_light
    all_goals refine ⟨ret_bool ?_, hB2⟩
    all_goals (rw [hfin.out, he]; simp_all)

theorem laws_szOwner (p : Ow) (left : Int) (w : World) (h0 : 0 ≤ left) (h1 : left ≤ 1048576) (hd : p.f.size ≤ 9223372036854775807) :
    Calls Tryz.prog 103 #[.agg #[.int .i64 p.a, .int .i64 p.v, .string p.f], .int .i64 left] w fun e w' => e = .returned (.int .i64 (if left - p.f.size < 0 then -1 else left - p.f.size)) ∧ Below w.heap.size w w' := by
  obtain ⟨a, v, d⟩ := p
  simp only at hd ⊢
  by_cases h : left - (d.size : Int) < 0
  · rw [if_pos h]
    go_enter Tryz.func103, Tryz.ntmps103
    go_wp2
    go_returns
    go_light
    exact ⟨rfl, by go_grown⟩
  · rw [if_neg h]
    go_enter Tryz.func103, Tryz.ntmps103
    go_wp2
    go_returns
    go_light
    exact ⟨rfl, by go_grown⟩
end Go.Proofs.YtllbojcjdpelnaaGreat
namespace Go.Proofs.YtllbojcjdpelnaaGreat
open Go.RowKit Go.BigFrame

def szC (left : Int) (p : Ct) : Int := if left - p.o.f.size < 0 then -1 else left - p.o.f.size

theorem laws_szCounted (p : Ct) (left : Int) (w : World) (h0 : 0 ≤ left) (h1 : left ≤ 1048576) (hd : p.o.f.size ≤ 9223372036854775807) :
    Calls Tryz.prog 75 #[.agg #[.int .i64 p.o.a, .int .i64 p.o.v, .string p.o.f, .int .i64 p.n], .int .i64 left] w fun e w' => e = .returned (.int .i64 (szC left p)) ∧ Below w.heap.size w w' := by
  by_cases h : left - (p.o.f.size : Int) < 0
  · have hf : Hid (szC left p = -1) := by show _ = _; simp [szC]; omega
    generalize szC left p = R at *
    obtain ⟨⟨a, v, d⟩, n⟩ := p
    simp only at *
    go_enter Tryz.func75, Tryz.ntmps75
    go_wp2_with fail
    refine (laws_szOwner ⟨a, v, d⟩ left _ h0 h1 hd).mono ?_
    rintro e w1 ⟨rfl, hB1⟩
    have hB2 : Below w.heap.size w w1 := chain (by go_grown) hB1
    clear hB1
    simp only [if_pos h]
    go_wp2
    go_returns
    go_light
    exact ⟨ret_int hf.out.symm, hB2⟩
  · have hf : Hid (szC left p = left - p.o.f.size) := by show _ = _; simp [szC]; omega
    generalize szC left p = R at *
    obtain ⟨⟨a, v, d⟩, n⟩ := p
    simp only at *
    go_enter Tryz.func75, Tryz.ntmps75
    go_wp2_with fail
    refine (laws_szOwner ⟨a, v, d⟩ left _ h0 h1 hd).mono ?_
    rintro e w1 ⟨rfl, hB1⟩
    have hB2 : Below w.heap.size w w1 := chain (by go_grown) hB1
    clear hB1
    simp only [if_neg (Int.not_lt.2 h)]
    go_wp2
    go_returns
    go_light
    exact ⟨ret_int hf.out.symm, hB2⟩

/-- A list of counts that is within the budget. -/
def SmallC (n : Nat) (l : List Ct) : Prop := n ≤ 1048576 ∧ ∀ e ∈ l, e.o.f.size ≤ 1048576
theorem SmallC.strs {n : Nat} {l : List Ct} (h : SmallC n l) : StrC l := fun e he => by have := h.2 e he; omega

set_option maxHeartbeats 1000000 in
theorem laws_szCountedS (a : Option Addr) (n cap : Nat) (l : List Ct) (L : Int) (w : World) (h : CtsAt w a n l) (hstr : StrC l) (hn : n ≤ 9223372036854775807) (hL0 : 0 ≤ L) (hL : L ≤ 1048576) :
    Calls Tryz.prog 36 #[.slice a n cap, .int .i64 L] w fun e w' => (∃ r : Int, e = .returned (.int .i64 r) ∧ (r = -1 ∨ (0 ≤ r ∧ r ≤ 1048576 ∧ SmallC n l))) ∧ Below w.heap.size w w' := by
  have hlen : Hid (l.length = n) := h.len
  by_cases hb : L - (n : Int) < 0
  · go_enter Tryz.func36, Tryz.ntmps36
    go_wp2
    go_returns
    go_light
    exact ⟨⟨_, rfl, .inl rfl⟩, Below.refl _ _⟩
  · go_enter Tryz.func36, Tryz.ntmps36
    go_wp2_with fail
    go_loopw [1, 5] (fun lf ix wr => ∃ (k : Nat) (r : Int), k ≤ n ∧ ix = .int .i64 k ∧ lf = .int .i64 r ∧ 0 ≤ r ∧ r ≤ 1048576 ∧ Hid (∀ i e, i < k → l[i]? = some e → e.o.f.size ≤ 1048576) ∧ Below w.heap.size w wr) (fun _ ix _ => n - (intOf ix).toNat)
    case atStart => exact ⟨0, _, Nat.zero_le _, rfl, rfl, by omega, by omega, fun i e hi => by omega, Below.refl _ _⟩
    case round =>
      obtain ⟨k, r, hk, rfl, rfl, hr0, hr1, hI, hB⟩ := hrel
      by_cases hlt : k < n
      · obtain ⟨b, o, p, rfl, hp, c0, c1, c2, c3⟩ := cts_at (h.below hB) hlt
        have hp' : Hid (l[k]? = some p) := hp
        have hsz := hstr.at hp
        clear hp
        by_cases hs : r - (p.o.f.size : Int) < 0
        · have hf : Hid (szC r p = -1) := by show _ = _; simp [szC]; omega
          go_wp2_with fail
          refine (laws_szCounted p r _ hr0 hr1 hsz).mono ?_
          rintro e w1 ⟨rfl, hB1⟩
          rw [hf.out]
          go_wp2
          go_returns
          go_light
          exact ⟨⟨_, rfl, .inl rfl⟩, chain hB hB1⟩
        · have hf : Hid (szC r p = r - p.o.f.size) := by show _ = _; simp [szC]; omega
          go_wp2_with fail
          refine (laws_szCounted p r _ hr0 hr1 hsz).mono ?_
          rintro e w1 ⟨rfl, hB1⟩
          rw [hf.out]
          go_wp2
          go_roundw
          case rel =>
            refine ⟨k + 1, r - p.o.f.size, by omega, by go_num, rfl, by omega, by omega, ?_, chain hB hB1⟩
            intro i e hi he
            by_cases hik : i = k
            · subst hik
              rw [hp'.out] at he
              obtain rfl := Option.some.inj he
              omega
            · exact hI.out i e (by omega) he
          case measure => simp [intOf]; omega
      · obtain rfl : k = n := by omega
        go_wp2
        go_returns
        go_light
        refine ⟨⟨_, rfl, .inr ⟨hr0, hr1, by omega, ?_⟩⟩, hB⟩
        intro e he
        obtain ⟨i, hi⟩ := List.mem_iff_getElem?.1 he
        refine hI.out i e ?_ hi
        have := (List.getElem?_eq_some_iff.1 hi).1
        rw [hlen.out] at this; exact this

def eqCts : List Ct → List Ct → Bool
  | [], [] => true
  | p :: r, q :: s => eqCt p q && eqCts r s
  | _, _ => false

theorem eqCts_refl (l : List Ct) : eqCts l l = true := by
  induction l with
  | nil => rfl
  | cons p r ih => simp [eqCts, eqCt, owEq, ih]
theorem eqCts_len {l : List Ct} : ∀ {m : List Ct}, l.length ≠ m.length → eqCts l m = false := by
  induction l with
  | nil => intro m h; cases m <;> simp [eqCts] at *
  | cons p r ih => intro m h; cases m <;> simp [eqCts] at *; exact fun _ => ih h

set_option maxHeartbeats 1000000 in
theorem laws_eqCountedS (a : Option Addr) (n cap : Nat) (l : List Ct) (a' : Option Addr) (n' cap' : Nat) (m : List Ct) (w : World) (h : CtsAt w a n l) (h' : CtsAt w a' n' m) (hn : n ≤ 4194304) (hn' : n' ≤ 4194304) :
    Calls Tryz.prog 14 #[.slice a n cap, .slice a' n' cap'] w fun e w' => e = .returned (.bool (eqCts l m)) ∧ Below w.heap.size w w' := by
  have hlen : Hid (l.length = n) := h.len
  have hlen' : Hid (m.length = n') := h'.len
  by_cases hne : n = n'
  · subst hne
    have hbn : ((n : Int) != (n : Int)) = false := by simp
    go_enter Tryz.func14, Tryz.ntmps14
    go_wp2_with fail
    go_loopw [5] (fun ix wr => ∃ (k : Nat), k ≤ n ∧ ix = .int .i64 k ∧ Hid (eqCts l m = eqCts (l.drop k) (m.drop k)) ∧ Below w.heap.size w wr) (fun ix _ => n - (intOf ix).toNat)
    case atStart => exact ⟨0, Nat.zero_le _, rfl, rfl, Below.refl _ _⟩
    case round =>
      obtain ⟨k, hk, rfl, hI, hB⟩ := hrel
      by_cases hlt : k < n
      · obtain ⟨b, o, p, rfl, hp, c0, c1, c2, c3⟩ := cts_at (h.below hB) hlt
        obtain ⟨b', o', q, rfl, hq, d0, d1, d2, d3⟩ := cts_at (h'.below hB) hlt
        have hd : Hid (l.drop k = p :: l.drop (k + 1)) := drop_at hp
        have hd' : Hid (m.drop k = q :: m.drop (k + 1)) := drop_at hq
        clear hp hq
        have hk1 : (k : Int) < n := by omega
        have hk2 : (0 : Int) ≤ k := by omega
        cases hpq : eqCt p q
        all_goals
          go_wp2_with fail
          have g0 := gcell c0
          have g1 := gcell c1
          have g2 := gcell c2
          have g3 := gcell c3
          have g4 := gcell d0
          have g5 := gcell d1
          have g6 := gcell d2
          have g7 := gcell d3
          have hne := grw_ne wr
          refine wp_region_grow (by kernel_rfl) (by kernel_rfl) ?_
          repeat (go_big_quiet_step (first | (go_at_call 43; have qq := laws_eqCounted p q; rw [hpq] at qq; exact grow_of (qq _))))
          refine wpQuiet_nil ?_
          intro w2 hx
          have hB2 := grw_out hx
          clear hx
          go_wp2
        · go_returns
          go_light
          refine ⟨ret_bool ?_, chain hB hB2⟩
          rw [hI.out, hd.out, hd'.out]; simp only [eqCts, hpq, Bool.false_and]
        · go_roundw
          case rel => exact ⟨k + 1, by omega, by go_num, by show _ = _; rw [hI.out, hd.out, hd'.out]; simp only [eqCts, hpq, Bool.true_and], chain hB hB2⟩
          case measure => simp [intOf]; omega
      · obtain rfl : k = n := by omega
        go_wp2
        go_returns
        go_light
        refine ⟨ret_bool ?_, hB⟩
        rw [hI.out, List.drop_of_length_le (Nat.le_of_eq hlen.out), List.drop_of_length_le (Nat.le_of_eq hlen'.out)]; rfl
  · have hbn : ((n : Int) != (n' : Int)) = true := by simp; omega
    go_enter Tryz.func14, Tryz.ntmps14
    go_wp2
    go_returns
    go_light
    refine ⟨ret_bool ?_, Below.refl _ _⟩
    rw [eqCts_len (by rw [hlen.out, hlen'.out]; exact hne)]
end Go.Proofs.YtllbojcjdpelnaaGreat
