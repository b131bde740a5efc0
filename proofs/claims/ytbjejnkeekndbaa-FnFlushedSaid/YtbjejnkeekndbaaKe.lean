/- Names and owners: NameOk, ownerOk, the order of owners, of the program and of the model. The order of owners: cmp.Compare, cmp.Or, ownerOrder, OwnerAhead of the program; OwnerAhead of the model. ownerOrder, OwnerAhead. ownerOk of the program, l3Owner of the model. LateOk and RefsOk, of the program and of the model. RefsOk, of the program and of the model. The laws' sizes, copies and comparisons of owners and counts. The laws' sizes, copies and comparisons of lists of counts. -/
import Derived.Test.YtbjejnkeekndbaaProg
import Derived.Test.YtbjejnkeekndbaaKc
import Derived.Test.YtbjejnkeekndbaaKa
import Derived.Test.YtbjejnkeekndbaaKb
import Derived.Laws.Rows
namespace Go.Proofs.Ytbjejnkeekndbaa
open Go.RowKit Go.BigFrame

def letB (c : UInt8) : Bool := decide (97 ≤ (c.toNat : Int)) && decide ((c.toNat : Int) ≤ 122)
def nameB (d : ByteArray) : Bool := decide (1 ≤ d.size) && decide (d.size ≤ 8) && d.data.toList.all letB

set_option maxHeartbeats 400000 in
theorem impl_NameOk (d : ByteArray) (w : World) (hd : d.size ≤ 9223372036854775807) :
    Calls Try.prog 145 #[.string d] w fun e w' => e = .returned (.bool (nameB d)) ∧ w' = w := by
  by_cases h1 : 1 ≤ d.size ∧ d.size ≤ 8
  · have hfin : Hid (nameB d = (d.data.toList.drop 0).all letB) := by show _ = _; simp [nameB, h1]
    obtain ⟨h1, h20⟩ := h1
    go_enter Try.func145, Try.ntmps145
    go_wp2_with fail
    go_loop [14] (fun ix => ∃ (k : Nat), k ≤ d.size ∧ ix = .int .i64 k ∧ Hid (nameB d = (d.data.toList.drop k).all letB)) (fun ix => d.size - (intOf ix).toNat)
    case atStart => exact ⟨0, Nat.zero_le _, rfl, hfin⟩
    case round =>
      obtain ⟨k, hk, rfl, hI⟩ := hrel
      by_cases hlt : k < d.size
      · have hs : Hid (d.data.toList.drop k = d[k] :: d.data.toList.drop (k + 1)) := str_drop d k hlt
        cases hc : letB d[k]
        · have hc' : (d[k].toNat : Int) < 97 ∨ 122 < (d[k].toNat : Int) := by simp [letB] at hc; omega
          go_wp2
          all_goals go_returns
          all_goals go_light
          all_goals (refine ⟨ret_bool ?_, rfl⟩; rw [hI.out, hs.out]; simp [hc])
        · have hc' : 97 ≤ (d[k].toNat : Int) ∧ (d[k].toNat : Int) ≤ 122 := by simp [letB] at hc; omega
          obtain ⟨hc1, hc2⟩ := hc'
          go_wp2
          go_round
          case rel => exact ⟨k + 1, by omega, by go_num, by show _ = _; rw [hI.out, hs.out]; simp [hc]⟩
          case measure => simp [intOf]; omega
      · obtain rfl : k = d.size := by omega
        go_wp2
        go_returns
        go_light
        refine ⟨ret_bool ?_, rfl⟩
        rw [hI.out, List.drop_of_length_le (by simp)]; rfl
  · have hfin : Hid (nameB d = false) := by show _ = _; simp [nameB]; omega
    go_enter Try.func145, Try.ntmps145
    go_wp2
    all_goals go_returns
    all_goals go_light
    all_goals exact ⟨ret_bool hfin.out.symm, rfl⟩

set_option maxHeartbeats 400000 in
theorem spec_NameOk (d : ByteArray) (w : World) (hd : d.size ≤ 9223372036854775807) :
    Calls Try.prog 130 #[.string d] w fun e w' => e = .returned (.bool (nameB d)) ∧ w' = w := by
  by_cases h1 : 1 ≤ d.size ∧ d.size ≤ 8
  · have hfin : Hid (nameB d = (d.data.toList.drop 0).all letB) := by show _ = _; simp [nameB, h1]
    obtain ⟨h1, h20⟩ := h1
    go_enter Try.func130, Try.ntmps130
    go_wp2_with fail
    go_loop [3] (fun ix => ∃ (k : Nat), k ≤ d.size ∧ ix = .int .i64 k ∧ Hid (nameB d = (d.data.toList.drop k).all letB)) (fun ix => d.size - (intOf ix).toNat)
    case atStart => exact ⟨0, Nat.zero_le _, rfl, hfin⟩
    case round =>
      obtain ⟨k, hk, rfl, hI⟩ := hrel
      by_cases hlt : k < d.size
      · have hs : Hid (d.data.toList.drop k = d[k] :: d.data.toList.drop (k + 1)) := str_drop d k hlt
        cases hc : letB d[k]
        · have hc' : (d[k].toNat : Int) < 97 ∨ 122 < (d[k].toNat : Int) := by simp [letB] at hc; omega
          go_wp2
          all_goals go_returns
          all_goals go_light
          all_goals (refine ⟨ret_bool ?_, rfl⟩; rw [hI.out, hs.out]; simp [hc])
        · have hc' : 97 ≤ (d[k].toNat : Int) ∧ (d[k].toNat : Int) ≤ 122 := by simp [letB] at hc; omega
          obtain ⟨hc1, hc2⟩ := hc'
          go_wp2
          go_round
          case rel => exact ⟨k + 1, by omega, by go_num, by show _ = _; rw [hI.out, hs.out]; simp [hc]⟩
          case measure => simp [intOf]; omega
      · obtain rfl : k = d.size := by omega
        go_wp2
        go_returns
        go_light
        refine ⟨ret_bool ?_, rfl⟩
        rw [hI.out, List.drop_of_length_le (by simp)]; rfl
  · have hfin : Hid (nameB d = false) := by show _ = _; simp [nameB]; omega
    go_enter Try.func130, Try.ntmps130
    go_wp2
    all_goals go_returns
    all_goals go_light
    all_goals exact ⟨ret_bool hfin.out.symm, rfl⟩
end Go.Proofs.Ytbjejnkeekndbaa
namespace Go.Proofs.Ytbjejnkeekndbaa
open Go.RowKit Go.BigFrame

theorem cmp_isNaN_int (x : Int) (w : World) :
    Calls Try.prog 158 #[.int .i64 x] w fun e w' => e = .returned (.bool false) ∧ w' = w := by
  have hx : (x != x) = false := by simp
  go_enter Try.func158, Try.ntmps158
  go_wp2
  go_returns
  go_light
  exact ⟨by simp, rfl⟩

theorem cmp_isNaN_str (x : ByteArray) (w : World) :
    Calls Try.prog 159 #[.string x] w fun e w' => e = .returned (.bool false) ∧ w' = w := by
  go_enter Try.func159, Try.ntmps159
  go_wp2
  go_returns
  go_light
  exact ⟨by simp, rfl⟩

theorem cmp_Compare_int (x y : Int) (w : World) :
    Calls Try.prog 147 #[.int .i64 x, .int .i64 y] w fun e w' => e = .returned (.int .i64 (cmpI x y)) ∧ w' = w := by
  go_enter Try.func147, Try.ntmps147
  go_wp2_with fail
  refine (cmp_isNaN_int _ _).mono ?_
  rintro e w1 ⟨rfl, rfl⟩
  go_wp2_with fail
  refine (cmp_isNaN_int _ _).mono ?_
  rintro e w1 ⟨rfl, rfl⟩
  go_wp2
  all_goals go_returns
  all_goals go_light
  all_goals refine ⟨ret_int ?_, rfl⟩
  all_goals simp [cmpI]
  all_goals omega

theorem cmp_Compare_str (x y : ByteArray) (w : World) :
    Calls Try.prog 148 #[.string x, .string y] w fun e w' => e = .returned (.int .i64 (cmpS x y)) ∧ w' = w := by
  go_enter Try.func148, Try.ntmps148
  go_wp2_with fail
  refine (cmp_isNaN_str _ _).mono ?_
  rintro e w1 ⟨rfl, rfl⟩
  go_wp2_with fail
  refine (cmp_isNaN_str _ _).mono ?_
  rintro e w1 ⟨rfl, rfl⟩
  go_wp2
  all_goals go_returns
  all_goals go_light
  all_goals refine ⟨ret_int ?_, rfl⟩
  all_goals simp_all [cmpS, bl]

theorem cmp_Or3 (x y z : Int) (b : Nat) (cap : Nat) (w : World) (h0 : w.cell? ⟨b, 0, none⟩ = some (.int .i64 x)) (h1 : w.cell? ⟨b, 1, none⟩ = some (.int .i64 y)) (h2 : w.cell? ⟨b, 2, none⟩ = some (.int .i64 z)) :
    Calls Try.prog 146 #[.slice (some ⟨b, 0, none⟩) 3 cap] w fun e w' => e = .returned (.int .i64 (or3 x y z)) ∧ w' = w := by
  by_cases hx : x = 0
  · have hx' : (x != 0) = false := by simp [hx]
    by_cases hy : y = 0
    · have hy' : (y != 0) = false := by simp [hy]
      by_cases hz : z = 0
      · have hz' : (z != 0) = false := by simp [hz]
        have hf : Hid (or3 x y z = 0) := by show _ = _; simp [or3, hx, hy, hz]
        clear hx hy hz
        go_enter Try.func146, Try.ntmps146
        go_wp2_with fail
        go_rounds 4
        go_returns
        go_light
        exact ⟨ret_int hf.out.symm, rfl⟩
      · have hz' : (z != 0) = true := by simp [hz]
        have hf : Hid (or3 x y z = z) := by show _ = _; simp [or3, hx, hy]
        clear hx hy hz
        go_enter Try.func146, Try.ntmps146
        go_wp2_with fail
        go_rounds 3
        go_returns
        go_light
        exact ⟨ret_int hf.out.symm, rfl⟩
    · have hy' : (y != 0) = true := by simp [hy]
      have hf : Hid (or3 x y z = y) := by show _ = _; simp [or3, hx, hy]
      clear hx hy
      go_enter Try.func146, Try.ntmps146
      go_wp2_with fail
      go_rounds 2
      go_returns
      go_light
      exact ⟨ret_int hf.out.symm, rfl⟩
  · have hx' : (x != 0) = true := by simp [hx]
    have hf : Hid (or3 x y z = x) := by show _ = _; simp [or3, hx]
    clear hx
    go_enter Try.func146, Try.ntmps146
    go_wp2_with fail
    go_rounds 1
    go_returns
    go_light
    exact ⟨ret_int hf.out.symm, rfl⟩
end Go.Proofs.Ytbjejnkeekndbaa
namespace Go.Proofs.Ytbjejnkeekndbaa
open Go.RowKit Go.BigFrame

theorem new3 (w : World) (x y z : Value) (t : TypeId) : (w.alloc (.cells #[x, y, z] t)).drew.cell? ⟨w.heap.size, 0, none⟩ = some x ∧ (w.alloc (.cells #[x, y, z] t)).drew.cell? ⟨w.heap.size, 1, none⟩ = some y ∧ (w.alloc (.cells #[x, y, z] t)).drew.cell? ⟨w.heap.size, 2, none⟩ = some z :=
  ⟨World.cell?_alloc_new _ _ _ 0, World.cell?_alloc_new _ _ _ 1, World.cell?_alloc_new _ _ _ 2⟩

set_option maxHeartbeats 1000000 in
theorem impl_ownerOrder (p q : Ow) (w : World) :
    Calls Try.prog 113 #[.agg #[.int .i64 p.a, .int .i64 p.v, .string p.f], .agg #[.int .i64 q.a, .int .i64 q.v, .string q.f]] w fun e w' => e = .returned (.int .i64 (ordO p q)) ∧ Below w.heap.size w w' := by
  have hfin : Hid (ordO p q = or3 (cmpI p.a q.a) (cmpI p.v q.v) (cmpS p.f q.f)) := rfl
  generalize ordO p q = R at *
  obtain ⟨a, v, f⟩ := p
  obtain ⟨b, u, g⟩ := q
  simp only at hfin
  go_enter Try.func113, Try.ntmps113
  go_wp2_with fail
  have x0 : ((w.alloc (.cells #[.int .i64 a, .int .i64 v, .string f] 64)).alloc (.cells #[.int .i64 b, .int .i64 u, .string g] 64)).cell? ⟨w.heap.size, 0, none⟩ = some (.int .i64 a) := acell _ (by simp)
  have x1 : ((w.alloc (.cells #[.int .i64 a, .int .i64 v, .string f] 64)).alloc (.cells #[.int .i64 b, .int .i64 u, .string g] 64)).cell? ⟨w.heap.size, 1, none⟩ = some (.int .i64 v) := acell _ (by simp)
  have x2 : ((w.alloc (.cells #[.int .i64 a, .int .i64 v, .string f] 64)).alloc (.cells #[.int .i64 b, .int .i64 u, .string g] 64)).cell? ⟨w.heap.size, 2, none⟩ = some (.string f) := acell _ (by simp)
  have y0 : ((w.alloc (.cells #[.int .i64 a, .int .i64 v, .string f] 64)).alloc (.cells #[.int .i64 b, .int .i64 u, .string g] 64)).cell? ⟨w.heap.size + 1, 0, none⟩ = some (.int .i64 b) := by simp
  have y1 : ((w.alloc (.cells #[.int .i64 a, .int .i64 v, .string f] 64)).alloc (.cells #[.int .i64 b, .int .i64 u, .string g] 64)).cell? ⟨w.heap.size + 1, 1, none⟩ = some (.int .i64 u) := by simp
  have y2 : ((w.alloc (.cells #[.int .i64 a, .int .i64 v, .string f] 64)).alloc (.cells #[.int .i64 b, .int .i64 u, .string g] 64)).cell? ⟨w.heap.size + 1, 2, none⟩ = some (.string g) := by simp
  have hB0 : Below w.heap.size w ((w.alloc (.cells #[.int .i64 a, .int .i64 v, .string f] 64)).alloc (.cells #[.int .i64 b, .int .i64 u, .string g] 64)) := by go_grown
  generalize (w.alloc (.cells #[.int .i64 a, .int .i64 v, .string f] 64)).alloc (.cells #[.int .i64 b, .int .i64 u, .string g] 64) = W0 at *
  go_region_held3 (fun u' => u'.cell? ⟨w.heap.size, 0, none⟩ = some (.int .i64 a) ∧ u'.cell? ⟨w.heap.size, 1, none⟩ = some (.int .i64 v) ∧ u'.cell? ⟨w.heap.size, 2, none⟩ = some (.string f) ∧ u'.cell? ⟨w.heap.size + 1, 0, none⟩ = some (.int .i64 b) ∧ u'.cell? ⟨w.heap.size + 1, 1, none⟩ = some (.int .i64 u) ∧ u'.cell? ⟨w.heap.size + 1, 2, none⟩ = some (.string g)) (go_keep)
    (first | (go_at_call 147; refine (cmp_Compare_int _ _ _).mono ?_; rintro e w2 ⟨rfl, rfl⟩) | (go_at_call 148; refine (cmp_Compare_str _ _ _).mono ?_; rintro e w2 ⟨rfl, rfl⟩) | (go_at_call 146; refine (cmp_Or3 (cmpI a b) (cmpI v u) (cmpS f g) W0.heap.size 3 _ (new3 W0 _ _ _ _).1 (new3 W0 _ _ _ _).2.1 (new3 W0 _ _ _ _).2.2).mono ?_; rintro e w2 ⟨rfl, rfl⟩))
  go_wp2
  go_returns
  go_light
  exact ⟨ret_int hfin.out.symm, (hB0.alloc hB0.size _).drew⟩

theorem impl_OwnerAhead (p q : Ow) (w : World) :
    Calls Try.prog 54 #[.agg #[.int .i64 p.a, .int .i64 p.v, .string p.f], .agg #[.int .i64 q.a, .int .i64 q.v, .string q.f]] w fun e w' => e = .returned (.bool (owLt p q)) ∧ Below w.heap.size w w' := by
  have hfin : Hid (owLt p q = decide (ordO p q < 0)) := (ordO_lt p q).symm
  obtain ⟨a, v, f⟩ := p
  obtain ⟨b, u, g⟩ := q
  go_enter Try.func54, Try.ntmps54
  go_wp2_with fail
  refine (impl_ownerOrder ⟨a, v, f⟩ ⟨b, u, g⟩ _).mono ?_
  rintro e w1 ⟨rfl, hB1⟩
  have hB2 : Below w.heap.size w w1 := chain (by go_grown) hB1
  go_wp2
  go_returns
  go_light
  exact ⟨ret_bool hfin.out.symm, hB2⟩

theorem spec_OwnerAhead (p q : Ow) (w : World) :
    Calls Try.prog 149 #[.agg #[.int .i64 p.a, .int .i64 p.v, .string p.f], .agg #[.int .i64 q.a, .int .i64 q.v, .string q.f]] w fun e w' => e = .returned (.bool (owLt p q)) ∧ Below w.heap.size w w' := by
  obtain ⟨a, v, f⟩ := p
  obtain ⟨b, u, g⟩ := q
  go_enter Try.func149, Try.ntmps149
  go_wp2
  all_goals go_returns
  all_goals go_light
  all_goals refine ⟨?_, by go_grown⟩
  all_goals simp_all [owLt]
end Go.Proofs.Ytbjejnkeekndbaa
namespace Go.Proofs.Ytbjejnkeekndbaa
open Go.RowKit Go.BigFrame

def ownerOkB (o : Ow) : Bool := decide (1 ≤ o.a) && decide (o.a ≤ 400) && decide (1 ≤ o.v) && decide (o.v ≤ 1000000000) && nameB o.f

set_option maxHeartbeats 400000 in
theorem impl_ownerOk (p : Ow) (w : World) (hd : p.f.size ≤ 9223372036854775807) :
    Calls Try.prog 111 #[.agg #[.int .i64 p.a, .int .i64 p.v, .string p.f]] w fun e w' => e = .returned (.bool (ownerOkB p)) ∧ Below w.heap.size w w' := by
  by_cases h : 1 ≤ p.a ∧ p.a ≤ 400 ∧ 1 ≤ p.v ∧ p.v ≤ 1000000000
  · have hfin : Hid (ownerOkB p = nameB p.f) := by show _ = _; simp [ownerOkB, h]
    generalize ownerOkB p = R at *
    obtain ⟨a, v, f⟩ := p
    simp only at *
    obtain ⟨h1, h2, h3, h4⟩ := h
    go_enter Try.func111, Try.ntmps111
    go_wp2_with fail
    refine (impl_NameOk f _ hd).mono ?_
    rintro e w1 ⟨rfl, rfl⟩
    go_wp2
    go_returns
    go_light
    exact ⟨ret_bool hfin.out.symm, by go_grown⟩
  · have hfin : Hid (ownerOkB p = false) := by show _ = _; simp [ownerOkB]; omega
    generalize ownerOkB p = R at *
    obtain ⟨a, v, f⟩ := p
    simp only at *
    go_enter Try.func111, Try.ntmps111
    go_wp2
    all_goals go_returns
    all_goals go_light
    all_goals exact ⟨ret_bool hfin.out.symm, by go_grown⟩

set_option maxHeartbeats 400000 in
theorem spec_l3Owner (p : Ow) (w : World) (hd : p.f.size ≤ 9223372036854775807) :
    Calls Try.prog 112 #[.agg #[.int .i64 p.a, .int .i64 p.v, .string p.f]] w fun e w' => e = .returned (.bool (ownerOkB p)) ∧ Below w.heap.size w w' := by
  have hfin : Hid (ownerOkB p = ((decide (1 ≤ p.a) && decide (p.a ≤ 400)) && (decide (1 ≤ p.v) && decide (p.v ≤ 1000000000)) && nameB p.f)) := by show _ = _; simp [ownerOkB, Bool.and_assoc]
  generalize ownerOkB p = R at *
  obtain ⟨a, v, f⟩ := p
  simp only at *
  cases h1 : (decide (1 ≤ a) && decide (a ≤ 400))
  · go_enter Try.func112, Try.ntmps112
    go_wp2_with fail
    refine (spec_l1In _ _ _ _).mono ?_
    rintro e w1 ⟨rfl, rfl⟩
    rw [h1]
    go_wp2
    go_returns
    go_light
    exact ⟨ret_bool (by rw [hfin.out, h1]; rfl), by go_grown⟩
  · cases h2 : (decide (1 ≤ v) && decide (v ≤ 1000000000))
    · go_enter Try.func112, Try.ntmps112
      go_wp2_with fail
      refine (spec_l1In _ _ _ _).mono ?_
      rintro e w1 ⟨rfl, rfl⟩
      rw [h1]
      go_wp2_with fail
      refine (spec_l1In _ _ _ _).mono ?_
      rintro e w1 ⟨rfl, rfl⟩
      rw [h2]
      go_wp2
      go_returns
      go_light
      exact ⟨ret_bool (by rw [hfin.out, h1, h2]; rfl), by go_grown⟩
    · go_enter Try.func112, Try.ntmps112
      go_wp2_with fail
      refine (spec_l1In _ _ _ _).mono ?_
      rintro e w1 ⟨rfl, rfl⟩
      rw [h1]
      go_wp2_with fail
      refine (spec_l1In _ _ _ _).mono ?_
      rintro e w1 ⟨rfl, rfl⟩
      rw [h2]
      go_wp2_with fail
      refine (spec_NameOk f _ hd).mono ?_
      rintro e w1 ⟨rfl, rfl⟩
      go_wp2
      go_returns
      go_light
      exact ⟨ret_bool (by rw [hfin.out, h1, h2]; rfl), by go_grown⟩
end Go.Proofs.Ytbjejnkeekndbaa
namespace Go.Proofs.Ytbjejnkeekndbaa
open Go.RowKit Go.BigFrame

def StrC (l : List Ct) : Prop := ∀ c ∈ l, c.o.f.size ≤ 9223372036854775807
theorem StrC.at {l : List Ct} (h : StrC l) {k : Nat} {e : Ct} (he : l[k]? = some e) : e.o.f.size ≤ 9223372036854775807 := h e (List.mem_of_getElem? he)

def lateB (c : Ct) : Bool := ownerOkB c.o && decide (-1000 ≤ c.n) && decide (c.n ≤ 1000) && !(c.n == 0)
def lateOkB (l : List Ct) : Bool := decide (l.length ≤ 200) && l.all lateB

theorem box4 {w w1 : World} {x y z u : Value} {t : TypeId} (hb : Below (w.alloc (.cells #[x, y, z, u] t)).heap.size (w.alloc (.cells #[x, y, z, u] t)) w1) :
    w1.cell? ⟨w.heap.size, 0, none⟩ = some x ∧ w1.cell? ⟨w.heap.size, 1, none⟩ = some y ∧ w1.cell? ⟨w.heap.size, 2, none⟩ = some z ∧ w1.cell? ⟨w.heap.size, 3, none⟩ = some u ∧ Below w.heap.size w w1 ∧ w.heap.size < w1.heap.size :=
  ⟨bcell hb (World.cell?_alloc_new _ _ _ 0), bcell hb (World.cell?_alloc_new _ _ _ 1), bcell hb (World.cell?_alloc_new _ _ _ 2), bcell hb (World.cell?_alloc_new _ _ _ 3),
    ((Below.refl _ _).alloc (Nat.le_refl _) _).trans (hb.mono (by simp)), by have := hb.size; simp at this; omega⟩

set_option maxHeartbeats 1000000 in
theorem impl_LateOk (a : Option Addr) (n cap : Nat) (l : List Ct) (w : World) (h : CtsAt w a n l) (hstr : StrC l) (hn : n ≤ 4194304) :
    Calls Try.prog 52 #[.slice a n cap] w fun e w' => e = .returned (.bool (lateOkB l)) ∧ Below w.heap.size w w' := by
  have hlen : Hid (l.length = n) := h.len
  by_cases h2 : n ≤ 200
  · have hfin : Hid (lateOkB l = (l.drop 0).all lateB) := by show _ = _; simp [lateOkB, hlen.out, h2]
    go_enter Try.func52, Try.ntmps52
    go_wp2_with fail
    go_loopw [10] (fun ix wr => ∃ (k : Nat), k ≤ n ∧ ix = .int .i64 k ∧ Hid (lateOkB l = (l.drop k).all lateB) ∧ Below w.heap.size w wr) (fun ix _ => n - (intOf ix).toNat)
    case atStart => exact ⟨0, Nat.zero_le _, rfl, hfin, Below.refl _ _⟩
    case round =>
      obtain ⟨k, hk, rfl, hI, hB⟩ := hrel
      by_cases hlt : k < n
      · obtain ⟨b, o, p, rfl, hp, c0, c1, c2, c3⟩ := cts_at (h.below hB) hlt
        have hd : Hid (l.drop k = p :: l.drop (k + 1)) := drop_at hp
        have hsz := hstr.at hp
        clear hp
        have hwr := hB.size
        cases hdo : ownerOkB p.o
        · go_wp2_with fail
          refine (impl_ownerOk p.o _ hsz).mono ?_
          rintro e w1 ⟨rfl, hB1⟩
          obtain ⟨x0, x1, x2, x3, hB1', hs1⟩ := box4 hB1
          rw [hdo]
          go_wp2
          go_returns
          go_light
          refine ⟨ret_bool ?_, chain hB hB1'⟩
          rw [hI.out, hd.out]; simp [lateB, hdo]
        · by_cases hok : -1000 ≤ p.n ∧ p.n ≤ 1000 ∧ p.n ≠ 0
          · obtain ⟨ha1, ha2, ha3⟩ := hok
            have hz : (p.n == 0) = false := beq_eq_false_iff_ne.2 ha3
            go_wp2_with fail
            refine (impl_ownerOk p.o _ hsz).mono ?_
            rintro e w1 ⟨rfl, hB1⟩
            obtain ⟨x0, x1, x2, x3, hB1', hs1⟩ := box4 hB1
            rw [hdo]
            go_wp2
            go_roundw
            case rel => exact ⟨k + 1, by omega, by go_num, by show _ = _; rw [hI.out, hd.out]; simp [lateB, hdo, ha1, ha2, ha3], chain hB hB1'⟩
            case measure => simp [intOf]; omega
          · have hz : Hid (lateB p = false) := by
              show _ = _
              by_cases hz : p.n = 0
              · simp [lateB, hz]
              · simp [lateB, hz]; omega
            go_wp2_with fail
            refine (impl_ownerOk p.o _ hsz).mono ?_
            rintro e w1 ⟨rfl, hB1⟩
            obtain ⟨x0, x1, x2, x3, hB1', hs1⟩ := box4 hB1
            rw [hdo]
            cases hz' : (p.n == 0)
            all_goals (have hzz := hz'; simp at hzz)
            all_goals go_wp2
            all_goals go_returns
            all_goals go_light
            all_goals refine ⟨ret_bool ?_, chain hB hB1'⟩
            all_goals (rw [hI.out, hd.out]; simp [hz.out])
      · obtain rfl : k = n := by omega
        go_wp2
        go_returns
        go_light
        refine ⟨ret_bool ?_, hB⟩
        rw [hI.out, List.drop_of_length_le (Nat.le_of_eq hlen.out)]; rfl
  · have hfin : Hid (lateOkB l = false) := by show _ = _; have := hlen.out; simp [lateOkB]; omega
    go_enter Try.func52, Try.ntmps52
    go_wp2
    go_returns
    go_light
    exact ⟨ret_bool hfin.out.symm, Below.refl _ _⟩

set_option maxHeartbeats 1000000 in
theorem spec_LateOk (a : Option Addr) (n cap : Nat) (l : List Ct) (w : World) (h : CtsAt w a n l) (hstr : StrC l) (hn : n ≤ 4194304) :
    Calls Try.prog 53 #[.slice a n cap] w fun e w' => e = .returned (.bool (lateOkB l)) ∧ Below w.heap.size w w' := by
  have hlen : Hid (l.length = n) := h.len
  by_cases h2 : n ≤ 200
  · have hfin : Hid (lateOkB l = (l.drop 0).all lateB) := by show _ = _; simp [lateOkB, hlen.out, h2]
    go_enter Try.func53, Try.ntmps53
    go_wp2_with fail
    go_loopw [3] (fun ix wr => ∃ (k : Nat), k ≤ n ∧ ix = .int .i64 k ∧ Hid (lateOkB l = (l.drop k).all lateB) ∧ Below w.heap.size w wr) (fun ix _ => n - (intOf ix).toNat)
    case atStart => exact ⟨0, Nat.zero_le _, rfl, hfin, Below.refl _ _⟩
    case round =>
      obtain ⟨k, hk, rfl, hI, hB⟩ := hrel
      by_cases hlt : k < n
      · obtain ⟨b, o, p, rfl, hp, c0, c1, c2, c3⟩ := cts_at (h.below hB) hlt
        have hd : Hid (l.drop k = p :: l.drop (k + 1)) := drop_at hp
        have hsz := hstr.at hp
        clear hp
        have hwr := hB.size
        cases hdo : ownerOkB p.o
        · go_wp2_with fail
          refine (spec_l3Owner p.o _ hsz).mono ?_
          rintro e w1 ⟨rfl, hB1⟩
          rw [hdo]
          go_wp2
          go_returns
          go_light
          refine ⟨ret_bool ?_, chain hB hB1⟩
          rw [hI.out, hd.out]; simp [lateB, hdo]
        · cases hii : (decide (-1000 ≤ p.n) && decide (p.n ≤ 1000))
          · go_wp2_with fail
            refine (spec_l3Owner p.o _ hsz).mono ?_
            rintro e w1 ⟨rfl, hB1⟩
            rw [hdo]
            have e3 := bcell hB1 c3
            go_wp2_with fail
            refine (spec_l1In _ _ _ _).mono ?_
            rintro e w2 ⟨rfl, rfl⟩
            rw [hii]
            go_wp2
            go_returns
            go_light
            refine ⟨ret_bool ?_, chain hB hB1⟩
            rw [hI.out, hd.out]; simp only [List.all_cons, lateB, hdo, Bool.true_and, hii, Bool.false_and]
          · cases hz : (p.n == 0)
            all_goals
              go_wp2_with fail
              refine (spec_l3Owner p.o _ hsz).mono ?_
              rintro e w1 ⟨rfl, hB1⟩
              rw [hdo]
              have e3 := bcell hB1 c3
              go_wp2_with fail
              refine (spec_l1In _ _ _ _).mono ?_
              rintro e w2 ⟨rfl, rfl⟩
              rw [hii]
              go_wp2
            · go_roundw
              case rel => exact ⟨k + 1, by omega, by go_num, by show _ = _; rw [hI.out, hd.out]; simp only [List.all_cons, lateB, hdo, Bool.true_and, hii, hz, Bool.not_false], chain hB hB1⟩
              case measure => simp [intOf]; omega
            · go_returns
              go_light
              refine ⟨ret_bool ?_, chain hB hB1⟩
              rw [hI.out, hd.out]; simp only [List.all_cons, lateB, hdo, Bool.true_and, hii, hz, Bool.not_true, Bool.false_and]
      · obtain rfl : k = n := by omega
        go_wp2
        go_returns
        go_light
        refine ⟨ret_bool ?_, hB⟩
        rw [hI.out, List.drop_of_length_le (Nat.le_of_eq hlen.out)]; rfl
  · have hfin : Hid (lateOkB l = false) := by show _ = _; have := hlen.out; simp [lateOkB]; omega
    go_enter Try.func53, Try.ntmps53
    go_wp2
    go_returns
    go_light
    exact ⟨ret_bool hfin.out.symm, Below.refl _ _⟩
end Go.Proofs.Ytbjejnkeekndbaa
namespace Go.Proofs.Ytbjejnkeekndbaa
open Go.RowKit Go.BigFrame

def refB (c : Ct) : Bool := ownerOkB c.o && decide (1 ≤ c.n) && decide (c.n ≤ 1000)
def rgo : Option Ct → List Ct → Bool
  | _, [] => true
  | none, c :: r => refB c && rgo (some c) r
  | some q, c :: r => refB c && owLt q.o c.o && rgo (some c) r
def refsOkB (l : List Ct) : Bool := decide (l.length ≤ 200) && rgo none l
/-- The count ahead of the k-th. -/
def aheadC (l : List Ct) (k : Nat) : Option Ct := if k = 0 then none else l[k - 1]?
theorem aheadC_zero (l : List Ct) : aheadC l 0 = none := rfl
theorem aheadC_succ (l : List Ct) (k : Nat) : aheadC l (k + 1) = l[k]? := by simp [aheadC]

set_option maxHeartbeats 2000000 in
theorem impl_RefsOk (a : Option Addr) (n cap : Nat) (l : List Ct) (w : World) (h : CtsAt w a n l) (hstr : StrC l) (hn : n ≤ 4194304) :
    Calls Try.prog 58 #[.slice a n cap] w fun e w' => e = .returned (.bool (refsOkB l)) ∧ Below w.heap.size w w' := by
  have hlen : Hid (l.length = n) := h.len
  by_cases h2 : n ≤ 200
  · have hfin : Hid (refsOkB l = rgo (aheadC l 0) (l.drop 0)) := by show _ = _; simp [refsOkB, hlen.out, h2, aheadC]
    go_enter Try.func58, Try.ntmps58
    go_wp2_with fail
    go_loopw [10] (fun ix wr => ∃ (k : Nat), k ≤ n ∧ ix = .int .i64 k ∧ Hid (refsOkB l = rgo (aheadC l k) (l.drop k)) ∧ Below w.heap.size w wr) (fun ix _ => n - (intOf ix).toNat)
    case atStart => exact ⟨0, Nat.zero_le _, rfl, hfin, Below.refl _ _⟩
    case round =>
      obtain ⟨k, hk, rfl, hI, hB⟩ := hrel
      by_cases hlt : k < n
      · obtain ⟨b, o, p, rfl, hp, c0, c1, c2, c3⟩ := cts_at (h.below hB) hlt
        have hd : Hid (l.drop k = p :: l.drop (k + 1)) := drop_at hp
        have hq : Hid (l[k]? = some p) := hp
        have hsz := hstr.at hp
        clear hp
        have hwr := hB.size
        cases hdo : ownerOkB p.o
        · go_wp2_with fail
          refine (impl_ownerOk p.o _ hsz).mono ?_
          rintro e w1 ⟨rfl, hB1⟩
          obtain ⟨x0, x1, x2, x3, hB1', hs1⟩ := box4 hB1
          rw [hdo]
          go_wp2
          go_returns
          go_light
          refine ⟨ret_bool ?_, chain hB hB1'⟩
          rw [hI.out, hd.out]; cases aheadC l k <;> simp [rgo, refB, hdo]
        · by_cases hok : 1 ≤ p.n ∧ p.n ≤ 1000
          · obtain ⟨ha1, ha2⟩ := hok
            have hrb : Hid (refB p = true) := by show _ = _; simp [refB, hdo, ha1, ha2]
            rcases k with _ | j
            · simp only [Nat.zero_mul, Nat.add_zero] at c0 c1 c2 c3
              go_wp2_with fail
              refine (impl_ownerOk p.o _ hsz).mono ?_
              rintro e w1 ⟨rfl, hB1⟩
              obtain ⟨x0, x1, x2, x3, hB1', hs1⟩ := box4 hB1
              rw [hdo]
              go_wp2_with fail
              go_quiet (fail)
              go_wp2
              go_roundw
              case rel => exact ⟨1, by omega, by go_num, by show _ = _; rw [hI.out, hd.out, aheadC_zero, aheadC_succ, hq.out]; simp [rgo, hrb.out], chain hB (chain hB1' (drewNB _ _))⟩
              case measure => simp [intOf]; omega
            · obtain ⟨b', o', q, hbo, hq', d0, d1, d2, d3⟩ := cts_at (h.below hB) (k := j) (by omega)
              obtain ⟨rfl, rfl⟩ : b = b' ∧ o = o' := by simpa using hbo
              have hah : Hid (aheadC l (j + 1) = some q) := by show _ = _; rw [aheadC_succ]; exact hq'
              clear hq' hbo
              cases hgo : owLt q.o p.o
              all_goals
                go_wp2_with fail
                refine (impl_ownerOk p.o _ hsz).mono ?_
                rintro e w1 ⟨rfl, hB1⟩
                obtain ⟨x0, x1, x2, x3, hB1', hs1⟩ := box4 hB1
                rw [hdo]
                replace d0 := bcell hB1' d0
                replace d1 := bcell hB1' d1
                replace d2 := bcell hB1' d2
                have hj : (0 : Int) < (j : Int) + 1 := by omega
                have hj1 : (j : Int) < n := by omega
                have hj2 : (0 : Int) ≤ j := by omega
                have hw1 : IntKind.i64.wrap ((j : Int) + 1 - 1) = (j : Int) := by rw [IntKind.wrap_i64]; omega
                have hw2 : IntKind.i64.wrap (j : Int) = (j : Int) := by rw [IntKind.wrap_i64]; omega
                clear c0 c1 c2 c3
                go_wp2_with fail
                have g0 := gcell x0
                have g1 := gcell x1
                have g2 := gcell x2
                have g3 := gcell d0
                have g4 := gcell d1
                have g5 := gcell d2
                have hne := grw_ne w1
                refine wp_region_grow (by kernel_rfl) (by kernel_rfl) ?_
                repeat (go_big_quiet_step (first | (go_at_call 54; have qq := impl_OwnerAhead q.o p.o; rw [hgo] at qq; exact grow_of (qq _))))
                refine wpQuiet_nil ?_
                intro w2 hx
                have hB2 := grw_out hx
                clear hx
                go_wp2
              · go_returns
                go_light
                refine ⟨ret_bool ?_, chain hB (chain hB1' hB2)⟩
                rw [hI.out, hd.out, hah.out]; simp [rgo, hgo]
              · go_roundw
                case rel => exact ⟨j + 2, by omega, by go_num, by show _ = _; rw [hI.out, hd.out, hah.out, aheadC_succ, hq.out]; simp [rgo, hgo, hrb.out], chain hB (chain hB1' hB2)⟩
                case measure => simp [intOf]; omega
          · have hz : Hid (refB p = false) := by show _ = _; simp [refB]; omega
            go_wp2_with fail
            refine (impl_ownerOk p.o _ hsz).mono ?_
            rintro e w1 ⟨rfl, hB1⟩
            obtain ⟨x0, x1, x2, x3, hB1', hs1⟩ := box4 hB1
            rw [hdo]
            go_wp2
            all_goals go_returns
            all_goals go_light
            all_goals refine ⟨ret_bool ?_, chain hB hB1'⟩
            all_goals (rw [hI.out, hd.out]; cases aheadC l k <;> simp [rgo, hz.out])
      · obtain rfl : k = n := by omega
        go_wp2
        go_returns
        go_light
        refine ⟨ret_bool ?_, hB⟩
        rw [hI.out, List.drop_of_length_le (Nat.le_of_eq hlen.out)]; cases aheadC l k <;> rfl
  · have hfin : Hid (refsOkB l = false) := by show _ = _; have := hlen.out; simp [refsOkB]; omega
    go_enter Try.func58, Try.ntmps58
    go_wp2
    go_returns
    go_light
    exact ⟨ret_bool hfin.out.symm, Below.refl _ _⟩

set_option maxHeartbeats 2000000 in
theorem spec_RefsOk (a : Option Addr) (n cap : Nat) (l : List Ct) (w : World) (h : CtsAt w a n l) (hstr : StrC l) (hn : n ≤ 4194304) :
    Calls Try.prog 115 #[.slice a n cap] w fun e w' => e = .returned (.bool (refsOkB l)) ∧ Below w.heap.size w w' := by
  have hlen : Hid (l.length = n) := h.len
  by_cases h2 : n ≤ 200
  · have hfin : Hid (refsOkB l = rgo (aheadC l 0) (l.drop 0)) := by show _ = _; simp [refsOkB, hlen.out, h2, aheadC]
    go_enter Try.func115, Try.ntmps115
    go_wp2_with fail
    go_loopw [3] (fun ix wr => ∃ (k : Nat), k ≤ n ∧ ix = .int .i64 k ∧ Hid (refsOkB l = rgo (aheadC l k) (l.drop k)) ∧ Below w.heap.size w wr) (fun ix _ => n - (intOf ix).toNat)
    case atStart => exact ⟨0, Nat.zero_le _, rfl, hfin, Below.refl _ _⟩
    case round =>
      obtain ⟨k, hk, rfl, hI, hB⟩ := hrel
      by_cases hlt : k < n
      · obtain ⟨b, o, p, rfl, hp, c0, c1, c2, c3⟩ := cts_at (h.below hB) hlt
        have hd : Hid (l.drop k = p :: l.drop (k + 1)) := drop_at hp
        have hq : Hid (l[k]? = some p) := hp
        have hsz := hstr.at hp
        clear hp
        have hwr := hB.size
        have hk1 : (k : Int) < n := by omega
        have hk2 : (0 : Int) ≤ k := by omega
        cases hdo : ownerOkB p.o
        · go_wp2_with fail
          have g0 := gcell c0
          have g1 := gcell c1
          have g2 := gcell c2
          have g3 := gcell c3
          have hne := grw_ne wr
          refine wp_region_grow (by kernel_rfl) (by kernel_rfl) ?_
          repeat (go_big_quiet_step (first | (go_at_call 112; have qq := fun w => spec_l3Owner p.o w hsz; rw [hdo] at qq; exact grow_of (qq _))))
          refine wpQuiet_nil ?_
          intro w2 hx
          have hB2 := grw_out hx
          clear hx
          go_wp2
          go_returns
          go_light
          refine ⟨ret_bool ?_, chain hB hB2⟩
          rw [hI.out, hd.out]; cases aheadC l k <;> simp [rgo, refB, hdo]
        · cases hii : (decide (1 ≤ p.n) && decide (p.n ≤ 1000))
          · have hz : Hid (refB p = false) := by show _ = _; simp only [refB, hdo, Bool.true_and, hii]
            go_wp2_with fail
            have g0 := gcell c0
            have g1 := gcell c1
            have g2 := gcell c2
            have g3 := gcell c3
            have hne := grw_ne wr
            refine wp_region_grow (by kernel_rfl) (by kernel_rfl) ?_
            repeat (go_big_quiet_step (first | (go_at_call 112; have qq := fun w => spec_l3Owner p.o w hsz; rw [hdo] at qq; exact grow_of (qq _)) | (go_at_call 89; have qq := spec_l1In p.n 1 1000; rw [hii] at qq; exact grow_of_same (qq _))))
            refine wpQuiet_nil ?_
            intro w2 hx
            have hB2 := grw_out hx
            clear hx
            go_wp2
            go_returns
            go_light
            refine ⟨ret_bool ?_, chain hB hB2⟩
            rw [hI.out, hd.out]; cases aheadC l k <;> simp [rgo, hz.out]
          · have hrb : Hid (refB p = true) := by show _ = _; simp only [refB, hdo, Bool.true_and, hii]
            rcases k with _ | j
            · simp only [Nat.zero_mul, Nat.add_zero] at c0 c1 c2 c3
              go_wp2_with fail
              have g0 := gcell c0
              have g1 := gcell c1
              have g2 := gcell c2
              have g3 := gcell c3
              have hne := grw_ne wr
              refine wp_region_grow (by kernel_rfl) (by kernel_rfl) ?_
              repeat (go_big_quiet_step (first | (go_at_call 112; have qq := fun w => spec_l3Owner p.o w hsz; rw [hdo] at qq; exact grow_of (qq _)) | (go_at_call 89; have qq := spec_l1In p.n 1 1000; rw [hii] at qq; exact grow_of_same (qq _))))
              refine wpQuiet_nil ?_
              intro w2 hx
              have hB2 := grw_out hx
              clear hx
              go_wp2
              go_roundw
              case rel => exact ⟨1, by omega, by go_num, by show _ = _; rw [hI.out, hd.out, aheadC_zero, aheadC_succ, hq.out]; simp [rgo, hrb.out], chain hB hB2⟩
              case measure => simp [intOf]; omega
            · obtain ⟨b', o', q, hbo, hq', d0, d1, d2, d3⟩ := cts_at (h.below hB) (k := j) (by omega)
              obtain ⟨rfl, rfl⟩ : b = b' ∧ o = o' := by simpa using hbo
              have hah : Hid (aheadC l (j + 1) = some q) := by show _ = _; rw [aheadC_succ]; exact hq'
              clear hq' hbo d3
              cases hgo : owLt q.o p.o
              all_goals
                go_wp2_with fail
                have g0 := gcell c0
                have g1 := gcell c1
                have g2 := gcell c2
                have g3 := gcell c3
                have g4 := gcell d0
                have g5 := gcell d1
                have g6 := gcell d2
                have hne := grw_ne wr
                refine wp_region_grow (by kernel_rfl) (by kernel_rfl) ?_
                repeat (go_big_quiet_step (first | (go_at_call 112; have qq := fun w => spec_l3Owner p.o w hsz; rw [hdo] at qq; exact grow_of (qq _)) | (go_at_call 89; have qq := spec_l1In p.n 1 1000; rw [hii] at qq; exact grow_of_same (qq _)) | (go_at_call 149; have qq := spec_OwnerAhead q.o p.o; rw [hgo] at qq; exact grow_of (qq _))))
                refine wpQuiet_nil ?_
                intro w2 hx
                have hB2 := grw_out hx
                clear hx
                go_wp2
              · go_returns
                go_light
                refine ⟨ret_bool ?_, chain hB hB2⟩
                rw [hI.out, hd.out, hah.out]; simp [rgo, hgo]
              · go_roundw
                case rel => exact ⟨j + 2, by omega, by go_num, by show _ = _; rw [hI.out, hd.out, hah.out, aheadC_succ, hq.out]; simp [rgo, hgo, hrb.out], chain hB hB2⟩
                case measure => simp [intOf]; omega
      · obtain rfl : k = n := by omega
        go_wp2
        go_returns
        go_light
        refine ⟨ret_bool ?_, hB⟩
        rw [hI.out, List.drop_of_length_le (Nat.le_of_eq hlen.out)]; cases aheadC l k <;> rfl
  · have hfin : Hid (refsOkB l = false) := by show _ = _; have := hlen.out; simp [refsOkB]; omega
    go_enter Try.func115, Try.ntmps115
    go_wp2
    go_returns
    go_light
    exact ⟨ret_bool hfin.out.symm, Below.refl _ _⟩
end Go.Proofs.Ytbjejnkeekndbaa
namespace Go.Proofs.Ytbjejnkeekndbaa
open Go.RowKit Go.BigFrame

theorem laws_toOwner (p : Ow) (w : World) :
    Calls Try.prog 153 #[.agg #[.int .i64 p.a, .int .i64 p.v, .string p.f]] w fun e w' => e = .returned (.agg #[.int .i64 p.a, .int .i64 p.v, .string p.f]) ∧ Below w.heap.size w w' := by
  obtain ⟨a, v, f⟩ := p
  go_enter Try.func153, Try.ntmps153
  go_wp2
  go_returns
  go_light
  refine ⟨rfl, by go_grown⟩

theorem box443 {w w1 : World} {x y z u : Value} {c d : Array Value} {t t1 t2 : TypeId} (hb : Below (((w.alloc (.cells #[x, y, z, u] t)).alloc (.cells c t1)).alloc (.cells d t2)).heap.size (((w.alloc (.cells #[x, y, z, u] t)).alloc (.cells c t1)).alloc (.cells d t2)) w1) :
    w1.cell? ⟨w.heap.size, 3, none⟩ = some u ∧ Blk w1 (w.heap.size + 1) c t1 ∧ Blk w1 (w.heap.size + 1 + 1) d t2 ∧ Below w.heap.size w w1 := by
  refine ⟨bcell hb (acell _ (acell _ (World.cell?_alloc_new _ _ _ 3))), ?_, ?_, chain (by go_grown) hb⟩
  · have := ((Blk.new (w.alloc (.cells #[x, y, z, u] t)) c t1).alloc (.cells d t2)).below hb
    simpa using this
  · have := (Blk.new ((w.alloc (.cells #[x, y, z, u] t)).alloc (.cells c t1)) d t2).below hb
    simpa using this

theorem Blk.other {w : World} {b : Nat} {c : Array Value} {t : TypeId} (h : Blk w b c t) (p : Addr) (v : Value) (hp : b ≠ p.block) : Blk (w.setCell p v) b c t := by
  unfold Blk at *; rw [Below.heap_setCell _ _ _ _ (by simpa using hp)]; exact h

set_option maxHeartbeats 1000000 in
theorem laws_toCounted (p : Ct) (w : World) :
    Calls Try.prog 127 #[.agg #[.int .i64 p.o.a, .int .i64 p.o.v, .string p.o.f, .int .i64 p.n]] w fun e w' => e = .returned (.agg #[.int .i64 p.o.a, .int .i64 p.o.v, .string p.o.f, .int .i64 p.n]) ∧ Below w.heap.size w w' := by
  obtain ⟨⟨a, v, f⟩, n⟩ := p
  go_enter Try.func127, Try.ntmps127
  go_wp2_with fail
  refine (laws_toOwner ⟨a, v, f⟩ _).mono ?_
  rintro e w1 ⟨rfl, hB1⟩
  obtain ⟨c3, hb2, hb1, hB2⟩ := box443 hB1
  clear hB1
  have g0 := hb2.frozen 0
  have g1 := hb2.frozen 1
  have g2 := hb2.frozen 2
  have g3 := hb2.frozen 3
  have z0 : w1.cell? ⟨w.heap.size + 1, 0, none⟩ = some (.int .i64 0) := hb2.cell 0
  have z1 : w1.cell? ⟨w.heap.size + 1, 1, none⟩ = some (.int .i64 0) := hb2.cell 1
  have z2 : w1.cell? ⟨w.heap.size + 1, 2, none⟩ = some (.string ⟨#[]⟩) := hb2.cell 2
  have z3 : w1.cell? ⟨w.heap.size + 1, 3, none⟩ = some (.int .i64 0) := hb2.cell 3
  have f0 := hb1.frozen 0
  have f1 := hb1.frozen 1
  have f2 := hb1.frozen 2
  have f3 := hb1.frozen 3
  have y0 : w1.cell? ⟨w.heap.size + 1 + 1, 0, none⟩ = some (.int .i64 0) := hb1.cell 0
  have y1 : w1.cell? ⟨w.heap.size + 1 + 1, 1, none⟩ = some (.int .i64 0) := hb1.cell 1
  have y2 : w1.cell? ⟨w.heap.size + 1 + 1, 2, none⟩ = some (.string ⟨#[]⟩) := hb1.cell 2
  have y3 : w1.cell? ⟨w.heap.size + 1 + 1, 3, none⟩ = some (.int .i64 0) := hb1.cell 3
  have hW4 : Blk ((((w1.setCell ⟨w.heap.size + 1 + 1, 0, none⟩ (.int .i64 a)).setCell ⟨w.heap.size + 1 + 1, 1, none⟩ (.int .i64 v)).setCell ⟨w.heap.size + 1 + 1, 2, none⟩ (.string f)).setCell ⟨w.heap.size + 1 + 1, 3, none⟩ (.int .i64 n)) (w.heap.size + 1) #[.int .i64 0, .int .i64 0, .string ⟨#[]⟩, .int .i64 0] 66 :=
    (((hb2.other ⟨w.heap.size + 1 + 1, 0, none⟩ (.int .i64 a) (by simp)).other ⟨w.heap.size + 1 + 1, 1, none⟩ (.int .i64 v) (by simp)).other ⟨w.heap.size + 1 + 1, 2, none⟩ (.string f) (by simp)).other ⟨w.heap.size + 1 + 1, 3, none⟩ (.int .i64 n) (by simp)
  have hBW : Below w.heap.size w ((((((((w1.setCell ⟨w.heap.size + 1 + 1, 0, none⟩ (.int .i64 a)).setCell ⟨w.heap.size + 1 + 1, 1, none⟩ (.int .i64 v)).setCell ⟨w.heap.size + 1 + 1, 2, none⟩ (.string f)).setCell ⟨w.heap.size + 1 + 1, 3, none⟩ (.int .i64 n)).setCell ⟨w.heap.size + 1, 0, none⟩ (.int .i64 a)).setCell ⟨w.heap.size + 1, 1, none⟩ (.int .i64 v)).setCell ⟨w.heap.size + 1, 2, none⟩ (.string f)).setCell ⟨w.heap.size + 1, 3, none⟩ (.int .i64 n)) := by
    refine (((((((hB2.setCell ?_ _).setCell ?_ _).setCell ?_ _).setCell ?_ _).setCell ?_ _).setCell ?_ _).setCell ?_ _).setCell ?_ _
    all_goals (simp; try omega)
  have hW : Blk ((((((((w1.setCell ⟨w.heap.size + 1 + 1, 0, none⟩ (.int .i64 a)).setCell ⟨w.heap.size + 1 + 1, 1, none⟩ (.int .i64 v)).setCell ⟨w.heap.size + 1 + 1, 2, none⟩ (.string f)).setCell ⟨w.heap.size + 1 + 1, 3, none⟩ (.int .i64 n)).setCell ⟨w.heap.size + 1, 0, none⟩ (.int .i64 a)).setCell ⟨w.heap.size + 1, 1, none⟩ (.int .i64 v)).setCell ⟨w.heap.size + 1, 2, none⟩ (.string f)).setCell ⟨w.heap.size + 1, 3, none⟩ (.int .i64 n)) (w.heap.size + 1) #[.int .i64 a, .int .i64 v, .string f, .int .i64 n] 66 := by
    have := (((hW4.set 0 (.int .i64 a)).set 1 (.int .i64 v)).set 2 (.string f)).set 3 (.int .i64 n)
    simpa using this
  clear hb1 hb2 hW4
  go_wp2
  generalize ((((((((w1.setCell ⟨w.heap.size + 1 + 1, 0, none⟩ (.int .i64 a)).setCell ⟨w.heap.size + 1 + 1, 1, none⟩ (.int .i64 v)).setCell ⟨w.heap.size + 1 + 1, 2, none⟩ (.string f)).setCell ⟨w.heap.size + 1 + 1, 3, none⟩ (.int .i64 n)).setCell ⟨w.heap.size + 1, 0, none⟩ (.int .i64 a)).setCell ⟨w.heap.size + 1, 1, none⟩ (.int .i64 v)).setCell ⟨w.heap.size + 1, 2, none⟩ (.string f)).setCell ⟨w.heap.size + 1, 3, none⟩ (.int .i64 n)) = W8 at *
  refine bodyPost_ret (results_cell_row rfl _ W8 (w.heap.size + 1) _ _ _ _ rfl hW Try.underlying66 rfl (by kernel_rfl)) rfl ?_
  exact ⟨rfl, hBW⟩

theorem laws_eqOwner (p q : Ow) (w : World) :
    Calls Try.prog 154 #[.agg #[.int .i64 p.a, .int .i64 p.v, .string p.f], .agg #[.int .i64 q.a, .int .i64 q.v, .string q.f]] w fun e w' => e = .returned (.bool (owEq p q)) ∧ Below w.heap.size w w' := by
  obtain ⟨a, v, f⟩ := p
  obtain ⟨b, u, g⟩ := q
  go_enter Try.func154, Try.ntmps154
  go_wp2
  all_goals go_returns
  all_goals go_light
  all_goals refine ⟨?_, by go_grown⟩
  all_goals simp_all [owEq]

def eqCt (p q : Ct) : Bool := owEq p.o q.o && p.n == q.n

theorem laws_eqCounted (p q : Ct) (w : World) :
    Calls Try.prog 128 #[.agg #[.int .i64 p.o.a, .int .i64 p.o.v, .string p.o.f, .int .i64 p.n], .agg #[.int .i64 q.o.a, .int .i64 q.o.v, .string q.o.f, .int .i64 q.n]] w fun e w' => e = .returned (.bool (eqCt p q)) ∧ Below w.heap.size w w' := by
  cases he : owEq p.o q.o
  all_goals
    have hfin : Hid (eqCt p q = (owEq p.o q.o && p.n == q.n)) := rfl
    generalize eqCt p q = R at *
    obtain ⟨⟨a, v, f⟩, n⟩ := p
    obtain ⟨⟨b, u, g⟩, m⟩ := q
    simp only at *
    go_enter Try.func128, Try.ntmps128
    go_wp2_with fail
    refine (laws_eqOwner ⟨a, v, f⟩ ⟨b, u, g⟩ _).mono ?_
    rintro e w1 ⟨rfl, hB1⟩
    rw [he]
    have c3 : w1.cell? ⟨w.heap.size, 3, none⟩ = some (.int .i64 n) := bcell hB1 (acell _ (by simp))
    have d3 : w1.cell? ⟨w.heap.size + 1, 3, none⟩ = some (.int .i64 m) := bcell hB1 (by simp)
    have hB2 : Below w.heap.size w w1 := chain (by go_grown) hB1
    clear hB1
  · go_wp2
    go_returns
    go_light
    exact ⟨ret_bool (by rw [hfin.out, he]; rfl), hB2⟩
  · go_wp2
    all_goals go_returns
    all_goals go_light
    all_goals refine ⟨ret_bool ?_, hB2⟩
    all_goals (rw [hfin.out, he]; simp_all)

theorem laws_szOwner (p : Ow) (left : Int) (w : World) (h0 : 0 ≤ left) (h1 : left ≤ 1048576) (hd : p.f.size ≤ 9223372036854775807) :
    Calls Try.prog 152 #[.agg #[.int .i64 p.a, .int .i64 p.v, .string p.f], .int .i64 left] w fun e w' => e = .returned (.int .i64 (if left - p.f.size < 0 then -1 else left - p.f.size)) ∧ Below w.heap.size w w' := by
  obtain ⟨a, v, d⟩ := p
  simp only at hd ⊢
  by_cases h : left - (d.size : Int) < 0
  · rw [if_pos h]
    go_enter Try.func152, Try.ntmps152
    go_wp2
    go_returns
    go_light
    exact ⟨rfl, by go_grown⟩
  · rw [if_neg h]
    go_enter Try.func152, Try.ntmps152
    go_wp2
    go_returns
    go_light
    exact ⟨rfl, by go_grown⟩
end Go.Proofs.Ytbjejnkeekndbaa
namespace Go.Proofs.Ytbjejnkeekndbaa
open Go.RowKit Go.BigFrame

def szC (left : Int) (p : Ct) : Int := if left - p.o.f.size < 0 then -1 else left - p.o.f.size

theorem laws_szCounted (p : Ct) (left : Int) (w : World) (h0 : 0 ≤ left) (h1 : left ≤ 1048576) (hd : p.o.f.size ≤ 9223372036854775807) :
    Calls Try.prog 126 #[.agg #[.int .i64 p.o.a, .int .i64 p.o.v, .string p.o.f, .int .i64 p.n], .int .i64 left] w fun e w' => e = .returned (.int .i64 (szC left p)) ∧ Below w.heap.size w w' := by
  by_cases h : left - (p.o.f.size : Int) < 0
  · have hf : Hid (szC left p = -1) := by show _ = _; simp [szC]; omega
    generalize szC left p = R at *
    obtain ⟨⟨a, v, d⟩, n⟩ := p
    simp only at *
    go_enter Try.func126, Try.ntmps126
    go_wp2_with fail
    refine (laws_szOwner ⟨a, v, d⟩ left _ h0 h1 hd).mono ?_
    rintro e w1 ⟨rfl, hB1⟩
    have hB2 : Below w.heap.size w w1 := chain (by go_grown) hB1
    clear hB1
    simp only [if_pos h]
    go_wp2
    go_returns
    go_light
    exact ⟨ret_int hf.out.symm, hB2⟩
  · have hf : Hid (szC left p = left - p.o.f.size) := by show _ = _; simp [szC]; omega
    generalize szC left p = R at *
    obtain ⟨⟨a, v, d⟩, n⟩ := p
    simp only at *
    go_enter Try.func126, Try.ntmps126
    go_wp2_with fail
    refine (laws_szOwner ⟨a, v, d⟩ left _ h0 h1 hd).mono ?_
    rintro e w1 ⟨rfl, hB1⟩
    have hB2 : Below w.heap.size w w1 := chain (by go_grown) hB1
    clear hB1
    simp only [if_neg (Int.not_lt.2 h)]
    go_wp2
    go_returns
    go_light
    exact ⟨ret_int hf.out.symm, hB2⟩

/-- A list of counts that is within the budget. -/
def SmallC (n : Nat) (l : List Ct) : Prop := n ≤ 1048576 ∧ ∀ e ∈ l, e.o.f.size ≤ 1048576
theorem SmallC.strs {n : Nat} {l : List Ct} (h : SmallC n l) : StrC l := fun e he => by have := h.2 e he; omega

set_option maxHeartbeats 1000000 in
theorem laws_szCountedS (a : Option Addr) (n cap : Nat) (l : List Ct) (L : Int) (w : World) (h : CtsAt w a n l) (hstr : StrC l) (hn : n ≤ 9223372036854775807) (hL0 : 0 ≤ L) (hL : L ≤ 1048576) :
    Calls Try.prog 70 #[.slice a n cap, .int .i64 L] w fun e w' => (∃ r : Int, e = .returned (.int .i64 r) ∧ (r = -1 ∨ (0 ≤ r ∧ r ≤ 1048576 ∧ SmallC n l))) ∧ Below w.heap.size w w' := by
  have hlen : Hid (l.length = n) := h.len
  by_cases hb : L - (n : Int) < 0
  · go_enter Try.func70, Try.ntmps70
    go_wp2
    go_returns
    go_light
    exact ⟨⟨_, rfl, .inl rfl⟩, Below.refl _ _⟩
  · go_enter Try.func70, Try.ntmps70
    go_wp2_with fail
    go_loopw [1, 5] (fun lf ix wr => ∃ (k : Nat) (r : Int), k ≤ n ∧ ix = .int .i64 k ∧ lf = .int .i64 r ∧ 0 ≤ r ∧ r ≤ 1048576 ∧ Hid (∀ i e, i < k → l[i]? = some e → e.o.f.size ≤ 1048576) ∧ Below w.heap.size w wr) (fun _ ix _ => n - (intOf ix).toNat)
    case atStart => exact ⟨0, _, Nat.zero_le _, rfl, rfl, by omega, by omega, fun i e hi => by omega, Below.refl _ _⟩
    case round =>
      obtain ⟨k, r, hk, rfl, rfl, hr0, hr1, hI, hB⟩ := hrel
      by_cases hlt : k < n
      · obtain ⟨b, o, p, rfl, hp, c0, c1, c2, c3⟩ := cts_at (h.below hB) hlt
        have hp' : Hid (l[k]? = some p) := hp
        have hsz := hstr.at hp
        clear hp
        by_cases hs : r - (p.o.f.size : Int) < 0
        · have hf : Hid (szC r p = -1) := by show _ = _; simp [szC]; omega
          go_wp2_with fail
          refine (laws_szCounted p r _ hr0 hr1 hsz).mono ?_
          rintro e w1 ⟨rfl, hB1⟩
          rw [hf.out]
          go_wp2
          go_returns
          go_light
          exact ⟨⟨_, rfl, .inl rfl⟩, chain hB hB1⟩
        · have hf : Hid (szC r p = r - p.o.f.size) := by show _ = _; simp [szC]; omega
          go_wp2_with fail
          refine (laws_szCounted p r _ hr0 hr1 hsz).mono ?_
          rintro e w1 ⟨rfl, hB1⟩
          rw [hf.out]
          go_wp2
          go_roundw
          case rel =>
            refine ⟨k + 1, r - p.o.f.size, by omega, by go_num, rfl, by omega, by omega, ?_, chain hB hB1⟩
            intro i e hi he
            by_cases hik : i = k
            · subst hik
              rw [hp'.out] at he
              obtain rfl := Option.some.inj he
              omega
            · exact hI.out i e (by omega) he
          case measure => simp [intOf]; omega
      · obtain rfl : k = n := by omega
        go_wp2
        go_returns
        go_light
        refine ⟨⟨_, rfl, .inr ⟨hr0, hr1, by omega, ?_⟩⟩, hB⟩
        intro e he
        obtain ⟨i, hi⟩ := List.mem_iff_getElem?.1 he
        refine hI.out i e ?_ hi
        have := (List.getElem?_eq_some_iff.1 hi).1
        rw [hlen.out] at this; exact this

def eqCts : List Ct → List Ct → Bool
  | [], [] => true
  | p :: r, q :: s => eqCt p q && eqCts r s
  | _, _ => false

theorem eqCts_refl (l : List Ct) : eqCts l l = true := by
  induction l with
  | nil => rfl
  | cons p r ih => simp [eqCts, eqCt, owEq, ih]
theorem eqCts_len {l : List Ct} : ∀ {m : List Ct}, l.length ≠ m.length → eqCts l m = false := by
  induction l with
  | nil => intro m h; cases m <;> simp [eqCts] at *
  | cons p r ih => intro m h; cases m <;> simp [eqCts] at *; exact fun _ => ih h

set_option maxHeartbeats 1000000 in
theorem laws_eqCountedS (a : Option Addr) (n cap : Nat) (l : List Ct) (a' : Option Addr) (n' cap' : Nat) (m : List Ct) (w : World) (h : CtsAt w a n l) (h' : CtsAt w a' n' m) (hn : n ≤ 4194304) (hn' : n' ≤ 4194304) :
    Calls Try.prog 72 #[.slice a n cap, .slice a' n' cap'] w fun e w' => e = .returned (.bool (eqCts l m)) ∧ Below w.heap.size w w' := by
  have hlen : Hid (l.length = n) := h.len
  have hlen' : Hid (m.length = n') := h'.len
  by_cases hne : n = n'
  · subst hne
    have hbn : ((n : Int) != (n : Int)) = false := by simp
    go_enter Try.func72, Try.ntmps72
    go_wp2_with fail
    go_loopw [5] (fun ix wr => ∃ (k : Nat), k ≤ n ∧ ix = .int .i64 k ∧ Hid (eqCts l m = eqCts (l.drop k) (m.drop k)) ∧ Below w.heap.size w wr) (fun ix _ => n - (intOf ix).toNat)
    case atStart => exact ⟨0, Nat.zero_le _, rfl, rfl, Below.refl _ _⟩
    case round =>
      obtain ⟨k, hk, rfl, hI, hB⟩ := hrel
      by_cases hlt : k < n
      · obtain ⟨b, o, p, rfl, hp, c0, c1, c2, c3⟩ := cts_at (h.below hB) hlt
        obtain ⟨b', o', q, rfl, hq, d0, d1, d2, d3⟩ := cts_at (h'.below hB) hlt
        have hd : Hid (l.drop k = p :: l.drop (k + 1)) := drop_at hp
        have hd' : Hid (m.drop k = q :: m.drop (k + 1)) := drop_at hq
        clear hp hq
        have hk1 : (k : Int) < n := by omega
        have hk2 : (0 : Int) ≤ k := by omega
        cases hpq : eqCt p q
        all_goals
          go_wp2_with fail
          have g0 := gcell c0
          have g1 := gcell c1
          have g2 := gcell c2
          have g3 := gcell c3
          have g4 := gcell d0
          have g5 := gcell d1
          have g6 := gcell d2
          have g7 := gcell d3
          have hne := grw_ne wr
          refine wp_region_grow (by kernel_rfl) (by kernel_rfl) ?_
          repeat (go_big_quiet_step (first | (go_at_call 128; have qq := laws_eqCounted p q; rw [hpq] at qq; exact grow_of (qq _))))
          refine wpQuiet_nil ?_
          intro w2 hx
          have hB2 := grw_out hx
          clear hx
          go_wp2
        · go_returns
          go_light
          refine ⟨ret_bool ?_, chain hB hB2⟩
          rw [hI.out, hd.out, hd'.out]; simp only [eqCts, hpq, Bool.false_and]
        · go_roundw
          case rel => exact ⟨k + 1, by omega, by go_num, by show _ = _; rw [hI.out, hd.out, hd'.out]; simp only [eqCts, hpq, Bool.true_and], chain hB hB2⟩
          case measure => simp [intOf]; omega
      · obtain rfl : k = n := by omega
        go_wp2
        go_returns
        go_light
        refine ⟨ret_bool ?_, hB⟩
        rw [hI.out, List.drop_of_length_le (Nat.le_of_eq hlen.out), List.drop_of_length_le (Nat.le_of_eq hlen'.out)]; rfl
  · have hbn : ((n : Int) != (n' : Int)) = true := by simp; omega
    go_enter Try.func72, Try.ntmps72
    go_wp2
    go_returns
    go_light
    refine ⟨ret_bool ?_, Below.refl _ _⟩
    rw [eqCts_len (by rw [hlen.out, hlen'.out]; exact hne)]
end Go.Proofs.Ytbjejnkeekndbaa
