/- l3Sum of the model. Names and owners: NameOk, ownerOk, the order of owners, of the program and of the model. ownerOk of the program, l3Owner of the model. LateOk and RefsOk, of the program and of the model. -/
import Derived.Test.YtigldeccfpkdmaaGreatDoorProg
import Derived.Test.YtigldeccfpkdmaaGreatDoorCReadSuperx08
import Derived.Test.YtigldeccfpkdmaaGreatDoorCReadSuperx04
import Derived.Test.YtigldeccfpkdmaaGreatDoorCReadSuperx05
import Derived.Test.YtigldeccfpkdmaaGreatDoorCReadSuperx06
namespace Go.Proofs.YtigldeccfpkdmaaGreatDoor
open Go.RowKit Go.BigFrame
theorem bound_addG {B D : Int} (hB : 0 ≤ B) (hD : 0 ≤ D) {c : Ct} (h1 : -D ≤ c.n) (h2 : c.n ≤ D) : ∀ {l : List Ct}, (∀ x ∈ l, -B ≤ x.n ∧ x.n ≤ B) → ∀ x ∈ addC l c, -(B + D) ≤ x.n ∧ x.n ≤ B + D
  | [], _ => by intro x hx; simp [addC] at hx; subst hx; omega
  | y :: r, h => by
    have hy := h y (by simp)
    have hr : ∀ x ∈ r, -B ≤ x.n ∧ x.n ≤ B := fun x hx => h x (by simp [hx])
    have hr' : ∀ x ∈ r, -(B + D) ≤ x.n ∧ x.n ≤ B + D := fun x hx => by have := hr x hx; omega
    unfold addC
    split
    · intro x hx
      rcases List.mem_cons.1 hx with rfl | hx
      · omega
      · exact bound_addG hB hD h1 h2 hr x hx
    · split
      · split
        · intro x hx
          rcases List.mem_cons.1 hx with rfl | hx
          · simp only; omega
          · exact hr' x hx
        · exact hr'
      · intro x hx
        rcases List.mem_cons.1 hx with rfl | hx
        · omega
        · rcases List.mem_cons.1 hx with rfl | hx
          · omega
          · exact hr' x hx
theorem bound_addC {B : Int} (hB : 0 ≤ B) {c : Ct} (h1 : -1000 ≤ c.n) (h2 : c.n ≤ 1000) {l : List Ct} (h : ∀ x ∈ l, -B ≤ x.n ∧ x.n ≤ B) : ∀ x ∈ addC l c, -(B + 1000) ≤ x.n ∧ x.n ≤ B + 1000 := bound_addG hB (by omega) h1 h2 h
/-- The first k of them added. -/
def sumK (l more : List Ct) (k : Nat) : List Ct := (more.take k).foldl addC l
theorem sumK_succ {l more : List Ct} {k : Nat} {p : Ct} (h : more[k]? = some p) : sumK l more (k + 1) = addC (sumK l more k) p := by
  unfold sumK
  rw [List.take_add_one, h]
  simp
theorem sumK_all {l more : List Ct} {n : Nat} (h : more.length = n) : sumK l more n = sumC l more := by
  unfold sumK sumC
  rw [List.take_of_length_le (Nat.le_of_eq h)]
set_option maxHeartbeats 2000000 in
set_option maxRecDepth 100000 in
theorem spec_l3SumW (a : Option Addr) (n cap : Nat) (l : List Ct) (a' : Option Addr) (n' cap' : Nat) (more : List Ct) (w : World) (h : CtsAt w a n l) (ha1 : ∀ ad, a = some ad → ad.spot = none) (ha2 : a = none → cap = 0) (h' : CtsAt w a' n' more) (hn : n ≤ 100000) (hn' : n' ≤ 100000) (hb : ∀ x ∈ l, -100000000 ≤ x.n ∧ x.n ≤ 100000000) (hb' : ∀ x ∈ more, -100000000 ≤ x.n ∧ x.n ≤ 100000000) :
    Calls Tryz.prog 183 #[.slice a n cap, .slice a' n' cap'] w fun e w' => (∃ a2 n2 cap2, e = .returned (.slice a2 n2 cap2) ∧ n2 ≤ n + n' ∧ ResAt Ct.cs 4 134 w' w.heap.size a2 n2 cap2 (sumC l more)) ∧ Below w.heap.size w w' := by
  have hlen : Hid (l.length = n) := h.len
  have hlen' : Hid (more.length = n') := h'.len
  obtain ⟨i0, hi, hz0, hz1, hz2⟩ := info_parts infoC
  go_enter Tryz.func183, Tryz.ntmps183
  go_wp2_with (at_builtin; refine wpList_app rfl (fun K hK => wp_app _ _ 24 rfl w.heap.size 134 i0 (.agg #[.int .i64 0, .int .i64 0, .string .empty, .int .i64 0]) 40 Tryz.underlying24 hi hz0 hz1 hz2 rfl (by decide) ccs_len ccs_one _ 0 0 [] rfl (res_empty (Blk.new' _ _ _ _ (by simp)) (by simp)) a n cap l rfl (h.alloc _) ha1 ha2 n (Nat.zero_add _) (by unfold maxLen; omega) (by omega) (by simp) (fun a1 cap1 w1 hr1 hg1 => hK _ _ ?_)))
  have hB1 : Below w.heap.size w w1 := Below.grown (by go_grown) hg1 (by simp) (fun k e => by simp [Value.ownBlock] at e; omega)
  rw [List.nil_append] at hr1
  go_loopw [5, 6] (fun out ix wr => ∃ (k : Nat) (a2 : Option Addr) (n2 cap2 : Nat), k ≤ n' ∧ ix = .int .i64 k ∧ out = .slice a2 n2 cap2 ∧ n2 ≤ n + k ∧ ResAt Ct.cs 4 134 wr w.heap.size a2 n2 cap2 (sumK l more k) ∧ (∀ x ∈ sumK l more k, -(100000000 + 100000000 * (k : Int)) ≤ x.n ∧ x.n ≤ 100000000 + 100000000 * (k : Int)) ∧ Below w.heap.size w wr) (fun _ ix _ => n' - (intOf ix).toNat)
  case atStart => exact ⟨0, _, n, cap1, Nat.zero_le _, rfl, rfl, by omega, hr1, by simpa [sumK] using hb, hB1⟩
  case round =>
    obtain ⟨k, a2, n2, cap2, hk, rfl, rfl, hn2, R2, hbk, hB⟩ := hrel
    have hsz := hB.size
    by_cases hlt : k < n'
    · obtain ⟨b, o, p, rfl, hp, c0, c1, c2, c3⟩ := cts_at (h'.below hB) hlt
      have hst : Hid (sumK l more (k + 1) = addC (sumK l more k) p) := sumK_succ hp
      obtain ⟨hb1, hb2⟩ := hb' p (List.mem_of_getElem? hp)
      have hbn := bound_addG (B := 100000000 + 100000000 * (k : Int)) (D := 100000000) (by omega) (by omega) hb1 hb2 hbk
      have hbk' : ∀ x ∈ sumK l more k, -1000000000000000 ≤ x.n ∧ x.n ≤ 1000000000000000 := fun x hx => by have := hbk x hx; omega
      clear hp
      generalize sumK l more k = G at *
      have hk1 : (k : Int) < n' := by omega
      have hk2 : (0 : Int) ≤ k := by omega
      go_wp2_with fail
      refine (spec_l3Add a2 n2 cap2 G p wr R2.sl (by omega) hbk' ⟨by omega, by omega⟩).mono ?_
      rintro e w3 ⟨⟨a3, n3, cap3, rfl, hn3, R3⟩, hB3⟩
      have hB4 := chain hB hB3
      go_wp2
      go_roundw
      case rel => exact ⟨k + 1, a3, n3, cap3, by omega, by go_num, rfl, by omega, by rw [hst.out]; exact R3.mono hsz, by rw [hst.out]; intro x hx; have := hbn x hx; omega, hB4⟩
      case measure => simp [intOf]; omega
    · obtain rfl : k = n' := by omega
      have hst : Hid (sumK l more k = sumC l more) := sumK_all hlen'.out
      go_wp2
      go_returns
      exact ⟨⟨a2, n2, cap2, rfl, hn2, by rw [← hst.out]; exact R2⟩, hB⟩
theorem spec_l3Sum (a : Option Addr) (n cap : Nat) (l : List Ct) (a' : Option Addr) (n' cap' : Nat) (more : List Ct) (w : World) (h : CtsAt w a n l) (ha1 : ∀ ad, a = some ad → ad.spot = none) (ha2 : a = none → cap = 0) (h' : CtsAt w a' n' more) (hn : n ≤ 200) (hn' : n' ≤ 200) (hb : ∀ x ∈ l, -1000 ≤ x.n ∧ x.n ≤ 1000) (hb' : ∀ x ∈ more, -1000 ≤ x.n ∧ x.n ≤ 1000) :
    Calls Tryz.prog 183 #[.slice a n cap, .slice a' n' cap'] w fun e w' => (∃ a2 n2 cap2, e = .returned (.slice a2 n2 cap2) ∧ n2 ≤ n + n' ∧ ResAt Ct.cs 4 134 w' w.heap.size a2 n2 cap2 (sumC l more)) ∧ Below w.heap.size w w' :=
  spec_l3SumW a n cap l a' n' cap' more w h ha1 ha2 h' (by omega) (by omega) (fun x hx => by have := hb x hx; omega) (fun x hx => by have := hb' x hx; omega)
end Go.Proofs.YtigldeccfpkdmaaGreatDoor
namespace Go.Proofs.YtigldeccfpkdmaaGreatDoor
open Go.RowKit Go.BigFrame
def letB (c : UInt8) : Bool := decide (97 ≤ (c.toNat : Int)) && decide ((c.toNat : Int) ≤ 122)
def nameB (d : ByteArray) : Bool := decide (1 ≤ d.size) && decide (d.size ≤ 8) && d.data.toList.all letB
set_option maxHeartbeats 400000 in
theorem impl_NameOk (d : ByteArray) (w : World) (hd : d.size ≤ 9223372036854775807) :
    Calls Tryz.prog 164 #[.string d] w fun e w' => e = .returned (.bool (nameB d)) ∧ w' = w := by
  by_cases h1 : 1 ≤ d.size ∧ d.size ≤ 8
  · have hfin : Hid (nameB d = (d.data.toList.drop 0).all letB) := by show _ = _; simp [nameB, h1]
    obtain ⟨h1, h20⟩ := h1
    go_enter Tryz.func164, Tryz.ntmps164
    go_wp2_with fail
    go_loop [14] (fun ix => ∃ (k : Nat), k ≤ d.size ∧ ix = .int .i64 k ∧ Hid (nameB d = (d.data.toList.drop k).all letB)) (fun ix => d.size - (intOf ix).toNat)
    case atStart => exact ⟨0, Nat.zero_le _, rfl, hfin⟩
    case round =>
      obtain ⟨k, hk, rfl, hI⟩ := hrel
      by_cases hlt : k < d.size
      · have hs : Hid (d.data.toList.drop k = d[k] :: d.data.toList.drop (k + 1)) := str_drop d k hlt
        cases hc : letB d[k]
        · have hc' : (d[k].toNat : Int) < 97 ∨ 122 < (d[k].toNat : Int) := by simp [letB] at hc; omega
          go_wp2
          all_goals go_returns
          all_goals go_light
          all_goals (refine ⟨ret_bool ?_, rfl⟩; rw [hI.out, hs.out]; simp [hc])
        · have hc' : 97 ≤ (d[k].toNat : Int) ∧ (d[k].toNat : Int) ≤ 122 := by simp [letB] at hc; omega
          obtain ⟨hc1, hc2⟩ := hc'
          go_wp2
          go_round
          case rel => exact ⟨k + 1, by omega, by go_num, by show _ = _; rw [hI.out, hs.out]; simp [hc]⟩
          case measure => simp [intOf]; omega
      · obtain rfl : k = d.size := by omega
        go_wp2
        go_returns
        go_light
        refine ⟨ret_bool ?_, rfl⟩
        rw [hI.out, List.drop_of_length_le (by simp)]; rfl
  · have hfin : Hid (nameB d = false) := by show _ = _; simp [nameB]; omega
    go_enter Tryz.func164, Tryz.ntmps164
    go_wp2
    all_goals go_returns
    all_goals go_light
    all_goals exact ⟨ret_bool hfin.out.symm, rfl⟩
set_option maxHeartbeats 400000 in
theorem spec_NameOk (d : ByteArray) (w : World) (hd : d.size ≤ 9223372036854775807) :
    Calls Tryz.prog 178 #[.string d] w fun e w' => e = .returned (.bool (nameB d)) ∧ w' = w := by
  by_cases h1 : 1 ≤ d.size ∧ d.size ≤ 8
  · have hfin : Hid (nameB d = (d.data.toList.drop 0).all letB) := by show _ = _; simp [nameB, h1]
    obtain ⟨h1, h20⟩ := h1
    go_enter Tryz.func178, Tryz.ntmps178
    go_wp2_with fail
    go_loop [3] (fun ix => ∃ (k : Nat), k ≤ d.size ∧ ix = .int .i64 k ∧ Hid (nameB d = (d.data.toList.drop k).all letB)) (fun ix => d.size - (intOf ix).toNat)
    case atStart => exact ⟨0, Nat.zero_le _, rfl, hfin⟩
    case round =>
      obtain ⟨k, hk, rfl, hI⟩ := hrel
      by_cases hlt : k < d.size
      · have hs : Hid (d.data.toList.drop k = d[k] :: d.data.toList.drop (k + 1)) := str_drop d k hlt
        cases hc : letB d[k]
        · have hc' : (d[k].toNat : Int) < 97 ∨ 122 < (d[k].toNat : Int) := by simp [letB] at hc; omega
          go_wp2
          all_goals go_returns
          all_goals go_light
          all_goals (refine ⟨ret_bool ?_, rfl⟩; rw [hI.out, hs.out]; simp [hc])
        · have hc' : 97 ≤ (d[k].toNat : Int) ∧ (d[k].toNat : Int) ≤ 122 := by simp [letB] at hc; omega
          obtain ⟨hc1, hc2⟩ := hc'
          go_wp2
          go_round
          case rel => exact ⟨k + 1, by omega, by go_num, by show _ = _; rw [hI.out, hs.out]; simp [hc]⟩
          case measure => simp [intOf]; omega
      · obtain rfl : k = d.size := by omega
        go_wp2
        go_returns
        go_light
        refine ⟨ret_bool ?_, rfl⟩
        rw [hI.out, List.drop_of_length_le (by simp)]; rfl
  · have hfin : Hid (nameB d = false) := by show _ = _; simp [nameB]; omega
    go_enter Tryz.func178, Tryz.ntmps178
    go_wp2
    all_goals go_returns
    all_goals go_light
    all_goals exact ⟨ret_bool hfin.out.symm, rfl⟩
end Go.Proofs.YtigldeccfpkdmaaGreatDoor
namespace Go.Proofs.YtigldeccfpkdmaaGreatDoor
open Go.RowKit Go.BigFrame
def ownerOkB (o : Ow) : Bool := decide (1 ≤ o.a) && decide (o.a ≤ 400) && decide (1 ≤ o.v) && decide (o.v ≤ 1000000000) && nameB o.f
set_option maxHeartbeats 400000 in
theorem impl_ownerOk (p : Ow) (w : World) (hd : p.f.size ≤ 9223372036854775807) :
    Calls Tryz.prog 204 #[.agg #[.int .i64 p.a, .int .i64 p.v, .string p.f]] w fun e w' => e = .returned (.bool (ownerOkB p)) ∧ Below w.heap.size w w' := by
  by_cases h : 1 ≤ p.a ∧ p.a ≤ 400 ∧ 1 ≤ p.v ∧ p.v ≤ 1000000000
  · have hfin : Hid (ownerOkB p = nameB p.f) := by show _ = _; simp [ownerOkB, h]
    generalize ownerOkB p = R at *
    obtain ⟨a, v, f⟩ := p
    simp only at *
    obtain ⟨h1, h2, h3, h4⟩ := h
    go_enter Tryz.func204, Tryz.ntmps204
    go_wp2_with fail
    refine (impl_NameOk f _ hd).mono ?_
    rintro e w1 ⟨rfl, rfl⟩
    go_wp2
    go_returns
    go_light
    exact ⟨ret_bool hfin.out.symm, by go_grown⟩
  · have hfin : Hid (ownerOkB p = false) := by show _ = _; simp [ownerOkB]; omega
    generalize ownerOkB p = R at *
    obtain ⟨a, v, f⟩ := p
    simp only at *
    go_enter Tryz.func204, Tryz.ntmps204
    go_wp2
    all_goals go_returns
    all_goals go_light
    all_goals exact ⟨ret_bool hfin.out.symm, by go_grown⟩
set_option maxHeartbeats 400000 in
theorem spec_l3Owner (p : Ow) (w : World) (hd : p.f.size ≤ 9223372036854775807) :
    Calls Tryz.prog 213 #[.agg #[.int .i64 p.a, .int .i64 p.v, .string p.f]] w fun e w' => e = .returned (.bool (ownerOkB p)) ∧ Below w.heap.size w w' := by
  have hfin : Hid (ownerOkB p = ((decide (1 ≤ p.a) && decide (p.a ≤ 400)) && (decide (1 ≤ p.v) && decide (p.v ≤ 1000000000)) && nameB p.f)) := by show _ = _; simp [ownerOkB, Bool.and_assoc]
  generalize ownerOkB p = R at *
  obtain ⟨a, v, f⟩ := p
  simp only at *
  cases h1 : (decide (1 ≤ a) && decide (a ≤ 400))
  · go_enter Tryz.func213, Tryz.ntmps213
    go_wp2_with fail
    refine (spec_l1In _ _ _ _).mono ?_
    rintro e w1 ⟨rfl, rfl⟩
    rw [h1]
    go_wp2
    go_returns
    go_light
    exact ⟨ret_bool (by rw [hfin.out, h1]; rfl), by go_grown⟩
  · cases h2 : (decide (1 ≤ v) && decide (v ≤ 1000000000))
    · go_enter Tryz.func213, Tryz.ntmps213
      go_wp2_with fail
      refine (spec_l1In _ _ _ _).mono ?_
      rintro e w1 ⟨rfl, rfl⟩
      rw [h1]
      go_wp2_with fail
      refine (spec_l1In _ _ _ _).mono ?_
      rintro e w1 ⟨rfl, rfl⟩
      rw [h2]
      go_wp2
      go_returns
      go_light
      exact ⟨ret_bool (by rw [hfin.out, h1, h2]; rfl), by go_grown⟩
    · go_enter Tryz.func213, Tryz.ntmps213
      go_wp2_with fail
      refine (spec_l1In _ _ _ _).mono ?_
      rintro e w1 ⟨rfl, rfl⟩
      rw [h1]
      go_wp2_with fail
      refine (spec_l1In _ _ _ _).mono ?_
      rintro e w1 ⟨rfl, rfl⟩
      rw [h2]
      go_wp2_with fail
      refine (spec_NameOk f _ hd).mono ?_
      rintro e w1 ⟨rfl, rfl⟩
      go_wp2
      go_returns
      go_light
      exact ⟨ret_bool (by rw [hfin.out, h1, h2]; rfl), by go_grown⟩
end Go.Proofs.YtigldeccfpkdmaaGreatDoor
namespace Go.Proofs.YtigldeccfpkdmaaGreatDoor
open Go.RowKit Go.BigFrame
def StrC (l : List Ct) : Prop := ∀ c ∈ l, c.o.f.size ≤ 9223372036854775807
theorem StrC.at {l : List Ct} (h : StrC l) {k : Nat} {e : Ct} (he : l[k]? = some e) : e.o.f.size ≤ 9223372036854775807 := h e (List.mem_of_getElem? he)
def lateB (c : Ct) : Bool := ownerOkB c.o && decide (-1000 ≤ c.n) && decide (c.n ≤ 1000) && !(c.n == 0)
def lateOkB (l : List Ct) : Bool := decide (l.length ≤ 200) && l.all lateB
theorem box4 {w w1 : World} {x y z u : Value} {t : TypeId} (hb : Below (w.alloc (.cells #[x, y, z, u] t)).heap.size (w.alloc (.cells #[x, y, z, u] t)) w1) :
    w1.cell? ⟨w.heap.size, 0, none⟩ = some x ∧ w1.cell? ⟨w.heap.size, 1, none⟩ = some y ∧ w1.cell? ⟨w.heap.size, 2, none⟩ = some z ∧ w1.cell? ⟨w.heap.size, 3, none⟩ = some u ∧ Below w.heap.size w w1 ∧ w.heap.size < w1.heap.size :=
  ⟨bcell hb (World.cell?_alloc_new _ _ _ 0), bcell hb (World.cell?_alloc_new _ _ _ 1), bcell hb (World.cell?_alloc_new _ _ _ 2), bcell hb (World.cell?_alloc_new _ _ _ 3),
    ((Below.refl _ _).alloc (Nat.le_refl _) _).trans (hb.mono (by simp)), by have := hb.size; simp at this; omega⟩
set_option maxHeartbeats 1000000 in
theorem impl_LateOk (a : Option Addr) (n cap : Nat) (l : List Ct) (w : World) (h : CtsAt w a n l) (hstr : StrC l) (hn : n ≤ 4194304) :
    Calls Tryz.prog 167 #[.slice a n cap] w fun e w' => e = .returned (.bool (lateOkB l)) ∧ Below w.heap.size w w' := by
  have hlen : Hid (l.length = n) := h.len
  by_cases h2 : n ≤ 200
  · have hfin : Hid (lateOkB l = (l.drop 0).all lateB) := by show _ = _; simp [lateOkB, hlen.out, h2]
    go_enter Tryz.func167, Tryz.ntmps167
    go_wp2_with fail
    go_loopw [10] (fun ix wr => ∃ (k : Nat), k ≤ n ∧ ix = .int .i64 k ∧ Hid (lateOkB l = (l.drop k).all lateB) ∧ Below w.heap.size w wr) (fun ix _ => n - (intOf ix).toNat)
    case atStart => exact ⟨0, Nat.zero_le _, rfl, hfin, Below.refl _ _⟩
    case round =>
      obtain ⟨k, hk, rfl, hI, hB⟩ := hrel
      by_cases hlt : k < n
      · obtain ⟨b, o, p, rfl, hp, c0, c1, c2, c3⟩ := cts_at (h.below hB) hlt
        have hd : Hid (l.drop k = p :: l.drop (k + 1)) := drop_at hp
        have hsz := hstr.at hp
        clear hp
        have hwr := hB.size
        cases hdo : ownerOkB p.o
        · go_wp2_with fail
          refine (impl_ownerOk p.o _ hsz).mono ?_
          rintro e w1 ⟨rfl, hB1⟩
          obtain ⟨x0, x1, x2, x3, hB1', hs1⟩ := box4 hB1
          rw [hdo]
          go_wp2
          go_returns
          go_light
          refine ⟨ret_bool ?_, chain hB hB1'⟩
          rw [hI.out, hd.out]; simp [lateB, hdo]
        · by_cases hok : -1000 ≤ p.n ∧ p.n ≤ 1000 ∧ p.n ≠ 0
          · obtain ⟨ha1, ha2, ha3⟩ := hok
            have hz : (p.n == 0) = false := beq_eq_false_iff_ne.2 ha3
            go_wp2_with fail
            refine (impl_ownerOk p.o _ hsz).mono ?_
            rintro e w1 ⟨rfl, hB1⟩
            obtain ⟨x0, x1, x2, x3, hB1', hs1⟩ := box4 hB1
            rw [hdo]
            go_wp2
            go_roundw
            case rel => exact ⟨k + 1, by omega, by go_num, by show _ = _; rw [hI.out, hd.out]; simp [lateB, hdo, ha1, ha2, ha3], chain hB hB1'⟩
            case measure => simp [intOf]; omega
          · have hz : Hid (lateB p = false) := by
              show _ = _
              by_cases hz : p.n = 0
              · simp [lateB, hz]
              · simp [lateB, hz]; omega
            go_wp2_with fail
            refine (impl_ownerOk p.o _ hsz).mono ?_
            rintro e w1 ⟨rfl, hB1⟩
            obtain ⟨x0, x1, x2, x3, hB1', hs1⟩ := box4 hB1
            rw [hdo]
            cases hz' : (p.n == 0)
            all_goals (have hzz := hz'; simp at hzz)
            all_goals go_wp2
            all_goals go_returns
            all_goals go_light
            all_goals refine ⟨ret_bool ?_, chain hB hB1'⟩
            all_goals (rw [hI.out, hd.out]; simp [hz.out])
      · obtain rfl : k = n := by omega
        go_wp2
        go_returns
        go_light
        refine ⟨ret_bool ?_, hB⟩
        rw [hI.out, List.drop_of_length_le (Nat.le_of_eq hlen.out)]; rfl
  · have hfin : Hid (lateOkB l = false) := by show _ = _; have := hlen.out; simp [lateOkB]; omega
    go_enter Tryz.func167, Tryz.ntmps167
    go_wp2
    go_returns
    go_light
    exact ⟨ret_bool hfin.out.symm, Below.refl _ _⟩
set_option maxHeartbeats 1000000 in
theorem spec_LateOk (a : Option Addr) (n cap : Nat) (l : List Ct) (w : World) (h : CtsAt w a n l) (hstr : StrC l) (hn : n ≤ 4194304) :
    Calls Tryz.prog 182 #[.slice a n cap] w fun e w' => e = .returned (.bool (lateOkB l)) ∧ Below w.heap.size w w' := by
  have hlen : Hid (l.length = n) := h.len
  by_cases h2 : n ≤ 200
  · have hfin : Hid (lateOkB l = (l.drop 0).all lateB) := by show _ = _; simp [lateOkB, hlen.out, h2]
    go_enter Tryz.func182, Tryz.ntmps182
    go_wp2_with fail
    go_loopw [3] (fun ix wr => ∃ (k : Nat), k ≤ n ∧ ix = .int .i64 k ∧ Hid (lateOkB l = (l.drop k).all lateB) ∧ Below w.heap.size w wr) (fun ix _ => n - (intOf ix).toNat)
    case atStart => exact ⟨0, Nat.zero_le _, rfl, hfin, Below.refl _ _⟩
    case round =>
      obtain ⟨k, hk, rfl, hI, hB⟩ := hrel
      by_cases hlt : k < n
      · obtain ⟨b, o, p, rfl, hp, c0, c1, c2, c3⟩ := cts_at (h.below hB) hlt
        have hd : Hid (l.drop k = p :: l.drop (k + 1)) := drop_at hp
        have hsz := hstr.at hp
        clear hp
        have hwr := hB.size
        cases hdo : ownerOkB p.o
        · go_wp2_with fail
          refine (spec_l3Owner p.o _ hsz).mono ?_
          rintro e w1 ⟨rfl, hB1⟩
          rw [hdo]
          go_wp2
          go_returns
          go_light
          refine ⟨ret_bool ?_, chain hB hB1⟩
          rw [hI.out, hd.out]; simp [lateB, hdo]
        · cases hii : (decide (-1000 ≤ p.n) && decide (p.n ≤ 1000))
          · go_wp2_with fail
            refine (spec_l3Owner p.o _ hsz).mono ?_
            rintro e w1 ⟨rfl, hB1⟩
            rw [hdo]
            have e3 := bcell hB1 c3
            go_wp2_with fail
            refine (spec_l1In _ _ _ _).mono ?_
            rintro e w2 ⟨rfl, rfl⟩
            rw [hii]
            go_wp2
            go_returns
            go_light
            refine ⟨ret_bool ?_, chain hB hB1⟩
            rw [hI.out, hd.out]; simp only [List.all_cons, lateB, hdo, Bool.true_and, hii, Bool.false_and]
          · cases hz : (p.n == 0)
            all_goals
              go_wp2_with fail
              refine (spec_l3Owner p.o _ hsz).mono ?_
              rintro e w1 ⟨rfl, hB1⟩
              rw [hdo]
              have e3 := bcell hB1 c3
              go_wp2_with fail
              refine (spec_l1In _ _ _ _).mono ?_
              rintro e w2 ⟨rfl, rfl⟩
              rw [hii]
              go_wp2
            · go_roundw
              case rel => exact ⟨k + 1, by omega, by go_num, by show _ = _; rw [hI.out, hd.out]; simp only [List.all_cons, lateB, hdo, Bool.true_and, hii, hz, Bool.not_false], chain hB hB1⟩
              case measure => simp [intOf]; omega
            · go_returns
              go_light
              refine ⟨ret_bool ?_, chain hB hB1⟩
              rw [hI.out, hd.out]; simp only [List.all_cons, lateB, hdo, Bool.true_and, hii, hz, Bool.not_true, Bool.false_and]
      · obtain rfl : k = n := by omega
        go_wp2
        go_returns
        go_light
        refine ⟨ret_bool ?_, hB⟩
        rw [hI.out, List.drop_of_length_le (Nat.le_of_eq hlen.out)]; rfl
  · have hfin : Hid (lateOkB l = false) := by show _ = _; have := hlen.out; simp [lateOkB]; omega
    go_enter Tryz.func182, Tryz.ntmps182
    go_wp2
    go_returns
    go_light
    exact ⟨ret_bool hfin.out.symm, Below.refl _ _⟩
end Go.Proofs.YtigldeccfpkdmaaGreatDoor
