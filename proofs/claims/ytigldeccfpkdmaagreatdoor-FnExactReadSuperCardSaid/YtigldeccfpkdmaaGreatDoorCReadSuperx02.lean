/- The extents: dataOk and SpaceOk of the program, l1Plain and SpaceOk of the model. Texts cut, and numbers read, by the model. A Builder that is a writer's field. -/
import Derived.Test.YtigldeccfpkdmaaGreatDoorProg
import Derived.Test.YtigldeccfpkdmaaGreatDoorCReadSuperx00
import Derived.Test.YtigldeccfpkdmaaGreatDoorCReadSuperx01
import Derived.Lib.Strings
import Derived.Deep.DeepCutAuto
import Derived.Shelf.Strings.BuilderK
namespace Go.Proofs.YtigldeccfpkdmaaGreatDoor
open Go.RowKit Go.BigFrame
def charB (c : UInt8) : Bool := decide (32 ≤ (c.toNat : Int)) && decide ((c.toNat : Int) ≤ 126)
def plainB (d : ByteArray) : Bool := d.data.toList.all charB
def dataOkB (d : ByteArray) : Bool := decide (1 ≤ d.size) && decide (d.size ≤ 20) && plainB d
theorem str_drop (s : ByteArray) (k : Nat) (h : k < s.size) : s.data.toList.drop k = s[k] :: s.data.toList.drop (k + 1) := by
  rw [List.drop_eq_getElem_cons (by simpa using h)]; rfl
set_option maxHeartbeats 400000 in
theorem impl_dataOk (d : ByteArray) (w : World) (hd : d.size ≤ 9223372036854775807) :
    Calls Tryz.prog 163 #[.string d] w fun e w' => e = .returned (.bool (dataOkB d)) ∧ w' = w := by
  by_cases h1 : 1 ≤ d.size ∧ d.size ≤ 20
  · have hfin : Hid (dataOkB d = (d.data.toList.drop 0).all charB) := by show _ = _; simp [dataOkB, plainB, h1]
    obtain ⟨h1, h20⟩ := h1
    go_enter Tryz.func163, Tryz.ntmps163
    go_wp2_with fail
    go_loop [14] (fun ix => ∃ (k : Nat), k ≤ d.size ∧ ix = .int .i64 k ∧ Hid (dataOkB d = (d.data.toList.drop k).all charB)) (fun ix => d.size - (intOf ix).toNat)
    case atStart => exact ⟨0, Nat.zero_le _, rfl, hfin⟩
    case round =>
      obtain ⟨k, hk, rfl, hI⟩ := hrel
      by_cases hlt : k < d.size
      · have hs : Hid (d.data.toList.drop k = d[k] :: d.data.toList.drop (k + 1)) := str_drop d k hlt
        cases hc : charB d[k]
        · have hc' : (d[k].toNat : Int) < 32 ∨ 126 < (d[k].toNat : Int) := by simp [charB] at hc; omega
          go_wp2
          all_goals go_returns
          all_goals go_light
          all_goals (refine ⟨ret_bool ?_, rfl⟩; rw [hI.out, hs.out]; simp [hc])
        · have hc' : 32 ≤ (d[k].toNat : Int) ∧ (d[k].toNat : Int) ≤ 126 := by simp [charB] at hc; omega
          obtain ⟨hc1, hc2⟩ := hc'
          go_wp2
          go_round
          case rel => exact ⟨k + 1, by omega, by go_num, by show _ = _; rw [hI.out, hs.out]; simp [hc]⟩
          case measure => simp [intOf]; omega
      · obtain rfl : k = d.size := by omega
        go_wp2
        go_returns
        go_light
        refine ⟨ret_bool ?_, rfl⟩
        rw [hI.out, List.drop_of_length_le (by simp)]; rfl
  · have hfin : Hid (dataOkB d = false) := by show _ = _; simp [dataOkB]; omega
    go_enter Tryz.func163, Tryz.ntmps163
    go_wp2
    all_goals go_returns
    all_goals go_light
    all_goals exact ⟨ret_bool hfin.out.symm, rfl⟩
set_option maxHeartbeats 400000 in
theorem spec_l1Plain (d : ByteArray) (w : World) (hd : d.size ≤ 9223372036854775807) :
    Calls Tryz.prog 177 #[.string d] w fun e w' => e = .returned (.bool (plainB d && decide (d.size ≤ 20))) ∧ w' = w := by
  have hfin : Hid (plainB d = (d.data.toList.drop 0).all charB) := rfl
  go_enter Tryz.func177, Tryz.ntmps177
  go_wp2_with fail
  go_loop [3] (fun ix => ∃ (k : Nat), k ≤ d.size ∧ ix = .int .i64 k ∧ Hid (plainB d = (d.data.toList.drop k).all charB)) (fun ix => d.size - (intOf ix).toNat)
  case atStart => exact ⟨0, Nat.zero_le _, rfl, hfin⟩
  case round =>
    obtain ⟨k, hk, rfl, hI⟩ := hrel
    by_cases hlt : k < d.size
    · have hs : Hid (d.data.toList.drop k = d[k] :: d.data.toList.drop (k + 1)) := str_drop d k hlt
      cases hc : charB d[k]
      · have hc' : (d[k].toNat : Int) < 32 ∨ 126 < (d[k].toNat : Int) := by simp [charB] at hc; omega
        go_wp2
        all_goals go_returns
        all_goals go_light
        all_goals (refine ⟨ret_bool ?_, rfl⟩; rw [hI.out, hs.out]; simp [hc])
      · have hc' : 32 ≤ (d[k].toNat : Int) ∧ (d[k].toNat : Int) ≤ 126 := by simp [charB] at hc; omega
        obtain ⟨hc1, hc2⟩ := hc'
        go_wp2
        go_round
        case rel => exact ⟨k + 1, by omega, by go_num, by show _ = _; rw [hI.out, hs.out]; simp [hc]⟩
        case measure => simp [intOf]; omega
    · obtain rfl : k = d.size := by omega
      go_wp2
      go_returns
      go_light
      refine ⟨ret_bool ?_, rfl⟩
      rw [hI.out, List.drop_of_length_le (by simp)]; rw [Bool.eq_iff_iff]; simp; omega
/-- SpaceOk's rounds: the size, the first byte that is free, the extents to come. -/
def xgo (size : Int) : Int → List Ex → Bool
  | _, [] => true
  | next, e :: r => dataOkB e.d && decide (next ≤ e.a) && decide (e.a ≤ size + 1 - e.d.size) && xgo size (e.a + e.d.size) r
def spaceOkB (size : Int) (l : List Ex) : Bool := decide (1 ≤ size) && decide (size ≤ 400) && decide (l.length ≤ 60) && xgo size 1 l
/-- The strings of a list are as short as strings are. -/
def Strs (l : List Ex) : Prop := ∀ e ∈ l, e.d.size ≤ 9223372036854775807
theorem Strs.at {l : List Ex} (h : Strs l) {k : Nat} {e : Ex} (he : l[k]? = some e) : e.d.size ≤ 9223372036854775807 := h e (List.mem_of_getElem? he)
set_option maxHeartbeats 1000000 in
theorem impl_SpaceOk (size : Int) (a : Option Addr) (n cap : Nat) (l : List Ex) (w : World) (h : ExsAt w a n l) (hstr : Strs l) (hn : n ≤ 4194304) :
    Calls Tryz.prog 99 #[.int .i64 size, .slice a n cap] w fun e w' => e = .returned (.bool (spaceOkB size l)) ∧ Below w.heap.size w w' := by
  have hlen : Hid (l.length = n) := h.len
  by_cases h0 : 1 ≤ size ∧ size ≤ 400 ∧ n ≤ 60
  · have hfin : Hid (spaceOkB size l = xgo size 1 (l.drop 0)) := by show _ = _; simp [spaceOkB, hlen.out, h0]
    obtain ⟨h1, h400, h60⟩ := h0
    go_enter Tryz.func99, Tryz.ntmps99
    go_wp2_with fail
    go_loopw [5, 21] (fun nx ix wr => ∃ (k : Nat) (next : Int), k ≤ n ∧ ix = .int .i64 k ∧ nx = .int .i64 next ∧ 1 ≤ next ∧ next ≤ 421 ∧ Hid (spaceOkB size l = xgo size next (l.drop k)) ∧ Below w.heap.size w wr) (fun _ ix _ => n - (intOf ix).toNat)
    case atStart => exact ⟨0, 1, Nat.zero_le _, rfl, rfl, by omega, by omega, hfin, Below.refl _ _⟩
    case round =>
      obtain ⟨k, next, hk, rfl, rfl, hx1, hx2, hI, hB⟩ := hrel
      by_cases hlt : k < n
      · obtain ⟨b, o, p, rfl, hp, c0, c1⟩ := exs_at (h.below hB) hlt
        have hd : Hid (l.drop k = p :: l.drop (k + 1)) := drop_at hp
        have hsz := hstr.at hp
        clear hp
        have hwr := hB.size
        cases hdo : dataOkB p.d
        · go_wp2_with fail
          refine (impl_dataOk p.d _ hsz).mono ?_
          rintro e w1 ⟨rfl, rfl⟩
          rw [hdo]
          go_wp2
          go_returns
          go_light
          refine ⟨ret_bool ?_, by go_grown⟩
          rw [hI.out, hd.out]; simp [xgo, hdo]
        · have hd20 : 1 ≤ p.d.size ∧ p.d.size ≤ 20 := by simp [dataOkB] at hdo; exact hdo.1
          obtain ⟨hd1, hd2⟩ := hd20
          by_cases hok : next ≤ p.a ∧ p.a ≤ size + 1 - p.d.size
          · obtain ⟨ha1, ha2⟩ := hok
            go_wp2_with fail
            refine (impl_dataOk p.d _ hsz).mono ?_
            rintro e w1 ⟨rfl, rfl⟩
            rw [hdo]
            go_wp2
            go_roundw
            case rel => exact ⟨k + 1, p.a + p.d.size, by omega, by go_num, by go_num, by omega, by omega, by show _ = _; rw [hI.out, hd.out]; simp [xgo, hdo, ha1, ha2], by go_grown⟩
            case measure => simp [intOf]; omega
          · go_wp2_with fail
            refine (impl_dataOk p.d _ hsz).mono ?_
            rintro e w1 ⟨rfl, rfl⟩
            rw [hdo]
            go_wp2
            all_goals go_returns
            all_goals go_light
            all_goals refine ⟨ret_bool ?_, by go_grown⟩
            all_goals (rw [hI.out, hd.out]; simp [xgo, hdo]; omega)
      · obtain rfl : k = n := by omega
        go_wp2
        go_returns
        go_light
        refine ⟨ret_bool ?_, hB⟩
        rw [hI.out, List.drop_of_length_le (Nat.le_of_eq hlen.out)]; rfl
  · have hfin : Hid (spaceOkB size l = false) := by show _ = _; have := hlen.out; simp [spaceOkB]; omega
    go_enter Tryz.func99, Tryz.ntmps99
    go_wp2
    all_goals go_returns
    all_goals go_light
    all_goals exact ⟨ret_bool hfin.out.symm, Below.refl _ _⟩
end Go.Proofs.YtigldeccfpkdmaaGreatDoor
namespace Go.Proofs.YtigldeccfpkdmaaGreatDoor
open Go Go.RowKit Go.BigFrame
def cutV (c : UInt8) (s : ByteArray) : Value := match cutB c s.data.toList with
  | none => .tuple #[.string s, .string ⟨#[]⟩, .bool false]
  | some q => .tuple #[.string (bA q.1), .string (bA q.2), .bool true]
theorem take_noc {l : By} {c x : UInt8} {k : Nat} (h : c ∉ l.take k) (hx : l[k]? = some x) (hc : x ≠ c) : c ∉ l.take (k + 1) := by
  rw [List.take_add_one, hx]
  simp [h]
  exact fun e => hc e.symm
theorem cut_hit {s : ByteArray} {c : UInt8} {k : Nat} (hk : k < s.size) (h : c ∉ s.data.toList.take k) (hc : s[k] = c) : cutB c s.data.toList = some (s.data.toList.take k, s.data.toList.drop (k + 1)) := by
  have e : s.data.toList = s.data.toList.take k ++ c :: s.data.toList.drop (k + 1) := by
    rw [← hc, ← str_drop s k hk, List.take_append_drop]
  have e2 := cutB_app (c := c) (s.data.toList.drop (k + 1)) h
  rw [← e] at e2
  exact e2
set_option maxHeartbeats 1000000 in
theorem spec_l1Cut (c : UInt8) (s : ByteArray) (w : World) (hs : s.size ≤ 2000000) :
    Calls Tryz.prog 35 #[.string s, .int .u8 c.toNat] w fun e w' => e = .returned (cutV c s) ∧ Below w.heap.size w w' := by
  obtain ⟨R, hR⟩ : ∃ R, Hid (cutV c s = R) := ⟨_, rfl⟩
  rw [hR.out]
  go_enter Tryz.func35, Tryz.ntmps35
  go_wp2_with fail
  go_loop [7] (fun ix => ∃ (k : Nat), k ≤ s.size ∧ ix = .int .i64 k ∧ Hid (c ∉ s.data.toList.take k)) (fun ix => s.size - (intOf ix).toNat)
  case atStart => exact ⟨0, Nat.zero_le _, rfl, by show c ∉ _; simp⟩
  case round =>
    obtain ⟨k, hk, rfl, hI⟩ := hrel
    by_cases hlt : k < s.size
    · have hb : s.data.toList[k]? = some s[k] := by rw [List.getElem?_eq_getElem (by simpa using hlt)]; rfl
      by_cases hc : s[k] = c
      · have hfin : Hid (R = .tuple #[.string (s.extract 0 k), .string (s.extract (k + 1) s.size), .bool true]) := by
          show _ = _
          rw [← hR.out, cutV, cut_hit hlt hI.out hc]
          simp only [bA]
          rw [Lib.extract_eq, Lib.extract_eq]
          have e : (s.data.toList.drop (k + 1)).take (s.size - (k + 1)) = s.data.toList.drop (k + 1) := List.take_of_length_le (by simp)
          rw [e]
          simp
        have hcc : (s[k].toNat : Int) = c.toNat := by rw [hc]
        go_wp2_with fail
        go_quiet (fail)
        go_wp2
        go_returns
        exact ⟨by rw [hfin.out]; rfl, drewNB _ _⟩
      · have hcc : ¬ (s[k].toNat : Int) = c.toNat := fun e => hc (UInt8.toNat_inj.1 (by omega))
        go_wp2
        go_round
        case rel => exact ⟨k + 1, by omega, by go_num, take_noc hI.out hb hc⟩
        case measure => simp [intOf]; omega
    · obtain rfl : k = s.size := by omega
      have hfin : Hid (R = .tuple #[.string s, .string ⟨#[]⟩, .bool false]) := by
        show _ = _
        have := hI.out
        rw [List.take_of_length_le (by simp)] at this
        rw [← hR.out, cutV, cutB_none this]
      go_wp2
      go_returns
      exact ⟨by rw [hfin.out]; rfl, Below.refl _ _⟩
/-- A number that is read, and whether it is one. -/
def intV (o : Option Int) : Value := match o with
  | none => .tuple #[.int .i64 0, .bool false]
  | some n => .tuple #[.int .i64 n, .bool true]
theorem dig_step {l : By} {k n : Nat} {x : UInt8} (h : Lib.decFrom 0 (l.take k) = some n) (hx : l[k]? = some x) (h1 : 48 ≤ x.toNat) (h2 : x.toNat ≤ 57) : Lib.decFrom 0 (l.take (k + 1)) = some (n * 10 + (x.toNat - 48)) := by
  refine Lib.decFrom_take l k 0 n x _ h hx ?_
  unfold Lib.digitVal
  rw [if_pos ⟨h1, h2⟩]
theorem dig_stop {l : By} {k : Nat} {x : UInt8} (hx : l[k]? = some x) (h1 : ¬ (48 ≤ x.toNat ∧ x.toNat ≤ 57)) : Lib.decFrom 0 l = none := by
  obtain ⟨hk, rfl⟩ := List.getElem?_eq_some_iff.1 hx
  rw [← List.take_append_drop k l, decFrom_app, List.drop_eq_getElem_cons hk]
  cases Lib.decFrom 0 (l.take k) with
  | none => rfl
  | some m =>
    simp only [Option.bind_some, Lib.decFrom, Lib.digitVal]
    rw [if_neg h1]
theorem dig_lim {l : By} {k n : Nat} (h : Lib.decFrom 0 (l.take k) = some n) (hl : l.length ≤ 10) : n < 10000000000 := by
  have h1 := decFrom_lt _ 0 n h
  have h2 : 10 ^ (l.take k).length ≤ 10 ^ 10 := Nat.pow_le_pow_right (by omega) (by simp; omega)
  have h3 : (10 : Nat) ^ 10 = 10000000000 := by decide
  omega
set_option maxHeartbeats 4000000 in
theorem spec_l1Int_pos (t : ByteArray) (w : World) (hs : t.size ≤ 2000000) (hneg : ¬ (1 < t.size ∧ ∃ h : 0 < t.size, t[0] = 45)) :
    Calls Tryz.prog 65 #[.string t] w fun e w' => e = .returned (intV (numP t.data.toList)) ∧ w' = w := by
  obtain ⟨R, hR⟩ : ∃ R, Hid (intV (numP t.data.toList) = R) := ⟨_, rfl⟩
  rw [hR.out]
  have hn : Hid (numP t.data.toList = if t.data.toList.length < 1 ∨ 10 < t.data.toList.length ∨ (t.data.toList.head? = some 48 ∧ 1 < t.data.toList.length) then none else (Lib.decFrom 0 t.data.toList).map fun (n : Nat) => (n : Int)) := by
    show _ = _
    by_cases hh : t.data.toList.head? = some 45
    · obtain ⟨x, l, e⟩ : ∃ x l, t.data.toList = x :: l := by
        cases hc : t.data.toList with
        | nil => rw [hc] at hh; cases hh
        | cons x l => exact ⟨x, l, rfl⟩
      have hp : 0 < t.size := by rw [Lib.size_eq t, e]; simp
      have h0 : t[0] = 45 := by
        have := str_drop t 0 hp
        rw [List.drop_zero] at this
        rw [this] at hh
        exact Option.some.inj hh
      have h1 : t.size = 1 := by
        by_cases h : 1 < t.size
        · exact absurd ⟨h, hp, h0⟩ hneg
        · omega
      have e2 : t.data.toList = [45] := by
        have := str_drop t 0 hp
        rw [List.drop_zero, h0] at this
        rw [this, List.drop_of_length_le (by rw [← Lib.size_eq]; omega)]
      rw [e2]
      decide
    · exact numP_plain hh
  have hng : 1 < t.size → ∀ h : 0 < t.size, ¬ (t[0].toNat : Int) = 45 := fun h1 h e => hneg ⟨h1, h, UInt8.toNat_inj.1 (by simp; omega)⟩
  clear hneg
  go_enter Tryz.func65, Tryz.ntmps65
  by_cases h1 : 1 < t.size
  all_goals (try have hg := hng h1 (by omega))
  all_goals clear hng
  all_goals go_upto_region 4 with fail
  all_goals (
    have htl : Hid (t.data.toList.length = t.size) := (Lib.size_eq t).symm
    by_cases h10 : t.size < 1 ∨ 10 < t.size
    · have hfin : Hid (R = .tuple #[.int .i64 0, .bool false]) := by
        show _ = _
        rw [← hR.out, hn.out, if_pos (by rw [htl.out]; omega)]; rfl
      rcases h10 with h10 | h10
      all_goals go_wp2
      all_goals go_returns
      all_goals exact ⟨by rw [hfin.out]; rfl, rfl⟩
    · have htp : 0 < t.size := by omega
      have ht10 : t.size ≤ 10 := by omega
      clear h10
      have hh : Hid (t.data.toList.head? = some t[0]) := by
        show _ = _
        have := str_drop t 0 htp
        rw [List.drop_zero] at this
        rw [this]; rfl
      by_cases h48 : t[0] = 48 ∧ 1 < t.size
      · have hfin : Hid (R = .tuple #[.int .i64 0, .bool false]) := by
          show _ = _
          rw [← hR.out, hn.out, if_pos (by rw [hh.out, htl.out, h48.1]; simp [h48.2])]; rfl
        have h48a : (t[0].toNat : Int) = 48 := by rw [h48.1]; rfl
        have h48b := h48.2
        clear h48
        go_wp2
        all_goals go_returns
        all_goals exact ⟨by rw [hfin.out]; rfl, rfl⟩
      · have hn2 : Hid (numP t.data.toList = (Lib.decFrom 0 t.data.toList).map fun (n : Nat) => (n : Int)) := by
          show _ = _
          rw [hn.out, if_neg]
          rw [hh.out, htl.out]
          rintro (h | h | h)
          · omega
          · omega
          · exact h48 ⟨Option.some.inj h.1, h.2⟩
        have h48a : ¬ (t[0].toNat : Int) = 48 ∨ t.size ≤ 1 := by
          by_cases h1 : 1 < t.size
          · exact .inl fun e => h48 ⟨UInt8.toNat_inj.1 (by simp; omega), h1⟩
          · exact .inr (by omega)
        clear h48 hh hn
        by_cases h480 : (t[0].toNat : Int) = 48
        all_goals (try have hle : t.size ≤ 1 := by omega)
        all_goals clear h48a
        all_goals go_wp2_with fail
        all_goals (
          go_loop [5, 6] (fun nv ix => ∃ (k m : Nat), k ≤ t.size ∧ ix = .int .i64 k ∧ nv = .int .i64 m ∧ m < 10000000000 ∧ Hid (Lib.decFrom 0 (t.data.toList.take k) = some m)) (fun _ ix => t.size - (intOf ix).toNat)
          case atStart => exact ⟨0, 0, Nat.zero_le _, rfl, rfl, by omega, rfl⟩
          case round =>
            obtain ⟨k, m, hk, rfl, rfl, hm, hI⟩ := hrel
            by_cases hlt : k < t.size
            · have hb : t.data.toList[k]? = some t[k] := by rw [List.getElem?_eq_getElem (by simpa using hlt)]; rfl
              by_cases hc : 48 ≤ t[k].toNat ∧ t[k].toNat ≤ 57
              · have hnx : Hid (Lib.decFrom 0 (t.data.toList.take (k + 1)) = some (m * 10 + (t[k].toNat - 48))) := dig_step hI.out hb hc.1 hc.2
                have hlm := dig_lim hnx.out (by rw [htl.out]; exact ht10)
                obtain ⟨hc1, hc2⟩ := hc
                have hc1' : (48 : Int) ≤ t[k].toNat := by omega
                have hc2' : (t[k].toNat : Int) ≤ 57 := by omega
                go_wp2
                go_round
                case rel => exact ⟨k + 1, m * 10 + (t[k].toNat - 48), by omega, by go_num, by congr 1; omega, hlm, hnx⟩
                case measure => simp [intOf]; omega
              · have hfin : Hid (R = .tuple #[.int .i64 0, .bool false]) := by
                  show _ = _
                  rw [← hR.out, hn2.out, dig_stop hb hc]; rfl
                have hc' : (t[k].toNat : Int) < 48 ∨ 57 < (t[k].toNat : Int) := by omega
                clear hc
                rcases hc' with hc' | hc'
                all_goals go_wp2
                all_goals go_returns
                all_goals exact ⟨by rw [hfin.out]; rfl, rfl⟩
            · obtain rfl : k = t.size := by omega
              have hfin : Hid (R = .tuple #[.int .i64 (m : Int), .bool true]) := by
                show _ = _
                have := hI.out
                rw [List.take_of_length_le (by rw [htl.out]; exact Nat.le_refl _)] at this
                rw [← hR.out, hn2.out, this]; rfl
              go_wp2
              go_returns
              exact ⟨by rw [hfin.out]; rfl, rfl⟩))
set_option maxHeartbeats 4000000 in
theorem spec_l1Int (s : ByteArray) (w : World) (hs : s.size ≤ 2000000) :
    Calls Tryz.prog 65 #[.string s] w fun e w' => e = .returned (intV (numP s.data.toList)) ∧ w' = w := by
  obtain ⟨R, hR⟩ : ∃ R, Hid (intV (numP s.data.toList) = R) := ⟨_, rfl⟩
  rw [hR.out]
  by_cases hneg : 1 < s.size ∧ ∃ h : 0 < s.size, s[0] = 45
  · obtain ⟨g1, g0, g2⟩ := hneg
    have hg : (s[0].toNat : Int) = 45 := by rw [g2]; rfl
    obtain ⟨t, ht⟩ : ∃ t, Hid (s.extract 1 s.size = t) := ⟨_, rfl⟩
    have hsd : Hid (s.data.toList = 45 :: t.data.toList) := by
      show _ = _
      have := str_drop s 0 g0
      rw [List.drop_zero, g2] at this
      rw [← ht.out, Lib.extract_data, this]
      simp
      exact (List.take_of_length_le (by simp)).symm
    have hn : Hid (numP s.data.toList = if t.data.toList.length < 1 ∨ 10 < t.data.toList.length ∨ t.data.toList.head? = some 48 then none else (Lib.decFrom 0 t.data.toList).map fun (n : Nat) => -(n : Int)) := by
      show _ = _
      rw [hsd.out]; rfl
    go_enter Tryz.func65, Tryz.ntmps65
    go_upto_region 4 with fail
    rw [ht.out]
    have hts : t.size ≤ 2000000 := by rw [← ht.out]; simp; omega
    clear ht hsd
    have htl : Hid (t.data.toList.length = t.size) := (Lib.size_eq t).symm
    by_cases h10 : t.size < 1 ∨ 10 < t.size
    · have hfin : Hid (R = .tuple #[.int .i64 0, .bool false]) := by
        show _ = _
        rw [← hR.out, hn.out, if_pos (by rw [htl.out]; omega)]; rfl
      rcases h10 with h10 | h10
      all_goals go_wp2
      all_goals go_returns
      all_goals exact ⟨by rw [hfin.out]; rfl, rfl⟩
    · have htp : 0 < t.size := by omega
      have ht10 : t.size ≤ 10 := by omega
      clear h10
      have hh : Hid (t.data.toList.head? = some t[0]) := by
        show _ = _
        have := str_drop t 0 htp
        rw [List.drop_zero] at this
        rw [this]; rfl
      by_cases h48 : t[0] = 48 ∧ True
      · have hfin : Hid (R = .tuple #[.int .i64 0, .bool false]) := by
          show _ = _
          rw [← hR.out, hn.out, if_pos (by rw [hh.out, htl.out, h48.1]; simp)]; rfl
        have h48a : (t[0].toNat : Int) = 48 := by rw [h48.1]; rfl
        have h48b := h48.2
        clear h48
        go_wp2
        all_goals go_returns
        all_goals exact ⟨by rw [hfin.out]; rfl, rfl⟩
      · have hn2 : Hid (numP s.data.toList = (Lib.decFrom 0 t.data.toList).map fun (n : Nat) => -(n : Int)) := by
          show _ = _
          rw [hn.out, if_neg]
          rw [hh.out, htl.out]
          rintro (h | h | h)
          · omega
          · omega
          · exact h48 ⟨Option.some.inj h, trivial⟩
        have h48a : ¬ (t[0].toNat : Int) = 48 := fun e => h48 ⟨UInt8.toNat_inj.1 (by simp; omega), trivial⟩
        clear h48 hh hn
        skip
        go_wp2_with fail
        all_goals (
          go_loop [5, 6] (fun nv ix => ∃ (k m : Nat), k ≤ t.size ∧ ix = .int .i64 k ∧ nv = .int .i64 m ∧ m < 10000000000 ∧ Hid (Lib.decFrom 0 (t.data.toList.take k) = some m)) (fun _ ix => t.size - (intOf ix).toNat)
          case atStart => exact ⟨0, 0, Nat.zero_le _, rfl, rfl, by omega, rfl⟩
          case round =>
            obtain ⟨k, m, hk, rfl, rfl, hm, hI⟩ := hrel
            by_cases hlt : k < t.size
            · have hb : t.data.toList[k]? = some t[k] := by rw [List.getElem?_eq_getElem (by simpa using hlt)]; rfl
              by_cases hc : 48 ≤ t[k].toNat ∧ t[k].toNat ≤ 57
              · have hnx : Hid (Lib.decFrom 0 (t.data.toList.take (k + 1)) = some (m * 10 + (t[k].toNat - 48))) := dig_step hI.out hb hc.1 hc.2
                have hlm := dig_lim hnx.out (by rw [htl.out]; exact ht10)
                obtain ⟨hc1, hc2⟩ := hc
                have hc1' : (48 : Int) ≤ t[k].toNat := by omega
                have hc2' : (t[k].toNat : Int) ≤ 57 := by omega
                go_wp2
                go_round
                case rel => exact ⟨k + 1, m * 10 + (t[k].toNat - 48), by omega, by go_num, by congr 1; omega, hlm, hnx⟩
                case measure => simp [intOf]; omega
              · have hfin : Hid (R = .tuple #[.int .i64 0, .bool false]) := by
                  show _ = _
                  rw [← hR.out, hn2.out, dig_stop hb hc]; rfl
                have hc' : (t[k].toNat : Int) < 48 ∨ 57 < (t[k].toNat : Int) := by omega
                clear hc
                rcases hc' with hc' | hc'
                all_goals go_wp2
                all_goals go_returns
                all_goals exact ⟨by rw [hfin.out]; rfl, rfl⟩
            · obtain rfl : k = t.size := by omega
              have hfin : Hid (R = .tuple #[.int .i64 (-(m : Int)), .bool true]) := by
                show _ = _
                have := hI.out
                rw [List.take_of_length_le (by rw [htl.out]; exact Nat.le_refl _)] at this
                rw [← hR.out, hn2.out, this]; rfl
              go_wp2
              go_returns
              exact ⟨by rw [hfin.out]; rfl, rfl⟩)
  · rw [← hR.out]; exact spec_l1Int_pos s w hs hneg
end Go.Proofs.YtigldeccfpkdmaaGreatDoor
namespace Go.Proofs.YtigldeccfpkdmaaGreatDoor
open Go Go.RowKit Go.BigFrame Go.Shelf
theorem bu_size : (Tryz.prog.info? 180).map (·.size) = some 2 := by kernel_rfl
theorem bu_lies : liesAt Tryz.prog Tryz.prog.depth 182 (2 / Tryz.prog.cellsOf 182) 0 180 1 = true := by kernel_rfl
set_option maxHeartbeats 1000000 in
set_option maxRecDepth 100000 in
theorem bu_check_used (b : Nat) (w : World) (h0 : w.cell? ⟨b, 0, none⟩ = some (.pointer (some ⟨b, 0, none⟩))) :
    Calls Tryz.prog 216 #[.pointer (some ⟨b, 0, none⟩)] w fun e w' => e = .returned (.tuple #[]) ∧ w' = w := by
  obtain ⟨j, hj, _⟩ := Option.map_eq_some_iff.1 bu_size
  go_enter Tryz.func216, Tryz.ntmps216
  go_wp2
  rw [Lib.run_neq_ptr_same w _ Tryz.underlying178 hj]
  go_wp2
  go_end0
  exact ⟨rfl, rfl⟩
set_option maxHeartbeats 1000000 in
set_option maxRecDepth 100000 in
theorem bu_check_fresh (b : Nat) (w : World) (h0 : w.cell? ⟨b, 0, none⟩ = some (.pointer none)) (hsh : w.shape? b = some (182, 2)) (hfz : w.frozen? ⟨b, 0, none⟩ = false) :
    Calls Tryz.prog 216 #[.pointer (some ⟨b, 0, none⟩)] w fun e w' => e = .returned (.tuple #[]) ∧ w' = w.setCell ⟨b, 0, none⟩ (.pointer (some ⟨b, 0, none⟩)) := by
  obtain ⟨j, hj, hjs⟩ := Option.map_eq_some_iff.1 bu_size
  go_enter Tryz.func216, Tryz.ntmps216
  go_wp2
  rw [Lib.run_to_unsafe w ⟨b, 0, none⟩ Tryz.underlying178 Tryz.underlying298 hj (by rw [hjs]; decide) hsh (Nat.zero_lt_succ 1)]
  simp only [Result.andThen]
  rw [Oper.upon_value]
  go_wp2
  rw [run_callFunc_extern Tryz.func244 (by kernel_rfl) (by kernel_rfl) (by kernel_rfl) (e := Extern.AbiNoEscape.same) (by kernel_rfl)]
  rw [Lib.run_noEscape]
  simp only [Result.andThen]
  rw [Oper.upon_value]
  go_wp2
  rw [Lib.run_from_unsafe w ⟨b, 0, none⟩ Tryz.underlying298 Tryz.underlying178 hj hsh bu_lies]
  simp only [Result.andThen]
  rw [Oper.upon_value]
  go_wp2
  go_end0
  exact ⟨rfl, rfl⟩
theorem bu_check (B b : Nat) (bs : List Value) (w : World) (h : Lib.IsBuilderF 182 5 B b bs w) :
    Calls Tryz.prog 216 #[.pointer (some ⟨b, 0, none⟩)] w fun e w' => e = .returned (.tuple #[]) ∧ Lib.BuilderAtF 182 5 B b (.pointer (some ⟨b, 0, none⟩)) bs w' ∧ Below B w w' ∧ Lib.OthersKept 5 (some b) w w' := by
  rcases h with h | h
  · refine (bu_check_fresh b w h.cell0 h.shape h.frozen0).mono ?_
    rintro e w' ⟨rfl, rfl⟩
    exact ⟨rfl, h.used _, (Below.refl B w).setCell (p := ⟨b, 0, none⟩) h.1 _, (Lib.OthersKept.refl _ _ w).setCell ⟨b, 0, none⟩ rfl _⟩
  · refine (bu_check_used b w h.cell0).mono ?_
    rintro e w' ⟨rfl, rfl⟩
    exact ⟨rfl, h, Below.refl B _, Lib.OthersKept.refl _ _ _⟩
end Go.Proofs.YtigldeccfpkdmaaGreatDoor
