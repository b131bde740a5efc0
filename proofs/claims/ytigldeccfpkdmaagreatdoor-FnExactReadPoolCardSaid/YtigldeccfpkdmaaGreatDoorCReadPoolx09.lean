/- Texts cut, and numbers read, by the model. Words of a line, by the model. -/
import Derived.Lib.Strings
import Derived.Deep.DeepCutAuto
import Derived.Test.YtigldeccfpkdmaaGreatDoorCReadPoolx08
import Derived.Test.YtigldeccfpkdmaaGreatDoorCReadPoolx02
import Derived.Test.YtigldeccfpkdmaaGreatDoorCReadPoolx01
namespace Go.Proofs.YtigldeccfpkdmaaGreatDoor
open Go Go.RowKit Go.BigFrame
def cutV (c : UInt8) (s : ByteArray) : Value := match cutB c s.data.toList with
  | none => .tuple #[.string s, .string ⟨#[]⟩, .bool false]
  | some q => .tuple #[.string (bA q.1), .string (bA q.2), .bool true]
theorem take_noc {l : By} {c x : UInt8} {k : Nat} (h : c ∉ l.take k) (hx : l[k]? = some x) (hc : x ≠ c) : c ∉ l.take (k + 1) := by
  rw [List.take_add_one, hx]
  simp [h]
  exact fun e => hc e.symm
theorem cut_hit {s : ByteArray} {c : UInt8} {k : Nat} (hk : k < s.size) (h : c ∉ s.data.toList.take k) (hc : s[k] = c) : cutB c s.data.toList = some (s.data.toList.take k, s.data.toList.drop (k + 1)) := by
  have e : s.data.toList = s.data.toList.take k ++ c :: s.data.toList.drop (k + 1) := by
    rw [← hc, ← str_drop s k hk, List.take_append_drop]
  have e2 := cutB_app (c := c) (s.data.toList.drop (k + 1)) h
  rw [← e] at e2
  exact e2
set_option maxHeartbeats 1000000 in
theorem spec_l1Cut (c : UInt8) (s : ByteArray) (w : World) (hs : s.size ≤ 2000000) :
    Calls Tryz.prog 35 #[.string s, .int .u8 c.toNat] w fun e w' => e = .returned (cutV c s) ∧ Below w.heap.size w w' := by
  obtain ⟨R, hR⟩ : ∃ R, Hid (cutV c s = R) := ⟨_, rfl⟩
  rw [hR.out]
  go_enter Tryz.func35, Tryz.ntmps35
  go_wp2_with fail
  go_loop [7] (fun ix => ∃ (k : Nat), k ≤ s.size ∧ ix = .int .i64 k ∧ Hid (c ∉ s.data.toList.take k)) (fun ix => s.size - (intOf ix).toNat)
  case atStart => exact ⟨0, Nat.zero_le _, rfl, by show c ∉ _; simp⟩
  case round =>
    obtain ⟨k, hk, rfl, hI⟩ := hrel
    by_cases hlt : k < s.size
    · have hb : s.data.toList[k]? = some s[k] := by rw [List.getElem?_eq_getElem (by simpa using hlt)]; rfl
      by_cases hc : s[k] = c
      · have hfin : Hid (R = .tuple #[.string (s.extract 0 k), .string (s.extract (k + 1) s.size), .bool true]) := by
          show _ = _
          rw [← hR.out, cutV, cut_hit hlt hI.out hc]
          simp only [bA]
          rw [Lib.extract_eq, Lib.extract_eq]
          have e : (s.data.toList.drop (k + 1)).take (s.size - (k + 1)) = s.data.toList.drop (k + 1) := List.take_of_length_le (by simp)
          rw [e]
          simp
        have hcc : (s[k].toNat : Int) = c.toNat := by rw [hc]
        go_wp2_with fail
        go_quiet (fail)
        go_wp2
        go_returns
        exact ⟨by rw [hfin.out]; rfl, drewNB _ _⟩
      · have hcc : ¬ (s[k].toNat : Int) = c.toNat := fun e => hc (UInt8.toNat_inj.1 (by omega))
        go_wp2
        go_round
        case rel => exact ⟨k + 1, by omega, by go_num, take_noc hI.out hb hc⟩
        case measure => simp [intOf]; omega
    · obtain rfl : k = s.size := by omega
      have hfin : Hid (R = .tuple #[.string s, .string ⟨#[]⟩, .bool false]) := by
        show _ = _
        have := hI.out
        rw [List.take_of_length_le (by simp)] at this
        rw [← hR.out, cutV, cutB_none this]
      go_wp2
      go_returns
      exact ⟨by rw [hfin.out]; rfl, Below.refl _ _⟩
/-- A number that is read, and whether it is one. -/
def intV (o : Option Int) : Value := match o with
  | none => .tuple #[.int .i64 0, .bool false]
  | some n => .tuple #[.int .i64 n, .bool true]
theorem dig_step {l : By} {k n : Nat} {x : UInt8} (h : Lib.decFrom 0 (l.take k) = some n) (hx : l[k]? = some x) (h1 : 48 ≤ x.toNat) (h2 : x.toNat ≤ 57) : Lib.decFrom 0 (l.take (k + 1)) = some (n * 10 + (x.toNat - 48)) := by
  refine Lib.decFrom_take l k 0 n x _ h hx ?_
  unfold Lib.digitVal
  rw [if_pos ⟨h1, h2⟩]
theorem dig_stop {l : By} {k : Nat} {x : UInt8} (hx : l[k]? = some x) (h1 : ¬ (48 ≤ x.toNat ∧ x.toNat ≤ 57)) : Lib.decFrom 0 l = none := by
  obtain ⟨hk, rfl⟩ := List.getElem?_eq_some_iff.1 hx
  rw [← List.take_append_drop k l, decFrom_app, List.drop_eq_getElem_cons hk]
  cases Lib.decFrom 0 (l.take k) with
  | none => rfl
  | some m =>
    simp only [Option.bind_some, Lib.decFrom, Lib.digitVal]
    rw [if_neg h1]
theorem dig_lim {l : By} {k n : Nat} (h : Lib.decFrom 0 (l.take k) = some n) (hl : l.length ≤ 10) : n < 10000000000 := by
  have h1 := decFrom_lt _ 0 n h
  have h2 : 10 ^ (l.take k).length ≤ 10 ^ 10 := Nat.pow_le_pow_right (by omega) (by simp; omega)
  have h3 : (10 : Nat) ^ 10 = 10000000000 := by decide
  omega
set_option maxHeartbeats 4000000 in
theorem spec_l1Int_pos (t : ByteArray) (w : World) (hs : t.size ≤ 2000000) (hneg : ¬ (1 < t.size ∧ ∃ h : 0 < t.size, t[0] = 45)) :
    Calls Tryz.prog 65 #[.string t] w fun e w' => e = .returned (intV (numP t.data.toList)) ∧ w' = w := by
  obtain ⟨R, hR⟩ : ∃ R, Hid (intV (numP t.data.toList) = R) := ⟨_, rfl⟩
  rw [hR.out]
  have hn : Hid (numP t.data.toList = if t.data.toList.length < 1 ∨ 10 < t.data.toList.length ∨ (t.data.toList.head? = some 48 ∧ 1 < t.data.toList.length) then none else (Lib.decFrom 0 t.data.toList).map fun (n : Nat) => (n : Int)) := by
    show _ = _
    by_cases hh : t.data.toList.head? = some 45
    · obtain ⟨x, l, e⟩ : ∃ x l, t.data.toList = x :: l := by
        cases hc : t.data.toList with
        | nil => rw [hc] at hh; cases hh
        | cons x l => exact ⟨x, l, rfl⟩
      have hp : 0 < t.size := by rw [Lib.size_eq t, e]; simp
      have h0 : t[0] = 45 := by
        have := str_drop t 0 hp
        rw [List.drop_zero] at this
        rw [this] at hh
        exact Option.some.inj hh
      have h1 : t.size = 1 := by
        by_cases h : 1 < t.size
        · exact absurd ⟨h, hp, h0⟩ hneg
        · omega
      have e2 : t.data.toList = [45] := by
        have := str_drop t 0 hp
        rw [List.drop_zero, h0] at this
        rw [this, List.drop_of_length_le (by rw [← Lib.size_eq]; omega)]
      rw [e2]
      decide
    · exact numP_plain hh
  have hng : 1 < t.size → ∀ h : 0 < t.size, ¬ (t[0].toNat : Int) = 45 := fun h1 h e => hneg ⟨h1, h, UInt8.toNat_inj.1 (by simp; omega)⟩
  clear hneg
  go_enter Tryz.func65, Tryz.ntmps65
  by_cases h1 : 1 < t.size
  all_goals (try have hg := hng h1 (by omega))
  all_goals clear hng
  all_goals go_upto_region 4 with fail
  all_goals (
    have htl : Hid (t.data.toList.length = t.size) := (Lib.size_eq t).symm
    by_cases h10 : t.size < 1 ∨ 10 < t.size
    · have hfin : Hid (R = .tuple #[.int .i64 0, .bool false]) := by
        show _ = _
        rw [← hR.out, hn.out, if_pos (by rw [htl.out]; omega)]; rfl
      rcases h10 with h10 | h10
      all_goals go_wp2
      all_goals go_returns
      all_goals exact ⟨by rw [hfin.out]; rfl, rfl⟩
    · have htp : 0 < t.size := by omega
      have ht10 : t.size ≤ 10 := by omega
      clear h10
      have hh : Hid (t.data.toList.head? = some t[0]) := by
        show _ = _
        have := str_drop t 0 htp
        rw [List.drop_zero] at this
        rw [this]; rfl
      by_cases h48 : t[0] = 48 ∧ 1 < t.size
      · have hfin : Hid (R = .tuple #[.int .i64 0, .bool false]) := by
          show _ = _
          rw [← hR.out, hn.out, if_pos (by rw [hh.out, htl.out, h48.1]; simp [h48.2])]; rfl
        have h48a : (t[0].toNat : Int) = 48 := by rw [h48.1]; rfl
        have h48b := h48.2
        clear h48
        go_wp2
        all_goals go_returns
        all_goals exact ⟨by rw [hfin.out]; rfl, rfl⟩
      · have hn2 : Hid (numP t.data.toList = (Lib.decFrom 0 t.data.toList).map fun (n : Nat) => (n : Int)) := by
          show _ = _
          rw [hn.out, if_neg]
          rw [hh.out, htl.out]
          rintro (h | h | h)
          · omega
          · omega
          · exact h48 ⟨Option.some.inj h.1, h.2⟩
        have h48a : ¬ (t[0].toNat : Int) = 48 ∨ t.size ≤ 1 := by
          by_cases h1 : 1 < t.size
          · exact .inl fun e => h48 ⟨UInt8.toNat_inj.1 (by simp; omega), h1⟩
          · exact .inr (by omega)
        clear h48 hh hn
        by_cases h480 : (t[0].toNat : Int) = 48
        all_goals (try have hle : t.size ≤ 1 := by omega)
        all_goals clear h48a
        all_goals go_wp2_with fail
        all_goals (
          go_loop [5, 6] (fun nv ix => ∃ (k m : Nat), k ≤ t.size ∧ ix = .int .i64 k ∧ nv = .int .i64 m ∧ m < 10000000000 ∧ Hid (Lib.decFrom 0 (t.data.toList.take k) = some m)) (fun _ ix => t.size - (intOf ix).toNat)
          case atStart => exact ⟨0, 0, Nat.zero_le _, rfl, rfl, by omega, rfl⟩
          case round =>
            obtain ⟨k, m, hk, rfl, rfl, hm, hI⟩ := hrel
            by_cases hlt : k < t.size
            · have hb : t.data.toList[k]? = some t[k] := by rw [List.getElem?_eq_getElem (by simpa using hlt)]; rfl
              by_cases hc : 48 ≤ t[k].toNat ∧ t[k].toNat ≤ 57
              · have hnx : Hid (Lib.decFrom 0 (t.data.toList.take (k + 1)) = some (m * 10 + (t[k].toNat - 48))) := dig_step hI.out hb hc.1 hc.2
                have hlm := dig_lim hnx.out (by rw [htl.out]; exact ht10)
                obtain ⟨hc1, hc2⟩ := hc
                have hc1' : (48 : Int) ≤ t[k].toNat := by omega
                have hc2' : (t[k].toNat : Int) ≤ 57 := by omega
                go_wp2
                go_round
                case rel => exact ⟨k + 1, m * 10 + (t[k].toNat - 48), by omega, by go_num, by congr 1; omega, hlm, hnx⟩
                case measure => simp [intOf]; omega
              · have hfin : Hid (R = .tuple #[.int .i64 0, .bool false]) := by
                  show _ = _
                  rw [← hR.out, hn2.out, dig_stop hb hc]; rfl
                have hc' : (t[k].toNat : Int) < 48 ∨ 57 < (t[k].toNat : Int) := by omega
                clear hc
                rcases hc' with hc' | hc'
                all_goals go_wp2
                all_goals go_returns
                all_goals exact ⟨by rw [hfin.out]; rfl, rfl⟩
            · obtain rfl : k = t.size := by omega
              have hfin : Hid (R = .tuple #[.int .i64 (m : Int), .bool true]) := by
                show _ = _
                have := hI.out
                rw [List.take_of_length_le (by rw [htl.out]; exact Nat.le_refl _)] at this
                rw [← hR.out, hn2.out, this]; rfl
              go_wp2
              go_returns
              exact ⟨by rw [hfin.out]; rfl, rfl⟩))
set_option maxHeartbeats 4000000 in
theorem spec_l1Int (s : ByteArray) (w : World) (hs : s.size ≤ 2000000) :
    Calls Tryz.prog 65 #[.string s] w fun e w' => e = .returned (intV (numP s.data.toList)) ∧ w' = w := by
  obtain ⟨R, hR⟩ : ∃ R, Hid (intV (numP s.data.toList) = R) := ⟨_, rfl⟩
  rw [hR.out]
  by_cases hneg : 1 < s.size ∧ ∃ h : 0 < s.size, s[0] = 45
  · obtain ⟨g1, g0, g2⟩ := hneg
    have hg : (s[0].toNat : Int) = 45 := by rw [g2]; rfl
    obtain ⟨t, ht⟩ : ∃ t, Hid (s.extract 1 s.size = t) := ⟨_, rfl⟩
    have hsd : Hid (s.data.toList = 45 :: t.data.toList) := by
      show _ = _
      have := str_drop s 0 g0
      rw [List.drop_zero, g2] at this
      rw [← ht.out, Lib.extract_data, this]
      simp
      exact (List.take_of_length_le (by simp)).symm
    have hn : Hid (numP s.data.toList = if t.data.toList.length < 1 ∨ 10 < t.data.toList.length ∨ t.data.toList.head? = some 48 then none else (Lib.decFrom 0 t.data.toList).map fun (n : Nat) => -(n : Int)) := by
      show _ = _
      rw [hsd.out]; rfl
    go_enter Tryz.func65, Tryz.ntmps65
    go_upto_region 4 with fail
    rw [ht.out]
    have hts : t.size ≤ 2000000 := by rw [← ht.out]; simp; omega
    clear ht hsd
    have htl : Hid (t.data.toList.length = t.size) := (Lib.size_eq t).symm
    by_cases h10 : t.size < 1 ∨ 10 < t.size
    · have hfin : Hid (R = .tuple #[.int .i64 0, .bool false]) := by
        show _ = _
        rw [← hR.out, hn.out, if_pos (by rw [htl.out]; omega)]; rfl
      rcases h10 with h10 | h10
      all_goals go_wp2
      all_goals go_returns
      all_goals exact ⟨by rw [hfin.out]; rfl, rfl⟩
    · have htp : 0 < t.size := by omega
      have ht10 : t.size ≤ 10 := by omega
      clear h10
      have hh : Hid (t.data.toList.head? = some t[0]) := by
        show _ = _
        have := str_drop t 0 htp
        rw [List.drop_zero] at this
        rw [this]; rfl
      by_cases h48 : t[0] = 48 ∧ True
      · have hfin : Hid (R = .tuple #[.int .i64 0, .bool false]) := by
          show _ = _
          rw [← hR.out, hn.out, if_pos (by rw [hh.out, htl.out, h48.1]; simp)]; rfl
        have h48a : (t[0].toNat : Int) = 48 := by rw [h48.1]; rfl
        have h48b := h48.2
        clear h48
        go_wp2
        all_goals go_returns
        all_goals exact ⟨by rw [hfin.out]; rfl, rfl⟩
      · have hn2 : Hid (numP s.data.toList = (Lib.decFrom 0 t.data.toList).map fun (n : Nat) => -(n : Int)) := by
          show _ = _
          rw [hn.out, if_neg]
          rw [hh.out, htl.out]
          rintro (h | h | h)
          · omega
          · omega
          · exact h48 ⟨Option.some.inj h, trivial⟩
        have h48a : ¬ (t[0].toNat : Int) = 48 := fun e => h48 ⟨UInt8.toNat_inj.1 (by simp; omega), trivial⟩
        clear h48 hh hn
        skip
        go_wp2_with fail
        all_goals (
          go_loop [5, 6] (fun nv ix => ∃ (k m : Nat), k ≤ t.size ∧ ix = .int .i64 k ∧ nv = .int .i64 m ∧ m < 10000000000 ∧ Hid (Lib.decFrom 0 (t.data.toList.take k) = some m)) (fun _ ix => t.size - (intOf ix).toNat)
          case atStart => exact ⟨0, 0, Nat.zero_le _, rfl, rfl, by omega, rfl⟩
          case round =>
            obtain ⟨k, m, hk, rfl, rfl, hm, hI⟩ := hrel
            by_cases hlt : k < t.size
            · have hb : t.data.toList[k]? = some t[k] := by rw [List.getElem?_eq_getElem (by simpa using hlt)]; rfl
              by_cases hc : 48 ≤ t[k].toNat ∧ t[k].toNat ≤ 57
              · have hnx : Hid (Lib.decFrom 0 (t.data.toList.take (k + 1)) = some (m * 10 + (t[k].toNat - 48))) := dig_step hI.out hb hc.1 hc.2
                have hlm := dig_lim hnx.out (by rw [htl.out]; exact ht10)
                obtain ⟨hc1, hc2⟩ := hc
                have hc1' : (48 : Int) ≤ t[k].toNat := by omega
                have hc2' : (t[k].toNat : Int) ≤ 57 := by omega
                go_wp2
                go_round
                case rel => exact ⟨k + 1, m * 10 + (t[k].toNat - 48), by omega, by go_num, by congr 1; omega, hlm, hnx⟩
                case measure => simp [intOf]; omega
              · have hfin : Hid (R = .tuple #[.int .i64 0, .bool false]) := by
                  show _ = _
                  rw [← hR.out, hn2.out, dig_stop hb hc]; rfl
                have hc' : (t[k].toNat : Int) < 48 ∨ 57 < (t[k].toNat : Int) := by omega
                clear hc
                rcases hc' with hc' | hc'
                all_goals go_wp2
                all_goals go_returns
                all_goals exact ⟨by rw [hfin.out]; rfl, rfl⟩
            · obtain rfl : k = t.size := by omega
              have hfin : Hid (R = .tuple #[.int .i64 (-(m : Int)), .bool true]) := by
                show _ = _
                have := hI.out
                rw [List.take_of_length_le (by rw [htl.out]; exact Nat.le_refl _)] at this
                rw [← hR.out, hn2.out, this]; rfl
              go_wp2
              go_returns
              exact ⟨by rw [hfin.out]; rfl, rfl⟩)
  · rw [← hR.out]; exact spec_l1Int_pos s w hs hneg
end Go.Proofs.YtigldeccfpkdmaaGreatDoor
namespace Go.Proofs.YtigldeccfpkdmaaGreatDoor
open Go Go.RowKit Go.BigFrame
abbrev tcs : ByteArray → List Value := fun x => [Value.string x]
theorem tcs_len (x : ByteArray) : [Value.string x].length = 1 := rfl
theorem tcs_one : ∀ (l : List ByteArray), ∀ u ∈ l.flatMap tcs, u.oneCell' = true := by
  intro l u hu
  obtain ⟨x, _, hx⟩ := List.mem_flatMap.1 hu
  simp at hx
  subst hx; rfl
theorem sl_newT (w : World) (x : ByteArray) (t : TypeId) (b : Nat) (hb : b = w.heap.size) : SlAt tcs 1 (w.alloc (.cells #[.string x] t)) (some ⟨b, 0, none⟩) 1 [x] := by
  subst hb
  refine ⟨rfl, fun i y hy => ⟨w.heap.size, 0, rfl, fun j v hv => ?_⟩⟩
  obtain rfl : i = 0 := by have := (List.getElem?_eq_some_iff.1 hy).1; simp at this; exact this
  simp at hy
  subst hy
  obtain rfl : j = 0 := by have := (List.getElem?_eq_some_iff.1 hv).1; simp at this; exact this
  simp at hv
  subst hv
  simp
theorem infoT : (Tryz.prog.info? 9).map (fun i => (i.zero, i.size, i.bytes)) = some (some (.string .empty), 1, 16) := by kernel_rfl
theorem tts_at {w : World} {a : Option Addr} {n : Nat} {l : List ByteArray} (h : SlAt tcs 1 w a n l) {k : Nat} (hk : k < n) : ∃ b o s, a = some ⟨b, o, none⟩ ∧ l[k]? = some s ∧ w.cell? ⟨b, o + k, none⟩ = some (.string s) := by
  have hl : k < l.length := by rw [h.len]; exact hk
  have hx : l[k]? = some l[k] := by simp [hl]
  obtain ⟨b, o, ha, hc⟩ := h.cell k _ hx
  exact ⟨b, o, l[k], ha, hx, by have := hc 0 _ rfl; simpa using this⟩
theorem wdsN_fuel : ∀ (n k k' : Nat) (l : By), l.length ≤ n → l.length ≤ k → l.length ≤ k' → wdsN k l = wdsN k' l
  | 0, k, k', l, h, _, _ => by
    obtain rfl := List.eq_nil_of_length_eq_zero (Nat.le_zero.1 h)
    cases k <;> cases k' <;> rfl
  | n + 1, k, k', l, h, h1, h2 => by
    cases hc : cutB 32 l with
    | none =>
      have : ∀ k, wdsN k l = [l] := fun k => by
        cases k with
        | zero => rfl
        | succ k => rw [wdsN, hc]
      rw [this, this]
    | some q =>
      have hq : q.2.length < l.length := by
        obtain ⟨h1, _⟩ := cutB_some (a := q.1) (b := q.2) hc
        rw [h1]; simp; omega
      obtain ⟨k, rfl⟩ : ∃ j, k = j + 1 := ⟨k - 1, by omega⟩
      obtain ⟨k', rfl⟩ : ∃ j, k' = j + 1 := ⟨k' - 1, by omega⟩
      rw [wdsN, wdsN, hc]
      simp only
      rw [wdsN_fuel n k k' q.2 (by omega) (by omega) (by omega)]
theorem wdsA_none {l : By} (h : cutB 32 l = none) : wdsA l = [l] := by
  unfold wdsA
  cases l.length with
  | zero => rfl
  | succ k => rw [wdsN, h]
theorem wdsA_some {l : By} {q : By × By} (h : cutB 32 l = some q) : wdsA l = q.1 :: wdsA q.2 ∧ q.2.length < l.length := by
  have hq : q.2.length < l.length := by
    obtain ⟨h1, _⟩ := cutB_some (a := q.1) (b := q.2) h
    rw [h1]; simp; omega
  refine ⟨?_, hq⟩
  unfold wdsA
  obtain ⟨k, hk⟩ : ∃ j, l.length = j + 1 := ⟨l.length - 1, by omega⟩
  rw [hk, wdsN, h]
  simp only
  rw [wdsN_fuel _ k q.2.length q.2 (Nat.le_refl _) (by omega) (Nat.le_refl _)]
set_option maxHeartbeats 2000000 in
set_option maxRecDepth 100000 in
theorem spec_l7Words (s : ByteArray) (w : World) (hs : s.size ≤ 100000) :
    Calls Tryz.prog 89 #[.string s] w fun e w' => (∃ a n cap, e = .returned (.slice a n cap) ∧ n ≤ 100001 ∧ ResAt tcs 1 9 w' w.heap.size a n cap ((wdsA s.data.toList).map bA)) ∧ Below w.heap.size w w' := by
  obtain ⟨i0, hi0, hz0, hz1, hz2⟩ := info_parts infoT
  obtain ⟨R, hR⟩ : ∃ R, Hid ((wdsA s.data.toList).map bA = R) := ⟨_, rfl⟩
  rw [hR.out]
  go_enter Tryz.func89, Tryz.ntmps89
  go_wp2_with fail
  go_loopw [0, 3, 4] (fun sv out mv wr => ∃ (rest : ByteArray) (m : Bool) (acc : List ByteArray) (a : Option Addr) (n cap : Nat), sv = .string rest ∧ out = .slice a n cap ∧ mv = .bool m ∧ n + rest.size ≤ (if m = true then 100000 else 100001) ∧ ResAt tcs 1 9 wr w.heap.size a n cap acc ∧ Hid (R = acc ++ (if m = true then (wdsA rest.data.toList).map bA else [])) ∧ Below w.heap.size w wr) (fun sv _ mv _ => match sv, mv with | .string r, .bool true => r.size + 1 | _, _ => 0)
  case atStart => exact ⟨s, true, [], _, 0, 0, rfl, rfl, rfl, by simpa using hs, res_empty (Blk.new w #[] 9) (Nat.le_refl _), by show _ = _; rw [← hR.out]; rfl, by go_grown⟩
  case round =>
    obtain ⟨rest, m, acc, a, n, cap, rfl, rfl, rfl, hsz, hA, hI, hB⟩ := hrel
    cases m with
    | false =>
      have hfin : R = acc := by rw [hI.out]; simp
      subst hfin
      simp only [Bool.false_eq_true, if_false] at hsz
      go_wp2
      go_returns
      exact ⟨⟨a, n, cap, rfl, by omega, hA⟩, hB⟩
    | true =>
      simp only [if_true] at hsz hI
      have hws := hB.size
      go_wp2_with fail
      refine (spec_l1Cut 32 rest _ (by omega)).mono ?_
      rintro e w1 ⟨rfl, hB1⟩
      have hA1 := hA.below hB1
      replace hB1 := chain hB hB1
      have hw1 := hB1.size
      cases hc : cutB 32 rest.data.toList with
      | none =>
        have hv : cutV 32 rest = .tuple #[.string rest, .string ⟨#[]⟩, .bool false] := by unfold cutV; rw [hc]
        have hI2 : Hid (R = (acc ++ [rest]) ++ (if false = true then (wdsA (⟨#[]⟩ : ByteArray).data.toList).map bA else [])) := by
          show _ = _
          rw [hI.out, wdsA_none hc]
          simp [bA_data]
        rw [hv]
        clear hv hc hI hA hB
        go_wp2_with (at_builtin; refine wpList_app rfl (fun K hK => wp_app _ _ 79 rfl w.heap.size 9 i0 (.string .empty) 16 Tryz.underlying79 hi0 hz0 hz1 hz2 rfl (by decide) tcs_len tcs_one a n cap _ rfl (hA1.alloc _) _ 1 1 [rest] rfl (sl_newT _ _ _ _ (by first | rfl | simp)) (fun ad h => (by cases h; rfl)) (fun h => (by cases h)) (n + 1) rfl (by unfold maxLen; omega) (by omega) (by simp; omega) (fun a4 cap4 w4 R4 hg4 => hK _ _ ?_)))
        have hB4 : Below w.heap.size w w4 := Below.grown (by go_grown) hg4 (by simp; omega) (own_ge fun ad had => by have := (hA1.block ad had).1; omega)
        go_roundw
        case rel => exact ⟨⟨#[]⟩, false, acc ++ [rest], a4, n + 1, cap4, rfl, rfl, rfl, by show n + 1 + 0 ≤ _; simp; omega, R4, hI2, hB4⟩
        case measure => simp
      | some q =>
        have hv : cutV 32 rest = .tuple #[.string (bA q.1), .string (bA q.2), .bool true] := by unfold cutV; rw [hc]
        obtain ⟨hq1, hq2⟩ := wdsA_some hc
        have hI2 : Hid (R = (acc ++ [bA q.1]) ++ (if true = true then (wdsA (bA q.2).data.toList).map bA else [])) := by
          show _ = _
          rw [hI.out, hq1]
          simp [bA_list]
        have hqs : (bA q.2).size + 1 ≤ rest.size := by
          rw [Lib.size_eq, Lib.size_eq, bA_list]
          omega
        rw [hv]
        clear hv hc hI hA hB hq1 hq2
        generalize bA q.1 = one at *
        generalize bA q.2 = more at *
        go_wp2_with (at_builtin; refine wpList_app rfl (fun K hK => wp_app _ _ 79 rfl w.heap.size 9 i0 (.string .empty) 16 Tryz.underlying79 hi0 hz0 hz1 hz2 rfl (by decide) tcs_len tcs_one a n cap _ rfl (hA1.alloc _) _ 1 1 [one] rfl (sl_newT _ _ _ _ (by first | rfl | simp)) (fun ad h => (by cases h; rfl)) (fun h => (by cases h)) (n + 1) rfl (by unfold maxLen; omega) (by omega) (by simp; omega) (fun a4 cap4 w4 R4 hg4 => hK _ _ ?_)))
        have hB4 : Below w.heap.size w w4 := Below.grown (by go_grown) hg4 (by simp; omega) (own_ge fun ad had => by have := (hA1.block ad had).1; omega)
        go_roundw
        case rel => exact ⟨more, true, acc ++ [one], a4, n + 1, cap4, rfl, rfl, rfl, by simp; omega, R4, hI2, hB4⟩
        case measure => simp; omega
def idxN (w : List ByteArray) (i : Nat) : Int := match w[i]? with
  | none => -1
  | some x => (numP x.data.toList).getD (-1)
def idxW (w : List ByteArray) (i : Nat) : ByteArray := w[i]?.getD ⟨#[]⟩
set_option maxHeartbeats 2000000 in
theorem spec_l7Num (a : Option Addr) (n cap : Nat) (l : List ByteArray) (i : Nat) (w : World) (h : SlAt tcs 1 w a n l) (hl : ∀ x ∈ l, x.size ≤ 100000) :
    Calls Tryz.prog 90 #[.slice a n cap, .int .i64 i] w fun e w' => e = .returned (.int .i64 (idxN l i)) ∧ w' = w := by
  obtain ⟨R, hR⟩ : ∃ R, Hid (idxN l i = R) := ⟨_, rfl⟩
  rw [hR.out]
  go_enter Tryz.func90, Tryz.ntmps90
  by_cases hlt : i < n
  · obtain ⟨b, o, x, rfl, hx, c0⟩ := tts_at h hlt
    have hlt' : (i : Int) < n := by omega
    have hxs := hl x (List.mem_of_getElem? hx)
    have hf : Hid (R = (numP x.data.toList).getD (-1)) := by show _ = _; rw [← hR.out, idxN, hx]
    clear h hl hx
    go_wp2_with fail
    refine (spec_l1Int x _ (by omega)).mono ?_
    rintro e w1 ⟨rfl, rfl⟩
    cases hc : numP x.data.toList with
    | none =>
      have hf2 : R = -1 := by rw [hf.out, hc]; rfl
      rw [show intV none = .tuple #[.int .i64 0, .bool false] from rfl]
      go_wp2
      go_returns
      exact ⟨by rw [hf2]; rfl, rfl⟩
    | some m =>
      have hf2 : R = m := by rw [hf.out, hc]; rfl
      rw [show intV (some m) = .tuple #[.int .i64 m, .bool true] from rfl]
      go_wp2
      go_returns
      exact ⟨by rw [hf2]; rfl, rfl⟩
  · have hlt' : ¬ (i : Int) < n := by omega
    have hf2 : R = -1 := by rw [← hR.out, idxN, List.getElem?_eq_none (by rw [h.len]; omega)]
    go_wp2
    go_returns
    exact ⟨rfl, rfl⟩
set_option maxHeartbeats 2000000 in
theorem spec_l7Word (a : Option Addr) (n cap : Nat) (l : List ByteArray) (i : Nat) (w : World) (h : SlAt tcs 1 w a n l) :
    Calls Tryz.prog 91 #[.slice a n cap, .int .i64 i] w fun e w' => e = .returned (.string (idxW l i)) ∧ w' = w := by
  obtain ⟨R, hR⟩ : ∃ R, Hid (idxW l i = R) := ⟨_, rfl⟩
  rw [hR.out]
  go_enter Tryz.func91, Tryz.ntmps91
  by_cases hlt : i < n
  · obtain ⟨b, o, x, rfl, hx, c0⟩ := tts_at h hlt
    have hlt' : (i : Int) < n := by omega
    have hf2 : R = x := by rw [← hR.out, idxW, hx]; rfl
    clear h hx
    go_wp2
    go_returns
    exact ⟨by rw [hf2]; rfl, rfl⟩
  · have hlt' : ¬ (i : Int) < n := by omega
    have hf2 : R = ⟨#[]⟩ := by rw [← hR.out, idxW, List.getElem?_eq_none (by rw [h.len]; omega)]; rfl
    go_wp2
    go_returns
    exact ⟨rfl, rfl⟩
theorem wds_short {l : By} : ∀ {k : Nat}, ∀ w ∈ wdsN k l, w.length ≤ l.length := by
  intro k
  induction k generalizing l with
  | zero => intro w hw; simp [wdsN] at hw; subst hw; exact Nat.le_refl _
  | succ k ih =>
    intro w hw
    rw [wdsN] at hw
    split at hw
    · simp at hw; subst hw; exact Nat.le_refl _
    · next q hq =>
      obtain ⟨h1, _⟩ := cutB_some (a := q.1) (b := q.2) hq
      rcases List.mem_cons.1 hw with rfl | hw
      · rw [h1]; simp
      · have := ih w hw
        rw [h1]; simp; omega
end Go.Proofs.YtigldeccfpkdmaaGreatDoor
