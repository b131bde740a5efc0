/- At every code: into the space that is drawn of it data is placed as the model places it, at the first gap with room for it; it is there then, with all else as it was; it is not just where no gap has room, it is none that may be placed, or there are too many: no condition. -/
import Derived.Test.YtckljlgojhloiaaRows
import Derived.Test.YtckljlgojhloiaaKi
import Derived.Test.YtckljlgojhloiaaKj
namespace Go.Proofs.Ytckljlgojhloiaa
open Go.ChangeShapes Go.WideShapes Go.ChangeAt Go.RowKit Go.Deep

theorem any_take {m : Int} {G : List Int} {k : Nat} {x : Int} (h : G[k]? = some x) : (G.take (k + 1)).any (fun y => decide (m ≤ y)) = ((G.take k).any (fun y => decide (m ≤ y)) || decide (m ≤ x)) := by
  rw [take_at h, List.any_append]; simp
theorem all_take (d : ByteArray) (k : Nat) (h : k < d.size) : (d.data.toList.take (k + 1)).all charB = ((d.data.toList.take k).all charB && charB d[k]) := by
  have e : d.data.toList[k]? = some d[k] := by
    have := str_drop d k h
    have h2 : (d.data.toList.drop k)[0]? = some d[k] := by rw [this]; rfl
    rwa [List.getElem?_drop, Nat.add_zero] at h2
  rw [take_at e, List.all_append]; simp
theorem charB_t {c : UInt8} (h : charB c = true) : 32 ≤ (c.toNat : Int) ∧ (c.toNat : Int) ≤ 126 := by
  simp only [charB, Bool.and_eq_true, decide_eq_true_eq] at h
  exact h
theorem charB_f {c : UInt8} (h : charB c = false) : (c.toNat : Int) < 32 ∨ 126 < (c.toNat : Int) := by
  unfold charB at h
  rw [Bool.and_eq_false_iff] at h
  rcases h with h | h
  · rw [decide_eq_false_iff_not] at h; omega
  · rw [decide_eq_false_iff_not] at h; omega
theorem placed_is {size : Int} {l : List Ex} {d : ByteArray} (hok : spaceOkB size l = true) (hd : d.size ≠ 0) (hl : l.length < 60) : (placedO size l d).isSome = ((gapsV size l).any (fun y => decide ((d.size : Int) ≤ y)) && (decide (d.size ≤ 20) && d.data.toList.all charB)) := by
  rw [placed_some, hok, gapsV_sum hok, List.any_map]
  have h1 : (l.length == 60) = false := beq_eq_false_iff_ne.2 (by omega)
  have h2 : dataOkB d = (decide (d.size ≤ 20) && d.data.toList.all charB) := by
    unfold dataOkB plainB
    have : decide (1 ≤ d.size) = true := by simp; omega
    rw [this, Bool.true_and]
  rw [h1, h2, Bool.true_and, Bool.not_false, Bool.and_true, Bool.and_comm]
  rfl

set_option maxHeartbeats 4000000 in
set_option maxRecDepth 100000 in
theorem walkDPlaced (a : Option Addr) (n cap : Nat) (w : World) (h : CodeAt w a n) (hm : n ≤ 9223372036854775807) :
    Calls Try.prog 3 #[.slice a n cap] w fun e w' => e = .returned (.bool true) ∧ Below w.heap.size w w' := by
  by_cases hn : n ≤ 1048576
  · have hb : decide (1048576 < n) = false := by simp; omega
    go_enter Try.func3, Try.ntmps3
    go_wp2_with fail
    refine (laws_bigC a n cap _ hm).mono ?_
    rintro e w1 ⟨rfl, rfl⟩
    rw [hb]
    go_wp2_with fail
    refine (spec_DrawPlaced a n cap _ h hn).mono ?_
    rintro e w2 ⟨⟨size, a1, n1, cap1, l1, d, rfl, hn1, hs1, R1, hd21⟩, hB2⟩
    obtain ⟨_, hcap, hc2⟩ := R1.ends
    go_wp2_with fail
    refine (impl_PlacedA size a1 n1 cap1 l1 d _ R1.sl hs1 (by omega) hcap hc2 (by omega) R1.ends.1 (fun ad _ had => (R1.block ad had).2)).mono ?_
    rintro e w3 ⟨hret, hB3⟩
    obtain ⟨a3, n3, cap3, rfl, R3⟩ := retq_out hret
    replace R1 := R1.below hB3
    replace hB3 := chain hB2 hB3
    clear hret hB2
    go_wp2_with fail
    refine (spec_PlacedA size a1 n1 cap1 l1 d _ R1.sl hs1 (by omega) hcap (by omega) R1.ends.1).mono ?_
    rintro e w5 ⟨hret, hB5⟩
    obtain ⟨a5, n5, cap5, rfl, R5⟩ := retq_out hret
    replace R1 := R1.below hB5
    replace R3 := R3.below hB5
    replace hB5 := chain hB3 hB5
    clear hret hB3
    go_wp2_with fail
    refine (impl_GapsOf size a1 n1 cap1 l1 _ R1.sl hs1 (by omega) (fun ad _ had => (R1.block ad had).2)).mono ?_
    rintro e w6 ⟨⟨ag, ng, capg, rfl, Rg⟩, hB6⟩
    replace R1 := R1.below hB6
    replace R3 := R3.below hB6
    replace R5 := R5.below hB6
    replace hB6 := chain hB5 hB6
    have hl1 := R1.sl.len
    have hng : ng ≤ 61 := by
      have := Rg.sl.len
      cases hok : spaceOkB size l1
      · simp [gapsV, hok] at this; omega
      · have := (gaps_sum hok).2.2.2.2.2; omega
    clear hB5
    have hemp : d.toList = [] ↔ d.size = 0 := by
      constructor
      · intro e
        have : d = ByteArray.mk #[] := bytes_eq (by rw [e, ByteArray.toList_eq])
        rw [this]; rfl
      · intro e; rw [show d = ByteArray.mk #[] from ByteArray.ext (Array.eq_empty_of_size_eq_zero e), ByteArray.toList_eq]
    cases hoo : placedO size l1 d with
    | none =>
      rw [hoo] at R3 R5
      simp only [Option.isSome_none, Option.map_none, Option.getD_none] at R3 R5 ⊢
      obtain rfl : n3 = 0 := by have := R3.sl.len; simpa using this.symm
      go_wp2_with fail
      refine (laws_sameSpace a3 0 cap3 [] a5 n5 cap5 _ R3.sl R5.sl (by omega)).mono ?_
      rintro e w7 ⟨rfl, hB7⟩
      replace R1 := R1.below hB7
      replace R3 := R3.below hB7
      replace R5 := R5.below hB7
      replace Rg := Rg.below hB7
      replace hB7 := chain hB6 hB7
      clear hB6
      go_wp2_with fail
      refine (spec_GapsOf size a1 n1 cap1 l1 _ R1.sl hs1 (by omega)).mono ?_
      rintro e w8 ⟨⟨a8, n8, cap8, rfl, R8⟩, hB8⟩
      replace R1 := R1.below hB8
      replace R3 := R3.below hB8
      replace R5 := R5.below hB8
      replace Rg := Rg.below hB8
      replace hB8 := chain hB7 hB8
      clear hB7
      go_wp2_with fail
      refine (laws_sameInts ag ng capg (gapsV size l1) a8 n8 cap8 _ Rg.sl R8.sl (by omega)).mono ?_
      rintro e w9 ⟨rfl, hB9⟩
      replace R1 := R1.below hB9
      replace R3 := R3.below hB9
      replace R5 := R5.below hB9
      replace Rg := Rg.below hB9
      replace hB9 := chain hB8 hB9
      clear hB8 R8
      cases hok : spaceOkB size l1
      · go_wp2_with fail
        refine (spec_SpaceOk size a1 n1 cap1 l1 _ R1.sl hs1 (by omega)).mono ?_
        rintro e w10 ⟨rfl, rfl⟩
        rw [hok]
        go_wp2_with fail
        refine (laws_sameSpace a3 0 cap3 [] a5 n5 cap5 _ R3.sl R5.sl (by omega)).mono ?_
        rintro e w12 ⟨rfl, hB12⟩
        replace hB12 := chain hB9 hB12
        go_wp2
        go_returns
        exact ⟨rfl, hB12⟩
      · by_cases hz : d.size = 0
        · have hz' : d.toList = [] := hemp.2 hz
          have hz3 : d.toList.isEmpty = true := by rw [hz']; rfl
          go_wp2_with fail
          refine (spec_SpaceOk size a1 n1 cap1 l1 _ R1.sl hs1 (by omega)).mono ?_
          rintro e w10 ⟨rfl, rfl⟩
          rw [hok]
          go_wp2_with fail
          refine (laws_sameSpace a3 0 cap3 [] a5 n5 cap5 _ R3.sl R5.sl (by omega)).mono ?_
          rintro e w12 ⟨rfl, hB12⟩
          replace hB12 := chain hB9 hB12
          go_wp2
          go_returns
          exact ⟨rfl, hB12⟩
        · have hz' : ¬ d.toList = [] := fun e => hz (hemp.1 e)
          have hz3 : d.toList.isEmpty = false := by cases hh : d.toList.isEmpty; rfl; exact absurd (List.isEmpty_iff.1 hh) hz'
          have his : Hid (false = ((gapsV size l1).any (fun y => decide ((d.size : Int) ≤ y)) && (decide (d.size ≤ 20) && d.data.toList.all charB))) := by have h9 := placed_is hok hz (by omega : l1.length < 60); rw [hoo] at h9; exact h9
          have hG : IntsAt w9 ag ng (gapsV size l1) := Rg.sl
          have hgl := Rg.sl.len
          clear R5 Rg hoo
          generalize gapsV size l1 = G at *
          go_wp2_with fail
          refine (spec_SpaceOk size a1 n1 cap1 l1 _ R1.sl hs1 (by omega)).mono ?_
          rintro e w10 ⟨rfl, rfl⟩
          rw [hok]
          go_wp2_with fail
          go_loopw [13, 14] (fun ft ix wr => ∃ (k : Nat), k ≤ ng ∧ ix = .int .i64 k ∧ ft = .bool ((G.take k).any (fun y => decide ((d.size : Int) ≤ y))) ∧ Below w10.heap.size w10 wr) (fun _ ix _ => ng - (intOf ix).toNat)
          case atStart => exact ⟨0, Nat.zero_le _, rfl, rfl, Below.refl _ _⟩
          case round =>
            obtain ⟨k, hk, rfl, rfl, hBr⟩ := hrel
            by_cases hlt : k < ng
            · obtain ⟨bg, og, x9, rfl, hx, c0⟩ := ints_at' (hG.below hBr) hlt
              have hst : Hid ((G.take (k + 1)).any (fun y => decide ((d.size : Int) ≤ y)) = ((G.take k).any (fun y => decide ((d.size : Int) ≤ y)) || decide ((d.size : Int) ≤ x9))) := any_take hx
              clear hx
              have hk1 : (k : Int) < ng := by omega
              have hk2 : (0 : Int) ≤ k := by omega
              cases hcur : (G.take k).any (fun y => decide ((d.size : Int) ≤ y))
              all_goals rw [hcur] at hst
              · by_cases hle : (d.size : Int) ≤ x9
                · go_wp2
                  go_roundw
                  case rel => exact ⟨k + 1, by omega, by go_num, by rw [hst.out]; simp [hle], hBr⟩
                  case measure => simp [intOf]; omega
                · go_wp2
                  go_roundw
                  case rel => exact ⟨k + 1, by omega, by go_num, by rw [hst.out]; simp [hle], hBr⟩
                  case measure => simp [intOf]; omega
              · go_wp2
                go_roundw
                case rel => exact ⟨k + 1, by omega, by go_num, by rw [hst.out]; rfl, hBr⟩
                case measure => simp [intOf]; omega
            · obtain rfl : k = ng := by omega
              have hfull : G.take k = G := List.take_of_length_le (by omega)
              rw [hfull]
              clear hfull hG
              replace R1 := R1.below hBr
              replace R3 := R3.below hBr
              replace hBr := chain hB9 hBr
              clear hB9
              generalize G.any (fun y => decide ((d.size : Int) ≤ y)) = FT at *
              go_wp2_with fail
              go_loopw [15, 16] (fun pt ix wr' => ∃ (k2 : Nat), k2 ≤ d.size ∧ ix = .int .i64 k2 ∧ pt = .bool (decide (d.size ≤ 20) && (d.data.toList.take k2).all charB) ∧ Below wr.heap.size wr wr') (fun _ ix _ => d.size - (intOf ix).toNat)
              case atStart => exact ⟨0, Nat.zero_le _, rfl, by show Value.bool _ = Value.bool _; congr 1; rw [Bool.eq_iff_iff]; simp; omega, Below.refl _ _⟩
              case round =>
                obtain ⟨k2, hk2, rfl, rfl, hBq⟩ := hrel
                by_cases hlt2 : k2 < d.size
                · have hst : Hid ((decide (d.size ≤ 20) && (d.data.toList.take (k2 + 1)).all charB) = ((decide (d.size ≤ 20) && (d.data.toList.take k2).all charB) && charB d[k2])) := by show _ = _; rw [all_take d k2 hlt2, Bool.and_assoc]
                  cases hcur : (decide (d.size ≤ 20) && (d.data.toList.take k2).all charB)
                  all_goals rw [hcur] at hst
                  · go_wp2
                    go_roundw
                    case rel => exact ⟨k2 + 1, by omega, by go_num, by rw [hst.out]; rfl, hBq⟩
                    case measure => simp [intOf]; omega
                  · cases hc : charB d[k2]
                    · have hc' : (d[k2].toNat : Int) < 32 ∨ 126 < (d[k2].toNat : Int) := charB_f hc
                      rcases hc' with hc1 | hc1
                      · go_wp2
                        go_roundw
                        case rel => exact ⟨k2 + 1, by omega, by go_num, by rw [hst.out, hc]; rfl, hBq⟩
                        case measure => simp [intOf]; omega
                      · have hc0 : 32 ≤ (d[k2].toNat : Int) := by omega
                        go_wp2
                        go_roundw
                        case rel => exact ⟨k2 + 1, by omega, by go_num, by rw [hst.out, hc, decide_eq_false (by omega)]; rfl, hBq⟩
                        case measure => simp [intOf]; omega
                    · have hc' : 32 ≤ (d[k2].toNat : Int) ∧ (d[k2].toNat : Int) ≤ 126 := charB_t hc
                      obtain ⟨hc1, hc2'⟩ := hc'
                      go_wp2
                      go_roundw
                      case rel => exact ⟨k2 + 1, by omega, by go_num, by rw [hst.out, hc]; rfl, hBq⟩
                      case measure => simp [intOf]; omega
                · obtain rfl : k2 = d.size := by omega
                  have hfull : d.data.toList.take d.size = d.data.toList := List.take_of_length_le (by simp)
                  rw [hfull]
                  clear hfull
                  generalize (decide (d.size ≤ 20) && d.data.toList.all charB) = PL at *
                  replace R1 := R1.below hBq
                  replace R3 := R3.below hBq
                  replace hBq := chain hBr hBq
                  clear hBr
                  have hno : FT = false ∨ PL = false := by have h9 := his.out; revert h9; cases FT <;> cases PL <;> simp
                  clear his
                  rcases hno with rfl | rfl
                  · go_wp2
                    go_returns
                    exact ⟨rfl, hBq⟩
                  · cases FT
                    · go_wp2
                      go_returns
                      exact ⟨rfl, hBq⟩
                    · go_wp2
                      go_returns
                      exact ⟨rfl, hBq⟩
    | some q =>
      obtain ⟨L, x⟩ := q
      rw [hoo] at R3 R5
      simp only [Option.isSome_some, Option.map_some, Option.getD_some] at R3 R5 ⊢
      obtain ⟨f1, f2, f3, f4, f5, f6, f7, f8⟩ := placed_facts hoo
      have hsL : Strs L := fun e he => by
        rcases f8 e he with he | rfl
        · exact hs1 e he
        · show d.size ≤ _; omega
      have hl3 := R3.sl.len
      clear f8
      go_wp2_with fail
      refine (laws_sameSpace a3 n3 cap3 L a5 n5 cap5 _ R3.sl R5.sl (by omega)).mono ?_
      rintro e w7 ⟨rfl, hB7⟩
      replace R1 := R1.below hB7
      replace R3 := R3.below hB7
      replace R5 := R5.below hB7
      replace Rg := Rg.below hB7
      replace hB7 := chain hB6 hB7
      clear hB6
      go_wp2_with fail
      refine (spec_GapsOf size a1 n1 cap1 l1 _ R1.sl hs1 (by omega)).mono ?_
      rintro e w8 ⟨⟨a8, n8, cap8, rfl, R8⟩, hB8⟩
      replace R1 := R1.below hB8
      replace R3 := R3.below hB8
      replace R5 := R5.below hB8
      replace Rg := Rg.below hB8
      replace hB8 := chain hB7 hB8
      clear hB7
      go_wp2_with fail
      refine (laws_sameInts ag ng capg (gapsV size l1) a8 n8 cap8 _ Rg.sl R8.sl (by omega)).mono ?_
      rintro e w9 ⟨rfl, hB9⟩
      replace R1 := R1.below hB9
      replace R3 := R3.below hB9
      replace R5 := R5.below hB9
      replace Rg := Rg.below hB9
      replace hB9 := chain hB8 hB9
      clear hB8 R8
      cases hok : spaceOkB size l1
      · go_wp2_with fail
        refine (spec_SpaceOk size a1 n1 cap1 l1 _ R1.sl hs1 (by omega)).mono ?_
        rintro e w10 ⟨rfl, rfl⟩
        rw [hok]
        go_wp2_with fail
        refine (laws_sameSpace a3 n3 cap3 L a5 n5 cap5 _ R3.sl R5.sl (by omega)).mono ?_
        rintro e w12 ⟨rfl, hB12⟩
        replace hB12 := chain hB9 hB12
        go_wp2
        go_returns
        exact ⟨rfl, hB12⟩
      · by_cases hz : d.size = 0
        · have hz' : d.toList = [] := hemp.2 hz
          have hz3 : d.toList.isEmpty = true := by rw [hz']; rfl
          go_wp2_with fail
          refine (spec_SpaceOk size a1 n1 cap1 l1 _ R1.sl hs1 (by omega)).mono ?_
          rintro e w10 ⟨rfl, rfl⟩
          rw [hok]
          go_wp2_with fail
          refine (laws_sameSpace a3 n3 cap3 L a5 n5 cap5 _ R3.sl R5.sl (by omega)).mono ?_
          rintro e w12 ⟨rfl, hB12⟩
          replace hB12 := chain hB9 hB12
          go_wp2
          go_returns
          exact ⟨rfl, hB12⟩
        · have hz' : ¬ d.toList = [] := fun e => hz (hemp.1 e)
          have hz3 : d.toList.isEmpty = false := by cases hh : d.toList.isEmpty; rfl; exact absurd (List.isEmpty_iff.1 hh) hz'
          have his : Hid (true = ((gapsV size l1).any (fun y => decide ((d.size : Int) ≤ y)) && (decide (d.size ≤ 20) && d.data.toList.all charB))) := by have h9 := placed_is hok hz (by omega : l1.length < 60); rw [hoo] at h9; exact h9
          have hG : IntsAt w9 ag ng (gapsV size l1) := Rg.sl
          have hgl := Rg.sl.len
          clear R5 Rg hoo
          generalize gapsV size l1 = G at *
          go_wp2_with fail
          refine (spec_SpaceOk size a1 n1 cap1 l1 _ R1.sl hs1 (by omega)).mono ?_
          rintro e w10 ⟨rfl, rfl⟩
          rw [hok]
          go_wp2_with fail
          go_loopw [13, 14] (fun ft ix wr => ∃ (k : Nat), k ≤ ng ∧ ix = .int .i64 k ∧ ft = .bool ((G.take k).any (fun y => decide ((d.size : Int) ≤ y))) ∧ Below w10.heap.size w10 wr) (fun _ ix _ => ng - (intOf ix).toNat)
          case atStart => exact ⟨0, Nat.zero_le _, rfl, rfl, Below.refl _ _⟩
          case round =>
            obtain ⟨k, hk, rfl, rfl, hBr⟩ := hrel
            by_cases hlt : k < ng
            · obtain ⟨bg, og, x9, rfl, hx, c0⟩ := ints_at' (hG.below hBr) hlt
              have hst : Hid ((G.take (k + 1)).any (fun y => decide ((d.size : Int) ≤ y)) = ((G.take k).any (fun y => decide ((d.size : Int) ≤ y)) || decide ((d.size : Int) ≤ x9))) := any_take hx
              clear hx
              have hk1 : (k : Int) < ng := by omega
              have hk2 : (0 : Int) ≤ k := by omega
              cases hcur : (G.take k).any (fun y => decide ((d.size : Int) ≤ y))
              all_goals rw [hcur] at hst
              · by_cases hle : (d.size : Int) ≤ x9
                · go_wp2
                  go_roundw
                  case rel => exact ⟨k + 1, by omega, by go_num, by rw [hst.out]; simp [hle], hBr⟩
                  case measure => simp [intOf]; omega
                · go_wp2
                  go_roundw
                  case rel => exact ⟨k + 1, by omega, by go_num, by rw [hst.out]; simp [hle], hBr⟩
                  case measure => simp [intOf]; omega
              · go_wp2
                go_roundw
                case rel => exact ⟨k + 1, by omega, by go_num, by rw [hst.out]; rfl, hBr⟩
                case measure => simp [intOf]; omega
            · obtain rfl : k = ng := by omega
              have hfull : G.take k = G := List.take_of_length_le (by omega)
              rw [hfull]
              clear hfull hG
              replace R1 := R1.below hBr
              replace R3 := R3.below hBr
              replace hBr := chain hB9 hBr
              clear hB9
              generalize G.any (fun y => decide ((d.size : Int) ≤ y)) = FT at *
              go_wp2_with fail
              go_loopw [15, 16] (fun pt ix wr' => ∃ (k2 : Nat), k2 ≤ d.size ∧ ix = .int .i64 k2 ∧ pt = .bool (decide (d.size ≤ 20) && (d.data.toList.take k2).all charB) ∧ Below wr.heap.size wr wr') (fun _ ix _ => d.size - (intOf ix).toNat)
              case atStart => exact ⟨0, Nat.zero_le _, rfl, by show Value.bool _ = Value.bool _; congr 1; rw [Bool.eq_iff_iff]; simp; omega, Below.refl _ _⟩
              case round =>
                obtain ⟨k2, hk2, rfl, rfl, hBq⟩ := hrel
                by_cases hlt2 : k2 < d.size
                · have hst : Hid ((decide (d.size ≤ 20) && (d.data.toList.take (k2 + 1)).all charB) = ((decide (d.size ≤ 20) && (d.data.toList.take k2).all charB) && charB d[k2])) := by show _ = _; rw [all_take d k2 hlt2, Bool.and_assoc]
                  cases hcur : (decide (d.size ≤ 20) && (d.data.toList.take k2).all charB)
                  all_goals rw [hcur] at hst
                  · go_wp2
                    go_roundw
                    case rel => exact ⟨k2 + 1, by omega, by go_num, by rw [hst.out]; rfl, hBq⟩
                    case measure => simp [intOf]; omega
                  · cases hc : charB d[k2]
                    · have hc' : (d[k2].toNat : Int) < 32 ∨ 126 < (d[k2].toNat : Int) := charB_f hc
                      rcases hc' with hc1 | hc1
                      · go_wp2
                        go_roundw
                        case rel => exact ⟨k2 + 1, by omega, by go_num, by rw [hst.out, hc]; rfl, hBq⟩
                        case measure => simp [intOf]; omega
                      · have hc0 : 32 ≤ (d[k2].toNat : Int) := by omega
                        go_wp2
                        go_roundw
                        case rel => exact ⟨k2 + 1, by omega, by go_num, by rw [hst.out, hc, decide_eq_false (by omega)]; rfl, hBq⟩
                        case measure => simp [intOf]; omega
                    · have hc' : 32 ≤ (d[k2].toNat : Int) ∧ (d[k2].toNat : Int) ≤ 126 := charB_t hc
                      obtain ⟨hc1, hc2'⟩ := hc'
                      go_wp2
                      go_roundw
                      case rel => exact ⟨k2 + 1, by omega, by go_num, by rw [hst.out, hc]; rfl, hBq⟩
                      case measure => simp [intOf]; omega
                · obtain rfl : k2 = d.size := by omega
                  have hfull : d.data.toList.take d.size = d.data.toList := List.take_of_length_le (by simp)
                  rw [hfull]
                  clear hfull
                  generalize (decide (d.size ≤ 20) && d.data.toList.all charB) = PL at *
                  replace R1 := R1.below hBq
                  replace R3 := R3.below hBq
                  replace hBq := chain hBr hBq
                  clear hBr
                  obtain ⟨rfl, rfl⟩ : FT = true ∧ PL = true := by have h9 := his.out; revert h9; cases FT <;> cases PL <;> simp
                  clear his
                  have hn60 : (n1 : Int) < 60 := by omega
                  have hroomL : roomV size L = size - sumD L := by unfold roomV; rw [if_pos f3]
                  have hroom : roomV size l1 = size - sumD l1 := by unfold roomV; rw [if_pos hok]
                  have heq : (size - sumD L == size - sumD l1 - (d.size : Int)) = true := by simp; omega
                  clear f7
                  obtain ⟨_, q3, q4, q5, q6⟩ := gaps_sum hok
                  go_wp2_with fail
                  refine (impl_Lifted size a3 n3 cap3 L x _ R3.sl hsL (by omega)).mono ?_
                  rintro e w11 ⟨hret, hB11⟩
                  rw [f6] at hret
                  obtain ⟨a11, n11, cap11, rfl, R11⟩ := retx_out hret
                  simp only [Option.isSome_some, Option.getD_some] at R11 ⊢
                  replace R1 := R1.below hB11
                  replace R3 := R3.below hB11
                  replace hB11 := chain hBq hB11
                  clear hret hBq
                  go_wp2_with fail
                  refine (impl_SpaceOk size a3 n3 cap3 L _ R3.sl hsL (by omega)).mono ?_
                  rintro e w12 ⟨rfl, hB12⟩
                  rw [f3]
                  replace R1 := R1.below hB12
                  replace R3 := R3.below hB12
                  replace R11 := R11.below hB12
                  replace hB12 := chain hB11 hB12
                  clear hB11
                  have hl11 := R11.sl.len
                  go_wp2_with fail
                  refine (laws_sameSpace a11 n11 cap11 l1 a1 n1 cap1 _ R11.sl R1.sl (by omega)).mono ?_
                  rintro e w13 ⟨rfl, hB13⟩
                  replace R1 := R1.below hB13
                  replace R3 := R3.below hB13
                  replace hB13 := chain hB12 hB13
                  clear hB12
                  go_wp2_with fail
                  refine (impl_RoomOf size a3 n3 cap3 L _ R3.sl hsL (by omega) (fun ad _ had => (R3.block ad had).2)).mono ?_
                  rintro e w14 ⟨rfl, hB14⟩
                  rw [hroomL]
                  replace R1 := R1.below hB14
                  replace hB14 := chain hB13 hB14
                  clear hB13
                  go_wp2_with fail
                  refine (impl_RoomOf size a1 n1 cap1 l1 _ R1.sl hs1 (by omega) (fun ad _ had => (R1.block ad had).2)).mono ?_
                  rintro e w15 ⟨rfl, hB15⟩
                  rw [hroom]
                  replace hB15 := chain hB14 hB15
                  clear hB14
                  go_wp2
                  go_returns
                  exact ⟨rfl, hB15⟩
  · have hb : decide (1048576 < n) = true := by simp; omega
    go_enter Try.func3, Try.ntmps3
    go_wp2_with fail
    refine (laws_bigC a n cap _ hm).mono ?_
    rintro e w1 ⟨rfl, rfl⟩
    rw [hb]
    go_wp2
    go_returns
    exact ⟨rfl, Below.refl _ _⟩

set_option maxRecDepth 100000 in
theorem liftedDPlaced (os : Os) (started : os.Started) (H : Type) (enc : TypeId × Value → H) :
    ReturnsInHanded {} Try.checked os 3 .any (Rows.fnPlacedSpec.pre6 enc Try.prog Try.f3 Rows.fnPlacedRow.domain false) (Rows.fnPlacedSpec.post enc Try.prog Try.f3 false true false false) := by
  refine returnsInHanded_of_change (C := Try.checked) own started (by kernel_rfl) Try.func3
    (ChangeSpec.witness6 (enc := enc) (C := Try.checked) false ⟨#[], #[.slice none 0 0], []⟩ 8 (by kernel_rfl) (by kernel_rfl) (by kernel_rfl) (by kernel_rfl)) ?_
  intro W base args ds gs before hval0 hW _ _
  have hval : ∀ (j : Nat) t v, Try.f3.params[j]? = some t → args[j]? = some v → Value.okWide Try.prog W .any base t v := hval0
  have hW' := hW
  obtain ⟨p, q, hA0, hV, rfl, _, _⟩ := hW
  have hA : DataW.TrodAll enc Try.prog W 0 (fun _ => true) true Try.f3.params.toList args.toList ds p := hA0
  rw [Try.params3] at hA hval
  obtain ⟨v0, vs0, d0, ds0, p0, q0, hargs, rfl, rfl, h0, r0⟩ := trodAll_cons hA
  obtain ⟨rfl, rfl, rfl⟩ := trodAll_nil r0
  obtain rfl : args = #[v0] := by cases args; simp_all
  obtain ⟨rfl, rfl⟩ := trodVars_none hV
  clear hA0 hval0
  simp only [List.append_nil] at hW'
  have hlt : ∀ x ∈ p0, x.block < W.heap.size := fun x hx => by simpa using hW'.lt x hx
  obtain ⟨a0, len, cap, rfl⟩ := okWide_slice Try.underlying22 (hval 0 22 v0 rfl rfl)
  obtain ⟨hmx, hl⟩ := open_code h0
  unfold maxLen at hmx
  refine (walkDPlaced a0 len cap W hl (by omega)).mono fun e W' ⟨he, hB⟩ => ?_
  subst he
  have hargs : DataW.Trod enc Try.prog W' 0 (fun b => decide (b < W.heap.size)) true 22 (.slice a0 len cap) d0 p0 :=
    Below.trod laidOut (by kernel_rfl) (of_decide_eq_true (by kernel_rfl)) h0 hB hlt
  exact ⟨_, rfl, ⟨_, _, _, [], _, [], hW', trodAll_mk1 (shut_bool Try.underlying4 _), trodAll_mk1 hargs, rfl, hB.frame _, fun h => by cases h⟩⟩

theorem holdsDPlaced : Rows.FnPlacedSaid :=
  OpenClaim.holds_of_wide 3 Try.f3 rfl rfl rfl rfl rfl rfl rfl ⟨rfl, rfl, rfl, rfl, rfl⟩ rfl rfl rfl rfl rfl (by kernel_rfl) Try.func3 (joined_of (by kernel_rfl) (by kernel_rfl) (by kernel_rfl) (by kernel_rfl) rfl rfl rfl (by kernel_rfl))
    (of_decide_eq_true (by kernel_rfl)) (by unfold Func.isWrapper; first | (rw [if_pos (by decide +kernel)]; kernel_rfl) | (rw [if_neg (by decide +kernel)]; exact ⟨rfl, rfl⟩))
    (fun os started H enc _ => liftedDPlaced os started H enc)
end Go.Proofs.Ytckljlgojhloiaa
