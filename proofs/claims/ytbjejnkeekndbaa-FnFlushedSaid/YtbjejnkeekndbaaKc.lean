/- The extents: dataOk and SpaceOk of the program, l1Plain and SpaceOk of the model. The model's SpaceOk; the laws' sizes, copies and comparisons of lists of extents. The laws' sizes, copies and comparisons of lists of extents. Where an extent stands (the model's l1At); Lifted of the program. Where an extent is lifted: what the program leaves is what the model leaves. Lifted of the model. -/
import Derived.Test.YtbjejnkeekndbaaProg
import Derived.Test.YtbjejnkeekndbaaKb
import Derived.Test.YtbjejnkeekndbaaKa
namespace Go.Proofs.Ytbjejnkeekndbaa
open Go.RowKit Go.BigFrame

def charB (c : UInt8) : Bool := decide (32 ≤ (c.toNat : Int)) && decide ((c.toNat : Int) ≤ 126)
def plainB (d : ByteArray) : Bool := d.data.toList.all charB
def dataOkB (d : ByteArray) : Bool := decide (1 ≤ d.size) && decide (d.size ≤ 20) && plainB d

theorem str_drop (s : ByteArray) (k : Nat) (h : k < s.size) : s.data.toList.drop k = s[k] :: s.data.toList.drop (k + 1) := by
  rw [List.drop_eq_getElem_cons (by simpa using h)]; rfl

set_option maxHeartbeats 400000 in
theorem impl_dataOk (d : ByteArray) (w : World) (hd : d.size ≤ 9223372036854775807) :
    Calls Try.prog 84 #[.string d] w fun e w' => e = .returned (.bool (dataOkB d)) ∧ w' = w := by
  by_cases h1 : 1 ≤ d.size ∧ d.size ≤ 20
  · have hfin : Hid (dataOkB d = (d.data.toList.drop 0).all charB) := by show _ = _; simp [dataOkB, plainB, h1]
    obtain ⟨h1, h20⟩ := h1
    go_enter Try.func84, Try.ntmps84
    go_wp2_with fail
    go_loop [14] (fun ix => ∃ (k : Nat), k ≤ d.size ∧ ix = .int .i64 k ∧ Hid (dataOkB d = (d.data.toList.drop k).all charB)) (fun ix => d.size - (intOf ix).toNat)
    case atStart => exact ⟨0, Nat.zero_le _, rfl, hfin⟩
    case round =>
      obtain ⟨k, hk, rfl, hI⟩ := hrel
      by_cases hlt : k < d.size
      · have hs : Hid (d.data.toList.drop k = d[k] :: d.data.toList.drop (k + 1)) := str_drop d k hlt
        cases hc : charB d[k]
        · have hc' : (d[k].toNat : Int) < 32 ∨ 126 < (d[k].toNat : Int) := by simp [charB] at hc; omega
          go_wp2
          all_goals go_returns
          all_goals go_light
          all_goals (refine ⟨ret_bool ?_, rfl⟩; rw [hI.out, hs.out]; simp [hc])
        · have hc' : 32 ≤ (d[k].toNat : Int) ∧ (d[k].toNat : Int) ≤ 126 := by simp [charB] at hc; omega
          obtain ⟨hc1, hc2⟩ := hc'
          go_wp2
          go_round
          case rel => exact ⟨k + 1, by omega, by go_num, by show _ = _; rw [hI.out, hs.out]; simp [hc]⟩
          case measure => simp [intOf]; omega
      · obtain rfl : k = d.size := by omega
        go_wp2
        go_returns
        go_light
        refine ⟨ret_bool ?_, rfl⟩
        rw [hI.out, List.drop_of_length_le (by simp)]; rfl
  · have hfin : Hid (dataOkB d = false) := by show _ = _; simp [dataOkB]; omega
    go_enter Try.func84, Try.ntmps84
    go_wp2
    all_goals go_returns
    all_goals go_light
    all_goals exact ⟨ret_bool hfin.out.symm, rfl⟩

set_option maxHeartbeats 400000 in
theorem spec_l1Plain (d : ByteArray) (w : World) (hd : d.size ≤ 9223372036854775807) :
    Calls Try.prog 87 #[.string d] w fun e w' => e = .returned (.bool (plainB d && decide (d.size ≤ 20))) ∧ w' = w := by
  have hfin : Hid (plainB d = (d.data.toList.drop 0).all charB) := rfl
  go_enter Try.func87, Try.ntmps87
  go_wp2_with fail
  go_loop [3] (fun ix => ∃ (k : Nat), k ≤ d.size ∧ ix = .int .i64 k ∧ Hid (plainB d = (d.data.toList.drop k).all charB)) (fun ix => d.size - (intOf ix).toNat)
  case atStart => exact ⟨0, Nat.zero_le _, rfl, hfin⟩
  case round =>
    obtain ⟨k, hk, rfl, hI⟩ := hrel
    by_cases hlt : k < d.size
    · have hs : Hid (d.data.toList.drop k = d[k] :: d.data.toList.drop (k + 1)) := str_drop d k hlt
      cases hc : charB d[k]
      · have hc' : (d[k].toNat : Int) < 32 ∨ 126 < (d[k].toNat : Int) := by simp [charB] at hc; omega
        go_wp2
        all_goals go_returns
        all_goals go_light
        all_goals (refine ⟨ret_bool ?_, rfl⟩; rw [hI.out, hs.out]; simp [hc])
      · have hc' : 32 ≤ (d[k].toNat : Int) ∧ (d[k].toNat : Int) ≤ 126 := by simp [charB] at hc; omega
        obtain ⟨hc1, hc2⟩ := hc'
        go_wp2
        go_round
        case rel => exact ⟨k + 1, by omega, by go_num, by show _ = _; rw [hI.out, hs.out]; simp [hc]⟩
        case measure => simp [intOf]; omega
    · obtain rfl : k = d.size := by omega
      go_wp2
      go_returns
      go_light
      refine ⟨ret_bool ?_, rfl⟩
      rw [hI.out, List.drop_of_length_le (by simp)]; rw [Bool.eq_iff_iff]; simp; omega

/-- SpaceOk's rounds: the size, the first byte that is free, the extents to come. -/
def xgo (size : Int) : Int → List Ex → Bool
  | _, [] => true
  | next, e :: r => dataOkB e.d && decide (next ≤ e.a) && decide (e.a ≤ size + 1 - e.d.size) && xgo size (e.a + e.d.size) r
def spaceOkB (size : Int) (l : List Ex) : Bool := decide (1 ≤ size) && decide (size ≤ 400) && decide (l.length ≤ 60) && xgo size 1 l

/-- The strings of a list are as short as strings are. -/
def Strs (l : List Ex) : Prop := ∀ e ∈ l, e.d.size ≤ 9223372036854775807

theorem Strs.at {l : List Ex} (h : Strs l) {k : Nat} {e : Ex} (he : l[k]? = some e) : e.d.size ≤ 9223372036854775807 := h e (List.mem_of_getElem? he)

set_option maxHeartbeats 1000000 in
theorem impl_SpaceOk (size : Int) (a : Option Addr) (n cap : Nat) (l : List Ex) (w : World) (h : ExsAt w a n l) (hstr : Strs l) (hn : n ≤ 4194304) :
    Calls Try.prog 26 #[.int .i64 size, .slice a n cap] w fun e w' => e = .returned (.bool (spaceOkB size l)) ∧ Below w.heap.size w w' := by
  have hlen : Hid (l.length = n) := h.len
  by_cases h0 : 1 ≤ size ∧ size ≤ 400 ∧ n ≤ 60
  · have hfin : Hid (spaceOkB size l = xgo size 1 (l.drop 0)) := by show _ = _; simp [spaceOkB, hlen.out, h0]
    obtain ⟨h1, h400, h60⟩ := h0
    go_enter Try.func26, Try.ntmps26
    go_wp2_with fail
    go_loopw [5, 21] (fun nx ix wr => ∃ (k : Nat) (next : Int), k ≤ n ∧ ix = .int .i64 k ∧ nx = .int .i64 next ∧ 1 ≤ next ∧ next ≤ 421 ∧ Hid (spaceOkB size l = xgo size next (l.drop k)) ∧ Below w.heap.size w wr) (fun _ ix _ => n - (intOf ix).toNat)
    case atStart => exact ⟨0, 1, Nat.zero_le _, rfl, rfl, by omega, by omega, hfin, Below.refl _ _⟩
    case round =>
      obtain ⟨k, next, hk, rfl, rfl, hx1, hx2, hI, hB⟩ := hrel
      by_cases hlt : k < n
      · obtain ⟨b, o, p, rfl, hp, c0, c1⟩ := exs_at (h.below hB) hlt
        have hd : Hid (l.drop k = p :: l.drop (k + 1)) := drop_at hp
        have hsz := hstr.at hp
        clear hp
        have hwr := hB.size
        cases hdo : dataOkB p.d
        · go_wp2_with fail
          refine (impl_dataOk p.d _ hsz).mono ?_
          rintro e w1 ⟨rfl, rfl⟩
          rw [hdo]
          go_wp2
          go_returns
          go_light
          refine ⟨ret_bool ?_, by go_grown⟩
          rw [hI.out, hd.out]; simp [xgo, hdo]
        · have hd20 : 1 ≤ p.d.size ∧ p.d.size ≤ 20 := by simp [dataOkB] at hdo; exact hdo.1
          obtain ⟨hd1, hd2⟩ := hd20
          by_cases hok : next ≤ p.a ∧ p.a ≤ size + 1 - p.d.size
          · obtain ⟨ha1, ha2⟩ := hok
            go_wp2_with fail
            refine (impl_dataOk p.d _ hsz).mono ?_
            rintro e w1 ⟨rfl, rfl⟩
            rw [hdo]
            go_wp2
            go_roundw
            case rel => exact ⟨k + 1, p.a + p.d.size, by omega, by go_num, by go_num, by omega, by omega, by show _ = _; rw [hI.out, hd.out]; simp [xgo, hdo, ha1, ha2], by go_grown⟩
            case measure => simp [intOf]; omega
          · go_wp2_with fail
            refine (impl_dataOk p.d _ hsz).mono ?_
            rintro e w1 ⟨rfl, rfl⟩
            rw [hdo]
            go_wp2
            all_goals go_returns
            all_goals go_light
            all_goals refine ⟨ret_bool ?_, by go_grown⟩
            all_goals (rw [hI.out, hd.out]; simp [xgo, hdo]; omega)
      · obtain rfl : k = n := by omega
        go_wp2
        go_returns
        go_light
        refine ⟨ret_bool ?_, hB⟩
        rw [hI.out, List.drop_of_length_le (Nat.le_of_eq hlen.out)]; rfl
  · have hfin : Hid (spaceOkB size l = false) := by show _ = _; have := hlen.out; simp [spaceOkB]; omega
    go_enter Try.func26, Try.ntmps26
    go_wp2
    all_goals go_returns
    all_goals go_light
    all_goals exact ⟨ret_bool hfin.out.symm, Below.refl _ _⟩
end Go.Proofs.Ytbjejnkeekndbaa
namespace Go.Proofs.Ytbjejnkeekndbaa
open Go.RowKit Go.BigFrame

theorem dataOkB_eq (d : ByteArray) : dataOkB d = (decide (1 ≤ d.size) && (plainB d && decide (d.size ≤ 20))) := by
  unfold dataOkB; cases plainB d <;> cases decide (1 ≤ d.size) <;> cases decide (d.size ≤ 20) <;> rfl

set_option maxHeartbeats 2000000 in
theorem spec_SpaceOk (size : Int) (a : Option Addr) (n cap : Nat) (l : List Ex) (w : World) (h : ExsAt w a n l) (hstr : Strs l) (hn : n ≤ 4194304) :
    Calls Try.prog 24 #[.int .i64 size, .slice a n cap] w fun e w' => e = .returned (.bool (spaceOkB size l)) ∧ w' = w := by
  have hlen : Hid (l.length = n) := h.len
  by_cases h0 : 1 ≤ size ∧ size ≤ 400 ∧ n ≤ 60
  · have hfin : Hid (spaceOkB size l = xgo size 1 (l.drop 0)) := by show _ = _; simp [spaceOkB, hlen.out, h0]
    obtain ⟨h1, h400, h60⟩ := h0
    have hin : (decide (1 ≤ size) && decide (size ≤ 400)) = true := by simp [h1, h400]
    go_enter Try.func24, Try.ntmps24
    go_wp2_with fail
    refine (spec_l1In _ _ _ _).mono ?_
    rintro e w1 ⟨rfl, rfl⟩
    rw [hin]
    go_wp2_with fail
    go_loop [5, 6] (fun nx ix => ∃ (k : Nat) (next : Int), k ≤ n ∧ ix = .int .i64 k ∧ nx = .int .i64 next ∧ 1 ≤ next ∧ next ≤ 421 ∧ Hid (spaceOkB size l = xgo size next (l.drop k))) (fun _ ix => n - (intOf ix).toNat)
    case atStart => exact ⟨0, 1, Nat.zero_le _, rfl, rfl, by omega, by omega, hfin⟩
    case round =>
      obtain ⟨k, next, hk, rfl, rfl, hx1, hx2, hI⟩ := hrel
      by_cases hlt : k < n
      · obtain ⟨b, o, p, rfl, hp, c0, c1⟩ := exs_at h hlt
        have hd : Hid (l.drop k = p :: l.drop (k + 1)) := drop_at hp
        have hsz := hstr.at hp
        clear hp hin
        by_cases hz : p.d.size = 0
        · have hz' : ((p.d.size : Int) == 0) = true := beq_iff_eq.2 (by omega)
          have hdo : Hid (dataOkB p.d = false) := by show _ = _; simp [dataOkB, hz]
          clear hz
          go_wp2
          go_returns
          go_light
          refine ⟨ret_bool ?_, rfl⟩
          rw [hI.out, hd.out]; simp [xgo, hdo.out]
        · have hz' : ((p.d.size : Int) == 0) = false := beq_eq_false_iff_ne.2 (by omega)
          cases hpl : (plainB p.d && decide (p.d.size ≤ 20))
          · have hdo : Hid (dataOkB p.d = false) := by show _ = _; rw [dataOkB_eq, hpl]; simp
            go_wp2_with fail
            refine (spec_l1Plain p.d _ hsz).mono ?_
            rintro e w1 ⟨rfl, rfl⟩
            rw [hpl]
            go_wp2
            go_returns
            go_light
            refine ⟨ret_bool ?_, rfl⟩
            rw [hI.out, hd.out]; simp [xgo, hdo.out]
          · have hpl2 := hpl
            simp at hpl2
            have hdo : Hid (dataOkB p.d = true) := by show _ = _; rw [dataOkB_eq, hpl]; simp; omega
            have hd2 : p.d.size ≤ 20 := hpl2.2
            have hd1 : 1 ≤ p.d.size := by omega
            clear hpl2
            cases hii : (decide (next ≤ p.a) && decide (p.a ≤ size))
            · go_wp2_with fail
              refine (spec_l1Plain p.d _ hsz).mono ?_
              rintro e w1 ⟨rfl, rfl⟩
              rw [hpl]
              go_wp2_with fail
              refine (spec_l1In _ _ _ _).mono ?_
              rintro e w1 ⟨rfl, rfl⟩
              rw [hii]
              go_wp2
              go_returns
              go_light
              refine ⟨ret_bool ?_, rfl⟩
              simp at hii
              rw [hI.out, hd.out]; simp [xgo, hdo.out]; omega
            · have hi2 := hii
              simp at hi2
              obtain ⟨ha1, ha2⟩ := hi2
              by_cases hok : p.a + p.d.size - 1 ≤ size
              · go_wp2_with fail
                refine (spec_l1Plain p.d _ hsz).mono ?_
                rintro e w1 ⟨rfl, rfl⟩
                rw [hpl]
                go_wp2_with fail
                refine (spec_l1In _ _ _ _).mono ?_
                rintro e w1 ⟨rfl, rfl⟩
                rw [hii]
                go_wp2
                go_round
                case rel => exact ⟨k + 1, p.a + p.d.size, by omega, by go_num, by go_num, by omega, by omega, by show _ = _; rw [hI.out, hd.out]; have : p.a ≤ size + 1 - p.d.size := by omega
                                                                                                                 simp [xgo, hdo.out, ha1, this]⟩
                case measure => simp [intOf]; omega
              · go_wp2_with fail
                refine (spec_l1Plain p.d _ hsz).mono ?_
                rintro e w1 ⟨rfl, rfl⟩
                rw [hpl]
                go_wp2_with fail
                refine (spec_l1In _ _ _ _).mono ?_
                rintro e w1 ⟨rfl, rfl⟩
                rw [hii]
                go_wp2
                go_returns
                go_light
                refine ⟨ret_bool ?_, rfl⟩
                rw [hI.out, hd.out]; simp [xgo, hdo.out]; omega
      · obtain rfl : k = n := by omega
        go_wp2
        go_returns
        go_light
        refine ⟨ret_bool ?_, rfl⟩
        rw [hI.out, List.drop_of_length_le (Nat.le_of_eq hlen.out)]; rfl
  · have hfin : Hid (spaceOkB size l = false) := by show _ = _; have := hlen.out; simp [spaceOkB]; omega
    cases hin : (decide (1 ≤ size) && decide (size ≤ 400))
    all_goals
      go_enter Try.func24, Try.ntmps24
      go_wp2_with fail
      refine (spec_l1In _ _ _ _).mono ?_
      rintro e w1 ⟨rfl, rfl⟩
      rw [hin]
      simp at hin
      go_wp2
      all_goals go_returns
      all_goals go_light
      all_goals exact ⟨ret_bool hfin.out.symm, rfl⟩

theorem laws_toExtent (p : Ex) (w : World) :
    Calls Try.prog 123 #[.agg #[.int .i64 p.a, .string p.d]] w fun e w' => e = .returned (.agg #[.int .i64 p.a, .string p.d]) ∧ Below w.heap.size w w' := by
  obtain ⟨a, d⟩ := p
  go_enter Try.func123, Try.ntmps123
  go_wp2
  go_returns
  go_light
  refine ⟨rfl, by go_grown⟩

def eqExB (p q : Ex) : Bool := p.a == q.a && p.d.toList == q.d.toList

theorem laws_eqExtent (p q : Ex) (w : World) :
    Calls Try.prog 125 #[.agg #[.int .i64 p.a, .string p.d], .agg #[.int .i64 q.a, .string q.d]] w fun e w' => e = .returned (.bool (eqExB p q)) ∧ Below w.heap.size w w' := by
  obtain ⟨a, f⟩ := p
  obtain ⟨b, g⟩ := q
  go_enter Try.func125, Try.ntmps125
  go_wp2
  all_goals go_returns
  all_goals go_light
  all_goals refine ⟨?_, by go_grown⟩
  all_goals simp_all [eqExB]

/-- What is left of a budget behind an extent, -1 where it is used up. -/
def szE (left : Int) (p : Ex) : Int := if left - p.d.size < 0 then -1 else left - p.d.size

theorem laws_szExtent (p : Ex) (left : Int) (w : World) (h0 : 0 ≤ left) (h1 : left ≤ 1048576) (hd : p.d.size ≤ 9223372036854775807) :
    Calls Try.prog 121 #[.agg #[.int .i64 p.a, .string p.d], .int .i64 left] w fun e w' => e = .returned (.int .i64 (szE left p)) ∧ Below w.heap.size w w' := by
  obtain ⟨a, d⟩ := p
  simp only at hd
  by_cases h : left - (d.size : Int) < 0
  · have hf : Hid (szE left ⟨a, d⟩ = -1) := by show _ = _; simp [szE]; omega
    go_enter Try.func121, Try.ntmps121
    go_wp2
    go_returns
    go_light
    exact ⟨ret_int hf.out.symm, by go_grown⟩
  · have hf : Hid (szE left ⟨a, d⟩ = left - d.size) := by show _ = _; simp [szE]; omega
    go_enter Try.func121, Try.ntmps121
    go_wp2
    go_returns
    go_light
    exact ⟨ret_int hf.out.symm, by go_grown⟩
end Go.Proofs.Ytbjejnkeekndbaa
namespace Go.Proofs.Ytbjejnkeekndbaa
open Go.RowKit Go.BigFrame

/-- A list of extents that is within the budget. -/
def Small (n : Nat) (l : List Ex) : Prop := n ≤ 1048576 ∧ ∀ e ∈ l, e.d.size ≤ 1048576

theorem Small.strs {n : Nat} {l : List Ex} (h : Small n l) : Strs l := fun e he => by have := h.2 e he; omega

set_option maxHeartbeats 1000000 in
theorem laws_szExtentS (a : Option Addr) (n cap : Nat) (l : List Ex) (L : Int) (w : World) (h : ExsAt w a n l) (hstr : Strs l) (hn : n ≤ 9223372036854775807) (hL0 : 0 ≤ L) (hL : L ≤ 1048576) :
    Calls Try.prog 65 #[.slice a n cap, .int .i64 L] w fun e w' => (∃ r : Int, e = .returned (.int .i64 r) ∧ (r = -1 ∨ (0 ≤ r ∧ r ≤ 1048576 ∧ Small n l))) ∧ Below w.heap.size w w' := by
  have hlen : Hid (l.length = n) := h.len
  by_cases hb : L - (n : Int) < 0
  · go_enter Try.func65, Try.ntmps65
    go_wp2
    go_returns
    go_light
    exact ⟨⟨_, rfl, .inl rfl⟩, Below.refl _ _⟩
  · go_enter Try.func65, Try.ntmps65
    go_wp2_with fail
    go_loopw [1, 5] (fun lf ix wr => ∃ (k : Nat) (r : Int), k ≤ n ∧ ix = .int .i64 k ∧ lf = .int .i64 r ∧ 0 ≤ r ∧ r ≤ 1048576 ∧ Hid (∀ i e, i < k → l[i]? = some e → e.d.size ≤ 1048576) ∧ Below w.heap.size w wr) (fun _ ix _ => n - (intOf ix).toNat)
    case atStart => exact ⟨0, _, Nat.zero_le _, rfl, rfl, by omega, by omega, fun i e hi => by omega, Below.refl _ _⟩
    case round =>
      obtain ⟨k, r, hk, rfl, rfl, hr0, hr1, hI, hB⟩ := hrel
      by_cases hlt : k < n
      · obtain ⟨b, o, p, rfl, hp, c0, c1⟩ := exs_at (h.below hB) hlt
        have hp' : Hid (l[k]? = some p) := hp
        have hsz := hstr.at hp
        clear hp
        by_cases hs : r - (p.d.size : Int) < 0
        · have hf : Hid (szE r p = -1) := by show _ = _; simp [szE]; omega
          go_wp2_with fail
          refine (laws_szExtent p r _ hr0 hr1 hsz).mono ?_
          rintro e w1 ⟨rfl, hB1⟩
          rw [hf.out]
          go_wp2
          go_returns
          go_light
          exact ⟨⟨_, rfl, .inl rfl⟩, chain hB hB1⟩
        · have hf : Hid (szE r p = r - p.d.size) := by show _ = _; simp [szE]; omega
          go_wp2_with fail
          refine (laws_szExtent p r _ hr0 hr1 hsz).mono ?_
          rintro e w1 ⟨rfl, hB1⟩
          rw [hf.out]
          go_wp2
          go_roundw
          case rel =>
            refine ⟨k + 1, r - p.d.size, by omega, by go_num, rfl, by omega, by omega, ?_, chain hB hB1⟩
            intro i e hi he
            by_cases hik : i = k
            · subst hik
              rw [hp'.out] at he
              obtain rfl := Option.some.inj he
              omega
            · exact hI.out i e (by omega) he
          case measure => simp [intOf]; omega
      · obtain rfl : k = n := by omega
        go_wp2
        go_returns
        go_light
        refine ⟨⟨_, rfl, .inr ⟨hr0, hr1, by omega, ?_⟩⟩, hB⟩
        intro e he
        obtain ⟨i, hi⟩ := List.mem_iff_getElem?.1 he
        refine hI.out i e ?_ hi
        have := (List.getElem?_eq_some_iff.1 hi).1
        rw [hlen.out] at this; exact this

def eqExs : List Ex → List Ex → Bool
  | [], [] => true
  | p :: r, q :: s => eqExB p q && eqExs r s
  | _, _ => false

theorem eqExs_refl (l : List Ex) : eqExs l l = true := by
  induction l with
  | nil => rfl
  | cons p r ih => simp [eqExs, eqExB, ih]
theorem eqExs_len {l : List Ex} : ∀ {m : List Ex}, l.length ≠ m.length → eqExs l m = false := by
  induction l with
  | nil => intro m h; cases m <;> simp [eqExs] at *
  | cons p r ih => intro m h; cases m <;> simp [eqExs] at *; exact fun _ => ih h

set_option maxHeartbeats 1000000 in
theorem laws_eqExtentS (a : Option Addr) (n cap : Nat) (l : List Ex) (a' : Option Addr) (n' cap' : Nat) (m : List Ex) (w : World) (h : ExsAt w a n l) (h' : ExsAt w a' n' m) (hn : n ≤ 4194304) (hn' : n' ≤ 4194304) :
    Calls Try.prog 69 #[.slice a n cap, .slice a' n' cap'] w fun e w' => e = .returned (.bool (eqExs l m)) ∧ Below w.heap.size w w' := by
  have hlen : Hid (l.length = n) := h.len
  have hlen' : Hid (m.length = n') := h'.len
  by_cases hne : n = n'
  · subst hne
    have hbn : ((n : Int) != (n : Int)) = false := by simp
    go_enter Try.func69, Try.ntmps69
    go_wp2_with fail
    go_loopw [5] (fun ix wr => ∃ (k : Nat), k ≤ n ∧ ix = .int .i64 k ∧ Hid (eqExs l m = eqExs (l.drop k) (m.drop k)) ∧ Below w.heap.size w wr) (fun ix _ => n - (intOf ix).toNat)
    case atStart => exact ⟨0, Nat.zero_le _, rfl, rfl, Below.refl _ _⟩
    case round =>
      obtain ⟨k, hk, rfl, hI, hB⟩ := hrel
      by_cases hlt : k < n
      · obtain ⟨b, o, p, rfl, hp, c0, c1⟩ := exs_at (h.below hB) hlt
        obtain ⟨b', o', q, rfl, hq, d0, d1⟩ := exs_at (h'.below hB) hlt
        have hd : Hid (l.drop k = p :: l.drop (k + 1)) := drop_at hp
        have hd' : Hid (m.drop k = q :: m.drop (k + 1)) := drop_at hq
        clear hp hq
        have hk1 : (k : Int) < n := by omega
        have hk2 : (0 : Int) ≤ k := by omega
        cases hpq : eqExB p q
        all_goals
          go_wp2_with fail
          have g0 := gcell c0
          have g1 := gcell c1
          have g3 := gcell d0
          have g4 := gcell d1
          have hne := grw_ne wr
          refine wp_region_grow (by kernel_rfl) (by kernel_rfl) ?_
          repeat (go_big_quiet_step (first | (go_at_call 125; have qq := laws_eqExtent p q; rw [hpq] at qq; exact grow_of (qq _))))
          refine wpQuiet_nil ?_
          intro w2 hx
          have hB2 := grw_out hx
          clear hx
          go_wp2
        · go_returns
          go_light
          refine ⟨ret_bool ?_, chain hB hB2⟩
          rw [hI.out, hd.out, hd'.out]; simp only [eqExs, hpq, Bool.false_and]
        · go_roundw
          case rel => exact ⟨k + 1, by omega, by go_num, by show _ = _; rw [hI.out, hd.out, hd'.out]; simp only [eqExs, hpq, Bool.true_and], chain hB hB2⟩
          case measure => simp [intOf]; omega
      · obtain rfl : k = n := by omega
        go_wp2
        go_returns
        go_light
        refine ⟨ret_bool ?_, hB⟩
        rw [hI.out, List.drop_of_length_le (Nat.le_of_eq hlen.out), List.drop_of_length_le (Nat.le_of_eq hlen'.out)]; rfl
  · have hbn : ((n : Int) != (n' : Int)) = true := by simp; omega
    go_enter Try.func69, Try.ntmps69
    go_wp2
    go_returns
    go_light
    refine ⟨ret_bool ?_, Below.refl _ _⟩
    rw [eqExs_len (by rw [hlen.out, hlen'.out]; exact hne)]

set_option maxHeartbeats 1000000 in
theorem laws_toExtentS (a : Option Addr) (n cap : Nat) (l : List Ex) (w : World) (h : ExsAt w a n l) (hn : n ≤ 4194304) :
    Calls Try.prog 67 #[.slice a n cap] w fun e w' => e = .returned (.slice (some ⟨w.heap.size, 0, none⟩) n n) ∧ OwnAt Ex.cs 2 113 w' w.heap.size n l ∧ Below w.heap.size w w' := by
  have hlen' : Hid (l.length = n) := h.len
  have hinfo : (Try.prog.info? 113).map (fun i => (i.zero, i.size, i.bytes)) = some (some (.agg #[.int .i64 0, .string .empty]), 2, 24) := by kernel_rfl
  obtain ⟨i0, hi, hz0, hz1, hz2⟩ := info_parts hinfo
  have hmk : ∀ u : World, (Instr.makeSlice 24 (.int .i64 (n : Int)) (.int .i64 (n : Int))).run Try.prog u =
      .ok (.slice (some ⟨u.heap.size, 0, none⟩) n n) (u.alloc (.cells (madeCells #[.int .i64 0, .string .empty] (n * 2)) 113)) := fun u => by
    have hm := run_make (P := Try.prog) u 24 113 i0 (.agg #[.int .i64 0, .string .empty]) Try.underlying24 hi hz0 .i64 .i64 (n : Int) (n : Int) (by omega) (Int.le_refl _) (by rw [hz2]; omega) (by omega)
    simpa [hz1, Value.cells] using hm
  clear hinfo hi hz0 hz1 hz2
  go_enter Try.func67, Try.ntmps67
  go_wp2_with fail
  go_loopw [4] (fun ix wr => ∃ (k : Nat) (c : Array Value), k ≤ n ∧ ix = .int .i64 k ∧ Blk wr w.heap.size c 113 ∧ Hid (c.size = n * 2) ∧ Hid (∀ i p, i < k → l[i]? = some p → c[i * 2]? = some (.int .i64 p.a) ∧ c[i * 2 + 1]? = some (.string p.d)) ∧ Below w.heap.size w wr) (fun ix _ => n - (intOf ix).toNat)
  case atStart => exact ⟨0, _, Nat.zero_le _, rfl, Blk.new _ _ _, size_madeCells _ _, fun i p hi => by omega, (Below.refl _ _).alloc (Nat.le_refl _) _⟩
  case round =>
    obtain ⟨k, c, hk, rfl, hblk, hcs, hcc, hB⟩ := hrel
    by_cases hlt : k < n
    · obtain ⟨b, o, p, rfl, hp, c0, c1⟩ := exs_at (h.below hB) hlt
      have hp' : Hid (l[k]? = some p) := hp
      clear hp hmk
      go_wp2_with fail
      refine (laws_toExtent p _).mono ?_
      rintro e w1 ⟨rfl, hB1⟩
      have hb1 := hblk.below hB1
      have f0 := hb1.frozen (k * 2)
      have f1 := hb1.frozen (k * 2 + 1)
      have hsz := hB.size
      obtain ⟨v0, y0⟩ := hb1.has (i := k * 2) (by rw [hcs.out]; omega)
      obtain ⟨v1, y1⟩ := hb1.has (i := k * 2 + 1) (by rw [hcs.out]; omega)
      go_wp2
      go_roundw
      case rel =>
        refine ⟨k + 1, _, by omega, by go_num, (hb1.set _ _).set _ _, by show _ = _; simp [hcs.out], ?_, ?_⟩
        · intro i q hi hq
          have hcs' := hcs.out
          by_cases hik : i = k
          · subst hik
            obtain rfl : p = q := by rw [hp'.out] at hq; exact Option.some.inj hq
            refine ⟨?_, ?_⟩
            all_goals (simp [Array.getElem?_setIfInBounds]; omega)
          · obtain ⟨r0, r1⟩ := hcc.out i q (by omega) hq
            refine ⟨?_, ?_⟩
            all_goals (rw [Array.getElem?_setIfInBounds_ne (by omega), Array.getElem?_setIfInBounds_ne (by omega)]; assumption)
        · exact ((chain hB hB1).setCell (by simp) _).setCell (by simp) _
      case measure => simp [intOf]; omega
    · obtain rfl : k = n := by omega
      go_wp2
      go_returns
      go_light
      refine ⟨rfl, ⟨hlen'.out, c, hblk, Nat.le_of_eq hcs.out.symm, ?_⟩, hB⟩
      intro i x hx j v hv
      have hi : i < k := by have := (List.getElem?_eq_some_iff.1 hx).1; rw [hlen'.out] at this; exact this
      obtain ⟨r0, r1⟩ := hcc.out i x hi hx
      match j, hv with
      | 0, hv => obtain rfl := Option.some.inj hv; exact r0
      | 1, hv => obtain rfl := Option.some.inj hv; exact r1
      | j + 2, hv => simp [Ex.cs] at hv
end Go.Proofs.Ytbjejnkeekndbaa
namespace Go.Proofs.Ytbjejnkeekndbaa
open Go.RowKit Go.BigFrame

/-- The index of the first extent at that address, the list beginning at k; -1 where there is none. -/
def atG (addr : Int) : Nat → List Ex → Int
  | _, [] => -1
  | k, e :: r => if e.a == addr then (k : Int) else atG addr (k + 1) r

set_option maxHeartbeats 400000 in
theorem spec_l1At (a : Option Addr) (n cap : Nat) (l : List Ex) (addr : Int) (w : World) (h : ExsAt w a n l) (hn : n ≤ 4194304) :
    Calls Try.prog 91 #[.slice a n cap, .int .i64 addr] w fun e w' => e = .returned (.int .i64 (atG addr 0 l)) ∧ w' = w := by
  have hlen : Hid (l.length = n) := h.len
  go_enter Try.func91, Try.ntmps91
  go_wp2_with fail
  go_loop [5] (fun ix => ∃ (k : Nat), k ≤ n ∧ ix = .int .i64 k ∧ Hid (atG addr 0 l = atG addr k (l.drop k))) (fun ix => n - (intOf ix).toNat)
  case atStart => exact ⟨0, Nat.zero_le _, rfl, rfl⟩
  case round =>
    obtain ⟨k, hk, rfl, hI⟩ := hrel
    by_cases hlt : k < n
    · obtain ⟨b, o, p, rfl, hp, c0, c1⟩ := exs_at h hlt
      have hd : Hid (l.drop k = p :: l.drop (k + 1)) := drop_at hp
      clear hp
      cases he : (p.a == addr)
      · go_wp2
        go_round
        case rel => exact ⟨k + 1, by omega, by go_num, by show _ = _; rw [hI.out, hd.out]; simp only [atG, he, Bool.false_eq_true, if_false]⟩
        case measure => simp [intOf]; omega
      · go_wp2
        go_returns
        go_light
        refine ⟨ret_int ?_, rfl⟩
        rw [hI.out, hd.out]; simp only [atG, he, if_true]
    · obtain rfl : k = n := by omega
      go_wp2
      go_returns
      go_light
      refine ⟨ret_int ?_, rfl⟩
      rw [hI.out, List.drop_of_length_le (Nat.le_of_eq hlen.out)]; rfl

theorem infoE : (Try.prog.info? 113).map (fun i => (i.zero, i.size, i.bytes)) = some (some (.agg #[.int .i64 0, .string .empty]), 2, 24) := by kernel_rfl

theorem sl_newE' (w : World) (p : Ex) (t : TypeId) (b : Nat) (hb : b = w.heap.size) : ExsAt (w.alloc (.cells #[.int .i64 p.a, .string p.d] t)) (some ⟨b, 0, none⟩) 1 [p] := by
  subst hb
  refine ⟨rfl, fun i x hx => ⟨w.heap.size, 0, rfl, fun j v hv => ?_⟩⟩
  have hi : i = 0 := by have := (List.getElem?_eq_some_iff.1 hx).1; simp at this; exact this
  subst hi
  simp at hx
  subst hx
  match j, hv with
  | 0, hv => obtain rfl := Option.some.inj hv; simp
  | 1, hv => obtain rfl := Option.some.inj hv; simp
  | j + 2, hv => simp [Ex.cs] at hv

def liftL (addr : Int) (l : List Ex) : List Ex := l.filter (fun e => !(e.a == addr))

theorem liftL_at {addr : Int} {l : List Ex} {k : Nat} {p : Ex} (h : l[k]? = some p) : liftL addr (l.take (k + 1)) = liftL addr (l.take k) ++ (if p.a == addr then [] else [p]) := by
  unfold liftL
  rw [List.take_add_one, h, List.filter_append]
  cases hp : (p.a == addr) <;> simp [hp]

/-- Lifted, as a plain function. -/
def liftedO (size : Int) (l : List Ex) (addr : Int) : Option (List Ex) := if spaceOkB size l = true ∧ (liftL addr l).length ≠ l.length then some (liftL addr l) else none

def RetExs (B : Nat) (e : Ending) (w' : World) : Option (List Ex) → Prop
  | none => e = .returned (.tuple #[.slice none 0 0, .bool false])
  | some L => ∃ a n cap, e = .returned (.tuple #[.slice a n cap, .bool true]) ∧ ResAt Ex.cs 2 113 w' B a n cap L

set_option maxHeartbeats 2000000 in
set_option maxRecDepth 100000 in
theorem impl_Lifted (size : Int) (a : Option Addr) (n cap : Nat) (l : List Ex) (addr : Int) (w : World) (h : ExsAt w a n l) (hstr : Strs l) (hn : n ≤ 4194304) :
    Calls Try.prog 25 #[.int .i64 size, .slice a n cap, .int .i64 addr] w fun e w' => RetExs w.heap.size e w' (liftedO size l addr) ∧ Below w.heap.size w w' := by
  have hlen : Hid (l.length = n) := h.len
  cases hok : spaceOkB size l
  · have hf : liftedO size l addr = none := by simp [liftedO, hok]
    rw [hf]
    go_enter Try.func25, Try.ntmps25
    go_wp2_with fail
    refine (impl_SpaceOk size a n cap l _ h hstr hn).mono ?_
    rintro e w1 ⟨rfl, hB1⟩
    rw [hok]
    go_wp2
    go_returns
    exact ⟨rfl, hB1⟩
  · obtain ⟨i0, hi, hz0, hz1, hz2⟩ := info_parts infoE
    go_enter Try.func25, Try.ntmps25
    go_wp2_with fail
    refine (impl_SpaceOk size a n cap l _ h hstr hn).mono ?_
    rintro e w1 ⟨rfl, hB1⟩
    rw [hok]
    go_wp2_with fail
    go_loopw [8, 17] (fun out ix wr => ∃ (k : Nat) (a2 : Option Addr) (n2 cap2 : Nat), k ≤ n ∧ ix = .int .i64 k ∧ out = .slice a2 n2 cap2 ∧ n2 ≤ k ∧ ResAt Ex.cs 2 113 wr w.heap.size a2 n2 cap2 (liftL addr (l.take k)) ∧ Below w.heap.size w wr) (fun _ ix _ => n - (intOf ix).toNat)
    case atStart => exact ⟨0, none, 0, 0, Nat.zero_le _, rfl, rfl, by omega, res_nil, hB1⟩
    case round =>
      obtain ⟨k, a2, n2, cap2, hk, rfl, rfl, hn2, R2, hB⟩ := hrel
      have hsz := hB.size
      by_cases hlt : k < n
      · obtain ⟨b, o, p, rfl, hp, c0, c1⟩ := exs_at (h.below hB) hlt
        have hst : Hid (liftL addr (l.take (k + 1)) = liftL addr (l.take k) ++ (if p.a == addr then [] else [p])) := liftL_at hp
        clear hp
        generalize liftL addr (l.take k) = lk at *
        cases he : (p.a == addr)
        · have he' : (p.a != addr) = true := by simp [bne, he]
          go_wp2_with (at_builtin; refine wpList_app rfl (fun K hK => wp_app _ _ 24 rfl w.heap.size 113 i0 (.agg #[.int .i64 0, .string .empty]) 24 Try.underlying24 hi hz0 hz1 hz2 rfl (by decide) ecs_len ecs_one a2 n2 cap2 lk rfl ((R2.alloc _).alloc _) _ 1 1 [p] rfl (sl_newE' _ p _ _ (by simp)) (fun ad h => (by cases h; rfl)) (fun h => (by cases h)) (n2 + 1) rfl (by unfold maxLen; omega) (by omega) (by simp; omega) (fun a3 cap3 w3 R3 hg3 => hK _ _ ?_)))
          have hB3 : Below w.heap.size w w3 := Below.grown (by go_grown) hg3 (by simp; omega) (own_ge fun ad had => (R2.block ad had).1)
          go_roundw
          case rel => exact ⟨k + 1, a3, n2 + 1, cap3, by omega, by go_num, rfl, by omega, by rw [hst.out]; simpa [he] using R3, hB3⟩
          case measure => simp [intOf]; omega
        · have he' : (p.a != addr) = false := by simp [bne, he]
          go_wp2
          go_roundw
          case rel => exact ⟨k + 1, a2, n2, cap2, by omega, by go_num, rfl, by omega, by rw [hst.out]; simpa [he] using R2.alloc _, by go_grown⟩
          case measure => simp [intOf]; omega
      · obtain rfl : k = n := by omega
        rw [List.take_of_length_le (Nat.le_of_eq hlen.out)] at R2
        have hl2 := R2.sl.len
        by_cases hsame : n2 = k
        · have hf : liftedO size l addr = none := by simp only [liftedO]; rw [if_neg (fun hc => hc.2 (by rw [hl2, hlen.out]; exact hsame))]
          have hbe : ((n2 : Int) == (k : Int)) = true := by simp [hsame]
          go_wp2
          go_returns
          rw [hf]
          exact ⟨rfl, hB⟩
        · have hf : liftedO size l addr = some (liftL addr l) := by simp only [liftedO]; rw [if_pos ⟨hok, by rw [hl2, hlen.out]; exact hsame⟩]
          have hbe : ((n2 : Int) == (k : Int)) = false := beq_eq_false_iff_ne.2 (by omega)
          go_wp2
          go_returns
          rw [hf]
          exact ⟨⟨a2, n2, cap2, rfl, R2⟩, hB⟩
end Go.Proofs.Ytbjejnkeekndbaa
namespace Go.Proofs.Ytbjejnkeekndbaa
open Go.RowKit Go.BigFrame

theorem dataOkB_pos {d : ByteArray} (h : dataOkB d = true) : 1 ≤ d.size := by simp [dataOkB] at h; omega

theorem xgo_lift_none {size : Int} : ∀ {l : List Ex} {next addr : Int}, xgo size next l = true → addr < next → liftL addr l = l
  | [], _, _, _, _ => rfl
  | e :: r, next, addr, h, ha => by
    simp only [xgo, Bool.and_eq_true, decide_eq_true_eq] at h
    obtain ⟨⟨⟨h1, h2⟩, h3⟩, h4⟩ := h
    have hr := xgo_lift_none h4 (show addr < e.a + e.d.size by omega)
    have hne : (e.a == addr) = false := beq_eq_false_iff_ne.2 (by omega)
    simp only [liftL, List.filter_cons, hne, Bool.not_false, if_true] at hr ⊢
    rw [hr]

theorem lift_at {size addr : Int} : ∀ {l : List Ex} {next : Int} (k : Nat), xgo size next l = true →
    (atG addr k l = -1 ∧ liftL addr l = l) ∨ ∃ j, j < l.length ∧ atG addr k l = ((k + j : Nat) : Int) ∧ liftL addr l = l.take j ++ l.drop (j + 1)
  | [], _, _, _ => .inl ⟨rfl, rfl⟩
  | e :: r, next, k, h => by
    simp only [xgo, Bool.and_eq_true, decide_eq_true_eq] at h
    obtain ⟨⟨⟨h1, h2⟩, h3⟩, h4⟩ := h
    have hp := dataOkB_pos h1
    cases he : (e.a == addr)
    · rcases lift_at (addr := addr) (k + 1) h4 with ⟨q1, q2⟩ | ⟨j, hj, q1, q2⟩
      · refine .inl ⟨by simp [atG, he, q1], ?_⟩
        simp only [liftL, List.filter_cons, he, Bool.not_false, if_true] at q2 ⊢
        rw [q2]
      · refine .inr ⟨j + 1, by simp; omega, ?_, ?_⟩
        · simp only [atG, he, Bool.false_eq_true, if_false, q1]; congr 1; omega
        · simp only [liftL, List.filter_cons, he, Bool.not_false, if_true, List.take_succ_cons, List.drop_succ_cons, List.cons_append] at q2 ⊢
          rw [q2]
    · refine .inr ⟨0, by simp, by simp [atG, he], ?_⟩
      have hlt := xgo_lift_none h4 (show addr < e.a + e.d.size by have := eq_of_beq he; omega)
      simp only [liftL, List.filter_cons, he, Bool.not_true, Bool.false_eq_true, if_false, List.take_zero, List.nil_append, List.drop_succ_cons, List.drop_zero] at hlt ⊢
      exact hlt

/-- The model's Lifted, as a plain function. -/
def liftedM (size : Int) (l : List Ex) (addr : Int) : Option (List Ex) :=
  if spaceOkB size l = true ∧ 0 ≤ atG addr 0 l then some (l.take (atG addr 0 l).toNat ++ l.drop ((atG addr 0 l).toNat + 1)) else none

theorem liftedM_eq (size : Int) (l : List Ex) (addr : Int) : liftedM size l addr = liftedO size l addr := by
  unfold liftedM liftedO
  cases hok : spaceOkB size l
  · simp
  · have hx : xgo size 1 l = true := by simp only [spaceOkB, Bool.and_eq_true] at hok; exact hok.2
    rcases lift_at (addr := addr) 0 hx with ⟨q1, q2⟩ | ⟨j, hj, q1, q2⟩
    · rw [q1, q2]; simp
    · rw [q1, q2]
      have : (l.take j ++ l.drop (j + 1)).length ≠ l.length := by rw [List.length_append, List.length_take, List.length_drop]; omega
      rw [if_pos ⟨rfl, by omega⟩, if_pos ⟨rfl, this⟩]
      simp

theorem SlAt.take {α : Type} {cs : α → List Value} {sz : Nat} {w : World} {a : Option Addr} {n : Nat} {l : List α} (h : SlAt cs sz w a n l) {j : Nat} (hj : j ≤ n) : SlAt cs sz w a j (l.take j) :=
  ⟨by rw [List.length_take, h.len]; omega, fun i x hx => by
    rw [List.getElem?_take] at hx
    split at hx
    · exact h.cell i x hx
    · cases hx⟩
theorem SlAt.drop {α : Type} {cs : α → List Value} {sz : Nat} {w : World} {b o : Nat} {n : Nat} {l : List α} (h : SlAt cs sz w (some ⟨b, o, none⟩) n l) (j : Nat) : SlAt cs sz w (some ⟨b, o + j * sz, none⟩) (n - j) (l.drop j) :=
  ⟨by rw [List.length_drop, h.len], fun i x hx => by
    rw [List.getElem?_drop] at hx
    obtain ⟨b', o', he, hc⟩ := h.cell _ _ hx
    simp at he
    obtain ⟨rfl, rfl⟩ := he
    refine ⟨b, _, rfl, fun u v hv => ?_⟩
    have := hc u v hv
    rw [Nat.add_mul] at this
    rw [← this]
    congr 2
    omega⟩
end Go.Proofs.Ytbjejnkeekndbaa
namespace Go.Proofs.Ytbjejnkeekndbaa
open Go.RowKit Go.BigFrame

set_option maxHeartbeats 2000000 in
set_option maxRecDepth 100000 in
theorem spec_Lifted (size : Int) (a : Option Addr) (n cap : Nat) (l : List Ex) (addr : Int) (w : World) (h : ExsAt w a n l) (hstr : Strs l) (hn : n ≤ 4194304) (hcap : n ≤ cap) (hc2 : cap ≤ 8388608) :
    Calls Try.prog 29 #[.int .i64 size, .slice a n cap, .int .i64 addr] w fun e w' => RetExs w.heap.size e w' (liftedO size l addr) ∧ Below w.heap.size w w' := by
  have hlen : Hid (l.length = n) := h.len
  rw [← liftedM_eq]
  cases hok : spaceOkB size l
  · have hf : liftedM size l addr = none := by simp [liftedM, hok]
    rw [hf]
    generalize atG addr 0 l = at1
    go_enter Try.func29, Try.ntmps29
    go_wp2_with fail
    refine (spec_l1At a n cap l addr _ h hn).mono ?_
    rintro e w1 ⟨rfl, rfl⟩
    go_wp2_with fail
    refine (spec_SpaceOk size a n cap l _ h hstr hn).mono ?_
    rintro e w1 ⟨rfl, rfl⟩
    rw [hok]
    go_wp2
    go_returns
    exact ⟨rfl, Below.refl _ _⟩
  · have hx : xgo size 1 l = true := by simp only [spaceOkB, Bool.and_eq_true] at hok; exact hok.2
    rcases lift_at (addr := addr) 0 hx with ⟨q1, q2⟩ | ⟨j, hj, q1, q2⟩
    · have hf : liftedM size l addr = none := by simp [liftedM, q1]
      rw [hf]
      go_enter Try.func29, Try.ntmps29
      go_wp2_with fail
      refine (spec_l1At a n cap l addr _ h hn).mono ?_
      rintro e w1 ⟨rfl, rfl⟩
      rw [q1]
      go_wp2_with fail
      refine (spec_SpaceOk size a n cap l _ h hstr hn).mono ?_
      rintro e w1 ⟨rfl, rfl⟩
      rw [hok]
      go_wp2
      go_returns
      exact ⟨rfl, Below.refl _ _⟩
    · rw [Nat.zero_add] at q1
      have hf : liftedM size l addr = some (l.take j ++ l.drop (j + 1)) := by simp [liftedM, q1, hok]
      rw [hf]
      have hjn : j < n := by rw [← hlen.out]; exact hj
      obtain ⟨b, o, p, rfl, hp, c0, c1⟩ := exs_at h hjn
      have S1 : ExsAt w (some ⟨b, o, none⟩) j (l.take j) := h.take (by omega)
      have S2 : ExsAt w (if cap = j + 1 then some ⟨b, o, none⟩ else some ⟨b, o + (j + 1) * 2, none⟩) (n - (j + 1)) (l.drop (j + 1)) := by
        split
        · rw [List.drop_of_length_le (by rw [hlen.out]; omega)]
          exact ⟨by simp; omega, fun i x hx => by simp at hx⟩
        · exact h.drop (j + 1)
      clear c0 c1 hp
      obtain ⟨i0, hi, hz0, hz1, hz2⟩ := info_parts infoE
      go_enter Try.func29, Try.ntmps29
      go_wp2_with fail
      refine (spec_l1At _ n cap l addr _ h hn).mono ?_
      rintro e w1 ⟨rfl, rfl⟩
      rw [q1]
      go_wp2_with fail
      refine (spec_SpaceOk size _ n cap l _ h hstr hn).mono ?_
      rintro e w1 ⟨rfl, rfl⟩
      rw [hok]
      go_wp2_with (first | (at_builtin; refine wpList_app rfl (fun K hK => wp_app _ _ 24 rfl w1.heap.size 113 i0 (.agg #[.int .i64 0, .string .empty]) 24 Try.underlying24 hi hz0 hz1 hz2 rfl (by decide) ecs_len ecs_one _ 0 0 [] rfl (res_empty (Blk.new' _ _ _ _ (by simp)) (by simp)) (some ⟨b, o, none⟩) j cap (l.take j) rfl (S1.alloc _) (fun ad h => (by cases h; rfl)) (fun h => (by cases h)) j (Nat.zero_add _) (by unfold maxLen; omega) (by omega) (by simp) (fun a1 cap1 w2 hr1 hg1 => hK _ _ ?_)); have hB2 : Below w1.heap.size w1 w2 := Below.grown (by go_grown) hg1 (by simp) (fun k e => by simp [Value.ownBlock] at e; omega)) | (at_builtin; refine wpList_app rfl (fun K hK => wp_app _ _ 24 rfl w1.heap.size 113 i0 (.agg #[.int .i64 0, .string .empty]) 24 Try.underlying24 hi hz0 hz1 hz2 rfl (by decide) ecs_len ecs_one a1 j cap1 ([] ++ l.take j) rfl hr1 (if cap = j + 1 then some ⟨b, o, none⟩ else some ⟨b, o + (j + 1) * 2, none⟩) (n - (j + 1)) (cap - (j + 1)) (l.drop (j + 1)) rfl (S2.below hB2) (fun ad h => (by split at h <;> cases h <;> rfl)) (fun h => (by split at h <;> cases h)) (n - 1) (by omega) (by unfold maxLen; omega) (by omega) hB2.size (fun a3 cap3 w3 hr3 hg3 => hK _ _ ?_)); have hB3 : Below w1.heap.size w1 w3 := Below.grown hB2 hg3 hB2.size (own_ge fun ad had => (hr1.block ad had).1)))
      all_goals go_returns
      all_goals exact ⟨⟨a3, n - 1, cap3, rfl, by simpa using hr3⟩, hB3⟩
end Go.Proofs.Ytbjejnkeekndbaa
