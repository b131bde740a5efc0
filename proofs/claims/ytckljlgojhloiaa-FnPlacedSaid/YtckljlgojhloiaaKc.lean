/- The extents: dataOk and SpaceOk of the program, l1Plain and SpaceOk of the model. The model's SpaceOk; the laws' sizes, copies and comparisons of lists of extents. The laws' sizes, copies and comparisons of lists of extents. Where an extent stands (the model's l1At); Lifted of the program. -/
import Derived.Test.YtckljlgojhloiaaProg
import Derived.Test.YtckljlgojhloiaaKa
import Derived.Test.YtckljlgojhloiaaKb
namespace Go.Proofs.Ytckljlgojhloiaa
open Go.RowKit Go.BigFrame

def charB (c : UInt8) : Bool := decide (32 ≤ (c.toNat : Int)) && decide ((c.toNat : Int) ≤ 126)
def plainB (d : ByteArray) : Bool := d.data.toList.all charB
def dataOkB (d : ByteArray) : Bool := decide (1 ≤ d.size) && decide (d.size ≤ 20) && plainB d

theorem str_drop (s : ByteArray) (k : Nat) (h : k < s.size) : s.data.toList.drop k = s[k] :: s.data.toList.drop (k + 1) := by
  rw [List.drop_eq_getElem_cons (by simpa using h)]; rfl

set_option maxHeartbeats 400000 in
theorem impl_dataOk (d : ByteArray) (w : World) (hd : d.size ≤ 9223372036854775807) :
    Calls Try.prog 25 #[.string d] w fun e w' => e = .returned (.bool (dataOkB d)) ∧ w' = w := by
  by_cases h1 : 1 ≤ d.size ∧ d.size ≤ 20
  · have hfin : Hid (dataOkB d = (d.data.toList.drop 0).all charB) := by show _ = _; simp [dataOkB, plainB, h1]
    obtain ⟨h1, h20⟩ := h1
    go_enter Try.func25, Try.ntmps25
    go_wp2_with fail
    go_loop [14] (fun ix => ∃ (k : Nat), k ≤ d.size ∧ ix = .int .i64 k ∧ Hid (dataOkB d = (d.data.toList.drop k).all charB)) (fun ix => d.size - (intOf ix).toNat)
    case atStart => exact ⟨0, Nat.zero_le _, rfl, hfin⟩
    case round =>
      obtain ⟨k, hk, rfl, hI⟩ := hrel
      by_cases hlt : k < d.size
      · have hs : Hid (d.data.toList.drop k = d[k] :: d.data.toList.drop (k + 1)) := str_drop d k hlt
        cases hc : charB d[k]
        · have hc' : (d[k].toNat : Int) < 32 ∨ 126 < (d[k].toNat : Int) := by simp [charB] at hc; omega
          go_wp2
          all_goals go_returns
          all_goals go_light
          all_goals (refine ⟨ret_bool ?_, rfl⟩; rw [hI.out, hs.out]; simp [hc])
        · have hc' : 32 ≤ (d[k].toNat : Int) ∧ (d[k].toNat : Int) ≤ 126 := by simp [charB] at hc; omega
          obtain ⟨hc1, hc2⟩ := hc'
          go_wp2
          go_round
          case rel => exact ⟨k + 1, by omega, by go_num, by show _ = _; rw [hI.out, hs.out]; simp [hc]⟩
          case measure => simp [intOf]; omega
      · obtain rfl : k = d.size := by omega
        go_wp2
        go_returns
        go_light
        refine ⟨ret_bool ?_, rfl⟩
        rw [hI.out, List.drop_of_length_le (by simp)]; rfl
  · have hfin : Hid (dataOkB d = false) := by show _ = _; simp [dataOkB]; omega
    go_enter Try.func25, Try.ntmps25
    go_wp2
    all_goals go_returns
    all_goals go_light
    all_goals exact ⟨ret_bool hfin.out.symm, rfl⟩

set_option maxHeartbeats 400000 in
theorem spec_l1Plain (d : ByteArray) (w : World) (hd : d.size ≤ 9223372036854775807) :
    Calls Try.prog 28 #[.string d] w fun e w' => e = .returned (.bool (plainB d && decide (d.size ≤ 20))) ∧ w' = w := by
  have hfin : Hid (plainB d = (d.data.toList.drop 0).all charB) := rfl
  go_enter Try.func28, Try.ntmps28
  go_wp2_with fail
  go_loop [3] (fun ix => ∃ (k : Nat), k ≤ d.size ∧ ix = .int .i64 k ∧ Hid (plainB d = (d.data.toList.drop k).all charB)) (fun ix => d.size - (intOf ix).toNat)
  case atStart => exact ⟨0, Nat.zero_le _, rfl, hfin⟩
  case round =>
    obtain ⟨k, hk, rfl, hI⟩ := hrel
    by_cases hlt : k < d.size
    · have hs : Hid (d.data.toList.drop k = d[k] :: d.data.toList.drop (k + 1)) := str_drop d k hlt
      cases hc : charB d[k]
      · have hc' : (d[k].toNat : Int) < 32 ∨ 126 < (d[k].toNat : Int) := by simp [charB] at hc; omega
        go_wp2
        all_goals go_returns
        all_goals go_light
        all_goals (refine ⟨ret_bool ?_, rfl⟩; rw [hI.out, hs.out]; simp [hc])
      · have hc' : 32 ≤ (d[k].toNat : Int) ∧ (d[k].toNat : Int) ≤ 126 := by simp [charB] at hc; omega
        obtain ⟨hc1, hc2⟩ := hc'
        go_wp2
        go_round
        case rel => exact ⟨k + 1, by omega, by go_num, by show _ = _; rw [hI.out, hs.out]; simp [hc]⟩
        case measure => simp [intOf]; omega
    · obtain rfl : k = d.size := by omega
      go_wp2
      go_returns
      go_light
      refine ⟨ret_bool ?_, rfl⟩
      rw [hI.out, List.drop_of_length_le (by simp)]; rw [Bool.eq_iff_iff]; simp; omega

/-- SpaceOk's rounds: the size, the first byte that is free, the extents to come. -/
def xgo (size : Int) : Int → List Ex → Bool
  | _, [] => true
  | next, e :: r => dataOkB e.d && decide (next ≤ e.a) && decide (e.a ≤ size + 1 - e.d.size) && xgo size (e.a + e.d.size) r
def spaceOkB (size : Int) (l : List Ex) : Bool := decide (1 ≤ size) && decide (size ≤ 400) && decide (l.length ≤ 60) && xgo size 1 l

/-- The strings of a list are as short as strings are. -/
def Strs (l : List Ex) : Prop := ∀ e ∈ l, e.d.size ≤ 9223372036854775807

theorem Strs.at {l : List Ex} (h : Strs l) {k : Nat} {e : Ex} (he : l[k]? = some e) : e.d.size ≤ 9223372036854775807 := h e (List.mem_of_getElem? he)

set_option maxHeartbeats 1000000 in
theorem impl_SpaceOk (size : Int) (a : Option Addr) (n cap : Nat) (l : List Ex) (w : World) (h : ExsAt w a n l) (hstr : Strs l) (hn : n ≤ 4194304) :
    Calls Try.prog 15 #[.int .i64 size, .slice a n cap] w fun e w' => e = .returned (.bool (spaceOkB size l)) ∧ Below w.heap.size w w' := by
  have hlen : Hid (l.length = n) := h.len
  by_cases h0 : 1 ≤ size ∧ size ≤ 400 ∧ n ≤ 60
  · have hfin : Hid (spaceOkB size l = xgo size 1 (l.drop 0)) := by show _ = _; simp [spaceOkB, hlen.out, h0]
    obtain ⟨h1, h400, h60⟩ := h0
    go_enter Try.func15, Try.ntmps15
    go_wp2_with fail
    go_loopw [5, 21] (fun nx ix wr => ∃ (k : Nat) (next : Int), k ≤ n ∧ ix = .int .i64 k ∧ nx = .int .i64 next ∧ 1 ≤ next ∧ next ≤ 421 ∧ Hid (spaceOkB size l = xgo size next (l.drop k)) ∧ Below w.heap.size w wr) (fun _ ix _ => n - (intOf ix).toNat)
    case atStart => exact ⟨0, 1, Nat.zero_le _, rfl, rfl, by omega, by omega, hfin, Below.refl _ _⟩
    case round =>
      obtain ⟨k, next, hk, rfl, rfl, hx1, hx2, hI, hB⟩ := hrel
      by_cases hlt : k < n
      · obtain ⟨b, o, p, rfl, hp, c0, c1⟩ := exs_at (h.below hB) hlt
        have hd : Hid (l.drop k = p :: l.drop (k + 1)) := drop_at hp
        have hsz := hstr.at hp
        clear hp
        have hwr := hB.size
        cases hdo : dataOkB p.d
        · go_wp2_with fail
          refine (impl_dataOk p.d _ hsz).mono ?_
          rintro e w1 ⟨rfl, rfl⟩
          rw [hdo]
          go_wp2
          go_returns
          go_light
          refine ⟨ret_bool ?_, by go_grown⟩
          rw [hI.out, hd.out]; simp [xgo, hdo]
        · have hd20 : 1 ≤ p.d.size ∧ p.d.size ≤ 20 := by simp [dataOkB] at hdo; exact hdo.1
          obtain ⟨hd1, hd2⟩ := hd20
          by_cases hok : next ≤ p.a ∧ p.a ≤ size + 1 - p.d.size
          · obtain ⟨ha1, ha2⟩ := hok
            go_wp2_with fail
            refine (impl_dataOk p.d _ hsz).mono ?_
            rintro e w1 ⟨rfl, rfl⟩
            rw [hdo]
            go_wp2
            go_roundw
            case rel => exact ⟨k + 1, p.a + p.d.size, by omega, by go_num, by go_num, by omega, by omega, by show _ = _; rw [hI.out, hd.out]; simp [xgo, hdo, ha1, ha2], by go_grown⟩
            case measure => simp [intOf]; omega
          · go_wp2_with fail
            refine (impl_dataOk p.d _ hsz).mono ?_
            rintro e w1 ⟨rfl, rfl⟩
            rw [hdo]
            go_wp2
            all_goals go_returns
            all_goals go_light
            all_goals refine ⟨ret_bool ?_, by go_grown⟩
            all_goals (rw [hI.out, hd.out]; simp [xgo, hdo]; omega)
      · obtain rfl : k = n := by omega
        go_wp2
        go_returns
        go_light
        refine ⟨ret_bool ?_, hB⟩
        rw [hI.out, List.drop_of_length_le (Nat.le_of_eq hlen.out)]; rfl
  · have hfin : Hid (spaceOkB size l = false) := by show _ = _; have := hlen.out; simp [spaceOkB]; omega
    go_enter Try.func15, Try.ntmps15
    go_wp2
    all_goals go_returns
    all_goals go_light
    all_goals exact ⟨ret_bool hfin.out.symm, Below.refl _ _⟩
end Go.Proofs.Ytckljlgojhloiaa
namespace Go.Proofs.Ytckljlgojhloiaa
open Go.RowKit Go.BigFrame

theorem dataOkB_eq (d : ByteArray) : dataOkB d = (decide (1 ≤ d.size) && (plainB d && decide (d.size ≤ 20))) := by
  unfold dataOkB; cases plainB d <;> cases decide (1 ≤ d.size) <;> cases decide (d.size ≤ 20) <;> rfl

set_option maxHeartbeats 2000000 in
theorem spec_SpaceOk (size : Int) (a : Option Addr) (n cap : Nat) (l : List Ex) (w : World) (h : ExsAt w a n l) (hstr : Strs l) (hn : n ≤ 4194304) :
    Calls Try.prog 13 #[.int .i64 size, .slice a n cap] w fun e w' => e = .returned (.bool (spaceOkB size l)) ∧ w' = w := by
  have hlen : Hid (l.length = n) := h.len
  by_cases h0 : 1 ≤ size ∧ size ≤ 400 ∧ n ≤ 60
  · have hfin : Hid (spaceOkB size l = xgo size 1 (l.drop 0)) := by show _ = _; simp [spaceOkB, hlen.out, h0]
    obtain ⟨h1, h400, h60⟩ := h0
    have hin : (decide (1 ≤ size) && decide (size ≤ 400)) = true := by simp [h1, h400]
    go_enter Try.func13, Try.ntmps13
    go_wp2_with fail
    refine (spec_l1In _ _ _ _).mono ?_
    rintro e w1 ⟨rfl, rfl⟩
    rw [hin]
    go_wp2_with fail
    go_loop [5, 6] (fun nx ix => ∃ (k : Nat) (next : Int), k ≤ n ∧ ix = .int .i64 k ∧ nx = .int .i64 next ∧ 1 ≤ next ∧ next ≤ 421 ∧ Hid (spaceOkB size l = xgo size next (l.drop k))) (fun _ ix => n - (intOf ix).toNat)
    case atStart => exact ⟨0, 1, Nat.zero_le _, rfl, rfl, by omega, by omega, hfin⟩
    case round =>
      obtain ⟨k, next, hk, rfl, rfl, hx1, hx2, hI⟩ := hrel
      by_cases hlt : k < n
      · obtain ⟨b, o, p, rfl, hp, c0, c1⟩ := exs_at h hlt
        have hd : Hid (l.drop k = p :: l.drop (k + 1)) := drop_at hp
        have hsz := hstr.at hp
        clear hp hin
        by_cases hz : p.d.size = 0
        · have hz' : ((p.d.size : Int) == 0) = true := beq_iff_eq.2 (by omega)
          have hdo : Hid (dataOkB p.d = false) := by show _ = _; simp [dataOkB, hz]
          clear hz
          go_wp2
          go_returns
          go_light
          refine ⟨ret_bool ?_, rfl⟩
          rw [hI.out, hd.out]; simp [xgo, hdo.out]
        · have hz' : ((p.d.size : Int) == 0) = false := beq_eq_false_iff_ne.2 (by omega)
          cases hpl : (plainB p.d && decide (p.d.size ≤ 20))
          · have hdo : Hid (dataOkB p.d = false) := by show _ = _; rw [dataOkB_eq, hpl]; simp
            go_wp2_with fail
            refine (spec_l1Plain p.d _ hsz).mono ?_
            rintro e w1 ⟨rfl, rfl⟩
            rw [hpl]
            go_wp2
            go_returns
            go_light
            refine ⟨ret_bool ?_, rfl⟩
            rw [hI.out, hd.out]; simp [xgo, hdo.out]
          · have hpl2 := hpl
            simp at hpl2
            have hdo : Hid (dataOkB p.d = true) := by show _ = _; rw [dataOkB_eq, hpl]; simp; omega
            have hd2 : p.d.size ≤ 20 := hpl2.2
            have hd1 : 1 ≤ p.d.size := by omega
            clear hpl2
            cases hii : (decide (next ≤ p.a) && decide (p.a ≤ size))
            · go_wp2_with fail
              refine (spec_l1Plain p.d _ hsz).mono ?_
              rintro e w1 ⟨rfl, rfl⟩
              rw [hpl]
              go_wp2_with fail
              refine (spec_l1In _ _ _ _).mono ?_
              rintro e w1 ⟨rfl, rfl⟩
              rw [hii]
              go_wp2
              go_returns
              go_light
              refine ⟨ret_bool ?_, rfl⟩
              simp at hii
              rw [hI.out, hd.out]; simp [xgo, hdo.out]; omega
            · have hi2 := hii
              simp at hi2
              obtain ⟨ha1, ha2⟩ := hi2
              by_cases hok : p.a + p.d.size - 1 ≤ size
              · go_wp2_with fail
                refine (spec_l1Plain p.d _ hsz).mono ?_
                rintro e w1 ⟨rfl, rfl⟩
                rw [hpl]
                go_wp2_with fail
                refine (spec_l1In _ _ _ _).mono ?_
                rintro e w1 ⟨rfl, rfl⟩
                rw [hii]
                go_wp2
                go_round
                case rel => exact ⟨k + 1, p.a + p.d.size, by omega, by go_num, by go_num, by omega, by omega, by show _ = _; rw [hI.out, hd.out]; have : p.a ≤ size + 1 - p.d.size := by omega
                                                                                                                 simp [xgo, hdo.out, ha1, this]⟩
                case measure => simp [intOf]; omega
              · go_wp2_with fail
                refine (spec_l1Plain p.d _ hsz).mono ?_
                rintro e w1 ⟨rfl, rfl⟩
                rw [hpl]
                go_wp2_with fail
                refine (spec_l1In _ _ _ _).mono ?_
                rintro e w1 ⟨rfl, rfl⟩
                rw [hii]
                go_wp2
                go_returns
                go_light
                refine ⟨ret_bool ?_, rfl⟩
                rw [hI.out, hd.out]; simp [xgo, hdo.out]; omega
      · obtain rfl : k = n := by omega
        go_wp2
        go_returns
        go_light
        refine ⟨ret_bool ?_, rfl⟩
        rw [hI.out, List.drop_of_length_le (Nat.le_of_eq hlen.out)]; rfl
  · have hfin : Hid (spaceOkB size l = false) := by show _ = _; have := hlen.out; simp [spaceOkB]; omega
    cases hin : (decide (1 ≤ size) && decide (size ≤ 400))
    all_goals
      go_enter Try.func13, Try.ntmps13
      go_wp2_with fail
      refine (spec_l1In _ _ _ _).mono ?_
      rintro e w1 ⟨rfl, rfl⟩
      rw [hin]
      simp at hin
      go_wp2
      all_goals go_returns
      all_goals go_light
      all_goals exact ⟨ret_bool hfin.out.symm, rfl⟩

def eqExB (p q : Ex) : Bool := p.a == q.a && p.d.toList == q.d.toList

/-- What is left of a budget behind an extent, -1 where it is used up. -/
def szE (left : Int) (p : Ex) : Int := if left - p.d.size < 0 then -1 else left - p.d.size

end Go.Proofs.Ytckljlgojhloiaa
namespace Go.Proofs.Ytckljlgojhloiaa
open Go.RowKit Go.BigFrame

/-- A list of extents that is within the budget. -/
def Small (n : Nat) (l : List Ex) : Prop := n ≤ 1048576 ∧ ∀ e ∈ l, e.d.size ≤ 1048576

theorem Small.strs {n : Nat} {l : List Ex} (h : Small n l) : Strs l := fun e he => by have := h.2 e he; omega

def eqExs : List Ex → List Ex → Bool
  | [], [] => true
  | p :: r, q :: s => eqExB p q && eqExs r s
  | _, _ => false

theorem eqExs_refl (l : List Ex) : eqExs l l = true := by
  induction l with
  | nil => rfl
  | cons p r ih => simp [eqExs, eqExB, ih]
theorem eqExs_len {l : List Ex} : ∀ {m : List Ex}, l.length ≠ m.length → eqExs l m = false := by
  induction l with
  | nil => intro m h; cases m <;> simp [eqExs] at *
  | cons p r ih => intro m h; cases m <;> simp [eqExs] at *; exact fun _ => ih h

end Go.Proofs.Ytckljlgojhloiaa
namespace Go.Proofs.Ytckljlgojhloiaa
open Go.RowKit Go.BigFrame

/-- The index of the first extent at that address, the list beginning at k; -1 where there is none. -/
def atG (addr : Int) : Nat → List Ex → Int
  | _, [] => -1
  | k, e :: r => if e.a == addr then (k : Int) else atG addr (k + 1) r

set_option maxHeartbeats 400000 in
theorem spec_l1At (a : Option Addr) (n cap : Nat) (l : List Ex) (addr : Int) (w : World) (h : ExsAt w a n l) (hn : n ≤ 4194304) :
    Calls Try.prog 32 #[.slice a n cap, .int .i64 addr] w fun e w' => e = .returned (.int .i64 (atG addr 0 l)) ∧ w' = w := by
  have hlen : Hid (l.length = n) := h.len
  go_enter Try.func32, Try.ntmps32
  go_wp2_with fail
  go_loop [5] (fun ix => ∃ (k : Nat), k ≤ n ∧ ix = .int .i64 k ∧ Hid (atG addr 0 l = atG addr k (l.drop k))) (fun ix => n - (intOf ix).toNat)
  case atStart => exact ⟨0, Nat.zero_le _, rfl, rfl⟩
  case round =>
    obtain ⟨k, hk, rfl, hI⟩ := hrel
    by_cases hlt : k < n
    · obtain ⟨b, o, p, rfl, hp, c0, c1⟩ := exs_at h hlt
      have hd : Hid (l.drop k = p :: l.drop (k + 1)) := drop_at hp
      clear hp
      cases he : (p.a == addr)
      · go_wp2
        go_round
        case rel => exact ⟨k + 1, by omega, by go_num, by show _ = _; rw [hI.out, hd.out]; simp only [atG, he, Bool.false_eq_true, if_false]⟩
        case measure => simp [intOf]; omega
      · go_wp2
        go_returns
        go_light
        refine ⟨ret_int ?_, rfl⟩
        rw [hI.out, hd.out]; simp only [atG, he, if_true]
    · obtain rfl : k = n := by omega
      go_wp2
      go_returns
      go_light
      refine ⟨ret_int ?_, rfl⟩
      rw [hI.out, List.drop_of_length_le (Nat.le_of_eq hlen.out)]; rfl

theorem infoE : (Try.prog.info? 52).map (fun i => (i.zero, i.size, i.bytes)) = some (some (.agg #[.int .i64 0, .string .empty]), 2, 24) := by kernel_rfl

theorem sl_newE' (w : World) (p : Ex) (t : TypeId) (b : Nat) (hb : b = w.heap.size) : ExsAt (w.alloc (.cells #[.int .i64 p.a, .string p.d] t)) (some ⟨b, 0, none⟩) 1 [p] := by
  subst hb
  refine ⟨rfl, fun i x hx => ⟨w.heap.size, 0, rfl, fun j v hv => ?_⟩⟩
  have hi : i = 0 := by have := (List.getElem?_eq_some_iff.1 hx).1; simp at this; exact this
  subst hi
  simp at hx
  subst hx
  match j, hv with
  | 0, hv => obtain rfl := Option.some.inj hv; simp
  | 1, hv => obtain rfl := Option.some.inj hv; simp
  | j + 2, hv => simp [Ex.cs] at hv

def liftL (addr : Int) (l : List Ex) : List Ex := l.filter (fun e => !(e.a == addr))

theorem liftL_at {addr : Int} {l : List Ex} {k : Nat} {p : Ex} (h : l[k]? = some p) : liftL addr (l.take (k + 1)) = liftL addr (l.take k) ++ (if p.a == addr then [] else [p]) := by
  unfold liftL
  rw [List.take_add_one, h, List.filter_append]
  cases hp : (p.a == addr) <;> simp [hp]

/-- Lifted, as a plain function. -/
def liftedO (size : Int) (l : List Ex) (addr : Int) : Option (List Ex) := if spaceOkB size l = true ∧ (liftL addr l).length ≠ l.length then some (liftL addr l) else none

def RetExs (B : Nat) (e : Ending) (w' : World) : Option (List Ex) → Prop
  | none => e = .returned (.tuple #[.slice none 0 0, .bool false])
  | some L => ∃ a n cap, e = .returned (.tuple #[.slice a n cap, .bool true]) ∧ ResAt Ex.cs 2 52 w' B a n cap L

set_option maxHeartbeats 2000000 in
set_option maxRecDepth 100000 in
theorem impl_Lifted (size : Int) (a : Option Addr) (n cap : Nat) (l : List Ex) (addr : Int) (w : World) (h : ExsAt w a n l) (hstr : Strs l) (hn : n ≤ 4194304) :
    Calls Try.prog 14 #[.int .i64 size, .slice a n cap, .int .i64 addr] w fun e w' => RetExs w.heap.size e w' (liftedO size l addr) ∧ Below w.heap.size w w' := by
  have hlen : Hid (l.length = n) := h.len
  cases hok : spaceOkB size l
  · have hf : liftedO size l addr = none := by simp [liftedO, hok]
    rw [hf]
    go_enter Try.func14, Try.ntmps14
    go_wp2_with fail
    refine (impl_SpaceOk size a n cap l _ h hstr hn).mono ?_
    rintro e w1 ⟨rfl, hB1⟩
    rw [hok]
    go_wp2
    go_returns
    exact ⟨rfl, hB1⟩
  · obtain ⟨i0, hi, hz0, hz1, hz2⟩ := info_parts infoE
    go_enter Try.func14, Try.ntmps14
    go_wp2_with fail
    refine (impl_SpaceOk size a n cap l _ h hstr hn).mono ?_
    rintro e w1 ⟨rfl, hB1⟩
    rw [hok]
    go_wp2_with fail
    go_loopw [8, 17] (fun out ix wr => ∃ (k : Nat) (a2 : Option Addr) (n2 cap2 : Nat), k ≤ n ∧ ix = .int .i64 k ∧ out = .slice a2 n2 cap2 ∧ n2 ≤ k ∧ ResAt Ex.cs 2 52 wr w.heap.size a2 n2 cap2 (liftL addr (l.take k)) ∧ Below w.heap.size w wr) (fun _ ix _ => n - (intOf ix).toNat)
    case atStart => exact ⟨0, none, 0, 0, Nat.zero_le _, rfl, rfl, by omega, res_nil, hB1⟩
    case round =>
      obtain ⟨k, a2, n2, cap2, hk, rfl, rfl, hn2, R2, hB⟩ := hrel
      have hsz := hB.size
      by_cases hlt : k < n
      · obtain ⟨b, o, p, rfl, hp, c0, c1⟩ := exs_at (h.below hB) hlt
        have hst : Hid (liftL addr (l.take (k + 1)) = liftL addr (l.take k) ++ (if p.a == addr then [] else [p])) := liftL_at hp
        clear hp
        generalize liftL addr (l.take k) = lk at *
        cases he : (p.a == addr)
        · have he' : (p.a != addr) = true := by simp [bne, he]
          go_wp2_with (at_builtin; refine wpList_app rfl (fun K hK => wp_app _ _ 24 rfl w.heap.size 52 i0 (.agg #[.int .i64 0, .string .empty]) 24 Try.underlying24 hi hz0 hz1 hz2 rfl (by decide) ecs_len ecs_one a2 n2 cap2 lk rfl ((R2.alloc _).alloc _) _ 1 1 [p] rfl (sl_newE' _ p _ _ (by simp)) (fun ad h => (by cases h; rfl)) (fun h => (by cases h)) (n2 + 1) rfl (by unfold maxLen; omega) (by omega) (by simp; omega) (fun a3 cap3 w3 R3 hg3 => hK _ _ ?_)))
          have hB3 : Below w.heap.size w w3 := Below.grown (by go_grown) hg3 (by simp; omega) (own_ge fun ad had => (R2.block ad had).1)
          go_roundw
          case rel => exact ⟨k + 1, a3, n2 + 1, cap3, by omega, by go_num, rfl, by omega, by rw [hst.out]; simpa [he] using R3, hB3⟩
          case measure => simp [intOf]; omega
        · have he' : (p.a != addr) = false := by simp [bne, he]
          go_wp2
          go_roundw
          case rel => exact ⟨k + 1, a2, n2, cap2, by omega, by go_num, rfl, by omega, by rw [hst.out]; simpa [he] using R2.alloc _, by go_grown⟩
          case measure => simp [intOf]; omega
      · obtain rfl : k = n := by omega
        rw [List.take_of_length_le (Nat.le_of_eq hlen.out)] at R2
        have hl2 := R2.sl.len
        by_cases hsame : n2 = k
        · have hf : liftedO size l addr = none := by simp only [liftedO]; rw [if_neg (fun hc => hc.2 (by rw [hl2, hlen.out]; exact hsame))]
          have hbe : ((n2 : Int) == (k : Int)) = true := by simp [hsame]
          go_wp2
          go_returns
          rw [hf]
          exact ⟨rfl, hB⟩
        · have hf : liftedO size l addr = some (liftL addr l) := by simp only [liftedO]; rw [if_pos ⟨hok, by rw [hl2, hlen.out]; exact hsame⟩]
          have hbe : ((n2 : Int) == (k : Int)) = false := beq_eq_false_iff_ne.2 (by omega)
          go_wp2
          go_returns
          rw [hf]
          exact ⟨⟨a2, n2, cap2, rfl, R2⟩, hB⟩
end Go.Proofs.Ytckljlgojhloiaa
