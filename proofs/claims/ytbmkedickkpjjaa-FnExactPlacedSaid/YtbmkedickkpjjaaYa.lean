/- Where an extent stands (the model's l1At); Lifted of the program. -/
import Derived.Test.YtbmkedickkpjjaaProg
import Derived.Test.YtbmkedickkpjjaaXc
import Derived.Test.YtbmkedickkpjjaaApp2
namespace Go.Proofs.Ytbmkedickkpjjaa
open Go.RowKit Go.BigFrame

/-- The index of the first extent at that address, the list beginning at k; -1 where there is none. -/
def atG (addr : Int) : Nat → List Ex → Int
  | _, [] => -1
  | k, e :: r => if e.a == addr then (k : Int) else atG addr (k + 1) r

set_option maxHeartbeats 400000 in
theorem spec_l1At (a : Option Addr) (n cap : Nat) (l : List Ex) (addr : Int) (w : World) (h : ExsAt w a n l) (hn : n ≤ 4194304) :
    Calls Try.prog 120 #[.slice a n cap, .int .i64 addr] w fun e w' => e = .returned (.int .i64 (atG addr 0 l)) ∧ w' = w := by
  have hlen : Hid (l.length = n) := h.len
  go_enter Try.func120, Try.ntmps120
  go_wp2_with fail
  go_loop [5] (fun ix => ∃ (k : Nat), k ≤ n ∧ ix = .int .i64 k ∧ Hid (atG addr 0 l = atG addr k (l.drop k))) (fun ix => n - (intOf ix).toNat)
  case atStart => exact ⟨0, Nat.zero_le _, rfl, rfl⟩
  case round =>
    obtain ⟨k, hk, rfl, hI⟩ := hrel
    by_cases hlt : k < n
    · obtain ⟨b, o, p, rfl, hp, c0, c1⟩ := exs_at h hlt
      have hd : Hid (l.drop k = p :: l.drop (k + 1)) := drop_at hp
      clear hp
      cases he : (p.a == addr)
      · go_wp2
        go_round
        case rel => exact ⟨k + 1, by omega, by go_num, by show _ = _; rw [hI.out, hd.out]; simp only [atG, he, Bool.false_eq_true, if_false]⟩
        case measure => simp [intOf]; omega
      · go_wp2
        go_returns
        go_light
        refine ⟨ret_int ?_, rfl⟩
        rw [hI.out, hd.out]; simp only [atG, he, if_true]
    · obtain rfl : k = n := by omega
      go_wp2
      go_returns
      go_light
      refine ⟨ret_int ?_, rfl⟩
      rw [hI.out, List.drop_of_length_le (Nat.le_of_eq hlen.out)]; rfl

theorem infoE : (Try.prog.info? 125).map (fun i => (i.zero, i.size, i.bytes)) = some (some (.agg #[.int .i64 0, .string .empty]), 2, 24) := by kernel_rfl

theorem sl_newE' (w : World) (p : Ex) (t : TypeId) (b : Nat) (hb : b = w.heap.size) : ExsAt (w.alloc (.cells #[.int .i64 p.a, .string p.d] t)) (some ⟨b, 0, none⟩) 1 [p] := by
  subst hb
  refine ⟨rfl, fun i x hx => ⟨w.heap.size, 0, rfl, fun j v hv => ?_⟩⟩
  have hi : i = 0 := by have := (List.getElem?_eq_some_iff.1 hx).1; simp at this; exact this
  subst hi
  simp at hx
  subst hx
  match j, hv with
  | 0, hv => obtain rfl := Option.some.inj hv; simp
  | 1, hv => obtain rfl := Option.some.inj hv; simp
  | j + 2, hv => simp [Ex.cs] at hv

def liftL (addr : Int) (l : List Ex) : List Ex := l.filter (fun e => !(e.a == addr))

theorem liftL_at {addr : Int} {l : List Ex} {k : Nat} {p : Ex} (h : l[k]? = some p) : liftL addr (l.take (k + 1)) = liftL addr (l.take k) ++ (if p.a == addr then [] else [p]) := by
  unfold liftL
  rw [List.take_add_one, h, List.filter_append]
  cases hp : (p.a == addr) <;> simp [hp]

/-- Lifted, as a plain function. -/
def liftedO (size : Int) (l : List Ex) (addr : Int) : Option (List Ex) := if spaceOkB size l = true ∧ (liftL addr l).length ≠ l.length then some (liftL addr l) else none

def RetExs (B : Nat) (e : Ending) (w' : World) : Option (List Ex) → Prop
  | none => e = .returned (.tuple #[.slice none 0 0, .bool false])
  | some L => ∃ a n cap, e = .returned (.tuple #[.slice a n cap, .bool true]) ∧ ResAt Ex.cs 2 125 w' B a n cap L

set_option maxHeartbeats 2000000 in
set_option maxRecDepth 100000 in
theorem impl_Lifted (size : Int) (a : Option Addr) (n cap : Nat) (l : List Ex) (addr : Int) (w : World) (h : ExsAt w a n l) (hstr : Strs l) (hn : n ≤ 4194304) :
    Calls Try.prog 40 #[.int .i64 size, .slice a n cap, .int .i64 addr] w fun e w' => RetExs w.heap.size e w' (liftedO size l addr) ∧ Below w.heap.size w w' := by
  have hlen : Hid (l.length = n) := h.len
  cases hok : spaceOkB size l
  · have hf : liftedO size l addr = none := by simp [liftedO, hok]
    rw [hf]
    go_enter Try.func40, Try.ntmps40
    go_wp2_with fail
    refine (impl_SpaceOk size a n cap l _ h hstr hn).mono ?_
    rintro e w1 ⟨rfl, hB1⟩
    rw [hok]
    go_wp2
    go_returns
    exact ⟨rfl, hB1⟩
  · obtain ⟨i0, hi, hz0, hz1, hz2⟩ := info_parts infoE
    go_enter Try.func40, Try.ntmps40
    go_wp2_with fail
    refine (impl_SpaceOk size a n cap l _ h hstr hn).mono ?_
    rintro e w1 ⟨rfl, hB1⟩
    rw [hok]
    go_wp2_with fail
    go_loopw [8, 17] (fun out ix wr => ∃ (k : Nat) (a2 : Option Addr) (n2 cap2 : Nat), k ≤ n ∧ ix = .int .i64 k ∧ out = .slice a2 n2 cap2 ∧ n2 ≤ k ∧ ResAt Ex.cs 2 125 wr w.heap.size a2 n2 cap2 (liftL addr (l.take k)) ∧ Below w.heap.size w wr) (fun _ ix _ => n - (intOf ix).toNat)
    case atStart => exact ⟨0, none, 0, 0, Nat.zero_le _, rfl, rfl, by omega, res_nil, hB1⟩
    case round =>
      obtain ⟨k, a2, n2, cap2, hk, rfl, rfl, hn2, R2, hB⟩ := hrel
      have hsz := hB.size
      by_cases hlt : k < n
      · obtain ⟨b, o, p, rfl, hp, c0, c1⟩ := exs_at (h.below hB) hlt
        have hst : Hid (liftL addr (l.take (k + 1)) = liftL addr (l.take k) ++ (if p.a == addr then [] else [p])) := liftL_at hp
        clear hp
        generalize liftL addr (l.take k) = lk at *
        cases he : (p.a == addr)
        · have he' : (p.a != addr) = true := by simp [bne, he]
          go_wp2_with (at_builtin; refine wpList_app rfl (fun K hK => wp_app _ _ 24 rfl w.heap.size 125 i0 (.agg #[.int .i64 0, .string .empty]) 24 Try.underlying24 hi hz0 hz1 hz2 rfl (by decide) ecs_len ecs_one a2 n2 cap2 lk rfl ((R2.alloc _).alloc _) _ 1 1 [p] rfl (sl_newE' _ p _ _ (by simp)) (fun ad h => (by cases h; rfl)) (fun h => (by cases h)) (n2 + 1) rfl (by unfold maxLen; omega) (by omega) (by simp; omega) (fun a3 cap3 w3 R3 hg3 => hK _ _ ?_)))
          have hB3 : Below w.heap.size w w3 := Below.grown (by go_grown) hg3 (by simp; omega) (own_ge fun ad had => (R2.block ad had).1)
          go_roundw
          case rel => exact ⟨k + 1, a3, n2 + 1, cap3, by omega, by go_num, rfl, by omega, by rw [hst.out]; simpa [he] using R3, hB3⟩
          case measure => simp [intOf]; omega
        · have he' : (p.a != addr) = false := by simp [bne, he]
          go_wp2
          go_roundw
          case rel => exact ⟨k + 1, a2, n2, cap2, by omega, by go_num, rfl, by omega, by rw [hst.out]; simpa [he] using R2.alloc _, by go_grown⟩
          case measure => simp [intOf]; omega
      · obtain rfl : k = n := by omega
        rw [List.take_of_length_le (Nat.le_of_eq hlen.out)] at R2
        have hl2 := R2.sl.len
        by_cases hsame : n2 = k
        · have hf : liftedO size l addr = none := by simp only [liftedO]; rw [if_neg (fun hc => hc.2 (by rw [hl2, hlen.out]; exact hsame))]
          have hbe : ((n2 : Int) == (k : Int)) = true := by simp [hsame]
          go_wp2
          go_returns
          rw [hf]
          exact ⟨rfl, hB⟩
        · have hf : liftedO size l addr = some (liftL addr l) := by simp only [liftedO]; rw [if_pos ⟨hok, by rw [hl2, hlen.out]; exact hsame⟩]
          have hbe : ((n2 : Int) == (k : Int)) = false := beq_eq_false_iff_ne.2 (by omega)
          go_wp2
          go_returns
          rw [hf]
          exact ⟨⟨a2, n2, cap2, rfl, R2⟩, hB⟩
end Go.Proofs.Ytbmkedickkpjjaa
