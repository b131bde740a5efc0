/- Counts that are the same, and extents that somebody names, by the model. slices.Equal at counts, and addrsOk of the program. -/
import Derived.Test.YtllbojcjdpelnaaGreatProg
import Derived.Test.YtllbojcjdpelnaaGreatKl
import Derived.Test.YtllbojcjdpelnaaGreatKj
import Derived.Laws.StructEq
import Derived.Test.YtllbojcjdpelnaaGreatKq
namespace Go.Proofs.YtllbojcjdpelnaaGreat
open Go.RowKit Go.BigFrame

theorem eqO_inG (p q : Ow) (w : World) : (Op.equalIn 9999 68 (.agg #[.int .i64 p.a, .int .i64 p.v, .string p.f]) (.agg #[.int .i64 q.a, .int .i64 q.v, .string q.f])).run Tryz.prog w = .ok (owEq p q) w := by
  have u2 := Tryz.underlying2
  have u9 := Tryz.underlying9
  have a2 := Tryz.isAgg2
  have a9 := Tryz.isAgg9
  have z2 := Tryz.sizeOf2
  have z9 := Tryz.sizeOf9
  have hS : Tryz.prog.underlying 68 = some (.struct (Tryz.prog.fieldsOf 68)) := by kernel_rfl
  have hp : Tryz.prog.stoodInHeld 68 = false := by kernel_rfl
  rw [show (9999 : Nat) = 9998 + 1 from rfl, run_equalIn_agg w 9998 68 _ _ hS hp]
  simp only [Program.fieldsOf, Tryz.underlying68]
  clear hS hp
  go_simp
  unfold owEq
  by_cases h1 : p.a = q.a <;> by_cases h2 : p.v = q.v <;> by_cases h3 : p.f.toList = q.f.toList <;> simp [h1, h2, h3]

theorem neqCG (p q : Ct) (w : World) : (binOp .neq 70 (.agg #[.int .i64 p.o.a, .int .i64 p.o.v, .string p.o.f, .int .i64 p.n]) (.agg #[.int .i64 q.o.a, .int .i64 q.o.v, .string q.o.f, .int .i64 q.n])).run Tryz.prog w = .ok (.bool (!eqCt p q)) w := by
  have he := eqO_inG p.o q.o
  have u2 := Tryz.underlying2
  have a2 := Tryz.isAgg2
  have z2 := Tryz.sizeOf2
  have hz := Tryz.sizeOf68
  have ha := Tryz.isAgg68
  have hS : Tryz.prog.underlying 70 = some (.struct (Tryz.prog.fieldsOf 70)) := by kernel_rfl
  have hp : Tryz.prog.stoodInHeld 70 = false := by kernel_rfl
  rw [run_neq_struct, show (10000 : Nat) = 9999 + 1 from rfl, run_equalIn_agg w 9999 70 _ _ hS hp]
  simp only [Program.fieldsOf, Tryz.underlying70]
  clear hS hp
  unfold eqCt
  cases hoo : owEq p.o q.o
  all_goals rw [hoo] at he
  · go_simp
  · by_cases h1 : p.n = q.n
    · go_simp
    · go_simp

set_option maxHeartbeats 1000000 in
theorem spec_l4Same (a : Option Addr) (n cap : Nat) (l : List Ct) (a' : Option Addr) (n' cap' : Nat) (m : List Ct) (w : World) (h : CtsAt w a n l) (h' : CtsAt w a' n' m) (hn : n ≤ 4194304) (hn' : n' ≤ 4194304) :
    Calls Tryz.prog 53 #[.slice a n cap, .slice a' n' cap'] w fun e w' => e = .returned (.bool (eqCts l m)) ∧ Below w.heap.size w w' := by
  have hlen : Hid (l.length = n) := h.len
  have hlen' : Hid (m.length = n') := h'.len
  by_cases hne : n = n'
  · subst hne
    have hbn : ((n : Int) != (n : Int)) = false := by simp
    go_enter Tryz.func53, Tryz.ntmps53
    go_wp2_with fail
    go_loopw [5] (fun ix wr => ∃ (k : Nat), k ≤ n ∧ ix = .int .i64 k ∧ Hid (eqCts l m = eqCts (l.drop k) (m.drop k)) ∧ Below w.heap.size w wr) (fun ix _ => n - (intOf ix).toNat)
    case atStart => exact ⟨0, Nat.zero_le _, rfl, rfl, Below.refl _ _⟩
    case round =>
      obtain ⟨k, hk, rfl, hI, hB⟩ := hrel
      by_cases hlt : k < n
      · obtain ⟨b, o, p, rfl, hp, c0, c1, c2, c3⟩ := cts_at (h.below hB) hlt
        obtain ⟨b', o', q, rfl, hq, d0, d1, d2, d3⟩ := cts_at (h'.below hB) hlt
        have hd : Hid (l.drop k = p :: l.drop (k + 1)) := drop_at hp
        have hd' : Hid (m.drop k = q :: m.drop (k + 1)) := drop_at hq
        clear hp hq
        have hk1 : (k : Int) < n := by omega
        have hk2 : (0 : Int) ≤ k := by omega
        have hneq := neqCG p q
        cases hpq : eqCt p q
        all_goals rw [hpq] at hneq
        · go_wp2_with fail
          go_quiet (fail)
          have hB2 := below_drewN hB nq
          go_wp2
          go_returns
          go_light
          refine ⟨ret_bool ?_, hB2⟩
          rw [hI.out, hd.out, hd'.out]; simp only [eqCts, hpq, Bool.false_and]
        · go_wp2_with fail
          go_quiet (fail)
          have hB2 := below_drewN hB nq
          go_wp2
          go_roundw
          case rel => exact ⟨k + 1, by omega, by go_num, by show _ = _; rw [hI.out, hd.out, hd'.out]; simp only [eqCts, hpq, Bool.true_and], hB2⟩
          case measure => simp [intOf]; omega
      · obtain rfl : k = n := by omega
        go_wp2
        go_returns
        go_light
        refine ⟨ret_bool ?_, hB⟩
        rw [hI.out, List.drop_of_length_le (Nat.le_of_eq hlen.out), List.drop_of_length_le (Nat.le_of_eq hlen'.out)]; rfl
  · have hbn : ((n : Int) != (n' : Int)) = true := by simp; omega
    go_enter Tryz.func53, Tryz.ntmps53
    go_wp2
    go_returns
    go_light
    refine ⟨ret_bool ?_, Below.refl _ _⟩
    rw [eqCts_len (by rw [hlen.out, hlen'.out]; exact hne)]

set_option maxHeartbeats 2000000 in
set_option maxRecDepth 100000 in
theorem spec_l4Held (size next : Int) (ea : Option Addr) (en ec : Nat) (va : Option Addr) (vn vc : Nat) (ra : Option Addr) (rn rc : Nat) (la : Option Addr) (ln lc : Nat) (rf lt : List Ct) (addr : Int) (w : World) (h : CtsAt w ra rn rf) (h' : CtsAt w la ln lt) (hn : rn ≤ 4194304) (hn' : ln ≤ 4194304) :
    Calls Tryz.prog 54 #[.agg #[.int .i64 size, .int .i64 next, .slice ea en ec, .slice va vn vc, .slice ra rn rc, .slice la ln lc], .int .i64 addr] w fun e w' => e = .returned (.bool ((rf ++ lt).any (fun c => c.o.a == addr))) ∧ Below w.heap.size w w' := by
  have hlen : Hid (rf.length = rn) := h.len
  have hlen' : Hid (lt.length = ln) := h'.len
  have hR : Hid ((rf ++ lt).any (fun c => c.o.a == addr) = ((rf.drop 0).any (fun c => c.o.a == addr) || lt.any (fun c => c.o.a == addr))) := by show _ = _; rw [List.any_append]; rfl
  generalize (rf ++ lt).any (fun c => c.o.a == addr) = R at *
  go_enter Tryz.func54, Tryz.ntmps54
  go_wp2_with fail
  have C4 : (w.alloc (.cells #[.int .i64 size, .int .i64 next, .slice ea en ec, .slice va vn vc, .slice ra rn rc, .slice la ln lc] 33)).cell? ⟨w.heap.size, 4, none⟩ = some (.slice ra rn rc) := (Blk.new w _ _).cell 4
  have C5 : (w.alloc (.cells #[.int .i64 size, .int .i64 next, .slice ea en ec, .slice va vn vc, .slice ra rn rc, .slice la ln lc] 33)).cell? ⟨w.heap.size, 5, none⟩ = some (.slice la ln lc) := (Blk.new w _ _).cell 5
  have hW0 : Below w.heap.size w (w.alloc (.cells #[.int .i64 size, .int .i64 next, .slice ea en ec, .slice va vn vc, .slice ra rn rc, .slice la ln lc] 33)) := by go_grown
  generalize w.alloc (.cells #[.int .i64 size, .int .i64 next, .slice ea en ec, .slice va vn vc, .slice ra rn rc, .slice la ln lc] 33) = W0 at *
  go_loopw [5] (fun ix wr => ∃ (k : Nat), k ≤ rn ∧ ix = .int .i64 k ∧ Hid (R = ((rf.drop k).any (fun c => c.o.a == addr) || lt.any (fun c => c.o.a == addr))) ∧ Below W0.heap.size W0 wr) (fun ix _ => rn - (intOf ix).toNat)
  case atStart => exact ⟨0, Nat.zero_le _, rfl, hR, Below.refl _ _⟩
  case round =>
    clear hR
    obtain ⟨k, hk, rfl, hI, hB⟩ := hrel
    have c4 := bcell hB C4
    by_cases hlt : k < rn
    · obtain ⟨b, o, p, rfl, hp, c0, c1, c2, c3⟩ := cts_at (h.below (chain hW0 hB)) hlt
      have hd : Hid (rf.drop k = p :: rf.drop (k + 1)) := drop_at hp
      clear hp c1 c2 c3
      have hk1 : (k : Int) < rn := by omega
      have hk2 : (0 : Int) ≤ k := by omega
      cases he : (p.o.a == addr)
      · go_wp2
        go_roundw
        case rel => exact ⟨k + 1, by omega, by go_num, by show _ = _; rw [hI.out, hd.out]; simp only [List.any_cons, he, Bool.false_or], hB⟩
        case measure => simp [intOf]; omega
      · go_wp2
        go_returns
        exact ⟨ret_bool (by rw [hI.out, hd.out]; simp [he]), chain hW0 hB⟩
    · obtain rfl : k = rn := by omega
      have hI2 : Hid (R = (lt.drop 0).any (fun c => c.o.a == addr)) := by show _ = _; rw [hI.out, List.drop_of_length_le (Nat.le_of_eq hlen.out)]; rfl
      obtain ⟨wi, hwi⟩ : ∃ x, x = wr := ⟨_, rfl⟩
      subst hwi
      clear hI
      go_wp2_with fail
      go_loopw [6] (fun ix wr => ∃ (j : Nat), j ≤ ln ∧ ix = .int .i64 j ∧ Hid (R = (lt.drop j).any (fun c => c.o.a == addr)) ∧ Below W0.heap.size W0 wr) (fun ix _ => ln - (intOf ix).toNat)
      case atStart => exact ⟨0, Nat.zero_le _, rfl, hI2, hB⟩
      case round =>
        clear hI2 hB c4
        obtain ⟨j, hj, rfl, hI, hB⟩ := hrel
        have c5 := bcell hB C5
        by_cases hlt2 : j < ln
        · obtain ⟨b, o, p, rfl, hp, c0, c1, c2, c3⟩ := cts_at (h'.below (chain hW0 hB)) hlt2
          have hd : Hid (lt.drop j = p :: lt.drop (j + 1)) := drop_at hp
          clear hp c1 c2 c3
          have hk1 : (j : Int) < ln := by omega
          have hk2 : (0 : Int) ≤ j := by omega
          cases he : (p.o.a == addr)
          · go_wp2
            go_roundw
            case rel => exact ⟨j + 1, by omega, by go_num, by show _ = _; rw [hI.out, hd.out]; simp only [List.any_cons, he, Bool.false_or], hB⟩
            case measure => simp [intOf]; omega
          · go_wp2
            go_returns
            exact ⟨ret_bool (by rw [hI.out, hd.out]; simp [he]), chain hW0 hB⟩
        · obtain rfl : j = ln := by omega
          go_wp2
          go_returns
          exact ⟨ret_bool (by rw [hI.out, List.drop_of_length_le (Nat.le_of_eq hlen'.out)]; rfl), chain hW0 hB⟩
end Go.Proofs.YtllbojcjdpelnaaGreat
namespace Go.Proofs.YtllbojcjdpelnaaGreat
open Go.RowKit Go.BigFrame

set_option maxHeartbeats 1000000 in
theorem slices_Equal (a : Option Addr) (n cap : Nat) (l : List Ct) (a' : Option Addr) (n' cap' : Nat) (m : List Ct) (w : World) (h : CtsAt w a n l) (h' : CtsAt w a' n' m) (hn : n ≤ 4194304) (hn' : n' ≤ 4194304) :
    Calls Tryz.prog 59 #[.slice a n cap, .slice a' n' cap'] w fun e w' => e = .returned (.bool (eqCts l m)) ∧ Below w.heap.size w w' := by
  have hlen : Hid (l.length = n) := h.len
  have hlen' : Hid (m.length = n') := h'.len
  by_cases hne : n = n'
  · subst hne
    have hbn : ((n : Int) != (n : Int)) = false := by simp
    go_enter Tryz.func59, Tryz.ntmps59
    go_wp2_with fail
    go_loopw [13] (fun ix wr => ∃ (k : Nat), k ≤ n ∧ ix = .int .i64 k ∧ Hid (eqCts l m = eqCts (l.drop k) (m.drop k)) ∧ Below w.heap.size w wr) (fun ix _ => n - (intOf ix).toNat)
    case atStart => exact ⟨0, Nat.zero_le _, rfl, rfl, Below.refl _ _⟩
    case round =>
      obtain ⟨k, hk, rfl, hI, hB⟩ := hrel
      by_cases hlt : k < n
      · obtain ⟨b, o, p, rfl, hp, c0, c1, c2, c3⟩ := cts_at (h.below hB) hlt
        obtain ⟨b', o', q, rfl, hq, d0, d1, d2, d3⟩ := cts_at (h'.below hB) hlt
        have hd : Hid (l.drop k = p :: l.drop (k + 1)) := drop_at hp
        have hd' : Hid (m.drop k = q :: m.drop (k + 1)) := drop_at hq
        clear hp hq
        have hk1 : (k : Int) < n := by omega
        have hk2 : (0 : Int) ≤ k := by omega
        have hneq := neqCG p q
        cases hpq : eqCt p q
        all_goals rw [hpq] at hneq
        · go_wp2_with fail
          go_quiet (fail)
          have hB2 := below_drewN hB nq
          go_wp2
          go_returns
          go_light
          refine ⟨ret_bool ?_, hB2⟩
          rw [hI.out, hd.out, hd'.out]; simp only [eqCts, hpq, Bool.false_and]
        · go_wp2_with fail
          go_quiet (fail)
          have hB2 := below_drewN hB nq
          go_wp2
          go_roundw
          case rel => exact ⟨k + 1, by omega, by go_num, by show _ = _; rw [hI.out, hd.out, hd'.out]; simp only [eqCts, hpq, Bool.true_and], hB2⟩
          case measure => simp [intOf]; omega
      · obtain rfl : k = n := by omega
        go_wp2
        go_returns
        go_light
        refine ⟨ret_bool ?_, hB⟩
        rw [hI.out, List.drop_of_length_le (Nat.le_of_eq hlen.out), List.drop_of_length_le (Nat.le_of_eq hlen'.out)]; rfl
  · have hbn : ((n : Int) != (n' : Int)) = true := by simp; omega
    go_enter Tryz.func59, Tryz.ntmps59
    go_wp2
    go_returns
    go_light
    refine ⟨ret_bool ?_, Below.refl _ _⟩
    rw [eqCts_len (by rw [hlen.out, hlen'.out]; exact hne)]

set_option maxHeartbeats 4000000 in
set_option maxRecDepth 100000 in
theorem impl_addrsOk (size next : Int) (ea : Option Addr) (en ec : Nat) (va : Option Addr) (vn vc : Nat) (ra : Option Addr) (rn rc : Nat) (la : Option Addr) (ln lc : Nat) (ex : List Ex) (rf lt : List Ct) (w : World) (h1 : ExsAt w ea en ex) (h3 : CtsAt w ra rn rf) (h4 : CtsAt w la ln lt) (z1 : en ≤ 4194304) (z3 : rn ≤ 200) (z4 : ln ≤ 200) (hx : ∀ x ∈ ex, (Lit.int .i64 x.a).wf = true) (hc3 : ∀ c ∈ rf, (Lit.int .i64 c.o.a).wf = true) (hc4 : ∀ c ∈ lt, (Lit.int .i64 c.o.a).wf = true) (hnd : (ex.map (·.a)).Nodup) :
    Calls Tryz.prog 60 #[.agg #[.int .i64 size, .int .i64 next, .slice ea en ec, .slice va vn vc, .slice ra rn rc, .slice la ln lc]] w fun e w' => e = .returned (.bool (addrB ex (rf ++ lt))) ∧ Below w.heap.size w w' := by
  have hmm := @run_makeMap Tryz.prog
  have n1 : Hid (ex.length = en) := h1.len
  have n3 : Hid (rf.length = rn) := h3.len
  have n4 : Hid (lt.length = ln) := h4.len
  have hR0 : Hid (∀ K : List Lit, K.Nodup → (∀ k ∈ K, ∃ c ∈ rf ++ lt, k = .int .i64 c.o.a) → (∀ c ∈ rf ++ lt, Lit.int .i64 c.o.a ∈ K) → (ex.all (fun x => (rf ++ lt).any (fun c => c.o.a == x.a)) && decide (K.length = ex.length)) = addrB ex (rf ++ lt)) := fun K h1 h2 h3 => addr_sets hnd h1 h2 h3
  have hF0 : Hid (ex.all (fun x => (rf ++ lt).any (fun c => c.o.a == x.a)) = false → addrB ex (rf ++ lt) = false) := fun h => by unfold addrB; rw [h]; rfl
  generalize addrB ex (rf ++ lt) = R at *
  go_enter Tryz.func60, Tryz.ntmps60
  have C := (Blk.new w #[.int .i64 size, .int .i64 next, .slice ea en ec, .slice va vn vc, .slice ra rn rc, .slice la ln lc] 33)
  have hB1 : Below w.heap.size w (w.alloc (.cells #[.int .i64 size, .int .i64 next, .slice ea en ec, .slice va vn vc, .slice ra rn rc, .slice la ln lc] 33)) := by go_grown
  have hs1 : (w.alloc (.cells #[.int .i64 size, .int .i64 next, .slice ea en ec, .slice va vn vc, .slice ra rn rc, .slice la ln lc] 33)).heap.size = w.heap.size + 1 := by simp
  go_wp2_with fail
  generalize w.alloc (.cells #[.int .i64 size, .int .i64 next, .slice ea en ec, .slice va vn vc, .slice ra rn rc, .slice la ln lc] 33) = W0 at *
  have hM := AdAt.made W0
  have C1 := C.alloc (.map #[] 0)
  have hB2 : Below w.heap.size w (W0.alloc (.map #[] 0)) := hB1.alloc (by omega) _
  clear C hB1
  rw [hs1] at hM
  generalize W0.alloc (.map #[] 0) = W1 at *
  clear hs1
  go_loopw [14] (fun ix wr => ∃ (k : Nat), k ≤ rn ∧ ix = .int .i64 k ∧ AdAt wr (w.heap.size + 1) k (rf.take k) ∧ Blk wr w.heap.size #[.int .i64 size, .int .i64 next, .slice ea en ec, .slice va vn vc, .slice ra rn rc, .slice la ln lc] 33 ∧ Below w.heap.size w wr) (fun ix _ => rn - (intOf ix).toNat)
  case atStart => exact ⟨0, Nat.zero_le _, rfl, hM, C1, hB2⟩
  case round =>
    clear hM C1 hB2
    obtain ⟨k, hk, rfl, A, C, hB⟩ := hrel
    by_cases hlt : k < rn
    · obtain ⟨b, o, p, rfl, hp, c0, c1, c2, c3⟩ := cts_at (h3.below hB) hlt
      have hwp := hc3 p (List.mem_of_getElem? hp)
      have hk1 : (k : Int) < rn := by omega
      have hk2 : (0 : Int) ≤ k := by omega
      have hlk : (rf.take k).length ≤ 200 := by rw [List.length_take]; omega
      have htk : Hid (rf.take k ++ [p] = rf.take (k + 1)) := (take_at hp).symm
      have hcb := cntA_bd p.o.a (rf.take k)
      have gW : wr.grownBy (wr.alloc (.cells #[.int .i64 p.o.a, .int .i64 p.o.v, .string p.o.f, .int .i64 p.n] 70)) (some (w.heap.size + 1)) := World.grownBy_alloc wr _ _
      have A1 : AdAt (wr.alloc (.cells #[.int .i64 p.o.a, .int .i64 p.o.v, .string p.o.f, .int .i64 p.n] 70)) (w.heap.size + 1) k (rf.take k) := A.kept (World.grownBy_alloc wr _ none) (by simp)
      have z0 : (wr.alloc (.cells #[.int .i64 p.o.a, .int .i64 p.o.v, .string p.o.f, .int .i64 p.n] 70)).cell? ⟨wr.heap.size, 0, none⟩ = some (.int .i64 p.o.a) := by simp
      have r1 := A1.look hwp
      obtain ⟨w3, r2, A2, g2⟩ := A1.bump (by unfold maxLen; omega) (by omega) hwp
      have g3 : wr.grownBy w3 (some (w.heap.size + 1)) := gW.andThen g2 (fun j hj => by cases hj; exact .inr rfl)
      have hB3 : Below w.heap.size w w3 := hB.grown g3 hB.size (fun j hj => by cases hj; omega)
      have C3 : Blk w3 w.heap.size #[.int .i64 size, .int .i64 next, .slice ea en ec, .slice va vn vc, .slice (some ⟨b, o, none⟩) rn rc, .slice la ln lc] 33 := (g3.block _ C.lt (by simp only [ne_eq, Option.some.injEq]; omega)).trans C
      rw [htk.out] at A2
      clear hp A A1 htk
      generalize cntA p.o.a (rf.take k) = Z at *
      obtain ⟨hZ1, hZ2⟩ := hcb
      go_wp2
      go_roundw
      case rel => exact ⟨k + 1, by omega, by go_num, A2, C3, hB3⟩
      case measure => simp [intOf]; omega
    · obtain rfl : k = rn := by omega
      rw [List.take_of_length_le (Nat.le_of_eq n3.out)] at A
      have d5 := C.cell 5
      simp only [List.getElem?_toArray, List.getElem?_cons_zero, List.getElem?_cons_succ] at d5
      obtain ⟨wi, hwi⟩ : ∃ x, x = wr := ⟨_, rfl⟩
      subst hwi
      go_wp2_with fail
      go_loopw [28] (fun ix wr => ∃ (j : Nat), j ≤ ln ∧ ix = .int .i64 j ∧ AdAt wr (w.heap.size + 1) (k + j) (rf ++ lt.take j) ∧ Blk wr w.heap.size #[.int .i64 size, .int .i64 next, .slice ea en ec, .slice va vn vc, .slice ra k rc, .slice la ln lc] 33 ∧ Below w.heap.size w wr) (fun ix _ => ln - (intOf ix).toNat)
      case atStart => exact ⟨0, Nat.zero_le _, rfl, by simpa using A, C, hB⟩
      case round =>
        clear A C hB d5
        obtain ⟨j, hj, rfl, A, C, hB⟩ := hrel
        by_cases hlt2 : j < ln
        · obtain ⟨b, o, p, rfl, hp, c0, c1, c2, c3⟩ := cts_at (h4.below hB) hlt2
          have hwp := hc4 p (List.mem_of_getElem? hp)
          have hk1 : (j : Int) < ln := by omega
          have hk2 : (0 : Int) ≤ j := by omega
          have hlk : (rf ++ lt.take j).length ≤ 400 := by rw [List.length_append, List.length_take, n3.out]; omega
          have htk : Hid (rf ++ lt.take j ++ [p] = rf ++ lt.take (j + 1)) := by show _ = _; rw [take_at hp, List.append_assoc]
          have hcb := cntA_bd p.o.a (rf ++ lt.take j)
          have gW : wr.grownBy (wr.alloc (.cells #[.int .i64 p.o.a, .int .i64 p.o.v, .string p.o.f, .int .i64 p.n] 70)) (some (w.heap.size + 1)) := World.grownBy_alloc wr _ _
          have A1 : AdAt (wr.alloc (.cells #[.int .i64 p.o.a, .int .i64 p.o.v, .string p.o.f, .int .i64 p.n] 70)) (w.heap.size + 1) (k + j) (rf ++ lt.take j) := A.kept (World.grownBy_alloc wr _ none) (by simp)
          have z0 : (wr.alloc (.cells #[.int .i64 p.o.a, .int .i64 p.o.v, .string p.o.f, .int .i64 p.n] 70)).cell? ⟨wr.heap.size, 0, none⟩ = some (.int .i64 p.o.a) := by simp
          have r1 := A1.look hwp
          obtain ⟨w3, r2, A2, g2⟩ := A1.bump (by unfold maxLen; omega) (by omega) hwp
          have g3 : wr.grownBy w3 (some (w.heap.size + 1)) := gW.andThen g2 (fun j hj => by cases hj; exact .inr rfl)
          have hB3 : Below w.heap.size w w3 := hB.grown g3 hB.size (fun j hj => by cases hj; omega)
          have C3 : Blk w3 w.heap.size #[.int .i64 size, .int .i64 next, .slice ea en ec, .slice va vn vc, .slice ra k rc, .slice (some ⟨b, o, none⟩) ln lc] 33 := (g3.block _ C.lt (by simp only [ne_eq, Option.some.injEq]; omega)).trans C
          rw [htk.out] at A2
          clear hp A A1 htk
          generalize cntA p.o.a (rf ++ lt.take j) = Z at *
          obtain ⟨hZ1, hZ2⟩ := hcb
          go_wp2
          go_roundw
          case rel => exact ⟨j + 1, by omega, by go_num, A2, C3, hB3⟩
          case measure => simp [intOf]; omega
        · obtain rfl : j = ln := by omega
          rw [List.take_of_length_le (Nat.le_of_eq n4.out)] at A
          have d2 := C.cell 2
          simp only [List.getElem?_toArray, List.getElem?_cons_zero, List.getElem?_cons_succ] at d2
          obtain ⟨wj, hwj⟩ : ∃ x, x = wr := ⟨_, rfl⟩
          subst hwj
          go_wp2_with fail
          go_loopw [42] (fun ix wr => ∃ (i : Nat), i ≤ en ∧ ix = .int .i64 i ∧ Hid (ex.all (fun x => (rf ++ lt).any (fun c => c.o.a == x.a)) = (ex.drop i).all (fun x => (rf ++ lt).any (fun c => c.o.a == x.a))) ∧ AdAt wr (w.heap.size + 1) (k + j) (rf ++ lt) ∧ Blk wr w.heap.size #[.int .i64 size, .int .i64 next, .slice ea en ec, .slice va vn vc, .slice ra k rc, .slice la j lc] 33 ∧ Below w.heap.size w wr) (fun ix _ => en - (intOf ix).toNat)
          case atStart => exact ⟨0, Nat.zero_le _, rfl, rfl, A, C, hB⟩
          case round =>
            clear A C hB d2
            obtain ⟨i, hi, rfl, hI, A, C, hB⟩ := hrel
            by_cases hlt3 : i < en
            · obtain ⟨b, o, x, rfl, hxi, c0, c1⟩ := exs_at (h1.below hB) hlt3
              have hwx := hx x (List.mem_of_getElem? hxi)
              have hd : Hid (ex.drop i = x :: ex.drop (i + 1)) := drop_at hxi
              have hk1 : (i : Int) < en := by omega
              have hk2 : (0 : Int) ≤ i := by omega
              clear hxi
              have A1 : AdAt (wr.alloc (.cells #[.int .i64 x.a, .string x.d] 86)) (w.heap.size + 1) (k + j) (rf ++ lt) := A.kept (World.grownBy_alloc wr _ none) (by simp)
              have z0 : (wr.alloc (.cells #[.int .i64 x.a, .string x.d] 86)).cell? ⟨wr.heap.size, 0, none⟩ = some (.int .i64 x.a) := by simp
              have C3 := C.alloc (.cells #[.int .i64 x.a, .string x.d] 86)
              have hB3 : Below w.heap.size w (wr.alloc (.cells #[.int .i64 x.a, .string x.d] 86)) := hB.alloc hB.size _
              have r1 := A1.look hwx
              have hz := cntA_zero x.a (rf ++ lt)
              have hcb := cntA_bd x.a (rf ++ lt)
              generalize cntA x.a (rf ++ lt) = Z at *
              cases hany : (rf ++ lt).any (fun c => c.o.a == x.a)
              · rw [hany] at hz
                replace hz : (Z == 0) = true := hz
                have hf : R = false := hF0.out (by rw [hI.out, hd.out, List.all_cons, hany]; rfl)
                clear hany
                go_wp2
                go_returns
                exact ⟨by rw [hf]; rfl, hB3⟩
              · rw [hany] at hz
                replace hz : (Z == 0) = false := hz
                have hI2 : Hid (ex.all (fun x => (rf ++ lt).any (fun c => c.o.a == x.a)) = (ex.drop (i + 1)).all (fun x => (rf ++ lt).any (fun c => c.o.a == x.a))) := by show _ = _; rw [hI.out, hd.out, List.all_cons, hany]; rfl
                clear hany
                go_wp2
                go_roundw
                case rel => exact ⟨i + 1, by omega, by go_num, hI2, A1, C3, hB3⟩
                case measure => simp [intOf]; omega
            · obtain rfl : i = en := by omega
              have hall : ex.all (fun x => (rf ++ lt).any (fun c => c.o.a == x.a)) = true := by rw [hI.out, List.drop_of_length_le (Nat.le_of_eq n1.out)]; rfl
              obtain ⟨K, hK, hKn, k1, k2, k3⟩ := A.len 3
              have hfin := hR0.out K k1 k2 k3
              rw [hall, Bool.true_and, n1.out] at hfin
              have d2 := C.cell 2
              simp only [List.getElem?_toArray, List.getElem?_cons_zero, List.getElem?_cons_succ] at d2
              have hfin' : Hid (((K.length : Int) == (i : Int)) = R) := by
                show _ = _
                rw [← hfin, Bool.eq_iff_iff]
                simp only [beq_iff_eq, decide_eq_true_eq]
                omega
              clear hfin hall hI
              go_wp2
              go_returns
              exact ⟨by rw [← hfin'.out]; rfl, hB⟩
end Go.Proofs.YtllbojcjdpelnaaGreat
