/- slices.Equal at counts, and addrsOk of the program. The laws' sizes of lists of items and volumes. -/
import Derived.Test.YtigldeccfpkdmaaGreatDoorProg
import Derived.Test.YtigldeccfpkdmaaGreatDoorCSuperTextx15
import Derived.Test.YtigldeccfpkdmaaGreatDoorCSuperTextx14
import Derived.Test.YtigldeccfpkdmaaGreatDoorCSuperTextx09
namespace Go.Proofs.YtigldeccfpkdmaaGreatDoor
open Go.RowKit Go.BigFrame
set_option maxHeartbeats 1000000 in
theorem slices_Equal (a : Option Addr) (n cap : Nat) (l : List Ct) (a' : Option Addr) (n' cap' : Nat) (m : List Ct) (w : World) (h : CtsAt w a n l) (h' : CtsAt w a' n' m) (hn : n ≤ 4194304) (hn' : n' ≤ 4194304) :
    Calls Tryz.prog 103 #[.slice a n cap, .slice a' n' cap'] w fun e w' => e = .returned (.bool (eqCts l m)) ∧ Below w.heap.size w w' := by
  have hlen : Hid (l.length = n) := h.len
  have hlen' : Hid (m.length = n') := h'.len
  by_cases hne : n = n'
  · subst hne
    have hbn : ((n : Int) != (n : Int)) = false := by simp
    go_enter Tryz.func103, Tryz.ntmps103
    go_wp2_with fail
    go_loopw [13] (fun ix wr => ∃ (k : Nat), k ≤ n ∧ ix = .int .i64 k ∧ Hid (eqCts l m = eqCts (l.drop k) (m.drop k)) ∧ Below w.heap.size w wr) (fun ix _ => n - (intOf ix).toNat)
    case atStart => exact ⟨0, Nat.zero_le _, rfl, rfl, Below.refl _ _⟩
    case round =>
      obtain ⟨k, hk, rfl, hI, hB⟩ := hrel
      by_cases hlt : k < n
      · obtain ⟨b, o, p, rfl, hp, c0, c1, c2, c3⟩ := cts_at (h.below hB) hlt
        obtain ⟨b', o', q, rfl, hq, d0, d1, d2, d3⟩ := cts_at (h'.below hB) hlt
        have hd : Hid (l.drop k = p :: l.drop (k + 1)) := drop_at hp
        have hd' : Hid (m.drop k = q :: m.drop (k + 1)) := drop_at hq
        clear hp hq
        have hk1 : (k : Int) < n := by omega
        have hk2 : (0 : Int) ≤ k := by omega
        have hneq := neqCG p q
        cases hpq : eqCt p q
        all_goals rw [hpq] at hneq
        · go_wp2_with fail
          go_quiet (fail)
          have hB2 := below_drewN hB nq
          go_wp2
          go_returns
          go_light
          refine ⟨ret_bool ?_, hB2⟩
          rw [hI.out, hd.out, hd'.out]; simp only [eqCts, hpq, Bool.false_and]
        · go_wp2_with fail
          go_quiet (fail)
          have hB2 := below_drewN hB nq
          go_wp2
          go_roundw
          case rel => exact ⟨k + 1, by omega, by go_num, by show _ = _; rw [hI.out, hd.out, hd'.out]; simp only [eqCts, hpq, Bool.true_and], hB2⟩
          case measure => simp [intOf]; omega
      · obtain rfl : k = n := by omega
        go_wp2
        go_returns
        go_light
        refine ⟨ret_bool ?_, hB⟩
        rw [hI.out, List.drop_of_length_le (Nat.le_of_eq hlen.out), List.drop_of_length_le (Nat.le_of_eq hlen'.out)]; rfl
  · have hbn : ((n : Int) != (n' : Int)) = true := by simp; omega
    go_enter Tryz.func103, Tryz.ntmps103
    go_wp2
    go_returns
    go_light
    refine ⟨ret_bool ?_, Below.refl _ _⟩
    rw [eqCts_len (by rw [hlen.out, hlen'.out]; exact hne)]
set_option maxHeartbeats 4000000 in
set_option maxRecDepth 100000 in
theorem impl_addrsOk (size next : Int) (ea : Option Addr) (en ec : Nat) (va : Option Addr) (vn vc : Nat) (ra : Option Addr) (rn rc : Nat) (la : Option Addr) (ln lc : Nat) (ex : List Ex) (rf lt : List Ct) (w : World) (h1 : ExsAt w ea en ex) (h3 : CtsAt w ra rn rf) (h4 : CtsAt w la ln lt) (z1 : en ≤ 4194304) (z3 : rn ≤ 200) (z4 : ln ≤ 200) (hx : ∀ x ∈ ex, (Lit.int .i64 x.a).wf = true) (hc3 : ∀ c ∈ rf, (Lit.int .i64 c.o.a).wf = true) (hc4 : ∀ c ∈ lt, (Lit.int .i64 c.o.a).wf = true) (hnd : (ex.map (·.a)).Nodup) :
    Calls Tryz.prog 105 #[.agg #[.int .i64 size, .int .i64 next, .slice ea en ec, .slice va vn vc, .slice ra rn rc, .slice la ln lc]] w fun e w' => e = .returned (.bool (addrB ex (rf ++ lt))) ∧ Below w.heap.size w w' := by
  have hmm := @run_makeMap Tryz.prog
  have n1 : Hid (ex.length = en) := h1.len
  have n3 : Hid (rf.length = rn) := h3.len
  have n4 : Hid (lt.length = ln) := h4.len
  have hR0 : Hid (∀ K : List Lit, K.Nodup → (∀ k ∈ K, ∃ c ∈ rf ++ lt, k = .int .i64 c.o.a) → (∀ c ∈ rf ++ lt, Lit.int .i64 c.o.a ∈ K) → (ex.all (fun x => (rf ++ lt).any (fun c => c.o.a == x.a)) && decide (K.length = ex.length)) = addrB ex (rf ++ lt)) := fun K h1 h2 h3 => addr_sets hnd h1 h2 h3
  have hF0 : Hid (ex.all (fun x => (rf ++ lt).any (fun c => c.o.a == x.a)) = false → addrB ex (rf ++ lt) = false) := fun h => by unfold addrB; rw [h]; rfl
  generalize addrB ex (rf ++ lt) = R at *
  go_enter Tryz.func105, Tryz.ntmps105
  have C := (Blk.new w #[.int .i64 size, .int .i64 next, .slice ea en ec, .slice va vn vc, .slice ra rn rc, .slice la ln lc] 26)
  have hB1 : Below w.heap.size w (w.alloc (.cells #[.int .i64 size, .int .i64 next, .slice ea en ec, .slice va vn vc, .slice ra rn rc, .slice la ln lc] 26)) := by go_grown
  have hs1 : (w.alloc (.cells #[.int .i64 size, .int .i64 next, .slice ea en ec, .slice va vn vc, .slice ra rn rc, .slice la ln lc] 26)).heap.size = w.heap.size + 1 := by simp
  go_wp2_with fail
  generalize w.alloc (.cells #[.int .i64 size, .int .i64 next, .slice ea en ec, .slice va vn vc, .slice ra rn rc, .slice la ln lc] 26) = W0 at *
  have hM := AdAt.made W0
  have C1 := C.alloc (.map #[] 0)
  have hB2 : Below w.heap.size w (W0.alloc (.map #[] 0)) := hB1.alloc (by omega) _
  clear C hB1
  rw [hs1] at hM
  generalize W0.alloc (.map #[] 0) = W1 at *
  clear hs1
  go_loopw [14] (fun ix wr => ∃ (k : Nat), k ≤ rn ∧ ix = .int .i64 k ∧ AdAt wr (w.heap.size + 1) k (rf.take k) ∧ Blk wr w.heap.size #[.int .i64 size, .int .i64 next, .slice ea en ec, .slice va vn vc, .slice ra rn rc, .slice la ln lc] 26 ∧ Below w.heap.size w wr) (fun ix _ => rn - (intOf ix).toNat)
  case atStart => exact ⟨0, Nat.zero_le _, rfl, hM, C1, hB2⟩
  case round =>
    clear hM C1 hB2
    obtain ⟨k, hk, rfl, A, C, hB⟩ := hrel
    by_cases hlt : k < rn
    · obtain ⟨b, o, p, rfl, hp, c0, c1, c2, c3⟩ := cts_at (h3.below hB) hlt
      have hwp := hc3 p (List.mem_of_getElem? hp)
      have hk1 : (k : Int) < rn := by omega
      have hk2 : (0 : Int) ≤ k := by omega
      have hlk : (rf.take k).length ≤ 200 := by rw [List.length_take]; omega
      have htk : Hid (rf.take k ++ [p] = rf.take (k + 1)) := (take_at hp).symm
      have hcb := cntZ_bd p.o.a (rf.take k)
      have gW : wr.grownBy (wr.alloc (.cells #[.int .i64 p.o.a, .int .i64 p.o.v, .string p.o.f, .int .i64 p.n] 134)) (some (w.heap.size + 1)) := World.grownBy_alloc wr _ _
      have A1 : AdAt (wr.alloc (.cells #[.int .i64 p.o.a, .int .i64 p.o.v, .string p.o.f, .int .i64 p.n] 134)) (w.heap.size + 1) k (rf.take k) := A.kept (World.grownBy_alloc wr _ none) (by simp)
      have z0 : (wr.alloc (.cells #[.int .i64 p.o.a, .int .i64 p.o.v, .string p.o.f, .int .i64 p.n] 134)).cell? ⟨wr.heap.size, 0, none⟩ = some (.int .i64 p.o.a) := by simp
      have r1 := A1.look hwp
      obtain ⟨w3, r2, A2, g2⟩ := A1.bump (by unfold maxLen; omega) (by omega) hwp
      have g3 : wr.grownBy w3 (some (w.heap.size + 1)) := gW.andThen g2 (fun j hj => by cases hj; exact .inr rfl)
      have hB3 : Below w.heap.size w w3 := hB.grown g3 hB.size (fun j hj => by cases hj; omega)
      have C3 : Blk w3 w.heap.size #[.int .i64 size, .int .i64 next, .slice ea en ec, .slice va vn vc, .slice (some ⟨b, o, none⟩) rn rc, .slice la ln lc] 26 := (g3.block _ C.lt (by simp only [ne_eq, Option.some.injEq]; omega)).trans C
      rw [htk.out] at A2
      clear hp A A1 htk
      generalize cntZ p.o.a (rf.take k) = Z at *
      obtain ⟨hZ1, hZ2⟩ := hcb
      go_wp2
      go_roundw
      case rel => exact ⟨k + 1, by omega, by go_num, A2, C3, hB3⟩
      case measure => simp [intOf]; omega
    · obtain rfl : k = rn := by omega
      rw [List.take_of_length_le (Nat.le_of_eq n3.out)] at A
      have d5 := C.cell 5
      simp only [lgA, lgB, lgC] at d5
      obtain ⟨wi, hwi⟩ : ∃ x, x = wr := ⟨_, rfl⟩
      subst hwi
      go_wp2_with fail
      go_loopw [28] (fun ix wr => ∃ (j : Nat), j ≤ ln ∧ ix = .int .i64 j ∧ AdAt wr (w.heap.size + 1) (k + j) (rf ++ lt.take j) ∧ Blk wr w.heap.size #[.int .i64 size, .int .i64 next, .slice ea en ec, .slice va vn vc, .slice ra k rc, .slice la ln lc] 26 ∧ Below w.heap.size w wr) (fun ix _ => ln - (intOf ix).toNat)
      case atStart => exact ⟨0, Nat.zero_le _, rfl, by simpa using A, C, hB⟩
      case round =>
        clear A C hB d5
        obtain ⟨j, hj, rfl, A, C, hB⟩ := hrel
        by_cases hlt2 : j < ln
        · obtain ⟨b, o, p, rfl, hp, c0, c1, c2, c3⟩ := cts_at (h4.below hB) hlt2
          have hwp := hc4 p (List.mem_of_getElem? hp)
          have hk1 : (j : Int) < ln := by omega
          have hk2 : (0 : Int) ≤ j := by omega
          have hlk : (rf ++ lt.take j).length ≤ 400 := by rw [List.length_append, List.length_take, n3.out]; omega
          have htk : Hid (rf ++ lt.take j ++ [p] = rf ++ lt.take (j + 1)) := by show _ = _; rw [take_at hp, List.append_assoc]
          have hcb := cntZ_bd p.o.a (rf ++ lt.take j)
          have gW : wr.grownBy (wr.alloc (.cells #[.int .i64 p.o.a, .int .i64 p.o.v, .string p.o.f, .int .i64 p.n] 134)) (some (w.heap.size + 1)) := World.grownBy_alloc wr _ _
          have A1 : AdAt (wr.alloc (.cells #[.int .i64 p.o.a, .int .i64 p.o.v, .string p.o.f, .int .i64 p.n] 134)) (w.heap.size + 1) (k + j) (rf ++ lt.take j) := A.kept (World.grownBy_alloc wr _ none) (by simp)
          have z0 : (wr.alloc (.cells #[.int .i64 p.o.a, .int .i64 p.o.v, .string p.o.f, .int .i64 p.n] 134)).cell? ⟨wr.heap.size, 0, none⟩ = some (.int .i64 p.o.a) := by simp
          have r1 := A1.look hwp
          obtain ⟨w3, r2, A2, g2⟩ := A1.bump (by unfold maxLen; omega) (by omega) hwp
          have g3 : wr.grownBy w3 (some (w.heap.size + 1)) := gW.andThen g2 (fun j hj => by cases hj; exact .inr rfl)
          have hB3 : Below w.heap.size w w3 := hB.grown g3 hB.size (fun j hj => by cases hj; omega)
          have C3 : Blk w3 w.heap.size #[.int .i64 size, .int .i64 next, .slice ea en ec, .slice va vn vc, .slice ra k rc, .slice (some ⟨b, o, none⟩) ln lc] 26 := (g3.block _ C.lt (by simp only [ne_eq, Option.some.injEq]; omega)).trans C
          rw [htk.out] at A2
          clear hp A A1 htk
          generalize cntZ p.o.a (rf ++ lt.take j) = Z at *
          obtain ⟨hZ1, hZ2⟩ := hcb
          go_wp2
          go_roundw
          case rel => exact ⟨j + 1, by omega, by go_num, A2, C3, hB3⟩
          case measure => simp [intOf]; omega
        · obtain rfl : j = ln := by omega
          rw [List.take_of_length_le (Nat.le_of_eq n4.out)] at A
          have d2 := C.cell 2
          simp only [lgA, lgB, lgC] at d2
          obtain ⟨wj, hwj⟩ : ∃ x, x = wr := ⟨_, rfl⟩
          subst hwj
          go_wp2_with fail
          go_loopw [42] (fun ix wr => ∃ (i : Nat), i ≤ en ∧ ix = .int .i64 i ∧ Hid (ex.all (fun x => (rf ++ lt).any (fun c => c.o.a == x.a)) = (ex.drop i).all (fun x => (rf ++ lt).any (fun c => c.o.a == x.a))) ∧ AdAt wr (w.heap.size + 1) (k + j) (rf ++ lt) ∧ Blk wr w.heap.size #[.int .i64 size, .int .i64 next, .slice ea en ec, .slice va vn vc, .slice ra k rc, .slice la j lc] 26 ∧ Below w.heap.size w wr) (fun ix _ => en - (intOf ix).toNat)
          case atStart => exact ⟨0, Nat.zero_le _, rfl, rfl, A, C, hB⟩
          case round =>
            clear A C hB d2
            obtain ⟨i, hi, rfl, hI, A, C, hB⟩ := hrel
            by_cases hlt3 : i < en
            · obtain ⟨b, o, x, rfl, hxi, c0, c1⟩ := exs_at (h1.below hB) hlt3
              have hwx := hx x (List.mem_of_getElem? hxi)
              have hd : Hid (ex.drop i = x :: ex.drop (i + 1)) := drop_at hxi
              have hk1 : (i : Int) < en := by omega
              have hk2 : (0 : Int) ≤ i := by omega
              clear hxi
              have A1 : AdAt (wr.alloc (.cells #[.int .i64 x.a, .string x.d] 136)) (w.heap.size + 1) (k + j) (rf ++ lt) := A.kept (World.grownBy_alloc wr _ none) (by simp)
              have z0 : (wr.alloc (.cells #[.int .i64 x.a, .string x.d] 136)).cell? ⟨wr.heap.size, 0, none⟩ = some (.int .i64 x.a) := by simp
              have C3 := C.alloc (.cells #[.int .i64 x.a, .string x.d] 136)
              have hB3 : Below w.heap.size w (wr.alloc (.cells #[.int .i64 x.a, .string x.d] 136)) := hB.alloc hB.size _
              have r1 := A1.look hwx
              have hz := cntZ_zero x.a (rf ++ lt)
              have hcb := cntZ_bd x.a (rf ++ lt)
              generalize cntZ x.a (rf ++ lt) = Z at *
              cases hany : (rf ++ lt).any (fun c => c.o.a == x.a)
              · rw [hany] at hz
                replace hz : (Z == 0) = true := hz
                have hf : R = false := hF0.out (by rw [hI.out, hd.out, List.all_cons, hany]; rfl)
                clear hany
                go_wp2
                go_returns
                exact ⟨by rw [hf]; rfl, hB3⟩
              · rw [hany] at hz
                replace hz : (Z == 0) = false := hz
                have hI2 : Hid (ex.all (fun x => (rf ++ lt).any (fun c => c.o.a == x.a)) = (ex.drop (i + 1)).all (fun x => (rf ++ lt).any (fun c => c.o.a == x.a))) := by show _ = _; rw [hI.out, hd.out, List.all_cons, hany]; rfl
                clear hany
                go_wp2
                go_roundw
                case rel => exact ⟨i + 1, by omega, by go_num, hI2, A1, C3, hB3⟩
                case measure => simp [intOf]; omega
            · obtain rfl : i = en := by omega
              have hall : ex.all (fun x => (rf ++ lt).any (fun c => c.o.a == x.a)) = true := by rw [hI.out, List.drop_of_length_le (Nat.le_of_eq n1.out)]; rfl
              obtain ⟨K, hK, hKn, k1, k2, k3⟩ := A.len 3
              have hfin := hR0.out K k1 k2 k3
              rw [hall, Bool.true_and, n1.out] at hfin
              have d2 := C.cell 2
              simp only [lgA, lgB, lgC] at d2
              have hfin' : Hid (((K.length : Int) == (i : Int)) = R) := by
                show _ = _
                rw [← hfin, Bool.eq_iff_iff]
                simp only [beq_iff_eq, decide_eq_true_eq]
                omega
              clear hfin hall hI
              go_wp2
              go_returns
              exact ⟨by rw [← hfin'.out]; rfl, hB⟩
end Go.Proofs.YtigldeccfpkdmaaGreatDoor
namespace Go.Proofs.YtigldeccfpkdmaaGreatDoor
open Go.RowKit Go.BigFrame
def BigI (l : List It) : Prop := ∀ x ∈ l, x.nm.size ≤ 9223372036854775807 ∧ x.ps.length ≤ 9223372036854775807
def BigV (l : List Vo) : Prop := ∀ v ∈ l, v.nm.size ≤ 9223372036854775807 ∧ v.its.length ≤ 9223372036854775807 ∧ BigI v.its
def SmallI (n : Nat) (l : List It) : Prop := n ≤ 1048576 ∧ ∀ x ∈ l, x.nm.size ≤ 1048576 ∧ x.ps.length ≤ 1048576
def SmallV (n : Nat) (l : List Vo) : Prop := n ≤ 1048576 ∧ ∀ v ∈ l, v.nm.size ≤ 1048576 ∧ SmallI v.its.length v.its
theorem laws_szPartL (a : Option Addr) (n cap : Nat) (L : Int) (w : World) (hn : n ≤ 9223372036854775807) (h0 : 0 ≤ L) (h1 : L ≤ 1048576) :
    Calls Tryz.prog 242 #[.slice a n cap, .int .i64 L] w fun e w' => (∃ r : Int, e = .returned (.int .i64 r) ∧ (r = -1 ∨ (0 ≤ r ∧ r ≤ 1048576 ∧ n ≤ 1048576))) ∧ w' = w := by
  by_cases h : L - (n : Int) < 0
  · go_enter Tryz.func242, Tryz.ntmps242
    go_wp2
    go_returns
    exact ⟨⟨-1, rfl, .inl rfl⟩, rfl⟩
  · go_enter Tryz.func242, Tryz.ntmps242
    go_wp2
    go_returns
    exact ⟨⟨L - n, rfl, .inr ⟨by omega, by omega, by omega⟩⟩, rfl⟩
set_option maxHeartbeats 1000000 in
theorem laws_szItem (nm : ByteArray) (pa : Option Addr) (pn pc : Nat) (L : Int) (w : World) (hs : nm.size ≤ 9223372036854775807) (hn : pn ≤ 9223372036854775807) (h0 : 0 ≤ L) (h1 : L ≤ 1048576) :
    Calls Tryz.prog 210 #[.agg #[.string nm, .slice pa pn pc], .int .i64 L] w fun e w' => (∃ r : Int, e = .returned (.int .i64 r) ∧ (r = -1 ∨ (0 ≤ r ∧ r ≤ 1048576 ∧ nm.size ≤ 1048576 ∧ pn ≤ 1048576))) ∧ Below w.heap.size w w' := by
  by_cases h : L - (nm.size : Int) < 0
  · go_enter Tryz.func210, Tryz.ntmps210
    go_wp2
    go_returns
    exact ⟨⟨-1, rfl, .inl rfl⟩, by go_grown⟩
  · go_enter Tryz.func210, Tryz.ntmps210
    go_wp2_with fail
    refine (laws_szPartL pa pn pc (L - nm.size) _ hn (by omega) (by omega)).mono ?_
    rintro e w1 ⟨⟨r, rfl, hr⟩, rfl⟩
    rcases hr with rfl | ⟨r0, r1, r2⟩
    · go_wp2
      go_returns
      exact ⟨⟨-1, rfl, .inl rfl⟩, by go_grown⟩
    · go_wp2
      go_returns
      exact ⟨⟨r, rfl, .inr ⟨r0, r1, by omega, r2⟩⟩, by go_grown⟩
set_option maxHeartbeats 1000000 in
theorem laws_szItemS (B : Nat) (a : Option Addr) (n cap : Nat) (l : List It) (L : Int) (w : World) (h : ItsAt B w a n l) (hbig : BigI l) (hn : n ≤ 9223372036854775807) (hL0 : 0 ≤ L) (hL : L ≤ 1048576) :
    Calls Tryz.prog 175 #[.slice a n cap, .int .i64 L] w fun e w' => (∃ r : Int, e = .returned (.int .i64 r) ∧ (r = -1 ∨ (0 ≤ r ∧ r ≤ 1048576 ∧ SmallI n l))) ∧ Below w.heap.size w w' := by
  have hlen : Hid (l.length = n) := h.len
  by_cases hb : L - (n : Int) < 0
  · go_enter Tryz.func175, Tryz.ntmps175
    go_wp2
    go_returns
    go_light
    exact ⟨⟨_, rfl, .inl rfl⟩, Below.refl _ _⟩
  · go_enter Tryz.func175, Tryz.ntmps175
    go_wp2_with fail
    go_loopw [1, 5] (fun lf ix wr => ∃ (k : Nat) (r : Int), k ≤ n ∧ ix = .int .i64 k ∧ lf = .int .i64 r ∧ 0 ≤ r ∧ r ≤ 1048576 ∧ Hid (∀ i x, i < k → l[i]? = some x → x.nm.size ≤ 1048576 ∧ x.ps.length ≤ 1048576) ∧ Below w.heap.size w wr) (fun _ ix _ => n - (intOf ix).toNat)
    case atStart => exact ⟨0, _, Nat.zero_le _, rfl, rfl, by omega, by omega, fun i e hi => by omega, Below.refl _ _⟩
    case round =>
      obtain ⟨k, r, hk, rfl, rfl, hr0, hr1, hI, hB⟩ := hrel
      by_cases hlt : k < n
      · obtain ⟨b, o, x, pa, pn, pc, rfl, hp, c0, c1, hP, _, _, _⟩ := its_at (h.below hB) hlt
        have hp' : Hid (l[k]? = some x) := hp
        obtain ⟨z1, z2⟩ := hbig x (List.mem_of_getElem? hp)
        have hpl : Hid (x.ps.length = pn) := hP.len
        rw [hpl.out] at z2
        clear hp hP
        go_wp2_with fail
        refine (laws_szItem x.nm pa pn pc r _ z1 z2 hr0 hr1).mono ?_
        rintro e w1 ⟨⟨q, rfl, hq⟩, hB1⟩
        rcases hq with rfl | ⟨q0, q1, q2, q3⟩
        · go_wp2
          go_returns
          go_light
          exact ⟨⟨_, rfl, .inl rfl⟩, chain hB hB1⟩
        · go_wp2
          go_roundw
          case rel =>
            refine ⟨k + 1, q, by omega, by go_num, rfl, by omega, by omega, ?_, chain hB hB1⟩
            intro i y hi hy
            by_cases hik : i = k
            · subst hik
              rw [hp'.out] at hy
              obtain rfl := Option.some.inj hy
              exact ⟨q2, by rw [hpl.out]; exact q3⟩
            · exact hI.out i y (by omega) hy
          case measure => simp [intOf]; omega
      · obtain rfl : k = n := by omega
        go_wp2
        go_returns
        go_light
        refine ⟨⟨r, rfl, .inr ⟨hr0, hr1, by omega, fun x hx => ?_⟩⟩, hB⟩
        obtain ⟨i, hi⟩ := List.getElem?_of_mem hx
        exact hI.out i x (by have := (List.getElem?_eq_some_iff.1 hi).1; rw [hlen.out] at this; exact this) hi
set_option maxHeartbeats 1000000 in
theorem laws_szVolume (B : Nat) (v : Vo) (pa : Option Addr) (pn pc : Nat) (L : Int) (w : World) (hI : ItsAt B w pa pn v.its) (hbig : BigI v.its) (hs : v.nm.size ≤ 9223372036854775807) (hn : pn ≤ 9223372036854775807) (h0 : 0 ≤ L) (h1 : L ≤ 1048576) :
    Calls Tryz.prog 113 #[.agg #[.int .i64 v.id, .string v.nm, .bool v.fx, .slice pa pn pc], .int .i64 L] w fun e w' => (∃ r : Int, e = .returned (.int .i64 r) ∧ (r = -1 ∨ (0 ≤ r ∧ r ≤ 1048576 ∧ v.nm.size ≤ 1048576 ∧ SmallI pn v.its))) ∧ Below w.heap.size w w' := by
  obtain ⟨id, nm, fx, its⟩ := v
  simp only at hs hI hbig
  by_cases h : L - (nm.size : Int) < 0
  · go_enter Tryz.func113, Tryz.ntmps113
    go_wp2
    go_returns
    exact ⟨⟨-1, rfl, .inl rfl⟩, by go_grown⟩
  · go_enter Tryz.func113, Tryz.ntmps113
    go_wp2_with fail
    refine (laws_szItemS B pa pn pc its (L - nm.size) _ (hI.below (by go_grown)) hbig hn (by omega) (by omega)).mono ?_
    rintro e w1 ⟨⟨r, rfl, hr⟩, hB1⟩
    replace hB1 : Below w.heap.size w w1 := chain (by go_grown) hB1
    rcases hr with rfl | ⟨r0, r1, r2⟩
    · go_wp2
      go_returns
      exact ⟨⟨-1, rfl, .inl rfl⟩, hB1⟩
    · go_wp2
      go_returns
      exact ⟨⟨r, rfl, .inr ⟨r0, r1, by show nm.size ≤ _; omega, r2⟩⟩, hB1⟩
set_option maxHeartbeats 1000000 in
theorem laws_szVolumeS (B : Nat) (a : Option Addr) (n cap : Nat) (l : List Vo) (L : Int) (w : World) (h : VsAt B w a n l) (hbig : BigV l) (hn : n ≤ 9223372036854775807) (hL0 : 0 ≤ L) (hL : L ≤ 1048576) :
    Calls Tryz.prog 52 #[.slice a n cap, .int .i64 L] w fun e w' => (∃ r : Int, e = .returned (.int .i64 r) ∧ (r = -1 ∨ (0 ≤ r ∧ r ≤ 1048576 ∧ SmallV n l))) ∧ Below w.heap.size w w' := by
  have hlen : Hid (l.length = n) := h.len
  by_cases hb : L - (n : Int) < 0
  · go_enter Tryz.func52, Tryz.ntmps52
    go_wp2
    go_returns
    go_light
    exact ⟨⟨_, rfl, .inl rfl⟩, Below.refl _ _⟩
  · go_enter Tryz.func52, Tryz.ntmps52
    go_wp2_with fail
    go_loopw [1, 5] (fun lf ix wr => ∃ (k : Nat) (r : Int), k ≤ n ∧ ix = .int .i64 k ∧ lf = .int .i64 r ∧ 0 ≤ r ∧ r ≤ 1048576 ∧ Hid (∀ i v, i < k → l[i]? = some v → v.nm.size ≤ 1048576 ∧ SmallI v.its.length v.its) ∧ Below w.heap.size w wr) (fun _ ix _ => n - (intOf ix).toNat)
    case atStart => exact ⟨0, _, Nat.zero_le _, rfl, rfl, by omega, by omega, fun i e hi => by omega, Below.refl _ _⟩
    case round =>
      obtain ⟨k, r, hk, rfl, rfl, hr0, hr1, hI, hB⟩ := hrel
      by_cases hlt : k < n
      · obtain ⟨b, o, v, pa, pn, pc, rfl, hp, c0, c1, c2, c3, hP, _, _⟩ := vs_at (h.below hB) hlt
        have hp' : Hid (l[k]? = some v) := hp
        obtain ⟨z1, z2, z3⟩ := hbig v (List.mem_of_getElem? hp)
        have hpl : Hid (v.its.length = pn) := hP.len
        rw [hpl.out] at z2
        clear hp
        go_wp2_with fail
        refine (laws_szVolume B v pa pn pc r _ hP z3 z1 z2 hr0 hr1).mono ?_
        rintro e w1 ⟨⟨q, rfl, hq⟩, hB1⟩
        rcases hq with rfl | ⟨q0, q1, q2, q3⟩
        · go_wp2
          go_returns
          go_light
          exact ⟨⟨_, rfl, .inl rfl⟩, chain hB hB1⟩
        · go_wp2
          go_roundw
          case rel =>
            refine ⟨k + 1, q, by omega, by go_num, rfl, by omega, by omega, ?_, chain hB hB1⟩
            intro i y hi hy
            by_cases hik : i = k
            · subst hik
              rw [hp'.out] at hy
              obtain rfl := Option.some.inj hy
              exact ⟨q2, by rw [hpl.out]; exact q3⟩
            · exact hI.out i y (by omega) hy
          case measure => simp [intOf]; omega
      · obtain rfl : k = n := by omega
        go_wp2
        go_returns
        go_light
        refine ⟨⟨r, rfl, .inr ⟨hr0, hr1, by omega, fun x hx => ?_⟩⟩, hB⟩
        obtain ⟨i, hi⟩ := List.getElem?_of_mem hx
        exact hI.out i x (by have := (List.getElem?_eq_some_iff.1 hi).1; rw [hlen.out] at this; exact this) hi
end Go.Proofs.YtigldeccfpkdmaaGreatDoor
