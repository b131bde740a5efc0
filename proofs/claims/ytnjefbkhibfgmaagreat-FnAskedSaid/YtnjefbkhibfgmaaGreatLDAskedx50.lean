/- OnlyOf of the model. -/
import Derived.Test.YtnjefbkhibfgmaaGreatProg
import Derived.Test.YtnjefbkhibfgmaaGreatLDAskedx49
import Derived.Laws.EntriesVeiled
import Derived.Test.YtnjefbkhibfgmaaGreatLDAskedx02
namespace Go.Proofs.YtnjefbkhibfgmaaGreat
open Go.RowKit Go.BigFrame
theorem space_sizes {size : Int} {l : List Ex} (h : spaceOkB size l = true) : l.length ≤ 60 ∧ ∀ x ∈ l, x.d.size ≤ 20 := by
  simp only [spaceOkB, Bool.and_eq_true, decide_eq_true_eq] at h
  refine ⟨h.1.2, ?_⟩
  have go : ∀ {l : List Ex} {next : Int}, xgo size next l = true → ∀ x ∈ l, x.d.size ≤ 20 := by
    intro l
    induction l with
    | nil => intro _ _ x hx; simp at hx
    | cons e r ih =>
      intro next h x hx
      simp only [xgo, Bool.and_eq_true] at h
      rcases List.mem_cons.1 hx with rfl | hx
      · have := h.1.1.1
        simp only [dataOkB, Bool.and_eq_true, decide_eq_true_eq] at this
        omega
      · exact ih h.2 x hx
  exact go h.2
set_option maxHeartbeats 4000000 in
set_option maxRecDepth 100000 in
theorem spec_OnlyOf (B : Nat) (hB0 : 0 < B) (v : Value) (p : Po) (vol : ByteArray) (w : World) (h : PoolAt B w v p) (hd : DimP p) :
    Calls Tryz.prog 23 #[v, .string vol] w fun e w' => e = .returned (.tuple #[.int .i64 (onlyO p vol).1, .bool (onlyO p vol).2]) ∧ Below w.heap.size w w' := by
  obtain ⟨ea, en, ec, va, vn, vc, ra, rn, rc, la, ln, lc, rfl, hrest⟩ := h
  have h : PoolAt B w (.agg #[.int .i64 p.size, .int .i64 p.next, .slice ea en ec, .slice va vn vc, .slice ra rn rc, .slice la ln lc]) p := ⟨ea, en, ec, va, vn, vc, ra, rn, rc, la, ln, lc, rfl, hrest⟩
  have h1 := hrest.1.1
  have h2 := hrest.2.1.1
  have z1 := hd.1
  have z3 := hd.2.2.1
  rw [h1.len] at z1
  rw [h2.len] at z3
  have n1 : Hid (p.ex.length = en) := h1.len
  clear hrest
  have C := (Blk.new w #[.int .i64 p.size, .int .i64 p.next, .slice ea en ec, .slice va vn vc, .slice ra rn rc, .slice la ln lc] 28)
  have hBw : Below w.heap.size w (w.alloc (.cells #[.int .i64 p.size, .int .i64 p.next, .slice ea en ec, .slice va vn vc, .slice ra rn rc, .slice la ln lc] 28)) := by go_grown
  have hR : Hid (onlyO p vol = if poolB p = true then (match (volI p.vs vol).bind fun i => p.vs[i]? with | none => (0, false) | some v => (onlyS v.id (walkL p.vs) p.ex, true)) else (0, false)) := rfl
  generalize onlyO p vol = R at *
  go_enter Tryz.func23, Tryz.ntmps23
  go_wp2_with fail
  generalize w.alloc (.cells #[.int .i64 p.size, .int .i64 p.next, .slice ea en ec, .slice va vn vc, .slice ra rn rc, .slice la ln lc] 28) = W0 at *
  refine (spec_l4Find B p.size p.next ea en ec va vn vc ra rn rc la ln lc p.vs vol _ (h2.below hBw) z3).mono ?_
  rintro e w1 ⟨rfl, hB1⟩
  have C1 := C.below hB1
  replace hB1 := chain hBw hB1
  clear C hBw
  obtain ⟨d0, d1, d2, d3, d4, d5⟩ := C1.six
  go_wp2_with fail
  refine (spec_PoolOk B hB0 _ p _ (h.below hB1) hd).mono ?_
  rintro e w2 ⟨rfl, hB2⟩
  have C2 := C1.below hB2
  replace hB2 := chain hB1 hB2
  clear d0 d1 d2 d3 d4 d5 C1 hB1
  cases hpk : poolB p
  · rw [hpk] at hR
    simp only [Bool.false_eq_true, if_false] at hR
    clear hpk
    go_wp2
    go_returns
    exact ⟨by rw [hR.out]; rfl, hB2⟩
  · rw [hpk] at hR
    simp only [if_true] at hR
    cases hvi : volI p.vs vol with
    | none =>
      rw [hvi] at hR
      replace hR : Hid (R = (0, false)) := hR
      rw [show idxV none = -1 from rfl]
      clear hpk hvi
      go_wp2
      go_returns
      exact ⟨by rw [hR.out]; rfl, hB2⟩
    | some i =>
      rw [hvi] at hR
      rw [show idxV (some i) = (i : Int) from rfl]
      have hiv := volI_at hvi
      rw [h2.len] at hiv
      obtain ⟨b, o, x, qa, qn, qc, rfl, hx, e0, e1, e2, e3, hP, hH, hBb⟩ := vs_at (h2.below hB2) hiv
      replace hR : Hid (R = (onlyS x.id (walkL p.vs) p.ex, true)) := by show _ = _; rw [hR.out, Option.bind_some, hx]
      obtain ⟨q1, q2, q3, q4, q5⟩ := poolB_vs hpk
      obtain ⟨s1, s2⟩ := space_sizes q4
      rw [n1.out] at s1
      have hty := tiny_of q1 q2
      have hk1 : (i : Int) < vn := by omega
      have hk2 : (0 : Int) ≤ i := by omega
      have d3 := C2.cell 3
      simp only [lgA, lgB, lgC] at d3
      clear hpk hvi hx e1 e2 e3 hP
      go_wp2_with fail
      refine (spec_l4Walked B _ vn vc p.vs _ (h2.below hB2) hty).mono ?_
      rintro e w3 ⟨⟨a4, n4, cap4, rfl, hn4, R4⟩, hB3⟩
      have C3 := C2.below hB3
      have f0 := bcell hB3 e0
      replace hB3 := chain hB2 hB3
      have S := R4.sl
      have n4l : Hid ((walkL p.vs).length = n4) := S.len
      clear d3 C2 hB2 e0 R4
      generalize hWW : walkL p.vs = W at *
      replace hWW : Hid (walkL p.vs = W) := hWW
      have hS0 : Hid (onlyS x.id W p.ex = 0 + onlyS x.id W (p.ex.drop 0)) := by show _ = _; simp
      generalize hTT : onlyS x.id W p.ex = T at *
      replace hTT : Hid (onlyS x.id W p.ex = T) := hTT
      go_wp2_with fail
      go_loopw [8, 9] (fun nx ix wr => ∃ (k : Nat) (nn : Int), k ≤ en ∧ ix = .int .i64 k ∧ nx = .int .i64 nn ∧ 0 ≤ nn ∧ nn ≤ 20 * k ∧ Hid (T = nn + onlyS x.id W (p.ex.drop k)) ∧ Below w3.heap.size w3 wr) (fun _ ix _ => en - (intOf ix).toNat)
      case atStart => exact ⟨0, 0, Nat.zero_le _, rfl, rfl, by omega, by omega, hS0, Below.refl _ _⟩
      case round =>
        clear hS0
        obtain ⟨k, nn, hk, rfl, rfl, hn1, hn2, hI, hB⟩ := hrel
        have C4 := C3.below hB
        have y2 := C4.cell 2
        simp only [lgA, lgB, lgC] at y2
        by_cases hlt : k < en
        · obtain ⟨b', o', y, rfl, hy, e4, e5⟩ := exs_at (h1.below hB3) hlt
          have hys := s2 y (List.mem_of_getElem? hy)
          have hd' : Hid (T = nn + ((if mineB x.id y.a W = true then (y.d.size : Int) else 0) + onlyS x.id W (p.ex.drop (k + 1)))) := by show _ = _; rw [hI.out, drop_at hy]; rfl
          have hj1 : (k : Int) < en := by omega
          have hj2 : (0 : Int) ≤ k := by omega
          have hM0 : Hid (W.any (fun c => c.o.a == y.a && c.o.v == x.id) = (false || (W.drop 0).any (fun c => c.o.a == y.a && c.o.v == x.id))) := by show _ = _; simp
          have hO0 : Hid (W.any (fun c => c.o.a == y.a && !(c.o.v == x.id)) = (false || (W.drop 0).any (fun c => c.o.a == y.a && !(c.o.v == x.id)))) := by show _ = _; simp
          unfold mineB at hd'
          generalize W.any (fun c => c.o.a == y.a && c.o.v == x.id) = M at *
          generalize W.any (fun c => c.o.a == y.a && !(c.o.v == x.id)) = O at *
          have hfc : ∀ u : World, Below w3.heap.size w3 u → u.cell? ⟨w.heap.size, 2, none⟩ = some (.slice (some ⟨b', o', none⟩) en ec) ∧ u.cell? ⟨w.heap.size, 3, none⟩ = some (.slice (some ⟨b, o, none⟩) vn vc) ∧ u.cell? ⟨b, o + i * 4, none⟩ = some (.int .i64 x.id) ∧ u.cell? ⟨b', o' + k * 2, none⟩ = some (.int .i64 y.a) ∧ u.cell? ⟨b', o' + k * 2 + 1, none⟩ = some (.string y.d) := fun u hu => ⟨(C3.below hu).cell 2, (C3.below hu).cell 3, bcell hu f0, bcell hu e4, bcell hu e5⟩
          obtain ⟨wi, hwi⟩ : ∃ x, x = wr := ⟨_, rfl⟩
          subst hwi
          clear hI hy e4 e5
          go_wp2_with fail
          clear y2 C4
          go_loopw [10, 11, 12] (fun mx ox jx wr => ∃ (j : Nat) (mm oo : Bool), j ≤ n4 ∧ jx = .int .i64 j ∧ mx = .bool mm ∧ ox = .bool oo ∧ Hid (M = (mm || (W.drop j).any (fun c => c.o.a == y.a && c.o.v == x.id))) ∧ Hid (O = (oo || (W.drop j).any (fun c => c.o.a == y.a && !(c.o.v == x.id)))) ∧ Below w3.heap.size w3 wr) (fun _ _ jx _ => n4 - (intOf jx).toNat)
          case atStart => exact ⟨0, false, false, Nat.zero_le _, rfl, rfl, rfl, hM0, hO0, hB⟩
          case round =>
            clear hM0 hO0 hB
            obtain ⟨j, mm, oo, hj, rfl, rfl, rfl, hM, hO, hB⟩ := hrel
            obtain ⟨y2, y3, g0, c0, c1⟩ := hfc _ hB
            by_cases hlj : j < n4
            · obtain ⟨b3, o3, c, rfl, hc, t0', t1', _, _⟩ := cts_at S hlj
              have hdc : Hid (W.drop j = c :: W.drop (j + 1)) := drop_at hc
              have hl1 : (j : Int) < n4 := by omega
              have hl2 : (0 : Int) ≤ j := by omega
              have htc : ∀ u : World, Below w3.heap.size w3 u → u.cell? ⟨b3, o3 + j * 4, none⟩ = some (.int .i64 c.o.a) ∧ u.cell? ⟨b3, o3 + j * 4 + 1, none⟩ = some (.int .i64 c.o.v) := fun u hu => ⟨bcell hu t0', bcell hu t1'⟩
              obtain ⟨t0, t1⟩ := htc _ hB
              clear hc t0' t1'
              cases he : (c.o.a == y.a)
              · have hM' : Hid (M = (mm || (W.drop (j + 1)).any (fun c => c.o.a == y.a && c.o.v == x.id))) := by show _ = _; rw [hM.out, hdc.out, List.any_cons, he]; rfl
                have hO' : Hid (O = (oo || (W.drop (j + 1)).any (fun c => c.o.a == y.a && !(c.o.v == x.id)))) := by show _ = _; rw [hO.out, hdc.out, List.any_cons, he]; rfl
                go_wp2_with fail
                go_quiet (fail)
                have hBa := below_drewN hB nq
                go_wp2
                go_roundw
                case rel => exact ⟨j + 1, mm, oo, by omega, by go_num, rfl, rfl, hM', hO', hBa⟩
                case measure => simp [intOf]; omega
              · have hM' : Hid (M = ((mm || c.o.v == x.id) || (W.drop (j + 1)).any (fun c => c.o.a == y.a && c.o.v == x.id))) := by show _ = _; rw [hM.out, hdc.out, List.any_cons, he, Bool.true_and, Bool.or_assoc]
                have hO' : Hid (O = ((oo || !(c.o.v == x.id)) || (W.drop (j + 1)).any (fun c => c.o.a == y.a && !(c.o.v == x.id)))) := by show _ = _; rw [hO.out, hdc.out, List.any_cons, he, Bool.true_and, Bool.or_assoc]
                have hbne : (c.o.v != x.id) = !(c.o.v == x.id) := rfl
                go_wp2_with fail
                go_quiet (fail)
                have hBa := below_drewN hB nq
                generalize wr.drewN nq = wa at *
                clear y2 y3 g0 c0 c1 t0 t1 hB
                obtain ⟨y2, y3, g0, c0, c1⟩ := hfc _ hBa
                obtain ⟨t0, t1⟩ := htc _ hBa
                cases hv : (c.o.v == x.id)
                all_goals rw [hv] at hM' hO' hbne
                all_goals simp only [Bool.not_true, Bool.not_false] at hbne
                all_goals cases mm
                all_goals cases oo
                all_goals (
                  go_wp2_with fail
                  go_quiet (fail)
                  have hBc := below_drewN hBa nq
                  generalize wa.drewN nq = wc at *
                  clear y2 y3 g0 c0 c1 t0 t1 hBa
                  obtain ⟨y2, y3, g0, c0, c1⟩ := hfc _ hBc
                  obtain ⟨t0, t1⟩ := htc _ hBc
                  go_wp2_with fail
                  go_quiet (fail)
                  have hBd := below_drewN hBc nq
                  go_wp2
                  go_roundw
                  case rel => exact ⟨j + 1, _, _, by omega, by go_num, rfl, rfl, hM', hO', hBd⟩
                  case measure => simp [intOf]; omega)
            · obtain rfl : j = n4 := by omega
              have hM' : Hid (M = mm) := by show _ = _; rw [hM.out, List.drop_of_length_le (Nat.le_of_eq n4l.out)]; simp
              have hO' : Hid (O = oo) := by show _ = _; rw [hO.out, List.drop_of_length_le (Nat.le_of_eq n4l.out)]; simp
              rw [hM'.out, hO'.out] at hd'
              cases mm
              · simp only [Bool.false_and, Bool.false_eq_true, if_false, Int.zero_add] at hd'
                go_wp2
                go_roundw
                case rel => exact ⟨k + 1, nn, by omega, by go_num, rfl, hn1, by omega, hd', hB⟩
                case measure => simp [intOf]; omega
              · cases oo
                · simp only [Bool.not_false, Bool.and_self, if_true] at hd'
                  have hd2 : Hid (T = nn + y.d.size + onlyS x.id W (p.ex.drop (k + 1))) := by show _ = _; rw [hd'.out]; omega
                  go_wp2
                  go_roundw
                  case rel => exact ⟨k + 1, nn + y.d.size, by omega, by go_num, by go_num, by omega, by omega, hd2, hB⟩
                  case measure => simp [intOf]; omega
                · simp only [Bool.not_true, Bool.and_false, Bool.false_eq_true, if_false, Int.zero_add] at hd'
                  go_wp2
                  go_roundw
                  case rel => exact ⟨k + 1, nn, by omega, by go_num, rfl, hn1, by omega, hd', hB⟩
                  case measure => simp [intOf]; omega
        · obtain rfl : k = en := by omega
          have hTn : T = nn := by rw [hI.out, List.drop_of_length_le (Nat.le_of_eq n1.out)]; simp [onlyS]
          go_wp2
          go_returns
          exact ⟨by rw [hR.out, hTn]; rfl, chain hB3 hB⟩
end Go.Proofs.YtnjefbkhibfgmaaGreat
namespace Go.Proofs.YtnjefbkhibfgmaaGreat
open Go.RowKit Go.BigFrame
theorem dataS_eq (a : Int) : ∀ ex : List Ex, dataS ex a = ((dataAtB a ex).size : Int)
  | [] => rfl
  | x :: r => by
    have ih := dataS_eq a r
    unfold dataS at ih ⊢
    unfold dataAtB
    by_cases h : x.a = a
    · simp [h]
    · simp only [List.find?_cons, beq_eq_false_iff_ne.2 h, Bool.false_eq_true, if_false]
      exact ih
structure EnvO (w : World) (pbx vbx kbx : Nat) (fv : Value) (ea : Option Addr) (en ec : Nat) (ex : List Ex) (b o : Nat) (id : Int) : Prop where
  p : w.cell? ⟨pbx, 2, none⟩ = some (.slice ea en ec)
  ex : ExsAt w ea en ex
  v : w.cell? ⟨vbx, 0, none⟩ = some (.pointer (some ⟨b, o, none⟩))
  id : w.cell? ⟨b, o, none⟩ = some (.int .i64 id)
  k : w.cell? ⟨kbx, 0, none⟩ = some fv
theorem EnvO.below {w w' : World} {pbx vbx kbx : Nat} {fv : Value} {ea : Option Addr} {en ec : Nat} {ex : List Ex} {b o : Nat} {id : Int} (h : EnvO w pbx vbx kbx fv ea en ec ex b o id) (hb : Below w.heap.size w w') : EnvO w' pbx vbx kbx fv ea en ec ex b o id :=
  ⟨bcell hb h.p, h.ex.below hb, bcell hb h.v, bcell hb h.id, bcell hb h.k⟩
theorem drop_cts {w : World} {b o n m : Nat} {l : List Ct} (h : CtsAt w (some ⟨b, o, none⟩) n l) : CtsAt w (some ⟨b, o + m * 4, none⟩) (n - m) (l.drop m) := by
  refine ⟨by rw [List.length_drop, h.len], fun i x hx => ⟨b, o + m * 4, rfl, fun j v hv => ?_⟩⟩
  rw [List.getElem?_drop] at hx
  obtain ⟨b', o', ha, hc⟩ := h.cell (m + i) x hx
  obtain ⟨rfl, rfl⟩ : b = b' ∧ o = o' := by simpa using ha
  have := hc j v hv
  rw [show o + m * 4 + i * 4 + j = o + (m + i) * 4 + j by omega]
  exact this
theorem onlyW_bd (id : Int) (ex : List Ex) (hs : ∀ x ∈ ex, x.d.size ≤ 20) : ∀ (f : Nat) (W : List Ct), 0 ≤ onlyW id ex f W ∧ onlyW id ex f W ≤ 20 * f
  | 0, _ => by simp [onlyW]
  | f + 1, [] => by simp [onlyW]; omega
  | f + 1, c :: r => by
    have ih := onlyW_bd id ex hs f (r.dropWhile (fun d => d.o.a == c.o.a))
    have hd : 0 ≤ dataS ex c.o.a ∧ dataS ex c.o.a ≤ 20 := by
      unfold dataS
      split
      · omega
      · rename_i x hx
        have := hs x (List.mem_of_find?_eq_some hx)
        omega
    unfold onlyW
    split <;> omega
set_option maxHeartbeats 4000000 in
set_option maxRecDepth 100000 in
theorem only1 (pbx vbx kbx : Nat) (ea : Option Addr) (en ec : Nat) (ex : List Ex) (b o : Nat) (id : Int) (hen : en ≤ 4194304) (hs : ∀ x ∈ ex, x.d.size ≤ 20) : ∀ (f : Nat) (W : List Ct) (a : Option Addr) (n cap : Nat) (w : World), W.length ≤ f → f ≤ 1000 → CtsAt w a n W → n ≤ cap → cap ≤ 9223372036854775807 →
    EnvO w pbx vbx kbx (.func (.func 58) #[] #[.pointer (some ⟨pbx, 0, none⟩), .pointer (some ⟨vbx, 0, none⟩), .pointer (some ⟨kbx, 0, none⟩)]) ea en ec ex b o id →
    Calls Tryz.prog 58 #[.slice a n cap, .pointer (some ⟨pbx, 0, none⟩), .pointer (some ⟨vbx, 0, none⟩), .pointer (some ⟨kbx, 0, none⟩)] w fun e w' => e = .returned (.int .i64 (onlyW id ex f W)) ∧ Below w.heap.size w w' := by
  intro f
  induction f with
  | zero =>
    intro W a n cap w hW _ h _ _ _
    obtain rfl : W = [] := List.eq_nil_of_length_eq_zero (by omega)
    obtain rfl : n = 0 := h.len.symm
    go_enter Tryz.func58, Tryz.ntmps58
    go_wp2
    go_returns
    exact ⟨rfl, Below.refl _ _⟩
  | succ f ih =>
    intro W a n cap w hW hf h hnc hcap hE
    match W with
    | [] =>
      obtain rfl : n = 0 := h.len.symm
      go_enter Tryz.func58, Tryz.ntmps58
      go_wp2
      go_returns
      exact ⟨rfl, Below.refl _ _⟩
    | c :: r =>
      have hlen : Hid ((c :: r).length = n) := h.len
      have hn0 : 0 < n := by rw [← h.len]; simp
      have hne0 : ((n : Int) == 0) = false := by simp; omega
      obtain ⟨b1, o1, c', rfl, hc', t0, _, _, _⟩ := cts_at h hn0
      obtain rfl : c = c' := by simpa using hc'
      clear hc'
      replace t0 : w.cell? ⟨b1, o1, none⟩ = some (.int .i64 c.o.a) := by simpa using t0
      have hR : Hid (onlyW id ex (f + 1) (c :: r) = (if (c :: r.takeWhile (fun d => d.o.a == c.o.a)).any (fun d => !(d.o.v == id)) = true then 0 else dataS ex c.o.a) + onlyW id ex f (r.dropWhile (fun d => d.o.a == c.o.a))) := rfl
      have hGl : (c :: r.takeWhile (fun d => d.o.a == c.o.a)) ++ r.dropWhile (fun d => d.o.a == c.o.a) = c :: r := by rw [List.cons_append, List.takeWhile_append_dropWhile]
      have hbd := onlyW_bd id ex hs f (r.dropWhile (fun d => d.o.a == c.o.a))
      have hDn : ∀ d, (r.dropWhile (fun d => d.o.a == c.o.a))[0]? = some d → d.o.a ≠ c.o.a := fun d hd => by
        have := List.head?_dropWhile_not (fun d : Ct => d.o.a == c.o.a) r
        rw [← List.head?_eq_getElem?] at hd
        rw [hd] at this
        simpa using this
      have hgm : ∀ d ∈ c :: r.takeWhile (fun d => d.o.a == c.o.a), d.o.a = c.o.a := fun d hd => by
        rcases List.mem_cons.1 hd with rfl | hd
        · rfl
        · exact mem_group hd
      have hDl : (r.dropWhile (fun d => d.o.a == c.o.a)).length ≤ f := by
        have := (List.dropWhile_sublist (l := r) (fun d : Ct => d.o.a == c.o.a)).length_le
        simp only [List.length_cons] at hW
        omega
      generalize c :: r.takeWhile (fun d => d.o.a == c.o.a) = G at *
      generalize r.dropWhile (fun d => d.o.a == c.o.a) = D at *
      generalize onlyW id ex (f + 1) (c :: r) = R at *
      have hds := dataS_eq c.o.a ex
      have hdb : (dataAtB c.o.a ex).size ≤ 20 := by
        have : 0 ≤ dataS ex c.o.a ∧ dataS ex c.o.a ≤ 20 := by
          unfold dataS
          split
          · omega
          · rename_i x hx
            have := hs x (List.mem_of_find?_eq_some hx)
            omega
        omega
      obtain ⟨e1, e2, e3, e4, e5⟩ := hE
      go_enter Tryz.func58, Tryz.ntmps58
      go_wp2_with fail
      refine (impl_dataAt ea en ec ex c.o.a _ e2 hen).mono ?_
      rintro e w1 ⟨rfl, hB1⟩
      have hE1 : EnvO w1 pbx vbx kbx (.func (.func 58) #[] #[.pointer (some ⟨pbx, 0, none⟩), .pointer (some ⟨vbx, 0, none⟩), .pointer (some ⟨kbx, 0, none⟩)]) ea en ec ex b o id := EnvO.below ⟨e1, e2, e3, e4, e5⟩ hB1
      have h1 := h.below hB1
      have hmn : G.length ≤ n := by rw [← hlen.out, ← hGl]; simp
      clear e1 e2 e3 e4 e5 t0
      rw [hds] at hR
      clear hds
      generalize dataAtB c.o.a ex = dd at *
      go_wp2_with fail
      go_loopw [7, 8] (fun sx nx wr => ∃ (k : Nat) (sz : Int), k ≤ G.length ∧ nx = .int .i64 k ∧ sx = .int .i64 sz ∧ Hid (sz = if (G.take k).any (fun d => !(d.o.v == id)) = true then 0 else (dd.size : Int)) ∧ Below w1.heap.size w1 wr) (fun _ nx _ => G.length - (intOf nx).toNat)
      case atStart => exact ⟨0, _, Nat.zero_le _, rfl, rfl, rfl, Below.refl _ _⟩
      case round =>
        obtain ⟨k, sz, hk, rfl, rfl, hsz, hB⟩ := hrel
        have hE2 := hE1.below hB
        have h2 := h1.below hB
        by_cases hlt : k < G.length
        · have hgk : G[k]? = some G[k] := by simp [hlt]
          have hWk : (c :: r)[k]? = some G[k] := by rw [← hGl, List.getElem?_append_left hlt]; exact hgk
          obtain ⟨b2, o2, d, hbo, hd, t0, t1, _, _⟩ := cts_at h2 (show k < n by omega)
          obtain ⟨rfl, rfl⟩ : b1 = b2 ∧ o1 = o2 := by simpa using hbo
          obtain rfl : G[k] = d := by rw [hWk] at hd; exact Option.some.inj hd
          have hga := hgm G[k] (List.getElem_mem _)
          have htk : (G.take (k + 1)).any (fun d => !(d.o.v == id)) = ((G.take k).any (fun d => !(d.o.v == id)) || !(G[k].o.v == id)) := by rw [take_at hgk, List.any_append]; simp
          have heq : (G[k].o.a == c.o.a) = true := by simp [hga]
          have hk1 : (k : Int) < n := by omega
          have hk2 : (0 : Int) ≤ k := by omega
          obtain ⟨e1, e2, e3, e4, e5⟩ := hE2
          clear hgk hWk hd hga
          generalize G[k] = d at *
          generalize (G.take k).any (fun d => !(d.o.v == id)) = oo at *
          have hbne : (d.o.v != id) = !(d.o.v == id) := rfl
          cases hv : (d.o.v == id)
          all_goals rw [hv] at hbne htk
          · have htk' : Hid ((G.take (k + 1)).any (fun d => !(d.o.v == id)) = true) := by show _ = _; rw [htk]; simp
            simp only [Bool.not_false] at hbne
            clear htk
            go_wp2_with fail
            go_quiet (fail)
            have hBa := below_drewN hB nq
            go_wp2
            go_roundw
            case rel => exact ⟨k + 1, 0, by omega, by go_num, rfl, by show _ = _; rw [htk'.out]; rfl, hBa⟩
            case measure => simp [intOf]; omega
          · have htk' : Hid ((G.take (k + 1)).any (fun d => !(d.o.v == id)) = oo) := by show _ = _; rw [htk]; simp
            simp only [Bool.not_true] at hbne
            clear htk
            go_wp2_with fail
            go_quiet (fail)
            have hBa := below_drewN hB nq
            go_wp2
            go_roundw
            case rel => exact ⟨k + 1, sz, by omega, by go_num, rfl, by show _ = _; rw [htk'.out]; exact hsz.out, hBa⟩
            case measure => simp [intOf]; omega
        · obtain rfl : k = G.length := by omega
          have hdrop : (c :: r).drop G.length = D := by rw [← hGl]; simp
          rw [List.take_length] at hsz
          have hR2 : Hid (R = sz + onlyW id ex f D) := by show _ = _; rw [hR.out, hsz.out]
          have hs12 : 0 ≤ sz ∧ sz ≤ 20 := by rw [hsz.out]; split <;> omega
          obtain ⟨hs1, hs2⟩ := hs12
          clear hsz hR
          have h3 := drop_cts (m := G.length) h2
          rw [hdrop] at h3
          have hcall := fun (u : World) (hu : Below wr.heap.size wr u) (cap' : Nat) (hc1 : n - G.length ≤ cap') (hc2 : cap' ≤ 9223372036854775807) => ih D (some ⟨b1, o1 + G.length * 4, none⟩) (n - G.length) cap' u hDl (by omega) (h3.below hu) hc1 hc2 (hE2.below hu)
          have g5 := gcell hE2.k
          by_cases hmn' : G.length < n
          · obtain ⟨b2, o2, d, hbo, hd, t0, _, _, _⟩ := cts_at h2 hmn'
            obtain ⟨rfl, rfl⟩ : b1 = b2 ∧ o1 = o2 := by simpa using hbo
            have hDd : D[0]? = some d := by rw [← hdrop, List.getElem?_drop]; exact hd
            have hne := hDn d hDd
            have hne' : (d.o.a == c.o.a) = false := by simp [hne]
            have hk1 : (G.length : Int) < n := by omega
            clear hd hDd hne
            go_wp2_with fail
            refine wp_region_grow (by kernel_rfl) (by kernel_rfl) ?_
            have hne := grw_ne wr
            repeat (go_big_quiet_step (first | (go_at_call 58; exact grow_of (hcall _ (Grw.h _) _ (by omega) (by omega)))))
            refine wpQuiet_nil ?_
            intro w2 hx2
            have hB2 := chain hB (grw_out hx2)
            clear hx2
            go_wp2
            go_returns
            exact ⟨by rw [hR2.out]; rfl, chain hB1 hB2⟩
          · have hnn : G.length = n := by omega
            have hD0 : D = [] := List.eq_nil_of_length_eq_zero (by rw [h3.len]; omega)
            subst hD0
            have hcall0 := fun (u : World) (hu : Below wr.heap.size wr u) (a' : Option Addr) (n' cap' : Nat) (hn' : n' = 0) (hc2 : cap' ≤ 9223372036854775807) => ih [] a' n' cap' u (Nat.zero_le _) (by omega) (⟨hn'.symm, fun i x hx => by simp at hx⟩ : CtsAt u a' n' []) (by omega) hc2 (hE2.below hu)
            have hk0 : ¬ ((G.length : Int) < n) := by omega
            have hk1 : decide ((G.length : Int) < n) = false := decide_eq_false hk0
            clear hcall
            go_wp2_with fail
            refine wp_region_grow (by kernel_rfl) (by kernel_rfl) ?_
            have hne := grw_ne wr
            repeat (go_big_quiet_step (first | (go_at_call 58; exact grow_of (hcall0 _ (Grw.h _) _ _ _ (by omega) (by omega)))))
            refine wpQuiet_nil ?_
            intro w2 hx2
            have hB2 := chain hB (grw_out hx2)
            clear hx2
            all_goals go_wp2
            all_goals go_returns
            all_goals exact ⟨by rw [hR2.out]; rfl, chain hB1 hB2⟩
theorem walk_up (l : List Vo) : AddrUp (walkL l) := rising_up (sum_facts (l := []) List.Pairwise.nil (fun c hc => by simp at hc) (nz_allCs l)).1
theorem res_cap {α : Type} {cs : α → List Value} {sz : Nat} {t : TypeId} {w : World} {B : Nat} {a : Option Addr} {n cap : Nat} {l : List α} (h : ResAt cs sz t w B a n cap l) : n ≤ cap ∧ cap ≤ 9223372036854775807 := by
  rcases h.own with ⟨_, rfl, rfl⟩ | ⟨b, _, _, h1, h2, _⟩
  · omega
  · exact ⟨h1, by unfold maxLen at h2; omega⟩
set_option maxHeartbeats 4000000 in
set_option maxRecDepth 100000 in
theorem impl_OnlyOf (B : Nat) (_hB0 : 0 < B) (v : Value) (p : Po) (vol : ByteArray) (w : World) (h : PoolAt B w v p) (hd : DimP p) (hvol : vol.size ≤ 1048576) :
    Calls Tryz.prog 22 #[v, .string vol] w fun e w' => e = .returned (.tuple #[.int .i64 (onlyO p vol).1, .bool (onlyO p vol).2]) ∧ Below w.heap.size w w' := by
  obtain ⟨ea, en, ec, va, vn, vc, ra, rn, rc, la, ln, lc, rfl, hrest⟩ := h
  have h : PoolAt B w (.agg #[.int .i64 p.size, .int .i64 p.next, .slice ea en ec, .slice va vn vc, .slice ra rn rc, .slice la ln lc]) p := ⟨ea, en, ec, va, vn, vc, ra, rn, rc, la, ln, lc, rfl, hrest⟩
  have h1 := hrest.1.1
  have z1 := hd.1
  rw [h1.len] at z1
  clear hrest
  have C := (Blk.new w #[.int .i64 p.size, .int .i64 p.next, .slice ea en ec, .slice va vn vc, .slice ra rn rc, .slice la ln lc] 28)
  have hBw : Below w.heap.size w (w.alloc (.cells #[.int .i64 p.size, .int .i64 p.next, .slice ea en ec, .slice va vn vc, .slice ra rn rc, .slice la ln lc] 28)) := by go_grown
  have hR : Hid (onlyO p vol = if poolB p = true then (match (volI p.vs vol).bind fun i => p.vs[i]? with | none => (0, false) | some v => (onlyS v.id (walkL p.vs) p.ex, true)) else (0, false)) := rfl
  generalize onlyO p vol = R at *
  go_enter Tryz.func22, Tryz.ntmps22
  go_wp2_with fail
  generalize w.alloc (.cells #[.int .i64 p.size, .int .i64 p.next, .slice ea en ec, .slice va vn vc, .slice ra rn rc, .slice la ln lc] 28) = W0 at *
  refine (impl_askedVolume B _ p vol _ (h.below hBw) hd hvol).mono ?_
  rintro e w1 ⟨hret, hB1⟩
  have C1 := C.below hB1
  replace hB1 := chain hBw hB1
  clear C hBw
  rcases hret with ⟨rfl, hno⟩ | ⟨i, x, b, o, rfl, hpk, hvi, hx, hV⟩
  · have hRn : Hid (R = (0, false)) := by
      show _ = _
      rw [hR.out]
      rcases hno with hno | hno
      · rw [hno]; rfl
      · split
        · rw [hno]; rfl
        · rfl
    clear hno hR
    go_wp2
    go_returns
    exact ⟨by rw [hRn.out]; rfl, hB1.alloc hB1.size _⟩
  · have hRs : Hid (R = (onlyS x.id (walkL p.vs) p.ex, true)) := by
      show _ = _
      rw [hR.out, if_pos hpk, hvi, Option.bind_some, hx]
    obtain ⟨q1, q2, q3, q4, q5⟩ := poolB_vs hpk
    obtain ⟨s1, s2⟩ := space_sizes q4
    have hWL : walkedL p = walkL p.vs := by simp [walkedL, hpk]
    have hnd := space_nodup q4
    clear hR hpk hvi hx
    have C2 : Blk ((w1.alloc (.cells #[.pointer (some ⟨b, o, none⟩)] 88)).alloc (.cells #[.func (.func 58) #[] #[.pointer (some ⟨w.heap.size, 0, none⟩), .pointer (some ⟨w1.heap.size, 0, none⟩), .pointer (some ⟨w1.heap.size + 1, 0, none⟩)]] 90)) w.heap.size #[.int .i64 p.size, .int .i64 p.next, .slice ea en ec, .slice va vn vc, .slice ra rn rc, .slice la ln lc] 28 := (C1.alloc _).alloc _
    have V2 : Blk ((w1.alloc (.cells #[.pointer (some ⟨b, o, none⟩)] 88)).alloc (.cells #[.func (.func 58) #[] #[.pointer (some ⟨w.heap.size, 0, none⟩), .pointer (some ⟨w1.heap.size, 0, none⟩), .pointer (some ⟨w1.heap.size + 1, 0, none⟩)]] 90)) w1.heap.size #[.pointer (some ⟨b, o, none⟩)] 88 := (Blk.new w1 _ _).alloc _
    have K2 : Blk ((w1.alloc (.cells #[.pointer (some ⟨b, o, none⟩)] 88)).alloc (.cells #[.func (.func 58) #[] #[.pointer (some ⟨w.heap.size, 0, none⟩), .pointer (some ⟨w1.heap.size, 0, none⟩), .pointer (some ⟨w1.heap.size + 1, 0, none⟩)]] 90)) (w1.heap.size + 1) #[.func (.func 58) #[] #[.pointer (some ⟨w.heap.size, 0, none⟩), .pointer (some ⟨w1.heap.size, 0, none⟩), .pointer (some ⟨w1.heap.size + 1, 0, none⟩)]] 90 := Blk.new' _ _ _ _ (by simp)
    have hBU : Below w1.heap.size w1 ((w1.alloc (.cells #[.pointer (some ⟨b, o, none⟩)] 88)).alloc (.cells #[.func (.func 58) #[] #[.pointer (some ⟨w.heap.size, 0, none⟩), .pointer (some ⟨w1.heap.size, 0, none⟩), .pointer (some ⟨w1.heap.size + 1, 0, none⟩)]] 90)) := by go_grown
    go_wp2_with fail
    generalize (w1.alloc (.cells #[.pointer (some ⟨b, o, none⟩)] 88)).alloc (.cells #[.func (.func 58) #[] #[.pointer (some ⟨w.heap.size, 0, none⟩), .pointer (some ⟨w1.heap.size, 0, none⟩), .pointer (some ⟨w1.heap.size + 1, 0, none⟩)]] 90) = U at *
    have hBd : Below w1.heap.size w1 U.drew := hBU.drew
    have hB2 : Below w.heap.size w U.drew := chain hB1 hBd
    obtain ⟨d0, d1, d2, d3, d4, d5⟩ := C2.drew.six
    have k0 : U.drew.cell? ⟨w1.heap.size + 1, 0, none⟩ = some (.func (.func 58) #[] #[.pointer (some ⟨w.heap.size, 0, none⟩), .pointer (some ⟨w1.heap.size, 0, none⟩), .pointer (some ⟨w1.heap.size + 1, 0, none⟩)]) := K2.cell 0
    have v0 : U.drew.cell? ⟨w1.heap.size, 0, none⟩ = some (.pointer (some ⟨b, o, none⟩)) := V2.cell 0
    have hE : EnvO U.drew w.heap.size w1.heap.size (w1.heap.size + 1) (.func (.func 58) #[] #[.pointer (some ⟨w.heap.size, 0, none⟩), .pointer (some ⟨w1.heap.size, 0, none⟩), .pointer (some ⟨w1.heap.size + 1, 0, none⟩)]) ea en ec p.ex b o x.id := ⟨d2, h1.below hB2, v0, bcell hBd hV.id, k0⟩
    have hou := fun (n3 : Nat) (hl : (walkL p.vs).length = n3) (hn3 : n3 ≤ 480) => only_eq x.id p.ex hnd 480 (walkL p.vs) (by omega) (walk_up p.vs)
    have hWh : Hid (walkedL p = walkL p.vs) := hWL
    have hS2 := s2
    clear hWL C1 C2 V2 K2 hBU hV q1 q2 q3 q4 q5 s1 s2 hnd
    go_region_with (first
      | (go_at_call 58; refine (only1 w.heap.size w1.heap.size (w1.heap.size + 1) ea en ec p.ex b o x.id z1 hS2 480 (walkL p.vs) a3 n3 cap3 _ hl3 (by omega) R3.sl (res_cap R3).1 (res_cap R3).2 (hE.below hB3)).mono ?_; rintro e w4 ⟨rfl, hB4⟩)
      | (go_at_call 8; refine (impl_Walked B _ p _ (h.below hB2) hd).mono ?_; rintro e w3 ⟨⟨a3, n3, cap3, rfl, hn3, R3⟩, hB3⟩; rw [hWh.out] at R3; have hl3 : (walkL p.vs).length ≤ 480 := (by rw [R3.sl.len]; exact hn3); have kk := bcell hB3 k0))
    all_goals go_wp2
    all_goals go_returns
    all_goals exact ⟨by rw [hRs.out, ← hou n3 R3.sl.len hn3]; rfl, chain (chain hB2 hB3) hB4⟩
end Go.Proofs.YtnjefbkhibfgmaaGreat
namespace Go.Proofs.YtnjefbkhibfgmaaGreat
open Go.RowKit Go.BigFrame
theorem eqCt_iff {p q : Ct} (h : eqCt p q = true) : p = q := by
  unfold eqCt at h
  simp only [Bool.and_eq_true, beq_iff_eq] at h
  obtain ⟨o, n⟩ := p
  obtain ⟨o', n'⟩ := q
  simp only at h
  rw [owEq_iff.1 h.1, h.2]
theorem eqCts_iff : ∀ {l m : List Ct}, eqCts l m = true → l = m
  | [], [], _ => rfl
  | [], _ :: _, h => by simp [eqCts] at h
  | _ :: _, [], h => by simp [eqCts] at h
  | x :: r, y :: s, h => by
    simp only [eqCts, Bool.and_eq_true] at h
    rw [eqCt_iff h.1, eqCts_iff h.2]
theorem pool_walk {p : Po} (h : poolB p = true) : sumC p.rf p.lt = walkL p.vs := by
  have h1 := (poolB_fl h).1
  simp only [poolB, Bool.and_eq_true] at h
  have h2 := h.1.2
  rw [h1] at h2
  exact eqCts_iff h2
theorem onlyS_le (id : Int) (W : List Ct) : ∀ ex : List Ex, 0 ≤ onlyS id W ex ∧ onlyS id W ex ≤ (ex.map (fun x => (x.d.size : Int))).sum
  | [] => by simp [onlyS]
  | x :: r => by
    have ih := onlyS_le id W r
    simp only [onlyS, List.map_cons, List.sum_cons]
    split <;> omega
end Go.Proofs.YtnjefbkhibfgmaaGreat
