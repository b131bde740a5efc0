/- PoolOk of the program. How the laws' arguments, as they are read, lie in memory: pools. What the laws over pools have in common. A Builder that is a writer's field. -/
import Derived.Test.YtigldeccfpkdmaaGreatDoorCSuperTextx19
import Derived.Test.YtigldeccfpkdmaaGreatDoorCSuperTextx11
import Derived.Test.YtigldeccfpkdmaaGreatDoorCSuperTextx15
import Derived.Test.YtigldeccfpkdmaaGreatDoorCSuperTextx16
import Derived.Lib.SmallJoins
import Derived.Test.YtigldeccfpkdmaaGreatDoorCSuperTextx18
import Derived.Test.YtigldeccfpkdmaaGreatDoorCSuperTextx00
import Derived.Test.YtigldeccfpkdmaaGreatDoorCSuperTextx17
import Derived.Test.YtigldeccfpkdmaaGreatDoorProg
import Derived.Shelf.Strings.BuilderK
import Derived.Test.YtigldeccfpkdmaaGreatDoorCSuperTextx01
namespace Go.Proofs.YtigldeccfpkdmaaGreatDoor
open Go.RowKit Go.BigFrame
theorem own_below {P : Program} {k : TypeId} {R : Value → Option (DataW Unit × List MemPlace)} {w w' : World} {b n : Nat} {D : DataW Unit} (h : w.ownsMap P k R b n D) (hb : Below w.heap.size w w') : w'.ownsMap P k R b n D := by
  have hlt := h.lt
  obtain ⟨es, clock, h1, r⟩ := h
  exact ⟨es, clock, (hb.block b hlt).trans h1, r⟩
theorem xgo_bound {size : Int} : ∀ {l : List Ex} {next : Int}, 0 ≤ next → size ≤ 400 → xgo size next l = true → ∀ x ∈ l, 0 ≤ x.a ∧ x.a ≤ 400
  | [], _, _, _, _, _, hx => by simp at hx
  | e :: r, next, h0, hs, h, x, hx => by
    simp only [xgo, Bool.and_eq_true, decide_eq_true_eq] at h
    obtain ⟨⟨⟨h1, h2⟩, h3⟩, h4⟩ := h
    have hd : 1 ≤ e.d.size := by
      simp only [dataOkB, Bool.and_eq_true, decide_eq_true_eq] at h1
      exact h1.1.1
    rcases List.mem_cons.1 hx with rfl | hx
    · omega
    · exact xgo_bound (by omega) hs h4 x hx
theorem space_wf {size : Int} {l : List Ex} (h : spaceOkB size l = true) : ∀ x ∈ l, (Lit.int .i64 x.a).wf = true := fun x hx => by
  simp only [spaceOkB, Bool.and_eq_true, decide_eq_true_eq] at h
  have := xgo_bound (by omega) h.1.1.2 h.2 x hx
  exact WalkArith.wf_i64 (by omega)
theorem parts_wf {ps : List Pt} {e : List Ex} (h : (contentO ps e).isSome = true) : ∀ p ∈ ps, (Lit.int .i64 p.a).wf = true := fun p hp => by
  have hk : partsOkB ps = true := by
    unfold contentO at h
    split at h
    · rename_i hh; exact hh.1
    · cases h
  obtain ⟨_, q2, _⟩ := partsOkB_all hk
  have := q2 p hp
  unfold partOkB at this
  split at this
  · rename_i h0
    have : p.a = 0 := by simpa using h0
    exact WalkArith.wf_i64 (by omega)
  · simp only [Bool.and_eq_true, decide_eq_true_eq] at this
    exact WalkArith.wf_i64 (by omega)
theorem name_small {s : ByteArray} (h : nameB s = true) : s.size ≤ maxLen := by
  simp only [nameB, Bool.and_eq_true, decide_eq_true_eq] at h
  unfold maxLen
  omega
theorem igo_name {e : List Ex} : ∀ {l : List It} {q : Option It}, igo e q l = true → ∀ x ∈ l, nameB x.nm = true
  | [], _, _, x, hx => by simp at hx
  | y :: r, q, h, x, hx => by
    simp only [igo, Bool.and_eq_true] at h
    rcases List.mem_cons.1 hx with rfl | hx
    · exact h.1.1.1
    · exact igo_name h.2 x hx
theorem wfV_of {next : Int} {e : List Ex} {l : List Vo} (hn : next ≤ 1000000000) (h : vgo next e 0 l = true) : WfV l := by
  intro v hv
  obtain ⟨h1, h2, h3, h4⟩ := vgo_each h v hv
  refine ⟨WalkArith.wf_i64 (by omega), fun x hx => ?_⟩
  simp only [itemsB, Bool.and_eq_true] at h1
  exact ⟨name_small (igo_name h1.2 x hx), parts_wf (igo_each h1.2 x hx)⟩
set_option maxHeartbeats 4000000 in
set_option maxRecDepth 100000 in
theorem impl_PoolOk (B : Nat) (v : Value) (p : Po) (w : World) (h : PoolAt B w v p) (hd : DimP p) :
    Calls Tryz.prog 41 #[v] w fun e w' => e = .returned (.bool (poolB p)) ∧ Below w.heap.size w w' := by
  obtain ⟨ea, en, ec, va, vn, vc, ra, rn, rc, la, ln, lc, rfl, ⟨h1, k1⟩, ⟨h2, k2⟩, ⟨h3, k3⟩, h4, k4⟩ := h
  obtain ⟨z1, z2, z3, z4, z5, z6, z7, z8⟩ := hd
  rw [h1.len] at z1
  rw [h2.len] at z3
  rw [h3.len] at z5
  rw [h4.len] at z7
  have n2 : Hid (p.vs.length = vn) := h2.len
  have n3 : Hid (p.rf.length = rn) := h3.len
  have n4 : Hid (p.lt.length = ln) := h4.len
  obtain ⟨size, next, ex, vs, rf, lt⟩ := p
  simp only at h1 h2 h3 h4 z2 z4 z6 z8 n2 n3 n4
  obtain ⟨pb, po, hpb⟩ : ∃ pb po, 0 < vn → va = some ⟨pb, po, none⟩ := by
    by_cases h0 : 0 < vn
    · obtain ⟨b, o, _, _, _, _, hv, _⟩ := vs_at h2 h0
      exact ⟨b, o, fun _ => hv⟩
    · exact ⟨0, 0, fun h => absurd h h0⟩
  have hR : Hid (poolB ⟨size, next, ex, vs, rf, lt⟩ = (spaceOkB size ex && decide (1 ≤ next) && decide (next ≤ 1000000000) && volsB next vs ex && namesB vs && (match flushedO rf lt with | none => false | some s => eqCts s (walkL vs)) && addrB ex (rf ++ lt))) := rfl
  generalize poolB ⟨size, next, ex, vs, rf, lt⟩ = R at *
  have C := (Blk.new w #[.int .i64 size, .int .i64 next, .slice ea en ec, .slice va vn vc, .slice ra rn rc, .slice la ln lc] 26)
  have hB0 : Below w.heap.size w (w.alloc (.cells #[.int .i64 size, .int .i64 next, .slice ea en ec, .slice va vn vc, .slice ra rn rc, .slice la ln lc] 26)) := by go_grown
  cases hok : spaceOkB size ex
  · rw [hok] at hR
    simp only [Bool.false_and] at hR
    go_enter Tryz.func41, Tryz.ntmps41
    go_wp2_with fail
    generalize w.alloc (.cells #[.int .i64 size, .int .i64 next, .slice ea en ec, .slice va vn vc, .slice ra rn rc, .slice la ln lc] 26) = W0 at *
    refine (impl_SpaceOk size ea en ec ex _ (h1.below hB0) z2 z1).mono ?_
    rintro e w1 ⟨rfl, hB1⟩
    rw [hok]
    go_wp2
    go_returns
    exact ⟨by rw [hR.out]; rfl, chain hB0 hB1⟩
  · rw [hok, Bool.true_and] at hR
    go_enter Tryz.func41, Tryz.ntmps41
    go_wp2_with fail
    generalize w.alloc (.cells #[.int .i64 size, .int .i64 next, .slice ea en ec, .slice va vn vc, .slice ra rn rc, .slice la ln lc] 26) = W0 at *
    refine (impl_SpaceOk size ea en ec ex _ (h1.below hB0) z2 z1).mono ?_
    rintro e w1 ⟨rfl, hB1⟩
    rw [hok]
    have C1 := C.below hB1
    replace hB1 := chain hB0 hB1
    clear C hB0
    have d0 := C1.cell 0
    have d1 := C1.cell 1
    have d2 := C1.cell 2
    have d3 := C1.cell 3
    have d4 := C1.cell 4
    have d5 := C1.cell 5
    simp only [lgA, lgB, lgC] at d0 d1 d2 d3 d4 d5
    by_cases hn1 : 1 ≤ next
    · rw [decide_eq_true hn1, Bool.true_and] at hR
      by_cases hn2 : next ≤ 1000000000
      · rw [decide_eq_true hn2, Bool.true_and] at hR
        have hvgo : Hid (volsB next vs ex = true → vs.length ≤ 6 ∧ vgo next ex 0 vs = true) := fun h => by simpa [volsB] using h
        go_wp2_with fail
        refine (impl_volsOk B size next ea en ec va vn vc ra rn rc la ln lc ex vs _ (h1.below hB1) (h2.below hB1) z1 z2 z3 z4).mono ?_
        rintro e w2 ⟨rfl, hB2⟩
        have C2 := C1.below hB2
        replace hB2 := chain hB1 hB2
        clear d0 d1 d2 d3 d4 d5 C1 hB1
        have d0 := C2.cell 0
        have d1 := C2.cell 1
        have d2 := C2.cell 2
        have d3 := C2.cell 3
        have d4 := C2.cell 4
        have d5 := C2.cell 5
        simp only [lgA, lgB, lgC] at d0 d1 d2 d3 d4 d5
        cases hvk : volsB next vs ex
        · rw [hvk] at hR
          simp only [Bool.false_and] at hR
          clear hvk
          go_wp2
          go_returns
          exact ⟨by rw [hR.out]; rfl, hB2⟩
        · obtain ⟨h6, hvg⟩ := hvgo.out hvk
          rw [hvk, Bool.true_and] at hR
          have hty := tiny_of h6 hvg
          have hwv := wfV_of hn2 hvg
          clear hvk hvgo
          go_wp2_with fail
          refine (impl_volumesOf B size next ea en ec va vn vc ra rn rc la ln lc vs pb po hpb _ (h2.below hB2) z3 z4).mono ?_
          rintro e w3 ⟨⟨mb, D, rfl, hmb, hO, hV⟩, hB3⟩
          have C3 := C2.below hB3
          replace hB3 := chain hB2 hB3
          clear d0 d1 d2 d3 d4 d5 C2 hB2
          have d3 := C3.cell 3
          have d4 := C3.cell 4
          have d5 := C3.cell 5
          simp only [lgA, lgB, lgC] at d3 d4 d5
          have hln := hO.len Tryz.underlying148 3
          have hfu := hV.full
          have hsz := hV.size
          rw [n2.out] at hfu hsz
          have hnb : Hid (namesB vs = decide (Maps.size D = vn)) := by show _ = _; unfold namesB; rw [decide_eq_decide]; exact hfu.symm
          rw [hnb.out] at hR
          by_cases hse : Maps.size D = vn
          · rw [decide_eq_true hse, Bool.true_and] at hR
            have hnd := hfu.1 hse
            rw [hse] at hln
            have hbn : ((vn : Int) != (vn : Int)) = false := by simp
            clear hfu hsz hnb hse
            go_wp2_with fail
            refine (impl_Flushed ra rn rc rf la ln lc lt _ (h3.below hB3) (h4.below hB3) z6 z8 z5 z7).mono ?_
            rintro e w4 ⟨hret, hB4⟩
            have C4 := C3.below hB4
            replace hO := own_below hO hB4
            replace hB4 := chain hB3 hB4
            clear d3 d4 d5 C3 hB3 hln
            cases hfl : flushedO rf lt with
            | none =>
              rw [hfl] at hret hR
              replace hret : e = .returned (.tuple #[.slice none 0 0, .bool false]) := hret
              subst hret
              clear hfl
              go_wp2
              go_returns
              exact ⟨by rw [hR.out]; rfl, hB4⟩
            | some sm =>
              rw [hfl] at hret hR
              replace hR : Hid (R = (eqCts sm (walkL vs) && addrB ex (rf ++ lt))) := hR
              obtain ⟨a4, n4', cap4, rfl, hn4, R4⟩ := hret
              have hrl : refsOkB rf = true ∧ lateOkB lt = true := by
                unfold flushedO at hfl
                split at hfl
                · rename_i hh; exact hh
                · cases hfl
              clear hfl
              go_wp2_with fail
              refine (impl_found B mb pb po D va vn vs hpb _ hO hV hnd (h2.below hB4) hty hwv).mono ?_
              rintro e w5 ⟨⟨a5, n5, cap5, rfl, hn5, R5⟩, hB5⟩
              replace R4 := R4.below hB5
              have C5 := C4.below hB5
              replace hB5 := chain hB4 hB5
              clear C4 hB4 hO
              go_wp2_with fail
              refine (slices_Equal a4 n4' cap4 sm a5 n5 cap5 (walkL vs) _ R4.sl R5.sl (by omega) (by omega)).mono ?_
              rintro e w6 ⟨rfl, hB6⟩
              have C6 := C5.below hB6
              replace hB6 := chain hB5 hB6
              clear R4 R5 C5 hB5
              have d0 := C6.cell 0
              have d1 := C6.cell 1
              have d2 := C6.cell 2
              have d3 := C6.cell 3
              have d4 := C6.cell 4
              have d5 := C6.cell 5
              simp only [lgA, lgB, lgC] at d0 d1 d2 d3 d4 d5
              cases hM : eqCts sm (walkL vs)
              · rw [hM] at hR
                simp only [Bool.false_and] at hR
                clear hM
                go_wp2
                go_returns
                exact ⟨by rw [hR.out]; rfl, hB6⟩
              · rw [hM, Bool.true_and] at hR
                have hrw := (refs_wf hrl.1).1
                have hlw := (late_wf hrl.2).1
                have hr2 := (refs_bound hrl.1).1
                have hl2 := (late_bound hrl.2).1
                rw [n3.out] at hr2
                rw [n4.out] at hl2
                clear hM
                go_wp2_with fail
                refine (impl_addrsOk size next ea en ec va vn vc ra rn rc la ln lc ex rf lt _ (h1.below hB6) (h3.below hB6) (h4.below hB6) z1 hr2 hl2 (space_wf hok) (fun c hc => (hrw c hc).a) (fun c hc => (hlw c hc).a) (space_nodup hok)).mono ?_
                rintro e w7 ⟨rfl, hB7⟩
                go_wp2
                go_returns
                exact ⟨by rw [hR.out]; rfl, chain hB6 hB7⟩
          · rw [decide_eq_false hse] at hR
            simp only [Bool.false_and] at hR
            have hbn : ((Maps.size D : Int) != (vn : Int)) = true := by simp; omega
            go_wp2
            go_returns
            exact ⟨by rw [hR.out]; rfl, hB3⟩
      · rw [decide_eq_false hn2] at hR
        simp only [Bool.false_and] at hR
        go_wp2
        go_returns
        exact ⟨by rw [hR.out]; rfl, hB1⟩
    · rw [decide_eq_false hn1] at hR
      simp only [Bool.false_and] at hR
      go_wp2
      go_returns
      exact ⟨by rw [hR.out]; rfl, hB1⟩
end Go.Proofs.YtigldeccfpkdmaaGreatDoor
namespace Go.Proofs.YtigldeccfpkdmaaGreatDoor
open Go.ChangeShapes Go.WideShapes Go.ChangeAt Go.RowKit Go.Deep
theorem slice_cell {H : Type} {enc : TypeId × Value → H} {P : Program} {w : World} {spare : Nat → Bool} {held : Bool} {t e : TypeId} {fuel : Nat} {x : Value} {y : DataW H × List MemPlace} (ht : P.underlying t = some (.slice e)) (h : DataW.trod enc P w 0 spare held fuel t [x] = some y) :
    ∃ a n cap, x = .slice a n cap ∧ n ≤ cap ∧ cap ≤ 9223372036854775807 := by
  rcases open_slice ht h with ⟨hcs, _⟩ | ⟨ad, len, cap', m, n', D, Pl, hcs, _, hl, hm, _⟩
  · exact ⟨none, 0, 0, by simpa using hcs, by omega, by omega⟩
  · exact ⟨some ad, len, cap', by simpa using hcs, hl, by unfold maxLen at hm; omega⟩
theorem cellsI : Tryz.prog.cellsOf 268 = 2 := by kernel_rfl
theorem cellsV : Tryz.prog.cellsOf 163 = 4 := by kernel_rfl
theorem cP : Tryz.prog.cellsOf 266 = 1 := by kernel_rfl
theorem cI : Tryz.prog.cellsOf 161 = 1 := by kernel_rfl
theorem c4b : Tryz.prog.cellsOf 4 = 1 := by kernel_rfl
def ItOpen (w : World) (ad : Addr) (i : Nat) (q : It) : Prop :=
  ∃ pa pn pc, w.cell? (ad.add (i * 2)) = some (.string q.nm) ∧ w.cell? (ad.add (i * 2 + 1)) = some (.slice pa pn pc) ∧ PtsAt w pa pn q.ps ∧ pn ≤ pc ∧ pc ≤ 9223372036854775807 ∧ q.nm.size ≤ 9223372036854775807
set_option maxRecDepth 100000 in
/-- An argument that is a list of items. -/
theorem open_its {H : Type} {enc : TypeId × Value → H} {w : World} {spare : Nat → Bool} {held : Bool} {a : Option Addr} {n cap : Nat} {d : DataW H} {p : List MemPlace}
    (h : DataW.Trod enc Tryz.prog w 0 spare held 161 (.slice a n cap) d p) : n ≤ 9223372036854775807 ∧ ∃ l : List It, ItsAt 0 w a n l ∧ BigI l := by
  obtain ⟨fuel, hf⟩ := h
  rcases open_slice Tryz.underlying161 hf with ⟨hcs, _⟩ | ⟨ad, len, cap', m, n', D, Pl, hcs, _, hl, hm, hmm, _, hel⟩
  · simp [Value.cells] at hcs
    obtain ⟨rfl, rfl, rfl⟩ := hcs
    exact ⟨Nat.zero_le _, [], ⟨rfl, fun i x hx => by simp at hx⟩, fun x hx => by simp at hx⟩
  · simp [Value.cells] at hcs
    obtain ⟨rfl, rfl, rfl⟩ := hcs
    have hle : n ≤ m := by rw [hmm]; split <;> omega
    refine ⟨by unfold maxLen at hm; omega, ?_⟩
    have hone : ∀ i, i < n → ∃ q : It, ItOpen w ad i q := by
      intro i hi
      obtain ⟨cs', h1, h2⟩ := hel i (by omega)
      rw [cellsI] at h1
      obtain ⟨_, hlen, hcell⟩ := World.cells?_some h1
      obtain ⟨y0, y1, _, _, _, t0, t1⟩ := trod_struct2 Tryz.underlying268 h2
      obtain ⟨z0, e0, _, hz⟩ := DataW.trod_string Tryz.underlying9 t0
      match cs', hlen with
      | [x0, x1], _ =>
        simp [c9, cP] at e0 t1
        subst e0
        obtain ⟨pa, pn, pc, rfl, hp1, hp2⟩ := slice_cell Tryz.underlying266 t1
        obtain ⟨_, l, hl'⟩ := open_pts (d := y1.1) (p := y1.2) ⟨_, t1⟩
        have q0 := hcell 0 (by omega)
        have q1 := hcell 1 (by omega)
        rw [Addr.add_add] at q0 q1
        exact ⟨⟨z0, l⟩, pa, pn, pc, q0, q1, hl', hp1, hp2, by unfold maxLen at hz; exact hz⟩
    have hinh : Inhabited It := ⟨⟨.empty, []⟩⟩
    obtain ⟨L, hL⟩ := choose_lt (α := It) (p := fun i q => ItOpen w ad i q) hone
    refine ⟨(List.range n).map L, ⟨by simp, fun i x hx => ?_⟩, fun x hx => ?_⟩
    · have hi : i < n := by have := (List.getElem?_eq_some_iff.1 hx).1; simpa using this
      simp [hi] at hx
      subst hx
      obtain ⟨_, _, _, h00, _⟩ := hL 0 (by omega)
      obtain ⟨b, o, rfl⟩ := spotless h00 (by omega)
      obtain ⟨pa, pn, pc, c0, c1, r1, r2, r3, _⟩ := hL i hi
      rw [Addr.add_lit] at c0 c1
      exact ⟨b, o, pa, pn, pc, rfl, c0, by rw [Nat.add_assoc]; exact c1, r1, ⟨r2, r3, fun h0 => by omega⟩, Nat.zero_le _, fun _ _ => Nat.zero_le _, sf_zero, sf_zero⟩
    · obtain ⟨i, hi, rfl⟩ := List.mem_map.1 hx
      obtain ⟨pa, pn, pc, c0, c1, r1, r2, r3, r4⟩ := hL i (by simpa using hi)
      exact ⟨r4, by rw [r1.len]; omega⟩
def VoOpen (w : World) (ad : Addr) (i : Nat) (q : Vo) : Prop :=
  ∃ pa pn pc, w.cell? (ad.add (i * 4)) = some (.int .i64 q.id) ∧ w.cell? (ad.add (i * 4 + 1)) = some (.string q.nm) ∧ w.cell? (ad.add (i * 4 + 2)) = some (.bool q.fx) ∧ w.cell? (ad.add (i * 4 + 3)) = some (.slice pa pn pc) ∧ ItsAt 0 w pa pn q.its ∧ pn ≤ pc ∧ pc ≤ 9223372036854775807 ∧ q.nm.size ≤ 9223372036854775807 ∧ BigI q.its
set_option maxRecDepth 100000 in
/-- An argument that is a list of volumes. -/
theorem open_vs {H : Type} {enc : TypeId × Value → H} {w : World} {spare : Nat → Bool} {held : Bool} {a : Option Addr} {n cap : Nat} {d : DataW H} {p : List MemPlace}
    (h : DataW.Trod enc Tryz.prog w 0 spare held 33 (.slice a n cap) d p) : n ≤ 9223372036854775807 ∧ ∃ l : List Vo, VsAt 0 w a n l ∧ BigV l := by
  obtain ⟨fuel, hf⟩ := h
  rcases open_slice Tryz.underlying33 hf with ⟨hcs, _⟩ | ⟨ad, len, cap', m, n', D, Pl, hcs, _, hl, hm, hmm, _, hel⟩
  · simp [Value.cells] at hcs
    obtain ⟨rfl, rfl, rfl⟩ := hcs
    exact ⟨Nat.zero_le _, [], ⟨rfl, fun i x hx => by simp at hx⟩, fun x hx => by simp at hx⟩
  · simp [Value.cells] at hcs
    obtain ⟨rfl, rfl, rfl⟩ := hcs
    have hle : n ≤ m := by rw [hmm]; split <;> omega
    refine ⟨by unfold maxLen at hm; omega, ?_⟩
    have hone : ∀ i, i < n → ∃ q : Vo, VoOpen w ad i q := by
      intro i hi
      obtain ⟨cs', h1, h2⟩ := hel i (by omega)
      rw [cellsV] at h1
      obtain ⟨_, hlen, hcell⟩ := World.cells?_some h1
      obtain ⟨y0, y1, y2, y3, _, _, _, t0, t1, t2, t3⟩ := Go.Joins.trod_struct4 Tryz.underlying163 h2
      obtain ⟨z0, e0, _, _⟩ := DataW.trod_int Tryz.underlying2 t0
      obtain ⟨z1, e1, _, hz⟩ := DataW.trod_string Tryz.underlying9 t1
      obtain ⟨z2, e2, _⟩ := DataW.trod_bool Tryz.underlying4 t2
      match cs', hlen with
      | [x0, x1, x2, x3], _ =>
        simp [c2, c9, cI, c4b] at e0 e1 e2 t3
        subst e0 e1 e2
        obtain ⟨pa, pn, pc, rfl, hp1, hp2⟩ := slice_cell Tryz.underlying161 t3
        obtain ⟨_, l, hl', hbl⟩ := open_its (d := y3.1) (p := y3.2) ⟨_, t3⟩
        have q0 := hcell 0 (by omega)
        have q1 := hcell 1 (by omega)
        have q2 := hcell 2 (by omega)
        have q3 := hcell 3 (by omega)
        rw [Addr.add_add] at q0 q1 q2 q3
        exact ⟨⟨z0, z1, z2, l⟩, pa, pn, pc, q0, q1, q2, q3, hl', hp1, hp2, by unfold maxLen at hz; exact hz, hbl⟩
    have hinh : Inhabited Vo := ⟨⟨0, .empty, false, []⟩⟩
    obtain ⟨L, hL⟩ := choose_lt (α := Vo) (p := fun i q => VoOpen w ad i q) hone
    refine ⟨(List.range n).map L, ⟨by simp, fun i x hx => ?_⟩, fun x hx => ?_⟩
    · have hi : i < n := by have := (List.getElem?_eq_some_iff.1 hx).1; simpa using this
      simp [hi] at hx
      subst hx
      obtain ⟨_, _, _, h00, _⟩ := hL 0 (by omega)
      obtain ⟨b, o, rfl⟩ := spotless h00 (by omega)
      obtain ⟨pa, pn, pc, c0, c1, c2, c3, r1, r2, r3, _⟩ := hL i hi
      rw [Addr.add_lit] at c0 c1 c2 c3
      exact ⟨b, o, pa, pn, pc, rfl, c0, by rw [Nat.add_assoc]; exact c1, by rw [Nat.add_assoc]; exact c2, by rw [Nat.add_assoc]; exact c3, r1, ⟨r2, r3, fun h0 => by omega⟩, Nat.zero_le _, sf_zero⟩
    · obtain ⟨i, hi, rfl⟩ := List.mem_map.1 hx
      obtain ⟨pa, pn, pc, c0, c1, c2, c3, r1, r2, r3, r4, r5⟩ := hL i (by simpa using hi)
      exact ⟨r4, by rw [r1.len]; omega, r5⟩
theorem array6 {α : Type} {cs : Array α} (h : cs.size = 6) : ∃ c0 c1 c2 c3 c4 c5, cs = #[c0, c1, c2, c3, c4, c5] := by
  obtain ⟨l⟩ := cs
  match l, h with
  | [c0, c1, c2, c3, c4, c5], _ => exact ⟨c0, c1, c2, c3, c4, c5, rfl⟩
set_option maxRecDepth 100000 in
/-- An argument that is a pool. -/
theorem open_pool {H : Type} {enc : TypeId × Value → H} {W : World} {r : Reach} {b0 : Nat} {spare : Nat → Bool} {held : Bool} {v : Value} {d : DataW H} {p : List MemPlace}
    (hv : Value.okWide Tryz.prog W r b0 36 v) (h : DataW.Trod enc Tryz.prog W 0 spare held 36 v d p) :
    ∃ q : Po, PoolAt 0 W v q ∧ BigP q := by
  have hc : Tryz.prog.cellsOf 36 = 6 := by kernel_rfl
  have hcE : Tryz.prog.cellsOf 32 = 1 := by kernel_rfl
  have hcV : Tryz.prog.cellsOf 33 = 1 := by kernel_rfl
  have hcC : Tryz.prog.cellsOf 34 = 1 := by kernel_rfl
  obtain ⟨cs, rfl, hsz⟩ := okWide_struct Tryz.underlying36 hv
  obtain ⟨c0, c1, c2', c3, c4, c5, rfl⟩ := array6 (hsz.trans hc)
  obtain ⟨fuel, hf⟩ := h
  obtain ⟨xs, n, _, _, _, hlen, hx⟩ := DataW.trod_struct Tryz.underlying36 hf
  have len6 : xs.length = 6 := hlen
  have q0 : DataW.trod enc Tryz.prog W 0 spare held n 2 [c0] = some (xs[0]'(by omega)) := by
    have := hx 0 _ rfl
    rw [List.getElem?_eq_getElem (by omega)] at this
    simpa [Value.cells, c2] using this
  have q1 : DataW.trod enc Tryz.prog W 0 spare held n 2 [c1] = some (xs[1]'(by omega)) := by
    have := hx 1 _ rfl
    rw [List.getElem?_eq_getElem (by omega)] at this
    simpa [Value.cells, c2] using this
  have q2 : DataW.trod enc Tryz.prog W 0 spare held n 32 [c2'] = some (xs[2]'(by omega)) := by
    have := hx 2 _ rfl
    rw [List.getElem?_eq_getElem (by omega)] at this
    simpa [Value.cells, hcE] using this
  have q3 : DataW.trod enc Tryz.prog W 0 spare held n 33 [c3] = some (xs[3]'(by omega)) := by
    have := hx 3 _ rfl
    rw [List.getElem?_eq_getElem (by omega)] at this
    simpa [Value.cells, hcV] using this
  have q4 : DataW.trod enc Tryz.prog W 0 spare held n 34 [c4] = some (xs[4]'(by omega)) := by
    have := hx 4 _ rfl
    rw [List.getElem?_eq_getElem (by omega)] at this
    simpa [Value.cells, hcC] using this
  have q5 : DataW.trod enc Tryz.prog W 0 spare held n 34 [c5] = some (xs[5]'(by omega)) := by
    have := hx 5 _ rfl
    rw [List.getElem?_eq_getElem (by omega)] at this
    simpa [Value.cells, hcC] using this
  obtain ⟨n0, e0, _, _⟩ := DataW.trod_int Tryz.underlying2 q0
  obtain ⟨n1, e1, _, _⟩ := DataW.trod_int Tryz.underlying2 q1
  simp at e0 e1
  subst e0 e1
  obtain ⟨ea, en, ec, rfl, k1, k1'⟩ := slice_cell Tryz.underlying32 q2
  obtain ⟨va, vn, vc, rfl, k2, k2'⟩ := slice_cell Tryz.underlying33 q3
  obtain ⟨ra, rn, rc, rfl, k3, k3'⟩ := slice_cell Tryz.underlying34 q4
  obtain ⟨la, ln, lc, rfl, k4, k4'⟩ := slice_cell Tryz.underlying34 q5
  obtain ⟨_, ex, h1, s1⟩ := open_exs (d := (xs[2]'(by omega)).1) (p := (xs[2]'(by omega)).2) ⟨_, q2⟩
  obtain ⟨_, vs, h2, s2⟩ := open_vs (d := (xs[3]'(by omega)).1) (p := (xs[3]'(by omega)).2) ⟨_, q3⟩
  obtain ⟨_, rf, h3, s3⟩ := open_cts (d := (xs[4]'(by omega)).1) (p := (xs[4]'(by omega)).2) ⟨_, q4⟩
  obtain ⟨_, lt, h4, s4⟩ := open_cts (d := (xs[5]'(by omega)).1) (p := (xs[5]'(by omega)).2) ⟨_, q5⟩
  unfold maxLen at s1 s3 s4
  refine ⟨⟨n0, n1, ex, vs, rf, lt⟩, ⟨ea, en, ec, va, vn, vc, ra, rn, rc, la, ln, lc, rfl, ⟨h1, ⟨k1, k1', fun h0 => by omega⟩, sf_zero⟩, ⟨h2, k2, k2', fun h0 => by omega⟩, ⟨h3, ⟨k3, k3', fun h0 => by omega⟩, sf_zero⟩, h4, ⟨k4, k4', fun h0 => by omega⟩, sf_zero⟩, ?_⟩
  exact ⟨by show ex.length ≤ _; rw [h1.len]; omega, fun e he => by have := s1 e he; omega, by show vs.length ≤ _; rw [h2.len]; omega, s2, by show rf.length ≤ _; rw [h3.len]; omega, fun e he => by have := s3 e he; omega, by show lt.length ≤ _; rw [h4.len]; omega, fun e he => by have := s4 e he; omega⟩
end Go.Proofs.YtigldeccfpkdmaaGreatDoor
namespace Go.Proofs.YtigldeccfpkdmaaGreatDoor
open Go.RowKit Go.BigFrame
theorem SmallP.dim {p : Po} (h : SmallP p) : DimP p := by
  obtain ⟨h1, h2, h3, h4⟩ := h
  refine ⟨by have := h1.1; omega, h1.strs, by have := h2.1; omega, fun v hv => ?_, by have := h3.1; omega, h3.strs, by have := h4.1; omega, h4.strs⟩
  obtain ⟨a1, a2, a3⟩ := h2.2 v hv
  exact ⟨by omega, by omega, fun x hx => by have := a3 x hx; omega⟩
theorem PoolAt.cells {B : Nat} {w : World} {v : Value} {p : Po} (h : PoolAt B w v p) : ∃ ea en ec va vn vc ra rn rc la ln lc, v = .agg #[.int .i64 p.size, .int .i64 p.next, .slice ea en ec, .slice va vn vc, .slice ra rn rc, .slice la ln lc] := by
  obtain ⟨ea, en, ec, va, vn, vc, ra, rn, rc, la, ln, lc, rfl, _⟩ := h
  exact ⟨_, _, _, _, _, _, _, _, _, _, _, _, rfl⟩
/-- The six cells of a block that holds a pool. -/
theorem Blk.six {w : World} {b : Nat} {c0 c1 c2 c3 c4 c5 : Value} {t : TypeId} (h : Blk w b #[c0, c1, c2, c3, c4, c5] t) : w.cell? ⟨b, 0, none⟩ = some c0 ∧ w.cell? ⟨b, 1, none⟩ = some c1 ∧ w.cell? ⟨b, 2, none⟩ = some c2 ∧ w.cell? ⟨b, 3, none⟩ = some c3 ∧ w.cell? ⟨b, 4, none⟩ = some c4 ∧ w.cell? ⟨b, 5, none⟩ = some c5 :=
  ⟨h.cell 0, h.cell 1, h.cell 2, h.cell 3, h.cell 4, h.cell 5⟩
end Go.Proofs.YtigldeccfpkdmaaGreatDoor
namespace Go.Proofs.YtigldeccfpkdmaaGreatDoor
open Go Go.RowKit Go.BigFrame Go.Shelf
theorem bu_size : (Tryz.prog.info? 180).map (·.size) = some 2 := by kernel_rfl
theorem bu_lies : liesAt Tryz.prog Tryz.prog.depth 182 (2 / Tryz.prog.cellsOf 182) 0 180 1 = true := by kernel_rfl
set_option maxHeartbeats 1000000 in
set_option maxRecDepth 100000 in
theorem bu_check_used (b : Nat) (w : World) (h0 : w.cell? ⟨b, 0, none⟩ = some (.pointer (some ⟨b, 0, none⟩))) :
    Calls Tryz.prog 216 #[.pointer (some ⟨b, 0, none⟩)] w fun e w' => e = .returned (.tuple #[]) ∧ w' = w := by
  obtain ⟨j, hj, _⟩ := Option.map_eq_some_iff.1 bu_size
  go_enter Tryz.func216, Tryz.ntmps216
  go_wp2
  rw [Lib.run_neq_ptr_same w _ Tryz.underlying178 hj]
  go_wp2
  go_end0
  exact ⟨rfl, rfl⟩
set_option maxHeartbeats 1000000 in
set_option maxRecDepth 100000 in
theorem bu_check_fresh (b : Nat) (w : World) (h0 : w.cell? ⟨b, 0, none⟩ = some (.pointer none)) (hsh : w.shape? b = some (182, 2)) (hfz : w.frozen? ⟨b, 0, none⟩ = false) :
    Calls Tryz.prog 216 #[.pointer (some ⟨b, 0, none⟩)] w fun e w' => e = .returned (.tuple #[]) ∧ w' = w.setCell ⟨b, 0, none⟩ (.pointer (some ⟨b, 0, none⟩)) := by
  obtain ⟨j, hj, hjs⟩ := Option.map_eq_some_iff.1 bu_size
  go_enter Tryz.func216, Tryz.ntmps216
  go_wp2
  rw [Lib.run_to_unsafe w ⟨b, 0, none⟩ Tryz.underlying178 Tryz.underlying298 hj (by rw [hjs]; decide) hsh (Nat.zero_lt_succ 1)]
  simp only [Result.andThen]
  rw [Oper.upon_value]
  go_wp2
  rw [run_callFunc_extern Tryz.func244 (by kernel_rfl) (by kernel_rfl) (by kernel_rfl) (e := Extern.AbiNoEscape.same) (by kernel_rfl)]
  rw [Lib.run_noEscape]
  simp only [Result.andThen]
  rw [Oper.upon_value]
  go_wp2
  rw [Lib.run_from_unsafe w ⟨b, 0, none⟩ Tryz.underlying298 Tryz.underlying178 hj hsh bu_lies]
  simp only [Result.andThen]
  rw [Oper.upon_value]
  go_wp2
  go_end0
  exact ⟨rfl, rfl⟩
theorem bu_check (B b : Nat) (bs : List Value) (w : World) (h : Lib.IsBuilderF 182 5 B b bs w) :
    Calls Tryz.prog 216 #[.pointer (some ⟨b, 0, none⟩)] w fun e w' => e = .returned (.tuple #[]) ∧ Lib.BuilderAtF 182 5 B b (.pointer (some ⟨b, 0, none⟩)) bs w' ∧ Below B w w' ∧ Lib.OthersKept 5 (some b) w w' := by
  rcases h with h | h
  · refine (bu_check_fresh b w h.cell0 h.shape h.frozen0).mono ?_
    rintro e w' ⟨rfl, rfl⟩
    exact ⟨rfl, h.used _, (Below.refl B w).setCell (p := ⟨b, 0, none⟩) h.1 _, (Lib.OthersKept.refl _ _ w).setCell ⟨b, 0, none⟩ rfl _⟩
  · refine (bu_check_used b w h.cell0).mono ?_
    rintro e w' ⟨rfl, rfl⟩
    exact ⟨rfl, h, Below.refl B _, Lib.OthersKept.refl _ _ _⟩
end Go.Proofs.YtigldeccfpkdmaaGreatDoor
