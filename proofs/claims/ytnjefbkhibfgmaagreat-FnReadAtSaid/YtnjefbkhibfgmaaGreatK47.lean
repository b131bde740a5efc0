/- PoolOk of the program. What an answer of a list and a flag is to the laws. Volumes and files asked for, by the program; its SizeOf. -/
import Derived.Test.YtnjefbkhibfgmaaGreatK12
import Derived.Test.YtnjefbkhibfgmaaGreatK43
import Derived.Test.YtnjefbkhibfgmaaGreatK46
import Derived.Test.YtnjefbkhibfgmaaGreatK06
import Derived.Test.YtnjefbkhibfgmaaGreatK22
import Derived.Test.YtnjefbkhibfgmaaGreatK16
namespace Go.Proofs.YtnjefbkhibfgmaaGreat
open Go.RowKit Go.BigFrame
theorem own_below {P : Program} {k : TypeId} {R : Value → Option (DataW Unit × List MemPlace)} {w w' : World} {b n : Nat} {D : DataW Unit} (h : w.ownsMap P k R b n D) (hb : Below w.heap.size w w') : w'.ownsMap P k R b n D := by
  have hlt := h.lt
  obtain ⟨es, clock, h1, r⟩ := h
  exact ⟨es, clock, (hb.block b hlt).trans h1, r⟩
theorem xgo_bound {size : Int} : ∀ {l : List Ex} {next : Int}, 0 ≤ next → size ≤ 400 → xgo size next l = true → ∀ x ∈ l, 0 ≤ x.a ∧ x.a ≤ 400
  | [], _, _, _, _, _, hx => by simp at hx
  | e :: r, next, h0, hs, h, x, hx => by
    simp only [xgo, Bool.and_eq_true, decide_eq_true_eq] at h
    obtain ⟨⟨⟨h1, h2⟩, h3⟩, h4⟩ := h
    have hd : 1 ≤ e.d.size := by
      simp only [dataOkB, Bool.and_eq_true, decide_eq_true_eq] at h1
      exact h1.1.1
    rcases List.mem_cons.1 hx with rfl | hx
    · omega
    · exact xgo_bound (by omega) hs h4 x hx
theorem space_wf {size : Int} {l : List Ex} (h : spaceOkB size l = true) : ∀ x ∈ l, (Lit.int .i64 x.a).wf = true := fun x hx => by
  simp only [spaceOkB, Bool.and_eq_true, decide_eq_true_eq] at h
  have := xgo_bound (by omega) h.1.1.2 h.2 x hx
  exact WalkArith.wf_i64 (by omega)
theorem parts_wf {ps : List Pt} {e : List Ex} (h : (contentO ps e).isSome = true) : ∀ p ∈ ps, (Lit.int .i64 p.a).wf = true := fun p hp => by
  have hk : partsOkB ps = true := by
    unfold contentO at h
    split at h
    · rename_i hh; exact hh.1
    · cases h
  obtain ⟨_, q2, _⟩ := partsOkB_all hk
  have := q2 p hp
  unfold partOkB at this
  split at this
  · rename_i h0
    have : p.a = 0 := by simpa using h0
    exact WalkArith.wf_i64 (by omega)
  · simp only [Bool.and_eq_true, decide_eq_true_eq] at this
    exact WalkArith.wf_i64 (by omega)
theorem name_small {s : ByteArray} (h : nameB s = true) : s.size ≤ maxLen := by
  simp only [nameB, Bool.and_eq_true, decide_eq_true_eq] at h
  unfold maxLen
  omega
theorem igo_name {e : List Ex} : ∀ {l : List It} {q : Option It}, igo e q l = true → ∀ x ∈ l, nameB x.nm = true
  | [], _, _, x, hx => by simp at hx
  | y :: r, q, h, x, hx => by
    simp only [igo, Bool.and_eq_true] at h
    rcases List.mem_cons.1 hx with rfl | hx
    · exact h.1.1.1
    · exact igo_name h.2 x hx
theorem wfV_of {next : Int} {e : List Ex} {l : List Vo} (hn : next ≤ 1000000000) (h : vgo next e 0 l = true) : WfV l := by
  intro v hv
  obtain ⟨h1, h2, h3, h4⟩ := vgo_each h v hv
  refine ⟨WalkArith.wf_i64 (by omega), fun x hx => ?_⟩
  simp only [itemsB, Bool.and_eq_true] at h1
  exact ⟨name_small (igo_name h1.2 x hx), parts_wf (igo_each h1.2 x hx)⟩
set_option maxHeartbeats 4000000 in
set_option maxRecDepth 100000 in
theorem impl_PoolOk (B : Nat) (v : Value) (p : Po) (w : World) (h : PoolAt B w v p) (hd : DimP p) :
    Calls Tryz.prog 11 #[v] w fun e w' => e = .returned (.bool (poolB p)) ∧ Below w.heap.size w w' := by
  obtain ⟨ea, en, ec, va, vn, vc, ra, rn, rc, la, ln, lc, rfl, ⟨h1, k1⟩, ⟨h2, k2⟩, ⟨h3, k3⟩, h4, k4⟩ := h
  obtain ⟨z1, z2, z3, z4, z5, z6, z7, z8⟩ := hd
  rw [h1.len] at z1
  rw [h2.len] at z3
  rw [h3.len] at z5
  rw [h4.len] at z7
  have n2 : Hid (p.vs.length = vn) := h2.len
  have n3 : Hid (p.rf.length = rn) := h3.len
  have n4 : Hid (p.lt.length = ln) := h4.len
  obtain ⟨size, next, ex, vs, rf, lt⟩ := p
  simp only at h1 h2 h3 h4 z2 z4 z6 z8 n2 n3 n4
  obtain ⟨pb, po, hpb⟩ : ∃ pb po, 0 < vn → va = some ⟨pb, po, none⟩ := by
    by_cases h0 : 0 < vn
    · obtain ⟨b, o, _, _, _, _, hv, _⟩ := vs_at h2 h0
      exact ⟨b, o, fun _ => hv⟩
    · exact ⟨0, 0, fun h => absurd h h0⟩
  have hR : Hid (poolB ⟨size, next, ex, vs, rf, lt⟩ = (spaceOkB size ex && decide (1 ≤ next) && decide (next ≤ 1000000000) && volsB next vs ex && namesB vs && (match flushedO rf lt with | none => false | some s => eqCts s (walkL vs)) && addrB ex (rf ++ lt))) := rfl
  generalize poolB ⟨size, next, ex, vs, rf, lt⟩ = R at *
  have C := (Blk.new w #[.int .i64 size, .int .i64 next, .slice ea en ec, .slice va vn vc, .slice ra rn rc, .slice la ln lc] 28)
  have hB0 : Below w.heap.size w (w.alloc (.cells #[.int .i64 size, .int .i64 next, .slice ea en ec, .slice va vn vc, .slice ra rn rc, .slice la ln lc] 28)) := by go_grown
  cases hok : spaceOkB size ex
  · rw [hok] at hR
    simp only [Bool.false_and] at hR
    go_enter Tryz.func11, Tryz.ntmps11
    go_wp2_with fail
    generalize w.alloc (.cells #[.int .i64 size, .int .i64 next, .slice ea en ec, .slice va vn vc, .slice ra rn rc, .slice la ln lc] 28) = W0 at *
    refine (impl_SpaceOk size ea en ec ex _ (h1.below hB0) z2 z1).mono ?_
    rintro e w1 ⟨rfl, hB1⟩
    rw [hok]
    go_wp2
    go_returns
    exact ⟨by rw [hR.out]; rfl, chain hB0 hB1⟩
  · rw [hok, Bool.true_and] at hR
    go_enter Tryz.func11, Tryz.ntmps11
    go_wp2_with fail
    generalize w.alloc (.cells #[.int .i64 size, .int .i64 next, .slice ea en ec, .slice va vn vc, .slice ra rn rc, .slice la ln lc] 28) = W0 at *
    refine (impl_SpaceOk size ea en ec ex _ (h1.below hB0) z2 z1).mono ?_
    rintro e w1 ⟨rfl, hB1⟩
    rw [hok]
    have C1 := C.below hB1
    replace hB1 := chain hB0 hB1
    clear C hB0
    have d0 := C1.cell 0
    have d1 := C1.cell 1
    have d2 := C1.cell 2
    have d3 := C1.cell 3
    have d4 := C1.cell 4
    have d5 := C1.cell 5
    simp only [lgA, lgB, lgC] at d0 d1 d2 d3 d4 d5
    by_cases hn1 : 1 ≤ next
    · rw [decide_eq_true hn1, Bool.true_and] at hR
      by_cases hn2 : next ≤ 1000000000
      · rw [decide_eq_true hn2, Bool.true_and] at hR
        have hvgo : Hid (volsB next vs ex = true → vs.length ≤ 6 ∧ vgo next ex 0 vs = true) := fun h => by simpa [volsB] using h
        go_wp2_with fail
        refine (impl_volsOk B size next ea en ec va vn vc ra rn rc la ln lc ex vs _ (h1.below hB1) (h2.below hB1) z1 z2 z3 z4).mono ?_
        rintro e w2 ⟨rfl, hB2⟩
        have C2 := C1.below hB2
        replace hB2 := chain hB1 hB2
        clear d0 d1 d2 d3 d4 d5 C1 hB1
        have d0 := C2.cell 0
        have d1 := C2.cell 1
        have d2 := C2.cell 2
        have d3 := C2.cell 3
        have d4 := C2.cell 4
        have d5 := C2.cell 5
        simp only [lgA, lgB, lgC] at d0 d1 d2 d3 d4 d5
        cases hvk : volsB next vs ex
        · rw [hvk] at hR
          simp only [Bool.false_and] at hR
          clear hvk
          go_wp2
          go_returns
          exact ⟨by rw [hR.out]; rfl, hB2⟩
        · obtain ⟨h6, hvg⟩ := hvgo.out hvk
          rw [hvk, Bool.true_and] at hR
          have hty := tiny_of h6 hvg
          have hwv := wfV_of hn2 hvg
          clear hvk hvgo
          go_wp2_with fail
          refine (impl_volumesOf B size next ea en ec va vn vc ra rn rc la ln lc vs pb po hpb _ (h2.below hB2) z3 z4).mono ?_
          rintro e w3 ⟨⟨mb, D, rfl, hmb, hO, hV⟩, hB3⟩
          have C3 := C2.below hB3
          replace hB3 := chain hB2 hB3
          clear d0 d1 d2 d3 d4 d5 C2 hB2
          have d3 := C3.cell 3
          have d4 := C3.cell 4
          have d5 := C3.cell 5
          simp only [lgA, lgB, lgC] at d3 d4 d5
          have hln := hO.len Tryz.underlying64 3
          have hfu := hV.full
          have hsz := hV.size
          rw [n2.out] at hfu hsz
          have hnb : Hid (namesB vs = decide (Maps.size D = vn)) := by show _ = _; unfold namesB; rw [decide_eq_decide]; exact hfu.symm
          rw [hnb.out] at hR
          by_cases hse : Maps.size D = vn
          · rw [decide_eq_true hse, Bool.true_and] at hR
            have hnd := hfu.1 hse
            rw [hse] at hln
            have hbn : ((vn : Int) != (vn : Int)) = false := by simp
            clear hfu hsz hnb hse
            go_wp2_with fail
            refine (impl_Flushed ra rn rc rf la ln lc lt _ (h3.below hB3) (h4.below hB3) z6 z8 z5 z7).mono ?_
            rintro e w4 ⟨hret, hB4⟩
            have C4 := C3.below hB4
            replace hO := own_below hO hB4
            replace hB4 := chain hB3 hB4
            clear d3 d4 d5 C3 hB3 hln
            cases hfl : flushedO rf lt with
            | none =>
              rw [hfl] at hret hR
              replace hret : e = .returned (.tuple #[.slice none 0 0, .bool false]) := hret
              subst hret
              clear hfl
              go_wp2
              go_returns
              exact ⟨by rw [hR.out]; rfl, hB4⟩
            | some sm =>
              rw [hfl] at hret hR
              replace hR : Hid (R = (eqCts sm (walkL vs) && addrB ex (rf ++ lt))) := hR
              obtain ⟨a4, n4', cap4, rfl, hn4, R4⟩ := hret
              have hrl : refsOkB rf = true ∧ lateOkB lt = true := by
                unfold flushedO at hfl
                split at hfl
                · rename_i hh; exact hh
                · cases hfl
              clear hfl
              go_wp2_with fail
              refine (impl_found B mb pb po D va vn vs hpb _ hO hV hnd (h2.below hB4) hty hwv).mono ?_
              rintro e w5 ⟨⟨a5, n5, cap5, rfl, hn5, R5⟩, hB5⟩
              replace R4 := R4.below hB5
              have C5 := C4.below hB5
              replace hB5 := chain hB4 hB5
              clear C4 hB4 hO
              go_wp2_with fail
              refine (slices_Equal a4 n4' cap4 sm a5 n5 cap5 (walkL vs) _ R4.sl R5.sl (by omega) (by omega)).mono ?_
              rintro e w6 ⟨rfl, hB6⟩
              have C6 := C5.below hB6
              replace hB6 := chain hB5 hB6
              clear R4 R5 C5 hB5
              have d0 := C6.cell 0
              have d1 := C6.cell 1
              have d2 := C6.cell 2
              have d3 := C6.cell 3
              have d4 := C6.cell 4
              have d5 := C6.cell 5
              simp only [lgA, lgB, lgC] at d0 d1 d2 d3 d4 d5
              cases hM : eqCts sm (walkL vs)
              · rw [hM] at hR
                simp only [Bool.false_and] at hR
                clear hM
                go_wp2
                go_returns
                exact ⟨by rw [hR.out]; rfl, hB6⟩
              · rw [hM, Bool.true_and] at hR
                have hrw := (refs_wf hrl.1).1
                have hlw := (late_wf hrl.2).1
                have hr2 := (refs_bound hrl.1).1
                have hl2 := (late_bound hrl.2).1
                rw [n3.out] at hr2
                rw [n4.out] at hl2
                clear hM
                go_wp2_with fail
                refine (impl_addrsOk size next ea en ec va vn vc ra rn rc la ln lc ex rf lt _ (h1.below hB6) (h3.below hB6) (h4.below hB6) z1 hr2 hl2 (space_wf hok) (fun c hc => (hrw c hc).a) (fun c hc => (hlw c hc).a) (space_nodup hok)).mono ?_
                rintro e w7 ⟨rfl, hB7⟩
                go_wp2
                go_returns
                exact ⟨by rw [hR.out]; rfl, chain hB6 hB7⟩
          · rw [decide_eq_false hse] at hR
            simp only [Bool.false_and] at hR
            have hbn : ((Maps.size D : Int) != (vn : Int)) = true := by simp; omega
            go_wp2
            go_returns
            exact ⟨by rw [hR.out]; rfl, hB3⟩
      · rw [decide_eq_false hn2] at hR
        simp only [Bool.false_and] at hR
        go_wp2
        go_returns
        exact ⟨by rw [hR.out]; rfl, hB1⟩
    · rw [decide_eq_false hn1] at hR
      simp only [Bool.false_and] at hR
      go_wp2
      go_returns
      exact ⟨by rw [hR.out]; rfl, hB1⟩
end Go.Proofs.YtnjefbkhibfgmaaGreat
namespace Go.Proofs.YtnjefbkhibfgmaaGreat
open Go.RowKit
theorem OwnAt.arg {α : Type} {cs : α → List Value} {sz : Nat} {t : TypeId} {w : World} {b n : Nat} {l : List α} (_ : OwnAt cs sz t w b n l) (cap : Nat) : ArgOk (some ⟨b, 0, none⟩) cap := arg_own b cap
theorem ResAt.grownO {α : Type} {cs : α → List Value} {sz : Nat} {t : TypeId} {w w' : World} {B n cap : Nat} {a : Option Addr} {l : List α} {row : Option Nat} (h : ResAt cs sz t w B a n cap l) (hg : w.grownBy w' row) (hr : ∀ ad, a = some ad → some ad.block ≠ row) : ResAt cs sz t w' B a n cap l := by
  refine ⟨h.sl.grownO hg hr, ?_⟩
  rcases h.own with h0 | ⟨b, ha, hB, h1, h2, c, hc, q⟩
  · exact .inl h0
  · refine .inr ⟨b, ha, hB, h1, h2, c, ?_, q⟩
    show w'.heap[b]? = _
    rw [hg.block b hc.lt (hr _ ha)]; exact hc
end Go.Proofs.YtnjefbkhibfgmaaGreat
namespace Go.Proofs.YtnjefbkhibfgmaaGreat
open Go.RowKit Go.BigFrame
open Go.Maps (Keyed)
theorem own_look {P : Program} {w : World} {t k e : TypeId} {R : Value → Option (DataW Unit × List MemPlace)} {b n : Nat} {D : DataW Unit} (h : w.ownsMap P k R b n D) (K : Keyed P k) (ht : P.underlying t = some (.map k e)) {z : Value} (hz : (zeroValue e).run P w = .ok z w) {key : Value} {kl : Lit} (hkey : keyOf P k key = some kl) :
    ((Instr.lookup t (.map (some b)) key false).run P w = .ok z w ∧ Maps.has D kl = false) ∨ ∃ v y, (Instr.lookup t (.map (some b)) key false).run P w = .ok v w ∧ R v = some y ∧ Maps.has D kl = true ∧ ∀ zd, D.atKey kl zd = y.1 := by
  obtain ⟨es, clock, hb, F, _, rfl⟩ := h
  rcases Maps.fit_look false K ht hz hb F hkey with ⟨hrun, _, hat⟩ | ⟨e0, y, _, _, hrun, hRv, hat, _⟩
  · exact .inl ⟨hrun, Maps.has_false_of_atKey hat⟩
  · exact .inr ⟨e0.val, y, hrun, hRv, Maps.has_true_of_atKey hat, hat⟩
theorem volI_of {vs : List Vo} (hn : (vs.map (·.nm.toList)).Nodup) {i : Nat} {v : Vo} (h : vs[i]? = some v) : volI vs v.nm = some i := by
  unfold volI
  obtain ⟨hi, rfl⟩ := List.getElem?_eq_some_iff.1 h
  rw [List.findIdx?_eq_some_iff_getElem]
  refine ⟨hi, by simp, fun j hj => ?_⟩
  unfold List.Nodup at hn
  rw [List.pairwise_map, List.pairwise_iff_getElem] at hn
  have := hn j i (by omega) hi hj
  simpa using this
theorem volI_none {vs : List Vo} {s : ByteArray} (h : vs.any (fun v => v.nm.data.toList == s.data.toList) = false) : volI vs s = none := by
  unfold volI
  rw [List.findIdx?_eq_none_iff]
  intro v hv
  rw [List.any_eq_false] at h
  have := h v hv
  rw [ByteArray.toList_eq, ByteArray.toList_eq]
  simpa using this
/-- A volume in memory, at an address. -/
structure VoAt (B : Nat) (w : World) (b o : Nat) (x : Vo) : Prop where
  id : w.cell? ⟨b, o, none⟩ = some (.int .i64 x.id)
  nm : w.cell? ⟨b, o + 1, none⟩ = some (.string x.nm)
  its : ∃ qa qn qc, w.cell? ⟨b, o + 3, none⟩ = some (.slice qa qn qc) ∧ ItsAt B w qa qn x.its ∧ Hd B qa qn qc
theorem VoAt.below {B : Nat} {w w' : World} {b o : Nat} {x : Vo} (h : VoAt B w b o x) (hb : Below w.heap.size w w') : VoAt B w' b o x := by
  obtain ⟨h1, h2, qa, qn, qc, h3, h4, h5⟩ := h
  exact ⟨bcell hb h1, bcell hb h2, qa, qn, qc, bcell hb h3, h4.below hb, h5⟩
def RetVo (B : Nat) (e : Ending) (w' : World) (p : Po) (vol : ByteArray) : Prop :=
  (e = .returned (.pointer none) ∧ (poolB p = false ∨ volI p.vs vol = none)) ∨ ∃ i x b o, e = .returned (.pointer (some ⟨b, o, none⟩)) ∧ poolB p = true ∧ volI p.vs vol = some i ∧ p.vs[i]? = some x ∧ VoAt B w' b o x
set_option maxHeartbeats 2000000 in
set_option maxRecDepth 100000 in
theorem impl_askedVolume (B : Nat) (v : Value) (p : Po) (vol : ByteArray) (w : World) (h : PoolAt B w v p) (hd : DimP p) (hvol : vol.size ≤ 1048576) :
    Calls Tryz.prog 57 #[v, .string vol] w fun e w' => RetVo B e w' p vol ∧ Below w.heap.size w w' := by
  have hz0 : ∀ u : World, (zeroValue 88).run Tryz.prog u = .ok (.pointer none) u := fun u => by kernel_rfl
  obtain ⟨ea, en, ec, va, vn, vc, ra, rn, rc, la, ln, lc, rfl, hrest⟩ := h
  have h : PoolAt B w (.agg #[.int .i64 p.size, .int .i64 p.next, .slice ea en ec, .slice va vn vc, .slice ra rn rc, .slice la ln lc]) p := ⟨ea, en, ec, va, vn, vc, ra, rn, rc, la, ln, lc, rfl, hrest⟩
  have h2 := hrest.2.1.1
  have z3 := hd.2.2.1
  have z4 := hd.2.2.2.1
  rw [h2.len] at z3
  clear hrest
  obtain ⟨pb, po, hpb⟩ : ∃ pb po, 0 < vn → va = some ⟨pb, po, none⟩ := by
    by_cases h0 : 0 < vn
    · obtain ⟨b, o, _, _, _, _, hv, _⟩ := vs_at h2 h0
      exact ⟨b, o, fun _ => hv⟩
    · exact ⟨0, 0, fun h => absurd h h0⟩
  have C := (Blk.new w #[.int .i64 p.size, .int .i64 p.next, .slice ea en ec, .slice va vn vc, .slice ra rn rc, .slice la ln lc] 28)
  have hBw : Below w.heap.size w (w.alloc (.cells #[.int .i64 p.size, .int .i64 p.next, .slice ea en ec, .slice va vn vc, .slice ra rn rc, .slice la ln lc] 28)) := by go_grown
  go_enter Tryz.func57, Tryz.ntmps57
  go_wp2_with fail
  generalize w.alloc (.cells #[.int .i64 p.size, .int .i64 p.next, .slice ea en ec, .slice va vn vc, .slice ra rn rc, .slice la ln lc] 28) = W0 at *
  refine (impl_PoolOk B _ p _ (h.below hBw) hd).mono ?_
  rintro e w1 ⟨rfl, hB1⟩
  have C1 := C.below hB1
  replace hB1 := chain hBw hB1
  clear C hBw
  obtain ⟨d0, d1, d2, d3, d4, d5⟩ : w1.cell? ⟨w.heap.size, 0, none⟩ = some (.int .i64 p.size) ∧ w1.cell? ⟨w.heap.size, 1, none⟩ = some (.int .i64 p.next) ∧ w1.cell? ⟨w.heap.size, 2, none⟩ = some (.slice ea en ec) ∧ w1.cell? ⟨w.heap.size, 3, none⟩ = some (.slice va vn vc) ∧ w1.cell? ⟨w.heap.size, 4, none⟩ = some (.slice ra rn rc) ∧ w1.cell? ⟨w.heap.size, 5, none⟩ = some (.slice la ln lc) := ⟨C1.cell 0, C1.cell 1, C1.cell 2, C1.cell 3, C1.cell 4, C1.cell 5⟩
  have hRt : ∀ pk, poolB p = pk → Hid (poolB p = pk) := fun _ h => h
  cases hpk : poolB p
  · have hpk' := hRt _ hpk
    clear hpk
    go_wp2
    go_returns
    exact ⟨.inl ⟨rfl, .inl hpk'.out⟩, hB1⟩
  · have hpk' := hRt _ hpk
    have hnd := (poolB_vs hpk).2.2.2.2
    clear hpk
    go_wp2_with fail
    refine (impl_volumesOf B p.size p.next ea en ec va vn vc ra rn rc la ln lc p.vs pb po hpb _ (h2.below hB1) z3 z4).mono ?_
    rintro e w2 ⟨⟨mb, D, rfl, hmb, hO, hV⟩, hB2⟩
    replace hB2 := chain hB1 hB2
    rcases own_look hO keyed9 Tryz.underlying64 (hz0 w2) (key9 (s := vol) (by unfold maxLen; omega)) with ⟨hrun, hno⟩ | ⟨val, y, hrun, hRv, hyes, hat⟩
    · rw [hV.has] at hno
      have hvi := volI_none hno
      clear hno
      go_wp2
      go_returns
      exact ⟨.inl ⟨rfl, .inr hvi⟩, hB2⟩
    · obtain ⟨o, rfl, hy⟩ := ptrElem_inv hRv
      obtain ⟨i, x, hi, rfl, rfl⟩ := vm_which hV hnd hyes hRv hat
      have hvi := volI_of hnd hi
      have hiv : i < vn := by rw [← h2.len]; exact (List.getElem?_eq_some_iff.1 hi).1
      obtain ⟨b', o', x', qa, qn, qc, hvo, hx, e0, e1, e2, e3, hP, hH, _⟩ := vs_at (h2.below hB2) hiv
      obtain ⟨rfl, rfl⟩ : b' = pb ∧ o' = po := by have := hpb (by omega); rw [hvo] at this; simpa using this
      obtain rfl : x = x' := by rw [hi] at hx; exact Option.some.inj hx
      clear hat hyes hRv hx
      go_wp2
      go_returns
      exact ⟨.inr ⟨i, x, b', o' + i * 4, rfl, hpk'.out, hvi, hi, ⟨e0, e1, qa, qn, qc, e3, hP, hH⟩⟩, hB2⟩
set_option maxHeartbeats 2000000 in
set_option maxRecDepth 100000 in
theorem impl_partsOf (B b o : Nat) (x : Vo) (file : ByteArray) (w : World) (h : VoAt B w b o x) (m2 : x.its.length ≤ 4194304) (m3 : StrI x.its) :
    Calls Tryz.prog 83 #[.pointer (some ⟨b, o, none⟩), .string file] w fun e w' => RetPs B e w' ((itI x.its file).bind fun k => x.its[k]?.map (·.ps)) ∧ Below w.heap.size w w' := by
  obtain ⟨_, _, qa, qn, qc, e3, hP, hH⟩ := h
  have hlen : Hid (x.its.length = qn) := hP.len
  rw [hlen.out] at m2
  have hR : Hid (((itI x.its file).bind fun k => x.its[k]?.map (·.ps)) = (((itI (x.its.drop 0) file).map (· + 0)).bind fun k => x.its[k]?.map (·.ps))) := by show _ = _; simp
  generalize ((itI x.its file).bind fun k => x.its[k]?.map (·.ps)) = R at *
  go_enter Tryz.func83, Tryz.ntmps83
  go_wp2_with fail
  go_loopw [13] (fun ix wr => ∃ (k : Nat), k ≤ qn ∧ ix = .int .i64 k ∧ Hid (R = (((itI (x.its.drop k) file).map (· + k)).bind fun k => x.its[k]?.map (·.ps))) ∧ Below w.heap.size w wr) (fun ix _ => qn - (intOf ix).toNat)
  case atStart => exact ⟨0, Nat.zero_le _, rfl, hR, Below.refl _ _⟩
  case round =>
    clear hR
    obtain ⟨k, hk, rfl, hI, hB⟩ := hrel
    by_cases hlt : k < qn
    · obtain ⟨ib, io, y, pa, pn, pc, rfl, hy, g0, g1, hPt, hH2, _, _⟩ := its_at (hP.below hB) hlt
      obtain ⟨_, m5⟩ := m3 y (List.mem_of_getElem? hy)
      have hst : Hid (R = ((if (y.nm.toList == file.toList) = true then some k else (itI (x.its.drop (k + 1)) file).map (· + (k + 1))).bind fun k => x.its[k]?.map (·.ps))) := by show _ = _; rw [hI.out, itI_drop hy]
      have hk1 : (k : Int) < qn := by omega
      have hk2 : (0 : Int) ≤ k := by omega
      have hB2 : Below wr.heap.size wr (wr.alloc (.cells #[.string y.nm, .slice pa pn pc] 44)) := by go_grown
      have X := (Blk.new wr #[.string y.nm, .slice pa pn pc] 44)
      clear hI
      cases hs : (y.nm.toList == file.toList)
      · rw [hs] at hst
        simp only [Bool.false_eq_true, if_false] at hst
        have hs' : ¬ y.nm.toList = file.toList := by simpa using hs
        clear hy
        go_wp2
        go_roundw
        case rel => exact ⟨k + 1, by omega, by go_num, hst, chain hB hB2⟩
        case measure => simp [intOf]; omega
      · rw [hs] at hst
        simp only [if_true, Option.bind_some, hy, Option.map_some] at hst
        have hs' : y.nm.toList = file.toList := by simpa using hs
        clear hy
        go_wp2
        go_returns
        exact ⟨by rw [hst.out]; exact ⟨pa, pn, pc, rfl, hPt.below hB2, hH2, m5⟩, chain hB hB2⟩
    · obtain rfl : k = qn := by omega
      go_wp2
      go_returns
      exact ⟨by rw [hI.out, List.drop_of_length_le (Nat.le_of_eq hlen.out)]; rfl, hB⟩
/-- The parts of a file that is asked for. -/
def askedO (p : Po) (vol file : ByteArray) : Option (List Pt) := if poolB p = true then partsO p.vs vol file else none
set_option maxHeartbeats 2000000 in
set_option maxRecDepth 100000 in
theorem impl_askedFile (B : Nat) (v : Value) (p : Po) (vol file : ByteArray) (w : World) (h : PoolAt B w v p) (hd : DimP p) (hvol : vol.size ≤ 1048576) :
    Calls Tryz.prog 49 #[v, .string vol, .string file] w fun e w' => RetPs B e w' (askedO p vol file) ∧ Below w.heap.size w w' := by
  obtain ⟨ea, en, ec, va, vn, vc, ra, rn, rc, la, ln, lc, rfl, hrest⟩ := h
  have h : PoolAt B w (.agg #[.int .i64 p.size, .int .i64 p.next, .slice ea en ec, .slice va vn vc, .slice ra rn rc, .slice la ln lc]) p := ⟨ea, en, ec, va, vn, vc, ra, rn, rc, la, ln, lc, rfl, hrest⟩
  clear hrest
  have z4 := hd.2.2.2.1
  have C := (Blk.new w #[.int .i64 p.size, .int .i64 p.next, .slice ea en ec, .slice va vn vc, .slice ra rn rc, .slice la ln lc] 28)
  have hBw : Below w.heap.size w (w.alloc (.cells #[.int .i64 p.size, .int .i64 p.next, .slice ea en ec, .slice va vn vc, .slice ra rn rc, .slice la ln lc] 28)) := by go_grown
  have hR : Hid (askedO p vol file = if poolB p = true then partsO p.vs vol file else none) := rfl
  generalize askedO p vol file = R at *
  go_enter Tryz.func49, Tryz.ntmps49
  go_wp2_with fail
  generalize w.alloc (.cells #[.int .i64 p.size, .int .i64 p.next, .slice ea en ec, .slice va vn vc, .slice ra rn rc, .slice la ln lc] 28) = W0 at *
  refine (impl_askedVolume B _ p vol _ (h.below hBw) hd hvol).mono ?_
  rintro e w1 ⟨hret, hB1⟩
  replace hB1 := chain hBw hB1
  clear C hBw
  rcases hret with ⟨rfl, hno⟩ | ⟨i, x, b, o, rfl, hpk, hvi, hx, hV⟩
  · have hRn : Hid (R = none) := by
      show _ = _
      rw [hR.out]
      rcases hno with hno | hno
      · rw [hno]; rfl
      · split
        · unfold partsO; rw [hno]; rfl
        · rfl
    clear hno
    go_wp2
    go_returns
    exact ⟨by rw [hRn.out]; rfl, hB1⟩
  · have hRs : Hid (R = (itI x.its file).bind fun k => x.its[k]?.map (·.ps)) := by
      show _ = _
      rw [hR.out, if_pos hpk]
      unfold partsO
      rw [hvi, Option.bind_some, hx, Option.bind_some]
    obtain ⟨m1, m2, m3⟩ := z4 x (List.mem_of_getElem? hx)
    clear hpk hvi hx
    go_wp2_with fail
    refine (impl_partsOf B b o x file _ hV m2 m3).mono ?_
    rintro e w2 ⟨hret, hB2⟩
    replace hB2 := chain hB1 hB2
    rw [← hRs.out] at hret
    cases R with
    | none =>
      replace hret : e = .returned (.tuple #[.slice none 0 0, .bool false]) := hret
      subst hret
      go_wp2
      go_returns
      exact ⟨rfl, hB2⟩
    | some ps =>
      obtain ⟨pa, pn, pc, rfl, hPt, hH, hpl⟩ := hret
      go_wp2
      go_returns
      exact ⟨⟨pa, pn, pc, rfl, hPt, hH, hpl⟩, hB2⟩
set_option maxHeartbeats 2000000 in
set_option maxRecDepth 100000 in
theorem impl_SizeOf (B : Nat) (v : Value) (p : Po) (vol file : ByteArray) (w : World) (h : PoolAt B w v p) (hd : DimP p) (hvol : vol.size ≤ 1048576) :
    Calls Tryz.prog 17 #[v, .string vol, .string file] w fun e w' => e = .returned (.tuple #[.int .i64 (sizeO p vol file).1, .bool (sizeO p vol file).2]) ∧ Below w.heap.size w w' := by
  obtain ⟨ea, en, ec, va, vn, vc, ra, rn, rc, la, ln, lc, rfl, hrest⟩ := h
  have h : PoolAt B w (.agg #[.int .i64 p.size, .int .i64 p.next, .slice ea en ec, .slice va vn vc, .slice ra rn rc, .slice la ln lc]) p := ⟨ea, en, ec, va, vn, vc, ra, rn, rc, la, ln, lc, rfl, hrest⟩
  clear hrest
  have C := (Blk.new w #[.int .i64 p.size, .int .i64 p.next, .slice ea en ec, .slice va vn vc, .slice ra rn rc, .slice la ln lc] 28)
  have hBw : Below w.heap.size w (w.alloc (.cells #[.int .i64 p.size, .int .i64 p.next, .slice ea en ec, .slice va vn vc, .slice ra rn rc, .slice la ln lc] 28)) := by go_grown
  have hR : Hid (sizeO p vol file = (match askedO p vol file with | none => (0, false) | some ps => (lenB ps, true))) := by
    show _ = _
    unfold sizeO askedO
    split <;> rfl
  generalize sizeO p vol file = R at *
  go_enter Tryz.func17, Tryz.ntmps17
  go_wp2_with fail
  generalize w.alloc (.cells #[.int .i64 p.size, .int .i64 p.next, .slice ea en ec, .slice va vn vc, .slice ra rn rc, .slice la ln lc] 28) = W0 at *
  refine (impl_askedFile B _ p vol file _ (h.below hBw) hd hvol).mono ?_
  rintro e w1 ⟨hret, hB1⟩
  replace hB1 := chain hBw hB1
  clear C hBw
  cases hps : askedO p vol file with
  | none =>
    rw [hps] at hret hR
    replace hret : e = .returned (.tuple #[.slice none 0 0, .bool false]) := hret
    replace hR : Hid (R = (0, false)) := hR
    subst hret
    clear hps
    go_wp2
    go_returns
    exact ⟨by rw [hR.out]; rfl, hB1⟩
  | some ps =>
    rw [hps] at hret hR
    replace hR : Hid (R = (lenB ps, true)) := hR
    obtain ⟨pa, pn, pc, rfl, hPt, hH, hpl⟩ := hret
    rw [hPt.len] at hpl
    clear hps
    go_wp2_with fail
    refine (impl_LenOf pa pn pc ps _ hPt hpl).mono ?_
    rintro e w2 ⟨rfl, hB2⟩
    replace hB2 := chain hB1 hB2
    go_wp2
    go_returns
    exact ⟨by rw [hR.out]; rfl, hB2⟩
end Go.Proofs.YtnjefbkhibfgmaaGreat
