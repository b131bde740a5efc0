/- PoolOk of the program. -/
import Derived.Test.YtnjefbkhibfgmaaGreatLDAskedx12
import Derived.Test.YtnjefbkhibfgmaaGreatLDAskedx44
import Derived.Test.YtnjefbkhibfgmaaGreatLDAskedx47
import Derived.Test.YtnjefbkhibfgmaaGreatLDAskedx09
import Derived.Lib.SmallJoins
import Derived.Test.YtnjefbkhibfgmaaGreatLDAskedx00
import Derived.Test.YtnjefbkhibfgmaaGreatProg
import Derived.Laws.BytesArg
import Derived.Test.YtnjefbkhibfgmaaGreatLDAskedx05
import Derived.Test.YtnjefbkhibfgmaaGreatLDAskedx22
namespace Go.Proofs.YtnjefbkhibfgmaaGreat
open Go.RowKit Go.BigFrame
theorem own_below {P : Program} {k : TypeId} {R : Value → Option (DataW Unit × List MemPlace)} {w w' : World} {b n : Nat} {D : DataW Unit} (h : w.ownsMap P k R b n D) (hb : Below w.heap.size w w') : w'.ownsMap P k R b n D := by
  have hlt := h.lt
  obtain ⟨es, clock, h1, r⟩ := h
  exact ⟨es, clock, (hb.block b hlt).trans h1, r⟩
theorem xgo_bound {size : Int} : ∀ {l : List Ex} {next : Int}, 0 ≤ next → size ≤ 400 → xgo size next l = true → ∀ x ∈ l, 0 ≤ x.a ∧ x.a ≤ 400
  | [], _, _, _, _, _, hx => by simp at hx
  | e :: r, next, h0, hs, h, x, hx => by
    simp only [xgo, Bool.and_eq_true, decide_eq_true_eq] at h
    obtain ⟨⟨⟨h1, h2⟩, h3⟩, h4⟩ := h
    have hd : 1 ≤ e.d.size := by
      simp only [dataOkB, Bool.and_eq_true, decide_eq_true_eq] at h1
      exact h1.1.1
    rcases List.mem_cons.1 hx with rfl | hx
    · omega
    · exact xgo_bound (by omega) hs h4 x hx
theorem space_wf {size : Int} {l : List Ex} (h : spaceOkB size l = true) : ∀ x ∈ l, (Lit.int .i64 x.a).wf = true := fun x hx => by
  simp only [spaceOkB, Bool.and_eq_true, decide_eq_true_eq] at h
  have := xgo_bound (by omega) h.1.1.2 h.2 x hx
  exact WalkArith.wf_i64 (by omega)
theorem parts_wf {ps : List Pt} {e : List Ex} (h : (contentO ps e).isSome = true) : ∀ p ∈ ps, (Lit.int .i64 p.a).wf = true := fun p hp => by
  have hk : partsOkB ps = true := by
    unfold contentO at h
    split at h
    · rename_i hh; exact hh.1
    · cases h
  obtain ⟨_, q2, _⟩ := partsOkB_all hk
  have := q2 p hp
  unfold partOkB at this
  split at this
  · rename_i h0
    have : p.a = 0 := by simpa using h0
    exact WalkArith.wf_i64 (by omega)
  · simp only [Bool.and_eq_true, decide_eq_true_eq] at this
    exact WalkArith.wf_i64 (by omega)
theorem name_small {s : ByteArray} (h : nameB s = true) : s.size ≤ maxLen := by
  simp only [nameB, Bool.and_eq_true, decide_eq_true_eq] at h
  unfold maxLen
  omega
theorem igo_name {e : List Ex} : ∀ {l : List It} {q : Option It}, igo e q l = true → ∀ x ∈ l, nameB x.nm = true
  | [], _, _, x, hx => by simp at hx
  | y :: r, q, h, x, hx => by
    simp only [igo, Bool.and_eq_true] at h
    rcases List.mem_cons.1 hx with rfl | hx
    · exact h.1.1.1
    · exact igo_name h.2 x hx
theorem wfV_of {next : Int} {e : List Ex} {l : List Vo} (hn : next ≤ 1000000000) (h : vgo next e 0 l = true) : WfV l := by
  intro v hv
  obtain ⟨h1, h2, h3, h4⟩ := vgo_each h v hv
  refine ⟨WalkArith.wf_i64 (by omega), fun x hx => ?_⟩
  simp only [itemsB, Bool.and_eq_true] at h1
  exact ⟨name_small (igo_name h1.2 x hx), parts_wf (igo_each h1.2 x hx)⟩
set_option maxHeartbeats 4000000 in
set_option maxRecDepth 100000 in
theorem impl_PoolOk (B : Nat) (v : Value) (p : Po) (w : World) (h : PoolAt B w v p) (hd : DimP p) :
    Calls Tryz.prog 11 #[v] w fun e w' => e = .returned (.bool (poolB p)) ∧ Below w.heap.size w w' := by
  obtain ⟨ea, en, ec, va, vn, vc, ra, rn, rc, la, ln, lc, rfl, ⟨h1, k1⟩, ⟨h2, k2⟩, ⟨h3, k3⟩, h4, k4⟩ := h
  obtain ⟨z1, z2, z3, z4, z5, z6, z7, z8⟩ := hd
  rw [h1.len] at z1
  rw [h2.len] at z3
  rw [h3.len] at z5
  rw [h4.len] at z7
  have n2 : Hid (p.vs.length = vn) := h2.len
  have n3 : Hid (p.rf.length = rn) := h3.len
  have n4 : Hid (p.lt.length = ln) := h4.len
  obtain ⟨size, next, ex, vs, rf, lt⟩ := p
  simp only at h1 h2 h3 h4 z2 z4 z6 z8 n2 n3 n4
  obtain ⟨pb, po, hpb⟩ : ∃ pb po, 0 < vn → va = some ⟨pb, po, none⟩ := by
    by_cases h0 : 0 < vn
    · obtain ⟨b, o, _, _, _, _, hv, _⟩ := vs_at h2 h0
      exact ⟨b, o, fun _ => hv⟩
    · exact ⟨0, 0, fun h => absurd h h0⟩
  have hR : Hid (poolB ⟨size, next, ex, vs, rf, lt⟩ = (spaceOkB size ex && decide (1 ≤ next) && decide (next ≤ 1000000000) && volsB next vs ex && namesB vs && (match flushedO rf lt with | none => false | some s => eqCts s (walkL vs)) && addrB ex (rf ++ lt))) := rfl
  generalize poolB ⟨size, next, ex, vs, rf, lt⟩ = R at *
  have C := (Blk.new w #[.int .i64 size, .int .i64 next, .slice ea en ec, .slice va vn vc, .slice ra rn rc, .slice la ln lc] 28)
  have hB0 : Below w.heap.size w (w.alloc (.cells #[.int .i64 size, .int .i64 next, .slice ea en ec, .slice va vn vc, .slice ra rn rc, .slice la ln lc] 28)) := by go_grown
  cases hok : spaceOkB size ex
  · rw [hok] at hR
    simp only [Bool.false_and] at hR
    go_enter Tryz.func11, Tryz.ntmps11
    go_wp2_with fail
    generalize w.alloc (.cells #[.int .i64 size, .int .i64 next, .slice ea en ec, .slice va vn vc, .slice ra rn rc, .slice la ln lc] 28) = W0 at *
    refine (impl_SpaceOk size ea en ec ex _ (h1.below hB0) z2 z1).mono ?_
    rintro e w1 ⟨rfl, hB1⟩
    rw [hok]
    go_wp2
    go_returns
    exact ⟨by rw [hR.out]; rfl, chain hB0 hB1⟩
  · rw [hok, Bool.true_and] at hR
    go_enter Tryz.func11, Tryz.ntmps11
    go_wp2_with fail
    generalize w.alloc (.cells #[.int .i64 size, .int .i64 next, .slice ea en ec, .slice va vn vc, .slice ra rn rc, .slice la ln lc] 28) = W0 at *
    refine (impl_SpaceOk size ea en ec ex _ (h1.below hB0) z2 z1).mono ?_
    rintro e w1 ⟨rfl, hB1⟩
    rw [hok]
    have C1 := C.below hB1
    replace hB1 := chain hB0 hB1
    clear C hB0
    have d0 := C1.cell 0
    have d1 := C1.cell 1
    have d2 := C1.cell 2
    have d3 := C1.cell 3
    have d4 := C1.cell 4
    have d5 := C1.cell 5
    simp only [lgA, lgB, lgC] at d0 d1 d2 d3 d4 d5
    by_cases hn1 : 1 ≤ next
    · rw [decide_eq_true hn1, Bool.true_and] at hR
      by_cases hn2 : next ≤ 1000000000
      · rw [decide_eq_true hn2, Bool.true_and] at hR
        have hvgo : Hid (volsB next vs ex = true → vs.length ≤ 6 ∧ vgo next ex 0 vs = true) := fun h => by simpa [volsB] using h
        go_wp2_with fail
        refine (impl_volsOk B size next ea en ec va vn vc ra rn rc la ln lc ex vs _ (h1.below hB1) (h2.below hB1) z1 z2 z3 z4).mono ?_
        rintro e w2 ⟨rfl, hB2⟩
        have C2 := C1.below hB2
        replace hB2 := chain hB1 hB2
        clear d0 d1 d2 d3 d4 d5 C1 hB1
        have d0 := C2.cell 0
        have d1 := C2.cell 1
        have d2 := C2.cell 2
        have d3 := C2.cell 3
        have d4 := C2.cell 4
        have d5 := C2.cell 5
        simp only [lgA, lgB, lgC] at d0 d1 d2 d3 d4 d5
        cases hvk : volsB next vs ex
        · rw [hvk] at hR
          simp only [Bool.false_and] at hR
          clear hvk
          go_wp2
          go_returns
          exact ⟨by rw [hR.out]; rfl, hB2⟩
        · obtain ⟨h6, hvg⟩ := hvgo.out hvk
          rw [hvk, Bool.true_and] at hR
          have hty := tiny_of h6 hvg
          have hwv := wfV_of hn2 hvg
          clear hvk hvgo
          go_wp2_with fail
          refine (impl_volumesOf B size next ea en ec va vn vc ra rn rc la ln lc vs pb po hpb _ (h2.below hB2) z3 z4).mono ?_
          rintro e w3 ⟨⟨mb, D, rfl, hmb, hO, hV⟩, hB3⟩
          have C3 := C2.below hB3
          replace hB3 := chain hB2 hB3
          clear d0 d1 d2 d3 d4 d5 C2 hB2
          have d3 := C3.cell 3
          have d4 := C3.cell 4
          have d5 := C3.cell 5
          simp only [lgA, lgB, lgC] at d3 d4 d5
          have hln := hO.len Tryz.underlying64 3
          have hfu := hV.full
          have hsz := hV.size
          rw [n2.out] at hfu hsz
          have hnb : Hid (namesB vs = decide (Maps.size D = vn)) := by show _ = _; unfold namesB; rw [decide_eq_decide]; exact hfu.symm
          rw [hnb.out] at hR
          by_cases hse : Maps.size D = vn
          · rw [decide_eq_true hse, Bool.true_and] at hR
            have hnd := hfu.1 hse
            rw [hse] at hln
            have hbn : ((vn : Int) != (vn : Int)) = false := by simp
            clear hfu hsz hnb hse
            go_wp2_with fail
            refine (impl_Flushed ra rn rc rf la ln lc lt _ (h3.below hB3) (h4.below hB3) z6 z8 z5 z7).mono ?_
            rintro e w4 ⟨hret, hB4⟩
            have C4 := C3.below hB4
            replace hO := own_below hO hB4
            replace hB4 := chain hB3 hB4
            clear d3 d4 d5 C3 hB3 hln
            cases hfl : flushedO rf lt with
            | none =>
              rw [hfl] at hret hR
              replace hret : e = .returned (.tuple #[.slice none 0 0, .bool false]) := hret
              subst hret
              clear hfl
              go_wp2
              go_returns
              exact ⟨by rw [hR.out]; rfl, hB4⟩
            | some sm =>
              rw [hfl] at hret hR
              replace hR : Hid (R = (eqCts sm (walkL vs) && addrB ex (rf ++ lt))) := hR
              obtain ⟨a4, n4', cap4, rfl, hn4, R4⟩ := hret
              have hrl : refsOkB rf = true ∧ lateOkB lt = true := by
                unfold flushedO at hfl
                split at hfl
                · rename_i hh; exact hh
                · cases hfl
              clear hfl
              go_wp2_with fail
              refine (impl_found B mb pb po D va vn vs hpb _ hO hV hnd (h2.below hB4) hty hwv).mono ?_
              rintro e w5 ⟨⟨a5, n5, cap5, rfl, hn5, R5⟩, hB5⟩
              replace R4 := R4.below hB5
              have C5 := C4.below hB5
              replace hB5 := chain hB4 hB5
              clear C4 hB4 hO
              go_wp2_with fail
              refine (slices_Equal a4 n4' cap4 sm a5 n5 cap5 (walkL vs) _ R4.sl R5.sl (by omega) (by omega)).mono ?_
              rintro e w6 ⟨rfl, hB6⟩
              have C6 := C5.below hB6
              replace hB6 := chain hB5 hB6
              clear R4 R5 C5 hB5
              have d0 := C6.cell 0
              have d1 := C6.cell 1
              have d2 := C6.cell 2
              have d3 := C6.cell 3
              have d4 := C6.cell 4
              have d5 := C6.cell 5
              simp only [lgA, lgB, lgC] at d0 d1 d2 d3 d4 d5
              cases hM : eqCts sm (walkL vs)
              · rw [hM] at hR
                simp only [Bool.false_and] at hR
                clear hM
                go_wp2
                go_returns
                exact ⟨by rw [hR.out]; rfl, hB6⟩
              · rw [hM, Bool.true_and] at hR
                have hrw := (refs_wf hrl.1).1
                have hlw := (late_wf hrl.2).1
                have hr2 := (refs_bound hrl.1).1
                have hl2 := (late_bound hrl.2).1
                rw [n3.out] at hr2
                rw [n4.out] at hl2
                clear hM
                go_wp2_with fail
                refine (impl_addrsOk size next ea en ec va vn vc ra rn rc la ln lc ex rf lt _ (h1.below hB6) (h3.below hB6) (h4.below hB6) z1 hr2 hl2 (space_wf hok) (fun c hc => (hrw c hc).a) (fun c hc => (hlw c hc).a) (space_nodup hok)).mono ?_
                rintro e w7 ⟨rfl, hB7⟩
                go_wp2
                go_returns
                exact ⟨by rw [hR.out]; rfl, chain hB6 hB7⟩
          · rw [decide_eq_false hse] at hR
            simp only [Bool.false_and] at hR
            have hbn : ((Maps.size D : Int) != (vn : Int)) = true := by simp; omega
            go_wp2
            go_returns
            exact ⟨by rw [hR.out]; rfl, hB3⟩
      · rw [decide_eq_false hn2] at hR
        simp only [Bool.false_and] at hR
        go_wp2
        go_returns
        exact ⟨by rw [hR.out]; rfl, hB1⟩
    · rw [decide_eq_false hn1] at hR
      simp only [Bool.false_and] at hR
      go_wp2
      go_returns
      exact ⟨by rw [hR.out]; rfl, hB1⟩
end Go.Proofs.YtnjefbkhibfgmaaGreat
namespace Go.Proofs.YtnjefbkhibfgmaaGreat
open Go.RowKit Go.BigFrame
theorem PoolAt.cells {B : Nat} {w : World} {v : Value} {p : Po} (h : PoolAt B w v p) : ∃ ea en ec va vn vc ra rn rc la ln lc, v = .agg #[.int .i64 p.size, .int .i64 p.next, .slice ea en ec, .slice va vn vc, .slice ra rn rc, .slice la ln lc] := by
  obtain ⟨ea, en, ec, va, vn, vc, ra, rn, rc, la, ln, lc, rfl, _⟩ := h
  exact ⟨_, _, _, _, _, _, _, _, _, _, _, _, rfl⟩
theorem Blk.six {w : World} {b : Nat} {c0 c1 c2 c3 c4 c5 : Value} {t : TypeId} (h : Blk w b #[c0, c1, c2, c3, c4, c5] t) : w.cell? ⟨b, 0, none⟩ = some c0 ∧ w.cell? ⟨b, 1, none⟩ = some c1 ∧ w.cell? ⟨b, 2, none⟩ = some c2 ∧ w.cell? ⟨b, 3, none⟩ = some c3 ∧ w.cell? ⟨b, 4, none⟩ = some c4 ∧ w.cell? ⟨b, 5, none⟩ = some c5 :=
  ⟨h.cell 0, h.cell 1, h.cell 2, h.cell 3, h.cell 4, h.cell 5⟩
end Go.Proofs.YtnjefbkhibfgmaaGreat
namespace Go.Proofs.YtnjefbkhibfgmaaGreat
open Go.RowKit Go.BigFrame
def mtGo (k : Nat) (o : ByteArray) : ByteArray := if k = 0 then o else mtGo (k / 10) (strOfNums [48 + (k : Int) % 10] ++ o)
termination_by k
decreasing_by omega
def markT (k : Nat) : ByteArray := ByteArray.mk #[109] ++ mtGo k .empty
end Go.Proofs.YtnjefbkhibfgmaaGreat
namespace Go.Proofs.YtnjefbkhibfgmaaGreat
open Go.RowKit Go.BigFrame
def SameK : Value → Value → Prop
  | .slice a n c, v' => v' = .slice a n c
  | .int k _, v' => ∃ y, v' = .int k y
  | .string _, v' => ∃ s, v' = .string s
  | .bool _, v' => ∃ b, v' = .bool b
  | _, _ => True
theorem SameK.refl (v : Value) : SameK v v := by cases v <;> simp [SameK]
structure Kp (B : Nat) (w0 w1 : World) : Prop where
  size : w0.heap.size ≤ w1.heap.size
  blk : ∀ b c t, B ≤ b → Blk w0 b c t → ∃ c', Blk w1 b c' t ∧ ∀ (i : Nat) (v : Value), c[i]? = some v → ∃ v', c'[i]? = some v' ∧ SameK v v'
structure Fr (B T : Nat) (w w' : World) : Prop where
  size : w.heap.size ≤ w'.heap.size
  blk : ∀ b, b < w.heap.size → (b < B ∨ T ≤ b) → w'.heap[b]? = w.heap[b]?
  os : w'.os = w.os
  tape : w'.tape = w.tape
  output : w'.output = w.output
theorem Kp.below {B : Nat} {w0 w1 w2 : World} (h : Kp B w0 w1) (hb : Below w1.heap.size w1 w2) : Kp B w0 w2 := ⟨Nat.le_trans h.size hb.size, fun b c t h0 h1 => by
  obtain ⟨c', h2, h3⟩ := h.blk b c t h0 h1
  exact ⟨c', h2.below hb, h3⟩⟩
theorem Kp.set {B b j : Nat} {w0 w1 : World} {c : Array Value} {t : TypeId} {v x : Value} (h : Kp B w0 w1) (hb : Blk w0 b c t) (hv : w0.cell? ⟨b, j, none⟩ = some v) (hk : SameK v x) : Kp B w0 (w1.setCell ⟨b, j, none⟩ x) :=
  ⟨by simpa using h.size, fun b' c' t' h0 h1 => by
    obtain ⟨d, h2, h3⟩ := h.blk b' c' t' h0 h1
    by_cases e : b' = b
    · subst e
      refine ⟨_, h2.set j x, fun i u hu => ?_⟩
      obtain ⟨u', hu', hk'⟩ := h3 i u hu
      by_cases ei : j = i
      · subst ei
        have hin : j < d.size := (Array.getElem?_eq_some_iff.1 hu').1
        refine ⟨x, by simp [hin], ?_⟩
        have : w0.cell? ⟨b', j, none⟩ = some u := by rw [h1.cell]; exact hu
        rw [hv] at this
        obtain rfl := Option.some.inj this
        exact hk
      · exact ⟨u', by rw [Array.getElem?_setIfInBounds_ne ei]; exact hu', hk'⟩
    · exact ⟨d, h2.other ⟨b, j, none⟩ x e, h3⟩⟩
theorem Kp.at {B b o j : Nat} {w0 w1 : World} {v : Value} (h : Kp B w0 w1) (hB : 0 < B) (sf : Sf B w0 (some ⟨b, o, none⟩)) (hv : w0.cell? ⟨b, j, none⟩ = some v) :
    (∃ c t, Blk w0 b c t) ∧ B ≤ b ∧ b < w0.heap.size ∧ w1.frozen? ⟨b, j, none⟩ = false ∧ ∃ v', w1.cell? ⟨b, j, none⟩ = some v' ∧ SameK v v' := by
  obtain ⟨h1, c, t, h2⟩ := sf hB _ rfl
  obtain ⟨c', h3, h4⟩ := h.blk b c t h1 h2
  rw [h2.cell] at hv
  obtain ⟨v', h5, h6⟩ := h4 j v hv
  exact ⟨⟨c, t, h2⟩, h1, h2.lt, h3.frozen j, v', by rw [h3.cell]; exact h5, h6⟩
theorem Fr.refl (B T : Nat) (w : World) : Fr B T w w := ⟨Nat.le_refl _, fun _ _ _ => rfl, rfl, rfl, rfl⟩
theorem Fr.below {B T : Nat} {w w1 w2 : World} (h : Fr B T w w1) (hb : Below w1.heap.size w1 w2) : Fr B T w w2 := ⟨Nat.le_trans h.size hb.size, fun b h0 h1 => by
  rw [hb.block b (Nat.lt_of_lt_of_le h0 h.size), h.blk b h0 h1], by rw [hb.os, h.os], by rw [hb.tape, h.tape], by rw [hb.output, h.output]⟩
theorem Fr.trans {B T : Nat} {w w1 w2 : World} (h : Fr B T w w1) (h' : Fr B T w1 w2) : Fr B T w w2 := ⟨Nat.le_trans h.size h'.size, fun b h0 h1 => by
  rw [h'.blk b (Nat.lt_of_lt_of_le h0 h.size) h1, h.blk b h0 h1], by rw [h'.os, h.os], by rw [h'.tape, h.tape], by rw [h'.output, h.output]⟩
theorem Fr.set {B T b j : Nat} {w w1 : World} {x : Value} (h : Fr B T w w1) (hB : B ≤ b) (hT : b < T) : Fr B T w (w1.setCell ⟨b, j, none⟩ x) :=
  ⟨by simpa using h.size, fun b' h0 h1 => by rw [Below.heap_setCell _ _ _ _ (by show b' ≠ b; omega)]; exact h.blk b' h0 h1, h.os, h.tape, h.output⟩
end Go.Proofs.YtnjefbkhibfgmaaGreat
namespace Go.Proofs.YtnjefbkhibfgmaaGreat
open Go.RowKit Go.BigFrame
def MarkC (w : World) (a : Option Addr) (n : Nat) : Prop := ∀ j, j < n → ∃ b, a = some ⟨b, 0, none⟩ ∧ w.cell? ⟨b, j * 4, none⟩ = some (.int .i64 (1 + 4 * (j : Int))) ∧ w.cell? ⟨b, j * 4 + 1, none⟩ = some (.int .i64 (1 + 4 * (j : Int) + 1)) ∧ w.cell? ⟨b, j * 4 + 2, none⟩ = some (.string (markT (3 + 4 * j))) ∧ w.cell? ⟨b, j * 4 + 3, none⟩ = some (.int .i64 (1 + 4 * (j : Int) + 1 + 1 + 1))
theorem MarkC.below {w w' : World} {a : Option Addr} {n : Nat} (h : MarkC w a n) (hb : Below w.heap.size w w') : MarkC w' a n := fun j hj => by
  obtain ⟨b, ha, h0, h1, h2, h3⟩ := h j hj
  exact ⟨b, ha, bcell hb h0, bcell hb h1, bcell hb h2, bcell hb h3⟩
end Go.Proofs.YtnjefbkhibfgmaaGreat
namespace Go.Proofs.YtnjefbkhibfgmaaGreat
open Go.RowKit
theorem OwnAt.arg {α : Type} {cs : α → List Value} {sz : Nat} {t : TypeId} {w : World} {b n : Nat} {l : List α} (_ : OwnAt cs sz t w b n l) (cap : Nat) : ArgOk (some ⟨b, 0, none⟩) cap := arg_own b cap
theorem ResAt.grownO {α : Type} {cs : α → List Value} {sz : Nat} {t : TypeId} {w w' : World} {B n cap : Nat} {a : Option Addr} {l : List α} {row : Option Nat} (h : ResAt cs sz t w B a n cap l) (hg : w.grownBy w' row) (hr : ∀ ad, a = some ad → some ad.block ≠ row) : ResAt cs sz t w' B a n cap l := by
  refine ⟨h.sl.grownO hg hr, ?_⟩
  rcases h.own with h0 | ⟨b, ha, hB, h1, h2, c, hc, q⟩
  · exact .inl h0
  · refine .inr ⟨b, ha, hB, h1, h2, c, ?_, q⟩
    show w'.heap[b]? = _
    rw [hg.block b hc.lt (hr _ ha)]; exact hc
end Go.Proofs.YtnjefbkhibfgmaaGreat
namespace Go.Proofs.YtnjefbkhibfgmaaGreat
open Go.RowKit Go.BigFrame
theorem ResAt.same {α : Type} {cs : α → List Value} {sz : Nat} {t : TypeId} {w w' : World} {B n cap : Nat} {a : Option Addr} {l : List α} (h : ResAt cs sz t w B a n cap l) (he : ∀ ad, a = some ad → w'.heap[ad.block]? = w.heap[ad.block]?) : ResAt cs sz t w' B a n cap l := by
  have hcell : ∀ b o, a = some ⟨b, o, none⟩ → ∀ j, w'.cell? ⟨b, j, none⟩ = w.cell? ⟨b, j, none⟩ := fun b o ha j => by
    have := he _ ha
    simp only [World.cell?]
    rw [this]
  refine ⟨⟨h.sl.len, fun i x hx => ?_⟩, ?_⟩
  · obtain ⟨b, o, ha, hc⟩ := h.sl.cell i x hx
    exact ⟨b, o, ha, fun j v hv => by rw [hcell b o ha]; exact hc j v hv⟩
  · rcases h.own with h0 | ⟨b, ha, hB, h1, h2, c, hc, q⟩
    · exact .inl h0
    · exact .inr ⟨b, ha, hB, h1, h2, c, (he _ ha).trans hc, q⟩
theorem Fr.blkAt {w w' : World} {B0 T b : Nat} {c : Array Value} {t : TypeId} (hF : Fr B0 T w w') (h : Blk w b c t) (hb : b < B0 ∨ T ≤ b) : Blk w' b c t := (hF.blk _ h.lt hb).trans h
def walkedL (p : Po) : List Ct := if poolB p = true then walkL p.vs else []
set_option maxHeartbeats 2000000 in
set_option maxRecDepth 100000 in
theorem impl_Walked (B : Nat) (v : Value) (p : Po) (w : World) (h : PoolAt B w v p) (hd : DimP p) :
    Calls Tryz.prog 8 #[v] w fun e w' => (∃ a n cap, e = .returned (.slice a n cap) ∧ n ≤ 480 ∧ ResAt Ct.cs 4 38 w' w.heap.size a n cap (walkedL p)) ∧ Below w.heap.size w w' := by
  obtain ⟨ea, en, ec, va, vn, vc, ra, rn, rc, la, ln, lc, rfl, hrest⟩ := h
  have h : PoolAt B w (.agg #[.int .i64 p.size, .int .i64 p.next, .slice ea en ec, .slice va vn vc, .slice ra rn rc, .slice la ln lc]) p := ⟨ea, en, ec, va, vn, vc, ra, rn, rc, la, ln, lc, rfl, hrest⟩
  have h2 := hrest.2.1.1
  have z3 := hd.2.2.1
  have z4 := hd.2.2.2.1
  rw [h2.len] at z3
  clear hrest
  obtain ⟨pb, po, hpb⟩ : ∃ pb po, 0 < vn → va = some ⟨pb, po, none⟩ := by
    by_cases h0 : 0 < vn
    · obtain ⟨b, o, _, _, _, _, hv, _⟩ := vs_at h2 h0
      exact ⟨b, o, fun _ => hv⟩
    · exact ⟨0, 0, fun h => absurd h h0⟩
  have C := (Blk.new w #[.int .i64 p.size, .int .i64 p.next, .slice ea en ec, .slice va vn vc, .slice ra rn rc, .slice la ln lc] 28)
  have hBw : Below w.heap.size w (w.alloc (.cells #[.int .i64 p.size, .int .i64 p.next, .slice ea en ec, .slice va vn vc, .slice ra rn rc, .slice la ln lc] 28)) := by go_grown
  have hT : Hid (poolB p = true → walkedL p = walkL p.vs) := fun e => by simp [walkedL, e]
  have hF : Hid (poolB p = false → walkedL p = []) := fun e => by simp [walkedL, e]
  have hpv := fun e : poolB p = true => poolB_vs e
  generalize walkedL p = R at *
  go_enter Tryz.func8, Tryz.ntmps8
  go_wp2_with fail
  generalize w.alloc (.cells #[.int .i64 p.size, .int .i64 p.next, .slice ea en ec, .slice va vn vc, .slice ra rn rc, .slice la ln lc] 28) = W0 at *
  refine (impl_PoolOk B _ p _ (h.below hBw) hd).mono ?_
  rintro e w1 ⟨rfl, hB1⟩
  have C1 := C.below hB1
  replace hB1 := chain hBw hB1
  clear C hBw
  cases hpk : poolB p
  · have hR := hF.out hpk
    subst hR
    clear hpk hT hF hpv
    go_wp2
    go_returns
    exact ⟨⟨none, 0, 0, rfl, by omega, res_nil⟩, hB1⟩
  · have hR := hT.out hpk
    subst hR
    obtain ⟨q1, q2, q3, q4, q5⟩ := hpv hpk
    clear hpk hT hF hpv
    obtain ⟨d0, d1, d2, d3, d4, d5⟩ := C1.six
    go_wp2_with fail
    refine (impl_volumesOf B p.size p.next ea en ec va vn vc ra rn rc la ln lc p.vs pb po hpb _ (h2.below hB1) z3 z4).mono ?_
    rintro e w2 ⟨⟨mb, D, rfl, hmb, hO, hV⟩, hB2⟩
    replace hB2 := chain hB1 hB2
    clear d0 d1 d2 d3 d4 d5 C1 hB1
    go_wp2_with fail
    refine (impl_found B mb pb po D va vn p.vs hpb _ hO hV q5 (h2.below hB2) (tiny_of q1 q2) (wfV_of q3 q2)).mono ?_
    rintro e w3 ⟨⟨a3, n3, cap3, rfl, hn3, R3⟩, hB3⟩
    have hs2 := hB2.size
    replace hB3 := chain hB2 hB3
    go_wp2
    go_returns
    exact ⟨⟨a3, n3, cap3, rfl, hn3, R3.mono hs2⟩, hB3⟩
end Go.Proofs.YtnjefbkhibfgmaaGreat
