/- Volumes and files found by their names, by the model; its SizeOf. -/
import Derived.Test.YtllbojcjdpelnaaGreatProg
import Derived.Test.YtllbojcjdpelnaaGreatZm
namespace Go.Proofs.YtllbojcjdpelnaaGreat
open Go.RowKit Go.BigFrame

def volI (vs : List Vo) (s : ByteArray) : Option Nat := vs.findIdx? (fun v => v.nm.toList == s.toList)
def itI (l : List It) (s : ByteArray) : Option Nat := l.findIdx? (fun x => x.nm.toList == s.toList)
def idxV : Option Nat → Int
  | none => -1
  | some i => i
/-- The parts of a file. -/
def partsO (vs : List Vo) (vol file : ByteArray) : Option (List Pt) :=
  (volI vs vol).bind fun i => vs[i]?.bind fun v => (itI v.its file).bind fun k => v.its[k]?.map (·.ps)
def sizeO (p : Po) (vol file : ByteArray) : Int × Bool := if poolB p = true then (match partsO p.vs vol file with | none => (0, false) | some ps => (lenB ps, true)) else (0, false)

theorem volI_drop {vs : List Vo} {s : ByteArray} {k : Nat} {x : Vo} (h : vs[k]? = some x) : (volI (vs.drop k) s).map (· + k) = if (x.nm.toList == s.toList) = true then some k else (volI (vs.drop (k + 1)) s).map (· + (k + 1)) := by
  unfold volI
  rw [drop_at h, List.findIdx?_cons]
  split
  · simp
  · rw [Option.map_map]; congr 1; funext i; simp; omega
theorem itI_drop {vs : List It} {s : ByteArray} {k : Nat} {x : It} (h : vs[k]? = some x) : (itI (vs.drop k) s).map (· + k) = if (x.nm.toList == s.toList) = true then some k else (itI (vs.drop (k + 1)) s).map (· + (k + 1)) := by
  unfold itI
  rw [drop_at h, List.findIdx?_cons]
  split
  · simp
  · rw [Option.map_map]; congr 1; funext i; simp; omega
theorem volI_at {vs : List Vo} {s : ByteArray} {i : Nat} (h : volI vs s = some i) : i < vs.length := by
  unfold volI at h
  rw [List.findIdx?_eq_some_iff_getElem] at h
  exact h.1
theorem itI_at {vs : List It} {s : ByteArray} {i : Nat} (h : itI vs s = some i) : i < vs.length := by
  unfold itI at h
  rw [List.findIdx?_eq_some_iff_getElem] at h
  exact h.1

set_option maxHeartbeats 2000000 in
set_option maxRecDepth 100000 in
theorem spec_l4Find (B : Nat) (size next : Int) (ea : Option Addr) (en ec : Nat) (va : Option Addr) (vn vc : Nat) (ra : Option Addr) (rn rc : Nat) (la : Option Addr) (ln lc : Nat) (vs : List Vo) (s : ByteArray) (w : World) (h2 : VsAt B w va vn vs) (z3 : vn ≤ 4194304) :
    Calls Tryz.prog 68 #[.agg #[.int .i64 size, .int .i64 next, .slice ea en ec, .slice va vn vc, .slice ra rn rc, .slice la ln lc], .string s] w fun e w' => e = .returned (.int .i64 (idxV (volI vs s))) ∧ Below w.heap.size w w' := by
  have hlen : Hid (vs.length = vn) := h2.len
  have hR : Hid (volI vs s = (volI (vs.drop 0) s).map (· + 0)) := by show _ = _; simp
  generalize volI vs s = R at *
  have C := (Blk.new w #[.int .i64 size, .int .i64 next, .slice ea en ec, .slice va vn vc, .slice ra rn rc, .slice la ln lc] 33)
  have hB1 : Below w.heap.size w (w.alloc (.cells #[.int .i64 size, .int .i64 next, .slice ea en ec, .slice va vn vc, .slice ra rn rc, .slice la ln lc] 33)) := by go_grown
  go_enter Tryz.func68, Tryz.ntmps68
  go_wp2_with fail
  generalize w.alloc (.cells #[.int .i64 size, .int .i64 next, .slice ea en ec, .slice va vn vc, .slice ra rn rc, .slice la ln lc] 33) = W0 at *
  go_loopw [5] (fun ix wr => ∃ (k : Nat), k ≤ vn ∧ ix = .int .i64 k ∧ Hid (R = (volI (vs.drop k) s).map (· + k)) ∧ Below W0.heap.size W0 wr) (fun ix _ => vn - (intOf ix).toNat)
  case atStart => exact ⟨0, Nat.zero_le _, rfl, hR, Below.refl _ _⟩
  case round =>
    clear hR
    obtain ⟨k, hk, rfl, hI, hB⟩ := hrel
    have d3 := (C.below hB).cell 3
    replace hB1 := chain hB1 hB
    simp only [List.getElem?_toArray, List.getElem?_cons_zero, List.getElem?_cons_succ] at d3
    by_cases hlt : k < vn
    · obtain ⟨b, o, x, qa, qn, qc, rfl, hx, e0, e1, e2, e3, hP, _, _⟩ := vs_at (h2.below hB1) hlt
      have hst : Hid (R = if (x.nm.toList == s.toList) = true then some k else (volI (vs.drop (k + 1)) s).map (· + (k + 1))) := by show _ = _; rw [hI.out, volI_drop hx]
      have hk1 : (k : Int) < vn := by omega
      have hk2 : (0 : Int) ≤ k := by omega
      clear hx hI
      cases hs : (x.nm.toList == s.toList)
      · rw [hs] at hst
        simp only [Bool.false_eq_true, if_false] at hst
        have hs' : ¬ x.nm.toList = s.toList := by simpa using hs
        go_wp2
        go_roundw
        case rel => exact ⟨k + 1, by omega, by go_num, hst, hB⟩
        case measure => simp [intOf]; omega
      · rw [hs] at hst
        simp only [if_true] at hst
        have hs' : x.nm.toList = s.toList := by simpa using hs
        go_wp2
        go_returns
        exact ⟨by rw [hst.out]; rfl, hB1⟩
    · obtain rfl : k = vn := by omega
      go_wp2
      go_returns
      exact ⟨by rw [hI.out, List.drop_of_length_le (Nat.le_of_eq hlen.out)]; rfl, hB1⟩

set_option maxHeartbeats 2000000 in
set_option maxRecDepth 100000 in
theorem spec_l4Item (B : Nat) (id : Int) (nm : ByteArray) (fx : Bool) (pa : Option Addr) (pn pc : Nat) (its : List It) (s : ByteArray) (w : World) (h2 : ItsAt B w pa pn its) (z3 : pn ≤ 4194304) :
    Calls Tryz.prog 97 #[.agg #[.int .i64 id, .string nm, .bool fx, .slice pa pn pc], .string s] w fun e w' => e = .returned (.int .i64 (idxV (itI its s))) ∧ Below w.heap.size w w' := by
  have hlen : Hid (its.length = pn) := h2.len
  have hR : Hid (itI its s = (itI (its.drop 0) s).map (· + 0)) := by show _ = _; simp
  generalize itI its s = R at *
  have C := (Blk.new w #[.int .i64 id, .string nm, .bool fx, .slice pa pn pc] 80)
  have hB1 : Below w.heap.size w (w.alloc (.cells #[.int .i64 id, .string nm, .bool fx, .slice pa pn pc] 80)) := by go_grown
  go_enter Tryz.func97, Tryz.ntmps97
  go_wp2_with fail
  generalize w.alloc (.cells #[.int .i64 id, .string nm, .bool fx, .slice pa pn pc] 80) = W0 at *
  go_loopw [5] (fun ix wr => ∃ (k : Nat), k ≤ pn ∧ ix = .int .i64 k ∧ Hid (R = (itI (its.drop k) s).map (· + k)) ∧ Below W0.heap.size W0 wr) (fun ix _ => pn - (intOf ix).toNat)
  case atStart => exact ⟨0, Nat.zero_le _, rfl, hR, Below.refl _ _⟩
  case round =>
    clear hR
    obtain ⟨k, hk, rfl, hI, hB⟩ := hrel
    have d3 := (C.below hB).cell 3
    replace hB1 := chain hB1 hB
    simp only [List.getElem?_toArray, List.getElem?_cons_zero, List.getElem?_cons_succ] at d3
    by_cases hlt : k < pn
    · obtain ⟨b, o, x, qa, qn, qc, rfl, hx, e0, e1, hP, _, _, _⟩ := its_at (h2.below hB1) hlt
      have hst : Hid (R = if (x.nm.toList == s.toList) = true then some k else (itI (its.drop (k + 1)) s).map (· + (k + 1))) := by show _ = _; rw [hI.out, itI_drop hx]
      have hk1 : (k : Int) < pn := by omega
      have hk2 : (0 : Int) ≤ k := by omega
      clear hx hI
      cases hs : (x.nm.toList == s.toList)
      · rw [hs] at hst
        simp only [Bool.false_eq_true, if_false] at hst
        have hs' : ¬ x.nm.toList = s.toList := by simpa using hs
        go_wp2
        go_roundw
        case rel => exact ⟨k + 1, by omega, by go_num, hst, hB⟩
        case measure => simp [intOf]; omega
      · rw [hs] at hst
        simp only [if_true] at hst
        have hs' : x.nm.toList = s.toList := by simpa using hs
        go_wp2
        go_returns
        exact ⟨by rw [hst.out]; rfl, hB1⟩
    · obtain rfl : k = pn := by omega
      go_wp2
      go_returns
      exact ⟨by rw [hI.out, List.drop_of_length_le (Nat.le_of_eq hlen.out)]; rfl, hB1⟩

/-- An answer of parts that are the argument's own. -/
def RetPs (B : Nat) (e : Ending) (w' : World) : Option (List Pt) → Prop
  | none => e = .returned (.tuple #[.slice none 0 0, .bool false])
  | some ps => ∃ pa pn pc, e = .returned (.tuple #[.slice pa pn pc, .bool true]) ∧ PtsAt w' pa pn ps ∧ Hd B pa pn pc ∧ ps.length ≤ 4194304

set_option maxHeartbeats 2000000 in
set_option maxRecDepth 100000 in
theorem spec_l5Parts (B : Nat) (v : Value) (p : Po) (vol file : ByteArray) (w : World) (h : PoolAt B w v p) (hd : DimP p) :
    Calls Tryz.prog 61 #[v, .string vol, .string file] w fun e w' => RetPs B e w' (partsO p.vs vol file) ∧ Below w.heap.size w w' := by
  obtain ⟨ea, en, ec, va, vn, vc, ra, rn, rc, la, ln, lc, rfl, ⟨h1, k1⟩, ⟨h2, k2⟩, ⟨h3, k3⟩, h4, k4⟩ := h
  obtain ⟨z1, z2, z3, z4, z5, z6, z7, z8⟩ := hd
  rw [h2.len] at z3
  obtain ⟨size, next, ex, vs, rf, lt⟩ := p
  simp only at h1 h2 h3 h4 z2 z4 z6 z8 ⊢
  have hR : Hid (partsO vs vol file = (volI vs vol).bind fun i => vs[i]?.bind fun v => (itI v.its file).bind fun k => v.its[k]?.map (·.ps)) := rfl
  generalize partsO vs vol file = R at *
  have C := (Blk.new w #[.int .i64 size, .int .i64 next, .slice ea en ec, .slice va vn vc, .slice ra rn rc, .slice la ln lc] 33)
  have hB0 : Below w.heap.size w (w.alloc (.cells #[.int .i64 size, .int .i64 next, .slice ea en ec, .slice va vn vc, .slice ra rn rc, .slice la ln lc] 33)) := by go_grown
  go_enter Tryz.func61, Tryz.ntmps61
  go_wp2_with fail
  generalize w.alloc (.cells #[.int .i64 size, .int .i64 next, .slice ea en ec, .slice va vn vc, .slice ra rn rc, .slice la ln lc] 33) = W0 at *
  refine (spec_l4Find B size next ea en ec va vn vc ra rn rc la ln lc vs vol _ (h2.below hB0) z3).mono ?_
  rintro e w1 ⟨rfl, hB1⟩
  have C1 := C.below hB1
  replace hB1 := chain hB0 hB1
  clear C hB0
  have d3 := C1.cell 3
  simp only [List.getElem?_toArray, List.getElem?_cons_zero, List.getElem?_cons_succ] at d3
  cases hvi : volI vs vol with
  | none =>
    rw [hvi] at hR
    replace hR : Hid (R = none) := hR
    rw [show idxV none = -1 from rfl]
    clear hvi
    go_wp2
    go_returns
    exact ⟨by rw [hR.out]; rfl, hB1⟩
  | some i =>
    rw [hvi] at hR
    rw [show idxV (some i) = (i : Int) from rfl]
    have hiv := volI_at hvi
    rw [h2.len] at hiv
    clear hvi
    obtain ⟨b, o, x, qa, qn, qc, rfl, hx, e0, e1, e2, e3, hP, hH, hBb⟩ := vs_at (h2.below hB1) hiv
    replace hR : Hid (R = (itI x.its file).bind fun k => x.its[k]?.map (·.ps)) := by show _ = _; rw [hR.out, Option.bind_some, hx, Option.bind_some]
    obtain ⟨m1, m2, m3⟩ := z4 x (List.mem_of_getElem? hx)
    have hql : Hid (x.its.length = qn) := hP.len
    rw [hql.out] at m2
    have hk1 : (i : Int) < vn := by omega
    have hk2 : (0 : Int) ≤ i := by omega
    clear hx
    go_wp2_with fail
    refine (spec_l4Item B x.id x.nm x.fx qa qn qc x.its file _ hP m2).mono ?_
    rintro e w2 ⟨rfl, hB2⟩
    have C2 := C1.below hB2
    have hP2 := hP.below hB2
    have f3 := bcell hB2 e3
    replace hB2 := chain hB1 hB2
    clear C1 hB1 d3 e0 e1 e2 e3 hP
    have d3 := C2.cell 3
    simp only [List.getElem?_toArray, List.getElem?_cons_zero, List.getElem?_cons_succ] at d3
    cases hij : itI x.its file with
    | none =>
      rw [hij] at hR
      replace hR : Hid (R = none) := hR
      rw [show idxV none = -1 from rfl]
      clear hij
      go_wp2
      go_returns
      exact ⟨by rw [hR.out]; rfl, hB2⟩
    | some j =>
      rw [hij] at hR
      rw [show idxV (some j) = (j : Int) from rfl]
      have hjv := itI_at hij
      rw [hql.out] at hjv
      clear hij
      obtain ⟨b', o', y, pa, pn, pc, rfl, hy, g0, g1, hPt, hH2, _, _⟩ := its_at hP2 hjv
      replace hR : Hid (R = some y.ps) := by show _ = _; rw [hR.out, Option.bind_some, hy]; rfl
      obtain ⟨_, m5⟩ := m3 y (List.mem_of_getElem? hy)
      have hj1 : (j : Int) < qn := by omega
      have hj2 : (0 : Int) ≤ j := by omega
      clear hy
      go_wp2
      go_returns
      exact ⟨by rw [hR.out]; exact ⟨pa, pn, pc, rfl, hPt, hH2, m5⟩, hB2⟩

theorem poolB_vs {p : Po} (h : poolB p = true) : p.vs.length ≤ 6 ∧ vgo p.next p.ex 0 p.vs = true ∧ p.next ≤ 1000000000 ∧ spaceOkB p.size p.ex = true ∧ (p.vs.map (·.nm.toList)).Nodup := by
  simp only [poolB, volsB, namesB, Bool.and_eq_true, decide_eq_true_eq] at h
  exact ⟨h.1.1.1.2.1, h.1.1.1.2.2, h.1.1.1.1.2, h.1.1.1.1.1.1, h.1.1.2⟩
theorem partsO_mem {vs : List Vo} {vol file : ByteArray} {ps : List Pt} (h : partsO vs vol file = some ps) : ∃ v ∈ vs, ∃ x ∈ v.its, x.ps = ps := by
  unfold partsO at h
  simp only [Option.bind_eq_some_iff, Option.map_eq_some_iff] at h
  obtain ⟨i, _, v, hv, k, _, x, hx, rfl⟩ := h
  exact ⟨v, List.mem_of_getElem? hv, x, List.mem_of_getElem? hx, rfl⟩
theorem parts_right {p : Po} {vol file : ByteArray} {ps : List Pt} (hp : poolB p = true) (h : partsO p.vs vol file = some ps) : partsOkB ps = true ∧ (contentO ps p.ex).isSome = true := by
  obtain ⟨v, hv, x, hx, rfl⟩ := partsO_mem h
  obtain ⟨_, h2, _⟩ := poolB_vs hp
  obtain ⟨h3, _⟩ := vgo_each h2 v hv
  simp only [itemsB, Bool.and_eq_true] at h3
  have h4 := igo_each h3.2 x hx
  refine ⟨?_, h4⟩
  unfold contentO at h4
  split at h4
  · rename_i hh; exact hh.1
  · cases h4

set_option maxHeartbeats 2000000 in
set_option maxRecDepth 100000 in
theorem spec_SizeOf (B : Nat) (hB0 : 0 < B) (v : Value) (p : Po) (vol file : ByteArray) (w : World) (h : PoolAt B w v p) (hd : DimP p) :
    Calls Tryz.prog 23 #[v, .string vol, .string file] w fun e w' => e = .returned (.tuple #[.int .i64 (sizeO p vol file).1, .bool (sizeO p vol file).2]) ∧ Below w.heap.size w w' := by
  obtain ⟨ea, en, ec, va, vn, vc, ra, rn, rc, la, ln, lc, rfl, hrest⟩ := h
  have h : PoolAt B w (.agg #[.int .i64 p.size, .int .i64 p.next, .slice ea en ec, .slice va vn vc, .slice ra rn rc, .slice la ln lc]) p := ⟨ea, en, ec, va, vn, vc, ra, rn, rc, la, ln, lc, rfl, hrest⟩
  clear hrest
  have C := (Blk.new w #[.int .i64 p.size, .int .i64 p.next, .slice ea en ec, .slice va vn vc, .slice ra rn rc, .slice la ln lc] 33)
  have hBw : Below w.heap.size w (w.alloc (.cells #[.int .i64 p.size, .int .i64 p.next, .slice ea en ec, .slice va vn vc, .slice ra rn rc, .slice la ln lc] 33)) := by go_grown
  have hS : Hid (∀ ps, poolB p = true → partsO p.vs vol file = some ps → sizeO p vol file = (lenB ps, true)) := fun ps h1 h2 => by simp [sizeO, h1, h2]
  have hN : Hid (partsO p.vs vol file = none → sizeO p vol file = (0, false)) := fun h2 => by simp [sizeO, h2]
  have hF : Hid (poolB p = false → sizeO p vol file = (0, false)) := fun h2 => by simp [sizeO, h2]
  have hrt := fun ps (h1 : poolB p = true) (h2 : partsO p.vs vol file = some ps) => (parts_right h1 h2).1
  generalize sizeO p vol file = R at *
  go_enter Tryz.func23, Tryz.ntmps23
  go_wp2_with fail
  generalize w.alloc (.cells #[.int .i64 p.size, .int .i64 p.next, .slice ea en ec, .slice va vn vc, .slice ra rn rc, .slice la ln lc] 33) = W0 at *
  refine (spec_l5Parts B _ p vol file _ (h.below hBw) hd).mono ?_
  rintro e w1 ⟨hret, hB1⟩
  have C1 := C.below hB1
  replace hB1 := chain hBw hB1
  clear C hBw
  obtain ⟨d0, d1, d2, d3, d4, d5⟩ : w1.cell? ⟨w.heap.size, 0, none⟩ = some (.int .i64 p.size) ∧ w1.cell? ⟨w.heap.size, 1, none⟩ = some (.int .i64 p.next) ∧ w1.cell? ⟨w.heap.size, 2, none⟩ = some (.slice ea en ec) ∧ w1.cell? ⟨w.heap.size, 3, none⟩ = some (.slice va vn vc) ∧ w1.cell? ⟨w.heap.size, 4, none⟩ = some (.slice ra rn rc) ∧ w1.cell? ⟨w.heap.size, 5, none⟩ = some (.slice la ln lc) := ⟨C1.cell 0, C1.cell 1, C1.cell 2, C1.cell 3, C1.cell 4, C1.cell 5⟩
  cases hps : partsO p.vs vol file with
  | none =>
    rw [hps] at hret
    replace hret : e = .returned (.tuple #[.slice none 0 0, .bool false]) := hret
    subst hret
    have hRf := hN.out hps
    go_wp2_with fail
    refine (spec_PoolOk B hB0 _ p _ (h.below hB1) hd).mono ?_
    rintro e w2 ⟨rfl, hB2⟩
    replace hB2 := chain hB1 hB2
    clear hps
    cases hpk : poolB p
    all_goals clear hpk
    all_goals go_wp2
    all_goals go_returns
    all_goals exact ⟨by rw [hRf]; rfl, hB2⟩
  | some ps =>
    rw [hps] at hret
    obtain ⟨pa, pn, pc, rfl, hPt, hH, hpl⟩ := hret
    rw [hPt.len] at hpl
    go_wp2_with fail
    refine (spec_PoolOk B hB0 _ p _ (h.below hB1) hd).mono ?_
    rintro e w2 ⟨rfl, hB2⟩
    have hPt2 := hPt.below hB2
    replace hB2 := chain hB1 hB2
    cases hpk : poolB p
    · have hRf := hF.out hpk
      clear hpk hps
      go_wp2
      go_returns
      exact ⟨by rw [hRf]; rfl, hB2⟩
    · have hRf := hS.out ps hpk hps
      have hok := hrt ps hpk hps
      clear hpk hps
      go_wp2_with fail
      refine (spec_l2Len pa pn pc ps _ hPt2 hpl (sums_of hok)).mono ?_
      rintro e w3 ⟨rfl, rfl⟩
      have hln : lenB ps = sumN ps := by simp [lenB, hok]
      go_wp2
      go_returns
      exact ⟨by rw [hRf, hln]; rfl, hB2⟩
end Go.Proofs.YtllbojcjdpelnaaGreat
