/- OwnersOf of both. -/
import Derived.Test.YtnjefbkhibfgmaaGreatLDAskedx48
import Derived.Test.YtnjefbkhibfgmaaGreatLDAskedx04
import Derived.Test.YtnjefbkhibfgmaaGreatLDAskedx16
import Derived.Test.YtnjefbkhibfgmaaGreatLDAskedx46
namespace Go.Proofs.YtnjefbkhibfgmaaGreat
open Go.RowKit Go.BigFrame
def ownersL (p : Po) (addr : Int) : List Ct := if poolB p = true then (sumC p.rf p.lt).filter (fun c => c.o.a == addr) else []
theorem poolB_fl {p : Po} (h : poolB p = true) : flushedO p.rf p.lt = some (sumC p.rf p.lt) ∧ refsOkB p.rf = true ∧ lateOkB p.lt = true := by
  simp only [poolB, Bool.and_eq_true] at h
  have h1 := h.1.2
  unfold flushedO at h1 ⊢
  split at h1
  · rename_i hh
    split at hh
    · split at hh <;> cases h1
    · cases h1
  · rename_i s hh
    split at hh
    · rename_i h2
      split at hh
      · rename_i h3
        rw [if_pos h2, if_pos h3]
        exact ⟨rfl, h2⟩
      · cases hh
    · cases hh
theorem filter_take {l : List Ct} {i : Nat} {c : Ct} {f : Ct → Bool} (h : l[i]? = some c) : (l.take (i + 1)).filter f = (l.take i).filter f ++ (if f c = true then [c] else []) := by
  rw [take_at h, List.filter_append]
  congr 1
  cases hf : f c <;> simp [hf]
set_option maxHeartbeats 2000000 in
set_option maxRecDepth 100000 in
theorem impl_OwnersOf (B : Nat) (v : Value) (p : Po) (addr : Int) (w : World) (h : PoolAt B w v p) (hd : DimP p) :
    Calls Tryz.prog 20 #[v, .int .i64 addr] w fun e w' => (∃ a n cap, e = .returned (.slice a n cap) ∧ n ≤ 480 ∧ ResAt Ct.cs 4 38 w' w.heap.size a n cap (ownersL p addr)) ∧ Below w.heap.size w w' := by
  obtain ⟨ea, en, ec, va, vn, vc, ra, rn, rc, la, ln, lc, rfl, hrest⟩ := h
  have h : PoolAt B w (.agg #[.int .i64 p.size, .int .i64 p.next, .slice ea en ec, .slice va vn vc, .slice ra rn rc, .slice la ln lc]) p := ⟨ea, en, ec, va, vn, vc, ra, rn, rc, la, ln, lc, rfl, hrest⟩
  have h3 := hrest.2.2.1.1
  have h4 := hrest.2.2.2.1
  obtain ⟨z1, z2, z3, z4, z5, z6, z7, z8⟩ := id hd
  rw [h3.len] at z5
  rw [h4.len] at z7
  clear hrest z1 z2 z3 z4
  obtain ⟨i0, hi0, hz0, hz1, hz2⟩ := info_parts infoC
  have C := (Blk.new w #[.int .i64 p.size, .int .i64 p.next, .slice ea en ec, .slice va vn vc, .slice ra rn rc, .slice la ln lc] 28)
  have hBw : Below w.heap.size w (w.alloc (.cells #[.int .i64 p.size, .int .i64 p.next, .slice ea en ec, .slice va vn vc, .slice ra rn rc, .slice la ln lc] 28)) := by go_grown
  have hT : Hid (poolB p = true → ownersL p addr = (sumC p.rf p.lt).filter (fun c => c.o.a == addr)) := fun e => by simp [ownersL, e]
  have hF : Hid (poolB p = false → ownersL p addr = []) := fun e => by simp [ownersL, e]
  have hfl := fun e : poolB p = true => poolB_fl e
  generalize ownersL p addr = R at *
  go_enter Tryz.func20, Tryz.ntmps20
  go_wp2_with fail
  generalize w.alloc (.cells #[.int .i64 p.size, .int .i64 p.next, .slice ea en ec, .slice va vn vc, .slice ra rn rc, .slice la ln lc] 28) = W0 at *
  refine (impl_PoolOk B _ p _ (h.below hBw) hd).mono ?_
  rintro e w1 ⟨rfl, hB1⟩
  have C1 := C.below hB1
  replace hB1 := chain hBw hB1
  clear C hBw
  cases hpk : poolB p
  · have hR := hF.out hpk
    subst hR
    clear hpk hT hF hfl
    go_wp2
    go_returns
    exact ⟨⟨none, 0, 0, rfl, by omega, res_nil⟩, hB1⟩
  · have hR := hT.out hpk
    subst hR
    obtain ⟨q1, _, _⟩ := hfl hpk
    clear hpk hT hF hfl
    obtain ⟨d0, d1, d2, d3, d4, d5⟩ := C1.six
    go_wp2_with fail
    refine (impl_Flushed ra rn rc p.rf la ln lc p.lt _ (h3.below hB1) (h4.below hB1) z6 z8 z5 z7).mono ?_
    rintro e w2 ⟨hret, hB2⟩
    rw [q1] at hret
    obtain ⟨a2, n2, cap2, rfl, hn2, R2⟩ := hret
    have R2b := R2.block
    have hs1 := hB1.size
    have hs2 := hB2.size
    replace hB2 := chain hB1 hB2
    have hlen : Hid ((sumC p.rf p.lt).length = n2) := R2.sl.len
    clear d0 d1 d2 d3 d4 d5 C1 hB1 q1
    generalize hL : sumC p.rf p.lt = L at *
    replace hL : Hid (sumC p.rf p.lt = L) := hL
    go_wp2_with fail
    go_loopw [7, 23] (fun out ix wr => ∃ (i : Nat) (a3 : Option Addr) (n3 cap3 : Nat), i ≤ n2 ∧ ix = .int .i64 i ∧ out = .slice a3 n3 cap3 ∧ n3 ≤ i ∧ ResAt Ct.cs 4 38 wr w2.heap.size a3 n3 cap3 ((L.take i).filter (fun c => c.o.a == addr)) ∧ CtsAt wr a2 n2 L ∧ w2.heap.size ≤ wr.heap.size ∧ Below w.heap.size w wr) (fun _ ix _ => n2 - (intOf ix).toNat)
    case atStart => exact ⟨0, none, 0, 0, Nat.zero_le _, rfl, rfl, Nat.le_refl _, res_nil, R2.sl, Nat.le_refl _, hB2⟩
    case round =>
      obtain ⟨i, a3, n3, cap3, hi, rfl, rfl, hn3, R3, S, hws, hB⟩ := hrel
      by_cases hlt : i < n2
      · obtain ⟨b, o, c, rfl, hc, c0, c1, c2, c3⟩ := cts_at S hlt
        have hft := filter_take (f := fun c => c.o.a == addr) hc
        have hj1 : (i : Int) < n2 := by omega
        have hj2 : (0 : Int) ≤ i := by omega
        have hbT := (R2b _ rfl).2
        clear hc
        cases he : (c.o.a == addr)
        · rw [he] at hft
          simp only [Bool.false_eq_true, if_false, List.append_nil] at hft
          have R4 := R3.alloc (.cells #[.int .i64 c.o.a, .int .i64 c.o.v, .string c.o.f, .int .i64 c.n] 38)
          have S4 := S.alloc (.cells #[.int .i64 c.o.a, .int .i64 c.o.v, .string c.o.f, .int .i64 c.n] 38)
          rw [← hft] at R4
          clear hft
          go_wp2
          go_roundw
          case rel => exact ⟨i + 1, a3, n3, cap3, by omega, by go_num, rfl, by omega, R4, S4, by simp; omega, hB.alloc hB.size _⟩
          case measure => simp [intOf]; omega
        · rw [he] at hft
          simp only [if_true] at hft
          go_wp2_with (at_builtin; refine wpList_app rfl (fun K hK => wp_app _ _ 26 rfl w2.heap.size 38 i0 (.agg #[.int .i64 0, .int .i64 0, .string .empty, .int .i64 0]) 40 Tryz.underlying26 hi0 hz0 hz1 hz2 rfl (by decide) ccs_len ccs_one a3 n3 cap3 _ rfl ((R3.alloc _).alloc _) _ 1 1 [c] rfl (sl_newC _ c _ _ (by simp)) (fun ad h => (by cases h; rfl)) (fun h => (by cases h)) (n3 + 1) rfl (by unfold maxLen; omega) (by omega) (by simp; omega) (fun a4 cap4 w4 R4 hg4 => hK _ _ ?_)))
          rw [← hft] at R4
          have hB4 : Below w.heap.size w w4 := Below.grown (by go_grown) hg4 (by have := hB.size; simp; omega) (own_ge fun ad had => by have := (R3.block ad had).1; omega)
          have S4 : CtsAt w4 (some ⟨b, o, none⟩) n2 L := ((S.alloc (.cells #[.int .i64 c.o.a, .int .i64 c.o.v, .string c.o.f, .int .i64 c.n] 38)).alloc (.cells #[.int .i64 c.o.a, .int .i64 c.o.v, .string c.o.f, .int .i64 c.n] 38)).grownO hg4 (fun ad had => by cases had; exact own_ne fun ad had => by have := (R3.block ad had).1; omega)
          have hs4 : w2.heap.size ≤ w4.heap.size := Nat.le_trans (by simp; omega) hg4.size
          go_roundw
          case rel => exact ⟨i + 1, a4, n3 + 1, cap4, by omega, by go_num, rfl, by omega, R4, S4, hs4, hB4⟩
          case measure => simp [intOf]; omega
      · obtain rfl : i = n2 := by omega
        rw [List.take_of_length_le (Nat.le_of_eq hlen.out)] at R3
        go_wp2
        go_returns
        exact ⟨⟨a3, n3, cap3, rfl, by omega, by rw [hL.out]; exact R3.mono (by omega)⟩, hB⟩
set_option maxHeartbeats 2000000 in
set_option maxRecDepth 100000 in
theorem spec_OwnersOf (B : Nat) (hB0 : 0 < B) (v : Value) (p : Po) (addr : Int) (w : World) (h : PoolAt B w v p) (hd : DimP p) :
    Calls Tryz.prog 24 #[v, .int .i64 addr] w fun e w' => (∃ a n cap, e = .returned (.slice a n cap) ∧ n ≤ 480 ∧ ResAt Ct.cs 4 38 w' w.heap.size a n cap (ownersL p addr)) ∧ Below w.heap.size w w' := by
  obtain ⟨ea, en, ec, va, vn, vc, ra, rn, rc, la, ln, lc, rfl, hrest⟩ := h
  have h : PoolAt B w (.agg #[.int .i64 p.size, .int .i64 p.next, .slice ea en ec, .slice va vn vc, .slice ra rn rc, .slice la ln lc]) p := ⟨ea, en, ec, va, vn, vc, ra, rn, rc, la, ln, lc, rfl, hrest⟩
  have h3 := hrest.2.2.1.1
  have k3 := hrest.2.2.1.2.1
  have h4 := hrest.2.2.2.1
  have n3 : Hid (p.rf.length = rn) := h3.len
  have n4 : Hid (p.lt.length = ln) := h4.len
  clear hrest
  obtain ⟨i0, hi0, hz0, hz1, hz2⟩ := info_parts infoC
  have C := ((Blk.new w #[.int .i64 p.size, .int .i64 p.next, .slice ea en ec, .slice va vn vc, .slice ra rn rc, .slice la ln lc] 28).alloc (.cells #[] 38))
  have E := Blk.new' (w.alloc (.cells #[.int .i64 p.size, .int .i64 p.next, .slice ea en ec, .slice va vn vc, .slice ra rn rc, .slice la ln lc] 28)) #[] 38 (w.heap.size + 1) (by simp)
  have hBw : Below w.heap.size w ((w.alloc (.cells #[.int .i64 p.size, .int .i64 p.next, .slice ea en ec, .slice va vn vc, .slice ra rn rc, .slice la ln lc] 28)).alloc (.cells #[] 38)) := by go_grown
  have hT : Hid (poolB p = true → ownersL p addr = (sumC p.rf p.lt).filter (fun c => c.o.a == addr)) := fun e => by simp [ownersL, e]
  have hF : Hid (poolB p = false → ownersL p addr = []) := fun e => by simp [ownersL, e]
  have hfl := fun e : poolB p = true => poolB_fl e
  generalize ownersL p addr = R at *
  go_enter Tryz.func24, Tryz.ntmps24
  go_wp2_with fail
  generalize (w.alloc (.cells #[.int .i64 p.size, .int .i64 p.next, .slice ea en ec, .slice va vn vc, .slice ra rn rc, .slice la ln lc] 28)).alloc (.cells #[] 38) = W0 at *
  refine (spec_PoolOk B hB0 _ p _ (h.below hBw) hd).mono ?_
  rintro e w1 ⟨rfl, hB1⟩
  have C1 := C.below hB1
  have E1 := E.below hB1
  replace hB1 := chain hBw hB1
  clear C hBw E
  have RE : ResAt Ct.cs 4 38 w1 w.heap.size (some ⟨w.heap.size + 1, 0, none⟩) 0 0 ([] : List Ct) := res_empty E1 (by omega)
  cases hpk : poolB p
  · have hR := hF.out hpk
    subst hR
    clear hpk hT hF hfl
    go_wp2
    go_returns
    exact ⟨⟨_, 0, 0, rfl, by omega, RE⟩, hB1⟩
  · have hR := hT.out hpk
    subst hR
    obtain ⟨_, q2, q3⟩ := hfl hpk
    obtain ⟨q4, q5⟩ := refs_bound q2
    obtain ⟨q6, q7⟩ := late_bound q3
    rw [n3.out] at q4
    rw [n4.out] at q6
    clear hpk hT hF hfl q2 q3
    obtain ⟨d0, d1, d2, d3, d4, d5⟩ : w1.cell? ⟨w.heap.size, 0, none⟩ = some (.int .i64 p.size) ∧ w1.cell? ⟨w.heap.size, 1, none⟩ = some (.int .i64 p.next) ∧ w1.cell? ⟨w.heap.size, 2, none⟩ = some (.slice ea en ec) ∧ w1.cell? ⟨w.heap.size, 3, none⟩ = some (.slice va vn vc) ∧ w1.cell? ⟨w.heap.size, 4, none⟩ = some (.slice ra rn rc) ∧ w1.cell? ⟨w.heap.size, 5, none⟩ = some (.slice la ln lc) := C1.six
    go_wp2_with fail
    refine (spec_l3Sum ra rn rc p.rf la ln lc p.lt _ (h3.below hB1) (k3.2.2 hB0).2 (k3.2.2 hB0).1 (h4.below hB1) q4 q6 (fun x hx => by have := q5 x hx; omega) (fun x hx => by have := q7 x hx; omega)).mono ?_
    rintro e w2 ⟨⟨a2, n2, cap2, rfl, hn2, R2⟩, hB2⟩
    have R2b := R2.block
    have hs1 := hB1.size
    have hs2 := hB2.size
    have hE1 := E1.lt
    have RE2 := RE.below hB2
    replace hB2 := chain hB1 hB2
    have hlen : Hid ((sumC p.rf p.lt).length = n2) := R2.sl.len
    clear d0 d1 d2 d3 d4 d5 C1 hB1 RE E1
    generalize hL : sumC p.rf p.lt = L at *
    replace hL : Hid (sumC p.rf p.lt = L) := hL
    go_wp2_with fail
    go_loopw [5, 7] (fun out ix wr => ∃ (i : Nat) (a3 : Option Addr) (n3 cap3 : Nat), i ≤ n2 ∧ ix = .int .i64 i ∧ out = .slice a3 n3 cap3 ∧ n3 ≤ i ∧ ResAt Ct.cs 4 38 wr w.heap.size a3 n3 cap3 ((L.take i).filter (fun c => c.o.a == addr)) ∧ (∀ ad, a3 = some ad → ad.block < w1.heap.size ∨ w2.heap.size ≤ ad.block) ∧ CtsAt wr a2 n2 L ∧ w2.heap.size ≤ wr.heap.size ∧ Below w.heap.size w wr) (fun _ ix _ => n2 - (intOf ix).toNat)
    case atStart => exact ⟨0, _, 0, 0, Nat.zero_le _, rfl, rfl, Nat.le_refl _, RE2, fun ad had => (by cases had; exact .inl hE1), R2.sl, Nat.le_refl _, hB2⟩
    case round =>
      obtain ⟨i, a3, n3, cap3, hi, rfl, rfl, hn3, R3, hap, S, hws, hB⟩ := hrel
      by_cases hlt : i < n2
      · obtain ⟨b, o, c, rfl, hc, c0, c1, c2, c3⟩ := cts_at S hlt
        have hft := filter_take (f := fun c => c.o.a == addr) hc
        have hj1 : (i : Int) < n2 := by omega
        have hj2 : (0 : Int) ≤ i := by omega
        have hbT := R2b _ rfl
        clear hc
        cases he : (c.o.a == addr)
        · rw [he] at hft
          simp only [Bool.false_eq_true, if_false, List.append_nil] at hft
          rw [← hft] at R3
          clear hft
          go_wp2
          go_roundw
          case rel => exact ⟨i + 1, a3, n3, cap3, by omega, by go_num, rfl, by omega, R3, hap, S, hws, hB⟩
          case measure => simp [intOf]; omega
        · rw [he] at hft
          simp only [if_true] at hft
          go_wp2_with (at_builtin; refine wpList_app rfl (fun K hK => wp_app1 _ _ 26 rfl w.heap.size 38 i0 (.agg #[.int .i64 0, .int .i64 0, .string .empty, .int .i64 0]) 40 Tryz.underlying26 hi0 hz0 hz1 hz2 rfl (by decide) ccs_len ccs_one a3 n3 cap3 _ rfl (R3.alloc _) _ _ [c] rfl (sl_newC _ c _ _ (by first | rfl | simp)) (by unfold maxLen; omega) (by omega) (by have := hB.size; simp; omega) (fun a4 cap4 w4 R4 hg4 hfr4 => hK _ _ ?_)))
          rw [← hft] at R4
          have hs0 := hB.size
          have hB4 : Below w.heap.size w w4 := Below.grown (by go_grown) hg4 (by simp; omega) (own_ge fun ad had => by have := (R3.block ad had).1; omega)
          have S4 : CtsAt w4 (some ⟨b, o, none⟩) n2 L := (S.alloc (.cells #[.int .i64 c.o.a, .int .i64 c.o.v, .string c.o.f, .int .i64 c.n] 38)).grownO hg4 (fun ad had => by
            cases had
            intro e
            cases ha3 : a3 with
            | none => rw [ha3] at e; simp [Value.ownBlock] at e
            | some ad3 =>
              rw [ha3] at e
              have e' : b = ad3.block := by simpa [Value.ownBlock] using e
              have hbT' : w1.heap.size ≤ b ∧ b < w2.heap.size := hbT
              have := hap ad3 ha3
              omega)
          have hs4 : w2.heap.size ≤ w4.heap.size := Nat.le_trans (by simp; omega) hg4.size
          have hap4 : ∀ ad, a4 = some ad → ad.block < w1.heap.size ∨ w2.heap.size ≤ ad.block := fun ad had => by
            rcases hfr4 ad had with ⟨ad', h1, h2⟩ | h1
            · have := hap ad' h1; omega
            · simp at h1; omega
          go_roundw
          case rel => exact ⟨i + 1, a4, n3 + 1, cap4, by omega, by go_num, rfl, by omega, R4, hap4, S4, hs4, hB4⟩
          case measure => simp [intOf]; omega
      · obtain rfl : i = n2 := by omega
        rw [List.take_of_length_le (Nat.le_of_eq hlen.out)] at R3
        go_wp2
        go_returns
        exact ⟨⟨a3, n3, cap3, rfl, by omega, by rw [hL.out]; exact R3⟩, hB⟩
end Go.Proofs.YtnjefbkhibfgmaaGreat
namespace Go.Proofs.YtnjefbkhibfgmaaGreat
open Go.RowKit Go.BigFrame
open Go.Maps (Keyed)
theorem own_look {P : Program} {w : World} {t k e : TypeId} {R : Value → Option (DataW Unit × List MemPlace)} {b n : Nat} {D : DataW Unit} (h : w.ownsMap P k R b n D) (K : Keyed P k) (ht : P.underlying t = some (.map k e)) {z : Value} (hz : (zeroValue e).run P w = .ok z w) {key : Value} {kl : Lit} (hkey : keyOf P k key = some kl) :
    ((Instr.lookup t (.map (some b)) key false).run P w = .ok z w ∧ Maps.has D kl = false) ∨ ∃ v y, (Instr.lookup t (.map (some b)) key false).run P w = .ok v w ∧ R v = some y ∧ Maps.has D kl = true ∧ ∀ zd, D.atKey kl zd = y.1 := by
  obtain ⟨es, clock, hb, F, _, rfl⟩ := h
  rcases Maps.fit_look false K ht hz hb F hkey with ⟨hrun, _, hat⟩ | ⟨e0, y, _, _, hrun, hRv, hat, _⟩
  · exact .inl ⟨hrun, Maps.has_false_of_atKey hat⟩
  · exact .inr ⟨e0.val, y, hrun, hRv, Maps.has_true_of_atKey hat, hat⟩
theorem volI_of {vs : List Vo} (hn : (vs.map (·.nm.toList)).Nodup) {i : Nat} {v : Vo} (h : vs[i]? = some v) : volI vs v.nm = some i := by
  unfold volI
  obtain ⟨hi, rfl⟩ := List.getElem?_eq_some_iff.1 h
  rw [List.findIdx?_eq_some_iff_getElem]
  refine ⟨hi, by simp, fun j hj => ?_⟩
  unfold List.Nodup at hn
  rw [List.pairwise_map, List.pairwise_iff_getElem] at hn
  have := hn j i (by omega) hi hj
  simpa using this
theorem volI_none {vs : List Vo} {s : ByteArray} (h : vs.any (fun v => v.nm.data.toList == s.data.toList) = false) : volI vs s = none := by
  unfold volI
  rw [List.findIdx?_eq_none_iff]
  intro v hv
  rw [List.any_eq_false] at h
  have := h v hv
  rw [ByteArray.toList_eq, ByteArray.toList_eq]
  simpa using this
structure VoAt (B : Nat) (w : World) (b o : Nat) (x : Vo) : Prop where
  id : w.cell? ⟨b, o, none⟩ = some (.int .i64 x.id)
  nm : w.cell? ⟨b, o + 1, none⟩ = some (.string x.nm)
  its : ∃ qa qn qc, w.cell? ⟨b, o + 3, none⟩ = some (.slice qa qn qc) ∧ ItsAt B w qa qn x.its ∧ Hd B qa qn qc
theorem VoAt.below {B : Nat} {w w' : World} {b o : Nat} {x : Vo} (h : VoAt B w b o x) (hb : Below w.heap.size w w') : VoAt B w' b o x := by
  obtain ⟨h1, h2, qa, qn, qc, h3, h4, h5⟩ := h
  exact ⟨bcell hb h1, bcell hb h2, qa, qn, qc, bcell hb h3, h4.below hb, h5⟩
def RetVo (B : Nat) (e : Ending) (w' : World) (p : Po) (vol : ByteArray) : Prop :=
  (e = .returned (.pointer none) ∧ (poolB p = false ∨ volI p.vs vol = none)) ∨ ∃ i x b o, e = .returned (.pointer (some ⟨b, o, none⟩)) ∧ poolB p = true ∧ volI p.vs vol = some i ∧ p.vs[i]? = some x ∧ VoAt B w' b o x
set_option maxHeartbeats 2000000 in
set_option maxRecDepth 100000 in
theorem impl_askedVolume (B : Nat) (v : Value) (p : Po) (vol : ByteArray) (w : World) (h : PoolAt B w v p) (hd : DimP p) (hvol : vol.size ≤ 1048576) :
    Calls Tryz.prog 57 #[v, .string vol] w fun e w' => RetVo B e w' p vol ∧ Below w.heap.size w w' := by
  have hz0 : ∀ u : World, (zeroValue 88).run Tryz.prog u = .ok (.pointer none) u := fun u => by kernel_rfl
  obtain ⟨ea, en, ec, va, vn, vc, ra, rn, rc, la, ln, lc, rfl, hrest⟩ := h
  have h : PoolAt B w (.agg #[.int .i64 p.size, .int .i64 p.next, .slice ea en ec, .slice va vn vc, .slice ra rn rc, .slice la ln lc]) p := ⟨ea, en, ec, va, vn, vc, ra, rn, rc, la, ln, lc, rfl, hrest⟩
  have h2 := hrest.2.1.1
  have z3 := hd.2.2.1
  have z4 := hd.2.2.2.1
  rw [h2.len] at z3
  clear hrest
  obtain ⟨pb, po, hpb⟩ : ∃ pb po, 0 < vn → va = some ⟨pb, po, none⟩ := by
    by_cases h0 : 0 < vn
    · obtain ⟨b, o, _, _, _, _, hv, _⟩ := vs_at h2 h0
      exact ⟨b, o, fun _ => hv⟩
    · exact ⟨0, 0, fun h => absurd h h0⟩
  have C := (Blk.new w #[.int .i64 p.size, .int .i64 p.next, .slice ea en ec, .slice va vn vc, .slice ra rn rc, .slice la ln lc] 28)
  have hBw : Below w.heap.size w (w.alloc (.cells #[.int .i64 p.size, .int .i64 p.next, .slice ea en ec, .slice va vn vc, .slice ra rn rc, .slice la ln lc] 28)) := by go_grown
  go_enter Tryz.func57, Tryz.ntmps57
  go_wp2_with fail
  generalize w.alloc (.cells #[.int .i64 p.size, .int .i64 p.next, .slice ea en ec, .slice va vn vc, .slice ra rn rc, .slice la ln lc] 28) = W0 at *
  refine (impl_PoolOk B _ p _ (h.below hBw) hd).mono ?_
  rintro e w1 ⟨rfl, hB1⟩
  have C1 := C.below hB1
  replace hB1 := chain hBw hB1
  clear C hBw
  obtain ⟨d0, d1, d2, d3, d4, d5⟩ : w1.cell? ⟨w.heap.size, 0, none⟩ = some (.int .i64 p.size) ∧ w1.cell? ⟨w.heap.size, 1, none⟩ = some (.int .i64 p.next) ∧ w1.cell? ⟨w.heap.size, 2, none⟩ = some (.slice ea en ec) ∧ w1.cell? ⟨w.heap.size, 3, none⟩ = some (.slice va vn vc) ∧ w1.cell? ⟨w.heap.size, 4, none⟩ = some (.slice ra rn rc) ∧ w1.cell? ⟨w.heap.size, 5, none⟩ = some (.slice la ln lc) := ⟨C1.cell 0, C1.cell 1, C1.cell 2, C1.cell 3, C1.cell 4, C1.cell 5⟩
  have hRt : ∀ pk, poolB p = pk → Hid (poolB p = pk) := fun _ h => h
  cases hpk : poolB p
  · have hpk' := hRt _ hpk
    clear hpk
    go_wp2
    go_returns
    exact ⟨.inl ⟨rfl, .inl hpk'.out⟩, hB1⟩
  · have hpk' := hRt _ hpk
    have hnd := (poolB_vs hpk).2.2.2.2
    clear hpk
    go_wp2_with fail
    refine (impl_volumesOf B p.size p.next ea en ec va vn vc ra rn rc la ln lc p.vs pb po hpb _ (h2.below hB1) z3 z4).mono ?_
    rintro e w2 ⟨⟨mb, D, rfl, hmb, hO, hV⟩, hB2⟩
    replace hB2 := chain hB1 hB2
    rcases own_look hO keyed9 Tryz.underlying64 (hz0 w2) (key9 (s := vol) (by unfold maxLen; omega)) with ⟨hrun, hno⟩ | ⟨val, y, hrun, hRv, hyes, hat⟩
    · rw [hV.has] at hno
      have hvi := volI_none hno
      clear hno
      go_wp2
      go_returns
      exact ⟨.inl ⟨rfl, .inr hvi⟩, hB2⟩
    · obtain ⟨o, rfl, hy⟩ := ptrElem_inv hRv
      obtain ⟨i, x, hi, rfl, rfl⟩ := vm_which hV hnd hyes hRv hat
      have hvi := volI_of hnd hi
      have hiv : i < vn := by rw [← h2.len]; exact (List.getElem?_eq_some_iff.1 hi).1
      obtain ⟨b', o', x', qa, qn, qc, hvo, hx, e0, e1, e2, e3, hP, hH, _⟩ := vs_at (h2.below hB2) hiv
      obtain ⟨rfl, rfl⟩ : b' = pb ∧ o' = po := by have := hpb (by omega); rw [hvo] at this; simpa using this
      obtain rfl : x = x' := by rw [hi] at hx; exact Option.some.inj hx
      clear hat hyes hRv hx
      go_wp2
      go_returns
      exact ⟨.inr ⟨i, x, b', o' + i * 4, rfl, hpk'.out, hvi, hi, ⟨e0, e1, qa, qn, qc, e3, hP, hH⟩⟩, hB2⟩
end Go.Proofs.YtnjefbkhibfgmaaGreat
namespace Go.Proofs.YtnjefbkhibfgmaaGreat
open Go.RowKit Go.BigFrame
def mineB (id a : Int) (W : List Ct) : Bool := W.any (fun c => c.o.a == a && c.o.v == id) && !(W.any (fun c => c.o.a == a && !(c.o.v == id)))
def onlyS (id : Int) (W : List Ct) : List Ex → Int
  | [] => 0
  | x :: r => (if mineB id x.a W = true then (x.d.size : Int) else 0) + onlyS id W r
def dataS (ex : List Ex) (a : Int) : Int := match ex.find? (fun x => x.a == a) with | none => 0 | some x => x.d.size
def onlyW (id : Int) (ex : List Ex) : Nat → List Ct → Int
  | 0, _ => 0
  | _, [] => 0
  | f + 1, c :: r => (if (c :: r.takeWhile (fun d => d.o.a == c.o.a)).any (fun d => !(d.o.v == id)) = true then 0 else dataS ex c.o.a) + onlyW id ex f (r.dropWhile (fun d => d.o.a == c.o.a))
def AddrUp (l : List Ct) : Prop := l.Pairwise (fun x y => x.o.a ≤ y.o.a)
theorem rising_up {l : List Ct} (h : Rising l) : AddrUp l := (show l.Pairwise (fun x y => owLt x.o y.o = true) from h).imp (fun {x y} hxy => by
  unfold owLt at hxy
  split at hxy
  · have := of_decide_eq_true hxy; omega
  · rename_i h0
    have : x.o.a = y.o.a := Classical.byContradiction h0
    omega)
theorem mineB_nil (id a : Int) : mineB id a [] = false := rfl
theorem onlyS_nil (id : Int) : ∀ ex : List Ex, onlyS id [] ex = 0
  | [] => rfl
  | x :: r => by simp [onlyS, mineB_nil, onlyS_nil id r]
theorem onlyS_same {id a0 : Int} {W R : List Ct} (h1 : ∀ a, a ≠ a0 → mineB id a W = mineB id a R) : ∀ {E : List Ex}, (∀ x ∈ E, x.a ≠ a0) → onlyS id W E = onlyS id R E
  | [], _ => rfl
  | x :: r, h => by
    simp only [onlyS]
    rw [h1 x.a (h x (by simp)), onlyS_same h1 (fun y hy => h y (by simp [hy]))]
theorem onlyS_split {id a0 : Int} {W R : List Ct} {o : Bool} (h1 : ∀ a, a ≠ a0 → mineB id a W = mineB id a R) (h2 : mineB id a0 W = !o) (h3 : mineB id a0 R = false) : ∀ {E : List Ex}, (E.map (·.a)).Nodup → onlyS id W E = (if o = true then 0 else dataS E a0) + onlyS id R E
  | [], _ => by cases o <;> rfl
  | x :: r, hn => by
    rw [List.map_cons, List.nodup_cons] at hn
    obtain ⟨n1, n2⟩ := hn
    by_cases e : x.a = a0
    · have hr : ∀ y ∈ r, y.a ≠ a0 := fun y hy e2 => n1 (by rw [e, ← e2]; exact List.mem_map.2 ⟨y, hy, rfl⟩)
      have hd : dataS (x :: r) a0 = x.d.size := by simp [dataS, e]
      simp only [onlyS]
      rw [e, h2, h3, onlyS_same h1 hr, hd]
      cases o <;> simp
    · have hd : dataS (x :: r) a0 = dataS r a0 := by simp [dataS, e]
      simp only [onlyS]
      rw [h1 x.a e, hd, onlyS_split h1 h2 h3 n2]
      omega
theorem up_rest {c : Ct} : ∀ {r : List Ct}, AddrUp (c :: r) → ∀ d ∈ r.dropWhile (fun d => d.o.a == c.o.a), d.o.a ≠ c.o.a
  | [], _, d, hd => by simp at hd
  | x :: r, h, d, hd => by
    have hx := List.pairwise_cons.1 h
    have hr := List.pairwise_cons.1 hx.2
    rw [List.dropWhile_cons] at hd
    split at hd
    · exact up_rest (List.pairwise_cons.2 ⟨fun y hy => hx.1 y (by simp [hy]), hr.2⟩) d hd
    · rename_i hne
      have h1 : x.o.a ≠ c.o.a := by simpa using hne
      have h2 := hx.1 x (by simp)
      rcases List.mem_cons.1 hd with rfl | hd
      · exact h1
      · have := hr.1 d hd
        omega
theorem mem_group {a : Int} : ∀ {r : List Ct} {d : Ct}, d ∈ r.takeWhile (fun d => d.o.a == a) → d.o.a = a
  | [], _, h => by simp at h
  | x :: r, d, h => by
    rw [List.takeWhile_cons] at h
    split at h
    · rename_i hx
      rcases List.mem_cons.1 h with rfl | h
      · simpa using hx
      · exact mem_group h
    · simp at h
theorem only_eq (id : Int) (ex : List Ex) (hn : (ex.map (·.a)).Nodup) : ∀ (f : Nat) (W : List Ct), W.length ≤ f → AddrUp W → onlyW id ex f W = onlyS id W ex
  | 0, W, h, _ => by
    obtain rfl : W = [] := List.eq_nil_of_length_eq_zero (by omega)
    rw [onlyS_nil]; rfl
  | f + 1, [], _, _ => by rw [onlyS_nil]; rfl
  | f + 1, c :: r, h, hup => by
    have hsub := List.dropWhile_sublist (l := r) (fun d : Ct => d.o.a == c.o.a)
    have hlen := hsub.length_le
    simp only [List.length_cons] at h
    have ih := only_eq id ex hn f (r.dropWhile (fun d => d.o.a == c.o.a)) (by omega) ((List.pairwise_cons.1 hup).2.sublist hsub)
    have hne := up_rest hup
    have hg : ∀ d ∈ c :: r.takeWhile (fun d => d.o.a == c.o.a), d.o.a = c.o.a := fun d hd => by
      rcases List.mem_cons.1 hd with rfl | hd
      · rfl
      · exact mem_group hd
    have hW : c :: r = (c :: r.takeWhile (fun d => d.o.a == c.o.a)) ++ r.dropWhile (fun d => d.o.a == c.o.a) := by
      rw [List.cons_append, List.takeWhile_append_dropWhile]
    unfold onlyW
    rw [ih]
    generalize hGG : c :: r.takeWhile (fun d => d.o.a == c.o.a) = G at *
    generalize r.dropWhile (fun d => d.o.a == c.o.a) = D at *
    have hcG : c ∈ G := by rw [← hGG]; simp
    rw [hW]
    symm
    refine onlyS_split (a0 := c.o.a) (fun a ha => ?_) ?_ ?_ hn
    · unfold mineB
      have e1 : ∀ q : Ct → Bool, G.any (fun d => d.o.a == a && q d) = false := fun q => by
        rw [List.any_eq_false]
        intro d hd
        have := hg d hd
        simp
        omega
      rw [List.any_append, List.any_append, e1, e1, Bool.false_or, Bool.false_or]
    · unfold mineB
      have e1 : ∀ q : Ct → Bool, D.any (fun d => d.o.a == c.o.a && q d) = false := fun q => by
        rw [List.any_eq_false]
        intro d hd
        have := hne d hd
        simp [this]
      have e2 : ∀ q : Ct → Bool, G.any (fun d => d.o.a == c.o.a && q d) = G.any q := fun q => by
        rw [Bool.eq_iff_iff, List.any_eq_true, List.any_eq_true]
        constructor
        · rintro ⟨d, hd, h⟩; simp at h; exact ⟨d, hd, h.2⟩
        · rintro ⟨d, hd, h⟩; exact ⟨d, hd, by simp [hg d hd, h]⟩
      rw [List.any_append, List.any_append, e1, e1, Bool.or_false, Bool.or_false, e2, e2]
      cases ho : G.any (fun d => !(d.o.v == id))
      · rw [List.any_eq_false] at ho
        have h1 := ho c hcG
        have h2 : G.any (fun d => d.o.v == id) = true := List.any_eq_true.2 ⟨c, hcG, by simpa using h1⟩
        rw [h2]; rfl
      · simp
    · unfold mineB
      have e1 : ∀ q : Ct → Bool, D.any (fun d => d.o.a == c.o.a && q d) = false := fun q => by
        rw [List.any_eq_false]
        intro d hd
        have := hne d hd
        simp [this]
      rw [e1]; rfl
def onlyO (p : Po) (vol : ByteArray) : Int × Bool := if poolB p = true then (match (volI p.vs vol).bind fun i => p.vs[i]? with | none => (0, false) | some v => (onlyS v.id (walkL p.vs) p.ex, true)) else (0, false)
end Go.Proofs.YtnjefbkhibfgmaaGreat
