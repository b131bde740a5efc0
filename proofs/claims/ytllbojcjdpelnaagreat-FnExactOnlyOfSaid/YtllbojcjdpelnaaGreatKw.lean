/- OwnersOf of both. Lists of texts: compared, marked, held; FilesOf of both. -/
import Derived.Test.YtllbojcjdpelnaaGreatKv
import Derived.Test.YtllbojcjdpelnaaGreatKg
import Derived.Test.YtllbojcjdpelnaaGreatKu
import Derived.Test.YtllbojcjdpelnaaGreatMz
namespace Go.Proofs.YtllbojcjdpelnaaGreat
open Go.RowKit Go.BigFrame

/-- The owners of an extent. -/
def ownersL (p : Po) (addr : Int) : List Ct := if poolB p = true then (sumC p.rf p.lt).filter (fun c => c.o.a == addr) else []

theorem poolB_fl {p : Po} (h : poolB p = true) : flushedO p.rf p.lt = some (sumC p.rf p.lt) ∧ refsOkB p.rf = true ∧ lateOkB p.lt = true := by
  simp only [poolB, Bool.and_eq_true] at h
  have h1 := h.1.2
  unfold flushedO at h1 ⊢
  split at h1
  · rename_i hh
    split at hh
    · split at hh <;> cases h1
    · cases h1
  · rename_i s hh
    split at hh
    · rename_i h2
      split at hh
      · rename_i h3
        rw [if_pos h2, if_pos h3]
        exact ⟨rfl, h2⟩
      · cases hh
    · cases hh
theorem filter_take {l : List Ct} {i : Nat} {c : Ct} {f : Ct → Bool} (h : l[i]? = some c) : (l.take (i + 1)).filter f = (l.take i).filter f ++ (if f c = true then [c] else []) := by
  rw [take_at h, List.filter_append]
  congr 1
  cases hf : f c <;> simp [hf]

set_option maxHeartbeats 2000000 in
set_option maxRecDepth 100000 in
theorem impl_OwnersOf (B : Nat) (v : Value) (p : Po) (addr : Int) (w : World) (h : PoolAt B w v p) (hd : DimP p) :
    Calls Tryz.prog 31 #[v, .int .i64 addr] w fun e w' => (∃ a n cap, e = .returned (.slice a n cap) ∧ n ≤ 480 ∧ ResAt Ct.cs 4 70 w' w.heap.size a n cap (ownersL p addr)) ∧ Below w.heap.size w w' := by
  obtain ⟨ea, en, ec, va, vn, vc, ra, rn, rc, la, ln, lc, rfl, hrest⟩ := h
  have h : PoolAt B w (.agg #[.int .i64 p.size, .int .i64 p.next, .slice ea en ec, .slice va vn vc, .slice ra rn rc, .slice la ln lc]) p := ⟨ea, en, ec, va, vn, vc, ra, rn, rc, la, ln, lc, rfl, hrest⟩
  have h3 := hrest.2.2.1.1
  have h4 := hrest.2.2.2.1
  obtain ⟨z1, z2, z3, z4, z5, z6, z7, z8⟩ := id hd
  rw [h3.len] at z5
  rw [h4.len] at z7
  clear hrest z1 z2 z3 z4
  obtain ⟨i0, hi0, hz0, hz1, hz2⟩ := info_parts infoC
  have C := (Blk.new w #[.int .i64 p.size, .int .i64 p.next, .slice ea en ec, .slice va vn vc, .slice ra rn rc, .slice la ln lc] 33)
  have hBw : Below w.heap.size w (w.alloc (.cells #[.int .i64 p.size, .int .i64 p.next, .slice ea en ec, .slice va vn vc, .slice ra rn rc, .slice la ln lc] 33)) := by go_grown
  have hT : Hid (poolB p = true → ownersL p addr = (sumC p.rf p.lt).filter (fun c => c.o.a == addr)) := fun e => by simp [ownersL, e]
  have hF : Hid (poolB p = false → ownersL p addr = []) := fun e => by simp [ownersL, e]
  have hfl := fun e : poolB p = true => poolB_fl e
  generalize ownersL p addr = R at *
  go_enter Tryz.func31, Tryz.ntmps31
  go_wp2_with fail
  generalize w.alloc (.cells #[.int .i64 p.size, .int .i64 p.next, .slice ea en ec, .slice va vn vc, .slice ra rn rc, .slice la ln lc] 33) = W0 at *
  refine (impl_PoolOk B _ p _ (h.below hBw) hd).mono ?_
  rintro e w1 ⟨rfl, hB1⟩
  have C1 := C.below hB1
  replace hB1 := chain hBw hB1
  clear C hBw
  cases hpk : poolB p
  · have hR := hF.out hpk
    subst hR
    clear hpk hT hF hfl
    go_wp2
    go_returns
    exact ⟨⟨none, 0, 0, rfl, by omega, res_nil⟩, hB1⟩
  · have hR := hT.out hpk
    subst hR
    obtain ⟨q1, _, _⟩ := hfl hpk
    clear hpk hT hF hfl
    obtain ⟨d0, d1, d2, d3, d4, d5⟩ := C1.six
    go_wp2_with fail
    refine (impl_Flushed ra rn rc p.rf la ln lc p.lt _ (h3.below hB1) (h4.below hB1) z6 z8 z5 z7).mono ?_
    rintro e w2 ⟨hret, hB2⟩
    rw [q1] at hret
    obtain ⟨a2, n2, cap2, rfl, hn2, R2⟩ := hret
    have R2b := R2.block
    have hs1 := hB1.size
    have hs2 := hB2.size
    replace hB2 := chain hB1 hB2
    have hlen : Hid ((sumC p.rf p.lt).length = n2) := R2.sl.len
    clear d0 d1 d2 d3 d4 d5 C1 hB1 q1
    generalize hL : sumC p.rf p.lt = L at *
    replace hL : Hid (sumC p.rf p.lt = L) := hL
    go_wp2_with fail
    go_loopw [7, 23] (fun out ix wr => ∃ (i : Nat) (a3 : Option Addr) (n3 cap3 : Nat), i ≤ n2 ∧ ix = .int .i64 i ∧ out = .slice a3 n3 cap3 ∧ n3 ≤ i ∧ ResAt Ct.cs 4 70 wr w2.heap.size a3 n3 cap3 ((L.take i).filter (fun c => c.o.a == addr)) ∧ CtsAt wr a2 n2 L ∧ w2.heap.size ≤ wr.heap.size ∧ Below w.heap.size w wr) (fun _ ix _ => n2 - (intOf ix).toNat)
    case atStart => exact ⟨0, none, 0, 0, Nat.zero_le _, rfl, rfl, Nat.le_refl _, res_nil, R2.sl, Nat.le_refl _, hB2⟩
    case round =>
      obtain ⟨i, a3, n3, cap3, hi, rfl, rfl, hn3, R3, S, hws, hB⟩ := hrel
      by_cases hlt : i < n2
      · obtain ⟨b, o, c, rfl, hc, c0, c1, c2, c3⟩ := cts_at S hlt
        have hft := filter_take (f := fun c => c.o.a == addr) hc
        have hj1 : (i : Int) < n2 := by omega
        have hj2 : (0 : Int) ≤ i := by omega
        have hbT := (R2b _ rfl).2
        clear hc
        cases he : (c.o.a == addr)
        · rw [he] at hft
          simp only [Bool.false_eq_true, if_false, List.append_nil] at hft
          have R4 := R3.alloc (.cells #[.int .i64 c.o.a, .int .i64 c.o.v, .string c.o.f, .int .i64 c.n] 70)
          have S4 := S.alloc (.cells #[.int .i64 c.o.a, .int .i64 c.o.v, .string c.o.f, .int .i64 c.n] 70)
          rw [← hft] at R4
          clear hft
          go_wp2
          go_roundw
          case rel => exact ⟨i + 1, a3, n3, cap3, by omega, by go_num, rfl, by omega, R4, S4, by simp; omega, hB.alloc hB.size _⟩
          case measure => simp [intOf]; omega
        · rw [he] at hft
          simp only [if_true] at hft
          go_wp2_with (at_builtin; refine wpList_app rfl (fun K hK => wp_app _ _ 28 rfl w2.heap.size 70 i0 (.agg #[.int .i64 0, .int .i64 0, .string .empty, .int .i64 0]) 40 Tryz.underlying28 hi0 hz0 hz1 hz2 rfl (by decide) ccs_len ccs_one a3 n3 cap3 _ rfl ((R3.alloc _).alloc _) _ 1 1 [c] rfl (sl_newC _ c _ _ (by simp)) (fun ad h => (by cases h; rfl)) (fun h => (by cases h)) (n3 + 1) rfl (by unfold maxLen; omega) (by omega) (by simp; omega) (fun a4 cap4 w4 R4 hg4 => hK _ _ ?_)))
          rw [← hft] at R4
          have hB4 : Below w.heap.size w w4 := Below.grown (by go_grown) hg4 (by have := hB.size; simp; omega) (own_ge fun ad had => by have := (R3.block ad had).1; omega)
          have S4 : CtsAt w4 (some ⟨b, o, none⟩) n2 L := ((S.alloc (.cells #[.int .i64 c.o.a, .int .i64 c.o.v, .string c.o.f, .int .i64 c.n] 70)).alloc (.cells #[.int .i64 c.o.a, .int .i64 c.o.v, .string c.o.f, .int .i64 c.n] 70)).grownO hg4 (fun ad had => by cases had; exact own_ne fun ad had => by have := (R3.block ad had).1; omega)
          have hs4 : w2.heap.size ≤ w4.heap.size := Nat.le_trans (by simp; omega) hg4.size
          go_roundw
          case rel => exact ⟨i + 1, a4, n3 + 1, cap4, by omega, by go_num, rfl, by omega, R4, S4, hs4, hB4⟩
          case measure => simp [intOf]; omega
      · obtain rfl : i = n2 := by omega
        rw [List.take_of_length_le (Nat.le_of_eq hlen.out)] at R3
        go_wp2
        go_returns
        exact ⟨⟨a3, n3, cap3, rfl, by omega, by rw [hL.out]; exact R3.mono (by omega)⟩, hB⟩

set_option maxHeartbeats 2000000 in
set_option maxRecDepth 100000 in
theorem spec_OwnersOf (B : Nat) (hB0 : 0 < B) (v : Value) (p : Po) (addr : Int) (w : World) (h : PoolAt B w v p) (hd : DimP p) :
    Calls Tryz.prog 30 #[v, .int .i64 addr] w fun e w' => (∃ a n cap, e = .returned (.slice a n cap) ∧ n ≤ 480 ∧ ResAt Ct.cs 4 70 w' w.heap.size a n cap (ownersL p addr)) ∧ Below w.heap.size w w' := by
  obtain ⟨ea, en, ec, va, vn, vc, ra, rn, rc, la, ln, lc, rfl, hrest⟩ := h
  have h : PoolAt B w (.agg #[.int .i64 p.size, .int .i64 p.next, .slice ea en ec, .slice va vn vc, .slice ra rn rc, .slice la ln lc]) p := ⟨ea, en, ec, va, vn, vc, ra, rn, rc, la, ln, lc, rfl, hrest⟩
  have h3 := hrest.2.2.1.1
  have k3 := hrest.2.2.1.2.1
  have h4 := hrest.2.2.2.1
  have n3 : Hid (p.rf.length = rn) := h3.len
  have n4 : Hid (p.lt.length = ln) := h4.len
  clear hrest
  obtain ⟨i0, hi0, hz0, hz1, hz2⟩ := info_parts infoC
  have C := ((Blk.new w #[.int .i64 p.size, .int .i64 p.next, .slice ea en ec, .slice va vn vc, .slice ra rn rc, .slice la ln lc] 33).alloc (.cells #[] 70))
  have E := Blk.new' (w.alloc (.cells #[.int .i64 p.size, .int .i64 p.next, .slice ea en ec, .slice va vn vc, .slice ra rn rc, .slice la ln lc] 33)) #[] 70 (w.heap.size + 1) (by simp)
  have hBw : Below w.heap.size w ((w.alloc (.cells #[.int .i64 p.size, .int .i64 p.next, .slice ea en ec, .slice va vn vc, .slice ra rn rc, .slice la ln lc] 33)).alloc (.cells #[] 70)) := by go_grown
  have hT : Hid (poolB p = true → ownersL p addr = (sumC p.rf p.lt).filter (fun c => c.o.a == addr)) := fun e => by simp [ownersL, e]
  have hF : Hid (poolB p = false → ownersL p addr = []) := fun e => by simp [ownersL, e]
  have hfl := fun e : poolB p = true => poolB_fl e
  generalize ownersL p addr = R at *
  go_enter Tryz.func30, Tryz.ntmps30
  go_wp2_with fail
  generalize (w.alloc (.cells #[.int .i64 p.size, .int .i64 p.next, .slice ea en ec, .slice va vn vc, .slice ra rn rc, .slice la ln lc] 33)).alloc (.cells #[] 70) = W0 at *
  refine (spec_PoolOk B hB0 _ p _ (h.below hBw) hd).mono ?_
  rintro e w1 ⟨rfl, hB1⟩
  have C1 := C.below hB1
  have E1 := E.below hB1
  replace hB1 := chain hBw hB1
  clear C hBw E
  have RE : ResAt Ct.cs 4 70 w1 w.heap.size (some ⟨w.heap.size + 1, 0, none⟩) 0 0 ([] : List Ct) := res_empty E1 (by omega)
  cases hpk : poolB p
  · have hR := hF.out hpk
    subst hR
    clear hpk hT hF hfl
    go_wp2
    go_returns
    exact ⟨⟨_, 0, 0, rfl, by omega, RE⟩, hB1⟩
  · have hR := hT.out hpk
    subst hR
    obtain ⟨_, q2, q3⟩ := hfl hpk
    obtain ⟨q4, q5⟩ := refs_bound q2
    obtain ⟨q6, q7⟩ := late_bound q3
    rw [n3.out] at q4
    rw [n4.out] at q6
    clear hpk hT hF hfl q2 q3
    obtain ⟨d0, d1, d2, d3, d4, d5⟩ : w1.cell? ⟨w.heap.size, 0, none⟩ = some (.int .i64 p.size) ∧ w1.cell? ⟨w.heap.size, 1, none⟩ = some (.int .i64 p.next) ∧ w1.cell? ⟨w.heap.size, 2, none⟩ = some (.slice ea en ec) ∧ w1.cell? ⟨w.heap.size, 3, none⟩ = some (.slice va vn vc) ∧ w1.cell? ⟨w.heap.size, 4, none⟩ = some (.slice ra rn rc) ∧ w1.cell? ⟨w.heap.size, 5, none⟩ = some (.slice la ln lc) := C1.six
    go_wp2_with fail
    refine (spec_l3Sum ra rn rc p.rf la ln lc p.lt _ (h3.below hB1) (k3.2.2 hB0).2 (k3.2.2 hB0).1 (h4.below hB1) q4 q6 (fun x hx => by have := q5 x hx; omega) (fun x hx => by have := q7 x hx; omega)).mono ?_
    rintro e w2 ⟨⟨a2, n2, cap2, rfl, hn2, R2⟩, hB2⟩
    have R2b := R2.block
    have hs1 := hB1.size
    have hs2 := hB2.size
    have hE1 := E1.lt
    have RE2 := RE.below hB2
    replace hB2 := chain hB1 hB2
    have hlen : Hid ((sumC p.rf p.lt).length = n2) := R2.sl.len
    clear d0 d1 d2 d3 d4 d5 C1 hB1 RE E1
    generalize hL : sumC p.rf p.lt = L at *
    replace hL : Hid (sumC p.rf p.lt = L) := hL
    go_wp2_with fail
    go_loopw [5, 7] (fun out ix wr => ∃ (i : Nat) (a3 : Option Addr) (n3 cap3 : Nat), i ≤ n2 ∧ ix = .int .i64 i ∧ out = .slice a3 n3 cap3 ∧ n3 ≤ i ∧ ResAt Ct.cs 4 70 wr w.heap.size a3 n3 cap3 ((L.take i).filter (fun c => c.o.a == addr)) ∧ (∀ ad, a3 = some ad → ad.block < w1.heap.size ∨ w2.heap.size ≤ ad.block) ∧ CtsAt wr a2 n2 L ∧ w2.heap.size ≤ wr.heap.size ∧ Below w.heap.size w wr) (fun _ ix _ => n2 - (intOf ix).toNat)
    case atStart => exact ⟨0, _, 0, 0, Nat.zero_le _, rfl, rfl, Nat.le_refl _, RE2, fun ad had => (by cases had; exact .inl hE1), R2.sl, Nat.le_refl _, hB2⟩
    case round =>
      obtain ⟨i, a3, n3, cap3, hi, rfl, rfl, hn3, R3, hap, S, hws, hB⟩ := hrel
      by_cases hlt : i < n2
      · obtain ⟨b, o, c, rfl, hc, c0, c1, c2, c3⟩ := cts_at S hlt
        have hft := filter_take (f := fun c => c.o.a == addr) hc
        have hj1 : (i : Int) < n2 := by omega
        have hj2 : (0 : Int) ≤ i := by omega
        have hbT := R2b _ rfl
        clear hc
        cases he : (c.o.a == addr)
        · rw [he] at hft
          simp only [Bool.false_eq_true, if_false, List.append_nil] at hft
          rw [← hft] at R3
          clear hft
          go_wp2
          go_roundw
          case rel => exact ⟨i + 1, a3, n3, cap3, by omega, by go_num, rfl, by omega, R3, hap, S, hws, hB⟩
          case measure => simp [intOf]; omega
        · rw [he] at hft
          simp only [if_true] at hft
          go_wp2_with (at_builtin; refine wpList_app rfl (fun K hK => wp_app1 _ _ 28 rfl w.heap.size 70 i0 (.agg #[.int .i64 0, .int .i64 0, .string .empty, .int .i64 0]) 40 Tryz.underlying28 hi0 hz0 hz1 hz2 rfl (by decide) ccs_len ccs_one a3 n3 cap3 _ rfl (R3.alloc _) _ _ [c] rfl (sl_newC _ c _ _ (by first | rfl | simp)) (by unfold maxLen; omega) (by omega) (by have := hB.size; simp; omega) (fun a4 cap4 w4 R4 hg4 hfr4 => hK _ _ ?_)))
          rw [← hft] at R4
          have hs0 := hB.size
          have hB4 : Below w.heap.size w w4 := Below.grown (by go_grown) hg4 (by simp; omega) (own_ge fun ad had => by have := (R3.block ad had).1; omega)
          have S4 : CtsAt w4 (some ⟨b, o, none⟩) n2 L := (S.alloc (.cells #[.int .i64 c.o.a, .int .i64 c.o.v, .string c.o.f, .int .i64 c.n] 70)).grownO hg4 (fun ad had => by
            cases had
            intro e
            cases ha3 : a3 with
            | none => rw [ha3] at e; simp [Value.ownBlock] at e
            | some ad3 =>
              rw [ha3] at e
              have e' : b = ad3.block := by simpa [Value.ownBlock] using e
              have hbT' : w1.heap.size ≤ b ∧ b < w2.heap.size := hbT
              have := hap ad3 ha3
              omega)
          have hs4 : w2.heap.size ≤ w4.heap.size := Nat.le_trans (by simp; omega) hg4.size
          have hap4 : ∀ ad, a4 = some ad → ad.block < w1.heap.size ∨ w2.heap.size ≤ ad.block := fun ad had => by
            rcases hfr4 ad had with ⟨ad', h1, h2⟩ | h1
            · have := hap ad' h1; omega
            · simp at h1; omega
          go_roundw
          case rel => exact ⟨i + 1, a4, n3 + 1, cap4, by omega, by go_num, rfl, by omega, R4, hap4, S4, hs4, hB4⟩
          case measure => simp [intOf]; omega
      · obtain rfl : i = n2 := by omega
        rw [List.take_of_length_le (Nat.le_of_eq hlen.out)] at R3
        go_wp2
        go_returns
        exact ⟨⟨a3, n3, cap3, rfl, by omega, by rw [hL.out]; exact R3⟩, hB⟩
end Go.Proofs.YtllbojcjdpelnaaGreat
namespace Go.Proofs.YtllbojcjdpelnaaGreat
open Go.RowKit Go.BigFrame

abbrev scs : ByteArray → List Value := fun x => [Value.string x]
theorem scs_len (x : ByteArray) : [Value.string x].length = 1 := rfl
theorem scs_one : ∀ (l : List ByteArray), ∀ u ∈ l.flatMap scs, u.oneCell' = true := by
  intro l u hu
  obtain ⟨x, _, hx⟩ := List.mem_flatMap.1 hu
  simp at hx
  subst hx; rfl
theorem sl_newS (w : World) (x : ByteArray) (t : TypeId) (b : Nat) (hb : b = w.heap.size) : SlAt scs 1 (w.alloc (.cells #[.string x] t)) (some ⟨b, 0, none⟩) 1 [x] := by
  subst hb
  refine ⟨rfl, fun i y hy => ⟨w.heap.size, 0, rfl, fun j v hv => ?_⟩⟩
  obtain rfl : i = 0 := by have := (List.getElem?_eq_some_iff.1 hy).1; simp at this; exact this
  simp at hy
  subst hy
  obtain rfl : j = 0 := by have := (List.getElem?_eq_some_iff.1 hv).1; simp at this; exact this
  simp at hv
  subst hv
  simp
theorem infoS : (Tryz.prog.info? 9).map (fun i => (i.zero, i.size, i.bytes)) = some (some (.string .empty), 1, 16) := by kernel_rfl
theorem sts_at {w : World} {a : Option Addr} {n : Nat} {l : List ByteArray} (h : SlAt scs 1 w a n l) {k : Nat} (hk : k < n) : ∃ b o s, a = some ⟨b, o, none⟩ ∧ l[k]? = some s ∧ w.cell? ⟨b, o + k, none⟩ = some (.string s) := by
  have hl : k < l.length := by rw [h.len]; exact hk
  have hx : l[k]? = some l[k] := by simp [hl]
  obtain ⟨b, o, ha, hc⟩ := h.cell k _ hx
  exact ⟨b, o, l[k], ha, hx, by have := hc 0 _ rfl; simpa using this⟩

set_option maxHeartbeats 1000000 in
theorem laws_eqStringS (a : Option Addr) (n cap : Nat) (l : List ByteArray) (a' : Option Addr) (n' cap' : Nat) (w : World) (h : SlAt scs 1 w a n l) (h' : SlAt scs 1 w a' n' l) (hn : n ≤ 4194304) :
    Calls Tryz.prog 27 #[.slice a n cap, .slice a' n' cap'] w fun e w' => e = .returned (.bool true) ∧ Below w.heap.size w w' := by
  have hlen : Hid (l.length = n) := h.len
  obtain rfl : n = n' := by rw [← h.len, ← h'.len]
  have hbn : ((n : Int) != (n : Int)) = false := by simp
  go_enter Tryz.func27, Tryz.ntmps27
  go_wp2_with fail
  go_loopw [5] (fun ix wr => ∃ (k : Nat), k ≤ n ∧ ix = .int .i64 k ∧ Below w.heap.size w wr) (fun ix _ => n - (intOf ix).toNat)
  case atStart => exact ⟨0, Nat.zero_le _, rfl, Below.refl _ _⟩
  case round =>
    obtain ⟨k, hk, rfl, hB⟩ := hrel
    by_cases hlt : k < n
    · obtain ⟨b, o, s, rfl, hp, c0⟩ := sts_at (h.below hB) hlt
      obtain ⟨b', o', s', rfl, hq, d0⟩ := sts_at (h'.below hB) hlt
      obtain rfl : s = s' := by rw [hp] at hq; exact Option.some.inj hq
      have hk1 : (k : Int) < n := by omega
      have hk2 : (0 : Int) ≤ k := by omega
      clear hp hq
      go_wp2_with fail
      go_quiet (fail)
      have hB2 := below_drewN hB nq
      go_wp2
      go_roundw
      case rel => exact ⟨k + 1, by omega, by go_num, hB2⟩
      case measure => simp [intOf]; omega
    · obtain rfl : k = n := by omega
      go_wp2
      go_returns
      exact ⟨rfl, hB⟩

/-- The slice holds the marks. -/
def MarkS (w : World) (a : Option Addr) (n : Nat) : Prop := ∀ j, j < n → ∃ b, a = some ⟨b, 0, none⟩ ∧ w.cell? ⟨b, j, none⟩ = some (.string (markT (1 + j)))
theorem MarkS.below {w w' : World} {a : Option Addr} {n : Nat} (h : MarkS w a n) (hb : Below w.heap.size w w') : MarkS w' a n := fun j hj => by
  obtain ⟨b, ha, h0⟩ := h j hj
  exact ⟨b, ha, bcell hb h0⟩

set_option maxHeartbeats 2000000 in
theorem markS_own (b n cap : Nat) (c : Array Value) (w : World) (hb : Blk w b c 9) (hsz : n ≤ c.size) (hn : n ≤ 4194304) :
    Calls Tryz.prog 28 #[.slice (some ⟨b, 0, none⟩) n cap, .int .i64 1] w fun e w' => e = .returned (.int .i64 (1 + (n : Int))) ∧ MarkS w' (some ⟨b, 0, none⟩) n ∧ w.grownBy w' (some b) := by
  go_enter Tryz.func28, Tryz.ntmps28
  go_wp2_with fail
  go_loopw [1, 5] (fun kk ix wr => ∃ (k : Nat) (c' : Array Value), k ≤ n ∧ ix = .int .i64 k ∧ kk = .int .i64 (1 + (k : Int)) ∧ Blk wr b c' 9 ∧ Hid (c'.size = c.size) ∧ Hid (∀ j, j < k → c'[j]? = some (.string (markT (1 + j)))) ∧ w.grownBy wr (some b)) (fun _ ix _ => n - (intOf ix).toNat)
  case atStart => exact ⟨0, c, Nat.zero_le _, rfl, rfl, hb, rfl, fun j hj => (by omega), World.grownBy.refl _ _⟩
  case round =>
    obtain ⟨k, c', hk, rfl, rfl, hblk, hcs, hcc, hg⟩ := hrel
    by_cases hlt : k < n
    · have hk1 : (k : Int) < n := by omega
      have hk2 : (0 : Int) ≤ k := by omega
      go_wp2_with fail
      refine (laws_markTextZ (1 + k) _ (by omega) _ (by omega) (by omega)).mono ?_
      rintro e w1 ⟨rfl, hB1⟩
      have hb1 := hblk.below hB1
      have hg1 := grown_below hg hB1
      have hcs' := hcs.out
      obtain ⟨v0, y0⟩ := hb1.has (i := k) (by omega)
      have f0 := hb1.frozen k
      clear hB1 hblk hg
      go_wp2
      go_roundw
      case rel =>
        refine ⟨k + 1, _, by omega, by go_num, ?_, hb1.set k (.string (markT (1 + k))), by show _ = _; simp [hcs.out], ?_, grown_set hg1 _ _⟩
        · show Value.int IntKind.i64 _ = Value.int IntKind.i64 _
          congr 1 <;> omega
        · intro j hj
          by_cases hjk : j = k
          · subst hjk
            simp [Array.getElem?_setIfInBounds]
            omega
          · rw [Array.getElem?_setIfInBounds_ne (by omega)]
            exact hcc.out j (by omega)
      case measure => simp [intOf]; omega
    · obtain rfl : k = n := by omega
      go_wp2
      go_returns
      exact ⟨rfl, fun j hj => ⟨b, rfl, by rw [hblk.cell]; exact hcc.out j hj⟩, hg⟩

theorem markS_res (B : Nat) (a : Option Addr) (n cap : Nat) (l : List ByteArray) (w : World) (h : ResAt scs 1 9 w B a n cap l) (hn : n ≤ 4194304) :
    Calls Tryz.prog 28 #[.slice a n cap, .int .i64 1] w fun e w' => e = .returned (.int .i64 (1 + (n : Int))) ∧ MarkS w' a n ∧ w.grownBy w' (rowB a) := by
  rcases h.own with ⟨rfl, rfl, rfl⟩ | ⟨b, rfl, _, hnc, _, c, hc, hs, _⟩
  · go_enter Tryz.func28, Tryz.ntmps28
    go_wp2_with fail
    go_rounds 1
    go_returns
    exact ⟨rfl, fun j hj => (by omega), World.grownBy.refl _ _⟩
  · exact markS_own b n cap c w hc (by rw [hs]; omega) hn

set_option maxHeartbeats 2000000 in
theorem heldS (a : Option Addr) (n cap : Nat) (w : World) (h : MarkS w a n) (hn : n ≤ 4194304) :
    Calls Tryz.prog 29 #[.slice a n cap, .int .i64 1] w fun e w' => e = .returned (.int .i64 (1 + (n : Int))) ∧ Below w.heap.size w w' := by
  go_enter Tryz.func29, Tryz.ntmps29
  go_wp2_with fail
  go_loopw [1, 5] (fun kk ix wr => ∃ (k : Nat), k ≤ n ∧ ix = .int .i64 k ∧ kk = .int .i64 (1 + (k : Int)) ∧ Below w.heap.size w wr) (fun _ ix _ => n - (intOf ix).toNat)
  case atStart => exact ⟨0, Nat.zero_le _, rfl, rfl, Below.refl _ _⟩
  case round =>
    obtain ⟨k, hk, rfl, rfl, hB⟩ := hrel
    by_cases hlt : k < n
    · obtain ⟨b, rfl, c0⟩ := h k hlt
      replace c0 := bcell hB c0
      generalize hkk : (1 + (k : Int)) = kk at *
      have hk1 : 0 ≤ kk := by omega
      have hk2 : kk ≤ 100000000 := by omega
      have hkh : Hid (1 + (k : Int) = kk) := hkk
      clear hkk
      have hk3 : (k : Int) < n := by omega
      have hk4 : (0 : Int) ≤ k := by omega
      have e2 : (!((markT (1 + k)).toList == (markT (1 + k)).toList)) = false := by simp
      go_wp2_with fail
      have g0 := gcell c0
      have hne := grw_ne wr
      refine wp_region_grow (by kernel_rfl) (by kernel_rfl) ?_
      repeat (go_big_quiet_step (first | (go_at_call 48; exact grow_of (laws_markTextZ (1 + k) kk (by have := hkh.out; omega) _ (by omega) (by omega)))))
      refine wpQuiet_nil ?_
      intro w2 hx
      have hB2 := grw_out hx
      clear hx
      go_wp2
      go_roundw
      case rel => exact ⟨k + 1, by omega, by go_num, by have := hkh.out; show Value.int IntKind.i64 _ = Value.int IntKind.i64 _; congr 1; omega, chain hB hB2⟩
      case measure => simp [intOf]; omega
    · obtain rfl : k = n := by omega
      go_wp2
      go_returns
      exact ⟨rfl, hB⟩

/-- The names of a volume's files. -/
def filesO (p : Po) (vol : ByteArray) : Option (List ByteArray) := if poolB p = true then (volI p.vs vol).bind fun i => p.vs[i]?.map fun v => v.its.map (·.nm) else none
theorem names_take {l : List It} {i : Nat} {x : It} (h : l[i]? = some x) : (l.take (i + 1)).map (·.nm) = (l.take i).map (·.nm) ++ [x.nm] := by
  rw [take_at h, List.map_append]; rfl
theorem pool_its {p : Po} (h : poolB p = true) {i : Nat} {x : Vo} (hx : p.vs[i]? = some x) : x.its.length ≤ 5 := by
  have := (tiny_of (poolB_vs h).1 (poolB_vs h).2.1).2 x (List.mem_of_getElem? hx)
  exact this.1

set_option maxHeartbeats 2000000 in
set_option maxRecDepth 100000 in
theorem impl_FilesOf (B : Nat) (v : Value) (p : Po) (vol : ByteArray) (w : World) (h : PoolAt B w v p) (hd : DimP p) (hvol : vol.size ≤ 1048576) :
    Calls Tryz.prog 26 #[v, .string vol] w fun e w' => (∃ a n cap, e = .returned (.tuple #[.slice a n cap, .bool (filesO p vol).isSome]) ∧ n ≤ 5 ∧ ResAt scs 1 9 w' w.heap.size a n cap ((filesO p vol).getD [])) ∧ Below w.heap.size w w' := by
  obtain ⟨ea, en, ec, va, vn, vc, ra, rn, rc, la, ln, lc, rfl⟩ := h.cells
  obtain ⟨i0, hi0, hz0, hz1, hz2⟩ := info_parts infoS
  have C := (Blk.new w #[.int .i64 p.size, .int .i64 p.next, .slice ea en ec, .slice va vn vc, .slice ra rn rc, .slice la ln lc] 33)
  have hBw : Below w.heap.size w (w.alloc (.cells #[.int .i64 p.size, .int .i64 p.next, .slice ea en ec, .slice va vn vc, .slice ra rn rc, .slice la ln lc] 33)) := by go_grown
  have hR : Hid (filesO p vol = if poolB p = true then (volI p.vs vol).bind fun i => p.vs[i]?.map fun v => v.its.map (·.nm) else none) := rfl
  generalize filesO p vol = R at *
  go_enter Tryz.func26, Tryz.ntmps26
  go_wp2_with fail
  generalize w.alloc (.cells #[.int .i64 p.size, .int .i64 p.next, .slice ea en ec, .slice va vn vc, .slice ra rn rc, .slice la ln lc] 33) = W0 at *
  refine (impl_askedVolume B _ p vol _ (h.below hBw) hd hvol).mono ?_
  rintro e w1 ⟨hret, hB1⟩
  replace hB1 := chain hBw hB1
  clear C hBw
  rcases hret with ⟨rfl, hno⟩ | ⟨i, x, b, o, rfl, hpk, hvi, hx, hV⟩
  · have hRn : R = none := by
      rw [hR.out]
      rcases hno with hno | hno
      · rw [hno]; rfl
      · split
        · rw [hno]; rfl
        · rfl
    subst hRn
    clear hno hR
    go_wp2
    go_returns
    exact ⟨⟨none, 0, 0, rfl, by omega, res_nil⟩, hB1⟩
  · have hRs : R = some (x.its.map (·.nm)) := by
      rw [hR.out, if_pos hpk, hvi, Option.bind_some, hx]; rfl
    have h5 := pool_its hpk hx
    subst hRs
    clear hpk hvi hx hR
    obtain ⟨_, _, qa, qn, qc, e3, hP, hH⟩ := hV
    have hlen : Hid (x.its.length = qn) := hP.len
    rw [hlen.out] at h5
    have hs1 := hB1.size
    go_wp2_with fail
    go_loopw [7, 20] (fun out ix wr => ∃ (k : Nat) (a3 : Option Addr) (n3 cap3 : Nat), k ≤ qn ∧ ix = .int .i64 k ∧ out = .slice a3 n3 cap3 ∧ n3 = k ∧ ResAt scs 1 9 wr w1.heap.size a3 n3 cap3 ((x.its.take k).map (·.nm)) ∧ w1.heap.size ≤ wr.heap.size ∧ Below w1.heap.size w1 wr) (fun _ ix _ => qn - (intOf ix).toNat)
    case atStart => exact ⟨0, none, 0, 0, Nat.zero_le _, rfl, rfl, rfl, res_nil, Nat.le_refl _, Below.refl _ _⟩
    case round =>
      obtain ⟨k, a3, n3, cap3, hk, rfl, rfl, rfl, R3, hws, hB⟩ := hrel
      by_cases hlt : n3 < qn
      · obtain ⟨ib, io, y, pa, pn, pc, rfl, hy, g0, g1, _, _, _, _⟩ := its_at (hP.below hB) hlt
        have hnt := names_take hy
        have hj1 : (n3 : Int) < qn := by omega
        have hj2 : (0 : Int) ≤ n3 := by omega
        clear hy
        go_wp2_with (at_builtin; refine wpList_app rfl (fun K hK => wp_app _ _ 47 rfl w1.heap.size 9 i0 (.string .empty) 16 Tryz.underlying47 hi0 hz0 hz1 hz2 rfl (by decide) scs_len scs_one a3 n3 cap3 _ rfl ((R3.alloc _).alloc _) _ 1 1 [y.nm] rfl (sl_newS _ y.nm _ _ (by simp)) (fun ad h => (by cases h; rfl)) (fun h => (by cases h)) (n3 + 1) rfl (by unfold maxLen; omega) (by omega) (by simp; omega) (fun a4 cap4 w4 R4 hg4 => hK _ _ ?_)))
        rw [← hnt] at R4
        have hB4 : Below w1.heap.size w1 w4 := Below.grown (by go_grown) hg4 (by simp; omega) (own_ge fun ad had => by have := (R3.block ad had).1; omega)
        have hs4 : w1.heap.size ≤ w4.heap.size := hB4.size
        go_roundw
        case rel => exact ⟨n3 + 1, a4, n3 + 1, cap4, by omega, by go_num, rfl, rfl, R4, hs4, hB4⟩
        case measure => simp [intOf]; omega
      · obtain rfl : n3 = qn := by omega
        rw [List.take_of_length_le (Nat.le_of_eq hlen.out)] at R3
        go_wp2
        go_returns
        exact ⟨⟨a3, n3, cap3, rfl, h5, R3.mono hs1⟩, chain hB1 hB⟩

set_option maxHeartbeats 2000000 in
set_option maxRecDepth 100000 in
theorem spec_FilesOf (B : Nat) (hB0 : 0 < B) (v : Value) (p : Po) (vol : ByteArray) (w : World) (h : PoolAt B w v p) (hd : DimP p) :
    Calls Tryz.prog 25 #[v, .string vol] w fun e w' => (∃ a n cap, e = .returned (.tuple #[.slice a n cap, .bool (filesO p vol).isSome]) ∧ n ≤ 5 ∧ ResAt scs 1 9 w' w.heap.size a n cap ((filesO p vol).getD [])) ∧ Below w.heap.size w w' := by
  obtain ⟨ea, en, ec, va, vn, vc, ra, rn, rc, la, ln, lc, rfl, hrest⟩ := h
  have h : PoolAt B w (.agg #[.int .i64 p.size, .int .i64 p.next, .slice ea en ec, .slice va vn vc, .slice ra rn rc, .slice la ln lc]) p := ⟨ea, en, ec, va, vn, vc, ra, rn, rc, la, ln, lc, rfl, hrest⟩
  have h2 := hrest.2.1.1
  have z3 := hd.2.2.1
  rw [h2.len] at z3
  clear hrest
  obtain ⟨i0, hi0, hz0, hz1, hz2⟩ := info_parts infoS
  have C := (Blk.new w #[.int .i64 p.size, .int .i64 p.next, .slice ea en ec, .slice va vn vc, .slice ra rn rc, .slice la ln lc] 33)
  have hBw : Below w.heap.size w (w.alloc (.cells #[.int .i64 p.size, .int .i64 p.next, .slice ea en ec, .slice va vn vc, .slice ra rn rc, .slice la ln lc] 33)) := by go_grown
  have hR : Hid (filesO p vol = if poolB p = true then (volI p.vs vol).bind fun i => p.vs[i]?.map fun v => v.its.map (·.nm) else none) := rfl
  generalize filesO p vol = R at *
  go_enter Tryz.func25, Tryz.ntmps25
  go_wp2_with fail
  generalize w.alloc (.cells #[.int .i64 p.size, .int .i64 p.next, .slice ea en ec, .slice va vn vc, .slice ra rn rc, .slice la ln lc] 33) = W0 at *
  refine (spec_l4Find B p.size p.next ea en ec va vn vc ra rn rc la ln lc p.vs vol _ (h2.below hBw) z3).mono ?_
  rintro e w1 ⟨rfl, hB1⟩
  have C1 := C.below hB1
  replace hB1 := chain hBw hB1
  clear C hBw
  obtain ⟨d0, d1, d2, d3, d4, d5⟩ := C1.six
  go_wp2_with fail
  refine (spec_PoolOk B hB0 _ p _ (h.below hB1) hd).mono ?_
  rintro e w2 ⟨rfl, hB2⟩
  have C2 := C1.below hB2
  replace hB2 := chain hB1 hB2
  clear d0 d1 d2 d3 d4 d5 C1 hB1
  cases hpk : poolB p
  · have hRn : R = none := by rw [hR.out, hpk]; rfl
    subst hRn
    clear hpk hR
    go_wp2
    go_returns
    exact ⟨⟨none, 0, 0, rfl, by omega, res_nil⟩, hB2⟩
  · rw [hpk] at hR
    simp only [if_true] at hR
    cases hvi : volI p.vs vol with
    | none =>
      rw [hvi] at hR
      have hRn : R = none := hR.out
      subst hRn
      rw [show idxV none = -1 from rfl]
      clear hpk hR hvi
      go_wp2
      go_returns
      exact ⟨⟨none, 0, 0, rfl, by omega, res_nil⟩, hB2⟩
    | some i =>
      rw [hvi] at hR
      rw [show idxV (some i) = (i : Int) from rfl]
      have hiv := volI_at hvi
      rw [h2.len] at hiv
      obtain ⟨b, o, x, qa, qn, qc, rfl, hx, e0, e1, e2, e3, hP, hH, hBb⟩ := vs_at (h2.below hB2) hiv
      have h5 := pool_its hpk hx
      have hRs : R = some (x.its.map (·.nm)) := by rw [hR.out, Option.bind_some, hx]; rfl
      subst hRs
      have hlen : Hid (x.its.length = qn) := hP.len
      rw [hlen.out] at h5
      have hk1 : (i : Int) < vn := by omega
      have hk2 : (0 : Int) ≤ i := by omega
      have hs2 := hB2.size
      have hC2 := C2.lt
      clear hpk hR hvi hx e0 e1 e2
      have E := Blk.new' w2 #[] 9 w2.heap.size rfl
      go_wp2_with fail
      go_loopw [7, 8] (fun out ix wr => ∃ (k : Nat) (a3 : Option Addr) (n3 cap3 : Nat), k ≤ qn ∧ ix = .int .i64 k ∧ out = .slice a3 n3 cap3 ∧ n3 = k ∧ ResAt scs 1 9 wr w2.heap.size a3 n3 cap3 ((x.its.take k).map (·.nm)) ∧ w2.heap.size ≤ wr.heap.size ∧ Below w2.heap.size w2 wr) (fun _ ix _ => qn - (intOf ix).toNat)
      case atStart => exact ⟨0, _, 0, 0, Nat.zero_le _, rfl, rfl, rfl, res_empty E (Nat.le_refl _), by simp, (Below.refl _ _).alloc (Nat.le_refl _) _⟩
      case round =>
        clear E
        obtain ⟨k, a3, n3, cap3, hk, rfl, rfl, rfl, R3, hws, hB⟩ := hrel
        have d3 := (C2.below hB).cell 3
        simp only [List.getElem?_toArray, List.getElem?_cons_zero, List.getElem?_cons_succ] at d3
        have f3 := bcell hB e3
        by_cases hlt : n3 < qn
        · obtain ⟨ib, io, y, pa, pn, pc, rfl, hy, g0, g1, _, _, _, _⟩ := its_at (hP.below hB) hlt
          have hnt := names_take hy
          have hj1 : (n3 : Int) < qn := by omega
          have hj2 : (0 : Int) ≤ n3 := by omega
          clear hy
          go_wp2_with (at_builtin; refine wpList_app rfl (fun K hK => wp_app _ _ 47 rfl w2.heap.size 9 i0 (.string .empty) 16 Tryz.underlying47 hi0 hz0 hz1 hz2 rfl (by decide) scs_len scs_one a3 n3 cap3 _ rfl (R3.alloc _) _ 1 1 [y.nm] rfl (sl_newS _ y.nm _ _ (by first | rfl | simp)) (fun ad h => (by cases h; rfl)) (fun h => (by cases h)) (n3 + 1) rfl (by unfold maxLen; omega) (by omega) (by simp; omega) (fun a4 cap4 w4 R4 hg4 => hK _ _ ?_)))
          rw [← hnt] at R4
          have hB4 : Below w2.heap.size w2 w4 := Below.grown (by go_grown) hg4 (by simp; omega) (own_ge fun ad had => by have := (R3.block ad had).1; omega)
          have hs4 : w2.heap.size ≤ w4.heap.size := hB4.size
          go_roundw
          case rel => exact ⟨n3 + 1, a4, n3 + 1, cap4, by omega, by go_num, rfl, rfl, R4, hs4, hB4⟩
          case measure => simp [intOf]; omega
        · obtain rfl : n3 = qn := by omega
          rw [List.take_of_length_le (Nat.le_of_eq hlen.out)] at R3
          go_wp2
          go_returns
          exact ⟨⟨a3, n3, cap3, rfl, h5, R3.mono hs2⟩, chain hB2 hB⟩
end Go.Proofs.YtllbojcjdpelnaaGreat
