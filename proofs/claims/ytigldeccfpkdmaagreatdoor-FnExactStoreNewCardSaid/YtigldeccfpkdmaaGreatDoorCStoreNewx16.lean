/- A right pool's numbers and texts are small. The sum of bytes that a commitment ends with, plain. The sum of bytes, and four bytes of a number, by the program. -/
import Derived.Test.YtigldeccfpkdmaaGreatDoorCStoreNewx15
import Derived.Test.YtigldeccfpkdmaaGreatDoorCStoreNewx12
import Derived.Laws.Closers25b
import Derived.Laws.BitsLemmas
import Derived.Test.YtigldeccfpkdmaaGreatDoorCStoreNewx02
import Derived.Test.YtigldeccfpkdmaaGreatDoorCStoreNewx00
namespace Go.Proofs.YtigldeccfpkdmaaGreatDoor
open Go Go.RowKit Go.BigFrame Go.Shelf
theorem xgo_eachT {size : Int} : ∀ {l : List Ex} {next : Int}, xgo size next l = true → 1 ≤ next → ∀ e ∈ l, 1 ≤ e.a ∧ e.a ≤ size + 1 ∧ e.d.size ≤ 20
  | [], _, _, _ => by simp
  | e :: r, next, h, h1 => by
    simp only [xgo, dataOkB, Bool.and_eq_true, decide_eq_true_eq] at h
    intro x hx
    rcases List.mem_cons.1 hx with rfl | hx
    · omega
    · exact xgo_eachT h.2 (by omega) x hx
theorem vgo_eachT {next : Int} {e : List Ex} : ∀ {l : List Vo} {last : Int}, vgo next e last l = true → 0 ≤ last → ∀ v ∈ l, 0 < v.id ∧ v.id < next ∧ v.nm.size ≤ 8 ∧ v.its.length ≤ 5 ∧ igo e none v.its = true
  | [], _, _, _ => by simp
  | v :: r, last, h, h1 => by
    simp only [vgo, itemsB, nameB, Bool.and_eq_true, decide_eq_true_eq] at h
    obtain ⟨⟨⟨⟨a1, a2⟩, a3⟩, a4⟩, a5⟩ := h
    intro x hx
    rcases List.mem_cons.1 hx with rfl | hx
    · exact ⟨by omega, a2, a3.1.2, a4.1, a4.2⟩
    · exact vgo_eachT a5 (by omega) x hx
theorem igo_eachT {e : List Ex} : ∀ {l : List It} {q : Option It}, igo e q l = true → ∀ x ∈ l, x.nm.size ≤ 8 ∧ partsOkB x.ps = true
  | [], _, _ => by simp
  | y :: r, q, h => by
    simp only [igo, nameB, Bool.and_eq_true, decide_eq_true_eq] at h
    obtain ⟨⟨⟨a1, _⟩, a3⟩, a4⟩ := h
    intro x hx
    rcases List.mem_cons.1 hx with rfl | hx
    · refine ⟨a1.1.2, ?_⟩
      unfold contentO at a3
      split at a3
      · rename_i h; exact h.1
      · cases a3
    · exact igo_eachT a4 x hx
theorem part_num {p : Pt} (h : partOkB p = true) (hn : p.n ≤ 100) : Num p.a ∧ Num p.f ∧ Num p.n := by
  unfold partOkB at h
  unfold Num
  split at h
  · rename_i ha
    simp only [Bool.and_eq_true, decide_eq_true_eq, beq_iff_eq] at h ha
    omega
  · simp only [Bool.and_eq_true, decide_eq_true_eq] at h
    omega
theorem word_lenT : ∀ (l : List ByteArray), (wordL l).length ≤ (l.map (fun x => x.size + 1)).sum
  | [] => by unfold wordL; simp [Lib.join]
  | [a] => by rw [word_one]; simp
  | a :: b :: l => by
    rw [word_step]
    have := word_lenT (b :: l)
    simp at this ⊢
    omega
theorem flat_lenT {α : Type} {f : α → List UInt8} {m : Nat} : ∀ {l : List α}, (∀ x ∈ l, (f x).length ≤ m) → (l.flatMap f).length ≤ l.length * m
  | [], _ => by simp
  | x :: r, h => by
    have h1 := h x (by simp)
    have h2 := flat_lenT (l := r) fun y hy => h y (by simp [hy])
    rw [List.flatMap_cons, List.length_append, List.length_cons, Nat.add_mul]
    omega
theorem dec_num {n : Int} (h : Num n) : (decB n).size ≤ 13 := decB_size h.1 h.2
theorem ct_num {c : Ct} (h : ownerOkB c.o = true) (h1 : -1000 ≤ c.n) (h2 : c.n ≤ 1000) : (Num c.o.a ∧ Num c.o.v ∧ Num c.n) ∧ c.o.f.size ≤ 8 := by
  simp only [ownerOkB, nameB, Bool.and_eq_true, decide_eq_true_eq] at h
  unfold Num
  omega
theorem ct_lenT {word : ByteArray} {c : Ct} (hw : word.size ≤ 4) (h : Num c.o.a ∧ Num c.o.v ∧ Num c.n) (hf : c.o.f.size ≤ 8) : (lineL (ctL word c)).length ≤ 60 := by
  have h1 := word_lenT (ctL word c)
  have := dec_num h.1
  have := dec_num h.2.1
  have := dec_num h.2.2
  unfold lineL
  simp [ctL] at h1 ⊢
  omega
theorem poolB_two {p : Po} (h : poolB p = true) : refsOkB p.rf = true ∧ lateOkB p.lt = true := by
  simp only [poolB, Bool.and_eq_true] at h
  have h1 := h.1.2
  by_cases hh : refsOkB p.rf = true ∧ lateOkB p.lt = true
  · exact hh
  · unfold flushedO at h1
    rw [if_neg hh] at h1
    cases h1
theorem numO_of {p : Po} (h : poolB p = true) : NumO p := by
  obtain ⟨v1, v2, v3, v4, _⟩ := poolB_vs h
  obtain ⟨s1, s2, s3, s4⟩ := ok_parts v4
  obtain ⟨r1, r2⟩ := poolB_two h
  have hnx : 1 ≤ p.next := by
    simp only [poolB, Bool.and_eq_true, decide_eq_true_eq] at h
    exact h.1.1.1.1.1.2
  have hE := xgo_eachT s4 (by omega)
  have hV := vgo_eachT v2 (by omega)
  simp only [refsOkB, Bool.and_eq_true, decide_eq_true_eq] at r1
  simp only [lateOkB, Bool.and_eq_true, decide_eq_true_eq, List.all_eq_true] at r2
  have hR : ∀ c ∈ p.rf, (Num c.o.a ∧ Num c.o.v ∧ Num c.n) ∧ c.o.f.size ≤ 8 := fun c hc => by
    have := rgo_all r1.2 c hc
    simp only [refB, Bool.and_eq_true, decide_eq_true_eq] at this
    exact ct_num this.1.1 (by omega) this.2
  have hL : ∀ c ∈ p.lt, (Num c.o.a ∧ Num c.o.v ∧ Num c.n) ∧ c.o.f.size ≤ 8 := fun c hc => by
    have := r2.2 c hc
    simp only [lateB, Bool.and_eq_true, decide_eq_true_eq] at this
    exact ct_num this.1.1.1 this.1.1.2 this.1.2
  have hs : Num p.size := ⟨by omega, by omega⟩
  have hn : Num p.next := ⟨by omega, by omega⟩
  have hX : ∀ e ∈ p.ex, Num e.a := fun e he => by have := hE e he; exact ⟨by omega, by omega⟩
  have hI : ∀ v ∈ p.vs, ∀ x ∈ v.its, NumP x.ps ∧ x.ps.length ≤ 16 ∧ x.nm.size ≤ 8 := fun v hv x hx => by
    obtain ⟨_, _, _, _, a5⟩ := hV v hv
    obtain ⟨b1, b2⟩ := igo_eachT a5 x hx
    simp only [partsOkB, Bool.and_eq_true, decide_eq_true_eq] at b2
    exact ⟨fun q hq => part_num (pgo_each b2.2 (by omega) q hq).1 (pgo_each b2.2 (by omega) q hq).2, b2.1, b1⟩
  refine ⟨hs, hn, hX, fun v hv => ⟨⟨by have := (hV v hv).1; omega, by have := (hV v hv).2.1; omega⟩, fun x hx => (hI v hv x hx).1, by have := (hV v hv).2.2.2.1; omega, fun x hx => by have := (hI v hv x hx).2.1; omega⟩, fun c hc => (hR c hc).1, fun c hc => (hL c hc).1, ?_⟩
  have t1 : (lineL (hdW p)).length ≤ 50 := by
    have h1 := word_lenT (hdW p)
    have := dec_num hs
    have := dec_num hn
    unfold lineL
    simp [hdW] at h1 ⊢
    have e4 : (ByteArray.mk #[112, 111, 111, 108]).size = 4 := rfl
    omega
  have t2 : (exsW p.ex).length ≤ p.ex.length * 60 := flat_lenT fun e he => by
    have h1 := word_lenT (exW e)
    have := dec_num (hX e he)
    have := (hE e he).2.2
    have e6 : (ByteArray.mk #[101, 120, 116, 101, 110, 116]).size = 6 := rfl
    show (lineL (exW e)).length ≤ _
    unfold lineL
    simp [exW] at h1 ⊢
    omega
  have t3 : (volsW p.vs).length ≤ p.vs.length * 8000 := flat_lenT fun v hv => by
    obtain ⟨a1, a2, a3, a4, _⟩ := hV v hv
    have h1 := word_lenT (voW v)
    have := dec_num (n := v.id) ⟨by omega, by omega⟩
    have e6 : (ByteArray.mk #[118, 111, 108, 117, 109, 101]).size = 6 := rfl
    have e1 : (flagB v.fx).size = 1 := by cases v.fx <;> rfl
    have i1 : (itsW v.its).length ≤ v.its.length * 1200 := flat_lenT fun x hx => by
      obtain ⟨b1, b2, b3⟩ := hI v hv x hx
      have p1 : (partsW x.ps).length ≤ x.ps.length * 60 := flat_lenT fun q hq => by
        obtain ⟨c1, c2, c3⟩ := b1 q hq
        have h1 := word_lenT (ptW q)
        have := dec_num c1
        have := dec_num c2
        have := dec_num c3
        have e4 : (ByteArray.mk #[112, 97, 114, 116]).size = 4 := rfl
        show (lineL (ptW q)).length ≤ _
        unfold lineL
        simp [ptW] at h1 ⊢
        omega
      have h1 := word_lenT [⟨#[102, 105, 108, 101]⟩, x.nm]
      have e4 : (ByteArray.mk #[102, 105, 108, 101]).size = 4 := rfl
      unfold itW lineL
      simp at h1 ⊢
      omega
    unfold volW lineL
    simp [voW] at h1 ⊢
    omega
  have t4 : (ctsW refW p.rf).length ≤ p.rf.length * 60 := flat_lenT fun c hc => ct_lenT (by decide) (hR c hc).1 (hR c hc).2
  have t5 : (ctsW lateW p.lt).length ≤ p.lt.length * 60 := flat_lenT fun c hc => ct_lenT (by decide) (hL c hc).1 (hL c hc).2
  unfold textW
  rw [List.length_append, List.length_append, List.length_append, List.length_append]
  have := r1.1
  have := r2.1
  omega
end Go.Proofs.YtigldeccfpkdmaaGreatDoor
namespace Go.Proofs.YtigldeccfpkdmaaGreatDoor
open Go Go.RowKit Go.BigFrame
def stC (c : Int) : Int := if c % 2 = 1 then bits .xor .u32 (c / 2) 3988292384 else c / 2
def itC : Nat → Int → Int
  | 0, c => c
  | k + 1, c => stC (itC k c)
def byC (c : Int) (b : UInt8) : Int := itC 8 (bits .xor .u32 c (b.toNat : Int))
def crC (l : List UInt8) : Int := l.foldl byC 4294967295
def crcS (l : List UInt8) : Int := bits .xor .u32 4294967295 (crC l)
def U32 (c : Int) : Prop := 0 ≤ c ∧ c < 4294967296
theorem bits_u32 (op : BinOp) (a b : Int) : U32 (bits op .u32 a b) := by
  have h1 := bits_lo_u32 op a b
  have h2 := bits_hi_u32 op a b
  exact ⟨h1, by omega⟩
theorem stC_u32 {c : Int} (h : U32 c) : U32 (stC c) := by
  unfold stC
  split
  · exact bits_u32 _ _ _
  · obtain ⟨h1, h2⟩ := h
    exact ⟨by omega, by omega⟩
theorem crC_take {l : List UInt8} {k : Nat} {b : UInt8} (h : l[k]? = some b) : crC (l.take (k + 1)) = byC (crC (l.take k)) b := by
  unfold crC
  rw [List.take_add_one, h, Option.toList, List.foldl_append]
  rfl
theorem and_one {c : Int} (h : U32 c) : bits .and .u32 c 1 = c % 2 := by
  have := bits_mask .u32 32 (by decide) (fun n h0 h1 => by rw [IntKind.wrap_u32]; omega) 1 (by decide) c h.1 h.2
  simpa using this
def hiB (n : Int) : ByteArray := strOfNums [n / 16777216, n / 65536 % 256, n / 256 % 256, n % 256]
def loB (n : Int) : ByteArray := strOfNums [n % 256, n / 256 % 256, n / 65536 % 256, n / 16777216]
def bodyC (n : Int) (p : List UInt8) : List UInt8 := (decB n).data.toList ++ [10] ++ p
def superC (n : Int) (p : List UInt8) : ByteArray := hiB ((bodyC n p).length) ++ ⟨(bodyC n p).toArray⟩ ++ loB (crcS (bodyC n p))
end Go.Proofs.YtigldeccfpkdmaaGreatDoor
namespace Go.Proofs.YtigldeccfpkdmaaGreatDoor
open Go Go.RowKit Go.BigFrame
set_option maxHeartbeats 1000000 in
theorem impl_checksum (s : ByteArray) (w : World) (hs : s.size ≤ 2000000) :
    Calls Tryz.prog 64 #[.string s] w fun e w' => e = .returned (.int .u32 (crcS s.data.toList)) ∧ w' = w := by
  obtain ⟨R, hR⟩ : ∃ R, Hid (crcS s.data.toList = R) := ⟨_, rfl⟩
  rw [hR.out]
  go_enter Tryz.func64, Tryz.ntmps64
  go_wp2_with fail
  go_loop [3, 8] (fun sm ix => ∃ (k : Nat) (c : Int), k ≤ s.size ∧ ix = .int .i64 k ∧ sm = .int .u32 c ∧ U32 c ∧ Hid (crC (s.data.toList.take k) = c)) (fun _ ix => s.size - (intOf ix).toNat)
  case atStart => exact ⟨0, 4294967295, Nat.zero_le _, rfl, rfl, ⟨by omega, by omega⟩, rfl⟩
  case round =>
    obtain ⟨k, c, hk, rfl, rfl, hU, hI⟩ := hrel
    by_cases hlt : k < s.size
    · have hb : s.data.toList[k]? = some s[k] := by rw [List.getElem?_eq_getElem (by simpa using hlt)]; rfl
      have hst : Hid (crC (s.data.toList.take (k + 1)) = itC 8 (bits .xor .u32 c ((s[k].toNat : Int) % 4294967296))) := by
        show _ = _
        rw [crC_take hb, hI.out, byC, Int.emod_eq_of_lt (by omega) (by have := s[k].toNat_lt; omega)]
      have hu0 := bits_u32 .xor c ((s[k].toNat : Int) % 4294967296)
      go_wp2_with fail
      generalize bits .xor .u32 c ((s[k].toNat : Int) % 4294967296) = d0 at *
      clear hb
      go_loop [3, 17] (fun sm jx => ∃ (j : Nat) (d : Int), j ≤ 8 ∧ jx = .int .i64 j ∧ sm = .int .u32 d ∧ U32 d ∧ Hid (itC j d0 = d)) (fun _ jx => 8 - (intOf jx).toNat)
      case atStart => exact ⟨0, d0, by omega, rfl, rfl, hu0, rfl⟩
      case round =>
        obtain ⟨j, d, hj, rfl, rfl, hV, hJ⟩ := hrel
        by_cases hj8 : j < 8
        · have hn : Hid (itC (j + 1) d0 = stC d) := by show stC (itC j d0) = _; rw [hJ.out]
          have hu := stC_u32 hV
          have ha : Hid (bits .and .u32 d 1 = d % 2) := and_one hV
          have hd0 := hV.1
          have hd1 := hV.2
          by_cases hp : d % 2 = 1
          · have hb1 : bits .and .u32 d 1 = 1 := by rw [ha.out, hp]
            have hs1 : Hid (stC d = bits .xor .u32 (d / 2) 3988292384) := by show stC d = _; unfold stC; rw [if_pos hp]
            generalize stC d = z at *
            go_wp2
            go_round
            case rel => exact ⟨j + 1, _, by omega, by go_num, by rw [hs1.out], hu, hn⟩
            case measure => simp [intOf]; omega
          · have hb1 : bits .and .u32 d 1 = 0 := by rw [ha.out]; omega
            have hs1 : Hid (stC d = d / 2) := by show stC d = _; unfold stC; rw [if_neg hp]
            generalize stC d = z at *
            go_wp2
            go_round
            case rel => exact ⟨j + 1, _, by omega, by go_num, by rw [hs1.out], hu, hn⟩
            case measure => simp [intOf]; omega
        · obtain rfl : j = 8 := by omega
          go_wp2
          go_round
          case rel => exact ⟨k + 1, _, by omega, by go_num, rfl, hV, by show _ = _; rw [hst.out, hJ.out]⟩
          case measure => simp [intOf]; omega
    · obtain rfl : k = s.size := by omega
      have hfin : Hid (R = bits .xor .u32 4294967295 c) := by
        show _ = _
        rw [← hR.out, crcS, ← hI.out, List.take_of_length_le (by simp)]
      go_wp2
      go_returns
      go_light
      exact ⟨by rw [hfin.out]; rfl, rfl⟩
/-- Four bytes made a text. -/
theorem conv4 (u : World) (a b c d : Int) : (convert 173 9 (.slice (some ⟨u.heap.size, 0, none⟩) 4 4)).run Tryz.prog (u.alloc (.cells #[.int .u8 a, .int .u8 b, .int .u8 c, .int .u8 d] 5)) = .ok (.string (strOfNums [a, b, c, d])) (u.alloc (.cells #[.int .u8 a, .int .u8 b, .int .u8 c, .int .u8 d] 5)) :=
  run_convert_bytes_arg (P := Tryz.prog) _ 173 5 Tryz.underlying173 Tryz.underlying5 u.heap.size 0 4 4 [a, b, c, d] rfl (fun i hi => (by
    rcases i with _ | _ | _ | _ | i
    · simp
    · simp
    · simp
    · simp
    · omega)) 9 Tryz.underlying9
set_option maxHeartbeats 1000000 in
theorem impl_highestFirst (n : Int) (w : World) (h : U32 n) :
    Calls Tryz.prog 62 #[.int .u32 n] w fun e w' => e = .returned (.string (hiB n)) ∧ Below w.heap.size w w' := by
  obtain ⟨h0, h1⟩ := h
  have hcv := conv4
  go_enter Tryz.func62, Tryz.ntmps62
  go_wp2
  go_returns
  exact ⟨rfl, by go_grown⟩
set_option maxHeartbeats 1000000 in
theorem impl_lowestFirst (n : Int) (w : World) (h : U32 n) :
    Calls Tryz.prog 63 #[.int .u32 n] w fun e w' => e = .returned (.string (loB n)) ∧ Below w.heap.size w w' := by
  obtain ⟨h0, h1⟩ := h
  have hcv := conv4
  go_enter Tryz.func63, Tryz.ntmps63
  go_wp2
  go_returns
  exact ⟨rfl, by go_grown⟩
set_option maxHeartbeats 1000000 in
theorem spec_l9Sum (s : ByteArray) (w : World) (hs : s.size ≤ 2000000) :
    Calls Tryz.prog 123 #[.string s] w fun e w' => e = .returned (.string (loB (crcS s.data.toList))) ∧ Below w.heap.size w w' := by
  obtain ⟨R, hR⟩ : ∃ R, Hid (crcS s.data.toList = R) := ⟨_, rfl⟩
  rw [hR.out]
  have hcv := conv4
  go_enter Tryz.func123, Tryz.ntmps123
  go_wp2_with fail
  go_loop [3, 4] (fun sm ix => ∃ (k : Nat) (c : Int), k ≤ s.size ∧ ix = .int .i64 k ∧ sm = .int .u32 c ∧ U32 c ∧ Hid (crC (s.data.toList.take k) = c)) (fun _ ix => s.size - (intOf ix).toNat)
  case atStart => exact ⟨0, 4294967295, Nat.zero_le _, rfl, rfl, ⟨by omega, by omega⟩, rfl⟩
  case round =>
    obtain ⟨k, c, hk, rfl, rfl, hU, hI⟩ := hrel
    by_cases hlt : k < s.size
    · have hb : s.data.toList[k]? = some s[k] := by rw [List.getElem?_eq_getElem (by simpa using hlt)]; rfl
      have hst : Hid (crC (s.data.toList.take (k + 1)) = itC 8 (bits .xor .u32 c ((s[k].toNat : Int) % 4294967296))) := by
        show _ = _
        rw [crC_take hb, hI.out, byC, Int.emod_eq_of_lt (by omega) (by have := s[k].toNat_lt; omega)]
      have hu0 := bits_u32 .xor c ((s[k].toNat : Int) % 4294967296)
      go_wp2_with fail
      generalize bits .xor .u32 c ((s[k].toNat : Int) % 4294967296) = d0 at *
      clear hb
      go_loop [3, 5] (fun sm jx => ∃ (j : Nat) (d : Int), j ≤ 8 ∧ jx = .int .i64 j ∧ sm = .int .u32 d ∧ U32 d ∧ Hid (itC j d0 = d)) (fun _ jx => 8 - (intOf jx).toNat)
      case atStart => exact ⟨0, d0, by omega, rfl, rfl, hu0, rfl⟩
      case round =>
        obtain ⟨j, d, hj, rfl, rfl, hV, hJ⟩ := hrel
        by_cases hj8 : j < 8
        · have hn : Hid (itC (j + 1) d0 = stC d) := by show stC (itC j d0) = _; rw [hJ.out]
          have hu := stC_u32 hV
          have hd0 := hV.1
          have hd1 := hV.2
          by_cases hp : d % 2 = 1
          · have hs1 : Hid (stC d = bits .xor .u32 (d / 2) 3988292384) := by show stC d = _; unfold stC; rw [if_pos hp]
            generalize stC d = z at *
            go_wp2
            go_round
            case rel => exact ⟨j + 1, _, by omega, by go_num, by rw [hs1.out], hu, hn⟩
            case measure => simp [intOf]; omega
          · have hb1 : d % 2 = 0 := by omega
            have hs1 : Hid (stC d = d / 2) := by show stC d = _; unfold stC; rw [if_neg hp]
            generalize stC d = z at *
            go_wp2
            go_round
            case rel => exact ⟨j + 1, _, by omega, by go_num, by rw [hs1.out], hu, hn⟩
            case measure => simp [intOf]; omega
        · obtain rfl : j = 8 := by omega
          go_wp2
          go_round
          case rel => exact ⟨k + 1, _, by omega, by go_num, rfl, hV, by show _ = _; rw [hst.out, hJ.out]⟩
          case measure => simp [intOf]; omega
    · obtain rfl : k = s.size := by omega
      have hfin : Hid (R = bits .xor .u32 4294967295 c) := by
        show _ = _
        rw [← hR.out, crcS, ← hI.out, List.take_of_length_le (by simp)]
      have hRu : U32 R := by rw [← hR.out]; exact bits_u32 _ _ _
      obtain ⟨hr0, hr1⟩ := hRu
      go_wp2
      go_returns
      refine ⟨?_, by go_grown⟩
      have e : bits .xor .u32 IntKind.u32.max c = R := hfin.out.symm
      show Ending.returned (.string (strOfNums [bits .xor .u32 IntKind.u32.max c % 256, bits .xor .u32 IntKind.u32.max c / 256 % 256, bits .xor .u32 IntKind.u32.max c / 65536 % 256, bits .xor .u32 IntKind.u32.max c / 16777216 % 256])) = _
      rw [e, Int.emod_eq_of_lt (a := R / 16777216) (by omega) (by omega)]
      rfl
end Go.Proofs.YtigldeccfpkdmaaGreatDoor
