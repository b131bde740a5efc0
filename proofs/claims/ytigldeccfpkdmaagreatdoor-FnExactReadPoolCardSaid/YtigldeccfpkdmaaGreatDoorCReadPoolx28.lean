/- A right pool's numbers and texts are small. A right pool has plain names and small numbers; what both read of a text. A contract of the library, laid at this program. The reader of a text; lines and what they hold are short. What the laws over pools have in common. -/
import Derived.Test.YtigldeccfpkdmaaGreatDoorCReadPoolx27
import Derived.Test.YtigldeccfpkdmaaGreatDoorCReadPoolx12
import Derived.Test.YtigldeccfpkdmaaGreatDoorProg
import Derived.Shelf.Strings.SplitShaped
import Derived.Test.YtigldeccfpkdmaaGreatDoorCReadPoolx21
import Derived.Test.YtigldeccfpkdmaaGreatDoorCReadPoolx16
import Derived.Test.YtigldeccfpkdmaaGreatDoorCReadPoolx07
import Derived.Lib.SmallJoins
import Derived.Test.YtigldeccfpkdmaaGreatDoorCReadPoolx00
import Derived.Test.YtigldeccfpkdmaaGreatDoorCReadPoolx19
import Derived.Test.YtigldeccfpkdmaaGreatDoorCReadPoolx26
namespace Go.Proofs.YtigldeccfpkdmaaGreatDoor
open Go Go.RowKit Go.BigFrame Go.Shelf
theorem xgo_eachT {size : Int} : ∀ {l : List Ex} {next : Int}, xgo size next l = true → 1 ≤ next → ∀ e ∈ l, 1 ≤ e.a ∧ e.a ≤ size + 1 ∧ e.d.size ≤ 20
  | [], _, _, _ => by simp
  | e :: r, next, h, h1 => by
    simp only [xgo, dataOkB, Bool.and_eq_true, decide_eq_true_eq] at h
    intro x hx
    rcases List.mem_cons.1 hx with rfl | hx
    · omega
    · exact xgo_eachT h.2 (by omega) x hx
theorem vgo_eachT {next : Int} {e : List Ex} : ∀ {l : List Vo} {last : Int}, vgo next e last l = true → 0 ≤ last → ∀ v ∈ l, 0 < v.id ∧ v.id < next ∧ v.nm.size ≤ 8 ∧ v.its.length ≤ 5 ∧ igo e none v.its = true
  | [], _, _, _ => by simp
  | v :: r, last, h, h1 => by
    simp only [vgo, itemsB, nameB, Bool.and_eq_true, decide_eq_true_eq] at h
    obtain ⟨⟨⟨⟨a1, a2⟩, a3⟩, a4⟩, a5⟩ := h
    intro x hx
    rcases List.mem_cons.1 hx with rfl | hx
    · exact ⟨by omega, a2, a3.1.2, a4.1, a4.2⟩
    · exact vgo_eachT a5 (by omega) x hx
theorem igo_eachT {e : List Ex} : ∀ {l : List It} {q : Option It}, igo e q l = true → ∀ x ∈ l, x.nm.size ≤ 8 ∧ partsOkB x.ps = true
  | [], _, _ => by simp
  | y :: r, q, h => by
    simp only [igo, nameB, Bool.and_eq_true, decide_eq_true_eq] at h
    obtain ⟨⟨⟨a1, _⟩, a3⟩, a4⟩ := h
    intro x hx
    rcases List.mem_cons.1 hx with rfl | hx
    · refine ⟨a1.1.2, ?_⟩
      unfold contentO at a3
      split at a3
      · rename_i h; exact h.1
      · cases a3
    · exact igo_eachT a4 x hx
theorem part_num {p : Pt} (h : partOkB p = true) (hn : p.n ≤ 100) : Num p.a ∧ Num p.f ∧ Num p.n := by
  unfold partOkB at h
  unfold Num
  split at h
  · rename_i ha
    simp only [Bool.and_eq_true, decide_eq_true_eq, beq_iff_eq] at h ha
    omega
  · simp only [Bool.and_eq_true, decide_eq_true_eq] at h
    omega
theorem word_lenT : ∀ (l : List ByteArray), (wordL l).length ≤ (l.map (fun x => x.size + 1)).sum
  | [] => by unfold wordL; simp [Lib.join]
  | [a] => by rw [word_one]; simp
  | a :: b :: l => by
    rw [word_step]
    have := word_lenT (b :: l)
    simp at this ⊢
    omega
theorem flat_lenT {α : Type} {f : α → List UInt8} {m : Nat} : ∀ {l : List α}, (∀ x ∈ l, (f x).length ≤ m) → (l.flatMap f).length ≤ l.length * m
  | [], _ => by simp
  | x :: r, h => by
    have h1 := h x (by simp)
    have h2 := flat_lenT (l := r) fun y hy => h y (by simp [hy])
    rw [List.flatMap_cons, List.length_append, List.length_cons, Nat.add_mul]
    omega
theorem dec_num {n : Int} (h : Num n) : (decB n).size ≤ 13 := decB_size h.1 h.2
theorem ct_num {c : Ct} (h : ownerOkB c.o = true) (h1 : -1000 ≤ c.n) (h2 : c.n ≤ 1000) : (Num c.o.a ∧ Num c.o.v ∧ Num c.n) ∧ c.o.f.size ≤ 8 := by
  simp only [ownerOkB, nameB, Bool.and_eq_true, decide_eq_true_eq] at h
  unfold Num
  omega
theorem ct_lenT {word : ByteArray} {c : Ct} (hw : word.size ≤ 4) (h : Num c.o.a ∧ Num c.o.v ∧ Num c.n) (hf : c.o.f.size ≤ 8) : (lineL (ctL word c)).length ≤ 60 := by
  have h1 := word_lenT (ctL word c)
  have := dec_num h.1
  have := dec_num h.2.1
  have := dec_num h.2.2
  unfold lineL
  simp [ctL] at h1 ⊢
  omega
theorem poolB_two {p : Po} (h : poolB p = true) : refsOkB p.rf = true ∧ lateOkB p.lt = true := by
  simp only [poolB, Bool.and_eq_true] at h
  have h1 := h.1.2
  by_cases hh : refsOkB p.rf = true ∧ lateOkB p.lt = true
  · exact hh
  · unfold flushedO at h1
    rw [if_neg hh] at h1
    cases h1
theorem numO_of {p : Po} (h : poolB p = true) : NumO p := by
  obtain ⟨v1, v2, v3, v4, _⟩ := poolB_vs h
  obtain ⟨s1, s2, s3, s4⟩ := ok_parts v4
  obtain ⟨r1, r2⟩ := poolB_two h
  have hnx : 1 ≤ p.next := by
    simp only [poolB, Bool.and_eq_true, decide_eq_true_eq] at h
    exact h.1.1.1.1.1.2
  have hE := xgo_eachT s4 (by omega)
  have hV := vgo_eachT v2 (by omega)
  simp only [refsOkB, Bool.and_eq_true, decide_eq_true_eq] at r1
  simp only [lateOkB, Bool.and_eq_true, decide_eq_true_eq, List.all_eq_true] at r2
  have hR : ∀ c ∈ p.rf, (Num c.o.a ∧ Num c.o.v ∧ Num c.n) ∧ c.o.f.size ≤ 8 := fun c hc => by
    have := rgo_all r1.2 c hc
    simp only [refB, Bool.and_eq_true, decide_eq_true_eq] at this
    exact ct_num this.1.1 (by omega) this.2
  have hL : ∀ c ∈ p.lt, (Num c.o.a ∧ Num c.o.v ∧ Num c.n) ∧ c.o.f.size ≤ 8 := fun c hc => by
    have := r2.2 c hc
    simp only [lateB, Bool.and_eq_true, decide_eq_true_eq] at this
    exact ct_num this.1.1.1 this.1.1.2 this.1.2
  have hs : Num p.size := ⟨by omega, by omega⟩
  have hn : Num p.next := ⟨by omega, by omega⟩
  have hX : ∀ e ∈ p.ex, Num e.a := fun e he => by have := hE e he; exact ⟨by omega, by omega⟩
  have hI : ∀ v ∈ p.vs, ∀ x ∈ v.its, NumP x.ps ∧ x.ps.length ≤ 16 ∧ x.nm.size ≤ 8 := fun v hv x hx => by
    obtain ⟨_, _, _, _, a5⟩ := hV v hv
    obtain ⟨b1, b2⟩ := igo_eachT a5 x hx
    simp only [partsOkB, Bool.and_eq_true, decide_eq_true_eq] at b2
    exact ⟨fun q hq => part_num (pgo_each b2.2 (by omega) q hq).1 (pgo_each b2.2 (by omega) q hq).2, b2.1, b1⟩
  refine ⟨hs, hn, hX, fun v hv => ⟨⟨by have := (hV v hv).1; omega, by have := (hV v hv).2.1; omega⟩, fun x hx => (hI v hv x hx).1, by have := (hV v hv).2.2.2.1; omega, fun x hx => by have := (hI v hv x hx).2.1; omega⟩, fun c hc => (hR c hc).1, fun c hc => (hL c hc).1, ?_⟩
  have t1 : (lineL (hdW p)).length ≤ 50 := by
    have h1 := word_lenT (hdW p)
    have := dec_num hs
    have := dec_num hn
    unfold lineL
    simp [hdW] at h1 ⊢
    have e4 : (ByteArray.mk #[112, 111, 111, 108]).size = 4 := rfl
    omega
  have t2 : (exsW p.ex).length ≤ p.ex.length * 60 := flat_lenT fun e he => by
    have h1 := word_lenT (exW e)
    have := dec_num (hX e he)
    have := (hE e he).2.2
    have e6 : (ByteArray.mk #[101, 120, 116, 101, 110, 116]).size = 6 := rfl
    show (lineL (exW e)).length ≤ _
    unfold lineL
    simp [exW] at h1 ⊢
    omega
  have t3 : (volsW p.vs).length ≤ p.vs.length * 8000 := flat_lenT fun v hv => by
    obtain ⟨a1, a2, a3, a4, _⟩ := hV v hv
    have h1 := word_lenT (voW v)
    have := dec_num (n := v.id) ⟨by omega, by omega⟩
    have e6 : (ByteArray.mk #[118, 111, 108, 117, 109, 101]).size = 6 := rfl
    have e1 : (flagB v.fx).size = 1 := by cases v.fx <;> rfl
    have i1 : (itsW v.its).length ≤ v.its.length * 1200 := flat_lenT fun x hx => by
      obtain ⟨b1, b2, b3⟩ := hI v hv x hx
      have p1 : (partsW x.ps).length ≤ x.ps.length * 60 := flat_lenT fun q hq => by
        obtain ⟨c1, c2, c3⟩ := b1 q hq
        have h1 := word_lenT (ptW q)
        have := dec_num c1
        have := dec_num c2
        have := dec_num c3
        have e4 : (ByteArray.mk #[112, 97, 114, 116]).size = 4 := rfl
        show (lineL (ptW q)).length ≤ _
        unfold lineL
        simp [ptW] at h1 ⊢
        omega
      have h1 := word_lenT [⟨#[102, 105, 108, 101]⟩, x.nm]
      have e4 : (ByteArray.mk #[102, 105, 108, 101]).size = 4 := rfl
      unfold itW lineL
      simp at h1 ⊢
      omega
    unfold volW lineL
    simp [voW] at h1 ⊢
    omega
  have t4 : (ctsW refW p.rf).length ≤ p.rf.length * 60 := flat_lenT fun c hc => ct_lenT (by decide) (hR c hc).1 (hR c hc).2
  have t5 : (ctsW lateW p.lt).length ≤ p.lt.length * 60 := flat_lenT fun c hc => ct_lenT (by decide) (hL c hc).1 (hL c hc).2
  unfold textW
  rw [List.length_append, List.length_append, List.length_append, List.length_append]
  have := r1.1
  have := r2.1
  omega
end Go.Proofs.YtigldeccfpkdmaaGreatDoor
namespace Go.Proofs.YtigldeccfpkdmaaGreatDoor
open Go
theorem name_no {d : ByteArray} (h : nameB d = true) : (32 : UInt8) ∉ d.data.toList ∧ (10 : UInt8) ∉ d.data.toList := by
  simp only [nameB, Bool.and_eq_true, List.all_eq_true] at h
  exact ⟨fun hm => by have := h.2 _ hm; revert this; decide, fun hm => by have := h.2 _ hm; revert this; decide⟩
theorem data_no {d : ByteArray} (h : dataOkB d = true) : (10 : UInt8) ∉ d.data.toList := fun hm => by
  simp only [dataOkB, plainB, Bool.and_eq_true, List.all_eq_true] at h
  have := h.2 _ hm
  revert this; decide
theorem xgo_eachN {size : Int} : ∀ {l : List Ex} {next : Int}, xgo size next l = true → ∀ e ∈ l, dataOkB e.d = true
  | [], _, _ => by simp
  | e :: r, next, h => by
    simp only [xgo, Bool.and_eq_true] at h
    intro x hx
    rcases List.mem_cons.1 hx with rfl | hx
    · exact h.1.1.1
    · exact xgo_eachN h.2 x hx
theorem vgo_eachN {next : Int} {e : List Ex} : ∀ {l : List Vo} {last : Int}, vgo next e last l = true → ∀ v ∈ l, nameB v.nm = true
  | [], _, _ => by simp
  | v :: r, last, h => by
    simp only [vgo, Bool.and_eq_true] at h
    intro x hx
    rcases List.mem_cons.1 hx with rfl | hx
    · exact h.1.1.2
    · exact vgo_eachN h.2 x hx
theorem igo_eachN {e : List Ex} : ∀ {l : List It} {q : Option It}, igo e q l = true → ∀ x ∈ l, nameB x.nm = true
  | [], _, _ => by simp
  | y :: r, q, h => by
    simp only [igo, Bool.and_eq_true] at h
    intro x hx
    rcases List.mem_cons.1 hx with rfl | hx
    · exact h.1.1.1
    · exact igo_eachN h.2 x hx
theorem part_ten {p : Pt} (h : partOkB p = true) (hn : p.n ≤ 100) : Ten p.a ∧ Ten p.f ∧ Ten p.n := by
  unfold partOkB at h
  unfold Ten
  split at h
  · rename_i ha
    simp only [Bool.and_eq_true, decide_eq_true_eq, beq_iff_eq] at h ha
    omega
  · simp only [Bool.and_eq_true, decide_eq_true_eq] at h
    omega
theorem ct_ten {c : Ct} (h : ownerOkB c.o = true) (h1 : -1000 ≤ c.n) (h2 : c.n ≤ 1000) : (Ten c.o.a ∧ Ten c.o.v ∧ Ten c.n) ∧ (32 : UInt8) ∉ c.o.f.data.toList ∧ (10 : UInt8) ∉ c.o.f.data.toList := by
  simp only [ownerOkB, Bool.and_eq_true, decide_eq_true_eq] at h
  exact ⟨by unfold Ten; omega, name_no h.2⟩
theorem nice_of {p : Po} (h : poolB p = true) : NiceP p := by
  obtain ⟨v1, v2, v3, v4, _⟩ := poolB_vs h
  obtain ⟨s1, s2, s3, s4⟩ := ok_parts v4
  obtain ⟨r1, r2⟩ := poolB_two h
  have hnx : 1 ≤ p.next := by
    simp only [poolB, Bool.and_eq_true, decide_eq_true_eq] at h
    exact h.1.1.1.1.1.2
  have hE := xgo_eachT s4 (by omega)
  have hV := vgo_eachT v2 (by omega)
  simp only [refsOkB, Bool.and_eq_true, decide_eq_true_eq] at r1
  simp only [lateOkB, Bool.and_eq_true, decide_eq_true_eq, List.all_eq_true] at r2
  refine ⟨⟨⟨by omega, by omega⟩, ⟨by omega, by omega⟩⟩, fun e he => ⟨by have := hE e he; exact ⟨by omega, by omega⟩, data_no (xgo_eachN s4 e he)⟩, fun v hv => ?_, fun c hc => ?_⟩
  · obtain ⟨a1, a2, _, _, a5⟩ := hV v hv
    refine ⟨⟨by omega, by omega⟩, name_no (vgo_eachN v2 v hv), fun x hx => ⟨name_no (igo_eachN a5 x hx), fun t ht => ?_⟩⟩
    obtain ⟨b1, b2⟩ := igo_eachT a5 x hx
    simp only [partsOkB, Bool.and_eq_true, decide_eq_true_eq] at b2
    exact part_ten (pgo_each b2.2 (by omega) t ht).1 (pgo_each b2.2 (by omega) t ht).2
  · rcases List.mem_append.1 hc with hc | hc
    · have := rgo_all r1.2 c hc
      simp only [refB, Bool.and_eq_true, decide_eq_true_eq] at this
      exact ct_ten this.1.1 (by omega) this.2
    · have := r2.2 c hc
      simp only [lateB, Bool.and_eq_true, decide_eq_true_eq] at this
      exact ct_ten this.1.1.1 this.1.1.2 this.1.2
/-- What is read of a text: a right pool's, or none. -/
noncomputable def readO (s : By) : Option Po := open Classical in if h : ∃ p, poolB p = true ∧ s = textW p then some (Classical.choose h) else none
theorem text_inj {p q : Po} (hp : poolB p = true) (hq : poolB q = true) (h : textW p = textW q) : p = q := by
  have h1 := readI_w (nice_of hp)
  rw [h, readI_w (nice_of hq)] at h1
  exact (Option.some.inj h1).symm
theorem readO_w {p : Po} (hp : poolB p = true) : readO (textW p) = some p := by
  unfold readO
  have h : ∃ q, poolB q = true ∧ textW p = textW q := ⟨p, hp, rfl⟩
  rw [dif_pos h]
  exact congrArg some (text_inj hp (Classical.choose_spec h).1 (Classical.choose_spec h).2).symm
theorem readO_n {s : By} (h : ∀ p, poolB p = true → s ≠ textW p) : readO s = none := by
  unfold readO
  rw [dif_neg]
  rintro ⟨p, h1, h2⟩
  exact h p h1 h2
theorem readI_o (s : By) : readO s = (readI s).bind fun p => if poolB p = true then some p else none := by
  cases hI : readI s with
  | none =>
    refine readO_n fun p hp e => ?_
    subst e
    rw [readI_w (nice_of hp)] at hI
    cases hI
  | some p =>
    have hs := readI_r hI
    by_cases hp : poolB p = true
    · rw [Option.bind_some, if_pos hp, hs, readO_w hp]
    · rw [Option.bind_some, if_neg hp]
      refine readO_n fun q hq e => ?_
      rw [e, readI_w (nice_of hq)] at hI
      obtain rfl := Option.some.inj hI
      exact hp hq
theorem textO_some {p : Po} (h : textO p ≠ ⟨#[]⟩) : poolB p = true ∧ textO p = bA (textW p) := by
  unfold textO at h ⊢
  split
  · next hp => exact ⟨hp, rfl⟩
  · next hp => rw [if_neg hp] at h; exact absurd rfl h
theorem readM_o (s : ByteArray) (hs : s.data.toList ≠ []) : readO s.data.toList = (readM s.data.toList).bind fun p => if textO p = s then some p else none := by
  have hne : s ≠ ⟨#[]⟩ := fun e => hs (by rw [e])
  cases hM : readM s.data.toList with
  | none =>
    refine readO_n fun p hp e => ?_
    rw [e, readM_w (nice_of hp)] at hM
    cases hM
  | some p =>
    rw [Option.bind_some]
    by_cases hp : textO p = s
    · obtain ⟨h1, h2⟩ := textO_some (p := p) (by rw [hp]; exact hne)
      rw [if_pos hp, ← hp, h2, bA_list, readO_w h1]
    · rw [if_neg hp]
      refine readO_n fun q hq e => ?_
      rw [e, readM_w (nice_of hq)] at hM
      obtain rfl := Option.some.inj hM
      refine hp ?_
      unfold textO
      rw [if_pos hq, ← e]
end Go.Proofs.YtigldeccfpkdmaaGreatDoor
namespace Go.Proofs.YtigldeccfpkdmaaGreatDoor
open Go.Shelf Go.RowKit Go.Lib
def spL_ren : Go.Shelf.Ren := ⟨fun | 146 => 93 | 221 => 159 | 268 => 199 | 138 => 200 | 143 => 201 | 195 => 231 | 197 => 232 | 218 => 233 | 219 => 191 | 260 => 258 | 217 => 222 | 225 => 223 | 224 => 224 | 267 => 225 | 266 => 251 | 314 => 252 | n => n, fun | 9 => 9 | 31 => 79 | 3 => 3 | 4 => 4 | 0 => 0 | 105 => 288 | 21 => 21 | 5 => 5 | 46 => 172 | 119 => 326 | 139 => 329 | 138 => 328 | 146 => 304 | 51 => 98 | n => n, fun | 1 => 1 | 3 => 5 | 4 => 6 | n => n⟩
set_option maxRecDepth 100000 in
theorem spL : Lays.n146 Tryz.prog spL_ren where
  mixed := by kernel_rfl
  f138 := Tryz.func200.trans (congrArg some (by kernel_rfl))
  f143 := Tryz.func201.trans (congrArg some (by kernel_rfl))
  f146 := Tryz.func93.trans (congrArg some (by kernel_rfl))
  f195 := Tryz.func231.trans (congrArg some (by kernel_rfl))
  f197 := Tryz.func232.trans (congrArg some (by kernel_rfl))
  f217 := Tryz.func222.trans (congrArg some (by kernel_rfl))
  f218 := Tryz.func233.trans (congrArg some (by kernel_rfl))
  f219 := Tryz.func191.trans (congrArg some (by kernel_rfl))
  f221 := Tryz.func159.trans (congrArg some (by kernel_rfl))
  f224 := Tryz.func224.trans (congrArg some (by kernel_rfl))
  f225 := Tryz.func223.trans (congrArg some (by kernel_rfl))
  f260 := Tryz.func258.trans (congrArg some (by kernel_rfl))
  f266 := Tryz.func251.trans (congrArg some (by kernel_rfl))
  f267 := Tryz.func225.trans (congrArg some (by kernel_rfl))
  f268 := Tryz.func199.trans (congrArg some (by kernel_rfl))
  f314 := Tryz.func252.trans (congrArg some (by kernel_rfl))
  t0 := Tryz.underlying0
  a0 := Tryz.isAgg0
  z0 := Tryz.sizeOf0
  v0 := Tryz.zeroValue0
  t3 := Tryz.underlying3
  a3 := Tryz.isAgg3
  z3 := Tryz.sizeOf3
  v3 := Tryz.zeroValue3
  t4 := Tryz.underlying4
  a4 := Tryz.isAgg4
  z4 := Tryz.sizeOf4
  v4 := Tryz.zeroValue4
  t5 := Tryz.underlying5
  a5 := Tryz.isAgg5
  z5 := Tryz.sizeOf5
  v5 := Tryz.zeroValue5
  t9 := Tryz.underlying9
  a9 := Tryz.isAgg9
  z9 := Tryz.sizeOf9
  v9 := Tryz.zeroValue9
  t21 := Tryz.underlying21
  a21 := Tryz.isAgg21
  z21 := Tryz.sizeOf21
  v21 := Tryz.zeroValue21
  t31 := Tryz.underlying79
  a31 := Tryz.isAgg79
  z31 := Tryz.sizeOf79
  v31 := Tryz.zeroValue79
  t46 := Tryz.underlying172
  a46 := Tryz.isAgg172
  z46 := Tryz.sizeOf172
  v46 := Tryz.zeroValue172
  t51 := Tryz.underlying98
  a51 := Tryz.isAgg98
  z51 := Tryz.sizeOf98
  v51 := Tryz.zeroValue98
  t105 := Tryz.underlying288
  a105 := Tryz.isAgg288
  z105 := Tryz.sizeOf288
  v105 := Tryz.zeroValue288
  t119 := Tryz.underlying326
  a119 := Tryz.isAgg326
  z119 := Tryz.sizeOf326
  t138 := Tryz.underlying328
  a138 := Tryz.isAgg328
  z138 := Tryz.sizeOf328
  v138 := Tryz.zeroValue328
  t139 := Tryz.underlying329
  a139 := Tryz.isAgg329
  z139 := Tryz.sizeOf329
  v139 := Tryz.zeroValue329
  t146 := Tryz.underlying304
  a146 := Tryz.isAgg304
  z146 := Tryz.sizeOf304
  v146 := Tryz.zeroValue304
  g1 := by kernel_rfl
  g3 := by kernel_rfl
  g4 := by kernel_rfl
end Go.Proofs.YtigldeccfpkdmaaGreatDoor
namespace Go.Proofs.YtigldeccfpkdmaaGreatDoor
open Go Go.RowKit Go.BigFrame
theorem cat_mem : ∀ {ls : List By} {l : By}, l ∈ ls → l.length + 1 ≤ (catL ls).length
  | a :: ls, l, h => by
    rw [catL_cons]
    rcases List.mem_cons.1 h with rfl | h
    · simp
    · have := cat_mem h
      simp; omega
theorem cat_len : ∀ (ls : List By), ls.length ≤ (catL ls).length
  | [] => Nat.zero_le _
  | a :: ls => by
    rw [catL_cons]
    have := cat_len ls
    simp; omega
theorem flat_mem {α β : Type} {f : α → List β} : ∀ {l : List α} {x : α}, x ∈ l → (f x).length ≤ (l.flatMap f).length
  | a :: l, x, h => by
    rcases List.mem_cons.1 h with rfl | h
    · simp
    · have := flat_mem (f := f) h
      simp at this ⊢; omega
theorem flat_cnt {α β : Type} {f : α → List β} : ∀ (l : List α), (∀ x ∈ l, 1 ≤ (f x).length) → l.length ≤ (l.flatMap f).length
  | [], _ => Nat.zero_le _
  | a :: l, h => by
    have h1 := h a (by simp)
    have h2 := flat_cnt l (fun x hx => h x (by simp [hx]))
    simp at h2 ⊢; omega
theorem jo_mem : ∀ {l : List By} {x : By}, x ∈ l → x.length ≤ (joW l).length
  | [a], x, h => by simp at h; subst h; exact Nat.le_refl _
  | a :: b :: l, x, h => by
    show _ ≤ (a ++ 32 :: joW (b :: l)).length
    rcases List.mem_cons.1 h with rfl | h
    · simp
    · have := jo_mem h
      simp; omega
theorem dim_text {p : Po} (h : (textW p).length ≤ 60000) : DimP p := by
  rw [text_lines] at h
  have hc := cat_len (poLn p)
  have hm : ∀ l ∈ poLn p, l.length ≤ 60000 := fun l hl => by have := cat_mem hl; omega
  have hL : (poLn p).length ≤ 60000 := by omega
  have hvl : (p.vs.flatMap voLn).length ≤ 60000 := by
    have e : poLn p = joW [poolK, Lib.itoa p.size, Lib.itoa p.next] :: (p.ex.map exLn ++ (p.vs.flatMap voLn ++ (p.rf.map (ctLn refK) ++ p.lt.map (ctLn lateK)))) := by simp [poLn]
    rw [e] at hL
    simp only [List.length_cons, List.length_append] at hL
    omega
  have e : poLn p = joW [poolK, Lib.itoa p.size, Lib.itoa p.next] :: (p.ex.map exLn ++ (p.vs.flatMap voLn ++ (p.rf.map (ctLn refK) ++ p.lt.map (ctLn lateK)))) := by simp [poLn]
  have hL2 := hL
  rw [e] at hL2
  simp only [List.length_cons, List.length_append, List.length_map] at hL2
  have hw : ∀ (x : ByteArray) (l : By), l ∈ poLn p → x.data.toList.length ≤ l.length → x.size ≤ 9223372036854775807 := fun x l hl hx => by
    have := hm l hl
    rw [Lib.size_eq]
    omega
  have hvm : ∀ v ∈ p.vs, ∀ l ∈ voLn v, l ∈ poLn p := fun v hv l hl => by
    rw [e]
    simp only [List.mem_cons, List.mem_append, List.mem_flatMap]
    exact .inr (.inr (.inl ⟨v, hv, hl⟩))
  refine ⟨by omega, fun x hx => ?_, ?_, fun v hv => ⟨?_, ?_, fun x hx => ⟨?_, ?_⟩⟩, by omega, fun c hc' => ?_, by omega, fun c hc' => ?_⟩
  · exact hw _ (exLn x) (by rw [e]; simp only [List.mem_cons, List.mem_append, List.mem_map]; exact .inr (.inl ⟨x, hx, rfl⟩)) (jo_mem (l := [exK, Lib.itoa x.a, x.d.data.toList]) (by simp))
  · have := flat_cnt (f := voLn) p.vs (fun v _ => by simp [voLn])
    omega
  · exact hw _ (joW [volK, Lib.itoa v.id, v.nm.data.toList, flagL v.fx]) (hvm v hv _ (by simp [voLn])) (jo_mem (by simp))
  · have h1 := flat_mem (f := voLn) hv
    have h2 := flat_cnt (f := itLn) v.its (fun x _ => by simp [itLn])
    have h3 : (voLn v).length = 1 + (v.its.flatMap itLn).length := by simp [voLn]; omega
    omega
  · exact hw _ (joW [fileK, x.nm.data.toList]) (hvm v hv _ (by simp only [voLn, List.mem_cons, List.mem_flatMap]; exact .inr ⟨x, hx, by simp [itLn]⟩)) (jo_mem (by simp))
  · have h1 := flat_mem (f := voLn) hv
    have h2 := flat_mem (f := itLn) hx
    have h3 : (voLn v).length = 1 + (v.its.flatMap itLn).length := by simp [voLn]; omega
    have h4 : (itLn x).length = 1 + x.ps.length := by simp [itLn]; omega
    omega
  · exact hw _ (ctLn refK c) (by rw [e]; simp only [List.mem_cons, List.mem_append, List.mem_map]; exact .inr (.inr (.inr (.inl ⟨c, hc', rfl⟩)))) (jo_mem (l := [refK, Lib.itoa c.o.a, Lib.itoa c.o.v, c.o.f.data.toList, Lib.itoa c.n]) (by simp))
  · exact hw _ (ctLn lateK c) (by rw [e]; simp only [List.mem_cons, List.mem_append, List.mem_map]; exact .inr (.inr (.inr (.inr ⟨c, hc', rfl⟩)))) (jo_mem (l := [lateK, Lib.itoa c.o.a, Lib.itoa c.o.v, c.o.f.data.toList, Lib.itoa c.n]) (by simp))
theorem splC_len (c : UInt8) : ∀ (k : Nat) (l : By), (splC c k l).length ≤ l.length + 1
  | 0, l => by simp [splC]
  | k + 1, l => by
    rw [splC]
    cases hc : cutB c l with
    | none => simp
    | some q =>
      have h1 := splC_len c k q.2
      have h2 := cut_short hc
      simp only [List.length_cons]
      omega
set_option maxHeartbeats 4000000 in
set_option maxRecDepth 100000 in
theorem impl_readerOf (s : ByteArray) (w : World) (hs : s.size ≤ 60000) (hG : Glb w) :
    Calls Tryz.prog 39 #[.string s] w fun e w' => (match lnsB s.data.toList.length s.data.toList with
      | none => Pan e
      | some ls => ∃ rb, e = .returned (.pointer (some ⟨rb, 0, none⟩)) ∧ w.heap.size ≤ rb ∧ RdAt w' rb ls ∧ ls.length ≤ 60000) ∧ Below w.heap.size w w' := by
  obtain ⟨m, hm⟩ := hG.mx
  have q := Any.strings_Split spL infT9 s ⟨#[10]⟩ m w (by omega) hm (by decide)
  have hlen := Lib.splitB_all ⟨#[10]⟩ (by decide) 0 _ s rfl
  rw [← hlen, splitB_lines, List.length_map] at q
  clear hlen
  obtain ⟨hS1, hS2⟩ := lns_split s.data.toList.length s.data.toList (Nat.le_refl _)
  cases hL : lnsB s.data.toList.length s.data.toList with
  | none =>
    obtain ⟨a, x, e, hx⟩ := hS2 hL
    rw [e] at q
    have hal : (a ++ [x]).length = a.length + 1 := by simp
    rw [hal] at q
    have hal2 : a.length ≤ 60000 := by have := splC_len 10 s.data.toList.length s.data.toList; rw [e, hal] at this; rw [Lib.size_eq] at hs; omega
    go_enter Tryz.func39, Tryz.ntmps39
    go_wp2_with fail
    refine q.mono ?_
    rintro e w1 ⟨rfl, hw1⟩
    have hB1 : Below w.heap.size w w1 := by rw [hw1]; go_grown
    have LB : Blk w1 w.heap.size (((a ++ [x]).map bA).map Value.string).toArray 9 := by rw [hw1]; exact Blk.new _ _ _
    have c1 : w1.cell? ⟨w.heap.size, a.length, none⟩ = some (.string (bA x)) := by rw [LB.cell]; simp
    have hxe : (bA x).toList.isEmpty = false := Bool.eq_false_iff.2 fun e => hx (by rw [ByteArray.toList_eq, bA_list] at e; exact List.isEmpty_iff.1 e)
    have hxp : ¬ (bA x).toList = [] := fun e => hx (by rw [ByteArray.toList_eq, bA_list] at e; exact e)
    obtain ⟨tp, pe, hE⟩ := (hG.below hB1).err
    clear hw1 LB q hS1 hS2 hL hx
    generalize bA x = xx at *
    go_wp2
    exact ⟨rfl, ⟨tp, pe, rfl⟩, hB1⟩
  | some ls =>
    have e := hS1 ls hL
    rw [e] at q
    have hal : (ls ++ [[]]).length = ls.length + 1 := by simp
    rw [hal] at q
    obtain ⟨hc, _⟩ := lnsB_some hL
    have hll : ls.length ≤ 60000 := by have := cat_len ls; rw [← hc] at this; rw [Lib.size_eq] at hs; omega
    have hls : ∀ l ∈ ls, l.length ≤ 60000 := fun l hl => by have := cat_mem hl; rw [← hc] at this; rw [Lib.size_eq] at hs; omega
    go_enter Tryz.func39, Tryz.ntmps39
    go_wp2_with fail
    refine q.mono ?_
    rintro e w1 ⟨rfl, hw1⟩
    have hB1 : Below w.heap.size w w1 := by rw [hw1]; go_grown
    have LB : Blk w1 w.heap.size (((ls ++ [[]]).map bA).map Value.string).toArray 9 := by rw [hw1]; exact Blk.new _ _ _
    have c1 : w1.cell? ⟨w.heap.size, ls.length, none⟩ = some (.string ⟨#[]⟩) := by rw [LB.cell]; simp; rfl
    clear hw1 q hS1 hS2 hL
    go_wp2
    have hA : Below w1.heap.size w1 (w1.alloc (.cells #[.slice (some ⟨w.heap.size, 0, none⟩) ls.length (ls.length + 1)] tRd)) := (Below.refl _ _).alloc (Nat.le_refl _) _
    have RB := Blk.new w1 #[.slice (some ⟨w.heap.size, 0, none⟩) ls.length (ls.length + 1)] tRd
    go_returns
    refine ⟨⟨w1.heap.size, rfl, hB1.size, ⟨w.heap.size, 0, ls.length + 1, _, RB, LB.below hA, ?_, by omega, by omega, hls⟩, hll⟩, chain hB1 hA⟩
    simp [strV, Function.comp_def]
end Go.Proofs.YtigldeccfpkdmaaGreatDoor
namespace Go.Proofs.YtigldeccfpkdmaaGreatDoor
open Go.RowKit Go.BigFrame
theorem PoolAt.cells {B : Nat} {w : World} {v : Value} {p : Po} (h : PoolAt B w v p) : ∃ ea en ec va vn vc ra rn rc la ln lc, v = .agg #[.int .i64 p.size, .int .i64 p.next, .slice ea en ec, .slice va vn vc, .slice ra rn rc, .slice la ln lc] := by
  obtain ⟨ea, en, ec, va, vn, vc, ra, rn, rc, la, ln, lc, rfl, _⟩ := h
  exact ⟨_, _, _, _, _, _, _, _, _, _, _, _, rfl⟩
end Go.Proofs.YtigldeccfpkdmaaGreatDoor
