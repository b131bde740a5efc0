/- At every pool the program's PoolText answers as its model does, and writes nothing into its argument: the row, the tied card. -/
import Derived.Test.YtlpdibaldhficaaGreatDoorLPoolTextx26
import Derived.Test.YtlpdibaldhficaaGreatDoorRows
import Derived.Lib.SmallJoins
import Derived.Test.YtlpdibaldhficaaGreatDoorLPoolTextx00
import Derived.Test.YtlpdibaldhficaaGreatDoorLPoolTextx20
import Derived.Test.YtlpdibaldhficaaGreatDoorCards
import Derived.Test.YtlpdibaldhficaaGreatDoorTie
import Derived.ChangeSame
import Derived.ChangeVars
import Derived.JoinedOf
import Derived.RowKitTokens
import Derived.LaidLaws
import Derived.LaidHandle
import Derived.Lib.LaidTab
import Derived.SevenTiedAt
namespace Go.Proofs.YtlpdibaldhficaaGreatDoor
open Go Go.RowKit Go.BigFrame Go.Shelf
theorem xgo_eachT {size : Int} : ∀ {l : List Ex} {next : Int}, xgo size next l = true → 1 ≤ next → ∀ e ∈ l, 1 ≤ e.a ∧ e.a ≤ size + 1 ∧ e.d.size ≤ 20
  | [], _, _, _ => by simp
  | e :: r, next, h, h1 => by
    simp only [xgo, dataOkB, Bool.and_eq_true, decide_eq_true_eq] at h
    intro x hx
    rcases List.mem_cons.1 hx with rfl | hx
    · omega
    · exact xgo_eachT h.2 (by omega) x hx
theorem vgo_eachT {next : Int} {e : List Ex} : ∀ {l : List Vo} {last : Int}, vgo next e last l = true → 0 ≤ last → ∀ v ∈ l, 0 < v.id ∧ v.id < next ∧ v.nm.size ≤ 8 ∧ v.its.length ≤ 5 ∧ igo e none v.its = true
  | [], _, _, _ => by simp
  | v :: r, last, h, h1 => by
    simp only [vgo, itemsB, nameB, Bool.and_eq_true, decide_eq_true_eq] at h
    obtain ⟨⟨⟨⟨a1, a2⟩, a3⟩, a4⟩, a5⟩ := h
    intro x hx
    rcases List.mem_cons.1 hx with rfl | hx
    · exact ⟨by omega, a2, a3.1.2, a4.1, a4.2⟩
    · exact vgo_eachT a5 (by omega) x hx
theorem igo_eachT {e : List Ex} : ∀ {l : List It} {q : Option It}, igo e q l = true → ∀ x ∈ l, x.nm.size ≤ 8 ∧ partsOkB x.ps = true
  | [], _, _ => by simp
  | y :: r, q, h => by
    simp only [igo, nameB, Bool.and_eq_true, decide_eq_true_eq] at h
    obtain ⟨⟨⟨a1, _⟩, a3⟩, a4⟩ := h
    intro x hx
    rcases List.mem_cons.1 hx with rfl | hx
    · refine ⟨a1.1.2, ?_⟩
      unfold contentO at a3
      split at a3
      · rename_i h; exact h.1
      · cases a3
    · exact igo_eachT a4 x hx
theorem part_num {p : Pt} (h : partOkB p = true) (hn : p.n ≤ 100) : Num p.a ∧ Num p.f ∧ Num p.n := by
  unfold partOkB at h
  unfold Num
  split at h
  · rename_i ha
    simp only [Bool.and_eq_true, decide_eq_true_eq, beq_iff_eq] at h ha
    omega
  · simp only [Bool.and_eq_true, decide_eq_true_eq] at h
    omega
theorem word_lenT : ∀ (l : List ByteArray), (wordL l).length ≤ (l.map (fun x => x.size + 1)).sum
  | [] => by unfold wordL; simp [Lib.join]
  | [a] => by rw [word_one]; simp
  | a :: b :: l => by
    rw [word_step]
    have := word_lenT (b :: l)
    simp at this ⊢
    omega
theorem flat_lenT {α : Type} {f : α → List UInt8} {m : Nat} : ∀ {l : List α}, (∀ x ∈ l, (f x).length ≤ m) → (l.flatMap f).length ≤ l.length * m
  | [], _ => by simp
  | x :: r, h => by
    have h1 := h x (by simp)
    have h2 := flat_lenT (l := r) fun y hy => h y (by simp [hy])
    rw [List.flatMap_cons, List.length_append, List.length_cons, Nat.add_mul]
    omega
theorem dec_num {n : Int} (h : Num n) : (decB n).size ≤ 13 := decB_size h.1 h.2
theorem ct_num {c : Ct} (h : ownerOkB c.o = true) (h1 : -1000 ≤ c.n) (h2 : c.n ≤ 1000) : (Num c.o.a ∧ Num c.o.v ∧ Num c.n) ∧ c.o.f.size ≤ 8 := by
  simp only [ownerOkB, nameB, Bool.and_eq_true, decide_eq_true_eq] at h
  unfold Num
  omega
theorem ct_lenT {word : ByteArray} {c : Ct} (hw : word.size ≤ 4) (h : Num c.o.a ∧ Num c.o.v ∧ Num c.n) (hf : c.o.f.size ≤ 8) : (lineL (ctL word c)).length ≤ 60 := by
  have h1 := word_lenT (ctL word c)
  have := dec_num h.1
  have := dec_num h.2.1
  have := dec_num h.2.2
  unfold lineL
  simp [ctL] at h1 ⊢
  omega
theorem poolB_two {p : Po} (h : poolB p = true) : refsOkB p.rf = true ∧ lateOkB p.lt = true := by
  simp only [poolB, Bool.and_eq_true] at h
  have h1 := h.1.2
  by_cases hh : refsOkB p.rf = true ∧ lateOkB p.lt = true
  · exact hh
  · unfold flushedO at h1
    rw [if_neg hh] at h1
    cases h1
theorem numO_of {p : Po} (h : poolB p = true) : NumO p := by
  obtain ⟨v1, v2, v3, v4, _⟩ := poolB_vs h
  obtain ⟨s1, s2, s3, s4⟩ := ok_parts v4
  obtain ⟨r1, r2⟩ := poolB_two h
  have hnx : 1 ≤ p.next := by
    simp only [poolB, Bool.and_eq_true, decide_eq_true_eq] at h
    exact h.1.1.1.1.1.2
  have hE := xgo_eachT s4 (by omega)
  have hV := vgo_eachT v2 (by omega)
  simp only [refsOkB, Bool.and_eq_true, decide_eq_true_eq] at r1
  simp only [lateOkB, Bool.and_eq_true, decide_eq_true_eq, List.all_eq_true] at r2
  have hR : ∀ c ∈ p.rf, (Num c.o.a ∧ Num c.o.v ∧ Num c.n) ∧ c.o.f.size ≤ 8 := fun c hc => by
    have := rgo_all r1.2 c hc
    simp only [refB, Bool.and_eq_true, decide_eq_true_eq] at this
    exact ct_num this.1.1 (by omega) this.2
  have hL : ∀ c ∈ p.lt, (Num c.o.a ∧ Num c.o.v ∧ Num c.n) ∧ c.o.f.size ≤ 8 := fun c hc => by
    have := r2.2 c hc
    simp only [lateB, Bool.and_eq_true, decide_eq_true_eq] at this
    exact ct_num this.1.1.1 this.1.1.2 this.1.2
  have hs : Num p.size := ⟨by omega, by omega⟩
  have hn : Num p.next := ⟨by omega, by omega⟩
  have hX : ∀ e ∈ p.ex, Num e.a := fun e he => by have := hE e he; exact ⟨by omega, by omega⟩
  have hI : ∀ v ∈ p.vs, ∀ x ∈ v.its, NumP x.ps ∧ x.ps.length ≤ 16 ∧ x.nm.size ≤ 8 := fun v hv x hx => by
    obtain ⟨_, _, _, _, a5⟩ := hV v hv
    obtain ⟨b1, b2⟩ := igo_eachT a5 x hx
    simp only [partsOkB, Bool.and_eq_true, decide_eq_true_eq] at b2
    exact ⟨fun q hq => part_num (pgo_each b2.2 (by omega) q hq).1 (pgo_each b2.2 (by omega) q hq).2, b2.1, b1⟩
  refine ⟨hs, hn, hX, fun v hv => ⟨⟨by have := (hV v hv).1; omega, by have := (hV v hv).2.1; omega⟩, fun x hx => (hI v hv x hx).1, by have := (hV v hv).2.2.2.1; omega, fun x hx => by have := (hI v hv x hx).2.1; omega⟩, fun c hc => (hR c hc).1, fun c hc => (hL c hc).1, ?_⟩
  have t1 : (lineL (hdW p)).length ≤ 50 := by
    have h1 := word_lenT (hdW p)
    have := dec_num hs
    have := dec_num hn
    unfold lineL
    simp [hdW] at h1 ⊢
    have e4 : (ByteArray.mk #[112, 111, 111, 108]).size = 4 := rfl
    omega
  have t2 : (exsW p.ex).length ≤ p.ex.length * 60 := flat_lenT fun e he => by
    have h1 := word_lenT (exW e)
    have := dec_num (hX e he)
    have := (hE e he).2.2
    have e6 : (ByteArray.mk #[101, 120, 116, 101, 110, 116]).size = 6 := rfl
    show (lineL (exW e)).length ≤ _
    unfold lineL
    simp [exW] at h1 ⊢
    omega
  have t3 : (volsW p.vs).length ≤ p.vs.length * 8000 := flat_lenT fun v hv => by
    obtain ⟨a1, a2, a3, a4, _⟩ := hV v hv
    have h1 := word_lenT (voW v)
    have := dec_num (n := v.id) ⟨by omega, by omega⟩
    have e6 : (ByteArray.mk #[118, 111, 108, 117, 109, 101]).size = 6 := rfl
    have e1 : (flagB v.fx).size = 1 := by cases v.fx <;> rfl
    have i1 : (itsW v.its).length ≤ v.its.length * 1200 := flat_lenT fun x hx => by
      obtain ⟨b1, b2, b3⟩ := hI v hv x hx
      have p1 : (partsW x.ps).length ≤ x.ps.length * 60 := flat_lenT fun q hq => by
        obtain ⟨c1, c2, c3⟩ := b1 q hq
        have h1 := word_lenT (ptW q)
        have := dec_num c1
        have := dec_num c2
        have := dec_num c3
        have e4 : (ByteArray.mk #[112, 97, 114, 116]).size = 4 := rfl
        show (lineL (ptW q)).length ≤ _
        unfold lineL
        simp [ptW] at h1 ⊢
        omega
      have h1 := word_lenT [⟨#[102, 105, 108, 101]⟩, x.nm]
      have e4 : (ByteArray.mk #[102, 105, 108, 101]).size = 4 := rfl
      unfold itW lineL
      simp at h1 ⊢
      omega
    unfold volW lineL
    simp [voW] at h1 ⊢
    omega
  have t4 : (ctsW refW p.rf).length ≤ p.rf.length * 60 := flat_lenT fun c hc => ct_lenT (by decide) (hR c hc).1 (hR c hc).2
  have t5 : (ctsW lateW p.lt).length ≤ p.lt.length * 60 := flat_lenT fun c hc => ct_lenT (by decide) (hL c hc).1 (hL c hc).2
  unfold textW
  rw [List.length_append, List.length_append, List.length_append, List.length_append]
  have := r1.1
  have := r2.1
  omega
end Go.Proofs.YtlpdibaldhficaaGreatDoor
namespace Go.Proofs.YtlpdibaldhficaaGreatDoor
open Go.ChangeShapes Go.WideShapes Go.ChangeAt Go.RowKit Go.Deep Go.Joins
set_option maxHeartbeats 4000000 in
set_option maxRecDepth 100000 in
theorem walkPoolText (v : Value) (p : Po) (w : World) (h : PoolAt 0 w v p) (hb : BigP p) (ht : TabP w) (hg : 4 ≤ w.heap.size) :
    Calls Tryz.prog 3 #[v] w fun e w' => e = .returned (.bool true) ∧ Below w.heap.size w w' := by
  have hN : poolB p = true → NumO p := numO_of
  obtain ⟨ea, en, ec, va, vn, vc, ra, rn, rc, la, ln, lc, rfl⟩ := h.cells
  have C := (Blk.new w #[.int .i64 p.size, .int .i64 p.next, .slice ea en ec, .slice va vn vc, .slice ra rn rc, .slice la ln lc] 26)
  have hB0 : Below w.heap.size w (w.alloc (.cells #[.int .i64 p.size, .int .i64 p.next, .slice ea en ec, .slice va vn vc, .slice ra rn rc, .slice la ln lc] 26)) := by go_grown
  go_enter Tryz.func3, Tryz.ntmps3
  go_wp2_with fail
  generalize w.alloc (.cells #[.int .i64 p.size, .int .i64 p.next, .slice ea en ec, .slice va vn vc, .slice ra rn rc, .slice la ln lc] 26) = W0 at *
  refine (laws_szPool 0 _ p _ (h.below hB0) hb).mono ?_
  rintro e w1 ⟨⟨r, rfl, hr⟩, hB1⟩
  have C1 := C.below hB1
  replace hB1 := chain hB0 hB1
  clear C hB0
  rcases hr with rfl | ⟨r0, r1, hs⟩
  · go_wp2
    go_returns
    exact ⟨rfl, hB1⟩
  · have hd := hs.dim
    obtain ⟨d0, d1, d2, d3, d4, d5⟩ := C1.six
    go_wp2_with fail
    refine (laws_toPool 0 _ p _ (h.below hB1) hs).mono ?_
    rintro e w2 ⟨⟨v2, rfl, P2⟩, hB2⟩
    have C2 := C1.below hB2
    replace hB2 := chain hB1 hB2
    clear d0 d1 d2 d3 d4 d5 C1 hB1
    go_wp2_with fail
    refine (spec_PoolText _ (by omega) v2 p _ P2 hd hN).mono ?_
    rintro e w3 ⟨rfl, hB3⟩
    have C3 := C2.below hB3
    replace hB3 := chain hB2 hB3
    clear C2 hB2 P2
    obtain ⟨d0, d1, d2, d3, d4, d5⟩ := C3.six
    go_wp2_with fail
    refine (laws_toPool 0 _ p _ (h.below hB3) hs).mono ?_
    rintro e w4 ⟨⟨v4, rfl, P4⟩, hB4⟩
    have C4 := C3.below hB4
    replace hB4 := chain hB3 hB4
    clear d0 d1 d2 d3 d4 d5 C3 hB3
    obtain ⟨ea4, en4, ec4, va4, vn4, vc4, ra4, rn4, rc4, la4, ln4, lc4, rfl⟩ := P4.cells
    have X4 := (Blk.new w4 #[.int .i64 p.size, .int .i64 p.next, .slice ea4 en4 ec4, .slice va4 vn4 vc4, .slice ra4 rn4 rc4, .slice la4 ln4 lc4] 33)
    have hB4' : Below w4.heap.size w4 (w4.alloc (.cells #[.int .i64 p.size, .int .i64 p.next, .slice ea4 en4 ec4, .slice va4 vn4 vc4, .slice ra4 rn4 rc4, .slice la4 ln4 lc4] 33)) := by go_grown
    go_wp2_with fail
    generalize w4.alloc (.cells #[.int .i64 p.size, .int .i64 p.next, .slice ea4 en4 ec4, .slice va4 vn4 vc4, .slice ra4 rn4 rc4, .slice la4 ln4 lc4] 33) = W4 at *
    have P5 := P4.below hB4'
    have C5 := C4.below hB4'
    have hB5 := chain hB4 hB4'
    clear C4 hB4 hB4' P4
    refine (impl_PoolText _ _ p _ P5 hd hN (tab_low ht hB5 hg) (by have := hB5.size; omega)).mono ?_
    rintro e w5 ⟨rfl, hB6⟩
    generalize textO p = T at *
    have hbb : (T.toList != T.toList) = false := by simp
    have P6 := P5.below hB6
    have C6 := (C5.below hB6).drew
    have X6 := (X4.below hB6).drew
    replace hB6 : Below w.heap.size w w5.drew := (chain hB5 hB6).drew
    clear C5 X4 P5 hB5
    have P6' := P6.below (Below.refl _ _).drew
    obtain ⟨d0, d1, d2, d3, d4, d5⟩ := C6.six
    obtain ⟨x0, x1, x2, x3, x4, x5⟩ := X6.six
    go_wp2_with fail
    go_region_with (first
      | (go_at_call 8; refine (laws_eqPool _ _ _ _ p _ (P6'.below hB7) P7 hs).mono ?_; rintro e w8 ⟨rfl, hB8⟩)
      | (go_at_call 6; refine (laws_toPool 0 _ p _ (h.below hB6) hs).mono ?_; rintro e w7 ⟨⟨v7, rfl, P7⟩, hB7⟩; obtain ⟨ea7, en7, ec7, va7, vn7, vc7, ra7, rn7, rc7, la7, ln7, lc7, rfl⟩ := P7.cells; obtain ⟨y0, y1, y2, y3, y4, y5⟩ := (X6.below hB7).six))
    all_goals go_wp2
    all_goals go_returns
    all_goals exact ⟨rfl, chain (chain hB6 hB7) hB8⟩
end Go.Proofs.YtlpdibaldhficaaGreatDoor
namespace Go.Proofs.YtlpdibaldhficaaGreatDoor
open Go.ChangeShapes Go.WideShapes Go.ChangeAt Go.RowKit Go.Deep Go.Joins
theorem laid_tailT {P : Program} {x : String × DataW Unit} {r : List (String × DataW Unit)} {w : World} (h : laidMet P (x :: r) w) : laidMet P r w := by
  obtain ⟨ps, hv, hnd, hrows⟩ := h
  obtain ⟨n, d⟩ := x
  obtain ⟨g, t, cs, fuel, p, q, a1, a2, a3, a4, b5, rfl⟩ := hv
  have hs : q.Sublist (MemPlace.row ⟨g, 0, none⟩ cs.size ++ p ++ q) := List.sublist_append_right _ _
  exact ⟨q, b5, hnd.sublist hs, fun b off hm => hrows b off (hs.subset hm)⟩
theorem tabIs_ltT {W : World} {zs : List Int} {k : IntKind} {name : String} {g : Nat} (hg : Tryz.prog.globalNamed name = some g) (h : Lib.TabIs Tryz.prog W name k zs) (h0 : 0 < zs.length) : g < W.heap.size := by
  have := h.cell hg 0 h0
  unfold World.cell? at this
  by_cases hl : g < W.heap.size
  · exact hl
  · simp [Array.getElem?_eq_none (Nat.le_of_not_lt hl)] at this
def tabZ : DataW Unit → List Int
  | .agg l => l.map fun | .lit (.int _ n) => n | _ => 0
  | _ => []
theorem tab_ofT {W : World} (h : laidMetH Tryz.prog Rows.fnExactPoolTextRow.laid W) : TabP W ∧ 4 ≤ W.heap.size := by
  have h' : laidMet Tryz.prog Rows.fnExactPoolTextRow.laid W := h
  have h2 : laidMet Tryz.prog (("math/bits.deBruijn64tab", Lib.tabData .u8 (tabZ Rows.laid_math_bits_deBruijn64tab)) :: [("internal/strconv.uint64pow10", Rows.laid_internal_strconv_uint64pow10)]) W := laid_tailT h'
  have h3 : laidMet Tryz.prog (("internal/strconv.uint64pow10", Lib.tabData .u64 Lib.pow10Tab) :: []) W := laid_tailT h2
  have g2 : Tryz.prog.globalNamed "math/bits.deBruijn64tab" = some 3 := by kernel_rfl
  have t2 : Lib.TabIs Tryz.prog W "math/bits.deBruijn64tab" .u8 (tabZ Rows.laid_math_bits_deBruijn64tab) := Lib.tabIs_of_head (n := 64) (e := 5) (t := 191) (g := 3) g2 (by kernel_rfl) (by kernel_rfl) Tryz.underlying5 (by kernel_rfl) (by kernel_rfl) h2
  have := tabIs_ltT g2 t2 (by decide)
  exact ⟨Lib.tabIs_of_head (n := 20) (e := 148) (t := 166) (g := 0) (by kernel_rfl) (by kernel_rfl) (by kernel_rfl) (by kernel_rfl) (by kernel_rfl) (by kernel_rfl) h3, this⟩
/-- A world that meets the condition. -/
def tabC (k : IntKind) (d : DataW Unit) : Array Value := ((tabZ d).map fun z => Value.int k z).toArray
noncomputable def laidWorldT (os : Os) : World :=
  let w0 := World.holding Tryz.prog os ⟨#[], #[], []⟩
  { w0 with heap := ((w0.heap.modify 2 fun
      | .cells _ t frozen => .cells (tabC .u8 Rows.laid_math_bits_deBruijn32tab) t frozen
      | o => o).modify 3 fun
      | .cells _ t frozen => .cells (tabC .u8 Rows.laid_math_bits_deBruijn64tab) t frozen
      | o => o).modify 0 fun
      | .cells _ t frozen => .cells (tabC .u64 Rows.laid_internal_strconv_uint64pow10) t frozen
      | o => o }
theorem laidWorldT_met (os : Os) (args : Array Value) : laidMetH Tryz.prog Rows.fnExactPoolTextRow.laid ((laidWorldT os).forCall (fun _ _ => 0) ⟨#[], args, []⟩).memory :=
  show laidMet Tryz.prog Rows.fnExactPoolTextRow.laid _ from laidMet_of_run' 8 (by kernel_rfl) (by kernel_rfl)
set_option maxRecDepth 100000 in
theorem liftedPoolText (os : Os) (started : os.Started) (H : Type) (enc : TypeId × Value → H) :
    ReturnsInHanded {} Tryz.checked os 3 .any (fun w args => (Rows.fnExactPoolTextSpec.pre enc Tryz.prog Tryz.f3 [] false w args ∧ laidMetH Tryz.prog Rows.fnExactPoolTextRow.laid w) ∧ sizedMet enc Tryz.prog Tryz.f3 (OpenSpec.ofChange Rows.fnExactPoolTextSpec) false w args)
      (Rows.fnExactPoolTextSpec.post enc Tryz.prog Tryz.f3 false true false false) := by
  refine returnsInHanded_of_change_and (C := Tryz.checked) (X := fun w _ => laidMetH Tryz.prog Rows.fnExactPoolTextRow.laid w) (fun _ _ _ hh h => h.of_heap hh) own started (by kernel_rfl) Tryz.func3
    (ChangeSpec.witness_at (enc := enc) (C := Tryz.checked) (os := os) (X := fun w _ => laidMetH Tryz.prog Rows.fnExactPoolTextRow.laid w) false (laidWorldT os) #[.agg #[.int .i64 0, .int .i64 0, .slice none 0 0, .slice none 0 0, .slice none 0 0, .slice none 0 0]] 8 rfl (by kernel_rfl) (by kernel_rfl) (by kernel_rfl) (by kernel_rfl) (by kernel_rfl) (laidWorldT_met os _)) ?_
  intro W base args ds gs before hval0 hW _ _ hL _
  have hval : ∀ (j : Nat) t v, Tryz.f3.params[j]? = some t → args[j]? = some v → Value.okWide Tryz.prog W .any base t v := hval0
  have hW' := hW
  obtain ⟨p, q, hA0, hV, rfl, _, _⟩ := hW
  have hA : DataW.TrodAll enc Tryz.prog W 0 (fun _ => true) true Tryz.f3.params.toList args.toList ds p := hA0
  rw [Tryz.params3] at hA hval
  obtain ⟨v0, vs0, d0, ds0, p0, q0, hargs, rfl, rfl, h0, r0⟩ := trodAll_cons hA
  obtain ⟨rfl, rfl, rfl⟩ := trodAll_nil r0
  obtain rfl : args = #[v0] := by cases args; simp_all
  obtain ⟨rfl, rfl⟩ := trodVars_none hV
  clear hA0 hval0
  simp only [List.append_nil] at hW'
  have hlt : ∀ x ∈ p0, x.block < W.heap.size := fun x hx => by simpa using hW'.lt x hx
  obtain ⟨q, hP, hb⟩ := open_pool (hval 0 26 v0 rfl rfl) h0
  obtain ⟨hT, hG⟩ := tab_ofT hL
  refine (walkPoolText v0 q W hP hb hT hG).mono fun e W' ⟨he, hB⟩ => ?_
  subst he
  have hargs : DataW.Trod enc Tryz.prog W' 0 (fun b => decide (b < W.heap.size)) true 26 v0 d0 p0 :=
    Below.trod laidOut (by kernel_rfl) (of_decide_eq_true (by kernel_rfl)) h0 hB hlt
  exact ⟨_, rfl, ⟨_, _, _, [], _, [], hW', trodAll_mk1 (shut_bool Tryz.underlying4 _), trodAll_mk1 hargs, rfl, hB.frame _, fun h => by cases h⟩⟩
theorem holdsPoolText : Rows.FnExactPoolTextSaid :=
  OpenClaim.holds_of_wide 3 Tryz.f3 rfl rfl rfl rfl rfl rfl rfl ⟨rfl, rfl, rfl, rfl, rfl⟩ rfl rfl rfl rfl rfl (by kernel_rfl) Tryz.func3 (joined_of (by kernel_rfl) (by kernel_rfl) (by kernel_rfl) (by kernel_rfl) rfl rfl rfl (by kernel_rfl))
    (of_decide_eq_true (by kernel_rfl)) (by unfold Func.isWrapper; first | (rw [if_pos (by decide +kernel)]; kernel_rfl) | (rw [if_neg (by decide +kernel)]; exact ⟨rfl, rfl⟩))
    (fun os started H enc _ => liftedPoolText os started H enc)
theorem cardPoolText : Rows.FnExactPoolTextCardSaid :=
  Claim7.holds_tied_plain_at .later [] [.data, .data, .data] true Rows.fnExactPoolTextCard.stood.harness false
    holdsPoolText (fun _ h => by cases h) (by kernel_rfl) (fun _ h => by cases h) fnExactPoolText_row_tie rfl ⟨rfl, rfl⟩ (by kernel_rfl) rfl
    (fun f fn hf hfn => by
      obtain rfl : f = 3 := Option.some.inj ((show Tryz.prog.funcNamed "loop.example/g00336/laws.FnExactPoolText" = some 3 by kernel_rfl).symm.trans hf) |>.symm
      obtain rfl : fn = Tryz.f3 := (Option.some.inj (Tryz.func3.symm.trans hfn)).symm
      exact ⟨by kernel_rfl, fun j t ht => by
        rw [Tryz.params3] at ht
        have h3 : t = 26 := by
          rcases j with _ | j
          · simpa using ht.symm
          · simp at ht
        subst h3
        exact (show Tryz.prog.wantsStandIn 26 = false by kernel_rfl)⟩)
    (by kernel_rfl)
end Go.Proofs.YtlpdibaldhficaaGreatDoor
