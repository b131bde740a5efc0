/- A region that draws its order, whose last operation waits for all others. A line that a writer writes. A contract of the library, laid at this program. Numbers in decimal: the model's and the program's. A count that a writer writes. A volume that a writer writes. What the text of a pool says: plain. -/
import Derived.OrdersHeld
import Derived.StillTail
import Derived.Test.YtigldeccfpkdmaaGreatDoorCReadPoolx00
import Derived.Lib.AppendIntMem
import Derived.Test.YtigldeccfpkdmaaGreatDoorProg
import Derived.Shelf.Strings.OnBuilder
import Derived.Shelf.Strings.BuilderK
import Derived.Shelf.Strconv.Itoa4
import Derived.Test.YtigldeccfpkdmaaGreatDoorCReadPoolx08
import Derived.Test.YtigldeccfpkdmaaGreatDoorCReadPoolx03
namespace Go.Proofs.YtigldeccfpkdmaaGreatDoor
open Go Go.RowKit
section
variable {P : Program} {ops : Array Oper} {Q : Exit → Act → World → Prop} {md : Region.Mode}
/-- What is to hold behind all but the last: the last one leads on. -/
def LastQ (P : Program) (ops : Array Oper) (n : Nat) (Q : Exit → Act → World → Prop) : Exit → Act → World → Prop
  | .normal, a, w => wpOp P ops Q n (Q .normal) a w
  | e, a, w => Q e a w
theorem lets_last {n : Nat} (h : LetsOut (LastQ P ops n Q)) : LetsOut Q := by
  obtain ⟨a, w, h⟩ := h
  exact ⟨a, w, h⟩
theorem wpOp_last {n i : Nat} {K : Act → World → Prop} {a : Act} {w : World} (h : wpOp P ops (LastQ P ops n Q) i K a w) : wpOp P ops Q i K a w := by
  unfold wpOp at *
  split
  · rename_i h0; simp only [h0] at h; exact h
  · rename_i o h0
    simp only [h0] at h
    split
    · rename_i hw
      rw [if_pos hw] at h
      rcases h with h | ⟨h1, h2⟩
      · left
        unfold Oper.wp at *
        generalize (execOp a.eval o).run P w = r at *
        cases r with
        | ok nx w' =>
          cases nx <;> simp only [Oper.upon] at h ⊢ <;> try exact h
        | halt x w' =>
          cases x <;> simp only [Oper.upon] at h ⊢
          exact h
      · exact .inr ⟨h1, lets_last h2⟩
    · rename_i hw
      rw [if_neg hw] at h
      exact h
/-- How many ahead of n have not come up. -/
def unl (n : Nat) (listed : Array Bool) : Nat := (List.range n).countP (fun i => listed.getD i true == false)
/-- Each waits for elder ones alone. -/
def dagB (ops : Array Oper) : Bool := (List.range ops.size).all fun j => match ops[j]? with | some o => o.after.all fun e => decide (e.on < j) | none => true
theorem dag_spec (h : dagB ops = true) {j : Nat} {o : Oper} (hj : ops[j]? = some o) : ∀ e ∈ o.after, e.on < j := by
  intro e he
  have h1 := List.all_eq_true.1 h j (List.mem_range.2 (Array.getElem?_eq_some_iff.1 hj).1)
  simp only [hj] at h1
  have := Array.all_eq_true_iff_forall_mem.1 h1 e he
  simpa using this
theorem unl_pos {n : Nat} {listed : Array Bool} (h : 0 < unl n listed) : ∃ i, i < n ∧ listed.getD i true = false := by
  obtain ⟨i, hi, h1⟩ := List.countP_pos_iff.1 h
  exact ⟨i, List.mem_range.1 hi, by simpa using h1⟩
theorem unl_zero {n : Nat} {listed : Array Bool} (h : unl n listed = 0) : ∀ i, i < n → listed.getD i true = true := by
  intro i hi
  have := List.countP_eq_zero.1 h i (List.mem_range.2 hi)
  simpa using this
theorem count_set {listed : Array Bool} {i : Nat} (hi : i < listed.size) (hf : listed.getD i true = false) : ∀ (l : List Nat), l.Nodup → i ∈ l → l.countP (fun k => (listed.setIfInBounds i true).getD k true == false) + 1 = l.countP (fun k => listed.getD k true == false)
  | [], _, h => by cases h
  | x :: r, hn, h => by
    rw [List.countP_cons, List.countP_cons]
    by_cases hx : x = i
    · subst hx
      have hr : ∀ k ∈ r, ((listed.setIfInBounds x true).getD k true == false) = (listed.getD k true == false) := fun k hk => by
        rw [getD_set_ne true (fun e => by subst e; exact (List.nodup_cons.1 hn).1 hk)]
      rw [List.countP_congr (fun k hk => by rw [hr k hk])]
      have h1 : (listed.setIfInBounds x true).getD x true = true := by simp [hi]
      simp only [h1, hf]
      simp
    · have ih := count_set hi hf r (List.nodup_cons.1 hn).2 (by rcases List.mem_cons.1 h with e | e; exact absurd e.symm hx; exact e)
      rw [getD_set_ne true (Ne.symm hx)]
      omega
theorem least_unl {n : Nat} {listed : Array Bool} (h : 0 < unl n listed) : ∃ i, i < n ∧ listed.getD i true = false ∧ ∀ k, k < i → listed.getD k true = true := by
  obtain ⟨i, hi, hf⟩ := unl_pos h
  induction i using Nat.strongRecOn with
  | _ i ih =>
    by_cases hk : ∃ k, k < i ∧ listed.getD k true = false
    · obtain ⟨k, h1, h2⟩ := hk
      exact ih k h1 (by omega) h2
    · refine ⟨i, hi, hf, fun k hki => ?_⟩
      cases hb : listed.getD k true with
      | true => rfl
      | false => exact absurd ⟨k, hki, hb⟩ hk
theorem true_false {listed : Array Bool} {i : Nat} (hi : i < listed.size) (h : listed.getD i true = true) : listed.getD i false = true := by
  simp [hi] at h ⊢; exact h
theorem wpAny_last {n : Nat} (hn : ops.size = n + 1) (hs : Region.sinkB md ops n = true) (hd : dagB ops = true) :
    ∀ (fuel : Nat) (listed : Array Bool) (a : Act) (w : World), HeadInv md ops n listed → unl n listed = fuel →
      wpAny P md ops (LastQ P ops n Q) fuel (listed.setIfInBounds n true) a w → wpAny P md ops Q (fuel + 1) listed a w := by
  have hc : Region.chainB md ops n = true := by
    refine List.all_eq_true.2 fun t ht => ?_
    have := List.mem_range.1 ht
    simp; left; omega
  intro fuel
  induction fuel with
  | zero =>
    intro listed a w inv hu h
    have hall := unl_zero hu
    have hsz := inv.size
    obtain ⟨h1, h2⟩ := h
    have hrn : ∀ i ∈ Region.ready md ops listed, i = n := fun i hi => by
      obtain ⟨q1, o, q2, _⟩ := mem_ready.1 hi
      have := (Array.getElem?_eq_some_iff.1 q2).1
      rcases Nat.lt_or_ge i n with q | q
      · rw [hall i q] at q1; cases q1
      · omega
    have hin : n ∈ Region.ready md ops listed := by
      have hlt : n < ops.size := by omega
      have ho : ops[n]? = some ops[n] := by simp [hlt]
      exact mem_ready.2 ⟨inv.tail n (Nat.le_refl _) hlt, _, ho, fun e he _ => true_false (by have := dag_spec hd ho e he; omega) (hall _ (dag_spec hd ho e he))⟩
    refine ⟨fun h0 => (by rw [h0] at hin; cases hin), fun i hi => ?_⟩
    obtain rfl := hrn i hi
    exact wpOp_mono (fun a' w' hq => ⟨h1, hq⟩) h2
  | succ fuel ih =>
    intro listed a w inv hu h
    have hsz := inv.size
    obtain ⟨i0, hi0, hf0, hk0⟩ := least_unl (n := n) (listed := listed) (by omega)
    have hin : i0 ∈ Region.ready md ops listed := by
      have hlt : i0 < ops.size := by omega
      have ho : ops[i0]? = some ops[i0] := by simp [hlt]
      exact mem_ready.2 ⟨hf0, _, ho, fun e he _ => true_false (by have := dag_spec hd ho e he; omega) (hk0 _ (dag_spec hd ho e he))⟩
    refine ⟨fun h0 => (by rw [h0] at hin; cases hin), fun i hi => ?_⟩
    obtain ⟨q1, o, q2, _⟩ := mem_ready.1 hi
    have hlt := (Array.getElem?_eq_some_iff.1 q2).1
    have hni : i < n := by
      rcases Nat.lt_or_ge i n with q | q
      · exact q
      · exact absurd hi (tail_waits hs hc (by omega) inv _ i0 rfl hi0 hf0 i q)
    have h2 := h.2 i (ready_mono hi (by omega))
    refine wpOp_last (n := n) (wpOp_mono (fun a' w' hq => ?_) h2)
    refine ih _ a' w' (inv.set hi hni) ?_ ?_
    · have := count_set (listed := listed) (i := i) (by omega) q1 (List.range n) List.nodup_range (List.mem_range.2 hni)
      unfold unl at *
      omega
    · rw [Array.setIfInBounds_comm _ _ (by omega)]
      exact hq
/-- A region whose last operation waits for all others: S is to hold behind each of these, not behind the last. -/
theorem wp_region_last {S : World → Prop} {id : Nat} {a : Act} {w : World} (n : Nat) (hm : P.follows .mixedOrders = true) (hB : (decide (ops.size = n + 1) && Region.sinkB .any ops n && dagB ops) = true)
    (h : wpAnyH P .any ops (LastQ P ops n Q) S n ((Array.replicate ops.size false).setIfInBounds n true) a w.drew) : (Code.region id ops true).wp P Q a w := by
  simp only [Bool.and_eq_true, decide_eq_true_eq] at hB
  refine wp_region_any hm ?_
  have hx := wpAny_last (P := P) (Q := Q) hB.1.1 hB.1.2 hB.2 n (Array.replicate ops.size false) a w.drew ⟨by simp, fun j oj _ hl => (by rw [getD_replicate_false] at hl; cases hl), fun t _ ht => (by simp [ht])⟩ (by
    unfold unl
    rw [List.countP_eq_length.2 (fun k hk => by have := List.mem_range.1 hk; have : k < ops.size := (by omega); simp [this])]
    simp) (wpAny_of_held _ _ _ _ h)
  rw [hB.1.1] at hx ⊢
  rw [← hB.1.1]
  rw [← hB.1.1] at hx
  exact hx
variable {S : World → Prop}
theorem takeL {l : List Oper} {i : Nat} {oi : Oper} {v : Value} {fuel : Nat} {listed : Array Bool} {a : Act} {w : World} (hi : l[i]? = some oi)
    (hs : Region.noSelect l.toArray = true) (hf : Region.free md l.toArray listed i = true) (hr : (Region.ready md l.toArray listed).contains i = true)
    (hQ : ∀ c a w, Q (.panic c) (a.put oi.dst v) w → Q (.panic c) a w) (hy : YieldsIf P l.toArray S oi v a) (hS : S w)
    (h : wpAnyH P md l.toArray Q S fuel (listed.setIfInBounds i true) (a.put oi.dst v) w) : wpAnyH P md l.toArray Q S (fuel + 1) listed a w :=
  wpAnyH_take (by simpa using hi) hs hf hr hQ hy hS h
theorem takeQ {l : List Oper} {i : Nat} {oi : Oper} {v : Value} {fuel : Nat} {listed : Array Bool} {a : Act} {w : World} (hi : l[i]? = some oi)
    (hB : (Region.noSelect l.toArray && Region.free md l.toArray listed i && (Region.ready md l.toArray listed).contains i) = true)
    (hQ : ∀ c a w, Q (.panic c) (a.put oi.dst v) w → Q (.panic c) a w) (hw : Region.wanted oi (yielded l.toArray a.tmps) = true) (hy : ∀ w, S w → (execOp a.eval oi).run P w = .ok (.value v) w) (hS : S w)
    (h : wpAnyH P md l.toArray Q S fuel (listed.setIfInBounds i true) (a.put oi.dst v) w) : wpAnyH P md l.toArray Q S (fuel + 1) listed a w := by
  simp only [Bool.and_eq_true] at hB
  exact takeL hi hB.1.1 hB.1.2 hB.2 hQ (.inl ⟨hw, hy⟩) hS h
theorem oneL {l : List Oper} {i : Nat} {o : Oper} {fuel : Nat} {listed : Array Bool} {a : Act} {w : World} (hr : Region.ready md l.toArray listed = [i]) (hi : l[i]? = some o)
    (h : ∀ K' : Act → World → Prop, Shut (∀ a w, S w → (S w → wpAnyH P md l.toArray Q S fuel (listed.setIfInBounds i true) a w) → K' a w) → if Region.wanted o (yielded l.toArray a.tmps) = true then Oper.wp P o a w K' Q else K' (a.put o.dst undef) w) :
    wpAnyH P md l.toArray Q S (fuel + 1) listed a w :=
  wpAnyH_ready hr (by simp) (AllReadyH.cons (by simpa using hi) h AllReadyH.nil)
theorem lastL {l : List Oper} {n : Nat} {o : Oper} {a : Act} {w : World} (hi : l[n]? = some o) (h : wpList P l.toArray Q [o] a w) : LastQ P l.toArray n Q .normal a w := by
  have hi' : l.toArray[n]? = some o := by simpa using hi
  show wpOp P l.toArray Q n (Q .normal) a w
  unfold wpOp
  simp only [hi']
  exact h
end
end Go.Proofs.YtigldeccfpkdmaaGreatDoor
namespace Go.Proofs.YtigldeccfpkdmaaGreatDoor
open Go Go.RowKit Go.BigFrame Go.Shelf
/-- A writer that holds these bytes. -/
structure Wr (B b : Nat) (l : List UInt8) (w : World) : Prop where
  h : Lib.IsBuilderF 182 5 B b (Lib.byteCells l) w
theorem ownF_below {w w' : World} {B e : Nat} {v : Value} {n : Nat} {xs : List Value} (h : w.ownsRowF B e 1 v n xs) (hb : Below w.heap.size w w') : w'.ownsRowF B e 1 v n xs := by
  refine ⟨h.1, ?_⟩
  rcases h.2 with h0 | ⟨g, cap, cur, fz, h1, h2, h3, r⟩
  · exact .inl h0
  · exact .inr ⟨g, cap, cur, fz, h1, h2, (hb.block g (Array.getElem?_eq_some_iff.1 h3).1).trans h3, r⟩
theorem bu_below {T e : TypeId} {B b : Nat} {p : Value} {bs : List Value} {w w' : World} (h : Lib.BuilderAtF T e B b p bs w) (hb : Below w.heap.size w w') : Lib.BuilderAtF T e B b p bs w' := by
  obtain ⟨h1, v, h2, h3, h4⟩ := h
  exact ⟨h1, v, (hb.block b (Array.getElem?_eq_some_iff.1 h2).1).trans h2, ownF_below h3 hb, h4⟩
theorem Wr.below {B b : Nat} {l : List UInt8} {w w' : World} (h : Wr B b l w) (hb : Below w.heap.size w w') : Wr B b l w' := by
  obtain ⟨h | h⟩ := h
  · exact ⟨.inl (bu_below h hb)⟩
  · exact ⟨.inr (bu_below h hb)⟩
/-- Words with a blank between two, and the line's end. -/
def wordL (ps : List ByteArray) : List UInt8 := Lib.join (ps.map (·.data.toList)) [32]
def lineL (ps : List ByteArray) : List UInt8 := wordL ps ++ [10]
end Go.Proofs.YtigldeccfpkdmaaGreatDoor
namespace Go.Proofs.YtigldeccfpkdmaaGreatDoor
open Go.Shelf Go.RowKit Go.Lib
def fmtL_ren : Go.Shelf.Ren := ⟨fun | 173 => 131 | 246 => 190 | 283 => 218 | 284 => 219 | 285 => 220 | 286 => 221 | 129 => 247 | 317 => 246 | 318 => 248 | 319 => 249 | 320 => 250 | 337 => 275 | 338 => 276 | n => n, fun | 2 => 2 | 3 => 3 | 9 => 9 | 4 => 4 | 171 => 273 | 0 => 0 | 53 => 274 | 37 => 173 | 5 => 5 | 173 => 277 | 212 => 301 | 51 => 98 | 20 => 20 | 213 => 302 | 46 => 172 | 232 => 336 | 233 => 337 | n => n, fun | 17 => 2 | 18 => 7 | 19 => 8 | n => n⟩
set_option maxRecDepth 100000 in
theorem fmtL : LaysM.n173 Tryz.prog fmtL_ren where
  mixed := by kernel_rfl
  f129 := Tryz.func247.trans (congrArg some (by kernel_rfl))
  f173 := Tryz.func131.trans (congrArg some (by kernel_rfl))
  f246 := Tryz.func190.trans (congrArg some (by kernel_rfl))
  f283 := Tryz.func218.trans (congrArg some (by kernel_rfl))
  f284 := Tryz.func219.trans (congrArg some (by kernel_rfl))
  f285 := Tryz.func220.trans (congrArg some (by kernel_rfl))
  f286 := Tryz.func221.trans (congrArg some (by kernel_rfl))
  f317 := Tryz.func246.trans (congrArg some (by kernel_rfl))
  f318 := Tryz.func248.trans (congrArg some (by kernel_rfl))
  f319 := Tryz.func249.trans (congrArg some (by kernel_rfl))
  f320 := Tryz.func250.trans (congrArg some (by kernel_rfl))
  f337 := Tryz.func275.trans (congrArg some (by kernel_rfl))
  f338 := Tryz.func276.trans (congrArg some (by kernel_rfl))
  t0 := Tryz.underlying0
  a0 := Tryz.isAgg0
  z0 := Tryz.sizeOf0
  v0 := Tryz.zeroValue0
  t2 := Tryz.underlying2
  a2 := Tryz.isAgg2
  z2 := Tryz.sizeOf2
  v2 := Tryz.zeroValue2
  t3 := Tryz.underlying3
  a3 := Tryz.isAgg3
  z3 := Tryz.sizeOf3
  v3 := Tryz.zeroValue3
  t4 := Tryz.underlying4
  a4 := Tryz.isAgg4
  z4 := Tryz.sizeOf4
  v4 := Tryz.zeroValue4
  t5 := Tryz.underlying5
  a5 := Tryz.isAgg5
  z5 := Tryz.sizeOf5
  v5 := Tryz.zeroValue5
  t9 := Tryz.underlying9
  a9 := Tryz.isAgg9
  z9 := Tryz.sizeOf9
  v9 := Tryz.zeroValue9
  t20 := Tryz.underlying20
  a20 := Tryz.isAgg20
  z20 := Tryz.sizeOf20
  v20 := Tryz.zeroValue20
  t37 := Tryz.underlying173
  a37 := Tryz.isAgg173
  z37 := Tryz.sizeOf173
  v37 := Tryz.zeroValue173
  t46 := Tryz.underlying172
  a46 := Tryz.isAgg172
  z46 := Tryz.sizeOf172
  v46 := Tryz.zeroValue172
  t51 := Tryz.underlying98
  a51 := Tryz.isAgg98
  z51 := Tryz.sizeOf98
  v51 := Tryz.zeroValue98
  t53 := Tryz.underlying274
  a53 := Tryz.isAgg274
  z53 := Tryz.sizeOf274
  v53 := Tryz.zeroValue274
  t171 := Tryz.underlying273
  a171 := Tryz.isAgg273
  z171 := Tryz.sizeOf273
  v171 := Tryz.zeroValue273
  t173 := Tryz.underlying277
  a173 := Tryz.isAgg277
  z173 := Tryz.sizeOf277
  v173 := Tryz.zeroValue277
  t212 := Tryz.underlying301
  a212 := Tryz.isAgg301
  z212 := Tryz.sizeOf301
  v212 := Tryz.zeroValue301
  t213 := Tryz.underlying302
  a213 := Tryz.isAgg302
  z213 := Tryz.sizeOf302
  t232 := Tryz.underlying336
  a232 := Tryz.isAgg336
  z232 := Tryz.sizeOf336
  v232 := Tryz.zeroValue336
  t233 := Tryz.underlying337
  a233 := Tryz.isAgg337
  z233 := Tryz.sizeOf337
  v233 := Tryz.zeroValue337
  g17 := by kernel_rfl
  g18 := by kernel_rfl
  g19 := by kernel_rfl
  i0 := by kernel_rfl
  i2 := by kernel_rfl
  i3 := by kernel_rfl
  i4 := by kernel_rfl
  i5 := by kernel_rfl
  i9 := by kernel_rfl
  i20 := by kernel_rfl
  i37 := by kernel_rfl
  i46 := by kernel_rfl
  i51 := by kernel_rfl
  i53 := by kernel_rfl
  i171 := by kernel_rfl
  i173 := by kernel_rfl
  i212 := by kernel_rfl
  i232 := by kernel_rfl
  i233 := by kernel_rfl
  m17 := by kernel_rfl
  m18 := by kernel_rfl
  m19 := by kernel_rfl
end Go.Proofs.YtigldeccfpkdmaaGreatDoor
namespace Go.Proofs.YtigldeccfpkdmaaGreatDoor
open Go Go.RowKit Go.BigFrame
theorem dec_len : ∀ (m k : Nat), k < 10 ^ (m + 1) → (Lib.decDigits k).length ≤ m + 1
  | 0, k, h => by rw [Lib.decDigits, dif_pos (by simpa using h)]; simp
  | m + 1, k, h => by
    rw [Lib.decDigits]
    split
    · simp
    · have := dec_len m (k / 10) (by rw [Nat.pow_succ] at h; omega)
      simp
      omega
theorem decB_size {n : Int} (h0 : -1000000000000 < n) (h1 : n < 1000000000000) : (decB n).size ≤ 13 := by
  show (Lib.itoa n).toArray.size ≤ 13
  rw [List.size_toArray]
  unfold Lib.itoa
  split
  · have := dec_len 11 n.natAbs (by omega)
    simp
    omega
  · have := dec_len 11 n.toNat (by omega)
    omega
theorem decB_pos {k : Nat} : decB k = ddGo k .empty := by
  unfold decB ddGo Lib.itoa
  rw [if_neg (by omega)]
  refine ba_eqX ?_
  simp
theorem decB_neg {k : Nat} (h : 0 < k) : decB (-(k : Int)) = ByteArray.mk #[45] ++ decB k := by
  unfold decB Lib.itoa
  rw [if_pos (by omega), if_neg (by omega)]
  refine ba_eqX ?_
  simp [ByteArray.data_append]
set_option maxHeartbeats 1000000 in
set_option maxRecDepth 100000 in
theorem spec_l1Dec_pos (k : Nat) (w : World) (h2 : k < 1000000000000) :
    Calls Tryz.prog 122 #[.int .i64 k] w fun e w' => e = .returned (.string (decB k)) ∧ Below w.heap.size w w' := by
  have hcv : ∀ (u : World) (x : Int), (convert 173 9 (.slice (some ⟨u.heap.size, 0, none⟩) 1 1)).run Tryz.prog (u.alloc (.cells #[.int .u8 x] 5)) = .ok (.string (strOfNums [x])) (u.alloc (.cells #[.int .u8 x] 5)) := fun u x =>
    run_convert_bytes_arg (P := Tryz.prog) _ 173 5 Tryz.underlying173 Tryz.underlying5 u.heap.size 0 1 1 [x] rfl (fun i hi => (by obtain rfl : i = 0 := (by omega); simp)) 9 Tryz.underlying9
  obtain ⟨R, hR⟩ : ∃ R, Hid (decB k = R) := ⟨_, rfl⟩
  rw [hR.out]
  go_enter Tryz.func122, Tryz.ntmps122
  go_wp2_with fail
  go_loopw [0, 3] (fun kk out wr => ∃ (j : Nat) (o : ByteArray), kk = .int .i64 j ∧ out = .string o ∧ j < 1000000000000 ∧ Hid (∃ m, j < 10 ^ m ∧ o.size + m ≤ 13) ∧ Hid (R = ddGo j o) ∧ Below w.heap.size w wr) (fun kk _ _ => (intOf kk).toNat)
  case atStart => exact ⟨k, .empty, rfl, rfl, h2, ⟨12, by omega, by decide⟩, by show _ = _; rw [← hR.out]; exact decB_pos, Below.refl _ _⟩
  case round =>
    obtain ⟨j, o, rfl, rfl, hj, hm, hI, hB⟩ := hrel
    have ho : o.size ≤ 13 := by obtain ⟨m, _, h⟩ := hm.out; omega
    by_cases hlt : 10 ≤ j
    · have hss : ¬ 9223372036854775807 < (strOfNums [48 + (j : Int) % 10]).size + o.size := by rw [strOfNums_size]; simp; omega
      have hge : (10 : Int) ≤ j := by omega
      go_wp2
      go_roundw
      case rel =>
        refine ⟨j / 10, _, by go_num, rfl, by omega, ?_, ?_, hB.alloc hB.size _⟩
        · obtain ⟨m, h3, h4⟩ := hm.out
          cases m with
          | zero => simp at h3; omega
          | succ m => exact ⟨m, by rw [Nat.pow_succ] at h3; omega, by rw [app_size, strOfNums_size]; simp; omega⟩
        · show _ = _
          rw [hI.out, ddGo_step o hlt]
      case measure => simp [intOf]; omega
    · have hss : ¬ 9223372036854775807 < (strOfNums [48 + (j : Int)]).size + o.size := by rw [strOfNums_size]; simp; omega
      have hge : ¬ (10 : Int) ≤ j := by omega
      go_wp2
      go_returns
      go_light
      refine ⟨?_, hB.alloc hB.size _⟩
      rw [hI.out, ddGo_last o (by omega)]
      rfl
set_option maxHeartbeats 1000000 in
set_option maxRecDepth 100000 in
theorem spec_l1Dec (n : Int) (w : World) (h1 : -1000000000000 < n) (h2 : n < 1000000000000) :
    Calls Tryz.prog 122 #[.int .i64 n] w fun e w' => e = .returned (.string (decB n)) ∧ Below w.heap.size w w' := by
  by_cases h : n < 0
  · obtain ⟨k, rfl⟩ : ∃ k : Nat, n = -(k : Int) := ⟨n.natAbs, by omega⟩
    have hk : 0 < k := by omega
    have hR : Hid (decB (-(k : Int)) = ByteArray.mk #[45] ++ decB k) := decB_neg hk
    generalize decB (-(k : Int)) = R at *
    have hsz := decB_size (n := k) (by omega) (by omega)
    have hss : ¬ 9223372036854775807 < (ByteArray.mk #[45]).size + (decB k).size := by show ¬ _ < 1 + _; omega
    have hneg : -(-(k : Int)) = k := by omega
    go_enter Tryz.func122, Tryz.ntmps122
    go_wp2_with fail
    refine (spec_l1Dec_pos k w (by omega)).mono ?_
    rintro e w1 ⟨rfl, hB1⟩
    generalize decB (k : Int) = D at *
    go_wp2
    go_returns
    exact ⟨by rw [hR.out]; rfl, hB1⟩
  · obtain ⟨k, rfl⟩ : ∃ k : Nat, n = (k : Int) := ⟨n.toNat, by omega⟩
    exact spec_l1Dec_pos k w (by omega)
/-- The table that FormatInt reads. -/
def TabP (w : World) : Prop := Lib.TabIs Tryz.prog w "internal/strconv.uint64pow10" .u64 Lib.pow10Tab
theorem impl_decimal (n : Int) (w : World) (h0 : -9223372036854775808 ≤ n) (h1 : n ≤ 9223372036854775807) (ht : TabP w) :
    Calls Tryz.prog 61 #[.int .i64 n] w fun e w' => e = .returned (.string (decB n)) ∧ Below w.heap.size w w' := by
  go_enter Tryz.func61, Tryz.ntmps61
  go_wp2_with fail
  refine (Any.strconv_FormatInt_10 fmtL n h0 h1 w ht).mono ?_
  rintro e w1 ⟨rfl, k, os, rfl⟩
  have hB := Lib.below_grow w.heap.size w (Nat.le_refl _) k os
  generalize Sort.grow (w.drewN k) os = W at *
  go_wp2
  go_returns
  exact ⟨rfl, hB⟩
end Go.Proofs.YtigldeccfpkdmaaGreatDoor
namespace Go.Proofs.YtigldeccfpkdmaaGreatDoor
open Go Go.RowKit Go.BigFrame Go.Shelf
theorem tab_low {w w' : World} {B : Nat} (h : TabP w) (hb : Below B w w') (hg : 9 ≤ B) : TabP w' := by
  unfold TabP Lib.TabIs World.var? at h ⊢
  have hgl : Tryz.prog.globalNamed "internal/strconv.uint64pow10" = some 2 := by kernel_rfl
  rw [hgl] at h ⊢
  simp only [Option.bind_some] at h ⊢
  rw [hb.block _ (by omega)]
  exact h
theorem Blk.ok {w w' : World} {k b : Nat} {c : Array Value} {t : TypeId} (h : Blk w k c t) (hk : Lib.OthersKept 5 (some b) w w') (hb : k ≠ b) (ht : t ≠ 5) : Blk w' k c t := hk k _ h (by simpa using hb) (fun c' fz e => by cases e; exact ht rfl)
theorem Wr.lt {B b : Nat} {l : List UInt8} {w : World} (h : Wr B b l w) : b < w.heap.size := by
  obtain ⟨⟨_, v, h2, _⟩ | ⟨_, v, h2, _⟩⟩ := h
  · exact (Array.getElem?_eq_some_iff.1 h2).1
  · exact (Array.getElem?_eq_some_iff.1 h2).1
/-- What a count's line says. -/
def ctL (word : ByteArray) (c : Ct) : List ByteArray := [word, decB c.o.a, decB c.o.v, c.o.f, decB c.n]
/-- Numbers as small as those of right pools. -/
def Num (n : Int) : Prop := -1000000000000 < n ∧ n < 1000000000000
end Go.Proofs.YtigldeccfpkdmaaGreatDoor
namespace Go.Proofs.YtigldeccfpkdmaaGreatDoor
open Go Go.RowKit Go.BigFrame Go.Shelf
/-- What the lines of parts, items and a volume say. -/
def ptW (p : Pt) : List ByteArray := [⟨#[112, 97, 114, 116]⟩, decB p.a, decB p.f, decB p.n]
def partsW (l : List Pt) : List UInt8 := l.flatMap (fun p => lineL (ptW p))
def itW (x : It) : List UInt8 := lineL [⟨#[102, 105, 108, 101]⟩, x.nm] ++ partsW x.ps
def itsW (l : List It) : List UInt8 := l.flatMap itW
def flagB (b : Bool) : ByteArray := if b then ⟨#[49]⟩ else ⟨#[48]⟩
def voW (v : Vo) : List ByteArray := [⟨#[118, 111, 108, 117, 109, 101]⟩, decB v.id, v.nm, flagB v.fx]
def volW (v : Vo) : List UInt8 := lineL (voW v) ++ itsW v.its
theorem partsW_take {l : List Pt} {k : Nat} {p : Pt} (h : l[k]? = some p) : partsW (l.take (k + 1)) = partsW (l.take k) ++ lineL (ptW p) := by
  unfold partsW
  rw [take_at h, List.flatMap_append]; simp
theorem itsW_take {l : List It} {k : Nat} {x : It} (h : l[k]? = some x) : itsW (l.take (k + 1)) = itsW (l.take k) ++ itW x := by
  unfold itsW
  rw [take_at h, List.flatMap_append]; simp
theorem flat_take_le {α : Type} (f : α → List UInt8) (l : List α) (k : Nat) : ((l.take k).flatMap f).length ≤ (l.flatMap f).length := by
  conv => rhs; rw [← List.take_append_drop k l, List.flatMap_append, List.length_append]
  omega
/-- Numbers of a file's parts, an item's, a volume's. -/
def NumP (l : List Pt) : Prop := ∀ p ∈ l, Num p.a ∧ Num p.f ∧ Num p.n
end Go.Proofs.YtigldeccfpkdmaaGreatDoor
namespace Go.Proofs.YtigldeccfpkdmaaGreatDoor
open Go Go.RowKit Go.BigFrame Go.Shelf
/-- What the lines of a pool say. -/
def hdW (p : Po) : List ByteArray := [⟨#[112, 111, 111, 108]⟩, decB p.size, decB p.next]
def exW (e : Ex) : List ByteArray := [⟨#[101, 120, 116, 101, 110, 116]⟩, decB e.a, e.d]
def exsW (l : List Ex) : List UInt8 := l.flatMap (fun e => lineL (exW e))
def volsW (l : List Vo) : List UInt8 := l.flatMap volW
def ctsW (word : ByteArray) (l : List Ct) : List UInt8 := l.flatMap (fun c => lineL (ctL word c))
def refW : ByteArray := ⟨#[114, 101, 102]⟩
def lateW : ByteArray := ⟨#[108, 97, 116, 101]⟩
def textW (p : Po) : List UInt8 := lineL (hdW p) ++ exsW p.ex ++ volsW p.vs ++ ctsW refW p.rf ++ ctsW lateW p.lt
def textO (p : Po) : ByteArray := if poolB p = true then ⟨(textW p).toArray⟩ else ⟨#[]⟩
/-- Numbers and lengths as small as a right pool's. -/
structure NumO (p : Po) : Prop where
  size : Num p.size
  next : Num p.next
  ex : ∀ e ∈ p.ex, Num e.a
  vs : ∀ v ∈ p.vs, Num v.id ∧ (∀ x ∈ v.its, NumP x.ps) ∧ v.its.length ≤ 4194304 ∧ ∀ x ∈ v.its, x.ps.length ≤ 4194304
  rf : ∀ c ∈ p.rf, Num c.o.a ∧ Num c.o.v ∧ Num c.n
  lt : ∀ c ∈ p.lt, Num c.o.a ∧ Num c.o.v ∧ Num c.n
  len : (textW p).length ≤ 1000000
theorem flat_step {α : Type} {f : α → List UInt8} {l : List α} {k : Nat} {x : α} (h : l[k]? = some x) : (l.take (k + 1)).flatMap f = (l.take k).flatMap f ++ f x := by
  rw [take_at h, List.flatMap_append]; simp
theorem flat_len1 {α : Type} {f : α → List UInt8} {P : List UInt8} {l : List α} {k : Nat} {x : α} (h : l[k]? = some x) (hl : (P ++ l.flatMap f).length ≤ 1000000) : (P ++ (l.take k).flatMap f ++ f x).length ≤ 1000000 := by
  have h1 := flat_take_le f l (k + 1)
  have h2 := congrArg List.length (flat_step (f := f) h)
  rw [List.length_append] at h2 hl
  rw [List.length_append, List.length_append]
  omega
theorem word_step (a b : ByteArray) (l : List ByteArray) : wordL (a :: b :: l) = a.data.toList ++ [32] ++ wordL (b :: l) := by
  unfold wordL; simp [Lib.join]
theorem word_one (a : ByteArray) : wordL [a] = a.data.toList := by unfold wordL; simp [Lib.join]
end Go.Proofs.YtigldeccfpkdmaaGreatDoor
