/- A region that draws its order, whose last operation waits for all others. -/
import Derived.OrdersHeld
import Derived.StillTail
import Derived.Test.YtnjefbkhibfgmaaGreatLDAskedx00
import Derived.Test.YtnjefbkhibfgmaaGreatProg
import Derived.Deep.RegionHeld3
import Derived.Deep.RegionLaw
import Derived.Test.YtnjefbkhibfgmaaGreatLDAskedx13
import Derived.Test.YtnjefbkhibfgmaaGreatLDAskedx09
namespace Go.Proofs.YtnjefbkhibfgmaaGreat
open Go Go.RowKit
section
variable {P : Program} {ops : Array Oper} {Q : Exit → Act → World → Prop} {md : Region.Mode}
def LastQ (P : Program) (ops : Array Oper) (n : Nat) (Q : Exit → Act → World → Prop) : Exit → Act → World → Prop
  | .normal, a, w => wpOp P ops Q n (Q .normal) a w
  | e, a, w => Q e a w
theorem lets_last {n : Nat} (h : LetsOut (LastQ P ops n Q)) : LetsOut Q := by
  obtain ⟨a, w, h⟩ := h
  exact ⟨a, w, h⟩
theorem wpOp_last {n i : Nat} {K : Act → World → Prop} {a : Act} {w : World} (h : wpOp P ops (LastQ P ops n Q) i K a w) : wpOp P ops Q i K a w := by
  unfold wpOp at *
  split
  · rename_i h0; simp only [h0] at h; exact h
  · rename_i o h0
    simp only [h0] at h
    split
    · rename_i hw
      rw [if_pos hw] at h
      rcases h with h | ⟨h1, h2⟩
      · left
        unfold Oper.wp at *
        generalize (execOp a.eval o).run P w = r at *
        cases r with
        | ok nx w' =>
          cases nx <;> simp only [Oper.upon] at h ⊢ <;> try exact h
        | halt x w' =>
          cases x <;> simp only [Oper.upon] at h ⊢
          exact h
      · exact .inr ⟨h1, lets_last h2⟩
    · rename_i hw
      rw [if_neg hw] at h
      exact h
def unl (n : Nat) (listed : Array Bool) : Nat := (List.range n).countP (fun i => listed.getD i true == false)
def dagB (ops : Array Oper) : Bool := (List.range ops.size).all fun j => match ops[j]? with | some o => o.after.all fun e => decide (e.on < j) | none => true
theorem dag_spec (h : dagB ops = true) {j : Nat} {o : Oper} (hj : ops[j]? = some o) : ∀ e ∈ o.after, e.on < j := by
  intro e he
  have h1 := List.all_eq_true.1 h j (List.mem_range.2 (Array.getElem?_eq_some_iff.1 hj).1)
  simp only [hj] at h1
  have := Array.all_eq_true_iff_forall_mem.1 h1 e he
  simpa using this
theorem unl_pos {n : Nat} {listed : Array Bool} (h : 0 < unl n listed) : ∃ i, i < n ∧ listed.getD i true = false := by
  obtain ⟨i, hi, h1⟩ := List.countP_pos_iff.1 h
  exact ⟨i, List.mem_range.1 hi, by simpa using h1⟩
theorem unl_zero {n : Nat} {listed : Array Bool} (h : unl n listed = 0) : ∀ i, i < n → listed.getD i true = true := by
  intro i hi
  have := List.countP_eq_zero.1 h i (List.mem_range.2 hi)
  simpa using this
theorem count_set {listed : Array Bool} {i : Nat} (hi : i < listed.size) (hf : listed.getD i true = false) : ∀ (l : List Nat), l.Nodup → i ∈ l → l.countP (fun k => (listed.setIfInBounds i true).getD k true == false) + 1 = l.countP (fun k => listed.getD k true == false)
  | [], _, h => by cases h
  | x :: r, hn, h => by
    rw [List.countP_cons, List.countP_cons]
    by_cases hx : x = i
    · subst hx
      have hr : ∀ k ∈ r, ((listed.setIfInBounds x true).getD k true == false) = (listed.getD k true == false) := fun k hk => by
        rw [getD_set_ne true (fun e => by subst e; exact (List.nodup_cons.1 hn).1 hk)]
      rw [List.countP_congr (fun k hk => by rw [hr k hk])]
      have h1 : (listed.setIfInBounds x true).getD x true = true := by simp [hi]
      simp only [h1, hf]
      simp
    · have ih := count_set hi hf r (List.nodup_cons.1 hn).2 (by rcases List.mem_cons.1 h with e | e; exact absurd e.symm hx; exact e)
      rw [getD_set_ne true (Ne.symm hx)]
      omega
theorem least_unl {n : Nat} {listed : Array Bool} (h : 0 < unl n listed) : ∃ i, i < n ∧ listed.getD i true = false ∧ ∀ k, k < i → listed.getD k true = true := by
  obtain ⟨i, hi, hf⟩ := unl_pos h
  induction i using Nat.strongRecOn with
  | _ i ih =>
    by_cases hk : ∃ k, k < i ∧ listed.getD k true = false
    · obtain ⟨k, h1, h2⟩ := hk
      exact ih k h1 (by omega) h2
    · refine ⟨i, hi, hf, fun k hki => ?_⟩
      cases hb : listed.getD k true with
      | true => rfl
      | false => exact absurd ⟨k, hki, hb⟩ hk
theorem true_false {listed : Array Bool} {i : Nat} (hi : i < listed.size) (h : listed.getD i true = true) : listed.getD i false = true := by
  simp [hi] at h ⊢; exact h
theorem wpAny_last {n : Nat} (hn : ops.size = n + 1) (hs : Region.sinkB md ops n = true) (hd : dagB ops = true) :
    ∀ (fuel : Nat) (listed : Array Bool) (a : Act) (w : World), HeadInv md ops n listed → unl n listed = fuel →
      wpAny P md ops (LastQ P ops n Q) fuel (listed.setIfInBounds n true) a w → wpAny P md ops Q (fuel + 1) listed a w := by
  have hc : Region.chainB md ops n = true := by
    refine List.all_eq_true.2 fun t ht => ?_
    have := List.mem_range.1 ht
    simp; left; omega
  intro fuel
  induction fuel with
  | zero =>
    intro listed a w inv hu h
    have hall := unl_zero hu
    have hsz := inv.size
    obtain ⟨h1, h2⟩ := h
    have hrn : ∀ i ∈ Region.ready md ops listed, i = n := fun i hi => by
      obtain ⟨q1, o, q2, _⟩ := mem_ready.1 hi
      have := (Array.getElem?_eq_some_iff.1 q2).1
      rcases Nat.lt_or_ge i n with q | q
      · rw [hall i q] at q1; cases q1
      · omega
    have hin : n ∈ Region.ready md ops listed := by
      have hlt : n < ops.size := by omega
      have ho : ops[n]? = some ops[n] := by simp [hlt]
      exact mem_ready.2 ⟨inv.tail n (Nat.le_refl _) hlt, _, ho, fun e he _ => true_false (by have := dag_spec hd ho e he; omega) (hall _ (dag_spec hd ho e he))⟩
    refine ⟨fun h0 => (by rw [h0] at hin; cases hin), fun i hi => ?_⟩
    obtain rfl := hrn i hi
    exact wpOp_mono (fun a' w' hq => ⟨h1, hq⟩) h2
  | succ fuel ih =>
    intro listed a w inv hu h
    have hsz := inv.size
    obtain ⟨i0, hi0, hf0, hk0⟩ := least_unl (n := n) (listed := listed) (by omega)
    have hin : i0 ∈ Region.ready md ops listed := by
      have hlt : i0 < ops.size := by omega
      have ho : ops[i0]? = some ops[i0] := by simp [hlt]
      exact mem_ready.2 ⟨hf0, _, ho, fun e he _ => true_false (by have := dag_spec hd ho e he; omega) (hk0 _ (dag_spec hd ho e he))⟩
    refine ⟨fun h0 => (by rw [h0] at hin; cases hin), fun i hi => ?_⟩
    obtain ⟨q1, o, q2, _⟩ := mem_ready.1 hi
    have hlt := (Array.getElem?_eq_some_iff.1 q2).1
    have hni : i < n := by
      rcases Nat.lt_or_ge i n with q | q
      · exact q
      · exact absurd hi (tail_waits hs hc (by omega) inv _ i0 rfl hi0 hf0 i q)
    have h2 := h.2 i (ready_mono hi (by omega))
    refine wpOp_last (n := n) (wpOp_mono (fun a' w' hq => ?_) h2)
    refine ih _ a' w' (inv.set hi hni) ?_ ?_
    · have := count_set (listed := listed) (i := i) (by omega) q1 (List.range n) List.nodup_range (List.mem_range.2 hni)
      unfold unl at *
      omega
    · rw [Array.setIfInBounds_comm _ _ (by omega)]
      exact hq
theorem wp_region_last {S : World → Prop} {id : Nat} {a : Act} {w : World} (n : Nat) (hm : P.follows .mixedOrders = true) (hB : (decide (ops.size = n + 1) && Region.sinkB .any ops n && dagB ops) = true)
    (h : wpAnyH P .any ops (LastQ P ops n Q) S n ((Array.replicate ops.size false).setIfInBounds n true) a w.drew) : (Code.region id ops true).wp P Q a w := by
  simp only [Bool.and_eq_true, decide_eq_true_eq] at hB
  refine wp_region_any hm ?_
  have hx := wpAny_last (P := P) (Q := Q) hB.1.1 hB.1.2 hB.2 n (Array.replicate ops.size false) a w.drew ⟨by simp, fun j oj _ hl => (by rw [getD_replicate_false] at hl; cases hl), fun t _ ht => (by simp [ht])⟩ (by
    unfold unl
    rw [List.countP_eq_length.2 (fun k hk => by have := List.mem_range.1 hk; have : k < ops.size := (by omega); simp [this])]
    simp) (wpAny_of_held _ _ _ _ h)
  rw [hB.1.1] at hx ⊢
  rw [← hB.1.1]
  rw [← hB.1.1] at hx
  exact hx
variable {S : World → Prop}
theorem takeL {l : List Oper} {i : Nat} {oi : Oper} {v : Value} {fuel : Nat} {listed : Array Bool} {a : Act} {w : World} (hi : l[i]? = some oi)
    (hs : Region.noSelect l.toArray = true) (hf : Region.free md l.toArray listed i = true) (hr : (Region.ready md l.toArray listed).contains i = true)
    (hQ : ∀ c a w, Q (.panic c) (a.put oi.dst v) w → Q (.panic c) a w) (hy : YieldsIf P l.toArray S oi v a) (hS : S w)
    (h : wpAnyH P md l.toArray Q S fuel (listed.setIfInBounds i true) (a.put oi.dst v) w) : wpAnyH P md l.toArray Q S (fuel + 1) listed a w :=
  wpAnyH_take (by simpa using hi) hs hf hr hQ hy hS h
theorem takeQ {l : List Oper} {i : Nat} {oi : Oper} {v : Value} {fuel : Nat} {listed : Array Bool} {a : Act} {w : World} (hi : l[i]? = some oi)
    (hB : (Region.noSelect l.toArray && Region.free md l.toArray listed i && (Region.ready md l.toArray listed).contains i) = true)
    (hQ : ∀ c a w, Q (.panic c) (a.put oi.dst v) w → Q (.panic c) a w) (hw : Region.wanted oi (yielded l.toArray a.tmps) = true) (hy : ∀ w, S w → (execOp a.eval oi).run P w = .ok (.value v) w) (hS : S w)
    (h : wpAnyH P md l.toArray Q S fuel (listed.setIfInBounds i true) (a.put oi.dst v) w) : wpAnyH P md l.toArray Q S (fuel + 1) listed a w := by
  simp only [Bool.and_eq_true] at hB
  exact takeL hi hB.1.1 hB.1.2 hB.2 hQ (.inl ⟨hw, hy⟩) hS h
theorem oneL {l : List Oper} {i : Nat} {o : Oper} {fuel : Nat} {listed : Array Bool} {a : Act} {w : World} (hr : Region.ready md l.toArray listed = [i]) (hi : l[i]? = some o)
    (h : ∀ K' : Act → World → Prop, Shut (∀ a w, S w → (S w → wpAnyH P md l.toArray Q S fuel (listed.setIfInBounds i true) a w) → K' a w) → if Region.wanted o (yielded l.toArray a.tmps) = true then Oper.wp P o a w K' Q else K' (a.put o.dst undef) w) :
    wpAnyH P md l.toArray Q S (fuel + 1) listed a w :=
  wpAnyH_ready hr (by simp) (AllReadyH.cons (by simpa using hi) h AllReadyH.nil)
theorem lastL {l : List Oper} {n : Nat} {o : Oper} {a : Act} {w : World} (hi : l[n]? = some o) (h : wpList P l.toArray Q [o] a w) : LastQ P l.toArray n Q .normal a w := by
  have hi' : l.toArray[n]? = some o := by simpa using hi
  show wpOp P l.toArray Q n (Q .normal) a w
  unfold wpOp
  simp only [hi']
  exact h
end
end Go.Proofs.YtnjefbkhibfgmaaGreat
namespace Go.Proofs.YtnjefbkhibfgmaaGreat
open Go.RowKit Go.BigFrame
set_option maxHeartbeats 4000000 in
set_option maxRecDepth 100000 in
theorem spec_l4CopyVol (B0 : Nat) (hB0 : 0 < B0) (id : Int) (nm : ByteArray) (fx : Bool) (its : List It) (qa : Option Addr) (qn qc : Nat) (w : World) (h : ItsAt B0 w qa qn its) (hn : qn ≤ 4194304) (hps : ∀ x ∈ its, x.ps.length ≤ 4194304) :
    Calls Tryz.prog 122 #[.agg #[.int .i64 id, .string nm, .bool fx, .slice qa qn qc]] w fun e w' => (∃ pa pc rows, e = .returned (.agg #[.int .i64 id, .string nm, .bool fx, .slice pa qn pc]) ∧ ResAt irs 2 44 w' w.heap.size pa qn pc rows ∧ RowsT w.heap.size w' rows its) ∧ Below w.heap.size w w' := by
  have hlen : Hid (its.length = qn) := h.len
  go_enter Tryz.func122, Tryz.ntmps122
  go_wp2_with fail
  go_loopw [4] (fun ix wr => ∃ (k : Nat) (a2 : Option Addr) (cap2 : Nat) (rows : List IR), k ≤ qn ∧ ix = .int .i64 k ∧ Blk wr w.heap.size #[.int .i64 id, .string nm, .bool fx, .slice qa qn qc] 41 ∧ Blk wr (w.heap.size + 1) #[.int .i64 0, .string ⟨#[]⟩, .bool false, .slice none 0 0] 41 ∧ Blk wr (w.heap.size + 2) #[.int .i64 id, .string nm, .bool fx, .slice a2 k cap2] 41 ∧ ResAt irs 2 44 wr (w.heap.size + 3) a2 k cap2 rows ∧ RowsT (w.heap.size + 3) wr rows (its.take k) ∧ w.heap.size + 3 ≤ wr.heap.size ∧ Below w.heap.size w wr) (fun ix _ => qn - (intOf ix).toNat)
  case atStart => exact ⟨0, none, 0, [], Nat.zero_le _, rfl, ((Blk.new w _ _).alloc _).alloc _, (Blk.new' _ _ _ _ (by simp)).alloc _, Blk.new' _ _ _ _ (by simp), res_nil, by simpa using RowsT.nil _ _, by simp, by go_grown⟩
  case round =>
    obtain ⟨k, a2, cap2, rows, hk, rfl, K1, K2, K3, R2, T2, hsw, hB⟩ := hrel
    have z3 : wr.cell? ⟨w.heap.size, 3, none⟩ = some (.slice qa qn qc) := K1.cell 3
    have y3 : wr.cell? ⟨w.heap.size + 2, 3, none⟩ = some (.slice a2 k cap2) := K3.cell 3
    by_cases hlt : k < qn
    · obtain ⟨b, o, x, pa, pn, pc, rfl, hx, d0, d1, hP, hh, _, _⟩ := its_at (h.below hB) hlt
      have hpn : pn ≤ 4194304 := by have := hps x (List.mem_of_getElem? hx); rw [hP.len] at this; exact this
      have hk1 : (k : Int) < qn := by omega
      have hk2 : (0 : Int) ≤ k := by omega
      have hh1 : ∀ ad, pa = some ad → ad.spot = none := (hh.2.2 hB0).2
      have hh2 : pa = none → pc = 0 := (hh.2.2 hB0).1
      have hbw0 : b < w.heap.size := by
        obtain ⟨b', o', _, _, _, _, hbo, _, f0, _⟩ := its_at h hlt
        obtain ⟨rfl, rfl⟩ : b = b' ∧ o = o' := by simpa using hbo
        exact World.block_lt_of_cell? w _ f0
      have hbw : b < w.heap.size + 3 := by omega
      have hbn : ¬ w.heap.size + 1 + 1 = b := by omega
      have hw0 : w.heap.size < w.heap.size + 3 := by omega
      have hx' : Hid (its.take (k + 1) = its.take k ++ [x]) := take_at hx
      clear hx
      have za := fun ob => acell (w := wr) ob z3
      have ya := fun ob => acell (w := wr) ob y3
      have da := fun ob => acell (w := wr) ob d0
      have de := fun ob => acell (w := wr) ob d1
      go_wp2_with fail
      have hS0 : (fun u => u.cell? ⟨w.heap.size, 3, none⟩ = some (.slice (some ⟨b, o, none⟩) qn qc) ∧ u.cell? ⟨w.heap.size + 1 + 1, 3, none⟩ = some (.slice a2 k cap2) ∧ u.cell? ⟨b, o + k * 2, none⟩ = some (.string x.nm) ∧ u.cell? ⟨b, o + k * 2 + 1, none⟩ = some (.slice pa pn pc)) wr.drew := ⟨z3, y3, d0, d1⟩
      refine wp_region_last (S := (fun u => u.cell? ⟨w.heap.size, 3, none⟩ = some (.slice (some ⟨b, o, none⟩) qn qc) ∧ u.cell? ⟨w.heap.size + 1 + 1, 3, none⟩ = some (.slice a2 k cap2) ∧ u.cell? ⟨b, o + k * 2, none⟩ = some (.string x.nm) ∧ u.cell? ⟨b, o + k * 2 + 1, none⟩ = some (.slice pa pn pc))) 20 (by kernel_rfl) (by kernel_rfl) ?_
      refine takeQ (i := 0) (v := ?v0) rfl (by kernel_rfl) (fun _ _ _ h => h) (by rfl) ?h0 (by assumption) ?r0
      case h0 => (intro u hu; (try dsimp only at hu); go_simp <;> with_reducible rfl)
      try simp only [Act.put, lsA, lsB, lsC]
      refine takeQ (i := 1) (v := ?v1) rfl (by kernel_rfl) (fun _ _ _ h => h) (by rfl) ?h1 (by assumption) ?r1
      case h1 => (intro u hu; (try dsimp only at hu); go_simp <;> with_reducible rfl)
      try simp only [Act.put, lsA, lsB, lsC]
      refine takeQ (i := 2) (v := ?v2) rfl (by kernel_rfl) (fun _ _ _ h => h) (by rfl) ?h2 (by assumption) ?r2
      case h2 => (intro u hu; (try dsimp only at hu); go_simp <;> with_reducible rfl)
      try simp only [Act.put, lsA, lsB, lsC]
      refine takeQ (i := 3) (v := ?v3) rfl (by kernel_rfl) (fun _ _ _ h => h) (by rfl) ?h3 (by assumption) ?r3
      case h3 => (intro u hu; (try dsimp only at hu); go_simp <;> with_reducible rfl)
      try simp only [Act.put, lsA, lsB, lsC]
      refine takeQ (i := 4) (v := ?v4) rfl (by kernel_rfl) (fun _ _ _ h => h) (by rfl) ?h4 (by assumption) ?r4
      case h4 => (intro u hu; (try dsimp only at hu); go_simp <;> with_reducible rfl)
      try simp only [Act.put, lsA, lsB, lsC]
      refine takeQ (i := 5) (v := ?v5) rfl (by kernel_rfl) (fun _ _ _ h => h) (by rfl) ?h5 (by assumption) ?r5
      case h5 => (intro u hu; (try dsimp only at hu); go_simp <;> with_reducible rfl)
      try simp only [Act.put, lsA, lsB, lsC]
      refine takeQ (i := 6) (v := ?v6) rfl (by kernel_rfl) (fun _ _ _ h => h) (by rfl) ?h6 (by assumption) ?r6
      case h6 => (intro u hu; (try dsimp only at hu); go_simp <;> with_reducible rfl)
      try simp only [Act.put, lsA, lsB, lsC]
      refine takeQ (i := 7) (v := ?v7) rfl (by kernel_rfl) (fun _ _ _ h => h) (by rfl) ?h7 (by assumption) ?r7
      case h7 => (intro u hu; (try dsimp only at hu); go_simp <;> with_reducible rfl)
      try simp only [Act.put, lsA, lsB, lsC]
      refine takeQ (i := 9) (v := ?v9) rfl (by kernel_rfl) (fun _ _ _ h => h) (by rfl) ?h9 (by assumption) ?r9
      case h9 => (intro u hu; (try dsimp only at hu); go_simp <;> with_reducible rfl)
      try simp only [Act.put, lsA, lsB, lsC]
      refine takeQ (i := 10) (v := ?v10) rfl (by kernel_rfl) (fun _ _ _ h => h) (by rfl) ?h10 (by assumption) ?r10
      case h10 => (intro u hu; (try dsimp only at hu); go_simp <;> with_reducible rfl)
      try simp only [Act.put, lsA, lsB, lsC]
      refine takeQ (i := 11) (v := ?v11) rfl (by kernel_rfl) (fun _ _ _ h => h) (by rfl) ?h11 (by assumption) ?r11
      case h11 => (intro u hu; (try dsimp only at hu); go_simp <;> with_reducible rfl)
      try simp only [Act.put, lsA, lsB, lsC]
      refine takeQ (i := 12) (v := ?v12) rfl (by kernel_rfl) (fun _ _ _ h => h) (by rfl) ?h12 (by assumption) ?r12
      case h12 => (intro u hu; (try dsimp only at hu); go_simp <;> with_reducible rfl)
      try simp only [Act.put, lsA, lsB, lsC]
      refine takeQ (i := 13) (v := ?v13) rfl (by kernel_rfl) (fun _ _ _ h => h) (by rfl) ?h13 (by assumption) ?r13
      case h13 => (intro u hu; (try dsimp only at hu); go_simp <;> with_reducible rfl)
      try simp only [Act.put, lsA, lsB, lsC]
      refine takeQ (i := 14) (v := ?v14) rfl (by kernel_rfl) (fun _ _ _ h => h) (by rfl) ?h14 (by assumption) ?r14
      case h14 => (intro u hu; (try dsimp only at hu); go_simp <;> with_reducible rfl)
      try simp only [Act.put, lsA, lsB, lsC]
      refine oneL (i := 8) (by kernel_rfl) rfl (fun K hK => ?_)
      go_simp
      refine hK.out _ _ ⟨za _, ya _, da _, de _⟩ (fun hHeld => ?_)
      clear hK K
      try simp only [Act.put, lsA, lsB, lsC]
      refine oneL (i := 15) (by kernel_rfl) rfl (fun K hK => ?_)
      refine step_app rfl (wp_appP _ _ rfl wr.heap.size _ 0 0 [] rfl (res_empty (Blk.new' _ _ _ _ (by simp)) (by simp)) pa pn pc x.ps rfl (hP.below (by go_grown)) hh1 hh2 pn (Nat.zero_add _) (by omega) (by simp) ?_)
      intro a3 cap3 w3 R3 hg3
      have hB3 : Below wr.heap.size wr w3 := Below.grown (by go_grown) hg3 (by simp) (fun j e => by simp [Value.ownBlock] at e; omega)
      have hs3 := hB3.size
      refine hK.out _ _ ⟨bcell hB3 z3, bcell hB3 y3, bcell hB3 d0, bcell hB3 d1⟩ (fun hHeld => ?_)
      clear hK K
      try simp only [Act.put, lsA, lsB, lsC]
      refine takeQ (i := 16) (v := ?v16) rfl (by kernel_rfl) (fun _ _ _ h => h) (by rfl) ?h16 (by assumption) ?r16
      case h16 => (intro u hu; (try dsimp only at hu); go_simp <;> with_reducible rfl)
      try simp only [Act.put, lsA, lsB, lsC]
      refine oneL (i := 17) (by kernel_rfl) rfl (fun K hK => ?_)
      go_simp
      refine hK.out _ _ ⟨acell _ (bcell hB3 z3), acell _ (bcell hB3 y3), acell _ (bcell hB3 d0), acell _ (bcell hB3 d1)⟩ (fun hHeld => ?_)
      clear hK K
      try simp only [Act.put, lsA, lsB, lsC]
      refine oneL (i := 18) (by kernel_rfl) rfl (fun K hK => ?_)
      have hB4 : Below wr.heap.size wr (w3.alloc (.cells #[.string x.nm, .slice a3 pn cap3] 44)) := chain hB3 (by go_grown)
      refine step_app rfl (wp_appI _ _ rfl (w.heap.size + 3) a2 k cap2 rows rfl (R2.below hB4) _ 1 1 [(⟨x.nm, a3, pn, cap3⟩ : IR)] rfl (sl_newIt _ (⟨x.nm, a3, pn, cap3⟩ : IR) _ _ (by simp)) (fun ad h => (by cases h; rfl)) (fun h => (by cases h)) (k + 1) rfl (by omega) (by have := hB4.size; omega) ?_)
      intro a4 cap4 w4 R4 hg4
      have hge4 : ∀ j, Value.ownBlock (.slice a2 k cap2) = some j → w.heap.size + 3 ≤ j := own_ge fun ad had => (R2.block ad had).1
      have L1 := (K1.below hB4).offB hg4 hge4 (by omega)
      have L3 := (K3.below hB4).offB hg4 hge4 (by omega)
      have L2 := (K2.below hB4).offB hg4 hge4 (by omega)
      have e0 := hg4.cell (a := ⟨b, o + k * 2, none⟩) (bcell hB4 d0) (own_ne' (fun ad had => (R2.block ad had).1) hbw)
      have e1 := hg4.cell (a := ⟨b, o + k * 2 + 1, none⟩) (bcell hB4 d1) (own_ne' (fun ad had => (R2.block ad had).1) hbw)
      refine hK.out _ _ ⟨L1.cell 3, L3.cell 3, e0, e1⟩ (fun hHeld => ?_)
      clear hK K
      try simp only [Act.put, lsA, lsB, lsC]
      refine takeQ (i := 19) (v := ?v19) rfl (by kernel_rfl) (fun _ _ _ h => h) (by rfl) ?h19 (by assumption) ?r19
      case h19 => (intro u hu; (try dsimp only at hu); go_simp <;> with_reducible rfl)
      try simp only [Act.put, lsA, lsB, lsC]
      refine wpAnyH_done (by kernel_rfl) ?_ _
      refine lastL rfl ?_
      have y4 : w4.cell? ⟨w.heap.size + 1 + 1, 3, none⟩ = some (.slice a2 k cap2) := L3.cell 3
      have f4 : w4.frozen? ⟨w.heap.size + 1 + 1, 3, none⟩ = false := L3.frozen 3
      go_wp2
      go_roundw
      case rel =>
        have hg5 := gset w4 (w.heap.size + 1 + 1) 3 (.slice a4 (k + 1) cap4)
        have hsz := hB.size
        refine ⟨k + 1, a4, cap4, rows ++ [⟨x.nm, a3, pn, cap3⟩], by omega, by go_num, L1.other _ _ (by simp only [ne_eq]; omega), L2.other _ _ (by simp only [ne_eq]; omega), by simpa using L3.set 3 (.slice a4 (k + 1) cap4), R4.ty hg5 (rowTy_blk L3) (by decide), ?_, ?_, ?_⟩
        · rw [hx'.out]
          have R3' := (((R3.alloc (.cells #[.string x.nm, .slice a3 pn cap3] 44)).ty hg4 (R2.below hB4).rowTy (by decide)).mono (show w.heap.size + 3 ≤ wr.heap.size by omega))
          rw [List.nil_append] at R3'
          exact (((T2.below hB4).ty hg4 (R2.below hB4).rowTy (by decide)).snoc ⟨rfl, R3'⟩).ty hg5 (rowTy_blk L3) (by decide)
        · have h4 := L3.lt
          have := hg5.size
          omega
        · exact Below.setCell (Below.grown (chain hB hB4) hg4 (by have := hB4.size; omega) (fun j e => by have := hge4 j e; omega)) (by simp only; omega) _
      case measure => simp [intOf]; omega
    · obtain rfl : k = qn := by omega
      obtain ⟨y0, y1, y2, _⟩ := K3.four
      obtain ⟨x0, x1, x2, x3⟩ := K2.four
      have f0 := K2.frozen 0
      have f1 := K2.frozen 1
      have f2 := K2.frozen 2
      have f3 := K2.frozen 3
      obtain ⟨W0, hg0⟩ := set4 K2 (.int .i64 id) (.string nm) (.bool fx) (.slice a2 k cap2)
      have R0 := R2.ty hg0 (rowTy_blk K2) (by decide)
      have T0 := T2.ty hg0 (rowTy_blk K2) (by decide)
      have B1 := hB.grown hg0 hB.size (fun j e => by cases e; omega)
      go_wp2
      generalize (((wr.setCell ⟨w.heap.size + 1, 0, none⟩ (.int .i64 id)).setCell ⟨w.heap.size + 1, 1, none⟩ (.string nm)).setCell ⟨w.heap.size + 1, 2, none⟩ (.bool fx)).setCell ⟨w.heap.size + 1, 3, none⟩ (.slice a2 k cap2) = W8 at *
      refine bodyPost_ret (results_cell_row rfl _ W8 (w.heap.size + 1) _ _ _ _ rfl W0 Tryz.underlying41 rfl (by kernel_rfl)) rfl ?_
      rw [List.take_of_length_le (Nat.le_of_eq hlen.out)] at T0
      exact ⟨⟨a2, cap2, rows, rfl, R0.mono (by omega), T0.mono (by omega)⟩, B1⟩
end Go.Proofs.YtnjefbkhibfgmaaGreat
