/- Drawn owners. Drawn lists of late counts, and of counts. Drawn lists of counts; lists of counts that are the same; what Flushed undoes. What Merged and Flushed are tried at. Plain facts: what Merged tells of a list turned round, parted, or merged already. Merged in a world that has grown. -/
import Derived.Test.YtbjejnkeekndbaaProg
import Derived.Test.YtbjejnkeekndbaaKr
import Derived.Test.YtbjejnkeekndbaaKe
import Derived.Laws.Rows
import Derived.Test.YtbjejnkeekndbaaKi
import Derived.Test.YtbjejnkeekndbaaKl
import Derived.Laws.StructEq
import Derived.Test.YtbjejnkeekndbaaKc
namespace Go.Proofs.Ytbjejnkeekndbaa
open Go.RowKit Go.BigFrame

/-- An owner among an ending's values. -/
def RetOw (e : Ending) : Prop := ∃ o : Ow, e = .returned (.agg #[.int .i64 o.a, .int .i64 o.v, .string o.f]) ∧ o.f.size ≤ 1

set_option maxHeartbeats 1000000 in
set_option maxRecDepth 100000 in
theorem spec_owner (B : Nat) (w : World) (h : Rd w B) :
    Calls Try.prog 141 #[.pointer (some ⟨B, 0, none⟩)] w fun e w' => RetOw e ∧ Rd w' B ∧ w.grownBy w' (some B) := by
  have hlt := h.lt
  go_enter Try.func141, Try.ntmps141
  go_wp2_with fail
  refine (spec_belowN B 3 _ (h.below (by go_grown)) (by omega) (by omega)).mono ?_
  rintro e w1 ⟨⟨x, rfl, hx⟩, hR1, hg1⟩
  have b1 := (Blk.new w _ _).grown hg1 (by omega)
  have hG1 : w.grownBy w1 (some B) := grown_trans (grown_below (grown_refl w B) (by go_grown)) hg1
  clear hg1
  go_wp2_with fail
  refine (spec_belowN B 2 _ hR1 (by omega) (by omega)).mono ?_
  rintro e w2 ⟨⟨y, rfl, hy⟩, hR2, hg2⟩
  have b2 := b1.grown hg2 (by omega)
  have hG2 := grown_trans hG1 hg2
  clear hg2 b1 hG1 hR1
  go_wp2_with fail
  refine (spec_belowN B 2 _ (hR2.below (by go_grown)) (by omega) (by omega)).mono ?_
  rintro e w3 ⟨⟨z, rfl, hz⟩, hR3, hg3⟩
  have b3 := (b2.alloc _).grown hg3 (by omega)
  have hw2 := b2.lt
  have s3 := (Blk.new w2 _ _).grown hg3 (by have := hR2.lt; omega)
  have hG3 : w.grownBy w3 (some B) := grown_trans (grown_below hG2 (by go_grown)) hg3
  clear hg3 b2 hG2 hR2
  have z0 := s3.cell 0
  have z1 := s3.cell 1
  simp only [List.getElem?_toArray, List.getElem?_cons_zero, List.getElem?_cons_succ] at z0 z1
  have f0 := b3.frozen 0
  have f1 := b3.frozen 1
  have f2 := b3.frozen 2
  have y0 := b3.cell 0
  have y1 := b3.cell 1
  have y2 := b3.cell 2
  simp only [List.getElem?_toArray, List.getElem?_cons_zero, List.getElem?_cons_succ] at y0 y1 y2
  obtain ⟨s, hs, hs1⟩ : ∃ s : ByteArray, w3.cell? ⟨w2.heap.size, z, none⟩ = some (.string s) ∧ s.size ≤ 1 := by
    rcases (show z = 0 ∨ z = 1 by omega) with rfl | rfl
    · exact ⟨_, z0, by decide⟩
    · exact ⟨_, z1, by decide⟩
  have hg := grown_set (grown_set (grown_set (grown_refl w3 w.heap.size) 0 (.int .i64 (1 + (x : Int)))) 1 (.int .i64 (1 + (y : Int)))) 2 (.string s)
  have hRW := hR3.grown hg hlt
  have hbW := ((b3.set 0 (.int .i64 (1 + (x : Int)))).set 1 (.int .i64 (1 + (y : Int)))).set 2 (.string s)
  have hGW : w.grownBy (((w3.setCell ⟨w.heap.size, 0, none⟩ (.int .i64 (1 + (x : Int)))).setCell ⟨w.heap.size, 1, none⟩ (.int .i64 (1 + (y : Int)))).setCell ⟨w.heap.size, 2, none⟩ (.string s)) (some B) :=
    ⟨hg.os.trans hG3.os, hg.tape.trans hG3.tape, hg.output.trans hG3.output, Nat.le_trans hG3.size hg.size, fun k hk hne => by
      rw [hg.block k (Nat.lt_of_lt_of_le hk hG3.size) (by simp; omega)]; exact hG3.block k hk hne⟩
  clear z0 z1 s3 hR3 hG3 hg b3 h
  have hz2 : (z : Int) < 2 := by omega
  go_wp2
  generalize ((w3.setCell ⟨w.heap.size, 0, none⟩ (.int .i64 (1 + (x : Int)))).setCell ⟨w.heap.size, 1, none⟩ (.int .i64 (1 + (y : Int)))).setCell ⟨w.heap.size, 2, none⟩ (.string s) = W4 at *
  refine bodyPost_ret (results_cell_row rfl _ W4 w.heap.size _ _ _ _ rfl hbW Try.underlying64 rfl (by kernel_rfl)) rfl ?_
  exact ⟨⟨⟨1 + x, 1 + y, s⟩, by simp, hs1⟩, hRW, hGW⟩
end Go.Proofs.Ytbjejnkeekndbaa
namespace Go.Proofs.Ytbjejnkeekndbaa
open Go.RowKit Go.BigFrame

/-- A cell of the first element is set. -/
theorem res_set0 {α : Type} {cs : α → List Value} {sz : Nat} {t : TypeId} (hsz : ∀ x, (cs x).length = sz) (hpos : 0 < sz) {w : World} {B b n cap : Nat} {x x' : α} {r : List α} (R : ResAt cs sz t w B (some ⟨b, 0, none⟩) n cap (x :: r)) (j0 : Nat) (hj0 : j0 < sz) (v : Value)
    (h : ∀ j, (cs x')[j]? = if j = j0 then some v else (cs x)[j]?) : ResAt cs sz t (w.setCell ⟨b, j0, none⟩ v) B (some ⟨b, 0, none⟩) n cap (x' :: r) := by
  have hlen := R.sl.len
  simp only [List.length_cons] at hlen
  rcases R.own with ⟨h, _⟩ | ⟨b', hb', hB, h1, h2, c, hc, hs, _⟩
  · cases h
  · obtain rfl : b = b' := by simpa using hb'
    have hcell : ∀ i y, (x :: r)[i]? = some y → ∀ j u, (cs y)[j]? = some u → c[i * sz + j]? = some u := fun i y hy j u hu => by
      obtain ⟨b2, o2, ha, hh⟩ := R.sl.cell i y hy
      obtain ⟨rfl, rfl⟩ : b = b2 ∧ 0 = o2 := by simpa using ha
      have := hh j u hu
      rw [hc.cell, Nat.zero_add] at this
      exact this
    have hbig : j0 < c.size := by
      rw [hs]
      exact Nat.lt_of_lt_of_le hj0 (Nat.le_mul_of_pos_left sz (by omega))
    refine res_of_cells hsz hpos (hc.set j0 v) hB h1 h2 (by simpa using hs) (by simpa using hlen) ?_
    intro i y hy j u hu
    cases i with
    | zero =>
      obtain rfl := Option.some.inj hy
      rw [h] at hu
      rw [Nat.zero_mul, Nat.zero_add]
      split at hu
      · rename_i hj
        subst hj
        rw [Array.getElem?_setIfInBounds_self_of_lt hbig]; exact hu
      · rename_i hj
        rw [Array.getElem?_setIfInBounds_ne (by omega)]
        have := hcell 0 x rfl j u hu
        rwa [Nat.zero_mul, Nat.zero_add] at this
    | succ i =>
      have : sz ≤ (i + 1) * sz := Nat.le_mul_of_pos_left sz (by omega)
      rw [Array.getElem?_setIfInBounds_ne (by omega)]
      exact hcell (i + 1) y hy j u hu

/-- A drawn list of counts: short names. -/
def CtsDrawn (l : List Ct) : Prop := ∀ c ∈ l, c.o.f.size ≤ 1
theorem CtsDrawn.strs {l : List Ct} (h : CtsDrawn l) : StrC l := fun c hc => by have := h c hc; omega
theorem drawn_snoc {l : List Ct} (h : CtsDrawn l) {o : Ow} (ho : o.f.size ≤ 1) (n : Int) : CtsDrawn (l ++ [⟨o, n⟩]) := by
  intro c hc
  rcases List.mem_append.1 hc with hc | hc
  · exact h c hc
  · simp at hc; subst hc; exact ho

set_option maxHeartbeats 2000000 in
set_option maxRecDepth 100000 in
theorem spec_late (B : Nat) (most : Nat) (w : World) (h : Rd w B) (hmost : most ≤ 100) :
    Calls Try.prog 107 #[.pointer (some ⟨B, 0, none⟩), .int .i64 (most : Int)] w fun e w' => (∃ a n cap l, e = .returned (.slice a n cap) ∧ n ≤ most ∧ CtsDrawn l ∧ ResAt Ct.cs 4 66 w' w.heap.size a n cap l) ∧ Rd w' B ∧ w.grownBy w' (some B) := by
  have hlt := h.lt
  obtain ⟨i0, hi, hz0, hz1, hz2⟩ := info_parts infoC
  go_enter Try.func107, Try.ntmps107
  go_wp2_with fail
  refine (spec_belowN B (most + 1) _ (h.below (by go_grown)) (by omega) (by omega)).mono ?_
  rintro e w1 ⟨⟨x, rfl, hx⟩, hR1, hg1⟩
  have b1 := (Blk.new w #[] 66).grown hg1 (by omega)
  have hG1 : w.grownBy w1 (some B) := grown_trans (grown_below (grown_refl w B) (by go_grown)) hg1
  clear hg1
  go_wp2_with fail
  go_loopw [5, 6] (fun out ix wr => ∃ (k m : Nat) (a2 : Option Addr) (n2 cap2 : Nat) (lk : List Ct), ix = .int .i64 k ∧ k + m = x ∧ out = .slice a2 n2 cap2 ∧ n2 ≤ m ∧ CtsDrawn lk ∧ ResAt Ct.cs 4 66 wr w.heap.size a2 n2 cap2 lk ∧ Rd wr B ∧ w.grownBy wr (some B)) (fun _ ix _ => (intOf ix).toNat)
  case atStart => exact ⟨x, 0, _, 0, 0, [], rfl, by omega, rfl, Nat.le_refl _, (fun c hc => by cases hc), res_empty b1 (Nat.le_refl _), hR1, hG1⟩
  case round =>
    obtain ⟨k, m, a2, n2, cap2, lk, rfl, hkm, rfl, hn2, hsm, R2, hR, hG⟩ := hrel
    by_cases hk : 0 < k
    · go_wp2_with fail
      refine (spec_belowN B 5 _ hR (by omega) (by omega)).mono ?_
      rintro e w2 ⟨⟨y, rfl, hy⟩, hR2, hg2⟩
      have R3 := R2.grown hg2 (fun ad had => by have := (R2.block ad had).1; omega)
      have hG2 := grown_trans hG hg2
      clear R2 hg2 hR hG
      by_cases h0 : (y : Int) - 2 = 0
      all_goals go_wp2_with fail
      all_goals refine (spec_owner B _ hR2).mono ?_
      all_goals rintro e w3 ⟨⟨o, rfl, ho⟩, hR3, hg3⟩
      all_goals have R4 := R3.grown hg3 (fun ad had => by have := (R3.block ad had).1; omega)
      all_goals have hG3 := grown_trans hG2 hg3
      all_goals have hsz := hG3.size
      all_goals clear R3 hg3 hR2 hG2
      all_goals go_wp2_with (at_builtin; refine wpList_app rfl (fun K hK => wp_app _ _ 58 rfl w.heap.size 66 i0 (.agg #[.int .i64 0, .int .i64 0, .string .empty, .int .i64 0]) 40 Try.underlying58 hi hz0 hz1 hz2 rfl (by decide) ccs_len ccs_one a2 n2 cap2 lk rfl (R4.alloc _) _ 1 1 [⟨o, _⟩] rfl (sl_newC' _ o _ _ _ (by simp)) (fun ad h => (by cases h; rfl)) (fun h => (by cases h)) (n2 + 1) rfl (by unfold maxLen; omega) (by omega) (by simp; omega) (fun a3 cap3 w4 R5 hg4 => hK _ _ ?_)))
      all_goals have hge : ∀ j, Value.ownBlock (.slice a2 n2 cap2) = some j → w.heap.size ≤ j := own_ge fun ad had => (R4.block ad had).1
      all_goals have hR4 := (hR3.below ((Below.refl _ _).alloc (Nat.le_refl _) _)).grownO hg4 (fun j hj => by have := hge j hj; omega)
      all_goals have hG4 := grown_row (grown_below hG3 ((Below.refl _ _).alloc (Nat.le_refl _) _)) hg4 hge
      all_goals go_wp2
      all_goals go_roundw
      case rel => exact ⟨k - 1, m + 1, a3, n2 + 1, cap3, _, by show Value.int IntKind.i64 _ = Value.int IntKind.i64 _; congr 1; omega, by omega, rfl, by omega, drawn_snoc hsm ho _, R5, hR4, hG4⟩
      case measure => simp [intOf]; omega
      case rel => exact ⟨k - 1, m + 1, a3, n2 + 1, cap3, _, by show Value.int IntKind.i64 _ = Value.int IntKind.i64 _; congr 1; omega, by omega, rfl, by omega, drawn_snoc hsm ho _, R5, hR4, hG4⟩
      case measure => simp [intOf]; omega
    · obtain rfl : k = 0 := by omega
      go_wp2_with fail
      refine (spec_once B 30 _ hR (by omega) (by omega)).mono ?_
      rintro e w2 ⟨⟨v, rfl⟩, hR2, hg2⟩
      have R3 := R2.grown hg2 (fun ad had => by have := (R2.block ad had).1; omega)
      have hG2 := grown_trans hG hg2
      clear R2 hg2
      cases v
      · go_wp2
        go_returns
        exact ⟨⟨a2, n2, cap2, lk, rfl, by omega, hsm, R3⟩, hR2, hG2⟩
      · cases lk with
        | nil =>
          obtain rfl : n2 = 0 := by have := R3.sl.len; simpa using this.symm
          go_wp2
          go_returns
          exact ⟨⟨a2, 0, cap2, [], rfl, by omega, hsm, R3⟩, hR2, hG2⟩
        | cons c r =>
          have hn1 : (0 : Int) < n2 := by have := R3.sl.len; simp at this; omega
          go_wp2_with fail
          refine (spec_off B (-2) 2 _ hR2 (by omega) (by omega) (by omega)).mono ?_
          rintro e w3 ⟨⟨y, rfl, hy0, hy1⟩, hR3, hg3⟩
          have R4 := R3.grown hg3 (fun ad had => by have := (R3.block ad had).1; omega)
          have hG3 := grown_trans hG2 hg3
          clear R3 hg3
          rcases R4.own with ⟨_, e0, _⟩ | ⟨b, rfl, hb0, hcap, _, c0, hc, hcs, _⟩
          · omega
          · have R5 := res_set0 (x' := (⟨c.o, y⟩ : Ct)) ccs_len (by omega) R4 3 (by omega) (.int .i64 y) (fun j => by rcases j with _ | _ | _ | _ | j <;> simp [Ct.cs])
            have hg5 := grown_set (grown_refl w3 b) 3 (.int .i64 y)
            have hR5 := hR3.grown hg5 (by omega)
            have hG5 : w.grownBy (w3.setCell ⟨b, 3, none⟩ (.int .i64 y)) (some B) := ⟨hg5.os.trans hG3.os, hg5.tape.trans hG3.tape, hg5.output.trans hG3.output, Nat.le_trans hG3.size hg5.size, fun k hk hne => by
              rw [hg5.block k (Nat.lt_of_lt_of_le hk hG3.size) (by simp; omega)]; exact hG3.block k hk hne⟩
            have f3 := hc.frozen 3
            obtain ⟨u, hu⟩ := hc.has (i := 3) (by rw [hcs]; omega)
            have hdr5 : CtsDrawn (⟨c.o, y⟩ :: r) := by
              intro q hq
              simp at hq
              rcases hq with rfl | hq
              · exact hsm c (by simp)
              · exact hsm q (by simp [hq])
            go_wp2
            go_returns
            exact ⟨⟨_, n2, cap2, _, rfl, by omega, hdr5, R5⟩, hR5, hG5⟩
end Go.Proofs.Ytbjejnkeekndbaa
namespace Go.Proofs.Ytbjejnkeekndbaa
open Go.RowKit Go.BigFrame

theorem drawn_addC {c : Ct} (hc : c.o.f.size ≤ 1) : ∀ {l : List Ct}, CtsDrawn l → CtsDrawn (addC l c)
  | [], _ => by intro x hx; simp [addC] at hx; subst hx; exact hc
  | y :: r, h => by
    have hy := h y (by simp)
    have hr : CtsDrawn r := fun x hx => h x (by simp [hx])
    unfold addC
    split
    · intro x hx
      rcases List.mem_cons.1 hx with rfl | hx
      · exact hy
      · exact drawn_addC hc hr x hx
    · split
      · split
        · intro x hx
          rcases List.mem_cons.1 hx with rfl | hx
          · exact hc
          · exact hr x hx
        · exact hr
      · intro x hx
        rcases List.mem_cons.1 hx with rfl | hx
        · exact hc
        · exact h x hx

def negC (l : List Ct) : List Ct := l.map (fun c => ⟨c.o, -c.n⟩)
theorem tot_neg (o : Ow) : ∀ l : List Ct, tot o (negC l) = -tot o l
  | [] => rfl
  | c :: r => by
    have := tot_neg o r
    simp only [negC, List.map_cons, tot] at this ⊢
    rw [this]
    split <;> omega
theorem late_neg {l : List Ct} (h : lateOkB l = true) : lateOkB (negC l) = true := by
  simp only [lateOkB, Bool.and_eq_true, decide_eq_true_eq, List.all_eq_true] at h ⊢
  refine ⟨by simpa [negC] using h.1, fun x hx => ?_⟩
  simp only [negC, List.mem_map] at hx
  obtain ⟨c, hc, rfl⟩ := hx
  have := h.2 c hc
  simp only [lateB, Bool.and_eq_true, decide_eq_true_eq, Bool.not_eq_true', beq_eq_false_iff_ne] at this ⊢
  refine ⟨⟨⟨this.1.1.1, by omega⟩, by omega⟩, by omega⟩

theorem flush_some {refs late f : List Ct} (h : flushedO refs late = some f) : refsOkB refs = true ∧ lateOkB late = true ∧ refsOkB f = true ∧ f = sumC refs late := by
  unfold flushedO at h
  split at h
  · rename_i h1
    split at h
    · rename_i h2
      obtain rfl := Option.some.inj h
      exact ⟨h1.1, h1.2, h2, rfl⟩
    · cases h
  · cases h
theorem flush_is {refs late f : List Ct} (h1 : refsOkB refs = true) (h2 : lateOkB late = true) (h3 : refsOkB f = true) (h4 : ∀ o, tot o f = tot o refs + tot o late) : flushedO refs late = some f := by
  obtain ⟨s1, s2, s3⟩ := sum_facts (refs_rising h1) (refs_wf h1).2 (late_wf h2).2
  have e : sumC refs late = f := rising_unique s1 (refs_rising h3) s2 (refs_wf h3).2 (fun o => by rw [s3, h4])
  unfold flushedO
  rw [if_pos ⟨h1, h2⟩, e, if_pos h3]
theorem flush_tot {refs late f : List Ct} (h : flushedO refs late = some f) (o : Ow) : tot o f = tot o refs + tot o late := by
  obtain ⟨h1, h2, _, rfl⟩ := flush_some h
  exact (sum_facts (refs_rising h1) (refs_wf h1).2 (late_wf h2).2).2.2 o
theorem merged_tot {late : List Ct} (h : lateOkB late = true) (o : Ow) : tot o (mergedL late) = tot o late := by
  rw [mergedL, if_pos h, (sum_facts (l := []) List.Pairwise.nil (fun c hc => by cases hc) (late_wf h).2).2.2]
  simp [tot]
theorem flush_merged {refs late f : List Ct} (h : flushedO refs late = some f) (hm : lateOkB (mergedL late) = true) : flushedO refs (mergedL late) = some f := by
  obtain ⟨h1, h2, h3, _⟩ := flush_some h
  exact flush_is h1 hm h3 (fun o => by rw [flush_tot h, merged_tot h2])
theorem flush_back {refs late f : List Ct} (h : flushedO refs late = some f) : flushedO f (negC late) = some refs := by
  obtain ⟨h1, h2, h3, _⟩ := flush_some h
  exact flush_is h3 (late_neg h2) h1 (fun o => by rw [flush_tot h, tot_neg]; omega)

theorem eqO_in (o : Ow) (w : World) : (Op.equalIn 9999 64 (.agg #[.int .i64 o.a, .int .i64 o.v, .string o.f]) (.agg #[.int .i64 o.a, .int .i64 o.v, .string o.f])).run Try.prog w = .ok true w := by
  have u2 := Try.underlying2
  have u9 := Try.underlying9
  have a2 := Try.isAgg2
  have a9 := Try.isAgg9
  have z2 := Try.sizeOf2
  have z9 := Try.sizeOf9
  have hS : Try.prog.underlying 64 = some (.struct (Try.prog.fieldsOf 64)) := by kernel_rfl
  have hp : Try.prog.stoodInHeld 64 = false := by kernel_rfl
  rw [show (9999 : Nat) = 9998 + 1 from rfl, run_equalIn_agg w 9998 64 _ _ hS hp]
  simp only [Program.fieldsOf, Try.underlying64]
  clear hS hp
  go_simp
theorem neqC (p : Ct) (w : World) : (binOp .neq 66 (.agg #[.int .i64 p.o.a, .int .i64 p.o.v, .string p.o.f, .int .i64 p.n]) (.agg #[.int .i64 p.o.a, .int .i64 p.o.v, .string p.o.f, .int .i64 p.n])).run Try.prog w = .ok (.bool false) w := by
  have he := eqO_in p.o
  have u2 := Try.underlying2
  have a2 := Try.isAgg2
  have z2 := Try.sizeOf2
  have hz := Try.sizeOf64
  have ha := Try.isAgg64
  have hS : Try.prog.underlying 66 = some (.struct (Try.prog.fieldsOf 66)) := by kernel_rfl
  have hp : Try.prog.stoodInHeld 66 = false := by kernel_rfl
  rw [run_neq_struct, show (10000 : Nat) = 9999 + 1 from rfl, run_equalIn_agg w 9999 66 _ _ hS hp]
  simp only [Program.fieldsOf, Try.underlying66]
  clear hS hp
  go_simp

set_option maxHeartbeats 1000000 in
theorem laws_sameCounts (a : Option Addr) (n cap : Nat) (l : List Ct) (a' : Option Addr) (n' cap' : Nat) (w : World) (h : CtsAt w a n l) (h' : CtsAt w a' n' l) (hn : n ≤ 4194304) :
    Calls Try.prog 50 #[.slice a n cap, .slice a' n' cap'] w fun e w' => e = .returned (.bool true) ∧ Below w.heap.size w w' := by
  obtain rfl : n = n' := by rw [← h.len, ← h'.len]
  have hbn : ((n : Int) != (n : Int)) = false := by simp
  go_enter Try.func50, Try.ntmps50
  go_wp2_with fail
  go_loopw [5] (fun ix wr => ∃ (k : Nat), k ≤ n ∧ ix = .int .i64 k ∧ Below w.heap.size w wr) (fun ix _ => n - (intOf ix).toNat)
  case atStart => exact ⟨0, Nat.zero_le _, rfl, Below.refl _ _⟩
  case round =>
    obtain ⟨k, hk, rfl, hB⟩ := hrel
    by_cases hlt : k < n
    · obtain ⟨b, o, p, rfl, hp, c0, c1, c2, c3⟩ := cts_at (h.below hB) hlt
      obtain ⟨b', o', q, rfl, hq, d0, d1, d2, d3⟩ := cts_at (h'.below hB) hlt
      rw [hp] at hq
      obtain rfl := Option.some.inj hq
      have hk1 : (k : Int) < n := by omega
      have hk2 : (0 : Int) ≤ k := by omega
      have hne := neqC p
      clear hp hq
      go_wp2_with fail
      go_quiet (fail)
      have hB2 := below_drewN hB nq
      go_wp2
      go_roundw
      case rel => exact ⟨k + 1, by omega, by go_num, hB2⟩
      case measure => simp [intOf]; omega
    · obtain rfl : k = n := by omega
      go_wp2
      go_returns
      exact ⟨rfl, hB⟩

set_option maxHeartbeats 2000000 in
set_option maxRecDepth 100000 in
theorem spec_refs (B : Nat) (most : Nat) (w : World) (h : Rd w B) (hmost : most ≤ 100) :
    Calls Try.prog 114 #[.pointer (some ⟨B, 0, none⟩), .int .i64 (most : Int)] w fun e w' => (∃ a n cap l, e = .returned (.slice a n cap) ∧ n ≤ most ∧ CtsDrawn l ∧ (∀ x ∈ l, -100000 ≤ x.n ∧ x.n ≤ 100000) ∧ ResAt Ct.cs 4 66 w' w.heap.size a n cap l) ∧ Rd w' B ∧ w.grownBy w' (some B) := by
  have hlt := h.lt
  go_enter Try.func114, Try.ntmps114
  go_wp2_with fail
  refine (spec_belowN B (most + 1) _ (h.below (by go_grown)) (by omega) (by omega)).mono ?_
  rintro e w1 ⟨⟨x, rfl, hx⟩, hR1, hg1⟩
  have b1 := (Blk.new w #[] 66).grown hg1 (by omega)
  have hG1 : w.grownBy w1 (some B) := grown_trans (grown_below (grown_refl w B) (by go_grown)) hg1
  clear hg1
  go_wp2_with fail
  go_loopw [5, 6] (fun out ix wr => ∃ (k m : Nat) (a2 : Option Addr) (n2 cap2 : Nat) (lk : List Ct), ix = .int .i64 k ∧ k + m = x ∧ out = .slice a2 n2 cap2 ∧ n2 ≤ m ∧ CtsDrawn lk ∧ (∀ q ∈ lk, -(1000 * (m : Int)) ≤ q.n ∧ q.n ≤ 1000 * (m : Int)) ∧ ResAt Ct.cs 4 66 wr w.heap.size a2 n2 cap2 lk ∧ Rd wr B ∧ w.grownBy wr (some B)) (fun _ ix _ => (intOf ix).toNat)
  case atStart => exact ⟨x, 0, _, 0, 0, [], rfl, by omega, rfl, Nat.le_refl _, (fun c hc => by cases hc), (fun c hc => by cases hc), res_empty b1 (Nat.le_refl _), hR1, hG1⟩
  case round =>
    obtain ⟨k, m, a2, n2, cap2, lk, rfl, hkm, rfl, hn2, hsm, hbd, R2, hR, hG⟩ := hrel
    by_cases hk : 0 < k
    · go_wp2_with fail
      refine (spec_owner B _ hR).mono ?_
      rintro e w2 ⟨⟨o, rfl, ho⟩, hR2, hg2⟩
      have R3 := R2.grown hg2 (fun ad had => by have := (R2.block ad had).1; omega)
      have hG2 := grown_trans hG hg2
      clear R2 hg2 hR hG
      go_wp2_with fail
      refine (spec_belowN B 4 _ hR2 (by omega) (by omega)).mono ?_
      rintro e w3 ⟨⟨y, rfl, hy⟩, hR3, hg3⟩
      have R4 := R3.grown hg3 (fun ad had => by have := (R3.block ad had).1; omega)
      have hG3 := grown_trans hG2 hg3
      clear R3 hg3 hR2 hG2
      go_wp2_with fail
      refine (spec_l3Add a2 n2 cap2 lk ⟨o, 1 + (y : Int)⟩ _ R4.sl (by omega) (fun q hq => by have := hbd q hq; omega) (by dsimp only; omega)).mono ?_
      rintro e w4 ⟨⟨a5, n5, cap5, rfl, hn5, R5⟩, hB5⟩
      have hR5 := hR3.below hB5
      have hG5 := grown_below hG3 hB5
      have hb5 := bound_addC (B := 1000 * (m : Int)) (by omega) (c := ⟨o, 1 + (y : Int)⟩) (by dsimp only; omega) (by dsimp only; omega) hbd
      replace R5 := R5.mono hG3.size
      go_wp2
      go_roundw
      case rel => exact ⟨k - 1, m + 1, a5, n5, cap5, _, by show Value.int IntKind.i64 _ = Value.int IntKind.i64 _; congr 1; omega, by omega, rfl, by omega, drawn_addC ho hsm, fun q hq => by have := hb5 q hq; omega, R5, hR5, hG5⟩
      case measure => simp [intOf]; omega
    · obtain rfl : k = 0 := by omega
      go_wp2_with fail
      refine (spec_once B 30 _ hR (by omega) (by omega)).mono ?_
      rintro e w2 ⟨⟨v, rfl⟩, hR2, hg2⟩
      have R3 := R2.grown hg2 (fun ad had => by have := (R2.block ad had).1; omega)
      have hG2 := grown_trans hG hg2
      have hbd' : ∀ x ∈ lk, -100000 ≤ x.n ∧ x.n ≤ 100000 := fun q hq => by have := hbd q hq; omega
      clear R2 hg2
      cases v
      · go_wp2
        go_returns
        exact ⟨⟨a2, n2, cap2, lk, rfl, by omega, hsm, hbd', R3⟩, hR2, hG2⟩
      · cases lk with
        | nil =>
          obtain rfl : n2 = 0 := by have := R3.sl.len; simpa using this.symm
          go_wp2
          go_returns
          exact ⟨⟨a2, 0, cap2, [], rfl, by omega, hsm, hbd', R3⟩, hR2, hG2⟩
        | cons c r =>
          have hn1 : (0 : Int) < n2 := by have := R3.sl.len; simp at this; omega
          go_wp2_with fail
          refine (spec_off B 1 2 _ hR2 (by omega) (by omega) (by omega)).mono ?_
          rintro e w3 ⟨⟨y, rfl, hy0, hy1⟩, hR3, hg3⟩
          have R4 := R3.grown hg3 (fun ad had => by have := (R3.block ad had).1; omega)
          have hG3 := grown_trans hG2 hg3
          clear R3 hg3
          rcases R4.own with ⟨_, e0, _⟩ | ⟨b, rfl, hb0, hcap, _, c0, hc, hcs, _⟩
          · omega
          · have R5 := res_set0 (x' := (⟨⟨c.o.a, y, c.o.f⟩, c.n⟩ : Ct)) ccs_len (by omega) R4 1 (by omega) (.int .i64 y) (fun j => by rcases j with _ | _ | _ | _ | j <;> simp [Ct.cs])
            have hg5 := grown_set (grown_refl w3 b) 1 (.int .i64 y)
            have hR5 := hR3.grown hg5 (by omega)
            have hG5 : w.grownBy (w3.setCell ⟨b, 1, none⟩ (.int .i64 y)) (some B) := ⟨hg5.os.trans hG3.os, hg5.tape.trans hG3.tape, hg5.output.trans hG3.output, Nat.le_trans hG3.size hg5.size, fun k hk hne => by
              rw [hg5.block k (Nat.lt_of_lt_of_le hk hG3.size) (by simp; omega)]; exact hG3.block k hk hne⟩
            have f1 := hc.frozen 1
            obtain ⟨u, hu⟩ := hc.has (i := 1) (by rw [hcs]; omega)
            have hdr5 : CtsDrawn (⟨⟨c.o.a, y, c.o.f⟩, c.n⟩ :: r) := by
              intro q hq
              simp at hq
              rcases hq with rfl | hq
              · exact hsm c (by simp)
              · exact hsm q (by simp [hq])
            have hbd5 : ∀ x ∈ (⟨⟨c.o.a, y, c.o.f⟩, c.n⟩ :: r : List Ct), -100000 ≤ x.n ∧ x.n ≤ 100000 := by
              intro q hq
              simp at hq
              rcases hq with rfl | hq
              · exact hbd' c (by simp)
              · exact hbd' q (by simp [hq])
            go_wp2
            go_returns
            exact ⟨⟨_, n2, cap2, _, rfl, by omega, hdr5, hbd5, R5⟩, hR5, hG5⟩
end Go.Proofs.Ytbjejnkeekndbaa
namespace Go.Proofs.Ytbjejnkeekndbaa
open Go.RowKit Go.BigFrame

theorem spec_DrawMerged (a : Option Addr) (n cap : Nat) (w : World) (h : CodeAt w a n) (hn : n ≤ 1048576) :
    Calls Try.prog 48 #[.slice a n cap] w fun e w' => (∃ a1 n1 cap1 l1, e = .returned (.slice a1 n1 cap1) ∧ n1 ≤ 9 ∧ CtsDrawn l1 ∧ ResAt Ct.cs 4 66 w' w.heap.size a1 n1 cap1 l1) ∧ Below w.heap.size w w' := by
  go_enter Try.func48, Try.ntmps48
  go_wp2_with fail
  refine (spec_l1Open a n cap _ h hn).mono ?_
  rintro e w1 ⟨rfl, hR1, hB1⟩
  go_wp2_with fail
  refine (spec_late w.heap.size 9 _ hR1 (by omega)).mono ?_
  rintro e w2 ⟨⟨a1, n1, cap1, l1, rfl, hn1, hd1, R1⟩, _, hg2⟩
  have hB2 := below_grown hB1 hg2 (Nat.le_refl _)
  go_wp2
  go_returns
  exact ⟨⟨a1, n1, cap1, l1, rfl, hn1, hd1, R1.mono hB1.size⟩, hB2⟩
end Go.Proofs.Ytbjejnkeekndbaa
namespace Go.Proofs.Ytbjejnkeekndbaa
open Go.RowKit

theorem merged_facts {l : List Ct} (h : lateOkB l = true) : Rising (mergedL l) ∧ NoZero (mergedL l) := by
  rw [mergedL, if_pos h]
  have := sum_facts (l := []) (more := l) List.Pairwise.nil (fun c hc => by cases hc) (late_wf h).2
  exact ⟨this.1, this.2.1⟩
theorem merged_is {l R : List Ct} (h : lateOkB l = true) (h1 : Rising R) (h2 : NoZero R) (h3 : ∀ o, tot o R = tot o l) : mergedL l = R :=
  rising_unique (merged_facts h).1 h1 (merged_facts h).2 h2 (fun o => by rw [merged_tot h, h3])
theorem late_sub {l m : List Ct} (h : lateOkB l = true) (hl : m.length ≤ l.length) (hm : ∀ x ∈ m, x ∈ l) : lateOkB m = true := by
  simp only [lateOkB, Bool.and_eq_true, decide_eq_true_eq, List.all_eq_true] at h ⊢
  exact ⟨by omega, fun x hx => h.2 x (hm x hx)⟩
theorem merged_rev {l : List Ct} (h : lateOkB l = true) : mergedL l.reverse = mergedL l :=
  merged_is (late_sub h (by simp) (fun x hx => by simpa using hx)) (merged_facts h).1 (merged_facts h).2 (fun o => by rw [merged_tot h]; exact tot_perm (List.reverse_perm l).symm o)
theorem merged_two {l : List Ct} (h : lateOkB l = true) (k : Nat) (h2 : lateOkB (mergedL (l.take k) ++ mergedL (l.drop k)) = true) : mergedL (mergedL (l.take k) ++ mergedL (l.drop k)) = mergedL l := by
  have ht : lateOkB (l.take k) = true := late_sub h (by simp; omega) (fun x hx => List.mem_of_mem_take hx)
  have hd : lateOkB (l.drop k) = true := late_sub h (by simp) (fun x hx => List.mem_of_mem_drop hx)
  refine merged_is h2 (merged_facts h).1 (merged_facts h).2 (fun o => ?_)
  rw [merged_tot h, tot_append, merged_tot ht, merged_tot hd, ← tot_append, List.take_append_drop]
theorem merged_self {l : List Ct} (h : lateOkB l = true) (h2 : lateOkB (mergedL l) = true) : mergedL (mergedL l) = mergedL l :=
  merged_is h2 (merged_facts h).1 (merged_facts h).2 (fun _ => rfl)
theorem rising_at {l : List Ct} (h : Rising l) {k : Nat} {p q : Ct} (hp : l[k]? = some p) (hq : l[k + 1]? = some q) : owLt p.o q.o = true := by
  have hk : k + 1 < l.length := (List.getElem?_eq_some_iff.1 hq).1
  have := List.pairwise_iff_getElem.1 h k (k + 1) (by omega) hk (by omega)
  rw [List.getElem?_eq_getElem (by omega)] at hp hq
  rwa [Option.some.inj hp, Option.some.inj hq] at this
theorem rev_snoc {l : List Ct} {k : Nat} {p : Ct} (h : l[k]? = some p) : (l.drop (k + 1)).reverse ++ [p] = (l.drop k).reverse := by
  have hk : k < l.length := (List.getElem?_eq_some_iff.1 h).1
  rw [List.drop_eq_getElem_cons hk, List.reverse_cons]
  rw [List.getElem?_eq_getElem hk] at h
  rw [Option.some.inj h]
theorem str_merged {l : List Ct} (h : StrC l) : StrC (mergedL l) := by
  unfold mergedL
  split
  · exact str_sumC (fun c hc => by cases hc) h
  · exact fun c hc => by cases hc
end Go.Proofs.Ytbjejnkeekndbaa
namespace Go.Proofs.Ytbjejnkeekndbaa
open Go.RowKit

theorem merged_grown {W u : World} {a : Option Addr} {n cap : Nat} {l : List Ct} (h : CtsAt W a n l) (hs : StrC l) (hn : n ≤ 4194304) (hu : Below W.heap.size W u) :
    Calls Try.prog 49 #[.slice a n cap] u fun e w' => ∃ a2 n2 cap2, e = .returned (.slice a2 n2 cap2) ∧ n2 ≤ 200 ∧ ResAt Ct.cs 4 66 w' W.heap.size a2 n2 cap2 (mergedL l) ∧ Below u.heap.size u w' ∧ Below W.heap.size W w' ∧ W.heap.size ≤ w'.heap.size :=
  (impl_Merged a n cap l u (h.below hu) hs hn).mono fun _ _ ⟨⟨a2, n2, cap2, he, hn2, R⟩, hB⟩ => ⟨a2, n2, cap2, he, hn2, R.mono hu.size, hB, chain hu hB, (chain hu hB).size⟩
theorem strC_take {l : List Ct} (h : StrC l) (k : Nat) : StrC (l.take k) := fun c hc => h c (List.mem_of_mem_take hc)
theorem strC_drop {l : List Ct} (h : StrC l) (k : Nat) : StrC (l.drop k) := fun c hc => h c (List.mem_of_mem_drop hc)
end Go.Proofs.Ytbjejnkeekndbaa
