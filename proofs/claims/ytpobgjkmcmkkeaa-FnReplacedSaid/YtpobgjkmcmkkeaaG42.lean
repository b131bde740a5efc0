/- Drawn texts and ops of a disk. How much is drawn. An append to a slice whose block another slice may share, as far as it is not longer. -/
import Derived.Test.YtpobgjkmcmkkeaaG41
import Derived.Test.YtpobgjkmcmkkeaaG19
import Derived.Test.YtpobgjkmcmkkeaaG08
namespace Go.Proofs.Ytpobgjkmcmkkeaa
open Go Go.RowKit Go.BigFrame

set_option maxHeartbeats 1000000 in
set_option maxRecDepth 100000 in
theorem spec_text (B : Nat) (w : World) (h : Rd w B) :
    Calls Try.prog 59 #[.pointer (some ⟨B, 0, none⟩)] w fun e w' => (∃ d : ByteArray, e = .returned (.string d) ∧ d.size ≤ 20) ∧ Rd w' B ∧ w.grownBy w' (some B) := by
  have hlt := h.lt
  go_enter Try.func59, Try.ntmps59
  go_wp2_with fail
  refine (spec_belowN B 6 _ (h.below (by go_grown)) (by omega) (by omega)).mono ?_
  rintro e w1 ⟨⟨x, rfl, hx⟩, hR1, hg1⟩
  have b1 := (Blk.new w _ _).grown hg1 (by omega)
  have hG1 : w.grownBy w1 (some B) := grown_trans (grown_below (grown_refl w B) (by go_grown)) hg1
  clear hg1
  obtain ⟨s, hs, hs1⟩ : ∃ s : ByteArray, w1.cell? ⟨w.heap.size, x, none⟩ = some (.string s) ∧ s.size ≤ 20 := by
    rw [b1.cell]
    rcases (show x = 0 ∨ x = 1 ∨ x = 2 ∨ x = 3 ∨ x = 4 ∨ x = 5 by omega) with rfl | rfl | rfl | rfl | rfl | rfl
    all_goals exact ⟨_, rfl, by decide⟩
  have hx2 : (x : Int) < 6 := by omega
  clear b1
  go_wp2
  go_returns
  exact ⟨⟨s, rfl, hs1⟩, hR1, hG1⟩
/-- A drawn op. -/
def DpSmall (o : Dp) : Prop := 1 ≤ o.k ∧ o.k ≤ 3 ∧ o.nm.size ≤ 20 ∧ o.tt.size ≤ 20 ∧ o.d.size ≤ 20
theorem dpSmall_mk {k : Int} {a b c : ByteArray} (hk : 1 ≤ k ∧ k ≤ 3) (ha : a.size ≤ 20) (hb : b.size ≤ 20) (hc : c.size ≤ 20) : DpSmall ⟨k, a, b, c⟩ := ⟨hk.1, hk.2, ha, hb, hc⟩
theorem grown_setB1 {w w1 : World} {B b i : Nat} {v : Value} (hG : w.grownBy w1 (some B)) (hb : w.heap.size ≤ b) : w.grownBy (w1.setCell ⟨b, i, none⟩ v) (some B) := by
  have hg5 := grown_set (grown_refl w1 b) i v
  exact ⟨hg5.os.trans hG.os, hg5.tape.trans hG.tape, hg5.output.trans hG.output, Nat.le_trans hG.size hg5.size, fun k hk hne => by
    rw [hg5.block k (Nat.lt_of_lt_of_le hk hG.size) (by simp; omega)]; exact hG.block k hk hne⟩
theorem grown_setB4 {w w1 : World} {B b : Nat} {v0 v1 v2 v3 : Value} (hG : w.grownBy w1 (some B)) (hb : w.heap.size ≤ b) : w.grownBy ((((w1.setCell ⟨b, 0, none⟩ v0).setCell ⟨b, 1, none⟩ v1).setCell ⟨b, 2, none⟩ v2).setCell ⟨b, 3, none⟩ v3) (some B) := grown_setB1 (grown_setB1 (grown_setB1 (grown_setB1 hG hb) hb) hb) hb

set_option maxHeartbeats 2000000 in
set_option maxRecDepth 100000 in
theorem spec_dop (B : Nat) (w : World) (h : Rd w B) :
    Calls Try.prog 53 #[.pointer (some ⟨B, 0, none⟩)] w fun e w' => (∃ o : Dp, e = .returned (.agg #[.int .i64 o.k, .string o.nm, .string o.tt, .string o.d]) ∧ DpSmall o) ∧ Rd w' B ∧ w.grownBy w' (some B) := by
  have hlt := h.lt
  go_enter Try.func53, Try.ntmps53
  go_wp2_with fail
  refine (spec_belowN B 4 _ (h.below (by go_grown)) (by omega) (by omega)).mono ?_
  rintro e w1 ⟨⟨x, rfl, hx⟩, hR, hg1⟩
  have b1 := (Blk.new' _ _ _ (w.heap.size + 1) (by simp)).grown hg1 (by omega)
  have K := ((Blk.new w #[.int .i64 0, .string ⟨#[]⟩, .string ⟨#[]⟩, .string ⟨#[]⟩] 36).alloc _).grown hg1 (by omega)
  have hG : w.grownBy w1 (some B) := grown_trans (grown_below (grown_refl w B) (by go_grown)) hg1
  clear hg1
  obtain ⟨s, hs, hs1⟩ : ∃ s : ByteArray, w1.cell? ⟨w.heap.size + 1, x, none⟩ = some (.string s) ∧ s.size ≤ 20 := by
    rw [b1.cell]
    rcases (show x = 0 ∨ x = 1 ∨ x = 2 ∨ x = 3 by omega) with rfl | rfl | rfl | rfl
    all_goals exact ⟨_, rfl, by decide⟩
  have hx2 : (x : Int) < 4 := by omega
  clear b1
  go_wp2_with fail
  refine (spec_belowN B 5 _ hR (by omega) (by omega)).mono ?_
  rintro e w2 ⟨⟨y, rfl, hy⟩, hR2, hg2⟩
  replace K := K.grown hg2 (by omega)
  replace hG := grown_trans hG hg2
  clear hs hR hg2
  have hsz := hG.size
  have hz2 := K.lt
  obtain ⟨z0, z1, z2, z3⟩ := blk_four K
  have f0 := K.frozen 0
  have f1 := K.frozen 1
  have f2 := K.frozen 2
  have f3 := K.frozen 3
  by_cases hy0 : y = 0
  · subst hy0
    clear z0 z1 z2 z3 f0 f1 f2 f3
    go_wp2_with fail
    refine (spec_belowN B 3 _ (hR2.below (by go_grown)) (by omega) (by omega)).mono ?_
    rintro e w3 ⟨⟨q, rfl, hq⟩, hR, hg3⟩
    have b3 := (Blk.new w2 _ _).grown hg3 (by omega)
    replace K := (K.alloc _).grown hg3 (by omega)
    replace hG := grown_trans (grown_below hG (by go_grown)) hg3
    clear hg3 hR2
    obtain ⟨u, hu, hu1⟩ : ∃ s : ByteArray, w3.cell? ⟨w2.heap.size, q, none⟩ = some (.string s) ∧ s.size ≤ 20 := by
      rw [b3.cell]
      rcases (show q = 0 ∨ q = 1 ∨ q = 2 by omega) with rfl | rfl | rfl
      all_goals exact ⟨_, rfl, by decide⟩
    have hq2 : (q : Int) < 3 := by omega
    clear b3
    obtain ⟨z0, z1, z2, z3⟩ := blk_four K
    have f0 := K.frozen 0
    have f1 := K.frozen 1
    have f2 := K.frozen 2
    have f3 := K.frozen 3
    go_wp2
    have E8 : Blk ((((w3.setCell ⟨w.heap.size, 0, none⟩ (.int .i64 2)).setCell ⟨w.heap.size, 1, none⟩ (.string s)).setCell ⟨w.heap.size, 2, none⟩ (.string u)).setCell ⟨w.heap.size, 3, none⟩ (.string ⟨#[]⟩)) w.heap.size #[.int .i64 2, .string s, .string u, .string ⟨#[]⟩] 36 := by
      have := (((K.set 0 (.int .i64 2)).set 1 (.string s)).set 2 (.string u)).set 3 (.string ⟨#[]⟩)
      simpa using this
    have hg8 : w3.grownBy ((((w3.setCell ⟨w.heap.size, 0, none⟩ (.int .i64 2)).setCell ⟨w.heap.size, 1, none⟩ (.string s)).setCell ⟨w.heap.size, 2, none⟩ (.string u)).setCell ⟨w.heap.size, 3, none⟩ (.string ⟨#[]⟩)) (some w.heap.size) := (grown_set (grown_set (grown_set (grown_set (grown_refl w3 w.heap.size) _ _) _ _) _ _) _ _)
    have R8 := hR.grown hg8 hlt
    have G8 : w.grownBy ((((w3.setCell ⟨w.heap.size, 0, none⟩ (.int .i64 2)).setCell ⟨w.heap.size, 1, none⟩ (.string s)).setCell ⟨w.heap.size, 2, none⟩ (.string u)).setCell ⟨w.heap.size, 3, none⟩ (.string ⟨#[]⟩)) (some B) := grown_setB4 hG (Nat.le_refl _)
    generalize ((((w3.setCell ⟨w.heap.size, 0, none⟩ (.int .i64 2)).setCell ⟨w.heap.size, 1, none⟩ (.string s)).setCell ⟨w.heap.size, 2, none⟩ (.string u)).setCell ⟨w.heap.size, 3, none⟩ (.string ⟨#[]⟩)) = W8 at *
    refine bodyPost_ret (results_cell_row rfl _ W8 w.heap.size _ _ _ _ rfl E8 Try.underlying36 rfl (by kernel_rfl)) rfl ?_
    exact ⟨⟨⟨2, s, u, ⟨#[]⟩⟩, rfl, dpSmall_mk (by decide) (by first | assumption | decide) (by first | assumption | decide) (by first | assumption | decide)⟩, R8, G8⟩
  · have hy0b : ((y : Int) == 0) = false := by simp; omega
    by_cases hy1 : y = 1
    · subst hy1
      have hR := hR2
      go_wp2
      have E8 : Blk ((((w2.setCell ⟨w.heap.size, 0, none⟩ (.int .i64 3)).setCell ⟨w.heap.size, 1, none⟩ (.string s)).setCell ⟨w.heap.size, 2, none⟩ (.string ⟨#[]⟩)).setCell ⟨w.heap.size, 3, none⟩ (.string ⟨#[]⟩)) w.heap.size #[.int .i64 3, .string s, .string ⟨#[]⟩, .string ⟨#[]⟩] 36 := by
        have := (((K.set 0 (.int .i64 3)).set 1 (.string s)).set 2 (.string ⟨#[]⟩)).set 3 (.string ⟨#[]⟩)
        simpa using this
      have hg8 : w2.grownBy ((((w2.setCell ⟨w.heap.size, 0, none⟩ (.int .i64 3)).setCell ⟨w.heap.size, 1, none⟩ (.string s)).setCell ⟨w.heap.size, 2, none⟩ (.string ⟨#[]⟩)).setCell ⟨w.heap.size, 3, none⟩ (.string ⟨#[]⟩)) (some w.heap.size) := (grown_set (grown_set (grown_set (grown_set (grown_refl w2 w.heap.size) _ _) _ _) _ _) _ _)
      have R8 := hR.grown hg8 hlt
      have G8 : w.grownBy ((((w2.setCell ⟨w.heap.size, 0, none⟩ (.int .i64 3)).setCell ⟨w.heap.size, 1, none⟩ (.string s)).setCell ⟨w.heap.size, 2, none⟩ (.string ⟨#[]⟩)).setCell ⟨w.heap.size, 3, none⟩ (.string ⟨#[]⟩)) (some B) := grown_setB4 hG (Nat.le_refl _)
      generalize ((((w2.setCell ⟨w.heap.size, 0, none⟩ (.int .i64 3)).setCell ⟨w.heap.size, 1, none⟩ (.string s)).setCell ⟨w.heap.size, 2, none⟩ (.string ⟨#[]⟩)).setCell ⟨w.heap.size, 3, none⟩ (.string ⟨#[]⟩)) = W8 at *
      refine bodyPost_ret (results_cell_row rfl _ W8 w.heap.size _ _ _ _ rfl E8 Try.underlying36 rfl (by kernel_rfl)) rfl ?_
      exact ⟨⟨⟨3, s, ⟨#[]⟩, ⟨#[]⟩⟩, rfl, dpSmall_mk (by decide) (by first | assumption | decide) (by first | assumption | decide) (by first | assumption | decide)⟩, R8, G8⟩
    · have hy1b : ((y : Int) == 1) = false := by simp; omega
      clear z0 z1 z2 z3 f0 f1 f2 f3
      go_wp2_with fail
      refine (spec_text B _ hR2).mono ?_
      rintro e w3 ⟨⟨u, rfl, hu1⟩, hR, hg3⟩
      replace K := K.grown hg3 (by omega)
      replace hG := grown_trans hG hg3
      clear hg3 hR2
      obtain ⟨z0, z1, z2, z3⟩ := blk_four K
      have f0 := K.frozen 0
      have f1 := K.frozen 1
      have f2 := K.frozen 2
      have f3 := K.frozen 3
      go_wp2
      have E8 : Blk ((((w3.setCell ⟨w.heap.size, 0, none⟩ (.int .i64 1)).setCell ⟨w.heap.size, 1, none⟩ (.string s)).setCell ⟨w.heap.size, 2, none⟩ (.string ⟨#[]⟩)).setCell ⟨w.heap.size, 3, none⟩ (.string u)) w.heap.size #[.int .i64 1, .string s, .string ⟨#[]⟩, .string u] 36 := by
        have := (((K.set 0 (.int .i64 1)).set 1 (.string s)).set 2 (.string ⟨#[]⟩)).set 3 (.string u)
        simpa using this
      have hg8 : w3.grownBy ((((w3.setCell ⟨w.heap.size, 0, none⟩ (.int .i64 1)).setCell ⟨w.heap.size, 1, none⟩ (.string s)).setCell ⟨w.heap.size, 2, none⟩ (.string ⟨#[]⟩)).setCell ⟨w.heap.size, 3, none⟩ (.string u)) (some w.heap.size) := (grown_set (grown_set (grown_set (grown_set (grown_refl w3 w.heap.size) _ _) _ _) _ _) _ _)
      have R8 := hR.grown hg8 hlt
      have G8 : w.grownBy ((((w3.setCell ⟨w.heap.size, 0, none⟩ (.int .i64 1)).setCell ⟨w.heap.size, 1, none⟩ (.string s)).setCell ⟨w.heap.size, 2, none⟩ (.string ⟨#[]⟩)).setCell ⟨w.heap.size, 3, none⟩ (.string u)) (some B) := grown_setB4 hG (Nat.le_refl _)
      generalize ((((w3.setCell ⟨w.heap.size, 0, none⟩ (.int .i64 1)).setCell ⟨w.heap.size, 1, none⟩ (.string s)).setCell ⟨w.heap.size, 2, none⟩ (.string ⟨#[]⟩)).setCell ⟨w.heap.size, 3, none⟩ (.string u)) = W8 at *
      refine bodyPost_ret (results_cell_row rfl _ W8 w.heap.size _ _ _ _ rfl E8 Try.underlying36 rfl (by kernel_rfl)) rfl ?_
      exact ⟨⟨⟨1, s, ⟨#[]⟩, u⟩, rfl, dpSmall_mk (by decide) (by first | assumption | decide) (by first | assumption | decide) (by first | assumption | decide)⟩, R8, G8⟩
end Go.Proofs.Ytpobgjkmcmkkeaa
namespace Go.Proofs.Ytpobgjkmcmkkeaa
open Go Go.RowKit Go.BigFrame

set_option maxHeartbeats 1000000 in
set_option maxRecDepth 100000 in
theorem spec_size (B : Nat) (w : World) (h : Rd w B) :
    Calls Try.prog 74 #[.pointer (some ⟨B, 0, none⟩), .int .i64 3, .int .i64 10] w fun e w' => (∃ v : Nat, e = .returned (.int .i64 v) ∧ v ≤ 10) ∧ Rd w' B ∧ w.grownBy w' (some B) := by
  have hR := h
  obtain ⟨a, n, cap, p, t, hb, hp, hn, _⟩ := h
  have c0 : w.cell? ⟨B, 0, none⟩ = some (.slice a n cap) := hb.cell 0
  have hdv : ((n : Int).tdiv 3) = ((n / 3 : Nat) : Int) := by rw [Int.tdiv_eq_ediv_of_nonneg (by omega)]; omega
  by_cases hc : 10 < 1 + n / 3
  · have hci : (10 : Int) < 1 + ((n / 3 : Nat) : Int) := by omega
    go_enter Try.func74, Try.ntmps74
    go_wp2_with fail
    refine (spec_belowN B 10 _ hR (by omega) (by omega)).mono ?_
    rintro e w1 ⟨⟨x, rfl, hx⟩, hR1, hg1⟩
    have hx9 : x < 10 := by omega
    go_wp2
    go_returns
    exact ⟨⟨1 + x, by first | rfl | (congr 2; omega) | simp, by omega⟩, hR1, hg1⟩
  · have hci : ¬ (10 : Int) < 1 + ((n / 3 : Nat) : Int) := by omega
    go_enter Try.func74, Try.ntmps74
    go_wp2_with fail
    refine (spec_belowN B (1 + ((n / 3 : Nat) : Int)) _ hR (by omega) (by omega)).mono ?_
    rintro e w1 ⟨⟨x, rfl, hx⟩, hR1, hg1⟩
    have hx9 : x < 10 := by omega
    go_wp2
    go_returns
    exact ⟨⟨1 + x, by first | rfl | (congr 2; omega) | simp, by omega⟩, hR1, hg1⟩
end Go.Proofs.Ytpobgjkmcmkkeaa
namespace Go.Proofs.Ytpobgjkmcmkkeaa
open Go Go.RowKit Go.BigFrame

theorem blk_same {w : World} {b : Nat} {c c' : Array Value} {t t' : TypeId} (h : Blk w b c t) (h' : Blk w b c' t') : c = c' := by
  unfold Blk at h h'
  rw [h] at h'
  injection h' with e1
  injection e1
theorem wp_appKeep {α : Type} {cs : α → List Value} {size : Nat} {P : Program} {o : Oper} {a : Act} {w : World} {K : Act → World → Prop} {Q : Exit → Act → World → Prop}
    (s x : Operand) (t : TypeId) (ho : o.op = .call { callee := .builtin .append, args := #[s, x], argTypes := #[t, t] })
    (B : Nat) (e : TypeId) (i : TypeInfo) (z : Value) (bytes : Nat) (ht : P.underlying t = some (.slice e)) (hi : P.info? e = some i) (hz : i.zero = some z) (hsize : i.size = size) (hby : i.bytes = bytes) (hzs : z.cells.size = size) (hpos : 0 < size)
    (hsz : ∀ y, (cs y).length = size) (hone : ∀ (l : List α), ∀ u ∈ l.flatMap cs, u.oneCell' = true)
    (da : Option Addr) (dn dcap : Nat) (ld : List α) (hs : a.eval s = .slice da dn dcap) (hd : ResAt cs size e w B da dn dcap ld)
    (sb so : Nat) (ls : List α) (hx : a.eval x = .slice (some ⟨sb, so, none⟩) 1 1) (hsrc : SlAt cs size w (some ⟨sb, so, none⟩) 1 ls)
    (ra : Option Addr) (rn rc : Nat) (lr : List α) (hr : ResAt cs size e w B ra rn rc lr) (hap : rn ≤ dn ∨ ∀ x y, da = some x → ra = some y → x.block ≠ y.block)
    (h63 : dn + 1 ≤ maxLen) (hbytes : (dn + 1) * bytes ≤ 140737488355328) (hbase : B ≤ w.heap.size)
    (h : ∀ a' cap' w', ResAt cs size e w' B a' (dn + 1) cap' (ld ++ ls) → ResAt cs size e w' B ra rn rc lr → w.grownBy w' (Value.ownBlock (.slice da dn dcap)) → K (a.put o.dst (.slice a' (dn + 1) cap')) w') : o.wp P a w K Q := by
  have hdlen := hd.sl.len
  have hslen := hsrc.len
  have happ : ∀ (hne : ∀ x y, da = some x → ra = some y → x.block ≠ y.block), o.wp P a w K Q := fun hne => by
    refine wp_app s x t ho B e i z bytes ht hi hz hsize hby hzs hpos hsz hone da dn dcap ld hs hd _ 1 1 ls hx hsrc (fun ad h => by cases h; rfl) (fun h => by cases h) (dn + 1) rfl h63 hbytes hbase (fun a' cap' w' R hg => ?_)
    refine h a' cap' w' R (hr.off hg (fun ad had => ?_)) hg
    cases da with
    | none => simp [Value.ownBlock]
    | some ad' => simp only [Value.ownBlock]; intro e; injection e with e; exact hne ad' ad rfl had e.symm
  rcases hap with hle | hne
  · rcases hd.own with ⟨rfl, _, _⟩ | ⟨b, rfl, hBb, hnc, hcm, c, hc, hcs, htk⟩
    · exact happ (fun x y hx => by cases hx)
    · by_cases hsame : ∃ y, ra = some y ∧ y.block = b
      · obtain ⟨y, hy, hyb⟩ := hsame
        rcases hr.own with ⟨h0, _⟩ | ⟨b', h1, hBb', hnc', hcm', c', hc', hcs', htk'⟩
        · rw [h0] at hy; cases hy
        · rw [h1] at hy; cases hy
          simp only at hyb
          subst hyb
          subst h1
          obtain rfl := blk_same hc hc'
          by_cases hroom : dn + 1 ≤ dcap
          · refine wp_appRoom s x t ho e i ht hi hsize hsz hone b' dn dcap c hs hc sb so 1 1 ls hx hsrc hroom (by rw [hcs]; exact Nat.mul_le_mul_right _ hroom) (fun w' hb' hg hsz' => ?_)
            have hfl : (ls.flatMap cs).length = size := by rw [flat_len hsz, hslen]; simp
            have hdl : (ld.flatMap cs).length = dn * size := by rw [flat_len hsz, hdlen]
            have hdrop : (dn + 1) * size = dn * size + size := by rw [Nat.add_mul, Nat.one_mul]
            have hle2 : dn * size + size ≤ dcap * size := by rw [← hdrop]; exact Nat.mul_le_mul_right _ hroom
            have hcl : c.toList.length = dcap * size := by rw [Array.length_toList]; exact hcs
            have hnew : (c.toList.take (dn * size) ++ ls.flatMap cs ++ c.toList.drop ((dn + 1) * size)).toArray.size = dcap * size := by
              rw [List.size_toArray, List.length_append, List.length_append, List.length_take, List.length_drop, hcl, hfl, hdrop]
              omega
            refine h _ dcap w' (res_of_cells hsz hb' hBb (by rw [List.length_append, hdlen, hslen]) hroom hcm hnew ?_) ?_ hg
            · show ((c.toList.take (dn * size) ++ ls.flatMap cs ++ c.toList.drop ((dn + 1) * size))).take ((dn + 1) * size) = _
              rw [htk, hdrop, List.flatMap_append, List.take_append_of_le_length (by rw [List.length_append, hdl, hfl]; omega), List.take_of_length_le (by rw [List.length_append, hdl, hfl]; omega)]
            · refine res_of_cells hsz hb' hBb' hr.sl.len hnc' hcm' ?_ ?_
              · rw [hnew, ← hcs, hcs']
              · show ((c.toList.take (dn * size) ++ ls.flatMap cs ++ c.toList.drop ((dn + 1) * size))).take (rn * size) = _
                have hrs : rn * size ≤ dn * size := Nat.mul_le_mul_right _ hle
                rw [List.append_assoc, List.take_append_of_le_length (by rw [List.length_take, hcl]; omega), List.take_take, Nat.min_eq_left hrs, htk']
          · have hrow := hd.row hsz
            have hlen : (ld ++ ls).length = dn + 1 := by rw [List.length_append, hdlen, hslen]
            have hnl : (ls.flatMap cs).length = 1 * size := by rw [flat_len hsz, hslen]
            obtain ⟨v', w', hru, hrow', hg, _⟩ := run_append_own (P := P) w B t o.type e i z size bytes ht hi hz hsize hby hzs hpos (.slice (some ⟨b', 0, none⟩) dn dcap) dn (ld.flatMap cs) hrow ⟨sb, so, none⟩ 1 1 (ls.flatMap cs) hnl (SlAt.src hsz hsrc) (hone ls) h63 hbytes hbase
            have hnl0 : (ls.flatMap cs).length = 1 * i.size := by rw [hsize]; exact hnl
            have hdl : (ld.flatMap cs).length = dn * i.size := by rw [hsize, flat_len hsz, hdlen]
            have hr2 := run_append_grow (P := P) w t o.type e i z ht hi hz ⟨b', 0, none⟩ dn dcap (ld.flatMap cs) hdl (SlAt.src hsz hd.sl) ⟨sb, so, none⟩ 1 1 (ls.flatMap cs) hnl0 (SlAt.src hsz hsrc) (by omega) (by simp only [maxLen] at h63; omega) (growslice_fits (by omega) (by rw [hby]; exact hbytes))
            rw [hru] at hr2
            rw [← List.flatMap_append] at hrow'
            obtain ⟨a', cap', rfl, hres⟩ := res_of_row hsz hlen hrow'
            injection hr2 with e1 e2
            have hBl : Below w.heap.size w w' := by rw [e2]; exact ((Below.refl _ _).drew).alloc (Nat.le_refl _) _
            unfold Oper.wp
            simp [execOp, ho, resolve, invoke, builtin, hs, hx, hru, Result.andThen]
            exact h a' cap' w' hres (hr.below hBl) hg
      · exact happ (fun x y hx hy hxy => by cases hx; exact hsame ⟨y, hy, hxy.symm⟩)
  · exact happ hne
end Go.Proofs.Ytpobgjkmcmkkeaa
