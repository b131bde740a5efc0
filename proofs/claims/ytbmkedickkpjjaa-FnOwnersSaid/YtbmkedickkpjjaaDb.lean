/- Drawn owners. -/
import Derived.Test.YtbmkedickkpjjaaProg
import Derived.Test.YtbmkedickkpjjaaDa
import Derived.Test.YtbmkedickkpjjaaNc
import Derived.Laws.Rows
namespace Go.Proofs.Ytbmkedickkpjjaa
open Go.RowKit Go.BigFrame

/-- An owner among an ending's values. -/
def RetOw (e : Ending) : Prop := ∃ o : Ow, e = .returned (.agg #[.int .i64 o.a, .int .i64 o.v, .string o.f]) ∧ o.f.size ≤ 1

set_option maxHeartbeats 1000000 in
set_option maxRecDepth 100000 in
theorem spec_owner (B : Nat) (w : World) (h : Rd w B) :
    Calls Try.prog 143 #[.pointer (some ⟨B, 0, none⟩)] w fun e w' => RetOw e ∧ Rd w' B ∧ w.grownBy w' (some B) := by
  have hlt := h.lt
  go_enter Try.func143, Try.ntmps143
  go_wp2_with fail
  refine (spec_belowN B 3 _ (h.below (by go_grown)) (by omega) (by omega)).mono ?_
  rintro e w1 ⟨⟨x, rfl, hx⟩, hR1, hg1⟩
  have b1 := (Blk.new w _ _).grown hg1 (by omega)
  have hG1 : w.grownBy w1 (some B) := grown_trans (grown_below (grown_refl w B) (by go_grown)) hg1
  clear hg1
  go_wp2_with fail
  refine (spec_belowN B 2 _ hR1 (by omega) (by omega)).mono ?_
  rintro e w2 ⟨⟨y, rfl, hy⟩, hR2, hg2⟩
  have b2 := b1.grown hg2 (by omega)
  have hG2 := grown_trans hG1 hg2
  clear hg2 b1 hG1 hR1
  go_wp2_with fail
  refine (spec_belowN B 2 _ (hR2.below (by go_grown)) (by omega) (by omega)).mono ?_
  rintro e w3 ⟨⟨z, rfl, hz⟩, hR3, hg3⟩
  have b3 := (b2.alloc _).grown hg3 (by omega)
  have hw2 := b2.lt
  have s3 := (Blk.new w2 _ _).grown hg3 (by have := hR2.lt; omega)
  have hG3 : w.grownBy w3 (some B) := grown_trans (grown_below hG2 (by go_grown)) hg3
  clear hg3 b2 hG2 hR2
  have z0 := s3.cell 0
  have z1 := s3.cell 1
  simp only [List.getElem?_toArray, List.getElem?_cons_zero, List.getElem?_cons_succ] at z0 z1
  have f0 := b3.frozen 0
  have f1 := b3.frozen 1
  have f2 := b3.frozen 2
  have y0 := b3.cell 0
  have y1 := b3.cell 1
  have y2 := b3.cell 2
  simp only [List.getElem?_toArray, List.getElem?_cons_zero, List.getElem?_cons_succ] at y0 y1 y2
  obtain ⟨s, hs, hs1⟩ : ∃ s : ByteArray, w3.cell? ⟨w2.heap.size, z, none⟩ = some (.string s) ∧ s.size ≤ 1 := by
    rcases (show z = 0 ∨ z = 1 by omega) with rfl | rfl
    · exact ⟨_, z0, by decide⟩
    · exact ⟨_, z1, by decide⟩
  have hg := grown_set (grown_set (grown_set (grown_refl w3 w.heap.size) 0 (.int .i64 (1 + (x : Int)))) 1 (.int .i64 (1 + (y : Int)))) 2 (.string s)
  have hRW := hR3.grown hg hlt
  have hbW := ((b3.set 0 (.int .i64 (1 + (x : Int)))).set 1 (.int .i64 (1 + (y : Int)))).set 2 (.string s)
  have hGW : w.grownBy (((w3.setCell ⟨w.heap.size, 0, none⟩ (.int .i64 (1 + (x : Int)))).setCell ⟨w.heap.size, 1, none⟩ (.int .i64 (1 + (y : Int)))).setCell ⟨w.heap.size, 2, none⟩ (.string s)) (some B) :=
    ⟨hg.os.trans hG3.os, hg.tape.trans hG3.tape, hg.output.trans hG3.output, Nat.le_trans hG3.size hg.size, fun k hk hne => by
      rw [hg.block k (Nat.lt_of_lt_of_le hk hG3.size) (by simp; omega)]; exact hG3.block k hk hne⟩
  clear z0 z1 s3 hR3 hG3 hg b3 h
  have hz2 : (z : Int) < 2 := by omega
  go_wp2
  generalize ((w3.setCell ⟨w.heap.size, 0, none⟩ (.int .i64 (1 + (x : Int)))).setCell ⟨w.heap.size, 1, none⟩ (.int .i64 (1 + (y : Int)))).setCell ⟨w.heap.size, 2, none⟩ (.string s) = W4 at *
  refine bodyPost_ret (results_cell_row rfl _ W4 w.heap.size _ _ _ _ rfl hbW Try.underlying64 rfl (by kernel_rfl)) rfl ?_
  exact ⟨⟨⟨1 + x, 1 + y, s⟩, by simp, hs1⟩, hRW, hGW⟩
end Go.Proofs.Ytbmkedickkpjjaa
