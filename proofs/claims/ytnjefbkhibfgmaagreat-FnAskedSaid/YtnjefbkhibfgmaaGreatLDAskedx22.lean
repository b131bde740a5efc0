/- An item put in its place, by the model. -/
import Derived.Test.YtnjefbkhibfgmaaGreatProg
import Derived.Test.YtnjefbkhibfgmaaGreatLDAskedx13
import Derived.Test.YtnjefbkhibfgmaaGreatLDAskedx17
import Derived.Test.YtnjefbkhibfgmaaGreatLDAskedx09
import Derived.Test.YtnjefbkhibfgmaaGreatLDAskedx05
import Derived.Test.YtnjefbkhibfgmaaGreatLDAskedx15
namespace Go.Proofs.YtnjefbkhibfgmaaGreat
open Go.RowKit Go.BigFrame
structure SetEnv (w : World) (B : Nat) (a2 : Option Addr) (id : Int) (nm : ByteArray) (fx : Bool) (ia : Option Addr) (inn icp : Nat) (name : ByteArray) (pa : Option Addr) (pn pc : Nat) (wr : World) : Prop where
  ne : ∀ ad, a2 = some ad → ad.block ≠ w.heap.size + 3
  b0 : Blk wr w.heap.size #[.int .i64 id, .string nm, .bool fx, .slice ia inn icp] 41
  b1 : Blk wr (w.heap.size + 1) #[.int .i64 0, .string ⟨#[]⟩, .bool false, .slice none 0 0] 41
  b3 : Blk wr (w.heap.size + 3) #[.string name, .slice pa pn pc] 44
  sz : w.heap.size + 4 ≤ wr.heap.size
  bl : Below w.heap.size w wr
theorem SetEnv.app {w : World} {B n2 cap2 : Nat} {a2 a3 : Option Addr} {id : Int} {nm : ByteArray} {fx : Bool} {ia : Option Addr} {inn icp : Nat} {name : ByteArray} {pa : Option Addr} {pn pc : Nat} {wr w3 : World} {rows : List IR} {ob : Obj}
    (E : SetEnv w B a2 id nm fx ia inn icp name pa pn pc wr) (R : ResAt irs 2 44 wr (w.heap.size + 2) a2 n2 cap2 rows) (hg : (wr.alloc ob).grownBy w3 (Value.ownBlock (.slice a2 n2 cap2))) (hp : ∀ ad', a3 = some ad' → (∃ ad, a2 = some ad ∧ ad.block = ad'.block) ∨ (wr.alloc ob).heap.size ≤ ad'.block) :
    SetEnv w B a3 id nm fx ia inn icp name pa pn pc w3 := by
  have hge : ∀ j, Value.ownBlock (.slice a2 n2 cap2) = some j → w.heap.size + 2 ≤ j := own_ge fun ad had => (R.block ad had).1
  have hsz := E.sz
  have hs := hg.size
  have ht := (R.alloc ob).rowTy (m := n2) (k := cap2)
  simp only [World.size_alloc] at hs hp
  refine ⟨fun ad' e => ?_, (E.b0.alloc ob).ty hg ht (by decide), (E.b1.alloc ob).ty hg ht (by decide), ?_, by omega, Below.grown (E.bl.alloc E.bl.size _) hg (by simp; omega) (fun j e => by have := hge j e; omega)⟩
  · rcases hp ad' e with ⟨ad, h1, h2⟩ | h1
    · rw [← h2]; exact E.ne ad h1
    · omega
  · refine (hg.block _ (E.b3.alloc ob).lt (fun e => ?_)).trans (E.b3.alloc ob)
    cases a2 with
    | none => simp [Value.ownBlock] at e
    | some ad => simp [Value.ownBlock] at e; exact E.ne ad rfl e.symm
theorem RowsT.app {B n2 cap2 b2 : Nat} {a2 : Option Addr} {wr w3 : World} {rows rows2 : List IR} {l : List It} {r : IR} {y : It} {ob : Obj} (T : RowsT B wr rows l) (V : RowT B wr r y) (R : ResAt irs 2 44 wr b2 a2 n2 cap2 rows2) (hg : (wr.alloc ob).grownBy w3 (Value.ownBlock (.slice a2 n2 cap2))) : RowsT B w3 (rows ++ [r]) (l ++ [y]) :=
  ((T.below ((Below.refl _ _).alloc (Nat.le_refl _) _)).snoc (V.below ((Below.refl _ _).alloc (Nat.le_refl _) _))).ty hg (R.alloc ob).rowTy (by decide)
theorem RowT.app {B n2 cap2 b2 : Nat} {a2 : Option Addr} {wr w3 : World} {rows2 : List IR} {r : IR} {y : It} {ob : Obj} (V : RowT B wr r y) (R : ResAt irs 2 44 wr b2 a2 n2 cap2 rows2) (hg : (wr.alloc ob).grownBy w3 (Value.ownBlock (.slice a2 n2 cap2))) : RowT B w3 r y :=
  ⟨V.nm, (V.ps.alloc ob).ty hg (R.alloc ob).rowTy (by decide)⟩
set_option maxHeartbeats 4000000 in
set_option maxRecDepth 100000 in
theorem spec_l6Set (B : Nat) (id : Int) (nm : ByteArray) (fx : Bool) (its : List It) (ia : Option Addr) (inn icp : Nat) (irows : List IR) (name : ByteArray) (pa : Option Addr) (pn pc : Nat) (ps : List Pt) (w : World)
    (R : ResAt irs 2 44 w B ia inn icp irows) (T : RowsT B w irows its) (RP : ResAt Pt.cs 3 46 w B pa pn pc ps) (hn : inn ≤ 4194304) :
    Calls Tryz.prog 126 #[.agg #[.int .i64 id, .string nm, .bool fx, .slice ia inn icp], .string name, .slice pa pn pc] w fun e w' => (∃ a2 n2 cap2 rows, e = .returned (.agg #[.int .i64 id, .string nm, .bool fx, .slice a2 n2 cap2]) ∧ ResAt irs 2 44 w' w.heap.size a2 n2 cap2 rows ∧ RowsT B w' rows (setI ⟨name, ps⟩ its)) ∧ Below w.heap.size w w' := by
  have hlen : Hid (its.length = inn) := by show _ = _; rw [← T.len]; exact R.sl.len
  have hlr : irows.length = inn := R.sl.len
  go_enter Tryz.func126, Tryz.ntmps126
  go_wp2_with fail
  go_loopw [7, 9, 10] (fun lst dn ix wr => ∃ (k : Nat) (a2 : Option Addr) (n2 cap2 : Nat) (rows : List IR), k ≤ inn ∧ ix = .int .i64 k ∧ dn = .bool (setK ⟨name, ps⟩ its k).2 ∧ lst = .slice a2 n2 cap2 ∧ n2 ≤ 2 * k ∧ ResAt irs 2 44 wr (w.heap.size + 2) a2 n2 cap2 rows ∧ RowsT B wr rows (setK ⟨name, ps⟩ its k).1 ∧ SetEnv w B a2 id nm fx ia inn icp name pa pn pc wr) (fun _ _ ix _ => inn - (intOf ix).toNat)
  case atStart => exact ⟨0, _, 0, 0, [], Nat.zero_le _, rfl, rfl, rfl, by omega, res_empty ((Blk.new' _ _ _ _ (by simp)).alloc _) (by omega), RowsT.nil _ _, ⟨fun ad e => (by cases e; simp only [ne_eq]; omega), (((Blk.new w _ _).alloc _).alloc _).alloc _, ((Blk.new' _ _ _ _ (by simp)).alloc _).alloc _, Blk.new' _ _ _ _ (by simp), by simp, by go_grown⟩⟩
  case round =>
    obtain ⟨k, a2, n2, cap2, rows, hk, rfl, rfl, rfl, hn2, R2, T2, E⟩ := hrel
    obtain ⟨z0, z1, z2, z3⟩ := E.b0.four
    have x0 : wr.cell? ⟨w.heap.size + 3, 0, none⟩ = some (.string name) := E.b3.cell 0
    have x1 : wr.cell? ⟨w.heap.size + 3, 1, none⟩ = some (.slice pa pn pc) := E.b3.cell 1
    have hsz := E.sz
    have V0 : RowT B wr (⟨name, pa, pn, pc⟩ : IR) ⟨name, ps⟩ := ⟨rfl, RP.below E.bl⟩
    by_cases hlt : k < inn
    · have hr : irows[k]? = some (irows[k]'(by omega)) := by simp [hlr, hlt]
      have hy : its[k]? = some (its[k]'(by rw [hlen.out]; exact hlt)) := by simp [hlen.out, hlt]
      have hrk := hr
      have hV := (T.below E.bl).at' k _ _ hr hy
      obtain ⟨b, o, rfl, hc⟩ := (R.sl.below E.bl).cell k _ hr
      generalize irows[k]'(by omega) = r at *
      generalize its[k]'(by rw [hlen.out]; exact hlt) = y at *
      obtain ⟨rn, qa, qn, qc⟩ := r
      have c0 : wr.cell? ⟨b, o + k * 2, none⟩ = some (.string rn) := hc 0 _ rfl
      have c1 : wr.cell? ⟨b, o + k * 2 + 1, none⟩ = some (.slice qa qn qc) := hc 1 _ rfl
      have hst : Hid (setK ⟨name, ps⟩ its (k + 1) = setS ⟨name, ps⟩ (setK ⟨name, ps⟩ its k) y) := setK_succ hy
      have hrn : rn = y.nm := hV.nm
      subst hrn
      clear hc hr hy
      have hk1 : (k : Int) < inn := by omega
      have hk2 : (0 : Int) ≤ k := by omega
      generalize setK ⟨name, ps⟩ its k = G at *
      obtain ⟨gl, d⟩ := G
      simp only at T2 ⊢
      have hbw : b < w.heap.size + 2 := by
        have := World.block_lt_of_cell? w (⟨b, o + k * 2, none⟩ : Addr) (u := .string y.nm) (by
          obtain ⟨b', o', hbo, hc'⟩ := R.sl.cell k _ hrk
          obtain ⟨rfl, rfl⟩ : b = b' ∧ o = o' := by simpa using hbo
          exact hc' 0 _ rfl)
        simp only at this
        omega
      cases d
      · cases hbl : bl y.nm.toList name.toList
        · cases heq : (y.nm.toList == name.toList)
          · have he : Hid (setS ⟨name, ps⟩ (gl, false) y = (gl ++ [⟨name, ps⟩] ++ [y], true)) := by show _ = _; simp [setS, hbl, heq]
            have hq : ¬ y.nm.toList = name.toList := by simpa using heq
            go_wp2_with (first | (at_builtin; refine wpList_app rfl (fun K hK => wp_appI1 _ _ rfl (w.heap.size + 2) a3 (n2 + 1) cap3 (rows ++ [(⟨name, pa, pn, pc⟩ : IR)]) rfl (R3.alloc _) _ _ (⟨y.nm, qa, qn, qc⟩ : IR) rfl (sl_newIt _ (⟨y.nm, qa, qn, qc⟩ : IR) _ _ (by simp)) (by omega) (by simp; omega) (fun a4 cap4 w4 R4 hg4 hp4 => hK _ _ ?_)); have E4 := E3.app R3 hg4 hp4; have hsz4 := E4.sz) | (at_builtin; refine wpList_app rfl (fun K hK => wp_appI1 _ _ rfl (w.heap.size + 2) a2 n2 cap2 rows rfl (R2.alloc _) _ _ (⟨name, pa, pn, pc⟩ : IR) rfl (sl_newIt _ (⟨name, pa, pn, pc⟩ : IR) _ _ (by simp)) (by omega) (by simp; omega) (fun a3 cap3 w3 R3 hg3 hp3 => hK _ _ ?_)); have E3 := E.app R2 hg3 hp3; have hsz3 := E3.sz; have z3 : w3.cell? ⟨w.heap.size, 3, none⟩ = some (.slice (some ⟨b, o, none⟩) inn icp) := E3.b0.cell 3; have c03 := hg3.cell (acell _ c0) (own_ne' (fun ad had => (R2.block ad had).1) hbw); have c13 := hg3.cell (acell _ c1) (own_ne' (fun ad had => (R2.block ad had).1) hbw)))
            go_wp2
            go_roundw
            case rel => exact ⟨k + 1, a4, (n2 + 1 + 1), cap4, _, by omega, by go_num, by rw [hst.out, he.out], rfl, by omega, R4, by rw [hst.out, he.out]; exact ((T2.app V0 R2 hg3).app (hV.app R2 hg3) R3 hg4), E4⟩
            case measure => simp [intOf]; omega
          · have he : Hid (setS ⟨name, ps⟩ (gl, false) y = (gl ++ [⟨name, ps⟩], true)) := by show _ = _; simp [setS, hbl, heq]
            have hq : y.nm.toList = name.toList := by simpa using heq
            have hbl2 := hbl
            rw [hq] at hbl2
            go_wp2_with (at_builtin; refine wpList_app rfl (fun K hK => wp_appI1 _ _ rfl (w.heap.size + 2) a2 n2 cap2 rows rfl (R2.alloc _) _ _ (⟨name, pa, pn, pc⟩ : IR) rfl (sl_newIt _ (⟨name, pa, pn, pc⟩ : IR) _ _ (by simp)) (by omega) (by simp; omega) (fun a3 cap3 w3 R3 hg3 hp3 => hK _ _ ?_)); have E3 := E.app R2 hg3 hp3; have hsz3 := E3.sz; have z3 : w3.cell? ⟨w.heap.size, 3, none⟩ = some (.slice (some ⟨b, o, none⟩) inn icp) := E3.b0.cell 3; have c03 := hg3.cell (acell _ c0) (own_ne' (fun ad had => (R2.block ad had).1) hbw); have c13 := hg3.cell (acell _ c1) (own_ne' (fun ad had => (R2.block ad had).1) hbw))
            go_wp2
            go_roundw
            case rel => exact ⟨k + 1, a3, (n2 + 1), cap3, _, by omega, by go_num, by rw [hst.out, he.out], rfl, by omega, R3, by rw [hst.out, he.out]; exact (T2.app V0 R2 hg3), E3⟩
            case measure => simp [intOf]; omega
        · cases heq : (y.nm.toList == name.toList)
          · have he : Hid (setS ⟨name, ps⟩ (gl, false) y = (gl ++ [y], false)) := by show _ = _; simp [setS, hbl, heq]
            have hq : ¬ y.nm.toList = name.toList := by simpa using heq
            go_wp2_with (at_builtin; refine wpList_app rfl (fun K hK => wp_appI1 _ _ rfl (w.heap.size + 2) a2 n2 cap2 rows rfl (R2.alloc _) _ _ (⟨y.nm, qa, qn, qc⟩ : IR) rfl (sl_newIt _ (⟨y.nm, qa, qn, qc⟩ : IR) _ _ (by simp)) (by omega) (by simp; omega) (fun a3 cap3 w3 R3 hg3 hp3 => hK _ _ ?_)); have E3 := E.app R2 hg3 hp3; have hsz3 := E3.sz)
            go_wp2
            go_roundw
            case rel => exact ⟨k + 1, a3, (n2 + 1), cap3, _, by omega, by go_num, by rw [hst.out, he.out], rfl, by omega, R3, by rw [hst.out, he.out]; exact (T2.app hV R2 hg3), E3⟩
            case measure => simp [intOf]; omega
          · have he : Hid (setS ⟨name, ps⟩ (gl, false) y = (gl, false)) := by show _ = _; simp [setS, hbl, heq]
            have hq : y.nm.toList = name.toList := by simpa using heq
            have hbl2 := hbl
            rw [hq] at hbl2
            go_wp2
            go_roundw
            case rel => exact ⟨k + 1, a2, n2, cap2, rows, by omega, by go_num, by rw [hst.out, he.out], rfl, by omega, R2, by rw [hst.out, he.out]; exact T2, E⟩
            case measure => simp [intOf]; omega
      · cases hbl : bl y.nm.toList name.toList
        · cases heq : (y.nm.toList == name.toList)
          · have he : Hid (setS ⟨name, ps⟩ (gl, true) y = (gl ++ [y], true)) := by show _ = _; simp [setS, hbl, heq]
            have hq : ¬ y.nm.toList = name.toList := by simpa using heq
            go_wp2_with (at_builtin; refine wpList_app rfl (fun K hK => wp_appI1 _ _ rfl (w.heap.size + 2) a2 n2 cap2 rows rfl (R2.alloc _) _ _ (⟨y.nm, qa, qn, qc⟩ : IR) rfl (sl_newIt _ (⟨y.nm, qa, qn, qc⟩ : IR) _ _ (by simp)) (by omega) (by simp; omega) (fun a3 cap3 w3 R3 hg3 hp3 => hK _ _ ?_)); have E3 := E.app R2 hg3 hp3; have hsz3 := E3.sz)
            go_wp2
            go_roundw
            case rel => exact ⟨k + 1, a3, (n2 + 1), cap3, _, by omega, by go_num, by rw [hst.out, he.out], rfl, by omega, R3, by rw [hst.out, he.out]; exact (T2.app hV R2 hg3), E3⟩
            case measure => simp [intOf]; omega
          · have he : Hid (setS ⟨name, ps⟩ (gl, true) y = (gl, true)) := by show _ = _; simp [setS, hbl, heq]
            have hq : y.nm.toList = name.toList := by simpa using heq
            have hbl2 := hbl
            rw [hq] at hbl2
            go_wp2
            go_roundw
            case rel => exact ⟨k + 1, a2, n2, cap2, rows, by omega, by go_num, by rw [hst.out, he.out], rfl, by omega, R2, by rw [hst.out, he.out]; exact T2, E⟩
            case measure => simp [intOf]; omega
        · cases heq : (y.nm.toList == name.toList)
          · have he : Hid (setS ⟨name, ps⟩ (gl, true) y = (gl ++ [y], true)) := by show _ = _; simp [setS, hbl, heq]
            have hq : ¬ y.nm.toList = name.toList := by simpa using heq
            go_wp2_with (at_builtin; refine wpList_app rfl (fun K hK => wp_appI1 _ _ rfl (w.heap.size + 2) a2 n2 cap2 rows rfl (R2.alloc _) _ _ (⟨y.nm, qa, qn, qc⟩ : IR) rfl (sl_newIt _ (⟨y.nm, qa, qn, qc⟩ : IR) _ _ (by simp)) (by omega) (by simp; omega) (fun a3 cap3 w3 R3 hg3 hp3 => hK _ _ ?_)); have E3 := E.app R2 hg3 hp3; have hsz3 := E3.sz)
            go_wp2
            go_roundw
            case rel => exact ⟨k + 1, a3, (n2 + 1), cap3, _, by omega, by go_num, by rw [hst.out, he.out], rfl, by omega, R3, by rw [hst.out, he.out]; exact (T2.app hV R2 hg3), E3⟩
            case measure => simp [intOf]; omega
          · have he : Hid (setS ⟨name, ps⟩ (gl, true) y = (gl, true)) := by show _ = _; simp [setS, hbl, heq]
            have hq : y.nm.toList = name.toList := by simpa using heq
            have hbl2 := hbl
            rw [hq] at hbl2
            go_wp2
            go_roundw
            case rel => exact ⟨k + 1, a2, n2, cap2, rows, by omega, by go_num, by rw [hst.out, he.out], rfl, by omega, R2, by rw [hst.out, he.out]; exact T2, E⟩
            case measure => simp [intOf]; omega
    · obtain rfl : k = inn := by omega
      have hend : Hid (setE ⟨name, ps⟩ (setK ⟨name, ps⟩ its k) = setI ⟨name, ps⟩ its) := setK_all hlen.out
      generalize setK ⟨name, ps⟩ its k = G at *
      obtain ⟨gl, d⟩ := G
      simp only at T2 ⊢
      cases d
      · go_wp2_with (at_builtin; refine wpList_app rfl (fun K hK => wp_appI1 _ _ rfl (w.heap.size + 2) a2 n2 cap2 rows rfl (R2.alloc _) _ _ (⟨name, pa, pn, pc⟩ : IR) rfl (sl_newIt _ (⟨name, pa, pn, pc⟩ : IR) _ _ (by simp)) (by omega) (by simp; omega) (fun a3 cap3 w3 R3 hg3 hp3 => hK _ _ ?_)); have E3 := E.app R2 hg3 hp3; have hsz3 := E3.sz; have g3 := E3.b0.frozen 3; obtain ⟨u0, u1, u2, u3⟩ := E3.b0.four; have V1 := E3.b0.set 3 (.slice a3 (n2 + 1) cap3); have hgv := gset w3 w.heap.size 3 (.slice a3 (n2 + 1) cap3); have D1 := E3.b1.other ⟨w.heap.size, 3, none⟩ (.slice a3 (n2 + 1) cap3) (by simp only [ne_eq]; omega); have V2 : Blk (w3.setCell ⟨w.heap.size, 3, none⟩ (.slice a3 (n2 + 1) cap3)) w.heap.size #[.int .i64 id, .string nm, .bool fx, .slice a3 (n2 + 1) cap3] 41 := (by simpa using V1); have RR := R3.ty hgv (rowTy_blk E3.b0) (by decide); have TT := (T2.app V0 R2 hg3).ty hgv (rowTy_blk E3.b0) (by decide); have BB := E3.bl.setCell (p := ⟨w.heap.size, 3, none⟩) (Nat.le_refl _) (.slice a3 (n2 + 1) cap3); obtain ⟨v0, v1, v2, v3⟩ := V2.four; have m0 := D1.frozen 0; have m1 := D1.frozen 1; have m2 := D1.frozen 2; have m3 := D1.frozen 3; obtain ⟨n0, n1, n2', n3⟩ := D1.four; obtain ⟨W0, hg0⟩ := set4 D1 (.int .i64 id) (.string nm) (.bool fx) (.slice a3 (n2 + 1) cap3); have R0 := RR.ty hg0 (rowTy_blk D1) (by decide); have T0 := TT.ty hg0 (rowTy_blk D1) (by decide); have B1 := BB.grown hg0 BB.size (fun j e => by cases e; omega); clear V1 V2 D1 RR TT BB hgv)
        generalize ((((w3.setCell ⟨w.heap.size, 3, none⟩ (.slice a3 (n2 + 1) cap3)).setCell ⟨w.heap.size + 1, 0, none⟩ (.int .i64 id)).setCell ⟨w.heap.size + 1, 1, none⟩ (.string nm)).setCell ⟨w.heap.size + 1, 2, none⟩ (.bool fx)).setCell ⟨w.heap.size + 1, 3, none⟩ (.slice a3 (n2 + 1) cap3) = W8 at *
        refine bodyPost_ret (results_cell_row rfl _ W8 (w.heap.size + 1) _ _ _ _ rfl W0 Tryz.underlying41 rfl (by kernel_rfl)) rfl ?_
        exact ⟨⟨a3, (n2 + 1), cap3, _, rfl, R0.mono (by omega), by rw [← hend.out]; simp only [setE]; exact T0⟩, B1⟩
      · have g3 := E.b0.frozen 3
        obtain ⟨u0, u1, u2, u3⟩ := E.b0.four
        have V1 := E.b0.set 3 (.slice a2 n2 cap2)
        have hgv := gset wr w.heap.size 3 (.slice a2 n2 cap2)
        have D1 := E.b1.other ⟨w.heap.size, 3, none⟩ (.slice a2 n2 cap2) (by simp only [ne_eq]; omega)
        have V2 : Blk (wr.setCell ⟨w.heap.size, 3, none⟩ (.slice a2 n2 cap2)) w.heap.size #[.int .i64 id, .string nm, .bool fx, .slice a2 n2 cap2] 41 := by simpa using V1
        have RR := R2.ty hgv (rowTy_blk E.b0) (by decide)
        have TT := T2.ty hgv (rowTy_blk E.b0) (by decide)
        have BB := E.bl.setCell (p := ⟨w.heap.size, 3, none⟩) (Nat.le_refl _) (.slice a2 n2 cap2)
        obtain ⟨v0, v1, v2, v3⟩ := V2.four
        have m0 := D1.frozen 0
        have m1 := D1.frozen 1
        have m2 := D1.frozen 2
        have m3 := D1.frozen 3
        obtain ⟨n0, n1, n2', n3⟩ := D1.four
        obtain ⟨W0, hg0⟩ := set4 D1 (.int .i64 id) (.string nm) (.bool fx) (.slice a2 n2 cap2)
        have R0 := RR.ty hg0 (rowTy_blk D1) (by decide)
        have T0 := TT.ty hg0 (rowTy_blk D1) (by decide)
        have B1 := BB.grown hg0 BB.size (fun j e => by cases e; omega)
        clear V1 V2 D1 RR TT BB hgv
        go_wp2
        generalize ((((wr.setCell ⟨w.heap.size, 3, none⟩ (.slice a2 n2 cap2)).setCell ⟨w.heap.size + 1, 0, none⟩ (.int .i64 id)).setCell ⟨w.heap.size + 1, 1, none⟩ (.string nm)).setCell ⟨w.heap.size + 1, 2, none⟩ (.bool fx)).setCell ⟨w.heap.size + 1, 3, none⟩ (.slice a2 n2 cap2) = W8 at *
        refine bodyPost_ret (results_cell_row rfl _ W8 (w.heap.size + 1) _ _ _ _ rfl W0 Tryz.underlying41 rfl (by kernel_rfl)) rfl ?_
        exact ⟨⟨a2, n2, cap2, _, rfl, R0.mono (by omega), by rw [← hend.out]; simp only [setE]; exact T0⟩, B1⟩
end Go.Proofs.YtnjefbkhibfgmaaGreat
namespace Go.Proofs.YtnjefbkhibfgmaaGreat
open Go.RowKit
def RJ (r : RSt) (J : List Pt) : Prop := (r.ov = false → r.L = J ∧ r.s ≤ 100 ∧ J.length ≤ 16) ∧ (r.ov = true → 100 < r.s ∨ 16 < J.length)
theorem wrap_small {x : Int} (h0 : 0 ≤ x) (h1 : x ≤ 1000000) : wrap64 x = x := by unfold wrap64; omega
theorem cutP_bd {fr to st : Int} {p : Pt} (h : max (fr - st) 0 < min (to - st) p.n) : 1 ≤ (cutP p (max (fr - st) 0) (min (to - st) p.n)).n ∧ (cutP p (max (fr - st) 0) (min (to - st) p.n)).n ≤ p.n := by
  rw [cutP_n]; omega
theorem slp_bd (fr to : Int) (l : List Pt) : ∀ st, (∀ p ∈ l, 1 ≤ p.n) → (∀ p ∈ slp fr to st l, 1 ≤ p.n) ∧ sumN (slp fr to st l) ≤ sumN l ∧ (slp fr to st l).length ≤ l.length ∧ 0 ≤ sumN l := by
  induction l with
  | nil => intro st _; simp [slp, sumN]
  | cons p r ih =>
    intro st h
    have hp := h p (by simp)
    obtain ⟨h1, h2, h3, h4⟩ := ih (st + p.n) (fun q hq => h q (by simp [hq]))
    by_cases hx : max (fr - st) 0 < min (to - st) p.n
    · have hb := cutP_bd hx
      rw [slp_yes rfl rfl hx]
      refine ⟨?_, by simp only [sumN]; omega, by simp; omega, by simp only [sumN]; omega⟩
      intro q hq
      rcases List.mem_cons.1 hq with rfl | hq
      · exact hb.1
      · exact h1 q hq
    · rw [slp_no hx]
      exact ⟨h1, by simp only [sumN]; omega, by simp; omega, by simp only [sumN]; omega⟩
end Go.Proofs.YtnjefbkhibfgmaaGreat
namespace Go.Proofs.YtnjefbkhibfgmaaGreat
open Go.RowKit
theorem pgo_split {q : Option Pt} {B : Int} {p : Pt} {r : List Pt} : pgo q B (p :: r) = true ↔ partOkB p = true ∧ p.n ≤ B ∧ (∀ x, q = some x → goesOnB x p = false) ∧ pgo (some p) (B - p.n) r = true := by
  cases q with
  | none => simp [pgo, and_assoc]
  | some x => simp [pgo, and_assoc]
theorem pgo_cap (l : List Pt) : ∀ (q : Option Pt) (B c : Int), pgo q B l = true → sumN l ≤ c → 0 ≤ c → pgo q c l = true := by
  induction l with
  | nil => intro q B c _ _ _; cases q <;> rfl
  | cons p r ih =>
    intro q B c h hs hc
    obtain ⟨h1, h2, h3, h4⟩ := pgo_split.1 h
    simp only [sumN] at hs
    have hall := pgo_all r (some p) (B - p.n) (by omega) h4
    have hr := sumN_nonneg r hall.1
    exact pgo_split.2 ⟨h1, by omega, h3, ih (some p) (B - p.n) (c - p.n) h4 (by omega) (by omega)⟩
theorem pgo_snoc (l : List Pt) : ∀ (q : Option Pt) (B : Int) (p : Pt), pgo q B l = true → partOkB p = true → sumN l + p.n ≤ B → (∀ x, (l.getLast?.or q) = some x → goesOnB x p = false) → pgo q B (l ++ [p]) = true := by
  induction l with
  | nil =>
    intro q B p _ hp hs hx
    simp only [sumN] at hs
    exact pgo_split.2 ⟨hp, by omega, fun x hq => hx x (by simpa using hq), rfl⟩
  | cons y r ih =>
    intro q B p h hp hs hx
    obtain ⟨h1, h2, h3, h4⟩ := pgo_split.1 h
    simp only [sumN] at hs
    refine pgo_split.2 ⟨h1, h2, h3, ih (some y) (B - y.n) p h4 hp (by omega) ?_⟩
    intro x hxx
    refine hx x ?_
    cases r with
    | nil => simpa using hxx
    | cons z t =>
      obtain ⟨v, hv⟩ : ∃ v, (z :: t).getLast? = some v := ⟨_, List.getLast?_cons⟩
      rw [hv] at hxx
      rw [List.getLast?_cons_cons, hv]
      exact hxx
theorem pgo_init (l : List Pt) : ∀ (q : Option Pt) (B : Int) (p : Pt), pgo q B (l ++ [p]) = true → pgo q B l = true ∧ partOkB p = true ∧ sumN l + p.n ≤ B ∧ (∀ x, (l.getLast?.or q) = some x → goesOnB x p = false) := by
  induction l with
  | nil =>
    intro q B p h
    obtain ⟨h1, h2, h3, _⟩ := pgo_split.1 h
    exact ⟨by cases q <;> rfl, h1, by simp only [sumN]; omega, fun x hx => h3 x (by simpa using hx)⟩
  | cons y r ih =>
    intro q B p h
    obtain ⟨h1, h2, h3, h4⟩ := pgo_split.1 h
    obtain ⟨k1, k2, k3, k4⟩ := ih (some y) (B - y.n) p h4
    refine ⟨pgo_split.2 ⟨h1, h2, h3, k1⟩, k2, by simp only [sumN]; omega, ?_⟩
    intro x hx
    refine k4 x ?_
    cases r with
    | nil => simpa using hx
    | cons z t =>
      obtain ⟨v, hv⟩ : ∃ v, (z :: t).getLast? = some v := ⟨_, List.getLast?_cons⟩
      rw [List.getLast?_cons_cons, hv] at hx
      rw [hv]
      exact hx
theorem merged_ok {x p : Pt} (hx : partOkB x = true) (hp : partOkB p = true) (hg : goesOnB x p = true) : partOkB ⟨x.a, x.f, x.n + p.n⟩ = true := by
  have h1 := partOkB_pos hx
  have h2 := partOkB_pos hp
  simp only [goesOnB, Bool.and_eq_true, Bool.or_eq_true, beq_iff_eq] at hg
  obtain ⟨ha, hg⟩ := hg
  unfold partOkB at *
  by_cases h0 : x.a = 0
  · simp [h0] at hx ⊢
    omega
  · have h0' : (x.a == 0) = false := by simp [h0]
    have hp0 : (p.a == 0) = false := by simp; omega
    simp only [h0', hp0, Bool.false_eq_true, if_false, Bool.and_eq_true, decide_eq_true_eq] at hx hp ⊢
    rcases hg with hg | hg
    · omega
    · rw [wrap_small (by omega) (by omega)] at hg
      omega
theorem addL_ok {l : List Pt} {p : Pt} {B : Int} (h : pgo none B l = true) (hp : partOkB p = true) (hs : sumN l + p.n ≤ B) (hB : B ≤ 1000) (h0 : 0 ≤ B) : pgo none B (addL l p) = true ∧ sumN (addL l p) = sumN l + p.n := by
  rcases List.eq_nil_or_concat l with rfl | ⟨L, x, rfl⟩
  · simp only [sumN] at hs
    exact ⟨pgo_split.2 ⟨hp, by omega, fun x hx => (by cases hx), rfl⟩, by simp [addL, sumN]⟩
  · rw [List.concat_eq_append] at *
    have hl : (L ++ [x]).getLast? = some x := by simp
    cases hg : goesOnB x p
    · have e : addL (L ++ [x]) p = L ++ [x] ++ [p] := by simp [addL, hg]
      rw [e]
      exact ⟨pgo_snoc _ none B p h hp hs (fun y hy => by simp at hy; subst hy; exact hg), by rw [sumN_append]; simp [sumN]⟩
    · obtain ⟨k1, k2, k3, k4⟩ := pgo_init L none B x h
      rw [sumN_append] at hs
      simp only [sumN] at hs
      have hL := sumN_nonneg L (pgo_all L none B h0 k1).1
      have hx1 := partOkB_pos k2
      have hp1 := partOkB_pos hp
      have e : addL (L ++ [x]) p = L ++ [⟨x.a, x.f, x.n + p.n⟩] := by
        simp only [addL, hl, hg, if_true, List.dropLast_concat]
        rw [wrap_small (by omega) (by omega)]
      rw [e]
      refine ⟨pgo_snoc L none B _ k1 (merged_ok k2 hp hg) (by show sumN L + (x.n + p.n) ≤ B; omega) k4, ?_⟩
      rw [sumN_append, sumN_append]; simp [sumN]; omega
theorem joinL_ok (m : List Pt) : ∀ (l : List Pt) (B : Int), pgo none B l = true → (∀ p ∈ m, partOkB p = true) → sumN l + sumN m ≤ B → B ≤ 1000 → 0 ≤ B → pgo none B (joinL l m) = true ∧ sumN (joinL l m) = sumN l + sumN m := by
  induction m with
  | nil => intro l B h _ _ _ _; exact ⟨h, by simp [joinL, sumN]⟩
  | cons p t ih =>
    intro l B h hm hs hB h0
    simp only [sumN] at hs
    have ht := sumN_nonneg t (fun q hq => hm q (by simp [hq]))
    obtain ⟨a1, a2⟩ := addL_ok h (hm p (by simp)) (by omega) hB h0
    obtain ⟨b1, b2⟩ := ih (addL l p) B a1 (fun q hq => hm q (by simp [hq])) (by omega) hB h0
    exact ⟨b1, by show sumN (joinL (addL l p) t) = _; rw [b2, a2]; simp [sumN]; omega⟩
theorem partsOkB_pgo {l : List Pt} (h : partsOkB l = true) : pgo none 100 l = true := by
  simp [partsOkB] at h; exact h.2
theorem partsOkB_join {l m : List Pt} (hl : partsOkB l = true) (hm : partsOkB m = true) : partsOkB (joinL l m) = decide (sumN l + sumN m ≤ 100 ∧ (joinL l m).length ≤ 16) := by
  have sl := partsOkB_all hl
  have sm := partsOkB_all hm
  have nl := sumN_nonneg l sl.2.1
  have nm := sumN_nonneg m sm.2.1
  obtain ⟨b1, b2⟩ := joinL_ok m l 200 (by
    have hp := partsOkB_pgo hl
    exact pgo_cap l none 100 200 hp (by omega) (by omega)) sm.2.1 (by omega) (by omega) (by omega)
  rw [Bool.eq_iff_iff]
  simp only [partsOkB, Bool.and_eq_true, decide_eq_true_eq]
  constructor
  · rintro ⟨h1, h2⟩
    have := pgo_all _ none 100 (by omega) h2
    exact ⟨by omega, h1⟩
  · rintro ⟨h1, h2⟩
    exact ⟨h2, pgo_cap _ none 200 100 b1 (by omega) (by omega)⟩
end Go.Proofs.YtnjefbkhibfgmaaGreat
namespace Go.Proofs.YtnjefbkhibfgmaaGreat
open Go.RowKit
theorem slp_none {fr to : Int} (l : List Pt) : ∀ st, to ≤ st → (∀ p ∈ l, 1 ≤ p.n) → slp fr to st l = [] := by
  induction l with
  | nil => intro st _ _; rfl
  | cons p r ih =>
    intro st h hp
    have := hp p (by simp)
    rw [slp_no (by omega)]
    exact ih _ (by omega) (fun q hq => hp q (by simp [hq]))
theorem cut_ok {p : Pt} {x y : Int} (h : partOkB p = true) (h0 : 0 ≤ x) (h1 : x < y) (h2 : y ≤ p.n) : partOkB (cutP p x y) = true := by
  unfold partOkB at *
  unfold cutP
  by_cases ha : p.a = 0
  · simp [ha]; omega
  · have ha' : (p.a == 0) = false := by simp [ha]
    simp only [ha', Bool.false_eq_true, if_false, Bool.and_eq_true, decide_eq_true_eq] at h ⊢
    omega
def Tail (x x' : Pt) : Prop := x'.a = x.a ∧ (x.a = 0 ∨ x'.f + x'.n = x.f + x.n)
theorem cut_next {x x' p : Pt} {y : Int} (ht : Tail x x') (hg : goesOnB x p = false) : goesOnB x' (cutP p 0 y) = false := by
  obtain ⟨h1, h2⟩ := ht
  unfold goesOnB at *
  unfold cutP
  by_cases ha : p.a = 0
  · simp [ha] at hg ⊢
    rw [h1]; exact hg
  · have ha' : (p.a == 0) = false := by simp [ha]
    simp only [ha', Bool.false_eq_true, if_false, Bool.false_or, Int.add_zero] at hg ⊢
    rw [h1]
    rcases h2 with h2 | h2
    · have : (p.a == x.a) = false := by rw [h2]; exact ha'
      simp [this]
    · rw [h2]; exact hg
theorem slp_ok (fr to : Int) (l : List Pt) : ∀ (st B : Int) (q q' : Option Pt), 0 ≤ B → pgo q B l = true → (∀ x', q' = some x' → fr ≤ st ∧ ∃ x, q = some x ∧ Tail x x') → pgo q' B (slp fr to st l) = true := by
  induction l with
  | nil => intro st B q q' _ _ _; cases q' <;> rfl
  | cons p r ih =>
    intro st B q q' hB h hq
    obtain ⟨h1, h2, h3, h4⟩ := pgo_split.1 h
    have hp1 := partOkB_pos h1
    have hall := pgo_all r (some p) (B - p.n) (by omega) h4
    have hrpos : ∀ y ∈ r, 1 ≤ y.n := fun y hy => partOkB_pos (hall.1 y hy)
    by_cases hx : max (fr - st) 0 < min (to - st) p.n
    · rw [slp_yes rfl rfl hx]
      have hb := cutP_bd hx
      have hrest : pgo (some (cutP p (max (fr - st) 0) (min (to - st) p.n))) (B - p.n) (slp fr to (st + p.n) r) = true := by
        by_cases hy : p.n ≤ to - st
        · refine ih (st + p.n) (B - p.n) (some p) _ (by omega) h4 ?_
          intro x' hx'
          obtain rfl := Option.some.inj hx'
          refine ⟨by omega, p, rfl, ?_⟩
          unfold Tail cutP
          by_cases ha : p.a = 0
          · simp [ha]
          · have ha' : (p.a == 0) = false := by simp [ha]
            simp only [ha', Bool.false_eq_true, if_false]
            exact ⟨trivial, .inr (by omega)⟩
        · rw [slp_none r (st + p.n) (by omega) hrpos]; rfl
      have hsum := slp_bd fr to r (st + p.n) hrpos
      refine pgo_split.2 ⟨cut_ok h1 (by omega) hx (by omega), by omega, ?_, pgo_cap _ _ _ _ hrest (by omega) (by omega)⟩
      intro x' hx'
      obtain ⟨hfr, x, hqx, ht⟩ := hq x' hx'
      have e : max (fr - st) 0 = 0 := by omega
      rw [e]
      exact cut_next ht (h3 x hqx)
    · rw [slp_no hx]
      cases q' with
      | some x' =>
        obtain ⟨hfr, _⟩ := hq x' rfl
        rw [slp_none r (st + p.n) (by omega) hrpos]; rfl
      | none =>
        have := ih (st + p.n) (B - p.n) (some p) none (by omega) h4 (fun x' hx' => (by cases hx'))
        have hsum := slp_bd fr to r (st + p.n) hrpos
        exact pgo_cap _ _ _ _ this (by omega) hB
theorem slice_pgo {l : List Pt} (h : partsOkB l = true) (fr to : Int) : pgo none 100 (slp fr to 0 l) = true :=
  slp_ok fr to l 0 100 none none (by omega) (partsOkB_pgo h) (fun x' hx' => (by cases hx'))
end Go.Proofs.YtnjefbkhibfgmaaGreat
