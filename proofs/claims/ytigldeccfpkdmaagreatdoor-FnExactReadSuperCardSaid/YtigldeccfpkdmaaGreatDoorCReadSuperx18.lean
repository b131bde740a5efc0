/- Content of the program. Content of the model. -/
import Derived.Laws.Strings2
import Derived.Test.YtigldeccfpkdmaaGreatDoorCReadSuperx05
import Derived.Test.YtigldeccfpkdmaaGreatDoorCReadSuperx01
import Derived.Test.YtigldeccfpkdmaaGreatDoorCReadSuperx06
import Derived.Test.YtigldeccfpkdmaaGreatDoorCReadSuperx00
import Derived.Test.YtigldeccfpkdmaaGreatDoorCReadSuperx07
import Derived.Test.YtigldeccfpkdmaaGreatDoorProg
namespace Go.Proofs.YtigldeccfpkdmaaGreatDoor
open Go.RowKit Go.BigFrame Go.Lib
def RetStr (e : Ending) : Option ByteArray → Prop
  | none => e = .returned (.tuple #[.string ⟨#[]⟩, .bool false])
  | some s => e = .returned (.tuple #[.string s, .bool true])
theorem strCells_append (x y : ByteArray) : strCells x ++ strCells y = strCells (x ++ y) := by
  simp [strCells]
theorem info5 : (Tryz.prog.info? 5).map (fun i => (i.zero, i.size, i.bytes)) = some (some (.int .u8 0), 1, 1) := by kernel_rfl
theorem row_block {w : World} {B e n : Nat} {v : Value} {xs : List Value} (h : w.ownsRow B e 1 v n xs) : ∀ k, v.ownBlock = some k → B ≤ k := by
  rcases h.2 with ⟨rfl, _⟩ | ⟨g, cap, cur, rfl, hB, _⟩
  · intro k hk; cases hk
  · intro k hk; simp [Value.ownBlock] at hk; omega
theorem row_below {w w' : World} {B e n : Nat} {v : Value} {xs : List Value} (h : w.ownsRow B e 1 v n xs) (hb : Below w.heap.size w w') : w'.ownsRow B e 1 v n xs := by
  refine ⟨h.1, ?_⟩
  rcases h.2 with h0 | ⟨g, cap, cur, h1, h2, h3, h4⟩
  · exact .inl h0
  · exact .inr ⟨g, cap, cur, h1, h2, by rw [hb.block g (Array.getElem?_eq_some_iff.1 h3).1]; exact h3, h4⟩
theorem row_slice {w : World} {B e n : Nat} {v : Value} {xs : List Value} (h : w.ownsRow B e 1 v n xs) : ∃ a cap, v = .slice a n cap := by
  rcases h.2 with ⟨rfl, rfl⟩ | ⟨g, cap, cur, rfl, _⟩
  · exact ⟨none, 0, rfl⟩
  · exact ⟨_, _, rfl⟩
set_option maxHeartbeats 2000000 in
set_option maxRecDepth 100000 in
theorem impl_Content (a : Option Addr) (n cap : Nat) (l : List Pt) (a' : Option Addr) (n' cap' : Nat) (e : List Ex) (w : World) (h : PtsAt w a n l) (h' : ExsAt w a' n' e) (hstr : Strs e) (hn : n ≤ 4194304) (hn' : n' ≤ 4194304) :
    Calls Tryz.prog 203 #[.slice a n cap, .slice a' n' cap'] w fun x w' => RetStr x (contentO l e) ∧ Below w.heap.size w w' := by
  have hlen : Hid (l.length = n) := h.len
  cases hok : partsOkB l
  · have hf : contentO l e = none := by simp [contentO, hok]
    rw [hf]
    go_enter Tryz.func203, Tryz.ntmps203
    go_wp2_with fail
    refine (impl_PartsOk a n cap l _ h hn).mono ?_
    rintro x w1 ⟨rfl, hB1⟩
    rw [hok]
    go_wp2
    go_returns
    exact ⟨rfl, hB1⟩
  · cases hok' : spaceOkB 400 e
    · have hf : contentO l e = none := by simp [contentO, hok']
      rw [hf]
      go_enter Tryz.func203, Tryz.ntmps203
      go_wp2_with fail
      refine (impl_PartsOk a n cap l _ h hn).mono ?_
      rintro x w1 ⟨rfl, hB1⟩
      rw [hok]
      go_wp2_with fail
      refine (impl_SpaceOk 400 a' n' cap' e _ (h'.below hB1) hstr hn').mono ?_
      rintro x w2 ⟨rfl, hB2⟩
      rw [hok']
      have hB3 := chain hB1 hB2
      go_wp2
      go_returns
      exact ⟨rfl, hB3⟩
    · have hf : Hid (contentO l e = cgo e ⟨#[]⟩ (l.drop 0)) := by show _ = _; simp [contentO, hok, hok']
      obtain ⟨hl16, hall⟩ := parts_all hok
      have hn16 : n ≤ 16 := by rw [← hlen.out]; exact hl16
      obtain ⟨i0, hi, hz0, hz1, hz2⟩ := info_parts info5
      generalize contentO l e = R at *
      go_enter Tryz.func203, Tryz.ntmps203
      go_wp2_with fail
      refine (impl_PartsOk a n cap l _ h hn).mono ?_
      rintro x w1 ⟨rfl, hB1⟩
      rw [hok]
      go_wp2_with fail
      refine (impl_SpaceOk 400 a' n' cap' e _ (h'.below hB1) hstr hn').mono ?_
      rintro x w2 ⟨rfl, hB2⟩
      rw [hok']
      replace hB2 := chain hB1 hB2
      go_wp2_with fail
      go_loopw [6, 20] (fun out ix wr => ∃ (k m : Nat) (s : ByteArray) (a2 : Option Addr) (cap2 : Nat), k ≤ n ∧ ix = .int .i64 k ∧ m ≤ 100 * k ∧ out = .slice a2 m cap2 ∧ wr.ownsRow w.heap.size 5 1 (.slice a2 m cap2) m (strCells s) ∧ Hid (R = cgo e s (l.drop k)) ∧ Below w.heap.size w wr) (fun _ ix _ => n - (RowKit.intOf ix).toNat)
      case atStart => exact ⟨0, 0, ⟨#[]⟩, none, 0, Nat.zero_le _, rfl, Nat.zero_le _, rfl, World.ownsRow_nil _ _ _ _, hf, hB2⟩
      case round =>
        obtain ⟨k, m, s, a2, cap2, hk, rfl, hm, rfl, hrow, hI, hB⟩ := hrel
        have hsz := hB.size
        by_cases hlt : k < n
        · obtain ⟨b, o, p, rfl, hp, c0, c1, c2⟩ := pts_at (h.below hB) hlt
          have hd : Hid (l.drop k = p :: l.drop (k + 1)) := drop_at hp
          obtain ⟨hp1, hp2, hp3⟩ := hall p (List.mem_of_getElem? hp)
          obtain ⟨pa, pf, pn⟩ := p
          dsimp only at *
          obtain ⟨pk, rfl⟩ : ∃ pk : Nat, pn = pk := ⟨pn.toNat, by omega⟩
          cases ha : (pa == 0)
          · have hne : pa ≠ 0 := by simpa using ha
            obtain ⟨f0, f20⟩ := hp3 hne
            obtain ⟨fk, rfl⟩ : ∃ fk : Nat, pf = fk := ⟨pf.toNat, by omega⟩
            have hst : Hid (R = match pieceO e ⟨pa, fk, pk⟩ with | none => none | some d => cgo e (s ++ d) (l.drop (k + 1))) := by show _ = _; rw [hI.out, hd.out]; rfl
            have hpc : Hid (pieceO e ⟨pa, fk, pk⟩ = if ((dataAtB pa e).size : Int) < fk + pk then none else some ((dataAtB pa e).extract fk (fk + pk))) := by
              show _ = _
              simp only [pieceO, ha, Bool.false_eq_true, if_false, Int.toNat_natCast]
              rw [show ((fk : Int) + (pk : Int)).toNat = fk + pk by omega]
            have hD := dataAtB_str (addr := pa) hstr
            go_wp2_with fail
            refine (impl_dataAt a' n' cap' e pa _ ((h'.below hB).alloc _) hn').mono ?_
            rintro x w3 ⟨rfl, hB3⟩
            generalize dataAtB pa e = D at *
            obtain ⟨z0, z1, z2, hB3', _⟩ := box3 hB3
            clear hB3 c0 c1 c2
            have hrow3 := row_below hrow hB3'
            have hB4 := chain hB hB3'
            clear hrow
            by_cases hlt2 : (D.size : Int) < fk + pk
            · rw [if_pos hlt2] at hpc
              go_wp2
              go_returns
              rw [hst.out, hpc.out]
              exact ⟨rfl, hB4⟩
            · rw [if_neg hlt2] at hpc
              have hle : (fk : Int) + (pk : Int) ≤ D.size := by omega
              have hsl := run_slice_string (P := Tryz.prog) (w := w3) 9 D .i64 .i64 fk (fk + pk) Tryz.underlying9 (by omega) (by omega) (by omega)
              rw [show ((fk : Int) + (pk : Int)).toNat = fk + pk by omega, Int.toNat_natCast] at hsl
              have hxs : (D.extract fk (fk + pk)).size = pk := by rw [ByteArray.size_extract]; omega
              generalize D.extract fk (fk + pk) = X at *
              go_wp2_with (at_builtin; refine wpList_append_own_string _ rfl _ _ 173 9 rfl w.heap.size 5 i0 Tryz.underlying173 Tryz.underlying9 hi hz0 hz1 hz2 _ m (strCells s) rfl hrow3 X rfl (by unfold maxLen; omega) (by omega) hB4.size ?_; intro v5 w5 hrow5 hg5 _)
              obtain ⟨a3, cap3, rfl⟩ := row_slice hrow5
              rw [strCells_append] at hrow5
              have hB5 : Below w.heap.size w w5 := hB4.grown hg5 hB4.size (row_block hrow3)
              go_roundw
              case rel => exact ⟨k + 1, m + X.size, s ++ X, a3, cap3, by omega, by go_num, by omega, rfl, hrow5, by show _ = _; rw [hst.out, hpc.out], hB5⟩
              case measure => simp [RowKit.intOf]; omega
          · have hst : Hid (R = cgo e (s ++ zs pk) (l.drop (k + 1))) := by
              show _ = _
              rw [hI.out, hd.out]
              simp [cgo, pieceO, ha]
            have hrow2 : ∀ x, (wr.alloc x).ownsRow w.heap.size 5 1 (.slice a2 m cap2) m (strCells s) := fun x => row_below hrow ((Below.refl _ _).alloc (Nat.le_refl _) _)
            go_wp2_with (at_builtin; refine wpList_append_zeros _ rfl _ _ 173 2 9 rfl w.heap.size 5 i0 .i64 Tryz.underlying173 Tryz.underlying2 Tryz.underlying9 hi hz0 hz1 hz2 _ m (strCells s) rfl (hrow2 _) .i64 pk rfl (by omega) (by omega) (by simp; omega) ?_; intro v3 w3 hrow3 hg3)
            obtain ⟨a3, cap3, rfl⟩ := row_slice hrow3
            rw [strCells_append] at hrow3
            have hB3 : Below w.heap.size w w3 := Below.grown (by go_grown) hg3 (by simp; omega) (row_block hrow)
            go_roundw
            case rel => exact ⟨k + 1, m + pk, s ++ zs pk, a3, cap3, by omega, by go_num, by omega, rfl, hrow3, hst, hB3⟩
            case measure => simp [RowKit.intOf]; omega
        · obtain rfl : k = n := by omega
          have hconv := row_text (P := Tryz.prog) hrow 173 Tryz.underlying173 Tryz.underlying5 9 Tryz.underlying9
          go_wp2
          go_returns
          rw [hI.out, List.drop_of_length_le (by rw [hlen.out]; exact Nat.le_refl _)]
          exact ⟨rfl, hB⟩
end Go.Proofs.YtigldeccfpkdmaaGreatDoor
namespace Go.Proofs.YtigldeccfpkdmaaGreatDoor
open Go.RowKit Go.BigFrame Go.Lib
theorem atG_find (addr : Int) : ∀ (l : List Ex) (k : Nat), (atG addr k l = -1 ∧ dataAtB addr l = ⟨#[]⟩) ∨ ∃ (j : Nat) (x : Ex), l[j]? = some x ∧ atG addr k l = (k : Int) + j ∧ dataAtB addr l = x.d
  | [], k => .inl ⟨rfl, rfl⟩
  | e :: r, k => by
    unfold atG dataAtB
    split
    · rename_i h; exact .inr ⟨0, e, rfl, by simp, rfl⟩
    · rename_i h
      rcases atG_find addr r (k + 1) with ⟨h1, h2⟩ | ⟨j, x, h1, h2, h3⟩
      · exact .inl ⟨h1, h2⟩
      · exact .inr ⟨j + 1, x, by simpa using h1, by rw [h2]; omega, h3⟩
set_option maxHeartbeats 2000000 in
set_option maxRecDepth 100000 in
theorem spec_l2Content (a : Option Addr) (n cap : Nat) (l : List Pt) (a' : Option Addr) (n' cap' : Nat) (e : List Ex) (w : World) (h : PtsAt w a n l) (h' : ExsAt w a' n' e) (hstr : Strs e) (hn : n ≤ 16) (hn' : n' ≤ 4194304) (hall : ∀ p ∈ l, 1 ≤ p.n ∧ p.n ≤ 100 ∧ (p.a ≠ 0 → 0 ≤ p.f ∧ p.f < 20)) :
    Calls Tryz.prog 180 #[.slice a n cap, .slice a' n' cap'] w fun x w' => RetStr x (cgo e ⟨#[]⟩ l) ∧ Below w.heap.size w w' := by
  have hlen : Hid (l.length = n) := h.len
  have hf : Hid (cgo e ⟨#[]⟩ l = cgo e ⟨#[]⟩ (l.drop 0)) := rfl
  generalize cgo e ⟨#[]⟩ l = R at *
  obtain ⟨i0, hi, hz0, hz1, hz2⟩ := info_parts info5
  go_enter Tryz.func180, Tryz.ntmps180
  go_wp2_with fail
  go_loopw [6, 7] (fun out ix wr => ∃ (k : Nat) (s : ByteArray), k ≤ n ∧ ix = .int .i64 k ∧ s.size ≤ 100 * k ∧ out = .string s ∧ Hid (R = cgo e s (l.drop k)) ∧ Below w.heap.size w wr) (fun _ ix _ => n - (RowKit.intOf ix).toNat)
  case atStart => exact ⟨0, ⟨#[]⟩, Nat.zero_le _, rfl, by simp [ByteArray.size], rfl, hf, Below.refl _ _⟩
  case round =>
    obtain ⟨k, s, hk, rfl, hm, rfl, hI, hB⟩ := hrel
    have hsz := hB.size
    by_cases hlt : k < n
    · obtain ⟨b, o, p, rfl, hp, c0, c1, c2⟩ := pts_at (h.below hB) hlt
      have hd : Hid (l.drop k = p :: l.drop (k + 1)) := drop_at hp
      obtain ⟨hp1, hp2, hp3⟩ := hall p (List.mem_of_getElem? hp)
      obtain ⟨pa, pf, pn⟩ := p
      dsimp only at *
      obtain ⟨pk, rfl⟩ : ∃ pk : Nat, pn = pk := ⟨pn.toNat, by omega⟩
      cases ha : (pa == 0)
      · have hne : pa ≠ 0 := by simpa using ha
        obtain ⟨f0, f20⟩ := hp3 hne
        obtain ⟨fk, rfl⟩ : ∃ fk : Nat, pf = fk := ⟨pf.toNat, by omega⟩
        have hst : Hid (R = match pieceO e ⟨pa, fk, pk⟩ with | none => none | some d => cgo e (s ++ d) (l.drop (k + 1))) := by show _ = _; rw [hI.out, hd.out]; rfl
        have hpc : Hid (pieceO e ⟨pa, fk, pk⟩ = if ((dataAtB pa e).size : Int) < fk + pk then none else some ((dataAtB pa e).extract fk (fk + pk))) := by
          show _ = _
          simp only [pieceO, ha, Bool.false_eq_true, if_false, Int.toNat_natCast]
          rw [show ((fk : Int) + (pk : Int)).toNat = fk + pk by omega]
        have hD := dataAtB_str (addr := pa) hstr
        go_wp2_with fail
        refine (spec_l1At a' n' cap' e pa _ ((h'.below hB).alloc _) hn').mono ?_
        rintro x w3 ⟨rfl, rfl⟩
        rcases atG_find pa e 0 with ⟨g1, g2⟩ | ⟨j, x, g1, g2, g3⟩
        · rw [g1]
          rw [g2, if_pos (by simp [ByteArray.size]; omega)] at hpc
          clear hI hd hp c0 c1 c2
          go_wp2_with fail
          go_quiet (fail)
          go_wp2
          go_returns
          rw [hst.out, hpc.out]
          exact ⟨rfl, below_drewN (by go_grown) _⟩
        · rw [g2, show ((0 : Nat) : Int) + (j : Int) = j by omega]
          rw [g3] at hpc hD
          have hj : j < n' := by rw [← h'.len]; exact (List.getElem?_eq_some_iff.1 g1).1
          obtain ⟨b', o', x', rfl, hx', y0, y1⟩ := exs_at ((h'.below hB).alloc (.cells #[.int .i64 pa, .int .i64 fk, .int .i64 pk] 141)) hj
          rw [g1] at hx'
          obtain rfl := Option.some.inj hx'
          have hB2 : Below w.heap.size w (wr.alloc (.cells #[.int .i64 pa, .int .i64 fk, .int .i64 pk] 141)) := hB.alloc hsz _
          have z0 : (wr.alloc (.cells #[.int .i64 pa, .int .i64 fk, .int .i64 pk] 141)).cell? ⟨wr.heap.size, 0, none⟩ = some (.int .i64 pa) := by simp
          have z1 : (wr.alloc (.cells #[.int .i64 pa, .int .i64 fk, .int .i64 pk] 141)).cell? ⟨wr.heap.size, 1, none⟩ = some (.int .i64 fk) := by simp
          have z2 : (wr.alloc (.cells #[.int .i64 pa, .int .i64 fk, .int .i64 pk] 141)).cell? ⟨wr.heap.size, 2, none⟩ = some (.int .i64 pk) := by simp
          clear c0 c1 c2 hI hd hp g1 g2 g3
          generalize wr.alloc (.cells #[.int .i64 pa, .int .i64 fk, .int .i64 pk] 141) = W at *
          obtain ⟨xa, D⟩ := x
          dsimp only at *
          have hj1 : (0 : Int) ≤ j := by omega
          have hj2 : (j : Int) < n' := by omega
          have hj3 : decide ((j : Int) < 0) = false := by simp
          by_cases hlt2 : (D.size : Int) < fk + pk
          · rw [if_pos hlt2] at hpc
            go_wp2_with fail
            go_quiet (fail)
            go_wp2
            go_returns
            rw [hst.out, hpc.out]
            exact ⟨rfl, below_drewN hB2 _⟩
          · rw [if_neg hlt2] at hpc
            have hle : (fk : Int) + (pk : Int) ≤ D.size := by omega
            have hsl := fun W' => run_slice_string (P := Tryz.prog) W' 9 D .i64 .i64 fk (fk + pk) Tryz.underlying9 (by omega) (by omega) (by omega)
            rw [show ((fk : Int) + (pk : Int)).toNat = fk + pk by omega, Int.toNat_natCast] at hsl
            have hxs : (D.extract fk (fk + pk)).size = pk := by rw [ByteArray.size_extract]; omega
            generalize D.extract fk (fk + pk) = X at *
            go_wp2_with fail
            go_quiet (fail)
            have hB3 := below_drewN hB2 nq
            replace z0 : (W.drewN nq).cell? ⟨wr.heap.size, 0, none⟩ = some (.int .i64 pa) := z0
            replace z1 : (W.drewN nq).cell? ⟨wr.heap.size, 1, none⟩ = some (.int .i64 fk) := z1
            replace z2 : (W.drewN nq).cell? ⟨wr.heap.size, 2, none⟩ = some (.int .i64 pk) := z2
            replace y1 : (W.drewN nq).cell? ⟨b', o' + j * 2 + 1, none⟩ = some (.string D) := y1
            clear y0
            generalize W.drewN nq = W1 at *
            go_wp2_with fail
            go_quiet (fail)
            go_wp2
            go_roundw
            case rel => exact ⟨k + 1, s ++ X, by omega, by go_num, by rw [ByteArray.size_append]; omega, rfl, by show _ = _; rw [hst.out, hpc.out], below_drewN hB3 _⟩
            case measure => simp [RowKit.intOf]; omega
      · have hst : Hid (R = cgo e (s ++ zs pk) (l.drop (k + 1))) := by
          show _ = _
          rw [hI.out, hd.out]
          simp [cgo, pieceO, ha]
        have hmk : ∀ u : World, (Instr.makeSlice 173 (.int .i64 (pk : Int)) (.int .i64 (pk : Int))).run Tryz.prog u = .ok (.slice (some ⟨u.heap.size, 0, none⟩) pk pk) (u.alloc (.cells (strCells (zs pk)).toArray 5)) := fun u => by
          have hm := run_make (P := Tryz.prog) u 173 5 i0 (.int .u8 0) Tryz.underlying173 hi hz0 .i64 .i64 (pk : Int) (pk : Int) (by omega) (Int.le_refl _) (by rw [hz2]; omega) (by omega)
          rw [zs_cells]
          simpa [hz1, Value.cells, madeCells, Builtin.zeroCells] using hm
        have hcv : ∀ u : World, (convert 173 9 (.slice (some ⟨u.heap.size, 0, none⟩) pk pk)).run Tryz.prog (u.alloc (.cells (strCells (zs pk)).toArray 5)) = .ok (.string (zs pk)) (u.alloc (.cells (strCells (zs pk)).toArray 5)) := fun u =>
          row_text (B := 0) (e := 5) (n := pk) ⟨by rw [strCells_length, zs_size, Nat.mul_one], .inr ⟨u.heap.size, pk, _, rfl, Nat.zero_le _, Blk.new u _ 5, Nat.le_refl _, by unfold maxLen; omega, by simp [strCells_length, zs_size], by rw [Nat.mul_one, List.take_of_length_le (by simp [strCells_length, zs_size])]⟩⟩ 173 Tryz.underlying173 Tryz.underlying5 9 Tryz.underlying9
        have hmk1 := hmk (wr.alloc (.cells #[.int .i64 pa, .int .i64 pf, .int .i64 pk] 141))
        have hcv1 := hcv (wr.alloc (.cells #[.int .i64 pa, .int .i64 pf, .int .i64 pk] 141))
        rw [show (wr.alloc (.cells #[.int .i64 pa, .int .i64 pf, .int .i64 pk] 141)).heap.size = wr.heap.size + 1 by simp] at hmk1 hcv1
        have hzsz := zs_size pk
        generalize zs pk = Z at *
        clear hmk hcv
        go_wp2
        go_roundw
        case rel => exact ⟨k + 1, s ++ Z, by omega, by go_num, by rw [ByteArray.size_append]; omega, rfl, hst, by go_grown⟩
        case measure => simp [RowKit.intOf]; omega
    · obtain rfl : k = n := by omega
      go_wp2
      go_returns
      rw [hI.out, List.drop_of_length_le (by rw [hlen.out]; exact Nat.le_refl _)]
      exact ⟨rfl, hB⟩
end Go.Proofs.YtigldeccfpkdmaaGreatDoor
