/- Where an extent stands (the model's l1At); Lifted of the program. Content as a plain function; dataAt of the program. Content of the program. The lengths of parts, of the program and of the model; the model's PartsOk. Lengths; the laws' copies and comparisons of lists of parts. -/
import Derived.Test.YtigldeccfpkdmaaGreatDoorProg
import Derived.Test.YtigldeccfpkdmaaGreatDoorCSuperTextx02
import Derived.Test.YtigldeccfpkdmaaGreatDoorCSuperTextx00
import Derived.Laws.Strings2
import Derived.Test.YtigldeccfpkdmaaGreatDoorCSuperTextx01
namespace Go.Proofs.YtigldeccfpkdmaaGreatDoor
open Go.RowKit Go.BigFrame
/-- The index of the first extent at that address, the list beginning at k; -1 where there is none. -/
def atG (addr : Int) : Nat → List Ex → Int
  | _, [] => -1
  | k, e :: r => if e.a == addr then (k : Int) else atG addr (k + 1) r
set_option maxHeartbeats 400000 in
theorem spec_l1At (a : Option Addr) (n cap : Nat) (l : List Ex) (addr : Int) (w : World) (h : ExsAt w a n l) (hn : n ≤ 4194304) :
    Calls Tryz.prog 121 #[.slice a n cap, .int .i64 addr] w fun e w' => e = .returned (.int .i64 (atG addr 0 l)) ∧ w' = w := by
  have hlen : Hid (l.length = n) := h.len
  go_enter Tryz.func121, Tryz.ntmps121
  go_wp2_with fail
  go_loop [5] (fun ix => ∃ (k : Nat), k ≤ n ∧ ix = .int .i64 k ∧ Hid (atG addr 0 l = atG addr k (l.drop k))) (fun ix => n - (intOf ix).toNat)
  case atStart => exact ⟨0, Nat.zero_le _, rfl, rfl⟩
  case round =>
    obtain ⟨k, hk, rfl, hI⟩ := hrel
    by_cases hlt : k < n
    · obtain ⟨b, o, p, rfl, hp, c0, c1⟩ := exs_at h hlt
      have hd : Hid (l.drop k = p :: l.drop (k + 1)) := drop_at hp
      clear hp
      cases he : (p.a == addr)
      · go_wp2
        go_round
        case rel => exact ⟨k + 1, by omega, by go_num, by show _ = _; rw [hI.out, hd.out]; simp only [atG, he, Bool.false_eq_true, if_false]⟩
        case measure => simp [intOf]; omega
      · go_wp2
        go_returns
        go_light
        refine ⟨ret_int ?_, rfl⟩
        rw [hI.out, hd.out]; simp only [atG, he, if_true]
    · obtain rfl : k = n := by omega
      go_wp2
      go_returns
      go_light
      refine ⟨ret_int ?_, rfl⟩
      rw [hI.out, List.drop_of_length_le (Nat.le_of_eq hlen.out)]; rfl
end Go.Proofs.YtigldeccfpkdmaaGreatDoor
namespace Go.Proofs.YtigldeccfpkdmaaGreatDoor
open Go.RowKit Go.BigFrame
/-- The data of the first extent at an address, or none. -/
def dataAtB (addr : Int) : List Ex → ByteArray
  | [] => ⟨#[]⟩
  | e :: r => if e.a == addr then e.d else dataAtB addr r
/-- The bytes of a part. -/
def pieceO (e : List Ex) (p : Pt) : Option ByteArray :=
  if p.a == 0 then some (zs p.n.toNat) else if ((dataAtB p.a e).size : Int) < p.f + p.n then none else some ((dataAtB p.a e).extract p.f.toNat (p.f + p.n).toNat)
def cgo (e : List Ex) : ByteArray → List Pt → Option ByteArray
  | acc, [] => some acc
  | acc, p :: r => match pieceO e p with
    | none => none
    | some d => cgo e (acc ++ d) r
def contentO (l : List Pt) (e : List Ex) : Option ByteArray := if partsOkB l = true ∧ spaceOkB 400 e = true then cgo e ⟨#[]⟩ l else none
theorem pgo_each : ∀ {l : List Pt} {q : Option Pt} {left : Int}, pgo q left l = true → left ≤ 100 → ∀ p ∈ l, partOkB p = true ∧ p.n ≤ 100
  | [], _, _, _, _ => by simp
  | p :: r, q, left, h, hl => by
    have h2 : partOkB p = true ∧ p.n ≤ left ∧ pgo (some p) (left - p.n) r = true := by
      cases q
      · simp only [pgo, Bool.and_eq_true, decide_eq_true_eq] at h; exact ⟨h.1.1, h.1.2, h.2⟩
      · simp only [pgo, Bool.and_eq_true, decide_eq_true_eq] at h; exact ⟨h.1.1.1, h.1.1.2, h.2⟩
    intro x hx
    rcases List.mem_cons.1 hx with rfl | hx
    · exact ⟨h2.1, by omega⟩
    · exact pgo_each h2.2.2 (by have := partOkB_pos h2.1; omega) x hx
theorem parts_all {l : List Pt} (h : partsOkB l = true) : l.length ≤ 16 ∧ ∀ p ∈ l, 1 ≤ p.n ∧ p.n ≤ 100 ∧ (p.a ≠ 0 → 0 ≤ p.f ∧ p.f < 20) := by
  simp only [partsOkB, Bool.and_eq_true, decide_eq_true_eq] at h
  refine ⟨h.1, fun p hp => ?_⟩
  obtain ⟨h1, h2⟩ := pgo_each h.2 (by omega) p hp
  refine ⟨partOkB_pos h1, h2, fun ha => ?_⟩
  have hb : (p.a == 0) = false := by simpa using ha
  simp only [partOkB, hb, Bool.false_eq_true, if_false, Bool.and_eq_true, decide_eq_true_eq] at h1
  omega
theorem dataAtB_str {addr : Int} : ∀ {e : List Ex}, Strs e → (dataAtB addr e).size ≤ 9223372036854775807
  | [], _ => by simp [dataAtB, ByteArray.size]
  | x :: r, h => by
    unfold dataAtB
    split
    · exact h x (by simp)
    · exact dataAtB_str (fun y hy => h y (by simp [hy]))
set_option maxHeartbeats 400000 in
theorem impl_dataAt (a : Option Addr) (n cap : Nat) (l : List Ex) (addr : Int) (w : World) (h : ExsAt w a n l) (hn : n ≤ 4194304) :
    Calls Tryz.prog 235 #[.slice a n cap, .int .i64 addr] w fun e w' => e = .returned (.string (dataAtB addr l)) ∧ Below w.heap.size w w' := by
  have hlen : Hid (l.length = n) := h.len
  have hfin : Hid (dataAtB addr l = dataAtB addr (l.drop 0)) := rfl
  generalize dataAtB addr l = R at *
  go_enter Tryz.func235, Tryz.ntmps235
  go_wp2_with fail
  go_loopw [9] (fun ix wr => ∃ (k : Nat), k ≤ n ∧ ix = .int .i64 k ∧ Hid (R = dataAtB addr (l.drop k)) ∧ Below w.heap.size w wr) (fun ix _ => n - (intOf ix).toNat)
  case atStart => exact ⟨0, Nat.zero_le _, rfl, hfin, Below.refl _ _⟩
  case round =>
    obtain ⟨k, hk, rfl, hI, hB⟩ := hrel
    have hsz := hB.size
    by_cases hlt : k < n
    · obtain ⟨b, o, p, rfl, hp, c0, c1⟩ := exs_at (h.below hB) hlt
      have hd : Hid (l.drop k = p :: l.drop (k + 1)) := drop_at hp
      cases he : (p.a == addr)
      · go_wp2
        go_roundw
        case rel => exact ⟨k + 1, by omega, by go_num, by show _ = _; rw [hI.out, hd.out]; simp [dataAtB, he], by go_grown⟩
        case measure => simp [intOf]; omega
      · go_wp2
        go_returns
        go_light
        refine ⟨?_, by go_grown⟩
        rw [hI.out, hd.out]; simp [dataAtB, he]
    · obtain rfl : k = n := by omega
      go_wp2
      go_returns
      go_light
      refine ⟨?_, hB⟩
      rw [hI.out, List.drop_of_length_le (by rw [hlen.out]; exact Nat.le_refl _)]; rfl
end Go.Proofs.YtigldeccfpkdmaaGreatDoor
namespace Go.Proofs.YtigldeccfpkdmaaGreatDoor
open Go.RowKit Go.BigFrame Go.Lib
def RetStr (e : Ending) : Option ByteArray → Prop
  | none => e = .returned (.tuple #[.string ⟨#[]⟩, .bool false])
  | some s => e = .returned (.tuple #[.string s, .bool true])
theorem strCells_append (x y : ByteArray) : strCells x ++ strCells y = strCells (x ++ y) := by
  simp [strCells]
theorem info5 : (Tryz.prog.info? 5).map (fun i => (i.zero, i.size, i.bytes)) = some (some (.int .u8 0), 1, 1) := by kernel_rfl
theorem row_block {w : World} {B e n : Nat} {v : Value} {xs : List Value} (h : w.ownsRow B e 1 v n xs) : ∀ k, v.ownBlock = some k → B ≤ k := by
  rcases h.2 with ⟨rfl, _⟩ | ⟨g, cap, cur, rfl, hB, _⟩
  · intro k hk; cases hk
  · intro k hk; simp [Value.ownBlock] at hk; omega
theorem row_below {w w' : World} {B e n : Nat} {v : Value} {xs : List Value} (h : w.ownsRow B e 1 v n xs) (hb : Below w.heap.size w w') : w'.ownsRow B e 1 v n xs := by
  refine ⟨h.1, ?_⟩
  rcases h.2 with h0 | ⟨g, cap, cur, h1, h2, h3, h4⟩
  · exact .inl h0
  · exact .inr ⟨g, cap, cur, h1, h2, by rw [hb.block g (Array.getElem?_eq_some_iff.1 h3).1]; exact h3, h4⟩
theorem row_slice {w : World} {B e n : Nat} {v : Value} {xs : List Value} (h : w.ownsRow B e 1 v n xs) : ∃ a cap, v = .slice a n cap := by
  rcases h.2 with ⟨rfl, rfl⟩ | ⟨g, cap, cur, rfl, _⟩
  · exact ⟨none, 0, rfl⟩
  · exact ⟨_, _, rfl⟩
set_option maxHeartbeats 2000000 in
set_option maxRecDepth 100000 in
theorem impl_Content (a : Option Addr) (n cap : Nat) (l : List Pt) (a' : Option Addr) (n' cap' : Nat) (e : List Ex) (w : World) (h : PtsAt w a n l) (h' : ExsAt w a' n' e) (hstr : Strs e) (hn : n ≤ 4194304) (hn' : n' ≤ 4194304) :
    Calls Tryz.prog 203 #[.slice a n cap, .slice a' n' cap'] w fun x w' => RetStr x (contentO l e) ∧ Below w.heap.size w w' := by
  have hlen : Hid (l.length = n) := h.len
  cases hok : partsOkB l
  · have hf : contentO l e = none := by simp [contentO, hok]
    rw [hf]
    go_enter Tryz.func203, Tryz.ntmps203
    go_wp2_with fail
    refine (impl_PartsOk a n cap l _ h hn).mono ?_
    rintro x w1 ⟨rfl, hB1⟩
    rw [hok]
    go_wp2
    go_returns
    exact ⟨rfl, hB1⟩
  · cases hok' : spaceOkB 400 e
    · have hf : contentO l e = none := by simp [contentO, hok']
      rw [hf]
      go_enter Tryz.func203, Tryz.ntmps203
      go_wp2_with fail
      refine (impl_PartsOk a n cap l _ h hn).mono ?_
      rintro x w1 ⟨rfl, hB1⟩
      rw [hok]
      go_wp2_with fail
      refine (impl_SpaceOk 400 a' n' cap' e _ (h'.below hB1) hstr hn').mono ?_
      rintro x w2 ⟨rfl, hB2⟩
      rw [hok']
      have hB3 := chain hB1 hB2
      go_wp2
      go_returns
      exact ⟨rfl, hB3⟩
    · have hf : Hid (contentO l e = cgo e ⟨#[]⟩ (l.drop 0)) := by show _ = _; simp [contentO, hok, hok']
      obtain ⟨hl16, hall⟩ := parts_all hok
      have hn16 : n ≤ 16 := by rw [← hlen.out]; exact hl16
      obtain ⟨i0, hi, hz0, hz1, hz2⟩ := info_parts info5
      generalize contentO l e = R at *
      go_enter Tryz.func203, Tryz.ntmps203
      go_wp2_with fail
      refine (impl_PartsOk a n cap l _ h hn).mono ?_
      rintro x w1 ⟨rfl, hB1⟩
      rw [hok]
      go_wp2_with fail
      refine (impl_SpaceOk 400 a' n' cap' e _ (h'.below hB1) hstr hn').mono ?_
      rintro x w2 ⟨rfl, hB2⟩
      rw [hok']
      replace hB2 := chain hB1 hB2
      go_wp2_with fail
      go_loopw [6, 20] (fun out ix wr => ∃ (k m : Nat) (s : ByteArray) (a2 : Option Addr) (cap2 : Nat), k ≤ n ∧ ix = .int .i64 k ∧ m ≤ 100 * k ∧ out = .slice a2 m cap2 ∧ wr.ownsRow w.heap.size 5 1 (.slice a2 m cap2) m (strCells s) ∧ Hid (R = cgo e s (l.drop k)) ∧ Below w.heap.size w wr) (fun _ ix _ => n - (intOf ix).toNat)
      case atStart => exact ⟨0, 0, ⟨#[]⟩, none, 0, Nat.zero_le _, rfl, Nat.zero_le _, rfl, World.ownsRow_nil _ _ _ _, hf, hB2⟩
      case round =>
        obtain ⟨k, m, s, a2, cap2, hk, rfl, hm, rfl, hrow, hI, hB⟩ := hrel
        have hsz := hB.size
        by_cases hlt : k < n
        · obtain ⟨b, o, p, rfl, hp, c0, c1, c2⟩ := pts_at (h.below hB) hlt
          have hd : Hid (l.drop k = p :: l.drop (k + 1)) := drop_at hp
          obtain ⟨hp1, hp2, hp3⟩ := hall p (List.mem_of_getElem? hp)
          obtain ⟨pa, pf, pn⟩ := p
          dsimp only at *
          obtain ⟨pk, rfl⟩ : ∃ pk : Nat, pn = pk := ⟨pn.toNat, by omega⟩
          cases ha : (pa == 0)
          · have hne : pa ≠ 0 := by simpa using ha
            obtain ⟨f0, f20⟩ := hp3 hne
            obtain ⟨fk, rfl⟩ : ∃ fk : Nat, pf = fk := ⟨pf.toNat, by omega⟩
            have hst : Hid (R = match pieceO e ⟨pa, fk, pk⟩ with | none => none | some d => cgo e (s ++ d) (l.drop (k + 1))) := by show _ = _; rw [hI.out, hd.out]; rfl
            have hpc : Hid (pieceO e ⟨pa, fk, pk⟩ = if ((dataAtB pa e).size : Int) < fk + pk then none else some ((dataAtB pa e).extract fk (fk + pk))) := by
              show _ = _
              simp only [pieceO, ha, Bool.false_eq_true, if_false, Int.toNat_natCast]
              rw [show ((fk : Int) + (pk : Int)).toNat = fk + pk by omega]
            have hD := dataAtB_str (addr := pa) hstr
            go_wp2_with fail
            refine (impl_dataAt a' n' cap' e pa _ ((h'.below hB).alloc _) hn').mono ?_
            rintro x w3 ⟨rfl, hB3⟩
            generalize dataAtB pa e = D at *
            obtain ⟨z0, z1, z2, hB3', _⟩ := box3 hB3
            clear hB3 c0 c1 c2
            have hrow3 := row_below hrow hB3'
            have hB4 := chain hB hB3'
            clear hrow
            by_cases hlt2 : (D.size : Int) < fk + pk
            · rw [if_pos hlt2] at hpc
              go_wp2
              go_returns
              rw [hst.out, hpc.out]
              exact ⟨rfl, hB4⟩
            · rw [if_neg hlt2] at hpc
              have hle : (fk : Int) + (pk : Int) ≤ D.size := by omega
              have hsl := run_slice_string (P := Tryz.prog) (w := w3) 9 D .i64 .i64 fk (fk + pk) Tryz.underlying9 (by omega) (by omega) (by omega)
              rw [show ((fk : Int) + (pk : Int)).toNat = fk + pk by omega, Int.toNat_natCast] at hsl
              have hxs : (D.extract fk (fk + pk)).size = pk := by rw [ByteArray.size_extract]; omega
              generalize D.extract fk (fk + pk) = X at *
              go_wp2_with (at_builtin; refine wpList_append_own_string _ rfl _ _ 173 9 rfl w.heap.size 5 i0 Tryz.underlying173 Tryz.underlying9 hi hz0 hz1 hz2 _ m (strCells s) rfl hrow3 X rfl (by unfold maxLen; omega) (by omega) hB4.size ?_; intro v5 w5 hrow5 hg5 _)
              obtain ⟨a3, cap3, rfl⟩ := row_slice hrow5
              rw [strCells_append] at hrow5
              have hB5 : Below w.heap.size w w5 := hB4.grown hg5 hB4.size (row_block hrow3)
              go_roundw
              case rel => exact ⟨k + 1, m + X.size, s ++ X, a3, cap3, by omega, by go_num, by omega, rfl, hrow5, by show _ = _; rw [hst.out, hpc.out], hB5⟩
              case measure => simp [intOf]; omega
          · have hst : Hid (R = cgo e (s ++ zs pk) (l.drop (k + 1))) := by
              show _ = _
              rw [hI.out, hd.out]
              simp [cgo, pieceO, ha]
            have hrow2 : ∀ x, (wr.alloc x).ownsRow w.heap.size 5 1 (.slice a2 m cap2) m (strCells s) := fun x => row_below hrow ((Below.refl _ _).alloc (Nat.le_refl _) _)
            go_wp2_with (at_builtin; refine wpList_append_zeros _ rfl _ _ 173 2 9 rfl w.heap.size 5 i0 .i64 Tryz.underlying173 Tryz.underlying2 Tryz.underlying9 hi hz0 hz1 hz2 _ m (strCells s) rfl (hrow2 _) .i64 pk rfl (by omega) (by omega) (by simp; omega) ?_; intro v3 w3 hrow3 hg3)
            obtain ⟨a3, cap3, rfl⟩ := row_slice hrow3
            rw [strCells_append] at hrow3
            have hB3 : Below w.heap.size w w3 := Below.grown (by go_grown) hg3 (by simp; omega) (row_block hrow)
            go_roundw
            case rel => exact ⟨k + 1, m + pk, s ++ zs pk, a3, cap3, by omega, by go_num, by omega, rfl, hrow3, hst, hB3⟩
            case measure => simp [intOf]; omega
        · obtain rfl : k = n := by omega
          have hconv := row_text (P := Tryz.prog) hrow 173 Tryz.underlying173 Tryz.underlying5 9 Tryz.underlying9
          go_wp2
          go_returns
          rw [hI.out, List.drop_of_length_le (by rw [hlen.out]; exact Nat.le_refl _)]
          exact ⟨rfl, hB⟩
end Go.Proofs.YtigldeccfpkdmaaGreatDoor
namespace Go.Proofs.YtigldeccfpkdmaaGreatDoor
open Go.RowKit Go.BigFrame
set_option maxHeartbeats 1000000 in
theorem spec_PartsOk (a : Option Addr) (n cap : Nat) (l : List Pt) (w : World) (h : PtsAt w a n l) (hn : n ≤ 4194304) :
    Calls Tryz.prog 179 #[.slice a n cap] w fun e w' => e = .returned (.bool (partsOkB l)) ∧ Below w.heap.size w w' := by
  have hlen := h.len
  by_cases h16 : n ≤ 16
  · have hfin : Hid (partsOkB l = sgo none 0 l) := by show _ = _; rw [sgo_pgo l none 0 (by omega) (by omega)]; simp [partsOkB, hlen, h16]
    have hlen' : Hid (l.length = n) := hlen
    clear hlen
    go_enter Tryz.func179, Tryz.ntmps179
    go_wp2_with fail
    go_loopw [2, 3, 4] (fun r s ix wr => ∃ (k : Nat) (lf : Int), k ≤ n ∧ ix = .int .i64 k ∧ s = .int .i64 lf ∧ 0 ≤ lf ∧ lf ≤ 100 * k ∧ Hid (sgo none 0 l = sgo (ahead l k) lf (l.drop k)) ∧ Below w.heap.size w wr) (fun _ _ ix _ => n - (intOf ix).toNat)
    case atStart => exact ⟨0, 0, Nat.zero_le _, rfl, rfl, by omega, by omega, rfl, Below.refl _ _⟩
    case round =>
      obtain ⟨k, lf, hk, rfl, rfl, hf0, hf1, hI, hB⟩ := hrel
      by_cases hlt : k < n
      · obtain ⟨b, o, p, rfl, hp, c0, c1, c2⟩ := pts_at (h.below hB) hlt
        have hd : Hid (l.drop k = p :: l.drop (k + 1)) := drop_at hp
        have hq : Hid (l[k]? = some p) := hp
        clear hp
        have hk1 : (k : Int) < n := by omega
        have hk2 : (0 : Int) ≤ k := by omega
        cases hpo : (partOkB p && decide (p.n ≤ 100))
        · go_wp2_with fail
          have g0 := gcell c0
          have g1 := gcell c1
          have g2 := gcell c2
          have hne := grw_ne wr
          refine wp_region_grow (by kernel_rfl) (by kernel_rfl) ?_
          repeat (go_big_quiet_step (first | (go_at_call 211; have qq := spec_l2PartOk p; rw [hpo] at qq; exact grow_of (qq _))))
          refine wpQuiet_nil ?_
          intro w2 hx
          have hB2 := grw_out hx
          clear hx
          go_wp2
          go_returns
          go_light
          refine ⟨ret_bool ?_, chain hB hB2⟩
          rw [hfin.out, hI.out, hd.out]; cases ahead l k <;> simp only [sgo, hpo, Bool.false_and]
        · have hpn : 1 ≤ p.n ∧ p.n ≤ 100 := by simp at hpo; exact ⟨partOkB_pos hpo.1, hpo.2⟩
          rcases k with _ | j
          · simp only [Nat.zero_mul, Nat.add_zero] at c0 c1 c2
            go_wp2_with fail
            have g0 := gcell c0
            have g1 := gcell c1
            have g2 := gcell c2
            have hne := grw_ne wr
            refine wp_region_grow (by kernel_rfl) (by kernel_rfl) ?_
            repeat (go_big_quiet_step (first | (go_at_call 211; have qq := spec_l2PartOk p; rw [hpo] at qq; exact grow_of (qq _))))
            refine wpQuiet_nil ?_
            intro w2 hx
            have hB2 := grw_out hx
            have d2 := bcell hB2 c2
            clear hx
            go_wp2
            go_roundw
            case rel => exact ⟨1, lf + p.n, by omega, by go_num, by go_num, by omega, by omega, by show _ = _; rw [hI.out, hd.out, ahead_zero, ahead_succ, hq.out]; simp only [sgo, hpo, Bool.true_and], chain hB hB2⟩
            case measure => simp [intOf]; omega
          · obtain ⟨b', o', q, hbo, hq', d0, d1, d2⟩ := pts_at (h.below hB) (k := j) (by omega)
            obtain ⟨rfl, rfl⟩ : b = b' ∧ o = o' := by simpa using hbo
            have ha : Hid (ahead l (j + 1) = some q) := by show _ = _; rw [ahead_succ]; exact hq'
            clear hq' hbo
            cases hgo : goesOnB q p
            all_goals
              go_wp2_with fail
              have g0 := gcell c0
              have g1 := gcell c1
              have g2 := gcell c2
              have g3 := gcell d0
              have g4 := gcell d1
              have g5 := gcell d2
              have hne := grw_ne wr
              refine wp_region_grow (by kernel_rfl) (by kernel_rfl) ?_
              repeat (go_big_quiet_step (first | (go_at_call 211; have qq := spec_l2PartOk p; rw [hpo] at qq; exact grow_of (qq _)) | (go_at_call 212; have qq := spec_l2Next q p; rw [hgo] at qq; exact grow_of (qq _))))
              refine wpQuiet_nil ?_
              intro w2 hx
              have hB2 := grw_out hx
              have e2 := bcell hB2 c2
              clear hx
              go_wp2
            · go_roundw
              case rel => exact ⟨j + 2, lf + p.n, by omega, by go_num, by go_num, by omega, by omega, by show _ = _; rw [hI.out, hd.out, ha.out, ahead_succ, hq.out]; simp only [sgo, hpo, hgo, Bool.true_and, Bool.not_false], chain hB hB2⟩
              case measure => simp [intOf]; omega
            · go_returns
              go_light
              refine ⟨ret_bool ?_, chain hB hB2⟩
              rw [hfin.out, hI.out, hd.out, ha.out]; simp only [sgo, hpo, hgo, Bool.true_and, Bool.not_true, Bool.false_and]
      · obtain rfl : k = n := by omega
        go_wp2
        go_returns
        go_light
        refine ⟨ret_bool ?_, hB⟩
        rw [hfin.out, hI.out, List.drop_of_length_le (Nat.le_of_eq hlen'.out)]; cases ahead l k <;> rfl
  · go_enter Tryz.func179, Tryz.ntmps179
    go_wp2
    go_returns
    go_light
    refine ⟨ret_bool ?_, Below.refl _ _⟩
    simp [partsOkB, hlen]; omega
end Go.Proofs.YtigldeccfpkdmaaGreatDoor
namespace Go.Proofs.YtigldeccfpkdmaaGreatDoor
open Go.RowKit Go.BigFrame
theorem laws_toPartS (a : Option Addr) (n cap : Nat) (l : List Pt) (w : World) (h : PtsAt w a n l) (hn : n ≤ 4194304) :
    Calls Tryz.prog 243 #[.slice a n cap] w fun e w' => e = .returned (.slice (some ⟨w.heap.size, 0, none⟩) n n) ∧ OwnAt Pt.cs 3 141 w' w.heap.size n l ∧ Below w.heap.size w w' := by
  have hlen' : Hid (l.length = n) := h.len
  have hinfo : (Tryz.prog.info? 141).map (fun i => (i.zero, i.size, i.bytes)) = some (some (.agg #[.int .i64 0, .int .i64 0, .int .i64 0]), 3, 24) := by kernel_rfl
  obtain ⟨i0, hi, hz0, hz1, hz2⟩ := info_parts hinfo
  have hmk : ∀ u : World, (Instr.makeSlice 137 (.int .i64 (n : Int)) (.int .i64 (n : Int))).run Tryz.prog u =
      .ok (.slice (some ⟨u.heap.size, 0, none⟩) n n) (u.alloc (.cells (madeCells #[.int .i64 0, .int .i64 0, .int .i64 0] (n * 3)) 141)) := fun u => by
    have hm := run_make (P := Tryz.prog) u 137 141 i0 (.agg #[.int .i64 0, .int .i64 0, .int .i64 0]) Tryz.underlying137 hi hz0 .i64 .i64 (n : Int) (n : Int) (by omega) (Int.le_refl _) (by rw [hz2]; omega) (by omega)
    simpa [hz1, Value.cells] using hm
  clear hinfo hi hz0 hz1 hz2
  go_enter Tryz.func243, Tryz.ntmps243
  go_wp2_with fail
  go_loopw [4] (fun ix wr => ∃ (k : Nat) (c : Array Value), k ≤ n ∧ ix = .int .i64 k ∧ Blk wr w.heap.size c 141 ∧ Hid (c.size = n * 3) ∧ Hid (∀ i p, i < k → l[i]? = some p → c[i * 3]? = some (.int .i64 p.a) ∧ c[i * 3 + 1]? = some (.int .i64 p.f) ∧ c[i * 3 + 2]? = some (.int .i64 p.n)) ∧ Below w.heap.size w wr) (fun ix _ => n - (intOf ix).toNat)
  case atStart => exact ⟨0, _, Nat.zero_le _, rfl, Blk.new _ _ _, size_madeCells _ _, fun i p hi => by omega, (Below.refl _ _).alloc (Nat.le_refl _) _⟩
  case round =>
    obtain ⟨k, c, hk, rfl, hblk, hcs, hcc, hB⟩ := hrel
    by_cases hlt : k < n
    · obtain ⟨b, o, p, rfl, hp, c0, c1, c2⟩ := pts_at (h.below hB) hlt
      have hp' : Hid (l[k]? = some p) := hp
      clear hp hmk
      go_wp2_with fail
      refine (laws_toPart p _).mono ?_
      rintro e w1 ⟨rfl, hB1⟩
      have hb1 := hblk.below hB1
      have f0 := hb1.frozen (k * 3)
      have f1 := hb1.frozen (k * 3 + 1)
      have f2 := hb1.frozen (k * 3 + 2)
      have hsz := hB.size
      obtain ⟨v0, y0⟩ := hb1.has (i := k * 3) (by rw [hcs.out]; omega)
      obtain ⟨v1, y1⟩ := hb1.has (i := k * 3 + 1) (by rw [hcs.out]; omega)
      obtain ⟨v2, y2⟩ := hb1.has (i := k * 3 + 2) (by rw [hcs.out]; omega)
      go_wp2
      go_roundw
      case rel =>
        refine ⟨k + 1, _, by omega, by go_num, ((hb1.set _ _).set _ _).set _ _, by show _ = _; simp [hcs.out], ?_, ?_⟩
        · intro i q hi hq
          have hcs' := hcs.out
          by_cases hik : i = k
          · subst hik
            obtain rfl : p = q := by rw [hp'.out] at hq; exact Option.some.inj hq
            refine ⟨?_, ?_, ?_⟩
            all_goals (simp [Array.getElem?_setIfInBounds]; omega)
          · obtain ⟨r0, r1, r2⟩ := hcc.out i q (by omega) hq
            refine ⟨?_, ?_, ?_⟩
            all_goals (rw [Array.getElem?_setIfInBounds_ne (by omega), Array.getElem?_setIfInBounds_ne (by omega), Array.getElem?_setIfInBounds_ne (by omega)]; assumption)
        · exact (((chain hB hB1).setCell (by simp) _).setCell (by simp) _).setCell (by simp) _
      case measure => simp [intOf]; omega
    · obtain rfl : k = n := by omega
      go_wp2
      go_returns
      go_light
      refine ⟨rfl, ⟨hlen'.out, c, hblk, Nat.le_of_eq hcs.out.symm, ?_⟩, hB⟩
      intro i x hx j v hv
      have hi : i < k := by have := (List.getElem?_eq_some_iff.1 hx).1; rw [hlen'.out] at this; exact this
      obtain ⟨r0, r1, r2⟩ := hcc.out i x hi hx
      match j, hv with
      | 0, hv => obtain rfl := Option.some.inj hv; exact r0
      | 1, hv => obtain rfl := Option.some.inj hv; exact r1
      | 2, hv => obtain rfl := Option.some.inj hv; exact r2
      | j + 3, hv => simp [Pt.cs] at hv
end Go.Proofs.YtigldeccfpkdmaaGreatDoor
