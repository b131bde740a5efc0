/- Content of the program. Volumes of the model: l4Vol. What is found by going through all volumes, by the model. Right pools, as plain functions: what the model asks in its rounds is what a right pool is. itemsOk and volsOk of the program. volsOk of the program. A contract of the library, laid at this program. -/
import Derived.Laws.Strings2
import Derived.Test.YtigldeccfpkdmaaGreatDoorCStoreNewx04
import Derived.Test.YtigldeccfpkdmaaGreatDoorCStoreNewx02
import Derived.Test.YtigldeccfpkdmaaGreatDoorProg
import Derived.Test.YtigldeccfpkdmaaGreatDoorCStoreNewx00
import Derived.Test.YtigldeccfpkdmaaGreatDoorCStoreNewx05
import Derived.StillTailTactics
import Derived.Laws.StructEq
import Derived.Test.YtigldeccfpkdmaaGreatDoorCStoreNewx03
import Derived.Shelf.SlSortCmp.NoneTotal
namespace Go.Proofs.YtigldeccfpkdmaaGreatDoor
open Go.RowKit Go.BigFrame Go.Lib
def RetStr (e : Ending) : Option ByteArray → Prop
  | none => e = .returned (.tuple #[.string ⟨#[]⟩, .bool false])
  | some s => e = .returned (.tuple #[.string s, .bool true])
theorem strCells_append (x y : ByteArray) : strCells x ++ strCells y = strCells (x ++ y) := by
  simp [strCells]
theorem info5 : (Tryz.prog.info? 5).map (fun i => (i.zero, i.size, i.bytes)) = some (some (.int .u8 0), 1, 1) := by kernel_rfl
theorem row_block {w : World} {B e n : Nat} {v : Value} {xs : List Value} (h : w.ownsRow B e 1 v n xs) : ∀ k, v.ownBlock = some k → B ≤ k := by
  rcases h.2 with ⟨rfl, _⟩ | ⟨g, cap, cur, rfl, hB, _⟩
  · intro k hk; cases hk
  · intro k hk; simp [Value.ownBlock] at hk; omega
theorem row_below {w w' : World} {B e n : Nat} {v : Value} {xs : List Value} (h : w.ownsRow B e 1 v n xs) (hb : Below w.heap.size w w') : w'.ownsRow B e 1 v n xs := by
  refine ⟨h.1, ?_⟩
  rcases h.2 with h0 | ⟨g, cap, cur, h1, h2, h3, h4⟩
  · exact .inl h0
  · exact .inr ⟨g, cap, cur, h1, h2, by rw [hb.block g (Array.getElem?_eq_some_iff.1 h3).1]; exact h3, h4⟩
theorem row_slice {w : World} {B e n : Nat} {v : Value} {xs : List Value} (h : w.ownsRow B e 1 v n xs) : ∃ a cap, v = .slice a n cap := by
  rcases h.2 with ⟨rfl, rfl⟩ | ⟨g, cap, cur, rfl, _⟩
  · exact ⟨none, 0, rfl⟩
  · exact ⟨_, _, rfl⟩
set_option maxHeartbeats 2000000 in
set_option maxRecDepth 100000 in
theorem impl_Content (a : Option Addr) (n cap : Nat) (l : List Pt) (a' : Option Addr) (n' cap' : Nat) (e : List Ex) (w : World) (h : PtsAt w a n l) (h' : ExsAt w a' n' e) (hstr : Strs e) (hn : n ≤ 4194304) (hn' : n' ≤ 4194304) :
    Calls Tryz.prog 203 #[.slice a n cap, .slice a' n' cap'] w fun x w' => RetStr x (contentO l e) ∧ Below w.heap.size w w' := by
  have hlen : Hid (l.length = n) := h.len
  cases hok : partsOkB l
  · have hf : contentO l e = none := by simp [contentO, hok]
    rw [hf]
    go_enter Tryz.func203, Tryz.ntmps203
    go_wp2_with fail
    refine (impl_PartsOk a n cap l _ h hn).mono ?_
    rintro x w1 ⟨rfl, hB1⟩
    rw [hok]
    go_wp2
    go_returns
    exact ⟨rfl, hB1⟩
  · cases hok' : spaceOkB 400 e
    · have hf : contentO l e = none := by simp [contentO, hok']
      rw [hf]
      go_enter Tryz.func203, Tryz.ntmps203
      go_wp2_with fail
      refine (impl_PartsOk a n cap l _ h hn).mono ?_
      rintro x w1 ⟨rfl, hB1⟩
      rw [hok]
      go_wp2_with fail
      refine (impl_SpaceOk 400 a' n' cap' e _ (h'.below hB1) hstr hn').mono ?_
      rintro x w2 ⟨rfl, hB2⟩
      rw [hok']
      have hB3 := chain hB1 hB2
      go_wp2
      go_returns
      exact ⟨rfl, hB3⟩
    · have hf : Hid (contentO l e = cgo e ⟨#[]⟩ (l.drop 0)) := by show _ = _; simp [contentO, hok, hok']
      obtain ⟨hl16, hall⟩ := parts_all hok
      have hn16 : n ≤ 16 := by rw [← hlen.out]; exact hl16
      obtain ⟨i0, hi, hz0, hz1, hz2⟩ := info_parts info5
      generalize contentO l e = R at *
      go_enter Tryz.func203, Tryz.ntmps203
      go_wp2_with fail
      refine (impl_PartsOk a n cap l _ h hn).mono ?_
      rintro x w1 ⟨rfl, hB1⟩
      rw [hok]
      go_wp2_with fail
      refine (impl_SpaceOk 400 a' n' cap' e _ (h'.below hB1) hstr hn').mono ?_
      rintro x w2 ⟨rfl, hB2⟩
      rw [hok']
      replace hB2 := chain hB1 hB2
      go_wp2_with fail
      go_loopw [6, 20] (fun out ix wr => ∃ (k m : Nat) (s : ByteArray) (a2 : Option Addr) (cap2 : Nat), k ≤ n ∧ ix = .int .i64 k ∧ m ≤ 100 * k ∧ out = .slice a2 m cap2 ∧ wr.ownsRow w.heap.size 5 1 (.slice a2 m cap2) m (strCells s) ∧ Hid (R = cgo e s (l.drop k)) ∧ Below w.heap.size w wr) (fun _ ix _ => n - (intOf ix).toNat)
      case atStart => exact ⟨0, 0, ⟨#[]⟩, none, 0, Nat.zero_le _, rfl, Nat.zero_le _, rfl, World.ownsRow_nil _ _ _ _, hf, hB2⟩
      case round =>
        obtain ⟨k, m, s, a2, cap2, hk, rfl, hm, rfl, hrow, hI, hB⟩ := hrel
        have hsz := hB.size
        by_cases hlt : k < n
        · obtain ⟨b, o, p, rfl, hp, c0, c1, c2⟩ := pts_at (h.below hB) hlt
          have hd : Hid (l.drop k = p :: l.drop (k + 1)) := drop_at hp
          obtain ⟨hp1, hp2, hp3⟩ := hall p (List.mem_of_getElem? hp)
          obtain ⟨pa, pf, pn⟩ := p
          dsimp only at *
          obtain ⟨pk, rfl⟩ : ∃ pk : Nat, pn = pk := ⟨pn.toNat, by omega⟩
          cases ha : (pa == 0)
          · have hne : pa ≠ 0 := by simpa using ha
            obtain ⟨f0, f20⟩ := hp3 hne
            obtain ⟨fk, rfl⟩ : ∃ fk : Nat, pf = fk := ⟨pf.toNat, by omega⟩
            have hst : Hid (R = match pieceO e ⟨pa, fk, pk⟩ with | none => none | some d => cgo e (s ++ d) (l.drop (k + 1))) := by show _ = _; rw [hI.out, hd.out]; rfl
            have hpc : Hid (pieceO e ⟨pa, fk, pk⟩ = if ((dataAtB pa e).size : Int) < fk + pk then none else some ((dataAtB pa e).extract fk (fk + pk))) := by
              show _ = _
              simp only [pieceO, ha, Bool.false_eq_true, if_false, Int.toNat_natCast]
              rw [show ((fk : Int) + (pk : Int)).toNat = fk + pk by omega]
            have hD := dataAtB_str (addr := pa) hstr
            go_wp2_with fail
            refine (impl_dataAt a' n' cap' e pa _ ((h'.below hB).alloc _) hn').mono ?_
            rintro x w3 ⟨rfl, hB3⟩
            generalize dataAtB pa e = D at *
            obtain ⟨z0, z1, z2, hB3', _⟩ := box3 hB3
            clear hB3 c0 c1 c2
            have hrow3 := row_below hrow hB3'
            have hB4 := chain hB hB3'
            clear hrow
            by_cases hlt2 : (D.size : Int) < fk + pk
            · rw [if_pos hlt2] at hpc
              go_wp2
              go_returns
              rw [hst.out, hpc.out]
              exact ⟨rfl, hB4⟩
            · rw [if_neg hlt2] at hpc
              have hle : (fk : Int) + (pk : Int) ≤ D.size := by omega
              have hsl := run_slice_string (P := Tryz.prog) (w := w3) 9 D .i64 .i64 fk (fk + pk) Tryz.underlying9 (by omega) (by omega) (by omega)
              rw [show ((fk : Int) + (pk : Int)).toNat = fk + pk by omega, Int.toNat_natCast] at hsl
              have hxs : (D.extract fk (fk + pk)).size = pk := by rw [ByteArray.size_extract]; omega
              generalize D.extract fk (fk + pk) = X at *
              go_wp2_with (at_builtin; refine wpList_append_own_string _ rfl _ _ 173 9 rfl w.heap.size 5 i0 Tryz.underlying173 Tryz.underlying9 hi hz0 hz1 hz2 _ m (strCells s) rfl hrow3 X rfl (by unfold maxLen; omega) (by omega) hB4.size ?_; intro v5 w5 hrow5 hg5 _)
              obtain ⟨a3, cap3, rfl⟩ := row_slice hrow5
              rw [strCells_append] at hrow5
              have hB5 : Below w.heap.size w w5 := hB4.grown hg5 hB4.size (row_block hrow3)
              go_roundw
              case rel => exact ⟨k + 1, m + X.size, s ++ X, a3, cap3, by omega, by go_num, by omega, rfl, hrow5, by show _ = _; rw [hst.out, hpc.out], hB5⟩
              case measure => simp [intOf]; omega
          · have hst : Hid (R = cgo e (s ++ zs pk) (l.drop (k + 1))) := by
              show _ = _
              rw [hI.out, hd.out]
              simp [cgo, pieceO, ha]
            have hrow2 : ∀ x, (wr.alloc x).ownsRow w.heap.size 5 1 (.slice a2 m cap2) m (strCells s) := fun x => row_below hrow ((Below.refl _ _).alloc (Nat.le_refl _) _)
            go_wp2_with (at_builtin; refine wpList_append_zeros _ rfl _ _ 173 2 9 rfl w.heap.size 5 i0 .i64 Tryz.underlying173 Tryz.underlying2 Tryz.underlying9 hi hz0 hz1 hz2 _ m (strCells s) rfl (hrow2 _) .i64 pk rfl (by omega) (by omega) (by simp; omega) ?_; intro v3 w3 hrow3 hg3)
            obtain ⟨a3, cap3, rfl⟩ := row_slice hrow3
            rw [strCells_append] at hrow3
            have hB3 : Below w.heap.size w w3 := Below.grown (by go_grown) hg3 (by simp; omega) (row_block hrow)
            go_roundw
            case rel => exact ⟨k + 1, m + pk, s ++ zs pk, a3, cap3, by omega, by go_num, by omega, rfl, hrow3, hst, hB3⟩
            case measure => simp [intOf]; omega
        · obtain rfl : k = n := by omega
          have hconv := row_text (P := Tryz.prog) hrow 173 Tryz.underlying173 Tryz.underlying5 9 Tryz.underlying9
          go_wp2
          go_returns
          rw [hI.out, List.drop_of_length_le (by rw [hlen.out]; exact Nat.le_refl _)]
          exact ⟨rfl, hB⟩
end Go.Proofs.YtigldeccfpkdmaaGreatDoor
namespace Go.Proofs.YtigldeccfpkdmaaGreatDoor
open Go.RowKit Go.BigFrame
def prevI (l : List It) (k : Nat) : Option It := if k = 0 then none else l[k - 1]?
theorem prevI_succ (l : List It) (k : Nat) : prevI l (k + 1) = l[k]? := by simp [prevI]
end Go.Proofs.YtigldeccfpkdmaaGreatDoor
namespace Go.Proofs.YtigldeccfpkdmaaGreatDoor
open Go.RowKit Go.BigFrame
/-- Volumes as small as right ones are. -/
def TinyV (l : List Vo) : Prop := l.length ≤ 6 ∧ ∀ v ∈ l, v.its.length ≤ 5 ∧ ∀ x ∈ v.its, x.ps.length ≤ 16 ∧ ∀ p ∈ x.ps, 0 ≤ p.a
theorem partCs_take {id : Int} {nm : ByteArray} {ps : List Pt} {j : Nat} {p : Pt} (h : ps[j]? = some p) : partCs id nm (ps.take (j + 1)) = partCs id nm (ps.take j) ++ (if p.a == 0 then [] else [⟨⟨p.a, id, nm⟩, 1⟩]) := by
  unfold partCs
  rw [take_at h, List.filter_append, List.map_append]
  cases hp : (p.a == 0) <;> simp [hp]
def itsCs (v : Vo) (l : List It) : List Ct := l.flatMap (fun x => partCs v.id x.nm x.ps)
theorem itsCs_take {v : Vo} {l : List It} {k : Nat} {x : It} (h : l[k]? = some x) : itsCs v (l.take (k + 1)) = itsCs v (l.take k) ++ partCs v.id x.nm x.ps := by
  unfold itsCs
  rw [take_at h, List.flatMap_append]; simp
/-- What is found so far: the list, how many at most. -/
structure Fnd (w : World) (B : Nat) (out : Value) (L : List Ct) (M : Nat) : Prop where
  at' : ∃ a n cap, out = .slice a n cap ∧ n ≤ M ∧ ResAt Ct.cs 4 134 w B a n cap L
  bd : ∀ x ∈ L, -(1000 * (M : Int)) ≤ x.n ∧ x.n ≤ 1000 * (M : Int)
theorem Fnd.below {w w' : World} {B : Nat} {out : Value} {L : List Ct} {M : Nat} (h : Fnd w B out L M) (hb : Below w.heap.size w w') : Fnd w' B out L M := by
  obtain ⟨⟨a, n, cap, e, hn, R⟩, hbd⟩ := h
  exact ⟨⟨a, n, cap, e, hn, R.below hb⟩, hbd⟩
theorem Fnd.mono {w : World} {B : Nat} {out : Value} {L : List Ct} {M M' : Nat} (h : Fnd w B out L M) (hM : M ≤ M') : Fnd w B out L M' := by
  obtain ⟨⟨a, n, cap, e, hn, R⟩, hbd⟩ := h
  exact ⟨⟨a, n, cap, e, by omega, R⟩, fun x hx => by have := hbd x hx; omega⟩
end Go.Proofs.YtigldeccfpkdmaaGreatDoor
namespace Go.Proofs.YtigldeccfpkdmaaGreatDoor
open Go.RowKit
theorem igo_each {e : List Ex} : ∀ {l : List It} {q : Option It}, igo e q l = true → ∀ x ∈ l, (contentO x.ps e).isSome = true
  | [], _, _, x, hx => by cases hx
  | y :: r, q, h, x, hx => by
    simp only [igo, Bool.and_eq_true] at h
    rcases List.mem_cons.1 hx with rfl | hx
    · exact h.1.2
    · exact igo_each h.2 x hx
theorem vgo_each {next : Int} {e : List Ex} : ∀ {l : List Vo} {last : Int}, vgo next e last l = true → ∀ v ∈ l, itemsB v.its e = true ∧ nameB v.nm = true ∧ last < v.id ∧ v.id < next
  | [], _, _, v, hv => by cases hv
  | u :: r, last, h, v, hv => by
    simp only [vgo, Bool.and_eq_true, decide_eq_true_eq] at h
    rcases List.mem_cons.1 hv with rfl | hv
    · exact ⟨h.1.2, h.1.1.2, h.1.1.1.1, h.1.1.1.2⟩
    · have := vgo_each h.2 v hv
      exact ⟨this.1, this.2.1, by omega, this.2.2.2⟩
theorem partOk_nonneg {p : Pt} (h : partOkB p = true) : 0 ≤ p.a := by
  unfold partOkB at h
  split at h
  · rename_i h0; simp at h0; omega
  · simp at h; omega
theorem tiny_of {next : Int} {e : List Ex} {l : List Vo} {last : Int} (h6 : l.length ≤ 6) (h : vgo next e last l = true) : TinyV l := by
  refine ⟨h6, fun v hv => ?_⟩
  obtain ⟨hi, _⟩ := vgo_each h v hv
  simp only [itemsB, Bool.and_eq_true, decide_eq_true_eq] at hi
  refine ⟨hi.1, fun x hx => ?_⟩
  have hc := igo_each hi.2 x hx
  have hp : partsOkB x.ps = true := by
    unfold contentO at hc
    split at hc
    · rename_i hh; exact hh.1
    · cases hc
  obtain ⟨q1, q2, _⟩ := partsOkB_all hp
  exact ⟨q1, fun p hp' => partOk_nonneg (q2 p hp')⟩
end Go.Proofs.YtigldeccfpkdmaaGreatDoor
namespace Go.Proofs.YtigldeccfpkdmaaGreatDoor
open Go.RowKit Go.BigFrame
set_option maxHeartbeats 2000000 in
set_option maxRecDepth 100000 in
theorem impl_itemsOk (B : Nat) (its : List It) (pa : Option Addr) (pn pc : Nat) (ea : Option Addr) (en ec : Nat) (e : List Ex) (w : World) (h : ItsAt B w pa pn its) (he : ExsAt w ea en e) (hstr : Strs e) (hen : en ≤ 4194304) (hpn : pn ≤ 4194304) (hI : StrI its) :
    Calls Tryz.prog 165 #[.slice pa pn pc, .slice ea en ec] w fun x w' => x = .returned (.bool (itemsB its e)) ∧ Below w.heap.size w w' := by
  have hlen : Hid (its.length = pn) := h.len
  have hR : Hid (itemsB its e = (decide (its.length ≤ 5) && igo e none its)) := rfl
  generalize itemsB its e = R at *
  by_cases h5 : pn ≤ 5
  · rw [hlen.out, decide_eq_true h5, Bool.true_and] at hR
    go_enter Tryz.func165, Tryz.ntmps165
    go_wp2_with fail
    go_loopw [14] (fun ix wr => ∃ (k : Nat), k ≤ pn ∧ ix = .int .i64 k ∧ Hid (R = igo e (prevI its k) (its.drop k)) ∧ Below w.heap.size w wr) (fun ix _ => pn - (intOf ix).toNat)
    case atStart => exact ⟨0, Nat.zero_le _, rfl, hR, Below.refl _ _⟩
    case round =>
      obtain ⟨k, hk, rfl, hv, hB⟩ := hrel
      by_cases hlt : k < pn
      · obtain ⟨b, o, x, qa, qn, qc, rfl, hx, c0, c1, hP, _, _, _⟩ := its_at (h.below hB) hlt
        have hst : Hid (R = (nameB x.nm && (match prevI its k with | none => true | some p => bl p.nm.toList x.nm.toList) && (contentO x.ps e).isSome && igo e (prevI its (k + 1)) (its.drop (k + 1)))) := by
          show _ = _
          rw [hv.out, drop_at hx, prevI_succ, hx]
          rfl
        obtain ⟨m1, m2⟩ := hI x (List.mem_of_getElem? hx)
        have hqn : x.ps.length = qn := hP.len
        rw [hqn] at m2
        have hk1 : (k : Int) < pn := by omega
        have hk2 : (0 : Int) ≤ k := by omega
        have hprev : 0 < k → ∃ y, prevI its k = some y ∧ wr.cell? ⟨b, o + (k - 1) * 2, none⟩ = some (.string y.nm) := fun h0 => by
          obtain ⟨b', o', y, _, _, _, hbo, hy, d0, _⟩ := its_at (h.below hB) (show k - 1 < pn by omega)
          obtain ⟨rfl, rfl⟩ : b = b' ∧ o = o' := by simpa using hbo
          exact ⟨y, by unfold prevI; rw [if_neg (by omega)]; exact hy, d0⟩
        have hend : ∀ u : World, Below wr.heap.size wr u → Below w.heap.size w u := fun u hu => chain hB hu
        clear hx hv hqn
        have hname := fun u : World => impl_NameOk x.nm u m1
        have hW0 : Below wr.heap.size wr (wr.alloc (.cells #[.string x.nm, .slice qa qn qc] 139)) := by go_grown
        have X := Blk.new wr #[.string x.nm, .slice qa qn qc] 139
        have X1 : (wr.alloc (.cells #[.string x.nm, .slice qa qn qc] 139)).cell? ⟨wr.heap.size, 1, none⟩ = some (.slice qa qn qc) := X.cell 1
        have x0 : ∀ g : Grw (wr.alloc (.cells #[.string x.nm, .slice qa qn qc] 139)), g.w.cell? ⟨wr.heap.size, 0, none⟩ = some (.string x.nm) := gcell (X.cell 0)
        have hne := grw_ne (wr.alloc (.cells #[.string x.nm, .slice qa qn qc] 139))
        cases hnx : nameB x.nm
        · rw [hnx] at hst
          go_wp2_with fail
          refine wp_region_grow (by kernel_rfl) (by kernel_rfl) ?_
          repeat (go_big_quiet_step (first | (go_at_call 164; have qq := hname; rw [hnx] at qq; exact grow_of_same (qq _))))
          refine wpQuiet_nil ?_
          intro w2 hx
          have hB2 := chain hW0 (grw_out hx)
          clear hx
          go_wp2
          go_returns
          exact ⟨by rw [hst.out]; simp, hend _ hB2⟩
        · rw [hnx, Bool.true_and] at hst
          have hfin : ∀ w2 : World, Below (wr.alloc (.cells #[.string x.nm, .slice qa qn qc] 139)).heap.size (wr.alloc (.cells #[.string x.nm, .slice qa qn qc] 139)) w2 → Below wr.heap.size wr w2 ∧ w2.cell? ⟨wr.heap.size, 1, none⟩ = some (.slice qa qn qc) := fun w2 h2 => ⟨chain hW0 h2, bcell h2 X1⟩
          by_cases hk0 : 0 < k
          · obtain ⟨y, hy, d0⟩ := hprev hk0
            have y0 := gcell (bcell hW0 d0)
            rw [hy] at hst
            have hk0' : decide ((0 : Int) < (k : Int)) = true := decide_eq_true (by omega)
            have hk9 : ((k : Int) - 1).toNat = k - 1 := by omega
            cases hbl : bl y.nm.toList x.nm.toList
            · simp only [hbl, Bool.false_and] at hst
              go_wp2_with fail
              refine wp_region_grow (by kernel_rfl) (by kernel_rfl) ?_
              repeat (go_big_quiet_step (first | (go_at_call 164; have qq := hname; rw [hnx] at qq; exact grow_of_same (qq _))))
              refine wpQuiet_nil ?_
              intro w2 hx
              obtain ⟨hB2, x1'⟩ := hfin _ (grw_out hx)
              clear hx
              go_wp2
              go_returns
              exact ⟨by rw [hst.out]; rfl, hend _ hB2⟩
            · simp only [hbl, Bool.true_and] at hst
              go_wp2_with fail
              refine wp_region_grow (by kernel_rfl) (by kernel_rfl) ?_
              repeat (go_big_quiet_step (first | (go_at_call 164; have qq := hname; rw [hnx] at qq; exact grow_of_same (qq _))))
              refine wpQuiet_nil ?_
              intro w2 hx
              obtain ⟨hB2, x1'⟩ := hfin _ (grw_out hx)
              clear hx
              go_wp2_with fail
              refine (impl_Content qa qn qc x.ps ea en ec e _ (hP.below hB2) (he.below (hend _ hB2)) hstr m2 hen).mono ?_
              rintro e1 w3 ⟨hret, hB3⟩
              replace hB3 := chain hB2 hB3
              cases hcg : contentO x.ps e with
              | none =>
                rw [hcg] at hret hst
                replace hret : e1 = .returned (.tuple #[.string ⟨#[]⟩, .bool false]) := hret
                subst hret
                clear hcg
                go_wp2
                go_returns
                exact ⟨by rw [hst.out]; rfl, hend _ hB3⟩
              | some s =>
                rw [hcg] at hret hst
                replace hret : e1 = .returned (.tuple #[.string s, .bool true]) := hret
                subst hret
                clear hcg
                go_wp2
                go_roundw
                case rel => exact ⟨k + 1, by omega, by go_num, by show _ = _; rw [hst.out]; rfl, hend _ hB3⟩
                case measure => simp [intOf]; omega
          · have hpv : prevI its k = none := by unfold prevI; rw [if_pos (by omega)]
            have hk0' : decide ((0 : Int) < (k : Int)) = false := decide_eq_false (by omega)
            rw [hpv] at hst
            simp only [Bool.true_and] at hst
            go_wp2_with fail
            refine wp_region_grow (by kernel_rfl) (by kernel_rfl) ?_
            repeat (go_big_quiet_step (first | (go_at_call 164; have qq := hname; rw [hnx] at qq; exact grow_of_same (qq _))))
            refine wpQuiet_nil ?_
            intro w2 hx
            obtain ⟨hB2, x1'⟩ := hfin _ (grw_out hx)
            clear hx
            go_wp2_with fail
            refine (impl_Content qa qn qc x.ps ea en ec e _ (hP.below hB2) (he.below (hend _ hB2)) hstr m2 hen).mono ?_
            rintro e1 w3 ⟨hret, hB3⟩
            replace hB3 := chain hB2 hB3
            cases hcg : contentO x.ps e with
            | none =>
              rw [hcg] at hret hst
              replace hret : e1 = .returned (.tuple #[.string ⟨#[]⟩, .bool false]) := hret
              subst hret
              clear hcg
              go_wp2
              go_returns
              exact ⟨by rw [hst.out]; rfl, hend _ hB3⟩
            | some s =>
              rw [hcg] at hret hst
              replace hret : e1 = .returned (.tuple #[.string s, .bool true]) := hret
              subst hret
              clear hcg
              go_wp2
              go_roundw
              case rel => exact ⟨k + 1, by omega, by go_num, by show _ = _; rw [hst.out]; rfl, hend _ hB3⟩
              case measure => simp [intOf]; omega
      · obtain rfl : k = pn := by omega
        go_wp2
        go_returns
        exact ⟨by rw [hv.out, List.drop_of_length_le (Nat.le_of_eq hlen.out)]; rfl, hB⟩
  · rw [hlen.out, decide_eq_false h5, Bool.false_and] at hR
    go_enter Tryz.func165, Tryz.ntmps165
    go_wp2
    go_returns
    exact ⟨by rw [hR.out]; rfl, Below.refl _ _⟩
end Go.Proofs.YtigldeccfpkdmaaGreatDoor
namespace Go.Proofs.YtigldeccfpkdmaaGreatDoor
open Go.RowKit Go.BigFrame
set_option maxHeartbeats 4000000 in
set_option maxRecDepth 100000 in
theorem impl_volsOk (B : Nat) (size next : Int) (ea : Option Addr) (en ec : Nat) (va : Option Addr) (vn vc : Nat) (ra : Option Addr) (rn rc : Nat) (la : Option Addr) (ln lc : Nat) (ex : List Ex) (vs : List Vo) (w : World) (h1 : ExsAt w ea en ex) (h2 : VsAt B w va vn vs) (z1 : en ≤ 4194304) (z2 : Strs ex) (z3 : vn ≤ 4194304) (z4 : StrV vs) :
    Calls Tryz.prog 100 #[.agg #[.int .i64 size, .int .i64 next, .slice ea en ec, .slice va vn vc, .slice ra rn rc, .slice la ln lc]] w fun x w' => x = .returned (.bool (volsB next vs ex)) ∧ Below w.heap.size w w' := by
  have hlen : Hid (vs.length = vn) := h2.len
  have hR : Hid (volsB next vs ex = (decide (vs.length ≤ 6) && vgo next ex 0 vs)) := rfl
  generalize volsB next vs ex = R at *
  by_cases h6 : vn ≤ 6
  · rw [hlen.out, decide_eq_true h6, Bool.true_and] at hR
    go_enter Tryz.func100, Tryz.ntmps100
    have C := Blk.new w #[.int .i64 size, .int .i64 next, .slice ea en ec, .slice va vn vc, .slice ra rn rc, .slice la ln lc] 26
    go_wp2_with fail
    have hB1 : Below w.heap.size w (w.alloc (.cells #[.int .i64 size, .int .i64 next, .slice ea en ec, .slice va vn vc, .slice ra rn rc, .slice la ln lc] 26)) := by go_grown
    generalize w.alloc (.cells #[.int .i64 size, .int .i64 next, .slice ea en ec, .slice va vn vc, .slice ra rn rc, .slice la ln lc] 26) = W0 at *
    go_loopw [3, 13] (fun lx ix wr => ∃ (k : Nat) (last : Int), k ≤ vn ∧ ix = .int .i64 k ∧ lx = .int .i64 last ∧ Hid (R = vgo next ex last (vs.drop k)) ∧ Blk wr w.heap.size #[.int .i64 size, .int .i64 next, .slice ea en ec, .slice va vn vc, .slice ra rn rc, .slice la ln lc] 26 ∧ Below w.heap.size w wr) (fun _ ix _ => vn - (intOf ix).toNat)
    case atStart => exact ⟨0, 0, Nat.zero_le _, rfl, rfl, hR, C, hB1⟩
    case round =>
      clear hR C hB1
      obtain ⟨k, last, hk, rfl, rfl, hI, C, hB⟩ := hrel
      have d1 := C.cell 1
      have d2 := C.cell 2
      simp only [lgA, lgB, lgC] at d1 d2
      by_cases hlt : k < vn
      · obtain ⟨b, o, x, qa, qn, qc, rfl, hx, e0, e1, e2, e3, hP, _, _⟩ := vs_at (h2.below hB) hlt
        have hst : Hid (R = (decide (last < x.id) && decide (x.id < next) && nameB x.nm && itemsB x.its ex && vgo next ex x.id (vs.drop (k + 1)))) := by
          show _ = _
          rw [hI.out, drop_at hx]; rfl
        obtain ⟨m1, m2, m3⟩ := z4 x (List.mem_of_getElem? hx)
        rw [hP.len] at m2
        have hk1 : (k : Int) < vn := by omega
        have hk2 : (0 : Int) ≤ k := by omega
        clear hx hI
        have hW0 : Below wr.heap.size wr (wr.alloc (.cells #[.int .i64 x.id, .string x.nm, .bool x.fx, .slice qa qn qc] 128)) := by go_grown
        have X := Blk.new wr #[.int .i64 x.id, .string x.nm, .bool x.fx, .slice qa qn qc] 128
        have d1' := bcell hW0 d1
        have d2' := bcell hW0 d2
        clear d1 d2
        by_cases hid : last < x.id
        · by_cases hnb : x.id < next
          · rw [decide_eq_true hid, decide_eq_true hnb, Bool.true_and, Bool.true_and] at hst
            cases hnx : nameB x.nm
            · rw [hnx] at hst
              go_wp2_with fail
              refine (impl_NameOk x.nm _ m1).mono ?_
              rintro e w2 ⟨rfl, rfl⟩
              rw [hnx]
              go_wp2
              go_returns
              exact ⟨by rw [hst.out]; rfl, chain hB hW0⟩
            · rw [hnx, Bool.true_and] at hst
              go_wp2_with fail
              refine (impl_NameOk x.nm _ m1).mono ?_
              rintro e w2 ⟨rfl, rfl⟩
              rw [hnx]
              go_wp2_with fail
              refine (impl_itemsOk B x.its qa qn qc ea en ec ex _ (hP.below hW0) ((h1.below hB).below hW0) z2 z1 m2 m3).mono ?_
              rintro e w2 ⟨rfl, hB2⟩
              have X2 := (X.below hB2).cell 0
              simp only [List.getElem?_toArray, List.getElem?_cons_zero] at X2
              replace hB2 := chain hW0 hB2
              have C2 := C.below hB2
              replace hB2 := chain hB hB2
              cases hik : itemsB x.its ex
              · rw [hik] at hst
                go_wp2
                go_returns
                exact ⟨by rw [hst.out]; rfl, hB2⟩
              · rw [hik, Bool.true_and] at hst
                go_wp2
                go_roundw
                case rel => exact ⟨k + 1, x.id, by omega, by go_num, rfl, hst, C2, hB2⟩
                case measure => simp [intOf]; omega
          · rw [decide_eq_false hnb] at hst
            simp only [Bool.and_false, Bool.false_and] at hst
            go_wp2
            go_returns
            exact ⟨by rw [hst.out]; rfl, chain hB hW0⟩
        · rw [decide_eq_false hid] at hst
          simp only [Bool.false_and] at hst
          go_wp2
          go_returns
          exact ⟨by rw [hst.out]; rfl, chain hB hW0⟩
      · obtain rfl : k = vn := by omega
        go_wp2
        go_returns
        exact ⟨by rw [hI.out, List.drop_of_length_le (Nat.le_of_eq hlen.out)]; rfl, hB⟩
  · rw [hlen.out, decide_eq_false h6, Bool.false_and] at hR
    go_enter Tryz.func100, Tryz.ntmps100
    go_wp2
    go_returns
    exact ⟨by rw [hR.out]; rfl, by go_grown⟩
end Go.Proofs.YtigldeccfpkdmaaGreatDoor
namespace Go.Proofs.YtigldeccfpkdmaaGreatDoor
open Go.Shelf Go.RowKit Go.Lib Go.Sort
def sortC_ren : Go.Shelf.Ren := ⟨fun | 6 => 206 | 15 => 237 | 14 => 236 | 28 => 269 | 29 => 247 | 20 => 261 | 21 => 262 | 22 => 263 | 23 => 264 | 24 => 265 | 25 => 266 | 26 => 267 | 27 => 268 | 46 => 278 | 47 => 279 | 48 => 280 | 49 => 281 | 50 => 282 | 57 => 283 | n => n, fun | 22 => 24 | 24 => 134 | 25 => 263 | 3 => 3 | 39 => 172 | 0 => 0 | 53 => 98 | 55 => 274 | 4 => 4 | 46 => 312 | 45 => 311 | 50 => 316 | 5 => 5 | 9 => 9 | 66 => 330 | 70 => 334 | 76 => 338 | 77 => 339 | n => n, fun | n => n⟩
set_option maxRecDepth 100000 in
theorem sortC : SlLaysF0.n6 Tryz.prog sortC_ren where
  mixed := by kernel_rfl
  f6 := ⟨Tryz.f206.name, by decide +kernel, Tryz.func206.trans (congrArg some (by kernel_rfl))⟩
  f14 := ⟨Tryz.f236.name, by decide +kernel, Tryz.func236.trans (congrArg some (by kernel_rfl))⟩
  f15 := Tryz.func237.trans (congrArg some (by kernel_rfl))
  f20 := ⟨Tryz.f261.name, by decide +kernel, Tryz.func261.trans (congrArg some (by kernel_rfl))⟩
  f21 := ⟨Tryz.f262.name, by decide +kernel, Tryz.func262.trans (congrArg some (by kernel_rfl))⟩
  f22 := ⟨Tryz.f263.name, by decide +kernel, Tryz.func263.trans (congrArg some (by kernel_rfl))⟩
  f23 := ⟨Tryz.f264.name, by decide +kernel, Tryz.func264.trans (congrArg some (by kernel_rfl))⟩
  f24 := ⟨Tryz.f265.name, by decide +kernel, Tryz.func265.trans (congrArg some (by kernel_rfl))⟩
  f25 := ⟨Tryz.f266.name, by decide +kernel, Tryz.func266.trans (congrArg some (by kernel_rfl))⟩
  f26 := ⟨Tryz.f267.name, by decide +kernel, Tryz.func267.trans (congrArg some (by kernel_rfl))⟩
  f27 := ⟨Tryz.f268.name, by decide +kernel, Tryz.func268.trans (congrArg some (by kernel_rfl))⟩
  f28 := Tryz.func269.trans (congrArg some (by kernel_rfl))
  f29 := Tryz.func247.trans (congrArg some (by kernel_rfl))
  f46 := ⟨Tryz.f278.name, by decide +kernel, Tryz.func278.trans (congrArg some (by kernel_rfl))⟩
  f47 := Tryz.func279.trans (congrArg some (by kernel_rfl))
  f48 := Tryz.func280.trans (congrArg some (by kernel_rfl))
  f49 := ⟨Tryz.f281.name, by decide +kernel, Tryz.func281.trans (congrArg some (by kernel_rfl))⟩
  f50 := ⟨Tryz.f282.name, by decide +kernel, Tryz.func282.trans (congrArg some (by kernel_rfl))⟩
  f57 := ⟨Tryz.f283.name, by decide +kernel, Tryz.func283.trans (congrArg some (by kernel_rfl))⟩
  t0 := Tryz.underlying0
  a0 := Tryz.isAgg0
  z0 := Tryz.sizeOf0
  v0 := Tryz.zeroValue0
  t3 := Tryz.underlying3
  a3 := Tryz.isAgg3
  z3 := Tryz.sizeOf3
  v3 := Tryz.zeroValue3
  t4 := Tryz.underlying4
  a4 := Tryz.isAgg4
  z4 := Tryz.sizeOf4
  v4 := Tryz.zeroValue4
  t5 := Tryz.underlying5
  a5 := Tryz.isAgg5
  z5 := Tryz.sizeOf5
  v5 := Tryz.zeroValue5
  t9 := Tryz.underlying9
  a9 := Tryz.isAgg9
  z9 := Tryz.sizeOf9
  v9 := Tryz.zeroValue9
  t22 := Tryz.underlying24
  a22 := Tryz.isAgg24
  z22 := Tryz.sizeOf24
  v22 := Tryz.zeroValue24
  t25 := Tryz.underlying263
  a25 := Tryz.isAgg263
  z25 := Tryz.sizeOf263
  v25 := Tryz.zeroValue263
  t39 := Tryz.underlying172
  a39 := Tryz.isAgg172
  z39 := Tryz.sizeOf172
  v39 := Tryz.zeroValue172
  t45 := Tryz.underlying311
  a45 := Tryz.isAgg311
  z45 := Tryz.sizeOf311
  v45 := Tryz.zeroValue311
  t46 := Tryz.underlying312
  a46 := Tryz.isAgg312
  z46 := Tryz.sizeOf312
  v46 := Tryz.zeroValue312
  t50 := Tryz.underlying316
  a50 := Tryz.isAgg316
  z50 := Tryz.sizeOf316
  v50 := Tryz.zeroValue316
  t53 := Tryz.underlying98
  a53 := Tryz.isAgg98
  z53 := Tryz.sizeOf98
  v53 := Tryz.zeroValue98
  t55 := Tryz.underlying274
  a55 := Tryz.isAgg274
  z55 := Tryz.sizeOf274
  v55 := Tryz.zeroValue274
  t66 := Tryz.underlying330
  a66 := Tryz.isAgg330
  z66 := Tryz.sizeOf330
  v66 := Tryz.zeroValue330
  t70 := Tryz.underlying334
  a70 := Tryz.isAgg334
  z70 := Tryz.sizeOf334
  v70 := Tryz.zeroValue334
  t76 := Tryz.underlying338
  a76 := Tryz.isAgg338
  z76 := Tryz.sizeOf338
  v76 := Tryz.zeroValue338
  t77 := Tryz.underlying339
  a77 := Tryz.isAgg339
  z77 := Tryz.sizeOf339
  v77 := Tryz.zeroValue339
end Go.Proofs.YtigldeccfpkdmaaGreatDoor
