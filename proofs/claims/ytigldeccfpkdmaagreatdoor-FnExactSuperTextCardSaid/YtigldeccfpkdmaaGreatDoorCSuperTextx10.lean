/- Volumes of the model: l4Vol. What is found by going through all volumes, by the model. -/
import Derived.Test.YtigldeccfpkdmaaGreatDoorProg
import Derived.Test.YtigldeccfpkdmaaGreatDoorCSuperTextx04
import Derived.Test.YtigldeccfpkdmaaGreatDoorCSuperTextx09
import Derived.StillTailTactics
import Derived.Test.YtigldeccfpkdmaaGreatDoorCSuperTextx07
namespace Go.Proofs.YtigldeccfpkdmaaGreatDoor
open Go.RowKit Go.BigFrame
def prevI (l : List It) (k : Nat) : Option It := if k = 0 then none else l[k - 1]?
theorem prevI_succ (l : List It) (k : Nat) : prevI l (k + 1) = l[k]? := by simp [prevI]
theorem content_some {ps : List Pt} {e : List Ex} (h : spaceOkB 400 e = true) : (contentO ps e).isSome = (partsOkB ps && (cgo e ⟨#[]⟩ ps).isSome) := by
  unfold contentO
  cases hp : partsOkB ps <;> simp [h]
set_option maxHeartbeats 2000000 in
set_option maxRecDepth 100000 in
theorem spec_l4Vol (B : Nat) (v : Vo) (pa : Option Addr) (pn pc : Nat) (ea : Option Addr) (en ec : Nat) (e : List Ex) (w : World) (h : ItsAt B w pa pn v.its) (he : ExsAt w ea en e) (hstr : Strs e) (hen : en ≤ 4194304) (hsp : spaceOkB 400 e = true) (hnm : v.nm.size ≤ 9223372036854775807) (hpn : pn ≤ 4194304) (hI : StrI v.its) :
    Calls Tryz.prog 116 #[.agg #[.int .i64 v.id, .string v.nm, .bool v.fx, .slice pa pn pc], .slice ea en ec] w fun x w' => x = .returned (.bool (nameB v.nm && itemsB v.its e)) ∧ Below w.heap.size w w' := by
  obtain ⟨id, nm, fx, its⟩ := v
  simp only at h hnm hI ⊢
  have hlen : Hid (its.length = pn) := h.len
  cases hn1 : nameB nm
  · go_enter Tryz.func116, Tryz.ntmps116
    go_wp2_with fail
    refine (spec_NameOk nm _ hnm).mono ?_
    rintro x w1 ⟨rfl, rfl⟩
    rw [hn1]
    go_wp2
    go_returns
    exact ⟨rfl, by go_grown⟩
  · have hR : Hid ((true && itemsB its e) = (decide (its.length ≤ 5) && igo e none its)) := by show _ = _; rw [Bool.true_and]; rfl
    generalize (true && itemsB its e) = R at *
    by_cases h5 : pn ≤ 5
    · rw [hlen.out, decide_eq_true h5, Bool.true_and] at hR
      go_enter Tryz.func116, Tryz.ntmps116
      go_wp2_with fail
      refine (spec_NameOk nm _ hnm).mono ?_
      rintro x w1 ⟨rfl, hw1⟩
      rw [hn1]
      have hB1 : Below w.heap.size w w1 := by rw [hw1]; go_grown
      have C : Blk w1 w.heap.size #[.int .i64 id, .string nm, .bool fx, .slice pa pn pc] 128 := by rw [hw1]; exact Blk.new w _ _
      have hlt := C.lt
      clear hw1
      have c3 := C.cell 3
      simp only [lgA, lgB, lgC] at c3
      go_wp2_with fail
      go_loopw [5] (fun ix wr => ∃ (k : Nat), k ≤ pn ∧ ix = .int .i64 k ∧ Hid (R = igo e (prevI its k) (its.drop k)) ∧ Blk wr w.heap.size #[.int .i64 id, .string nm, .bool fx, .slice pa pn pc] 128 ∧ Below w.heap.size w wr) (fun ix _ => pn - (intOf ix).toNat)
      case atStart => exact ⟨0, Nat.zero_le _, rfl, hR, C, hB1⟩
      case round =>
        clear c3
        obtain ⟨k, hk, rfl, hv, C', hB⟩ := hrel
        have c3 := C'.cell 3
        simp only [lgA, lgB, lgC] at c3
        by_cases hlt : k < pn
        · obtain ⟨b, o, x, qa, qn, qc, rfl, hx, c0, c1, hP, _, _, _⟩ := its_at (h.below hB) hlt
          have hst : Hid (R = (nameB x.nm && (match prevI its k with | none => true | some p => bl p.nm.toList x.nm.toList) && (contentO x.ps e).isSome && igo e (prevI its (k + 1)) (its.drop (k + 1)))) := by
            show _ = _
            rw [hv.out, drop_at hx, prevI_succ, hx]
            rfl
          rw [content_some hsp] at hst
          obtain ⟨m1, m2⟩ := hI x (List.mem_of_getElem? hx)
          have hqn : x.ps.length = qn := hP.len
          rw [hqn] at m2
          have hk1 : (k : Int) < pn := by omega
          have hk2 : (0 : Int) ≤ k := by omega
          have hprev : 0 < k → ∃ y, prevI its k = some y ∧ wr.cell? ⟨b, o + (k - 1) * 2, none⟩ = some (.string y.nm) := fun h0 => by
            obtain ⟨b', o', y, _, _, _, hbo, hy, d0, _⟩ := its_at (h.below hB) (show k - 1 < pn by omega)
            obtain ⟨rfl, rfl⟩ : b = b' ∧ o = o' := by simpa using hbo
            exact ⟨y, by unfold prevI; rw [if_neg (by omega)]; exact hy, d0⟩
          have hend : ∀ u : World, Below wr.heap.size wr u → Below w.heap.size w u := fun u hu => chain hB hu
          clear hx hv hqn
          have hname := fun u : World => spec_NameOk x.nm u m1
          have hparts := fun (u : World) (hu : Below wr.heap.size wr u) => spec_PartsOk qa qn qc x.ps u (hP.below hu) m2
          have hW0 : Below wr.heap.size wr (wr.alloc (.cells #[.string x.nm, .slice qa qn qc] 139)) := by go_grown
          have X := Blk.new wr #[.string x.nm, .slice qa qn qc] 139
          have x0 : ∀ g : Grw (wr.alloc (.cells #[.string x.nm, .slice qa qn qc] 139)), g.w.cell? ⟨wr.heap.size, 0, none⟩ = some (.string x.nm) := gcell (X.cell 0)
          have x1 : ∀ g : Grw (wr.alloc (.cells #[.string x.nm, .slice qa qn qc] 139)), g.w.cell? ⟨wr.heap.size, 1, none⟩ = some (.slice qa qn qc) := gcell (X.cell 1)
          have x3 := gcell (bcell hW0 c3)
          have hne := grw_ne (wr.alloc (.cells #[.string x.nm, .slice qa qn qc] 139))
          cases hnx : nameB x.nm
          · rw [hnx] at hst
            go_wp2_with fail
            refine wp_region_grow (by kernel_rfl) (by kernel_rfl) ?_
            repeat (go_big_quiet_step (first | (go_at_call 178; have qq := hname; rw [hnx] at qq; exact grow_of_same (qq _))))
            refine wpQuiet_nil ?_
            intro w2 hx
            have hB2 := chain hW0 (grw_out hx)
            clear hx
            go_wp2
            go_returns
            exact ⟨by rw [hst.out]; simp, hend _ hB2⟩
          · rw [hnx, Bool.true_and] at hst
            by_cases hk0 : 0 < k
            · obtain ⟨y, hy, d0⟩ := hprev hk0
              have y0 := gcell (bcell hW0 d0)
              rw [hy] at hst
              have hk0' : decide ((0 : Int) < (k : Int)) = true := decide_eq_true (by omega)
              have hk9 : ((k : Int) - 1).toNat = k - 1 := by omega
              cases hbl : bl y.nm.toList x.nm.toList
              · simp only [hbl, Bool.false_and] at hst
                go_wp2_with fail
                refine wp_region_grow (by kernel_rfl) (by kernel_rfl) ?_
                repeat (go_big_quiet_step (first | (go_at_call 178; have qq := hname; rw [hnx] at qq; exact grow_of_same (qq _))))
                refine wpQuiet_nil ?_
                intro w2 hx
                have hB2 := chain hW0 (grw_out hx)
                have x1' := bcell (grw_out hx) (show (wr.alloc (.cells #[.string x.nm, .slice qa qn qc] 139)).cell? ⟨wr.heap.size, 1, none⟩ = some (.slice qa qn qc) from X.cell 1)
                have C2 := C'.below hB2
                clear hx
                go_wp2
                go_returns
                exact ⟨by rw [hst.out]; rfl, hend _ hB2⟩
              · simp only [hbl, Bool.true_and] at hst
                cases hpk : partsOkB x.ps
                · rw [hpk, Bool.false_and, Bool.false_and] at hst
                  go_wp2_with fail
                  refine wp_region_grow (by kernel_rfl) (by kernel_rfl) ?_
                  repeat (go_big_quiet_step (first | (go_at_call 178; have qq := hname; rw [hnx] at qq; exact grow_of_same (qq _)) | (go_at_call 179; have qq := fun (u : World) (hu : Below wr.heap.size wr u) => hparts u hu; rw [hpk] at qq; exact grow_of (qq _ (chain hW0 (Grw.h _))))))
                  refine wpQuiet_nil ?_
                  intro w2 hx
                  have hB2 := chain hW0 (grw_out hx)
                  have x1' := bcell (grw_out hx) (show (wr.alloc (.cells #[.string x.nm, .slice qa qn qc] 139)).cell? ⟨wr.heap.size, 1, none⟩ = some (.slice qa qn qc) from X.cell 1)
                  have C2 := C'.below hB2
                  clear hx
                  go_wp2
                  go_returns
                  exact ⟨by rw [hst.out]; rfl, hend _ hB2⟩
                · rw [hpk, Bool.true_and] at hst
                  obtain ⟨hl16, hall⟩ := parts_all hpk
                  rw [hP.len] at hl16
                  go_wp2_with fail
                  refine wp_region_grow (by kernel_rfl) (by kernel_rfl) ?_
                  repeat (go_big_quiet_step (first | (go_at_call 178; have qq := hname; rw [hnx] at qq; exact grow_of_same (qq _)) | (go_at_call 179; have qq := fun (u : World) (hu : Below wr.heap.size wr u) => hparts u hu; rw [hpk] at qq; exact grow_of (qq _ (chain hW0 (Grw.h _))))))
                  refine wpQuiet_nil ?_
                  intro w2 hx
                  have hB2 := chain hW0 (grw_out hx)
                  have x1' := bcell (grw_out hx) (show (wr.alloc (.cells #[.string x.nm, .slice qa qn qc] 139)).cell? ⟨wr.heap.size, 1, none⟩ = some (.slice qa qn qc) from X.cell 1)
                  have C2 := C'.below hB2
                  clear hx
                  go_wp2_with fail
                  refine (spec_l2Content qa qn qc x.ps ea en ec e _ (hP.below hB2) (he.below (hend _ hB2)) hstr hl16 hen hall).mono ?_
                  rintro e1 w3 ⟨hret, hB3⟩
                  replace C2 := C2.below hB3
                  replace hB3 := chain hB2 hB3
                  cases hcg : cgo e ⟨#[]⟩ x.ps with
                  | none =>
                    rw [hcg] at hret hst
                    replace hret : e1 = .returned (.tuple #[.string ⟨#[]⟩, .bool false]) := hret
                    subst hret
                    clear hcg
                    go_wp2
                    go_returns
                    exact ⟨by rw [hst.out]; rfl, hend _ hB3⟩
                  | some s =>
                    rw [hcg] at hret hst
                    replace hret : e1 = .returned (.tuple #[.string s, .bool true]) := hret
                    subst hret
                    clear hcg
                    go_wp2
                    go_roundw
                    case rel => exact ⟨k + 1, by omega, by go_num, by show _ = _; rw [hst.out]; rfl, C2, hend _ hB3⟩
                    case measure => simp [intOf]; omega
            · have hpv : prevI its k = none := by unfold prevI; rw [if_pos (by omega)]
              have hk0' : decide ((0 : Int) < (k : Int)) = false := decide_eq_false (by omega)
              rw [hpv] at hst
              simp only [Bool.true_and] at hst
              cases hpk : partsOkB x.ps
              · rw [hpk, Bool.false_and, Bool.false_and] at hst
                go_wp2_with fail
                refine wp_region_grow (by kernel_rfl) (by kernel_rfl) ?_
                repeat (go_big_quiet_step (first | (go_at_call 178; have qq := hname; rw [hnx] at qq; exact grow_of_same (qq _)) | (go_at_call 179; have qq := fun (u : World) (hu : Below wr.heap.size wr u) => hparts u hu; rw [hpk] at qq; exact grow_of (qq _ (chain hW0 (Grw.h _))))))
                refine wpQuiet_nil ?_
                intro w2 hx
                have hB2 := chain hW0 (grw_out hx)
                have x1' := bcell (grw_out hx) (show (wr.alloc (.cells #[.string x.nm, .slice qa qn qc] 139)).cell? ⟨wr.heap.size, 1, none⟩ = some (.slice qa qn qc) from X.cell 1)
                have C2 := C'.below hB2
                clear hx
                go_wp2
                go_returns
                exact ⟨by rw [hst.out]; rfl, hend _ hB2⟩
              · rw [hpk, Bool.true_and] at hst
                obtain ⟨hl16, hall⟩ := parts_all hpk
                rw [hP.len] at hl16
                go_wp2_with fail
                refine wp_region_grow (by kernel_rfl) (by kernel_rfl) ?_
                repeat (go_big_quiet_step (first | (go_at_call 178; have qq := hname; rw [hnx] at qq; exact grow_of_same (qq _)) | (go_at_call 179; have qq := fun (u : World) (hu : Below wr.heap.size wr u) => hparts u hu; rw [hpk] at qq; exact grow_of (qq _ (chain hW0 (Grw.h _))))))
                refine wpQuiet_nil ?_
                intro w2 hx
                have hB2 := chain hW0 (grw_out hx)
                have x1' := bcell (grw_out hx) (show (wr.alloc (.cells #[.string x.nm, .slice qa qn qc] 139)).cell? ⟨wr.heap.size, 1, none⟩ = some (.slice qa qn qc) from X.cell 1)
                have C2 := C'.below hB2
                clear hx
                go_wp2_with fail
                refine (spec_l2Content qa qn qc x.ps ea en ec e _ (hP.below hB2) (he.below (hend _ hB2)) hstr hl16 hen hall).mono ?_
                rintro e1 w3 ⟨hret, hB3⟩
                replace C2 := C2.below hB3
                replace hB3 := chain hB2 hB3
                cases hcg : cgo e ⟨#[]⟩ x.ps with
                | none =>
                  rw [hcg] at hret hst
                  replace hret : e1 = .returned (.tuple #[.string ⟨#[]⟩, .bool false]) := hret
                  subst hret
                  clear hcg
                  go_wp2
                  go_returns
                  exact ⟨by rw [hst.out]; rfl, hend _ hB3⟩
                | some s =>
                  rw [hcg] at hret hst
                  replace hret : e1 = .returned (.tuple #[.string s, .bool true]) := hret
                  subst hret
                  clear hcg
                  go_wp2
                  go_roundw
                  case rel => exact ⟨k + 1, by omega, by go_num, by show _ = _; rw [hst.out]; rfl, C2, hend _ hB3⟩
                  case measure => simp [intOf]; omega
        · obtain rfl : k = pn := by omega
          go_wp2
          go_returns
          exact ⟨by rw [hv.out, List.drop_of_length_le (Nat.le_of_eq hlen.out)]; rfl, hB⟩
    · rw [hlen.out, decide_eq_false h5, Bool.false_and] at hR
      go_enter Tryz.func116, Tryz.ntmps116
      go_wp2_with fail
      refine (spec_NameOk nm _ hnm).mono ?_
      rintro x w1 ⟨rfl, rfl⟩
      rw [hn1]
      go_wp2
      go_returns
      exact ⟨by rw [hR.out]; rfl, by go_grown⟩
end Go.Proofs.YtigldeccfpkdmaaGreatDoor
namespace Go.Proofs.YtigldeccfpkdmaaGreatDoor
open Go.RowKit Go.BigFrame
/-- Volumes as small as right ones are. -/
def TinyV (l : List Vo) : Prop := l.length ≤ 6 ∧ ∀ v ∈ l, v.its.length ≤ 5 ∧ ∀ x ∈ v.its, x.ps.length ≤ 16 ∧ ∀ p ∈ x.ps, 0 ≤ p.a
/-- Volumes as small as they are when an op has been tried. -/
def WideV (l : List Vo) : Prop := l.length ≤ 7 ∧ ∀ v ∈ l, v.its.length ≤ 6 ∧ ∀ x ∈ v.its, x.ps.length ≤ 1000 ∧ ∀ p ∈ x.ps, 0 ≤ p.a
theorem TinyV.wide {l : List Vo} (h : TinyV l) : WideV l := ⟨by have := h.1; omega, fun v hv => ⟨by have := (h.2 v hv).1; omega, fun x hx => ⟨by have := ((h.2 v hv).2 x hx).1; omega, ((h.2 v hv).2 x hx).2⟩⟩⟩
theorem sumC_app (l a b : List Ct) : sumC l (a ++ b) = sumC (sumC l a) b := by simp [sumC]
theorem partCs_take {id : Int} {nm : ByteArray} {ps : List Pt} {j : Nat} {p : Pt} (h : ps[j]? = some p) : partCs id nm (ps.take (j + 1)) = partCs id nm (ps.take j) ++ (if p.a == 0 then [] else [⟨⟨p.a, id, nm⟩, 1⟩]) := by
  unfold partCs
  rw [take_at h, List.filter_append, List.map_append]
  cases hp : (p.a == 0) <;> simp [hp]
def itsCs (v : Vo) (l : List It) : List Ct := l.flatMap (fun x => partCs v.id x.nm x.ps)
theorem itsCs_take {v : Vo} {l : List It} {k : Nat} {x : It} (h : l[k]? = some x) : itsCs v (l.take (k + 1)) = itsCs v (l.take k) ++ partCs v.id x.nm x.ps := by
  unfold itsCs
  rw [take_at h, List.flatMap_append]; simp
theorem allCs_take {l : List Vo} {i : Nat} {v : Vo} (h : l[i]? = some v) : allCs (l.take (i + 1)) = allCs (l.take i) ++ itsCs v v.its := by
  unfold allCs
  rw [take_at h, List.flatMap_append]; simp [volCs, itsCs]
/-- What is found so far: the list, how many at most. -/
structure Fnd (w : World) (B : Nat) (out : Value) (L : List Ct) (M : Nat) : Prop where
  at' : ∃ a n cap, out = .slice a n cap ∧ n ≤ M ∧ ResAt Ct.cs 4 134 w B a n cap L
  bd : ∀ x ∈ L, -(1000 * (M : Int)) ≤ x.n ∧ x.n ≤ 1000 * (M : Int)
theorem Fnd.below {w w' : World} {B : Nat} {out : Value} {L : List Ct} {M : Nat} (h : Fnd w B out L M) (hb : Below w.heap.size w w') : Fnd w' B out L M := by
  obtain ⟨⟨a, n, cap, e, hn, R⟩, hbd⟩ := h
  exact ⟨⟨a, n, cap, e, hn, R.below hb⟩, hbd⟩
theorem Fnd.mono {w : World} {B : Nat} {out : Value} {L : List Ct} {M M' : Nat} (h : Fnd w B out L M) (hM : M ≤ M') : Fnd w B out L M' := by
  obtain ⟨⟨a, n, cap, e, hn, R⟩, hbd⟩ := h
  exact ⟨⟨a, n, cap, e, by omega, R⟩, fun x hx => by have := hbd x hx; omega⟩
set_option maxHeartbeats 2000000 in
set_option maxRecDepth 100000 in
theorem spec_l4WalkedW (B : Nat) (a : Option Addr) (n cap : Nat) (vs : List Vo) (w : World) (h : VsAt B w a n vs) (ht : WideV vs) :
    Calls Tryz.prog 119 #[.slice a n cap] w fun e w' => (∃ a' n' cap', e = .returned (.slice a' n' cap') ∧ n' ≤ 42000 ∧ (∀ x ∈ walkL vs, -42000000 ≤ x.n ∧ x.n ≤ 42000000) ∧ ResAt Ct.cs 4 134 w' w.heap.size a' n' cap' (walkL vs)) ∧ Below w.heap.size w w' := by
  have hlen : Hid (vs.length = n) := h.len
  have hn6 : n ≤ 7 := by rw [← hlen.out]; exact ht.1
  go_enter Tryz.func119, Tryz.ntmps119
  go_wp2_with fail
  go_loopw [3, 4] (fun out ix wr => ∃ (i : Nat), i ≤ n ∧ ix = .int .i64 i ∧ Fnd wr w.heap.size out (sumC [] (allCs (vs.take i))) (6000 * i) ∧ Below w.heap.size w wr) (fun _ ix _ => n - (intOf ix).toNat)
  case atStart => exact ⟨0, Nat.zero_le _, rfl, ⟨⟨_, 0, 0, rfl, Nat.zero_le _, res_empty (Blk.new' _ _ _ _ rfl) (Nat.le_refl _)⟩, fun x hx => by cases hx⟩, (Below.refl _ _).alloc (Nat.le_refl _) _⟩
  case round =>
    obtain ⟨i, hi, rfl, hF, hB⟩ := hrel
    obtain ⟨wi, hwi⟩ : ∃ x, x = wr := ⟨_, rfl⟩
    subst hwi
    by_cases hlt : i < n
    · obtain ⟨b, o, v, ia, inn, icp, rfl, hv, c0, c1, c2, c3, hI, _, _⟩ := vs_at (h.below hB) hlt
      obtain ⟨t1, t2⟩ := ht.2 v (List.mem_of_getElem? hv)
      have hil : Hid (v.its.length = inn) := hI.len
      rw [hil.out] at t1
      have hi1 : (i : Int) < n := by omega
      have hi2 : (0 : Int) ≤ i := by omega
      have hall : Hid (allCs (vs.take (i + 1)) = allCs (vs.take i) ++ itsCs v v.its) := allCs_take hv
      clear hv
      generalize allCs (vs.take i) = PA at *
      go_wp2_with fail
      go_loopw [3, 5] (fun out ix wk => ∃ (k : Nat), k ≤ inn ∧ ix = .int .i64 k ∧ Fnd wk w.heap.size out (sumC [] (PA ++ itsCs v (v.its.take k))) (6000 * i + 1000 * k) ∧ Below wi.heap.size wi wk) (fun _ ix _ => inn - (intOf ix).toNat)
      case atStart => exact ⟨0, Nat.zero_le _, rfl, by simpa [itsCs] using hF, Below.refl _ _⟩
      case round =>
        clear hF
        obtain ⟨k, hk, rfl, hF, hBk⟩ := hrel
        obtain ⟨wk, hwk⟩ : ∃ x, x = wr := ⟨_, rfl⟩
        subst hwk
        have e0 := bcell hBk c0
        have e3 := bcell hBk c3
        by_cases hlk : k < inn
        · obtain ⟨b', o', x, pa, pn, pc, rfl, hx, d0, d1, hP, _, _, _⟩ := its_at (hI.below hBk) hlk
          obtain ⟨u1, u2⟩ := t2 x (List.mem_of_getElem? hx)
          have hpl : Hid (x.ps.length = pn) := hP.len
          rw [hpl.out] at u1
          have hk1 : (k : Int) < inn := by omega
          have hk2 : (0 : Int) ≤ k := by omega
          have hits : Hid (itsCs v (v.its.take (k + 1)) = itsCs v (v.its.take k) ++ partCs v.id x.nm x.ps) := itsCs_take hx
          clear hx
          generalize itsCs v (v.its.take k) = PI at *
          go_wp2_with fail
          have hW0 : Below wk.heap.size wk (wk.alloc (.cells #[.string x.nm, .slice pa pn pc] 139)) := by go_grown
          have X0 : (wk.alloc (.cells #[.string x.nm, .slice pa pn pc] 139)).cell? ⟨wk.heap.size, 0, none⟩ = some (.string x.nm) := (Blk.new wk #[.string x.nm, .slice pa pn pc] 139).cell 0
          have X1 : (wk.alloc (.cells #[.string x.nm, .slice pa pn pc] 139)).cell? ⟨wk.heap.size, 1, none⟩ = some (.slice pa pn pc) := (Blk.new wk #[.string x.nm, .slice pa pn pc] 139).cell 1
          have E0 := bcell hW0 e0
          have hP0 := hP.below hW0
          have hF0 := hF.below hW0
          generalize wk.alloc (.cells #[.string x.nm, .slice pa pn pc] 139) = W0 at *
          go_loopw [3, 7] (fun out ix wj => ∃ (j : Nat), j ≤ pn ∧ ix = .int .i64 j ∧ Fnd wj w.heap.size out (sumC [] (PA ++ PI ++ partCs v.id x.nm (x.ps.take j))) (6000 * i + 1000 * k + j) ∧ Below W0.heap.size W0 wj) (fun _ ix _ => pn - (intOf ix).toNat)
          case atStart => exact ⟨0, Nat.zero_le _, rfl, by simpa [partCs] using hF0, Below.refl _ _⟩
          case round =>
            clear hF hF0
            obtain ⟨j, hj, rfl, hF, hBj⟩ := hrel
            have x0 := bcell hBj X0
            have x1 := bcell hBj X1
            have y0 := bcell hBj E0
            by_cases hlj : j < pn
            · obtain ⟨b2, o2, p, rfl, hp, f0, f1, f2⟩ := pts_at (hP0.below hBj) hlj
              have hpa := u2 p (List.mem_of_getElem? hp)
              have hpt : Hid (partCs v.id x.nm (x.ps.take (j + 1)) = partCs v.id x.nm (x.ps.take j) ++ (if p.a == 0 then [] else [⟨⟨p.a, v.id, x.nm⟩, 1⟩])) := partCs_take hp
              clear hp
              generalize partCs v.id x.nm (x.ps.take j) = PP at *
              have hj1 : (j : Int) < pn := by omega
              have hj2 : (0 : Int) ≤ j := by omega
              by_cases hz : 0 < p.a
              · have hne : (p.a == 0) = false := beq_eq_false_iff_ne.2 (by omega)
                rw [hne] at hpt
                simp only [Bool.false_eq_true, if_false] at hpt
                obtain ⟨⟨a2, n2, cap2, rfl, hn2, R⟩, hbd⟩ := hF
                go_wp2_with fail
                refine wp_region_tail 16 (by kernel_rfl) (by kernel_rfl) ?_
                simp only [List.take_succ_cons, List.take_zero, List.drop_succ_cons, List.drop_zero]
                repeat still_step
                refine wpStill_nil ?_
                go_wp2_with fail
                have hBd := (Below.refl wr.heap.size wr).drew
                refine (spec_l3Add a2 n2 cap2 _ ⟨⟨p.a, v.id, x.nm⟩, 1⟩ _ (R.sl.below hBd) (by omega) (fun z hz' => by have := hbd z hz'; omega) (by simp)).mono ?_
                rintro e w3 ⟨⟨a3, n3, cap3, rfl, hn3, R3⟩, hB3⟩
                have hB4 : Below wr.heap.size wr w3 := chain hBd hB3
                have hz0 := hB.size
                have hz1 := hBk.size
                have hz2 := hW0.size
                have hz3 := hBj.size
                have hz4 := hBd.size
                go_wp2
                go_roundw
                case rel =>
                  refine ⟨j + 1, by omega, by go_num, ⟨⟨a3, n3, cap3, rfl, by omega, ?_⟩, ?_⟩, chain hBj hB4⟩
                  · rw [hpt.out, ← List.append_assoc, sumC_app]
                    exact R3.mono (by omega)
                  · rw [hpt.out, ← List.append_assoc, sumC_app]
                    intro z hz'
                    have := bound_addC (B := 1000 * ((6000 * i + 1000 * k + j : Nat) : Int)) (by omega) (c := ⟨⟨p.a, v.id, x.nm⟩, 1⟩) (by simp) (by simp) hbd z hz'
                    omega
                case measure => simp [intOf]; omega
              · have hne : (p.a == 0) = true := by simp; omega
                rw [hne] at hpt
                simp only [if_true, List.append_nil] at hpt
                go_wp2
                go_roundw
                case rel => exact ⟨j + 1, by omega, by go_num, by rw [hpt.out]; exact hF.mono (by omega), hBj⟩
                case measure => simp [intOf]; omega
            · obtain rfl : j = pn := by omega
              go_wp2
              go_roundw
              case rel =>
                refine ⟨k + 1, by omega, by go_num, ?_, chain hBk (chain hW0 hBj)⟩
                rw [hits.out, ← List.append_assoc]
                rw [List.take_of_length_le (Nat.le_of_eq hpl.out)] at hF
                exact hF.mono (by omega)
              case measure => simp [intOf]; omega
        · obtain rfl : k = inn := by omega
          go_wp2
          go_roundw
          case rel =>
            refine ⟨i + 1, by omega, by go_num, ?_, chain hB hBk⟩
            rw [hall.out, ← List.take_of_length_le (l := v.its) (Nat.le_of_eq hil.out)]
            exact hF.mono (by omega)
          case measure => simp [intOf]; omega
    · obtain rfl : i = n := by omega
      obtain ⟨⟨a2, n2, cap2, rfl, hn2, R⟩, hbd⟩ := hF
      go_wp2
      go_returns
      rw [List.take_of_length_le (Nat.le_of_eq hlen.out)] at R hbd
      exact ⟨⟨a2, n2, cap2, rfl, by omega, (fun x hx => by have := hbd x hx; omega), R⟩, hB⟩
theorem spec_l4Walked (B : Nat) (a : Option Addr) (n cap : Nat) (vs : List Vo) (w : World) (h : VsAt B w a n vs) (ht : TinyV vs) :
    Calls Tryz.prog 119 #[.slice a n cap] w fun e w' => (∃ a' n' cap', e = .returned (.slice a' n' cap') ∧ n' ≤ 42000 ∧ ResAt Ct.cs 4 134 w' w.heap.size a' n' cap' (walkL vs)) ∧ Below w.heap.size w w' := by
  refine (spec_l4WalkedW B a n cap vs w h ht.wide).mono ?_
  rintro e w' ⟨⟨a', n', cap', he, hn, _, R⟩, hB⟩
  exact ⟨⟨a', n', cap', he, hn, R⟩, hB⟩
end Go.Proofs.YtigldeccfpkdmaaGreatDoor
