/- Volumes of the model: l4Vol. Right pools, as plain functions: what the model asks in its rounds is what a right pool is. Counts that are the same, and extents that somebody names, by the model. The laws' sizes of lists of items and volumes. -/
import Derived.Test.YtigldeccfpkdmaaGreatDoorProg
import Derived.Test.YtigldeccfpkdmaaGreatDoorCReadSuperx18
import Derived.Test.YtigldeccfpkdmaaGreatDoorCReadSuperx11
import Derived.Test.YtigldeccfpkdmaaGreatDoorCReadSuperx05
import Derived.Test.YtigldeccfpkdmaaGreatDoorCReadSuperx17
import Derived.Laws.StructEq
import Derived.Test.YtigldeccfpkdmaaGreatDoorCReadSuperx08
namespace Go.Proofs.YtigldeccfpkdmaaGreatDoor
open Go.RowKit Go.BigFrame
def prevI (l : List It) (k : Nat) : Option It := if k = 0 then none else l[k - 1]?
theorem prevI_succ (l : List It) (k : Nat) : prevI l (k + 1) = l[k]? := by simp [prevI]
theorem content_some {ps : List Pt} {e : List Ex} (h : spaceOkB 400 e = true) : (contentO ps e).isSome = (partsOkB ps && (cgo e ⟨#[]⟩ ps).isSome) := by
  unfold contentO
  cases hp : partsOkB ps <;> simp [h]
set_option maxHeartbeats 2000000 in
set_option maxRecDepth 100000 in
theorem spec_l4Vol (B : Nat) (v : Vo) (pa : Option Addr) (pn pc : Nat) (ea : Option Addr) (en ec : Nat) (e : List Ex) (w : World) (h : ItsAt B w pa pn v.its) (he : ExsAt w ea en e) (hstr : Strs e) (hen : en ≤ 4194304) (hsp : spaceOkB 400 e = true) (hnm : v.nm.size ≤ 9223372036854775807) (hpn : pn ≤ 4194304) (hI : StrI v.its) :
    Calls Tryz.prog 116 #[.agg #[.int .i64 v.id, .string v.nm, .bool v.fx, .slice pa pn pc], .slice ea en ec] w fun x w' => x = .returned (.bool (nameB v.nm && itemsB v.its e)) ∧ Below w.heap.size w w' := by
  obtain ⟨id, nm, fx, its⟩ := v
  simp only at h hnm hI ⊢
  have hlen : Hid (its.length = pn) := h.len
  cases hn1 : nameB nm
  · go_enter Tryz.func116, Tryz.ntmps116
    go_wp2_with fail
    refine (spec_NameOk nm _ hnm).mono ?_
    rintro x w1 ⟨rfl, rfl⟩
    rw [hn1]
    go_wp2
    go_returns
    exact ⟨rfl, by go_grown⟩
  · have hR : Hid ((true && itemsB its e) = (decide (its.length ≤ 5) && igo e none its)) := by show _ = _; rw [Bool.true_and]; rfl
    generalize (true && itemsB its e) = R at *
    by_cases h5 : pn ≤ 5
    · rw [hlen.out, decide_eq_true h5, Bool.true_and] at hR
      go_enter Tryz.func116, Tryz.ntmps116
      go_wp2_with fail
      refine (spec_NameOk nm _ hnm).mono ?_
      rintro x w1 ⟨rfl, hw1⟩
      rw [hn1]
      have hB1 : Below w.heap.size w w1 := by rw [hw1]; go_grown
      have C : Blk w1 w.heap.size #[.int .i64 id, .string nm, .bool fx, .slice pa pn pc] 128 := by rw [hw1]; exact Blk.new w _ _
      have hlt := C.lt
      clear hw1
      have c3 := C.cell 3
      simp only [lgA, lgB, lgC] at c3
      go_wp2_with fail
      go_loopw [5] (fun ix wr => ∃ (k : Nat), k ≤ pn ∧ ix = .int .i64 k ∧ Hid (R = igo e (prevI its k) (its.drop k)) ∧ Blk wr w.heap.size #[.int .i64 id, .string nm, .bool fx, .slice pa pn pc] 128 ∧ Below w.heap.size w wr) (fun ix _ => pn - (intOf ix).toNat)
      case atStart => exact ⟨0, Nat.zero_le _, rfl, hR, C, hB1⟩
      case round =>
        clear c3
        obtain ⟨k, hk, rfl, hv, C', hB⟩ := hrel
        have c3 := C'.cell 3
        simp only [lgA, lgB, lgC] at c3
        by_cases hlt : k < pn
        · obtain ⟨b, o, x, qa, qn, qc, rfl, hx, c0, c1, hP, _, _, _⟩ := its_at (h.below hB) hlt
          have hst : Hid (R = (nameB x.nm && (match prevI its k with | none => true | some p => bl p.nm.toList x.nm.toList) && (contentO x.ps e).isSome && igo e (prevI its (k + 1)) (its.drop (k + 1)))) := by
            show _ = _
            rw [hv.out, drop_at hx, prevI_succ, hx]
            rfl
          rw [content_some hsp] at hst
          obtain ⟨m1, m2⟩ := hI x (List.mem_of_getElem? hx)
          have hqn : x.ps.length = qn := hP.len
          rw [hqn] at m2
          have hk1 : (k : Int) < pn := by omega
          have hk2 : (0 : Int) ≤ k := by omega
          have hprev : 0 < k → ∃ y, prevI its k = some y ∧ wr.cell? ⟨b, o + (k - 1) * 2, none⟩ = some (.string y.nm) := fun h0 => by
            obtain ⟨b', o', y, _, _, _, hbo, hy, d0, _⟩ := its_at (h.below hB) (show k - 1 < pn by omega)
            obtain ⟨rfl, rfl⟩ : b = b' ∧ o = o' := by simpa using hbo
            exact ⟨y, by unfold prevI; rw [if_neg (by omega)]; exact hy, d0⟩
          have hend : ∀ u : World, Below wr.heap.size wr u → Below w.heap.size w u := fun u hu => chain hB hu
          clear hx hv hqn
          have hname := fun u : World => spec_NameOk x.nm u m1
          have hparts := fun (u : World) (hu : Below wr.heap.size wr u) => spec_PartsOk qa qn qc x.ps u (hP.below hu) m2
          have hW0 : Below wr.heap.size wr (wr.alloc (.cells #[.string x.nm, .slice qa qn qc] 139)) := by go_grown
          have X := Blk.new wr #[.string x.nm, .slice qa qn qc] 139
          have x0 : ∀ g : Grw (wr.alloc (.cells #[.string x.nm, .slice qa qn qc] 139)), g.w.cell? ⟨wr.heap.size, 0, none⟩ = some (.string x.nm) := gcell (X.cell 0)
          have x1 : ∀ g : Grw (wr.alloc (.cells #[.string x.nm, .slice qa qn qc] 139)), g.w.cell? ⟨wr.heap.size, 1, none⟩ = some (.slice qa qn qc) := gcell (X.cell 1)
          have x3 := gcell (bcell hW0 c3)
          have hne := grw_ne (wr.alloc (.cells #[.string x.nm, .slice qa qn qc] 139))
          cases hnx : nameB x.nm
          · rw [hnx] at hst
            go_wp2_with fail
            refine wp_region_grow (by kernel_rfl) (by kernel_rfl) ?_
            repeat (go_big_quiet_step (first | (go_at_call 178; have qq := hname; rw [hnx] at qq; exact grow_of_same (qq _))))
            refine wpQuiet_nil ?_
            intro w2 hx
            have hB2 := chain hW0 (grw_out hx)
            clear hx
            go_wp2
            go_returns
            exact ⟨by rw [hst.out]; simp, hend _ hB2⟩
          · rw [hnx, Bool.true_and] at hst
            by_cases hk0 : 0 < k
            · obtain ⟨y, hy, d0⟩ := hprev hk0
              have y0 := gcell (bcell hW0 d0)
              rw [hy] at hst
              have hk0' : decide ((0 : Int) < (k : Int)) = true := decide_eq_true (by omega)
              have hk9 : ((k : Int) - 1).toNat = k - 1 := by omega
              cases hbl : bl y.nm.toList x.nm.toList
              · simp only [hbl, Bool.false_and] at hst
                go_wp2_with fail
                refine wp_region_grow (by kernel_rfl) (by kernel_rfl) ?_
                repeat (go_big_quiet_step (first | (go_at_call 178; have qq := hname; rw [hnx] at qq; exact grow_of_same (qq _))))
                refine wpQuiet_nil ?_
                intro w2 hx
                have hB2 := chain hW0 (grw_out hx)
                have x1' := bcell (grw_out hx) (show (wr.alloc (.cells #[.string x.nm, .slice qa qn qc] 139)).cell? ⟨wr.heap.size, 1, none⟩ = some (.slice qa qn qc) from X.cell 1)
                have C2 := C'.below hB2
                clear hx
                go_wp2
                go_returns
                exact ⟨by rw [hst.out]; rfl, hend _ hB2⟩
              · simp only [hbl, Bool.true_and] at hst
                cases hpk : partsOkB x.ps
                · rw [hpk, Bool.false_and, Bool.false_and] at hst
                  go_wp2_with fail
                  refine wp_region_grow (by kernel_rfl) (by kernel_rfl) ?_
                  repeat (go_big_quiet_step (first | (go_at_call 178; have qq := hname; rw [hnx] at qq; exact grow_of_same (qq _)) | (go_at_call 179; have qq := fun (u : World) (hu : Below wr.heap.size wr u) => hparts u hu; rw [hpk] at qq; exact grow_of (qq _ (chain hW0 (Grw.h _))))))
                  refine wpQuiet_nil ?_
                  intro w2 hx
                  have hB2 := chain hW0 (grw_out hx)
                  have x1' := bcell (grw_out hx) (show (wr.alloc (.cells #[.string x.nm, .slice qa qn qc] 139)).cell? ⟨wr.heap.size, 1, none⟩ = some (.slice qa qn qc) from X.cell 1)
                  have C2 := C'.below hB2
                  clear hx
                  go_wp2
                  go_returns
                  exact ⟨by rw [hst.out]; rfl, hend _ hB2⟩
                · rw [hpk, Bool.true_and] at hst
                  obtain ⟨hl16, hall⟩ := parts_all hpk
                  rw [hP.len] at hl16
                  go_wp2_with fail
                  refine wp_region_grow (by kernel_rfl) (by kernel_rfl) ?_
                  repeat (go_big_quiet_step (first | (go_at_call 178; have qq := hname; rw [hnx] at qq; exact grow_of_same (qq _)) | (go_at_call 179; have qq := fun (u : World) (hu : Below wr.heap.size wr u) => hparts u hu; rw [hpk] at qq; exact grow_of (qq _ (chain hW0 (Grw.h _))))))
                  refine wpQuiet_nil ?_
                  intro w2 hx
                  have hB2 := chain hW0 (grw_out hx)
                  have x1' := bcell (grw_out hx) (show (wr.alloc (.cells #[.string x.nm, .slice qa qn qc] 139)).cell? ⟨wr.heap.size, 1, none⟩ = some (.slice qa qn qc) from X.cell 1)
                  have C2 := C'.below hB2
                  clear hx
                  go_wp2_with fail
                  refine (spec_l2Content qa qn qc x.ps ea en ec e _ (hP.below hB2) (he.below (hend _ hB2)) hstr hl16 hen hall).mono ?_
                  rintro e1 w3 ⟨hret, hB3⟩
                  replace C2 := C2.below hB3
                  replace hB3 := chain hB2 hB3
                  cases hcg : cgo e ⟨#[]⟩ x.ps with
                  | none =>
                    rw [hcg] at hret hst
                    replace hret : e1 = .returned (.tuple #[.string ⟨#[]⟩, .bool false]) := hret
                    subst hret
                    clear hcg
                    go_wp2
                    go_returns
                    exact ⟨by rw [hst.out]; rfl, hend _ hB3⟩
                  | some s =>
                    rw [hcg] at hret hst
                    replace hret : e1 = .returned (.tuple #[.string s, .bool true]) := hret
                    subst hret
                    clear hcg
                    go_wp2
                    go_roundw
                    case rel => exact ⟨k + 1, by omega, by go_num, by show _ = _; rw [hst.out]; rfl, C2, hend _ hB3⟩
                    case measure => simp [intOf]; omega
            · have hpv : prevI its k = none := by unfold prevI; rw [if_pos (by omega)]
              have hk0' : decide ((0 : Int) < (k : Int)) = false := decide_eq_false (by omega)
              rw [hpv] at hst
              simp only [Bool.true_and] at hst
              cases hpk : partsOkB x.ps
              · rw [hpk, Bool.false_and, Bool.false_and] at hst
                go_wp2_with fail
                refine wp_region_grow (by kernel_rfl) (by kernel_rfl) ?_
                repeat (go_big_quiet_step (first | (go_at_call 178; have qq := hname; rw [hnx] at qq; exact grow_of_same (qq _)) | (go_at_call 179; have qq := fun (u : World) (hu : Below wr.heap.size wr u) => hparts u hu; rw [hpk] at qq; exact grow_of (qq _ (chain hW0 (Grw.h _))))))
                refine wpQuiet_nil ?_
                intro w2 hx
                have hB2 := chain hW0 (grw_out hx)
                have x1' := bcell (grw_out hx) (show (wr.alloc (.cells #[.string x.nm, .slice qa qn qc] 139)).cell? ⟨wr.heap.size, 1, none⟩ = some (.slice qa qn qc) from X.cell 1)
                have C2 := C'.below hB2
                clear hx
                go_wp2
                go_returns
                exact ⟨by rw [hst.out]; rfl, hend _ hB2⟩
              · rw [hpk, Bool.true_and] at hst
                obtain ⟨hl16, hall⟩ := parts_all hpk
                rw [hP.len] at hl16
                go_wp2_with fail
                refine wp_region_grow (by kernel_rfl) (by kernel_rfl) ?_
                repeat (go_big_quiet_step (first | (go_at_call 178; have qq := hname; rw [hnx] at qq; exact grow_of_same (qq _)) | (go_at_call 179; have qq := fun (u : World) (hu : Below wr.heap.size wr u) => hparts u hu; rw [hpk] at qq; exact grow_of (qq _ (chain hW0 (Grw.h _))))))
                refine wpQuiet_nil ?_
                intro w2 hx
                have hB2 := chain hW0 (grw_out hx)
                have x1' := bcell (grw_out hx) (show (wr.alloc (.cells #[.string x.nm, .slice qa qn qc] 139)).cell? ⟨wr.heap.size, 1, none⟩ = some (.slice qa qn qc) from X.cell 1)
                have C2 := C'.below hB2
                clear hx
                go_wp2_with fail
                refine (spec_l2Content qa qn qc x.ps ea en ec e _ (hP.below hB2) (he.below (hend _ hB2)) hstr hl16 hen hall).mono ?_
                rintro e1 w3 ⟨hret, hB3⟩
                replace C2 := C2.below hB3
                replace hB3 := chain hB2 hB3
                cases hcg : cgo e ⟨#[]⟩ x.ps with
                | none =>
                  rw [hcg] at hret hst
                  replace hret : e1 = .returned (.tuple #[.string ⟨#[]⟩, .bool false]) := hret
                  subst hret
                  clear hcg
                  go_wp2
                  go_returns
                  exact ⟨by rw [hst.out]; rfl, hend _ hB3⟩
                | some s =>
                  rw [hcg] at hret hst
                  replace hret : e1 = .returned (.tuple #[.string s, .bool true]) := hret
                  subst hret
                  clear hcg
                  go_wp2
                  go_roundw
                  case rel => exact ⟨k + 1, by omega, by go_num, by show _ = _; rw [hst.out]; rfl, C2, hend _ hB3⟩
                  case measure => simp [intOf]; omega
        · obtain rfl : k = pn := by omega
          go_wp2
          go_returns
          exact ⟨by rw [hv.out, List.drop_of_length_le (Nat.le_of_eq hlen.out)]; rfl, hB⟩
    · rw [hlen.out, decide_eq_false h5, Bool.false_and] at hR
      go_enter Tryz.func116, Tryz.ntmps116
      go_wp2_with fail
      refine (spec_NameOk nm _ hnm).mono ?_
      rintro x w1 ⟨rfl, rfl⟩
      rw [hn1]
      go_wp2
      go_returns
      exact ⟨by rw [hR.out]; rfl, by go_grown⟩
end Go.Proofs.YtigldeccfpkdmaaGreatDoor
namespace Go.Proofs.YtigldeccfpkdmaaGreatDoor
open Go.RowKit
def idB (next : Int) (q : Option Vo) (v : Vo) : Bool := decide (1 ≤ v.id) && decide (v.id ≤ 1000000000) && decide (v.id < next) && (match q with | none => true | some u => decide (u.id < v.id))
def sameN (u v : Vo) : Bool := u.nm.toList == v.nm.toList
/-- The model's rounds: those that were seen, those to come. -/
def sgoV (next : Int) (e : List Ex) : List Vo → List Vo → Bool
  | _, [] => true
  | seen, v :: r => idB next seen.getLast? v && (nameB v.nm && itemsB v.its e) && !(seen.any (fun u => sameN u v)) && sgoV next e (seen ++ [v]) r
def ndV : List Vo → List Vo → Bool
  | _, [] => true
  | seen, v :: r => !(seen.any (fun u => sameN u v)) && ndV (seen ++ [v]) r
def lastId (seen : List Vo) : Int := match seen.getLast? with | none => 0 | some u => u.id
theorem sgoV_eq {next : Int} {e : List Ex} (hn : next ≤ 1000000000) : ∀ (vs seen : List Vo), (∀ u ∈ seen, 1 ≤ u.id) → sgoV next e seen vs = (vgo next e (lastId seen) vs && ndV seen vs)
  | [], seen, _ => rfl
  | v :: r, seen, hs => by
    have hid : idB next seen.getLast? v = (decide (lastId seen < v.id) && decide (v.id < next)) := by
      unfold idB lastId
      cases hl : seen.getLast? with
      | none => rw [Bool.eq_iff_iff]; simp; omega
      | some u =>
        have := hs u (List.mem_of_getLast? hl)
        rw [Bool.eq_iff_iff]; simp; omega
    by_cases hv : 1 ≤ v.id
    · have ih := sgoV_eq (e := e) hn r (seen ++ [v]) (fun u hu => by
        rcases List.mem_append.1 hu with hu | hu
        · exact hs u hu
        · simp at hu; subst hu; exact hv)
      have hl : lastId (seen ++ [v]) = v.id := by simp [lastId]
      rw [hl] at ih
      simp only [sgoV, vgo, ndV, hid, ih]
      cases decide (lastId seen < v.id) <;> cases decide (v.id < next) <;> cases nameB v.nm <;> cases itemsB v.its e <;> cases vgo next e v.id r <;> cases (seen.any fun u => sameN u v) <;> simp
    · have h0 : decide (lastId seen < v.id) = false := by
        rw [decide_eq_false_iff_not]
        unfold lastId
        cases hl : seen.getLast? with
        | none => simp; omega
        | some u => have := hs u (List.mem_of_getLast? hl); simp; omega
      simp only [sgoV, vgo, hid, h0, Bool.false_and]
theorem ndV_eq : ∀ (vs seen : List Vo), (seen.map (·.nm.toList)).Nodup → ndV seen vs = decide (((seen ++ vs).map (·.nm.toList)).Nodup)
  | [], seen, h => by simp [ndV, h]
  | v :: r, seen, h => by
    cases ha : (seen.any fun u => sameN u v)
    · have hnot : v.nm.toList ∉ seen.map (·.nm.toList) := by
        intro hm
        obtain ⟨u, hu, he⟩ := List.mem_map.1 hm
        rw [List.any_eq_false] at ha
        exact ha u hu (by simp [sameN, he])
      have h2 : ((seen ++ [v]).map (·.nm.toList)).Nodup := by
        rw [List.map_append, List.nodup_append]
        exact ⟨h, by simp, fun x hx y hy => by simp at hy; subst hy; intro e; subst e; exact hnot hx⟩
      have ih := ndV_eq r (seen ++ [v]) h2
      simp only [ndV, ha, Bool.not_false, Bool.true_and, ih, List.append_assoc, List.cons_append, List.nil_append]
    · have : ¬ ((seen ++ v :: r).map (·.nm.toList)).Nodup := by
        intro hn
        rw [List.map_append, List.nodup_append] at hn
        obtain ⟨u, hu, he⟩ := List.any_eq_true.1 ha
        exact hn.2.2 u.nm.toList (List.mem_map_of_mem hu) v.nm.toList (by simp) (by simpa [sameN] using he)
      simp only [ndV, ha, Bool.not_true, Bool.false_and]
      exact (decide_eq_false this).symm
theorem sgoV_all {next : Int} {e : List Ex} {vs : List Vo} (hn : next ≤ 1000000000) : sgoV next e [] vs = (vgo next e 0 vs && namesB vs) := by
  rw [sgoV_eq hn vs [] (fun u hu => by cases hu), ndV_eq vs [] List.nodup_nil]; rfl
theorem xgo_grow {size size' : Int} (h : size ≤ size') : ∀ {l : List Ex} {next : Int}, xgo size next l = true → xgo size' next l = true
  | [], _, _ => rfl
  | x :: r, next, hx => by
    simp only [xgo, Bool.and_eq_true, decide_eq_true_eq] at hx ⊢
    exact ⟨⟨⟨hx.1.1.1, hx.1.1.2⟩, by omega⟩, xgo_grow h hx.2⟩
theorem space_400 {size : Int} {e : List Ex} (h : spaceOkB size e = true) : spaceOkB 400 e = true := by
  simp only [spaceOkB, Bool.and_eq_true, decide_eq_true_eq] at h ⊢
  exact ⟨⟨⟨by omega, by omega⟩, h.1.2⟩, xgo_grow h.1.1.2 h.2⟩
theorem igo_each {e : List Ex} : ∀ {l : List It} {q : Option It}, igo e q l = true → ∀ x ∈ l, (contentO x.ps e).isSome = true
  | [], _, _, x, hx => by cases hx
  | y :: r, q, h, x, hx => by
    simp only [igo, Bool.and_eq_true] at h
    rcases List.mem_cons.1 hx with rfl | hx
    · exact h.1.2
    · exact igo_each h.2 x hx
theorem vgo_each {next : Int} {e : List Ex} : ∀ {l : List Vo} {last : Int}, vgo next e last l = true → ∀ v ∈ l, itemsB v.its e = true ∧ nameB v.nm = true ∧ last < v.id ∧ v.id < next
  | [], _, _, v, hv => by cases hv
  | u :: r, last, h, v, hv => by
    simp only [vgo, Bool.and_eq_true, decide_eq_true_eq] at h
    rcases List.mem_cons.1 hv with rfl | hv
    · exact ⟨h.1.2, h.1.1.2, h.1.1.1.1, h.1.1.1.2⟩
    · have := vgo_each h.2 v hv
      exact ⟨this.1, this.2.1, by omega, this.2.2.2⟩
theorem partOk_nonneg {p : Pt} (h : partOkB p = true) : 0 ≤ p.a := by
  unfold partOkB at h
  split at h
  · rename_i h0; simp at h0; omega
  · simp at h; omega
theorem tiny_of {next : Int} {e : List Ex} {l : List Vo} {last : Int} (h6 : l.length ≤ 6) (h : vgo next e last l = true) : TinyV l := by
  refine ⟨h6, fun v hv => ?_⟩
  obtain ⟨hi, _⟩ := vgo_each h v hv
  simp only [itemsB, Bool.and_eq_true, decide_eq_true_eq] at hi
  refine ⟨hi.1, fun x hx => ?_⟩
  have hc := igo_each hi.2 x hx
  have hp : partsOkB x.ps = true := by
    unfold contentO at hc
    split at hc
    · rename_i hh; exact hh.1
    · cases hc
  obtain ⟨q1, q2, _⟩ := partsOkB_all hp
  exact ⟨q1, fun p hp' => partOk_nonneg (q2 p hp')⟩
theorem atG_any (addr : Int) : ∀ (l : List Ex) (k : Nat), decide (atG addr k l < 0) = !(l.any (fun x => x.a == addr))
  | [], k => by simp [atG]
  | x :: r, k => by
    cases hx : (x.a == addr)
    · simp only [atG, hx, Bool.false_eq_true, if_false, List.any_cons, Bool.false_or]; exact atG_any addr r (k + 1)
    · simp only [atG, hx, if_true, List.any_cons, Bool.true_or, Bool.not_true, decide_eq_false_iff_not]; omega
end Go.Proofs.YtigldeccfpkdmaaGreatDoor
namespace Go.Proofs.YtigldeccfpkdmaaGreatDoor
open Go.RowKit Go.BigFrame
theorem eqO_inG (p q : Ow) (w : World) : (Op.equalIn 9999 132 (.agg #[.int .i64 p.a, .int .i64 p.v, .string p.f]) (.agg #[.int .i64 q.a, .int .i64 q.v, .string q.f])).run Tryz.prog w = .ok (owEq p q) w := by
  have u2 := Tryz.underlying2
  have u9 := Tryz.underlying9
  have a2 := Tryz.isAgg2
  have a9 := Tryz.isAgg9
  have z2 := Tryz.sizeOf2
  have z9 := Tryz.sizeOf9
  have hS : Tryz.prog.underlying 132 = some (.struct (Tryz.prog.fieldsOf 132)) := by kernel_rfl
  have hp : Tryz.prog.stoodInHeld 132 = false := by kernel_rfl
  rw [show (9999 : Nat) = 9998 + 1 from rfl, run_equalIn_agg w 9998 132 _ _ hS hp]
  simp only [Program.fieldsOf, Tryz.underlying132]
  clear hS hp
  go_simp
  unfold owEq
  by_cases h1 : p.a = q.a <;> by_cases h2 : p.v = q.v <;> by_cases h3 : p.f.toList = q.f.toList <;> simp [h1, h2, h3]
theorem neqCG (p q : Ct) (w : World) : (binOp .neq 134 (.agg #[.int .i64 p.o.a, .int .i64 p.o.v, .string p.o.f, .int .i64 p.n]) (.agg #[.int .i64 q.o.a, .int .i64 q.o.v, .string q.o.f, .int .i64 q.n])).run Tryz.prog w = .ok (.bool (!eqCt p q)) w := by
  have he := eqO_inG p.o q.o
  have u2 := Tryz.underlying2
  have a2 := Tryz.isAgg2
  have z2 := Tryz.sizeOf2
  have hz := Tryz.sizeOf132
  have ha := Tryz.isAgg132
  have hS : Tryz.prog.underlying 134 = some (.struct (Tryz.prog.fieldsOf 134)) := by kernel_rfl
  have hp : Tryz.prog.stoodInHeld 134 = false := by kernel_rfl
  rw [run_neq_struct, show (10000 : Nat) = 9999 + 1 from rfl, run_equalIn_agg w 9999 134 _ _ hS hp]
  simp only [Program.fieldsOf, Tryz.underlying134]
  clear hS hp
  unfold eqCt
  cases hoo : owEq p.o q.o
  all_goals rw [hoo] at he
  · go_simp
  · by_cases h1 : p.n = q.n
    · go_simp
    · go_simp
set_option maxHeartbeats 1000000 in
theorem spec_l4Same (a : Option Addr) (n cap : Nat) (l : List Ct) (a' : Option Addr) (n' cap' : Nat) (m : List Ct) (w : World) (h : CtsAt w a n l) (h' : CtsAt w a' n' m) (hn : n ≤ 4194304) (hn' : n' ≤ 4194304) :
    Calls Tryz.prog 118 #[.slice a n cap, .slice a' n' cap'] w fun e w' => e = .returned (.bool (eqCts l m)) ∧ Below w.heap.size w w' := by
  have hlen : Hid (l.length = n) := h.len
  have hlen' : Hid (m.length = n') := h'.len
  by_cases hne : n = n'
  · subst hne
    have hbn : ((n : Int) != (n : Int)) = false := by simp
    go_enter Tryz.func118, Tryz.ntmps118
    go_wp2_with fail
    go_loopw [5] (fun ix wr => ∃ (k : Nat), k ≤ n ∧ ix = .int .i64 k ∧ Hid (eqCts l m = eqCts (l.drop k) (m.drop k)) ∧ Below w.heap.size w wr) (fun ix _ => n - (intOf ix).toNat)
    case atStart => exact ⟨0, Nat.zero_le _, rfl, rfl, Below.refl _ _⟩
    case round =>
      obtain ⟨k, hk, rfl, hI, hB⟩ := hrel
      by_cases hlt : k < n
      · obtain ⟨b, o, p, rfl, hp, c0, c1, c2, c3⟩ := cts_at (h.below hB) hlt
        obtain ⟨b', o', q, rfl, hq, d0, d1, d2, d3⟩ := cts_at (h'.below hB) hlt
        have hd : Hid (l.drop k = p :: l.drop (k + 1)) := drop_at hp
        have hd' : Hid (m.drop k = q :: m.drop (k + 1)) := drop_at hq
        clear hp hq
        have hk1 : (k : Int) < n := by omega
        have hk2 : (0 : Int) ≤ k := by omega
        have hneq := neqCG p q
        cases hpq : eqCt p q
        all_goals rw [hpq] at hneq
        · go_wp2_with fail
          go_quiet (fail)
          have hB2 := below_drewN hB nq
          go_wp2
          go_returns
          go_light
          refine ⟨ret_bool ?_, hB2⟩
          rw [hI.out, hd.out, hd'.out]; simp only [eqCts, hpq, Bool.false_and]
        · go_wp2_with fail
          go_quiet (fail)
          have hB2 := below_drewN hB nq
          go_wp2
          go_roundw
          case rel => exact ⟨k + 1, by omega, by go_num, by show _ = _; rw [hI.out, hd.out, hd'.out]; simp only [eqCts, hpq, Bool.true_and], hB2⟩
          case measure => simp [intOf]; omega
      · obtain rfl : k = n := by omega
        go_wp2
        go_returns
        go_light
        refine ⟨ret_bool ?_, hB⟩
        rw [hI.out, List.drop_of_length_le (Nat.le_of_eq hlen.out), List.drop_of_length_le (Nat.le_of_eq hlen'.out)]; rfl
  · have hbn : ((n : Int) != (n' : Int)) = true := by simp; omega
    go_enter Tryz.func118, Tryz.ntmps118
    go_wp2
    go_returns
    go_light
    refine ⟨ret_bool ?_, Below.refl _ _⟩
    rw [eqCts_len (by rw [hlen.out, hlen'.out]; exact hne)]
set_option maxHeartbeats 2000000 in
set_option maxRecDepth 100000 in
theorem spec_l4Held (size next : Int) (ea : Option Addr) (en ec : Nat) (va : Option Addr) (vn vc : Nat) (ra : Option Addr) (rn rc : Nat) (la : Option Addr) (ln lc : Nat) (rf lt : List Ct) (addr : Int) (w : World) (h : CtsAt w ra rn rf) (h' : CtsAt w la ln lt) (hn : rn ≤ 4194304) (hn' : ln ≤ 4194304) :
    Calls Tryz.prog 120 #[.agg #[.int .i64 size, .int .i64 next, .slice ea en ec, .slice va vn vc, .slice ra rn rc, .slice la ln lc], .int .i64 addr] w fun e w' => e = .returned (.bool ((rf ++ lt).any (fun c => c.o.a == addr))) ∧ Below w.heap.size w w' := by
  have hlen : Hid (rf.length = rn) := h.len
  have hlen' : Hid (lt.length = ln) := h'.len
  have hR : Hid ((rf ++ lt).any (fun c => c.o.a == addr) = ((rf.drop 0).any (fun c => c.o.a == addr) || lt.any (fun c => c.o.a == addr))) := by show _ = _; rw [List.any_append]; rfl
  generalize (rf ++ lt).any (fun c => c.o.a == addr) = R at *
  go_enter Tryz.func120, Tryz.ntmps120
  go_wp2_with fail
  have C4 : (w.alloc (.cells #[.int .i64 size, .int .i64 next, .slice ea en ec, .slice va vn vc, .slice ra rn rc, .slice la ln lc] 26)).cell? ⟨w.heap.size, 4, none⟩ = some (.slice ra rn rc) := (Blk.new w _ _).cell 4
  have C5 : (w.alloc (.cells #[.int .i64 size, .int .i64 next, .slice ea en ec, .slice va vn vc, .slice ra rn rc, .slice la ln lc] 26)).cell? ⟨w.heap.size, 5, none⟩ = some (.slice la ln lc) := (Blk.new w _ _).cell 5
  have hW0 : Below w.heap.size w (w.alloc (.cells #[.int .i64 size, .int .i64 next, .slice ea en ec, .slice va vn vc, .slice ra rn rc, .slice la ln lc] 26)) := by go_grown
  generalize w.alloc (.cells #[.int .i64 size, .int .i64 next, .slice ea en ec, .slice va vn vc, .slice ra rn rc, .slice la ln lc] 26) = W0 at *
  go_loopw [5] (fun ix wr => ∃ (k : Nat), k ≤ rn ∧ ix = .int .i64 k ∧ Hid (R = ((rf.drop k).any (fun c => c.o.a == addr) || lt.any (fun c => c.o.a == addr))) ∧ Below W0.heap.size W0 wr) (fun ix _ => rn - (intOf ix).toNat)
  case atStart => exact ⟨0, Nat.zero_le _, rfl, hR, Below.refl _ _⟩
  case round =>
    clear hR
    obtain ⟨k, hk, rfl, hI, hB⟩ := hrel
    have c4 := bcell hB C4
    by_cases hlt : k < rn
    · obtain ⟨b, o, p, rfl, hp, c0, c1, c2, c3⟩ := cts_at (h.below (chain hW0 hB)) hlt
      have hd : Hid (rf.drop k = p :: rf.drop (k + 1)) := drop_at hp
      clear hp c1 c2 c3
      have hk1 : (k : Int) < rn := by omega
      have hk2 : (0 : Int) ≤ k := by omega
      cases he : (p.o.a == addr)
      · go_wp2
        go_roundw
        case rel => exact ⟨k + 1, by omega, by go_num, by show _ = _; rw [hI.out, hd.out]; simp only [List.any_cons, he, Bool.false_or], hB⟩
        case measure => simp [intOf]; omega
      · go_wp2
        go_returns
        exact ⟨ret_bool (by rw [hI.out, hd.out]; simp [he]), chain hW0 hB⟩
    · obtain rfl : k = rn := by omega
      have hI2 : Hid (R = (lt.drop 0).any (fun c => c.o.a == addr)) := by show _ = _; rw [hI.out, List.drop_of_length_le (Nat.le_of_eq hlen.out)]; rfl
      obtain ⟨wi, hwi⟩ : ∃ x, x = wr := ⟨_, rfl⟩
      subst hwi
      clear hI
      go_wp2_with fail
      go_loopw [6] (fun ix wr => ∃ (j : Nat), j ≤ ln ∧ ix = .int .i64 j ∧ Hid (R = (lt.drop j).any (fun c => c.o.a == addr)) ∧ Below W0.heap.size W0 wr) (fun ix _ => ln - (intOf ix).toNat)
      case atStart => exact ⟨0, Nat.zero_le _, rfl, hI2, hB⟩
      case round =>
        clear hI2 hB c4
        obtain ⟨j, hj, rfl, hI, hB⟩ := hrel
        have c5 := bcell hB C5
        by_cases hlt2 : j < ln
        · obtain ⟨b, o, p, rfl, hp, c0, c1, c2, c3⟩ := cts_at (h'.below (chain hW0 hB)) hlt2
          have hd : Hid (lt.drop j = p :: lt.drop (j + 1)) := drop_at hp
          clear hp c1 c2 c3
          have hk1 : (j : Int) < ln := by omega
          have hk2 : (0 : Int) ≤ j := by omega
          cases he : (p.o.a == addr)
          · go_wp2
            go_roundw
            case rel => exact ⟨j + 1, by omega, by go_num, by show _ = _; rw [hI.out, hd.out]; simp only [List.any_cons, he, Bool.false_or], hB⟩
            case measure => simp [intOf]; omega
          · go_wp2
            go_returns
            exact ⟨ret_bool (by rw [hI.out, hd.out]; simp [he]), chain hW0 hB⟩
        · obtain rfl : j = ln := by omega
          go_wp2
          go_returns
          exact ⟨ret_bool (by rw [hI.out, List.drop_of_length_le (Nat.le_of_eq hlen'.out)]; rfl), chain hW0 hB⟩
end Go.Proofs.YtigldeccfpkdmaaGreatDoor
namespace Go.Proofs.YtigldeccfpkdmaaGreatDoor
open Go.RowKit Go.BigFrame
def SmallI (n : Nat) (l : List It) : Prop := n ≤ 1048576 ∧ ∀ x ∈ l, x.nm.size ≤ 1048576 ∧ x.ps.length ≤ 1048576
def SmallV (n : Nat) (l : List Vo) : Prop := n ≤ 1048576 ∧ ∀ v ∈ l, v.nm.size ≤ 1048576 ∧ SmallI v.its.length v.its
end Go.Proofs.YtigldeccfpkdmaaGreatDoor
