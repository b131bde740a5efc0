/- Right pools, as plain functions: what the model asks in its rounds is what a right pool is. itemsOk and volsOk of the program. volsOk of the program. A contract of the library, laid at this program. A map that the call itself has made, added to at a key by '+=' or '++': the entry, and the store into it, in whatever order with the look-up. -/
import Derived.Test.YtigldeccfpkdmaaGreatDoorCSuperTextx03
import Derived.Test.YtigldeccfpkdmaaGreatDoorCSuperTextx10
import Derived.Test.YtigldeccfpkdmaaGreatDoorProg
import Derived.Shelf.SlSortCmp.NoneTotal
import Derived.Maps.RangeWalk
import Derived.Maps.Views
import Derived.WideKeyEntry
import Derived.DeepKeys4
namespace Go.Proofs.YtigldeccfpkdmaaGreatDoor
open Go.RowKit
def idB (next : Int) (q : Option Vo) (v : Vo) : Bool := decide (1 ≤ v.id) && decide (v.id ≤ 1000000000) && decide (v.id < next) && (match q with | none => true | some u => decide (u.id < v.id))
def sameN (u v : Vo) : Bool := u.nm.toList == v.nm.toList
/-- The model's rounds: those that were seen, those to come. -/
def sgoV (next : Int) (e : List Ex) : List Vo → List Vo → Bool
  | _, [] => true
  | seen, v :: r => idB next seen.getLast? v && (nameB v.nm && itemsB v.its e) && !(seen.any (fun u => sameN u v)) && sgoV next e (seen ++ [v]) r
def ndV : List Vo → List Vo → Bool
  | _, [] => true
  | seen, v :: r => !(seen.any (fun u => sameN u v)) && ndV (seen ++ [v]) r
def lastId (seen : List Vo) : Int := match seen.getLast? with | none => 0 | some u => u.id
theorem sgoV_eq {next : Int} {e : List Ex} (hn : next ≤ 1000000000) : ∀ (vs seen : List Vo), (∀ u ∈ seen, 1 ≤ u.id) → sgoV next e seen vs = (vgo next e (lastId seen) vs && ndV seen vs)
  | [], seen, _ => rfl
  | v :: r, seen, hs => by
    have hid : idB next seen.getLast? v = (decide (lastId seen < v.id) && decide (v.id < next)) := by
      unfold idB lastId
      cases hl : seen.getLast? with
      | none => rw [Bool.eq_iff_iff]; simp; omega
      | some u =>
        have := hs u (List.mem_of_getLast? hl)
        rw [Bool.eq_iff_iff]; simp; omega
    by_cases hv : 1 ≤ v.id
    · have ih := sgoV_eq (e := e) hn r (seen ++ [v]) (fun u hu => by
        rcases List.mem_append.1 hu with hu | hu
        · exact hs u hu
        · simp at hu; subst hu; exact hv)
      have hl : lastId (seen ++ [v]) = v.id := by simp [lastId]
      rw [hl] at ih
      simp only [sgoV, vgo, ndV, hid, ih]
      cases decide (lastId seen < v.id) <;> cases decide (v.id < next) <;> cases nameB v.nm <;> cases itemsB v.its e <;> cases vgo next e v.id r <;> cases (seen.any fun u => sameN u v) <;> simp
    · have h0 : decide (lastId seen < v.id) = false := by
        rw [decide_eq_false_iff_not]
        unfold lastId
        cases hl : seen.getLast? with
        | none => simp; omega
        | some u => have := hs u (List.mem_of_getLast? hl); simp; omega
      simp only [sgoV, vgo, hid, h0, Bool.false_and]
theorem ndV_eq : ∀ (vs seen : List Vo), (seen.map (·.nm.toList)).Nodup → ndV seen vs = decide (((seen ++ vs).map (·.nm.toList)).Nodup)
  | [], seen, h => by simp [ndV, h]
  | v :: r, seen, h => by
    cases ha : (seen.any fun u => sameN u v)
    · have hnot : v.nm.toList ∉ seen.map (·.nm.toList) := by
        intro hm
        obtain ⟨u, hu, he⟩ := List.mem_map.1 hm
        rw [List.any_eq_false] at ha
        exact ha u hu (by simp [sameN, he])
      have h2 : ((seen ++ [v]).map (·.nm.toList)).Nodup := by
        rw [List.map_append, List.nodup_append]
        exact ⟨h, by simp, fun x hx y hy => by simp at hy; subst hy; intro e; subst e; exact hnot hx⟩
      have ih := ndV_eq r (seen ++ [v]) h2
      simp only [ndV, ha, Bool.not_false, Bool.true_and, ih, List.append_assoc, List.cons_append, List.nil_append]
    · have : ¬ ((seen ++ v :: r).map (·.nm.toList)).Nodup := by
        intro hn
        rw [List.map_append, List.nodup_append] at hn
        obtain ⟨u, hu, he⟩ := List.any_eq_true.1 ha
        exact hn.2.2 u.nm.toList (List.mem_map_of_mem hu) v.nm.toList (by simp) (by simpa [sameN] using he)
      simp only [ndV, ha, Bool.not_true, Bool.false_and]
      exact (decide_eq_false this).symm
theorem sgoV_all {next : Int} {e : List Ex} {vs : List Vo} (hn : next ≤ 1000000000) : sgoV next e [] vs = (vgo next e 0 vs && namesB vs) := by
  rw [sgoV_eq hn vs [] (fun u hu => by cases hu), ndV_eq vs [] List.nodup_nil]; rfl
theorem xgo_grow {size size' : Int} (h : size ≤ size') : ∀ {l : List Ex} {next : Int}, xgo size next l = true → xgo size' next l = true
  | [], _, _ => rfl
  | x :: r, next, hx => by
    simp only [xgo, Bool.and_eq_true, decide_eq_true_eq] at hx ⊢
    exact ⟨⟨⟨hx.1.1.1, hx.1.1.2⟩, by omega⟩, xgo_grow h hx.2⟩
theorem space_400 {size : Int} {e : List Ex} (h : spaceOkB size e = true) : spaceOkB 400 e = true := by
  simp only [spaceOkB, Bool.and_eq_true, decide_eq_true_eq] at h ⊢
  exact ⟨⟨⟨by omega, by omega⟩, h.1.2⟩, xgo_grow h.1.1.2 h.2⟩
theorem igo_each {e : List Ex} : ∀ {l : List It} {q : Option It}, igo e q l = true → ∀ x ∈ l, (contentO x.ps e).isSome = true
  | [], _, _, x, hx => by cases hx
  | y :: r, q, h, x, hx => by
    simp only [igo, Bool.and_eq_true] at h
    rcases List.mem_cons.1 hx with rfl | hx
    · exact h.1.2
    · exact igo_each h.2 x hx
theorem vgo_each {next : Int} {e : List Ex} : ∀ {l : List Vo} {last : Int}, vgo next e last l = true → ∀ v ∈ l, itemsB v.its e = true ∧ nameB v.nm = true ∧ last < v.id ∧ v.id < next
  | [], _, _, v, hv => by cases hv
  | u :: r, last, h, v, hv => by
    simp only [vgo, Bool.and_eq_true, decide_eq_true_eq] at h
    rcases List.mem_cons.1 hv with rfl | hv
    · exact ⟨h.1.2, h.1.1.2, h.1.1.1.1, h.1.1.1.2⟩
    · have := vgo_each h.2 v hv
      exact ⟨this.1, this.2.1, by omega, this.2.2.2⟩
theorem partOk_nonneg {p : Pt} (h : partOkB p = true) : 0 ≤ p.a := by
  unfold partOkB at h
  split at h
  · rename_i h0; simp at h0; omega
  · simp at h; omega
theorem tiny_of {next : Int} {e : List Ex} {l : List Vo} {last : Int} (h6 : l.length ≤ 6) (h : vgo next e last l = true) : TinyV l := by
  refine ⟨h6, fun v hv => ?_⟩
  obtain ⟨hi, _⟩ := vgo_each h v hv
  simp only [itemsB, Bool.and_eq_true, decide_eq_true_eq] at hi
  refine ⟨hi.1, fun x hx => ?_⟩
  have hc := igo_each hi.2 x hx
  have hp : partsOkB x.ps = true := by
    unfold contentO at hc
    split at hc
    · rename_i hh; exact hh.1
    · cases hc
  obtain ⟨q1, q2, _⟩ := partsOkB_all hp
  exact ⟨q1, fun p hp' => partOk_nonneg (q2 p hp')⟩
theorem atG_any (addr : Int) : ∀ (l : List Ex) (k : Nat), decide (atG addr k l < 0) = !(l.any (fun x => x.a == addr))
  | [], k => by simp [atG]
  | x :: r, k => by
    cases hx : (x.a == addr)
    · simp only [atG, hx, Bool.false_eq_true, if_false, List.any_cons, Bool.false_or]; exact atG_any addr r (k + 1)
    · simp only [atG, hx, if_true, List.any_cons, Bool.true_or, Bool.not_true, decide_eq_false_iff_not]; omega
end Go.Proofs.YtigldeccfpkdmaaGreatDoor
namespace Go.Proofs.YtigldeccfpkdmaaGreatDoor
open Go.RowKit Go.BigFrame
set_option maxHeartbeats 2000000 in
set_option maxRecDepth 100000 in
theorem impl_itemsOk (B : Nat) (its : List It) (pa : Option Addr) (pn pc : Nat) (ea : Option Addr) (en ec : Nat) (e : List Ex) (w : World) (h : ItsAt B w pa pn its) (he : ExsAt w ea en e) (hstr : Strs e) (hen : en ≤ 4194304) (hpn : pn ≤ 4194304) (hI : StrI its) :
    Calls Tryz.prog 165 #[.slice pa pn pc, .slice ea en ec] w fun x w' => x = .returned (.bool (itemsB its e)) ∧ Below w.heap.size w w' := by
  have hlen : Hid (its.length = pn) := h.len
  have hR : Hid (itemsB its e = (decide (its.length ≤ 5) && igo e none its)) := rfl
  generalize itemsB its e = R at *
  by_cases h5 : pn ≤ 5
  · rw [hlen.out, decide_eq_true h5, Bool.true_and] at hR
    go_enter Tryz.func165, Tryz.ntmps165
    go_wp2_with fail
    go_loopw [14] (fun ix wr => ∃ (k : Nat), k ≤ pn ∧ ix = .int .i64 k ∧ Hid (R = igo e (prevI its k) (its.drop k)) ∧ Below w.heap.size w wr) (fun ix _ => pn - (intOf ix).toNat)
    case atStart => exact ⟨0, Nat.zero_le _, rfl, hR, Below.refl _ _⟩
    case round =>
      obtain ⟨k, hk, rfl, hv, hB⟩ := hrel
      by_cases hlt : k < pn
      · obtain ⟨b, o, x, qa, qn, qc, rfl, hx, c0, c1, hP, _, _, _⟩ := its_at (h.below hB) hlt
        have hst : Hid (R = (nameB x.nm && (match prevI its k with | none => true | some p => bl p.nm.toList x.nm.toList) && (contentO x.ps e).isSome && igo e (prevI its (k + 1)) (its.drop (k + 1)))) := by
          show _ = _
          rw [hv.out, drop_at hx, prevI_succ, hx]
          rfl
        obtain ⟨m1, m2⟩ := hI x (List.mem_of_getElem? hx)
        have hqn : x.ps.length = qn := hP.len
        rw [hqn] at m2
        have hk1 : (k : Int) < pn := by omega
        have hk2 : (0 : Int) ≤ k := by omega
        have hprev : 0 < k → ∃ y, prevI its k = some y ∧ wr.cell? ⟨b, o + (k - 1) * 2, none⟩ = some (.string y.nm) := fun h0 => by
          obtain ⟨b', o', y, _, _, _, hbo, hy, d0, _⟩ := its_at (h.below hB) (show k - 1 < pn by omega)
          obtain ⟨rfl, rfl⟩ : b = b' ∧ o = o' := by simpa using hbo
          exact ⟨y, by unfold prevI; rw [if_neg (by omega)]; exact hy, d0⟩
        have hend : ∀ u : World, Below wr.heap.size wr u → Below w.heap.size w u := fun u hu => chain hB hu
        clear hx hv hqn
        have hname := fun u : World => impl_NameOk x.nm u m1
        have hW0 : Below wr.heap.size wr (wr.alloc (.cells #[.string x.nm, .slice qa qn qc] 139)) := by go_grown
        have X := Blk.new wr #[.string x.nm, .slice qa qn qc] 139
        have X1 : (wr.alloc (.cells #[.string x.nm, .slice qa qn qc] 139)).cell? ⟨wr.heap.size, 1, none⟩ = some (.slice qa qn qc) := X.cell 1
        have x0 : ∀ g : Grw (wr.alloc (.cells #[.string x.nm, .slice qa qn qc] 139)), g.w.cell? ⟨wr.heap.size, 0, none⟩ = some (.string x.nm) := gcell (X.cell 0)
        have hne := grw_ne (wr.alloc (.cells #[.string x.nm, .slice qa qn qc] 139))
        cases hnx : nameB x.nm
        · rw [hnx] at hst
          go_wp2_with fail
          refine wp_region_grow (by kernel_rfl) (by kernel_rfl) ?_
          repeat (go_big_quiet_step (first | (go_at_call 164; have qq := hname; rw [hnx] at qq; exact grow_of_same (qq _))))
          refine wpQuiet_nil ?_
          intro w2 hx
          have hB2 := chain hW0 (grw_out hx)
          clear hx
          go_wp2
          go_returns
          exact ⟨by rw [hst.out]; simp, hend _ hB2⟩
        · rw [hnx, Bool.true_and] at hst
          have hfin : ∀ w2 : World, Below (wr.alloc (.cells #[.string x.nm, .slice qa qn qc] 139)).heap.size (wr.alloc (.cells #[.string x.nm, .slice qa qn qc] 139)) w2 → Below wr.heap.size wr w2 ∧ w2.cell? ⟨wr.heap.size, 1, none⟩ = some (.slice qa qn qc) := fun w2 h2 => ⟨chain hW0 h2, bcell h2 X1⟩
          by_cases hk0 : 0 < k
          · obtain ⟨y, hy, d0⟩ := hprev hk0
            have y0 := gcell (bcell hW0 d0)
            rw [hy] at hst
            have hk0' : decide ((0 : Int) < (k : Int)) = true := decide_eq_true (by omega)
            have hk9 : ((k : Int) - 1).toNat = k - 1 := by omega
            cases hbl : bl y.nm.toList x.nm.toList
            · simp only [hbl, Bool.false_and] at hst
              go_wp2_with fail
              refine wp_region_grow (by kernel_rfl) (by kernel_rfl) ?_
              repeat (go_big_quiet_step (first | (go_at_call 164; have qq := hname; rw [hnx] at qq; exact grow_of_same (qq _))))
              refine wpQuiet_nil ?_
              intro w2 hx
              obtain ⟨hB2, x1'⟩ := hfin _ (grw_out hx)
              clear hx
              go_wp2
              go_returns
              exact ⟨by rw [hst.out]; rfl, hend _ hB2⟩
            · simp only [hbl, Bool.true_and] at hst
              go_wp2_with fail
              refine wp_region_grow (by kernel_rfl) (by kernel_rfl) ?_
              repeat (go_big_quiet_step (first | (go_at_call 164; have qq := hname; rw [hnx] at qq; exact grow_of_same (qq _))))
              refine wpQuiet_nil ?_
              intro w2 hx
              obtain ⟨hB2, x1'⟩ := hfin _ (grw_out hx)
              clear hx
              go_wp2_with fail
              refine (impl_Content qa qn qc x.ps ea en ec e _ (hP.below hB2) (he.below (hend _ hB2)) hstr m2 hen).mono ?_
              rintro e1 w3 ⟨hret, hB3⟩
              replace hB3 := chain hB2 hB3
              cases hcg : contentO x.ps e with
              | none =>
                rw [hcg] at hret hst
                replace hret : e1 = .returned (.tuple #[.string ⟨#[]⟩, .bool false]) := hret
                subst hret
                clear hcg
                go_wp2
                go_returns
                exact ⟨by rw [hst.out]; rfl, hend _ hB3⟩
              | some s =>
                rw [hcg] at hret hst
                replace hret : e1 = .returned (.tuple #[.string s, .bool true]) := hret
                subst hret
                clear hcg
                go_wp2
                go_roundw
                case rel => exact ⟨k + 1, by omega, by go_num, by show _ = _; rw [hst.out]; rfl, hend _ hB3⟩
                case measure => simp [intOf]; omega
          · have hpv : prevI its k = none := by unfold prevI; rw [if_pos (by omega)]
            have hk0' : decide ((0 : Int) < (k : Int)) = false := decide_eq_false (by omega)
            rw [hpv] at hst
            simp only [Bool.true_and] at hst
            go_wp2_with fail
            refine wp_region_grow (by kernel_rfl) (by kernel_rfl) ?_
            repeat (go_big_quiet_step (first | (go_at_call 164; have qq := hname; rw [hnx] at qq; exact grow_of_same (qq _))))
            refine wpQuiet_nil ?_
            intro w2 hx
            obtain ⟨hB2, x1'⟩ := hfin _ (grw_out hx)
            clear hx
            go_wp2_with fail
            refine (impl_Content qa qn qc x.ps ea en ec e _ (hP.below hB2) (he.below (hend _ hB2)) hstr m2 hen).mono ?_
            rintro e1 w3 ⟨hret, hB3⟩
            replace hB3 := chain hB2 hB3
            cases hcg : contentO x.ps e with
            | none =>
              rw [hcg] at hret hst
              replace hret : e1 = .returned (.tuple #[.string ⟨#[]⟩, .bool false]) := hret
              subst hret
              clear hcg
              go_wp2
              go_returns
              exact ⟨by rw [hst.out]; rfl, hend _ hB3⟩
            | some s =>
              rw [hcg] at hret hst
              replace hret : e1 = .returned (.tuple #[.string s, .bool true]) := hret
              subst hret
              clear hcg
              go_wp2
              go_roundw
              case rel => exact ⟨k + 1, by omega, by go_num, by show _ = _; rw [hst.out]; rfl, hend _ hB3⟩
              case measure => simp [intOf]; omega
      · obtain rfl : k = pn := by omega
        go_wp2
        go_returns
        exact ⟨by rw [hv.out, List.drop_of_length_le (Nat.le_of_eq hlen.out)]; rfl, hB⟩
  · rw [hlen.out, decide_eq_false h5, Bool.false_and] at hR
    go_enter Tryz.func165, Tryz.ntmps165
    go_wp2
    go_returns
    exact ⟨by rw [hR.out]; rfl, Below.refl _ _⟩
end Go.Proofs.YtigldeccfpkdmaaGreatDoor
namespace Go.Proofs.YtigldeccfpkdmaaGreatDoor
open Go.RowKit Go.BigFrame
set_option maxHeartbeats 4000000 in
set_option maxRecDepth 100000 in
theorem impl_volsOk (B : Nat) (size next : Int) (ea : Option Addr) (en ec : Nat) (va : Option Addr) (vn vc : Nat) (ra : Option Addr) (rn rc : Nat) (la : Option Addr) (ln lc : Nat) (ex : List Ex) (vs : List Vo) (w : World) (h1 : ExsAt w ea en ex) (h2 : VsAt B w va vn vs) (z1 : en ≤ 4194304) (z2 : Strs ex) (z3 : vn ≤ 4194304) (z4 : StrV vs) :
    Calls Tryz.prog 100 #[.agg #[.int .i64 size, .int .i64 next, .slice ea en ec, .slice va vn vc, .slice ra rn rc, .slice la ln lc]] w fun x w' => x = .returned (.bool (volsB next vs ex)) ∧ Below w.heap.size w w' := by
  have hlen : Hid (vs.length = vn) := h2.len
  have hR : Hid (volsB next vs ex = (decide (vs.length ≤ 6) && vgo next ex 0 vs)) := rfl
  generalize volsB next vs ex = R at *
  by_cases h6 : vn ≤ 6
  · rw [hlen.out, decide_eq_true h6, Bool.true_and] at hR
    go_enter Tryz.func100, Tryz.ntmps100
    have C := Blk.new w #[.int .i64 size, .int .i64 next, .slice ea en ec, .slice va vn vc, .slice ra rn rc, .slice la ln lc] 26
    go_wp2_with fail
    have hB1 : Below w.heap.size w (w.alloc (.cells #[.int .i64 size, .int .i64 next, .slice ea en ec, .slice va vn vc, .slice ra rn rc, .slice la ln lc] 26)) := by go_grown
    generalize w.alloc (.cells #[.int .i64 size, .int .i64 next, .slice ea en ec, .slice va vn vc, .slice ra rn rc, .slice la ln lc] 26) = W0 at *
    go_loopw [3, 13] (fun lx ix wr => ∃ (k : Nat) (last : Int), k ≤ vn ∧ ix = .int .i64 k ∧ lx = .int .i64 last ∧ Hid (R = vgo next ex last (vs.drop k)) ∧ Blk wr w.heap.size #[.int .i64 size, .int .i64 next, .slice ea en ec, .slice va vn vc, .slice ra rn rc, .slice la ln lc] 26 ∧ Below w.heap.size w wr) (fun _ ix _ => vn - (intOf ix).toNat)
    case atStart => exact ⟨0, 0, Nat.zero_le _, rfl, rfl, hR, C, hB1⟩
    case round =>
      clear hR C hB1
      obtain ⟨k, last, hk, rfl, rfl, hI, C, hB⟩ := hrel
      have d1 := C.cell 1
      have d2 := C.cell 2
      simp only [lgA, lgB, lgC] at d1 d2
      by_cases hlt : k < vn
      · obtain ⟨b, o, x, qa, qn, qc, rfl, hx, e0, e1, e2, e3, hP, _, _⟩ := vs_at (h2.below hB) hlt
        have hst : Hid (R = (decide (last < x.id) && decide (x.id < next) && nameB x.nm && itemsB x.its ex && vgo next ex x.id (vs.drop (k + 1)))) := by
          show _ = _
          rw [hI.out, drop_at hx]; rfl
        obtain ⟨m1, m2, m3⟩ := z4 x (List.mem_of_getElem? hx)
        rw [hP.len] at m2
        have hk1 : (k : Int) < vn := by omega
        have hk2 : (0 : Int) ≤ k := by omega
        clear hx hI
        have hW0 : Below wr.heap.size wr (wr.alloc (.cells #[.int .i64 x.id, .string x.nm, .bool x.fx, .slice qa qn qc] 128)) := by go_grown
        have X := Blk.new wr #[.int .i64 x.id, .string x.nm, .bool x.fx, .slice qa qn qc] 128
        have d1' := bcell hW0 d1
        have d2' := bcell hW0 d2
        clear d1 d2
        by_cases hid : last < x.id
        · by_cases hnb : x.id < next
          · rw [decide_eq_true hid, decide_eq_true hnb, Bool.true_and, Bool.true_and] at hst
            cases hnx : nameB x.nm
            · rw [hnx] at hst
              go_wp2_with fail
              refine (impl_NameOk x.nm _ m1).mono ?_
              rintro e w2 ⟨rfl, rfl⟩
              rw [hnx]
              go_wp2
              go_returns
              exact ⟨by rw [hst.out]; rfl, chain hB hW0⟩
            · rw [hnx, Bool.true_and] at hst
              go_wp2_with fail
              refine (impl_NameOk x.nm _ m1).mono ?_
              rintro e w2 ⟨rfl, rfl⟩
              rw [hnx]
              go_wp2_with fail
              refine (impl_itemsOk B x.its qa qn qc ea en ec ex _ (hP.below hW0) ((h1.below hB).below hW0) z2 z1 m2 m3).mono ?_
              rintro e w2 ⟨rfl, hB2⟩
              have X2 := (X.below hB2).cell 0
              simp only [List.getElem?_toArray, List.getElem?_cons_zero] at X2
              replace hB2 := chain hW0 hB2
              have C2 := C.below hB2
              replace hB2 := chain hB hB2
              cases hik : itemsB x.its ex
              · rw [hik] at hst
                go_wp2
                go_returns
                exact ⟨by rw [hst.out]; rfl, hB2⟩
              · rw [hik, Bool.true_and] at hst
                go_wp2
                go_roundw
                case rel => exact ⟨k + 1, x.id, by omega, by go_num, rfl, hst, C2, hB2⟩
                case measure => simp [intOf]; omega
          · rw [decide_eq_false hnb] at hst
            simp only [Bool.and_false, Bool.false_and] at hst
            go_wp2
            go_returns
            exact ⟨by rw [hst.out]; rfl, chain hB hW0⟩
        · rw [decide_eq_false hid] at hst
          simp only [Bool.false_and] at hst
          go_wp2
          go_returns
          exact ⟨by rw [hst.out]; rfl, chain hB hW0⟩
      · obtain rfl : k = vn := by omega
        go_wp2
        go_returns
        exact ⟨by rw [hI.out, List.drop_of_length_le (Nat.le_of_eq hlen.out)]; rfl, hB⟩
  · rw [hlen.out, decide_eq_false h6, Bool.false_and] at hR
    go_enter Tryz.func100, Tryz.ntmps100
    go_wp2
    go_returns
    exact ⟨by rw [hR.out]; rfl, by go_grown⟩
end Go.Proofs.YtigldeccfpkdmaaGreatDoor
namespace Go.Proofs.YtigldeccfpkdmaaGreatDoor
open Go.Shelf Go.RowKit Go.Lib Go.Sort
def sortC_ren : Go.Shelf.Ren := ⟨fun | 6 => 206 | 15 => 237 | 14 => 236 | 28 => 269 | 29 => 247 | 20 => 261 | 21 => 262 | 22 => 263 | 23 => 264 | 24 => 265 | 25 => 266 | 26 => 267 | 27 => 268 | 46 => 278 | 47 => 279 | 48 => 280 | 49 => 281 | 50 => 282 | 57 => 283 | n => n, fun | 22 => 24 | 24 => 134 | 25 => 263 | 3 => 3 | 39 => 172 | 0 => 0 | 53 => 98 | 55 => 274 | 4 => 4 | 46 => 312 | 45 => 311 | 50 => 316 | 5 => 5 | 9 => 9 | 66 => 330 | 70 => 334 | 76 => 338 | 77 => 339 | n => n, fun | n => n⟩
set_option maxRecDepth 100000 in
theorem sortC : SlLaysF0.n6 Tryz.prog sortC_ren where
  mixed := by kernel_rfl
  f6 := ⟨Tryz.f206.name, by decide +kernel, Tryz.func206.trans (congrArg some (by kernel_rfl))⟩
  f14 := ⟨Tryz.f236.name, by decide +kernel, Tryz.func236.trans (congrArg some (by kernel_rfl))⟩
  f15 := Tryz.func237.trans (congrArg some (by kernel_rfl))
  f20 := ⟨Tryz.f261.name, by decide +kernel, Tryz.func261.trans (congrArg some (by kernel_rfl))⟩
  f21 := ⟨Tryz.f262.name, by decide +kernel, Tryz.func262.trans (congrArg some (by kernel_rfl))⟩
  f22 := ⟨Tryz.f263.name, by decide +kernel, Tryz.func263.trans (congrArg some (by kernel_rfl))⟩
  f23 := ⟨Tryz.f264.name, by decide +kernel, Tryz.func264.trans (congrArg some (by kernel_rfl))⟩
  f24 := ⟨Tryz.f265.name, by decide +kernel, Tryz.func265.trans (congrArg some (by kernel_rfl))⟩
  f25 := ⟨Tryz.f266.name, by decide +kernel, Tryz.func266.trans (congrArg some (by kernel_rfl))⟩
  f26 := ⟨Tryz.f267.name, by decide +kernel, Tryz.func267.trans (congrArg some (by kernel_rfl))⟩
  f27 := ⟨Tryz.f268.name, by decide +kernel, Tryz.func268.trans (congrArg some (by kernel_rfl))⟩
  f28 := Tryz.func269.trans (congrArg some (by kernel_rfl))
  f29 := Tryz.func247.trans (congrArg some (by kernel_rfl))
  f46 := ⟨Tryz.f278.name, by decide +kernel, Tryz.func278.trans (congrArg some (by kernel_rfl))⟩
  f47 := Tryz.func279.trans (congrArg some (by kernel_rfl))
  f48 := Tryz.func280.trans (congrArg some (by kernel_rfl))
  f49 := ⟨Tryz.f281.name, by decide +kernel, Tryz.func281.trans (congrArg some (by kernel_rfl))⟩
  f50 := ⟨Tryz.f282.name, by decide +kernel, Tryz.func282.trans (congrArg some (by kernel_rfl))⟩
  f57 := ⟨Tryz.f283.name, by decide +kernel, Tryz.func283.trans (congrArg some (by kernel_rfl))⟩
  t0 := Tryz.underlying0
  a0 := Tryz.isAgg0
  z0 := Tryz.sizeOf0
  v0 := Tryz.zeroValue0
  t3 := Tryz.underlying3
  a3 := Tryz.isAgg3
  z3 := Tryz.sizeOf3
  v3 := Tryz.zeroValue3
  t4 := Tryz.underlying4
  a4 := Tryz.isAgg4
  z4 := Tryz.sizeOf4
  v4 := Tryz.zeroValue4
  t5 := Tryz.underlying5
  a5 := Tryz.isAgg5
  z5 := Tryz.sizeOf5
  v5 := Tryz.zeroValue5
  t9 := Tryz.underlying9
  a9 := Tryz.isAgg9
  z9 := Tryz.sizeOf9
  v9 := Tryz.zeroValue9
  t22 := Tryz.underlying24
  a22 := Tryz.isAgg24
  z22 := Tryz.sizeOf24
  v22 := Tryz.zeroValue24
  t25 := Tryz.underlying263
  a25 := Tryz.isAgg263
  z25 := Tryz.sizeOf263
  v25 := Tryz.zeroValue263
  t39 := Tryz.underlying172
  a39 := Tryz.isAgg172
  z39 := Tryz.sizeOf172
  v39 := Tryz.zeroValue172
  t45 := Tryz.underlying311
  a45 := Tryz.isAgg311
  z45 := Tryz.sizeOf311
  v45 := Tryz.zeroValue311
  t46 := Tryz.underlying312
  a46 := Tryz.isAgg312
  z46 := Tryz.sizeOf312
  v46 := Tryz.zeroValue312
  t50 := Tryz.underlying316
  a50 := Tryz.isAgg316
  z50 := Tryz.sizeOf316
  v50 := Tryz.zeroValue316
  t53 := Tryz.underlying98
  a53 := Tryz.isAgg98
  z53 := Tryz.sizeOf98
  v53 := Tryz.zeroValue98
  t55 := Tryz.underlying274
  a55 := Tryz.isAgg274
  z55 := Tryz.sizeOf274
  v55 := Tryz.zeroValue274
  t66 := Tryz.underlying330
  a66 := Tryz.isAgg330
  z66 := Tryz.sizeOf330
  v66 := Tryz.zeroValue330
  t70 := Tryz.underlying334
  a70 := Tryz.isAgg334
  z70 := Tryz.sizeOf334
  v70 := Tryz.zeroValue334
  t76 := Tryz.underlying338
  a76 := Tryz.isAgg338
  z76 := Tryz.sizeOf338
  v76 := Tryz.zeroValue338
  t77 := Tryz.underlying339
  a77 := Tryz.isAgg339
  z77 := Tryz.sizeOf339
  v77 := Tryz.zeroValue339
end Go.Proofs.YtigldeccfpkdmaaGreatDoor
namespace Go.Proofs.YtigldeccfpkdmaaGreatDoor
open Go.ChangeMaps Go.MapKept Go.WideElems
open Go.Maps (Keyed)
/-- The entry at a key, made where there is none: as if what is there had been stored there. -/
theorem entry_stored {H : Type} {P : Program} {w : World} {t k e : TypeId} {R : Value → Option (DataW H × List MemPlace)} {b : Nat} {es : Array MapEntry} {clock : Nat} (K : WideMaps.KeyLaw P k) (ht : P.underlying t = some (.map k e)) {z : Value} (hz : ∀ u : World, (zeroValue e).run P u = .ok z u) (hb : w.heap[b]? = some (.map es clock)) (F : Fit P k R es clock)
    {key : Value} {kl : Lit} (hkey : keyOf P k key = some kl) :
    ∃ (v0 : Value) (st : Value) (w1 : World), (Instr.mapEntry t (.map (some b)) key).run P w = .ok (.tuple #[v0, st]) w1 ∧ (Instr.mapUpdate t (.map (some b)) key v0).run P w = .ok () w1 ∧ (Instr.lookup t (.map (some b)) key false).run P w = .ok v0 w := by
  rcases K.find w hkey es.toList F.keys with ⟨h1, h2⟩ | ⟨j, e0, h1, h2, h3⟩
  · refine ⟨z, goInt clock, setBlock w b (.map (es.push ⟨key, z, clock⟩) (clock + 1)), ?_, ?_, ?_⟩
    · simp [Instr.mapEntry, run_underlying ht, MapKept.run_getObj_map hb, K.check w false hkey, h1, hz, MapKept.run_setObj_map _ hb, Result.andThen, setBlock]
    · simp [Instr.mapUpdate, run_underlying ht, MapKept.run_getObj_map hb, K.check w false hkey, h1, MapKept.run_setObj_map _ hb, Result.andThen, setBlock]
    · simp [Instr.lookup, run_underlying ht, MapKept.run_getObj_map hb, K.check w _ hkey, h1, hz, Result.andThen]
  · have hj : es[j]? = some e0 := by simpa using h2
    have hsame : es.modify j (fun e => { e with key := key }) = es := by
      apply Array.ext'
      rw [Array.toList_modify, modify_eq_set _ _ _ _ h2]
      have : ({ e0 with key := key } : MapEntry) = e0 := by rw [← h3]
      rw [this]
      exact set_self _ _ _ h2
    have hsame2 : es.modify j (fun e' => { e' with key := key, val := e0.val }) = es := by
      apply Array.ext'
      rw [Array.toList_modify, modify_eq_set _ _ _ _ h2]
      have : ({ e0 with key := key, val := e0.val } : MapEntry) = e0 := by rw [← h3]
      rw [this]
      exact set_self _ _ _ h2
    refine ⟨e0.val, goInt e0.born, setBlock w b (.map es clock), ?_, ?_, ?_⟩
    · simp [Instr.mapEntry, run_underlying ht, MapKept.run_getObj_map hb, K.check w false hkey, h1, hj, h3, K.stays w hkey, hsame, MapKept.run_setObj_map _ hb, Result.andThen, setBlock]
    · simp [Instr.mapUpdate, run_underlying ht, MapKept.run_getObj_map hb, K.check w false hkey, h1, hj, h3, K.stays w hkey, hsame2, MapKept.run_setObj_map _ hb, Result.andThen, setBlock]
    · simp [Instr.lookup, run_underlying ht, MapKept.run_getObj_map hb, K.check w _ hkey, h1, Result.andThen]
theorem run_det {α : Type} {P : Program} {m : Sem α} {w : World} {x y : α} {u v : World} (h : m.run P w = .ok x u) (h' : m.run P w = .ok y v) : x = y ∧ u = v := by
  rw [h] at h'
  cases h'
  exact ⟨rfl, rfl⟩
theorem setBlock_twice (w : World) (b : Nat) (x y : Obj) : setBlock (setBlock w b x) b y = setBlock w b y := by
  simp [setBlock]
/-- 'm[k] += x' at elements of an integer kind: what the look-up, the entry and the store come to. -/
theorem own_entry {H : Type} {P : Program} {w : World} {t k e : TypeId} {q : IntKind} {b n : Nat} {D : DataW H} (h : w.ownsMap P k (plainElem P e) b n D) (K : WideMaps.KeyLaw P k) (ht : P.underlying t = some (.map k e)) (he : P.underlying e = some (.int q)) (hz : ∀ u : World, (zeroValue e).run P u = .ok (.int q 0) u) (hn : n + 1 < maxLen)
    {key : Value} {kl : Lit} (hkey : keyOf P k key = some kl) :
    ∃ (c : Int) (st : Nat) (w1 : World), (Instr.lookup t (.map (some b)) key false).run P w = .ok (.int q c) w ∧ D.atKey kl (.lit (.int q 0)) = .lit (.int q c) ∧ (Lit.int q c).wf = true ∧
      (Instr.mapEntry t (.map (some b)) key).run P w = .ok (.tuple #[.int q c, .int .i64 st]) w1 ∧ (Instr.lookup t (.map (some b)) key false).run P w1 = .ok (.int q c) w1 ∧ w.grownBy w1 (some b) ∧ w1.heap.size = w.heap.size ∧
      ∀ x : Int, (Lit.int q x).wf = true → ∃ w3, (Instr.entryStore t (.map (some b)) (.int .i64 st) (.int q x)).run P w1 = .ok () w3 ∧ w3.ownsMap P k (plainElem P e) b (n + 1) (D.put kl (.lit (.int q x))) ∧ w.grownBy w3 (some b) ∧ w3.heap.size = w.heap.size := by
  have K' := Keyed.of_law K
  have h0 := h
  obtain ⟨es, clock, hb, F, hs, hD⟩ := h
  obtain ⟨c, hl, hat, hwc⟩ := h0.lookup_int K' ht he (hz w) hkey
  obtain ⟨v0, st', w1', hE', hU', hL'⟩ := entry_stored K ht hz hb F hkey
  obtain ⟨v1, st, es1, clock1, hE, _, hS⟩ := entry_then_store K ht hz hb F hkey
  obtain ⟨rfl, _⟩ := run_det hL' hl
  obtain ⟨e1, rfl⟩ := run_det hE' hE
  obtain ⟨rfl, rfl⟩ : Value.int q c = v1 ∧ st' = goInt st := by simpa using e1
  obtain ⟨u1, hu1, own1, g1⟩ := h0.update K' ht (by omega) hkey (plainElem_int he hwc)
  obtain ⟨_, rfl⟩ := run_det hU' hu1
  obtain ⟨c', hl1, hat1, _⟩ := own1.lookup_int K' ht he (hz _) hkey
  have hcc : c' = c := by
    rw [Maps.atKey_put_same h0.isMap (K'.key hkey)] at hat1
    injection hat1 with e2
    injection e2 with _ e3
    exact e3.symm
  subst hcc
  refine ⟨c', st, _, hl, hat, hwc, hE, hl1, g1, by simp [setBlock], fun x hx => ?_⟩
  obtain ⟨es', clock', hst, hup⟩ := hS (setBlock w b (.map es1 clock1)) (.int q x) (heap_setBlock_same hb _)
  obtain ⟨u2, hu2, own2, g2⟩ := h0.update K' ht (by omega) hkey (plainElem_int he hx)
  obtain ⟨_, rfl⟩ := run_det hup hu2
  refine ⟨_, hst, ?_, ?_, ?_⟩
  · rw [setBlock_twice]; exact own2
  · rw [setBlock_twice]; exact g2
  · simp [setBlock]
end Go.Proofs.YtigldeccfpkdmaaGreatDoor
