/- itemsOk and volsOk of the program. -/
import Derived.Test.YtnjefbkhibfgmaaGreatProg
import Derived.Test.YtnjefbkhibfgmaaGreatLDAskedx10
import Derived.Test.YtnjefbkhibfgmaaGreatLDAskedx11
import Derived.Shelf.SlSortCmp.NoneTotal
import Derived.Maps.RangeWalk
import Derived.Maps.Views
import Derived.WideKeyEntry
import Derived.DeepKeys4
import Derived.Test.YtnjefbkhibfgmaaGreatLDAskedx03
import Derived.Test.YtnjefbkhibfgmaaGreatLDAskedx00
import Derived.Test.YtnjefbkhibfgmaaGreatLDAskedx09
import Derived.Test.YtnjefbkhibfgmaaGreatLDAskedx05
namespace Go.Proofs.YtnjefbkhibfgmaaGreat
open Go.RowKit Go.BigFrame
set_option maxHeartbeats 2000000 in
set_option maxRecDepth 100000 in
theorem impl_itemsOk (B : Nat) (its : List It) (pa : Option Addr) (pn pc : Nat) (ea : Option Addr) (en ec : Nat) (e : List Ex) (w : World) (h : ItsAt B w pa pn its) (he : ExsAt w ea en e) (hstr : Strs e) (hen : en ≤ 4194304) (hpn : pn ≤ 4194304) (hI : StrI its) :
    Calls Tryz.prog 70 #[.slice pa pn pc, .slice ea en ec] w fun x w' => x = .returned (.bool (itemsB its e)) ∧ Below w.heap.size w w' := by
  have hlen : Hid (its.length = pn) := h.len
  have hR : Hid (itemsB its e = (decide (its.length ≤ 5) && igo e none its)) := rfl
  generalize itemsB its e = R at *
  by_cases h5 : pn ≤ 5
  · rw [hlen.out, decide_eq_true h5, Bool.true_and] at hR
    go_enter Tryz.func70, Tryz.ntmps70
    go_wp2_with fail
    go_loopw [14] (fun ix wr => ∃ (k : Nat), k ≤ pn ∧ ix = .int .i64 k ∧ Hid (R = igo e (prevI its k) (its.drop k)) ∧ Below w.heap.size w wr) (fun ix _ => pn - (intOf ix).toNat)
    case atStart => exact ⟨0, Nat.zero_le _, rfl, hR, Below.refl _ _⟩
    case round =>
      obtain ⟨k, hk, rfl, hv, hB⟩ := hrel
      by_cases hlt : k < pn
      · obtain ⟨b, o, x, qa, qn, qc, rfl, hx, c0, c1, hP, _, _, _⟩ := its_at (h.below hB) hlt
        have hst : Hid (R = (nameB x.nm && (match prevI its k with | none => true | some p => bl p.nm.toList x.nm.toList) && (contentO x.ps e).isSome && igo e (prevI its (k + 1)) (its.drop (k + 1)))) := by
          show _ = _
          rw [hv.out, drop_at hx, prevI_succ, hx]
          rfl
        obtain ⟨m1, m2⟩ := hI x (List.mem_of_getElem? hx)
        have hqn : x.ps.length = qn := hP.len
        rw [hqn] at m2
        have hk1 : (k : Int) < pn := by omega
        have hk2 : (0 : Int) ≤ k := by omega
        have hprev : 0 < k → ∃ y, prevI its k = some y ∧ wr.cell? ⟨b, o + (k - 1) * 2, none⟩ = some (.string y.nm) := fun h0 => by
          obtain ⟨b', o', y, _, _, _, hbo, hy, d0, _⟩ := its_at (h.below hB) (show k - 1 < pn by omega)
          obtain ⟨rfl, rfl⟩ : b = b' ∧ o = o' := by simpa using hbo
          exact ⟨y, by unfold prevI; rw [if_neg (by omega)]; exact hy, d0⟩
        have hend : ∀ u : World, Below wr.heap.size wr u → Below w.heap.size w u := fun u hu => chain hB hu
        clear hx hv hqn
        have hname := fun u : World => impl_NameOk x.nm u m1
        have hW0 : Below wr.heap.size wr (wr.alloc (.cells #[.string x.nm, .slice qa qn qc] 44)) := by go_grown
        have X := Blk.new wr #[.string x.nm, .slice qa qn qc] 44
        have X1 : (wr.alloc (.cells #[.string x.nm, .slice qa qn qc] 44)).cell? ⟨wr.heap.size, 1, none⟩ = some (.slice qa qn qc) := X.cell 1
        have x0 : ∀ g : Grw (wr.alloc (.cells #[.string x.nm, .slice qa qn qc] 44)), g.w.cell? ⟨wr.heap.size, 0, none⟩ = some (.string x.nm) := gcell (X.cell 0)
        have hne := grw_ne (wr.alloc (.cells #[.string x.nm, .slice qa qn qc] 44))
        cases hnx : nameB x.nm
        · rw [hnx] at hst
          go_wp2_with fail
          refine wp_region_grow (by kernel_rfl) (by kernel_rfl) ?_
          repeat (go_big_quiet_step (first | (go_at_call 69; have qq := hname; rw [hnx] at qq; exact grow_of_same (qq _))))
          refine wpQuiet_nil ?_
          intro w2 hx
          have hB2 := chain hW0 (grw_out hx)
          clear hx
          go_wp2
          go_returns
          exact ⟨by rw [hst.out]; simp, hend _ hB2⟩
        · rw [hnx, Bool.true_and] at hst
          have hfin : ∀ w2 : World, Below (wr.alloc (.cells #[.string x.nm, .slice qa qn qc] 44)).heap.size (wr.alloc (.cells #[.string x.nm, .slice qa qn qc] 44)) w2 → Below wr.heap.size wr w2 ∧ w2.cell? ⟨wr.heap.size, 1, none⟩ = some (.slice qa qn qc) := fun w2 h2 => ⟨chain hW0 h2, bcell h2 X1⟩
          by_cases hk0 : 0 < k
          · obtain ⟨y, hy, d0⟩ := hprev hk0
            have y0 := gcell (bcell hW0 d0)
            rw [hy] at hst
            have hk0' : decide ((0 : Int) < (k : Int)) = true := decide_eq_true (by omega)
            have hk9 : ((k : Int) - 1).toNat = k - 1 := by omega
            cases hbl : bl y.nm.toList x.nm.toList
            · simp only [hbl, Bool.false_and] at hst
              go_wp2_with fail
              refine wp_region_grow (by kernel_rfl) (by kernel_rfl) ?_
              repeat (go_big_quiet_step (first | (go_at_call 69; have qq := hname; rw [hnx] at qq; exact grow_of_same (qq _))))
              refine wpQuiet_nil ?_
              intro w2 hx
              obtain ⟨hB2, x1'⟩ := hfin _ (grw_out hx)
              clear hx
              go_wp2
              go_returns
              exact ⟨by rw [hst.out]; rfl, hend _ hB2⟩
            · simp only [hbl, Bool.true_and] at hst
              go_wp2_with fail
              refine wp_region_grow (by kernel_rfl) (by kernel_rfl) ?_
              repeat (go_big_quiet_step (first | (go_at_call 69; have qq := hname; rw [hnx] at qq; exact grow_of_same (qq _))))
              refine wpQuiet_nil ?_
              intro w2 hx
              obtain ⟨hB2, x1'⟩ := hfin _ (grw_out hx)
              clear hx
              go_wp2_with fail
              refine (impl_Content qa qn qc x.ps ea en ec e _ (hP.below hB2) (he.below (hend _ hB2)) hstr m2 hen).mono ?_
              rintro e1 w3 ⟨hret, hB3⟩
              replace hB3 := chain hB2 hB3
              cases hcg : contentO x.ps e with
              | none =>
                rw [hcg] at hret hst
                replace hret : e1 = .returned (.tuple #[.string ⟨#[]⟩, .bool false]) := hret
                subst hret
                clear hcg
                go_wp2
                go_returns
                exact ⟨by rw [hst.out]; rfl, hend _ hB3⟩
              | some s =>
                rw [hcg] at hret hst
                replace hret : e1 = .returned (.tuple #[.string s, .bool true]) := hret
                subst hret
                clear hcg
                go_wp2
                go_roundw
                case rel => exact ⟨k + 1, by omega, by go_num, by show _ = _; rw [hst.out]; rfl, hend _ hB3⟩
                case measure => simp [intOf]; omega
          · have hpv : prevI its k = none := by unfold prevI; rw [if_pos (by omega)]
            have hk0' : decide ((0 : Int) < (k : Int)) = false := decide_eq_false (by omega)
            rw [hpv] at hst
            simp only [Bool.true_and] at hst
            go_wp2_with fail
            refine wp_region_grow (by kernel_rfl) (by kernel_rfl) ?_
            repeat (go_big_quiet_step (first | (go_at_call 69; have qq := hname; rw [hnx] at qq; exact grow_of_same (qq _))))
            refine wpQuiet_nil ?_
            intro w2 hx
            obtain ⟨hB2, x1'⟩ := hfin _ (grw_out hx)
            clear hx
            go_wp2_with fail
            refine (impl_Content qa qn qc x.ps ea en ec e _ (hP.below hB2) (he.below (hend _ hB2)) hstr m2 hen).mono ?_
            rintro e1 w3 ⟨hret, hB3⟩
            replace hB3 := chain hB2 hB3
            cases hcg : contentO x.ps e with
            | none =>
              rw [hcg] at hret hst
              replace hret : e1 = .returned (.tuple #[.string ⟨#[]⟩, .bool false]) := hret
              subst hret
              clear hcg
              go_wp2
              go_returns
              exact ⟨by rw [hst.out]; rfl, hend _ hB3⟩
            | some s =>
              rw [hcg] at hret hst
              replace hret : e1 = .returned (.tuple #[.string s, .bool true]) := hret
              subst hret
              clear hcg
              go_wp2
              go_roundw
              case rel => exact ⟨k + 1, by omega, by go_num, by show _ = _; rw [hst.out]; rfl, hend _ hB3⟩
              case measure => simp [intOf]; omega
      · obtain rfl : k = pn := by omega
        go_wp2
        go_returns
        exact ⟨by rw [hv.out, List.drop_of_length_le (Nat.le_of_eq hlen.out)]; rfl, hB⟩
  · rw [hlen.out, decide_eq_false h5, Bool.false_and] at hR
    go_enter Tryz.func70, Tryz.ntmps70
    go_wp2
    go_returns
    exact ⟨by rw [hR.out]; rfl, Below.refl _ _⟩
end Go.Proofs.YtnjefbkhibfgmaaGreat
namespace Go.Proofs.YtnjefbkhibfgmaaGreat
open Go.RowKit Go.BigFrame
set_option maxHeartbeats 4000000 in
set_option maxRecDepth 100000 in
theorem impl_volsOk (B : Nat) (size next : Int) (ea : Option Addr) (en ec : Nat) (va : Option Addr) (vn vc : Nat) (ra : Option Addr) (rn rc : Nat) (la : Option Addr) (ln lc : Nat) (ex : List Ex) (vs : List Vo) (w : World) (h1 : ExsAt w ea en ex) (h2 : VsAt B w va vn vs) (z1 : en ≤ 4194304) (z2 : Strs ex) (z3 : vn ≤ 4194304) (z4 : StrV vs) :
    Calls Tryz.prog 32 #[.agg #[.int .i64 size, .int .i64 next, .slice ea en ec, .slice va vn vc, .slice ra rn rc, .slice la ln lc]] w fun x w' => x = .returned (.bool (volsB next vs ex)) ∧ Below w.heap.size w w' := by
  have hlen : Hid (vs.length = vn) := h2.len
  have hR : Hid (volsB next vs ex = (decide (vs.length ≤ 6) && vgo next ex 0 vs)) := rfl
  generalize volsB next vs ex = R at *
  by_cases h6 : vn ≤ 6
  · rw [hlen.out, decide_eq_true h6, Bool.true_and] at hR
    go_enter Tryz.func32, Tryz.ntmps32
    have C := Blk.new w #[.int .i64 size, .int .i64 next, .slice ea en ec, .slice va vn vc, .slice ra rn rc, .slice la ln lc] 28
    go_wp2_with fail
    have hB1 : Below w.heap.size w (w.alloc (.cells #[.int .i64 size, .int .i64 next, .slice ea en ec, .slice va vn vc, .slice ra rn rc, .slice la ln lc] 28)) := by go_grown
    generalize w.alloc (.cells #[.int .i64 size, .int .i64 next, .slice ea en ec, .slice va vn vc, .slice ra rn rc, .slice la ln lc] 28) = W0 at *
    go_loopw [3, 13] (fun lx ix wr => ∃ (k : Nat) (last : Int), k ≤ vn ∧ ix = .int .i64 k ∧ lx = .int .i64 last ∧ Hid (R = vgo next ex last (vs.drop k)) ∧ Blk wr w.heap.size #[.int .i64 size, .int .i64 next, .slice ea en ec, .slice va vn vc, .slice ra rn rc, .slice la ln lc] 28 ∧ Below w.heap.size w wr) (fun _ ix _ => vn - (intOf ix).toNat)
    case atStart => exact ⟨0, 0, Nat.zero_le _, rfl, rfl, hR, C, hB1⟩
    case round =>
      clear hR C hB1
      obtain ⟨k, last, hk, rfl, rfl, hI, C, hB⟩ := hrel
      have d1 := C.cell 1
      have d2 := C.cell 2
      simp only [lgA, lgB, lgC] at d1 d2
      by_cases hlt : k < vn
      · obtain ⟨b, o, x, qa, qn, qc, rfl, hx, e0, e1, e2, e3, hP, _, _⟩ := vs_at (h2.below hB) hlt
        have hst : Hid (R = (decide (last < x.id) && decide (x.id < next) && nameB x.nm && itemsB x.its ex && vgo next ex x.id (vs.drop (k + 1)))) := by
          show _ = _
          rw [hI.out, drop_at hx]; rfl
        obtain ⟨m1, m2, m3⟩ := z4 x (List.mem_of_getElem? hx)
        rw [hP.len] at m2
        have hk1 : (k : Int) < vn := by omega
        have hk2 : (0 : Int) ≤ k := by omega
        clear hx hI
        have hW0 : Below wr.heap.size wr (wr.alloc (.cells #[.int .i64 x.id, .string x.nm, .bool x.fx, .slice qa qn qc] 41)) := by go_grown
        have X := Blk.new wr #[.int .i64 x.id, .string x.nm, .bool x.fx, .slice qa qn qc] 41
        have d1' := bcell hW0 d1
        have d2' := bcell hW0 d2
        clear d1 d2
        by_cases hid : last < x.id
        · by_cases hnb : x.id < next
          · rw [decide_eq_true hid, decide_eq_true hnb, Bool.true_and, Bool.true_and] at hst
            cases hnx : nameB x.nm
            · rw [hnx] at hst
              go_wp2_with fail
              refine (impl_NameOk x.nm _ m1).mono ?_
              rintro e w2 ⟨rfl, rfl⟩
              rw [hnx]
              go_wp2
              go_returns
              exact ⟨by rw [hst.out]; rfl, chain hB hW0⟩
            · rw [hnx, Bool.true_and] at hst
              go_wp2_with fail
              refine (impl_NameOk x.nm _ m1).mono ?_
              rintro e w2 ⟨rfl, rfl⟩
              rw [hnx]
              go_wp2_with fail
              refine (impl_itemsOk B x.its qa qn qc ea en ec ex _ (hP.below hW0) ((h1.below hB).below hW0) z2 z1 m2 m3).mono ?_
              rintro e w2 ⟨rfl, hB2⟩
              have X2 := (X.below hB2).cell 0
              simp only [List.getElem?_toArray, List.getElem?_cons_zero] at X2
              replace hB2 := chain hW0 hB2
              have C2 := C.below hB2
              replace hB2 := chain hB hB2
              cases hik : itemsB x.its ex
              · rw [hik] at hst
                go_wp2
                go_returns
                exact ⟨by rw [hst.out]; rfl, hB2⟩
              · rw [hik, Bool.true_and] at hst
                go_wp2
                go_roundw
                case rel => exact ⟨k + 1, x.id, by omega, by go_num, rfl, hst, C2, hB2⟩
                case measure => simp [intOf]; omega
          · rw [decide_eq_false hnb] at hst
            simp only [Bool.and_false, Bool.false_and] at hst
            go_wp2
            go_returns
            exact ⟨by rw [hst.out]; rfl, chain hB hW0⟩
        · rw [decide_eq_false hid] at hst
          simp only [Bool.false_and] at hst
          go_wp2
          go_returns
          exact ⟨by rw [hst.out]; rfl, chain hB hW0⟩
      · obtain rfl : k = vn := by omega
        go_wp2
        go_returns
        exact ⟨by rw [hI.out, List.drop_of_length_le (Nat.le_of_eq hlen.out)]; rfl, hB⟩
  · rw [hlen.out, decide_eq_false h6, Bool.false_and] at hR
    go_enter Tryz.func32, Tryz.ntmps32
    go_wp2
    go_returns
    exact ⟨by rw [hR.out]; rfl, by go_grown⟩
end Go.Proofs.YtnjefbkhibfgmaaGreat
namespace Go.Proofs.YtnjefbkhibfgmaaGreat
open Go.Shelf Go.RowKit Go.Lib Go.Sort
def sortC_ren : Go.Shelf.Ren := ⟨fun | 6 => 78 | 15 => 96 | 14 => 95 | 28 => 118 | 29 => 119 | 20 => 110 | 21 => 111 | 22 => 112 | 23 => 113 | 24 => 114 | 25 => 115 | 26 => 116 | 27 => 117 | 46 => 127 | 47 => 128 | 48 => 129 | 49 => 130 | 50 => 131 | 57 => 135 | n => n, fun | 22 => 26 | 24 => 38 | 25 => 114 | 3 => 3 | 39 => 130 | 0 => 0 | 53 => 150 | 55 => 134 | 4 => 4 | 46 => 143 | 45 => 142 | 50 => 147 | 5 => 5 | 9 => 9 | 66 => 160 | 70 => 163 | 76 => 168 | 77 => 169 | n => n, fun | n => n⟩
set_option maxRecDepth 100000 in
theorem sortC : SlLaysF0.n6 Tryz.prog sortC_ren where
  mixed := by kernel_rfl
  f6 := ⟨Tryz.f78.name, by decide +kernel, Tryz.func78.trans (congrArg some (by kernel_rfl))⟩
  f14 := ⟨Tryz.f95.name, by decide +kernel, Tryz.func95.trans (congrArg some (by kernel_rfl))⟩
  f15 := Tryz.func96.trans (congrArg some (by kernel_rfl))
  f20 := ⟨Tryz.f110.name, by decide +kernel, Tryz.func110.trans (congrArg some (by kernel_rfl))⟩
  f21 := ⟨Tryz.f111.name, by decide +kernel, Tryz.func111.trans (congrArg some (by kernel_rfl))⟩
  f22 := ⟨Tryz.f112.name, by decide +kernel, Tryz.func112.trans (congrArg some (by kernel_rfl))⟩
  f23 := ⟨Tryz.f113.name, by decide +kernel, Tryz.func113.trans (congrArg some (by kernel_rfl))⟩
  f24 := ⟨Tryz.f114.name, by decide +kernel, Tryz.func114.trans (congrArg some (by kernel_rfl))⟩
  f25 := ⟨Tryz.f115.name, by decide +kernel, Tryz.func115.trans (congrArg some (by kernel_rfl))⟩
  f26 := ⟨Tryz.f116.name, by decide +kernel, Tryz.func116.trans (congrArg some (by kernel_rfl))⟩
  f27 := ⟨Tryz.f117.name, by decide +kernel, Tryz.func117.trans (congrArg some (by kernel_rfl))⟩
  f28 := Tryz.func118.trans (congrArg some (by kernel_rfl))
  f29 := Tryz.func119.trans (congrArg some (by kernel_rfl))
  f46 := ⟨Tryz.f127.name, by decide +kernel, Tryz.func127.trans (congrArg some (by kernel_rfl))⟩
  f47 := Tryz.func128.trans (congrArg some (by kernel_rfl))
  f48 := Tryz.func129.trans (congrArg some (by kernel_rfl))
  f49 := ⟨Tryz.f130.name, by decide +kernel, Tryz.func130.trans (congrArg some (by kernel_rfl))⟩
  f50 := ⟨Tryz.f131.name, by decide +kernel, Tryz.func131.trans (congrArg some (by kernel_rfl))⟩
  f57 := ⟨Tryz.f135.name, by decide +kernel, Tryz.func135.trans (congrArg some (by kernel_rfl))⟩
  t0 := Tryz.underlying0
  a0 := Tryz.isAgg0
  z0 := Tryz.sizeOf0
  v0 := Tryz.zeroValue0
  t3 := Tryz.underlying3
  a3 := Tryz.isAgg3
  z3 := Tryz.sizeOf3
  v3 := Tryz.zeroValue3
  t4 := Tryz.underlying4
  a4 := Tryz.isAgg4
  z4 := Tryz.sizeOf4
  v4 := Tryz.zeroValue4
  t5 := Tryz.underlying5
  a5 := Tryz.isAgg5
  z5 := Tryz.sizeOf5
  v5 := Tryz.zeroValue5
  t9 := Tryz.underlying9
  a9 := Tryz.isAgg9
  z9 := Tryz.sizeOf9
  v9 := Tryz.zeroValue9
  t22 := Tryz.underlying26
  a22 := Tryz.isAgg26
  z22 := Tryz.sizeOf26
  v22 := Tryz.zeroValue26
  t25 := Tryz.underlying114
  a25 := Tryz.isAgg114
  z25 := Tryz.sizeOf114
  v25 := Tryz.zeroValue114
  t39 := Tryz.underlying130
  a39 := Tryz.isAgg130
  z39 := Tryz.sizeOf130
  v39 := Tryz.zeroValue130
  t45 := Tryz.underlying142
  a45 := Tryz.isAgg142
  z45 := Tryz.sizeOf142
  v45 := Tryz.zeroValue142
  t46 := Tryz.underlying143
  a46 := Tryz.isAgg143
  z46 := Tryz.sizeOf143
  v46 := Tryz.zeroValue143
  t50 := Tryz.underlying147
  a50 := Tryz.isAgg147
  z50 := Tryz.sizeOf147
  v50 := Tryz.zeroValue147
  t53 := Tryz.underlying150
  a53 := Tryz.isAgg150
  z53 := Tryz.sizeOf150
  v53 := Tryz.zeroValue150
  t55 := Tryz.underlying134
  a55 := Tryz.isAgg134
  z55 := Tryz.sizeOf134
  v55 := Tryz.zeroValue134
  t66 := Tryz.underlying160
  a66 := Tryz.isAgg160
  z66 := Tryz.sizeOf160
  v66 := Tryz.zeroValue160
  t70 := Tryz.underlying163
  a70 := Tryz.isAgg163
  z70 := Tryz.sizeOf163
  v70 := Tryz.zeroValue163
  t76 := Tryz.underlying168
  a76 := Tryz.isAgg168
  z76 := Tryz.sizeOf168
  v76 := Tryz.zeroValue168
  t77 := Tryz.underlying169
  a77 := Tryz.isAgg169
  z77 := Tryz.sizeOf169
  v77 := Tryz.zeroValue169
end Go.Proofs.YtnjefbkhibfgmaaGreat
namespace Go.Proofs.YtnjefbkhibfgmaaGreat
open Go.ChangeMaps Go.MapKept Go.WideElems
open Go.Maps (Keyed)
theorem entry_stored {H : Type} {P : Program} {w : World} {t k e : TypeId} {R : Value → Option (DataW H × List MemPlace)} {b : Nat} {es : Array MapEntry} {clock : Nat} (K : WideMaps.KeyLaw P k) (ht : P.underlying t = some (.map k e)) {z : Value} (hz : ∀ u : World, (zeroValue e).run P u = .ok z u) (hb : w.heap[b]? = some (.map es clock)) (F : Fit P k R es clock)
    {key : Value} {kl : Lit} (hkey : keyOf P k key = some kl) :
    ∃ (v0 : Value) (st : Value) (w1 : World), (Instr.mapEntry t (.map (some b)) key).run P w = .ok (.tuple #[v0, st]) w1 ∧ (Instr.mapUpdate t (.map (some b)) key v0).run P w = .ok () w1 ∧ (Instr.lookup t (.map (some b)) key false).run P w = .ok v0 w := by
  rcases K.find w hkey es.toList F.keys with ⟨h1, h2⟩ | ⟨j, e0, h1, h2, h3⟩
  · refine ⟨z, goInt clock, setBlock w b (.map (es.push ⟨key, z, clock⟩) (clock + 1)), ?_, ?_, ?_⟩
    · simp [Instr.mapEntry, run_underlying ht, MapKept.run_getObj_map hb, K.check w false hkey, h1, hz, MapKept.run_setObj_map _ hb, Result.andThen, setBlock]
    · simp [Instr.mapUpdate, run_underlying ht, MapKept.run_getObj_map hb, K.check w false hkey, h1, MapKept.run_setObj_map _ hb, Result.andThen, setBlock]
    · simp [Instr.lookup, run_underlying ht, MapKept.run_getObj_map hb, K.check w _ hkey, h1, hz, Result.andThen]
  · have hj : es[j]? = some e0 := by simpa using h2
    have hsame : es.modify j (fun e => { e with key := key }) = es := by
      apply Array.ext'
      rw [Array.toList_modify, modify_eq_set _ _ _ _ h2]
      have : ({ e0 with key := key } : MapEntry) = e0 := by rw [← h3]
      rw [this]
      exact set_self _ _ _ h2
    have hsame2 : es.modify j (fun e' => { e' with key := key, val := e0.val }) = es := by
      apply Array.ext'
      rw [Array.toList_modify, modify_eq_set _ _ _ _ h2]
      have : ({ e0 with key := key, val := e0.val } : MapEntry) = e0 := by rw [← h3]
      rw [this]
      exact set_self _ _ _ h2
    refine ⟨e0.val, goInt e0.born, setBlock w b (.map es clock), ?_, ?_, ?_⟩
    · simp [Instr.mapEntry, run_underlying ht, MapKept.run_getObj_map hb, K.check w false hkey, h1, hj, h3, K.stays w hkey, hsame, MapKept.run_setObj_map _ hb, Result.andThen, setBlock]
    · simp [Instr.mapUpdate, run_underlying ht, MapKept.run_getObj_map hb, K.check w false hkey, h1, hj, h3, K.stays w hkey, hsame2, MapKept.run_setObj_map _ hb, Result.andThen, setBlock]
    · simp [Instr.lookup, run_underlying ht, MapKept.run_getObj_map hb, K.check w _ hkey, h1, Result.andThen]
theorem run_det {α : Type} {P : Program} {m : Sem α} {w : World} {x y : α} {u v : World} (h : m.run P w = .ok x u) (h' : m.run P w = .ok y v) : x = y ∧ u = v := by
  rw [h] at h'
  cases h'
  exact ⟨rfl, rfl⟩
theorem setBlock_twice (w : World) (b : Nat) (x y : Obj) : setBlock (setBlock w b x) b y = setBlock w b y := by
  simp [setBlock]
theorem own_entry {H : Type} {P : Program} {w : World} {t k e : TypeId} {q : IntKind} {b n : Nat} {D : DataW H} (h : w.ownsMap P k (plainElem P e) b n D) (K : WideMaps.KeyLaw P k) (ht : P.underlying t = some (.map k e)) (he : P.underlying e = some (.int q)) (hz : ∀ u : World, (zeroValue e).run P u = .ok (.int q 0) u) (hn : n + 1 < maxLen)
    {key : Value} {kl : Lit} (hkey : keyOf P k key = some kl) :
    ∃ (c : Int) (st : Nat) (w1 : World), (Instr.lookup t (.map (some b)) key false).run P w = .ok (.int q c) w ∧ D.atKey kl (.lit (.int q 0)) = .lit (.int q c) ∧ (Lit.int q c).wf = true ∧
      (Instr.mapEntry t (.map (some b)) key).run P w = .ok (.tuple #[.int q c, .int .i64 st]) w1 ∧ (Instr.lookup t (.map (some b)) key false).run P w1 = .ok (.int q c) w1 ∧ w.grownBy w1 (some b) ∧ w1.heap.size = w.heap.size ∧
      ∀ x : Int, (Lit.int q x).wf = true → ∃ w3, (Instr.entryStore t (.map (some b)) (.int .i64 st) (.int q x)).run P w1 = .ok () w3 ∧ w3.ownsMap P k (plainElem P e) b (n + 1) (D.put kl (.lit (.int q x))) ∧ w.grownBy w3 (some b) ∧ w3.heap.size = w.heap.size := by
  have K' := Keyed.of_law K
  have h0 := h
  obtain ⟨es, clock, hb, F, hs, hD⟩ := h
  obtain ⟨c, hl, hat, hwc⟩ := h0.lookup_int K' ht he (hz w) hkey
  obtain ⟨v0, st', w1', hE', hU', hL'⟩ := entry_stored K ht hz hb F hkey
  obtain ⟨v1, st, es1, clock1, hE, _, hS⟩ := entry_then_store K ht hz hb F hkey
  obtain ⟨rfl, _⟩ := run_det hL' hl
  obtain ⟨e1, rfl⟩ := run_det hE' hE
  obtain ⟨rfl, rfl⟩ : Value.int q c = v1 ∧ st' = goInt st := by simpa using e1
  obtain ⟨u1, hu1, own1, g1⟩ := h0.update K' ht (by omega) hkey (plainElem_int he hwc)
  obtain ⟨_, rfl⟩ := run_det hU' hu1
  obtain ⟨c', hl1, hat1, _⟩ := own1.lookup_int K' ht he (hz _) hkey
  have hcc : c' = c := by
    rw [Maps.atKey_put_same h0.isMap (K'.key hkey)] at hat1
    injection hat1 with e2
    injection e2 with _ e3
    exact e3.symm
  subst hcc
  refine ⟨c', st, _, hl, hat, hwc, hE, hl1, g1, by simp [setBlock], fun x hx => ?_⟩
  obtain ⟨es', clock', hst, hup⟩ := hS (setBlock w b (.map es1 clock1)) (.int q x) (heap_setBlock_same hb _)
  obtain ⟨u2, hu2, own2, g2⟩ := h0.update K' ht (by omega) hkey (plainElem_int he hx)
  obtain ⟨_, rfl⟩ := run_det hup hu2
  refine ⟨_, hst, ?_, ?_, ?_⟩
  · rw [setBlock_twice]; exact own2
  · rw [setBlock_twice]; exact g2
  · simp [setBlock]
end Go.Proofs.YtnjefbkhibfgmaaGreat
namespace Go.Proofs.YtnjefbkhibfgmaaGreat
open Go.RowKit Go.BigFrame
open Go.Maps (Keyed)
structure WfO (o : Ow) : Prop where
  a : (Lit.int .i64 o.a).wf = true
  v : (Lit.int .i64 o.v).wf = true
  f : o.f.size ≤ maxLen
theorem rowO : (36 : TypeId) < Tryz.prog.types.size := of_decide_eq_true (by kernel_rfl)
theorem wideO : (match Tryz.prog.underlying 36 with | some (.array _ _) | some (.struct _) => true | _ => false) = true := by kernel_rfl
set_option maxRecDepth 100000 in
theorem lawO : WideMaps.KeyLaw Tryz.prog 36 := deep_law_laid laidOut (m := 3) (by omega) rowO (by kernel_rfl) wideO
theorem keyedO : Keyed Tryz.prog 36 := Keyed.of_law lawO
def vO (o : Ow) : Value := .agg #[.int .i64 o.a, .int .i64 o.v, .string o.f]
def klO (o : Ow) : Lit := .string (keyBytes [.int .i64 o.a, .int .i64 o.v, .string o.f.data.toList])
set_option maxRecDepth 100000 in
theorem keyO {o : Ow} (h : WfO o) : keyOf Tryz.prog 36 (vO o) = some (klO o) := by
  obtain ⟨a, v, f⟩ := o
  obtain ⟨h1, h2, h3⟩ := h
  have hk : Tryz.prog.keyType 36 = true := by kernel_rfl
  have hc : Tryz.prog.cellsOf 36 = 3 := by kernel_rfl
  have hc2 : Tryz.prog.cellsOf 2 = 1 := by kernel_rfl
  have hc9 : Tryz.prog.cellsOf 9 = 1 := by kernel_rfl
  obtain ⟨d, hd⟩ := Nat.exists_eq_succ_of_ne_zero (Nat.ne_of_gt (Nat.zero_lt_of_lt rowO))
  unfold keyOf vO klO
  rw [hd]
  have k2 : ∀ x : Int, (Lit.int .i64 x).wf = true → Tryz.prog.keyLits d.succ 2 [.int .i64 x] = some [.int .i64 x] := fun x hx => by
    unfold Program.keyLits; simp only [Tryz.underlying2]; rw [if_pos ⟨trivial, hx⟩]
  have k9 : Tryz.prog.keyLits d.succ 9 [.string f] = some [.string f.data.toList] := by
    unfold Program.keyLits; simp only [Tryz.underlying9]; rw [if_pos h3]
  have e1 := k2 a h1
  have e2 := k2 v h2
  clear k2 hd
  generalize d.succ = D at *
  simp only [Tryz.underlying36, hk, Value.formed, hc, Value.cells]
  rw [if_pos (by rfl)]
  unfold Program.keyLits
  simp only [Tryz.underlying36, hc]
  rw [if_pos (by exact ⟨rfl, by decide +kernel⟩)]
  simp [hc2, hc9, e1, e2, k9]
end Go.Proofs.YtnjefbkhibfgmaaGreat
namespace Go.Proofs.YtnjefbkhibfgmaaGreat
open Go.RowKit Go.BigFrame
open Go.Maps (Keyed)
theorem klO_inj {o o' : Ow} (h : WfO o) (h' : WfO o') (e : klO o = klO o') : o = o' := by
  have h1 := keyO h
  have h2 := keyO h'
  rw [← e] at h2
  have := lawO.inj h1 h2
  simp [vO] at this
  obtain ⟨a, v, f⟩ := o
  obtain ⟨a', v', f'⟩ := o'
  simp at this
  simp [this]
def TlAt (w : World) (b n : Nat) (f : Ow → Int) : Prop :=
  ∃ D : DataW Unit, w.ownsMap Tryz.prog 36 (plainElem Tryz.prog 2) b n D ∧ ∀ o, WfO o → D.atKey (klO o) (.lit (.int .i64 0)) = .lit (.int .i64 (f o))
theorem zero2 (w : World) : (zeroValue 2).run Tryz.prog w = .ok (.int .i64 0) w := by kernel_rfl
theorem TlAt.lt {w : World} {b n : Nat} {f : Ow → Int} (h : TlAt w b n f) : b < w.heap.size := by
  obtain ⟨D, h, _⟩ := h; exact h.lt
theorem TlAt.mono {w : World} {b n n' : Nat} {f : Ow → Int} (h : TlAt w b n f) (hn : n ≤ n') : TlAt w b n' f := by
  obtain ⟨D, h, h2⟩ := h; exact ⟨D, h.mono hn, h2⟩
theorem TlAt.kept {w w' : World} {b n : Nat} {f : Ow → Int} {row : Option Nat} (h : TlAt w b n f) (hg : w.grownBy w' row) (hne : some b ≠ row) : TlAt w' b n f := by
  obtain ⟨D, h, h2⟩ := h; exact ⟨D, h.kept hg hne, h2⟩
theorem TlAt.apart {w : World} {b n : Nat} {f : Ow → Int} (h : TlAt w b n f) {bb o : Nat} {v : Value} (hc : w.cell? ⟨bb, o, none⟩ = some v) : bb ≠ b := by
  obtain ⟨D, ⟨es, clock, hb, _⟩, _⟩ := h
  rintro rfl
  simp [World.cell?, hb] at hc
theorem TlAt.made (w : World) : TlAt (w.alloc (.map #[] 0)) w.heap.size 0 (fun _ => 0) :=
  ⟨_, World.ownsMap_made _ _ _ _, fun _ _ => rfl⟩
theorem TlAt.congr {w : World} {b n : Nat} {f g : Ow → Int} (h : TlAt w b n f) (e : ∀ o, f o = g o) : TlAt w b n g := by
  obtain ⟨D, h, h2⟩ := h
  exact ⟨D, h, fun o ho => by rw [h2 o ho, e]⟩
set_option maxRecDepth 100000 in
theorem TlAt.entry {w : World} {b n : Nat} {f : Ow → Int} (h : TlAt w b n f) (hn : n + 1 < maxLen) {o : Ow} (ho : WfO o) :
    ∃ (st : Nat) (w1 : World), (Instr.lookup 76 (.map (some b)) (.agg #[.int .i64 o.a, .int .i64 o.v, .string o.f]) false).run Tryz.prog w = .ok (.int .i64 (f o)) w ∧
      (Instr.mapEntry 76 (.map (some b)) (.agg #[.int .i64 o.a, .int .i64 o.v, .string o.f])).run Tryz.prog w = .ok (.tuple #[.int .i64 (f o), .int .i64 st]) w1 ∧ (Instr.lookup 76 (.map (some b)) (.agg #[.int .i64 o.a, .int .i64 o.v, .string o.f]) false).run Tryz.prog w1 = .ok (.int .i64 (f o)) w1 ∧ w.grownBy w1 (some b) ∧
      ∀ x : Int, (Lit.int .i64 x).wf = true → ∃ w3, (Instr.entryStore 76 (.map (some b)) (.int .i64 st) (.int .i64 x)).run Tryz.prog w1 = .ok () w3 ∧ TlAt w3 b (n + 1) (fun o' => if owEq o o' = true then x else f o') ∧ w.grownBy w3 (some b) := by
  obtain ⟨D, hown, hv⟩ := h
  obtain ⟨c, st, w1, h1, h2, _, h4, h5, h6, _, h7⟩ := own_entry hown lawO Tryz.underlying76 Tryz.underlying2 zero2 hn (keyO ho)
  have hc : c = f o := by
    rw [hv o ho] at h2
    injection h2 with e2
    injection e2 with _ e3
    exact e3.symm
  subst hc
  refine ⟨st, w1, h1, h4, h5, h6, fun x hx => ?_⟩
  obtain ⟨w3, g1, g2, g3, _⟩ := h7 x hx
  refine ⟨w3, g1, ⟨_, g2, fun o' ho' => ?_⟩, g3⟩
  by_cases e : o = o'
  · subst e
    rw [Maps.atKey_put_same hown.isMap (keyedO.key (keyO ho))]
    dsimp only
    rw [if_pos (owEq_self o)]
  · rw [Maps.atKey_put_other (fun e2 => e (klO_inj ho ho' e2.symm)), hv o' ho']
    dsimp only
    rw [if_neg (fun e2 => e (owEq_iff.1 e2))]
end Go.Proofs.YtnjefbkhibfgmaaGreat
namespace Go.Proofs.YtnjefbkhibfgmaaGreat
open Go.RowKit Go.BigFrame
theorem tot_take_succ {l : List Ct} {k : Nat} {p : Ct} (h : l[k]? = some p) (o : Ow) : tot o (l.take (k + 1)) = tot o (l.take k) + (if owEq p.o o = true then p.n else 0) := by
  rw [List.take_add_one, h, tot_append]
  simp [tot]
theorem tot_bound {M : Int} (hM : 0 ≤ M) : ∀ {l : List Ct}, (∀ x ∈ l, -M ≤ x.n ∧ x.n ≤ M) → ∀ o, -(M * l.length) ≤ tot o l ∧ tot o l ≤ M * l.length
  | [], _, _ => by simp [tot]
  | c :: r, h, o => by
    have h1 := tot_bound hM (l := r) (fun x hx => h x (by simp [hx])) o
    have h2 := h c (by simp)
    simp only [tot, List.length_cons]
    rw [show ((r.length + 1 : Nat) : Int) = r.length + 1 by omega, Int.mul_add, Int.mul_one]
    split <;> omega
def WfC (l : List Ct) : Prop := ∀ c ∈ l, WfO c.o
set_option maxHeartbeats 2000000 in
set_option maxRecDepth 100000 in
theorem impl_addAll' (b m : Nat) (f : Ow → Int) (a : Option Addr) (n cap : Nat) (l : List Ct) (w : World) (hT : TlAt w b m f) (h : CtsAt w a n l) (hw : WfC l) (hn : n ≤ 1000000) (hm : m ≤ 1000000) (hb : ∀ x ∈ l, -1000000 ≤ x.n ∧ x.n ≤ 1000000) (hf : ∀ o, -1000000000000 ≤ f o ∧ f o ≤ 1000000000000) :
    Calls Tryz.prog 44 #[.map (some b), .slice a n cap] w fun e w' => e = .returned (.tuple #[]) ∧ TlAt w' b (m + n) (fun o => f o + tot o l) ∧ w.grownBy w' (some b) := by
  have hlen : Hid (l.length = n) := h.len
  go_enter Tryz.func44, Tryz.ntmps44
  go_wp2_with fail
  go_loopw [8] (fun ix wr => ∃ (k : Nat), k ≤ n ∧ ix = .int .i64 k ∧ TlAt wr b (m + k) (fun o => f o + tot o (l.take k)) ∧ w.grownBy wr (some b)) (fun ix _ => n - (intOf ix).toNat)
  case atStart => exact ⟨0, Nat.zero_le _, rfl, hT.congr (fun o => by simp [tot]), ⟨rfl, rfl, rfl, Nat.le_refl _, fun _ _ _ => rfl⟩⟩
  case round =>
    obtain ⟨k, hk, rfl, T2, hG⟩ := hrel
    by_cases hlt : k < n
    · obtain ⟨bb, oo, p, rfl, hp, c0, c1, c2, c3⟩ := cts_at h hlt
      have hbb := hT.apart c0
      have d0 := hG.cell c0 (by simpa using hbb)
      have d1 := hG.cell c1 (by simpa using hbb)
      have d2 := hG.cell c2 (by simpa using hbb)
      have d3 := hG.cell c3 (by simpa using hbb)
      have hwp := hw p (List.mem_of_getElem? hp)
      have hbp := hb p (List.mem_of_getElem? hp)
      have hst := tot_take_succ hp
      have htk := tot_bound (M := 1000000) (by omega) (l := l.take k) (fun x hx => hb x (List.mem_of_mem_take hx))
      clear c0 c1 c2 c3
      go_wp2_with fail
      have z0 : (wr.alloc (.cells #[.int .i64 p.o.a, .int .i64 p.o.v, .string p.o.f, .int .i64 p.n] 38)).cell? ⟨wr.heap.size, 0, none⟩ = some (.int .i64 p.o.a) := by simp
      have z1 : (wr.alloc (.cells #[.int .i64 p.o.a, .int .i64 p.o.v, .string p.o.f, .int .i64 p.n] 38)).cell? ⟨wr.heap.size, 1, none⟩ = some (.int .i64 p.o.v) := by simp
      have z2 : (wr.alloc (.cells #[.int .i64 p.o.a, .int .i64 p.o.v, .string p.o.f, .int .i64 p.n] 38)).cell? ⟨wr.heap.size, 2, none⟩ = some (.string p.o.f) := by simp
      have z3 : (wr.alloc (.cells #[.int .i64 p.o.a, .int .i64 p.o.v, .string p.o.f, .int .i64 p.n] 38)).cell? ⟨wr.heap.size, 3, none⟩ = some (.int .i64 p.n) := by simp
      have hgW : w.grownBy (wr.alloc (.cells #[.int .i64 p.o.a, .int .i64 p.o.v, .string p.o.f, .int .i64 p.n] 38)) (some b) := hG.andThen (World.grownBy_alloc wr _ (some b)) (fun j hj => by cases hj; exact .inr rfl)
      have T3 : TlAt (wr.alloc (.cells #[.int .i64 p.o.a, .int .i64 p.o.v, .string p.o.f, .int .i64 p.n] 38)) b (m + k) (fun o => f o + tot o (l.take k)) := T2.kept (World.grownBy_alloc wr _ none) (by simp)
      generalize wr.alloc (.cells #[.int .i64 p.o.a, .int .i64 p.o.v, .string p.o.f, .int .i64 p.n] 38) = W at *
      have T4 : TlAt W.drew b (m + k) (fun o => f o + tot o (l.take k)) := T3
      obtain ⟨st, w1, e1, e2, e3, g1, e4⟩ := T4.entry (by unfold maxLen; omega) hwp
      have hlk : ((l.take k).length : Int) ≤ n := by simp; omega
      have hC : -3000000000000 ≤ f p.o + tot p.o (l.take k) ∧ f p.o + tot p.o (l.take k) ≤ 3000000000000 := by
        have h1 := hf p.o
        have h2 := htk p.o
        omega
      obtain ⟨w3, e5, T5, g3⟩ := e4 (f p.o + tot p.o (l.take k) + p.n) (WalkArith.wf_i64 (by omega))
      clear e4 T4 T3 T2 d0 d1 d2 d3 htk
      have hT5 : TlAt w3 b (m + (k + 1)) (fun o => f o + tot o (l.take (k + 1))) := T5.congr (fun o => by
        rw [hst o]
        split
        · rename_i hh; rw [owEq_iff.1 hh]; omega
        · omega)
      clear T5 hst
      generalize f p.o + tot p.o (l.take k) = C at *
      obtain ⟨hC1, hC2⟩ := hC
      obtain ⟨hp1, hp2⟩ := hbp
      have hgF : w.grownBy w3 (some b) := (hgW.andThen (row' := some b) (⟨rfl, rfl, rfl, Nat.le_refl _, fun _ _ _ => rfl⟩ : W.grownBy W.drew (some b)) (fun j hj => by cases hj; exact .inr rfl)).andThen (row' := some b) g3 (fun j hj => by cases hj; exact .inr rfl)
      go_region
      go_wp2
      go_roundw
      case rel => exact ⟨k + 1, by omega, by go_num, hT5, hgF⟩
      case measure => simp [intOf]; omega
    · obtain rfl : k = n := by omega
      go_wp2
      go_returns
      refine ⟨rfl, ?_, hG⟩
      rw [List.take_of_length_le (by rw [hlen.out]; exact Nat.le_refl _)] at T2
      exact T2
end Go.Proofs.YtnjefbkhibfgmaaGreat
