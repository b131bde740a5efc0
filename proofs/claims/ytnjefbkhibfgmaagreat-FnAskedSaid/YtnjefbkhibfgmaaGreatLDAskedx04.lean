/- RoomOf of the program and of the model. -/
import Derived.RangeFuncFrom
import Derived.Test.YtnjefbkhibfgmaaGreatLDAskedx03
import Derived.Test.YtnjefbkhibfgmaaGreatLDAskedx01
import Derived.Maps.AppendAt
import Derived.Test.YtnjefbkhibfgmaaGreatLDAskedx02
import Derived.Test.YtnjefbkhibfgmaaGreatProg
import Derived.Test.YtnjefbkhibfgmaaGreatLDAskedx00
import Derived.StillTailTactics
namespace Go.Proofs.YtnjefbkhibfgmaaGreat
open Go.RowKit Go.Shelf
attribute [local go_sem] Oper.semAt_some
def sumG : List (Int × Int) → Int
  | [] => 0
  | x :: r => x.2 + sumG r
def sumW (l : List (Int × Int)) : Int := l.foldl (fun s x => wrap64 (s + x.2)) 0
theorem sumW_snoc (l : List (Int × Int)) (x : Int × Int) : sumW (l ++ [x]) = wrap64 (sumW l + x.2) := by simp [sumW]
def sumD : List Ex → Int
  | [] => 0
  | e :: r => e.d.size + sumD r
theorem foldW : ∀ (l : List (Int × Int)) (s : Int), (∀ x ∈ l, 0 ≤ x.2) → 0 ≤ s → s + sumG l ≤ 1000 → l.foldl (fun s x => wrap64 (s + x.2)) s = s + sumG l
  | [], s, _, _, _ => by simp [sumG]
  | x :: r, s, h, h0, h1 => by
    have hx := h x (by simp)
    have hr : ∀ y ∈ r, 0 ≤ y.2 := fun y hy => h y (by simp [hy])
    have hsum : ∀ (r : List (Int × Int)), (∀ y ∈ r, 0 ≤ y.2) → 0 ≤ sumG r := by
      intro r
      induction r with
      | nil => intro _; simp [sumG]
      | cons y t ih => intro hy; have := ih (fun z hz => hy z (by simp [hz])); have := hy y (by simp); simp only [sumG]; omega
    have h2 := hsum r hr
    simp only [sumG] at h1
    rw [List.foldl_cons, show wrap64 (s + x.2) = s + x.2 by unfold wrap64; omega, foldW r (s + x.2) hr (by omega) (by omega)]
    simp only [sumG]; omega
theorem ggo_facts {size : Int} : ∀ {L : List Ex} {next : Int}, xgo size next L = true → next ≤ size + 1 → (∀ x ∈ ggo size next L, 1 ≤ x.2) ∧ sumG (ggo size next L) = size + 1 - next - sumD L
  | [], next, _, hn => by
    rw [ggo]
    split
    · simp [sumG, sumD]; omega
    · simp [sumG, sumD]; omega
  | e :: r, next, h, hn => by
    simp only [xgo, Bool.and_eq_true, decide_eq_true_eq] at h
    obtain ⟨⟨⟨h1, h2⟩, h3⟩, h4⟩ := h
    obtain ⟨q1, q2⟩ := ggo_facts h4 (by omega)
    rw [ggo]
    split
    · refine ⟨fun x hx => ?_, ?_⟩
      · rcases List.mem_append.1 hx with hx | hx
        · simp at hx; subst hx; simp; omega
        · exact q1 x hx
      · simp only [List.singleton_append, sumG, q2, sumD]; omega
    · refine ⟨fun x hx => q1 x (by simpa using hx), ?_⟩
      simp only [List.nil_append, q2, sumD]; omega
theorem sumD_nonneg : ∀ l : List Ex, 0 ≤ sumD l
  | [] => by simp [sumD]
  | e :: r => by have := sumD_nonneg r; simp only [sumD]; omega
def roomV (size : Int) (l : List Ex) : Int := if spaceOkB size l = true then size - sumD l else -1
theorem ok_parts {size : Int} {l : List Ex} (h : spaceOkB size l = true) : 1 ≤ size ∧ size ≤ 400 ∧ l.length ≤ 60 ∧ xgo size 1 l = true := by
  simp only [spaceOkB, Bool.and_eq_true, decide_eq_true_eq] at h
  exact ⟨h.1.1.1, h.1.1.2, h.1.2, h.2⟩
theorem sumW_room {size : Int} {l : List Ex} (h : spaceOkB size l = true) : sumW (ggo size 1 l) = size - sumD l := by
  obtain ⟨h1, h2, _, h4⟩ := ok_parts h
  obtain ⟨q1, q2⟩ := ggo_facts h4 (by omega)
  have := sumD_nonneg l
  unfold sumW
  rw [foldW _ 0 (fun x hx => by have := q1 x hx; omega) (by omega) (by omega), q2]; omega
set_option maxRecDepth 100000 in
set_option maxHeartbeats 2000000 in
theorem impl_RoomOf_in (size : Int) (a : Option Addr) (n cap : Nat) (l : List Ex) (w : World) (h : ExsAt w a n l) (hstr : Strs l) (hn : n ≤ 4194304) (hl : ∀ ad, 0 < n → a = some ad → ad.block < w.heap.size) :
    CallsIn Fence.wide 5 Tryz.prog 25 #[.int .i64 size, .slice a n cap] w fun e W' => e = .returned (.int .i64 (roomV size l)) ∧ Below w.heap.size w W' := by
  refine callsIn_of_wp_marks Tryz.func25 rfl trivial ?_ rfl
  simp only [Tryz.ntmps25, List.size_toArray, List.length_cons, List.length_nil, Nat.reduceAdd, Nat.reduceSub, Array.replicate_succ, Array.replicate_zero, List.push_toArray, List.append_toArray, List.nil_append, List.cons_append]
  have f41 : Fence.wide.fn 31 := trivial
  have f114 : Fence.wide.fn 62 := trivial
  cases hok : spaceOkB size l
  · have hf : roomV size l = -1 := by simp [roomV, hok]
    rw [hf]
    gi_wp2_with (gi_at_call 31; refine (callsIn_wide.2 (impl_SpaceOk size a n cap l _ h hstr hn)).mono ?_; rintro e w1 ⟨rfl, hB1⟩; rw [hok])
    exact ⟨_, results_tmp rfl _ _ _, rfl, hB1⟩
  · have hf : roomV size l = sumW (ggo size 1 l) := by rw [sumW_room hok]; simp [roomV, hok]
    rw [hf]
    gi_wp2_with (first | (gi_at_call 31; refine (callsIn_wide.2 (impl_SpaceOk size a n cap l _ h hstr hn)).mono ?_; rintro e w1 ⟨rfl, hB1⟩; rw [hok]) | (gi_at_call 62; refine (gaps_in _ size a n cap _).mono ?_; rintro e w2 ⟨rfl, rfl⟩))
    obtain ⟨hs1, hs2, hln, hxg⟩ := ok_parts hok
    have hlen := h.len
    have hz := hB1.size
    have hB0 : Below w.heap.size w (((w1.alloc (.cells #[.int .i64 0] 2)).alloc (.cells #[.int .i64 size] 2)).alloc (.cells #[.slice a n cap] 24)) := ((hB1.alloc hz _).alloc (by simp; omega) _).alloc (by simp; omega) _
    have bR : Boxed (((w1.alloc (.cells #[.int .i64 0] 2)).alloc (.cells #[.int .i64 size] 2)).alloc (.cells #[.slice a n cap] 24)) w1.heap.size 2 (.int .i64 0) := ((Boxed.new w1 2 _).alloc _).alloc _
    have bS : Boxed (((w1.alloc (.cells #[.int .i64 0] 2)).alloc (.cells #[.int .i64 size] 2)).alloc (.cells #[.slice a n cap] 24)) (w1.heap.size + 1) 2 (.int .i64 size) := by
      have := (Boxed.new (w1.alloc (.cells #[.int .i64 0] 2)) 2 (.int .i64 size)).alloc (.cells #[.slice a n cap] 24)
      simpa using this
    have bL : Boxed (((w1.alloc (.cells #[.int .i64 0] 2)).alloc (.cells #[.int .i64 size] 2)).alloc (.cells #[.slice a n cap] 24)) (w1.heap.size + 1 + 1) 24 (.slice a n cap) := by
      have := Boxed.new ((w1.alloc (.cells #[.int .i64 0] 2)).alloc (.cells #[.int .i64 size] 2)) 24 (.slice a n cap)
      simpa using this
    have hszW : (((w1.alloc (.cells #[.int .i64 0] 2)).alloc (.cells #[.int .i64 size] 2)).alloc (.cells #[.slice a n cap] 24)).heap.size = w1.heap.size + 1 + 1 + 1 := by simp
    generalize ((w1.alloc (.cells #[.int .i64 0] 2)).alloc (.cells #[.int .i64 size] 2)).alloc (.cells #[.slice a n cap] 24) = W0 at *
    refine wpIn_rangeFunc_ownF rfl (by omega) (gf := 88) (lb := #[.pointer (some ⟨w1.heap.size + 1 + 1, 0, none⟩), .pointer (some ⟨w1.heap.size + 1, 0, none⟩)]) rfl trivial (enters_of Tryz.func88 (by kernel_rfl) rfl)
      (gaps_stops (5 - 1) (by omega) (w1.heap.size + 1 + 1) (w1.heap.size + 1) w.heap.size size a n cap l W0 (by omega) bL.cell bS.cell ⟨h.below hB0, hl⟩ hxg hs1 hs2 (by omega)) KpG.t (KpG.b (by omega) (by omega)) (Below.refl _ _) (fun _ => rfl)
      (fun pre W => Boxed W w1.heap.size 2 (.int .i64 (sumW pre)) ∧ Below w.heap.size w W)
      (fun _ _ _ => False)
      (OwnFrom.and (Own.from (boxed_own _ _ _) _) (ownFrom_below (Nat.le_refl _) (by omega)))
      (fun _ _ _ _ _ hs _ _ => hs)
      ⟨bR, hB0⟩
      (fun x => { tmps := #[.int .i64 size, .slice a n cap, undef, undef, .int .i64 0, .pointer (some ⟨w1.heap.size, 0, none⟩), undef, .int .i64 x.2, .int .i64 size, .slice a n cap, .bool true, .bool false, .int .i64 size, .slice a n cap, .func (.func 88) #[] #[.pointer (some ⟨w1.heap.size + 1 + 1, 0, none⟩), .pointer (some ⟨w1.heap.size + 1, 0, none⟩)], .int .i64 x.1, .int .i64 x.2, undef, undef, undef, undef], defers := [] }) ?assign ?body ?done ?stop
    case assign =>
      intro l x W K hK
      gi_wp2
      exact hK
    case body =>
      rintro l pre x W ⟨hc, hB⟩ _
      have c0 := hc.cell
      have f0 := hc.frozen
      gi_wp2
      refine ⟨KeepsOthers.setCell _ _ _, ⟨(Below.refl w.heap.size W).setCell (p := ⟨w1.heap.size, 0, none⟩) hz _, fun b c hb => ?_, fun v hv => ?_⟩, by rw [sumW_snoc]; exact hc.set _, hB.setCell (p := ⟨w1.heap.size, 0, none⟩) hz _⟩
      · have hbR : b ≠ w1.heap.size := fun e => by subst e; unfold Blk at hb; rw [show W.heap[w1.heap.size]? = _ from hc] at hb; cases hb
        exact hb.grown (grownBy_setCell' W w1.heap.size _) hbR
      · exact (grownBy_setCell' W w1.heap.size _).cell hv (by simp)
    case done =>
      rintro D ys W hD rfl ⟨hc, hB⟩ hK
      have c0 := hc.cell
      gi_wp2
      refine ⟨by simp, .inl ⟨_, _, rfl, run_takeDeferred hK, ?_⟩⟩
      exact ⟨_, results_tmp rfl _ _ _, rfl, hB.trans (belowK_b (w := w) (Nat.le_refl _) W D _ _ (by omega) hK rfl rfl)⟩
    case stop =>
      rintro D c pre W _ _ h _
      exact h.elim
theorem impl_RoomOf (size : Int) (a : Option Addr) (n cap : Nat) (l : List Ex) (w : World) (h : ExsAt w a n l) (hstr : Strs l) (hn : n ≤ 4194304) (hl : ∀ ad, 0 < n → a = some ad → ad.block < w.heap.size) :
    Calls Tryz.prog 25 #[.int .i64 size, .slice a n cap] w fun e W' => e = .returned (.int .i64 (roomV size l)) ∧ Below w.heap.size w W' :=
  callsIn_wide.1 (impl_RoomOf_in size a n cap l w h hstr hn hl)
theorem xgo_sum {size : Int} : ∀ {L : List Ex} {next : Int}, xgo size next L = true → next ≤ size + 1 → sumD L ≤ size + 1 - next
  | [], next, _, hn => by simp [sumD]; omega
  | e :: r, next, h, hn => by
    simp only [xgo, Bool.and_eq_true, decide_eq_true_eq] at h
    obtain ⟨⟨⟨h1, h2⟩, h3⟩, h4⟩ := h
    have := xgo_sum h4 (by omega)
    simp only [sumD]; omega
end Go.Proofs.YtnjefbkhibfgmaaGreat
namespace Go.Proofs.YtnjefbkhibfgmaaGreat
open Go.RowKit Go.Shelf
attribute [local go_sem] Oper.semAt_some
abbrev ics : Int → List Value := fun x => [Value.int .i64 x]
theorem infoI : (Tryz.prog.info? 2).map (fun i => (i.zero, i.size, i.bytes)) = some (some (.int .i64 0), 1, 8) := by kernel_rfl
end Go.Proofs.YtnjefbkhibfgmaaGreat
namespace Go.Proofs.YtnjefbkhibfgmaaGreat
open Go.RowKit
theorem app_fresh {P : Program} {w w' : World} {v v' : Value} (base : Nat) (t ty e : TypeId) (i : TypeInfo) (z : Value) (size bytes : Nat) (ht : P.underlying t = some (.slice e)) (hi : P.info? e = some i) (hz : i.zero = some z)
    (hsize : i.size = size) (hby : i.bytes = bytes) (n : Nat) (xs : List Value) (hown : w.ownsRow base e size v n xs)
    (a : Addr) (m c : Nat) (news : List Value) (hm : 0 < m) (hl : news.length = m * size) (hnews : ∀ j u, news[j]? = some u → w.cell? (a.add j) = some u) (h1 : ∀ u ∈ news, u.oneCell' = true)
    (h63 : n + m ≤ maxLen) (hbytes : (n + m) * bytes ≤ 140737488355328) (hr : (Builtin.append_ #[t, t] ty #[v, .slice (some a) m c]).run P w = .ok v' w') :
    ∀ g, v'.ownBlock = some g → v.ownBlock = some g ∨ w.heap.size ≤ g := by
  subst hsize
  subst hby
  have hsmall : n + m ≤ 9223372036854775807 := by simp only [maxLen] at h63; omega
  intro g' hg'
  rcases hown.2 with ⟨rfl, rfl⟩ | ⟨g, cap, cur, rfl, hbg, hg, hnc, hcm, hcs, htake⟩
  · have hr2 := run_append_nil (P := P) w t ty e i z ht hi hz a m c news hl hnews (by omega) (by omega) (by have hb := hbytes; simp only [Nat.zero_add] at hb; omega)
    rw [hr] at hr2
    cases hr2
    right
    simp [Value.ownBlock] at hg'
    omega
  · by_cases hroom : n + m ≤ cap
    · have hfit : n * i.size + news.length ≤ cur.size := by rw [hl, hcs, ← Nat.add_mul]; exact Nat.mul_le_mul_right _ hroom
      have hr2 := run_append_room (P := P) w t ty e i ht hi g n cap cur hg a m c news hl hnews h1 hroom hfit
      rw [hr] at hr2
      cases hr2
      left
      simpa [Value.ownBlock] using hg'
    · have holds : ∀ j u, xs[j]? = some u → w.cell? ((⟨g, 0, none⟩ : Addr).add j) = some u := hown.cells (g := g) rfl
      have hr2 := run_append_grow (P := P) w t ty e i z ht hi hz ⟨g, 0, none⟩ n cap xs hown.1 holds a m c news hl hnews (by omega) (by omega) (growslice_fits (by omega) hbytes)
      rw [hr] at hr2
      cases hr2
      right
      simp [Value.ownBlock] at hg'
      omega
theorem wp_app1 {α : Type} {cs : α → List Value} {size : Nat} {P : Program} {o : Oper} {a : Act} {w : World} {K : Act → World → Prop} {Q : Exit → Act → World → Prop}
    (s x : Operand) (t : TypeId) (ho : o.op = .call { callee := .builtin .append, args := #[s, x], argTypes := #[t, t] })
    (B : Nat) (e : TypeId) (i : TypeInfo) (z : Value) (bytes : Nat) (ht : P.underlying t = some (.slice e)) (hi : P.info? e = some i) (hz : i.zero = some z) (hsize : i.size = size) (hby : i.bytes = bytes) (hzs : z.cells.size = size) (hpos : 0 < size)
    (hsz : ∀ y, (cs y).length = size) (hone : ∀ (l : List α), ∀ u ∈ l.flatMap cs, u.oneCell' = true)
    (da : Option Addr) (dn dcap : Nat) (ld : List α) (hs : a.eval s = .slice da dn dcap) (hd : ResAt cs size e w B da dn dcap ld)
    (b off : Nat) (ls : List α) (hx : a.eval x = .slice (some ⟨b, off, none⟩) 1 1) (hsrc : SlAt cs size w (some ⟨b, off, none⟩) 1 ls)
    (h63 : dn + 1 ≤ maxLen) (hbytes : (dn + 1) * bytes ≤ 140737488355328) (hbase : B ≤ w.heap.size)
    (h : ∀ a' cap' w', ResAt cs size e w' B a' (dn + 1) cap' (ld ++ ls) → w.grownBy w' (Value.ownBlock (.slice da dn dcap)) → (∀ ad', a' = some ad' → (∃ ad, da = some ad ∧ ad.block = ad'.block) ∨ w.heap.size ≤ ad'.block) → K (a.put o.dst (.slice a' (dn + 1) cap')) w') : o.wp P a w K Q := by
  have hrow := hd.row hsz
  have hlen : (ld ++ ls).length = dn + 1 := by rw [List.length_append, hd.sl.len, hsrc.len]
  have hnl : (ls.flatMap cs).length = 1 * size := by rw [flat_len hsz, hsrc.len]
  obtain ⟨v', w', hr, hrow', hg, _⟩ := run_append_own (P := P) w B t o.type e i z size bytes ht hi hz hsize hby hzs hpos (.slice da dn dcap) dn (ld.flatMap cs) hrow ⟨b, off, none⟩ 1 1 (ls.flatMap cs) hnl (SlAt.src hsz hsrc) (hone ls) h63 hbytes hbase
  have hfr := app_fresh (P := P) B t o.type e i z size bytes ht hi hz hsize hby dn (ld.flatMap cs) hrow ⟨b, off, none⟩ 1 1 (ls.flatMap cs) (by omega) hnl (SlAt.src hsz hsrc) (hone ls) h63 hbytes hr
  rw [← List.flatMap_append] at hrow'
  obtain ⟨a', cap', rfl, hres⟩ := res_of_row hsz hlen hrow'
  unfold Oper.wp
  simp [execOp, ho, resolve, invoke, builtin, hs, hx, hr, Result.andThen]
  refine h a' cap' w' hres hg (fun ad' had' => ?_)
  subst had'
  rcases hfr ad'.block (by simp [Value.ownBlock]) with h1 | h1
  · cases da with
    | none => simp [Value.ownBlock] at h1
    | some ad => exact .inl ⟨ad, rfl, by simpa [Value.ownBlock] using h1⟩
  · exact .inr h1
end Go.Proofs.YtnjefbkhibfgmaaGreat
namespace Go.Proofs.YtnjefbkhibfgmaaGreat
open Go.RowKit Go.BigFrame
set_option maxHeartbeats 1000000 in
theorem spec_PartsOk (a : Option Addr) (n cap : Nat) (l : List Pt) (w : World) (h : PtsAt w a n l) (hn : n ≤ 4194304) :
    Calls Tryz.prog 73 #[.slice a n cap] w fun e w' => e = .returned (.bool (partsOkB l)) ∧ Below w.heap.size w w' := by
  have hlen := h.len
  by_cases h16 : n ≤ 16
  · have hfin : Hid (partsOkB l = sgo none 0 l) := by show _ = _; rw [sgo_pgo l none 0 (by omega) (by omega)]; simp [partsOkB, hlen, h16]
    have hlen' : Hid (l.length = n) := hlen
    clear hlen
    go_enter Tryz.func73, Tryz.ntmps73
    go_wp2_with fail
    go_loopw [2, 3, 4] (fun r s ix wr => ∃ (k : Nat) (lf : Int), k ≤ n ∧ ix = .int .i64 k ∧ s = .int .i64 lf ∧ 0 ≤ lf ∧ lf ≤ 100 * k ∧ Hid (sgo none 0 l = sgo (ahead l k) lf (l.drop k)) ∧ Below w.heap.size w wr) (fun _ _ ix _ => n - (intOf ix).toNat)
    case atStart => exact ⟨0, 0, Nat.zero_le _, rfl, rfl, by omega, by omega, rfl, Below.refl _ _⟩
    case round =>
      obtain ⟨k, lf, hk, rfl, rfl, hf0, hf1, hI, hB⟩ := hrel
      by_cases hlt : k < n
      · obtain ⟨b, o, p, rfl, hp, c0, c1, c2⟩ := pts_at (h.below hB) hlt
        have hd : Hid (l.drop k = p :: l.drop (k + 1)) := drop_at hp
        have hq : Hid (l[k]? = some p) := hp
        clear hp
        have hk1 : (k : Int) < n := by omega
        have hk2 : (0 : Int) ≤ k := by omega
        cases hpo : (partOkB p && decide (p.n ≤ 100))
        · go_wp2_with fail
          have g0 := gcell c0
          have g1 := gcell c1
          have g2 := gcell c2
          have hne := grw_ne wr
          refine wp_region_grow (by kernel_rfl) (by kernel_rfl) ?_
          repeat (go_big_quiet_step (first | (go_at_call 92; have qq := spec_l2PartOk p; rw [hpo] at qq; exact grow_of (qq _))))
          refine wpQuiet_nil ?_
          intro w2 hx
          have hB2 := grw_out hx
          clear hx
          go_wp2
          go_returns
          go_light
          refine ⟨ret_bool ?_, chain hB hB2⟩
          rw [hfin.out, hI.out, hd.out]; cases ahead l k <;> simp only [sgo, hpo, Bool.false_and]
        · have hpn : 1 ≤ p.n ∧ p.n ≤ 100 := by simp at hpo; exact ⟨partOkB_pos hpo.1, hpo.2⟩
          rcases k with _ | j
          · simp only [Nat.zero_mul, Nat.add_zero] at c0 c1 c2
            go_wp2_with fail
            have g0 := gcell c0
            have g1 := gcell c1
            have g2 := gcell c2
            have hne := grw_ne wr
            refine wp_region_grow (by kernel_rfl) (by kernel_rfl) ?_
            repeat (go_big_quiet_step (first | (go_at_call 92; have qq := spec_l2PartOk p; rw [hpo] at qq; exact grow_of (qq _))))
            refine wpQuiet_nil ?_
            intro w2 hx
            have hB2 := grw_out hx
            have d2 := bcell hB2 c2
            clear hx
            go_wp2
            go_roundw
            case rel => exact ⟨1, lf + p.n, by omega, by go_num, by go_num, by omega, by omega, by show _ = _; rw [hI.out, hd.out, ahead_zero, ahead_succ, hq.out]; simp only [sgo, hpo, Bool.true_and], chain hB hB2⟩
            case measure => simp [intOf]; omega
          · obtain ⟨b', o', q, hbo, hq', d0, d1, d2⟩ := pts_at (h.below hB) (k := j) (by omega)
            obtain ⟨rfl, rfl⟩ : b = b' ∧ o = o' := by simpa using hbo
            have ha : Hid (ahead l (j + 1) = some q) := by show _ = _; rw [ahead_succ]; exact hq'
            clear hq' hbo
            cases hgo : goesOnB q p
            all_goals
              go_wp2_with fail
              have g0 := gcell c0
              have g1 := gcell c1
              have g2 := gcell c2
              have g3 := gcell d0
              have g4 := gcell d1
              have g5 := gcell d2
              have hne := grw_ne wr
              refine wp_region_grow (by kernel_rfl) (by kernel_rfl) ?_
              repeat (go_big_quiet_step (first | (go_at_call 92; have qq := spec_l2PartOk p; rw [hpo] at qq; exact grow_of (qq _)) | (go_at_call 93; have qq := spec_l2Next q p; rw [hgo] at qq; exact grow_of (qq _))))
              refine wpQuiet_nil ?_
              intro w2 hx
              have hB2 := grw_out hx
              have e2 := bcell hB2 c2
              clear hx
              go_wp2
            · go_roundw
              case rel => exact ⟨j + 2, lf + p.n, by omega, by go_num, by go_num, by omega, by omega, by show _ = _; rw [hI.out, hd.out, ha.out, ahead_succ, hq.out]; simp only [sgo, hpo, hgo, Bool.true_and, Bool.not_false], chain hB hB2⟩
              case measure => simp [intOf]; omega
            · go_returns
              go_light
              refine ⟨ret_bool ?_, chain hB hB2⟩
              rw [hfin.out, hI.out, hd.out, ha.out]; simp only [sgo, hpo, hgo, Bool.true_and, Bool.not_true, Bool.false_and]
      · obtain rfl : k = n := by omega
        go_wp2
        go_returns
        go_light
        refine ⟨ret_bool ?_, hB⟩
        rw [hfin.out, hI.out, List.drop_of_length_le (Nat.le_of_eq hlen'.out)]; cases ahead l k <;> rfl
  · go_enter Tryz.func73, Tryz.ntmps73
    go_wp2
    go_returns
    go_light
    refine ⟨ret_bool ?_, Below.refl _ _⟩
    simp [partsOkB, hlen]; omega
end Go.Proofs.YtnjefbkhibfgmaaGreat
namespace Go.Proofs.YtnjefbkhibfgmaaGreat
open Go.RowKit Go.BigFrame
theorem spec_l2Len (a : Option Addr) (n cap : Nat) (l : List Pt) (w : World) (h : PtsAt w a n l) (hn : n ≤ 4194304) (hs : ∀ k, 0 ≤ sumN (l.take k) ∧ sumN (l.take k) ≤ 100) :
    Calls Tryz.prog 53 #[.slice a n cap] w fun e w' => e = .returned (.int .i64 (sumN l)) ∧ w' = w := by
  have hlen' : Hid (l.length = n) := h.len
  go_enter Tryz.func53, Tryz.ntmps53
  go_wp2_with fail
  go_loop [3, 4] (fun s ix => ∃ (k : Nat), k ≤ n ∧ ix = .int .i64 k ∧ s = .int .i64 (sumN (l.take k))) (fun _ ix => n - (intOf ix).toNat)
  case atStart => exact ⟨0, Nat.zero_le _, rfl, rfl⟩
  case round =>
    obtain ⟨k, hk, rfl, rfl⟩ := hrel
    have hs1 := hs k
    have hs2 := hs (k + 1)
    by_cases hlt : k < n
    · obtain ⟨b, o, p, rfl, hp, c0, c1, c2⟩ := pts_at h hlt
      have hst : Hid (sumN (l.take (k + 1)) = sumN (l.take k) + p.n) := sumN_take hp
      have hsb : 0 ≤ sumN (l.take k) + p.n ∧ sumN (l.take k) + p.n ≤ 100 := by rw [← hst.out]; exact hs2
      clear hp hs2
      generalize sumN (l.take k) = s at *
      go_wp2
      go_round
      case rel => exact ⟨k + 1, by omega, by go_num, by rw [hst.out]⟩
      case measure => simp [intOf]; omega
    · obtain rfl : k = n := by omega
      go_wp2
      go_returns
      go_light
      refine ⟨ret_int ?_, rfl⟩
      rw [List.take_of_length_le (Nat.le_of_eq hlen'.out)]
theorem sums_of {l : List Pt} (h : partsOkB l = true) : ∀ k, 0 ≤ sumN (l.take k) ∧ sumN (l.take k) ≤ 100 := by
  intro k
  obtain ⟨_, h1, h2⟩ := partsOkB_all h
  have := sumN_take_bd h1 k
  omega
end Go.Proofs.YtnjefbkhibfgmaaGreat
namespace Go.Proofs.YtnjefbkhibfgmaaGreat
open Go.RowKit Go.BigFrame
theorem wp_region_tail {P : Program} {id : Nat} {Q : Exit → Act → World → Prop} {a : Act} {w : World} {l : List Oper} (n : Nat) (hm : P.follows .mixedOrders = true) (hB : Region.lexTailB .any l.toArray n = true)
    (h : wpStill P l.toArray w.drew (fun a' => wpList P l.toArray Q (l.drop n) a' w.drew) (l.take n) a) : (Code.region id l.toArray true).wp P Q a w :=
  wp_region_still_tail n hm hB h
structure RSt where
  L : List Pt
  s : Int
  ov : Bool
structure RowAt (w : World) (b : Nat) (r : RSt) : Prop where
  le : r.L.length ≤ 16
  blk : ∃ c : Array Value, Blk w b c 120 ∧ c.size = 51 ∧ (∀ i p, r.L[i]? = some p → c[i * 3]? = some (.int .i64 p.a) ∧ c[i * 3 + 1]? = some (.int .i64 p.f) ∧ c[i * 3 + 2]? = some (.int .i64 p.n)) ∧
    c[48]? = some (.int .i64 r.L.length) ∧ c[49]? = some (.int .i64 r.s) ∧ c[50]? = some (.bool r.ov)
end Go.Proofs.YtnjefbkhibfgmaaGreat
namespace Go.Proofs.YtnjefbkhibfgmaaGreat
open Go.RowKit Go.BigFrame
theorem RowAt.below {w w' : World} {b : Nat} {r : RSt} (h : RowAt w b r) (hb : Below w.heap.size w w') : RowAt w' b r := by
  obtain ⟨hle, c, hc, q⟩ := h
  exact ⟨hle, c, hc.below hb, q⟩
theorem RowAt.lt {w : World} {b : Nat} {r : RSt} (h : RowAt w b r) : b < w.heap.size := by
  obtain ⟨_, c, hc, _⟩ := h
  exact hc.lt
def cutP (p : Pt) (x y : Int) : Pt := if p.a == 0 then ⟨0, 0, y - x⟩ else ⟨p.a, p.f + x, y - x⟩
def slp (fr to : Int) : Int → List Pt → List Pt
  | _, [] => []
  | st, p :: r => if max (fr - st) 0 < min (to - st) p.n then cutP p (max (fr - st) 0) (min (to - st) p.n) :: slp fr to (st + p.n) r else slp fr to (st + p.n) r
theorem cutP_n (p : Pt) (x y : Int) : (cutP p x y).n = y - x := by unfold cutP; split <;> rfl
theorem slp_yes {fr to st x y : Int} {p : Pt} {r : List Pt} (hx : max (fr - st) 0 = x) (hy : min (to - st) p.n = y) (h : x < y) : slp fr to st (p :: r) = cutP p x y :: slp fr to (st + p.n) r := by
  subst hx hy; simp only [slp, h, if_true]
theorem slp_no {fr to st : Int} {p : Pt} {r : List Pt} (h : ¬ max (fr - st) 0 < min (to - st) p.n) : slp fr to st (p :: r) = slp fr to (st + p.n) r := by
  simp only [slp, h, if_false]
end Go.Proofs.YtnjefbkhibfgmaaGreat
namespace Go.Proofs.YtnjefbkhibfgmaaGreat
open Go.RowKit Go.BigFrame
theorem infoP : (Tryz.prog.info? 46).map (fun i => (i.zero, i.size, i.bytes)) = some (some (.agg #[.int .i64 0, .int .i64 0, .int .i64 0]), 3, 24) := by kernel_rfl
theorem RowAt.sl {w : World} {b : Nat} {r : RSt} (h : RowAt w b r) : PtsAt w (some ⟨b, 0, none⟩) r.L.length r.L := by
  obtain ⟨hle, c, hblk, hcs, hcp, _⟩ := h
  refine ⟨rfl, fun i x hx => ⟨b, 0, rfl, fun j v hv => ?_⟩⟩
  obtain ⟨r0, r1, r2⟩ := hcp i x hx
  rw [hblk.cell, Nat.zero_add]
  match j, hv with
  | 0, hv => obtain rfl := Option.some.inj hv; exact r0
  | 1, hv => obtain rfl := Option.some.inj hv; exact r1
  | 2, hv => obtain rfl := Option.some.inj hv; exact r2
  | j + 3, hv => simp [Pt.cs] at hv
theorem pos_of {l : List Pt} (h : partsOkB l = true) : ∀ p ∈ l, 1 ≤ p.n ∧ p.n ≤ 100 ∧ 0 ≤ p.f ∧ p.f ≤ 100 := by
  intro p hp
  obtain ⟨_, h1, h2⟩ := partsOkB_all h
  have hk := h1 p hp
  have hpos := partOkB_pos hk
  have h3 : p.n ≤ sumN l := by
    obtain ⟨i, hi⟩ := List.mem_iff_getElem?.1 hp
    have e := sumN_take hi
    have b1 := sumN_take_bd h1 i
    have b2 := sumN_take_bd h1 (i + 1)
    omega
  unfold partOkB at hk
  split at hk <;> simp at hk <;> omega
end Go.Proofs.YtnjefbkhibfgmaaGreat
