/- Appending one element: the row that comes of it is the old one, or new. The lengths of parts, of the program and of the model; the model's PartsOk. Lengths; the laws' copies and comparisons of lists of parts. The row in the making: (*row).add. -/
import Derived.Test.YtnjefbkhibfgmaaGreatK03
import Derived.Test.YtnjefbkhibfgmaaGreatProg
import Derived.Test.YtnjefbkhibfgmaaGreatK00
import Derived.Test.YtnjefbkhibfgmaaGreatK01
import Derived.StillTailTactics
namespace Go.Proofs.YtnjefbkhibfgmaaGreat
open Go.RowKit
theorem app_fresh {P : Program} {w w' : World} {v v' : Value} (base : Nat) (t ty e : TypeId) (i : TypeInfo) (z : Value) (size bytes : Nat) (ht : P.underlying t = some (.slice e)) (hi : P.info? e = some i) (hz : i.zero = some z)
    (hsize : i.size = size) (hby : i.bytes = bytes) (n : Nat) (xs : List Value) (hown : w.ownsRow base e size v n xs)
    (a : Addr) (m c : Nat) (news : List Value) (hm : 0 < m) (hl : news.length = m * size) (hnews : ∀ j u, news[j]? = some u → w.cell? (a.add j) = some u) (h1 : ∀ u ∈ news, u.oneCell' = true)
    (h63 : n + m ≤ maxLen) (hbytes : (n + m) * bytes ≤ 140737488355328) (hr : (Builtin.append_ #[t, t] ty #[v, .slice (some a) m c]).run P w = .ok v' w') :
    ∀ g, v'.ownBlock = some g → v.ownBlock = some g ∨ w.heap.size ≤ g := by
  subst hsize
  subst hby
  have hsmall : n + m ≤ 9223372036854775807 := by simp only [maxLen] at h63; omega
  intro g' hg'
  rcases hown.2 with ⟨rfl, rfl⟩ | ⟨g, cap, cur, rfl, hbg, hg, hnc, hcm, hcs, htake⟩
  · have hr2 := run_append_nil (P := P) w t ty e i z ht hi hz a m c news hl hnews (by omega) (by omega) (by have hb := hbytes; simp only [Nat.zero_add] at hb; omega)
    rw [hr] at hr2
    cases hr2
    right
    simp [Value.ownBlock] at hg'
    omega
  · by_cases hroom : n + m ≤ cap
    · have hfit : n * i.size + news.length ≤ cur.size := by rw [hl, hcs, ← Nat.add_mul]; exact Nat.mul_le_mul_right _ hroom
      have hr2 := run_append_room (P := P) w t ty e i ht hi g n cap cur hg a m c news hl hnews h1 hroom hfit
      rw [hr] at hr2
      cases hr2
      left
      simpa [Value.ownBlock] using hg'
    · have holds : ∀ j u, xs[j]? = some u → w.cell? ((⟨g, 0, none⟩ : Addr).add j) = some u := hown.cells (g := g) rfl
      have hr2 := run_append_grow (P := P) w t ty e i z ht hi hz ⟨g, 0, none⟩ n cap xs hown.1 holds a m c news hl hnews (by omega) (by omega) (growslice_fits (by omega) hbytes)
      rw [hr] at hr2
      cases hr2
      right
      simp [Value.ownBlock] at hg'
      omega
/-- append(d, x): as wp_app, and where the row lies that comes of it. -/
theorem wp_app1 {α : Type} {cs : α → List Value} {size : Nat} {P : Program} {o : Oper} {a : Act} {w : World} {K : Act → World → Prop} {Q : Exit → Act → World → Prop}
    (s x : Operand) (t : TypeId) (ho : o.op = .call { callee := .builtin .append, args := #[s, x], argTypes := #[t, t] })
    (B : Nat) (e : TypeId) (i : TypeInfo) (z : Value) (bytes : Nat) (ht : P.underlying t = some (.slice e)) (hi : P.info? e = some i) (hz : i.zero = some z) (hsize : i.size = size) (hby : i.bytes = bytes) (hzs : z.cells.size = size) (hpos : 0 < size)
    (hsz : ∀ y, (cs y).length = size) (hone : ∀ (l : List α), ∀ u ∈ l.flatMap cs, u.oneCell' = true)
    (da : Option Addr) (dn dcap : Nat) (ld : List α) (hs : a.eval s = .slice da dn dcap) (hd : ResAt cs size e w B da dn dcap ld)
    (b off : Nat) (ls : List α) (hx : a.eval x = .slice (some ⟨b, off, none⟩) 1 1) (hsrc : SlAt cs size w (some ⟨b, off, none⟩) 1 ls)
    (h63 : dn + 1 ≤ maxLen) (hbytes : (dn + 1) * bytes ≤ 140737488355328) (hbase : B ≤ w.heap.size)
    (h : ∀ a' cap' w', ResAt cs size e w' B a' (dn + 1) cap' (ld ++ ls) → w.grownBy w' (Value.ownBlock (.slice da dn dcap)) → (∀ ad', a' = some ad' → (∃ ad, da = some ad ∧ ad.block = ad'.block) ∨ w.heap.size ≤ ad'.block) → K (a.put o.dst (.slice a' (dn + 1) cap')) w') : o.wp P a w K Q := by
  have hrow := hd.row hsz
  have hlen : (ld ++ ls).length = dn + 1 := by rw [List.length_append, hd.sl.len, hsrc.len]
  have hnl : (ls.flatMap cs).length = 1 * size := by rw [flat_len hsz, hsrc.len]
  obtain ⟨v', w', hr, hrow', hg, _⟩ := run_append_own (P := P) w B t o.type e i z size bytes ht hi hz hsize hby hzs hpos (.slice da dn dcap) dn (ld.flatMap cs) hrow ⟨b, off, none⟩ 1 1 (ls.flatMap cs) hnl (SlAt.src hsz hsrc) (hone ls) h63 hbytes hbase
  have hfr := app_fresh (P := P) B t o.type e i z size bytes ht hi hz hsize hby dn (ld.flatMap cs) hrow ⟨b, off, none⟩ 1 1 (ls.flatMap cs) (by omega) hnl (SlAt.src hsz hsrc) (hone ls) h63 hbytes hr
  rw [← List.flatMap_append] at hrow'
  obtain ⟨a', cap', rfl, hres⟩ := res_of_row hsz hlen hrow'
  unfold Oper.wp
  simp [execOp, ho, resolve, invoke, builtin, hs, hx, hr, Result.andThen]
  refine h a' cap' w' hres hg (fun ad' had' => ?_)
  subst had'
  rcases hfr ad'.block (by simp [Value.ownBlock]) with h1 | h1
  · cases da with
    | none => simp [Value.ownBlock] at h1
    | some ad => exact .inl ⟨ad, rfl, by simpa [Value.ownBlock] using h1⟩
  · exact .inr h1
end Go.Proofs.YtnjefbkhibfgmaaGreat
namespace Go.Proofs.YtnjefbkhibfgmaaGreat
open Go.RowKit Go.BigFrame
set_option maxHeartbeats 1000000 in
theorem spec_PartsOk (a : Option Addr) (n cap : Nat) (l : List Pt) (w : World) (h : PtsAt w a n l) (hn : n ≤ 4194304) :
    Calls Tryz.prog 73 #[.slice a n cap] w fun e w' => e = .returned (.bool (partsOkB l)) ∧ Below w.heap.size w w' := by
  have hlen := h.len
  by_cases h16 : n ≤ 16
  · have hfin : Hid (partsOkB l = sgo none 0 l) := by show _ = _; rw [sgo_pgo l none 0 (by omega) (by omega)]; simp [partsOkB, hlen, h16]
    have hlen' : Hid (l.length = n) := hlen
    clear hlen
    go_enter Tryz.func73, Tryz.ntmps73
    go_wp2_with fail
    go_loopw [2, 3, 4] (fun r s ix wr => ∃ (k : Nat) (lf : Int), k ≤ n ∧ ix = .int .i64 k ∧ s = .int .i64 lf ∧ 0 ≤ lf ∧ lf ≤ 100 * k ∧ Hid (sgo none 0 l = sgo (ahead l k) lf (l.drop k)) ∧ Below w.heap.size w wr) (fun _ _ ix _ => n - (intOf ix).toNat)
    case atStart => exact ⟨0, 0, Nat.zero_le _, rfl, rfl, by omega, by omega, rfl, Below.refl _ _⟩
    case round =>
      obtain ⟨k, lf, hk, rfl, rfl, hf0, hf1, hI, hB⟩ := hrel
      by_cases hlt : k < n
      · obtain ⟨b, o, p, rfl, hp, c0, c1, c2⟩ := pts_at (h.below hB) hlt
        have hd : Hid (l.drop k = p :: l.drop (k + 1)) := drop_at hp
        have hq : Hid (l[k]? = some p) := hp
        clear hp
        have hk1 : (k : Int) < n := by omega
        have hk2 : (0 : Int) ≤ k := by omega
        cases hpo : (partOkB p && decide (p.n ≤ 100))
        · go_wp2_with fail
          have g0 := gcell c0
          have g1 := gcell c1
          have g2 := gcell c2
          have hne := grw_ne wr
          refine wp_region_grow (by kernel_rfl) (by kernel_rfl) ?_
          repeat (go_big_quiet_step (first | (go_at_call 92; have qq := spec_l2PartOk p; rw [hpo] at qq; exact grow_of (qq _))))
          refine wpQuiet_nil ?_
          intro w2 hx
          have hB2 := grw_out hx
          clear hx
          go_wp2
          go_returns
          go_light
          refine ⟨ret_bool ?_, chain hB hB2⟩
          rw [hfin.out, hI.out, hd.out]; cases ahead l k <;> simp only [sgo, hpo, Bool.false_and]
        · have hpn : 1 ≤ p.n ∧ p.n ≤ 100 := by simp at hpo; exact ⟨partOkB_pos hpo.1, hpo.2⟩
          rcases k with _ | j
          · simp only [Nat.zero_mul, Nat.add_zero] at c0 c1 c2
            go_wp2_with fail
            have g0 := gcell c0
            have g1 := gcell c1
            have g2 := gcell c2
            have hne := grw_ne wr
            refine wp_region_grow (by kernel_rfl) (by kernel_rfl) ?_
            repeat (go_big_quiet_step (first | (go_at_call 92; have qq := spec_l2PartOk p; rw [hpo] at qq; exact grow_of (qq _))))
            refine wpQuiet_nil ?_
            intro w2 hx
            have hB2 := grw_out hx
            have d2 := bcell hB2 c2
            clear hx
            go_wp2
            go_roundw
            case rel => exact ⟨1, lf + p.n, by omega, by go_num, by go_num, by omega, by omega, by show _ = _; rw [hI.out, hd.out, ahead_zero, ahead_succ, hq.out]; simp only [sgo, hpo, Bool.true_and], chain hB hB2⟩
            case measure => simp [intOf]; omega
          · obtain ⟨b', o', q, hbo, hq', d0, d1, d2⟩ := pts_at (h.below hB) (k := j) (by omega)
            obtain ⟨rfl, rfl⟩ : b = b' ∧ o = o' := by simpa using hbo
            have ha : Hid (ahead l (j + 1) = some q) := by show _ = _; rw [ahead_succ]; exact hq'
            clear hq' hbo
            cases hgo : goesOnB q p
            all_goals
              go_wp2_with fail
              have g0 := gcell c0
              have g1 := gcell c1
              have g2 := gcell c2
              have g3 := gcell d0
              have g4 := gcell d1
              have g5 := gcell d2
              have hne := grw_ne wr
              refine wp_region_grow (by kernel_rfl) (by kernel_rfl) ?_
              repeat (go_big_quiet_step (first | (go_at_call 92; have qq := spec_l2PartOk p; rw [hpo] at qq; exact grow_of (qq _)) | (go_at_call 93; have qq := spec_l2Next q p; rw [hgo] at qq; exact grow_of (qq _))))
              refine wpQuiet_nil ?_
              intro w2 hx
              have hB2 := grw_out hx
              have e2 := bcell hB2 c2
              clear hx
              go_wp2
            · go_roundw
              case rel => exact ⟨j + 2, lf + p.n, by omega, by go_num, by go_num, by omega, by omega, by show _ = _; rw [hI.out, hd.out, ha.out, ahead_succ, hq.out]; simp only [sgo, hpo, hgo, Bool.true_and, Bool.not_false], chain hB hB2⟩
              case measure => simp [intOf]; omega
            · go_returns
              go_light
              refine ⟨ret_bool ?_, chain hB hB2⟩
              rw [hfin.out, hI.out, hd.out, ha.out]; simp only [sgo, hpo, hgo, Bool.true_and, Bool.not_true, Bool.false_and]
      · obtain rfl : k = n := by omega
        go_wp2
        go_returns
        go_light
        refine ⟨ret_bool ?_, hB⟩
        rw [hfin.out, hI.out, List.drop_of_length_le (Nat.le_of_eq hlen'.out)]; cases ahead l k <;> rfl
  · go_enter Tryz.func73, Tryz.ntmps73
    go_wp2
    go_returns
    go_light
    refine ⟨ret_bool ?_, Below.refl _ _⟩
    simp [partsOkB, hlen]; omega
end Go.Proofs.YtnjefbkhibfgmaaGreat
namespace Go.Proofs.YtnjefbkhibfgmaaGreat
open Go.RowKit Go.BigFrame
theorem spec_l2Len (a : Option Addr) (n cap : Nat) (l : List Pt) (w : World) (h : PtsAt w a n l) (hn : n ≤ 4194304) (hs : ∀ k, 0 ≤ sumN (l.take k) ∧ sumN (l.take k) ≤ 100) :
    Calls Tryz.prog 53 #[.slice a n cap] w fun e w' => e = .returned (.int .i64 (sumN l)) ∧ w' = w := by
  have hlen' : Hid (l.length = n) := h.len
  go_enter Tryz.func53, Tryz.ntmps53
  go_wp2_with fail
  go_loop [3, 4] (fun s ix => ∃ (k : Nat), k ≤ n ∧ ix = .int .i64 k ∧ s = .int .i64 (sumN (l.take k))) (fun _ ix => n - (intOf ix).toNat)
  case atStart => exact ⟨0, Nat.zero_le _, rfl, rfl⟩
  case round =>
    obtain ⟨k, hk, rfl, rfl⟩ := hrel
    have hs1 := hs k
    have hs2 := hs (k + 1)
    by_cases hlt : k < n
    · obtain ⟨b, o, p, rfl, hp, c0, c1, c2⟩ := pts_at h hlt
      have hst : Hid (sumN (l.take (k + 1)) = sumN (l.take k) + p.n) := sumN_take hp
      have hsb : 0 ≤ sumN (l.take k) + p.n ∧ sumN (l.take k) + p.n ≤ 100 := by rw [← hst.out]; exact hs2
      clear hp hs2
      generalize sumN (l.take k) = s at *
      go_wp2
      go_round
      case rel => exact ⟨k + 1, by omega, by go_num, by rw [hst.out]⟩
      case measure => simp [intOf]; omega
    · obtain rfl : k = n := by omega
      go_wp2
      go_returns
      go_light
      refine ⟨ret_int ?_, rfl⟩
      rw [List.take_of_length_le (Nat.le_of_eq hlen'.out)]
theorem sums_of {l : List Pt} (h : partsOkB l = true) : ∀ k, 0 ≤ sumN (l.take k) ∧ sumN (l.take k) ≤ 100 := by
  intro k
  obtain ⟨_, h1, h2⟩ := partsOkB_all h
  have := sumN_take_bd h1 k
  omega
/-- LenOf, as a plain function. -/
def lenB (l : List Pt) : Int := if partsOkB l = true then sumN l else -1
theorem impl_LenOf (a : Option Addr) (n cap : Nat) (l : List Pt) (w : World) (h : PtsAt w a n l) (hn : n ≤ 4194304) :
    Calls Tryz.prog 55 #[.slice a n cap] w fun e w' => e = .returned (.int .i64 (lenB l)) ∧ Below w.heap.size w w' := by
  cases hok : partsOkB l
  · have hf : Hid (lenB l = -1) := by show _ = _; simp [lenB, hok]
    go_enter Tryz.func55, Tryz.ntmps55
    go_wp2_with fail
    refine (impl_PartsOk a n cap l _ h hn).mono ?_
    rintro e w1 ⟨rfl, hB1⟩
    rw [hok]
    go_wp2
    go_returns
    go_light
    exact ⟨ret_int hf.out.symm, hB1⟩
  · have hf : Hid (lenB l = sumN l) := by show _ = _; simp [lenB, hok]
    have hs : Hid (∀ k, 0 ≤ sumN (l.take k) ∧ sumN (l.take k) ≤ 100) := sums_of hok
    have hlen' : Hid (l.length = n) := h.len
    go_enter Tryz.func55, Tryz.ntmps55
    go_wp2_with fail
    refine (impl_PartsOk a n cap l _ h hn).mono ?_
    rintro e w1 ⟨rfl, hB1⟩
    rw [hok]
    go_wp2_with fail
    go_loopw [3, 11] (fun s ix wr => ∃ (k : Nat), k ≤ n ∧ ix = .int .i64 k ∧ s = .int .i64 (sumN (l.take k)) ∧ Below w.heap.size w wr) (fun _ ix _ => n - (intOf ix).toNat)
    case atStart => exact ⟨0, Nat.zero_le _, rfl, rfl, hB1⟩
    case round =>
      obtain ⟨k, hk, rfl, rfl, hB⟩ := hrel
      have hs1 := hs.out k
      have hs2 := hs.out (k + 1)
      by_cases hlt : k < n
      · obtain ⟨b, o, p, rfl, hp, c0, c1, c2⟩ := pts_at (h.below hB) hlt
        have hst : Hid (sumN (l.take (k + 1)) = sumN (l.take k) + p.n) := sumN_take hp
        have hsb : 0 ≤ sumN (l.take k) + p.n ∧ sumN (l.take k) + p.n ≤ 100 := by rw [← hst.out]; exact hs2
        clear hp hs2
        generalize sumN (l.take k) = s at *
        go_wp2
        go_roundw
        case rel => exact ⟨k + 1, by omega, by go_num, by rw [hst.out], by have := hB.size; go_grown⟩
        case measure => simp [intOf]; omega
      · obtain rfl : k = n := by omega
        go_wp2
        go_returns
        go_light
        refine ⟨ret_int ?_, hB⟩
        rw [List.take_of_length_le (Nat.le_of_eq hlen'.out), hf.out]
end Go.Proofs.YtnjefbkhibfgmaaGreat
namespace Go.Proofs.YtnjefbkhibfgmaaGreat
open Go.RowKit Go.BigFrame
/-- A region that draws its order, whose first n operations only read, what is left coming behind them in its own order. -/
theorem wp_region_tail {P : Program} {id : Nat} {Q : Exit → Act → World → Prop} {a : Act} {w : World} {l : List Oper} (n : Nat) (hm : P.follows .mixedOrders = true) (hB : Region.lexTailB .any l.toArray n = true)
    (h : wpStill P l.toArray w.drew (fun a' => wpList P l.toArray Q (l.drop n) a' w.drew) (l.take n) a) : (Code.region id l.toArray true).wp P Q a w :=
  wp_region_still_tail n hm hB h
/-- A row in the making: its parts, all lengths together, whether it grew too great. -/
structure RSt where
  L : List Pt
  s : Int
  ov : Bool
/-- Block b holds such a row. -/
structure RowAt (w : World) (b : Nat) (r : RSt) : Prop where
  le : r.L.length ≤ 16
  blk : ∃ c : Array Value, Blk w b c 120 ∧ c.size = 51 ∧ (∀ i p, r.L[i]? = some p → c[i * 3]? = some (.int .i64 p.a) ∧ c[i * 3 + 1]? = some (.int .i64 p.f) ∧ c[i * 3 + 2]? = some (.int .i64 p.n)) ∧
    c[48]? = some (.int .i64 r.L.length) ∧ c[49]? = some (.int .i64 r.s) ∧ c[50]? = some (.bool r.ov)
/-- What a part adds to it. -/
def radd (r : RSt) (p : Pt) : RSt :=
  if 100 < r.s + p.n then ⟨r.L, r.s + p.n, true⟩ else
  match r.L.getLast? with
  | none => ⟨[p], r.s + p.n, r.ov⟩
  | some q => if goesOnB q p then ⟨r.L.dropLast ++ [⟨q.a, q.f, q.n + p.n⟩], r.s + p.n, r.ov⟩ else
    if r.L.length < 16 then ⟨r.L ++ [p], r.s + p.n, r.ov⟩ else ⟨r.L, r.s + p.n, true⟩
theorem radd_merge {r : RSt} {p q : Pt} (hA : r.s + p.n ≤ 100) (hl : r.L.getLast? = some q) (hg : goesOnB q p = true) : radd r p = ⟨r.L.dropLast ++ [⟨q.a, q.f, q.n + p.n⟩], r.s + p.n, r.ov⟩ := by
  have : ¬ 100 < r.s + p.n := by omega
  simp [radd, this, hl, hg]
theorem radd_app {r : RSt} {p q : Pt} (hA : r.s + p.n ≤ 100) (hl : r.L.getLast? = some q) (hg : goesOnB q p = false) (hf : r.L.length < 16) : radd r p = ⟨r.L ++ [p], r.s + p.n, r.ov⟩ := by
  have : ¬ 100 < r.s + p.n := by omega
  simp [radd, this, hl, hg, hf]
theorem radd_full {r : RSt} {p q : Pt} (hA : r.s + p.n ≤ 100) (hl : r.L.getLast? = some q) (hg : goesOnB q p = false) (hf : ¬ r.L.length < 16) : radd r p = ⟨r.L, r.s + p.n, true⟩ := by
  have : ¬ 100 < r.s + p.n := by omega
  simp [radd, this, hl, hg, hf]
/-- Lengths that add up. -/
def RInv (r : RSt) : Prop := 0 ≤ r.s ∧ ∀ q ∈ r.L, 1 ≤ q.n ∧ q.n ≤ r.s
set_option maxHeartbeats 1000000 in
set_option maxRecDepth 100000 in
theorem impl_add (b : Nat) (r : RSt) (p : Pt) (w : World) (h : RowAt w b r) (hi : RInv r) (hs : r.s ≤ 1000000) (hp1 : 1 ≤ p.n) (hp2 : p.n ≤ 1000000) :
    Calls Tryz.prog 103 #[.pointer (some ⟨b, 0, none⟩), .agg #[.int .i64 p.a, .int .i64 p.f, .int .i64 p.n]] w fun e w' => e = .returned (.tuple #[]) ∧ RowAt w' b (radd r p) ∧ w.grownBy w' (some b) := by
  obtain ⟨hle, c, hblk, hcs, hcp, e48, e49, e50⟩ := h
  obtain ⟨hi0, hi1⟩ := hi
  have hbw := hblk.lt
  have c48 := hblk.cell 48
  have c49 := hblk.cell 49
  have c50 := hblk.cell 50
  rw [e48] at c48
  rw [e49] at c49
  rw [e50] at c50
  have f48 := hblk.frozen 48
  have f49 := hblk.frozen 49
  have f50 := hblk.frozen 50
  by_cases hA : 100 < r.s + p.n
  · have hr : Hid (radd r p = ⟨r.L, r.s + p.n, true⟩) := by show _ = _; simp [radd, hA]
    go_enter Tryz.func103, Tryz.ntmps103
    go_wp2_with fail
    refine wp_region_tail 9 (by kernel_rfl) (by kernel_rfl) ?_
    simp only [List.take_succ_cons, List.take_zero, List.drop_succ_cons, List.drop_zero]
    repeat still_step
    refine wpStill_nil ?_
    go_wp2
    go_returns
    go_light
    refine ⟨rfl, ?_, ?_⟩
    · rw [hr.out]
      refine ⟨hle, _, (((hblk.set 49 _).set 50 _).alloc _).drew, by simp [hcs], ?_, ?_, ?_, ?_⟩
      · intro i q hq
        have hlt : i < r.L.length := (List.getElem?_eq_some_iff.1 hq).1
        obtain ⟨r0, r1, r2⟩ := hcp i q hq
        refine ⟨?_, ?_, ?_⟩
        all_goals (rw [Array.getElem?_setIfInBounds_ne (by omega), Array.getElem?_setIfInBounds_ne (by omega)]; assumption)
      · rw [Array.getElem?_setIfInBounds_ne (by omega), Array.getElem?_setIfInBounds_ne (by omega)]; exact e48
      · rw [Array.getElem?_setIfInBounds_ne (by omega), Array.getElem?_setIfInBounds_self_of_lt (by omega)]
      · rw [Array.getElem?_setIfInBounds_self_of_lt (by simp [hcs])]
    · exact grown_below (grown_set (grown_set (World.grownBy.refl _ _) _ _) _ _) (((Below.refl _ _).alloc (Nat.le_refl _) _).drew)
  · have hwr : IntKind.i64.wrap (r.s + p.n) = r.s + p.n := by rw [IntKind.wrap_i64]; omega
    have hb5 : Blk ((w.setCell ⟨b, 49, none⟩ (.int .i64 (r.s + p.n))).alloc (.cells #[.int .i64 p.a, .int .i64 p.f, .int .i64 p.n] 46)).drew b (c.setIfInBounds 49 (.int .i64 (r.s + p.n))) 120 := ((hblk.set 49 _).alloc _).drew
    have hg5 : w.grownBy ((w.setCell ⟨b, 49, none⟩ (.int .i64 (r.s + p.n))).alloc (.cells #[.int .i64 p.a, .int .i64 p.f, .int .i64 p.n] 46)).drew (some b) := grown_below (grown_set (World.grownBy.refl _ _) _ _) (((Below.refl _ _).alloc (Nat.le_refl _) _).drew)
    have k48 : (c.setIfInBounds 49 (.int .i64 (r.s + p.n)))[48]? = some (.int .i64 r.L.length) := by rw [Array.getElem?_setIfInBounds_ne (by omega)]; exact e48
    have k49 : (c.setIfInBounds 49 (.int .i64 (r.s + p.n)))[49]? = some (.int .i64 (r.s + p.n)) := by rw [Array.getElem?_setIfInBounds_self_of_lt (by omega)]
    have k50 : (c.setIfInBounds 49 (.int .i64 (r.s + p.n)))[50]? = some (.bool r.ov) := by rw [Array.getElem?_setIfInBounds_ne (by omega)]; exact e50
    have kp : ∀ i q, r.L[i]? = some q → (c.setIfInBounds 49 (.int .i64 (r.s + p.n)))[i * 3]? = some (.int .i64 q.a) ∧ (c.setIfInBounds 49 (.int .i64 (r.s + p.n)))[i * 3 + 1]? = some (.int .i64 q.f) ∧ (c.setIfInBounds 49 (.int .i64 (r.s + p.n)))[i * 3 + 2]? = some (.int .i64 q.n) := by
      intro i q hq
      have hlt : i < r.L.length := (List.getElem?_eq_some_iff.1 hq).1
      obtain ⟨r0, r1, r2⟩ := hcp i q hq
      refine ⟨?_, ?_, ?_⟩
      all_goals (rw [Array.getElem?_setIfInBounds_ne (by omega)]; assumption)
    have ks : (c.setIfInBounds 49 (.int .i64 (r.s + p.n))).size = 51 := by simp [hcs]
    have x0 : ((w.setCell ⟨b, 49, none⟩ (.int .i64 (r.s + p.n))).alloc (.cells #[.int .i64 p.a, .int .i64 p.f, .int .i64 p.n] 46)).drew.cell? ⟨w.heap.size, 0, none⟩ = some (.int .i64 p.a) := by simp [go_sem]
    have x1 : ((w.setCell ⟨b, 49, none⟩ (.int .i64 (r.s + p.n))).alloc (.cells #[.int .i64 p.a, .int .i64 p.f, .int .i64 p.n] 46)).drew.cell? ⟨w.heap.size, 1, none⟩ = some (.int .i64 p.f) := by simp [go_sem]
    have x2 : ((w.setCell ⟨b, 49, none⟩ (.int .i64 (r.s + p.n))).alloc (.cells #[.int .i64 p.a, .int .i64 p.f, .int .i64 p.n] 46)).drew.cell? ⟨w.heap.size, 2, none⟩ = some (.int .i64 p.n) := by simp [go_sem]
    have hsz : w.heap.size < ((w.setCell ⟨b, 49, none⟩ (.int .i64 (r.s + p.n))).alloc (.cells #[.int .i64 p.a, .int .i64 p.f, .int .i64 p.n] 46)).drew.heap.size := by simp
    go_enter Tryz.func103, Tryz.ntmps103
    go_wp2_with fail
    refine wp_region_tail 9 (by kernel_rfl) (by kernel_rfl) ?_
    simp only [List.take_succ_cons, List.take_zero, List.drop_succ_cons, List.drop_zero]
    repeat still_step
    refine wpStill_nil ?_
    go_wp2_with fail
    generalize hW5 : ((w.setCell ⟨b, 49, none⟩ (.int .i64 (r.s + p.n))).alloc (.cells #[.int .i64 p.a, .int .i64 p.f, .int .i64 p.n] 46)).drew = W5 at hb5 hg5 x0 x1 x2 hsz ⊢
    generalize hc5 : c.setIfInBounds 49 (.int .i64 (r.s + p.n)) = c5 at hb5 k48 k49 k50 kp ks
    clear hW5 hc5 c48 c49 c50 f48 f49 f50 e48 e49 e50 hcp hcs hblk
    have c48 := (hb5.cell 48).trans k48
    rcases List.eq_nil_or_concat r.L with hL | ⟨L', q, hL⟩
    · have hr : Hid (radd r p = ⟨[p], r.s + p.n, r.ov⟩) := by show _ = _; simp [radd, hA, hL]
      rw [hL] at c48 k48
      simp at c48 k48
      -- the row is empty: the part is its first
      go_quiet (fail)
      have hb6 := hb5.below (drewNB W5 nq)
      have hg6 := grown_below hg5 (drewNB W5 nq)
      have c48' := (hb6.cell 48).trans k48
      have f48 := hb6.frozen 48
      obtain ⟨v0, y0⟩ := hb6.has (i := 0) (by omega)
      obtain ⟨v1, y1⟩ := hb6.has (i := 1) (by omega)
      obtain ⟨v2, y2⟩ := hb6.has (i := 2) (by omega)
      have f0 := hb6.frozen 0
      have f1 := hb6.frozen 1
      have f2 := hb6.frozen 2
      replace x0 := bcell (drewNB W5 nq) x0
      replace x1 := bcell (drewNB W5 nq) x1
      replace x2 := bcell (drewNB W5 nq) x2
      generalize W5.drewN nq = W6 at *
      clear c48 hb5 hg5
      go_wp2_with fail
      refine wp_region_tail 9 (by kernel_rfl) (by kernel_rfl) ?_
      simp only [List.take_succ_cons, List.take_zero, List.drop_succ_cons, List.drop_zero]
      repeat still_step
      refine wpStill_nil ?_
      go_wp2
      go_returns
      go_light
      refine ⟨rfl, ?_, ?_⟩
      · rw [hr.out]
        refine ⟨by simp, _, ((((hb6.set 0 _).set 1 _).set 2 _).set 48 _).drew, by simp [ks], ?_, ?_, ?_, ?_⟩
        · intro i x hx
          have : i = 0 := by have := (List.getElem?_eq_some_iff.1 hx).1; simp at this; exact this
          subst this
          simp at hx
          subst hx
          refine ⟨?_, ?_, ?_⟩
          all_goals (simp [ks])
        · simp [ks]
        · simp [k49]
        · simp [k50]
      · exact grown_below (grown_set (grown_set (grown_set (grown_set hg6 _ _) _ _) _ _) _ _) ((Below.refl _ _).drew)
    · -- there is a last part
      have hLl : r.L.length = L'.length + 1 := by rw [hL]; simp
      have hq : r.L[L'.length]? = some q := by rw [hL]; simp
      have hlast : r.L.getLast? = some q := by rw [hL]; simp
      have hdl : r.L.dropLast = L' := by rw [hL]; simp
      have hj16 : L'.length < 16 := by omega
      obtain ⟨q0, q1, q2⟩ := kp _ q hq
      have hqi := hi1 q (List.mem_of_getElem? hq)
      rw [hLl] at c48 k48
      generalize hj : L'.length = j at *
      have d0 := (hb5.cell (j * 3)).trans q0
      have d1 := (hb5.cell (j * 3 + 1)).trans q1
      have d2 := (hb5.cell (j * 3 + 2)).trans q2
      have c48i : W5.cell? ⟨b, 48, none⟩ = some (.int .i64 ((j : Int) + 1)) := by rw [c48]; simp
      have hw1 : IntKind.i64.wrap ((j : Int) + 1 - 1) = (j : Int) := by rw [IntKind.wrap_i64]; omega
      have hj0 : (0 : Int) < (j : Int) + 1 := by omega
      have hj15 : (j : Int) < 16 := by omega
      have hjn : (0 : Int) ≤ (j : Int) := by omega
      clear c48
      have g48 := gcell c48i
      have g0 := gcell d0
      have g1 := gcell d1
      have g2 := gcell d2
      have g3 := gcell x0
      have g4 := gcell x1
      have g5 := gcell x2
      have hne := grw_ne W5
      cases hgo : goesOnB q p
      all_goals
        refine wp_region_grow (by kernel_rfl) (by kernel_rfl) ?_
        repeat (go_big_quiet_step (first | (go_at_call 102; have qq := impl_goesOn q p; rw [hgo] at qq; exact grow_of (qq _))))
        refine wpQuiet_nil ?_
        intro W6 hx
        have hB6 := grw_out hx
        clear hx g48 g0 g1 g2 g3 g4 g5 hne
        have hb6 := hb5.below hB6
        have hg6 := grown_below hg5 hB6
        have c48' := bcell hB6 c48i
        have f48 := hb6.frozen 48
        replace x0 := bcell hB6 x0
        replace x1 := bcell hB6 x1
        replace x2 := bcell hB6 x2
        clear hb5 hg5 hB6 hsz
      · by_cases hfull : j + 1 < 16
        · have hr : Hid (radd r p = ⟨r.L ++ [p], r.s + p.n, r.ov⟩) := radd_app (by omega) hlast hgo (by omega)
          obtain ⟨v0, y0⟩ := hb6.has (i := (j + 1) * 3) (by omega)
          obtain ⟨v1, y1⟩ := hb6.has (i := (j + 1) * 3 + 1) (by omega)
          obtain ⟨v2, y2⟩ := hb6.has (i := (j + 1) * 3 + 2) (by omega)
          have f0 := hb6.frozen ((j + 1) * 3)
          have f1 := hb6.frozen ((j + 1) * 3 + 1)
          have f2 := hb6.frozen ((j + 1) * 3 + 2)
          have n0 : ¬ (48 = (j + 1) * 3) := by omega
          have n1 : ¬ (48 = (j + 1) * 3 + 1) := by omega
          have n2 : ¬ (48 = (j + 1) * 3 + 2) := by omega
          have hfi : (j : Int) + 1 < 16 := by omega
          have hfj : (0 : Int) ≤ (j : Int) + 1 := by omega
          have hfk : ((j : Int) + 1).toNat = j + 1 := by omega
          clear d0 d1 d2 hw1 hj0 hj15 hjn
          go_wp2_with fail
          refine wp_region_tail 9 (by kernel_rfl) (by kernel_rfl) ?_
          simp only [List.take_succ_cons, List.take_zero, List.drop_succ_cons, List.drop_zero]
          repeat still_step
          refine wpStill_nil ?_
          go_wp2
          go_returns
          go_light
          refine ⟨rfl, ?_, ?_⟩
          · rw [hr.out]
            refine ⟨by simp; omega, _, ((((hb6.set ((j + 1) * 3) _).set ((j + 1) * 3 + 1) _).set ((j + 1) * 3 + 2) _).set 48 _).drew, by simp [ks], ?_, ?_, ?_, ?_⟩
            · intro i x hx
              have hil : i < j + 2 := by have := (List.getElem?_eq_some_iff.1 hx).1; simp [hLl] at this; omega
              by_cases hie : i = j + 1
              · subst hie
                rw [List.getElem?_append_right (by omega), hLl] at hx
                simp at hx
                subst hx
                refine ⟨?_, ?_, ?_⟩
                · rw [Array.getElem?_setIfInBounds_ne (by omega), Array.getElem?_setIfInBounds_ne (by omega), Array.getElem?_setIfInBounds_ne (by omega), Array.getElem?_setIfInBounds_self_of_lt (by omega)]
                · rw [Array.getElem?_setIfInBounds_ne (by omega), Array.getElem?_setIfInBounds_ne (by omega), Array.getElem?_setIfInBounds_self_of_lt (by simp; omega)]
                · rw [Array.getElem?_setIfInBounds_ne (by omega), Array.getElem?_setIfInBounds_self_of_lt (by simp; omega)]
              · rw [List.getElem?_append_left (by omega)] at hx
                obtain ⟨r0, r1, r2⟩ := kp i x hx
                refine ⟨?_, ?_, ?_⟩
                all_goals (rw [Array.getElem?_setIfInBounds_ne (by omega), Array.getElem?_setIfInBounds_ne (by omega), Array.getElem?_setIfInBounds_ne (by omega), Array.getElem?_setIfInBounds_ne (by omega)]; assumption)
            · rw [Array.getElem?_setIfInBounds_self_of_lt (by simp; omega)]; simp [hLl]
            · rw [Array.getElem?_setIfInBounds_ne (by omega), Array.getElem?_setIfInBounds_ne (by omega), Array.getElem?_setIfInBounds_ne (by omega), Array.getElem?_setIfInBounds_ne (by omega)]; exact k49
            · rw [Array.getElem?_setIfInBounds_ne (by omega), Array.getElem?_setIfInBounds_ne (by omega), Array.getElem?_setIfInBounds_ne (by omega), Array.getElem?_setIfInBounds_ne (by omega)]; exact k50
          · exact grown_below (grown_set (grown_set (grown_set (grown_set hg6 _ _) _ _) _ _) _ _) ((Below.refl _ _).drew)
        · have hr : Hid (radd r p = ⟨r.L, r.s + p.n, true⟩) := radd_full (by omega) hlast hgo (by omega)
          have f50 := hb6.frozen 50
          have c50 := (hb6.cell 50).trans k50
          have hfi : ¬ (j : Int) + 1 < 16 := by omega
          clear d0 d1 d2 hw1 hj0 hj15 hjn
          go_wp2
          go_returns
          go_light
          refine ⟨rfl, ?_, ?_⟩
          · rw [hr.out]
            refine ⟨hle, _, hb6.set 50 _, by simp [ks], ?_, ?_, ?_, ?_⟩
            · intro i x hx
              have hlt : i < r.L.length := (List.getElem?_eq_some_iff.1 hx).1
              obtain ⟨r0, r1, r2⟩ := kp i x hx
              refine ⟨?_, ?_, ?_⟩
              all_goals (rw [Array.getElem?_setIfInBounds_ne (by omega)]; assumption)
            · rw [Array.getElem?_setIfInBounds_ne (by omega), k48, hLl]
            · rw [Array.getElem?_setIfInBounds_ne (by omega)]; exact k49
            · rw [Array.getElem?_setIfInBounds_self_of_lt (by omega)]
          · exact grown_set hg6 _ _
      · have hr : Hid (radd r p = ⟨r.L.dropLast ++ [⟨q.a, q.f, q.n + p.n⟩], r.s + p.n, r.ov⟩) := radd_merge (by omega) hlast hgo
        have f2 := hb6.frozen (j * 3 + 2)
        have z2 := (hb6.cell (j * 3 + 2)).trans q2
        have hw2 : IntKind.i64.wrap (q.n + p.n) = q.n + p.n := by rw [IntKind.wrap_i64]; omega
        have hw3 : IntKind.i64.wrap (j : Int) = (j : Int) := by rw [IntKind.wrap_i64]; omega
        clear d0 d1 d2
        go_wp2_with fail
        refine wp_region_tail 18 (by kernel_rfl) (by kernel_rfl) ?_
        simp only [List.take_succ_cons, List.take_zero, List.drop_succ_cons, List.drop_zero]
        repeat still_step
        refine wpStill_nil ?_
        go_wp2
        go_returns
        go_light
        refine ⟨rfl, ?_, ?_⟩
        · rw [hr.out]
          refine ⟨by simp [hLl]; omega, _, (hb6.set (j * 3 + 2) _).drew, by simp [ks], ?_, ?_, ?_, ?_⟩
          · intro i x hx
            have hil : i < j + 1 := by have := (List.getElem?_eq_some_iff.1 hx).1; simp [hLl] at this; omega
            rw [hdl] at hx
            by_cases hie : i = j
            · subst hie
              rw [List.getElem?_append_right (by omega), hj] at hx
              simp at hx
              subst hx
              refine ⟨?_, ?_, ?_⟩
              · rw [Array.getElem?_setIfInBounds_ne (by omega)]; exact q0
              · rw [Array.getElem?_setIfInBounds_ne (by omega)]; exact q1
              · rw [Array.getElem?_setIfInBounds_self_of_lt (by omega)]
            · rw [List.getElem?_append_left (by omega)] at hx
              obtain ⟨r0, r1, r2⟩ := kp i x (by rw [hL, List.concat_eq_append, List.getElem?_append_left (by omega)]; exact hx)
              refine ⟨?_, ?_, ?_⟩
              all_goals (rw [Array.getElem?_setIfInBounds_ne (by omega)]; assumption)
          · rw [Array.getElem?_setIfInBounds_ne (by omega), k48]; simp [hdl, hj]
          · rw [Array.getElem?_setIfInBounds_ne (by omega)]; exact k49
          · rw [Array.getElem?_setIfInBounds_ne (by omega)]; exact k50
        · exact grown_below (grown_set hg6 _ _) ((Below.refl _ _).drew)
end Go.Proofs.YtnjefbkhibfgmaaGreat
