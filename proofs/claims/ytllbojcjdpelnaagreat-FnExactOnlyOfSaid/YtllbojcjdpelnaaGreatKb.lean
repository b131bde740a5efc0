/- Bytes: zeros appended to a row of the call's own, rows of bytes as texts. The parts: partOk, goesOn, PartsOk of the program: each returns what the plain function gives, and turns nothing that was there. Plain facts on the functions over lists of parts. The parts, as the model has them, and the laws' own helpers for parts. Blocks of the call's own: what they hold, and that a store into one leaves the others. -/
import Derived.Lib.AppendStr
import Derived.Lib.AppendZerosOnto
import Derived.Laws.BytesArg
import Derived.Test.YtllbojcjdpelnaaGreatKa
import Derived.Test.YtllbojcjdpelnaaGreatProg
namespace Go.Proofs.YtllbojcjdpelnaaGreat
open Go.RowKit Go.Lib

/-- So many zeros. -/
def zs (k : Nat) : ByteArray := ⟨(List.replicate k (0 : UInt8)).toArray⟩
theorem zs_size (k : Nat) : (zs k).size = k := by simp [zs, ByteArray.size]
theorem zs_cells (k : Nat) : (strCells (zs k)).toArray = Builtin.zeroCells #[Value.int .u8 0] k := by
  apply Array.ext'
  apply List.ext_getElem?
  intro j
  by_cases h : j < k
  · simp [strCells, zs, Builtin.zeroCells, h]
    rw [Nat.mod_one]; rfl
  · simp [strCells, zs, Builtin.zeroCells, h]

/-- append(s, make([]byte, k)...) does what append of k zero bytes as a text does. -/
theorem append_zeros {P : Program} (w : World) (t tn u ty e : TypeId) (i : TypeInfo) (kn kq : IntKind) (ht : P.underlying t = some (.slice e)) (htn : P.underlying tn = some (.int kn)) (hu : P.underlying u = some .string) (hi : P.info? e = some i) (hz : i.zero = some (.int .u8 0)) (hsize : i.size = 1) (hby : i.bytes = 1)
    (base : Option Addr) (sLen sCap k : Nat) (hk : 0 < k) (hb : sLen + k ≤ 140737488355328) :
    (Builtin.append_ #[t, tn] ty #[.slice base sLen sCap, .int kq k]).run P w = (Builtin.append_ #[t, u] ty #[.slice base sLen sCap, .string (zs k)]).run P w := by
  have hw : IntKind.i64.wrap (k : Int) = k := by rw [IntKind.wrap_i64]; omega
  have hk0 : k ≠ 0 := by omega
  have hneg : ¬ ((k : Int) < 0) := by omega
  have h48i : ¬ (281474976710656 < (k : Int)) := by omega
  have h63' : ¬ (9223372036854775807 < ((sLen : Int) + (k : Int))) := by omega
  have hf := fun W => run_firstCells_string (P := P) W 1 (zs k)
  rw [zs_size, zs_cells] at hf
  by_cases hn : sLen + k ≤ sCap
  · simp [Builtin.append_, run_underlying ht, run_underlying htn, run_underlying hu, sizeOf, typeInfo, zeroValue, hi, hz, hsize, hby, asInt, asIntOf, hw, Builtin.lenOf, zs_size, hn, hneg, hk0, h48i, hf, Value.cells]
  · simp [Builtin.append_, run_underlying ht, run_underlying htn, run_underlying hu, sizeOf, typeInfo, zeroValue, hi, hz, hsize, hby, asInt, asIntOf, hw, Builtin.lenOf, zs_size, hn, hneg, hk0, h48i, h63', hf, Value.cells]
    have h48' : Builtin.nextslicecap (sLen + k) sCap * 1 ≤ 281474976710656 := growslice_fits (by omega) (by omega)
    have hno : ¬ (281474976710656 < Builtin.nextslicecap (sLen + k) sCap) := by omega
    rw [if_neg hno, if_neg hno]

/-- append(s, make([]byte, k)...) to a row of the call's own, for the walk. -/
theorem wpList_append_zeros {P : Program} (w : World) {ops : Array Oper} {rest : List Oper} {o : Oper} {a : Act} {Q : Exit → Act → World → Prop} (hgd : o.guard = none) (sl x : Operand) (t tn u : TypeId)
    (ho : o.op = .call { callee := .builtin .append, args := #[sl, x], argTypes := #[t, tn] })
    (base : Nat) (e : TypeId) (i : TypeInfo) (kn : IntKind) (ht : P.underlying t = some (.slice e)) (htn : P.underlying tn = some (.int kn)) (hu : P.underlying u = some .string) (hi : P.info? e = some i) (hz : i.zero = some (.int .u8 0))
    (hsize : i.size = 1) (hby : i.bytes = 1)
    (v : Value) (n : Nat) (xs : List Value) (hs : a.eval sl = v) (hown : w.ownsRow base e 1 v n xs) (kq : IntKind) (k : Nat) (hx : a.eval x = .int kq k) (hk : 0 < k)
    (hbytes : n + k ≤ 140737488355328) (hbase : base ≤ w.heap.size)
    (h : ∀ v' w', w'.ownsRow base e 1 v' (n + k) (xs ++ strCells (zs k)) → w.grownBy w' v.ownBlock → wpList P ops Q rest (a.put o.dst v') w') : wpList P ops Q (o :: rest) a w := by
  refine wpList_plain hgd fun K hK => ?_
  obtain ⟨v', w', hr, h2, h3, _⟩ := run_append_own_string (P := P) w base t u o.type e i ht hu hi hz hsize hby v n xs hown (zs k) (by rw [zs_size]; unfold maxLen; omega) (by rw [zs_size]; omega) hbase
  rw [zs_size] at h2
  obtain ⟨b0, l0, c0, rfl⟩ : ∃ b0 l0 c0, v = .slice b0 l0 c0 := by
    rcases hown.2 with ⟨rfl, _⟩ | ⟨g, cap, cur, rfl, _⟩
    · exact ⟨_, _, _, rfl⟩
    · exact ⟨_, _, _, rfl⟩
  have hl0 : l0 + k ≤ 140737488355328 := by
    rcases hown.2 with ⟨e1, _⟩ | ⟨g, cap, cur, e1, _⟩
    · simp at e1; omega
    · simp at e1; omega
  rw [← append_zeros w t tn u o.type e i kn kq ht htn hu hi hz hsize hby b0 l0 c0 k hk hl0] at hr
  unfold Oper.wp execOp
  simp only [ho, resolve, invoke, builtin, Sem.run_bind, Sem.run_pure, Result.andThen_ok, List.map_toArray, List.map_cons, List.map_nil, hs, hx, hr]
  exact hK _ _ (h v' w' h2 h3)

/-- A row of the call's own that holds a text's bytes, as a text. -/
theorem row_text {P : Program} {w : World} {B e : Nat} {v : Value} {n : Nat} {s : ByteArray} (h : w.ownsRow B e 1 v n (strCells s)) (src : TypeId) (hs : P.underlying src = some (.slice e)) (he : P.underlying e = some (.int .u8)) :
    ∀ dst, P.underlying dst = some .string → (convert src dst v).run P w = .ok (.string s) w := by
  intro dst hd
  have hn : n = s.size := by have := h.1; rw [strCells_length] at this; omega
  rcases h.2 with ⟨rfl, h0⟩ | ⟨g, cap, cur, rfl, _, hg, hnc, _, hcs, htk⟩
  · rw [run_convert_bytes_nil w src e hs he 0 0 dst hd]
    have : s.size = 0 := by omega
    obtain ⟨⟨l⟩⟩ := s
    simp [ByteArray.size] at this
    subst this
    rfl
  · have := run_convert_bytes_arg (P := P) w src e hs he g 0 n cap (s.data.toList.map fun b => (b.toNat : Int)) (by rw [List.length_map, Array.length_toList, hn]; rfl) (fun i hi => by
      have h1 : (strCells s)[i]? = some (.int .u8 ((s.data.toList.map fun b => (b.toNat : Int)).getD i 0)) := by
        have hi' : i < s.data.size := by rw [hn] at hi; exact hi
        simp [strCells]
        exact ⟨s.data[i], Array.getElem?_eq_getElem hi', by rw [Array.getElem?_eq_getElem hi']; rfl⟩
      rw [← htk, Nat.mul_one, List.getElem?_take_of_lt hi] at h1
      simp only [World.cell?, hg, Nat.zero_add]
      rw [← h1]; simp) dst hd
    rw [this]
    congr 2
    obtain ⟨⟨l⟩⟩ := s
    simp [strOfNums]
    rw [show ((fun n : Int => UInt8.ofNat n.toNat) ∘ fun b : UInt8 => (b.toNat : Int)) = id from funext fun b => by simp]
    simp
end Go.Proofs.YtllbojcjdpelnaaGreat
namespace Go.Proofs.YtllbojcjdpelnaaGreat
open Go.RowKit

theorem impl_partOk (p : Pt) (w : World) :
    Calls Tryz.prog 117 #[.agg #[.int .i64 p.a, .int .i64 p.f, .int .i64 p.n]] w fun e w' => e = .returned (.bool (partOkB p)) ∧ Below w.heap.size w w' := by
  obtain ⟨a, f, n⟩ := p
  go_enter Tryz.func117, Tryz.ntmps117
  go_wp2
  all_goals go_returns
  all_goals go_light
  all_goals refine ⟨?_, by go_grown⟩
  all_goals simp [partOkB, *]
  all_goals try omega

theorem impl_goesOn (p q : Pt) (w : World) :
    Calls Tryz.prog 118 #[.agg #[.int .i64 p.a, .int .i64 p.f, .int .i64 p.n], .agg #[.int .i64 q.a, .int .i64 q.f, .int .i64 q.n]] w fun e w' => e = .returned (.bool (goesOnB p q)) ∧ Below w.heap.size w w' := by
  obtain ⟨a, f, n⟩ := p
  obtain ⟨b, g, m⟩ := q
  go_enter Tryz.func118, Tryz.ntmps118
  go_wp2
  all_goals go_returns
  all_goals go_light
  all_goals refine ⟨?_, by go_grown⟩
  all_goals simp_all [goesOnB]

theorem impl_PartsOk (a : Option Addr) (n cap : Nat) (l : List Pt) (w : World) (h : PtsAt w a n l) (hn : n ≤ 4194304) :
    Calls Tryz.prog 99 #[.slice a n cap] w fun e w' => e = .returned (.bool (partsOkB l)) ∧ Below w.heap.size w w' := by
  have hlen := h.len
  by_cases h16 : n ≤ 16
  · have hfin : Hid (partsOkB l = pgo none 100 l) := by show _ = _; simp [partsOkB, hlen, h16]
    have hlen' : Hid (l.length = n) := hlen
    clear hlen
    go_enter Tryz.func99, Tryz.ntmps99
    go_wp2_with fail
    go_loopw [2, 3, 4, 5, 11] (fun r left i p ix wr => ∃ (k : Nat) (lf : Int), k ≤ n ∧ ix = .int .i64 k ∧ left = .int .i64 lf ∧ 0 ≤ lf ∧ lf ≤ 100 ∧ Hid (pgo none 100 l = pgo (ahead l k) lf (l.drop k)) ∧ Below w.heap.size w wr) (fun _ _ _ _ ix _ => n - (intOf ix).toNat)
    case atStart => exact ⟨0, 100, Nat.zero_le _, rfl, rfl, by omega, by omega, rfl, Below.refl _ _⟩
    case round =>
      obtain ⟨k, lf, hk, rfl, rfl, hf0, hf1, hI, hB⟩ := hrel
      by_cases hlt : k < n
      · obtain ⟨b, o, p, rfl, hp, c0, c1, c2⟩ := pts_at (h.below hB) hlt
        have hd : Hid (l.drop k = p :: l.drop (k + 1)) := drop_at hp
        have hq : Hid (l[k]? = some p) := hp
        clear hp
        have hwr : w.heap.size ≤ wr.heap.size := hB.size
        cases hpo : partOkB p
        · go_wp2_with fail
          refine (impl_partOk p _).mono ?_
          rintro e w1 ⟨rfl, hB1⟩
          obtain ⟨x0, x1, x2, hB1', hs1⟩ := box3 hB1
          rw [hpo]
          go_wp2_with fail
          go_returns
          go_light
          refine ⟨ret_bool ?_, chain hB hB1'⟩
          rw [hfin.out, hI.out, hd.out]; cases ahead l k <;> simp [pgo, hpo]
        by_cases hle : p.n ≤ lf
        · rcases k with _ | j
          · simp only [Nat.zero_mul, Nat.add_zero] at c0 c1 c2
            go_wp2_with fail
            refine (impl_partOk p _).mono ?_
            rintro e w1 ⟨rfl, hB1⟩
            rw [hpo]
            obtain ⟨x0, x1, x2, hB1', hs1⟩ := box3 hB1
            clear hB1 c0 c1 c2
            have hp1 := partOkB_pos hpo
            go_wp2_with fail
            go_quiet (fail)
            go_wp2
            go_roundw
            case rel => exact ⟨1, lf - p.n, by omega, by go_num, by go_num, by omega, by omega, by show _ = _; rw [hI.out, hd.out, ahead_zero, ahead_succ, hq.out]; simp [pgo, hpo, hle], chain hB (chain hB1' (drewNB _ _))⟩
            case measure => simp [intOf]; omega
          · obtain ⟨b', o', q, hbo, hq', d0, d1, d2⟩ := pts_at (h.below hB) (k := j) (by omega)
            obtain ⟨rfl, rfl⟩ : b = b' ∧ o = o' := by simpa using hbo
            have ha : Hid (ahead l (j + 1) = some q) := by show _ = _; rw [ahead_succ]; exact hq'
            clear hq' hbo
            have hp1 := partOkB_pos hpo
            cases hgo : goesOnB q p
            all_goals
              go_wp2_with fail
              refine (impl_partOk p _).mono ?_
              rintro e w1 ⟨rfl, hB1⟩
              rw [hpo]
              obtain ⟨x0, x1, x2, hB1', hs1⟩ := box3 hB1
              clear hB1
              replace d0 := bcell hB1' d0
              replace d1 := bcell hB1' d1
              replace d2 := bcell hB1' d2
              clear c0 c1 c2
              have hj : (0 : Int) < (j : Int) + 1 := by omega
              have hj1 : (j : Int) < n := by omega
              have hj2 : (0 : Int) ≤ j := by omega
              have hw1 : IntKind.i64.wrap ((j : Int) + 1 - 1) = (j : Int) := by rw [IntKind.wrap_i64]; omega
              have hw2 : IntKind.i64.wrap (j : Int) = (j : Int) := by rw [IntKind.wrap_i64]; omega
              go_wp2_with fail
              go_region_held3 (fun w' => w'.cell? ⟨b, o + j * 3, none⟩ = some (.int .i64 q.a) ∧ w'.cell? ⟨b, o + j * 3 + 1, none⟩ = some (.int .i64 q.f) ∧ w'.cell? ⟨b, o + j * 3 + 2, none⟩ = some (.int .i64 q.n) ∧ w'.cell? ⟨wr.heap.size, 0, none⟩ = some (.int .i64 p.a) ∧ w'.cell? ⟨wr.heap.size, 1, none⟩ = some (.int .i64 p.f) ∧ w'.cell? ⟨wr.heap.size, 2, none⟩ = some (.int .i64 p.n)) (go_keep)
                (first | (go_at_call 118; refine (impl_goesOn q p _).mono ?_; rintro e w2 ⟨rfl, hB2⟩; have y0 := bcell hB2 d0; have y1 := bcell hB2 d1; have y2 := bcell hB2 d2; have z0 := bcell hB2 x0; have z1 := bcell hB2 x1; have z2 := bcell hB2 x2))
              go_wp2
            · go_roundw
              case rel => exact ⟨j + 2, lf - p.n, by omega, by go_num, by go_num, by omega, by omega, by show _ = _; rw [hI.out, hd.out, ha.out, ahead_succ, hq.out]; simp [pgo, hpo, hle, hgo], chain hB (chain hB1' (undrew hB2))⟩
              case measure => simp [intOf]; omega
            · go_returns
              go_light
              refine ⟨ret_bool ?_, chain hB (chain hB1' (undrew hB2))⟩
              rw [hfin.out, hI.out, hd.out, ha.out]; simp [pgo, hgo]
        · go_wp2_with fail
          refine (impl_partOk p _).mono ?_
          rintro e w1 ⟨rfl, hB1⟩
          rw [hpo]
          obtain ⟨x0, x1, x2, hB1', hs1⟩ := box3 hB1
          go_wp2
          go_returns
          go_light
          refine ⟨ret_bool ?_, chain hB hB1'⟩
          have hle' : ¬ p.n ≤ lf := by omega
          rw [hfin.out, hI.out, hd.out]; cases ahead l k <;> simp [pgo, hle']
      · obtain rfl : k = n := by omega
        go_wp2
        go_returns
        go_light
        refine ⟨ret_bool ?_, hB⟩
        rw [hfin.out, hI.out, List.drop_of_length_le (Nat.le_of_eq hlen'.out)]; cases ahead l k <;> rfl
  · go_enter Tryz.func99, Tryz.ntmps99
    go_wp2
    go_returns
    go_light
    refine ⟨ret_bool ?_, Below.refl _ _⟩
    simp [partsOkB, hlen]; omega
end Go.Proofs.YtllbojcjdpelnaaGreat
namespace Go.Proofs.YtllbojcjdpelnaaGreat
open Go.RowKit

/-- The model's PartsOk, its rounds. -/
def sgo : Option Pt → Int → List Pt → Bool
  | _, s, [] => decide (s ≤ 100)
  | none, s, p :: r => (partOkB p && decide (p.n ≤ 100)) && sgo (some p) (s + p.n) r
  | some q, s, p :: r => (partOkB p && decide (p.n ≤ 100)) && !goesOnB q p && sgo (some p) (s + p.n) r

theorem sgo_over (l : List Pt) : ∀ (q : Option Pt) (s : Int), 100 < s → sgo q s l = false := by
  induction l with
  | nil => intro q s h; cases q <;> simp [sgo] <;> omega
  | cons p r ih =>
    intro q s h
    cases hp : partOkB p
    · cases q <;> simp [sgo, hp]
    · have := partOkB_pos hp
      cases q <;> simp [sgo, ih _ (s + p.n) (by omega)]

theorem sgo_pgo (l : List Pt) : ∀ (q : Option Pt) (s : Int), 0 ≤ s → s ≤ 100 → sgo q s l = pgo q (100 - s) l := by
  induction l with
  | nil => intro q s h0 h1; cases q <;> simp [sgo, pgo] <;> omega
  | cons p r ih =>
    intro q s h0 h1
    cases hp : partOkB p
    · cases q <;> simp [sgo, pgo, hp]
    · have hpos := partOkB_pos hp
      by_cases hle : p.n ≤ 100 - s
      · have e := ih (some p) (s + p.n) (by omega) (by omega)
        have e2 : 100 - (s + p.n) = 100 - s - p.n := by omega
        have h100 : p.n ≤ 100 := by omega
        rw [e2] at e
        cases q <;> simp [sgo, pgo, hp, e, hle, h100]
      · have e := sgo_over r (some p) (s + p.n) (by omega)
        cases q <;> simp [sgo, pgo, e, hle]

theorem pgo_all (l : List Pt) : ∀ (q : Option Pt) (s : Int), 0 ≤ s → pgo q s l = true → (∀ p ∈ l, partOkB p = true) ∧ sumN l ≤ s := by
  induction l with
  | nil => intro q s h0 _; exact ⟨by simp, by simpa [sumN] using h0⟩
  | cons p r ih =>
    intro q s h0 h
    have hh : partOkB p = true ∧ p.n ≤ s ∧ pgo (some p) (s - p.n) r = true := by
      cases q
      · simp [pgo] at h; exact ⟨h.1.1, h.1.2, h.2⟩
      · simp [pgo] at h; exact ⟨h.1.1.1, h.1.1.2, h.2⟩
    obtain ⟨a, b⟩ := ih (some p) (s - p.n) (by omega) hh.2.2
    refine ⟨?_, by simp [sumN]; omega⟩
    intro x hx
    rcases List.mem_cons.1 hx with rfl | hx
    · exact hh.1
    · exact a x hx

theorem sumN_nonneg (l : List Pt) (h : ∀ p ∈ l, partOkB p = true) : 0 ≤ sumN l := by
  induction l with
  | nil => simp [sumN]
  | cons p r ih =>
    have h1 := partOkB_pos (h p (by simp))
    have h2 := ih (fun x hx => h x (by simp [hx]))
    simp [sumN]; omega

theorem sumN_append (a b : List Pt) : sumN (a ++ b) = sumN a + sumN b := by
  induction a with
  | nil => simp [sumN]
  | cons p r ih => simp [sumN, ih]; omega

theorem take_at {α : Type} {l : List α} {k : Nat} {x : α} (h : l[k]? = some x) : l.take (k + 1) = l.take k ++ [x] := by
  rw [List.take_add_one, h]; rfl

theorem sumN_take {l : List Pt} {k : Nat} {p : Pt} (h : l[k]? = some p) : sumN (l.take (k + 1)) = sumN (l.take k) + p.n := by
  rw [take_at h, sumN_append]; simp [sumN]

theorem partsOkB_all {l : List Pt} (h : partsOkB l = true) : l.length ≤ 16 ∧ (∀ p ∈ l, partOkB p = true) ∧ sumN l ≤ 100 := by
  simp [partsOkB] at h
  exact ⟨h.1, pgo_all l none 100 (by omega) h.2⟩

theorem sumN_take_bd {l : List Pt} (h : ∀ p ∈ l, partOkB p = true) (k : Nat) : 0 ≤ sumN (l.take k) ∧ sumN (l.take k) ≤ sumN l := by
  have h1 := sumN_nonneg (l.take k) (fun p hp => h p (List.mem_of_mem_take hp))
  have h2 := sumN_nonneg (l.drop k) (fun p hp => h p (List.mem_of_mem_drop hp))
  have h3 := sumN_append (l.take k) (l.drop k)
  rw [List.take_append_drop] at h3
  omega
end Go.Proofs.YtllbojcjdpelnaaGreat
namespace Go.Proofs.YtllbojcjdpelnaaGreat
open Go.RowKit

theorem spec_l1In (n lo hi : Int) (w : World) :
    Calls Tryz.prog 50 #[.int .i64 n, .int .i64 lo, .int .i64 hi] w fun e w' => e = .returned (.bool (decide (lo ≤ n) && decide (n ≤ hi))) ∧ w' = w := by
  go_enter Tryz.func50, Tryz.ntmps50
  go_wp2
  all_goals go_returns
  all_goals go_light
  all_goals refine ⟨?_, rfl⟩
  all_goals simp_all
  all_goals try omega

theorem spec_l2Next (p q : Pt) (w : World) :
    Calls Tryz.prog 113 #[.agg #[.int .i64 p.a, .int .i64 p.f, .int .i64 p.n], .agg #[.int .i64 q.a, .int .i64 q.f, .int .i64 q.n]] w fun e w' => e = .returned (.bool (goesOnB p q)) ∧ Below w.heap.size w w' := by
  obtain ⟨a, f, n⟩ := p
  obtain ⟨b, g, m⟩ := q
  go_enter Tryz.func113, Tryz.ntmps113
  go_wp2
  all_goals go_returns
  all_goals go_light
  all_goals refine ⟨?_, by go_grown⟩
  all_goals simp_all [goesOnB]
  all_goals first | (rw [Bool.eq_iff_iff]; simp; omega) | omega

theorem spec_l2PartOk (p : Pt) (w : World) :
    Calls Tryz.prog 112 #[.agg #[.int .i64 p.a, .int .i64 p.f, .int .i64 p.n]] w fun e w' => e = .returned (.bool (partOkB p && decide (p.n ≤ 100))) ∧ Below w.heap.size w w' := by
  obtain ⟨a, f, n⟩ := p
  go_enter Tryz.func112, Tryz.ntmps112
  go_wp2
  all_goals go_returns
  all_goals go_light
  all_goals refine ⟨?_, by go_grown⟩
  all_goals simp [partOkB, *]
  all_goals try omega
  all_goals (rw [Bool.eq_iff_iff]; simp; omega)

theorem laws_toPart (p : Pt) (w : World) :
    Calls Tryz.prog 144 #[.agg #[.int .i64 p.a, .int .i64 p.f, .int .i64 p.n]] w fun e w' => e = .returned (.agg #[.int .i64 p.a, .int .i64 p.f, .int .i64 p.n]) ∧ Below w.heap.size w w' := by
  obtain ⟨a, f, n⟩ := p
  go_enter Tryz.func144, Tryz.ntmps144
  go_wp2
  go_returns
  go_light
  refine ⟨rfl, by go_grown⟩

def eqPtB (p q : Pt) : Bool := p.a == q.a && p.f == q.f && p.n == q.n

theorem laws_eqPart (p q : Pt) (w : World) :
    Calls Tryz.prog 150 #[.agg #[.int .i64 p.a, .int .i64 p.f, .int .i64 p.n], .agg #[.int .i64 q.a, .int .i64 q.f, .int .i64 q.n]] w fun e w' => e = .returned (.bool (eqPtB p q)) ∧ Below w.heap.size w w' := by
  obtain ⟨a, f, n⟩ := p
  obtain ⟨b, g, m⟩ := q
  go_enter Tryz.func150, Tryz.ntmps150
  go_wp2
  all_goals go_returns
  all_goals go_light
  all_goals refine ⟨?_, by go_grown⟩
  all_goals simp_all [eqPtB]

/-- 'left -= len(a)', -1 where that is below 0. -/
theorem laws_szPartS (a : Option Addr) (n cap : Nat) (w : World) (hn : n ≤ 9223372036854775807) :
    Calls Tryz.prog 129 #[.slice a n cap, .int .i64 1048576] w fun e w' => e = .returned (.int .i64 (if n ≤ 1048576 then 1048576 - n else -1)) ∧ w' = w := by
  by_cases h : n ≤ 1048576
  all_goals
    go_enter Tryz.func129, Tryz.ntmps129
    go_wp2
    go_returns
    go_light
    refine ⟨ret_int ?_, rfl⟩
    first | rfl | (split <;> omega)
end Go.Proofs.YtllbojcjdpelnaaGreat
namespace Go.Proofs.YtllbojcjdpelnaaGreat
open Go.RowKit

/-- Block b is a row of these cells, none frozen. -/
def Blk (w : World) (b : Nat) (c : Array Value) (t : TypeId) : Prop := w.heap[b]? = some (.cells c t)

theorem Blk.lt {w : World} {b : Nat} {c : Array Value} {t : TypeId} (h : Blk w b c t) : b < w.heap.size := (Array.getElem?_eq_some_iff.1 h).1
theorem Blk.cell {w : World} {b : Nat} {c : Array Value} {t : TypeId} (h : Blk w b c t) (i : Nat) : w.cell? ⟨b, i, none⟩ = c[i]? := by
  unfold Blk at h; simp [World.cell?, h]
theorem Blk.frozen {w : World} {b : Nat} {c : Array Value} {t : TypeId} (h : Blk w b c t) (i : Nat) : w.frozen? ⟨b, i, none⟩ = false := by
  unfold Blk at h; simp [World.frozen?, h]
theorem Blk.has {w : World} {b : Nat} {c : Array Value} {t : TypeId} (h : Blk w b c t) {i : Nat} (hi : i < c.size) : ∃ v, w.cell? ⟨b, i, none⟩ = some v := ⟨c[i], by rw [h.cell]; simp [hi]⟩
theorem Blk.new (w : World) (c : Array Value) (t : TypeId) : Blk (w.alloc (.cells c t)) w.heap.size c t := heap_alloc_new w _
theorem Blk.below {w w' : World} {b : Nat} {c : Array Value} {t : TypeId} (h : Blk w b c t) (hb : Below w.heap.size w w') : Blk w' b c t := by
  unfold Blk; rw [hb.block b h.lt]; exact h
theorem Blk.grown {w w' : World} {b : Nat} {c : Array Value} {t : TypeId} {r : Nat} (h : Blk w b c t) (hg : w.grownBy w' (some r)) (hr : b ≠ r) : Blk w' b c t := by
  unfold Blk; rw [hg.block b h.lt (by simpa using hr)]; exact h
theorem Blk.set {w : World} {b : Nat} {c : Array Value} {t : TypeId} (h : Blk w b c t) (i : Nat) (v : Value) : Blk (w.setCell ⟨b, i, none⟩ v) b (c.setIfInBounds i v) t := by
  unfold Blk at *; simp [World.setCell, Array.getElem?_modify, h]
theorem Blk.alloc {w : World} {b : Nat} {c : Array Value} {t : TypeId} (h : Blk w b c t) (o : Obj) : Blk (w.alloc o) b c t := h.below ((Below.refl _ _).alloc (Nat.le_refl _) _)
theorem Blk.drew {w : World} {b : Nat} {c : Array Value} {t : TypeId} (h : Blk w b c t) : Blk w.drew b c t := h

/-- A store into block b turns no other. -/
theorem grown_set {w0 w : World} {b : Nat} (h : w0.grownBy w (some b)) (i : Nat) (v : Value) : w0.grownBy (w.setCell ⟨b, i, none⟩ v) (some b) :=
  ⟨h.os, h.tape, h.output, by simpa [World.setCell] using h.size, fun k hk hne => by
    rw [Below.heap_setCell _ _ _ _ (by simpa using hne)]; exact h.block k hk hne⟩
theorem grown_below {w0 w w' : World} {b : Nat} (h : w0.grownBy w (some b)) (hb : Below w.heap.size w w') : w0.grownBy w' (some b) :=
  ⟨hb.os.trans h.os, hb.tape.trans h.tape, hb.output.trans h.output, Nat.le_trans h.size hb.size, fun k hk hne => by
    rw [hb.block k (Nat.lt_of_lt_of_le hk h.size)]; exact h.block k hk hne⟩
theorem grown_trans {w0 w w' : World} {b : Nat} (h : w0.grownBy w (some b)) (hb : w.grownBy w' (some b)) : w0.grownBy w' (some b) :=
  ⟨hb.os.trans h.os, hb.tape.trans h.tape, hb.output.trans h.output, Nat.le_trans h.size hb.size, fun k hk hne => by
    rw [hb.block k (Nat.lt_of_lt_of_le hk h.size) hne]; exact h.block k hk hne⟩
/-- What turns one block that is new turns nothing old. -/
theorem below_grown {w w1 w' : World} {b : Nat} (hb : Below w.heap.size w w1) (hg : w1.grownBy w' (some b)) (hn : w.heap.size ≤ b) : Below w.heap.size w w' :=
  hb.grown hg hb.size (fun k e => by cases e; exact hn)

/-- Block b, which is the call's own, begins with the list l, n elements of sz cells each. -/
structure OwnAt {α : Type} (cs : α → List Value) (sz : Nat) (t : TypeId) (w : World) (b : Nat) (n : Nat) (l : List α) : Prop where
  len : l.length = n
  blk : ∃ c, Blk w b c t ∧ n * sz ≤ c.size ∧ ∀ i x, l[i]? = some x → ∀ j v, (cs x)[j]? = some v → c[i * sz + j]? = some v

theorem OwnAt.sl {α : Type} {cs : α → List Value} {sz : Nat} {t : TypeId} {w : World} {b n : Nat} {l : List α} (h : OwnAt cs sz t w b n l) : SlAt cs sz w (some ⟨b, 0, none⟩) n l := by
  obtain ⟨c, hb, _, hc⟩ := h.blk
  exact ⟨h.len, fun i x hx => ⟨b, 0, rfl, fun j v hv => by rw [hb.cell, Nat.zero_add]; exact hc i x hx j v hv⟩⟩
theorem OwnAt.below {α : Type} {cs : α → List Value} {sz : Nat} {t : TypeId} {w w' : World} {b n : Nat} {l : List α} (h : OwnAt cs sz t w b n l) (hb : Below w.heap.size w w') : OwnAt cs sz t w' b n l := by
  obtain ⟨c, hc, r⟩ := h.blk
  exact ⟨h.len, c, hc.below hb, r⟩
theorem OwnAt.grown {α : Type} {cs : α → List Value} {sz : Nat} {t : TypeId} {w w' : World} {b n r : Nat} {l : List α} (h : OwnAt cs sz t w b n l) (hg : w.grownBy w' (some r)) (hr : b ≠ r) : OwnAt cs sz t w' b n l := by
  obtain ⟨c, hc, q⟩ := h.blk
  exact ⟨h.len, c, hc.grown hg hr, q⟩
theorem OwnAt.lt {α : Type} {cs : α → List Value} {sz : Nat} {t : TypeId} {w : World} {b n : Nat} {l : List α} (h : OwnAt cs sz t w b n l) : b < w.heap.size := by
  obtain ⟨c, hc, _⟩ := h.blk
  exact hc.lt

/-- A slice in a block other than the one that was written. -/
theorem SlAt.grown {α : Type} {cs : α → List Value} {sz : Nat} {w w' : World} {a : Option Addr} {n r : Nat} {l : List α} (h : SlAt cs sz w a n l) (hg : w.grownBy w' (some r)) (hr : ∀ ad, a = some ad → ad.block ≠ r) : SlAt cs sz w' a n l :=
  ⟨h.len, fun i x hx => by
    obtain ⟨b, o, ha, hc⟩ := h.cell i x hx
    exact ⟨b, o, ha, fun j v hv => hg.cell (hc j v hv) (by have := hr _ ha; simpa using this)⟩⟩
end Go.Proofs.YtllbojcjdpelnaaGreat
