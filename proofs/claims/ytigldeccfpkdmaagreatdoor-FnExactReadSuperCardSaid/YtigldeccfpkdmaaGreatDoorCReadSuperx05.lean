/- Bytes: zeros appended to a row of the call's own, rows of bytes as texts. The model's SpaceOk; the laws' sizes, copies and comparisons of lists of extents. The laws' sizes, copies and comparisons of lists of extents. Appending to a slice of the call's own: lists of elements of several cells. Appending one list behind another one: as a step of the walk, and as a step of a region that draws its order. Where an extent stands (the model's l1At); Lifted of the program. -/
import Derived.Lib.AppendStr
import Derived.Lib.AppendZerosOnto
import Derived.Laws.BytesArg
import Derived.Test.YtigldeccfpkdmaaGreatDoorCReadSuperx00
import Derived.Test.YtigldeccfpkdmaaGreatDoorProg
import Derived.Test.YtigldeccfpkdmaaGreatDoorCReadSuperx02
import Derived.Deep.RegionLaw
import Derived.Laws.AppendOwnNone
namespace Go.Proofs.YtigldeccfpkdmaaGreatDoor
open Go.RowKit Go.Lib
/-- So many zeros. -/
def zs (k : Nat) : ByteArray := ⟨(List.replicate k (0 : UInt8)).toArray⟩
theorem zs_size (k : Nat) : (zs k).size = k := by simp [zs, ByteArray.size]
theorem zs_cells (k : Nat) : (strCells (zs k)).toArray = Builtin.zeroCells #[Value.int .u8 0] k := by
  apply Array.ext'
  apply List.ext_getElem?
  intro j
  by_cases h : j < k
  · simp [strCells, zs, Builtin.zeroCells, h]
    rw [Nat.mod_one]; rfl
  · simp [strCells, zs, Builtin.zeroCells, h]
/-- append(s, make([]byte, k)...) does what append of k zero bytes as a text does. -/
theorem append_zeros {P : Program} (w : World) (t tn u ty e : TypeId) (i : TypeInfo) (kn kq : IntKind) (ht : P.underlying t = some (.slice e)) (htn : P.underlying tn = some (.int kn)) (hu : P.underlying u = some .string) (hi : P.info? e = some i) (hz : i.zero = some (.int .u8 0)) (hsize : i.size = 1) (hby : i.bytes = 1)
    (base : Option Addr) (sLen sCap k : Nat) (hk : 0 < k) (hb : sLen + k ≤ 140737488355328) :
    (Builtin.append_ #[t, tn] ty #[.slice base sLen sCap, .int kq k]).run P w = (Builtin.append_ #[t, u] ty #[.slice base sLen sCap, .string (zs k)]).run P w := by
  have hw : IntKind.i64.wrap (k : Int) = k := by rw [IntKind.wrap_i64]; omega
  have hk0 : k ≠ 0 := by omega
  have hneg : ¬ ((k : Int) < 0) := by omega
  have h48i : ¬ (281474976710656 < (k : Int)) := by omega
  have h63' : ¬ (9223372036854775807 < ((sLen : Int) + (k : Int))) := by omega
  have hf := fun W => run_firstCells_string (P := P) W 1 (zs k)
  rw [zs_size, zs_cells] at hf
  by_cases hn : sLen + k ≤ sCap
  · simp [Builtin.append_, run_underlying ht, run_underlying htn, run_underlying hu, sizeOf, typeInfo, zeroValue, hi, hz, hsize, hby, asInt, asIntOf, hw, Builtin.lenOf, zs_size, hn, hneg, hk0, h48i, hf, Value.cells]
  · simp [Builtin.append_, run_underlying ht, run_underlying htn, run_underlying hu, sizeOf, typeInfo, zeroValue, hi, hz, hsize, hby, asInt, asIntOf, hw, Builtin.lenOf, zs_size, hn, hneg, hk0, h48i, h63', hf, Value.cells]
    have h48' : Builtin.nextslicecap (sLen + k) sCap * 1 ≤ 281474976710656 := growslice_fits (by omega) (by omega)
    have hno : ¬ (281474976710656 < Builtin.nextslicecap (sLen + k) sCap) := by omega
    rw [if_neg hno, if_neg hno]
/-- append(s, make([]byte, k)...) to a row of the call's own, for the walk. -/
theorem wpList_append_zeros {P : Program} (w : World) {ops : Array Oper} {rest : List Oper} {o : Oper} {a : Act} {Q : Exit → Act → World → Prop} (hgd : o.guard = none) (sl x : Operand) (t tn u : TypeId)
    (ho : o.op = .call { callee := .builtin .append, args := #[sl, x], argTypes := #[t, tn] })
    (base : Nat) (e : TypeId) (i : TypeInfo) (kn : IntKind) (ht : P.underlying t = some (.slice e)) (htn : P.underlying tn = some (.int kn)) (hu : P.underlying u = some .string) (hi : P.info? e = some i) (hz : i.zero = some (.int .u8 0))
    (hsize : i.size = 1) (hby : i.bytes = 1)
    (v : Value) (n : Nat) (xs : List Value) (hs : a.eval sl = v) (hown : w.ownsRow base e 1 v n xs) (kq : IntKind) (k : Nat) (hx : a.eval x = .int kq k) (hk : 0 < k)
    (hbytes : n + k ≤ 140737488355328) (hbase : base ≤ w.heap.size)
    (h : ∀ v' w', w'.ownsRow base e 1 v' (n + k) (xs ++ strCells (zs k)) → w.grownBy w' v.ownBlock → wpList P ops Q rest (a.put o.dst v') w') : wpList P ops Q (o :: rest) a w := by
  refine wpList_plain hgd fun K hK => ?_
  obtain ⟨v', w', hr, h2, h3, _⟩ := run_append_own_string (P := P) w base t u o.type e i ht hu hi hz hsize hby v n xs hown (zs k) (by rw [zs_size]; unfold maxLen; omega) (by rw [zs_size]; omega) hbase
  rw [zs_size] at h2
  obtain ⟨b0, l0, c0, rfl⟩ : ∃ b0 l0 c0, v = .slice b0 l0 c0 := by
    rcases hown.2 with ⟨rfl, _⟩ | ⟨g, cap, cur, rfl, _⟩
    · exact ⟨_, _, _, rfl⟩
    · exact ⟨_, _, _, rfl⟩
  have hl0 : l0 + k ≤ 140737488355328 := by
    rcases hown.2 with ⟨e1, _⟩ | ⟨g, cap, cur, e1, _⟩
    · simp at e1; omega
    · simp at e1; omega
  rw [← append_zeros w t tn u o.type e i kn kq ht htn hu hi hz hsize hby b0 l0 c0 k hk hl0] at hr
  unfold Oper.wp execOp
  simp only [ho, resolve, invoke, builtin, Sem.run_bind, Sem.run_pure, Result.andThen_ok, List.map_toArray, List.map_cons, List.map_nil, hs, hx, hr]
  exact hK _ _ (h v' w' h2 h3)
/-- A row of the call's own that holds a text's bytes, as a text. -/
theorem row_text {P : Program} {w : World} {B e : Nat} {v : Value} {n : Nat} {s : ByteArray} (h : w.ownsRow B e 1 v n (strCells s)) (src : TypeId) (hs : P.underlying src = some (.slice e)) (he : P.underlying e = some (.int .u8)) :
    ∀ dst, P.underlying dst = some .string → (convert src dst v).run P w = .ok (.string s) w := by
  intro dst hd
  have hn : n = s.size := by have := h.1; rw [strCells_length] at this; omega
  rcases h.2 with ⟨rfl, h0⟩ | ⟨g, cap, cur, rfl, _, hg, hnc, _, hcs, htk⟩
  · rw [run_convert_bytes_nil w src e hs he 0 0 dst hd]
    have : s.size = 0 := by omega
    obtain ⟨⟨l⟩⟩ := s
    simp [ByteArray.size] at this
    subst this
    rfl
  · have := run_convert_bytes_arg (P := P) w src e hs he g 0 n cap (s.data.toList.map fun b => (b.toNat : Int)) (by rw [List.length_map, Array.length_toList, hn]; rfl) (fun i hi => by
      have h1 : (strCells s)[i]? = some (.int .u8 ((s.data.toList.map fun b => (b.toNat : Int)).getD i 0)) := by
        have hi' : i < s.data.size := by rw [hn] at hi; exact hi
        simp [strCells]
        exact ⟨s.data[i], Array.getElem?_eq_getElem hi', by rw [Array.getElem?_eq_getElem hi']; rfl⟩
      rw [← htk, Nat.mul_one, List.getElem?_take_of_lt hi] at h1
      simp only [World.cell?, hg, Nat.zero_add]
      rw [← h1]; simp) dst hd
    rw [this]
    congr 2
    obtain ⟨⟨l⟩⟩ := s
    simp [strOfNums]
    rw [show ((fun n : Int => UInt8.ofNat n.toNat) ∘ fun b : UInt8 => (b.toNat : Int)) = id from funext fun b => by simp]
    simp
end Go.Proofs.YtigldeccfpkdmaaGreatDoor
namespace Go.Proofs.YtigldeccfpkdmaaGreatDoor
open Go.RowKit Go.BigFrame
theorem dataOkB_eq (d : ByteArray) : dataOkB d = (decide (1 ≤ d.size) && (plainB d && decide (d.size ≤ 20))) := by
  unfold dataOkB; cases plainB d <;> cases decide (1 ≤ d.size) <;> cases decide (d.size ≤ 20) <;> rfl
set_option maxHeartbeats 2000000 in
theorem spec_SpaceOk (size : Int) (a : Option Addr) (n cap : Nat) (l : List Ex) (w : World) (h : ExsAt w a n l) (hstr : Strs l) (hn : n ≤ 4194304) :
    Calls Tryz.prog 115 #[.int .i64 size, .slice a n cap] w fun e w' => e = .returned (.bool (spaceOkB size l)) ∧ w' = w := by
  have hlen : Hid (l.length = n) := h.len
  by_cases h0 : 1 ≤ size ∧ size ≤ 400 ∧ n ≤ 60
  · have hfin : Hid (spaceOkB size l = xgo size 1 (l.drop 0)) := by show _ = _; simp [spaceOkB, hlen.out, h0]
    obtain ⟨h1, h400, h60⟩ := h0
    have hin : (decide (1 ≤ size) && decide (size ≤ 400)) = true := by simp [h1, h400]
    go_enter Tryz.func115, Tryz.ntmps115
    go_wp2_with fail
    refine (spec_l1In _ _ _ _).mono ?_
    rintro e w1 ⟨rfl, rfl⟩
    rw [hin]
    go_wp2_with fail
    go_loop [5, 6] (fun nx ix => ∃ (k : Nat) (next : Int), k ≤ n ∧ ix = .int .i64 k ∧ nx = .int .i64 next ∧ 1 ≤ next ∧ next ≤ 421 ∧ Hid (spaceOkB size l = xgo size next (l.drop k))) (fun _ ix => n - (intOf ix).toNat)
    case atStart => exact ⟨0, 1, Nat.zero_le _, rfl, rfl, by omega, by omega, hfin⟩
    case round =>
      obtain ⟨k, next, hk, rfl, rfl, hx1, hx2, hI⟩ := hrel
      by_cases hlt : k < n
      · obtain ⟨b, o, p, rfl, hp, c0, c1⟩ := exs_at h hlt
        have hd : Hid (l.drop k = p :: l.drop (k + 1)) := drop_at hp
        have hsz := hstr.at hp
        clear hp hin
        by_cases hz : p.d.size = 0
        · have hz' : ((p.d.size : Int) == 0) = true := beq_iff_eq.2 (by omega)
          have hdo : Hid (dataOkB p.d = false) := by show _ = _; simp [dataOkB, hz]
          clear hz
          go_wp2
          go_returns
          go_light
          refine ⟨ret_bool ?_, rfl⟩
          rw [hI.out, hd.out]; simp [xgo, hdo.out]
        · have hz' : ((p.d.size : Int) == 0) = false := beq_eq_false_iff_ne.2 (by omega)
          cases hpl : (plainB p.d && decide (p.d.size ≤ 20))
          · have hdo : Hid (dataOkB p.d = false) := by show _ = _; rw [dataOkB_eq, hpl]; simp
            go_wp2_with fail
            refine (spec_l1Plain p.d _ hsz).mono ?_
            rintro e w1 ⟨rfl, rfl⟩
            rw [hpl]
            go_wp2
            go_returns
            go_light
            refine ⟨ret_bool ?_, rfl⟩
            rw [hI.out, hd.out]; simp [xgo, hdo.out]
          · have hpl2 := hpl
            simp at hpl2
            have hdo : Hid (dataOkB p.d = true) := by show _ = _; rw [dataOkB_eq, hpl]; simp; omega
            have hd2 : p.d.size ≤ 20 := hpl2.2
            have hd1 : 1 ≤ p.d.size := by omega
            clear hpl2
            cases hii : (decide (next ≤ p.a) && decide (p.a ≤ size))
            · go_wp2_with fail
              refine (spec_l1Plain p.d _ hsz).mono ?_
              rintro e w1 ⟨rfl, rfl⟩
              rw [hpl]
              go_wp2_with fail
              refine (spec_l1In _ _ _ _).mono ?_
              rintro e w1 ⟨rfl, rfl⟩
              rw [hii]
              go_wp2
              go_returns
              go_light
              refine ⟨ret_bool ?_, rfl⟩
              simp at hii
              rw [hI.out, hd.out]; simp [xgo, hdo.out]; omega
            · have hi2 := hii
              simp at hi2
              obtain ⟨ha1, ha2⟩ := hi2
              by_cases hok : p.a + p.d.size - 1 ≤ size
              · go_wp2_with fail
                refine (spec_l1Plain p.d _ hsz).mono ?_
                rintro e w1 ⟨rfl, rfl⟩
                rw [hpl]
                go_wp2_with fail
                refine (spec_l1In _ _ _ _).mono ?_
                rintro e w1 ⟨rfl, rfl⟩
                rw [hii]
                go_wp2
                go_round
                case rel => exact ⟨k + 1, p.a + p.d.size, by omega, by go_num, by go_num, by omega, by omega, by show _ = _; rw [hI.out, hd.out]; have : p.a ≤ size + 1 - p.d.size := by omega
                                                                                                                 simp [xgo, hdo.out, ha1, this]⟩
                case measure => simp [intOf]; omega
              · go_wp2_with fail
                refine (spec_l1Plain p.d _ hsz).mono ?_
                rintro e w1 ⟨rfl, rfl⟩
                rw [hpl]
                go_wp2_with fail
                refine (spec_l1In _ _ _ _).mono ?_
                rintro e w1 ⟨rfl, rfl⟩
                rw [hii]
                go_wp2
                go_returns
                go_light
                refine ⟨ret_bool ?_, rfl⟩
                rw [hI.out, hd.out]; simp [xgo, hdo.out]; omega
      · obtain rfl : k = n := by omega
        go_wp2
        go_returns
        go_light
        refine ⟨ret_bool ?_, rfl⟩
        rw [hI.out, List.drop_of_length_le (Nat.le_of_eq hlen.out)]; rfl
  · have hfin : Hid (spaceOkB size l = false) := by show _ = _; have := hlen.out; simp [spaceOkB]; omega
    cases hin : (decide (1 ≤ size) && decide (size ≤ 400))
    all_goals
      go_enter Tryz.func115, Tryz.ntmps115
      go_wp2_with fail
      refine (spec_l1In _ _ _ _).mono ?_
      rintro e w1 ⟨rfl, rfl⟩
      rw [hin]
      simp at hin
      go_wp2
      all_goals go_returns
      all_goals go_light
      all_goals exact ⟨ret_bool hfin.out.symm, rfl⟩
def eqExB (p q : Ex) : Bool := p.a == q.a && p.d.toList == q.d.toList
theorem laws_eqExtent (p q : Ex) (w : World) :
    Calls Tryz.prog 106 #[.agg #[.int .i64 p.a, .string p.d], .agg #[.int .i64 q.a, .string q.d]] w fun e w' => e = .returned (.bool (eqExB p q)) ∧ Below w.heap.size w w' := by
  obtain ⟨a, f⟩ := p
  obtain ⟨b, g⟩ := q
  go_enter Tryz.func106, Tryz.ntmps106
  go_wp2
  all_goals go_returns
  all_goals go_light
  all_goals refine ⟨?_, by go_grown⟩
  all_goals simp_all [eqExB]
end Go.Proofs.YtigldeccfpkdmaaGreatDoor
namespace Go.Proofs.YtigldeccfpkdmaaGreatDoor
open Go.RowKit Go.BigFrame
/-- A list of extents that is within the budget. -/
def Small (n : Nat) (l : List Ex) : Prop := n ≤ 1048576 ∧ ∀ e ∈ l, e.d.size ≤ 1048576
theorem Small.strs {n : Nat} {l : List Ex} (h : Small n l) : Strs l := fun e he => by have := h.2 e he; omega
def eqExs : List Ex → List Ex → Bool
  | [], [] => true
  | p :: r, q :: s => eqExB p q && eqExs r s
  | _, _ => false
theorem eqExs_refl (l : List Ex) : eqExs l l = true := by
  induction l with
  | nil => rfl
  | cons p r ih => simp [eqExs, eqExB, ih]
theorem eqExs_len {l : List Ex} : ∀ {m : List Ex}, l.length ≠ m.length → eqExs l m = false := by
  induction l with
  | nil => intro m h; cases m <;> simp [eqExs] at *
  | cons p r ih => intro m h; cases m <;> simp [eqExs] at *; exact fun _ => ih h
set_option maxHeartbeats 1000000 in
theorem laws_eqExtentS (a : Option Addr) (n cap : Nat) (l : List Ex) (a' : Option Addr) (n' cap' : Nat) (m : List Ex) (w : World) (h : ExsAt w a n l) (h' : ExsAt w a' n' m) (hn : n ≤ 4194304) (hn' : n' ≤ 4194304) :
    Calls Tryz.prog 42 #[.slice a n cap, .slice a' n' cap'] w fun e w' => e = .returned (.bool (eqExs l m)) ∧ Below w.heap.size w w' := by
  have hlen : Hid (l.length = n) := h.len
  have hlen' : Hid (m.length = n') := h'.len
  by_cases hne : n = n'
  · subst hne
    have hbn : ((n : Int) != (n : Int)) = false := by simp
    go_enter Tryz.func42, Tryz.ntmps42
    go_wp2_with fail
    go_loopw [5] (fun ix wr => ∃ (k : Nat), k ≤ n ∧ ix = .int .i64 k ∧ Hid (eqExs l m = eqExs (l.drop k) (m.drop k)) ∧ Below w.heap.size w wr) (fun ix _ => n - (intOf ix).toNat)
    case atStart => exact ⟨0, Nat.zero_le _, rfl, rfl, Below.refl _ _⟩
    case round =>
      obtain ⟨k, hk, rfl, hI, hB⟩ := hrel
      by_cases hlt : k < n
      · obtain ⟨b, o, p, rfl, hp, c0, c1⟩ := exs_at (h.below hB) hlt
        obtain ⟨b', o', q, rfl, hq, d0, d1⟩ := exs_at (h'.below hB) hlt
        have hd : Hid (l.drop k = p :: l.drop (k + 1)) := drop_at hp
        have hd' : Hid (m.drop k = q :: m.drop (k + 1)) := drop_at hq
        clear hp hq
        have hk1 : (k : Int) < n := by omega
        have hk2 : (0 : Int) ≤ k := by omega
        cases hpq : eqExB p q
        all_goals
          go_wp2_with fail
          have g0 := gcell c0
          have g1 := gcell c1
          have g3 := gcell d0
          have g4 := gcell d1
          have hne := grw_ne wr
          refine wp_region_grow (by kernel_rfl) (by kernel_rfl) ?_
          repeat (go_big_quiet_step (first | (go_at_call 106; have qq := laws_eqExtent p q; rw [hpq] at qq; exact grow_of (qq _))))
          refine wpQuiet_nil ?_
          intro w2 hx
          have hB2 := grw_out hx
          clear hx
          go_wp2
        · go_returns
          go_light
          refine ⟨ret_bool ?_, chain hB hB2⟩
          rw [hI.out, hd.out, hd'.out]; simp only [eqExs, hpq, Bool.false_and]
        · go_roundw
          case rel => exact ⟨k + 1, by omega, by go_num, by show _ = _; rw [hI.out, hd.out, hd'.out]; simp only [eqExs, hpq, Bool.true_and], chain hB hB2⟩
          case measure => simp [intOf]; omega
      · obtain rfl : k = n := by omega
        go_wp2
        go_returns
        go_light
        refine ⟨ret_bool ?_, hB⟩
        rw [hI.out, List.drop_of_length_le (Nat.le_of_eq hlen.out), List.drop_of_length_le (Nat.le_of_eq hlen'.out)]; rfl
  · have hbn : ((n : Int) != (n' : Int)) = true := by simp; omega
    go_enter Tryz.func42, Tryz.ntmps42
    go_wp2
    go_returns
    go_light
    refine ⟨ret_bool ?_, Below.refl _ _⟩
    rw [eqExs_len (by rw [hlen.out, hlen'.out]; exact hne)]
end Go.Proofs.YtigldeccfpkdmaaGreatDoor
namespace Go.Proofs.YtigldeccfpkdmaaGreatDoor
open Go.RowKit
theorem flat_len {α : Type} {cs : α → List Value} {sz : Nat} (hsz : ∀ x, (cs x).length = sz) (l : List α) : (l.flatMap cs).length = l.length * sz := by
  induction l with
  | nil => simp
  | cons x r ih => simp [ih, hsz, Nat.add_mul]; omega
theorem flat_at {α : Type} {cs : α → List Value} {sz : Nat} (hsz : ∀ x, (cs x).length = sz) (l : List α) : ∀ {i j : Nat} {x : α} {v : Value}, l[i]? = some x → (cs x)[j]? = some v → (l.flatMap cs)[i * sz + j]? = some v := by
  induction l with
  | nil => intro i j x v h; simp at h
  | cons y r ih =>
    intro i j x v hx hv
    have hj : j < sz := by have := (List.getElem?_eq_some_iff.1 hv).1; rw [hsz] at this; exact this
    rw [List.flatMap_cons]
    cases i with
    | zero =>
      simp at hx
      subst hx
      rw [Nat.zero_mul, Nat.zero_add, List.getElem?_append_left (by rw [hsz]; exact hj)]
      exact hv
    | succ i =>
      simp at hx
      rw [List.getElem?_append_right (by rw [hsz, Nat.add_mul]; omega), hsz]
      have e : (i + 1) * sz + j - sz = i * sz + j := by rw [Nat.add_mul]; omega
      rw [e]
      exact ih hx hv
theorem flat_inv {α : Type} {cs : α → List Value} {sz : Nat} (hsz : ∀ x, (cs x).length = sz) (l : List α) : ∀ {t : Nat} {v : Value}, (l.flatMap cs)[t]? = some v → ∃ i x j, l[i]? = some x ∧ (cs x)[j]? = some v ∧ t = i * sz + j := by
  induction l with
  | nil => intro t v h; simp at h
  | cons y r ih =>
    intro t v h
    rw [List.flatMap_cons] at h
    by_cases ht : t < sz
    · rw [List.getElem?_append_left (by rw [hsz]; exact ht)] at h
      exact ⟨0, y, t, rfl, h, by omega⟩
    · rw [List.getElem?_append_right (by rw [hsz]; omega), hsz] at h
      obtain ⟨i, x, j, h1, h2, h3⟩ := ih h
      exact ⟨i + 1, x, j, by simpa using h1, h2, by rw [Nat.add_mul]; omega⟩
/-- The cells of such a slice, one behind the other. -/
theorem SlAt.src {α : Type} {cs : α → List Value} {sz : Nat} (hsz : ∀ x, (cs x).length = sz) {w : World} {b o n : Nat} {l : List α} (h : SlAt cs sz w (some ⟨b, o, none⟩) n l) :
    ∀ j u, (l.flatMap cs)[j]? = some u → w.cell? ((⟨b, o, none⟩ : Addr).add j) = some u := by
  intro t u hu
  obtain ⟨i, x, j, h1, h2, rfl⟩ := flat_inv hsz l hu
  obtain ⟨b', o', ha, hc⟩ := h.cell i x h1
  obtain ⟨rfl, rfl⟩ : b = b' ∧ o = o' := by simpa using ha
  rw [Addr.add_lit, ← Nat.add_assoc]
  exact hc j u h2
/-- An answer: nil, or a slice at the beginning of a block of the call's own. -/
structure ResAt {α : Type} (cs : α → List Value) (sz : Nat) (t : TypeId) (w : World) (B : Nat) (a : Option Addr) (n cap : Nat) (l : List α) : Prop where
  sl : SlAt cs sz w a n l
  own : (a = none ∧ n = 0 ∧ cap = 0) ∨ ∃ b, a = some ⟨b, 0, none⟩ ∧ B ≤ b ∧ n ≤ cap ∧ cap ≤ maxLen ∧ ∃ c, Blk w b c t ∧ c.size = cap * sz ∧ c.toList.take (n * sz) = l.flatMap cs
theorem ResAt.below {α : Type} {cs : α → List Value} {sz : Nat} {t : TypeId} {w w' : World} {B n cap : Nat} {a : Option Addr} {l : List α} (h : ResAt cs sz t w B a n cap l) (hb : Below w.heap.size w w') : ResAt cs sz t w' B a n cap l := by
  refine ⟨h.sl.below hb, ?_⟩
  rcases h.own with h0 | ⟨b, ha, hB, h1, h2, c, hc, q⟩
  · exact .inl h0
  · exact .inr ⟨b, ha, hB, h1, h2, c, hc.below hb, q⟩
theorem ResAt.mono {α : Type} {cs : α → List Value} {sz : Nat} {t : TypeId} {w : World} {B B' n cap : Nat} {a : Option Addr} {l : List α} (h : ResAt cs sz t w B a n cap l) (hb : B' ≤ B) : ResAt cs sz t w B' a n cap l := by
  refine ⟨h.sl, ?_⟩
  rcases h.own with h0 | ⟨b, ha, hB, q⟩
  · exact .inl h0
  · exact .inr ⟨b, ha, by omega, q⟩
/-- As the append laws want it. -/
theorem ResAt.row {α : Type} {cs : α → List Value} {sz : Nat} {t : TypeId} (hsz : ∀ x, (cs x).length = sz) {w : World} {B n cap : Nat} {a : Option Addr} {l : List α} (h : ResAt cs sz t w B a n cap l) : w.ownsRow B t sz (.slice a n cap) n (l.flatMap cs) := by
  refine ⟨by rw [flat_len hsz, h.sl.len], ?_⟩
  rcases h.own with ⟨rfl, rfl, rfl⟩ | ⟨b, rfl, hB, h1, h2, c, hc, hs, ht⟩
  · exact .inl ⟨rfl, rfl⟩
  · exact .inr ⟨b, cap, c, rfl, hB, hc, h1, h2, hs, ht⟩
theorem res_of_row {α : Type} {cs : α → List Value} {sz : Nat} {t : TypeId} (hsz : ∀ x, (cs x).length = sz) {w : World} {B n : Nat} {v : Value} {l : List α} (hn : l.length = n) (h : w.ownsRow B t sz v n (l.flatMap cs)) :
    ∃ a cap, v = .slice a n cap ∧ ResAt cs sz t w B a n cap l := by
  obtain ⟨_, h⟩ := h
  rcases h with ⟨rfl, rfl⟩ | ⟨g, cap, cur, rfl, hB, hh, h1, h2, hs, ht⟩
  · exact ⟨none, 0, rfl, ⟨hn, fun i x hx => by rw [List.eq_nil_of_length_eq_zero hn] at hx; simp at hx⟩, .inl ⟨rfl, rfl, rfl⟩⟩
  · refine ⟨some ⟨g, 0, none⟩, cap, rfl, ⟨hn, fun i x hx => ⟨g, 0, rfl, fun j u hu => ?_⟩⟩, .inr ⟨g, rfl, hB, h1, h2, cur, hh, hs, ht⟩⟩
    have hb : Blk w g cur t := hh
    rw [hb.cell, Nat.zero_add]
    have hf := flat_at hsz l hx hu
    rw [← ht] at hf
    have hlt : i * sz + j < n * sz := by
      have := (List.getElem?_eq_some_iff.1 hf).1
      simp at this
      omega
    rw [List.getElem?_take_of_lt hlt] at hf
    simpa using hf
theorem ResAt.block {α : Type} {cs : α → List Value} {sz : Nat} {t : TypeId} {w : World} {B n cap : Nat} {a : Option Addr} {l : List α} (h : ResAt cs sz t w B a n cap l) : ∀ ad, a = some ad → B ≤ ad.block ∧ ad.block < w.heap.size := by
  intro ad ha
  rcases h.own with ⟨rfl, _⟩ | ⟨b, rfl, hB, _, _, c, hc, _⟩
  · cases ha
  · cases ha
    exact ⟨hB, hc.lt⟩
theorem pcs_one (l : List Pt) : ∀ u ∈ l.flatMap Pt.cs, u.oneCell' = true := by
  intro u hu
  obtain ⟨p, _, hp⟩ := List.mem_flatMap.1 hu
  simp [Pt.cs] at hp
  rcases hp with rfl | rfl | rfl <;> rfl
end Go.Proofs.YtigldeccfpkdmaaGreatDoor
namespace Go.Proofs.YtigldeccfpkdmaaGreatDoor
open Go.RowKit
/-- append(d, s...): d is the call's own, s whatever slice. -/
theorem wp_app {α : Type} {cs : α → List Value} {size : Nat} {P : Program} {o : Oper} {a : Act} {w : World} {K : Act → World → Prop} {Q : Exit → Act → World → Prop}
    (s x : Operand) (t : TypeId) (ho : o.op = .call { callee := .builtin .append, args := #[s, x], argTypes := #[t, t] })
    (B : Nat) (e : TypeId) (i : TypeInfo) (z : Value) (bytes : Nat) (ht : P.underlying t = some (.slice e)) (hi : P.info? e = some i) (hz : i.zero = some z) (hsize : i.size = size) (hby : i.bytes = bytes) (hzs : z.cells.size = size) (hpos : 0 < size)
    (hsz : ∀ y, (cs y).length = size) (hone : ∀ (l : List α), ∀ u ∈ l.flatMap cs, u.oneCell' = true)
    (da : Option Addr) (dn dcap : Nat) (ld : List α) (hs : a.eval s = .slice da dn dcap) (hd : ResAt cs size e w B da dn dcap ld)
    (sa : Option Addr) (sn scap : Nat) (ls : List α) (hx : a.eval x = .slice sa sn scap) (hsrc : SlAt cs size w sa sn ls) (hspot : ∀ ad, sa = some ad → ad.spot = none) (hnone : sa = none → scap = 0)
    (tot : Nat) (htot : dn + sn = tot) (h63 : tot ≤ maxLen) (hbytes : tot * bytes ≤ 140737488355328) (hbase : B ≤ w.heap.size)
    (h : ∀ a' cap' w', ResAt cs size e w' B a' tot cap' (ld ++ ls) → w.grownBy w' (Value.ownBlock (.slice da dn dcap)) → K (a.put o.dst (.slice a' tot cap')) w') : o.wp P a w K Q := by
  subst htot
  have hrow := hd.row hsz
  have hlen : (ld ++ ls).length = dn + sn := by rw [List.length_append, hd.sl.len, hsrc.len]
  cases sa with
  | none =>
    have h0 : sn = 0 := by
      cases ls with
      | nil => rw [← hsrc.len]; rfl
      | cons y r => obtain ⟨b, o', hb, _⟩ := hsrc.cell 0 y rfl; cases hb
    obtain rfl := h0
    obtain rfl := hnone rfl
    have hl0 : ls = [] := List.eq_nil_of_length_eq_zero hsrc.len
    subst hl0
    have hrun := run_append_owned_none (P := P) w B t o.type e i size ht hi (.slice da dn dcap) dn (ld.flatMap cs) hrow
    unfold Oper.wp
    simp [execOp, ho, resolve, invoke, builtin, hs, hx, hrun, Result.andThen]
    exact h da dcap w (by simpa using hd) (World.grownBy.refl _ _)
  | some ad =>
    obtain ⟨b, off, spot⟩ := ad
    have := hspot _ rfl
    simp only at this
    subst this
    refine wp_append_own w s x t ho B e i z size bytes ht hi hz hsize hby hzs hpos (.slice da dn dcap) dn (ld.flatMap cs) hs hrow ⟨b, off, none⟩ sn scap (ls.flatMap cs) hx (by rw [flat_len hsz, hsrc.len]) (SlAt.src hsz hsrc) (hone ls) h63 hbytes hbase ?_
    intro v' w' hrow' hg _
    rw [← List.flatMap_append] at hrow'
    obtain ⟨a', cap', rfl, hres⟩ := res_of_row hsz hlen hrow'
    exact h a' cap' w' hres hg
/-- The same as a step of a region that draws its order. -/
theorem step_app {P : Program} {ops : Array Oper} {o : Oper} {a : Act} {w : World} {K : Act → World → Prop} {Q : Exit → Act → World → Prop} {E : Prop} (hg : o.guard = none) (h : o.wp P a w K Q) :
    if Region.wanted o (yielded ops a.tmps) = true then Oper.wp P o a w K Q else E := by
  have hw : Region.wanted o (yielded ops a.tmps) = true := by simp [Region.wanted, hg]
  rw [if_pos hw]; exact h
theorem wpList_app {P : Program} {ops : Array Oper} {rest : List Oper} {o : Oper} {a : Act} {w : World} {Q : Exit → Act → World → Prop} (hg : o.guard = none)
    (h : ∀ K : Act → World → Prop, (∀ a w, wpList P ops Q rest a w → K a w) → o.wp P a w K Q) : wpList P ops Q (o :: rest) a w := wpList_plain hg h
theorem res_empty {α : Type} {cs : α → List Value} {sz : Nat} {t : TypeId} {w : World} {B b : Nat} (hb : Blk w b #[] t) (hB : B ≤ b) : ResAt cs sz t w B (some ⟨b, 0, none⟩) 0 0 ([] : List α) :=
  ⟨⟨rfl, fun i x hx => by simp at hx⟩, .inr ⟨b, rfl, hB, Nat.le_refl _, Nat.zero_le _, #[], hb, by simp, by simp⟩⟩
theorem res_nil {α : Type} {cs : α → List Value} {sz : Nat} {t : TypeId} {w : World} {B : Nat} : ResAt cs sz t w B none 0 0 ([] : List α) :=
  ⟨⟨rfl, fun i x hx => by simp at hx⟩, .inl ⟨rfl, rfl, rfl⟩⟩
theorem ResAt.grown {α : Type} {cs : α → List Value} {sz : Nat} {t : TypeId} {w w' : World} {B n cap r : Nat} {a : Option Addr} {l : List α} (h : ResAt cs sz t w B a n cap l) (hg : w.grownBy w' (some r)) (hr : ∀ ad, a = some ad → ad.block ≠ r) : ResAt cs sz t w' B a n cap l := by
  refine ⟨h.sl.grown hg hr, ?_⟩
  rcases h.own with h0 | ⟨b, ha, hB, h1, h2, c, hc, q⟩
  · exact .inl h0
  · exact .inr ⟨b, ha, hB, h1, h2, c, hc.grown hg (hr _ ha), q⟩
theorem ResAt.alloc {α : Type} {cs : α → List Value} {sz : Nat} {t : TypeId} {w : World} {B n cap : Nat} {a : Option Addr} {l : List α} (h : ResAt cs sz t w B a n cap l) (o : Obj) : ResAt cs sz t (w.alloc o) B a n cap l := h.below ((Below.refl _ _).alloc (Nat.le_refl _) _)
theorem own_ne {a : Option Addr} {n cap x : Nat} (h : ∀ ad, a = some ad → x < ad.block) : some x ≠ Value.ownBlock (.slice a n cap) := by
  cases a with
  | none => simp [Value.ownBlock]
  | some ad => have := h ad rfl; simp [Value.ownBlock]; omega
theorem own_ge {a : Option Addr} {n cap B : Nat} (h : ∀ ad, a = some ad → B ≤ ad.block) : ∀ k, Value.ownBlock (.slice a n cap) = some k → B ≤ k := by
  intro k hk
  cases a with
  | none => simp [Value.ownBlock] at hk
  | some ad => have := h ad rfl; simp [Value.ownBlock] at hk; omega
/-- A new block with the cells of one part. -/
theorem Blk.new' (w : World) (c : Array Value) (t : TypeId) (b : Nat) (hb : b = w.heap.size) : Blk (w.alloc (.cells c t)) b c t := by subst hb; exact Blk.new _ _ _
end Go.Proofs.YtigldeccfpkdmaaGreatDoor
namespace Go.Proofs.YtigldeccfpkdmaaGreatDoor
open Go.RowKit Go.BigFrame
/-- The index of the first extent at that address, the list beginning at k; -1 where there is none. -/
def atG (addr : Int) : Nat → List Ex → Int
  | _, [] => -1
  | k, e :: r => if e.a == addr then (k : Int) else atG addr (k + 1) r
set_option maxHeartbeats 400000 in
theorem spec_l1At (a : Option Addr) (n cap : Nat) (l : List Ex) (addr : Int) (w : World) (h : ExsAt w a n l) (hn : n ≤ 4194304) :
    Calls Tryz.prog 121 #[.slice a n cap, .int .i64 addr] w fun e w' => e = .returned (.int .i64 (atG addr 0 l)) ∧ w' = w := by
  have hlen : Hid (l.length = n) := h.len
  go_enter Tryz.func121, Tryz.ntmps121
  go_wp2_with fail
  go_loop [5] (fun ix => ∃ (k : Nat), k ≤ n ∧ ix = .int .i64 k ∧ Hid (atG addr 0 l = atG addr k (l.drop k))) (fun ix => n - (intOf ix).toNat)
  case atStart => exact ⟨0, Nat.zero_le _, rfl, rfl⟩
  case round =>
    obtain ⟨k, hk, rfl, hI⟩ := hrel
    by_cases hlt : k < n
    · obtain ⟨b, o, p, rfl, hp, c0, c1⟩ := exs_at h hlt
      have hd : Hid (l.drop k = p :: l.drop (k + 1)) := drop_at hp
      clear hp
      cases he : (p.a == addr)
      · go_wp2
        go_round
        case rel => exact ⟨k + 1, by omega, by go_num, by show _ = _; rw [hI.out, hd.out]; simp only [atG, he, Bool.false_eq_true, if_false]⟩
        case measure => simp [intOf]; omega
      · go_wp2
        go_returns
        go_light
        refine ⟨ret_int ?_, rfl⟩
        rw [hI.out, hd.out]; simp only [atG, he, if_true]
    · obtain rfl : k = n := by omega
      go_wp2
      go_returns
      go_light
      refine ⟨ret_int ?_, rfl⟩
      rw [hI.out, List.drop_of_length_le (Nat.le_of_eq hlen.out)]; rfl
end Go.Proofs.YtigldeccfpkdmaaGreatDoor
