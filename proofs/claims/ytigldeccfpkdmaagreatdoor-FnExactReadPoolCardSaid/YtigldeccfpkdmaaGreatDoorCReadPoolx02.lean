/- Bytes: zeros appended to a row of the call's own, rows of bytes as texts. The extents: dataOk and SpaceOk of the program, l1Plain and SpaceOk of the model. The model's SpaceOk; the laws' sizes, copies and comparisons of lists of extents. The laws' sizes, copies and comparisons of lists of extents. Where an extent stands (the model's l1At); Lifted of the program. Content as a plain function; dataAt of the program. -/
import Derived.Lib.AppendStr
import Derived.Lib.AppendZerosOnto
import Derived.Laws.BytesArg
import Derived.Test.YtigldeccfpkdmaaGreatDoorCReadPoolx00
import Derived.Test.YtigldeccfpkdmaaGreatDoorProg
import Derived.Test.YtigldeccfpkdmaaGreatDoorCReadPoolx01
namespace Go.Proofs.YtigldeccfpkdmaaGreatDoor
open Go.RowKit Go.Lib
/-- So many zeros. -/
def zs (k : Nat) : ByteArray := ⟨(List.replicate k (0 : UInt8)).toArray⟩
theorem zs_size (k : Nat) : (zs k).size = k := by simp [zs, ByteArray.size]
theorem zs_cells (k : Nat) : (strCells (zs k)).toArray = Builtin.zeroCells #[Value.int .u8 0] k := by
  apply Array.ext'
  apply List.ext_getElem?
  intro j
  by_cases h : j < k
  · simp [strCells, zs, Builtin.zeroCells, h]
    rw [Nat.mod_one]; rfl
  · simp [strCells, zs, Builtin.zeroCells, h]
/-- append(s, make([]byte, k)...) does what append of k zero bytes as a text does. -/
theorem append_zeros {P : Program} (w : World) (t tn u ty e : TypeId) (i : TypeInfo) (kn kq : IntKind) (ht : P.underlying t = some (.slice e)) (htn : P.underlying tn = some (.int kn)) (hu : P.underlying u = some .string) (hi : P.info? e = some i) (hz : i.zero = some (.int .u8 0)) (hsize : i.size = 1) (hby : i.bytes = 1)
    (base : Option Addr) (sLen sCap k : Nat) (hk : 0 < k) (hb : sLen + k ≤ 140737488355328) :
    (Builtin.append_ #[t, tn] ty #[.slice base sLen sCap, .int kq k]).run P w = (Builtin.append_ #[t, u] ty #[.slice base sLen sCap, .string (zs k)]).run P w := by
  have hw : IntKind.i64.wrap (k : Int) = k := by rw [IntKind.wrap_i64]; omega
  have hk0 : k ≠ 0 := by omega
  have hneg : ¬ ((k : Int) < 0) := by omega
  have h48i : ¬ (281474976710656 < (k : Int)) := by omega
  have h63' : ¬ (9223372036854775807 < ((sLen : Int) + (k : Int))) := by omega
  have hf := fun W => run_firstCells_string (P := P) W 1 (zs k)
  rw [zs_size, zs_cells] at hf
  by_cases hn : sLen + k ≤ sCap
  · simp [Builtin.append_, run_underlying ht, run_underlying htn, run_underlying hu, sizeOf, typeInfo, zeroValue, hi, hz, hsize, hby, asInt, asIntOf, hw, Builtin.lenOf, zs_size, hn, hneg, hk0, h48i, hf, Value.cells]
  · simp [Builtin.append_, run_underlying ht, run_underlying htn, run_underlying hu, sizeOf, typeInfo, zeroValue, hi, hz, hsize, hby, asInt, asIntOf, hw, Builtin.lenOf, zs_size, hn, hneg, hk0, h48i, h63', hf, Value.cells]
    have h48' : Builtin.nextslicecap (sLen + k) sCap * 1 ≤ 281474976710656 := growslice_fits (by omega) (by omega)
    have hno : ¬ (281474976710656 < Builtin.nextslicecap (sLen + k) sCap) := by omega
    rw [if_neg hno, if_neg hno]
/-- append(s, make([]byte, k)...) to a row of the call's own, for the walk. -/
theorem wpList_append_zeros {P : Program} (w : World) {ops : Array Oper} {rest : List Oper} {o : Oper} {a : Act} {Q : Exit → Act → World → Prop} (hgd : o.guard = none) (sl x : Operand) (t tn u : TypeId)
    (ho : o.op = .call { callee := .builtin .append, args := #[sl, x], argTypes := #[t, tn] })
    (base : Nat) (e : TypeId) (i : TypeInfo) (kn : IntKind) (ht : P.underlying t = some (.slice e)) (htn : P.underlying tn = some (.int kn)) (hu : P.underlying u = some .string) (hi : P.info? e = some i) (hz : i.zero = some (.int .u8 0))
    (hsize : i.size = 1) (hby : i.bytes = 1)
    (v : Value) (n : Nat) (xs : List Value) (hs : a.eval sl = v) (hown : w.ownsRow base e 1 v n xs) (kq : IntKind) (k : Nat) (hx : a.eval x = .int kq k) (hk : 0 < k)
    (hbytes : n + k ≤ 140737488355328) (hbase : base ≤ w.heap.size)
    (h : ∀ v' w', w'.ownsRow base e 1 v' (n + k) (xs ++ strCells (zs k)) → w.grownBy w' v.ownBlock → wpList P ops Q rest (a.put o.dst v') w') : wpList P ops Q (o :: rest) a w := by
  refine wpList_plain hgd fun K hK => ?_
  obtain ⟨v', w', hr, h2, h3, _⟩ := run_append_own_string (P := P) w base t u o.type e i ht hu hi hz hsize hby v n xs hown (zs k) (by rw [zs_size]; unfold maxLen; omega) (by rw [zs_size]; omega) hbase
  rw [zs_size] at h2
  obtain ⟨b0, l0, c0, rfl⟩ : ∃ b0 l0 c0, v = .slice b0 l0 c0 := by
    rcases hown.2 with ⟨rfl, _⟩ | ⟨g, cap, cur, rfl, _⟩
    · exact ⟨_, _, _, rfl⟩
    · exact ⟨_, _, _, rfl⟩
  have hl0 : l0 + k ≤ 140737488355328 := by
    rcases hown.2 with ⟨e1, _⟩ | ⟨g, cap, cur, e1, _⟩
    · simp at e1; omega
    · simp at e1; omega
  rw [← append_zeros w t tn u o.type e i kn kq ht htn hu hi hz hsize hby b0 l0 c0 k hk hl0] at hr
  unfold Oper.wp execOp
  simp only [ho, resolve, invoke, builtin, Sem.run_bind, Sem.run_pure, Result.andThen_ok, List.map_toArray, List.map_cons, List.map_nil, hs, hx, hr]
  exact hK _ _ (h v' w' h2 h3)
/-- A row of the call's own that holds a text's bytes, as a text. -/
theorem row_text {P : Program} {w : World} {B e : Nat} {v : Value} {n : Nat} {s : ByteArray} (h : w.ownsRow B e 1 v n (strCells s)) (src : TypeId) (hs : P.underlying src = some (.slice e)) (he : P.underlying e = some (.int .u8)) :
    ∀ dst, P.underlying dst = some .string → (convert src dst v).run P w = .ok (.string s) w := by
  intro dst hd
  have hn : n = s.size := by have := h.1; rw [strCells_length] at this; omega
  rcases h.2 with ⟨rfl, h0⟩ | ⟨g, cap, cur, rfl, _, hg, hnc, _, hcs, htk⟩
  · rw [run_convert_bytes_nil w src e hs he 0 0 dst hd]
    have : s.size = 0 := by omega
    obtain ⟨⟨l⟩⟩ := s
    simp [ByteArray.size] at this
    subst this
    rfl
  · have := run_convert_bytes_arg (P := P) w src e hs he g 0 n cap (s.data.toList.map fun b => (b.toNat : Int)) (by rw [List.length_map, Array.length_toList, hn]; rfl) (fun i hi => by
      have h1 : (strCells s)[i]? = some (.int .u8 ((s.data.toList.map fun b => (b.toNat : Int)).getD i 0)) := by
        have hi' : i < s.data.size := by rw [hn] at hi; exact hi
        simp [strCells]
        exact ⟨s.data[i], Array.getElem?_eq_getElem hi', by rw [Array.getElem?_eq_getElem hi']; rfl⟩
      rw [← htk, Nat.mul_one, List.getElem?_take_of_lt hi] at h1
      simp only [World.cell?, hg, Nat.zero_add]
      rw [← h1]; simp) dst hd
    rw [this]
    congr 2
    obtain ⟨⟨l⟩⟩ := s
    simp [strOfNums]
    rw [show ((fun n : Int => UInt8.ofNat n.toNat) ∘ fun b : UInt8 => (b.toNat : Int)) = id from funext fun b => by simp]
    simp
end Go.Proofs.YtigldeccfpkdmaaGreatDoor
namespace Go.Proofs.YtigldeccfpkdmaaGreatDoor
open Go.RowKit Go.BigFrame
def charB (c : UInt8) : Bool := decide (32 ≤ (c.toNat : Int)) && decide ((c.toNat : Int) ≤ 126)
def plainB (d : ByteArray) : Bool := d.data.toList.all charB
def dataOkB (d : ByteArray) : Bool := decide (1 ≤ d.size) && decide (d.size ≤ 20) && plainB d
theorem str_drop (s : ByteArray) (k : Nat) (h : k < s.size) : s.data.toList.drop k = s[k] :: s.data.toList.drop (k + 1) := by
  rw [List.drop_eq_getElem_cons (by simpa using h)]; rfl
set_option maxHeartbeats 400000 in
theorem impl_dataOk (d : ByteArray) (w : World) (hd : d.size ≤ 9223372036854775807) :
    Calls Tryz.prog 163 #[.string d] w fun e w' => e = .returned (.bool (dataOkB d)) ∧ w' = w := by
  by_cases h1 : 1 ≤ d.size ∧ d.size ≤ 20
  · have hfin : Hid (dataOkB d = (d.data.toList.drop 0).all charB) := by show _ = _; simp [dataOkB, plainB, h1]
    obtain ⟨h1, h20⟩ := h1
    go_enter Tryz.func163, Tryz.ntmps163
    go_wp2_with fail
    go_loop [14] (fun ix => ∃ (k : Nat), k ≤ d.size ∧ ix = .int .i64 k ∧ Hid (dataOkB d = (d.data.toList.drop k).all charB)) (fun ix => d.size - (intOf ix).toNat)
    case atStart => exact ⟨0, Nat.zero_le _, rfl, hfin⟩
    case round =>
      obtain ⟨k, hk, rfl, hI⟩ := hrel
      by_cases hlt : k < d.size
      · have hs : Hid (d.data.toList.drop k = d[k] :: d.data.toList.drop (k + 1)) := str_drop d k hlt
        cases hc : charB d[k]
        · have hc' : (d[k].toNat : Int) < 32 ∨ 126 < (d[k].toNat : Int) := by simp [charB] at hc; omega
          go_wp2
          all_goals go_returns
          all_goals go_light
          all_goals (refine ⟨ret_bool ?_, rfl⟩; rw [hI.out, hs.out]; simp [hc])
        · have hc' : 32 ≤ (d[k].toNat : Int) ∧ (d[k].toNat : Int) ≤ 126 := by simp [charB] at hc; omega
          obtain ⟨hc1, hc2⟩ := hc'
          go_wp2
          go_round
          case rel => exact ⟨k + 1, by omega, by go_num, by show _ = _; rw [hI.out, hs.out]; simp [hc]⟩
          case measure => simp [intOf]; omega
      · obtain rfl : k = d.size := by omega
        go_wp2
        go_returns
        go_light
        refine ⟨ret_bool ?_, rfl⟩
        rw [hI.out, List.drop_of_length_le (by simp)]; rfl
  · have hfin : Hid (dataOkB d = false) := by show _ = _; simp [dataOkB]; omega
    go_enter Tryz.func163, Tryz.ntmps163
    go_wp2
    all_goals go_returns
    all_goals go_light
    all_goals exact ⟨ret_bool hfin.out.symm, rfl⟩
set_option maxHeartbeats 400000 in
theorem spec_l1Plain (d : ByteArray) (w : World) (hd : d.size ≤ 9223372036854775807) :
    Calls Tryz.prog 177 #[.string d] w fun e w' => e = .returned (.bool (plainB d && decide (d.size ≤ 20))) ∧ w' = w := by
  have hfin : Hid (plainB d = (d.data.toList.drop 0).all charB) := rfl
  go_enter Tryz.func177, Tryz.ntmps177
  go_wp2_with fail
  go_loop [3] (fun ix => ∃ (k : Nat), k ≤ d.size ∧ ix = .int .i64 k ∧ Hid (plainB d = (d.data.toList.drop k).all charB)) (fun ix => d.size - (intOf ix).toNat)
  case atStart => exact ⟨0, Nat.zero_le _, rfl, hfin⟩
  case round =>
    obtain ⟨k, hk, rfl, hI⟩ := hrel
    by_cases hlt : k < d.size
    · have hs : Hid (d.data.toList.drop k = d[k] :: d.data.toList.drop (k + 1)) := str_drop d k hlt
      cases hc : charB d[k]
      · have hc' : (d[k].toNat : Int) < 32 ∨ 126 < (d[k].toNat : Int) := by simp [charB] at hc; omega
        go_wp2
        all_goals go_returns
        all_goals go_light
        all_goals (refine ⟨ret_bool ?_, rfl⟩; rw [hI.out, hs.out]; simp [hc])
      · have hc' : 32 ≤ (d[k].toNat : Int) ∧ (d[k].toNat : Int) ≤ 126 := by simp [charB] at hc; omega
        obtain ⟨hc1, hc2⟩ := hc'
        go_wp2
        go_round
        case rel => exact ⟨k + 1, by omega, by go_num, by show _ = _; rw [hI.out, hs.out]; simp [hc]⟩
        case measure => simp [intOf]; omega
    · obtain rfl : k = d.size := by omega
      go_wp2
      go_returns
      go_light
      refine ⟨ret_bool ?_, rfl⟩
      rw [hI.out, List.drop_of_length_le (by simp)]; rw [Bool.eq_iff_iff]; simp; omega
/-- SpaceOk's rounds: the size, the first byte that is free, the extents to come. -/
def xgo (size : Int) : Int → List Ex → Bool
  | _, [] => true
  | next, e :: r => dataOkB e.d && decide (next ≤ e.a) && decide (e.a ≤ size + 1 - e.d.size) && xgo size (e.a + e.d.size) r
def spaceOkB (size : Int) (l : List Ex) : Bool := decide (1 ≤ size) && decide (size ≤ 400) && decide (l.length ≤ 60) && xgo size 1 l
/-- The strings of a list are as short as strings are. -/
def Strs (l : List Ex) : Prop := ∀ e ∈ l, e.d.size ≤ 9223372036854775807
theorem Strs.at {l : List Ex} (h : Strs l) {k : Nat} {e : Ex} (he : l[k]? = some e) : e.d.size ≤ 9223372036854775807 := h e (List.mem_of_getElem? he)
set_option maxHeartbeats 1000000 in
theorem impl_SpaceOk (size : Int) (a : Option Addr) (n cap : Nat) (l : List Ex) (w : World) (h : ExsAt w a n l) (hstr : Strs l) (hn : n ≤ 4194304) :
    Calls Tryz.prog 99 #[.int .i64 size, .slice a n cap] w fun e w' => e = .returned (.bool (spaceOkB size l)) ∧ Below w.heap.size w w' := by
  have hlen : Hid (l.length = n) := h.len
  by_cases h0 : 1 ≤ size ∧ size ≤ 400 ∧ n ≤ 60
  · have hfin : Hid (spaceOkB size l = xgo size 1 (l.drop 0)) := by show _ = _; simp [spaceOkB, hlen.out, h0]
    obtain ⟨h1, h400, h60⟩ := h0
    go_enter Tryz.func99, Tryz.ntmps99
    go_wp2_with fail
    go_loopw [5, 21] (fun nx ix wr => ∃ (k : Nat) (next : Int), k ≤ n ∧ ix = .int .i64 k ∧ nx = .int .i64 next ∧ 1 ≤ next ∧ next ≤ 421 ∧ Hid (spaceOkB size l = xgo size next (l.drop k)) ∧ Below w.heap.size w wr) (fun _ ix _ => n - (intOf ix).toNat)
    case atStart => exact ⟨0, 1, Nat.zero_le _, rfl, rfl, by omega, by omega, hfin, Below.refl _ _⟩
    case round =>
      obtain ⟨k, next, hk, rfl, rfl, hx1, hx2, hI, hB⟩ := hrel
      by_cases hlt : k < n
      · obtain ⟨b, o, p, rfl, hp, c0, c1⟩ := exs_at (h.below hB) hlt
        have hd : Hid (l.drop k = p :: l.drop (k + 1)) := drop_at hp
        have hsz := hstr.at hp
        clear hp
        have hwr := hB.size
        cases hdo : dataOkB p.d
        · go_wp2_with fail
          refine (impl_dataOk p.d _ hsz).mono ?_
          rintro e w1 ⟨rfl, rfl⟩
          rw [hdo]
          go_wp2
          go_returns
          go_light
          refine ⟨ret_bool ?_, by go_grown⟩
          rw [hI.out, hd.out]; simp [xgo, hdo]
        · have hd20 : 1 ≤ p.d.size ∧ p.d.size ≤ 20 := by simp [dataOkB] at hdo; exact hdo.1
          obtain ⟨hd1, hd2⟩ := hd20
          by_cases hok : next ≤ p.a ∧ p.a ≤ size + 1 - p.d.size
          · obtain ⟨ha1, ha2⟩ := hok
            go_wp2_with fail
            refine (impl_dataOk p.d _ hsz).mono ?_
            rintro e w1 ⟨rfl, rfl⟩
            rw [hdo]
            go_wp2
            go_roundw
            case rel => exact ⟨k + 1, p.a + p.d.size, by omega, by go_num, by go_num, by omega, by omega, by show _ = _; rw [hI.out, hd.out]; simp [xgo, hdo, ha1, ha2], by go_grown⟩
            case measure => simp [intOf]; omega
          · go_wp2_with fail
            refine (impl_dataOk p.d _ hsz).mono ?_
            rintro e w1 ⟨rfl, rfl⟩
            rw [hdo]
            go_wp2
            all_goals go_returns
            all_goals go_light
            all_goals refine ⟨ret_bool ?_, by go_grown⟩
            all_goals (rw [hI.out, hd.out]; simp [xgo, hdo]; omega)
      · obtain rfl : k = n := by omega
        go_wp2
        go_returns
        go_light
        refine ⟨ret_bool ?_, hB⟩
        rw [hI.out, List.drop_of_length_le (Nat.le_of_eq hlen.out)]; rfl
  · have hfin : Hid (spaceOkB size l = false) := by show _ = _; have := hlen.out; simp [spaceOkB]; omega
    go_enter Tryz.func99, Tryz.ntmps99
    go_wp2
    all_goals go_returns
    all_goals go_light
    all_goals exact ⟨ret_bool hfin.out.symm, Below.refl _ _⟩
end Go.Proofs.YtigldeccfpkdmaaGreatDoor
namespace Go.Proofs.YtigldeccfpkdmaaGreatDoor
open Go.RowKit Go.BigFrame
theorem dataOkB_eq (d : ByteArray) : dataOkB d = (decide (1 ≤ d.size) && (plainB d && decide (d.size ≤ 20))) := by
  unfold dataOkB; cases plainB d <;> cases decide (1 ≤ d.size) <;> cases decide (d.size ≤ 20) <;> rfl
set_option maxHeartbeats 2000000 in
theorem spec_SpaceOk (size : Int) (a : Option Addr) (n cap : Nat) (l : List Ex) (w : World) (h : ExsAt w a n l) (hstr : Strs l) (hn : n ≤ 4194304) :
    Calls Tryz.prog 115 #[.int .i64 size, .slice a n cap] w fun e w' => e = .returned (.bool (spaceOkB size l)) ∧ w' = w := by
  have hlen : Hid (l.length = n) := h.len
  by_cases h0 : 1 ≤ size ∧ size ≤ 400 ∧ n ≤ 60
  · have hfin : Hid (spaceOkB size l = xgo size 1 (l.drop 0)) := by show _ = _; simp [spaceOkB, hlen.out, h0]
    obtain ⟨h1, h400, h60⟩ := h0
    have hin : (decide (1 ≤ size) && decide (size ≤ 400)) = true := by simp [h1, h400]
    go_enter Tryz.func115, Tryz.ntmps115
    go_wp2_with fail
    refine (spec_l1In _ _ _ _).mono ?_
    rintro e w1 ⟨rfl, rfl⟩
    rw [hin]
    go_wp2_with fail
    go_loop [5, 6] (fun nx ix => ∃ (k : Nat) (next : Int), k ≤ n ∧ ix = .int .i64 k ∧ nx = .int .i64 next ∧ 1 ≤ next ∧ next ≤ 421 ∧ Hid (spaceOkB size l = xgo size next (l.drop k))) (fun _ ix => n - (intOf ix).toNat)
    case atStart => exact ⟨0, 1, Nat.zero_le _, rfl, rfl, by omega, by omega, hfin⟩
    case round =>
      obtain ⟨k, next, hk, rfl, rfl, hx1, hx2, hI⟩ := hrel
      by_cases hlt : k < n
      · obtain ⟨b, o, p, rfl, hp, c0, c1⟩ := exs_at h hlt
        have hd : Hid (l.drop k = p :: l.drop (k + 1)) := drop_at hp
        have hsz := hstr.at hp
        clear hp hin
        by_cases hz : p.d.size = 0
        · have hz' : ((p.d.size : Int) == 0) = true := beq_iff_eq.2 (by omega)
          have hdo : Hid (dataOkB p.d = false) := by show _ = _; simp [dataOkB, hz]
          clear hz
          go_wp2
          go_returns
          go_light
          refine ⟨ret_bool ?_, rfl⟩
          rw [hI.out, hd.out]; simp [xgo, hdo.out]
        · have hz' : ((p.d.size : Int) == 0) = false := beq_eq_false_iff_ne.2 (by omega)
          cases hpl : (plainB p.d && decide (p.d.size ≤ 20))
          · have hdo : Hid (dataOkB p.d = false) := by show _ = _; rw [dataOkB_eq, hpl]; simp
            go_wp2_with fail
            refine (spec_l1Plain p.d _ hsz).mono ?_
            rintro e w1 ⟨rfl, rfl⟩
            rw [hpl]
            go_wp2
            go_returns
            go_light
            refine ⟨ret_bool ?_, rfl⟩
            rw [hI.out, hd.out]; simp [xgo, hdo.out]
          · have hpl2 := hpl
            simp at hpl2
            have hdo : Hid (dataOkB p.d = true) := by show _ = _; rw [dataOkB_eq, hpl]; simp; omega
            have hd2 : p.d.size ≤ 20 := hpl2.2
            have hd1 : 1 ≤ p.d.size := by omega
            clear hpl2
            cases hii : (decide (next ≤ p.a) && decide (p.a ≤ size))
            · go_wp2_with fail
              refine (spec_l1Plain p.d _ hsz).mono ?_
              rintro e w1 ⟨rfl, rfl⟩
              rw [hpl]
              go_wp2_with fail
              refine (spec_l1In _ _ _ _).mono ?_
              rintro e w1 ⟨rfl, rfl⟩
              rw [hii]
              go_wp2
              go_returns
              go_light
              refine ⟨ret_bool ?_, rfl⟩
              simp at hii
              rw [hI.out, hd.out]; simp [xgo, hdo.out]; omega
            · have hi2 := hii
              simp at hi2
              obtain ⟨ha1, ha2⟩ := hi2
              by_cases hok : p.a + p.d.size - 1 ≤ size
              · go_wp2_with fail
                refine (spec_l1Plain p.d _ hsz).mono ?_
                rintro e w1 ⟨rfl, rfl⟩
                rw [hpl]
                go_wp2_with fail
                refine (spec_l1In _ _ _ _).mono ?_
                rintro e w1 ⟨rfl, rfl⟩
                rw [hii]
                go_wp2
                go_round
                case rel => exact ⟨k + 1, p.a + p.d.size, by omega, by go_num, by go_num, by omega, by omega, by show _ = _; rw [hI.out, hd.out]; have : p.a ≤ size + 1 - p.d.size := by omega
                                                                                                                 simp [xgo, hdo.out, ha1, this]⟩
                case measure => simp [intOf]; omega
              · go_wp2_with fail
                refine (spec_l1Plain p.d _ hsz).mono ?_
                rintro e w1 ⟨rfl, rfl⟩
                rw [hpl]
                go_wp2_with fail
                refine (spec_l1In _ _ _ _).mono ?_
                rintro e w1 ⟨rfl, rfl⟩
                rw [hii]
                go_wp2
                go_returns
                go_light
                refine ⟨ret_bool ?_, rfl⟩
                rw [hI.out, hd.out]; simp [xgo, hdo.out]; omega
      · obtain rfl : k = n := by omega
        go_wp2
        go_returns
        go_light
        refine ⟨ret_bool ?_, rfl⟩
        rw [hI.out, List.drop_of_length_le (Nat.le_of_eq hlen.out)]; rfl
  · have hfin : Hid (spaceOkB size l = false) := by show _ = _; have := hlen.out; simp [spaceOkB]; omega
    cases hin : (decide (1 ≤ size) && decide (size ≤ 400))
    all_goals
      go_enter Tryz.func115, Tryz.ntmps115
      go_wp2_with fail
      refine (spec_l1In _ _ _ _).mono ?_
      rintro e w1 ⟨rfl, rfl⟩
      rw [hin]
      simp at hin
      go_wp2
      all_goals go_returns
      all_goals go_light
      all_goals exact ⟨ret_bool hfin.out.symm, rfl⟩
def eqExB (p q : Ex) : Bool := p.a == q.a && p.d.toList == q.d.toList
theorem laws_eqExtent (p q : Ex) (w : World) :
    Calls Tryz.prog 106 #[.agg #[.int .i64 p.a, .string p.d], .agg #[.int .i64 q.a, .string q.d]] w fun e w' => e = .returned (.bool (eqExB p q)) ∧ Below w.heap.size w w' := by
  obtain ⟨a, f⟩ := p
  obtain ⟨b, g⟩ := q
  go_enter Tryz.func106, Tryz.ntmps106
  go_wp2
  all_goals go_returns
  all_goals go_light
  all_goals refine ⟨?_, by go_grown⟩
  all_goals simp_all [eqExB]
end Go.Proofs.YtigldeccfpkdmaaGreatDoor
namespace Go.Proofs.YtigldeccfpkdmaaGreatDoor
open Go.RowKit Go.BigFrame
/-- A list of extents that is within the budget. -/
def Small (n : Nat) (l : List Ex) : Prop := n ≤ 1048576 ∧ ∀ e ∈ l, e.d.size ≤ 1048576
def eqExs : List Ex → List Ex → Bool
  | [], [] => true
  | p :: r, q :: s => eqExB p q && eqExs r s
  | _, _ => false
theorem eqExs_refl (l : List Ex) : eqExs l l = true := by
  induction l with
  | nil => rfl
  | cons p r ih => simp [eqExs, eqExB, ih]
theorem eqExs_len {l : List Ex} : ∀ {m : List Ex}, l.length ≠ m.length → eqExs l m = false := by
  induction l with
  | nil => intro m h; cases m <;> simp [eqExs] at *
  | cons p r ih => intro m h; cases m <;> simp [eqExs] at *; exact fun _ => ih h
set_option maxHeartbeats 1000000 in
theorem laws_eqExtentS (a : Option Addr) (n cap : Nat) (l : List Ex) (a' : Option Addr) (n' cap' : Nat) (m : List Ex) (w : World) (h : ExsAt w a n l) (h' : ExsAt w a' n' m) (hn : n ≤ 4194304) (hn' : n' ≤ 4194304) :
    Calls Tryz.prog 42 #[.slice a n cap, .slice a' n' cap'] w fun e w' => e = .returned (.bool (eqExs l m)) ∧ Below w.heap.size w w' := by
  have hlen : Hid (l.length = n) := h.len
  have hlen' : Hid (m.length = n') := h'.len
  by_cases hne : n = n'
  · subst hne
    have hbn : ((n : Int) != (n : Int)) = false := by simp
    go_enter Tryz.func42, Tryz.ntmps42
    go_wp2_with fail
    go_loopw [5] (fun ix wr => ∃ (k : Nat), k ≤ n ∧ ix = .int .i64 k ∧ Hid (eqExs l m = eqExs (l.drop k) (m.drop k)) ∧ Below w.heap.size w wr) (fun ix _ => n - (intOf ix).toNat)
    case atStart => exact ⟨0, Nat.zero_le _, rfl, rfl, Below.refl _ _⟩
    case round =>
      obtain ⟨k, hk, rfl, hI, hB⟩ := hrel
      by_cases hlt : k < n
      · obtain ⟨b, o, p, rfl, hp, c0, c1⟩ := exs_at (h.below hB) hlt
        obtain ⟨b', o', q, rfl, hq, d0, d1⟩ := exs_at (h'.below hB) hlt
        have hd : Hid (l.drop k = p :: l.drop (k + 1)) := drop_at hp
        have hd' : Hid (m.drop k = q :: m.drop (k + 1)) := drop_at hq
        clear hp hq
        have hk1 : (k : Int) < n := by omega
        have hk2 : (0 : Int) ≤ k := by omega
        cases hpq : eqExB p q
        all_goals
          go_wp2_with fail
          have g0 := gcell c0
          have g1 := gcell c1
          have g3 := gcell d0
          have g4 := gcell d1
          have hne := grw_ne wr
          refine wp_region_grow (by kernel_rfl) (by kernel_rfl) ?_
          repeat (go_big_quiet_step (first | (go_at_call 106; have qq := laws_eqExtent p q; rw [hpq] at qq; exact grow_of (qq _))))
          refine wpQuiet_nil ?_
          intro w2 hx
          have hB2 := grw_out hx
          clear hx
          go_wp2
        · go_returns
          go_light
          refine ⟨ret_bool ?_, chain hB hB2⟩
          rw [hI.out, hd.out, hd'.out]; simp only [eqExs, hpq, Bool.false_and]
        · go_roundw
          case rel => exact ⟨k + 1, by omega, by go_num, by show _ = _; rw [hI.out, hd.out, hd'.out]; simp only [eqExs, hpq, Bool.true_and], chain hB hB2⟩
          case measure => simp [intOf]; omega
      · obtain rfl : k = n := by omega
        go_wp2
        go_returns
        go_light
        refine ⟨ret_bool ?_, hB⟩
        rw [hI.out, List.drop_of_length_le (Nat.le_of_eq hlen.out), List.drop_of_length_le (Nat.le_of_eq hlen'.out)]; rfl
  · have hbn : ((n : Int) != (n' : Int)) = true := by simp; omega
    go_enter Tryz.func42, Tryz.ntmps42
    go_wp2
    go_returns
    go_light
    refine ⟨ret_bool ?_, Below.refl _ _⟩
    rw [eqExs_len (by rw [hlen.out, hlen'.out]; exact hne)]
end Go.Proofs.YtigldeccfpkdmaaGreatDoor
namespace Go.Proofs.YtigldeccfpkdmaaGreatDoor
open Go.RowKit Go.BigFrame
/-- The index of the first extent at that address, the list beginning at k; -1 where there is none. -/
def atG (addr : Int) : Nat → List Ex → Int
  | _, [] => -1
  | k, e :: r => if e.a == addr then (k : Int) else atG addr (k + 1) r
set_option maxHeartbeats 400000 in
theorem spec_l1At (a : Option Addr) (n cap : Nat) (l : List Ex) (addr : Int) (w : World) (h : ExsAt w a n l) (hn : n ≤ 4194304) :
    Calls Tryz.prog 121 #[.slice a n cap, .int .i64 addr] w fun e w' => e = .returned (.int .i64 (atG addr 0 l)) ∧ w' = w := by
  have hlen : Hid (l.length = n) := h.len
  go_enter Tryz.func121, Tryz.ntmps121
  go_wp2_with fail
  go_loop [5] (fun ix => ∃ (k : Nat), k ≤ n ∧ ix = .int .i64 k ∧ Hid (atG addr 0 l = atG addr k (l.drop k))) (fun ix => n - (intOf ix).toNat)
  case atStart => exact ⟨0, Nat.zero_le _, rfl, rfl⟩
  case round =>
    obtain ⟨k, hk, rfl, hI⟩ := hrel
    by_cases hlt : k < n
    · obtain ⟨b, o, p, rfl, hp, c0, c1⟩ := exs_at h hlt
      have hd : Hid (l.drop k = p :: l.drop (k + 1)) := drop_at hp
      clear hp
      cases he : (p.a == addr)
      · go_wp2
        go_round
        case rel => exact ⟨k + 1, by omega, by go_num, by show _ = _; rw [hI.out, hd.out]; simp only [atG, he, Bool.false_eq_true, if_false]⟩
        case measure => simp [intOf]; omega
      · go_wp2
        go_returns
        go_light
        refine ⟨ret_int ?_, rfl⟩
        rw [hI.out, hd.out]; simp only [atG, he, if_true]
    · obtain rfl : k = n := by omega
      go_wp2
      go_returns
      go_light
      refine ⟨ret_int ?_, rfl⟩
      rw [hI.out, List.drop_of_length_le (Nat.le_of_eq hlen.out)]; rfl
end Go.Proofs.YtigldeccfpkdmaaGreatDoor
namespace Go.Proofs.YtigldeccfpkdmaaGreatDoor
open Go.RowKit Go.BigFrame
/-- The data of the first extent at an address, or none. -/
def dataAtB (addr : Int) : List Ex → ByteArray
  | [] => ⟨#[]⟩
  | e :: r => if e.a == addr then e.d else dataAtB addr r
/-- The bytes of a part. -/
def pieceO (e : List Ex) (p : Pt) : Option ByteArray :=
  if p.a == 0 then some (zs p.n.toNat) else if ((dataAtB p.a e).size : Int) < p.f + p.n then none else some ((dataAtB p.a e).extract p.f.toNat (p.f + p.n).toNat)
def cgo (e : List Ex) : ByteArray → List Pt → Option ByteArray
  | acc, [] => some acc
  | acc, p :: r => match pieceO e p with
    | none => none
    | some d => cgo e (acc ++ d) r
def contentO (l : List Pt) (e : List Ex) : Option ByteArray := if partsOkB l = true ∧ spaceOkB 400 e = true then cgo e ⟨#[]⟩ l else none
theorem pgo_each : ∀ {l : List Pt} {q : Option Pt} {left : Int}, pgo q left l = true → left ≤ 100 → ∀ p ∈ l, partOkB p = true ∧ p.n ≤ 100
  | [], _, _, _, _ => by simp
  | p :: r, q, left, h, hl => by
    have h2 : partOkB p = true ∧ p.n ≤ left ∧ pgo (some p) (left - p.n) r = true := by
      cases q
      · simp only [pgo, Bool.and_eq_true, decide_eq_true_eq] at h; exact ⟨h.1.1, h.1.2, h.2⟩
      · simp only [pgo, Bool.and_eq_true, decide_eq_true_eq] at h; exact ⟨h.1.1.1, h.1.1.2, h.2⟩
    intro x hx
    rcases List.mem_cons.1 hx with rfl | hx
    · exact ⟨h2.1, by omega⟩
    · exact pgo_each h2.2.2 (by have := partOkB_pos h2.1; omega) x hx
theorem parts_all {l : List Pt} (h : partsOkB l = true) : l.length ≤ 16 ∧ ∀ p ∈ l, 1 ≤ p.n ∧ p.n ≤ 100 ∧ (p.a ≠ 0 → 0 ≤ p.f ∧ p.f < 20) := by
  simp only [partsOkB, Bool.and_eq_true, decide_eq_true_eq] at h
  refine ⟨h.1, fun p hp => ?_⟩
  obtain ⟨h1, h2⟩ := pgo_each h.2 (by omega) p hp
  refine ⟨partOkB_pos h1, h2, fun ha => ?_⟩
  have hb : (p.a == 0) = false := by simpa using ha
  simp only [partOkB, hb, Bool.false_eq_true, if_false, Bool.and_eq_true, decide_eq_true_eq] at h1
  omega
theorem dataAtB_str {addr : Int} : ∀ {e : List Ex}, Strs e → (dataAtB addr e).size ≤ 9223372036854775807
  | [], _ => by simp [dataAtB, ByteArray.size]
  | x :: r, h => by
    unfold dataAtB
    split
    · exact h x (by simp)
    · exact dataAtB_str (fun y hy => h y (by simp [hy]))
set_option maxHeartbeats 400000 in
theorem impl_dataAt (a : Option Addr) (n cap : Nat) (l : List Ex) (addr : Int) (w : World) (h : ExsAt w a n l) (hn : n ≤ 4194304) :
    Calls Tryz.prog 235 #[.slice a n cap, .int .i64 addr] w fun e w' => e = .returned (.string (dataAtB addr l)) ∧ Below w.heap.size w w' := by
  have hlen : Hid (l.length = n) := h.len
  have hfin : Hid (dataAtB addr l = dataAtB addr (l.drop 0)) := rfl
  generalize dataAtB addr l = R at *
  go_enter Tryz.func235, Tryz.ntmps235
  go_wp2_with fail
  go_loopw [9] (fun ix wr => ∃ (k : Nat), k ≤ n ∧ ix = .int .i64 k ∧ Hid (R = dataAtB addr (l.drop k)) ∧ Below w.heap.size w wr) (fun ix _ => n - (intOf ix).toNat)
  case atStart => exact ⟨0, Nat.zero_le _, rfl, hfin, Below.refl _ _⟩
  case round =>
    obtain ⟨k, hk, rfl, hI, hB⟩ := hrel
    have hsz := hB.size
    by_cases hlt : k < n
    · obtain ⟨b, o, p, rfl, hp, c0, c1⟩ := exs_at (h.below hB) hlt
      have hd : Hid (l.drop k = p :: l.drop (k + 1)) := drop_at hp
      cases he : (p.a == addr)
      · go_wp2
        go_roundw
        case rel => exact ⟨k + 1, by omega, by go_num, by show _ = _; rw [hI.out, hd.out]; simp [dataAtB, he], by go_grown⟩
        case measure => simp [intOf]; omega
      · go_wp2
        go_returns
        go_light
        refine ⟨?_, by go_grown⟩
        rw [hI.out, hd.out]; simp [dataAtB, he]
    · obtain rfl : k = n := by omega
      go_wp2
      go_returns
      go_light
      refine ⟨?_, hB⟩
      rw [hI.out, List.drop_of_length_le (by rw [hlen.out]; exact Nat.le_refl _)]; rfl
end Go.Proofs.YtigldeccfpkdmaaGreatDoor
