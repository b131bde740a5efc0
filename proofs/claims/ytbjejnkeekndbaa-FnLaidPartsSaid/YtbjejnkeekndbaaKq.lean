/- Bytes: zeros appended to a row of the call's own, rows of bytes as texts. Content as a plain function; dataAt of the program. Content of the program. Content of the model. -/
import Derived.Lib.AppendStr
import Derived.Lib.AppendZerosOnto
import Derived.Laws.BytesArg
import Derived.Test.YtbjejnkeekndbaaKa
import Derived.Test.YtbjejnkeekndbaaProg
import Derived.Test.YtbjejnkeekndbaaKc
import Derived.Test.YtbjejnkeekndbaaKb
import Derived.Laws.Strings2
namespace Go.Proofs.Ytbjejnkeekndbaa
open Go.RowKit Go.Lib

/-- So many zeros. -/
def zs (k : Nat) : ByteArray := ⟨(List.replicate k (0 : UInt8)).toArray⟩
theorem zs_size (k : Nat) : (zs k).size = k := by simp [zs, ByteArray.size]
theorem zs_cells (k : Nat) : (strCells (zs k)).toArray = Builtin.zeroCells #[Value.int .u8 0] k := by
  apply Array.ext'
  apply List.ext_getElem?
  intro j
  by_cases h : j < k
  · simp [strCells, zs, Builtin.zeroCells, h]
    rw [Nat.mod_one]; rfl
  · simp [strCells, zs, Builtin.zeroCells, h]

/-- append(s, make([]byte, k)...) does what append of k zero bytes as a text does. -/
theorem append_zeros {P : Program} (w : World) (t tn u ty e : TypeId) (i : TypeInfo) (kn kq : IntKind) (ht : P.underlying t = some (.slice e)) (htn : P.underlying tn = some (.int kn)) (hu : P.underlying u = some .string) (hi : P.info? e = some i) (hz : i.zero = some (.int .u8 0)) (hsize : i.size = 1) (hby : i.bytes = 1)
    (base : Option Addr) (sLen sCap k : Nat) (hk : 0 < k) (hb : sLen + k ≤ 140737488355328) :
    (Builtin.append_ #[t, tn] ty #[.slice base sLen sCap, .int kq k]).run P w = (Builtin.append_ #[t, u] ty #[.slice base sLen sCap, .string (zs k)]).run P w := by
  have hw : IntKind.i64.wrap (k : Int) = k := by rw [IntKind.wrap_i64]; omega
  have hk0 : k ≠ 0 := by omega
  have hneg : ¬ ((k : Int) < 0) := by omega
  have h48i : ¬ (281474976710656 < (k : Int)) := by omega
  have h63' : ¬ (9223372036854775807 < ((sLen : Int) + (k : Int))) := by omega
  have hf := fun W => run_firstCells_string (P := P) W 1 (zs k)
  rw [zs_size, zs_cells] at hf
  by_cases hn : sLen + k ≤ sCap
  · simp [Builtin.append_, run_underlying ht, run_underlying htn, run_underlying hu, sizeOf, typeInfo, zeroValue, hi, hz, hsize, hby, asInt, asIntOf, hw, Builtin.lenOf, zs_size, hn, hneg, hk0, h48i, hf, Value.cells]
  · simp [Builtin.append_, run_underlying ht, run_underlying htn, run_underlying hu, sizeOf, typeInfo, zeroValue, hi, hz, hsize, hby, asInt, asIntOf, hw, Builtin.lenOf, zs_size, hn, hneg, hk0, h48i, h63', hf, Value.cells]
    have h48' : Builtin.nextslicecap (sLen + k) sCap * 1 ≤ 281474976710656 := growslice_fits (by omega) (by omega)
    have hno : ¬ (281474976710656 < Builtin.nextslicecap (sLen + k) sCap) := by omega
    rw [if_neg hno, if_neg hno]

/-- append(s, make([]byte, k)...) to a row of the call's own, for the walk. -/
theorem wpList_append_zeros {P : Program} (w : World) {ops : Array Oper} {rest : List Oper} {o : Oper} {a : Act} {Q : Exit → Act → World → Prop} (hgd : o.guard = none) (sl x : Operand) (t tn u : TypeId)
    (ho : o.op = .call { callee := .builtin .append, args := #[sl, x], argTypes := #[t, tn] })
    (base : Nat) (e : TypeId) (i : TypeInfo) (kn : IntKind) (ht : P.underlying t = some (.slice e)) (htn : P.underlying tn = some (.int kn)) (hu : P.underlying u = some .string) (hi : P.info? e = some i) (hz : i.zero = some (.int .u8 0))
    (hsize : i.size = 1) (hby : i.bytes = 1)
    (v : Value) (n : Nat) (xs : List Value) (hs : a.eval sl = v) (hown : w.ownsRow base e 1 v n xs) (kq : IntKind) (k : Nat) (hx : a.eval x = .int kq k) (hk : 0 < k)
    (hbytes : n + k ≤ 140737488355328) (hbase : base ≤ w.heap.size)
    (h : ∀ v' w', w'.ownsRow base e 1 v' (n + k) (xs ++ strCells (zs k)) → w.grownBy w' v.ownBlock → wpList P ops Q rest (a.put o.dst v') w') : wpList P ops Q (o :: rest) a w := by
  refine wpList_plain hgd fun K hK => ?_
  obtain ⟨v', w', hr, h2, h3, _⟩ := run_append_own_string (P := P) w base t u o.type e i ht hu hi hz hsize hby v n xs hown (zs k) (by rw [zs_size]; unfold maxLen; omega) (by rw [zs_size]; omega) hbase
  rw [zs_size] at h2
  obtain ⟨b0, l0, c0, rfl⟩ : ∃ b0 l0 c0, v = .slice b0 l0 c0 := by
    rcases hown.2 with ⟨rfl, _⟩ | ⟨g, cap, cur, rfl, _⟩
    · exact ⟨_, _, _, rfl⟩
    · exact ⟨_, _, _, rfl⟩
  have hl0 : l0 + k ≤ 140737488355328 := by
    rcases hown.2 with ⟨e1, _⟩ | ⟨g, cap, cur, e1, _⟩
    · simp at e1; omega
    · simp at e1; omega
  rw [← append_zeros w t tn u o.type e i kn kq ht htn hu hi hz hsize hby b0 l0 c0 k hk hl0] at hr
  unfold Oper.wp execOp
  simp only [ho, resolve, invoke, builtin, Sem.run_bind, Sem.run_pure, Result.andThen_ok, List.map_toArray, List.map_cons, List.map_nil, hs, hx, hr]
  exact hK _ _ (h v' w' h2 h3)

/-- A row of the call's own that holds a text's bytes, as a text. -/
theorem row_text {P : Program} {w : World} {B e : Nat} {v : Value} {n : Nat} {s : ByteArray} (h : w.ownsRow B e 1 v n (strCells s)) (src : TypeId) (hs : P.underlying src = some (.slice e)) (he : P.underlying e = some (.int .u8)) :
    ∀ dst, P.underlying dst = some .string → (convert src dst v).run P w = .ok (.string s) w := by
  intro dst hd
  have hn : n = s.size := by have := h.1; rw [strCells_length] at this; omega
  rcases h.2 with ⟨rfl, h0⟩ | ⟨g, cap, cur, rfl, _, hg, hnc, _, hcs, htk⟩
  · rw [run_convert_bytes_nil w src e hs he 0 0 dst hd]
    have : s.size = 0 := by omega
    obtain ⟨⟨l⟩⟩ := s
    simp [ByteArray.size] at this
    subst this
    rfl
  · have := run_convert_bytes_arg (P := P) w src e hs he g 0 n cap (s.data.toList.map fun b => (b.toNat : Int)) (by rw [List.length_map, Array.length_toList, hn]; rfl) (fun i hi => by
      have h1 : (strCells s)[i]? = some (.int .u8 ((s.data.toList.map fun b => (b.toNat : Int)).getD i 0)) := by
        have hi' : i < s.data.size := by rw [hn] at hi; exact hi
        simp [strCells]
        exact ⟨s.data[i], Array.getElem?_eq_getElem hi', by rw [Array.getElem?_eq_getElem hi']; rfl⟩
      rw [← htk, Nat.mul_one, List.getElem?_take_of_lt hi] at h1
      simp only [World.cell?, hg, Nat.zero_add]
      rw [← h1]; simp) dst hd
    rw [this]
    congr 2
    obtain ⟨⟨l⟩⟩ := s
    simp [strOfNums]
    rw [show ((fun n : Int => UInt8.ofNat n.toNat) ∘ fun b : UInt8 => (b.toNat : Int)) = id from funext fun b => by simp]
    simp
end Go.Proofs.Ytbjejnkeekndbaa
namespace Go.Proofs.Ytbjejnkeekndbaa
open Go.RowKit Go.BigFrame

/-- The data of the first extent at an address, or none. -/
def dataAtB (addr : Int) : List Ex → ByteArray
  | [] => ⟨#[]⟩
  | e :: r => if e.a == addr then e.d else dataAtB addr r
/-- The bytes of a part. -/
def pieceO (e : List Ex) (p : Pt) : Option ByteArray :=
  if p.a == 0 then some (zs p.n.toNat) else if ((dataAtB p.a e).size : Int) < p.f + p.n then none else some ((dataAtB p.a e).extract p.f.toNat (p.f + p.n).toNat)
def cgo (e : List Ex) : ByteArray → List Pt → Option ByteArray
  | acc, [] => some acc
  | acc, p :: r => match pieceO e p with
    | none => none
    | some d => cgo e (acc ++ d) r
def contentO (l : List Pt) (e : List Ex) : Option ByteArray := if partsOkB l = true ∧ spaceOkB 400 e = true then cgo e ⟨#[]⟩ l else none

theorem pgo_each : ∀ {l : List Pt} {q : Option Pt} {left : Int}, pgo q left l = true → left ≤ 100 → ∀ p ∈ l, partOkB p = true ∧ p.n ≤ 100
  | [], _, _, _, _ => by simp
  | p :: r, q, left, h, hl => by
    have h2 : partOkB p = true ∧ p.n ≤ left ∧ pgo (some p) (left - p.n) r = true := by
      cases q
      · simp only [pgo, Bool.and_eq_true, decide_eq_true_eq] at h; exact ⟨h.1.1, h.1.2, h.2⟩
      · simp only [pgo, Bool.and_eq_true, decide_eq_true_eq] at h; exact ⟨h.1.1.1, h.1.1.2, h.2⟩
    intro x hx
    rcases List.mem_cons.1 hx with rfl | hx
    · exact ⟨h2.1, by omega⟩
    · exact pgo_each h2.2.2 (by have := partOkB_pos h2.1; omega) x hx
theorem parts_all {l : List Pt} (h : partsOkB l = true) : l.length ≤ 16 ∧ ∀ p ∈ l, 1 ≤ p.n ∧ p.n ≤ 100 ∧ (p.a ≠ 0 → 0 ≤ p.f ∧ p.f < 20) := by
  simp only [partsOkB, Bool.and_eq_true, decide_eq_true_eq] at h
  refine ⟨h.1, fun p hp => ?_⟩
  obtain ⟨h1, h2⟩ := pgo_each h.2 (by omega) p hp
  refine ⟨partOkB_pos h1, h2, fun ha => ?_⟩
  have hb : (p.a == 0) = false := by simpa using ha
  simp only [partOkB, hb, Bool.false_eq_true, if_false, Bool.and_eq_true, decide_eq_true_eq] at h1
  omega

theorem pieceO_size {e : List Ex} {p : Pt} {d : ByteArray} (hn : 1 ≤ p.n) (hf : p.a ≠ 0 → 0 ≤ p.f) (h : pieceO e p = some d) : (d.size : Int) = p.n := by
  unfold pieceO at h
  split at h
  · simp at h; subst h; rw [zs_size]; omega
  · rename_i ha
    have := hf (by simpa using ha)
    split at h
    · cases h
    · simp at h; subst h
      rw [ByteArray.size_extract]
      omega

theorem dataAtB_str {addr : Int} : ∀ {e : List Ex}, Strs e → (dataAtB addr e).size ≤ 9223372036854775807
  | [], _ => by simp [dataAtB, ByteArray.size]
  | x :: r, h => by
    unfold dataAtB
    split
    · exact h x (by simp)
    · exact dataAtB_str (fun y hy => h y (by simp [hy]))

set_option maxHeartbeats 400000 in
theorem impl_dataAt (a : Option Addr) (n cap : Nat) (l : List Ex) (addr : Int) (w : World) (h : ExsAt w a n l) (hn : n ≤ 4194304) :
    Calls Try.prog 100 #[.slice a n cap, .int .i64 addr] w fun e w' => e = .returned (.string (dataAtB addr l)) ∧ Below w.heap.size w w' := by
  have hlen : Hid (l.length = n) := h.len
  have hfin : Hid (dataAtB addr l = dataAtB addr (l.drop 0)) := rfl
  generalize dataAtB addr l = R at *
  go_enter Try.func100, Try.ntmps100
  go_wp2_with fail
  go_loopw [9] (fun ix wr => ∃ (k : Nat), k ≤ n ∧ ix = .int .i64 k ∧ Hid (R = dataAtB addr (l.drop k)) ∧ Below w.heap.size w wr) (fun ix _ => n - (intOf ix).toNat)
  case atStart => exact ⟨0, Nat.zero_le _, rfl, hfin, Below.refl _ _⟩
  case round =>
    obtain ⟨k, hk, rfl, hI, hB⟩ := hrel
    have hsz := hB.size
    by_cases hlt : k < n
    · obtain ⟨b, o, p, rfl, hp, c0, c1⟩ := exs_at (h.below hB) hlt
      have hd : Hid (l.drop k = p :: l.drop (k + 1)) := drop_at hp
      cases he : (p.a == addr)
      · go_wp2
        go_roundw
        case rel => exact ⟨k + 1, by omega, by go_num, by show _ = _; rw [hI.out, hd.out]; simp [dataAtB, he], by go_grown⟩
        case measure => simp [intOf]; omega
      · go_wp2
        go_returns
        go_light
        refine ⟨?_, by go_grown⟩
        rw [hI.out, hd.out]; simp [dataAtB, he]
    · obtain rfl : k = n := by omega
      go_wp2
      go_returns
      go_light
      refine ⟨?_, hB⟩
      rw [hI.out, List.drop_of_length_le (by rw [hlen.out]; exact Nat.le_refl _)]; rfl
end Go.Proofs.Ytbjejnkeekndbaa
namespace Go.Proofs.Ytbjejnkeekndbaa
open Go.RowKit Go.BigFrame Go.Lib

def RetStr (e : Ending) : Option ByteArray → Prop
  | none => e = .returned (.tuple #[.string ⟨#[]⟩, .bool false])
  | some s => e = .returned (.tuple #[.string s, .bool true])

theorem strCells_append (x y : ByteArray) : strCells x ++ strCells y = strCells (x ++ y) := by
  simp [strCells]
theorem info5 : (Try.prog.info? 5).map (fun i => (i.zero, i.size, i.bytes)) = some (some (.int .u8 0), 1, 1) := by kernel_rfl

theorem row_block {w : World} {B e n : Nat} {v : Value} {xs : List Value} (h : w.ownsRow B e 1 v n xs) : ∀ k, v.ownBlock = some k → B ≤ k := by
  rcases h.2 with ⟨rfl, _⟩ | ⟨g, cap, cur, rfl, hB, _⟩
  · intro k hk; cases hk
  · intro k hk; simp [Value.ownBlock] at hk; omega
theorem row_below {w w' : World} {B e n : Nat} {v : Value} {xs : List Value} (h : w.ownsRow B e 1 v n xs) (hb : Below w.heap.size w w') : w'.ownsRow B e 1 v n xs := by
  refine ⟨h.1, ?_⟩
  rcases h.2 with h0 | ⟨g, cap, cur, h1, h2, h3, h4⟩
  · exact .inl h0
  · exact .inr ⟨g, cap, cur, h1, h2, by rw [hb.block g (Array.getElem?_eq_some_iff.1 h3).1]; exact h3, h4⟩

theorem row_slice {w : World} {B e n : Nat} {v : Value} {xs : List Value} (h : w.ownsRow B e 1 v n xs) : ∃ a cap, v = .slice a n cap := by
  rcases h.2 with ⟨rfl, rfl⟩ | ⟨g, cap, cur, rfl, _⟩
  · exact ⟨none, 0, rfl⟩
  · exact ⟨_, _, rfl⟩

set_option maxHeartbeats 2000000 in
set_option maxRecDepth 100000 in
theorem impl_Content (a : Option Addr) (n cap : Nat) (l : List Pt) (a' : Option Addr) (n' cap' : Nat) (e : List Ex) (w : World) (h : PtsAt w a n l) (h' : ExsAt w a' n' e) (hstr : Strs e) (hn : n ≤ 4194304) (hn' : n' ≤ 4194304) :
    Calls Try.prog 39 #[.slice a n cap, .slice a' n' cap'] w fun x w' => RetStr x (contentO l e) ∧ Below w.heap.size w w' := by
  have hlen : Hid (l.length = n) := h.len
  cases hok : partsOkB l
  · have hf : contentO l e = none := by simp [contentO, hok]
    rw [hf]
    go_enter Try.func39, Try.ntmps39
    go_wp2_with fail
    refine (impl_PartsOk a n cap l _ h hn).mono ?_
    rintro x w1 ⟨rfl, hB1⟩
    rw [hok]
    go_wp2
    go_returns
    exact ⟨rfl, hB1⟩
  · cases hok' : spaceOkB 400 e
    · have hf : contentO l e = none := by simp [contentO, hok']
      rw [hf]
      go_enter Try.func39, Try.ntmps39
      go_wp2_with fail
      refine (impl_PartsOk a n cap l _ h hn).mono ?_
      rintro x w1 ⟨rfl, hB1⟩
      rw [hok]
      go_wp2_with fail
      refine (impl_SpaceOk 400 a' n' cap' e _ (h'.below hB1) hstr hn').mono ?_
      rintro x w2 ⟨rfl, hB2⟩
      rw [hok']
      have hB3 := chain hB1 hB2
      go_wp2
      go_returns
      exact ⟨rfl, hB3⟩
    · have hf : Hid (contentO l e = cgo e ⟨#[]⟩ (l.drop 0)) := by show _ = _; simp [contentO, hok, hok']
      obtain ⟨hl16, hall⟩ := parts_all hok
      have hn16 : n ≤ 16 := by rw [← hlen.out]; exact hl16
      obtain ⟨i0, hi, hz0, hz1, hz2⟩ := info_parts info5
      generalize contentO l e = R at *
      go_enter Try.func39, Try.ntmps39
      go_wp2_with fail
      refine (impl_PartsOk a n cap l _ h hn).mono ?_
      rintro x w1 ⟨rfl, hB1⟩
      rw [hok]
      go_wp2_with fail
      refine (impl_SpaceOk 400 a' n' cap' e _ (h'.below hB1) hstr hn').mono ?_
      rintro x w2 ⟨rfl, hB2⟩
      rw [hok']
      replace hB2 := chain hB1 hB2
      go_wp2_with fail
      go_loopw [6, 20] (fun out ix wr => ∃ (k m : Nat) (s : ByteArray) (a2 : Option Addr) (cap2 : Nat), k ≤ n ∧ ix = .int .i64 k ∧ m ≤ 100 * k ∧ out = .slice a2 m cap2 ∧ wr.ownsRow w.heap.size 5 1 (.slice a2 m cap2) m (strCells s) ∧ Hid (R = cgo e s (l.drop k)) ∧ Below w.heap.size w wr) (fun _ ix _ => n - (intOf ix).toNat)
      case atStart => exact ⟨0, 0, ⟨#[]⟩, none, 0, Nat.zero_le _, rfl, Nat.zero_le _, rfl, World.ownsRow_nil _ _ _ _, hf, hB2⟩
      case round =>
        obtain ⟨k, m, s, a2, cap2, hk, rfl, hm, rfl, hrow, hI, hB⟩ := hrel
        have hsz := hB.size
        by_cases hlt : k < n
        · obtain ⟨b, o, p, rfl, hp, c0, c1, c2⟩ := pts_at (h.below hB) hlt
          have hd : Hid (l.drop k = p :: l.drop (k + 1)) := drop_at hp
          obtain ⟨hp1, hp2, hp3⟩ := hall p (List.mem_of_getElem? hp)
          obtain ⟨pa, pf, pn⟩ := p
          dsimp only at *
          obtain ⟨pk, rfl⟩ : ∃ pk : Nat, pn = pk := ⟨pn.toNat, by omega⟩
          cases ha : (pa == 0)
          · have hne : pa ≠ 0 := by simpa using ha
            obtain ⟨f0, f20⟩ := hp3 hne
            obtain ⟨fk, rfl⟩ : ∃ fk : Nat, pf = fk := ⟨pf.toNat, by omega⟩
            have hst : Hid (R = match pieceO e ⟨pa, fk, pk⟩ with | none => none | some d => cgo e (s ++ d) (l.drop (k + 1))) := by show _ = _; rw [hI.out, hd.out]; rfl
            have hpc : Hid (pieceO e ⟨pa, fk, pk⟩ = if ((dataAtB pa e).size : Int) < fk + pk then none else some ((dataAtB pa e).extract fk (fk + pk))) := by
              show _ = _
              simp only [pieceO, ha, Bool.false_eq_true, if_false, Int.toNat_natCast]
              rw [show ((fk : Int) + (pk : Int)).toNat = fk + pk by omega]
            have hD := dataAtB_str (addr := pa) hstr
            go_wp2_with fail
            refine (impl_dataAt a' n' cap' e pa _ ((h'.below hB).alloc _) hn').mono ?_
            rintro x w3 ⟨rfl, hB3⟩
            generalize dataAtB pa e = D at *
            obtain ⟨z0, z1, z2, hB3', _⟩ := box3 hB3
            clear hB3 c0 c1 c2
            have hrow3 := row_below hrow hB3'
            have hB4 := chain hB hB3'
            clear hrow
            by_cases hlt2 : (D.size : Int) < fk + pk
            · rw [if_pos hlt2] at hpc
              go_wp2
              go_returns
              rw [hst.out, hpc.out]
              exact ⟨rfl, hB4⟩
            · rw [if_neg hlt2] at hpc
              have hle : (fk : Int) + (pk : Int) ≤ D.size := by omega
              have hsl := run_slice_string (P := Try.prog) (w := w3) 9 D .i64 .i64 fk (fk + pk) Try.underlying9 (by omega) (by omega) (by omega)
              rw [show ((fk : Int) + (pk : Int)).toNat = fk + pk by omega, Int.toNat_natCast] at hsl
              have hxs : (D.extract fk (fk + pk)).size = pk := by rw [ByteArray.size_extract]; omega
              generalize D.extract fk (fk + pk) = X at *
              go_wp2_with (at_builtin; refine wpList_append_own_string _ rfl _ _ 22 9 rfl w.heap.size 5 i0 Try.underlying22 Try.underlying9 hi hz0 hz1 hz2 _ m (strCells s) rfl hrow3 X rfl (by unfold maxLen; omega) (by omega) hB4.size ?_; intro v5 w5 hrow5 hg5 _)
              obtain ⟨a3, cap3, rfl⟩ := row_slice hrow5
              rw [strCells_append] at hrow5
              have hB5 : Below w.heap.size w w5 := hB4.grown hg5 hB4.size (row_block hrow3)
              go_roundw
              case rel => exact ⟨k + 1, m + X.size, s ++ X, a3, cap3, by omega, by go_num, by omega, rfl, hrow5, by show _ = _; rw [hst.out, hpc.out], hB5⟩
              case measure => simp [intOf]; omega
          · have hst : Hid (R = cgo e (s ++ zs pk) (l.drop (k + 1))) := by
              show _ = _
              rw [hI.out, hd.out]
              simp [cgo, pieceO, ha]
            have hrow2 : ∀ x, (wr.alloc x).ownsRow w.heap.size 5 1 (.slice a2 m cap2) m (strCells s) := fun x => row_below hrow ((Below.refl _ _).alloc (Nat.le_refl _) _)
            go_wp2_with (at_builtin; refine wpList_append_zeros _ rfl _ _ 22 2 9 rfl w.heap.size 5 i0 .i64 Try.underlying22 Try.underlying2 Try.underlying9 hi hz0 hz1 hz2 _ m (strCells s) rfl (hrow2 _) .i64 pk rfl (by omega) (by omega) (by simp; omega) ?_; intro v3 w3 hrow3 hg3)
            obtain ⟨a3, cap3, rfl⟩ := row_slice hrow3
            rw [strCells_append] at hrow3
            have hB3 : Below w.heap.size w w3 := Below.grown (by go_grown) hg3 (by simp; omega) (row_block hrow)
            go_roundw
            case rel => exact ⟨k + 1, m + pk, s ++ zs pk, a3, cap3, by omega, by go_num, by omega, rfl, hrow3, hst, hB3⟩
            case measure => simp [intOf]; omega
        · obtain rfl : k = n := by omega
          have hconv := row_text (P := Try.prog) hrow 22 Try.underlying22 Try.underlying5 9 Try.underlying9
          go_wp2
          go_returns
          rw [hI.out, List.drop_of_length_le (by rw [hlen.out]; exact Nat.le_refl _)]
          exact ⟨rfl, hB⟩
end Go.Proofs.Ytbjejnkeekndbaa
namespace Go.Proofs.Ytbjejnkeekndbaa
open Go.RowKit Go.BigFrame Go.Lib

theorem atG_find (addr : Int) : ∀ (l : List Ex) (k : Nat), (atG addr k l = -1 ∧ dataAtB addr l = ⟨#[]⟩) ∨ ∃ (j : Nat) (x : Ex), l[j]? = some x ∧ atG addr k l = (k : Int) + j ∧ dataAtB addr l = x.d
  | [], k => .inl ⟨rfl, rfl⟩
  | e :: r, k => by
    unfold atG dataAtB
    split
    · rename_i h; exact .inr ⟨0, e, rfl, by simp, rfl⟩
    · rename_i h
      rcases atG_find addr r (k + 1) with ⟨h1, h2⟩ | ⟨j, x, h1, h2, h3⟩
      · exact .inl ⟨h1, h2⟩
      · exact .inr ⟨j + 1, x, by simpa using h1, by rw [h2]; omega, h3⟩

set_option maxHeartbeats 2000000 in
set_option maxRecDepth 100000 in
theorem spec_l2Content (a : Option Addr) (n cap : Nat) (l : List Pt) (a' : Option Addr) (n' cap' : Nat) (e : List Ex) (w : World) (h : PtsAt w a n l) (h' : ExsAt w a' n' e) (hstr : Strs e) (hn : n ≤ 16) (hn' : n' ≤ 4194304) (hall : ∀ p ∈ l, 1 ≤ p.n ∧ p.n ≤ 100 ∧ (p.a ≠ 0 → 0 ≤ p.f ∧ p.f < 20)) :
    Calls Try.prog 106 #[.slice a n cap, .slice a' n' cap'] w fun x w' => RetStr x (cgo e ⟨#[]⟩ l) ∧ Below w.heap.size w w' := by
  have hlen : Hid (l.length = n) := h.len
  have hf : Hid (cgo e ⟨#[]⟩ l = cgo e ⟨#[]⟩ (l.drop 0)) := rfl
  generalize cgo e ⟨#[]⟩ l = R at *
  obtain ⟨i0, hi, hz0, hz1, hz2⟩ := info_parts info5
  go_enter Try.func106, Try.ntmps106
  go_wp2_with fail
  go_loopw [6, 7] (fun out ix wr => ∃ (k : Nat) (s : ByteArray), k ≤ n ∧ ix = .int .i64 k ∧ s.size ≤ 100 * k ∧ out = .string s ∧ Hid (R = cgo e s (l.drop k)) ∧ Below w.heap.size w wr) (fun _ ix _ => n - (intOf ix).toNat)
  case atStart => exact ⟨0, ⟨#[]⟩, Nat.zero_le _, rfl, by simp [ByteArray.size], rfl, hf, Below.refl _ _⟩
  case round =>
    obtain ⟨k, s, hk, rfl, hm, rfl, hI, hB⟩ := hrel
    have hsz := hB.size
    by_cases hlt : k < n
    · obtain ⟨b, o, p, rfl, hp, c0, c1, c2⟩ := pts_at (h.below hB) hlt
      have hd : Hid (l.drop k = p :: l.drop (k + 1)) := drop_at hp
      obtain ⟨hp1, hp2, hp3⟩ := hall p (List.mem_of_getElem? hp)
      obtain ⟨pa, pf, pn⟩ := p
      dsimp only at *
      obtain ⟨pk, rfl⟩ : ∃ pk : Nat, pn = pk := ⟨pn.toNat, by omega⟩
      cases ha : (pa == 0)
      · have hne : pa ≠ 0 := by simpa using ha
        obtain ⟨f0, f20⟩ := hp3 hne
        obtain ⟨fk, rfl⟩ : ∃ fk : Nat, pf = fk := ⟨pf.toNat, by omega⟩
        have hst : Hid (R = match pieceO e ⟨pa, fk, pk⟩ with | none => none | some d => cgo e (s ++ d) (l.drop (k + 1))) := by show _ = _; rw [hI.out, hd.out]; rfl
        have hpc : Hid (pieceO e ⟨pa, fk, pk⟩ = if ((dataAtB pa e).size : Int) < fk + pk then none else some ((dataAtB pa e).extract fk (fk + pk))) := by
          show _ = _
          simp only [pieceO, ha, Bool.false_eq_true, if_false, Int.toNat_natCast]
          rw [show ((fk : Int) + (pk : Int)).toNat = fk + pk by omega]
        have hD := dataAtB_str (addr := pa) hstr
        go_wp2_with fail
        refine (spec_l1At a' n' cap' e pa _ ((h'.below hB).alloc _) hn').mono ?_
        rintro x w3 ⟨rfl, rfl⟩
        rcases atG_find pa e 0 with ⟨g1, g2⟩ | ⟨j, x, g1, g2, g3⟩
        · rw [g1]
          rw [g2, if_pos (by simp [ByteArray.size]; omega)] at hpc
          clear hI hd hp c0 c1 c2
          go_wp2_with fail
          go_quiet (fail)
          go_wp2
          go_returns
          rw [hst.out, hpc.out]
          exact ⟨rfl, below_drewN (by go_grown) _⟩
        · rw [g2, show ((0 : Nat) : Int) + (j : Int) = j by omega]
          rw [g3] at hpc hD
          have hj : j < n' := by rw [← h'.len]; exact (List.getElem?_eq_some_iff.1 g1).1
          obtain ⟨b', o', x', rfl, hx', y0, y1⟩ := exs_at ((h'.below hB).alloc (.cells #[.int .i64 pa, .int .i64 fk, .int .i64 pk] 119)) hj
          rw [g1] at hx'
          obtain rfl := Option.some.inj hx'
          have hB2 : Below w.heap.size w (wr.alloc (.cells #[.int .i64 pa, .int .i64 fk, .int .i64 pk] 119)) := hB.alloc hsz _
          have z0 : (wr.alloc (.cells #[.int .i64 pa, .int .i64 fk, .int .i64 pk] 119)).cell? ⟨wr.heap.size, 0, none⟩ = some (.int .i64 pa) := by simp
          have z1 : (wr.alloc (.cells #[.int .i64 pa, .int .i64 fk, .int .i64 pk] 119)).cell? ⟨wr.heap.size, 1, none⟩ = some (.int .i64 fk) := by simp
          have z2 : (wr.alloc (.cells #[.int .i64 pa, .int .i64 fk, .int .i64 pk] 119)).cell? ⟨wr.heap.size, 2, none⟩ = some (.int .i64 pk) := by simp
          clear c0 c1 c2 hI hd hp g1 g2 g3
          generalize wr.alloc (.cells #[.int .i64 pa, .int .i64 fk, .int .i64 pk] 119) = W at *
          obtain ⟨xa, D⟩ := x
          dsimp only at *
          have hj1 : (0 : Int) ≤ j := by omega
          have hj2 : (j : Int) < n' := by omega
          have hj3 : decide ((j : Int) < 0) = false := by simp
          by_cases hlt2 : (D.size : Int) < fk + pk
          · rw [if_pos hlt2] at hpc
            go_wp2_with fail
            go_quiet (fail)
            go_wp2
            go_returns
            rw [hst.out, hpc.out]
            exact ⟨rfl, below_drewN hB2 _⟩
          · rw [if_neg hlt2] at hpc
            have hle : (fk : Int) + (pk : Int) ≤ D.size := by omega
            have hsl := fun W' => run_slice_string (P := Try.prog) W' 9 D .i64 .i64 fk (fk + pk) Try.underlying9 (by omega) (by omega) (by omega)
            rw [show ((fk : Int) + (pk : Int)).toNat = fk + pk by omega, Int.toNat_natCast] at hsl
            have hxs : (D.extract fk (fk + pk)).size = pk := by rw [ByteArray.size_extract]; omega
            generalize D.extract fk (fk + pk) = X at *
            go_wp2_with fail
            go_quiet (fail)
            have hB3 := below_drewN hB2 nq
            replace z0 : (W.drewN nq).cell? ⟨wr.heap.size, 0, none⟩ = some (.int .i64 pa) := z0
            replace z1 : (W.drewN nq).cell? ⟨wr.heap.size, 1, none⟩ = some (.int .i64 fk) := z1
            replace z2 : (W.drewN nq).cell? ⟨wr.heap.size, 2, none⟩ = some (.int .i64 pk) := z2
            replace y1 : (W.drewN nq).cell? ⟨b', o' + j * 2 + 1, none⟩ = some (.string D) := y1
            clear y0
            generalize W.drewN nq = W1 at *
            go_wp2_with fail
            go_quiet (fail)
            go_wp2
            go_roundw
            case rel => exact ⟨k + 1, s ++ X, by omega, by go_num, by rw [ByteArray.size_append]; omega, rfl, by show _ = _; rw [hst.out, hpc.out], below_drewN hB3 _⟩
            case measure => simp [intOf]; omega
      · have hst : Hid (R = cgo e (s ++ zs pk) (l.drop (k + 1))) := by
          show _ = _
          rw [hI.out, hd.out]
          simp [cgo, pieceO, ha]
        have hmk : ∀ u : World, (Instr.makeSlice 22 (.int .i64 (pk : Int)) (.int .i64 (pk : Int))).run Try.prog u = .ok (.slice (some ⟨u.heap.size, 0, none⟩) pk pk) (u.alloc (.cells (strCells (zs pk)).toArray 5)) := fun u => by
          have hm := run_make (P := Try.prog) u 22 5 i0 (.int .u8 0) Try.underlying22 hi hz0 .i64 .i64 (pk : Int) (pk : Int) (by omega) (Int.le_refl _) (by rw [hz2]; omega) (by omega)
          rw [zs_cells]
          simpa [hz1, Value.cells, madeCells, Builtin.zeroCells] using hm
        have hcv : ∀ u : World, (convert 22 9 (.slice (some ⟨u.heap.size, 0, none⟩) pk pk)).run Try.prog (u.alloc (.cells (strCells (zs pk)).toArray 5)) = .ok (.string (zs pk)) (u.alloc (.cells (strCells (zs pk)).toArray 5)) := fun u =>
          row_text (B := 0) (e := 5) (n := pk) ⟨by rw [strCells_length, zs_size, Nat.mul_one], .inr ⟨u.heap.size, pk, _, rfl, Nat.zero_le _, Blk.new u _ 5, Nat.le_refl _, by unfold maxLen; omega, by simp [strCells_length, zs_size], by rw [Nat.mul_one, List.take_of_length_le (by simp [strCells_length, zs_size])]⟩⟩ 22 Try.underlying22 Try.underlying5 9 Try.underlying9
        have hmk1 := hmk (wr.alloc (.cells #[.int .i64 pa, .int .i64 pf, .int .i64 pk] 119))
        have hcv1 := hcv (wr.alloc (.cells #[.int .i64 pa, .int .i64 pf, .int .i64 pk] 119))
        rw [show (wr.alloc (.cells #[.int .i64 pa, .int .i64 pf, .int .i64 pk] 119)).heap.size = wr.heap.size + 1 by simp] at hmk1 hcv1
        have hzsz := zs_size pk
        generalize zs pk = Z at *
        clear hmk hcv
        go_wp2
        go_roundw
        case rel => exact ⟨k + 1, s ++ Z, by omega, by go_num, by rw [ByteArray.size_append]; omega, rfl, hst, by go_grown⟩
        case measure => simp [intOf]; omega
    · obtain rfl : k = n := by omega
      go_wp2
      go_returns
      rw [hI.out, List.drop_of_length_le (by rw [hlen.out]; exact Nat.le_refl _)]
      exact ⟨rfl, hB⟩

set_option maxHeartbeats 1000000 in
set_option maxRecDepth 100000 in
theorem spec_Content (a : Option Addr) (n cap : Nat) (l : List Pt) (a' : Option Addr) (n' cap' : Nat) (e : List Ex) (w : World) (h : PtsAt w a n l) (h' : ExsAt w a' n' e) (hstr : Strs e) (hn : n ≤ 4194304) (hn' : n' ≤ 4194304) :
    Calls Try.prog 47 #[.slice a n cap, .slice a' n' cap'] w fun x w' => RetStr x (contentO l e) ∧ Below w.heap.size w w' := by
  cases hok : partsOkB l
  · have hf : contentO l e = none := by simp [contentO, hok]
    rw [hf]
    go_enter Try.func47, Try.ntmps47
    go_wp2_with fail
    refine (spec_PartsOk a n cap l _ h hn).mono ?_
    rintro x w1 ⟨rfl, hB1⟩
    rw [hok]
    go_wp2
    go_returns
    exact ⟨rfl, hB1⟩
  · cases hok' : spaceOkB 400 e
    · have hf : contentO l e = none := by simp [contentO, hok']
      rw [hf]
      go_enter Try.func47, Try.ntmps47
      go_wp2_with fail
      refine (spec_PartsOk a n cap l _ h hn).mono ?_
      rintro x w1 ⟨rfl, hB1⟩
      rw [hok]
      go_wp2_with fail
      refine (spec_SpaceOk 400 a' n' cap' e _ (h'.below hB1) hstr hn').mono ?_
      rintro x w2 ⟨rfl, rfl⟩
      rw [hok']
      have hB3 := hB1
      go_wp2
      go_returns
      exact ⟨rfl, hB3⟩
    · have hf : contentO l e = cgo e ⟨#[]⟩ l := by simp [contentO, hok, hok']
      obtain ⟨hl16, hall⟩ := parts_all hok
      have hn16 : n ≤ 16 := by rw [← h.len]; exact hl16
      rw [hf]
      have hcon := fun W hW hW' => spec_l2Content a n cap l a' n' cap' e W hW hW' hstr hn16 hn' hall
      generalize cgo e ⟨#[]⟩ l = R at *
      go_enter Try.func47, Try.ntmps47
      go_wp2_with fail
      refine (spec_PartsOk a n cap l _ h hn).mono ?_
      rintro x w1 ⟨rfl, hB1⟩
      rw [hok]
      go_wp2_with fail
      refine (spec_SpaceOk 400 a' n' cap' e _ (h'.below hB1) hstr hn').mono ?_
      rintro x w2 ⟨rfl, rfl⟩
      rw [hok']
      have hB2 := hB1
      go_wp2_with fail
      refine (hcon _ (h.below hB2) (h'.below hB2)).mono ?_
      rintro x w3 ⟨hret, hB3⟩
      replace hB3 := chain hB2 hB3
      cases R with
      | none =>
        obtain rfl := hret
        go_wp2
        go_returns
        exact ⟨rfl, hB3⟩
      | some S =>
        obtain rfl := hret
        go_wp2
        go_returns
        exact ⟨rfl, hB3⟩
end Go.Proofs.Ytbjejnkeekndbaa
