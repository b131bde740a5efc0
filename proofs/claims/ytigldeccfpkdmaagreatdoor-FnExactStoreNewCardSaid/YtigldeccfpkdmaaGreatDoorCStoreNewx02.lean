/- The parts: partOk, goesOn, PartsOk of the program: each returns what the plain function gives, and turns nothing that was there. Plain facts on the functions over lists of parts. The parts, as the model has them, and the laws' own helpers for parts. The laws' marks of texts. Numbers in decimal, as texts (the model's). A contract of the library, laid at this program. Numbers in decimal: the model's and the program's. Owners and counts as plain data: their order, the lists that are added up, and that two lists in order with the same sums are one. -/
import Derived.Test.YtigldeccfpkdmaaGreatDoorProg
import Derived.Test.YtigldeccfpkdmaaGreatDoorCStoreNewx00
import Derived.Laws.BytesArg
import Derived.Lib.ItoaNum
import Derived.Shelf.Strconv.Itoa4
import Derived.Lib.AppendIntMem
import Derived.Laws.Cover1
namespace Go.Proofs.YtigldeccfpkdmaaGreatDoor
open Go.RowKit
theorem impl_partOk (p : Pt) (w : World) :
    Calls Tryz.prog 259 #[.agg #[.int .i64 p.a, .int .i64 p.f, .int .i64 p.n]] w fun e w' => e = .returned (.bool (partOkB p)) ∧ Below w.heap.size w w' := by
  obtain ⟨a, f, n⟩ := p
  go_enter Tryz.func259, Tryz.ntmps259
  go_wp2
  all_goals go_returns
  all_goals go_light
  all_goals refine ⟨?_, by go_grown⟩
  all_goals simp [partOkB, *]
  all_goals try omega
theorem impl_goesOn (p q : Pt) (w : World) :
    Calls Tryz.prog 260 #[.agg #[.int .i64 p.a, .int .i64 p.f, .int .i64 p.n], .agg #[.int .i64 q.a, .int .i64 q.f, .int .i64 q.n]] w fun e w' => e = .returned (.bool (goesOnB p q)) ∧ Below w.heap.size w w' := by
  obtain ⟨a, f, n⟩ := p
  obtain ⟨b, g, m⟩ := q
  go_enter Tryz.func260, Tryz.ntmps260
  go_wp2
  all_goals go_returns
  all_goals go_light
  all_goals refine ⟨?_, by go_grown⟩
  all_goals simp_all [goesOnB]
theorem impl_PartsOk (a : Option Addr) (n cap : Nat) (l : List Pt) (w : World) (h : PtsAt w a n l) (hn : n ≤ 4194304) :
    Calls Tryz.prog 234 #[.slice a n cap] w fun e w' => e = .returned (.bool (partsOkB l)) ∧ Below w.heap.size w w' := by
  have hlen := h.len
  by_cases h16 : n ≤ 16
  · have hfin : Hid (partsOkB l = pgo none 100 l) := by show _ = _; simp [partsOkB, hlen, h16]
    have hlen' : Hid (l.length = n) := hlen
    clear hlen
    go_enter Tryz.func234, Tryz.ntmps234
    go_wp2_with fail
    go_loopw [2, 3, 4, 5, 11] (fun r left i p ix wr => ∃ (k : Nat) (lf : Int), k ≤ n ∧ ix = .int .i64 k ∧ left = .int .i64 lf ∧ 0 ≤ lf ∧ lf ≤ 100 ∧ Hid (pgo none 100 l = pgo (ahead l k) lf (l.drop k)) ∧ Below w.heap.size w wr) (fun _ _ _ _ ix _ => n - (intOf ix).toNat)
    case atStart => exact ⟨0, 100, Nat.zero_le _, rfl, rfl, by omega, by omega, rfl, Below.refl _ _⟩
    case round =>
      obtain ⟨k, lf, hk, rfl, rfl, hf0, hf1, hI, hB⟩ := hrel
      by_cases hlt : k < n
      · obtain ⟨b, o, p, rfl, hp, c0, c1, c2⟩ := pts_at (h.below hB) hlt
        have hd : Hid (l.drop k = p :: l.drop (k + 1)) := drop_at hp
        have hq : Hid (l[k]? = some p) := hp
        clear hp
        have hwr : w.heap.size ≤ wr.heap.size := hB.size
        cases hpo : partOkB p
        · go_wp2_with fail
          refine (impl_partOk p _).mono ?_
          rintro e w1 ⟨rfl, hB1⟩
          obtain ⟨x0, x1, x2, hB1', hs1⟩ := box3 hB1
          rw [hpo]
          go_wp2_with fail
          go_returns
          go_light
          refine ⟨ret_bool ?_, chain hB hB1'⟩
          rw [hfin.out, hI.out, hd.out]; cases ahead l k <;> simp [pgo, hpo]
        by_cases hle : p.n ≤ lf
        · rcases k with _ | j
          · simp only [Nat.zero_mul, Nat.add_zero] at c0 c1 c2
            go_wp2_with fail
            refine (impl_partOk p _).mono ?_
            rintro e w1 ⟨rfl, hB1⟩
            rw [hpo]
            obtain ⟨x0, x1, x2, hB1', hs1⟩ := box3 hB1
            clear hB1 c0 c1 c2
            have hp1 := partOkB_pos hpo
            go_wp2_with fail
            go_quiet (fail)
            go_wp2
            go_roundw
            case rel => exact ⟨1, lf - p.n, by omega, by go_num, by go_num, by omega, by omega, by show _ = _; rw [hI.out, hd.out, ahead_zero, ahead_succ, hq.out]; simp [pgo, hpo, hle], chain hB (chain hB1' (drewNB _ _))⟩
            case measure => simp [intOf]; omega
          · obtain ⟨b', o', q, hbo, hq', d0, d1, d2⟩ := pts_at (h.below hB) (k := j) (by omega)
            obtain ⟨rfl, rfl⟩ : b = b' ∧ o = o' := by simpa using hbo
            have ha : Hid (ahead l (j + 1) = some q) := by show _ = _; rw [ahead_succ]; exact hq'
            clear hq' hbo
            have hp1 := partOkB_pos hpo
            cases hgo : goesOnB q p
            all_goals
              go_wp2_with fail
              refine (impl_partOk p _).mono ?_
              rintro e w1 ⟨rfl, hB1⟩
              rw [hpo]
              obtain ⟨x0, x1, x2, hB1', hs1⟩ := box3 hB1
              clear hB1
              replace d0 := bcell hB1' d0
              replace d1 := bcell hB1' d1
              replace d2 := bcell hB1' d2
              clear c0 c1 c2
              have hj : (0 : Int) < (j : Int) + 1 := by omega
              have hj1 : (j : Int) < n := by omega
              have hj2 : (0 : Int) ≤ j := by omega
              have hw1 : IntKind.i64.wrap ((j : Int) + 1 - 1) = (j : Int) := by rw [IntKind.wrap_i64]; omega
              have hw2 : IntKind.i64.wrap (j : Int) = (j : Int) := by rw [IntKind.wrap_i64]; omega
              go_wp2_with fail
              go_region_held3 (fun w' => w'.cell? ⟨b, o + j * 3, none⟩ = some (.int .i64 q.a) ∧ w'.cell? ⟨b, o + j * 3 + 1, none⟩ = some (.int .i64 q.f) ∧ w'.cell? ⟨b, o + j * 3 + 2, none⟩ = some (.int .i64 q.n) ∧ w'.cell? ⟨wr.heap.size, 0, none⟩ = some (.int .i64 p.a) ∧ w'.cell? ⟨wr.heap.size, 1, none⟩ = some (.int .i64 p.f) ∧ w'.cell? ⟨wr.heap.size, 2, none⟩ = some (.int .i64 p.n)) (go_keep)
                (first | (go_at_call 260; refine (impl_goesOn q p _).mono ?_; rintro e w2 ⟨rfl, hB2⟩; have y0 := bcell hB2 d0; have y1 := bcell hB2 d1; have y2 := bcell hB2 d2; have z0 := bcell hB2 x0; have z1 := bcell hB2 x1; have z2 := bcell hB2 x2))
              go_wp2
            · go_roundw
              case rel => exact ⟨j + 2, lf - p.n, by omega, by go_num, by go_num, by omega, by omega, by show _ = _; rw [hI.out, hd.out, ha.out, ahead_succ, hq.out]; simp [pgo, hpo, hle, hgo], chain hB (chain hB1' (undrew hB2))⟩
              case measure => simp [intOf]; omega
            · go_returns
              go_light
              refine ⟨ret_bool ?_, chain hB (chain hB1' (undrew hB2))⟩
              rw [hfin.out, hI.out, hd.out, ha.out]; simp [pgo, hgo]
        · go_wp2_with fail
          refine (impl_partOk p _).mono ?_
          rintro e w1 ⟨rfl, hB1⟩
          rw [hpo]
          obtain ⟨x0, x1, x2, hB1', hs1⟩ := box3 hB1
          go_wp2
          go_returns
          go_light
          refine ⟨ret_bool ?_, chain hB hB1'⟩
          have hle' : ¬ p.n ≤ lf := by omega
          rw [hfin.out, hI.out, hd.out]; cases ahead l k <;> simp [pgo, hle']
      · obtain rfl : k = n := by omega
        go_wp2
        go_returns
        go_light
        refine ⟨ret_bool ?_, hB⟩
        rw [hfin.out, hI.out, List.drop_of_length_le (Nat.le_of_eq hlen'.out)]; cases ahead l k <;> rfl
  · go_enter Tryz.func234, Tryz.ntmps234
    go_wp2
    go_returns
    go_light
    refine ⟨ret_bool ?_, Below.refl _ _⟩
    simp [partsOkB, hlen]; omega
end Go.Proofs.YtigldeccfpkdmaaGreatDoor
namespace Go.Proofs.YtigldeccfpkdmaaGreatDoor
open Go.RowKit
theorem pgo_all (l : List Pt) : ∀ (q : Option Pt) (s : Int), 0 ≤ s → pgo q s l = true → (∀ p ∈ l, partOkB p = true) ∧ sumN l ≤ s := by
  induction l with
  | nil => intro q s h0 _; exact ⟨by simp, by simpa [sumN] using h0⟩
  | cons p r ih =>
    intro q s h0 h
    have hh : partOkB p = true ∧ p.n ≤ s ∧ pgo (some p) (s - p.n) r = true := by
      cases q
      · simp [pgo] at h; exact ⟨h.1.1, h.1.2, h.2⟩
      · simp [pgo] at h; exact ⟨h.1.1.1, h.1.1.2, h.2⟩
    obtain ⟨a, b⟩ := ih (some p) (s - p.n) (by omega) hh.2.2
    refine ⟨?_, by simp [sumN]; omega⟩
    intro x hx
    rcases List.mem_cons.1 hx with rfl | hx
    · exact hh.1
    · exact a x hx
theorem take_at {α : Type} {l : List α} {k : Nat} {x : α} (h : l[k]? = some x) : l.take (k + 1) = l.take k ++ [x] := by
  rw [List.take_add_one, h]; rfl
theorem partsOkB_all {l : List Pt} (h : partsOkB l = true) : l.length ≤ 16 ∧ (∀ p ∈ l, partOkB p = true) ∧ sumN l ≤ 100 := by
  simp [partsOkB] at h
  exact ⟨h.1, pgo_all l none 100 (by omega) h.2⟩
end Go.Proofs.YtigldeccfpkdmaaGreatDoor
namespace Go.Proofs.YtigldeccfpkdmaaGreatDoor
open Go.RowKit
theorem spec_l1In (n lo hi : Int) (w : World) :
    Calls Tryz.prog 54 #[.int .i64 n, .int .i64 lo, .int .i64 hi] w fun e w' => e = .returned (.bool (decide (lo ≤ n) && decide (n ≤ hi))) ∧ w' = w := by
  go_enter Tryz.func54, Tryz.ntmps54
  go_wp2
  all_goals go_returns
  all_goals go_light
  all_goals refine ⟨?_, rfl⟩
  all_goals simp_all
  all_goals try omega
end Go.Proofs.YtigldeccfpkdmaaGreatDoor
namespace Go.Proofs.YtigldeccfpkdmaaGreatDoor
open Go.RowKit Go.BigFrame
/-- The digits of k ahead of o. -/
def mtGo (k : Nat) (o : ByteArray) : ByteArray := if k = 0 then o else mtGo (k / 10) (strOfNums [48 + (k : Int) % 10] ++ o)
  termination_by k
  decreasing_by omega
def markT (k : Nat) : ByteArray := ByteArray.mk #[109] ++ mtGo k .empty
theorem app_size (a b : ByteArray) : (a ++ b).size = a.size + b.size := ByteArray.size_append
set_option maxHeartbeats 1000000 in
set_option maxRecDepth 100000 in
theorem laws_markText (k : Nat) (w : World) (h1 : 1 ≤ k) (h2 : k ≤ 100000000) :
    Calls Tryz.prog 109 #[.int .i64 k] w fun e w' => e = .returned (.string (markT k)) ∧ Below w.heap.size w w' := by
  have hcv : ∀ (u : World) (x : Int), (convert 173 9 (.slice (some ⟨u.heap.size, 0, none⟩) 1 1)).run Tryz.prog (u.alloc (.cells #[.int .u8 x] 5)) = .ok (.string (strOfNums [x])) (u.alloc (.cells #[.int .u8 x] 5)) := fun u x =>
    run_convert_bytes_arg (P := Tryz.prog) _ 173 5 Tryz.underlying173 Tryz.underlying5 u.heap.size 0 1 1 [x] rfl (fun i hi => (by obtain rfl : i = 0 := (by omega); simp)) 9 Tryz.underlying9
  go_enter Tryz.func109, Tryz.ntmps109
  go_wp2_with fail
  go_loopw [0, 3] (fun kk out wr => ∃ (j : Nat) (o : ByteArray), kk = .int .i64 j ∧ out = .string o ∧ j ≤ 100000000 ∧ Hid (∃ m, j < 10 ^ m ∧ o.size + m ≤ 9) ∧ Hid (mtGo k .empty = mtGo j o) ∧ Below w.heap.size w wr) (fun kk _ _ => (intOf kk).toNat)
  case atStart => exact ⟨k, .empty, rfl, rfl, h2, ⟨9, by omega, by decide⟩, rfl, Below.refl _ _⟩
  case round =>
    obtain ⟨j, o, rfl, rfl, hj, hm, hI, hB⟩ := hrel
    have ho : o.size ≤ 9 := by obtain ⟨m, _, h⟩ := hm.out; omega
    by_cases hlt : 0 < j
    · have hss : ¬ 9223372036854775807 < (strOfNums [48 + (j : Int) % 10]).size + o.size := by rw [strOfNums_size]; simp; omega
      go_wp2
      go_roundw
      case rel =>
        refine ⟨j / 10, _, by go_num, rfl, by omega, ?_, ?_, hB.alloc hB.size _⟩
        · obtain ⟨m, h3, h4⟩ := hm.out
          cases m with
          | zero => simp at h3; omega
          | succ m => exact ⟨m, by rw [Nat.pow_succ] at h3; omega, by rw [app_size, strOfNums_size]; simp; omega⟩
        · show _ = _
          rw [hI.out, mtGo, if_neg (by omega)]
      case measure => simp [intOf]; omega
    · obtain rfl : j = 0 := by omega
      have hss : ¬ 9223372036854775807 < (ByteArray.mk #[109]).size + o.size := by show ¬ _ < 1 + _; omega
      go_wp2
      go_returns
      go_light
      refine ⟨?_, hB⟩
      unfold markT
      rw [hI.out, mtGo, if_pos rfl]
      rfl
end Go.Proofs.YtigldeccfpkdmaaGreatDoor
namespace Go.Proofs.YtigldeccfpkdmaaGreatDoor
open Go Go.RowKit Go.BigFrame
theorem ba_eqX {a b : ByteArray} (h : a.data.toList = b.data.toList) : a = b := by
  cases a; cases b; simp at h; rw [h]
/-- A number in decimal. -/
def decB (n : Int) : ByteArray := ⟨(Lib.itoa n).toArray⟩
/-- The digits of k ahead of o, one at least. -/
def ddGo (k : Nat) (o : ByteArray) : ByteArray := ⟨(Lib.decDigits k).toArray⟩ ++ o
theorem ddGo_step {k : Nat} (o : ByteArray) (h : 10 ≤ k) : ddGo k o = ddGo (k / 10) (strOfNums [48 + (k : Int) % 10] ++ o) := by
  unfold ddGo
  rw [Lib.decDigits, dif_neg (by omega)]
  have e : strOfNums [48 + (k : Int) % 10] = ⟨#[UInt8.ofNat (48 + k % 10)]⟩ := by
    unfold strOfNums
    have : (48 + (k : Int) % 10).toNat = 48 + k % 10 := by omega
    simp [this]
  rw [e]
  refine ba_eqX ?_
  simp [ByteArray.data_append]
theorem ddGo_last {k : Nat} (o : ByteArray) (h : k < 10) : ddGo k o = strOfNums [48 + (k : Int)] ++ o := by
  unfold ddGo
  rw [Lib.decDigits, dif_pos h]
  have e : strOfNums [48 + (k : Int)] = ⟨#[UInt8.ofNat (48 + k)]⟩ := by
    unfold strOfNums
    have : (48 + (k : Int)).toNat = 48 + k := by omega
    simp [this]
  rw [e]
end Go.Proofs.YtigldeccfpkdmaaGreatDoor
namespace Go.Proofs.YtigldeccfpkdmaaGreatDoor
open Go.Shelf Go.RowKit Go.Lib
def fmtL_ren : Go.Shelf.Ren := ⟨fun | 173 => 131 | 246 => 190 | 283 => 218 | 284 => 219 | 285 => 220 | 286 => 221 | 129 => 247 | 317 => 246 | 318 => 248 | 319 => 249 | 320 => 250 | 337 => 275 | 338 => 276 | n => n, fun | 2 => 2 | 3 => 3 | 9 => 9 | 4 => 4 | 171 => 273 | 0 => 0 | 53 => 274 | 37 => 173 | 5 => 5 | 173 => 277 | 212 => 301 | 51 => 98 | 20 => 20 | 213 => 302 | 46 => 172 | 232 => 336 | 233 => 337 | n => n, fun | 17 => 2 | 18 => 7 | 19 => 8 | n => n⟩
set_option maxRecDepth 100000 in
theorem fmtL : LaysM.n173 Tryz.prog fmtL_ren where
  mixed := by kernel_rfl
  f129 := Tryz.func247.trans (congrArg some (by kernel_rfl))
  f173 := Tryz.func131.trans (congrArg some (by kernel_rfl))
  f246 := Tryz.func190.trans (congrArg some (by kernel_rfl))
  f283 := Tryz.func218.trans (congrArg some (by kernel_rfl))
  f284 := Tryz.func219.trans (congrArg some (by kernel_rfl))
  f285 := Tryz.func220.trans (congrArg some (by kernel_rfl))
  f286 := Tryz.func221.trans (congrArg some (by kernel_rfl))
  f317 := Tryz.func246.trans (congrArg some (by kernel_rfl))
  f318 := Tryz.func248.trans (congrArg some (by kernel_rfl))
  f319 := Tryz.func249.trans (congrArg some (by kernel_rfl))
  f320 := Tryz.func250.trans (congrArg some (by kernel_rfl))
  f337 := Tryz.func275.trans (congrArg some (by kernel_rfl))
  f338 := Tryz.func276.trans (congrArg some (by kernel_rfl))
  t0 := Tryz.underlying0
  a0 := Tryz.isAgg0
  z0 := Tryz.sizeOf0
  v0 := Tryz.zeroValue0
  t2 := Tryz.underlying2
  a2 := Tryz.isAgg2
  z2 := Tryz.sizeOf2
  v2 := Tryz.zeroValue2
  t3 := Tryz.underlying3
  a3 := Tryz.isAgg3
  z3 := Tryz.sizeOf3
  v3 := Tryz.zeroValue3
  t4 := Tryz.underlying4
  a4 := Tryz.isAgg4
  z4 := Tryz.sizeOf4
  v4 := Tryz.zeroValue4
  t5 := Tryz.underlying5
  a5 := Tryz.isAgg5
  z5 := Tryz.sizeOf5
  v5 := Tryz.zeroValue5
  t9 := Tryz.underlying9
  a9 := Tryz.isAgg9
  z9 := Tryz.sizeOf9
  v9 := Tryz.zeroValue9
  t20 := Tryz.underlying20
  a20 := Tryz.isAgg20
  z20 := Tryz.sizeOf20
  v20 := Tryz.zeroValue20
  t37 := Tryz.underlying173
  a37 := Tryz.isAgg173
  z37 := Tryz.sizeOf173
  v37 := Tryz.zeroValue173
  t46 := Tryz.underlying172
  a46 := Tryz.isAgg172
  z46 := Tryz.sizeOf172
  v46 := Tryz.zeroValue172
  t51 := Tryz.underlying98
  a51 := Tryz.isAgg98
  z51 := Tryz.sizeOf98
  v51 := Tryz.zeroValue98
  t53 := Tryz.underlying274
  a53 := Tryz.isAgg274
  z53 := Tryz.sizeOf274
  v53 := Tryz.zeroValue274
  t171 := Tryz.underlying273
  a171 := Tryz.isAgg273
  z171 := Tryz.sizeOf273
  v171 := Tryz.zeroValue273
  t173 := Tryz.underlying277
  a173 := Tryz.isAgg277
  z173 := Tryz.sizeOf277
  v173 := Tryz.zeroValue277
  t212 := Tryz.underlying301
  a212 := Tryz.isAgg301
  z212 := Tryz.sizeOf301
  v212 := Tryz.zeroValue301
  t213 := Tryz.underlying302
  a213 := Tryz.isAgg302
  z213 := Tryz.sizeOf302
  t232 := Tryz.underlying336
  a232 := Tryz.isAgg336
  z232 := Tryz.sizeOf336
  v232 := Tryz.zeroValue336
  t233 := Tryz.underlying337
  a233 := Tryz.isAgg337
  z233 := Tryz.sizeOf337
  v233 := Tryz.zeroValue337
  g17 := by kernel_rfl
  g18 := by kernel_rfl
  g19 := by kernel_rfl
  i0 := by kernel_rfl
  i2 := by kernel_rfl
  i3 := by kernel_rfl
  i4 := by kernel_rfl
  i5 := by kernel_rfl
  i9 := by kernel_rfl
  i20 := by kernel_rfl
  i37 := by kernel_rfl
  i46 := by kernel_rfl
  i51 := by kernel_rfl
  i53 := by kernel_rfl
  i171 := by kernel_rfl
  i173 := by kernel_rfl
  i212 := by kernel_rfl
  i232 := by kernel_rfl
  i233 := by kernel_rfl
  m17 := by kernel_rfl
  m18 := by kernel_rfl
  m19 := by kernel_rfl
end Go.Proofs.YtigldeccfpkdmaaGreatDoor
namespace Go.Proofs.YtigldeccfpkdmaaGreatDoor
open Go Go.RowKit Go.BigFrame
theorem dec_len : ∀ (m k : Nat), k < 10 ^ (m + 1) → (Lib.decDigits k).length ≤ m + 1
  | 0, k, h => by rw [Lib.decDigits, dif_pos (by simpa using h)]; simp
  | m + 1, k, h => by
    rw [Lib.decDigits]
    split
    · simp
    · have := dec_len m (k / 10) (by rw [Nat.pow_succ] at h; omega)
      simp
      omega
theorem decB_size {n : Int} (h0 : -1000000000000 < n) (h1 : n < 1000000000000) : (decB n).size ≤ 13 := by
  show (Lib.itoa n).toArray.size ≤ 13
  rw [List.size_toArray]
  unfold Lib.itoa
  split
  · have := dec_len 11 n.natAbs (by omega)
    simp
    omega
  · have := dec_len 11 n.toNat (by omega)
    omega
theorem decB_pos {k : Nat} : decB k = ddGo k .empty := by
  unfold decB ddGo Lib.itoa
  rw [if_neg (by omega)]
  refine ba_eqX ?_
  simp
theorem decB_neg {k : Nat} (h : 0 < k) : decB (-(k : Int)) = ByteArray.mk #[45] ++ decB k := by
  unfold decB Lib.itoa
  rw [if_pos (by omega), if_neg (by omega)]
  refine ba_eqX ?_
  simp [ByteArray.data_append]
set_option maxHeartbeats 1000000 in
set_option maxRecDepth 100000 in
theorem spec_l1Dec_pos (k : Nat) (w : World) (h2 : k < 1000000000000) :
    Calls Tryz.prog 122 #[.int .i64 k] w fun e w' => e = .returned (.string (decB k)) ∧ Below w.heap.size w w' := by
  have hcv : ∀ (u : World) (x : Int), (convert 173 9 (.slice (some ⟨u.heap.size, 0, none⟩) 1 1)).run Tryz.prog (u.alloc (.cells #[.int .u8 x] 5)) = .ok (.string (strOfNums [x])) (u.alloc (.cells #[.int .u8 x] 5)) := fun u x =>
    run_convert_bytes_arg (P := Tryz.prog) _ 173 5 Tryz.underlying173 Tryz.underlying5 u.heap.size 0 1 1 [x] rfl (fun i hi => (by obtain rfl : i = 0 := (by omega); simp)) 9 Tryz.underlying9
  obtain ⟨R, hR⟩ : ∃ R, Hid (decB k = R) := ⟨_, rfl⟩
  rw [hR.out]
  go_enter Tryz.func122, Tryz.ntmps122
  go_wp2_with fail
  go_loopw [0, 3] (fun kk out wr => ∃ (j : Nat) (o : ByteArray), kk = .int .i64 j ∧ out = .string o ∧ j < 1000000000000 ∧ Hid (∃ m, j < 10 ^ m ∧ o.size + m ≤ 13) ∧ Hid (R = ddGo j o) ∧ Below w.heap.size w wr) (fun kk _ _ => (intOf kk).toNat)
  case atStart => exact ⟨k, .empty, rfl, rfl, h2, ⟨12, by omega, by decide⟩, by show _ = _; rw [← hR.out]; exact decB_pos, Below.refl _ _⟩
  case round =>
    obtain ⟨j, o, rfl, rfl, hj, hm, hI, hB⟩ := hrel
    have ho : o.size ≤ 13 := by obtain ⟨m, _, h⟩ := hm.out; omega
    by_cases hlt : 10 ≤ j
    · have hss : ¬ 9223372036854775807 < (strOfNums [48 + (j : Int) % 10]).size + o.size := by rw [strOfNums_size]; simp; omega
      have hge : (10 : Int) ≤ j := by omega
      go_wp2
      go_roundw
      case rel =>
        refine ⟨j / 10, _, by go_num, rfl, by omega, ?_, ?_, hB.alloc hB.size _⟩
        · obtain ⟨m, h3, h4⟩ := hm.out
          cases m with
          | zero => simp at h3; omega
          | succ m => exact ⟨m, by rw [Nat.pow_succ] at h3; omega, by rw [app_size, strOfNums_size]; simp; omega⟩
        · show _ = _
          rw [hI.out, ddGo_step o hlt]
      case measure => simp [intOf]; omega
    · have hss : ¬ 9223372036854775807 < (strOfNums [48 + (j : Int)]).size + o.size := by rw [strOfNums_size]; simp; omega
      have hge : ¬ (10 : Int) ≤ j := by omega
      go_wp2
      go_returns
      go_light
      refine ⟨?_, hB.alloc hB.size _⟩
      rw [hI.out, ddGo_last o (by omega)]
      rfl
set_option maxHeartbeats 1000000 in
set_option maxRecDepth 100000 in
theorem spec_l1Dec (n : Int) (w : World) (h1 : -1000000000000 < n) (h2 : n < 1000000000000) :
    Calls Tryz.prog 122 #[.int .i64 n] w fun e w' => e = .returned (.string (decB n)) ∧ Below w.heap.size w w' := by
  by_cases h : n < 0
  · obtain ⟨k, rfl⟩ : ∃ k : Nat, n = -(k : Int) := ⟨n.natAbs, by omega⟩
    have hk : 0 < k := by omega
    have hR : Hid (decB (-(k : Int)) = ByteArray.mk #[45] ++ decB k) := decB_neg hk
    generalize decB (-(k : Int)) = R at *
    have hsz := decB_size (n := k) (by omega) (by omega)
    have hss : ¬ 9223372036854775807 < (ByteArray.mk #[45]).size + (decB k).size := by show ¬ _ < 1 + _; omega
    have hneg : -(-(k : Int)) = k := by omega
    go_enter Tryz.func122, Tryz.ntmps122
    go_wp2_with fail
    refine (spec_l1Dec_pos k w (by omega)).mono ?_
    rintro e w1 ⟨rfl, hB1⟩
    generalize decB (k : Int) = D at *
    go_wp2
    go_returns
    exact ⟨by rw [hR.out]; rfl, hB1⟩
  · obtain ⟨k, rfl⟩ : ∃ k : Nat, n = (k : Int) := ⟨n.toNat, by omega⟩
    exact spec_l1Dec_pos k w (by omega)
/-- The table that FormatInt reads. -/
def TabP (w : World) : Prop := Lib.TabIs Tryz.prog w "internal/strconv.uint64pow10" .u64 Lib.pow10Tab
theorem impl_decimal (n : Int) (w : World) (h0 : -9223372036854775808 ≤ n) (h1 : n ≤ 9223372036854775807) (ht : TabP w) :
    Calls Tryz.prog 61 #[.int .i64 n] w fun e w' => e = .returned (.string (decB n)) ∧ Below w.heap.size w w' := by
  go_enter Tryz.func61, Tryz.ntmps61
  go_wp2_with fail
  refine (Any.strconv_FormatInt_10 fmtL n h0 h1 w ht).mono ?_
  rintro e w1 ⟨rfl, k, os, rfl⟩
  have hB := Lib.below_grow w.heap.size w (Nat.le_refl _) k os
  generalize Sort.grow (w.drewN k) os = W at *
  go_wp2
  go_returns
  exact ⟨rfl, hB⟩
end Go.Proofs.YtigldeccfpkdmaaGreatDoor
namespace Go.Proofs.YtigldeccfpkdmaaGreatDoor
open Go.RowKit
/-- An owner: Addr, Vol, File. -/
structure Ow where
  a : Int
  v : Int
  f : ByteArray
/-- A count: Owner, N. -/
structure Ct where
  o : Ow
  n : Int
def Ow.vs (o : Ow) : Array Value := #[.int .i64 o.a, .int .i64 o.v, .string o.f]
/-- The cells of a count. -/
def Ct.cs (c : Ct) : List Value := [.int .i64 c.o.a, .int .i64 c.o.v, .string c.o.f, .int .i64 c.n]
abbrev CtsAt := SlAt Ct.cs 4
theorem cts_at {w : World} {a : Option Addr} {n : Nat} {l : List Ct} (h : CtsAt w a n l) {k : Nat} (hk : k < n) :
    ∃ b o p, a = some ⟨b, o, none⟩ ∧ l[k]? = some p ∧ w.cell? ⟨b, o + k * 4, none⟩ = some (.int .i64 p.o.a) ∧ w.cell? ⟨b, o + k * 4 + 1, none⟩ = some (.int .i64 p.o.v) ∧ w.cell? ⟨b, o + k * 4 + 2, none⟩ = some (.string p.o.f) ∧ w.cell? ⟨b, o + k * 4 + 3, none⟩ = some (.int .i64 p.n) := by
  have hl : k < l.length := by rw [h.len]; exact hk
  have hx : l[k]? = some l[k] := by simp [hl]
  obtain ⟨b, o, ha, hc⟩ := h.cell k _ hx
  exact ⟨b, o, l[k], ha, hx, hc 0 _ rfl, hc 1 _ rfl, hc 2 _ rfl, hc 3 _ rfl⟩
/-! ### The order of texts -/
abbrev bl := Op.bytesLess
theorem bl_irrefl : ∀ x : List UInt8, bl x x = false
  | [] => rfl
  | a :: x => by simp [bl, Op.bytesLess]; exact bl_irrefl x
theorem bl_total : ∀ {x y : List UInt8}, bl x y = false → x ≠ y → bl y x = true
  | [], [], _, h => absurd rfl h
  | [], b :: y, h, _ => by simp [bl, Op.bytesLess] at h
  | a :: x, [], _, _ => rfl
  | a :: x, b :: y, h, hne => by
    simp only [bl, Op.bytesLess, Bool.or_eq_false_iff, Bool.and_eq_false_iff, decide_eq_false_iff_not] at h
    obtain ⟨h1, h2⟩ := h
    simp only [bl, Op.bytesLess, Bool.or_eq_true, Bool.and_eq_true, decide_eq_true_eq, beq_iff_eq]
    by_cases hab : a = b
    · subst hab
      right
      refine ⟨rfl, bl_total (h2.resolve_left (by simp)) (fun e => hne (by rw [e]))⟩
    · left
      have h1' : b.toNat ≤ a.toNat := by simpa [UInt8.lt_iff_toNat_lt] using h1
      have : a.toNat ≠ b.toNat := fun e => hab (UInt8.toNat_inj.1 e)
      rw [UInt8.lt_iff_toNat_lt]; omega
theorem bl_asymm : ∀ {x y : List UInt8}, bl x y = true → bl y x = false
  | [], [], h => by simp [bl, Op.bytesLess] at h
  | [], b :: y, _ => rfl
  | a :: x, [], h => by simp [bl, Op.bytesLess] at h
  | a :: x, b :: y, h => by
    simp only [bl, Op.bytesLess, Bool.or_eq_true, Bool.and_eq_true, decide_eq_true_eq, beq_iff_eq] at h
    simp only [bl, Op.bytesLess, Bool.or_eq_false_iff, Bool.and_eq_false_iff, decide_eq_false_iff_not, beq_eq_false_iff_ne]
    rcases h with h | ⟨rfl, h⟩
    · have h' := UInt8.lt_iff_toNat_lt.1 h
      refine ⟨fun k => by have := UInt8.lt_iff_toNat_lt.1 k; omega, .inl fun e => by subst e; omega⟩
    · exact ⟨fun k => by have := UInt8.lt_iff_toNat_lt.1 k; omega, .inr (bl_asymm h)⟩
theorem bl_trans : ∀ {x y z : List UInt8}, bl x y = true → bl y z = true → bl x z = true
  | [], [], _, h, _ => by simp [bl, Op.bytesLess] at h
  | [], b :: y, [], _, h => by simp [bl, Op.bytesLess] at h
  | [], b :: y, c :: z, _, _ => rfl
  | a :: x, [], _, h, _ => by simp [bl, Op.bytesLess] at h
  | a :: x, b :: y, [], _, h => by simp [bl, Op.bytesLess] at h
  | a :: x, b :: y, c :: z, h1, h2 => by
    simp only [bl, Op.bytesLess, Bool.or_eq_true, Bool.and_eq_true, decide_eq_true_eq, beq_iff_eq, UInt8.lt_iff_toNat_lt] at *
    rcases h1 with h1 | ⟨rfl, h1⟩
    · rcases h2 with h2 | ⟨rfl, h2⟩
      · left; omega
      · left; exact h1
    · rcases h2 with h2 | ⟨rfl, h2⟩
      · left; exact h2
      · right; exact ⟨rfl, bl_trans h1 h2⟩
theorem bytes_eq {x y : ByteArray} (h : x.toList = y.toList) : x = y := by
  rw [ByteArray.toList_eq, ByteArray.toList_eq] at h
  cases x; cases y
  congr 1
  exact Array.toList_inj.1 h
/-! ### The order of owners -/
def owEq (a b : Ow) : Bool := a.a == b.a && a.v == b.v && a.f.toList == b.f.toList
theorem owEq_iff {a b : Ow} : owEq a b = true ↔ a = b := by
  constructor
  · intro h
    simp [owEq] at h
    obtain ⟨⟨h1, h2⟩, h3⟩ := h
    cases a; cases b
    simp at *
    exact ⟨h1, h2, bytes_eq h3⟩
  · rintro rfl; simp [owEq]
def owLt (a b : Ow) : Bool := if a.a ≠ b.a then decide (a.a < b.a) else if a.v ≠ b.v then decide (a.v < b.v) else bl a.f.toList b.f.toList
theorem owLt_irrefl (a : Ow) : owLt a a = false := by simp [owLt, bl_irrefl]
theorem owLt_total {a b : Ow} (h : owLt a b = false) (hne : a ≠ b) : owLt b a = true := by
  by_cases h1 : a.a = b.a
  · by_cases h2 : a.v = b.v
    · have h3 : a.f.toList ≠ b.f.toList := fun e => hne (owEq_iff.1 (by simp [owEq, h1, h2, e]))
      simp only [owLt, h1, h2, ne_eq, not_true, if_false] at h ⊢
      exact bl_total h h3
    · simp only [owLt, h1, ne_eq, not_true, if_false, h2, not_false_eq_true, if_true, decide_eq_false_iff_not] at h
      simp only [owLt, h1, ne_eq, not_true, if_false, if_pos (Ne.symm h2), decide_eq_true_eq]; omega
  · simp only [owLt, ne_eq, h1, not_false_eq_true, if_true, decide_eq_false_iff_not] at h
    simp only [owLt, ne_eq, if_pos (Ne.symm h1), decide_eq_true_eq]; omega
theorem owLt_asymm {a b : Ow} (h : owLt a b = true) : owLt b a = false := by
  by_cases h1 : a.a = b.a
  · by_cases h2 : a.v = b.v
    · simp only [owLt, h1, h2, ne_eq, not_true, if_false] at h ⊢
      exact bl_asymm h
    · simp only [owLt, h1, ne_eq, not_true, if_false, h2, not_false_eq_true, if_true, decide_eq_true_eq] at h
      simp only [owLt, h1, ne_eq, not_true, if_false, if_pos (Ne.symm h2), decide_eq_false_iff_not]; omega
  · simp only [owLt, ne_eq, h1, not_false_eq_true, if_true, decide_eq_true_eq] at h
    simp only [owLt, ne_eq, if_pos (Ne.symm h1), decide_eq_false_iff_not]; omega
theorem owLt_iff {a b : Ow} : owLt a b = true ↔ a.a < b.a ∨ (a.a = b.a ∧ (a.v < b.v ∨ (a.v = b.v ∧ bl a.f.toList b.f.toList = true))) := by
  unfold owLt
  split
  · rename_i h; simp; omega
  · rename_i h
    split
    · rename_i k; simp; omega
    · rename_i k
      simp at h k
      constructor
      · intro e; exact .inr ⟨h, .inr ⟨k, e⟩⟩
      · rintro (e | ⟨_, e | ⟨_, e⟩⟩)
        · omega
        · omega
        · exact e
theorem owLt_trans {a b c : Ow} (h : owLt a b = true) (k : owLt b c = true) : owLt a c = true := by
  rw [owLt_iff] at *
  rcases h with h | ⟨h1, h | ⟨h2, h⟩⟩ <;> rcases k with k | ⟨k1, k | ⟨k2, k⟩⟩
  case inr.inr.inr.inr => exact .inr ⟨by omega, .inr ⟨by omega, bl_trans h k⟩⟩
  case inl.inl => exact .inl (by omega)
  case inl.inr.inl => exact .inl (by omega)
  case inl.inr.inr => exact .inl (by omega)
  case inr.inl.inl => exact .inl (by omega)
  case inr.inr.inl => exact .inl (by omega)
  case inr.inl.inr.inl => exact .inr ⟨by omega, .inl (by omega)⟩
  case inr.inl.inr.inr => exact .inr ⟨by omega, .inl (by omega)⟩
  case inr.inr.inr.inl => exact .inr ⟨by omega, .inl (by omega)⟩
/-! ### cmp.Compare, cmp.Or -/
def cmpI (x y : Int) : Int := if x < y then -1 else if y < x then 1 else 0
def cmpS (x y : ByteArray) : Int := if bl x.toList y.toList = true then -1 else if x.toList = y.toList then 0 else 1
def or3 (x y z : Int) : Int := if x ≠ 0 then x else if y ≠ 0 then y else z
def ordO (a b : Ow) : Int := or3 (cmpI a.a b.a) (cmpI a.v b.v) (cmpS a.f b.f)
theorem ordO_lt (a b : Ow) : decide (ordO a b < 0) = owLt a b := by
  rw [Bool.eq_iff_iff, owLt_iff, decide_eq_true_eq]
  unfold ordO or3 cmpI cmpS
  rcases Int.lt_trichotomy a.a b.a with h | h | h
  · rw [if_pos h, if_pos (by decide)]; constructor
    · intro _; exact .inl h
    · intro _; decide
  · rw [h, if_neg (Int.lt_irrefl _), if_neg (Int.lt_irrefl _), if_neg (by decide)]
    rcases Int.lt_trichotomy a.v b.v with k | k | k
    · rw [if_pos k, if_pos (by decide)]; constructor
      · intro _; exact .inr ⟨rfl, .inl k⟩
      · intro _; decide
    · rw [k, if_neg (Int.lt_irrefl _), if_neg (Int.lt_irrefl _), if_neg (by decide)]
      cases h5 : bl a.f.toList b.f.toList
      · constructor
        · intro e
          rw [if_neg (by decide)] at e
          split at e <;> omega
        · rintro (e | ⟨_, e | ⟨_, e⟩⟩)
          · omega
          · omega
          · cases e
      · constructor
        · intro _; exact .inr ⟨rfl, .inr ⟨rfl, rfl⟩⟩
        · intro _; rw [if_pos rfl]; decide
    · rw [if_neg (show ¬ a.v < b.v by omega), if_pos k, if_pos (by decide)]; constructor
      · intro e; omega
      · rintro (e | ⟨_, e | ⟨_, e⟩⟩) <;> omega
  · rw [if_neg (show ¬ a.a < b.a by omega), if_pos h, if_pos (by decide)]; constructor
    · intro e; omega
    · rintro (e | ⟨e, _⟩) <;> omega
end Go.Proofs.YtigldeccfpkdmaaGreatDoor
