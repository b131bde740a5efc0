/- The variables that the program reads where it reads a text; numbers and flags. The library's cutting of texts, and ours: plain. A contract of the library, laid at this program. A contract of the library, laid at this program. A reader in memory: what is ahead, and what is taken. -/
import Derived.Test.YtigldeccfpkdmaaGreatDoorCReadPoolx09
import Derived.Test.YtigldeccfpkdmaaGreatDoorCReadPoolx15
import Derived.Test.YtigldeccfpkdmaaGreatDoorCReadPoolx11
import Derived.Test.YtigldeccfpkdmaaGreatDoorCReadPoolx10
import Derived.Lib.Split
import Derived.Test.YtigldeccfpkdmaaGreatDoorCReadPoolx08
import Derived.Test.YtigldeccfpkdmaaGreatDoorProg
import Derived.Shelf.Strings.Prefix
import Derived.Shelf.Strings.SplitShaped
import Derived.Test.YtigldeccfpkdmaaGreatDoorCReadPoolx01
namespace Go.Proofs.YtigldeccfpkdmaaGreatDoor
open Go Go.RowKit Go.BigFrame
/-- What the variables hold that reading a text reads. -/
structure Glb (w : World) : Prop where
  tab : TabP w
  syn : ∃ tp p, w.cell? ⟨3, 0, none⟩ = some (.iface tp p)
  err : ∃ tp p, w.cell? ⟨0, 0, none⟩ = some (.iface tp p)
  mx : ∃ m, w.cell? ⟨1, 0, none⟩ = some (.int .i64 m)
  sz : 9 ≤ w.heap.size
theorem cell_low {w w' : World} {B g : Nat} {v : Value} (h : w.cell? ⟨g, 0, none⟩ = some v) (hb : Below B w w') (hg : g < B) : w'.cell? ⟨g, 0, none⟩ = some v := by
  unfold World.cell? at h ⊢
  simp only at h ⊢
  rw [hb.block g hg]
  exact h
theorem Glb.low {w w' : World} {B : Nat} (h : Glb w) (hb : Below B w w') (hg : 9 ≤ B) : Glb w' := by
  obtain ⟨t1, p1, h1⟩ := h.syn
  obtain ⟨t2, p2, h2⟩ := h.err
  obtain ⟨m, h3⟩ := h.mx
  exact ⟨tab_low h.tab hb hg, ⟨t1, p1, cell_low h1 hb (by omega)⟩, ⟨t2, p2, cell_low h2 hb (by omega)⟩, ⟨m, cell_low h3 hb (by omega)⟩, Nat.le_trans h.sz hb.size⟩
theorem Glb.below {w w' : World} (h : Glb w) (hb : Below w.heap.size w w') : Glb w' := h.low hb h.sz
theorem grown_low {w w' : World} {B b : Nat} (hg : w.grownBy w' (some b)) (h1 : B ≤ b) (h2 : B ≤ w.heap.size) : Below B w w' := (Below.refl B w).grown hg h2 (fun k e => by cases e; exact h1)
theorem Glb.grown {w w' : World} {b : Nat} (h : Glb w) (hg : w.grownBy w' (some b)) (hb : 9 ≤ b) : Glb w' := h.low (grown_low hg hb h.sz) (Nat.le_refl _)
theorem trim_le (s : By) : (trimN s).length ≤ s.length := by
  unfold trimN Lib.trimPrefix
  split <;> simp
/-- A panic that the program itself raises. -/
def Pan (e : Ending) : Prop := ∃ tp p, e = .panicked [{ v := .iface tp p, recovered := false }]
set_option maxHeartbeats 4000000 in
set_option maxRecDepth 100000 in
theorem impl_number (s : ByteArray) (w : World) (hs : s.size ≤ 100000) (hG : Glb w) :
    Calls Tryz.prog 67 #[.string s] w fun e w' => e = .returned (intV (numP s.data.toList)) ∧ Below w.heap.size w w' := by
  obtain ⟨t, ht⟩ : ∃ t : ByteArray, Hid ((⟨(trimN s.data.toList).toArray⟩ : ByteArray) = t) := ⟨_, rfl⟩
  have htl : t.size = (trimN s.data.toList).length := by rw [← ht.out, Lib.size_eq]
  have hts : t.size ≤ 100000 := by
    have h1 := trim_le s.data.toList
    have h2 := Lib.size_eq s
    omega
  obtain ⟨V, hV⟩ : ∃ V, Hid (intV (numP s.data.toList) = V) := ⟨_, rfl⟩
  rw [hV.out]
  have q1 : Calls Tryz.prog 133 #[.string s, .string ⟨#[45]⟩] w fun e w' => e = .returned (.string t) ∧ w' = w := by
    rw [← ht.out]
    exact Any.strings_TrimPrefix tpL s ⟨#[45]⟩ w
  go_enter Tryz.func67, Tryz.ntmps67
  go_wp2_with fail
  refine q1.mono ?_
  rintro e w1 ⟨rfl, hw1⟩
  obtain rfl : w = w1 := hw1.symm
  clear q1
  rcases Nat.lt_or_ge 10 t.size with h10 | h10
  · have hv : V = .tuple #[.int .i64 0, .bool false] := by rw [← hV.out, numP_long (by omega)]; rfl
    subst hv
    go_wp2
    go_returns
    exact ⟨rfl, Below.refl _ _⟩
  · have hsh := parse_short (s := s.data.toList) (by omega)
    cases ha : Lib.atoi s.data.toList with
    | none =>
      have hv : V = .tuple #[.int .i64 0, .bool false] := by rw [← hV.out, numP_bad ha]; rfl
      subst hv
      rw [ha] at hsh
      obtain ⟨tp, p, hy⟩ := hG.syn
      go_wp2_with fail
      refine (Any.strconv_ParseInt_10_at64_syntax piL s (by omega) hsh (.iface tp p) w hy (.inr ⟨tp, p, rfl⟩)).mono ?_
      rintro e w1 ⟨N, rfl, _, _, hB⟩
      go_wp2
      go_returns
      exact ⟨rfl, hB⟩
    | some n =>
      rw [ha] at hsh
      have hb := Lib.parseIntB_bounds hsh
      rw [show (2 ^ (64 - 1) : Nat) = 9223372036854775808 by decide] at hb
      have q2 := fun (u : World) (hu : Below w.heap.size w u) => impl_decimal n u (by omega) (by omega) (hG.below hu).tab
      clear hb
      go_wp2_with fail
      refine (Any.strconv_ParseInt_10_at64_ok piL s (by omega) n hsh w).mono ?_
      rintro e w1 ⟨rfl, hw1⟩
      have hB : Below w.heap.size w w1 := by
        rcases hw1 with rfl | ⟨t, rfl⟩
        · exact Below.refl _ _
        · exact Lib.bytesWorld_below _ _ _
      clear hw1
      go_wp2_with fail
      refine (q2 w1 hB).mono ?_
      rintro e w2 ⟨rfl, hB2⟩
      replace hB2 := chain hB hB2
      by_cases hd : Lib.itoa n = s.data.toList
      · have hv : V = .tuple #[.int .i64 n, .bool true] := by rw [← hV.out, numP_good (by omega) hd]; rfl
        subst hv
        have he : (decB n).toList = s.toList := by rw [ByteArray.toList_eq, ByteArray.toList_eq, dec_data, hd]
        go_wp2
        go_returns
        exact ⟨rfl, hB2⟩
      · have hv : V = .tuple #[.int .i64 0, .bool false] := by rw [← hV.out, numP_other ha hd]; rfl
        subst hv
        have he : ((decB n).toList == s.toList) = false := by rw [beq_eq_false_iff_ne, ByteArray.toList_eq, ByteArray.toList_eq, dec_data]; exact hd
        go_wp2
        go_returns
        exact ⟨rfl, hB2⟩
set_option maxHeartbeats 2000000 in
theorem impl_mustNumber (s : ByteArray) (w : World) (hs : s.size ≤ 100000) (hG : Glb w) :
    Calls Tryz.prog 95 #[.string s] w fun e w' => (match numP s.data.toList with
      | none => Pan e
      | some n => e = .returned (.int .i64 n)) ∧ Below w.heap.size w w' := by
  have q1 := impl_number s w hs hG
  cases hn : numP s.data.toList with
  | none =>
    rw [hn] at q1
    go_enter Tryz.func95, Tryz.ntmps95
    go_wp2_with fail
    refine q1.mono ?_
    rintro e w1 ⟨rfl, hB⟩
    obtain ⟨tp, p, hy⟩ := (hG.below hB).err
    unfold intV
    go_wp2
    exact ⟨rfl, ⟨tp, p, rfl⟩, hB⟩
  | some n =>
    rw [hn] at q1
    go_enter Tryz.func95, Tryz.ntmps95
    go_wp2_with fail
    refine q1.mono ?_
    rintro e w1 ⟨rfl, hB⟩
    unfold intV
    go_wp2
    go_returns
    exact ⟨rfl, hB⟩
set_option maxHeartbeats 2000000 in
theorem impl_mustFlag (s : ByteArray) (w : World) (hG : Glb w) :
    Calls Tryz.prog 162 #[.string s] w fun e w' => (match flagP s.data.toList with
      | none => Pan e
      | some b => e = .returned (.bool b)) ∧ w' = w := by
  obtain ⟨tp, p, hy⟩ := hG.err
  by_cases h0 : s.data.toList = [48]
  · have hf : flagP s.data.toList = some false := by rw [flagP, if_pos h0]
    rw [hf]
    have e0 : s.toList = [48] := by rw [ByteArray.toList_eq, h0]
    clear hf h0
    go_enter Tryz.func162, Tryz.ntmps162
    go_wp2
    go_returns
    exact ⟨rfl, rfl⟩
  · by_cases h1 : s.data.toList = [49]
    · have hf : flagP s.data.toList = some true := by rw [flagP, if_neg h0, if_pos h1]
      rw [hf]
      have e0 : s.toList = [49] := by rw [ByteArray.toList_eq, h1]
      clear hf h0 h1
      go_enter Tryz.func162, Tryz.ntmps162
      go_wp2
      go_returns
      exact ⟨rfl, rfl⟩
    · have hf : flagP s.data.toList = none := by rw [flagP, if_neg h0, if_neg h1]
      rw [hf]
      have e0 : (s.toList == [48]) = false := by rw [beq_eq_false_iff_ne, ByteArray.toList_eq]; exact h0
      have e1 : (s.toList == [49]) = false := by rw [beq_eq_false_iff_ne, ByteArray.toList_eq]; exact h1
      clear hf h0 h1
      go_enter Tryz.func162, Tryz.ntmps162
      go_wp2
      exact ⟨rfl, ⟨tp, p, rfl⟩, rfl⟩
end Go.Proofs.YtigldeccfpkdmaaGreatDoor
namespace Go.Proofs.YtigldeccfpkdmaaGreatDoor
open Go
theorem index_cut (c : UInt8) : ∀ l : By, Lib.index l [c] = match cutB c l with
    | none => -1
    | some q => (q.1.length : Int)
  | [] => rfl
  | x :: l => by
    rw [Lib.index, cutB, index_cut c l]
    by_cases h : x = c
    · subst h; simp
    · have h2 : ¬ c = x := fun e => h e.symm
      rw [if_neg (by simp [h2]), if_neg h]
      cases hc : cutB c l with
      | none => simp
      | some q =>
        simp only [Option.map_some, List.length_cons]
        rw [if_neg (by first | (simp; done) | (simp; omega))]
        simp
/-- Cut at the first k bytes c. -/
def splC (c : UInt8) : Nat → By → List By
  | 0, l => [l]
  | k + 1, l => match cutB c l with
    | none => [l]
    | some q => q.1 :: splC c k q.2
theorem splC_wds : ∀ (k : Nat) (l : By), splC 32 k l = wdsN k l
  | 0, l => rfl
  | k + 1, l => by
    rw [splC, wdsN]
    cases cutB 32 l with
    | none => rfl
    | some q => simp only; rw [splC_wds k q.2]
theorem splitK_spl (c : UInt8) : ∀ (k : Nat) (l : By), Lib.splitK [c] 0 k l = splC c k l
  | 0, l => rfl
  | k + 1, l => by
    rw [Lib.splitK, splC, index_cut c l]
    cases hc : cutB c l with
    | none => simp
    | some q =>
      obtain ⟨h1, _⟩ := cutB_some (a := q.1) (b := q.2) hc
      simp only
      rw [if_neg (by first | (simp; done) | (simp; omega)), splitK_spl c k]
      have e1 : l.take ((q.1.length : Int).toNat + 0) = q.1 := by rw [h1]; simp
      have e2 : l.drop ((q.1.length : Int).toNat + [c].length) = q.2 := by
        rw [h1]
        have : (q.1.length : Int).toNat + [c].length = (q.1 ++ [c]).length := by simp
        rw [this, show q.1 ++ c :: q.2 = (q.1 ++ [c]) ++ q.2 by simp, List.drop_left]
      rw [e1, e2]
theorem cut_short {c : UInt8} {l : By} {q : By × By} (h : cutB c l = some q) : q.2.length < l.length := by
  obtain ⟨h1, _⟩ := cutB_some (a := q.1) (b := q.2) h
  rw [h1]; simp; omega
theorem splC_fuel (c : UInt8) : ∀ (n k k' : Nat) (l : By), l.length ≤ n → l.length ≤ k → l.length ≤ k' → splC c k l = splC c k' l
  | 0, k, k', l, h, _, _ => by
    obtain rfl := List.eq_nil_of_length_eq_zero (Nat.le_zero.1 h)
    cases k <;> cases k' <;> rfl
  | n + 1, k, k', l, h, h1, h2 => by
    cases hc : cutB c l with
    | none =>
      have : ∀ k, splC c k l = [l] := fun k => by
        cases k with
        | zero => rfl
        | succ k => rw [splC, hc]
      rw [this, this]
    | some q =>
      have := cut_short hc
      obtain ⟨k, rfl⟩ : ∃ j, k = j + 1 := ⟨k - 1, by omega⟩
      obtain ⟨k', rfl⟩ : ∃ j, k' = j + 1 := ⟨k' - 1, by omega⟩
      rw [splC, splC, hc]
      simp only
      rw [splC_fuel c n k k' q.2 (by omega) (by omega) (by omega)]
theorem split_all (c : UInt8) : ∀ (n : Nat) (l : By), l.length ≤ n → Lib.splitK [c] 0 (Lib.count l [c]) l = splC c n l
  | 0, l, h => by
    obtain rfl := List.eq_nil_of_length_eq_zero (Nat.le_zero.1 h)
    rfl
  | n + 1, l, h => by
    rw [splC]
    cases hc : cutB c l with
    | none => rw [Lib.count_miss (by rw [index_cut, hc])]; rfl
    | some q =>
      have hi := index_cut c l
      rw [hc] at hi
      obtain ⟨h1, _⟩ := cutB_some (a := q.1) (b := q.2) hc
      have e2 : l.drop (q.1.length + [c].length) = q.2 := by
        rw [h1]
        have : q.1.length + [c].length = (q.1 ++ [c]).length := by simp
        rw [this, show q.1 ++ c :: q.2 = (q.1 ++ [c]) ++ q.2 by simp, List.drop_left]
      rw [Lib.count_hit (by simp) hi, e2, Nat.add_comm, splitK_spl, splC, hc]
      simp only
      rw [← splitK_spl, split_all c n q.2 (by have := cut_short hc; omega)]
theorem lns_split : ∀ (k : Nat) (l : By), l.length ≤ k → (∀ ls, lnsB k l = some ls → splC 10 k l = ls ++ [[]]) ∧ (lnsB k l = none → ∃ a x, splC 10 k l = a ++ [x] ∧ x ≠ [])
  | 0, l, h => by
    obtain rfl := List.eq_nil_of_length_eq_zero (Nat.le_zero.1 h)
    exact ⟨fun ls h => by obtain rfl := Option.some.inj h; rfl, fun h => by cases h⟩
  | k + 1, l, h => by
    by_cases hl : l = []
    · subst hl
      exact ⟨fun ls h => by obtain rfl := Option.some.inj h; rfl, fun h => by cases h⟩
    · rw [lnsB, if_neg hl, splC]
      cases hc : cutB 10 l with
      | none => exact ⟨fun ls h => (by cases h), fun _ => ⟨[], l, rfl, hl⟩⟩
      | some q =>
        have := cut_short hc
        obtain ⟨h1, h2⟩ := lns_split k q.2 (by omega)
        simp only
        cases hr : lnsB k q.2 with
        | none =>
          obtain ⟨a, x, e, hx⟩ := h2 hr
          exact ⟨fun ls h => (by cases h), fun _ => ⟨q.1 :: a, x, by rw [e]; rfl, hx⟩⟩
        | some r =>
          exact ⟨fun ls h => by obtain rfl := Option.some.inj h; rw [h1 r hr]; rfl, fun h => by cases h⟩
theorem map_bA {l : List ByteArray} {m : List By} (h : l.map (·.data.toList) = m) : l = m.map bA := by
  subst h
  rw [List.map_map]
  have : (bA ∘ fun x : ByteArray => x.data.toList) = id := by funext x; exact bA_data x
  rw [this, List.map_id]
theorem splitB_words (s : ByteArray) (k : Nat) : Lib.splitB ⟨#[32]⟩ 0 (min k s.size) s = (wdsN k s.data.toList).map bA := by
  refine map_bA ?_
  rw [Lib.splitB_data]
  show Lib.splitK [32] 0 _ _ = _
  rw [splitK_spl, ← splC_wds]
  have hs : s.size = s.data.toList.length := by first | (simp; done) | (simp; rfl)
  by_cases hk : k ≤ s.size
  · rw [Nat.min_eq_left hk]
  · rw [Nat.min_eq_right (by omega)]
    exact splC_fuel 32 _ _ _ _ (Nat.le_refl _) (by omega) (by omega)
theorem splitB_lines (s : ByteArray) : Lib.splitB ⟨#[10]⟩ 0 (Lib.countB s ⟨#[10]⟩) s = (splC 10 s.data.toList.length s.data.toList).map bA := by
  refine map_bA ?_
  rw [Lib.splitB_data]
  exact split_all 10 _ _ (Nat.le_refl _)
end Go.Proofs.YtigldeccfpkdmaaGreatDoor
namespace Go.Proofs.YtigldeccfpkdmaaGreatDoor
open Go.Shelf Go.RowKit Go.Lib
def hpL_ren : Go.Shelf.Ren := ⟨fun | 99 => 161 | 206 => 202 | n => n, fun | 9 => 9 | 4 => 4 | 3 => 3 | n => n, fun | n => n⟩
set_option maxRecDepth 100000 in
theorem hpL : Lays.n99 Tryz.prog hpL_ren where
  mixed := by kernel_rfl
  f99 := Tryz.func161.trans (congrArg some (by kernel_rfl))
  f206 := Tryz.func202.trans (congrArg some (by kernel_rfl))
  t3 := Tryz.underlying3
  a3 := Tryz.isAgg3
  z3 := Tryz.sizeOf3
  v3 := Tryz.zeroValue3
  t4 := Tryz.underlying4
  a4 := Tryz.isAgg4
  z4 := Tryz.sizeOf4
  v4 := Tryz.zeroValue4
  t9 := Tryz.underlying9
  a9 := Tryz.isAgg9
  z9 := Tryz.sizeOf9
  v9 := Tryz.zeroValue9
end Go.Proofs.YtigldeccfpkdmaaGreatDoor
namespace Go.Proofs.YtigldeccfpkdmaaGreatDoor
open Go.Shelf Go.RowKit Go.Lib
def snL_ren : Go.Shelf.Ren := ⟨fun | 147 => 160 | 221 => 159 | 268 => 199 | 138 => 200 | 143 => 201 | 195 => 231 | 197 => 232 | 218 => 233 | 219 => 191 | 260 => 258 | 217 => 222 | 225 => 223 | 224 => 224 | 267 => 225 | 266 => 251 | 314 => 252 | n => n, fun | 9 => 9 | 3 => 3 | 31 => 79 | 4 => 4 | 0 => 0 | 105 => 288 | 21 => 21 | 5 => 5 | 46 => 172 | 119 => 326 | 139 => 329 | 138 => 328 | 146 => 304 | 51 => 98 | n => n, fun | 1 => 1 | 3 => 5 | 4 => 6 | n => n⟩
set_option maxRecDepth 100000 in
theorem snL : Lays.n147 Tryz.prog snL_ren where
  mixed := by kernel_rfl
  f138 := Tryz.func200.trans (congrArg some (by kernel_rfl))
  f143 := Tryz.func201.trans (congrArg some (by kernel_rfl))
  f147 := Tryz.func160.trans (congrArg some (by kernel_rfl))
  f195 := Tryz.func231.trans (congrArg some (by kernel_rfl))
  f197 := Tryz.func232.trans (congrArg some (by kernel_rfl))
  f217 := Tryz.func222.trans (congrArg some (by kernel_rfl))
  f218 := Tryz.func233.trans (congrArg some (by kernel_rfl))
  f219 := Tryz.func191.trans (congrArg some (by kernel_rfl))
  f221 := Tryz.func159.trans (congrArg some (by kernel_rfl))
  f224 := Tryz.func224.trans (congrArg some (by kernel_rfl))
  f225 := Tryz.func223.trans (congrArg some (by kernel_rfl))
  f260 := Tryz.func258.trans (congrArg some (by kernel_rfl))
  f266 := Tryz.func251.trans (congrArg some (by kernel_rfl))
  f267 := Tryz.func225.trans (congrArg some (by kernel_rfl))
  f268 := Tryz.func199.trans (congrArg some (by kernel_rfl))
  f314 := Tryz.func252.trans (congrArg some (by kernel_rfl))
  t0 := Tryz.underlying0
  a0 := Tryz.isAgg0
  z0 := Tryz.sizeOf0
  v0 := Tryz.zeroValue0
  t3 := Tryz.underlying3
  a3 := Tryz.isAgg3
  z3 := Tryz.sizeOf3
  v3 := Tryz.zeroValue3
  t4 := Tryz.underlying4
  a4 := Tryz.isAgg4
  z4 := Tryz.sizeOf4
  v4 := Tryz.zeroValue4
  t5 := Tryz.underlying5
  a5 := Tryz.isAgg5
  z5 := Tryz.sizeOf5
  v5 := Tryz.zeroValue5
  t9 := Tryz.underlying9
  a9 := Tryz.isAgg9
  z9 := Tryz.sizeOf9
  v9 := Tryz.zeroValue9
  t21 := Tryz.underlying21
  a21 := Tryz.isAgg21
  z21 := Tryz.sizeOf21
  v21 := Tryz.zeroValue21
  t31 := Tryz.underlying79
  a31 := Tryz.isAgg79
  z31 := Tryz.sizeOf79
  v31 := Tryz.zeroValue79
  t46 := Tryz.underlying172
  a46 := Tryz.isAgg172
  z46 := Tryz.sizeOf172
  v46 := Tryz.zeroValue172
  t51 := Tryz.underlying98
  a51 := Tryz.isAgg98
  z51 := Tryz.sizeOf98
  v51 := Tryz.zeroValue98
  t105 := Tryz.underlying288
  a105 := Tryz.isAgg288
  z105 := Tryz.sizeOf288
  v105 := Tryz.zeroValue288
  t119 := Tryz.underlying326
  a119 := Tryz.isAgg326
  z119 := Tryz.sizeOf326
  t138 := Tryz.underlying328
  a138 := Tryz.isAgg328
  z138 := Tryz.sizeOf328
  v138 := Tryz.zeroValue328
  t139 := Tryz.underlying329
  a139 := Tryz.isAgg329
  z139 := Tryz.sizeOf329
  v139 := Tryz.zeroValue329
  t146 := Tryz.underlying304
  a146 := Tryz.isAgg304
  z146 := Tryz.sizeOf304
  v146 := Tryz.zeroValue304
  g1 := by kernel_rfl
  g3 := by kernel_rfl
  g4 := by kernel_rfl
end Go.Proofs.YtigldeccfpkdmaaGreatDoor
namespace Go.Proofs.YtigldeccfpkdmaaGreatDoor
open Go Go.RowKit Go.BigFrame
abbrev tRd : TypeId := 81
def strV (l : List By) : List Value := l.map fun x => Value.string (bA x)
/-- A reader: its lines lie in a block of texts. -/
structure RdAt (w : World) (rb : Nat) (ls : List By) : Prop where
  out : ∃ lb o lc c, Blk w rb #[.slice (some ⟨lb, o, none⟩) ls.length lc] tRd ∧ Blk w lb c 9 ∧ (c.toList.drop o).take ls.length = strV ls ∧ ls.length + 1 ≤ lc ∧ lc ≤ 100001 ∧ ∀ l ∈ ls, l.length ≤ 60000
theorem strV_at {ls : List By} {i : Nat} {l : By} (h : ls[i]? = some l) : (strV ls)[i]? = some (.string (bA l)) := by simp [strV, h]
theorem RdAt.below {w w' : World} {rb : Nat} {ls : List By} (h : RdAt w rb ls) (hb : Below w.heap.size w w') : RdAt w' rb ls := by
  obtain ⟨lb, o, lc, c, h1, h2, r⟩ := h.out
  exact ⟨lb, o, lc, c, h1.below hb, h2.below hb, r⟩
theorem RdAt.ty {w w' : World} {rb : Nat} {ls : List By} {row : Option Nat} {t : TypeId} (h : RdAt w rb ls) (hg : w.grownBy w' row) (hr : RowTy w row t) (h1 : tRd ≠ t) (h2 : 9 ≠ t) : RdAt w' rb ls := by
  obtain ⟨lb, o, lc, c, e1, e2, r⟩ := h.out
  exact ⟨lb, o, lc, c, e1.ty hg hr h1, e2.ty hg hr h2, r⟩
theorem RdAt.lt {w : World} {rb : Nat} {ls : List By} (h : RdAt w rb ls) : rb < w.heap.size := by
  obtain ⟨lb, o, lc, c, h1, _⟩ := h.out
  exact h1.lt
def lnV : Option Value → Nat
  | some (.slice _ n _) => n
  | _ => 0
theorem RdAt.len {w : World} {rb : Nat} {ls : List By} (h : RdAt w rb ls) : lnV (w.cell? ⟨rb, 0, none⟩) = ls.length := by
  obtain ⟨lb, o, lc, c, h1, _⟩ := h.out
  have := h1.cell 0
  simp at this
  rw [this]
  rfl
def ahL (wd : By) : List By → Bool
  | [] => false
  | l :: _ => ahP wd l
/-- A block of one's own has grown, or nothing has: what lay there is as it was. -/
theorem gstep {w a b : World} {rb : Nat} {row : Option Nat} (h : w.grownBy a (some rb)) (h' : a.grownBy b row) (hr : ∀ k, row = some k → w.heap.size ≤ k ∨ k = rb) : w.grownBy b (some rb) := by
  obtain ⟨o1, t1, p1, s1, b1⟩ := h
  obtain ⟨o2, t2, p2, s2, b2⟩ := h'
  refine ⟨o2.trans o1, t2.trans t1, p2.trans p1, Nat.le_trans s1 s2, fun k hk hne => ?_⟩
  rw [b2 k (Nat.lt_of_lt_of_le hk s1) (fun e => by rcases hr k e.symm with q | q; omega; exact hne (by rw [q])), b1 k hk hne]
theorem gbelow {w a b : World} {rb : Nat} (h : w.grownBy a (some rb)) (h' : Below a.heap.size a b) : w.grownBy b (some rb) :=
  gstep (row := none) h ⟨h'.os, h'.tape, h'.output, h'.size, fun k hk _ => h'.block k hk⟩ (fun k e => by cases e)
set_option maxHeartbeats 2000000 in
set_option maxRecDepth 100000 in
theorem impl_ahead (rb : Nat) (ls : List By) (wd : ByteArray) (w : World) (h : RdAt w rb ls) (hwd : wd.size ≤ 100) :
    Calls Tryz.prog 96 #[.pointer (some ⟨rb, 0, none⟩), .string wd] w fun e w' => e = .returned (.bool (ahL wd.data.toList ls)) ∧ w' = w := by
  obtain ⟨lb, o, lc, c, h1, h2, h3, h4, h5, h6⟩ := h.out
  have c0 := h1.cell 0
  cases ls with
  | nil =>
    simp only [List.length_nil] at c0
    go_enter Tryz.func96, Tryz.ntmps96
    go_wp2
    go_returns
    exact ⟨rfl, rfl⟩
  | cons l r =>
    have c1 : w.cell? ⟨lb, o, none⟩ = some (.string (bA l)) := by
      rw [h2.cell]
      have := strV_at (ls := l :: r) (i := 0) rfl
      rw [← h3] at this
      simpa using this
    obtain ⟨V, hV⟩ : ∃ V, Hid (ahL wd.data.toList (l :: r) = V) := ⟨_, rfl⟩
    rw [hV.out]
    have q := Any.strings_HasPrefix hpL (bA l) (wd ++ ⟨#[32]⟩) w
    have e : Lib.hasPrefix (bA l).data.toList (wd ++ ⟨#[32]⟩ : ByteArray).data.toList = V := by
      rw [← hV.out]
      simp [ahL, ahP, Lib.hasPrefix, bA_list]
    rw [e] at q
    clear e
    have hn : (0 : Int) < ((l :: r).length : Nat) := by simp only [List.length_cons]; omega
    generalize (l :: r).length = n at *
    go_enter Tryz.func96, Tryz.ntmps96
    go_wp2_with fail
    refine q.mono ?_
    rintro e w1 ⟨rfl, rfl⟩
    go_wp2
    go_returns
    exact ⟨rfl, rfl⟩
theorem grown_noneB' {w w' : World} {row : Option Nat} (h : Below w.heap.size w w') : w.grownBy w' row := ⟨h.os, h.tape, h.output, h.size, fun k hk _ => h.block k hk⟩
/-- The words behind the first one of the next line. -/
def takP (wd : By) (k : Nat) : List By → Option (List By × List By)
  | [] => none
  | l :: r => if ahP wd l = true then (if (wdsN k l).length = k + 1 then some ((wdsN k l).tail, r) else none) else none
theorem wdsN_len : ∀ (k : Nat) (l : By), (wdsN k l).length ≤ k + 1 ∧ (wdsN k l).length ≤ l.length + 1
  | 0, l => by simp [wdsN]
  | k + 1, l => by
    rw [wdsN]
    cases hc : cutB 32 l with
    | none => simp
    | some q =>
      have h1 := wdsN_len k q.2
      have h2 := cut_short hc
      simp only [List.length_cons]
      omega
theorem infT9 : (Tryz.prog.info? 9).map (fun i => (i.zero, i.size, i.bytes)) = some (some (.string ByteArray.empty), 1, 16) := by kernel_rfl
theorem cellsOf_at {ws : List ByteArray} {N i : Nat} {x : ByteArray} (h : ws[i]? = some x) : (Lib.cellsOf ws N)[i]? = some (.string x) := by
  have hi : i < ws.length := (List.getElem?_eq_some_iff.1 h).1
  unfold Lib.cellsOf
  rw [List.getElem?_toArray, List.getElem?_append_left (by simpa using hi)]
  simp [h]
set_option maxHeartbeats 4000000 in
set_option maxRecDepth 100000 in
theorem impl_take (rb : Nat) (ls : List By) (wd : ByteArray) (k : Nat) (w : World) (h : RdAt w rb ls) (hG : Glb w) (hrb : 9 ≤ rb) (hwd : wd.size ≤ 100) (hk1 : 1 ≤ k) (hk : k ≤ 4) :
    Calls Tryz.prog 94 #[.pointer (some ⟨rb, 0, none⟩), .string wd, .int .i64 k] w fun e w' => (match takP wd.data.toList k ls with
      | none => Pan e
      | some q => ∃ wb wc, e = .returned (.slice (some ⟨wb, 1, none⟩) k wc) ∧ q.1.length = k ∧ (∀ i x, q.1[i]? = some x → w'.cell? ⟨wb, i + 1, none⟩ = some (.string (bA x)) ∧ (bA x).size ≤ 60000) ∧ k ≤ wc ∧ wc ≤ 100001 ∧ (∃ c, Blk w' wb c 9) ∧ RdAt w' rb q.2) ∧ w.grownBy w' (some rb) := by
  have hA := impl_ahead rb ls wd w h hwd
  obtain ⟨lb, o, lc, c, h1, h2, h3, h4, h5, h6⟩ := h.out
  obtain ⟨tp, pe, hE⟩ := hG.err
  cases ha : ahL wd.data.toList ls with
  | false =>
    have ht : takP wd.data.toList k ls = none := by
      cases ls with
      | nil => rfl
      | cons l r =>
        change ahP _ l = _ at ha
        show (if ahP wd.data.toList l = true then _ else none) = _
        rw [ha]; rfl
    rw [ht]
    rw [ha] at hA
    go_enter Tryz.func94, Tryz.ntmps94
    go_wp2_with fail
    refine hA.mono ?_
    rintro e w1 ⟨rfl, rfl⟩
    go_wp2
    exact ⟨rfl, ⟨tp, pe, rfl⟩, World.grownBy.refl _ _⟩
  | true =>
    rw [ha] at hA
    cases ls with
    | nil => cases ha
    | cons l r =>
      change ahP _ l = _ at ha
      have c0 := h1.cell 0
      have f0 := h1.frozen 0
      simp only [List.length_cons] at c0 h4 h3
      have c1 : w.cell? ⟨lb, o, none⟩ = some (.string (bA l)) := by
        rw [h2.cell]
        have := strV_at (ls := l :: r) (i := 0) rfl
        rw [← h3] at this
        simpa using this
      obtain ⟨m, hm⟩ := hG.mx
      have hls : (bA l).size ≤ 60000 := by rw [Lib.size_eq, bA_list]; exact h6 l (by simp)
      have q := Any.strings_SplitN snL infT9 (bA l) ⟨#[32]⟩ (k + 1) m w (by omega) hm (by decide) (by omega) (by omega)
      have hw : Lib.splitB ⟨#[32]⟩ 0 (min (k + 1) ((bA l).size + 1) - 1) (bA l) = (wdsN k l).map bA := by
        rw [show min (k + 1) ((bA l).size + 1) - 1 = min k (bA l).size by omega, splitB_words, bA_list]
      rw [hw] at q
      obtain ⟨ws, hws⟩ : ∃ ws, Hid (wdsN k l = ws) := ⟨_, rfl⟩
      rw [hws.out] at q
      obtain ⟨cp, hcp⟩ : ∃ cp, Hid (min (k + 1) ((bA l).size + 1) = cp) := ⟨_, rfl⟩
      rw [hcp.out, List.length_map, show ((k + 1 : Nat) : Int) = 1 + (k : Int) by omega] at q
      have hcp1 : cp ≤ 60001 := by rw [← hcp.out]; omega
      have hsz : Hid (∀ x ∈ ws, (bA x).size ≤ 60000) := fun x hx => by
        rw [← hws.out] at hx
        have h1 := wds_short x hx
        rw [Lib.size_eq, bA_list]
        have h2 : (bA l).size = l.length := by rw [Lib.size_eq, bA_list]
        omega
      have hwl : ws.length ≤ cp := by
        have h1 := wdsN_len k l
        have h2 : (bA l).size = l.length := by rw [Lib.size_eq, bA_list]
        rw [hws.out] at h1
        rw [← hcp.out]
        omega
      have ht : Hid (takP wd.data.toList k (l :: r) = if ws.length = k + 1 then some (ws.tail, r) else none) := by
        show (if ahP wd.data.toList l = true then _ else none) = _
        rw [if_pos ha, hws.out]
      obtain ⟨lc', rfl⟩ : ∃ x, lc = x + 1 := ⟨lc - 1, by omega⟩
      by_cases hn : ws.length = k + 1
      · rw [ht.out, if_pos hn]
        rw [hn] at q
        have hcl : k + 1 ≤ cp := by omega
        clear ht hws hcp
        go_enter Tryz.func94, Tryz.ntmps94
        go_wp2_with fail
        refine hA.mono ?_
        rintro e w1 ⟨rfl, hw1⟩
        obtain rfl : w = w1 := hw1.symm
        go_wp2_with fail
        refine q.mono ?_
        rintro e w1 ⟨rfl, hw1⟩
        have hB1 : Below w.heap.size w w1 := by rw [hw1]; go_grown
        have WB : Blk w1 w.heap.size (Lib.cellsOf (ws.map bA) cp) 9 := by rw [hw1]; exact Blk.new _ _ _
        clear hw1 q hA hw
        replace c0 := bcell hB1 c0
        have f1 : w1.frozen? ⟨rb, 0, none⟩ = false := (h1.below hB1).frozen 0
        replace hE := bcell hB1 hE
        obtain ⟨cp', rfl⟩ : ∃ x, cp = x + 1 := ⟨cp - 1, by omega⟩
        have hl0 : ¬ lc' = 0 := by omega
        have hc0 : ¬ cp' = 0 := by omega
        have hk2 : ((k : Int) + 1 == 1 + (k : Int)) = true := by rw [beq_iff_eq]; omega
        go_wp2
        have hg : w.grownBy (w1.setCell ⟨rb, 0, none⟩ (.slice (some ⟨lb, o + 1, none⟩) r.length lc')) (some rb) := gstep (grown_noneB' hB1) (grown_set (World.grownBy.refl _ _) _ _) (fun j e => by cases e; exact .inr rfl)
        have hne : w.heap.size ≠ rb := by have := h1.lt; omega
        have hlb : lb ≠ rb := fun e => by
          subst e
          have := h1.symm.trans h2
          simp at this
          exact absurd this.2 (by decide)
        have RB : Blk (w1.setCell ⟨rb, 0, none⟩ (.slice (some ⟨lb, o + 1, none⟩) r.length lc')) rb #[.slice (some ⟨lb, o + 1, none⟩) r.length lc'] tRd := by simpa using (h1.below hB1).set 0 (.slice (some ⟨lb, o + 1, none⟩) r.length lc')
        have LB := h2.grown hg (by simpa using hlb)
        have WB2 := WB.grown (grown_set (World.grownBy.refl _ _) _ _ : w1.grownBy (w1.setCell ⟨rb, 0, none⟩ (.slice (some ⟨lb, o + 1, none⟩) r.length lc')) (some rb)) (by simpa using hne)
        generalize w1.setCell ⟨rb, 0, none⟩ (.slice (some ⟨lb, o + 1, none⟩) r.length lc') = W2 at *
        go_returns
        refine ⟨⟨w.heap.size, cp', rfl, by simp [hn], fun i x hx => ⟨?_, ?_⟩, by omega, by omega, ⟨_, WB2⟩, ⟨lb, o + 1, lc', c, RB, LB, ?_, by omega, by omega, fun y hy => h6 y (by simp [hy])⟩⟩, hg⟩
        · rw [WB2.cell]
          refine cellsOf_at ?_
          simp at hx
          simp [hx]
        · exact hsz.out x (List.mem_of_mem_tail (List.mem_of_getElem? hx))
        · have h7 := congrArg List.tail h3
          simp only [strV, List.map_cons, List.tail_cons] at h7
          rw [strV, ← h7]
          cases hd : List.drop o c.toList with
          | nil => rw [hd] at h3; simp [strV] at h3
          | cons y z => rw [← List.drop_drop, hd]; simp
      · rw [ht.out, if_neg hn]
        have hn2 : ((ws.length : Int) == 1 + (k : Int)) = false := by rw [beq_eq_false_iff_ne]; omega
        go_enter Tryz.func94, Tryz.ntmps94
        go_wp2_with fail
        refine hA.mono ?_
        rintro e w1 ⟨rfl, hw1⟩
        obtain rfl : w = w1 := hw1.symm
        go_wp2_with fail
        refine q.mono ?_
        rintro e w1 ⟨rfl, hw1⟩
        have hB1 : Below w.heap.size w w1 := by rw [hw1]; go_grown
        have WB : Blk w1 w.heap.size (Lib.cellsOf (ws.map bA) cp) 9 := by rw [hw1]; exact Blk.new _ _ _
        clear hw1 q hA hw
        replace c0 := bcell hB1 c0
        have f1 : w1.frozen? ⟨rb, 0, none⟩ = false := (h1.below hB1).frozen 0
        replace hE := bcell hB1 hE
        go_wp2
        exact ⟨rfl, ⟨tp, pe, rfl⟩, grown_noneB' hB1⟩
end Go.Proofs.YtigldeccfpkdmaaGreatDoor
