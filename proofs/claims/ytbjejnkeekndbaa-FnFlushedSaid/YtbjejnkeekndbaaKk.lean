/- A contract of the library, laid at this program. Counts sorted by their owners: what told's closure says, and what slices.SortFunc leaves. An answer of counts behind slices.SortFunc: the same counts, in order, in the same row. slices.SortFunc at an answer of counts. -/
import Derived.Test.YtbjejnkeekndbaaProg
import Derived.Shelf.SlSortCmp.NoneTotal
import Derived.Test.YtbjejnkeekndbaaKj
namespace Go.Proofs.Ytbjejnkeekndbaa
open Go.Shelf Go.RowKit Go.Lib Go.Sort

def sortC_ren : Go.Shelf.Ren := ⟨fun | 6 => 142 | 15 => 157 | 14 => 156 | 28 => 168 | 29 => 169 | 20 => 160 | 21 => 161 | 22 => 162 | 23 => 163 | 24 => 164 | 25 => 165 | 26 => 166 | 27 => 167 | 46 => 170 | 47 => 171 | 48 => 172 | 49 => 173 | 50 => 174 | 57 => 175 | n => n, fun | 22 => 58 | 24 => 66 | 25 => 169 | 3 => 3 | 39 => 187 | 0 => 0 | 53 => 201 | 55 => 185 | 4 => 4 | 46 => 194 | 45 => 193 | 50 => 198 | 5 => 5 | 9 => 9 | 66 => 203 | 70 => 206 | 76 => 208 | 77 => 209 | n => n, fun | n => n⟩
set_option maxRecDepth 100000 in
theorem sortC : SlLaysF0.n6 Try.prog sortC_ren where
  mixed := by kernel_rfl
  f6 := ⟨Try.f142.name, by decide +kernel, Try.func142.trans (congrArg some (by kernel_rfl))⟩
  f14 := ⟨Try.f156.name, by decide +kernel, Try.func156.trans (congrArg some (by kernel_rfl))⟩
  f15 := Try.func157.trans (congrArg some (by kernel_rfl))
  f20 := ⟨Try.f160.name, by decide +kernel, Try.func160.trans (congrArg some (by kernel_rfl))⟩
  f21 := ⟨Try.f161.name, by decide +kernel, Try.func161.trans (congrArg some (by kernel_rfl))⟩
  f22 := ⟨Try.f162.name, by decide +kernel, Try.func162.trans (congrArg some (by kernel_rfl))⟩
  f23 := ⟨Try.f163.name, by decide +kernel, Try.func163.trans (congrArg some (by kernel_rfl))⟩
  f24 := ⟨Try.f164.name, by decide +kernel, Try.func164.trans (congrArg some (by kernel_rfl))⟩
  f25 := ⟨Try.f165.name, by decide +kernel, Try.func165.trans (congrArg some (by kernel_rfl))⟩
  f26 := ⟨Try.f166.name, by decide +kernel, Try.func166.trans (congrArg some (by kernel_rfl))⟩
  f27 := ⟨Try.f167.name, by decide +kernel, Try.func167.trans (congrArg some (by kernel_rfl))⟩
  f28 := Try.func168.trans (congrArg some (by kernel_rfl))
  f29 := Try.func169.trans (congrArg some (by kernel_rfl))
  f46 := ⟨Try.f170.name, by decide +kernel, Try.func170.trans (congrArg some (by kernel_rfl))⟩
  f47 := Try.func171.trans (congrArg some (by kernel_rfl))
  f48 := Try.func172.trans (congrArg some (by kernel_rfl))
  f49 := ⟨Try.f173.name, by decide +kernel, Try.func173.trans (congrArg some (by kernel_rfl))⟩
  f50 := ⟨Try.f174.name, by decide +kernel, Try.func174.trans (congrArg some (by kernel_rfl))⟩
  f57 := ⟨Try.f175.name, by decide +kernel, Try.func175.trans (congrArg some (by kernel_rfl))⟩
  t0 := Try.underlying0
  a0 := Try.isAgg0
  z0 := Try.sizeOf0
  v0 := Try.zeroValue0
  t3 := Try.underlying3
  a3 := Try.isAgg3
  z3 := Try.sizeOf3
  v3 := Try.zeroValue3
  t4 := Try.underlying4
  a4 := Try.isAgg4
  z4 := Try.sizeOf4
  v4 := Try.zeroValue4
  t5 := Try.underlying5
  a5 := Try.isAgg5
  z5 := Try.sizeOf5
  v5 := Try.zeroValue5
  t9 := Try.underlying9
  a9 := Try.isAgg9
  z9 := Try.sizeOf9
  v9 := Try.zeroValue9
  t22 := Try.underlying58
  a22 := Try.isAgg58
  z22 := Try.sizeOf58
  v22 := Try.zeroValue58
  t25 := Try.underlying169
  a25 := Try.isAgg169
  z25 := Try.sizeOf169
  v25 := Try.zeroValue169
  t39 := Try.underlying187
  a39 := Try.isAgg187
  z39 := Try.sizeOf187
  v39 := Try.zeroValue187
  t45 := Try.underlying193
  a45 := Try.isAgg193
  z45 := Try.sizeOf193
  v45 := Try.zeroValue193
  t46 := Try.underlying194
  a46 := Try.isAgg194
  z46 := Try.sizeOf194
  v46 := Try.zeroValue194
  t50 := Try.underlying198
  a50 := Try.isAgg198
  z50 := Try.sizeOf198
  v50 := Try.zeroValue198
  t53 := Try.underlying201
  a53 := Try.isAgg201
  z53 := Try.sizeOf201
  v53 := Try.zeroValue201
  t55 := Try.underlying185
  a55 := Try.isAgg185
  z55 := Try.sizeOf185
  v55 := Try.zeroValue185
  t66 := Try.underlying203
  a66 := Try.isAgg203
  z66 := Try.sizeOf203
  v66 := Try.zeroValue203
  t70 := Try.underlying206
  a70 := Try.isAgg206
  z70 := Try.sizeOf206
  v70 := Try.zeroValue206
  t76 := Try.underlying208
  a76 := Try.isAgg208
  z76 := Try.sizeOf208
  v76 := Try.zeroValue208
  t77 := Try.underlying209
  a77 := Try.isAgg209
  z77 := Try.sizeOf209
  v77 := Try.zeroValue209
end Go.Proofs.Ytbjejnkeekndbaa
namespace Go.Proofs.Ytbjejnkeekndbaa
open Go.RowKit Go.BigFrame
open Go.Sort (SWO PermIn SortedIn grow alloc_eq_grow grow_grow)

theorem push3 {α : Type} (h : Array α) (a b c : α) : ((h.push a).push b).push c = h ++ #[a, b, c] := Array.ext' (by simp)
theorem push2 {α : Type} (h os : Array α) (a b : α) : (h.push a).push b ++ os = h ++ (#[a, b] ++ os) := Array.ext' (by simp)

set_option maxHeartbeats 1000000 in
theorem impl_ownerOrder_g (p q : Ow) (w : World) :
    Calls Try.prog 113 #[.agg #[.int .i64 p.a, .int .i64 p.v, .string p.f], .agg #[.int .i64 q.a, .int .i64 q.v, .string q.f]] w fun e w' => e = .returned (.int .i64 (ordO p q)) ∧ ∃ n os, w' = grow (w.drewN n) os := by
  have hfin : Hid (ordO p q = or3 (cmpI p.a q.a) (cmpI p.v q.v) (cmpS p.f q.f)) := rfl
  generalize ordO p q = R at *
  obtain ⟨a, v, f⟩ := p
  obtain ⟨b, u, g⟩ := q
  simp only at hfin
  go_enter Try.func113, Try.ntmps113
  go_wp2_with fail
  have x0 : ((w.alloc (.cells #[.int .i64 a, .int .i64 v, .string f] 64)).alloc (.cells #[.int .i64 b, .int .i64 u, .string g] 64)).cell? ⟨w.heap.size, 0, none⟩ = some (.int .i64 a) := acell _ (by simp)
  have x1 : ((w.alloc (.cells #[.int .i64 a, .int .i64 v, .string f] 64)).alloc (.cells #[.int .i64 b, .int .i64 u, .string g] 64)).cell? ⟨w.heap.size, 1, none⟩ = some (.int .i64 v) := acell _ (by simp)
  have x2 : ((w.alloc (.cells #[.int .i64 a, .int .i64 v, .string f] 64)).alloc (.cells #[.int .i64 b, .int .i64 u, .string g] 64)).cell? ⟨w.heap.size, 2, none⟩ = some (.string f) := acell _ (by simp)
  have y0 : ((w.alloc (.cells #[.int .i64 a, .int .i64 v, .string f] 64)).alloc (.cells #[.int .i64 b, .int .i64 u, .string g] 64)).cell? ⟨w.heap.size + 1, 0, none⟩ = some (.int .i64 b) := by simp
  have y1 : ((w.alloc (.cells #[.int .i64 a, .int .i64 v, .string f] 64)).alloc (.cells #[.int .i64 b, .int .i64 u, .string g] 64)).cell? ⟨w.heap.size + 1, 1, none⟩ = some (.int .i64 u) := by simp
  have y2 : ((w.alloc (.cells #[.int .i64 a, .int .i64 v, .string f] 64)).alloc (.cells #[.int .i64 b, .int .i64 u, .string g] 64)).cell? ⟨w.heap.size + 1, 2, none⟩ = some (.string g) := by simp
  have hW0 : Hid (∀ o, (((w.alloc (.cells #[.int .i64 a, .int .i64 v, .string f] 64)).alloc (.cells #[.int .i64 b, .int .i64 u, .string g] 64)).alloc o).drew = grow (w.drewN 1) #[.cells #[.int .i64 a, .int .i64 v, .string f] 64, .cells #[.int .i64 b, .int .i64 u, .string g] 64, o]) := fun o => by
    simp only [World.alloc, World.drew, World.drewN, grow]
    rw [push3]
  generalize (w.alloc (.cells #[.int .i64 a, .int .i64 v, .string f] 64)).alloc (.cells #[.int .i64 b, .int .i64 u, .string g] 64) = W0 at *
  go_region_held3 (fun u' => u'.cell? ⟨w.heap.size, 0, none⟩ = some (.int .i64 a) ∧ u'.cell? ⟨w.heap.size, 1, none⟩ = some (.int .i64 v) ∧ u'.cell? ⟨w.heap.size, 2, none⟩ = some (.string f) ∧ u'.cell? ⟨w.heap.size + 1, 0, none⟩ = some (.int .i64 b) ∧ u'.cell? ⟨w.heap.size + 1, 1, none⟩ = some (.int .i64 u) ∧ u'.cell? ⟨w.heap.size + 1, 2, none⟩ = some (.string g)) (go_keep)
    (first | (go_at_call 147; refine (cmp_Compare_int _ _ _).mono ?_; rintro e w2 ⟨rfl, rfl⟩) | (go_at_call 148; refine (cmp_Compare_str _ _ _).mono ?_; rintro e w2 ⟨rfl, rfl⟩) | (go_at_call 146; refine (cmp_Or3 (cmpI a b) (cmpI v u) (cmpS f g) W0.heap.size 3 _ (new3 W0 _ _ _ _).1 (new3 W0 _ _ _ _).2.1 (new3 W0 _ _ _ _).2.2).mono ?_; rintro e w2 ⟨rfl, rfl⟩))
  go_wp2
  go_returns
  go_light
  exact ⟨ret_int hfin.out.symm, 1, _, hW0.out _⟩

set_option maxHeartbeats 1000000 in
theorem impl_told1 (x y : Ct) (w : World) :
    Calls Try.prog 143 #[.agg #[.int .i64 x.o.a, .int .i64 x.o.v, .string x.o.f, .int .i64 x.n], .agg #[.int .i64 y.o.a, .int .i64 y.o.v, .string y.o.f, .int .i64 y.n]] w fun e w' => e = .returned (.int .i64 (ordO x.o y.o)) ∧ ∃ n os, w' = grow (w.drewN n) os := by
  obtain ⟨⟨a, v, f⟩, n⟩ := x
  obtain ⟨⟨b, u, g⟩, m⟩ := y
  go_enter Try.func143, Try.ntmps143
  go_wp2_with fail
  refine (impl_ownerOrder_g ⟨a, v, f⟩ ⟨b, u, g⟩ _).mono ?_
  rintro e w1 ⟨rfl, n1, os, rfl⟩
  go_wp2
  go_returns
  go_light
  refine ⟨rfl, n1, #[.cells #[.int .i64 a, .int .i64 v, .string f, .int .i64 n] 66, .cells #[.int .i64 b, .int .i64 u, .string g, .int .i64 m] 66] ++ os, ?_⟩
  simp only [World.alloc, World.drewN, grow]
  rw [push2]

theorem ordO_swo : SWO (Go.Proofs.ltOf (fun x y : Ct => ordO x.o y.o)) := by
  have e : ∀ x y : Ct, Go.Proofs.ltOf (fun x y : Ct => ordO x.o y.o) x y = owLt x.o y.o := fun x y => ordO_lt x.o y.o
  refine ⟨fun x => ?_, fun x y z => ?_, fun x y z => ?_⟩
  · rw [e]; exact owLt_irrefl _
  · rw [e, e, e]; exact owLt_trans
  · rw [e, e, e]
    intro h1 h2
    by_cases h3 : y.o = z.o
    · rw [← h3]; exact h1
    · by_cases h4 : x.o = y.o
      · rw [h4]; exact h2
      · exact owLt_asymm (owLt_trans (owLt_total h2 h3) (owLt_total h1 h4))
end Go.Proofs.Ytbjejnkeekndbaa
namespace Go.Proofs.Ytbjejnkeekndbaa
open Go.RowKit Go.BigFrame
open Go.Sort (SWO PermIn SortedIn grow putRow mapBlock onCells putCells putRowK flatK HoldsK)
open Go.Proofs (sortWorldK)

theorem sw_blk {α : Type} [Inhabited α] {enc : α → List Value} {k : Nat} {w : World} {b : Nat} {c : Array Value} {t : TypeId} (h : Blk w b c t) (n off : Nat) (d : Array α) (os : Array Obj) :
    Blk (sortWorldK enc k w b off n d os) b (putCells id off (flatK enc k d) c) t := by
  have hb := h.lt
  unfold Blk at *
  simp only [sortWorldK, putRowK, putRow, mapBlock, grow, Go.Sort.ahead]
  rw [Array.getElem?_append_left (by simpa using hb), Array.getElem?_modify, if_pos rfl, h]
  rfl

theorem sw_grown {α : Type} [Inhabited α] (enc : α → List Value) (k : Nat) (w : World) (b off n : Nat) (d : Array α) (os : Array Obj) :
    w.grownBy (sortWorldK enc k w b off n d os) (some b) := by
  refine ⟨rfl, rfl, rfl, by simp [sortWorldK, putRowK, putRow, mapBlock, grow, Go.Sort.ahead], fun i hi hne => ?_⟩
  simp only [sortWorldK, putRowK, putRow, mapBlock, grow, Go.Sort.ahead]
  rw [Array.getElem?_append_left (by simpa using hi), Array.getElem?_modify, if_neg (fun e => hne (by rw [e]))]

/-- The cells of the row, one by one. -/
theorem flat_cell {l : List Ct} {i j : Nat} {x : Ct} {v : Value} [Inhabited Ct] (h : l[i]? = some x) (hj : x.cs[j]? = some v) : i * 4 + j < l.length * 4 ∧ (flatK Ct.cs 4 l.toArray)[i * 4 + j]! = v := by
  obtain ⟨hi, rfl⟩ := List.getElem?_eq_some_iff.1 h
  have hj4 : j < 4 := by have := (List.getElem?_eq_some_iff.1 hj).1; simpa [Ct.cs] using this
  have hlt : i * 4 + j < l.length * 4 := by omega
  refine ⟨hlt, ?_⟩
  rw [Go.Sort.get_flatK _ _ _ _ (by simpa using hlt)]
  rw [show (i * 4 + j) / 4 = i by omega, show (i * 4 + j) % 4 = j by omega]
  have e1 : l.toArray[i]! = l[i] := by simp [hi]
  rw [e1]
  have := (List.getElem?_eq_some_iff.1 hj)
  obtain ⟨h1, h2⟩ := this
  simp [h1, h2]

theorem flat_split {l : List Ct} {t : Nat} (ht : t < l.length * 4) : ∃ x v, l[t / 4]? = some x ∧ x.cs[t % 4]? = some v := by
  have h1 : t / 4 < l.length := by omega
  have h2 : t % 4 < (l[t / 4]).cs.length := by simp [Ct.cs]; omega
  exact ⟨l[t / 4], (l[t / 4]).cs[t % 4], by simp [h1], by simp⟩

theorem res_holds {w : World} {b n : Nat} {l : List Ct} {c : Array Value} [Inhabited Ct] (hb : Blk w b c 66) (hsl : CtsAt w (some ⟨b, 0, none⟩) n l) : HoldsK Ct.cs 4 w b 0 l.toArray := by
  intro t ht
  have ht' : t < l.length * 4 := by simpa using ht
  obtain ⟨x, v, h1, h2⟩ := flat_split ht'
  obtain ⟨_, h3⟩ := flat_cell h1 h2
  rw [show t / 4 * 4 + t % 4 = t by omega] at h3
  rw [h3]
  obtain ⟨b', o', ha, hc⟩ := hsl.cell _ _ h1
  obtain ⟨rfl, rfl⟩ : b = b' ∧ 0 = o' := by simpa using ha
  refine ⟨?_, by rw [Nat.zero_add]; exact hb.frozen _⟩
  have := hc _ _ h2
  rw [Nat.zero_add, show t / 4 * 4 + t % 4 = t by omega] at this
  rw [Nat.zero_add]; exact this

theorem res_sorted {w : World} {B b n cap : Nat} {l l' : List Ct} [Inhabited Ct] (R : ResAt Ct.cs 4 66 w B (some ⟨b, 0, none⟩) n cap l) (hl : l'.length = n) (m : Nat) (os : Array Obj) :
    ResAt Ct.cs 4 66 (sortWorldK Ct.cs 4 w b 0 m l'.toArray os) B (some ⟨b, 0, none⟩) n cap l' := by
  rcases R.own with ⟨h, _⟩ | ⟨b', hb', hB, h1, h2, c, hc, hs, _⟩
  · cases h
  · obtain rfl : b = b' := by simpa using hb'
    have hk := sw_blk (enc := Ct.cs) (k := 4) hc m 0 l'.toArray os
    have hcell : ∀ i x, l'[i]? = some x → ∀ j v, x.cs[j]? = some v → (putCells id 0 (flatK Ct.cs 4 l'.toArray) c)[i * 4 + j]? = some v := by
      intro i x hx j v hv
      obtain ⟨f1, f2⟩ := flat_cell hx hv
      have f3 : i * 4 + j < c.size := by rw [hs]; have : l'.length * 4 ≤ cap * 4 := by omega
                                         omega
      unfold putCells
      simp only [Array.getElem?_mapIdx, Array.getElem?_eq_getElem f3, Option.map_some]
      rw [if_pos ⟨Nat.zero_le _, by simpa using f1⟩, Nat.sub_zero, f2]; rfl
    refine ⟨⟨hl, fun i x hx => ⟨b, 0, rfl, fun j v hv => by rw [hk.cell, Nat.zero_add]; exact hcell i x hx j v hv⟩⟩, .inr ⟨b, rfl, hB, h1, h2, _, hk, by simp [putCells, hs], ?_⟩⟩
    apply List.ext_getElem?
    intro t
    by_cases ht : t < n * 4
    · rw [List.getElem?_take_of_lt ht]
      obtain ⟨x, v, g1, g2⟩ := flat_split (l := l') (t := t) (by rw [hl]; exact ht)
      have e1 := hcell _ _ g1 _ _ g2
      have e2 := flat_at ccs_len l' g1 g2
      rw [show t / 4 * 4 + t % 4 = t by omega] at e1 e2
      rw [e2, ← e1]; simp
    · rw [List.getElem?_eq_none (by simp; omega), List.getElem?_eq_none (by rw [flat_len ccs_len, hl]; omega)]
end Go.Proofs.Ytbjejnkeekndbaa
namespace Go.Proofs.Ytbjejnkeekndbaa
open Go.RowKit Go.BigFrame
open Go.Sort (SWO PermIn SortedIn grow HoldsK)
open Go.Proofs (sortWorldK)

/-- What is behind the sort: the same counts, none behind one that is behind it. -/
def SortedC (l : List Ct) : Prop := l.Pairwise (fun x y => owLt y.o x.o = false)

theorem sorted_of {l : List Ct} [Inhabited Ct] {d' : Array Ct} (hp : PermIn 0 l.toArray.size l.toArray d') (hs : SortedIn (Go.Proofs.ltOf (fun x y : Ct => ordO x.o y.o)) 0 l.toArray.size d') : d'.toList.Perm l ∧ SortedC d'.toList := by
  obtain ⟨hsz, _, hperm⟩ := hp
  have e1 : d'.extract 0 l.toArray.size = d' := by rw [← hsz]; exact Array.extract_size
  rw [e1, Array.extract_size] at hperm
  refine ⟨hperm, ?_⟩
  unfold SortedC
  rw [List.pairwise_iff_getElem]
  intro i j hi hj hij
  have hj' : j < d'.size := by simpa using hj
  have := hs i j (Nat.zero_le _) hij (by rw [← hsz]; exact hj')
  have e : ∀ x y : Ct, Go.Proofs.ltOf (fun x y : Ct => ordO x.o y.o) x y = owLt x.o y.o := fun x y => ordO_lt x.o y.o
  rw [e] at this
  have hi' : i < d'.size := by omega
  simpa [hi', hj'] using this

theorem told1_lays (b n : Nat) (w : World) [Inhabited Ct] : Go.Proofs.CmpLays Try.prog 143 #[] Ct.cs 4 (fun x y => ordO x.o y.o) b 0 n w :=
  fun _ _ _ _ x y => impl_told1 x y _

theorem aggC (w : World) : (isAgg 66).run Try.prog w = .ok true w := Try.isAgg66 w
theorem sizeC (w : World) : (Go.sizeOf 66).run Try.prog w = .ok 4 w := Try.sizeOf66 w

set_option maxRecDepth 100000 in
theorem sort_res (B : Nat) (a : Option Addr) (n cap : Nat) (l : List Ct) (w : World) (R : ResAt Ct.cs 4 66 w B a n cap l) (hn : n ≤ 4194304) :
    Calls Try.prog 142 #[.slice a n cap, .func (.func 143) #[] #[]] w fun e w' => e = .returned (.tuple #[]) ∧ ∃ l', l'.Perm l ∧ SortedC l' ∧ ResAt Ct.cs 4 66 w' B a n cap l' ∧ w.grownBy w' (rowB a) := by
  by_cases h0 : n = 0
  · subst h0
    have hl : l = [] := List.eq_nil_of_length_eq_zero R.sl.len
    subst hl
    refine (Go.Proofs.AnyF.slices_SortFunc_none (P := Try.prog) (ρ := sortC_ren) sortC a cap _ w).mono ?_
    rintro e w' ⟨rfl, rfl⟩
    exact ⟨rfl, [], List.Perm.refl _, List.Pairwise.nil, R, World.grownBy.refl _ _⟩
  · rcases R.own with ⟨_, h, _⟩ | ⟨b, rfl, hB, h1, h2, c, hc, _⟩
    · exact absurd h h0
    · have hinh : Inhabited Ct := ⟨⟨⟨0, 0, .empty⟩, 0⟩⟩
      have hlen := R.sl.len
      have eg : ∀ args w, (callFunc 143 args).run Try.prog w = .ok (.enter 143 args) w := enters_of Try.func143 (by kernel_rfl) rfl
      have hcon := Go.Proofs.AnyQ.slices_SortFunc sortC 4 aggC sizeC Ct.cs (fun _ => rfl) (fun x v hv => ccs_one [x] v (by simpa using hv)) (fun x y => ordO x.o y.o) ordO_swo 143 #[] b 0 cap l.toArray w eg (told1_lays b l.toArray.size w) (res_holds hc R.sl) hc.lt (by simp; omega)
      rw [show l.toArray.size = n by simpa using hlen] at hcon
      refine Calls.mono hcon ?_
      rintro e w' ⟨rfl, d', m, os, hp, hs, rfl⟩
      rw [← show l.toArray.size = n by simpa using hlen] at hp hs
      obtain ⟨h3, h4⟩ := sorted_of hp hs
      refine ⟨rfl, d'.toList, h3, h4, ?_, sw_grown _ _ _ _ _ _ _ _⟩
      have := res_sorted (l' := d'.toList) R (by rw [h3.length_eq]; exact hlen) m os
      simpa using this
end Go.Proofs.Ytbjejnkeekndbaa
