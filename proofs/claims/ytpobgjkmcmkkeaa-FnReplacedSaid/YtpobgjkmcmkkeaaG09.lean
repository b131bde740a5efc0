/- A contract of the library, laid at this program. What a shelf tells. -/
import Derived.Test.YtpobgjkmcmkkeaaProg
import Derived.Shelf.Strings.OnBuilder
import Derived.Test.YtpobgjkmcmkkeaaG08
namespace Go.Proofs.Ytpobgjkmcmkkeaa
open Go.Shelf Go.RowKit Go.Lib

def joinL_ren : Go.Shelf.Ren := ⟨fun | 156 => 76 | 165 => 91 | 166 => 92 | 169 => 93 | 240 => 96 | 241 => 97 | 276 => 99 | 277 => 100 | n => n, fun | 31 => 93 | 9 => 9 | 3 => 3 | 4 => 4 | 0 => 0 | 20 => 20 | 72 => 133 | 76 => 137 | 70 => 131 | 37 => 22 | 75 => 136 | 127 => 141 | 164 => 143 | 5 => 5 | 80 => 95 | n => n, fun | n => n⟩
set_option maxRecDepth 100000 in
theorem joinL : Lays.n156 Try.prog joinL_ren where
  mixed := by kernel_rfl
  f156 := Try.func76.trans (congrArg some (by kernel_rfl))
  f165 := Try.func91.trans (congrArg some (by kernel_rfl))
  f166 := Try.func92.trans (congrArg some (by kernel_rfl))
  f169 := Try.func93.trans (congrArg some (by kernel_rfl))
  f240 := Try.func96.trans (congrArg some (by kernel_rfl))
  f241 := Try.func97.trans (congrArg some (by kernel_rfl))
  f276 := Try.func99.trans (congrArg some (by kernel_rfl))
  f277 := Try.func100.trans (congrArg some (by kernel_rfl))
  t0 := Try.underlying0
  a0 := Try.isAgg0
  z0 := Try.sizeOf0
  v0 := Try.zeroValue0
  t3 := Try.underlying3
  a3 := Try.isAgg3
  z3 := Try.sizeOf3
  v3 := Try.zeroValue3
  t4 := Try.underlying4
  a4 := Try.isAgg4
  z4 := Try.sizeOf4
  v4 := Try.zeroValue4
  t9 := Try.underlying9
  a9 := Try.isAgg9
  z9 := Try.sizeOf9
  v9 := Try.zeroValue9
  t20 := Try.underlying20
  a20 := Try.isAgg20
  z20 := Try.sizeOf20
  v20 := Try.zeroValue20
  t31 := Try.underlying93
  a31 := Try.isAgg93
  z31 := Try.sizeOf93
  v31 := Try.zeroValue93
  t37 := Try.underlying22
  a37 := Try.isAgg22
  z37 := Try.sizeOf22
  v37 := Try.zeroValue22
  t70 := Try.underlying131
  a70 := Try.isAgg131
  z70 := Try.sizeOf131
  v70 := Try.zeroValue131
  t72 := Try.underlying133
  a72 := Try.isAgg133
  z72 := Try.sizeOf133
  v72 := Try.zeroValue133
  t75 := Try.underlying136
  a75 := Try.isAgg136
  z75 := Try.sizeOf136
  v75 := Try.zeroValue136
  t76 := Try.underlying137
  a76 := Try.isAgg137
  z76 := Try.sizeOf137
  v76 := Try.zeroValue137
  t127 := Try.underlying141
  a127 := Try.isAgg141
  z127 := Try.sizeOf141
  v127 := Try.zeroValue141
  t164 := Try.underlying143
  a164 := Try.isAgg143
  z164 := Try.sizeOf143
  v164 := Try.zeroValue143
set_option maxRecDepth 100000 in
theorem joinX : Builder.Extra Try.prog joinL_ren where
  sizeBuilder := by kernel_rfl
  liesBuilder := by kernel_rfl
  t5 := Try.underlying5
  a5 := Try.isAgg5
  z5 := Try.sizeOf5
  v5 := Try.zeroValue5
  infoByte := by kernel_rfl
  cellsByte := by kernel_rfl
  sizeByte := by kernel_rfl
  neB5 := by decide
end Go.Proofs.Ytpobgjkmcmkkeaa
namespace Go.Proofs.Ytpobgjkmcmkkeaa
open Go Go.RowKit Go.BigFrame

/-- Pieces put together. -/
def joinB (ps : List ByteArray) : ByteArray := ⟨(Lib.join (ps.map (·.data.toList)) []).toArray⟩
def toldF (y : Hy) : Fl := ⟨y.nm, joinB y.ps⟩
theorem lens_sumP (ps : List ByteArray) : Lib.lens (ps.map (·.data.toList)) = sumP ps := by
  induction ps with
  | nil => rfl
  | cons x r ih => simp [Lib.lens, sumP] at ih ⊢; rw [ih]
theorem join_len (ps : List ByteArray) : (Lib.join (ps.map (·.data.toList)) []).length = sumP ps := by
  cases ps with
  | nil => rfl
  | cons x r =>
    have h := lens_sumP (x :: r)
    rw [List.map_cons] at h
    rw [List.map_cons, Lib.join_length, h]; simp
theorem str_Join (a : Option Addr) (n cap : Nat) (ps : List ByteArray) (w : World) (h : SlAt sps 1 w a n ps) (hc : n ≤ cap) (hlt : ∀ ad, a = some ad → ad.block < w.heap.size) (hsum : sumP ps ≤ 140737488355328) (hn : n ≤ 4194304) :
    Calls Try.prog 76 #[.slice a n cap, .string ⟨#[]⟩] w fun e w' => e = .returned (.string (joinB ps)) ∧ Below w.heap.size w w' := by
  have hl := h.len
  cases ps with
  | nil =>
    simp at hl
    subst hl
    refine (Any.strings_Join_none joinL joinX a cap ⟨#[]⟩ w).mono ?_
    rintro e w' ⟨rfl, rfl⟩
    exact ⟨rfl, Below.refl _ _⟩
  | cons x r =>
    obtain ⟨b, o, rfl, _⟩ := h.cell 0 x rfl
    subst hl
    refine Any.strings_Join joinL joinX b o cap (x :: r) ⟨#[]⟩ w (fun j y hy => ?_) (hlt _ rfl) (by omega) hc (by rw [show (⟨#[]⟩ : ByteArray).data.toList = [] from rfl, join_len]; exact hsum)
    obtain ⟨b', o', e, hcc⟩ := h.cell j y hy
    cases e
    have := hcc 0 _ rfl
    simpa using this


set_option maxHeartbeats 4000000 in
set_option maxRecDepth 100000 in
theorem impl_told (B sb : Nat) (a : Option Addr) (n cap : Nat) (rows : List Hr) (l : List Hy) (w : World) (hS : Blk w sb #[.slice a n cap] 72) (R : ResAt hrs 2 111 w B a n cap rows) (T : HsT B w rows l) (hn : n ≤ 4194304) (hp : ∀ y ∈ l, y.ps.length ≤ 4194304) (hsum : sumH l ≤ 200000) :
    Calls Try.prog 46 #[.pointer (some ⟨sb, 0, none⟩)] w fun e w' => (∃ a' cap', e = .returned (.slice a' n cap') ∧ ResAt Fl.cs 2 82 w' w.heap.size a' n cap' (l.map toldF)) ∧ Below w.heap.size w w' := by
  have hlen : Hid (l.length = n) := by show _ = _; rw [← T.len]; exact R.sl.len
  have x0 := hS.one
  go_enter Try.func46, Try.ntmps46
  go_wp2_with fail
  go_loopw [3, 5, 11] (fun out _f ix wr => ∃ (k : Nat) (a2 : Option Addr) (c2 : Nat), k ≤ n ∧ ix = .int .i64 k ∧ out = .slice a2 k c2 ∧ ResAt Fl.cs 2 82 wr w.heap.size a2 k c2 ((l.take k).map toldF) ∧ Below w.heap.size w wr) (fun _ _ ix _ => n - (intOf ix).toNat)
  case atStart => exact ⟨0, none, 0, Nat.zero_le _, rfl, rfl, by simpa using res_nil, Below.refl _ _⟩
  case round =>
    obtain ⟨k, a2, c2, hk, rfl, rfl, R2, hB⟩ := hrel
    by_cases hlt : k < n
    · obtain ⟨b, r, y, rfl, hr, hy, hT, c0, c1⟩ := hr_at (R.below hB) (T.below hB) hlt
      have hst : Hid ((l.take (k + 1)).map toldF = (l.take k).map toldF ++ [toldF y]) := by
        show _ = _
        rw [take_at hy, List.map_append]; rfl
      have hps : sumP y.ps ≤ 200000 := by
        have h1 := sumH_take hy
        have h2 := sumH_le l (k + 1)
        omega
      have hpl : y.ps.length = r.pn := hT.ps.sl.len
      have hyp : r.pn ≤ 4194304 := by rw [← hpl]; exact hp y (List.mem_of_getElem? hy)
      clear hr hy hpl
      generalize (l.take k).map toldF = G at *
      obtain ⟨rn, pa, pn, pc⟩ := r
      simp only at c1 hyp
      have hpc : pn ≤ pc := by
        rcases hT.ps.own with ⟨_, h1, h2⟩ | ⟨_, _, _, h1, _⟩
        · simp only at h1 h2; omega
        · exact h1
      have hk1 : (k : Int) < n := by omega
      have hk2 : (0 : Int) ≤ k := by omega
      have hA : Below wr.heap.size wr (wr.alloc (.cells #[.string y.nm, .slice pa pn pc] 111)) := (Below.refl _ _).alloc (Nat.le_refl _) _
      have F := Blk.new wr #[.string y.nm, .slice pa pn pc] 111
      have hsz := hB.size
      go_wp2_with fail
      generalize wr.alloc (.cells #[.string y.nm, .slice pa pn pc] 111) = W at *
      have hwA := hA.size
      have hS0 : (fun u => u.cell? ⟨wr.heap.size, 0, none⟩ = some (.string y.nm) ∧ u.cell? ⟨wr.heap.size, 1, none⟩ = some (.slice pa pn pc)) W.drew := ⟨F.cell 0, F.cell 1⟩
      refine wp_region_heldH (S := (fun u => u.cell? ⟨wr.heap.size, 0, none⟩ = some (.string y.nm) ∧ u.cell? ⟨wr.heap.size, 1, none⟩ = some (.slice pa pn pc))) 10 (by kernel_rfl) rfl ?_
      refine takeL (i := 0) (v := ?vq15001) rfl (by kernel_rfl) (by kernel_rfl) (by kernel_rfl) (fun _ _ _ h => h) (Or.inl ⟨by rfl, ?hyq15001⟩) (by assumption) ?restq15001
      case hyq15001 => (intro u hu; (try dsimp only at hu); go_simp <;> with_reducible rfl)
      try simp only [Act.put, List.setIfInBounds_toArray, List.set_cons_zero, List.set_cons_succ]
      refine takeL (i := 1) (v := ?vq15002) rfl (by kernel_rfl) (by kernel_rfl) (by kernel_rfl) (fun _ _ _ h => h) (Or.inl ⟨by rfl, ?hyq15002⟩) (by assumption) ?restq15002
      case hyq15002 => (intro u hu; (try dsimp only at hu); go_simp <;> with_reducible rfl)
      try simp only [Act.put, List.setIfInBounds_toArray, List.set_cons_zero, List.set_cons_succ]
      refine takeL (i := 2) (v := ?vq15003) rfl (by kernel_rfl) (by kernel_rfl) (by kernel_rfl) (fun _ _ _ h => h) (Or.inl ⟨by rfl, ?hyq15003⟩) (by assumption) ?restq15003
      case hyq15003 => (intro u hu; (try dsimp only at hu); go_simp <;> with_reducible rfl)
      try simp only [Act.put, List.setIfInBounds_toArray, List.set_cons_zero, List.set_cons_succ]
      refine takeL (i := 3) (v := ?vq15004) rfl (by kernel_rfl) (by kernel_rfl) (by kernel_rfl) (fun _ _ _ h => h) (Or.inl ⟨by rfl, ?hyq15004⟩) (by assumption) ?restq15004
      case hyq15004 => (intro u hu; (try dsimp only at hu); go_simp <;> with_reducible rfl)
      try simp only [Act.put, List.setIfInBounds_toArray, List.set_cons_zero, List.set_cons_succ]
      refine takeL (i := 4) (v := ?vq15005) rfl (by kernel_rfl) (by kernel_rfl) (by kernel_rfl) (fun _ _ _ h => h) (Or.inl ⟨by rfl, ?hyq15005⟩) (by assumption) ?restq15005
      case hyq15005 => (intro u hu; (try dsimp only at hu); go_simp <;> with_reducible rfl)
      try simp only [Act.put, List.setIfInBounds_toArray, List.set_cons_zero, List.set_cons_succ]
      refine oneL (i := 5) (by kernel_rfl) rfl (fun K hK => ?_)
      go_simp
      refine (str_Join pa pn pc y.ps _ ((hT.ps.sl.below hA).below (Below.refl _ _).drew) hpc (fun ad e => by have := (hT.ps.block ad e).2; show ad.block < W.heap.size; omega) (by omega) hyp).mono ?_
      rintro e w1 ⟨rfl, hB1⟩
      dsimp only
      have F1 := (F.below (Below.refl _ _).drew).below hB1
      have hB2 := chain (chain hB hA) (chain (Below.refl _ _).drew hB1)
      have R3 := ((R2.below hA).below (Below.refl _ _).drew).below hB1
      refine hK.out _ _ ⟨F1.cell 0, F1.cell 1⟩ (fun hHeld => ?_)
      clear hK K
      try simp only [Act.put, List.setIfInBounds_toArray, List.set_cons_zero, List.set_cons_succ]
      refine takeL (i := 6) (v := ?vq15006) rfl (by kernel_rfl) (by kernel_rfl) (by kernel_rfl) (fun _ _ _ h => h) (Or.inl ⟨by rfl, ?hyq15006⟩) (by assumption) ?restq15006
      case hyq15006 => (intro u hu; (try dsimp only at hu); go_simp <;> with_reducible rfl)
      try simp only [Act.put, List.setIfInBounds_toArray, List.set_cons_zero, List.set_cons_succ]
      refine oneL (i := 7) (by kernel_rfl) rfl (fun K hK => ?_)
      go_simp
      have hA4 : Below w1.heap.size w1 (w1.alloc (.cells #[.string y.nm, .string (joinB y.ps)] 82)) := (Below.refl _ _).alloc (Nat.le_refl _) _
      have F4 := F1.below hA4
      refine hK.out _ _ ⟨F4.cell 0, F4.cell 1⟩ (fun hHeld => ?_)
      clear hK K
      try simp only [Act.put, List.setIfInBounds_toArray, List.set_cons_zero, List.set_cons_succ]
      refine oneL (i := 8) (by kernel_rfl) rfl (fun K hK => ?_)
      refine step_app rfl (wp_appFl _ _ rfl w.heap.size a2 k c2 G rfl (R3.below hA4) _ 1 1 [toldF y] rfl (sl_newFl _ (toldF y) _ _ rfl) (fun ad h => (by cases h; rfl)) (fun h => (by cases h)) (k + 1) rfl (by omega) (by have := hB2.size; simp; omega) (fun a3 c3 w3 R5 hg3 => ?_))
      have F5 := F4.ty hg3 ((R3.below hA4).rowTy (m := k) (k := c2)) (by decide)
      have hB5 : Below w.heap.size w w3 := Below.grown (chain hB2 hA4) hg3 (chain hB2 hA4).size (own_ge fun ad had => (R3.block ad had).1)
      dsimp only
      refine hK.out _ _ ⟨F5.cell 0, F5.cell 1⟩ (fun hHeld => ?_)
      clear hK K
      try simp only [Act.put, List.setIfInBounds_toArray, List.set_cons_zero, List.set_cons_succ]
      refine takeL (i := 9) (v := ?vq15007) rfl (by kernel_rfl) (by kernel_rfl) (by kernel_rfl) (fun _ _ _ h => h) (Or.inl ⟨by rfl, ?hyq15007⟩) (by assumption) ?restq15007
      case hyq15007 => (intro u hu; (try dsimp only at hu); go_simp <;> with_reducible rfl)
      try simp only [Act.put, List.setIfInBounds_toArray, List.set_cons_zero, List.set_cons_succ]
      refine wpAnyH_done (by kernel_rfl) ?_ _
      clear hS0 hHeld
      go_wp2
      go_roundw
      case rel => exact ⟨k + 1, a3, c3, by omega, by go_num, rfl, by rw [hst.out]; exact R5, hB5⟩
      case measure => simp [intOf]; omega
    · obtain rfl : k = n := by omega
      rw [List.take_of_length_le (Nat.le_of_eq hlen.out)] at R2
      go_wp2
      go_returns
      exact ⟨⟨a2, c2, rfl, R2⟩, hB⟩
end Go.Proofs.Ytpobgjkmcmkkeaa
