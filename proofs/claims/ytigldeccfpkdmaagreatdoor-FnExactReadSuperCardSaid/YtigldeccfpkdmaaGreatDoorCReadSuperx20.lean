/- The laws' copies of lists of items and volumes. The laws' copies of volumes. The laws' comparisons of lists of items and volumes, where they are the same. How the laws' arguments, as they are read, lie in memory: lists of extents. The laws' sizes, copies and comparisons of pools. The laws' copies and comparisons of pools. -/
import Derived.Test.YtigldeccfpkdmaaGreatDoorProg
import Derived.Test.YtigldeccfpkdmaaGreatDoorCReadSuperx11
import Derived.Test.YtigldeccfpkdmaaGreatDoorCReadSuperx00
import Derived.Test.YtigldeccfpkdmaaGreatDoorCReadSuperx10
import Derived.Lib.SmallJoins
import Derived.Test.YtigldeccfpkdmaaGreatDoorCReadSuperx19
namespace Go.Proofs.YtigldeccfpkdmaaGreatDoor
open Go.RowKit Go.BigFrame
/-- Cells of a block that is being filled with items. -/
def FillI (B : Nat) (w : World) (c : Array Value) (l : List It) (k : Nat) : Prop :=
  ∀ i x, i < k → l[i]? = some x → ∃ pa pn pc, c[i * 2]? = some (.string x.nm) ∧ c[i * 2 + 1]? = some (.slice pa pn pc) ∧ PtsAt w pa pn x.ps ∧ Hd B pa pn pc ∧ (∀ ad, pa = some ad → B ≤ ad.block) ∧ Sf B w pa
theorem FillI.below {B : Nat} {w w' : World} {c : Array Value} {l : List It} {k : Nat} (h : FillI B w c l k) (hb : Below w.heap.size w w') : FillI B w' c l k := fun i x hi hx => by
  obtain ⟨pa, pn, pc, c0, c1, hp, hh, hA, sf⟩ := h i x hi hx
  exact ⟨pa, pn, pc, c0, c1, hp.below hb, hh, hA, sf.below hb⟩
theorem FillI.grown {B r : Nat} {w w' : World} {c : Array Value} {l : List It} {k : Nat} (h : FillI B w c l k) (hg : w.grownBy w' (some r)) (hr : r < B) : FillI B w' c l k := fun i x hi hx => by
  obtain ⟨pa, pn, pc, c0, c1, hp, hh, hA, sf⟩ := h i x hi hx
  exact ⟨pa, pn, pc, c0, c1, hp.grown hg (fun ad had => by have := hA ad had; omega), hh, hA, sf.grown hg hr⟩
end Go.Proofs.YtigldeccfpkdmaaGreatDoor
namespace Go.Proofs.YtigldeccfpkdmaaGreatDoor
open Go.RowKit Go.BigFrame
/-- Cells of a block that is being filled with volumes. -/
def FillV (B : Nat) (w : World) (c : Array Value) (l : List Vo) (k : Nat) : Prop :=
  ∀ i x, i < k → l[i]? = some x → ∃ pa pn pc, c[i * 4]? = some (.int .i64 x.id) ∧ c[i * 4 + 1]? = some (.string x.nm) ∧ c[i * 4 + 2]? = some (.bool x.fx) ∧ c[i * 4 + 3]? = some (.slice pa pn pc) ∧ ItsAt B w pa pn x.its ∧ Hd B pa pn pc
theorem FillV.below {B : Nat} {w w' : World} {c : Array Value} {l : List Vo} {k : Nat} (h : FillV B w c l k) (hb : Below w.heap.size w w') : FillV B w' c l k := fun i x hi hx => by
  obtain ⟨pa, pn, pc, c0, c1, c2, c3, hp, r⟩ := h i x hi hx
  exact ⟨pa, pn, pc, c0, c1, c2, c3, hp.below hb, r⟩
theorem FillV.grown {B r : Nat} {w w' : World} {c : Array Value} {l : List Vo} {k : Nat} (h : FillV B w c l k) (hg : w.grownBy w' (some r)) (hr : r < B) : FillV B w' c l k := fun i x hi hx => by
  obtain ⟨pa, pn, pc, c0, c1, c2, c3, hp, hh⟩ := h i x hi hx
  exact ⟨pa, pn, pc, c0, c1, c2, c3, hp.grown hg hr, hh⟩
end Go.Proofs.YtigldeccfpkdmaaGreatDoor
namespace Go.Proofs.YtigldeccfpkdmaaGreatDoor
open Go.RowKit Go.BigFrame
set_option maxHeartbeats 1000000 in
theorem laws_eqItem (nm : ByteArray) (ps : List Pt) (pa : Option Addr) (pn pc : Nat) (pa' : Option Addr) (pn' pc' : Nat) (w : World) (h : PtsAt w pa pn ps) (h' : PtsAt w pa' pn' ps) (hn : pn ≤ 4194304) :
    Calls Tryz.prog 209 #[.agg #[.string nm, .slice pa pn pc], .agg #[.string nm, .slice pa' pn' pc']] w fun e w' => e = .returned (.bool true) ∧ Below w.heap.size w w' := by
  have hn' : pn' ≤ 4194304 := by rw [← h'.len, h.len]; exact hn
  go_enter Tryz.func209, Tryz.ntmps209
  go_wp2_with fail
  refine (laws_eqPartS pa pn pc ps pa' pn' pc' ps _ (h.below (by go_grown)) (h'.below (by go_grown)) hn hn').mono ?_
  rintro e w1 ⟨rfl, hB1⟩
  rw [eqPts_refl]
  replace hB1 : Below w.heap.size w w1 := chain (by go_grown) hB1
  go_wp2
  go_returns
  exact ⟨rfl, hB1⟩
set_option maxHeartbeats 1000000 in
theorem laws_eqItemS (B B' : Nat) (a : Option Addr) (n cap : Nat) (a' : Option Addr) (n' cap' : Nat) (l : List It) (w : World) (h : ItsAt B w a n l) (h' : ItsAt B' w a' n' l) (hn : n ≤ 4194304) (hps : ∀ x ∈ l, x.ps.length ≤ 4194304) :
    Calls Tryz.prog 171 #[.slice a n cap, .slice a' n' cap'] w fun e w' => e = .returned (.bool true) ∧ Below w.heap.size w w' := by
  obtain rfl : n = n' := by rw [← h.len, ← h'.len]
  have hbn : ((n : Int) != (n : Int)) = false := by simp
  go_enter Tryz.func171, Tryz.ntmps171
  go_wp2_with fail
  go_loopw [5] (fun ix wr => ∃ (k : Nat), k ≤ n ∧ ix = .int .i64 k ∧ Below w.heap.size w wr) (fun ix _ => n - (intOf ix).toNat)
  case atStart => exact ⟨0, Nat.zero_le _, rfl, Below.refl _ _⟩
  case round =>
    obtain ⟨k, hk, rfl, hB⟩ := hrel
    by_cases hlt : k < n
    · obtain ⟨b, o, x, pa, pn, pc, rfl, hp, c0, c1, hP, _, _, _⟩ := its_at (h.below hB) hlt
      obtain ⟨b', o', y, qa, qn, qc, rfl, hq, d0, d1, hQ, _, _, _⟩ := its_at (h'.below hB) hlt
      rw [hp] at hq
      obtain rfl := Option.some.inj hq
      have hpn : pn ≤ 4194304 := by have := hps x (List.mem_of_getElem? hp); rw [hP.len] at this; exact this
      have hk1 : (k : Int) < n := by omega
      have hk2 : (0 : Int) ≤ k := by omega
      clear hp hq
      have qq := fun (u : World) (hu : Below wr.heap.size wr u) => laws_eqItem x.nm x.ps pa pn pc qa qn qc u (hP.below hu) (hQ.below hu) hpn
      go_wp2_with fail
      have g0 := gcell c0
      have g1 := gcell c1
      have g3 := gcell d0
      have g4 := gcell d1
      have hne := grw_ne wr
      refine wp_region_grow (by kernel_rfl) (by kernel_rfl) ?_
      repeat (go_big_quiet_step (first | (go_at_call 209; exact grow_of (qq _ (Grw.h _)))))
      refine wpQuiet_nil ?_
      intro w2 hx
      have hB2 := grw_out hx
      clear hx
      go_wp2
      go_roundw
      case rel => exact ⟨k + 1, by omega, by go_num, chain hB hB2⟩
      case measure => simp [intOf]; omega
    · obtain rfl : k = n := by omega
      go_wp2
      go_returns
      exact ⟨rfl, hB⟩
set_option maxHeartbeats 1000000 in
theorem laws_eqVolume (B B' : Nat) (v : Vo) (pa : Option Addr) (pn pc : Nat) (pa' : Option Addr) (pn' pc' : Nat) (w : World) (h : ItsAt B w pa pn v.its) (h' : ItsAt B' w pa' pn' v.its) (hn : pn ≤ 4194304) (hps : ∀ x ∈ v.its, x.ps.length ≤ 4194304) :
    Calls Tryz.prog 107 #[.agg #[.int .i64 v.id, .string v.nm, .bool v.fx, .slice pa pn pc], .agg #[.int .i64 v.id, .string v.nm, .bool v.fx, .slice pa' pn' pc']] w fun e w' => e = .returned (.bool true) ∧ Below w.heap.size w w' := by
  obtain ⟨id, nm, fx, its⟩ := v
  simp only at h h' hps
  have hid : (id != id) = false := by simp
  have hfx : (fx != fx) = false := by simp
  go_enter Tryz.func107, Tryz.ntmps107
  go_wp2_with fail
  refine (laws_eqItemS B B' pa pn pc pa' pn' pc' its _ (h.below (by go_grown)) (h'.below (by go_grown)) hn hps).mono ?_
  rintro e w1 ⟨rfl, hB1⟩
  replace hB1 : Below w.heap.size w w1 := chain (by go_grown) hB1
  go_wp2
  go_returns
  exact ⟨rfl, hB1⟩
set_option maxHeartbeats 1000000 in
theorem laws_eqVolumeS (B B' : Nat) (a : Option Addr) (n cap : Nat) (a' : Option Addr) (n' cap' : Nat) (l : List Vo) (w : World) (h : VsAt B w a n l) (h' : VsAt B' w a' n' l) (hn : n ≤ 4194304) (hps : ∀ v ∈ l, v.its.length ≤ 4194304 ∧ ∀ x ∈ v.its, x.ps.length ≤ 4194304) :
    Calls Tryz.prog 43 #[.slice a n cap, .slice a' n' cap'] w fun e w' => e = .returned (.bool true) ∧ Below w.heap.size w w' := by
  obtain rfl : n = n' := by rw [← h.len, ← h'.len]
  have hbn : ((n : Int) != (n : Int)) = false := by simp
  go_enter Tryz.func43, Tryz.ntmps43
  go_wp2_with fail
  go_loopw [5] (fun ix wr => ∃ (k : Nat), k ≤ n ∧ ix = .int .i64 k ∧ Below w.heap.size w wr) (fun ix _ => n - (intOf ix).toNat)
  case atStart => exact ⟨0, Nat.zero_le _, rfl, Below.refl _ _⟩
  case round =>
    obtain ⟨k, hk, rfl, hB⟩ := hrel
    by_cases hlt : k < n
    · obtain ⟨b, o, x, pa, pn, pc, rfl, hp, c0, c1, c2, c3, hP, _, _⟩ := vs_at (h.below hB) hlt
      obtain ⟨b', o', y, qa, qn, qc, rfl, hq, d0, d1, d2, d3, hQ, _, _⟩ := vs_at (h'.below hB) hlt
      rw [hp] at hq
      obtain rfl := Option.some.inj hq
      obtain ⟨m1, m2⟩ := hps x (List.mem_of_getElem? hp)
      rw [hP.len] at m1
      have hk1 : (k : Int) < n := by omega
      have hk2 : (0 : Int) ≤ k := by omega
      clear hp hq
      have qq := fun (u : World) (hu : Below wr.heap.size wr u) => laws_eqVolume B B' x pa pn pc qa qn qc u (hP.below hu) (hQ.below hu) m1 m2
      go_wp2_with fail
      have g0 := gcell c0
      have g1 := gcell c1
      have g2 := gcell c2
      have g3 := gcell c3
      have e0 := gcell d0
      have e1 := gcell d1
      have e2 := gcell d2
      have e3 := gcell d3
      have hne := grw_ne wr
      refine wp_region_grow (by kernel_rfl) (by kernel_rfl) ?_
      repeat (go_big_quiet_step (first | (go_at_call 107; exact grow_of (qq _ (Grw.h _)))))
      refine wpQuiet_nil ?_
      intro w2 hx
      have hB2 := grw_out hx
      clear hx
      go_wp2
      go_roundw
      case rel => exact ⟨k + 1, by omega, by go_num, chain hB hB2⟩
      case measure => simp [intOf]; omega
    · obtain rfl : k = n := by omega
      go_wp2
      go_returns
      exact ⟨rfl, hB⟩
end Go.Proofs.YtigldeccfpkdmaaGreatDoor
namespace Go.Proofs.YtigldeccfpkdmaaGreatDoor
open Go.ChangeShapes Go.WideShapes Go.ChangeAt Go.RowKit Go.Deep
theorem c9 : Tryz.prog.cellsOf 9 = 1 := by kernel_rfl
end Go.Proofs.YtigldeccfpkdmaaGreatDoor
namespace Go.Proofs.YtigldeccfpkdmaaGreatDoor
open Go.RowKit Go.BigFrame
theorem VsAt.grown {B r : Nat} {w w' : World} {a : Option Addr} {n : Nat} {l : List Vo} (h : VsAt B w a n l) (hg : w.grownBy w' (some r)) (hr : r < B) : VsAt B w' a n l :=
  ⟨h.len, fun i x hx => by
    obtain ⟨b, o, pa, pn, pc, ha, c0, c1, c2, c3, hp, hh, hB, s2⟩ := h.cell i x hx
    exact ⟨b, o, pa, pn, pc, ha, hg.cell c0 (by simp; omega), hg.cell c1 (by simp; omega), hg.cell c2 (by simp; omega), hg.cell c3 (by simp; omega), hp.grown hg hr, hh, hB, s2.grown hg hr⟩⟩
/-- A pool's value, and what its slices hold. -/
def PoolAt (B : Nat) (w : World) (v : Value) (p : Po) : Prop :=
  ∃ ea en ec va vn vc ra rn rc la ln lc, v = .agg #[.int .i64 p.size, .int .i64 p.next, .slice ea en ec, .slice va vn vc, .slice ra rn rc, .slice la ln lc] ∧
    (ExsAt w ea en p.ex ∧ Hd B ea en ec ∧ Sf B w ea) ∧ (VsAt B w va vn p.vs ∧ Hd B va vn vc) ∧ (CtsAt w ra rn p.rf ∧ Hd B ra rn rc ∧ Sf B w ra) ∧ (CtsAt w la ln p.lt ∧ Hd B la ln lc ∧ Sf B w la)
theorem PoolAt.below {B : Nat} {w w' : World} {v : Value} {p : Po} (h : PoolAt B w v p) (hb : Below w.heap.size w w') : PoolAt B w' v p := by
  obtain ⟨ea, en, ec, va, vn, vc, ra, rn, rc, la, ln, lc, hv, ⟨h1, k1⟩, ⟨h2, k2⟩, ⟨h3, k3⟩, h4, k4⟩ := h
  exact ⟨ea, en, ec, va, vn, vc, ra, rn, rc, la, ln, lc, hv, ⟨h1.below hb, k1.1, k1.2.below hb⟩, ⟨h2.below hb, k2⟩, ⟨h3.below hb, k3.1, k3.2.below hb⟩, h4.below hb, k4.1, k4.2.below hb⟩
theorem PoolAt.mono {B B' : Nat} {w : World} {v : Value} {p : Po} (h : PoolAt B w v p) (hb : B' ≤ B) : PoolAt B' w v p := by
  obtain ⟨ea, en, ec, va, vn, vc, ra, rn, rc, la, ln, lc, hv, ⟨h1, k1⟩, ⟨h2, k2⟩, ⟨h3, k3⟩, h4, k4⟩ := h
  exact ⟨ea, en, ec, va, vn, vc, ra, rn, rc, la, ln, lc, hv, ⟨h1, k1.1.mono hb, k1.2.mono hb⟩, ⟨h2.mono hb, k2.mono hb⟩, ⟨h3, k3.1.mono hb, k3.2.mono hb⟩, h4, k4.1.mono hb, k4.2.mono hb⟩
def SmallP (p : Po) : Prop := Small p.ex.length p.ex ∧ SmallV p.vs.length p.vs ∧ SmallC p.rf.length p.rf ∧ SmallC p.lt.length p.lt
end Go.Proofs.YtigldeccfpkdmaaGreatDoor
namespace Go.Proofs.YtigldeccfpkdmaaGreatDoor
open Go.RowKit Go.BigFrame
theorem box_2 {w w1 : World} {c0 c1 : Array Value} {t0 t1 : TypeId} (hb : Below ((w.alloc (.cells c0 t0)).alloc (.cells c1 t1)).heap.size ((w.alloc (.cells c0 t0)).alloc (.cells c1 t1)) w1) :
    Blk w1 w.heap.size c0 t0 ∧ Blk w1 (w.heap.size + 1) c1 t1 ∧ Below w.heap.size w w1 := by
  refine ⟨?_, ?_, chain (by go_grown) hb⟩
  · exact ((Blk.new w c0 t0).alloc (.cells c1 t1)).below hb
  · have := (Blk.new (w.alloc (.cells c0 t0)) c1 t1).below hb
    simpa using this
theorem SmallP.dims {p : Po} (h : SmallP p) : p.ex.length ≤ 1048576 ∧ p.vs.length ≤ 1048576 ∧ (∀ v ∈ p.vs, v.its.length ≤ 1048576 ∧ ∀ x ∈ v.its, x.ps.length ≤ 4194304) ∧ p.rf.length ≤ 1048576 ∧ p.lt.length ≤ 1048576 := by
  obtain ⟨h1, h2, h3, h4⟩ := h
  exact ⟨h1.1, h2.1, fun v hv => ⟨(h2.2 v hv).2.1, fun x hx => by have := ((h2.2 v hv).2.2 x hx).2; omega⟩, h3.1, h4.1⟩
set_option maxHeartbeats 2000000 in
set_option maxRecDepth 100000 in
theorem laws_eqPool (B B' : Nat) (v v' : Value) (p : Po) (w : World) (h : PoolAt B w v p) (h' : PoolAt B' w v' p) (hs : SmallP p) :
    Calls Tryz.prog 11 #[v, v'] w fun e w' => e = .returned (.bool true) ∧ Below w.heap.size w w' := by
  obtain ⟨ea, en, ec, va, vn, vc, ra, rn, rc, la, ln, lc, rfl, ⟨h1, k1⟩, ⟨h2, k2⟩, ⟨h3, k3⟩, h4, k4⟩ := h
  obtain ⟨ea', en', ec', va', vn', vc', ra', rn', rc', la', ln', lc', rfl, ⟨h1', k1'⟩, ⟨h2', k2'⟩, ⟨h3', k3'⟩, h4', k4'⟩ := h'
  obtain ⟨d1, d2, d3, d4, d5⟩ := hs.dims
  clear hs k1 k2 k3 k4 k1' k2' k3' k4'
  have n1 := h1.len
  have n2 := h2.len
  have n3 := h3.len
  have n4 := h4.len
  have n1' := h1'.len
  have n2' := h2'.len
  have n3' := h3'.len
  have n4' := h4'.len
  obtain ⟨size, next, ex, vs, rf, lt⟩ := p
  simp only at *
  have q1 : (size != size) = false := by simp
  have q2 : (next != next) = false := by simp
  go_enter Tryz.func11, Tryz.ntmps11
  go_wp2_with fail
  refine (laws_eqExtentS ea en ec ex ea' en' ec' ex _ (h1.below (by go_grown)) (h1'.below (by go_grown)) (by omega) (by omega)).mono ?_
  rintro e w1 ⟨rfl, hB1⟩
  rw [eqExs_refl]
  obtain ⟨C, D, hB1'⟩ := box_2 hB1
  clear hB1
  have hB1 := hB1'
  clear hB1'
  have c3 := C.cell 3
  have d3' := D.cell 3
  have c4 := C.cell 4
  have d4' := D.cell 4
  have c5 := C.cell 5
  have d5' := D.cell 5
  simp only [lgA, lgB, lgC] at c3 d3' c4 d4' c5 d5'
  clear C D
  go_wp2_with fail
  refine (laws_eqVolumeS B B' va vn vc va' vn' vc' vs _ (h2.below hB1) (h2'.below hB1) (by omega) (fun v hv => ⟨by have := (d3 v hv).1; omega, (d3 v hv).2⟩)).mono ?_
  rintro e w2 ⟨rfl, hB2⟩
  replace c4 := bcell hB2 c4
  replace d4' := bcell hB2 d4'
  replace c5 := bcell hB2 c5
  replace d5' := bcell hB2 d5'
  replace hB2 := chain hB1 hB2
  clear c3 d3' hB1
  go_wp2_with fail
  refine (laws_eqCountedS ra rn rc rf ra' rn' rc' rf _ (h3.below hB2) (h3'.below hB2) (by omega) (by omega)).mono ?_
  rintro e w3 ⟨rfl, hB3⟩
  rw [eqCts_refl]
  replace c5 := bcell hB3 c5
  replace d5' := bcell hB3 d5'
  replace hB3 := chain hB2 hB3
  clear c4 d4' hB2
  go_wp2_with fail
  refine (laws_eqCountedS la ln lc lt la' ln' lc' lt _ (h4.below hB3) (h4'.below hB3) (by omega) (by omega)).mono ?_
  rintro e w4 ⟨rfl, hB4⟩
  rw [eqCts_refl]
  replace hB4 := chain hB3 hB4
  go_wp2
  go_returns
  exact ⟨rfl, hB4⟩
end Go.Proofs.YtigldeccfpkdmaaGreatDoor
