/- An op that is done on files, by the model. Disks that are right, by the model. Files in the making, in memory; whether they fit. Blocks of one type leave those of other types alone. Files taken to be changed. Where a file is, or would be, by the program. Taking one row out of a slice of the call's own. -/
import Derived.Test.YtigldeccfpkdmaaGreatDoorCStoreNewx20
import Derived.Test.YtigldeccfpkdmaaGreatDoorCStoreNewx04
import Derived.Test.YtigldeccfpkdmaaGreatDoorProg
import Derived.Shelf.Small.Strs
import Derived.Deep.RegionLaw
namespace Go.Proofs.YtigldeccfpkdmaaGreatDoor
open Go Go.RowKit Go.BigFrame
theorem atF_some {l : List Fl} {nm : ByteArray} {i : Nat} (h : atF l nm = some i) : i < l.length := by
  unfold atF at h
  exact (List.findIdx?_eq_some_iff_getElem.1 h).1
set_option maxHeartbeats 4000000 in
set_option maxRecDepth 100000 in
theorem spec_l8Do (a : Option Addr) (n cap : Nat) (l : List Fl) (op : Dp) (w : World) (h : FlsAt w a n l) (ha1 : ∀ ad, a = some ad → ad.spot = none) (ha2 : a = none → cap = 0) (hn : n ≤ 4000000) (hb : ∀ f ∈ l, f.d.size ≤ 100000000) (ho : op.d.size ≤ 100000000) :
    Calls Tryz.prog 138 #[.slice a n cap, .agg #[.int .i64 op.k, .string op.nm, .string op.tt, .string op.d]] w fun e w' => (∃ a' n' cap', e = .returned (.tuple #[.slice a' n' cap', .bool (doF l op).2]) ∧ ResAt Fl.cs 2 123 w' w.heap.size a' n' cap' (doF l op).1) ∧ Below w.heap.size w w' := by
  have hlen : Hid (l.length = n) := h.len
  obtain ⟨kd, nm, tt, d⟩ := op
  simp only at ho
  have O0 := Blk.new w #[.int .i64 kd, .string nm, .string tt, .string d] 120
  have hB0 : Below w.heap.size w (w.alloc (.cells #[.int .i64 kd, .string nm, .string tt, .string d] 120)) := by go_grown
  cases hat : atF l nm with
  | none =>
    by_cases hk : kd = 1
    · subst hk
      have hf : Hid (doF l ⟨1, nm, tt, d⟩ = (putF ⟨nm, d⟩ l, true)) := by show _ = _; simp [doF, hat]
      generalize doF l ⟨1, nm, tt, d⟩ = R at *
      go_enter Tryz.func138, Tryz.ntmps138
      go_wp2_with fail
      refine (spec_l8At a n cap l nm _ (h.below hB0) (by omega)).mono ?_
      rintro e w1 ⟨rfl, rfl⟩
      rw [hat]
      simp only [plF]
      go_wp2_with fail
      refine (spec_l8Put a n cap l nm d _ (h.below hB0) (by omega)).mono ?_
      rintro e w2 ⟨⟨a2, n2, cap2, rfl, R2⟩, hB2⟩
      go_wp2
      go_returns
      exact ⟨⟨a2, n2, cap2, by rw [hf.out] <;> rfl, by rw [hf.out]; exact R2.mono (by simp)⟩, chain hB0 hB2⟩
    · have hkb : (kd == 1) = false := by simpa using hk
      have hf : Hid (doF l ⟨kd, nm, tt, d⟩ = (l, false)) := by show _ = _; simp [doF, hat, hk]
      generalize doF l ⟨kd, nm, tt, d⟩ = R at *
      go_enter Tryz.func138, Tryz.ntmps138
      go_wp2_with fail
      refine (spec_l8At a n cap l nm _ (h.below hB0) (by omega)).mono ?_
      rintro e w1 ⟨rfl, rfl⟩
      rw [hat]
      simp only [plF]
      go_wp2_with (at_builtin; refine wpList_app rfl (fun K hK => wp_appFl _ _ rfl w.heap.size _ 0 0 [] rfl (res_empty (Blk.new' _ _ _ _ (by simp)) (by first | omega | (simp; done) | (simp; omega))) a n cap l rfl ((h.below hB0).alloc _) ha1 ha2 n (Nat.zero_add _) (by omega) (by first | omega | (simp; done) | (simp; omega)) (fun a3 cap3 w3 R3 hg3 => hK _ _ ?_)))
      have hB3 : Below w.heap.size w w3 := Below.grown (hB0.alloc (by simp) _) hg3 (by first | omega | (simp; done) | (simp; omega)) (fun j e => by simp [Value.ownBlock] at e; omega)
      go_wp2
      go_returns
      exact ⟨⟨a3, n, cap3, by rw [hf.out] <;> rfl, by rw [hf.out]; simpa using R3⟩, hB3⟩
  | some i =>
    have hil := atF_some hat
    rw [hlen.out] at hil
    obtain ⟨b, o, f, rfl, hfi, c0, c1⟩ := fl_at h hil
    have hfb := hb f (List.mem_of_getElem? hfi)
    have hi1 : (i : Int) < n := by omega
    have hi2 : (0 : Int) ≤ i := by omega
    have hi3 : ¬ (i : Int) < 0 := by omega
    have g1 := bcell hB0 c1
    by_cases hk : kd = 1
    · subst hk
      have hf : Hid (doF l ⟨1, nm, tt, d⟩ = (putF ⟨nm, f.d ++ d⟩ l, true)) := by show _ = _; simp [doF, hat, hfi]
      generalize doF l ⟨1, nm, tt, d⟩ = R at *
      clear hfi
      go_enter Tryz.func138, Tryz.ntmps138
      go_wp2_with fail
      refine (spec_l8At _ n cap l nm _ (h.below hB0) (by omega)).mono ?_
      rintro e w1 ⟨rfl, rfl⟩
      rw [hat]
      simp only [plF]
      go_wp2_with fail
      refine (spec_l8Put _ n cap l nm (f.d ++ d) _ (h.below hB0) (by omega)).mono ?_
      rintro e w2 ⟨⟨a2, n2, cap2, rfl, R2⟩, hB2⟩
      go_wp2
      go_returns
      exact ⟨⟨a2, n2, cap2, by rw [hf.out] <;> rfl, by rw [hf.out]; exact R2.mono (by simp)⟩, chain hB0 hB2⟩
    · have hkb : (kd == 1) = false := by simpa using hk
      by_cases hk2 : kd = 2
      · subst hk2
        have hf : Hid (doF l ⟨2, nm, tt, d⟩ = (putF ⟨tt, f.d⟩ (cutF nm l), true)) := by show _ = _; simp [doF, hat, hfi]
        generalize doF l ⟨2, nm, tt, d⟩ = R at *
        clear hfi
        go_enter Tryz.func138, Tryz.ntmps138
        go_wp2_with fail
        refine (spec_l8At _ n cap l nm _ (h.below hB0) (by omega)).mono ?_
        rintro e w1 ⟨rfl, rfl⟩
        rw [hat]
        simp only [plF]
        go_wp2_with fail
        refine (spec_l8Cut _ n cap l nm _ (h.below hB0) (by omega)).mono ?_
        rintro e w2 ⟨⟨a2, n2, cap2, rfl, hn2, R2⟩, hB2⟩
        have O2 := O0.below hB2
        have x0 : w2.cell? ⟨w.heap.size, 0, none⟩ = some (.int .i64 2) := O2.cell 0
        have x2 : w2.cell? ⟨w.heap.size, 2, none⟩ = some (.string tt) := O2.cell 2
        have g2 := bcell hB2 g1
        go_wp2_with fail
        have hSB : ∀ u, Below w2.heap.size w2 u → (fun u => u.cell? ⟨w.heap.size, 2, none⟩ = some (.string tt) ∧ u.cell? ⟨b, o + i * 2 + 1, none⟩ = some (.string f.d)) u := fun u hu => ⟨bcell hu x2, bcell hu g2⟩
        have hS0 : (fun u => u.cell? ⟨w.heap.size, 2, none⟩ = some (.string tt) ∧ u.cell? ⟨b, o + i * 2 + 1, none⟩ = some (.string f.d)) w2.drew := ⟨x2, g2⟩
        refine wp_region_heldH (S := (fun u => u.cell? ⟨w.heap.size, 2, none⟩ = some (.string tt) ∧ u.cell? ⟨b, o + i * 2 + 1, none⟩ = some (.string f.d))) 10 (by kernel_rfl) rfl ?_
        refine takeQ (i := 0) (v := ?vq12001) rfl (by kernel_rfl) (fun _ _ _ h => h) (by rfl) ?hq12001 (by assumption) ?rq12001
        case hq12001 => (intro u hu; (try dsimp only at hu); go_simp <;> with_reducible rfl)
        try simp only [Act.put, lsA, lsB, lsC]
        refine takeQ (i := 1) (v := ?vq12002) rfl (by kernel_rfl) (fun _ _ _ h => h) (by rfl) ?hq12002 (by assumption) ?rq12002
        case hq12002 => (intro u hu; (try dsimp only at hu); go_simp <;> with_reducible rfl)
        try simp only [Act.put, lsA, lsB, lsC]
        refine takeQ (i := 2) (v := ?vq12003) rfl (by kernel_rfl) (fun _ _ _ h => h) (by rfl) ?hq12003 (by assumption) ?rq12003
        case hq12003 => (intro u hu; (try dsimp only at hu); go_simp <;> with_reducible rfl)
        try simp only [Act.put, lsA, lsB, lsC]
        refine takeQ (i := 3) (v := ?vq12004) rfl (by kernel_rfl) (fun _ _ _ h => h) (by rfl) ?hq12004 (by assumption) ?rq12004
        case hq12004 => (intro u hu; (try dsimp only at hu); go_simp <;> with_reducible rfl)
        try simp only [Act.put, lsA, lsB, lsC]
        refine takeQ (i := 4) (v := ?vq12005) rfl (by kernel_rfl) (fun _ _ _ h => h) (by rfl) ?hq12005 (by assumption) ?rq12005
        case hq12005 => (intro u hu; (try dsimp only at hu); go_simp <;> with_reducible rfl)
        try simp only [Act.put, lsA, lsB, lsC]
        refine takeQ (i := 5) (v := ?vq12006) rfl (by kernel_rfl) (fun _ _ _ h => h) (by rfl) ?hq12006 (by assumption) ?rq12006
        case hq12006 => (intro u hu; (try dsimp only at hu); go_simp <;> with_reducible rfl)
        try simp only [Act.put, lsA, lsB, lsC]
        refine takeQ (i := 6) (v := ?vq12007) rfl (by kernel_rfl) (fun _ _ _ h => h) (by rfl) ?hq12007 (by assumption) ?rq12007
        case hq12007 => (intro u hu; (try dsimp only at hu); go_simp <;> with_reducible rfl)
        try simp only [Act.put, lsA, lsB, lsC]
        refine takeQ (i := 7) (v := ?vq12008) rfl (by kernel_rfl) (fun _ _ _ h => h) (by rfl) ?hq12008 (by assumption) ?rq12008
        case hq12008 => (intro u hu; (try dsimp only at hu); go_simp <;> with_reducible rfl)
        try simp only [Act.put, lsA, lsB, lsC]
        refine oneL (i := 8) (by kernel_rfl) rfl (fun K hK => ?_)
        go_simp
        refine (spec_l8Put a2 n2 cap2 (cutF nm l) tt f.d _ (R2.sl.below ((Below.refl _ _).drew)) (by omega)).mono ?_
        rintro e w3 ⟨⟨a3, n3, cap3, rfl, R3⟩, hB3'⟩
        have hB3 := chain ((Below.refl w2.heap.size w2).drew) hB3'
        dsimp only
        refine hK.out _ _ (hSB _ hB3) (fun hHeld => ?_)
        clear hK K
        try simp only [Act.put, lsA, lsB, lsC]
        refine takeQ (i := 9) (v := ?vq12009) rfl (by kernel_rfl) (fun _ _ _ h => h) (by rfl) ?hq12009 (by assumption) ?rq12009
        case hq12009 => (intro u hu; (try dsimp only at hu); go_simp <;> with_reducible rfl)
        try simp only [Act.put, lsA, lsB, lsC]
        refine wpAnyH_done (by kernel_rfl) ?_ _
        clear hS0 hSB hHeld
        have hs2 := hB2.size
        simp only [World.size_alloc] at hs2
        go_wp2
        go_returns
        exact ⟨⟨a3, n3, cap3, by rw [hf.out] <;> rfl, by rw [hf.out]; exact R3.mono (show w.heap.size ≤ w2.heap.size by omega)⟩, chain (chain hB0 hB2) hB3⟩
      · have hk2b : (kd == 2) = false := by simpa using hk2
        have hf : Hid (doF l ⟨kd, nm, tt, d⟩ = (cutF nm l, true)) := by show _ = _; simp [doF, hat, hfi, hk, hk2]
        generalize doF l ⟨kd, nm, tt, d⟩ = R at *
        clear hfi
        go_enter Tryz.func138, Tryz.ntmps138
        go_wp2_with fail
        refine (spec_l8At _ n cap l nm _ (h.below hB0) (by omega)).mono ?_
        rintro e w1 ⟨rfl, rfl⟩
        rw [hat]
        simp only [plF]
        go_wp2_with fail
        refine (spec_l8Cut _ n cap l nm _ (h.below hB0) (by omega)).mono ?_
        rintro e w2 ⟨⟨a2, n2, cap2, rfl, hn2, R2⟩, hB2⟩
        have O2 := O0.below hB2
        have x0 : w2.cell? ⟨w.heap.size, 0, none⟩ = some (.int .i64 kd) := O2.cell 0
        go_wp2
        go_returns
        exact ⟨⟨a2, n2, cap2, by rw [hf.out] <;> rfl, by rw [hf.out]; exact R2.mono (by simp)⟩, chain hB0 hB2⟩
end Go.Proofs.YtigldeccfpkdmaaGreatDoor
namespace Go.Proofs.YtigldeccfpkdmaaGreatDoor
open Go Go.RowKit Go.BigFrame
/-- A disk in memory. -/
structure SlH {α : Type} (cs : α → List Value) (sz : Nat) (w : World) (a : Option Addr) (n cap : Nat) (l : List α) : Prop where
  sl : SlAt cs sz w a n l
  spot : ∀ ad, a = some ad → ad.spot = none
  nil : a = none → cap = 0
theorem SlH.below {α : Type} {cs : α → List Value} {sz : Nat} {w w' : World} {a : Option Addr} {n cap : Nat} {l : List α} (h : SlH cs sz w a n cap l) (hb : Below w.heap.size w w') : SlH cs sz w' a n cap l := ⟨h.sl.below hb, h.spot, h.nil⟩
theorem ResAt.slH {α : Type} {cs : α → List Value} {sz : Nat} {t : TypeId} {w : World} {B n cap : Nat} {a : Option Addr} {l : List α} (h : ResAt cs sz t w B a n cap l) : SlH cs sz w a n cap l := by
  refine ⟨h.sl, fun ad e => ?_, fun e => ?_⟩
  · rcases h.own with ⟨h0, _⟩ | ⟨b, h1, _⟩
    · rw [h0] at e; cases e
    · rw [h1] at e; cases e; rfl
  · rcases h.own with ⟨_, _, h0⟩ | ⟨b, h1, _⟩
    · exact h0
    · rw [h1] at e; cases e
def DiskAt (w : World) (v : Value) (d : Dk) : Prop :=
  ∃ la ln lc sa sn sc oa on oc, v = .agg #[.slice la ln lc, .slice sa sn sc, .slice oa on oc] ∧ SlH Fl.cs 2 w la ln lc d.live ∧ SlH Fl.cs 2 w sa sn sc d.safe ∧ SlH Dp.cs 4 w oa on oc d.ops
theorem DiskAt.below {w w' : World} {v : Value} {d : Dk} (h : DiskAt w v d) (hb : Below w.heap.size w w') : DiskAt w' v d := by
  obtain ⟨la, ln, lc, sa, sn, sc, oa, on, oc, hv, h1, h2, h3⟩ := h
  exact ⟨la, ln, lc, sa, sn, sc, oa, on, oc, hv, h1.below hb, h2.below hb, h3.below hb⟩
/-- A disk that is asked. -/
structure DimD (d : Dk) : Prop where
  live : d.live.length ≤ 4000000 ∧ BndF d.live
  safe : d.safe.length ≤ 4000000 ∧ BndF d.safe
  ops : d.ops.length ≤ 4000000 ∧ ∀ o ∈ d.ops, StrD o ∧ o.d.size ≤ 10000000
theorem doF_len (l : List Fl) (o : Dp) : (doF l o).1.length ≤ l.length + 1 := by
  have hc : ∀ nm, (cutF nm l).length ≤ l.length := fun nm => List.length_filter_le _ _
  unfold doF
  split
  · split
    · exact putF_len _ _
    · simp
  · split
    · simp
    · split
      · exact putF_len _ _
      · split
        · have := putF_len ⟨o.tt, ‹Fl›.d⟩ (cutF o.nm l)
          have := hc o.nm
          simp only
          omega
        · have := hc o.nm
          simp only
          omega
theorem doF_bnd {l : List Fl} {o : Dp} (hf : filesB l = true) (ho : StrD o) (hd : o.d.size ≤ 10000000) : BndF (doF l o).1 := by
  obtain ⟨_, hs, hg⟩ := filesB_all hf
  have hm : ∀ x ∈ l, x.nm.size ≤ 9223372036854775807 ∧ x.d.size ≤ 200000 := fun x hx => by
    have h1 := fgo_names hg x hx
    have h2 := sumB_mem hx
    simp only [nmB, Bool.and_eq_true, decide_eq_true_eq] at h1
    omega
  have hb : BndF l := fun x hx => by have := hm x hx; omega
  obtain ⟨g1, g2, g3⟩ := ho
  unfold doF
  split
  · split
    · intro x hx
      rcases putF_mem hx with rfl | hx
      · exact ⟨g1, by show o.d.size ≤ _; omega⟩
      · exact hb x hx
    · exact hb
  · split
    · exact hb
    · rename_i f hfi
      have hfm := hm f (List.mem_of_getElem? hfi)
      split
      · intro x hx
        rcases putF_mem hx with rfl | hx
        · refine ⟨g1, ?_⟩
          show (f.d ++ o.d).size ≤ _
          rw [ByteArray.size_append]
          omega
        · exact hb x hx
      · split
        · intro x hx
          rcases putF_mem hx with rfl | hx
          · exact ⟨g2, by show f.d.size ≤ _; omega⟩
          · exact hb x (List.mem_filter.1 hx).1
        · exact fun x hx => hb x (List.mem_filter.1 hx).1
set_option maxHeartbeats 4000000 in
set_option maxRecDepth 100000 in
theorem spec_DiskOk (v : Value) (d : Dk) (w : World) (h : DiskAt w v d) (hd : DimD d) :
    Calls Tryz.prog 70 #[v] w fun e w' => e = .returned (.bool (diskB d)) ∧ Below w.heap.size w w' := by
  obtain ⟨la, ln, lc, sa, sn, sc, oa, on, oc, rfl, hL, hS, hO⟩ := h
  obtain ⟨⟨dl1, dl2⟩, ⟨ds1, ds2⟩, do1, do2⟩ := hd
  obtain ⟨live, safe, ops⟩ := d
  simp only at dl1 dl2 ds1 ds2 do1 do2 hL hS hO
  have lL : Hid (live.length = ln) := hL.sl.len
  have lS : Hid (safe.length = sn) := hS.sl.len
  have lO : Hid (ops.length = on) := hO.sl.len
  have hB0 : Below w.heap.size w (w.alloc (.cells #[.slice la ln lc, .slice sa sn sc, .slice oa on oc] 52)) := by go_grown
  have D0 := Blk.new w #[.slice la ln lc, .slice sa sn sc, .slice oa on oc] 52
  rw [lL.out] at dl1
  rw [lS.out] at ds1
  rw [lO.out] at do1
  cases hfl : filesB live
  · have hf : Hid (diskB ⟨live, safe, ops⟩ = false) := by show _ = _; simp [diskB, hfl]
    go_enter Tryz.func70, Tryz.ntmps70
    go_wp2_with fail
    refine (spec_l8Files la ln lc live _ (hL.sl.below hB0) dl2 (by omega)).mono ?_
    rintro e w1 ⟨rfl, hB1⟩
    rw [hfl]
    go_wp2
    go_returns
    exact ⟨ret_bool hf.out.symm, chain hB0 hB1⟩
  · cases hfs : filesB safe
    · have hf : Hid (diskB ⟨live, safe, ops⟩ = false) := by show _ = _; simp [diskB, hfs]
      go_enter Tryz.func70, Tryz.ntmps70
      go_wp2_with fail
      refine (spec_l8Files la ln lc live _ (hL.sl.below hB0) dl2 (by omega)).mono ?_
      rintro e w1 ⟨rfl, hB1⟩
      rw [hfl]
      have D1 := D0.below hB1
      have x1 : w1.cell? ⟨w.heap.size, 1, none⟩ = some (.slice sa sn sc) := D1.cell 1
      have hC1 := chain hB0 hB1
      go_wp2_with fail
      refine (spec_l8Files sa sn sc safe _ (hS.sl.below hC1) ds2 (by omega)).mono ?_
      rintro e w2 ⟨rfl, hB2⟩
      rw [hfs]
      go_wp2
      go_returns
      exact ⟨ret_bool hf.out.symm, chain hC1 hB2⟩
    · go_enter Tryz.func70, Tryz.ntmps70
      go_wp2_with fail
      refine (spec_l8Files la ln lc live _ (hL.sl.below hB0) dl2 (by omega)).mono ?_
      rintro e w1 ⟨rfl, hB1⟩
      rw [hfl]
      have D1 := D0.below hB1
      have x1 : w1.cell? ⟨w.heap.size, 1, none⟩ = some (.slice sa sn sc) := D1.cell 1
      have hC1 := chain hB0 hB1
      go_wp2_with fail
      refine (spec_l8Files sa sn sc safe _ (hS.sl.below hC1) ds2 (by omega)).mono ?_
      rintro e w2 ⟨rfl, hB2⟩
      rw [hfs]
      have D2 := D1.below hB2
      have hC2 := chain hC1 hB2
      clear x1
      have x0 : w2.cell? ⟨w.heap.size, 0, none⟩ = some (.slice la ln lc) := D2.cell 0
      have x1 : w2.cell? ⟨w.heap.size, 1, none⟩ = some (.slice sa sn sc) := D2.cell 1
      have x2 : w2.cell? ⟨w.heap.size, 2, none⟩ = some (.slice oa on oc) := D2.cell 2
      by_cases h200 : on ≤ 200
      · have h2b : ¬ (200 : Int) < on := by omega
        have hf : Hid (diskB ⟨live, safe, ops⟩ = (match runF safe ops with | none => false | some l => eqFls l live)) := by
          show _ = _
          have h200' : ops.length ≤ 200 := by rw [lO.out]; exact h200
          show (filesB live && filesB safe && decide (ops.length ≤ 200) && _) = _
          rw [hfl, hfs, decide_eq_true h200']
          cases runF safe ops <;> rfl
        go_wp2_with fail
        go_loopw [3, 4] (fun now ix wr => ∃ (k : Nat) (a2 : Option Addr) (n2 c2 : Nat) (cur : List Fl), k ≤ on ∧ ix = .int .i64 k ∧ now = .slice a2 n2 c2 ∧ SlH Fl.cs 2 wr a2 n2 c2 cur ∧ filesB cur = true ∧ Hid (runF safe ops = runF cur (ops.drop k)) ∧ Below w2.heap.size w2 wr) (fun _ ix _ => on - (intOf ix).toNat)
        case atStart => exact ⟨0, sa, sn, sc, safe, Nat.zero_le _, rfl, rfl, hS.below hC2, hfs, by show _ = _; simp, Below.refl _ _⟩
        case round =>
          obtain ⟨k, a2, n2, c2, cur, hk, rfl, rfl, hN, hfc, hI, hB⟩ := hrel
          clear x0 x1 x2
          have D3 := D2.below hB
          have x0 : wr.cell? ⟨w.heap.size, 0, none⟩ = some (.slice la ln lc) := D3.cell 0
          have x2 : wr.cell? ⟨w.heap.size, 2, none⟩ = some (.slice oa on oc) := D3.cell 2
          have hC3 := chain hC2 hB
          obtain ⟨hc60, hcs, hcg⟩ := filesB_all hfc
          have hn2 : n2 ≤ 60 := by rw [← hN.sl.len]; exact hc60
          have hcb : ∀ f ∈ cur, f.d.size ≤ 100000000 := fun f hf => by have := sumB_mem hf; omega
          by_cases hlt : k < on
          · obtain ⟨b, o, op, rfl, hp, c0, c1, c2', c3⟩ := dp_at (hO.sl.below hC3) hlt
            obtain ⟨hso, hod⟩ := do2 op (List.mem_of_getElem? hp)
            have hrun : runF cur (ops.drop k) = if ((doF cur op).2 && formB op && filesB (doF cur op).1) = true then runF (doF cur op).1 (ops.drop (k + 1)) else none := by
              rw [drop_at hp]; rfl
            clear hp
            have hk1 : (k : Int) < on := by omega
            have hk2 : (0 : Int) ≤ k := by omega
            have hbn := doF_bnd hfc hso hod
            have hdl := doF_len cur op
            go_wp2_with fail
            refine (spec_l8Do a2 n2 c2 cur op _ hN.sl hN.spot hN.nil (by omega) hcb (by omega)).mono ?_
            rintro e w4 ⟨⟨a4, n4, c4, rfl, R4⟩, hB4⟩
            have hC4 := chain hC3 hB4
            have e0 := bcell hB4 c0
            have e1 := bcell hB4 c1
            have e2 := bcell hB4 c2'
            have e3 := bcell hB4 c3
            have y2 := bcell hB4 x2
            have hn4 : n4 ≤ 61 := by rw [← R4.sl.len]; omega
            cases hok : (doF cur op).2
            · have hend : Hid (runF safe ops = none) := by show _ = _; rw [hI.out, hrun, hok]; simp
              go_wp2
              go_returns
              exact ⟨by rw [hf.out, hend.out] <;> rfl, hC4⟩
            · go_wp2_with fail
              refine (spec_l8Form op _ hso).mono ?_
              rintro e w5 ⟨rfl, hB5⟩
              have hC5 := chain hC4 hB5
              cases hfo : formB op
              · have hend : Hid (runF safe ops = none) := by show _ = _; rw [hI.out, hrun, hok, hfo]; simp
                go_wp2
                go_returns
                exact ⟨by rw [hf.out, hend.out] <;> rfl, hC5⟩
              · have R5 := R4.below hB5
                go_wp2_with fail
                refine (spec_l8Files a4 n4 c4 _ _ R5.sl hbn (by omega)).mono ?_
                rintro e w6 ⟨rfl, hB6⟩
                have hC6 := chain hC5 hB6
                cases hfn : filesB (doF cur op).1
                · have hend : Hid (runF safe ops = none) := by show _ = _; rw [hI.out, hrun, hok, hfo, hfn]; simp
                  go_wp2
                  go_returns
                  exact ⟨by rw [hf.out, hend.out] <;> rfl, hC6⟩
                · have hnx : Hid (runF safe ops = runF (doF cur op).1 (ops.drop (k + 1))) := by show _ = _; rw [hI.out, hrun, hok, hfo, hfn]; simp
                  have R6 := (R5.below hB6).slH
                  have hB7 : Below w2.heap.size w2 w6 := chain (chain (chain hB hB4) hB5) hB6
                  go_wp2
                  go_roundw
                  case rel => exact ⟨k + 1, a4, n4, c4, _, by omega, by go_num, rfl, R6, hfn, hnx, hB7⟩
                  case measure => simp [intOf]; omega
          · obtain rfl : k = on := by omega
            have hend : Hid (runF safe ops = some cur) := by
              show _ = _
              rw [hI.out, List.drop_of_length_le (Nat.le_of_eq lO.out)]; rfl
            go_wp2_with fail
            refine (spec_l8Same a2 n2 c2 cur la ln lc live _ hN.sl (hL.sl.below hC3) (by omega) (by omega)).mono ?_
            rintro e w4 ⟨rfl, hB4⟩
            go_wp2
            go_returns
            exact ⟨by rw [hf.out, hend.out] <;> rfl, chain hC3 hB4⟩
      · have h2b : (200 : Int) < on := by omega
        have hf : Hid (diskB ⟨live, safe, ops⟩ = false) := by show _ = _; simp [diskB, lO.out, h200]
        go_wp2
        go_returns
        exact ⟨ret_bool hf.out.symm, hC2⟩
end Go.Proofs.YtigldeccfpkdmaaGreatDoor
namespace Go.Proofs.YtigldeccfpkdmaaGreatDoor
open Go Go.RowKit Go.BigFrame
structure Hr where
  nm : ByteArray
  pa : Option Addr
  pn : Nat
  pc : Nat
def hrs (r : Hr) : List Value := [.string r.nm, .slice r.pa r.pn r.pc]
structure Hy where
  nm : ByteArray
  ps : List ByteArray
def sps (s : ByteArray) : List Value := [.string s]
/-- A file's pieces lie in a block of their own. -/
structure HT (B : Nat) (w : World) (r : Hr) (y : Hy) : Prop where
  nm : r.nm = y.nm
  ps : ResAt sps 1 9 w B r.pa r.pn r.pc y.ps
structure HsT (B : Nat) (w : World) (rows : List Hr) (l : List Hy) : Prop where
  len : rows.length = l.length
  at' : ∀ (i : Nat) r y, rows[i]? = some r → l[i]? = some y → HT B w r y
  apart : ∀ (i j : Nat) r s x y, i ≠ j → rows[i]? = some r → rows[j]? = some s → r.pa = some x → s.pa = some y → x.block ≠ y.block
theorem HT.below {B : Nat} {w w' : World} {r : Hr} {y : Hy} (h : HT B w r y) (hb : Below w.heap.size w w') : HT B w' r y := ⟨h.nm, h.ps.below hb⟩
theorem HsT.below {B : Nat} {w w' : World} {rows : List Hr} {l : List Hy} (h : HsT B w rows l) (hb : Below w.heap.size w w') : HsT B w' rows l := ⟨h.len, fun i r y h1 h2 => (h.at' i r y h1 h2).below hb, h.apart⟩
theorem HT.mono {B B' : Nat} {w : World} {r : Hr} {y : Hy} (h : HT B w r y) (hb : B' ≤ B) : HT B' w r y := ⟨h.nm, h.ps.mono hb⟩
theorem HsT.mono {B B' : Nat} {w : World} {rows : List Hr} {l : List Hy} (h : HsT B w rows l) (hb : B' ≤ B) : HsT B' w rows l := ⟨h.len, fun i r y h1 h2 => (h.at' i r y h1 h2).mono hb, h.apart⟩
theorem HsT.nil (B : Nat) (w : World) : HsT B w [] [] := ⟨rfl, fun i r y h => by simp at h, fun i j r s x y _ h => by simp at h⟩
theorem HsT.block {B : Nat} {w : World} {rows : List Hr} {l : List Hy} (h : HsT B w rows l) {i : Nat} {r : Hr} (hi : rows[i]? = some r) : ∀ ad, r.pa = some ad → B ≤ ad.block ∧ ad.block < w.heap.size := fun ad had => by
  have hl := (List.getElem?_eq_some_iff.1 hi).1
  exact (h.at' i r _ hi (List.getElem?_eq_getElem (by rw [← h.len]; exact hl))).ps.block ad had
end Go.Proofs.YtigldeccfpkdmaaGreatDoor
namespace Go.Proofs.YtigldeccfpkdmaaGreatDoor
open Go.RowKit Go.BigFrame
theorem slAt_grownT {α : Type} {cs : α → List Value} {sz : Nat} {w w' : World} {a : Option Addr} {n : Nat} {l : List α} {row : Option Nat} (h : SlAt cs sz w a n l) (hg : w.grownBy w' row) (hr : ∀ ad, a = some ad → some ad.block ≠ row) : SlAt cs sz w' a n l := by
  refine ⟨h.len, fun i x hx => ?_⟩
  obtain ⟨b, o, ha, hc⟩ := h.cell i x hx
  exact ⟨b, o, ha, fun j v hv => hg.cell (hc j v hv) (hr ⟨b, o, none⟩ ha)⟩
theorem blk_type {w : World} {b : Nat} {c c' : Array Value} {t t' : TypeId} (h : Blk w b c t) (h' : Blk w b c' t') : t = t' := by
  unfold Blk at h h'
  rw [h] at h'
  injection h' with e
  injection e
/-- The blocks that may turn are of this type. -/
def RowTy (w : World) (row : Option Nat) (t : TypeId) : Prop := ∀ k, row = some k → ∃ c, Blk w k c t
theorem rowTy_blk {w : World} {b : Nat} {c : Array Value} {t : TypeId} (h : Blk w b c t) : RowTy w (some b) t := fun k e => by cases e; exact ⟨c, h⟩
theorem ResAt.rowTy {α : Type} {cs : α → List Value} {sz : Nat} {t : TypeId} {w : World} {B n cap : Nat} {a : Option Addr} {l : List α} (h : ResAt cs sz t w B a n cap l) {m k : Nat} : RowTy w (Value.ownBlock (.slice a m k)) t := by
  rcases h.own with ⟨rfl, _⟩ | ⟨b, rfl, _, _, _, c, hc, _⟩
  · intro k e; simp [Value.ownBlock] at e
  · intro k e; simp [Value.ownBlock] at e; subst e; exact ⟨c, hc⟩
theorem ResAt.off {α : Type} {cs : α → List Value} {sz : Nat} {t : TypeId} {w w' : World} {B n cap : Nat} {a : Option Addr} {l : List α} {row : Option Nat} (h : ResAt cs sz t w B a n cap l) (hg : w.grownBy w' row) (hr : ∀ ad, a = some ad → some ad.block ≠ row) : ResAt cs sz t w' B a n cap l := by
  refine ⟨slAt_grownT h.sl hg hr, ?_⟩
  rcases h.own with h0 | ⟨b, ha, hB, h1, h2, c, hc, q⟩
  · exact .inl h0
  · exact .inr ⟨b, ha, hB, h1, h2, c, (hg.block _ hc.lt (hr _ ha)).trans hc, q⟩
theorem ResAt.ty {α : Type} {cs : α → List Value} {sz : Nat} {t t' : TypeId} {w w' : World} {B n cap : Nat} {a : Option Addr} {l : List α} {row : Option Nat} (h : ResAt cs sz t w B a n cap l) (hg : w.grownBy w' row) (hr : RowTy w row t') (ht : t ≠ t') : ResAt cs sz t w' B a n cap l := by
  refine h.off hg (fun ad e hc => ?_)
  obtain ⟨c', h'⟩ := hr _ hc.symm
  rcases h.own with ⟨h0, _⟩ | ⟨b, ha, _, _, _, c, hb, _⟩
  · rw [h0] at e; cases e
  · rw [ha] at e; cases e; exact ht (blk_type hb h')
theorem Blk.ty {w w' : World} {b : Nat} {c : Array Value} {t t' : TypeId} {row : Option Nat} (h : Blk w b c t) (hg : w.grownBy w' row) (hr : RowTy w row t') (ht : t ≠ t') : Blk w' b c t := by
  refine (hg.block _ h.lt (fun e => ?_)).trans h
  obtain ⟨c', h'⟩ := hr _ e.symm
  exact ht (blk_type h h')
end Go.Proofs.YtigldeccfpkdmaaGreatDoor
namespace Go.Proofs.YtigldeccfpkdmaaGreatDoor
open Go Go.RowKit Go.BigFrame
theorem HsT.ty {B : Nat} {w w' : World} {rows : List Hr} {l : List Hy} {row : Option Nat} {t' : TypeId} (h : HsT B w rows l) (hg : w.grownBy w' row) (hr : RowTy w row t') (ht : (9 : TypeId) ≠ t') : HsT B w' rows l := ⟨h.len, fun i r y h1 h2 => ⟨(h.at' i r y h1 h2).nm, (h.at' i r y h1 h2).ps.ty hg hr ht⟩, h.apart⟩
theorem HT.ty {B : Nat} {w w' : World} {r : Hr} {y : Hy} {row : Option Nat} {t' : TypeId} (h : HT B w r y) (hg : w.grownBy w' row) (hr : RowTy w row t') (ht : (9 : TypeId) ≠ t') : HT B w' r y := ⟨h.nm, h.ps.ty hg hr ht⟩
section
variable {o : Oper} {a : Act} {w : World} {K : Act → World → Prop} {Q : Exit → Act → World → Prop}
end
theorem Blk.one {w : World} {b : Nat} {c0 : Value} {t : TypeId} (h : Blk w b #[c0] t) : w.cell? ⟨b, 0, none⟩ = some c0 := h.cell 0
end Go.Proofs.YtigldeccfpkdmaaGreatDoor
namespace Go.Proofs.YtigldeccfpkdmaaGreatDoor
open Go Go.RowKit Go.BigFrame
/-- Where the file is, or would be. -/
def plH (l : List Hy) (s : ByteArray) : Nat := (l.takeWhile (fun y => bl y.nm.toList s.toList)).length
def hasH (l : List Hy) (s : ByteArray) : Bool := match l[plH l s]? with | some y => y.nm.toList == s.toList | none => false
/-- By rising names. -/
def SrtH (l : List Hy) : Prop := ∀ (i j : Nat) x y, i < j → l[i]? = some x → l[j]? = some y → bl x.nm.toList y.nm.toList = true
theorem plH_is {s : ByteArray} : ∀ {l : List Hy} {i : Nat}, i ≤ l.length → (∀ (t : Nat) (x : Hy), t < i → l[t]? = some x → bl x.nm.toList s.toList = true) → (∀ (t : Nat) (x : Hy), i ≤ t → l[t]? = some x → bl x.nm.toList s.toList = false) → plH l s = i
  | [], i, hi, _, _ => by simp at hi; subst hi; rfl
  | y :: r, 0, _, _, h2 => by
    have := h2 0 y (Nat.le_refl _) rfl
    simp [plH, List.takeWhile, this]
  | y :: r, i + 1, hi, h1, h2 => by
    have := h1 0 y (by omega) rfl
    have ih := plH_is (s := s) (l := r) (i := i) (by simpa using hi) (fun t x ht hx => h1 (t + 1) x (by omega) (by simpa using hx)) (fun t x ht hx => h2 (t + 1) x (by omega) (by simpa using hx))
    unfold plH at ih ⊢
    simp [List.takeWhile, this, ih]
theorem SrtH.lo {l : List Hy} (h : SrtH l) {s : ByteArray} {m : Nat} {y : Hy} (hy : l[m]? = some y) (hb : bl y.nm.toList s.toList = true) : ∀ (t : Nat) (x : Hy), t < m + 1 → l[t]? = some x → bl x.nm.toList s.toList = true := by
  intro t x ht hx
  by_cases he : t = m
  · subst he; rw [hy] at hx; cases hx; exact hb
  · exact bl_trans (h t m x y (by omega) hx hy) hb
theorem SrtH.hi {l : List Hy} (h : SrtH l) {s : ByteArray} {m : Nat} {y : Hy} (hy : l[m]? = some y) (hb : bl y.nm.toList s.toList = false) : ∀ (t : Nat) (x : Hy), m ≤ t → l[t]? = some x → bl x.nm.toList s.toList = false := by
  intro t x ht hx
  by_cases he : t = m
  · subst he; rw [hy] at hx; cases hx; exact hb
  · cases hc : bl x.nm.toList s.toList
    · rfl
    · rw [bl_trans (h m t y x (by omega) hy hx) hc] at hb; cases hb
end Go.Proofs.YtigldeccfpkdmaaGreatDoor
namespace Go.Proofs.YtigldeccfpkdmaaGreatDoor
open Go Go.RowKit Go.BigFrame
theorem Blk.row {w : World} {b : Nat} {c c' : Array Value} {t : TypeId} (h : Blk w b c t) : Blk (w.setRow b c') b c' t := setRow_heap w b c c' t _ h
end Go.Proofs.YtigldeccfpkdmaaGreatDoor
