/- An op that is done on files, by the model. Disks that are right, by the model. Files in the making, in memory; whether they fit. -/
import Derived.Test.YtpobgjkmcmkkeaaG05
namespace Go.Proofs.Ytpobgjkmcmkkeaa
open Go Go.RowKit Go.BigFrame

theorem atF_some {l : List Fl} {nm : ByteArray} {i : Nat} (h : atF l nm = some i) : i < l.length := by
  unfold atF at h
  exact (List.findIdx?_eq_some_iff_getElem.1 h).1

set_option maxHeartbeats 4000000 in
set_option maxRecDepth 100000 in
theorem spec_l8Do (a : Option Addr) (n cap : Nat) (l : List Fl) (op : Dp) (w : World) (h : FlsAt w a n l) (ha1 : ∀ ad, a = some ad → ad.spot = none) (ha2 : a = none → cap = 0) (hn : n ≤ 4000000) (hb : ∀ f ∈ l, f.d.size ≤ 100000000) (ho : op.d.size ≤ 100000000) :
    Calls Try.prog 48 #[.slice a n cap, .agg #[.int .i64 op.k, .string op.nm, .string op.tt, .string op.d]] w fun e w' => (∃ a' n' cap', e = .returned (.tuple #[.slice a' n' cap', .bool (doF l op).2]) ∧ ResAt Fl.cs 2 82 w' w.heap.size a' n' cap' (doF l op).1) ∧ Below w.heap.size w w' := by
  have hlen : Hid (l.length = n) := h.len
  obtain ⟨kd, nm, tt, d⟩ := op
  simp only at ho
  have O0 := Blk.new w #[.int .i64 kd, .string nm, .string tt, .string d] 36
  have hB0 : Below w.heap.size w (w.alloc (.cells #[.int .i64 kd, .string nm, .string tt, .string d] 36)) := by go_grown
  cases hat : atF l nm with
  | none =>
    by_cases hk : kd = 1
    · subst hk
      have hf : Hid (doF l ⟨1, nm, tt, d⟩ = (putF ⟨nm, d⟩ l, true)) := by show _ = _; simp [doF, hat]
      generalize doF l ⟨1, nm, tt, d⟩ = R at *
      go_enter Try.func48, Try.ntmps48
      go_wp2_with fail
      refine (spec_l8At a n cap l nm _ (h.below hB0) (by omega)).mono ?_
      rintro e w1 ⟨rfl, rfl⟩
      rw [hat]
      simp only [plF]
      go_wp2_with fail
      refine (spec_l8Put a n cap l nm d _ (h.below hB0) (by omega)).mono ?_
      rintro e w2 ⟨⟨a2, n2, cap2, rfl, R2⟩, hB2⟩
      go_wp2
      go_returns
      exact ⟨⟨a2, n2, cap2, by rw [hf.out] <;> rfl, by rw [hf.out]; exact R2.mono (by simp)⟩, chain hB0 hB2⟩
    · have hkb : (kd == 1) = false := by simpa using hk
      have hf : Hid (doF l ⟨kd, nm, tt, d⟩ = (l, false)) := by show _ = _; simp [doF, hat, hk]
      generalize doF l ⟨kd, nm, tt, d⟩ = R at *
      go_enter Try.func48, Try.ntmps48
      go_wp2_with fail
      refine (spec_l8At a n cap l nm _ (h.below hB0) (by omega)).mono ?_
      rintro e w1 ⟨rfl, rfl⟩
      rw [hat]
      simp only [plF]
      go_wp2_with (at_builtin; refine wpList_app rfl (fun K hK => wp_appFl _ _ rfl w.heap.size _ 0 0 [] rfl (res_empty (Blk.new' _ _ _ _ (by simp)) (by first | omega | (simp; done) | (simp; omega))) a n cap l rfl ((h.below hB0).alloc _) ha1 ha2 n (Nat.zero_add _) (by omega) (by first | omega | (simp; done) | (simp; omega)) (fun a3 cap3 w3 R3 hg3 => hK _ _ ?_)))
      have hB3 : Below w.heap.size w w3 := Below.grown (hB0.alloc (by simp) _) hg3 (by first | omega | (simp; done) | (simp; omega)) (fun j e => by simp [Value.ownBlock] at e; omega)
      go_wp2
      go_returns
      exact ⟨⟨a3, n, cap3, by rw [hf.out] <;> rfl, by rw [hf.out]; simpa using R3⟩, hB3⟩
  | some i =>
    have hil := atF_some hat
    rw [hlen.out] at hil
    obtain ⟨b, o, f, rfl, hfi, c0, c1⟩ := fl_at h hil
    have hfb := hb f (List.mem_of_getElem? hfi)
    have hi1 : (i : Int) < n := by omega
    have hi2 : (0 : Int) ≤ i := by omega
    have hi3 : ¬ (i : Int) < 0 := by omega
    have g1 := bcell hB0 c1
    by_cases hk : kd = 1
    · subst hk
      have hf : Hid (doF l ⟨1, nm, tt, d⟩ = (putF ⟨nm, f.d ++ d⟩ l, true)) := by show _ = _; simp [doF, hat, hfi]
      generalize doF l ⟨1, nm, tt, d⟩ = R at *
      clear hfi
      go_enter Try.func48, Try.ntmps48
      go_wp2_with fail
      refine (spec_l8At _ n cap l nm _ (h.below hB0) (by omega)).mono ?_
      rintro e w1 ⟨rfl, rfl⟩
      rw [hat]
      simp only [plF]
      go_wp2_with fail
      refine (spec_l8Put _ n cap l nm (f.d ++ d) _ (h.below hB0) (by omega)).mono ?_
      rintro e w2 ⟨⟨a2, n2, cap2, rfl, R2⟩, hB2⟩
      go_wp2
      go_returns
      exact ⟨⟨a2, n2, cap2, by rw [hf.out] <;> rfl, by rw [hf.out]; exact R2.mono (by simp)⟩, chain hB0 hB2⟩
    · have hkb : (kd == 1) = false := by simpa using hk
      by_cases hk2 : kd = 2
      · subst hk2
        have hf : Hid (doF l ⟨2, nm, tt, d⟩ = (putF ⟨tt, f.d⟩ (cutF nm l), true)) := by show _ = _; simp [doF, hat, hfi]
        generalize doF l ⟨2, nm, tt, d⟩ = R at *
        clear hfi
        go_enter Try.func48, Try.ntmps48
        go_wp2_with fail
        refine (spec_l8At _ n cap l nm _ (h.below hB0) (by omega)).mono ?_
        rintro e w1 ⟨rfl, rfl⟩
        rw [hat]
        simp only [plF]
        go_wp2_with fail
        refine (spec_l8Cut _ n cap l nm _ (h.below hB0) (by omega)).mono ?_
        rintro e w2 ⟨⟨a2, n2, cap2, rfl, hn2, R2⟩, hB2⟩
        have O2 := O0.below hB2
        have x0 : w2.cell? ⟨w.heap.size, 0, none⟩ = some (.int .i64 2) := O2.cell 0
        have x2 : w2.cell? ⟨w.heap.size, 2, none⟩ = some (.string tt) := O2.cell 2
        have g2 := bcell hB2 g1
        go_wp2_with fail
        have hSB : ∀ u, Below w2.heap.size w2 u → (fun u => u.cell? ⟨w.heap.size, 2, none⟩ = some (.string tt) ∧ u.cell? ⟨b, o + i * 2 + 1, none⟩ = some (.string f.d)) u := fun u hu => ⟨bcell hu x2, bcell hu g2⟩
        have hS0 : (fun u => u.cell? ⟨w.heap.size, 2, none⟩ = some (.string tt) ∧ u.cell? ⟨b, o + i * 2 + 1, none⟩ = some (.string f.d)) w2.drew := ⟨x2, g2⟩
        refine wp_region_heldH (S := (fun u => u.cell? ⟨w.heap.size, 2, none⟩ = some (.string tt) ∧ u.cell? ⟨b, o + i * 2 + 1, none⟩ = some (.string f.d))) 10 (by kernel_rfl) rfl ?_
        refine takeL (i := 0) (v := ?vq12001) rfl (by kernel_rfl) (by kernel_rfl) (by kernel_rfl) (fun _ _ _ h => h) (Or.inl ⟨by rfl, ?hyq12001⟩) (by assumption) ?restq12001
        case hyq12001 => (intro u hu; (try dsimp only at hu); go_simp <;> with_reducible rfl)
        try simp only [Act.put, List.setIfInBounds_toArray, List.set_cons_zero, List.set_cons_succ]
        refine takeL (i := 1) (v := ?vq12002) rfl (by kernel_rfl) (by kernel_rfl) (by kernel_rfl) (fun _ _ _ h => h) (Or.inl ⟨by rfl, ?hyq12002⟩) (by assumption) ?restq12002
        case hyq12002 => (intro u hu; (try dsimp only at hu); go_simp <;> with_reducible rfl)
        try simp only [Act.put, List.setIfInBounds_toArray, List.set_cons_zero, List.set_cons_succ]
        refine takeL (i := 2) (v := ?vq12003) rfl (by kernel_rfl) (by kernel_rfl) (by kernel_rfl) (fun _ _ _ h => h) (Or.inl ⟨by rfl, ?hyq12003⟩) (by assumption) ?restq12003
        case hyq12003 => (intro u hu; (try dsimp only at hu); go_simp <;> with_reducible rfl)
        try simp only [Act.put, List.setIfInBounds_toArray, List.set_cons_zero, List.set_cons_succ]
        refine takeL (i := 3) (v := ?vq12004) rfl (by kernel_rfl) (by kernel_rfl) (by kernel_rfl) (fun _ _ _ h => h) (Or.inl ⟨by rfl, ?hyq12004⟩) (by assumption) ?restq12004
        case hyq12004 => (intro u hu; (try dsimp only at hu); go_simp <;> with_reducible rfl)
        try simp only [Act.put, List.setIfInBounds_toArray, List.set_cons_zero, List.set_cons_succ]
        refine takeL (i := 4) (v := ?vq12005) rfl (by kernel_rfl) (by kernel_rfl) (by kernel_rfl) (fun _ _ _ h => h) (Or.inl ⟨by rfl, ?hyq12005⟩) (by assumption) ?restq12005
        case hyq12005 => (intro u hu; (try dsimp only at hu); go_simp <;> with_reducible rfl)
        try simp only [Act.put, List.setIfInBounds_toArray, List.set_cons_zero, List.set_cons_succ]
        refine takeL (i := 5) (v := ?vq12006) rfl (by kernel_rfl) (by kernel_rfl) (by kernel_rfl) (fun _ _ _ h => h) (Or.inl ⟨by rfl, ?hyq12006⟩) (by assumption) ?restq12006
        case hyq12006 => (intro u hu; (try dsimp only at hu); go_simp <;> with_reducible rfl)
        try simp only [Act.put, List.setIfInBounds_toArray, List.set_cons_zero, List.set_cons_succ]
        refine takeL (i := 6) (v := ?vq12007) rfl (by kernel_rfl) (by kernel_rfl) (by kernel_rfl) (fun _ _ _ h => h) (Or.inl ⟨by rfl, ?hyq12007⟩) (by assumption) ?restq12007
        case hyq12007 => (intro u hu; (try dsimp only at hu); go_simp <;> with_reducible rfl)
        try simp only [Act.put, List.setIfInBounds_toArray, List.set_cons_zero, List.set_cons_succ]
        refine takeL (i := 7) (v := ?vq12008) rfl (by kernel_rfl) (by kernel_rfl) (by kernel_rfl) (fun _ _ _ h => h) (Or.inl ⟨by rfl, ?hyq12008⟩) (by assumption) ?restq12008
        case hyq12008 => (intro u hu; (try dsimp only at hu); go_simp <;> with_reducible rfl)
        try simp only [Act.put, List.setIfInBounds_toArray, List.set_cons_zero, List.set_cons_succ]
        refine oneL (i := 8) (by kernel_rfl) rfl (fun K hK => ?_)
        go_simp
        refine (spec_l8Put a2 n2 cap2 (cutF nm l) tt f.d _ (R2.sl.below ((Below.refl _ _).drew)) (by omega)).mono ?_
        rintro e w3 ⟨⟨a3, n3, cap3, rfl, R3⟩, hB3'⟩
        have hB3 := chain ((Below.refl w2.heap.size w2).drew) hB3'
        dsimp only
        refine hK.out _ _ (hSB _ hB3) (fun hHeld => ?_)
        clear hK K
        try simp only [Act.put, List.setIfInBounds_toArray, List.set_cons_zero, List.set_cons_succ]
        refine takeL (i := 9) (v := ?vq12009) rfl (by kernel_rfl) (by kernel_rfl) (by kernel_rfl) (fun _ _ _ h => h) (Or.inl ⟨by rfl, ?hyq12009⟩) (by assumption) ?restq12009
        case hyq12009 => (intro u hu; (try dsimp only at hu); go_simp <;> with_reducible rfl)
        try simp only [Act.put, List.setIfInBounds_toArray, List.set_cons_zero, List.set_cons_succ]
        refine wpAnyH_done (by kernel_rfl) ?_ _
        clear hS0 hSB hHeld
        have hs2 := hB2.size
        simp only [World.size_alloc] at hs2
        go_wp2
        go_returns
        exact ⟨⟨a3, n3, cap3, by rw [hf.out] <;> rfl, by rw [hf.out]; exact R3.mono (show w.heap.size ≤ w2.heap.size by omega)⟩, chain (chain hB0 hB2) hB3⟩
      · have hk2b : (kd == 2) = false := by simpa using hk2
        have hf : Hid (doF l ⟨kd, nm, tt, d⟩ = (cutF nm l, true)) := by show _ = _; simp [doF, hat, hfi, hk, hk2]
        generalize doF l ⟨kd, nm, tt, d⟩ = R at *
        clear hfi
        go_enter Try.func48, Try.ntmps48
        go_wp2_with fail
        refine (spec_l8At _ n cap l nm _ (h.below hB0) (by omega)).mono ?_
        rintro e w1 ⟨rfl, rfl⟩
        rw [hat]
        simp only [plF]
        go_wp2_with fail
        refine (spec_l8Cut _ n cap l nm _ (h.below hB0) (by omega)).mono ?_
        rintro e w2 ⟨⟨a2, n2, cap2, rfl, hn2, R2⟩, hB2⟩
        have O2 := O0.below hB2
        have x0 : w2.cell? ⟨w.heap.size, 0, none⟩ = some (.int .i64 kd) := O2.cell 0
        go_wp2
        go_returns
        exact ⟨⟨a2, n2, cap2, by rw [hf.out] <;> rfl, by rw [hf.out]; exact R2.mono (by simp)⟩, chain hB0 hB2⟩
end Go.Proofs.Ytpobgjkmcmkkeaa
namespace Go.Proofs.Ytpobgjkmcmkkeaa
open Go Go.RowKit Go.BigFrame

/-- A disk in memory. -/
structure SlH {α : Type} (cs : α → List Value) (sz : Nat) (w : World) (a : Option Addr) (n cap : Nat) (l : List α) : Prop where
  sl : SlAt cs sz w a n l
  spot : ∀ ad, a = some ad → ad.spot = none
  nil : a = none → cap = 0
theorem SlH.below {α : Type} {cs : α → List Value} {sz : Nat} {w w' : World} {a : Option Addr} {n cap : Nat} {l : List α} (h : SlH cs sz w a n cap l) (hb : Below w.heap.size w w') : SlH cs sz w' a n cap l := ⟨h.sl.below hb, h.spot, h.nil⟩
theorem ResAt.slH {α : Type} {cs : α → List Value} {sz : Nat} {t : TypeId} {w : World} {B n cap : Nat} {a : Option Addr} {l : List α} (h : ResAt cs sz t w B a n cap l) : SlH cs sz w a n cap l := by
  refine ⟨h.sl, fun ad e => ?_, fun e => ?_⟩
  · rcases h.own with ⟨h0, _⟩ | ⟨b, h1, _⟩
    · rw [h0] at e; cases e
    · rw [h1] at e; cases e; rfl
  · rcases h.own with ⟨_, _, h0⟩ | ⟨b, h1, _⟩
    · exact h0
    · rw [h1] at e; cases e
def DiskAt (w : World) (v : Value) (d : Dk) : Prop :=
  ∃ la ln lc sa sn sc oa on oc, v = .agg #[.slice la ln lc, .slice sa sn sc, .slice oa on oc] ∧ SlH Fl.cs 2 w la ln lc d.live ∧ SlH Fl.cs 2 w sa sn sc d.safe ∧ SlH Dp.cs 4 w oa on oc d.ops
theorem DiskAt.below {w w' : World} {v : Value} {d : Dk} (h : DiskAt w v d) (hb : Below w.heap.size w w') : DiskAt w' v d := by
  obtain ⟨la, ln, lc, sa, sn, sc, oa, on, oc, hv, h1, h2, h3⟩ := h
  exact ⟨la, ln, lc, sa, sn, sc, oa, on, oc, hv, h1.below hb, h2.below hb, h3.below hb⟩
/-- A disk that is asked. -/
structure DimD (d : Dk) : Prop where
  live : d.live.length ≤ 4000000 ∧ BndF d.live
  safe : d.safe.length ≤ 4000000 ∧ BndF d.safe
  ops : d.ops.length ≤ 4000000 ∧ ∀ o ∈ d.ops, StrD o ∧ o.d.size ≤ 10000000

theorem doF_len (l : List Fl) (o : Dp) : (doF l o).1.length ≤ l.length + 1 := by
  have hc : ∀ nm, (cutF nm l).length ≤ l.length := fun nm => List.length_filter_le _ _
  unfold doF
  split
  · split
    · exact putF_len _ _
    · simp
  · split
    · simp
    · split
      · exact putF_len _ _
      · split
        · have := putF_len ⟨o.tt, ‹Fl›.d⟩ (cutF o.nm l)
          have := hc o.nm
          simp only
          omega
        · have := hc o.nm
          simp only
          omega
theorem doF_bnd {l : List Fl} {o : Dp} (hf : filesB l = true) (ho : StrD o) (hd : o.d.size ≤ 10000000) : BndF (doF l o).1 := by
  obtain ⟨_, hs, hg⟩ := filesB_all hf
  have hm : ∀ x ∈ l, x.nm.size ≤ 9223372036854775807 ∧ x.d.size ≤ 200000 := fun x hx => by
    have h1 := fgo_names hg x hx
    have h2 := sumB_mem hx
    simp only [nmB, Bool.and_eq_true, decide_eq_true_eq] at h1
    omega
  have hb : BndF l := fun x hx => by have := hm x hx; omega
  obtain ⟨g1, g2, g3⟩ := ho
  unfold doF
  split
  · split
    · intro x hx
      rcases putF_mem hx with rfl | hx
      · exact ⟨g1, by show o.d.size ≤ _; omega⟩
      · exact hb x hx
    · exact hb
  · split
    · exact hb
    · rename_i f hfi
      have hfm := hm f (List.mem_of_getElem? hfi)
      split
      · intro x hx
        rcases putF_mem hx with rfl | hx
        · refine ⟨g1, ?_⟩
          show (f.d ++ o.d).size ≤ _
          rw [ByteArray.size_append]
          omega
        · exact hb x hx
      · split
        · intro x hx
          rcases putF_mem hx with rfl | hx
          · exact ⟨g2, by show f.d.size ≤ _; omega⟩
          · exact hb x (List.mem_filter.1 hx).1
        · exact fun x hx => hb x (List.mem_filter.1 hx).1

set_option maxHeartbeats 4000000 in
set_option maxRecDepth 100000 in
theorem spec_DiskOk (v : Value) (d : Dk) (w : World) (h : DiskAt w v d) (hd : DimD d) :
    Calls Try.prog 15 #[v] w fun e w' => e = .returned (.bool (diskB d)) ∧ Below w.heap.size w w' := by
  obtain ⟨la, ln, lc, sa, sn, sc, oa, on, oc, rfl, hL, hS, hO⟩ := h
  obtain ⟨⟨dl1, dl2⟩, ⟨ds1, ds2⟩, do1, do2⟩ := hd
  obtain ⟨live, safe, ops⟩ := d
  simp only at dl1 dl2 ds1 ds2 do1 do2 hL hS hO
  have lL : Hid (live.length = ln) := hL.sl.len
  have lS : Hid (safe.length = sn) := hS.sl.len
  have lO : Hid (ops.length = on) := hO.sl.len
  have hB0 : Below w.heap.size w (w.alloc (.cells #[.slice la ln lc, .slice sa sn sc, .slice oa on oc] 27)) := by go_grown
  have D0 := Blk.new w #[.slice la ln lc, .slice sa sn sc, .slice oa on oc] 27
  rw [lL.out] at dl1
  rw [lS.out] at ds1
  rw [lO.out] at do1
  cases hfl : filesB live
  · have hf : Hid (diskB ⟨live, safe, ops⟩ = false) := by show _ = _; simp [diskB, hfl]
    go_enter Try.func15, Try.ntmps15
    go_wp2_with fail
    refine (spec_l8Files la ln lc live _ (hL.sl.below hB0) dl2 (by omega)).mono ?_
    rintro e w1 ⟨rfl, hB1⟩
    rw [hfl]
    go_wp2
    go_returns
    exact ⟨ret_bool hf.out.symm, chain hB0 hB1⟩
  · cases hfs : filesB safe
    · have hf : Hid (diskB ⟨live, safe, ops⟩ = false) := by show _ = _; simp [diskB, hfs]
      go_enter Try.func15, Try.ntmps15
      go_wp2_with fail
      refine (spec_l8Files la ln lc live _ (hL.sl.below hB0) dl2 (by omega)).mono ?_
      rintro e w1 ⟨rfl, hB1⟩
      rw [hfl]
      have D1 := D0.below hB1
      have x1 : w1.cell? ⟨w.heap.size, 1, none⟩ = some (.slice sa sn sc) := D1.cell 1
      have hC1 := chain hB0 hB1
      go_wp2_with fail
      refine (spec_l8Files sa sn sc safe _ (hS.sl.below hC1) ds2 (by omega)).mono ?_
      rintro e w2 ⟨rfl, hB2⟩
      rw [hfs]
      go_wp2
      go_returns
      exact ⟨ret_bool hf.out.symm, chain hC1 hB2⟩
    · go_enter Try.func15, Try.ntmps15
      go_wp2_with fail
      refine (spec_l8Files la ln lc live _ (hL.sl.below hB0) dl2 (by omega)).mono ?_
      rintro e w1 ⟨rfl, hB1⟩
      rw [hfl]
      have D1 := D0.below hB1
      have x1 : w1.cell? ⟨w.heap.size, 1, none⟩ = some (.slice sa sn sc) := D1.cell 1
      have hC1 := chain hB0 hB1
      go_wp2_with fail
      refine (spec_l8Files sa sn sc safe _ (hS.sl.below hC1) ds2 (by omega)).mono ?_
      rintro e w2 ⟨rfl, hB2⟩
      rw [hfs]
      have D2 := D1.below hB2
      have hC2 := chain hC1 hB2
      clear x1
      have x0 : w2.cell? ⟨w.heap.size, 0, none⟩ = some (.slice la ln lc) := D2.cell 0
      have x1 : w2.cell? ⟨w.heap.size, 1, none⟩ = some (.slice sa sn sc) := D2.cell 1
      have x2 : w2.cell? ⟨w.heap.size, 2, none⟩ = some (.slice oa on oc) := D2.cell 2
      by_cases h200 : on ≤ 200
      · have h2b : ¬ (200 : Int) < on := by omega
        have hf : Hid (diskB ⟨live, safe, ops⟩ = (match runF safe ops with | none => false | some l => eqFls l live)) := by
          show _ = _
          have h200' : ops.length ≤ 200 := by rw [lO.out]; exact h200
          show (filesB live && filesB safe && decide (ops.length ≤ 200) && _) = _
          rw [hfl, hfs, decide_eq_true h200']
          cases runF safe ops <;> rfl
        go_wp2_with fail
        go_loopw [3, 4] (fun now ix wr => ∃ (k : Nat) (a2 : Option Addr) (n2 c2 : Nat) (cur : List Fl), k ≤ on ∧ ix = .int .i64 k ∧ now = .slice a2 n2 c2 ∧ SlH Fl.cs 2 wr a2 n2 c2 cur ∧ filesB cur = true ∧ Hid (runF safe ops = runF cur (ops.drop k)) ∧ Below w2.heap.size w2 wr) (fun _ ix _ => on - (intOf ix).toNat)
        case atStart => exact ⟨0, sa, sn, sc, safe, Nat.zero_le _, rfl, rfl, hS.below hC2, hfs, by show _ = _; simp, Below.refl _ _⟩
        case round =>
          obtain ⟨k, a2, n2, c2, cur, hk, rfl, rfl, hN, hfc, hI, hB⟩ := hrel
          clear x0 x1 x2
          have D3 := D2.below hB
          have x0 : wr.cell? ⟨w.heap.size, 0, none⟩ = some (.slice la ln lc) := D3.cell 0
          have x2 : wr.cell? ⟨w.heap.size, 2, none⟩ = some (.slice oa on oc) := D3.cell 2
          have hC3 := chain hC2 hB
          obtain ⟨hc60, hcs, hcg⟩ := filesB_all hfc
          have hn2 : n2 ≤ 60 := by rw [← hN.sl.len]; exact hc60
          have hcb : ∀ f ∈ cur, f.d.size ≤ 100000000 := fun f hf => by have := sumB_mem hf; omega
          by_cases hlt : k < on
          · obtain ⟨b, o, op, rfl, hp, c0, c1, c2', c3⟩ := dp_at (hO.sl.below hC3) hlt
            obtain ⟨hso, hod⟩ := do2 op (List.mem_of_getElem? hp)
            have hrun : runF cur (ops.drop k) = if ((doF cur op).2 && formB op && filesB (doF cur op).1) = true then runF (doF cur op).1 (ops.drop (k + 1)) else none := by
              rw [drop_at hp]; rfl
            clear hp
            have hk1 : (k : Int) < on := by omega
            have hk2 : (0 : Int) ≤ k := by omega
            have hbn := doF_bnd hfc hso hod
            have hdl := doF_len cur op
            go_wp2_with fail
            refine (spec_l8Do a2 n2 c2 cur op _ hN.sl hN.spot hN.nil (by omega) hcb (by omega)).mono ?_
            rintro e w4 ⟨⟨a4, n4, c4, rfl, R4⟩, hB4⟩
            have hC4 := chain hC3 hB4
            have e0 := bcell hB4 c0
            have e1 := bcell hB4 c1
            have e2 := bcell hB4 c2'
            have e3 := bcell hB4 c3
            have y2 := bcell hB4 x2
            have hn4 : n4 ≤ 61 := by rw [← R4.sl.len]; omega
            cases hok : (doF cur op).2
            · have hend : Hid (runF safe ops = none) := by show _ = _; rw [hI.out, hrun, hok]; simp
              go_wp2
              go_returns
              exact ⟨by rw [hf.out, hend.out] <;> rfl, hC4⟩
            · go_wp2_with fail
              refine (spec_l8Form op _ hso).mono ?_
              rintro e w5 ⟨rfl, hB5⟩
              have hC5 := chain hC4 hB5
              cases hfo : formB op
              · have hend : Hid (runF safe ops = none) := by show _ = _; rw [hI.out, hrun, hok, hfo]; simp
                go_wp2
                go_returns
                exact ⟨by rw [hf.out, hend.out] <;> rfl, hC5⟩
              · have R5 := R4.below hB5
                go_wp2_with fail
                refine (spec_l8Files a4 n4 c4 _ _ R5.sl hbn (by omega)).mono ?_
                rintro e w6 ⟨rfl, hB6⟩
                have hC6 := chain hC5 hB6
                cases hfn : filesB (doF cur op).1
                · have hend : Hid (runF safe ops = none) := by show _ = _; rw [hI.out, hrun, hok, hfo, hfn]; simp
                  go_wp2
                  go_returns
                  exact ⟨by rw [hf.out, hend.out] <;> rfl, hC6⟩
                · have hnx : Hid (runF safe ops = runF (doF cur op).1 (ops.drop (k + 1))) := by show _ = _; rw [hI.out, hrun, hok, hfo, hfn]; simp
                  have R6 := (R5.below hB6).slH
                  have hB7 : Below w2.heap.size w2 w6 := chain (chain (chain hB hB4) hB5) hB6
                  go_wp2
                  go_roundw
                  case rel => exact ⟨k + 1, a4, n4, c4, _, by omega, by go_num, rfl, R6, hfn, hnx, hB7⟩
                  case measure => simp [intOf]; omega
          · obtain rfl : k = on := by omega
            have hend : Hid (runF safe ops = some cur) := by
              show _ = _
              rw [hI.out, List.drop_of_length_le (Nat.le_of_eq lO.out)]; rfl
            go_wp2_with fail
            refine (spec_l8Same a2 n2 c2 cur la ln lc live _ hN.sl (hL.sl.below hC3) (by omega) (by omega)).mono ?_
            rintro e w4 ⟨rfl, hB4⟩
            go_wp2
            go_returns
            exact ⟨by rw [hf.out, hend.out] <;> rfl, chain hC3 hB4⟩
      · have h2b : (200 : Int) < on := by omega
        have hf : Hid (diskB ⟨live, safe, ops⟩ = false) := by show _ = _; simp [diskB, lO.out, h200]
        go_wp2
        go_returns
        exact ⟨ret_bool hf.out.symm, hC2⟩
end Go.Proofs.Ytpobgjkmcmkkeaa
namespace Go.Proofs.Ytpobgjkmcmkkeaa
open Go Go.RowKit Go.BigFrame

structure Hr where
  nm : ByteArray
  pa : Option Addr
  pn : Nat
  pc : Nat
def hrs (r : Hr) : List Value := [.string r.nm, .slice r.pa r.pn r.pc]
structure Hy where
  nm : ByteArray
  ps : List ByteArray
def sps (s : ByteArray) : List Value := [.string s]
theorem hrs_len (r : Hr) : (hrs r).length = 2 := rfl
theorem sps_len (s : ByteArray) : (sps s).length = 1 := rfl
theorem hrs_one (l : List Hr) : ∀ u ∈ l.flatMap hrs, u.oneCell' = true := by
  intro u hu
  obtain ⟨p, _, hp⟩ := List.mem_flatMap.1 hu
  simp [hrs] at hp
  rcases hp with rfl | rfl <;> rfl
theorem sps_one (l : List ByteArray) : ∀ u ∈ l.flatMap sps, u.oneCell' = true := by
  intro u hu
  obtain ⟨p, _, hp⟩ := List.mem_flatMap.1 hu
  simp [sps] at hp
  rcases hp with rfl; rfl
/-- A file's pieces lie in a block of their own. -/
structure HT (B : Nat) (w : World) (r : Hr) (y : Hy) : Prop where
  nm : r.nm = y.nm
  ps : ResAt sps 1 9 w B r.pa r.pn r.pc y.ps
structure HsT (B : Nat) (w : World) (rows : List Hr) (l : List Hy) : Prop where
  len : rows.length = l.length
  at' : ∀ (i : Nat) r y, rows[i]? = some r → l[i]? = some y → HT B w r y
  apart : ∀ (i j : Nat) r s x y, i ≠ j → rows[i]? = some r → rows[j]? = some s → r.pa = some x → s.pa = some y → x.block ≠ y.block
theorem HT.below {B : Nat} {w w' : World} {r : Hr} {y : Hy} (h : HT B w r y) (hb : Below w.heap.size w w') : HT B w' r y := ⟨h.nm, h.ps.below hb⟩
theorem HsT.below {B : Nat} {w w' : World} {rows : List Hr} {l : List Hy} (h : HsT B w rows l) (hb : Below w.heap.size w w') : HsT B w' rows l := ⟨h.len, fun i r y h1 h2 => (h.at' i r y h1 h2).below hb, h.apart⟩
theorem HT.mono {B B' : Nat} {w : World} {r : Hr} {y : Hy} (h : HT B w r y) (hb : B' ≤ B) : HT B' w r y := ⟨h.nm, h.ps.mono hb⟩
theorem HsT.mono {B B' : Nat} {w : World} {rows : List Hr} {l : List Hy} (h : HsT B w rows l) (hb : B' ≤ B) : HsT B' w rows l := ⟨h.len, fun i r y h1 h2 => (h.at' i r y h1 h2).mono hb, h.apart⟩
theorem HsT.nil (B : Nat) (w : World) : HsT B w [] [] := ⟨rfl, fun i r y h => by simp at h, fun i j r s x y _ h => by simp at h⟩
theorem HsT.block {B : Nat} {w : World} {rows : List Hr} {l : List Hy} (h : HsT B w rows l) {i : Nat} {r : Hr} (hi : rows[i]? = some r) : ∀ ad, r.pa = some ad → B ≤ ad.block ∧ ad.block < w.heap.size := fun ad had => by
  have hl := (List.getElem?_eq_some_iff.1 hi).1
  exact (h.at' i r _ hi (List.getElem?_eq_getElem (by rw [← h.len]; exact hl))).ps.block ad had
/-- One more, whose pieces lie in a new block. -/
theorem HsT.snoc {B : Nat} {w w0 : World} {rows : List Hr} {l : List Hy} {r : Hr} {y : Hy} (h : HsT B w rows l) (h' : HT B w r y) (hold : ∀ (i : Nat) q x, rows[i]? = some q → q.pa = some x → x.block < w0.heap.size) (hnew : ∀ x, r.pa = some x → w0.heap.size ≤ x.block) : HsT B w (rows ++ [r]) (l ++ [y]) := by
  have hat : ∀ (i : Nat) q z, (rows ++ [r])[i]? = some q → (l ++ [y])[i]? = some z → HT B w q z := by
    intro i q z h1 h2
    by_cases hi : i < rows.length
    · rw [List.getElem?_append_left hi] at h1
      rw [List.getElem?_append_left (by rw [← h.len]; exact hi)] at h2
      exact h.at' i q z h1 h2
    · rw [List.getElem?_append_right (by omega)] at h1
      rw [List.getElem?_append_right (by rw [← h.len]; omega)] at h2
      have h0 : i - rows.length = 0 := by have := (List.getElem?_eq_some_iff.1 h1).1; simp at this; omega
      rw [h0] at h1
      rw [← h.len, h0] at h2
      simp at h1 h2
      subst h1 h2
      exact h'
  refine ⟨by simp [h.len], hat, ?_⟩
  have hcase : ∀ (i : Nat) q, (rows ++ [r])[i]? = some q → rows[i]? = some q ∨ (i = rows.length ∧ q = r) := by
    intro i q h1
    by_cases hi : i < rows.length
    · rw [List.getElem?_append_left hi] at h1; exact .inl h1
    · rw [List.getElem?_append_right (by omega)] at h1
      have h0 : i - rows.length = 0 := by have := (List.getElem?_eq_some_iff.1 h1).1; simp at this; omega
      rw [h0] at h1
      simp at h1
      exact .inr ⟨by omega, h1.symm⟩
  intro i j p q x z hij h1 h2 hx hz
  rcases hcase i p h1 with g1 | ⟨e1, e1'⟩
  · rcases hcase j q h2 with g2 | ⟨e2, e2'⟩
    · exact h.apart i j p q x z hij g1 g2 hx hz
    · have := hold i p x g1 hx
      rw [e2'] at hz
      have := hnew z hz
      omega
  · rcases hcase j q h2 with g2 | ⟨e2, e2'⟩
    · have := hold j q z g2 hz
      rw [e1'] at hx
      have := hnew x hx
      omega
    · omega
theorem hr_at {B : Nat} {w : World} {a : Option Addr} {n cap : Nat} {rows : List Hr} {l : List Hy} (R : ResAt hrs 2 111 w B a n cap rows) (T : HsT B w rows l) {k : Nat} (hk : k < n) :
    ∃ b r y, a = some ⟨b, 0, none⟩ ∧ rows[k]? = some r ∧ l[k]? = some y ∧ HT B w r y ∧ w.cell? ⟨b, k * 2, none⟩ = some (.string y.nm) ∧ w.cell? ⟨b, k * 2 + 1, none⟩ = some (.slice r.pa r.pn r.pc) := by
  have hl : k < rows.length := by rw [R.sl.len]; exact hk
  have hr : rows[k]? = some rows[k] := by simp [hl]
  have hy : l[k]? = some (l[k]'(by rw [← T.len]; exact hl)) := by simp [← T.len, hl]
  have hT := T.at' k _ _ hr hy
  obtain ⟨b, ha⟩ : ∃ b, a = some ⟨b, 0, none⟩ := by
    rcases R.own with ⟨_, h0, _⟩ | ⟨b, h0, _⟩
    · omega
    · exact ⟨b, h0⟩
  subst ha
  obtain ⟨b', o', e, hc⟩ := R.sl.cell k _ hr
  cases e
  have h0 := hc 0 _ rfl
  have h1 := hc 1 _ rfl
  rw [hT.nm] at h0
  simp only [Nat.zero_add, Nat.add_zero] at h0 h1
  exact ⟨_, _, _, rfl, hr, hy, hT, h0, h1⟩
theorem sp_at {w : World} {a : Option Addr} {n : Nat} {l : List ByteArray} (h : SlAt sps 1 w a n l) {k : Nat} (hk : k < n) : ∃ b o s, a = some ⟨b, o, none⟩ ∧ l[k]? = some s ∧ w.cell? ⟨b, o + k, none⟩ = some (.string s) := by
  have hl : k < l.length := by rw [h.len]; exact hk
  have hx : l[k]? = some l[k] := by simp [hl]
  obtain ⟨b, o, ha, hc⟩ := h.cell k _ hx
  have := hc 0 _ rfl
  simp only [Nat.mul_one, Nat.add_zero] at this
  exact ⟨b, o, _, ha, hx, this⟩

def sumP : List ByteArray → Nat
  | [] => 0
  | s :: r => s.size + sumP r
def sumH : List Hy → Nat
  | [] => 0
  | y :: r => sumP y.ps + sumH r
def fitsB (l : List Hy) : Bool := decide (l.length ≤ 60) && decide (sumH l ≤ 200000)
theorem sumP_take {l : List ByteArray} {k : Nat} {s : ByteArray} (h : l[k]? = some s) : sumP (l.take (k + 1)) = sumP (l.take k) + s.size := by
  rw [take_at h]
  have : ∀ m : List ByteArray, sumP (m ++ [s]) = sumP m + s.size := fun m => by
    induction m with
    | nil => simp [sumP]
    | cons x r ih => simp only [List.cons_append, sumP, ih]; omega
  exact this _
theorem sumP_le (l : List ByteArray) (k : Nat) : sumP (l.take k) ≤ sumP l := by
  induction l generalizing k with
  | nil => simp [sumP]
  | cons x r ih => cases k with
    | zero => simp [sumP]
    | succ k => have := ih k; simp only [List.take_succ_cons, sumP]; omega
theorem sumH_take {l : List Hy} {k : Nat} {y : Hy} (h : l[k]? = some y) : sumH (l.take (k + 1)) = sumH (l.take k) + sumP y.ps := by
  rw [take_at h]
  have : ∀ m : List Hy, sumH (m ++ [y]) = sumH m + sumP y.ps := fun m => by
    induction m with
    | nil => simp [sumH]
    | cons x r ih => simp only [List.cons_append, sumH, ih]; omega
  exact this _
theorem sumH_le (l : List Hy) (k : Nat) : sumH (l.take k) ≤ sumH l := by
  induction l generalizing k with
  | nil => simp [sumH]
  | cons x r ih => cases k with
    | zero => simp [sumH]
    | succ k => have := ih k; simp only [List.take_succ_cons, sumH]; omega

set_option maxHeartbeats 4000000 in
set_option maxRecDepth 100000 in
theorem impl_fits (B sb : Nat) (a : Option Addr) (n cap : Nat) (rows : List Hr) (l : List Hy) (w : World) (hS : Blk w sb #[.slice a n cap] 72) (R : ResAt hrs 2 111 w B a n cap rows) (T : HsT B w rows l) (hn : n ≤ 4194304) (hp : ∀ y ∈ l, y.ps.length ≤ 4194304) (hs : ∀ y ∈ l, ∀ s ∈ y.ps, s.size ≤ 9223372036854775807) :
    Calls Try.prog 44 #[.pointer (some ⟨sb, 0, none⟩)] w fun e w' => e = .returned (.bool (fitsB l)) ∧ Below w.heap.size w w' := by
  have hlen : Hid (l.length = n) := by show _ = _; rw [← T.len]; exact R.sl.len
  have x0 : w.cell? ⟨sb, 0, none⟩ = some (.slice a n cap) := hS.cell 0
  by_cases h60 : n ≤ 60
  · have h60' : ¬ (60 : Int) < n := by omega
    have hfl : Hid (fitsB l = decide (sumH l ≤ 200000)) := by show _ = _; simp [fitsB, hlen.out, h60]
    go_enter Try.func44, Try.ntmps44
    go_wp2_with fail
    go_loopw [3, 19] (fun lf ix wr => ∃ (k q : Nat), k ≤ n ∧ ix = .int .i64 k ∧ sumH (l.take k) + q = 200000 ∧ lf = .int .i64 (q : Int) ∧ Below w.heap.size w wr) (fun _ ix _ => n - (intOf ix).toNat)
    case atStart => exact ⟨0, 200000, Nat.zero_le _, rfl, by simp [sumH], rfl, Below.refl _ _⟩
    case round =>
      obtain ⟨k, q, hk, rfl, hq, rfl, hB⟩ := hrel
      by_cases hlt : k < n
      · obtain ⟨b, r, y, rfl, hr, hy, hT, c0, c1⟩ := hr_at (R.below hB) (T.below hB) hlt
        have hst : Hid (sumH (l.take (k + 1)) = sumH (l.take k) + sumP y.ps) := sumH_take hy
        have htot : Hid (sumH (l.take (k + 1)) ≤ sumH l) := sumH_le l _
        have hyp := hp y (List.mem_of_getElem? hy)
        have hys := hs y (List.mem_of_getElem? hy)
        have hpl : Hid (y.ps.length = r.pn) := hT.ps.sl.len
        rw [hpl.out] at hyp
        clear hr hy
        have hk1 : (k : Int) < n := by omega
        have hk2 : (0 : Int) ≤ k := by omega
        obtain ⟨wi, hwi⟩ : ∃ x, x = wr := ⟨_, rfl⟩
        subst hwi
        generalize sumH (l.take k) = SH at *
        obtain ⟨rn, pa, pn, pc⟩ := r
        simp only at c1 hpl hyp
        have hA : Below wi.heap.size wi (wi.alloc (.cells #[.string y.nm, .slice pa pn pc] 111)) := (Below.refl _ _).alloc (Nat.le_refl _) _
        go_wp2_with fail
        have hP := hT.ps.sl.below hA
        have hB1 := chain hB hA
        simp only at hP
        generalize wi.alloc (.cells #[.string y.nm, .slice pa pn pc] 111) = W1 at *
        go_loopw [3, 7, 26] (fun lf _pv ix wr => ∃ (j q2 : Nat), j ≤ pn ∧ ix = .int .i64 j ∧ sumP (y.ps.take j) + q2 = q ∧ lf = .int .i64 (q2 : Int) ∧ W1 = wr) (fun _ _ ix _ => pn - (intOf ix).toNat)
        case atStart => exact ⟨0, q, Nat.zero_le _, rfl, by simp [sumP], rfl, rfl⟩
        case round =>
          obtain ⟨j, q2, hj, rfl, hq2, rfl, rfl⟩ := hrel
          by_cases hlj : j < pn
          · obtain ⟨b2, o2, s, rfl, hsj, d0⟩ := sp_at hP hlj
            have hsz := hys s (List.mem_of_getElem? hsj)
            have hsp : Hid (sumP (y.ps.take (j + 1)) = sumP (y.ps.take j) + s.size) := sumP_take hsj
            have hspl : Hid (sumP (y.ps.take (j + 1)) ≤ sumP y.ps) := sumP_le _ _
            clear hsj
            have hj1 : (j : Int) < pn := by omega
            have hj2 : (0 : Int) ≤ j := by omega
            generalize sumP (y.ps.take j) = SP at *
            by_cases hgt : q2 < s.size
            · have hgt' : (q2 : Int) < (s.size : Int) := by omega
              have hf : Hid (fitsB l = false) := by
                show _ = _
                rw [hfl.out]
                have h1 := hst.out
                have h2 := htot.out
                have h3 := hsp.out
                have h4 := hspl.out
                simp only [decide_eq_false_iff_not]
                omega
              go_wp2
              go_returns
              exact ⟨ret_bool hf.out.symm, hB1⟩
            · have hgt' : ¬ (q2 : Int) < (s.size : Int) := by omega
              have hw : IntKind.i64.wrap ((q2 : Int) - (s.size : Int)) = ((q2 - s.size : Nat) : Int) := by rw [IntKind.wrap_i64]; omega
              have hw2 : (q2 : Int) - (s.size : Int) = ((q2 - s.size : Nat) : Int) := by omega
              go_wp2
              go_roundw
              case rel => exact ⟨j + 1, q2 - s.size, by omega, by go_num, by rw [hsp.out]; omega, by first | rfl | (rw [hw2]) | go_num, by first | trivial | rfl⟩
              case measure => simp [intOf]; omega
          · obtain rfl : j = pn := by omega
            rw [List.take_of_length_le (Nat.le_of_eq hpl.out)] at hq2
            go_wp2
            go_roundw
            case rel => exact ⟨k + 1, q2, by omega, by go_num, by rw [hst.out]; omega, rfl, hB1⟩
            case measure => simp [intOf]; omega
      · obtain rfl : k = n := by omega
        rw [List.take_of_length_le (Nat.le_of_eq hlen.out)] at hq
        have hf : Hid (fitsB l = true) := by
          show _ = _
          rw [hfl.out]
          simp only [decide_eq_true_eq]
          omega
        go_wp2
        go_returns
        exact ⟨ret_bool hf.out.symm, hB⟩
  · have h60' : (60 : Int) < n := by omega
    have hf : Hid (fitsB l = false) := by show _ = _; simp [fitsB, hlen.out, h60]
    go_enter Try.func44, Try.ntmps44
    go_wp2
    go_returns
    exact ⟨ret_bool hf.out.symm, Below.refl _ _⟩
end Go.Proofs.Ytpobgjkmcmkkeaa
