/- Disks that are right, by the program. The laws' copies, sizes and comparisons of disks; how a disk that is an argument lies in memory. -/
import Derived.Test.YtpobgjkmcmkkeaaG14
import Derived.Test.YtpobgjkmcmkkeaaG01
import Derived.Lib.SmallJoins
namespace Go.Proofs.Ytpobgjkmcmkkeaa
open Go Go.RowKit Go.BigFrame

set_option maxHeartbeats 4000000 in
set_option maxRecDepth 100000 in
theorem impl_DiskOk (v : Value) (d : Dk) (w : World) (h : DiskAt w v d) (hd : DimD d) :
    Calls Try.prog 14 #[v] w fun e w' => e = .returned (.bool (diskB d)) ∧ Below w.heap.size w w' := by
  obtain ⟨la, ln, lc, sa, sn, sc, oa, on, oc, rfl, hL, hS, hO⟩ := h
  obtain ⟨⟨dl1, dl2⟩, ⟨ds1, ds2⟩, do1, do2⟩ := hd
  obtain ⟨live, safe, ops⟩ := d
  simp only at dl1 dl2 ds1 ds2 do1 do2 hL hS hO
  have lL : Hid (live.length = ln) := hL.sl.len
  have lS : Hid (safe.length = sn) := hS.sl.len
  have lO : Hid (ops.length = on) := hO.sl.len
  have sL : StrsF live := fun x hx => ⟨(dl2 x hx).1, by have := (dl2 x hx).2; omega⟩
  have sS : StrsF safe := fun x hx => ⟨(ds2 x hx).1, by have := (ds2 x hx).2; omega⟩
  have hB0 : Below w.heap.size w (w.alloc (.cells #[.slice la ln lc, .slice sa sn sc, .slice oa on oc] 27)) := by go_grown
  have D0 := Blk.new w #[.slice la ln lc, .slice sa sn sc, .slice oa on oc] 27
  rw [lL.out] at dl1
  rw [lS.out] at ds1
  rw [lO.out] at do1
  cases hfl : filesB live
  · have hf : Hid (diskB ⟨live, safe, ops⟩ = false) := by show _ = _; simp [diskB, hfl]
    go_enter Try.func14, Try.ntmps14
    go_wp2_with fail
    refine (impl_filesOk la ln lc live _ (hL.sl.below hB0) sL (by omega)).mono ?_
    rintro e w1 ⟨rfl, hB1⟩
    rw [hfl]
    go_wp2
    go_returns
    exact ⟨ret_bool hf.out.symm, chain hB0 hB1⟩
  · cases hfs : filesB safe
    · have hf : Hid (diskB ⟨live, safe, ops⟩ = false) := by show _ = _; simp [diskB, hfs]
      go_enter Try.func14, Try.ntmps14
      go_wp2_with fail
      refine (impl_filesOk la ln lc live _ (hL.sl.below hB0) sL (by omega)).mono ?_
      rintro e w1 ⟨rfl, hB1⟩
      rw [hfl]
      have D1 := D0.below hB1
      have x1 : w1.cell? ⟨w.heap.size, 1, none⟩ = some (.slice sa sn sc) := D1.cell 1
      have hC1 := chain hB0 hB1
      go_wp2_with fail
      refine (impl_filesOk sa sn sc safe _ (hS.sl.below hC1) sS (by omega)).mono ?_
      rintro e w2 ⟨rfl, hB2⟩
      rw [hfs]
      go_wp2
      go_returns
      exact ⟨ret_bool hf.out.symm, chain hC1 hB2⟩
    · go_enter Try.func14, Try.ntmps14
      go_wp2_with fail
      refine (impl_filesOk la ln lc live _ (hL.sl.below hB0) sL (by omega)).mono ?_
      rintro e w1 ⟨rfl, hB1⟩
      rw [hfl]
      have D1 := D0.below hB1
      have x1 : w1.cell? ⟨w.heap.size, 1, none⟩ = some (.slice sa sn sc) := D1.cell 1
      have hC1 := chain hB0 hB1
      go_wp2_with fail
      refine (impl_filesOk sa sn sc safe _ (hS.sl.below hC1) sS (by omega)).mono ?_
      rintro e w2 ⟨rfl, hB2⟩
      rw [hfs]
      have D2 := D1.below hB2
      have hC2 := chain hC1 hB2
      clear x1
      have x1 : w2.cell? ⟨w.heap.size, 1, none⟩ = some (.slice sa sn sc) := D2.cell 1
      have x2 : w2.cell? ⟨w.heap.size, 2, none⟩ = some (.slice oa on oc) := D2.cell 2
      by_cases h200 : on ≤ 200
      · have h2b : ¬ (200 : Int) < on := by omega
        have hf : Hid (diskB ⟨live, safe, ops⟩ = (match runF safe ops with | none => false | some l => eqFls l live)) := by
          show _ = _
          have h200' : ops.length ≤ 200 := by rw [lO.out]; exact h200
          show (filesB live && filesB safe && decide (ops.length ≤ 200) && _) = _
          rw [hfl, hfs, decide_eq_true h200']
          cases runF safe ops <;> rfl
        obtain ⟨_, _, hgs⟩ := filesB_all hfs
        go_wp2_with fail
        refine (impl_shelfOf sa sn sc safe w2 (hS.sl.below hC2) (by omega)).mono ?_
        rintro e w3 ⟨⟨a3, c3, rows3, rfl, R3, T3⟩, hB3⟩
        have D3 := D2.below hB3
        have hw2 := D2.lt
        have hA3 : Below w3.heap.size w3 (w3.alloc (.cells #[.slice a3 sn c3] 72)) := (Below.refl _ _).alloc (Nat.le_refl _) _
        have S4 := Blk.new w3 #[.slice a3 sn c3] 72
        have Sh4 : ShAt w2.heap.size w3.heap.size (w3.alloc (.cells #[.slice a3 sn c3] 72)) (safe.map oneH) := ⟨a3, sn, c3, rows3, S4, R3.below hA3, T3.below hA3⟩
        have hB4 := chain hB3 hA3
        have hw3 := hB3.size
        have x2b : (w3.alloc (.cells #[.slice a3 sn c3] 72)).cell? ⟨w.heap.size, 2, none⟩ = some (.slice oa on oc) := (D3.below hA3).cell 2
        clear D3 S4 R3 T3 x1 x2 hB3 hA3 D0 D1
        go_wp2_with fail
        generalize w3.alloc (.cells #[.slice a3 sn c3] 72) = W4 at *
        go_loopw [30] (fun ix wr => ∃ (k : Nat) (cur : List Hy), k ≤ on ∧ ix = .int .i64 k ∧ ShAt w2.heap.size w3.heap.size wr cur ∧ SrtH cur ∧ BndH (1 + k) 10000000 cur ∧ fitsB cur = true ∧ Hid (runF safe ops = runF (cur.map toldF) (ops.drop k)) ∧ Below w2.heap.size w2 wr) (fun ix _ => on - (intOf ix).toNat)
        case atStart => exact ⟨0, safe.map oneH, Nat.zero_le _, rfl, Sh4, srt_one hgs, (bnd_one hfs).mono (by omega) (by omega), by rw [← files_told (srt_one hgs) (bnd_one hfs), told_one]; exact hfs, by show _ = _; rw [told_one]; simp, hB4⟩
        case round =>
          obtain ⟨k, cur, hk, rfl, Sh, hs, hb, hfit, hI, hB⟩ := hrel
          have hC3 := chain hC2 hB
          have hc60 : cur.length ≤ 60 ∧ sumH cur ≤ 200000 := by simpa [fitsB] using hfit
          have D3 := D2.below hB
          have hsz := hB.size
          clear x2b
          by_cases hlt : k < on
          · obtain ⟨b, o, op, rfl, hp, c0, c1, c2', c3'⟩ := dp_at (hO.sl.below hC3) hlt
            obtain ⟨hso, hod⟩ := do2 op (List.mem_of_getElem? hp)
            have hrun : Hid (runF safe ops = if ((doH cur op).2 && formB op && fitsB (doH cur op).1) = true then runF ((doH cur op).1.map toldF) (ops.drop (k + 1)) else none) := by
              show _ = _
              rw [hI.out, drop_at hp]
              cases hfo : formB op
              · simp [runF, hfo]
              · have e1 := files_told (doH_srt hs op) (doH_bnd hb hfo hod)
                show (if ((doF (cur.map toldF) op).2 && formB op && filesB (doF (cur.map toldF) op).1) = true then runF (doF (cur.map toldF) op).1 (ops.drop (k + 1)) else none) = _
                rw [doH_do hs op]
                simp only [hfo, e1]
            clear hp
            have hk1 : (k : Int) < on := by omega
            have hk2 : (0 : Int) ≤ k := by omega
            have hA5 : Below wr.heap.size wr (wr.alloc (.cells #[.int .i64 op.k, .string op.nm, .string op.tt, .string op.d] 36)) := (Below.refl _ _).alloc (Nat.le_refl _) _
            go_wp2_with fail
            refine (impl_changeOf op.k op.nm op.tt op.d _ hso.1 hso.2.1).mono ?_
            rintro e w5 ⟨⟨v5, rfl, hv5⟩, hB5⟩
            have hC5 := chain hA5 hB5
            have Sh5 := Sh.below hC5
            have hB6 := chain hB hC5
            cases hfo : formB op
            · have hend : Hid (runF safe ops = none) := by show _ = _; rw [hrun.out, hfo]; simp
              go_wp2
              go_returns
              exact ⟨by rw [hf.out, hend.out] <;> rfl, chain hC2 hB6⟩
            · obtain rfl := hv5 hfo
              obtain ⟨TT, xx, ff, hch, hme, hent, hcall⟩ := doneOn_of w2.heap.size w2.heap.size w3.heap.size cur op hfo hs (by omega) (fun y hy => by have := hb.ps y hy; omega) (Nat.le_refl _) hw3
              rw [show chV ⟨op.k, op.nm, op.tt, op.d⟩ = .iface TT xx from hch]
              have hbn := doH_bnd hb hfo hod
              have hsn := doH_srt hs op
              have hln := doH_len cur op
              clear hv5 hA5 hB5 Sh hch
              go_wp2_with fail
              refine (hcall w5 Sh5 hB6.size).mono ?_
              rintro e w6 ⟨rfl, Sh6, hB7⟩
              have hB8 : Below w2.heap.size w2 w6 := hB6.trans hB7
              clear hcall hme hent Sh5 hB7 hB6 hC5
              cases hok : (doH cur op).2
              · have hend : Hid (runF safe ops = none) := by show _ = _; rw [hrun.out, hok]; simp
                go_wp2
                go_returns
                exact ⟨by rw [hf.out, hend.out] <;> rfl, chain hC2 hB8⟩
              · generalize hnx : (doH cur op).1 = nx at *
                obtain ⟨a6, n6, c6, rows6, S6, R6, T6⟩ := Sh6
                have hn6 : n6 ≤ 61 := by rw [← R6.sl.len, T6.len]; omega
                go_wp2_with fail
                refine (impl_fits w2.heap.size w3.heap.size a6 n6 c6 rows6 nx w6 S6 R6 T6 (by omega) (fun y hy => by have := hbn.ps y hy; omega) (fun y hy s hm => by have := hbn.sz y hy s hm; omega)).mono ?_
                rintro e w7 ⟨rfl, hB9⟩
                have hC7 := chain hB8 hB9
                cases hft : fitsB nx
                · have hend : Hid (runF safe ops = none) := by show _ = _; rw [hrun.out, hok, hfo, hft]; simp
                  go_wp2
                  go_returns
                  exact ⟨by rw [hf.out, hend.out] <;> rfl, chain hC2 hC7⟩
                · have hnext : Hid (runF safe ops = runF (nx.map toldF) (ops.drop (k + 1))) := by show _ = _; rw [hrun.out, hok, hfo, hft]; simp
                  have Sh7 : ShAt w2.heap.size w3.heap.size w7 nx := ⟨a6, n6, c6, rows6, S6.below hB9, R6.below hB9, T6.below hB9⟩
                  go_wp2
                  go_roundw
                  case rel => exact ⟨k + 1, nx, by omega, by go_num, Sh7, hsn, by rw [show 1 + (k + 1) = 1 + k + 1 by omega]; exact hbn, hft, hnext, hC7⟩
                  case measure => simp [intOf]; omega
          · obtain rfl : k = on := by omega
            have hend : Hid (runF safe ops = some (cur.map toldF)) := by
              show _ = _
              rw [hI.out, List.drop_of_length_le (Nat.le_of_eq lO.out)]; rfl
            have hok : ¬ (k : Int) < k := by omega
            obtain ⟨a6, n6, c6, rows6, S6, R6, T6⟩ := Sh
            have hn6 : n6 ≤ 60 := by rw [← R6.sl.len, T6.len]; omega
            go_wp2_with fail
            have hS0 : (fun u => u.cell? ⟨w.heap.size, 0, none⟩ = some (.slice la ln lc)) wr.drew := D3.cell 0
            refine wp_region_heldH (S := (fun u => u.cell? ⟨w.heap.size, 0, none⟩ = some (.slice la ln lc))) 5 (by kernel_rfl) rfl ?_
            refine takeL (i := 1) (v := ?vq23001) rfl (by kernel_rfl) (by kernel_rfl) (by kernel_rfl) (fun _ _ _ h => h) (Or.inl ⟨by rfl, ?hyq23001⟩) (by assumption) ?restq23001
            case hyq23001 => (intro u hu; (try dsimp only at hu); go_simp <;> with_reducible rfl)
            try simp only [Act.put, List.setIfInBounds_toArray, List.set_cons_zero, List.set_cons_succ]
            refine takeL (i := 2) (v := ?vq23002) rfl (by kernel_rfl) (by kernel_rfl) (by kernel_rfl) (fun _ _ _ h => h) (Or.inl ⟨by rfl, ?hyq23002⟩) (by assumption) ?restq23002
            case hyq23002 => (intro u hu; (try dsimp only at hu); go_simp <;> with_reducible rfl)
            try simp only [Act.put, List.setIfInBounds_toArray, List.set_cons_zero, List.set_cons_succ]
            refine oneL (i := 0) (by kernel_rfl) rfl (fun K hK => ?_)
            go_simp
            have hd0 : Below wr.heap.size wr wr.drew := (Below.refl _ _).drew
            refine (impl_told w2.heap.size w3.heap.size a6 n6 c6 rows6 cur wr.drew (S6.below hd0) (R6.below hd0) (T6.below hd0) (by omega) (fun y hy => by have := hb.ps y hy; omega) hc60.2).mono ?_
            rintro e w7 ⟨⟨a7, c7, rfl, R7⟩, hB7⟩
            have hC7 := chain hd0 hB7
            dsimp only
            refine hK.out _ _ ((D3.below hC7).cell 0) (fun hHeld => ?_)
            clear hK K
            try simp only [Act.put, List.setIfInBounds_toArray, List.set_cons_zero, List.set_cons_succ]
            refine oneL (i := 3) (by kernel_rfl) rfl (fun K hK => ?_)
            go_simp
            refine (files_Equal a7 n6 c7 (cur.map toldF) la ln lc live w7 R7.sl ((hL.sl.below hC3).below hC7) (by omega) (by omega)).mono ?_
            rintro e w8 ⟨rfl, hB8⟩
            have hC8 := chain hC7 hB8
            dsimp only
            refine hK.out _ _ ((D3.below hC8).cell 0) (fun hHeld => ?_)
            clear hK K
            try simp only [Act.put, List.setIfInBounds_toArray, List.set_cons_zero, List.set_cons_succ]
            refine takeL (i := 4) (v := ?vq23003) rfl (by kernel_rfl) (by kernel_rfl) (by kernel_rfl) (fun _ _ _ h => h) (Or.inl ⟨by rfl, ?hyq23003⟩) (by assumption) ?restq23003
            case hyq23003 => (intro u hu; (try dsimp only at hu); go_simp <;> with_reducible rfl)
            try simp only [Act.put, List.setIfInBounds_toArray, List.set_cons_zero, List.set_cons_succ]
            refine wpAnyH_done (by kernel_rfl) ?_ _
            clear hS0 hHeld
            go_wp2
            go_returns
            exact ⟨by rw [hf.out, hend.out] <;> rfl, chain hC3 hC8⟩
      · have h2b : (200 : Int) < on := by omega
        have hf : Hid (diskB ⟨live, safe, ops⟩ = false) := by show _ = _; simp [diskB, lO.out, h200]
        go_wp2
        go_returns
        exact ⟨ret_bool hf.out.symm, hC2⟩
end Go.Proofs.Ytpobgjkmcmkkeaa
namespace Go.Proofs.Ytpobgjkmcmkkeaa
open Go Go.RowKit Go.BigFrame

/-- A disk that is only read. -/
def DiskL (w : World) (v : Value) (d : Dk) : Prop := ∃ la ln lc sa sn sc oa on oc, v = .agg #[.slice la ln lc, .slice sa sn sc, .slice oa on oc] ∧ FlsAt w la ln d.live ∧ FlsAt w sa sn d.safe ∧ DpsAt w oa on d.ops
theorem DiskL.below {w w' : World} {v : Value} {d : Dk} (h : DiskL w v d) (hb : Below w.heap.size w w') : DiskL w' v d := by
  obtain ⟨la, ln, lc, sa, sn, sc, oa, on, oc, hv, h1, h2, h3⟩ := h
  exact ⟨la, ln, lc, sa, sn, sc, oa, on, oc, hv, h1.below hb, h2.below hb, h3.below hb⟩
/-- A slice that may be written. -/
structure WrAt {α : Type} (cs : α → List Value) (sz : Nat) (t : TypeId) (w : World) (B : Nat) (a : Option Addr) (n cap : Nat) (l : List α) : Prop where
  sl : SlAt cs sz w a n l
  own : (a = none ∧ n = 0 ∧ cap = 0) ∨ ∃ b c, a = some ⟨b, 0, none⟩ ∧ B ≤ b ∧ Blk w b c t ∧ n * sz ≤ c.size
section
variable {α : Type} {cs : α → List Value} {sz : Nat} {t : TypeId} {w w' : World} {B n cap : Nat} {a : Option Addr} {l : List α}
theorem ResAt.wr (h : ResAt cs sz t w B a n cap l) : WrAt cs sz t w B a n cap l := by
  refine ⟨h.sl, ?_⟩
  rcases h.own with h0 | ⟨b, ha, hB, h1, _, c, hc, h2, _⟩
  · exact .inl h0
  · exact .inr ⟨b, c, ha, hB, hc, by rw [h2]; exact Nat.mul_le_mul_right _ h1⟩
theorem OwnAt.wr {b : Nat} (h : OwnAt cs sz t w b n l) (hB : B ≤ b) : WrAt cs sz t w B (some ⟨b, 0, none⟩) n n l := by
  refine ⟨h.sl, ?_⟩
  obtain ⟨c, hc, h1, _⟩ := h.blk
  exact .inr ⟨b, c, rfl, hB, hc, h1⟩
theorem WrAt.below (h : WrAt cs sz t w B a n cap l) (hb : Below w.heap.size w w') : WrAt cs sz t w' B a n cap l := by
  refine ⟨h.sl.below hb, ?_⟩
  rcases h.own with h0 | ⟨b, c, ha, hB, hc, h1⟩
  · exact .inl h0
  · exact .inr ⟨b, c, ha, hB, hc.below hb, h1⟩
theorem WrAt.mono {B' : Nat} (h : WrAt cs sz t w B a n cap l) (hb : B' ≤ B) : WrAt cs sz t w B' a n cap l := by
  refine ⟨h.sl, ?_⟩
  rcases h.own with h0 | ⟨b, c, ha, hB, hc, h1⟩
  · exact .inl h0
  · exact .inr ⟨b, c, ha, by omega, hc, h1⟩
theorem WrAt.block (h : WrAt cs sz t w B a n cap l) : ∀ ad, a = some ad → B ≤ ad.block ∧ ad.block < w.heap.size := by
  intro ad e
  rcases h.own with ⟨h0, _⟩ | ⟨b, c, ha, hB, hc, _⟩
  · rw [h0] at e; cases e
  · rw [ha] at e; cases e; exact ⟨hB, hc.lt⟩
theorem WrAt.slH (h : WrAt cs sz t w B a n cap l) : SlH cs sz w a n cap l := by
  refine ⟨h.sl, fun ad e => ?_, fun e => ?_⟩
  · rcases h.own with ⟨h0, _⟩ | ⟨b, c, ha, _⟩
    · rw [h0] at e; cases e
    · rw [ha] at e; cases e; rfl
  · rcases h.own with ⟨_, _, h0⟩ | ⟨b, c, ha, _⟩
    · exact h0
    · rw [ha] at e; cases e
theorem WrAt.off {row : Option Nat} (h : WrAt cs sz t w B a n cap l) (hg : w.grownBy w' row) (hr : ∀ ad, a = some ad → some ad.block ≠ row) : WrAt cs sz t w' B a n cap l := by
  refine ⟨slAt_grownT h.sl hg hr, ?_⟩
  rcases h.own with h0 | ⟨b, c, ha, hB, hc, h1⟩
  · exact .inl h0
  · exact .inr ⟨b, c, ha, hB, (hg.block _ hc.lt (hr _ ha)).trans hc, h1⟩
end
/-- A disk of one's own. -/
def DiskW (B : Nat) (w : World) (v : Value) (d : Dk) : Prop := ∃ la ln lc sa sn sc oa on oc, v = .agg #[.slice la ln lc, .slice sa sn sc, .slice oa on oc] ∧ WrAt Fl.cs 2 82 w B la ln lc d.live ∧ WrAt Fl.cs 2 82 w B sa sn sc d.safe ∧ WrAt Dp.cs 4 36 w B oa on oc d.ops ∧ (∀ x y, la = some x → sa = some y → x.block ≠ y.block)
theorem DiskW.below {B : Nat} {w w' : World} {v : Value} {d : Dk} (h : DiskW B w v d) (hb : Below w.heap.size w w') : DiskW B w' v d := by
  obtain ⟨la, ln, lc, sa, sn, sc, oa, on, oc, hv, h1, h2, h3, h4⟩ := h
  exact ⟨la, ln, lc, sa, sn, sc, oa, on, oc, hv, h1.below hb, h2.below hb, h3.below hb, h4⟩
theorem DiskW.at {B : Nat} {w : World} {v : Value} {d : Dk} (h : DiskW B w v d) : DiskAt w v d := by
  obtain ⟨la, ln, lc, sa, sn, sc, oa, on, oc, hv, h1, h2, h3, _⟩ := h
  exact ⟨la, ln, lc, sa, sn, sc, oa, on, oc, hv, h1.slH, h2.slH, h3.slH⟩
theorem DiskAt.l {w : World} {v : Value} {d : Dk} (h : DiskAt w v d) : DiskL w v d := by
  obtain ⟨la, ln, lc, sa, sn, sc, oa, on, oc, hv, h1, h2, h3⟩ := h
  exact ⟨la, ln, lc, sa, sn, sc, oa, on, oc, hv, h1.sl, h2.sl, h3.sl⟩
def BigD (d : Dk) : Prop := (d.live.length ≤ 9223372036854775807 ∧ StrsF d.live) ∧ (d.safe.length ≤ 9223372036854775807 ∧ StrsF d.safe) ∧ d.ops.length ≤ 9223372036854775807 ∧ StrsD d.ops
def SmallDk (d : Dk) : Prop := SmallF d.live.length d.live ∧ SmallF d.safe.length d.safe ∧ SmallD d.ops.length d.ops
theorem SmallDk.dim {d : Dk} (h : SmallDk d) : DimD d := by
  obtain ⟨h1, h2, h3⟩ := h
  have hF : ∀ {l : List Fl}, SmallF l.length l → l.length ≤ 4000000 ∧ BndF l := fun {l} hl => ⟨by have := hl.1; omega, fun x hx => by have := hl.2 x hx; unfold bytesF at this; omega⟩
  refine ⟨hF h1, hF h2, by have := h3.1; omega, fun o ho => ?_⟩
  have := h3.2 o ho
  unfold bytesD at this
  exact ⟨⟨by omega, by omega, by omega⟩, by omega⟩
theorem SmallDk.dims {d : Dk} (h : SmallDk d) : d.live.length ≤ 1048576 ∧ d.safe.length ≤ 1048576 ∧ d.ops.length ≤ 1048576 := ⟨h.1.1, h.2.1.1, h.2.2.1⟩
theorem Blk.three {w : World} {b : Nat} {c0 c1 c2 : Value} {t : TypeId} (h : Blk w b #[c0, c1, c2] t) : w.cell? ⟨b, 0, none⟩ = some c0 ∧ w.cell? ⟨b, 1, none⟩ = some c1 ∧ w.cell? ⟨b, 2, none⟩ = some c2 := ⟨h.cell 0, h.cell 1, h.cell 2⟩

set_option maxHeartbeats 2000000 in
set_option maxRecDepth 100000 in
theorem laws_szDisk (v : Value) (d : Dk) (w : World) (h : DiskL w v d) (hb : BigD d) :
    Calls Try.prog 26 #[v, .int .i64 1048576] w fun e w' => (∃ r : Int, e = .returned (.int .i64 r) ∧ (r = -1 ∨ (0 ≤ r ∧ r ≤ 1048576 ∧ SmallDk d))) ∧ Below w.heap.size w w' := by
  obtain ⟨la, ln, lc, sa, sn, sc, oa, on, oc, rfl, h1, h2, h3⟩ := h
  obtain ⟨⟨z1, z2⟩, ⟨z3, z4⟩, z5, z6⟩ := hb
  rw [h1.len] at z1
  rw [h2.len] at z3
  rw [h3.len] at z5
  unfold SmallDk
  rw [h1.len, h2.len, h3.len]
  obtain ⟨live, safe, ops⟩ := d
  simp only at *
  go_enter Try.func26, Try.ntmps26
  go_wp2_with fail
  refine (laws_szFileS la ln lc live 1048576 _ (h1.below (by go_grown)) z2 z1 (by omega) (by omega)).mono ?_
  rintro e w1 ⟨⟨r, rfl, hr⟩, hB1⟩
  have C : Blk w1 w.heap.size _ _ := (Blk.new w _ _).below hB1
  replace hB1 : Below w.heap.size w w1 := chain (by go_grown) hB1
  rcases hr with rfl | ⟨r0, r1, r2⟩
  · go_wp2
    go_returns
    exact ⟨⟨-1, rfl, .inl rfl⟩, hB1⟩
  · have c1 := C.three.2.1
    go_wp2_with fail
    refine (laws_szFileS sa sn sc safe r _ (h2.below hB1) z4 z3 (by omega) (by omega)).mono ?_
    rintro e w2 ⟨⟨q, rfl, hq⟩, hB2⟩
    replace C := C.below hB2
    replace hB2 := chain hB1 hB2
    clear c1
    rcases hq with rfl | ⟨q0, q1, q2⟩
    · go_wp2
      go_returns
      exact ⟨⟨-1, rfl, .inl rfl⟩, hB2⟩
    · have c2 := C.three.2.2
      go_wp2_with fail
      refine (laws_szDOpS oa on oc ops q _ (h3.below hB2) z6 z5 (by omega) (by omega)).mono ?_
      rintro e w3 ⟨⟨s, rfl, hs⟩, hB3⟩
      replace hB3 := chain hB2 hB3
      clear c2
      rcases hs with rfl | ⟨s0, s1, s2⟩
      · go_wp2
        go_returns
        exact ⟨⟨-1, rfl, .inl rfl⟩, hB3⟩
      · go_wp2
        go_returns
        exact ⟨⟨s, rfl, .inr ⟨s0, s1, r2, q2, s2⟩⟩, hB3⟩

def eqDk (d e : Dk) : Bool := eqFls d.live e.live && (eqFls d.safe e.safe && eqDps d.ops e.ops)
theorem eqDk_refl (d : Dk) : eqDk d d = true := by simp [eqDk, eqFls_refl, eqDps_refl]
set_option maxHeartbeats 2000000 in
set_option maxRecDepth 100000 in
theorem laws_eqDisk (v v' : Value) (d d' : Dk) (w : World) (h : DiskL w v d) (h' : DiskL w v' d') (hn : d.live.length ≤ 4194304 ∧ d.safe.length ≤ 4194304 ∧ d.ops.length ≤ 4194304) (hn' : d'.live.length ≤ 4194304 ∧ d'.safe.length ≤ 4194304 ∧ d'.ops.length ≤ 4194304) :
    Calls Try.prog 28 #[v, v'] w fun e w' => e = .returned (.bool (eqDk d d')) ∧ Below w.heap.size w w' := by
  obtain ⟨la, ln, lc, sa, sn, sc, oa, on, oc, rfl, h1, h2, h3⟩ := h
  obtain ⟨la', ln', lc', sa', sn', sc', oa', on', oc', rfl, g1, g2, g3⟩ := h'
  rw [h1.len, h2.len, h3.len] at hn
  rw [g1.len, g2.len, g3.len] at hn'
  obtain ⟨live, safe, ops⟩ := d
  obtain ⟨live', safe', ops'⟩ := d'
  simp only at *
  have hB0 : Below w.heap.size w ((w.alloc (.cells #[.slice la ln lc, .slice sa sn sc, .slice oa on oc] 27)).alloc (.cells #[.slice la' ln' lc', .slice sa' sn' sc', .slice oa' on' oc'] 27)) := by go_grown
  have C : Blk ((w.alloc (.cells #[.slice la ln lc, .slice sa sn sc, .slice oa on oc] 27)).alloc (.cells #[.slice la' ln' lc', .slice sa' sn' sc', .slice oa' on' oc'] 27)) w.heap.size #[.slice la ln lc, .slice sa sn sc, .slice oa on oc] 27 := (Blk.new w _ _).alloc _
  have E : Blk ((w.alloc (.cells #[.slice la ln lc, .slice sa sn sc, .slice oa on oc] 27)).alloc (.cells #[.slice la' ln' lc', .slice sa' sn' sc', .slice oa' on' oc'] 27)) (w.heap.size + 1) #[.slice la' ln' lc', .slice sa' sn' sc', .slice oa' on' oc'] 27 := Blk.new' _ _ _ _ (by simp)
  go_enter Try.func28, Try.ntmps28
  go_wp2_with fail
  generalize (w.alloc (.cells #[.slice la ln lc, .slice sa sn sc, .slice oa on oc] 27)).alloc (.cells #[.slice la' ln' lc', .slice sa' sn' sc', .slice oa' on' oc'] 27) = W0 at *
  refine (laws_eqFileS la ln lc live la' ln' lc' live' _ (h1.below hB0) (g1.below hB0) hn.1 hn'.1).mono ?_
  rintro e w1 ⟨rfl, hB1⟩
  replace C := C.below hB1
  replace E := E.below hB1
  replace hB1 := chain hB0 hB1
  cases he1 : eqFls live live'
  · have hr : Hid (eqDk ⟨live, safe, ops⟩ ⟨live', safe', ops'⟩ = false) := by show _ = _; simp [eqDk, he1]
    go_wp2
    go_returns
    exact ⟨ret_bool hr.out.symm, hB1⟩
  · have c1 := C.three.2.1
    have e1 := E.three.2.1
    go_wp2_with fail
    refine (laws_eqFileS sa sn sc safe sa' sn' sc' safe' _ (h2.below hB1) (g2.below hB1) hn.2.1 hn'.2.1).mono ?_
    rintro e w2 ⟨rfl, hB2⟩
    replace C := C.below hB2
    replace E := E.below hB2
    replace hB2 := chain hB1 hB2
    clear c1 e1
    cases he2 : eqFls safe safe'
    · have hr : Hid (eqDk ⟨live, safe, ops⟩ ⟨live', safe', ops'⟩ = false) := by show _ = _; simp [eqDk, he2]
      go_wp2
      go_returns
      exact ⟨ret_bool hr.out.symm, hB2⟩
    · have c2 := C.three.2.2
      have e2 := E.three.2.2
      go_wp2_with fail
      refine (laws_eqDOpS oa on oc ops oa' on' oc' ops' _ (h3.below hB2) (g3.below hB2) hn.2.2 hn'.2.2).mono ?_
      rintro e w3 ⟨rfl, hB3⟩
      replace hB3 := chain hB2 hB3
      have hr : Hid (eqDk ⟨live, safe, ops⟩ ⟨live', safe', ops'⟩ = eqDps ops ops') := by show _ = _; simp [eqDk, he1, he2]
      clear c2 e2
      generalize eqDps ops ops' = q at *
      cases q
      · go_wp2
        go_returns
        exact ⟨ret_bool hr.out.symm, hB3⟩
      · go_wp2
        go_returns
        exact ⟨ret_bool hr.out.symm, hB3⟩
end Go.Proofs.Ytpobgjkmcmkkeaa
