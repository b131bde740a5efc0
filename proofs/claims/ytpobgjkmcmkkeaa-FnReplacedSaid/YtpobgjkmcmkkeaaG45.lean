/- What the drawn laws over disks say, plain: power lost. What is read behind a change, plain. Power lost behind a Replace, plain. -/
import Derived.Test.YtpobgjkmcmkkeaaG26
import Derived.Test.YtpobgjkmcmkkeaaG17
namespace Go.Proofs.Ytpobgjkmcmkkeaa
open Go Go.RowKit Go.BigFrame

/-- The places k, k + 1 .., m of them. -/
def fromK : Nat → Nat → List Int
  | _, 0 => []
  | k, m + 1 => (k : Int) :: fromK (k + 1) m
theorem fromK_len : ∀ m k, (fromK k m).length = m
  | 0, _ => rfl
  | m + 1, k => by simp [fromK, fromK_len m (k + 1)]
theorem fromK_snoc : ∀ m k, fromK k (m + 1) = fromK k m ++ [((k + m : Nat) : Int)]
  | 0, k => rfl
  | m + 1, k => by
    show (k : Int) :: fromK (k + 1) (m + 1) = (k : Int) :: fromK (k + 1) m ++ _
    rw [fromK_snoc m (k + 1), show k + 1 + m = k + (m + 1) by omega]
    rfl
theorem plc_from : ∀ m k (n : Int), ((k + m : Nat) : Int) ≤ n → plcB n k (fromK k m) = true
  | 0, k, n, _ => rfl
  | m + 1, k, n, h => by
    have ih := plc_from m (k + 1) n (by omega)
    show (decide ((k : Int) ≤ k) && (decide ((k : Int) < n) && plcB n ((k : Int) + 1) (fromK (k + 1) m))) = true
    rw [show ((k : Int) + 1) = ((k + 1 : Nat) : Int) by omega, ih, decide_eq_true (Int.le_refl _), decide_eq_true (show (k : Int) < n by omega)]
    rfl
theorem torn_whole {o : Dp} {t : Int} (h : (o.d.size : Int) ≤ t) : tornO o t = o := by
  unfold tornO
  rw [if_neg (fun c => by have := c.2; omega)]
theorem sel_from {ops : List Dp} {t : Int} (ht : ∀ o ∈ ops, (o.d.size : Int) ≤ t) : ∀ m k, k + m = ops.length → selK ops t (fromK k m) = ops.drop k
  | 0, k, h => by rw [List.drop_of_length_le (by omega)]; rfl
  | m + 1, k, h => by
    have hk : k < ops.length := by omega
    have hx : ops[k]? = some ops[k] := by simp [hk]
    have ih := sel_from ht m (k + 1) (by omega)
    show (match ops[(k : Int).toNat]? with | some o => [if fromK (k + 1) m = [] then tornO o t else o] | none => []) ++ selK ops t (fromK (k + 1) m) = _
    rw [Int.toNat_natCast, hx, ih, drop_at hx]
    simp only [torn_whole (ht _ (List.getElem_mem hk)), ite_self]
    rfl
theorem crF_run : ∀ {ops : List Dp} {l l' : List Fl}, runF l ops = some l' → crF l ops = l'
  | [], l, l', h => Option.some.inj h
  | o :: r, l, l', h => by
    have h' : (if ((doF l o).2 && formB o && filesB (doF l o).1) = true then runF (doF l o).1 r else none) = some l' := h
    split at h'
    · show crF (doF l o).1 r = l'
      exact crF_run h'
    · cases h'
/-- All ops kept, whole: what was seen. -/
theorem crash_all {d : Dk} {t : Int} (h : diskB d = true) (ht : 200000 ≤ t) : crashD d (fromK 0 d.ops.length) t = (⟨d.live, d.live, []⟩, true) := by
  have hl : crL d (fromK 0 d.ops.length) t = d.live := by
    unfold crL
    rw [sel_from (fun o ho => by have := (disk_ops h o ho).2; omega) d.ops.length 0 (by omega)]
    exact crF_run (diskB_run h)
  have hp := plc_from d.ops.length 0 d.ops.length (by omega)
  have hp' : plcB d.ops.length 0 (fromK 0 d.ops.length) = true := hp
  unfold crashD
  rw [hl, h, hp', decide_eq_true (show 0 ≤ t by omega), (diskB_all h).1]
  rfl
/-- None kept: what was safe. -/
theorem crash_none {d : Dk} (h : diskB d = true) : crashD d [] 0 = (⟨d.safe, d.safe, []⟩, true) := by
  have hl : crL d [] 0 = d.safe := rfl
  unfold crashD
  rw [hl, h, (diskB_all h).2.1]
  rfl
theorem crash_bad {d : Dk} {keep : List Int} {t : Int} (h : diskB d = false) : crashD d keep t = (noD, false) := by simp [crashD, h]
end Go.Proofs.Ytpobgjkmcmkkeaa
namespace Go.Proofs.Ytpobgjkmcmkkeaa
open Go Go.RowKit Go.BigFrame

theorem rdL_nil (nm : ByteArray) : rdL [] nm = (⟨#[]⟩, false) := rfl
theorem rdL_cons (y : Fl) (r : List Fl) (nm : ByteArray) : rdL (y :: r) nm = if y.nm.toList = nm.toList then (y.d, true) else rdL r nm := by
  unfold rdL atF
  rw [List.findIdx?_cons]
  by_cases h : y.nm.toList = nm.toList
  · simp [h]
  · have hb : (y.nm.toList == nm.toList) = false := by simpa using h
    rw [hb, if_neg h]
    cases r.findIdx? (fun x => x.nm.toList == nm.toList) <;> simp
theorem rdL_append (nm : ByteArray) (b : List Fl) : ∀ a : List Fl, rdL (a ++ b) nm = if (rdL a nm).2 = true then rdL a nm else rdL b nm
  | [] => by simp [rdL_nil]
  | y :: r => by
    rw [List.cons_append, rdL_cons, rdL_cons, rdL_append nm b r]
    by_cases h : y.nm.toList = nm.toList
    · simp [h]
    · simp [h]
theorem rdL_cut_ne {x nm : ByteArray} (h : ¬ x.toList = nm.toList) : ∀ l : List Fl, rdL (l.filter (fun y => !(y.nm.toList == x.toList))) nm = rdL l nm
  | [] => rfl
  | y :: r => by
    rw [List.filter_cons]
    by_cases hy : y.nm.toList = x.toList
    · have : ¬ y.nm.toList = nm.toList := by rw [hy]; exact h
      simp only [hy, beq_self_eq_true, Bool.not_true, Bool.false_eq_true, if_false]
      rw [rdL_cut_ne h r, rdL_cons, if_neg this]
    · have hb : (y.nm.toList == x.toList) = false := by simpa using hy
      simp only [hb, Bool.not_false, if_true]
      rw [rdL_cons, rdL_cons, rdL_cut_ne h r]
theorem rdL_cut_eq {x : ByteArray} : ∀ l : List Fl, rdL (l.filter (fun y => !(y.nm.toList == x.toList))) x = (⟨#[]⟩, false)
  | [] => rfl
  | y :: r => by
    rw [List.filter_cons]
    by_cases hy : y.nm.toList = x.toList
    · simp only [hy, beq_self_eq_true, Bool.not_true, Bool.false_eq_true, if_false]
      exact rdL_cut_eq r
    · have hb : (y.nm.toList == x.toList) = false := by simpa using hy
      simp only [hb, Bool.not_false, if_true]
      rw [rdL_cons, if_neg hy, rdL_cut_eq r]
theorem putF_form (x : Fl) (l : List Fl) : putF x l = l.takeWhile (fun y => bl y.nm.toList x.nm.toList) ++ [x] ++ (l.dropWhile (fun y => bl y.nm.toList x.nm.toList)).filter (fun y => !(y.nm.toList == x.nm.toList)) := by
  unfold putF
  rw [putW]
  simp
theorem rdL_put_ne {x : Fl} {nm : ByteArray} (h : ¬ x.nm.toList = nm.toList) (l : List Fl) : rdL (putF x l) nm = rdL l nm := by
  rw [putF_form, List.append_assoc, rdL_append, rdL_append nm _ [x], rdL_cut_ne h, rdL_cons, if_neg h, rdL_nil]
  have := rdL_append nm (l.dropWhile (fun y => bl y.nm.toList x.nm.toList)) (l.takeWhile (fun y => bl y.nm.toList x.nm.toList))
  rw [List.takeWhile_append_dropWhile] at this
  rw [this]
  simp
theorem rdL_less {x : List UInt8} (nm : ByteArray) (hx : nm.toList = x) : ∀ l : List Fl, rdL (l.takeWhile (fun y => bl y.nm.toList x)) nm = (⟨#[]⟩, false)
  | [] => rfl
  | y :: r => by
    rw [List.takeWhile_cons]
    cases hb : bl y.nm.toList x
    · rfl
    · have hne : ¬ y.nm.toList = nm.toList := fun he => by
        rw [he, hx, bl_irrefl] at hb
        cases hb
      simp only [if_true]
      rw [rdL_cons, if_neg hne, rdL_less nm hx r]
theorem rdL_put_eq {x : Fl} {nm : ByteArray} (h : x.nm.toList = nm.toList) (l : List Fl) : rdL (putF x l) nm = (x.d, true) := by
  rw [putF_form, List.append_assoc, rdL_append, rdL_less nm h.symm, rdL_append nm _ [x], rdL_cons, if_pos h]
  simp
theorem atF_none_rd {l : List Fl} {nm : ByteArray} (h : atF l nm = none) : rdL l nm = (⟨#[]⟩, false) := by unfold rdL; rw [h]
theorem atF_some_rd {l : List Fl} {nm : ByteArray} {i : Nat} {f : Fl} (h : atF l nm = some i) (hf : l[i]? = some f) : rdL l nm = (f.d, true) := by unfold rdL; rw [h]; simp only [hf]
theorem nil_app (d : ByteArray) : (⟨#[]⟩ : ByteArray) ++ d = d := by
  show ByteArray.empty ++ d = d
  first | exact ByteArray.empty_append | simp
/-- What was appended to is read whole. -/
theorem do_app {l : List Fl} {o : Dp} (hk : o.k = 1) : rdL (doF l o).1 o.nm = ((rdL l o.nm).1 ++ o.d, true) := by
  unfold doF
  cases hq : atF l o.nm with
  | none =>
    simp only [hk, if_true]
    rw [rdL_put_eq rfl, atF_none_rd hq, nil_app]
  | some i =>
    obtain ⟨f, hf, _⟩ := atF_lt hq
    simp only [hf, hk, if_true]
    rw [rdL_put_eq rfl, atF_some_rd hq hf]
/-- What was renamed is read under its new name, and no longer under the old one. -/
theorem do_ren {l : List Fl} {o : Dp} (hk : o.k = 2) (hd : (doF l o).2 = true) : rdL (doF l o).1 o.tt = ((rdL l o.nm).1, true) ∧ (rdL (doF l o).1 o.nm).2 = decide (o.tt.toList = o.nm.toList) := by
  have hk1 : ¬ o.k = 1 := by omega
  unfold doF at hd ⊢
  cases hq : atF l o.nm with
  | none => simp [hq, hk1] at hd
  | some i =>
    obtain ⟨f, hf, _⟩ := atF_lt hq
    simp only [hf]
    rw [if_neg hk1, if_pos hk]
    refine ⟨?_, ?_⟩
    · rw [rdL_put_eq rfl, atF_some_rd hq hf]
    · by_cases he : o.tt.toList = o.nm.toList
      · rw [rdL_put_eq (x := ⟨o.tt, f.d⟩) he, decide_eq_true he]
      · rw [rdL_put_ne (x := ⟨o.tt, f.d⟩) he, decide_eq_false he]
        show (rdL (l.filter (fun y => !(y.nm.toList == o.nm.toList))) o.nm).2 = false
        rw [rdL_cut_eq]
/-- What was removed is not read. -/
theorem do_rem {l : List Fl} {o : Dp} (hk : o.k = 3) (hd : (doF l o).2 = true) : (rdL (doF l o).1 o.nm).2 = false := by
  have hk1 : ¬ o.k = 1 := by omega
  have hk2 : ¬ o.k = 2 := by omega
  unfold doF at hd ⊢
  cases hq : atF l o.nm with
  | none => simp [hq, hk1] at hd
  | some i =>
    obtain ⟨f, hf, _⟩ := atF_lt hq
    simp only [hf, hk1, hk2, if_false]
    show (rdL (l.filter (fun y => !(y.nm.toList == o.nm.toList))) o.nm).2 = false
    rw [rdL_cut_eq]
end Go.Proofs.Ytpobgjkmcmkkeaa
namespace Go.Proofs.Ytpobgjkmcmkkeaa
open Go Go.RowKit Go.BigFrame

theorem fgo_swap {x x' : Fl} {F : List Fl} (hn : x.nm = x'.nm) : ∀ (A : List Fl) (q : Option Fl), fgo q (A ++ x :: F) = fgo q (A ++ x' :: F)
  | [], q => by
    have hF : fgo (some x) F = fgo (some x') F := by
      cases F with
      | nil => rfl
      | cons y r => simp only [fgo, hn]
    show (nmB x.nm && _ && fgo (some x) F) = (nmB x'.nm && _ && fgo (some x') F)
    rw [hF, hn]
  | y :: r, q => by
    show (nmB y.nm && _ && fgo (some y) (r ++ x :: F)) = (nmB y.nm && _ && fgo (some y) (r ++ x' :: F))
    rw [fgo_swap hn r (some y)]
/-- Less of a file in its place. -/
theorem files_less {n : ByteArray} {a b : ByteArray} {l : List Fl} (h : filesB (putF ⟨n, a⟩ l) = true) (hle : b.size ≤ a.size) : filesB (putF ⟨n, b⟩ l) = true := by
  rw [putF_form] at h ⊢
  simp only [List.append_assoc, List.cons_append, List.nil_append] at h ⊢
  simp only [filesB, Bool.and_eq_true, decide_eq_true_eq] at h ⊢
  obtain ⟨⟨h1, h2⟩, h3⟩ := h
  refine ⟨⟨?_, ?_⟩, ?_⟩
  · simpa using h1
  · exact (fgo_swap (x := ⟨n, b⟩) (x' := ⟨n, a⟩) rfl _ _).trans h2
  · rw [sumB_app] at h3 ⊢
    simp only [sumB] at h3 ⊢
    omega
theorem crL_none (a : Dk) (t : Int) : crL a [] t = a.safe := rfl
theorem crL_first {a : Dk} {o1 o2 : Dp} (h : a.ops = [o1, o2]) (t : Int) : crL a [0] t = (doF a.safe (tornO o1 t)).1 := by simp [crL, selK, h, crF]
theorem crL_second {a : Dk} {o1 o2 : Dp} (h : a.ops = [o1, o2]) (t : Int) : crL a [1] t = (doF a.safe (tornO o2 t)).1 := by simp [crL, selK, h, crF]
theorem crL_both {a : Dk} {o1 o2 : Dp} (h : a.ops = [o1, o2]) (t : Int) : crL a [0, 1] t = (doF (doF a.safe o1).1 (tornO o2 t)).1 := by simp [crL, selK, h, crF]
theorem torn_ren {o : Dp} (t : Int) (h : o.k = 2) : tornO o t = o := by
  unfold tornO
  rw [if_neg (fun c => by have := c.1; omega)]
theorem do_none {l : List Fl} {o : Dp} (h : atF l o.nm = none) (hk : ¬ o.k = 1) : doF l o = (l, false) := by
  unfold doF
  rw [h]
  simp [hk]
theorem do_new {l : List Fl} {o : Dp} (h : atF l o.nm = none) (hk : o.k = 1) : doF l o = (putF ⟨o.nm, o.d⟩ l, true) := by
  unfold doF
  rw [h]
  simp [hk]
/-- A Replace that was done where no file of the fresh name was there: two ops. -/
theorem rep_two {d : Dk} {nm data : ByteArray} (h : diskB d = true) (ho : d.ops = []) (hf : atF d.live (freshB nm) = none) (h0 : (repD d nm data).2 = 0) :
    repD d nm data = (⟨(doF (doF d.live ⟨1, freshB nm, ⟨#[]⟩, data⟩).1 ⟨2, freshB nm, nm, ⟨#[]⟩⟩).1, d.safe, [⟨1, freshB nm, ⟨#[]⟩, data⟩, ⟨2, freshB nm, nm, ⟨#[]⟩⟩]⟩, 0) ∧ diskB (repD d nm data).1 = true ∧
      filesB (doF d.live ⟨1, freshB nm, ⟨#[]⟩, data⟩).1 = true ∧ filesB (doF (doF d.live ⟨1, freshB nm, ⟨#[]⟩, data⟩).1 ⟨2, freshB nm, nm, ⟨#[]⟩⟩).1 = true := by
  have hr : repD d nm data = repA d (seqD d [⟨1, freshB nm, ⟨#[]⟩, data⟩, ⟨2, freshB nm, nm, ⟨#[]⟩⟩]) := by unfold repD; rw [h, hf]; rfl
  rw [hr] at h0 ⊢
  by_cases c1 : (actD d ⟨1, freshB nm, ⟨#[]⟩, data⟩).2 = 0
  · obtain ⟨d1, e1, f1⟩ := act_right h c1
    by_cases c2 : (actD (actD d ⟨1, freshB nm, ⟨#[]⟩, data⟩).1 ⟨2, freshB nm, nm, ⟨#[]⟩⟩).2 = 0
    · obtain ⟨d2, e2, f2⟩ := act_right d1 c2
      have hs : seqD d [⟨1, freshB nm, ⟨#[]⟩, data⟩, ⟨2, freshB nm, nm, ⟨#[]⟩⟩] = ((actD (actD d ⟨1, freshB nm, ⟨#[]⟩, data⟩).1 ⟨2, freshB nm, nm, ⟨#[]⟩⟩).1, 0) := by simp only [seqD, c1, c2, if_true]
      have hq : repA d ((actD (actD d ⟨1, freshB nm, ⟨#[]⟩, data⟩).1 ⟨2, freshB nm, nm, ⟨#[]⟩⟩).1, 0) = ((actD (actD d ⟨1, freshB nm, ⟨#[]⟩, data⟩).1 ⟨2, freshB nm, nm, ⟨#[]⟩⟩).1, 0) := by simp [repA]
      rw [hs, hq]
      rw [e1] at e2 f2
      refine ⟨?_, d2, f1, f2⟩
      rw [e1]
      simp only
      rw [show (actD ⟨(doF d.live ⟨1, freshB nm, ⟨#[]⟩, data⟩).1, d.safe, d.ops ++ [⟨1, freshB nm, ⟨#[]⟩, data⟩]⟩ ⟨2, freshB nm, nm, ⟨#[]⟩⟩).1 = _ from congrArg Prod.fst e2, ho]
      rfl
    · exfalso
      have hs : (seqD d [⟨1, freshB nm, ⟨#[]⟩, data⟩, ⟨2, freshB nm, nm, ⟨#[]⟩⟩]).2 = (actD (actD d ⟨1, freshB nm, ⟨#[]⟩, data⟩).1 ⟨2, freshB nm, nm, ⟨#[]⟩⟩).2 := by simp only [seqD, c1, c2, if_true, if_false]
      unfold repA at h0
      rw [hs, if_neg c2] at h0
      exact c2 (hs ▸ h0)
  · exfalso
    have hs : (seqD d [⟨1, freshB nm, ⟨#[]⟩, data⟩, ⟨2, freshB nm, nm, ⟨#[]⟩⟩]).2 = (actD d ⟨1, freshB nm, ⟨#[]⟩, data⟩).2 := by simp only [seqD, c1, if_false]
    unfold repA at h0
    rw [hs, if_neg c1] at h0
    exact c1 (hs ▸ h0)
theorem fresh_ne (nm : ByteArray) : ¬ (freshB nm).toList = nm.toList := fun h => by
  have h2 := congrArg ByteArray.size (ba_ext h)
  unfold freshB at h2
  rw [ByteArray.size_append] at h2
  have h3 : (⟨#[46, 110, 101, 119]⟩ : ByteArray).size = 4 := rfl
  omega
theorem rd_at {l : List Fl} {nm : ByteArray} (h : (rdL l nm).2 = true) : ∃ i f, atF l nm = some i ∧ l[i]? = some f := by
  cases hq : atF l nm with
  | none => rw [atF_none_rd hq] at h; cases h
  | some i =>
    obtain ⟨f, hf, _⟩ := atF_lt hq
    exact ⟨i, f, rfl, hf⟩
theorem do_ren_ok {l : List Fl} {o : Dp} (hk : o.k = 2) (h : (rdL l o.nm).2 = true) : (doF l o).2 = true := by
  obtain ⟨i, f, hi, hf⟩ := rd_at h
  have hk1 : ¬ o.k = 1 := by omega
  unfold doF
  rw [hi]
  simp only [hf]
  rw [if_neg hk1, if_pos hk]
theorem disk_of {l : List Fl} (h : filesB l = true) : diskB ⟨l, l, []⟩ = true := by
  show (filesB l && filesB l && decide (([] : List Dp).length ≤ 200) && eqFls l l) = true
  rw [h, eqFls_refl]
  rfl
/-- Behind a Replace that was done: the new data is read; power lost, whatever was kept: the old or the new. -/
theorem rep_crash {d : Dk} {nm data : ByteArray} {t : Int} {keep : List Int} (h : diskB d = true) (ho : d.ops = []) (hsl : d.safe = d.live) (hf : atF d.live (freshB nm) = none) (h0 : (repD d nm data).2 = 0) (ht : 0 ≤ t)
    (hk : keep = [] ∨ keep = [0] ∨ keep = [1] ∨ keep = [0, 1]) :
    rdD (repD d nm data).1 nm = (data, true) ∧ (crashD (repD d nm data).1 keep t).2 = true ∧ (rdD (crashD (repD d nm data).1 keep t).1 nm = rdD d nm ∨ rdD (crashD (repD d nm data).1 keep t).1 nm = (data, true)) := by
  obtain ⟨e, hd2, f1, f2⟩ := rep_two h ho hf h0
  have hl1 : rdL (doF d.live ⟨1, freshB nm, ⟨#[]⟩, data⟩).1 (freshB nm) = (data, true) := by
    have := do_app (l := d.live) (o := ⟨1, freshB nm, ⟨#[]⟩, data⟩) rfl
    simp only at this
    rw [this, atF_none_rd hf, nil_app]
  have hr2 := do_ren (l := (doF d.live ⟨1, freshB nm, ⟨#[]⟩, data⟩).1) (o := ⟨2, freshB nm, nm, ⟨#[]⟩⟩) rfl (do_ren_ok rfl (by simp only; rw [hl1]))
  simp only at hr2
  have hrd2 : rdL (doF (doF d.live ⟨1, freshB nm, ⟨#[]⟩, data⟩).1 ⟨2, freshB nm, nm, ⟨#[]⟩⟩).1 nm = (data, true) := by rw [hr2.1, hl1]
  rw [e] at hd2 ⊢
  simp only at hd2 ⊢
  refine ⟨by rw [rdD_yes _ hd2]; exact hrd2, ?_⟩
  rw [rdD_yes _ h]
  have fl := (diskB_all h).1
  have key : ∀ (K : List Int) (L : List Fl), plcB 2 0 K = true → crL ⟨(doF (doF d.live ⟨1, freshB nm, ⟨#[]⟩, data⟩).1 ⟨2, freshB nm, nm, ⟨#[]⟩⟩).1, d.safe, [⟨1, freshB nm, ⟨#[]⟩, data⟩, ⟨2, freshB nm, nm, ⟨#[]⟩⟩]⟩ K t = L → filesB L = true →
      crashD ⟨(doF (doF d.live ⟨1, freshB nm, ⟨#[]⟩, data⟩).1 ⟨2, freshB nm, nm, ⟨#[]⟩⟩).1, d.safe, [⟨1, freshB nm, ⟨#[]⟩, data⟩, ⟨2, freshB nm, nm, ⟨#[]⟩⟩]⟩ K t = (⟨L, L, []⟩, true) := fun K L hp hL hF => by
    have hp' : plcB (([⟨1, freshB nm, ⟨#[]⟩, data⟩, ⟨2, freshB nm, nm, ⟨#[]⟩⟩] : List Dp).length) 0 K = true := hp
    unfold crashD
    rw [hL, hd2, hF]
    simp only
    rw [hp', decide_eq_true ht]
    rfl
  rcases hk with rfl | rfl | rfl | rfl
  · rw [key [] d.live rfl (by rw [crL_none]; exact hsl) fl]
    exact ⟨rfl, .inl (rdD_yes _ (disk_of fl))⟩
  · have hto : (tornO ⟨1, freshB nm, ⟨#[]⟩, data⟩ t).nm = freshB nm ∧ (tornO ⟨1, freshB nm, ⟨#[]⟩, data⟩ t).k = 1 ∧ (tornO ⟨1, freshB nm, ⟨#[]⟩, data⟩ t).d.size ≤ data.size := by
      unfold tornO
      split
      · refine ⟨rfl, rfl, ?_⟩
        show (data.extract 0 t.toNat).size ≤ _
        rw [ByteArray.size_extract]
        omega
      · exact ⟨rfl, rfl, Nat.le_refl _⟩
    have hdo := do_new (l := d.live) (o := tornO ⟨1, freshB nm, ⟨#[]⟩, data⟩ t) (by rw [hto.1]; exact hf) hto.2.1
    rw [hto.1] at hdo
    have hfl : filesB (putF ⟨freshB nm, (tornO ⟨1, freshB nm, ⟨#[]⟩, data⟩ t).d⟩ d.live) = true := by
      have := do_new (l := d.live) (o := ⟨1, freshB nm, ⟨#[]⟩, data⟩) hf rfl
      rw [this] at f1
      exact files_less f1 hto.2.2
    rw [key [0] _ rfl (by rw [crL_first rfl]; simp only; rw [hsl, hdo]) hfl]
    exact ⟨rfl, .inl ((rdD_yes _ (disk_of hfl)).trans (rdL_put_ne (fresh_ne nm) _))⟩
  · rw [key [1] d.live rfl (by rw [crL_second rfl, torn_ren t rfl]; simp only; rw [hsl, do_none hf (show ¬ (2 : Int) = 1 by decide)]) fl]
    exact ⟨rfl, .inl (rdD_yes _ (disk_of fl))⟩
  · rw [key [0, 1] _ rfl (by rw [crL_both rfl, torn_ren t rfl]; simp only; rw [hsl]) f2]
    exact ⟨rfl, .inr ((rdD_yes _ (disk_of f2)).trans hrd2)⟩
end Go.Proofs.Ytpobgjkmcmkkeaa
