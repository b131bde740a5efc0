/- Power that is lost: plain. Power that is lost, by the program. -/
import Derived.Test.YtpobgjkmcmkkeaaG24
import Derived.Test.YtpobgjkmcmkkeaaG22
namespace Go.Proofs.Ytpobgjkmcmkkeaa
open Go Go.RowKit Go.BigFrame

/-- What is left of an op when so many bytes of it are kept. -/
def tornO (o : Dp) (t : Int) : Dp := if o.k = 1 ∧ t < o.d.size then ⟨o.k, o.nm, o.tt, o.d.extract 0 t.toNat⟩ else o
/-- The ops that are kept. -/
def selK (ops : List Dp) (t : Int) : List Int → List Dp
  | [] => []
  | x :: r => (match ops[x.toNat]? with | some o => [if r = [] then tornO o t else o] | none => []) ++ selK ops t r
def crF (l : List Fl) (s : List Dp) : List Fl := s.foldl (fun l o => (doF l o).1) l
def crL (d : Dk) (keep : List Int) (t : Int) : List Fl := crF d.safe (selK d.ops t keep)
def crashD (d : Dk) (keep : List Int) (t : Int) : Dk × Bool :=
  if (diskB d && plcB d.ops.length 0 keep && decide (0 ≤ t)) = true then (if filesB (crL d keep t) = true then (⟨crL d keep t, crL d keep t, []⟩, true) else (noD, false)) else (noD, false)
theorem plcB_all {m : Int} : ∀ {l : List Int} {q : Int}, plcB m q l = true → (∀ x ∈ l, q ≤ x ∧ x < m) ∧ (q ≤ m → (l.length : Int) ≤ m - q)
  | [], q, _ => ⟨fun x hx => (by cases hx), fun h => by simp; omega⟩
  | x :: r, q, h => by
    simp only [plcB, Bool.and_eq_true, decide_eq_true_eq] at h
    obtain ⟨h1, h2, h3⟩ := h
    obtain ⟨i1, i2⟩ := plcB_all h3
    refine ⟨fun y hy => ?_, fun _ => ?_⟩
    · rcases List.mem_cons.1 hy with rfl | hy
      · exact ⟨h1, h2⟩
      · have := i1 y hy; omega
    · have := i2 (by omega); simp only [List.length_cons]; omega
theorem putF_has {x : Fl} : ∀ (l : List Fl), x ∈ putF x l := by
  intro l
  unfold putF
  rw [putW]
  simp
theorem run_ops : ∀ {ops : List Dp} {l l' : List Fl}, runF l ops = some l' → ∀ o ∈ ops, formB o = true ∧ o.d.size ≤ 200000
  | [], _, _, _, o, ho => by cases ho
  | p :: r, l, l', h, o, ho => by
    have h' : (if ((doF l p).2 && formB p && filesB (doF l p).1) = true then runF (doF l p).1 r else none) = some l' := h
    split at h'
    · rename_i hc
      simp only [Bool.and_eq_true] at hc
      rcases List.mem_cons.1 ho with rfl | ho
      · refine ⟨hc.1.2, ?_⟩
        obtain ⟨_, hs, _⟩ := filesB_all hc.2
        rcases formB_k hc.1.2 with hk | hk | hk
        · have hin : ∃ f ∈ (doF l o).1, o.d.size ≤ f.d.size := by
            unfold doF
            cases hq : atF l o.nm with
            | none => simp only [hk, if_true]; exact ⟨_, putF_has l, Nat.le_refl _⟩
            | some i =>
              obtain ⟨f, hf⟩ : ∃ f, l[i]? = some f := by
                unfold atF at hq
                obtain ⟨h1, _, _⟩ := List.findIdx?_eq_some_iff_getElem.1 hq
                exact ⟨l[i], by simp [h1]⟩
              simp only [hf, hk, if_true]
              exact ⟨_, putF_has l, by show o.d.size ≤ (f.d ++ o.d).size; rw [ByteArray.size_append]; omega⟩
          obtain ⟨f, hf, hle⟩ := hin
          have := sumB_mem hf
          omega
        all_goals
          have hfm := hc.1.2
          simp only [formB, Bool.and_eq_true] at hfm
          have he : emB o.d = true := by
            have h2 := hfm.2
            rw [hk] at h2
            simp at h2
            first | exact h2.2 | exact h2
          unfold emB at he
          have : o.d.toList = (⟨#[]⟩ : ByteArray).toList := by simpa using he
          rw [ba_ext this]
          show 0 ≤ _
          omega
      · exact run_ops h' o ho
    · cases h'
theorem disk_ops {d : Dk} (h : diskB d = true) : ∀ o ∈ d.ops, formB o = true ∧ o.d.size ≤ 200000 := run_ops (diskB_run h)
theorem torn_form {o : Dp} (t : Int) (h : formB o = true) : formB (tornO o t) = true := by
  unfold tornO
  split
  · rename_i hc
    have hk := hc.1
    simp only [formB, hk] at h ⊢
    simpa using h
  · exact h
theorem torn_size {o : Dp} {S : Nat} (t : Int) (h : o.d.size ≤ S) : (tornO o t).d.size ≤ S := by
  unfold tornO
  split
  · show (o.d.extract 0 t.toNat).size ≤ S
    rw [ByteArray.size_extract]
    omega
  · exact h
end Go.Proofs.Ytpobgjkmcmkkeaa
namespace Go.Proofs.Ytpobgjkmcmkkeaa
open Go Go.RowKit Go.BigFrame

set_option maxRecDepth 100000 in
theorem impl_torn_app (nm d : ByteArray) (t : Int) (w : World) (ht : 0 ≤ t) (hd : d.size ≤ 9223372036854775807) :
    Calls Try.prog 118 #[.agg #[.string nm, .string d], .int .i64 t] w fun e w' => e = .returned (.iface 113 (.agg #[.string nm, .string (if t < d.size then d.extract 0 t.toNat else d)])) ∧ Below w.heap.size w w' := by
  by_cases hlt : t < d.size
  · have hle : t.toNat ≤ d.size := by omega
    go_enter Try.func118, Try.ntmps118
    go_wp2
    go_returns
    exact ⟨rfl, by go_grown⟩
  · go_enter Try.func118, Try.ntmps118
    go_wp2
    go_returns
    exact ⟨rfl, by go_grown⟩
theorem impl_torn_ren (a b : ByteArray) (t : Int) (w : World) :
    Calls Try.prog 134 #[.agg #[.string a, .string b], .int .i64 t] w fun e w' => e = .returned (.iface 115 (.agg #[.string a, .string b])) ∧ Below w.heap.size w w' := by
  go_enter Try.func134, Try.ntmps134
  go_wp2
  go_returns
  exact ⟨rfl, by go_grown⟩
theorem impl_torn_rem (a : ByteArray) (t : Int) (w : World) :
    Calls Try.prog 137 #[.agg #[.string a], .int .i64 t] w fun e w' => e = .returned (.iface 117 (.agg #[.string a])) ∧ Below w.heap.size w w' := by
  go_enter Try.func137, Try.ntmps137
  go_wp2
  go_returns
  exact ⟨rfl, by go_grown⟩
theorem mt_app (x y : Value) (w : World) : (method 271 113 (.agg #[x, y]) "loop.example/g00336/impl.torn").run Try.prog w = .ok (118, .agg #[x, y]) w := by kernel_rfl
theorem mt_ren (x y : Value) (w : World) : (method 271 115 (.agg #[x, y]) "loop.example/g00336/impl.torn").run Try.prog w = .ok (134, .agg #[x, y]) w := by kernel_rfl
theorem mt_rem (x : Value) (w : World) : (method 271 117 (.agg #[x]) "loop.example/g00336/impl.torn").run Try.prog w = .ok (137, .agg #[x]) w := by kernel_rfl
theorem ent_app (x y : Value) (w : World) : (callFunc 118 #[x, y]).run Try.prog w = .ok (.enter 118 #[x, y]) w := by kernel_rfl
theorem ent_ren (x y : Value) (w : World) : (callFunc 134 #[x, y]).run Try.prog w = .ok (.enter 134 #[x, y]) w := by kernel_rfl
theorem ent_rem (x y : Value) (w : World) : (callFunc 137 #[x, y]).run Try.prog w = .ok (.enter 137 #[x, y]) w := by kernel_rfl
/-- A change that is torn, whichever it is. -/
theorem torn_of (o : Dp) (t : Int) (hf : formB o = true) (ht : 0 ≤ t) (hd : o.d.size ≤ 9223372036854775807) :
    ∃ (T : TypeId) (x : Value) (f : FuncId), chV o = .iface T x ∧ (∀ w : World, (method 271 T x "loop.example/g00336/impl.torn").run Try.prog w = .ok (f, x) w) ∧ (∀ (a b : Value) (w : World), (callFunc f #[a, b]).run Try.prog w = .ok (.enter f #[a, b]) w) ∧
      ∀ u, Calls Try.prog f #[x, .int .i64 t] u fun e w' => e = .returned (chV (tornO o t)) ∧ Below u.heap.size u w' := by
  rcases formB_k hf with hk | hk | hk
  · refine ⟨_, _, _, by simp only [chV, hk, if_true]; rfl, mt_app _ _, ent_app, fun u => ?_⟩
    have hc : chV (tornO o t) = .iface 113 (.agg #[.string o.nm, .string (if t < o.d.size then o.d.extract 0 t.toNat else o.d)]) := by
      unfold tornO
      by_cases h : t < o.d.size
      · rw [if_pos ⟨hk, h⟩, if_pos h]; simp only [chV, hk, if_true]
      · rw [if_neg (fun c => h c.2), if_neg h]; simp only [chV, hk, if_true]
    rw [hc]
    exact impl_torn_app o.nm o.d t u ht hd
  · have hk1 : ¬ o.k = 1 := by omega
    have hc : tornO o t = o := by unfold tornO; rw [if_neg (fun c => hk1 c.1)]
    refine ⟨_, _, _, by simp only [chV, hk, if_true]; rfl, mt_ren _ _, ent_ren, fun u => ?_⟩
    rw [hc, show chV o = .iface 115 (.agg #[.string o.nm, .string o.tt]) by simp only [chV, hk, if_true]; rfl]
    exact impl_torn_ren o.nm o.tt t u
  · have hk1 : ¬ o.k = 1 := by omega
    have hk2 : ¬ o.k = 2 := by omega
    have hc : tornO o t = o := by unfold tornO; rw [if_neg (fun c => hk1 c.1)]
    refine ⟨_, _, _, by simp only [chV, hk1, hk2, if_false]; rfl, mt_rem _, ent_rem, fun u => ?_⟩
    rw [hc, show chV o = .iface 117 (.agg #[.string o.nm]) by simp only [chV, hk1, hk2, if_false]]
    exact impl_torn_rem o.nm t u
theorem crash_no {d : Dk} {keep : List Int} {t : Int} (h : (diskB d && plcB d.ops.length 0 keep && decide (0 ≤ t)) = false) : crashD d keep t = (noD, false) := by simp [crashD, h]
theorem crash_full {d : Dk} {keep : List Int} {t : Int} (h : (diskB d && plcB d.ops.length 0 keep && decide (0 ≤ t)) = true) (h2 : filesB (crL d keep t) = false) : crashD d keep t = (noD, false) := by simp [crashD, h, h2]
theorem crash_ok {d : Dk} {keep : List Int} {t : Int} (h : (diskB d && plcB d.ops.length 0 keep && decide (0 ≤ t)) = true) (h2 : filesB (crL d keep t) = true) : crashD d keep t = (⟨crL d keep t, crL d keep t, []⟩, true) := by simp [crashD, h, h2]

set_option maxHeartbeats 8000000 in
set_option maxRecDepth 100000 in
theorem impl_Crash (v : Value) (d : Dk) (ka : Option Addr) (kn kc : Nat) (keep : List Int) (t : Int) (w : World) (h : DiskAt w v d) (hd : DimD d) (hk : IntsAt w ka kn keep) (hkn : kn ≤ 4194304) :
    Calls Try.prog 16 #[v, .slice ka kn kc, .int .i64 t] w fun e w' => (∃ v', e = .returned (.tuple #[v', .bool (crashD d keep t).2]) ∧ DiskS (w.heap.size + 1) w' v' (crashD d keep t).1) ∧ Below w.heap.size w w' := by
  have hD := h
  obtain ⟨la, ln, lc, sa, sn, sc, oa, on, oc, rfl, hL, hS, hO⟩ := h
  have hon : on ≤ 4000000 := by rw [← hO.sl.len]; exact hd.ops.1
  have hsn : sn ≤ 4000000 := by rw [← hS.sl.len]; exact hd.safe.1
  have lO : Hid (d.ops.length = on) := hO.sl.len
  have lK : Hid (keep.length = kn) := hk.len
  obtain ⟨W0, hW0⟩ : ∃ W0, W0 = (w.alloc (.cells #[.slice la ln lc, .slice sa sn sc, .slice oa on oc] 27)).alloc (.cells #[.slice none 0 0, .slice none 0 0, .slice none 0 0] 27) := ⟨_, rfl⟩
  have hB0 : Below w.heap.size w W0 := by rw [hW0]; go_grown
  have K : Blk W0 w.heap.size #[.slice la ln lc, .slice sa sn sc, .slice oa on oc] 27 := by rw [hW0]; exact (Blk.new w _ _).alloc _
  have E : Blk W0 (w.heap.size + 1) #[.slice none 0 0, .slice none 0 0, .slice none 0 0] 27 := by rw [hW0]; exact Blk.new' _ _ _ _ (by simp)
  have hz0 : Hid (W0.heap.size = w.heap.size + 2) := by show _ = _; rw [hW0]; simp
  go_enter Try.func16, Try.ntmps16
  go_wp2_with fail
  rw [← hW0]
  clear hW0
  refine (impl_DiskOk _ d W0 (hD.below hB0) hd).mono ?_
  rintro e w1 ⟨rfl, hB1⟩
  replace K := K.below hB1
  replace E := E.below hB1
  have hz1 : Hid (w.heap.size + 2 ≤ w1.heap.size) := by have := hB1.size; have := hz0.out; show _ ≤ _; omega
  replace hB1 := chain hB0 hB1
  clear hB0 hz0
  cases hdb : diskB d
  · have hr : Hid (crashD d keep t = (noD, false)) := crash_no (by rw [hdb]; rfl)
    obtain ⟨⟨z0, z1, z2⟩, f0, f1, f2⟩ := blk_three E
    have NR := noD_S (w.heap.size + 2) w1
    go_wp2
    have E8 := E.put3 (x := .slice none 0 0) (y := .slice none 0 0) (z := .slice none 0 0)
    have hg8 := grown_put3 w1 (w.heap.size + 1) (.slice none 0 0) (.slice none 0 0) (.slice none 0 0)
    have DR8 := NR.off hg8 (by omega)
    have hB8 := below_grown hB1 hg8 (by omega)
    generalize ((w1.setCell ⟨w.heap.size + 1, 0, none⟩ (.slice none 0 0)).setCell ⟨w.heap.size + 1, 1, none⟩ (.slice none 0 0)).setCell ⟨w.heap.size + 1, 2, none⟩ (.slice none 0 0) = W8 at *
    refine bodyPost_ret (results_cell_tmpJ rfl _ W8 (w.heap.size + 1) _ _ _ _ _ rfl E8 Try.underlying27 rfl (by kernel_rfl) rfl) rfl ?_
    exact ⟨⟨_, by rw [hr.out] <;> rfl, by rw [hr.out]; exact DR8.mono (by omega)⟩, hB8⟩
  obtain ⟨k0, k1, k2⟩ := K.three
  go_wp2_with fail
  refine (impl_placesOk ka kn kc keep on w1 (hk.below hB1) hkn (by omega)).mono ?_
  rintro e w1' ⟨rfl, rfl⟩
  cases hpl : plcB on 0 keep
  · have hr : Hid (crashD d keep t = (noD, false)) := crash_no (by rw [hdb, lO.out, hpl]; rfl)
    clear k0 k1 k2
    obtain ⟨⟨z0, z1, z2⟩, f0, f1, f2⟩ := blk_three E
    have NR := noD_S (w.heap.size + 2) w1'
    go_wp2
    have E8 := E.put3 (x := .slice none 0 0) (y := .slice none 0 0) (z := .slice none 0 0)
    have hg8 := grown_put3 w1' (w.heap.size + 1) (.slice none 0 0) (.slice none 0 0) (.slice none 0 0)
    have DR8 := NR.off hg8 (by omega)
    have hB8 := below_grown hB1 hg8 (by omega)
    generalize ((w1'.setCell ⟨w.heap.size + 1, 0, none⟩ (.slice none 0 0)).setCell ⟨w.heap.size + 1, 1, none⟩ (.slice none 0 0)).setCell ⟨w.heap.size + 1, 2, none⟩ (.slice none 0 0) = W8 at *
    refine bodyPost_ret (results_cell_tmpJ rfl _ W8 (w.heap.size + 1) _ _ _ _ _ rfl E8 Try.underlying27 rfl (by kernel_rfl) rfl) rfl ?_
    exact ⟨⟨_, by rw [hr.out] <;> rfl, by rw [hr.out]; exact DR8.mono (by omega)⟩, hB8⟩
  by_cases ht : t < 0
  · have hr : Hid (crashD d keep t = (noD, false)) := crash_no (by rw [hdb, lO.out, hpl, decide_eq_false (show ¬ 0 ≤ t by omega)]; rfl)
    clear k0 k1 k2
    obtain ⟨⟨z0, z1, z2⟩, f0, f1, f2⟩ := blk_three E
    have NR := noD_S (w.heap.size + 2) w1'
    go_wp2
    have E8 := E.put3 (x := .slice none 0 0) (y := .slice none 0 0) (z := .slice none 0 0)
    have hg8 := grown_put3 w1' (w.heap.size + 1) (.slice none 0 0) (.slice none 0 0) (.slice none 0 0)
    have DR8 := NR.off hg8 (by omega)
    have hB8 := below_grown hB1 hg8 (by omega)
    generalize ((w1'.setCell ⟨w.heap.size + 1, 0, none⟩ (.slice none 0 0)).setCell ⟨w.heap.size + 1, 1, none⟩ (.slice none 0 0)).setCell ⟨w.heap.size + 1, 2, none⟩ (.slice none 0 0) = W8 at *
    refine bodyPost_ret (results_cell_tmpJ rfl _ W8 (w.heap.size + 1) _ _ _ _ _ rfl E8 Try.underlying27 rfl (by kernel_rfl) rfl) rfl ?_
    exact ⟨⟨_, by rw [hr.out] <;> rfl, by rw [hr.out]; exact DR8.mono (by omega)⟩, hB8⟩
  have hall : (diskB d && plcB d.ops.length 0 keep && decide (0 ≤ t)) = true := by rw [hdb, lO.out, hpl, decide_eq_true (show 0 ≤ t by omega)]; rfl
  have hE1 := fun h2 => crash_full hall h2
  have hE2 := fun h2 => crash_ok hall h2
  clear hall
  obtain ⟨hin, hkl⟩ := plcB_all hpl
  have hops := disk_ops hdb
  obtain ⟨_, hfs, ho200⟩ := diskB_all hdb
  obtain ⟨hs60, hssum, hgs⟩ := filesB_all hfs
  have hkn2 : kn ≤ 200 := by have := hkl (by omega); rw [lK.out] at this; rw [lO.out] at ho200; omega
  go_wp2_with fail
  clear k0 k1 k2
  refine (impl_shelfOf sa sn sc d.safe w1' (hS.sl.below hB1) (by omega)).mono ?_
  rintro e w3 ⟨⟨a3, c3, rows3, rfl, R3, T3⟩, hB3⟩
  have hA3 : Below w3.heap.size w3 (w3.alloc (.cells #[.slice a3 sn c3] 72)) := (Below.refl _ _).alloc (Nat.le_refl _) _
  have Sh4 : ShAt w1'.heap.size w3.heap.size (w3.alloc (.cells #[.slice a3 sn c3] 72)) (d.safe.map oneH) := ⟨a3, sn, c3, rows3, Blk.new w3 #[.slice a3 sn c3] 72, R3.below hA3, T3.below hA3⟩
  have hB4 := chain hB3 hA3
  have hw3 := hB3.size
  clear R3 T3 hB3 hA3
  go_wp2_with fail
  generalize w3.alloc (.cells #[.slice a3 sn c3] 72) = W4 at *
  have hbnd := bnd_one hfs
  go_loopw [34] (fun ix wr => ∃ (k : Nat) (cur : List Hy), k ≤ kn ∧ ix = .int .i64 k ∧ ShAt w1'.heap.size w3.heap.size wr cur ∧ SrtH cur ∧ BndH (1 + k) 200000 cur ∧ cur.length ≤ 60 + k ∧ Hid (crL d keep t = crF (cur.map toldF) (selK d.ops t (keep.drop k))) ∧ Below w1'.heap.size w1' wr) (fun ix _ => kn - (intOf ix).toNat)
  case atStart => exact ⟨0, d.safe.map oneH, Nat.zero_le _, rfl, Sh4, srt_one hgs, hbnd, by simpa using hs60, by show _ = _; rw [told_one]; rfl, hB4⟩
  case round =>
    clear Sh4 hB4
    obtain ⟨k, cur, hkk, rfl, Sh, hs, hb, hcl, hI, hB⟩ := hrel
    have hC := chain hB1 hB
    have K3 := K.below hB
    by_cases hlt : k < kn
    · obtain ⟨kb, ko, x, rfl, hx, cx⟩ := ints_at' (hk.below hC) hlt
      obtain ⟨hx0, hx1⟩ := hin x (List.mem_of_getElem? hx)
      have hxn : x.toNat < on := by omega
      obtain ⟨b, off, o, hab, hp, c0, c1, c2', c3'⟩ := dp_at (hO.sl.below hC) hxn
      obtain ⟨hfo, hod⟩ := hops o (List.mem_of_getElem? hp)
      have hso := (hd.ops.2 o (List.mem_of_getElem? hp)).1
      have hdr : keep.drop k = x :: keep.drop (k + 1) := drop_at hx
      have hsel : Hid (selK d.ops t (keep.drop k) = (if keep.drop (k + 1) = [] then tornO o t else o) :: selK d.ops t (keep.drop (k + 1))) := by
        show _ = _
        rw [hdr]
        show (match d.ops[x.toNat]? with | some o => [if keep.drop (k + 1) = [] then tornO o t else o] | none => []) ++ _ = _
        rw [hp]; rfl
      have hlast : Hid (keep.drop (k + 1) = [] ↔ k + 1 = kn) := by
        show _ ↔ _
        rw [List.drop_eq_nil_iff, lK.out]; omega
      clear hp hx hdr
      have hk1 : (k : Int) < kn := by omega
      have hk2 : (0 : Int) ≤ k := by omega
      have hx2 : x < on := hx1
      have hxt : (x.toNat : Int) = x := by omega
      subst hab
      obtain ⟨k0, k1, k2⟩ := K3.three
      go_wp2_with fail
      refine (impl_changeOf o.k o.nm o.tt o.d wr hso.1 hso.2.1).mono ?_
      rintro e w5 ⟨⟨v5, rfl, hv5⟩, hB5⟩
      obtain rfl := hv5 hfo
      rw [show formB ⟨o.k, o.nm, o.tt, o.d⟩ = true from hfo]
      clear k0 k1 k2 cx c0 c1 c2' c3' hv5
      have Sh5 := Sh.below hB5
      have hB6 := chain hB hB5
      clear Sh hB5
      by_cases hla : k + 1 = kn
      · have hnx : Hid (crL d keep t = crF ((doH cur (tornO o t)).1.map toldF) (selK d.ops t (keep.drop (k + 1)))) := by
          show _ = _
          rw [hI.out, hsel.out, if_pos (hlast.out.2 hla)]
          show crF (doF (cur.map toldF) (tornO o t)).1 _ = _
          rw [doH_do hs (tornO o t)]
        have hfo2 := torn_form t hfo
        have hod2 := torn_size t hod
        obtain ⟨TT, xx, ff, hch, hme, hent, hcall⟩ := torn_of o t hfo (by omega) (by omega)
        rw [show chV ⟨o.k, o.nm, o.tt, o.d⟩ = .iface TT xx from hch]
        have hke : ((k : Int) == (kn : Int) - 1) = true := by simp; omega
        have hki : (k : Int) = (kn : Int) - 1 := by omega
        go_wp2_with fail
        refine (hcall w5).mono ?_
        rintro e w6 ⟨rfl, hB7⟩
        have Sh6 := Sh5.below hB7
        have hB8 := chain hB6 hB7
        clear hcall hme hent hch Sh5 hB6 hB7
        obtain ⟨TT2, xx2, ff2, hch, hme, hent, hcall⟩ := doneOn_of w1'.heap.size w1'.heap.size w3.heap.size cur (tornO o t) hfo2 hs (by omega) (fun y hy => by have := hb.ps y hy; omega) (Nat.le_refl _) hw3
        rw [hch]
        have hbn := doH_bnd hb hfo2 hod2
        have hsn := doH_srt hs (tornO o t)
        have hln2 := doH_len cur (tornO o t)
        clear hch
        go_wp2_with fail
        refine (hcall w6 Sh6 hB8.size).mono ?_
        rintro e w7 ⟨rfl, Sh7, hB9⟩
        have hB10 : Below w1'.heap.size w1' w7 := hB8.trans hB9
        clear hcall hme hent Sh6 hB8 hB9
        generalize (doH cur (tornO o t)).1 = nx at *
        go_wp2
        go_roundw
        case rel => exact ⟨k + 1, nx, by omega, by go_num, Sh7, hsn, by rw [show 1 + (k + 1) = 1 + k + 1 by omega]; exact hbn, by omega, hnx, hB10⟩
        case measure => simp [intOf]; omega
      · have hnx : Hid (crL d keep t = crF ((doH cur o).1.map toldF) (selK d.ops t (keep.drop (k + 1)))) := by
          show _ = _
          rw [hI.out, hsel.out, if_neg (fun c => hla (hlast.out.1 c))]
          show crF (doF (cur.map toldF) o).1 _ = _
          rw [doH_do hs o]
        obtain ⟨TT2, xx2, ff2, hch, hme, hent, hcall⟩ := doneOn_of w1'.heap.size w1'.heap.size w3.heap.size cur o hfo hs (by omega) (fun y hy => by have := hb.ps y hy; omega) (Nat.le_refl _) hw3
        rw [show chV ⟨o.k, o.nm, o.tt, o.d⟩ = .iface TT2 xx2 from hch]
        have hbn := doH_bnd hb hfo hod
        have hsn := doH_srt hs o
        have hln2 := doH_len cur o
        have hki : ¬ (k : Int) = (kn : Int) - 1 := by omega
        have hke : ((k : Int) == (kn : Int) - 1) = false := by simpa using hki
        clear hch
        go_wp2_with fail
        refine (hcall w5 Sh5 hB6.size).mono ?_
        rintro e w7 ⟨rfl, Sh7, hB9⟩
        have hB10 : Below w1'.heap.size w1' w7 := hB6.trans hB9
        clear hcall hme hent Sh5 hB6 hB9
        generalize (doH cur o).1 = nx at *
        go_wp2
        go_roundw
        case rel => exact ⟨k + 1, nx, by omega, by go_num, Sh7, hsn, by rw [show 1 + (k + 1) = 1 + k + 1 by omega]; exact hbn, by omega, hnx, hB10⟩
        case measure => simp [intOf]; omega
    · obtain rfl : k = kn := by omega
      have hend : crL d keep t = cur.map toldF := by
        rw [hI.out, List.drop_of_length_le (Nat.le_of_eq lK.out)]; rfl
      rw [hend, files_told hs hb] at hE1 hE2
      have hokk : ¬ (k : Int) < k := by omega
      obtain ⟨a6, n6, c6, rows6, S6, R6, T6⟩ := Sh
      have hn6 : n6 ≤ 300 := by rw [← R6.sl.len, T6.len]; omega
      have E3 := E.below hB
      go_wp2_with fail
      refine (impl_fits w1'.heap.size w3.heap.size a6 n6 c6 rows6 cur wr S6 R6 T6 (by omega) (fun y hy => by have := hb.ps y hy; omega) (fun y hy s hm => by have := hb.sz y hy s hm; omega)).mono ?_
      rintro e w7 ⟨rfl, hB7⟩
      have S7 := S6.below hB7
      have R7 := R6.below hB7
      have T7 := T6.below hB7
      have hC7 := chain hC hB7
      replace E := E3.below hB7
      have hz7 := hB7.size
      have hz70 := hB.size
      clear S6 R6 T6 hI hend K3 E3 hC
      cases hft : fitsB cur
      · have hr : Hid (crashD d keep t = (noD, false)) := hE1 hft
        clear hE1 hE2
        obtain ⟨⟨z0, z1, z2⟩, f0, f1, f2⟩ := blk_three E
        have NR := noD_S (w.heap.size + 2) w7
        go_wp2
        have E8 := E.put3 (x := .slice none 0 0) (y := .slice none 0 0) (z := .slice none 0 0)
        have hg8 := grown_put3 w7 (w.heap.size + 1) (.slice none 0 0) (.slice none 0 0) (.slice none 0 0)
        have DR8 := NR.off hg8 (by omega)
        have hB8 := below_grown hC7 hg8 (by omega)
        generalize ((w7.setCell ⟨w.heap.size + 1, 0, none⟩ (.slice none 0 0)).setCell ⟨w.heap.size + 1, 1, none⟩ (.slice none 0 0)).setCell ⟨w.heap.size + 1, 2, none⟩ (.slice none 0 0) = W8 at *
        refine bodyPost_ret (results_cell_tmpJ rfl _ W8 (w.heap.size + 1) _ _ _ _ _ rfl E8 Try.underlying27 rfl (by kernel_rfl) rfl) rfl ?_
        exact ⟨⟨_, by rw [hr.out] <;> rfl, by rw [hr.out]; exact DR8.mono (by omega)⟩, hB8⟩
      · have hr : Hid (crashD d keep t = (⟨cur.map toldF, cur.map toldF, []⟩, true)) := hE2 hft
        have hsum : sumH cur ≤ 200000 := by have h := hft; simp [fitsB] at h; exact h.2
        clear hE1 hE2
        go_wp2_with fail
        refine (impl_told w1'.heap.size w3.heap.size a6 n6 c6 rows6 cur w7 S7 R7 T7 (by omega) (fun y hy => by have := hb.ps y hy; omega) hsum).mono ?_
        rintro e w8 ⟨⟨a8, c8, rfl, R8⟩, hB8⟩
        replace E := E.below hB8
        have hC8 := chain hC7 hB8
        have hz8 := hB8.size
        clear S7 R7 T7 hC7
        go_wp2_with fail
        refine (impl_syncedS a8 n6 c8 (cur.map toldF) w8 R8.sl (by omega) R8.slH.spot R8.slH.zero).mono ?_
        rintro e w9 ⟨⟨a0, k0, a1, k1, rfl, Q0, Q1, hsep⟩, hB9⟩
        replace E := E.below hB9
        replace hB9 := chain hC8 hB9
        obtain ⟨⟨z0, z1, z2⟩, f0, f1, f2⟩ := blk_three E
        have DR : DiskS (w.heap.size + 2) w9 (.agg #[.slice a0 n6 k0, .slice a1 n6 k1, .slice none 0 0]) ⟨cur.map toldF, cur.map toldF, []⟩ := ⟨_, _, _, _, _, _, _, _, _, rfl, Q0.mono (by have := hz1.out; omega), Q1.mono (by have := hz1.out; omega), res_nil, hsep⟩
        go_wp2
        have E8 := E.put3 (x := .slice a0 n6 k0) (y := .slice a1 n6 k1) (z := .slice none 0 0)
        have hg8 := grown_put3 w9 (w.heap.size + 1) (.slice a0 n6 k0) (.slice a1 n6 k1) (.slice none 0 0)
        have DR8 := DR.off hg8 (by omega)
        have hB8 := below_grown hB9 hg8 (by omega)
        generalize ((w9.setCell ⟨w.heap.size + 1, 0, none⟩ (.slice a0 n6 k0)).setCell ⟨w.heap.size + 1, 1, none⟩ (.slice a1 n6 k1)).setCell ⟨w.heap.size + 1, 2, none⟩ (.slice none 0 0) = W8 at *
        refine bodyPost_ret (results_cell_tmpJ rfl _ W8 (w.heap.size + 1) _ _ _ _ _ rfl E8 Try.underlying27 rfl (by kernel_rfl) rfl) rfl ?_
        exact ⟨⟨_, by rw [hr.out] <;> rfl, by rw [hr.out]; exact DR8.mono (by omega)⟩, hB8⟩
end Go.Proofs.Ytpobgjkmcmkkeaa
