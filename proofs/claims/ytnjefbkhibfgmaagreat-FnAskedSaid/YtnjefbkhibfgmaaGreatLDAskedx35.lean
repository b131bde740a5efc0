/- Appending to one of two slices of a call's own that lie apart; counts that are taken away; how great a pool is when an op was tried. -/
import Derived.Test.YtnjefbkhibfgmaaGreatLDAskedx18
import Derived.Test.YtnjefbkhibfgmaaGreatLDAskedx15
import Derived.Test.YtnjefbkhibfgmaaGreatLDAskedx32
import Derived.Test.YtnjefbkhibfgmaaGreatLDAskedx04
import Derived.Test.YtnjefbkhibfgmaaGreatLDAskedx25
namespace Go.Proofs.YtnjefbkhibfgmaaGreat
open Go Go.RowKit Go.BigFrame
theorem app_fresh0 {P : Program} {w w' : World} {v v' : Value} (base : Nat) (t ty e : TypeId) (i : TypeInfo) (z : Value) (size bytes : Nat) (ht : P.underlying t = some (.slice e)) (hi : P.info? e = some i) (hz : i.zero = some z)
    (hsize : i.size = size) (hby : i.bytes = bytes) (n : Nat) (xs : List Value) (hown : w.ownsRow base e size v n xs)
    (a : Addr) (m c : Nat) (news : List Value) (hl : news.length = m * size) (hnews : ∀ j u, news[j]? = some u → w.cell? (a.add j) = some u) (h1 : ∀ u ∈ news, u.oneCell' = true)
    (h63 : n + m ≤ maxLen) (hbytes : (n + m) * bytes ≤ 140737488355328) (hr : (Builtin.append_ #[t, t] ty #[v, .slice (some a) m c]).run P w = .ok v' w') (hnil : v' = .slice none 0 0 ↔ v = .slice none 0 0 ∧ m = 0) :
    ∀ g, v'.ownBlock = some g → v.ownBlock = some g ∨ w.heap.size ≤ g := by
  by_cases hm : 0 < m
  · exact app_fresh base t ty e i z size bytes ht hi hz hsize hby n xs hown a m c news hm hl hnews h1 h63 hbytes hr
  · obtain rfl : m = 0 := by omega
    subst hsize
    intro g' hg'
    rcases hown.2 with ⟨rfl, rfl⟩ | ⟨g, cap, cur, rfl, hbg, hg, hnc, hcm, hcs, htake⟩
    · rw [hnil.2 ⟨rfl, rfl⟩] at hg'
      simp [Value.ownBlock] at hg'
    · have hfit : n * i.size + news.length ≤ cur.size := by rw [hl, hcs, ← Nat.add_mul]; exact Nat.mul_le_mul_right _ (by omega)
      have hr2 := run_append_room (P := P) w t ty e i ht hi g n cap cur hg a 0 c news hl hnews h1 (by omega) hfit
      rw [hr] at hr2
      cases hr2
      left
      simpa [Value.ownBlock] using hg'
theorem wp_appF {α : Type} {cs : α → List Value} {size : Nat} {P : Program} {o : Oper} {a : Act} {w : World} {K : Act → World → Prop} {Q : Exit → Act → World → Prop}
    (s x : Operand) (t : TypeId) (ho : o.op = .call { callee := .builtin .append, args := #[s, x], argTypes := #[t, t] })
    (B : Nat) (e : TypeId) (i : TypeInfo) (z : Value) (bytes : Nat) (ht : P.underlying t = some (.slice e)) (hi : P.info? e = some i) (hz : i.zero = some z) (hsize : i.size = size) (hby : i.bytes = bytes) (hzs : z.cells.size = size) (hpos : 0 < size)
    (hsz : ∀ y, (cs y).length = size) (hone : ∀ (l : List α), ∀ u ∈ l.flatMap cs, u.oneCell' = true)
    (da : Option Addr) (dn dcap : Nat) (ld : List α) (hs : a.eval s = .slice da dn dcap) (hd : ResAt cs size e w B da dn dcap ld)
    (sa : Option Addr) (sn scap : Nat) (ls : List α) (hx : a.eval x = .slice sa sn scap) (hsrc : SlAt cs size w sa sn ls) (hspot : ∀ ad, sa = some ad → ad.spot = none) (hnone : sa = none → scap = 0)
    (tot : Nat) (htot : dn + sn = tot) (h63 : tot ≤ maxLen) (hbytes : tot * bytes ≤ 140737488355328) (hbase : B ≤ w.heap.size)
    (h : ∀ a' cap' w', ResAt cs size e w' B a' tot cap' (ld ++ ls) → w.grownBy w' (Value.ownBlock (.slice da dn dcap)) → (∀ ad', a' = some ad' → (∃ ad, da = some ad ∧ ad.block = ad'.block) ∨ w.heap.size ≤ ad'.block) → K (a.put o.dst (.slice a' tot cap')) w') : o.wp P a w K Q := by
  subst htot
  have hrow := hd.row hsz
  have hlen : (ld ++ ls).length = dn + sn := by rw [List.length_append, hd.sl.len, hsrc.len]
  cases sa with
  | none =>
    have h0 : sn = 0 := by
      cases ls with
      | nil => rw [← hsrc.len]; rfl
      | cons y r => obtain ⟨b, o', hb, _⟩ := hsrc.cell 0 y rfl; cases hb
    obtain rfl := h0
    obtain rfl := hnone rfl
    have hl0 : ls = [] := List.eq_nil_of_length_eq_zero hsrc.len
    subst hl0
    have hrun := run_append_owned_none (P := P) w B t o.type e i size ht hi (.slice da dn dcap) dn (ld.flatMap cs) hrow
    unfold Oper.wp
    simp [execOp, ho, resolve, invoke, builtin, hs, hx, hrun, Result.andThen]
    exact h da dcap w (by simpa using hd) (World.grownBy.refl _ _) (fun ad' had' => .inl ⟨ad', had', rfl⟩)
  | some ad =>
    obtain ⟨b, off, spot⟩ := ad
    have := hspot _ rfl
    simp only at this
    subst this
    have hnl : (ls.flatMap cs).length = sn * size := by rw [flat_len hsz, hsrc.len]
    obtain ⟨v', w', hr, hrow', hg, hnil⟩ := run_append_own (P := P) w B t o.type e i z size bytes ht hi hz hsize hby hzs hpos (.slice da dn dcap) dn (ld.flatMap cs) hrow ⟨b, off, none⟩ sn scap (ls.flatMap cs) hnl (SlAt.src hsz hsrc) (hone ls) h63 hbytes hbase
    have hfr := app_fresh0 (P := P) B t o.type e i z size bytes ht hi hz hsize hby dn (ld.flatMap cs) hrow ⟨b, off, none⟩ sn scap (ls.flatMap cs) hnl (SlAt.src hsz hsrc) (hone ls) h63 hbytes hr hnil
    rw [← List.flatMap_append] at hrow'
    obtain ⟨a', cap', rfl, hres⟩ := res_of_row hsz hlen hrow'
    unfold Oper.wp
    simp [execOp, ho, resolve, invoke, builtin, hs, hx, hr, Result.andThen]
    refine h a' cap' w' hres hg (fun ad' had' => ?_)
    subst had'
    rcases hfr ad'.block (by simp [Value.ownBlock]) with h1 | h1
    · cases da with
      | none => simp [Value.ownBlock] at h1
      | some ad => exact .inl ⟨ad, rfl, by simpa [Value.ownBlock] using h1⟩
    · exact .inr h1
theorem grown_noneB {w w' : World} (h : Below w.heap.size w w') : w.grownBy w' none := ⟨h.os, h.tape, h.output, h.size, fun k hk _ => h.block k hk⟩
theorem wp_appL {α : Type} {cs : α → List Value} {size : Nat} {P : Program} {o : Oper} {a : Act} {w : World} {K : Act → World → Prop} {Q : Exit → Act → World → Prop}
    (s x : Operand) (t : TypeId) (ho : o.op = .call { callee := .builtin .append, args := #[s, x], argTypes := #[t, t] })
    (B : Nat) (e : TypeId) (i : TypeInfo) (z : Value) (bytes : Nat) (hi : P.info? e = some i) (hz : i.zero = some z) (hsize : i.size = size) (hby : i.bytes = bytes) (ht : P.underlying t = some (.slice e)) (hzs : z.cells.size = size) (hpos : 0 < size)
    (hsz : ∀ y, (cs y).length = size) (hone : ∀ (l : List α), ∀ u ∈ l.flatMap cs, u.oneCell' = true)
    (da : Option Addr) (dn dcap : Nat) (ld : List α) (hs : a.eval s = .slice da dn dcap) (hd : ResAt cs size e w B da dn dcap ld)
    (sa : Option Addr) (sn scap : Nat) (ls : List α) (hx : a.eval x = .slice sa sn scap) (hsrc : SlAt cs size w sa sn ls) (hspot : ∀ ad, sa = some ad → ad.spot = none) (hnone : sa = none → scap = 0)
    (ra : Option Addr) (rn rc : Nat) (lr : List α) (hr : ResAt cs size e w B ra rn rc lr) (hap : ∀ x y, ra = some x → da = some y → 0 < rc → 0 < dcap → x.block ≠ y.block)
    (tot : Nat) (htot : dn + sn = tot) (h63 : tot ≤ maxLen) (hbytes : tot * bytes ≤ 140737488355328) (hbase : B ≤ w.heap.size)
    (h : ∀ a' cap' w' row, ResAt cs size e w' B a' tot cap' (ld ++ ls) → ResAt cs size e w' B ra rn rc lr → w.grownBy w' row → RowTy w row e → (∀ k, row = some k → B ≤ k) → (∀ x y, ra = some x → a' = some y → 0 < rc → 0 < cap' → x.block ≠ y.block) → K (a.put o.dst (.slice a' tot cap')) w') : o.wp P a w K Q := by
  rcases hd.own with ⟨rfl, rfl, rfl⟩ | ⟨b, rfl, hBb, hnc, hcm, c, hc, hcs, htk⟩
  · refine wp_appF s x t ho B e i z bytes ht hi hz hsize hby hzs hpos hsz hone none 0 0 ld hs hd sa sn scap ls hx hsrc hspot hnone tot htot h63 hbytes hbase (fun a' cap' w' R hg hf => ?_)
    refine h a' cap' w' none R (hr.off hg (fun ad _ => by simp [Value.ownBlock])) hg rowTy_none (fun k e => by cases e) (fun x y hx hy _ _ => ?_)
    rcases hf y hy with ⟨_, h0, _⟩ | h1
    · cases h0
    · have := (hr.block x hx).2; omega
  · by_cases hcap : 0 < dcap
    · have hne : ∀ ad, ra = some ad → ad.block ≠ b := fun ad had hb => by
        by_cases hrc : 0 < rc
        · exact hap ad _ had rfl hrc hcap hb
        · rcases hr.own with ⟨h0, _⟩ | ⟨b', h1, _, _, _, c', hc', hcs', _⟩
          · rw [h0] at had; cases had
          · rw [h1] at had; cases had
            simp only at hb
            subst hb
            have : c = c' := by
              unfold Blk at hc hc'
              rw [hc] at hc'
              injection hc' with e1
              injection e1
            rw [this, hcs'] at hcs
            have : 0 < dcap * size := Nat.mul_pos hcap hpos
            have : rc = 0 := by omega
            subst this
            omega
      refine wp_appF s x t ho B e i z bytes ht hi hz hsize hby hzs hpos hsz hone _ dn dcap ld hs hd sa sn scap ls hx hsrc hspot hnone tot htot h63 hbytes hbase (fun a' cap' w' R hg hf => ?_)
      refine h a' cap' w' _ R (hr.off hg (fun ad had => by simp [Value.ownBlock]; exact hne ad had)) hg hd.rowTy (own_ge fun ad had => (hd.block ad had).1) (fun x y hx hy _ _ => ?_)
      rcases hf y hy with ⟨ad, h0, h1⟩ | h1
      · cases h0
        have := hne x hx
        simp only at h1
        omega
      · have := (hr.block x hx).2; omega
    · obtain rfl : dcap = 0 := by omega
      obtain rfl : dn = 0 := by omega
      have hld : ld = [] := List.eq_nil_of_length_eq_zero hd.sl.len
      subst hld
      have hc0 : c = #[] := Array.eq_empty_of_size_eq_zero (by rw [hcs]; simp)
      subst hc0
      subst htot
      rw [Nat.zero_add] at h63 hbytes
      refine wp_appLit s x t ho B e i z bytes ht hi hz hsize hby hzs hpos hsz hone b hs hc hBb sa sn scap ls hx hsrc hspot hnone h63 hbytes hbase (fun a' cap' w' R hB _ hf => ?_)
      have hh := h a' cap' w' none (by simpa using R) (hr.below hB) (grown_noneB hB) rowTy_none (fun k e => by cases e) (fun x y hx hy _ hc => by
        have := (hr.block x hx).2
        have := hf hc y hy
        omega)
      rw [Nat.zero_add] at hh
      exact hh
theorem chainC {n m : Nat} {w a b : World} (h : Below n w a) (h' : Below m a b) (hn : n ≤ m) : Below n w b := ⟨h'.os.trans h.os, h'.tape.trans h.tape, h'.output.trans h.output, Nat.le_trans h.size h'.size, fun k hk => (h'.block k (by omega)).trans (h.block k hk)⟩
def negK (l : List Ct) (k : Nat) : List Ct := negC (l.take k) ++ l.drop k
theorem negK_zero (l : List Ct) : negK l 0 = l := by simp [negK, negC]
theorem negK_all {l : List Ct} {k : Nat} (h : l.length = k) : negK l k = negC l := by
  unfold negK
  rw [List.take_of_length_le (Nat.le_of_eq h), List.drop_of_length_le (Nat.le_of_eq h), List.append_nil]
theorem negK_at {l : List Ct} {k : Nat} {x : Ct} (h : l[k]? = some x) : (negK l k)[k]? = some x := by
  have hk := (List.getElem?_eq_some_iff.1 h).1
  unfold negK negC
  rw [List.getElem?_append_right (by simp; omega)]
  simp only [List.length_map, List.length_take, List.getElem?_drop]
  rw [Nat.min_eq_left (by omega)]
  simpa using h
theorem negK_set {l : List Ct} {k : Nat} {x : Ct} (h : l[k]? = some x) : (negK l k).set k ⟨x.o, -x.n⟩ = negK l (k + 1) := by
  have hk := (List.getElem?_eq_some_iff.1 h).1
  unfold negK negC
  rw [List.set_append_right _ _ (by simp; omega)]
  rw [List.take_add_one, h]
  simp only [List.length_map, List.length_take]
  rw [Nat.min_eq_left (by omega), Nat.sub_self, drop_at h]
  simp
theorem neg_bd {l : List Ct} {a b : Int} (h : ∀ x ∈ l, a ≤ x.n ∧ x.n ≤ b) : ∀ x ∈ negC l, -b ≤ x.n ∧ x.n ≤ -a := fun x hx => by
  obtain ⟨d, hd, rfl⟩ := List.mem_map.1 hx
  have := h d hd
  simp only
  omega
theorem late_dim {p q : Po} (hd : DimP p) (hrf : q.rf = p.rf) (hlt : q.lt = p.lt) (hex : q.ex.length ≤ 4194304 ∧ Strs q.ex) (hws : WS q.vs) (hn : (lateS p q).lt.length ≤ 4194304) : DimP (lateS p q) := by
  obtain ⟨z1, z2, z3, z4, z5, z6, z7, z8⟩ := hd
  refine ⟨hex.1, hex.2, ?_, hws.2, ?_, ?_, hn, ?_⟩
  · have := hws.1.1
    show q.vs.length ≤ _
    omega
  · show q.rf.length ≤ _
    rw [hrf]; exact z5
  · show StrC q.rf
    rw [hrf]; exact z6
  · show StrC (q.lt ++ _)
    intro c hc
    rcases List.mem_append.1 hc with hc | hc
    · rw [hlt] at hc; exact z8 c hc
    · exact sum_str (walk_str hws.2) (neg_str (walk_str z4)) c hc
theorem file_keep {p : Po} {o : Opr} (hp : poolB p = true) (hd : DimP p) (hs : o.data.size ≤ 9223372036854775807) : (fileS p o).2.rf = p.rf ∧ (fileS p o).2.lt = p.lt ∧ ((fileS p o).2.ex.length ≤ 4194304 ∧ Strs (fileS p o).2.ex) := by
  have h60 : p.ex.length ≤ 60 := (ok_parts (pool_right hp).1).2.2.1
  have hx : (partsS p o).2.1.length ≤ 4194304 ∧ Strs (partsS p o).2.1 := by
    have hb : p.ex.length ≤ 4194304 ∧ Strs p.ex := ⟨hd.1, hd.2.1⟩
    unfold partsS
    simp only
    split
    · split
      · exact hb
      · rename_i l a hpl
        obtain ⟨_, _, _, f4, _, _, _, f8⟩ := placed_facts hpl
        refine ⟨by show l.length ≤ _; omega, fun e he => ?_⟩
        rcases f8 e he with he | rfl
        · exact hd.2.1 e he
        · exact hs
    · split
      · split
        · exact hb
        · split <;> exact hb
      · split
        · exact hb
        · split
          · exact hb
          · split <;> exact hb
  have hb : p.rf = p.rf ∧ p.lt = p.lt ∧ (p.ex.length ≤ 4194304 ∧ Strs p.ex) := ⟨rfl, rfl, hd.1, hd.2.1⟩
  unfold fileS
  simp only
  split
  · exact hb
  · split
    · exact hb
    · split
      · exact hb
      · split
        · exact ⟨rfl, rfl, hx⟩
        · exact hb
theorem vol_keep {p : Po} {o : Opr} (hd : DimP p) : (volS p o).2.rf = p.rf ∧ (volS p o).2.lt = p.lt ∧ ((volS p o).2.ex.length ≤ 4194304 ∧ Strs (volS p o).2.ex) := by
  have hb : p.rf = p.rf ∧ p.lt = p.lt ∧ (p.ex.length ≤ 4194304 ∧ Strs p.ex) := ⟨rfl, rfl, hd.1, hd.2.1⟩
  unfold volS
  split
  · split <;> exact hb
  · split
    · exact hb
    · split
      · exact hb
      · split
        · split <;> exact hb
        · split
          · exact hb
          · split
            · split <;> exact hb
            · split
              · split
                · exact hb
                · split <;> exact hb
              · exact hb
end Go.Proofs.YtnjefbkhibfgmaaGreat
namespace Go.Proofs.YtnjefbkhibfgmaaGreat
open Go Go.RowKit Go.BigFrame
set_option maxHeartbeats 4000000 in
set_option maxRecDepth 100000 in
theorem spec_l6Done_yesV (B0 : Nat) (hB0 : 0 < B0) (v : Value) (p : Po) (o : Opr) (w : World) (h : PoolAt B0 w v p) (hd : DimP p) (hp : poolB p = true) (hso : StrO o) (hf : opB o = true) (hk : o.k = 1 ∨ o.k = 4 ∨ o.k = 6 ∨ o.k = 7 ∨ o.k = 8) (hyes : (volS p o).1 = 0) :
    Calls Tryz.prog 89 #[v, .agg #[.int .i64 o.k, .string o.vol, .string o.file, .string o.to, .string o.into, .int .i64 o.at', .int .i64 o.fr, .int .i64 o.ln, .string o.data]] w fun e w' => (∃ v' c, e = .returned (.tuple #[v', .int .i64 c]) ∧ c = (opS p o).1 ∧ PoolT w.heap.size w' v' (opS p o).2 ∧ DimP (opS p o).2) ∧ Below w.heap.size w w' := by
  have _ := hB0
  have _ := hp
  have hPA := h
  obtain ⟨ea, en, ec, va, vn, vc, ra, rn, rc, la, ln, lc, rfl, ⟨h1, k1⟩, ⟨h2, k2⟩, ⟨h3, k3⟩, h4, k4⟩ := h
  have nk9 : ¬ o.k = 9 := by omega
  have mk9 : (o.k == 9) = false := by simpa using nk9
  have nk2 : ¬ o.k = 2 := by omega
  have mk2 : (o.k == 2) = false := by simpa using nk2
  have nk3 : ¬ o.k = 3 := by omega
  have mk3 : (o.k == 3) = false := by simpa using nk3
  have nk5 : ¬ o.k = 5 := by omega
  have mk5 : (o.k == 5) = false := by simpa using nk5
  have nk10 : ¬ o.k = 10 := by omega
  have mk10 : (o.k == 10) = false := by simpa using nk10
  obtain ⟨_, hnx, htv, hrB, hlB⟩ := pool_right hp
  have hS : Hid (opS p o = if poolB (lateS p (volS p o).2) = true then (0, lateS p (volS p o).2) else (5, p)) := by show _ = _; simp [opS, triedS, hf, nk9, nk2, nk3, nk5, nk10, hyes]
  generalize opS p o = R at *
  have hkeep := vol_keep (o := o) hd
  have hWS := vol_ok (o := o) hp hd hso.vol hso.to
  have hk9 : Hid (o.k = 1 ∨ o.k = 4 ∨ o.k = 6 ∨ o.k = 7 ∨ o.k = 8) := hk
  have hf' : Hid (opB o = true) := hf
  clear hk
  go_enter Tryz.func89, Tryz.ntmps89
  go_wp2_with fail
  refine (spec_OpOk o _ hso).mono ?_
  rintro e w1 ⟨rfl, hB1⟩
  have C : Blk w1 w.heap.size #[.int .i64 p.size, .int .i64 p.next, .slice ea en ec, .slice va vn vc, .slice ra rn rc, .slice la ln lc] 28 := (((Blk.new w _ _).alloc _).alloc _).below hB1
  have O : Blk w1 (w.heap.size + 1) #[.int .i64 o.k, .string o.vol, .string o.file, .string o.to, .string o.into, .int .i64 o.at', .int .i64 o.fr, .int .i64 o.ln, .string o.data] 102 := ((Blk.new' _ _ _ _ (by simp)).alloc _).below hB1
  have D : Blk w1 (w.heap.size + 2) #[.int .i64 0, .int .i64 0, .slice none 0 0, .slice none 0 0, .slice none 0 0, .slice none 0 0] 28 := (Blk.new' _ _ _ _ (by simp)).below hB1
  have hBw1 : Below w.heap.size w w1 := chain (by go_grown) hB1
  have hs1 : w.heap.size + 3 ≤ w1.heap.size := by have := hB1.size; simp at this; omega
  clear hB1
  rw [hf]
  obtain ⟨x0, x1, x2, x3, x4, x5⟩ := D.six'
  have f0 := D.frozen 0
  have f1 := D.frozen 1
  have f2 := D.frozen 2
  have f3 := D.frozen 3
  have f4 := D.frozen 4
  have f5 := D.frozen 5
  obtain ⟨c0, c1, c2, c3, c4, c5⟩ := C.six'
  have o0 : w1.cell? ⟨w.heap.size + 1, 0, none⟩ = some (.int .i64 o.k) := by exact O.cell 0
  go_wp2_with fail
  refine (spec_l4Copy B0 hB0 _ p _ (hPA.below hBw1) hd).mono ?_
  rintro e wk ⟨⟨v', rfl, PT, hNn⟩, hBk⟩
  have PT0 := PT
  obtain ⟨ea', en', ec', va', vn', vc', ra', rn', rc', la', ln', lc', rows', rfl, _⟩ := PT
  have hBwk := chain hBw1 hBk
  have hsk := hBk.size
  have hBX : Below wk.heap.size wk (wk.alloc (.cells #[.int .i64 p.size, .int .i64 p.next, .slice ea' en' ec', .slice va' vn' vc', .slice ra' rn' rc', .slice la' ln' lc'] 28)) := (Below.refl _ _).alloc (Nat.le_refl _) _
  have XB := Blk.new wk #[.int .i64 p.size, .int .i64 p.next, .slice ea' en' ec', .slice va' vn' vc', .slice ra' rn' rc', .slice la' ln' lc'] 28
  have hsX : (wk.alloc (.cells #[.int .i64 p.size, .int .i64 p.next, .slice ea' en' ec', .slice va' vn' vc', .slice ra' rn' rc', .slice la' ln' lc'] 28)).heap.size = wk.heap.size + 1 := by simp
  have PX := PT0.below hBX
  have hBwX := chain hBwk hBX
  have CX := (C.below hBk).below hBX
  have DX := (D.below hBk).below hBX
  have OX := (O.below hBk).below hBX
  have ox0 : (wk.alloc (.cells #[.int .i64 p.size, .int .i64 p.next, .slice ea' en' ec', .slice va' vn' vc', .slice ra' rn' rc', .slice la' ln' lc'] 28)).cell? ⟨w.heap.size + 1, 0, none⟩ = some (.int .i64 o.k) := by exact OX.cell 0
  clear x0 x1 x2 x3 x4 x5 f0 f1 f2 f3 f4 f5 c0 c1 c2 c3 c4 c5 o0 C D O
  obtain ⟨y0, y1, y2, y3, y4, y5⟩ := XB.six'
  have p1 := OX.cell 1
  have p2 := OX.cell 2
  have p3 := OX.cell 3
  have p4 := OX.cell 4
  have p5 := OX.cell 5
  have p6 := OX.cell 6
  have p7 := OX.cell 7
  have p8 := OX.cell 8
  simp only [lgA, lgB, lgC] at p1 p2 p3 p4 p5 p6 p7 p8
  go_wp2_with fail
  generalize wk.alloc (.cells #[.int .i64 p.size, .int .i64 p.next, .slice ea' en' ec', .slice va' vn' vc', .slice ra' rn' rc', .slice la' ln' lc'] 28) = wX at *
  have hcall := spec_l6Volume w1.heap.size (by omega) _ p o wX PX (by omega) hd hnx hk9.out
  refine hcall.mono ?_
  rintro e w5 ⟨⟨v2, c, rfl, _, hc, hPT5⟩, hB5, hF5⟩
  have hc0 : c = 0 := by rw [hc]; exact hyes
  clear hc hyes
  subst hc0
  have PT5 := hPT5 rfl
  clear hPT5
  obtain ⟨q, hq⟩ : ∃ q, (volS p o).2 = q := ⟨_, rfl⟩
  rw [hq] at PT5 hWS hkeep hS
  clear hq
  obtain ⟨hkrf, hklt, hkex⟩ := hkeep
  replace hkrf : Hid (q.rf = p.rf) := hkrf
  replace hklt : Hid (q.lt = p.lt) := hklt
  have PT5' := PT5
  obtain ⟨e2a, e2n, e2c, v2a, v2n, v2c, r2a, r2n, r2c, l2a, l2n, l2c, rows5, rfl, _⟩ := PT5
  have X5 := hF5 _ _ _ XB (by decide)
  have C5 := hF5 _ _ _ CX (by decide)
  have D5 := hF5 _ _ _ DX (by decide)
  have hBw5 : Below w.heap.size w w5 := chainC hBwX hB5 (by omega)
  have hs5 := hB5.size
  clear y0 y1 y2 y3 y4 y5 p1 p2 p3 p4 p5 p6 p7 p8 ox0
  obtain ⟨x0, x1, x2, x3, x4, x5⟩ := X5.six'
  have f0 := X5.frozen 0
  have f1 := X5.frozen 1
  have f2 := X5.frozen 2
  have f3 := X5.frozen 3
  have f4 := X5.frozen 4
  have f5 := X5.frozen 5
  obtain ⟨c0, c1, c2, c3, c4, c5⟩ := C5.six'
  have n1 : ¬ w.heap.size = wk.heap.size := by omega
  have n3 : ¬ wk.heap.size = w.heap.size := by omega
  go_wp2_with fail
  obtain ⟨X6, hg6⟩ := set6 X5 (.int .i64 q.size) (.int .i64 q.next) (.slice e2a e2n e2c) (.slice v2a v2n v2c) (.slice r2a r2n r2c) (.slice l2a l2n l2c)
  have C6 : Blk _ w.heap.size _ _ := (hg6.block _ C5.lt (by simp only [ne_eq, Option.some.injEq]; omega)).trans C5
  have D6 : Blk _ (w.heap.size + 2) _ _ := (hg6.block _ D5.lt (by simp only [ne_eq, Option.some.injEq]; omega)).trans D5
  have hBw6 := hBw5.grown hg6 hBw5.size (fun j e => by cases e; omega)
  have hs6 := hg6.size
  have PT6 := PT5'.tyP hg6 (rowTy_blk X5)
  generalize ((((((w5.setCell ⟨wk.heap.size, 0, none⟩ (.int .i64 q.size)).setCell ⟨wk.heap.size, 1, none⟩ (.int .i64 q.next)).setCell ⟨wk.heap.size, 2, none⟩ (.slice e2a e2n e2c)).setCell ⟨wk.heap.size, 3, none⟩ (.slice v2a v2n v2c)).setCell ⟨wk.heap.size, 4, none⟩ (.slice r2a r2n r2c)).setCell ⟨wk.heap.size, 5, none⟩ (.slice l2a l2n l2c)) = w6 at *
  clear x0 x1 x2 x3 x4 x5 f0 f1 f2 f3 f4 f5 X5 C5 D5 hg6 c0 c1 c2 c3 c4 c5 PT5' hF5
  refine (spec_l4WalkedW B0 va vn vc p.vs w6 (h2.below hBw6) htv.wide).mono ?_
  rintro e w7 ⟨⟨wa, wn, wc, rfl, hwn, hwb, RW⟩, hB7⟩
  have hlw : Hid ((walkL p.vs).length = wn) := RW.sl.len
  have hs7 := hB7.size
  go_wp2_with fail
  go_loopw [9] (fun ix wr => ∃ (k : Nat), k ≤ wn ∧ ix = .int .i64 k ∧ ResAt Ct.cs 4 38 wr w6.heap.size wa wn wc (negK (walkL p.vs) k) ∧ Below w6.heap.size w6 wr) (fun ix _ => wn - (intOf ix).toNat)
  case atStart => exact ⟨0, Nat.zero_le _, rfl, by rw [negK_zero]; exact RW, hB7⟩
  case round =>
    obtain ⟨k, hk, rfl, RK, hB⟩ := hrel
    by_cases hlt : k < wn
    · obtain ⟨x, hx⟩ : ∃ x, (walkL p.vs)[k]? = some x := ⟨_, List.getElem?_eq_getElem (by rw [hlw.out]; exact hlt)⟩
      have hx2 := negK_at hx
      obtain ⟨b, rfl⟩ : ∃ b, wa = some ⟨b, 0, none⟩ := by
        rcases RK.own with ⟨_, h0, _⟩ | ⟨b, h0, _⟩
        · omega
        · exact ⟨b, h0⟩
      have d3 : wr.cell? ⟨b, k * 4 + 3, none⟩ = some (.int .i64 x.n) := RK.cellAt (j := 3) hx2 rfl
      obtain ⟨bcs, VB⟩ := RK.blkAt
      have g3 := VB.frozen (k * 4 + 3)
      have hxb := hwb x (List.mem_of_getElem? hx)
      have hneg : IntKind.i64.wrap (-x.n) = -x.n := by rw [IntKind.wrap_i64]; omega
      have hbb := (RK.block _ rfl).1
      have hk1 : (k : Int) < wn := by omega
      have hk2 : (0 : Int) ≤ k := by omega
      have hset := RK.set1 ccs_len hx2 (j := 3) (v := .int .i64 (-x.n)) (x' := ⟨x.o, -x.n⟩) (by omega) rfl
      rw [negK_set hx] at hset
      have hset' : Hid (ResAt Ct.cs 4 38 (wr.setCell ⟨b, k * 4 + 3, none⟩ (.int .i64 (-x.n))) w6.heap.size (some ⟨b, 0, none⟩) wn wc (negK (walkL p.vs) (k + 1))) := hset
      clear hset hx hx2 VB
      go_wp2
      go_roundw
      case rel => exact ⟨k + 1, by omega, by go_num, hset'.out, Below.setCell hB (by simp only; exact hbb) _⟩
      case measure => simp [intOf]; omega
    · obtain rfl : k = wn := by omega
      rw [negK_all hlw.out] at RK
      have hBwr := chain hBw6 hB
      have XR := X6.below hB
      have CR := C6.below hB
      have DR := D6.below hB
      have PTR := PT6.below hB
      have hsr := hB.size
      clear RW hB7 X6 C6 D6 PT6
      obtain ⟨_, _, _, _, _, _, _, _, _, _, _, _, rowsR, hvR, R1, ⟨R2, T2⟩, R3, R4, hap⟩ := PTR
      simp only [Value.agg.injEq, Array.mk.injEq, List.cons.injEq, Value.slice.injEq, and_true, true_and] at hvR
      obtain ⟨⟨rfl, rfl, rfl⟩, ⟨rfl, rfl, rfl⟩, ⟨rfl, rfl, rfl⟩, ⟨rfl, rfl, rfl⟩⟩ := hvR
      have hqlt : Hid (q.lt.length = l2n) := R4.sl.len
      have hl2 : l2n ≤ 200 := by rw [← hqlt.out, hklt.out]; exact (late_bound hlB).1
      have y5 : wr.cell? ⟨wk.heap.size, 5, none⟩ = some (.slice l2a l2n l2c) := XR.cell 5
      have y3 : wr.cell? ⟨wk.heap.size, 3, none⟩ = some (.slice v2a v2n v2c) := XR.cell 3
      go_wp2_with fail
      have hSB : ∀ u, Below wr.heap.size wr u → (fun u => u.cell? ⟨wk.heap.size, 5, none⟩ = some (.slice l2a l2n l2c) ∧ u.cell? ⟨wk.heap.size, 3, none⟩ = some (.slice v2a v2n v2c)) u := fun u hu => ⟨bcell hu y5, bcell hu y3⟩
      have hS0 := hSB wr.drew ((Below.refl _ _).drew)
      refine wp_region_last (S := (fun u => u.cell? ⟨wk.heap.size, 5, none⟩ = some (.slice l2a l2n l2c) ∧ u.cell? ⟨wk.heap.size, 3, none⟩ = some (.slice v2a v2n v2c))) 9 (by kernel_rfl) (by kernel_rfl) ?_
      refine takeQ (i := 0) (v := ?vq2001) rfl (by kernel_rfl) (fun _ _ _ h => h) (by rfl) ?hq2001 (by assumption) ?rq2001
      case hq2001 => (intro u hu; (try dsimp only at hu); go_simp <;> with_reducible rfl)
      try simp only [Act.put, lsA, lsB, lsC]
      refine takeQ (i := 1) (v := ?vq2002) rfl (by kernel_rfl) (fun _ _ _ h => h) (by rfl) ?hq2002 (by assumption) ?rq2002
      case hq2002 => (intro u hu; (try dsimp only at hu); go_simp <;> with_reducible rfl)
      try simp only [Act.put, lsA, lsB, lsC]
      refine takeQ (i := 2) (v := ?vq2003) rfl (by kernel_rfl) (fun _ _ _ h => h) (by rfl) ?hq2003 (by assumption) ?rq2003
      case hq2003 => (intro u hu; (try dsimp only at hu); go_simp <;> with_reducible rfl)
      try simp only [Act.put, lsA, lsB, lsC]
      refine takeQ (i := 3) (v := ?vq2004) rfl (by kernel_rfl) (fun _ _ _ h => h) (by rfl) ?hq2004 (by assumption) ?rq2004
      case hq2004 => (intro u hu; (try dsimp only at hu); go_simp <;> with_reducible rfl)
      try simp only [Act.put, lsA, lsB, lsC]
      refine takeQ (i := 5) (v := ?vq2005) rfl (by kernel_rfl) (fun _ _ _ h => h) (by rfl) ?hq2005 (by assumption) ?rq2005
      case hq2005 => (intro u hu; (try dsimp only at hu); go_simp <;> with_reducible rfl)
      try simp only [Act.put, lsA, lsB, lsC]
      refine oneL (i := 4) (by kernel_rfl) rfl (fun K hK => ?_)
      go_simp
      refine (spec_l4WalkedW w1.heap.size v2a v2n v2c q.vs _ ((T2.rows.vs R2).below ((Below.refl _ _).drew)) hWS.1).mono ?_
      rintro e w8 ⟨⟨qa, qn, qc, rfl, hqn, hqb, RQ⟩, hB8'⟩
      have hB8 : Below wr.heap.size wr w8 := chain ((Below.refl _ _).drew) hB8'
      have hs8 := hB8.size
      dsimp only
      refine hK.out _ _ (hSB _ hB8) (fun hHeld => ?_)
      clear hK K
      try simp only [Act.put, lsA, lsB, lsC]
      refine oneL (i := 6) (by kernel_rfl) rfl (fun K hK => ?_)
      go_simp
      refine (spec_l3SumW qa qn qc (walkL q.vs) wa k wc (negC (walkL p.vs)) w8 RQ.sl (RQ.hd.2.2 (show 0 < wr.heap.size by omega)).2 (RQ.hd.2.2 (show 0 < wr.heap.size by omega)).1 (RK.sl.below hB8) (by omega) (by omega) (fun x hx => by have := hqb x hx; omega) (fun x hx => by have := neg_bd hwb x hx; omega)).mono ?_
      rintro e w9 ⟨⟨sa, sn, sc, rfl, hsn, RS⟩, hB9'⟩
      have hB9 : Below wr.heap.size wr w9 := chain hB8 hB9'
      have hs9 := hB9.size
      dsimp only
      refine hK.out _ _ (hSB _ hB9) (fun hHeld => ?_)
      clear hK K
      try simp only [Act.put, lsA, lsB, lsC]
      refine oneL (i := 7) (by kernel_rfl) rfl (fun K hK => ?_)
      obtain ⟨i0, hi, hz0, hz1, hz2⟩ := info_parts infoC
      refine step_app rfl (wp_appL _ _ _ rfl w1.heap.size _ i0 _ 40 hi hz0 hz1 hz2 Tryz.underlying26 rfl (by decide) ccs_len ccs_one l2a l2n l2c q.lt rfl (R4.below hB9) sa sn sc (sumC (walkL q.vs) (negC (walkL p.vs))) rfl RS.sl (RS.hd.2.2 (by omega)).2 (RS.hd.2.2 (by omega)).1 r2a r2n r2c q.rf (R3.below hB9) hap (l2n + sn) rfl (by unfold maxLen; omega) (by omega) (by omega) ?_)
      intro a10 cap10 w10 row RL RR hg10 hty hrow hap'
      have XA := (XR.below hB9).ty hg10 hty (by decide)
      have CA := (CR.below hB9).ty hg10 hty (by decide)
      have DA := (DR.below hB9).ty hg10 hty (by decide)
      have E1 := (R1.below hB9).ty hg10 hty (by decide)
      have E2 := (R2.below hB9).ty hg10 hty (by decide)
      have E3 := (T2.below hB9).ty hg10 hty (by decide) (by decide)
      have hBwA := (chain hBwr hB9).grown hg10 (chain hBwr hB9).size (fun j e => by have := hrow j e; omega)
      have hsA := hg10.size
      refine hK.out _ _ ⟨XA.cell 5, XA.cell 3⟩ (fun hHeld => ?_)
      clear hK K
      try simp only [Act.put, lsA, lsB, lsC]
      refine takeQ (i := 8) (v := ?vq2006) rfl (by kernel_rfl) (fun _ _ _ h => h) (by rfl) ?hq2006 (by assumption) ?rq2006
      case hq2006 => (intro u hu; (try dsimp only at hu); go_simp <;> with_reducible rfl)
      try simp only [Act.put, lsA, lsB, lsC]
      refine wpAnyH_done (by kernel_rfl) ?_ _
      refine lastL rfl ?_
      clear hSB hS0 hHeld y5 y3
      have hgL := gset w10 wk.heap.size 5 (.slice a10 (l2n + sn) cap10)
      have XL : Blk (w10.setCell ⟨wk.heap.size, 5, none⟩ (.slice a10 (l2n + sn) cap10)) wk.heap.size #[.int .i64 q.size, .int .i64 q.next, .slice e2a e2n e2c, .slice v2a v2n v2c, .slice r2a r2n r2c, .slice a10 (l2n + sn) cap10] 28 := by simpa using XA.set 5 (.slice a10 (l2n + sn) cap10)
      have y5 := XA.cell 5
      simp only [lgA, lgB, lgC] at y5
      have g5 := XA.frozen 5
      obtain ⟨z0, z1, z2, z3, z4, z5⟩ := XL.six'
      go_wp2_with fail
      have CL : Blk _ w.heap.size _ _ := (hgL.block _ CA.lt (by simp only [ne_eq, Option.some.injEq]; omega)).trans CA
      have DL : Blk _ (w.heap.size + 2) _ _ := (hgL.block _ DA.lt (by simp only [ne_eq, Option.some.injEq]; omega)).trans DA
      have PTL : PoolT w1.heap.size (w10.setCell ⟨wk.heap.size, 5, none⟩ (.slice a10 (l2n + sn) cap10)) (.agg #[.int .i64 q.size, .int .i64 q.next, .slice e2a e2n e2c, .slice v2a v2n v2c, .slice r2a r2n r2c, .slice a10 (l2n + sn) cap10]) (lateS p q) := ⟨_, _, _, _, _, _, _, _, _, _, _, _, rowsR, rfl, E1.ty hgL (rowTy_blk XA) (by decide), ⟨E2.ty hgL (rowTy_blk XA) (by decide), E3.ty hgL (rowTy_blk XA) (by decide) (by decide)⟩, RR.ty hgL (rowTy_blk XA) (by decide), RL.ty hgL (rowTy_blk XA) (by decide), hap'⟩
      have hdl : DimP (lateS p q) := late_dim hd hkrf.out hklt.out hkex hWS (by show (q.lt ++ sumC _ _).length ≤ _; rw [RL.sl.len]; omega)
      have hBw11 := hBwA.grown hgL hBwA.size (fun j e => by cases e; omega)
      have hs11 := hgL.size
      generalize w10.setCell ⟨wk.heap.size, 5, none⟩ (.slice a10 (l2n + sn) cap10) = w11 at *
      refine (spec_PoolOk w1.heap.size (by omega) _ (lateS p q) w11 PTL.at' hdl).mono ?_
      rintro e w12 ⟨rfl, hB12⟩
      have X12 := XL.below hB12
      have C12 := CL.below hB12
      have D12 := DL.below hB12
      have hBw12 := chain hBw11 hB12
      have hs12 := hB12.size
      have PT12 := PTL.below hB12
      clear y5 g5 z0 z1 z2 z3 z4 z5 XA CA DA E1 E2 E3 RR RL R1 R2 T2 R3 R4 XR CR DR hgL XL CL DL PTL
      cases hpk : poolB (lateS p q)
      · obtain ⟨c0, c1, c2, c3, c4, c5⟩ := C12.six'
        obtain ⟨x0, x1, x2, x3, x4, x5⟩ := D12.six'
        have f0 := D12.frozen 0
        have f1 := D12.frozen 1
        have f2 := D12.frozen 2
        have f3 := D12.frozen 3
        have f4 := D12.frozen 4
        have f5 := D12.frozen 5
        go_wp2_with fail
        refine (spec_l4Copy B0 hB0 _ p _ (hPA.below hBw12) hd).mono ?_
        rintro e wk ⟨⟨v', rfl, PT, _⟩, hBk⟩
        have PT0 := PT
        obtain ⟨ea', en', ec', va', vn', vc', ra', rn', rc', la', ln', lc', rows', rfl, _⟩ := PT
        have Dk := D12.below hBk
        have hBwk := chain hBw12 hBk
        have hsk := hBk.size
        have hsw := hBw12.size
        clear x0 x1 x2 x3 x4 x5 f0 f1 f2 f3 f4 f5
        obtain ⟨x0, x1, x2, x3, x4, x5⟩ := Dk.six'
        have f0 := Dk.frozen 0
        have f1 := Dk.frozen 1
        have f2 := Dk.frozen 2
        have f3 := Dk.frozen 3
        have f4 := Dk.frozen 4
        have f5 := Dk.frozen 5
        go_wp2
        obtain ⟨W0, hg0⟩ := set6 Dk (.int .i64 p.size) (.int .i64 p.next) (.slice ea' en' ec') (.slice va' vn' vc') (.slice ra' rn' rc') (.slice la' ln' lc')
        have PF := (PT0.tyP hg0 (rowTy_blk Dk)).mono (show w.heap.size ≤ w12.heap.size by omega)
        have B8 := hBwk.grown hg0 hBwk.size (fun j e => by cases e; omega)
        generalize ((((((wk.setCell ⟨w.heap.size + 2, 0, none⟩ (.int .i64 p.size)).setCell ⟨w.heap.size + 2, 1, none⟩ (.int .i64 p.next)).setCell ⟨w.heap.size + 2, 2, none⟩ (.slice ea' en' ec')).setCell ⟨w.heap.size + 2, 3, none⟩ (.slice va' vn' vc')).setCell ⟨w.heap.size + 2, 4, none⟩ (.slice ra' rn' rc')).setCell ⟨w.heap.size + 2, 5, none⟩ (.slice la' ln' lc')) = W8 at *
        refine bodyPost_ret (results_cell_tmp rfl _ W8 (w.heap.size + 2) _ _ _ _ _ rfl W0 Tryz.underlying28 rfl (by kernel_rfl) rfl) rfl ?_
        exact ⟨⟨_, 5, rfl, by rw [hS.out, if_neg (by rw [hpk]; simp)], by rw [hS.out, if_neg (by rw [hpk]; simp)]; exact PF, by rw [hS.out, if_neg (by rw [hpk]; simp)]; exact hd⟩, B8⟩
      · obtain ⟨y0, y1, y2, y3, y4, y5⟩ := X12.six'
        obtain ⟨x0, x1, x2, x3, x4, x5⟩ := D12.six'
        have f0 := D12.frozen 0
        have f1 := D12.frozen 1
        have f2 := D12.frozen 2
        have f3 := D12.frozen 3
        have f4 := D12.frozen 4
        have f5 := D12.frozen 5
        go_wp2
        obtain ⟨W0, hg0⟩ := set6 D12 (.int .i64 q.size) (.int .i64 q.next) (.slice e2a e2n e2c) (.slice v2a v2n v2c) (.slice r2a r2n r2c) (.slice a10 (l2n + sn) cap10)
        have PF := (PT12.tyP hg0 (rowTy_blk D12)).mono (show w.heap.size ≤ w1.heap.size by omega)
        have B8 := hBw12.grown hg0 hBw12.size (fun j e => by cases e; omega)
        generalize ((((((w12.setCell ⟨w.heap.size + 2, 0, none⟩ (.int .i64 q.size)).setCell ⟨w.heap.size + 2, 1, none⟩ (.int .i64 q.next)).setCell ⟨w.heap.size + 2, 2, none⟩ (.slice e2a e2n e2c)).setCell ⟨w.heap.size + 2, 3, none⟩ (.slice v2a v2n v2c)).setCell ⟨w.heap.size + 2, 4, none⟩ (.slice r2a r2n r2c)).setCell ⟨w.heap.size + 2, 5, none⟩ (.slice a10 (l2n + sn) cap10)) = W8 at *
        refine bodyPost_ret (results_cell_tmp rfl _ W8 (w.heap.size + 2) _ _ _ _ _ rfl W0 Tryz.underlying28 rfl (by kernel_rfl) rfl) rfl ?_
        exact ⟨⟨_, 0, rfl, by rw [hS.out, if_pos hpk], by rw [hS.out, if_pos hpk]; exact PF, by rw [hS.out, if_pos hpk]; exact hdl⟩, B8⟩
end Go.Proofs.YtnjefbkhibfgmaaGreat
