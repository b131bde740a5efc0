/- Drawn pools. -/
import Derived.Test.YtnjefbkhibfgmaaGreatLDAskedx38
import Derived.Test.YtnjefbkhibfgmaaGreatLDAskedx40
import Derived.Test.YtnjefbkhibfgmaaGreatLDAskedx41
namespace Go.Proofs.YtnjefbkhibfgmaaGreat
open Go Go.RowKit Go.BigFrame
theorem PoolT.lowB {B k : Nat} {w w' : World} {v : Value} {p : Po} (h : PoolT B w v p) (hg : w.grownBy w' (some k)) (hk : k < B) : PoolT B w' v p := by
  obtain ⟨ea, en, ec, va, vn, vc, ra, rn, rc, la, ln, lc, rows, hv, h1, ⟨h2, h3⟩, h4, h5, h6⟩ := h
  have lo : ∀ {α : Type} {cs : α → List Value} {sz : Nat} {t : TypeId} {a : Option Addr} {n cap : Nat} {l : List α}, ResAt cs sz t w B a n cap l → ResAt cs sz t w' B a n cap l := fun R => R.grown hg (fun ad had => by have := (R.block ad had).1; omega)
  refine ⟨ea, en, ec, va, vn, vc, ra, rn, rc, la, ln, lc, rows, hv, lo h1, ⟨lo h2, ⟨h3.len, fun i r y e1 e2 => ?_⟩⟩, lo h4, lo h5, h6⟩
  obtain ⟨q1, q2, q3, rs, R, T⟩ := h3.at' i r y e1 e2
  exact ⟨q1, q2, q3, rs, lo R, T.len, fun i r y e1 e2 => ⟨(T.at' i r y e1 e2).nm, lo (T.at' i r y e1 e2).ps⟩⟩
theorem poolT_new (B : Nat) (w : World) (s n : Int) : PoolT B w (.agg #[.int .i64 s, .int .i64 n, .slice none 0 0, .slice none 0 0, .slice none 0 0, .slice none 0 0]) ⟨s, n, [], [], [], []⟩ := ⟨_, _, _, _, _, _, _, _, _, _, _, _, [], rfl, res_nil, ⟨res_nil, VolsT.nil _ _⟩, res_nil, res_nil, fun x y h => by cases h⟩
theorem done_ex (p : Po) (o : Opr) : (doneS p o).2.ex.length ≤ 60 := by
  unfold doneS
  split
  · rename_i hp
    have h60 : p.ex.length ≤ 60 := (ok_parts (pool_right hp).1).2.2.1
    unfold opS
    split
    · split
      · exact Nat.le_trans (List.length_filter_le _ _) h60
      · split
        · split
          · rename_i hq
            exact (ok_parts (pool_right hq).1).2.2.1
          · exact h60
        · exact h60
    · exact h60
  · exact Nat.zero_le _
def DimQ (p : Po) : Prop := DimP p ∧ p.ex.length ≤ 60
theorem dim_new (s n : Int) : DimP ⟨s, n, [], [], [], []⟩ := ⟨Nat.zero_le _, (fun e he => by cases he), Nat.zero_le _, (fun e he => by cases he), Nat.zero_le _, (fun e he => by cases he), Nat.zero_le _, (fun e he => by cases he)⟩
theorem PoolT.ref0 {B : Nat} {w : World} {p : Po} {ea va la : Option Addr} {en ec vn vc rn rc ln lc b : Nat} {x : Int} (h : PoolT B w (.agg #[.int .i64 p.size, .int .i64 p.next, .slice ea en ec, .slice va vn vc, .slice (some ⟨b, 0, none⟩) rn rc, .slice la ln lc]) p) (h0 : 0 < rn) (hd : DimP p) :
    ∃ q : Po, q.ex = p.ex ∧ DimP q ∧ PoolT B (w.setCell ⟨b, 3, none⟩ (.int .i64 x)) (.agg #[.int .i64 p.size, .int .i64 p.next, .slice ea en ec, .slice va vn vc, .slice (some ⟨b, 0, none⟩) rn rc, .slice la ln lc]) q := by
  obtain ⟨_, _, _, _, _, _, _, _, _, _, _, _, rows, hv, h1, ⟨h2, h3⟩, h4, h5, h6⟩ := h
  simp only [Value.agg.injEq, Array.mk.injEq, List.cons.injEq, Value.slice.injEq, and_true, true_and] at hv
  obtain ⟨⟨rfl, rfl, rfl⟩, ⟨rfl, rfl, rfl⟩, ⟨rfl, rfl, rfl⟩, ⟨rfl, rfl, rfl⟩⟩ := hv
  have hlen := h4.sl.len
  obtain ⟨c, hc⟩ : ∃ c, p.rf[0]? = some c := ⟨_, List.getElem?_eq_getElem (by omega)⟩
  have R4 := h4.set1 ccs_len hc (j := 3) (v := .int .i64 x) (x' := ⟨c.o, x⟩) (by omega) rfl
  simp only [Nat.zero_mul, Nat.zero_add] at R4
  obtain ⟨cs, hb⟩ := h4.blkAt
  have hg := gset w b 3 (.int .i64 x)
  have hrc : 0 < rc := by
    rcases h4.own with ⟨h0, _⟩ | ⟨_, _, _, h0, _⟩
    · cases h0
    · omega
  have hne : ∀ ad, la = some ad → some ad.block ≠ some b := fun ad had e => by
    injection e with e
    by_cases hl : 0 < lc
    · exact h6 _ _ rfl had hrc hl (by simp only; omega)
    · rcases h5.own with ⟨q0, _⟩ | ⟨b', q1, _, _, _, c', hc', hcs', _⟩
      · rw [q0] at had; cases had
      · rw [q1] at had; cases had
        simp only at e
        subst e
        rcases h4.own with ⟨q0, _⟩ | ⟨b2, q2, _, _, _, c2, hc2, hcs2, _⟩
        · cases q0
        · cases q2
          have : c2 = c' := by
            unfold Blk at hc2 hc'
            rw [hc2] at hc'
            injection hc' with e1
            injection e1
          rw [this, hcs'] at hcs2
          omega
  obtain ⟨z1, z2, z3, z4, z5, z6, z7, z8⟩ := hd
  refine ⟨{ p with rf := p.rf.set 0 ⟨c.o, x⟩ }, rfl, ⟨z1, z2, z3, z4, by simpa using z5, ?_, z7, z8⟩, _, _, _, _, _, _, _, _, _, _, _, _, rows, rfl, h1.ty hg (rowTy_blk hb) (by decide), ⟨h2.ty hg (rowTy_blk hb) (by decide), h3.ty hg (rowTy_blk hb) (by decide) (by decide)⟩, R4, h5.off hg hne, h6⟩
  intro d hd
  rcases List.mem_or_eq_of_mem_set hd with hd | rfl
  · exact z6 d hd
  · exact z6 c (List.mem_of_getElem? hc)
theorem wp_region_heldN {P : Program} {ops : Array Oper} {Q : Exit → Act → World → Prop} {S : World → Prop} {id : Nat} {a : Act} {w : World} (n : Nat) (hm : P.follows .mixedOrders = true) (hn : ops.size = n)
    (h : wpAnyH P .any ops Q S n (Array.replicate n false) a w.drew) : (Code.region id ops true).wp P Q a w := by
  subst hn
  exact wp_region_held hm h
theorem twoL {P : Program} {Q : Exit → Act → World → Prop} {md : Region.Mode} {S : World → Prop} {l : List Oper} {i j : Nat} {o o' : Oper} {fuel : Nat} {listed : Array Bool} {a : Act} {w : World} (hr : Region.ready md l.toArray listed = [i, j]) (hi : l[i]? = some o) (hj : l[j]? = some o')
    (h : ∀ K' : Act → World → Prop, Shut (∀ a w, S w → (S w → wpAnyH P md l.toArray Q S fuel (listed.setIfInBounds i true) a w) → K' a w) → if Region.wanted o (yielded l.toArray a.tmps) = true then Oper.wp P o a w K' Q else K' (a.put o.dst undef) w)
    (h' : ∀ K' : Act → World → Prop, Shut (∀ a w, S w → (S w → wpAnyH P md l.toArray Q S fuel (listed.setIfInBounds j true) a w) → K' a w) → if Region.wanted o' (yielded l.toArray a.tmps) = true then Oper.wp P o' a w K' Q else K' (a.put o'.dst undef) w) :
    wpAnyH P md l.toArray Q S (fuel + 1) listed a w :=
  wpAnyH_ready hr (by simp) (AllReadyH.cons (by simpa using hi) h (AllReadyH.cons (by simpa using hj) h' AllReadyH.nil))
set_option maxHeartbeats 4000000 in
set_option maxRecDepth 100000 in
theorem spec_pool (B : Nat) (most : Int) (hm0 : 0 ≤ most) (hm : most ≤ 1000) (w : World) (h : Rd w B) :
    Calls Tryz.prog 27 #[.pointer (some ⟨B, 0, none⟩), .int .i64 most] w fun e w' => (∃ v p, e = .returned v ∧ PoolT w.heap.size w' v p ∧ DimQ p) ∧ Rd w' B ∧ w.grownBy w' (some B) := by
  have hlt := h.lt
  go_enter Tryz.func27, Tryz.ntmps27
  go_wp2_with fail
  refine (spec_belowN B 100 _ (h.below (by go_grown)) (by omega) (by omega)).mono ?_
  rintro e w1 ⟨⟨x, rfl, hx⟩, hR1, hg1⟩
  have D1 : Blk w1 w.heap.size #[.int .i64 0, .int .i64 0, .slice none 0 0, .slice none 0 0, .slice none 0 0, .slice none 0 0] 28 := (Blk.new w _ _).grown hg1 (by omega)
  have hG1 : w.grownBy w1 (some B) := grown_trans (grown_below (grown_refl w B) (by go_grown)) hg1
  clear hg1
  have hnew : newB (60 + (x : Int)) = true := by simp [newB]; omega
  go_wp2_with fail
  refine (spec_PoolNew (60 + (x : Int)) _).mono ?_
  rintro e w2 ⟨rfl, hB2⟩
  rw [hnew, if_pos rfl]
  unfold poolV
  have D2 := D1.below hB2
  have hG2 := grown_below hG1 hB2
  have hR2 := hR1.below hB2
  have hs2 := D2.lt
  clear D1 hG1 hR1 hB2 hnew
  have hAl : Below w2.heap.size w2 (w2.alloc (.cells #[.int .i64 (60 + (x : Int)), .int .i64 1, .slice none 0 0, .slice none 0 0, .slice none 0 0, .slice none 0 0] 28)) := (Below.refl _ _).alloc (Nat.le_refl _) _
  have P3 := Blk.new w2 #[.int .i64 (60 + (x : Int)), .int .i64 1, .slice none 0 0, .slice none 0 0, .slice none 0 0, .slice none 0 0] 28
  go_wp2_with fail
  have D3 := D2.below hAl
  have hG3 := grown_below hG2 hAl
  have hR3 := hR2.below hAl
  obtain ⟨pb, hpb⟩ : ∃ pb, w2.heap.size = pb := ⟨_, rfl⟩
  rw [hpb] at hs2 P3
  generalize w2.alloc (.cells #[.int .i64 (60 + (x : Int)), .int .i64 1, .slice none 0 0, .slice none 0 0, .slice none 0 0, .slice none 0 0] 28) = w3 at *
  rw [hpb]
  clear hAl D2 hG2 hR2 hpb
  refine (spec_Done w.heap.size (by omega) _ ⟨60 + (x : Int), 1, [], [], [], []⟩ ⟨1, ⟨#[117]⟩, ⟨#[]⟩, ⟨#[]⟩, ⟨#[]⟩, 0, 0, 0, ⟨#[]⟩⟩ w3 (poolT_new _ _ _ _).at' (dim_new _ _) ⟨by decide, by decide, by decide, by decide, by decide⟩).mono ?_
  rintro e w4 ⟨⟨v', c, rfl, _, PT, hdn⟩, hB4⟩
  obtain ⟨p, hp⟩ : ∃ p, (doneS ⟨60 + (x : Int), 1, [], [], [], []⟩ ⟨1, ⟨#[117]⟩, ⟨#[]⟩, ⟨#[]⟩, ⟨#[]⟩, 0, 0, 0, ⟨#[]⟩⟩).2 = p := ⟨_, rfl⟩
  have hdq : DimQ p := by rw [← hp]; exact ⟨hdn, done_ex _ _⟩
  rw [hp] at PT hdn
  clear hp hdn
  have PT4 := PT.mono (show w.heap.size ≤ w3.heap.size by have := D3.lt; omega)
  obtain ⟨ea, en, ec, va, vn, vc, ra, rn, rc, la, ln, lc, rows, rfl, hjunk⟩ := PT
  clear hjunk
  have D4 := D3.below hB4
  have P4 := P3.below hB4
  have hG4 := grown_below hG3 hB4
  have hR4 := hR3.below hB4
  clear D3 P3 hG3 hR3 hB4
  obtain ⟨x0, x1, x2, x3, x4, x5⟩ := P4.six'
  have f0 := P4.frozen 0
  have f1 := P4.frozen 1
  have f2 := P4.frozen 2
  have f3 := P4.frozen 3
  have f4 := P4.frozen 4
  have f5 := P4.frozen 5
  go_wp2_with fail
  obtain ⟨P5, hg5⟩ := set6 P4 (.int .i64 p.size) (.int .i64 p.next) (.slice ea en ec) (.slice va vn vc) (.slice ra rn rc) (.slice la ln lc)
  have D5 := D4.grown hg5 (by omega)
  have PT5 := PT4.tyP hg5 (rowTy_blk P4)
  have hG5 := grown_row hG4 hg5 (fun k e => by cases e; omega)
  have hR5 := hR4.grown hg5 (by omega)
  generalize ((((((w4.setCell ⟨pb, 0, none⟩ (.int .i64 p.size)).setCell ⟨pb, 1, none⟩ (.int .i64 p.next)).setCell ⟨pb, 2, none⟩ (.slice ea en ec)).setCell ⟨pb, 3, none⟩ (.slice va vn vc)).setCell ⟨pb, 4, none⟩ (.slice ra rn rc)).setCell ⟨pb, 5, none⟩ (.slice la ln lc)) = w5 at *
  clear x0 x1 x2 x3 x4 x5 f0 f1 f2 f3 f4 f5
  clear D4 P4 PT4 hG4 hR4 hg5
  refine (spec_belowN B (most + 1) _ hR5 (by omega) (by omega)).mono ?_
  rintro e w6 ⟨⟨k0, rfl, hk0⟩, hR6, hg6⟩
  have D6 := D5.grown hg6 (by omega)
  have P6 := P5.grown hg6 (by omega)
  have PT6 := PT5.lowB hg6 hlt
  have hG6 := grown_trans hG5 hg6
  clear D5 P5 PT5 hG5 hR5 hg6
  go_wp2_with fail
  go_loopw [7] (fun ix wr => ∃ (k : Nat) (p : Po) (ea : Option Addr) (en ec : Nat) (va : Option Addr) (vn vc : Nat) (ra : Option Addr) (rn rc : Nat) (la : Option Addr) (ln lc : Nat), ix = .int .i64 k ∧ k ≤ k0 ∧ Blk wr w.heap.size #[.int .i64 0, .int .i64 0, .slice none 0 0, .slice none 0 0, .slice none 0 0, .slice none 0 0] 28 ∧ Blk wr pb #[.int .i64 p.size, .int .i64 p.next, .slice ea en ec, .slice va vn vc, .slice ra rn rc, .slice la ln lc] 28 ∧ PoolT w.heap.size wr (.agg #[.int .i64 p.size, .int .i64 p.next, .slice ea en ec, .slice va vn vc, .slice ra rn rc, .slice la ln lc]) p ∧ DimQ p ∧ Rd wr B ∧ w.grownBy wr (some B)) (fun ix _ => (intOf ix).toNat)
  case atStart => exact ⟨k0, p, ea, en, ec, va, vn, vc, ra, rn, rc, la, ln, lc, rfl, Nat.le_refl _, D6, P6, PT6, hdq, hR6, hG6⟩
  case round =>
    clear D6 P6 PT6 hdq hR6 hG6
    obtain ⟨k, p, ea, en, ec, va, vn, vc, ra, rn, rc, la, ln, lc, rfl, hk, D, P, PT, hd, hR, hG⟩ := hrel
    by_cases hpos : 0 < k
    · have hk1 : (0 : Int) < k := by omega
      obtain ⟨x0, x1, x2, x3, x4, x5⟩ := P.six'
      have f0 := P.frozen 0
      have f1 := P.frozen 1
      have f2 := P.frozen 2
      have f3 := P.frozen 3
      have f4 := P.frozen 4
      have f5 := P.frozen 5
      go_wp2_with fail
      refine wp_region_heldN (S := fun _ => True) 8 (by kernel_rfl) rfl ?_
      refine takeL (i := 1) (v := ?vq5001) rfl (by kernel_rfl) (by kernel_rfl) (by kernel_rfl) (fun _ _ _ h => h) (Or.inl ⟨by rfl, ?hyq5001⟩) trivial ?restq5001
      case hyq5001 => (intro u hu; (try dsimp only at hu); go_simp <;> with_reducible rfl)
      try simp only [Act.put, lsA, lsB, lsC]
      refine twoL (i := 0) (j := 2) (by kernel_rfl) rfl rfl (fun K hK => ?_) (fun K hK => ?_)
      · have dr0 : wr.drew.cell? ⟨pb, 0, none⟩ = some (.int .i64 p.size) := x0
        have dr1 : wr.drew.cell? ⟨pb, 1, none⟩ = some (.int .i64 p.next) := x1
        have dr2 : wr.drew.cell? ⟨pb, 2, none⟩ = some (.slice ea en ec) := x2
        have dr3 : wr.drew.cell? ⟨pb, 3, none⟩ = some (.slice va vn vc) := x3
        have dr4 : wr.drew.cell? ⟨pb, 4, none⟩ = some (.slice ra rn rc) := x4
        have dr5 : wr.drew.cell? ⟨pb, 5, none⟩ = some (.slice la ln lc) := x5
        go_simp
        refine hK.out _ _ trivial (fun hHeld => ?_)
        clear hK K
        clear dr0 dr1 dr2 dr3 dr4 dr5
        try simp only [Act.put, lsA, lsB, lsC]
        refine oneL (i := 2) (by kernel_rfl) rfl (fun K hK => ?_)
        go_simp
        refine (spec_op B _ (hR.below ((Below.refl _ _).drew))).mono ?_
        rintro e w5 ⟨⟨o, rfl, hso⟩, hR5, hg5'⟩
        have hg5 := grown_trans (grown_below (grown_refl wr B) ((Below.refl _ _).drew)) hg5'
        have P5 := P.grown hg5 (by omega)
        have D5 := D.grown hg5 (by omega)
        have PT5 := PT.lowB hg5 hlt
        have hG5 := grown_trans hG hg5
        clear x0 x1 x2 x3 x4 x5 f0 f1 f2 f3 f4 f5
        obtain ⟨x0, x1, x2, x3, x4, x5⟩ := P5.six'
        have f0 := P5.frozen 0
        have f1 := P5.frozen 1
        have f2 := P5.frozen 2
        have f3 := P5.frozen 3
        have f4 := P5.frozen 4
        have f5 := P5.frozen 5
        dsimp only
        refine hK.out _ _ trivial (fun hHeld => ?_)
        clear hK K
        try simp only [Act.put, lsA, lsB, lsC]
        refine oneL (i := 3) (by kernel_rfl) rfl (fun K hK => ?_)
        go_simp
        refine (spec_Done w.heap.size (by omega) _ p o w5 PT5.at' hd.1 hso).mono ?_
        rintro e w6 ⟨⟨v', c, rfl, _, PT6, hdn⟩, hB6⟩
        obtain ⟨q, hq⟩ : ∃ q, (doneS p o).2 = q := ⟨_, rfl⟩
        have hdq : DimQ q := by rw [← hq]; exact ⟨hdn, done_ex _ _⟩
        rw [hq] at PT6 hdn
        clear hq hdn
        replace PT6 := PT6.mono (show w.heap.size ≤ w5.heap.size by have := D5.lt; omega)
        have PT6' := PT6
        obtain ⟨ea', en', ec', va', vn', vc', ra', rn', rc', la', ln', lc', rows', rfl, _⟩ := PT6
        have P6 := P5.below hB6
        have D6 := D5.below hB6
        have hG6 := grown_below hG5 hB6
        have hR6 := hR5.below hB6
        clear x0 x1 x2 x3 x4 x5 f0 f1 f2 f3 f4 f5
        obtain ⟨x0, x1, x2, x3, x4, x5⟩ := P6.six'
        have f0 := P6.frozen 0
        have f1 := P6.frozen 1
        have f2 := P6.frozen 2
        have f3 := P6.frozen 3
        have f4 := P6.frozen 4
        have f5 := P6.frozen 5
        dsimp only
        refine hK.out _ _ trivial (fun hHeld => ?_)
        clear hK K
        try simp only [Act.put, lsA, lsB, lsC]
        refine takeL (i := 4) (v := ?vq5002) rfl (by kernel_rfl) (by kernel_rfl) (by kernel_rfl) (fun _ _ _ h => h) (Or.inl ⟨by rfl, ?hyq5002⟩) trivial ?restq5002
        case hyq5002 => (intro u hu; (try dsimp only at hu); go_simp <;> with_reducible rfl)
        try simp only [Act.put, lsA, lsB, lsC]
        refine takeL (i := 5) (v := ?vq5003) rfl (by kernel_rfl) (by kernel_rfl) (by kernel_rfl) (fun _ _ _ h => h) (Or.inl ⟨by rfl, ?hyq5003⟩) trivial ?restq5003
        case hyq5003 => (intro u hu; (try dsimp only at hu); go_simp <;> with_reducible rfl)
        try simp only [Act.put, lsA, lsB, lsC]
        refine takeL (i := 6) (v := ?vq5004) rfl (by kernel_rfl) (by kernel_rfl) (by kernel_rfl) (fun _ _ _ h => h) (Or.inl ⟨by rfl, ?hyq5004⟩) trivial ?restq5004
        case hyq5004 => (intro u hu; (try dsimp only at hu); go_simp <;> with_reducible rfl)
        try simp only [Act.put, lsA, lsB, lsC]
        refine oneL (i := 7) (by kernel_rfl) rfl (fun K hK => ?_)
        go_simp
        refine hK.out _ _ trivial (fun hHeld => ?_)
        clear hK K
        try simp only [Act.put, lsA, lsB, lsC]
        refine wpAnyH_done (by kernel_rfl) ?_ _
        obtain ⟨P7, hg7⟩ := set6 P6 (.int .i64 q.size) (.int .i64 q.next) (.slice ea' en' ec') (.slice va' vn' vc') (.slice ra' rn' rc') (.slice la' ln' lc')
        have D7 := D6.grown hg7 (by omega)
        have PT7 := PT6'.tyP hg7 (rowTy_blk P6)
        have hG7 := grown_row hG6 hg7 (fun k e => by cases e; omega)
        have hR7 := hR6.grown hg7 (by omega)
        generalize ((((((w6.setCell ⟨pb, 0, none⟩ (.int .i64 q.size)).setCell ⟨pb, 1, none⟩ (.int .i64 q.next)).setCell ⟨pb, 2, none⟩ (.slice ea' en' ec')).setCell ⟨pb, 3, none⟩ (.slice va' vn' vc')).setCell ⟨pb, 4, none⟩ (.slice ra' rn' rc')).setCell ⟨pb, 5, none⟩ (.slice la' ln' lc')) = w7 at *
        go_wp2
        go_roundw
        case rel => exact ⟨k - 1, q, ea', en', ec', va', vn', vc', ra', rn', rc', la', ln', lc', by go_num, by omega, D7, P7, PT7, hdq, hR7, hG7⟩
        case measure => simp [intOf]; omega
      · go_simp
        refine (spec_op B _ (hR.below ((Below.refl _ _).drew))).mono ?_
        rintro e w5 ⟨⟨o, rfl, hso⟩, hR5, hg5'⟩
        have hg5 := grown_trans (grown_below (grown_refl wr B) ((Below.refl _ _).drew)) hg5'
        have P5 := P.grown hg5 (by omega)
        have D5 := D.grown hg5 (by omega)
        have PT5 := PT.lowB hg5 hlt
        have hG5 := grown_trans hG hg5
        clear x0 x1 x2 x3 x4 x5 f0 f1 f2 f3 f4 f5
        obtain ⟨x0, x1, x2, x3, x4, x5⟩ := P5.six'
        have f0 := P5.frozen 0
        have f1 := P5.frozen 1
        have f2 := P5.frozen 2
        have f3 := P5.frozen 3
        have f4 := P5.frozen 4
        have f5 := P5.frozen 5
        dsimp only
        refine hK.out _ _ trivial (fun hHeld => ?_)
        clear hK K
        try simp only [Act.put, lsA, lsB, lsC]
        refine oneL (i := 0) (by kernel_rfl) rfl (fun K hK => ?_)
        go_simp
        refine hK.out _ _ trivial (fun hHeld => ?_)
        clear hK K
        try simp only [Act.put, lsA, lsB, lsC]
        refine oneL (i := 3) (by kernel_rfl) rfl (fun K hK => ?_)
        go_simp
        refine (spec_Done w.heap.size (by omega) _ p o w5 PT5.at' hd.1 hso).mono ?_
        rintro e w6 ⟨⟨v', c, rfl, _, PT6, hdn⟩, hB6⟩
        obtain ⟨q, hq⟩ : ∃ q, (doneS p o).2 = q := ⟨_, rfl⟩
        have hdq : DimQ q := by rw [← hq]; exact ⟨hdn, done_ex _ _⟩
        rw [hq] at PT6 hdn
        clear hq hdn
        replace PT6 := PT6.mono (show w.heap.size ≤ w5.heap.size by have := D5.lt; omega)
        have PT6' := PT6
        obtain ⟨ea', en', ec', va', vn', vc', ra', rn', rc', la', ln', lc', rows', rfl, _⟩ := PT6
        have P6 := P5.below hB6
        have D6 := D5.below hB6
        have hG6 := grown_below hG5 hB6
        have hR6 := hR5.below hB6
        clear x0 x1 x2 x3 x4 x5 f0 f1 f2 f3 f4 f5
        obtain ⟨x0, x1, x2, x3, x4, x5⟩ := P6.six'
        have f0 := P6.frozen 0
        have f1 := P6.frozen 1
        have f2 := P6.frozen 2
        have f3 := P6.frozen 3
        have f4 := P6.frozen 4
        have f5 := P6.frozen 5
        dsimp only
        refine hK.out _ _ trivial (fun hHeld => ?_)
        clear hK K
        try simp only [Act.put, lsA, lsB, lsC]
        refine takeL (i := 4) (v := ?vq5005) rfl (by kernel_rfl) (by kernel_rfl) (by kernel_rfl) (fun _ _ _ h => h) (Or.inl ⟨by rfl, ?hyq5005⟩) trivial ?restq5005
        case hyq5005 => (intro u hu; (try dsimp only at hu); go_simp <;> with_reducible rfl)
        try simp only [Act.put, lsA, lsB, lsC]
        refine takeL (i := 5) (v := ?vq5006) rfl (by kernel_rfl) (by kernel_rfl) (by kernel_rfl) (fun _ _ _ h => h) (Or.inl ⟨by rfl, ?hyq5006⟩) trivial ?restq5006
        case hyq5006 => (intro u hu; (try dsimp only at hu); go_simp <;> with_reducible rfl)
        try simp only [Act.put, lsA, lsB, lsC]
        refine takeL (i := 6) (v := ?vq5007) rfl (by kernel_rfl) (by kernel_rfl) (by kernel_rfl) (fun _ _ _ h => h) (Or.inl ⟨by rfl, ?hyq5007⟩) trivial ?restq5007
        case hyq5007 => (intro u hu; (try dsimp only at hu); go_simp <;> with_reducible rfl)
        try simp only [Act.put, lsA, lsB, lsC]
        refine oneL (i := 7) (by kernel_rfl) rfl (fun K hK => ?_)
        go_simp
        refine hK.out _ _ trivial (fun hHeld => ?_)
        clear hK K
        try simp only [Act.put, lsA, lsB, lsC]
        refine wpAnyH_done (by kernel_rfl) ?_ _
        obtain ⟨P7, hg7⟩ := set6 P6 (.int .i64 q.size) (.int .i64 q.next) (.slice ea' en' ec') (.slice va' vn' vc') (.slice ra' rn' rc') (.slice la' ln' lc')
        have D7 := D6.grown hg7 (by omega)
        have PT7 := PT6'.tyP hg7 (rowTy_blk P6)
        have hG7 := grown_row hG6 hg7 (fun k e => by cases e; omega)
        have hR7 := hR6.grown hg7 (by omega)
        generalize ((((((w6.setCell ⟨pb, 0, none⟩ (.int .i64 q.size)).setCell ⟨pb, 1, none⟩ (.int .i64 q.next)).setCell ⟨pb, 2, none⟩ (.slice ea' en' ec')).setCell ⟨pb, 3, none⟩ (.slice va' vn' vc')).setCell ⟨pb, 4, none⟩ (.slice ra' rn' rc')).setCell ⟨pb, 5, none⟩ (.slice la' ln' lc')) = w7 at *
        go_wp2
        go_roundw
        case rel => exact ⟨k - 1, q, ea', en', ec', va', vn', vc', ra', rn', rc', la', ln', lc', by go_num, by omega, D7, P7, PT7, hdq, hR7, hG7⟩
        case measure => simp [intOf]; omega
    · obtain rfl : k = 0 := by omega
      go_wp2_with fail
      refine (spec_belowN B 40 _ hR (by omega) (by omega)).mono ?_
      rintro e w5 ⟨⟨z, rfl, hz⟩, hR5, hg5⟩
      have P5 := P.grown hg5 (by omega)
      have D5 := D.grown hg5 (by omega)
      have PT5 := PT.lowB hg5 hlt
      have hG5 := grown_trans hG hg5
      clear P D PT hG hR hg5
      rcases (show z = 37 ∨ z = 38 ∨ z = 39 ∨ (z ≠ 37 ∧ z ≠ 38 ∧ z ≠ 39) by omega) with rfl | rfl | rfl | ⟨z1, z2, z3⟩
      · go_wp2_with fail
        refine (spec_off B 1 9 _ hR5 (by omega) (by omega) (by omega)).mono ?_
        rintro e w6 ⟨⟨y, rfl, _⟩, hR6, hg6⟩
        have P6 := P5.grown hg6 (by omega)
        have D6 := D5.grown hg6 (by omega)
        have PT6 := PT5.lowB hg6 hlt
        have hG6 := grown_trans hG5 hg6
        obtain ⟨x0, x1, x2, x3, x4, x5⟩ := P6.six'
        have f0 := P6.frozen 0
        have f1 := P6.frozen 1
        have f2 := P6.frozen 2
        have f3 := P6.frozen 3
        have f4 := P6.frozen 4
        have f5 := P6.frozen 5
        have hg7 := gset w6 pb 1 (.int .i64 y)
        have P7 : Blk (w6.setCell ⟨pb, 1, none⟩ (.int .i64 y)) pb #[.int .i64 p.size, .int .i64 y, .slice ea en ec, .slice va vn vc, .slice ra rn rc, .slice la ln lc] 28 := by simpa using P6.set 1 (.int .i64 y)
        have D7 := D6.grown hg7 (by omega)
        have PT7' := PT6.tyP hg7 (rowTy_blk P6)
        have PT7 : PoolT w.heap.size (w6.setCell ⟨pb, 1, none⟩ (.int .i64 y)) (.agg #[.int .i64 p.size, .int .i64 y, .slice ea en ec, .slice va vn vc, .slice ra rn rc, .slice la ln lc]) { p with next := y } := by
          obtain ⟨_, _, _, _, _, _, _, _, _, _, _, _, rows, hv, hrest⟩ := PT7'
          simp only [Value.agg.injEq, Array.mk.injEq, List.cons.injEq, Value.slice.injEq, and_true, true_and] at hv
          obtain ⟨⟨rfl, rfl, rfl⟩, ⟨rfl, rfl, rfl⟩, ⟨rfl, rfl, rfl⟩, ⟨rfl, rfl, rfl⟩⟩ := hv
          exact ⟨_, _, _, _, _, _, _, _, _, _, _, _, rows, rfl, hrest⟩
        have hG7 := grown_row hG6 hg7 (fun k e => by cases e; omega)
        have hR7 := hR6.grown hg7 (by omega)
        have hn1 : ¬ pb = w.heap.size := by omega
        have hn2 : ¬ w.heap.size = pb := by omega
        obtain ⟨d0, d1, d2, d3, d4, d5⟩ := D6.six'
        have g0 := D6.frozen 0
        have g1 := D6.frozen 1
        have g2 := D6.frozen 2
        have g3 := D6.frozen 3
        have g4 := D6.frozen 4
        have g5 := D6.frozen 5
        go_wp2
        obtain ⟨W0, hg0⟩ := set6 D7 (.int .i64 p.size) (.int .i64 y) (.slice ea en ec) (.slice va vn vc) (.slice ra rn rc) (.slice la ln lc)
        have PF := PT7.tyP hg0 (rowTy_blk D7)
        have hRW := hR7.grown hg0 hlt
        have hGW := grown_row hG7 hg0 (fun k e => by cases e; exact Nat.le_refl _)
        generalize (((((((w6.setCell ⟨pb, 1, none⟩ (.int .i64 y)).setCell ⟨w.heap.size, 0, none⟩ (.int .i64 p.size)).setCell ⟨w.heap.size, 1, none⟩ (.int .i64 y)).setCell ⟨w.heap.size, 2, none⟩ (.slice ea en ec)).setCell ⟨w.heap.size, 3, none⟩ (.slice va vn vc)).setCell ⟨w.heap.size, 4, none⟩ (.slice ra rn rc)).setCell ⟨w.heap.size, 5, none⟩ (.slice la ln lc)) = W8 at *
        refine bodyPost_ret (results_cell_row rfl _ W8 w.heap.size _ _ _ _ rfl W0 Tryz.underlying28 rfl (by kernel_rfl)) rfl ?_
        exact ⟨⟨_, { p with next := y }, rfl, PF, hd⟩, hRW, hGW⟩
      · by_cases hrn : 0 < rn
        · have hrn1 : (0 : Int) < rn := by omega
          obtain ⟨rb, rfl⟩ : ∃ rb, ra = some ⟨rb, 0, none⟩ := by
            obtain ⟨_, _, _, _, _, _, _, _, _, _, _, _, rows, hv, _, _, h4, _⟩ := PT5
            simp only [Value.agg.injEq, Array.mk.injEq, List.cons.injEq, Value.slice.injEq, and_true, true_and] at hv
            obtain ⟨⟨rfl, rfl, rfl⟩, ⟨rfl, rfl, rfl⟩, ⟨rfl, rfl, rfl⟩, ⟨rfl, rfl, rfl⟩⟩ := hv
            rcases h4.own with ⟨_, h0, _⟩ | ⟨b, h0, _⟩
            · omega
            · exact ⟨b, h0⟩
          obtain ⟨x0, x1, x2, x3, x4, x5⟩ := P5.six'
          have f0 := P5.frozen 0
          have f1 := P5.frozen 1
          have f2 := P5.frozen 2
          have f3 := P5.frozen 3
          have f4 := P5.frozen 4
          have f5 := P5.frozen 5
          go_wp2_with fail
          have hS0 : (fun u => u.cell? ⟨pb, 4, none⟩ = some (.slice (some ⟨rb, 0, none⟩) rn rc)) w5.drew := x4
          refine wp_region_last (S := (fun u => u.cell? ⟨pb, 4, none⟩ = some (.slice (some ⟨rb, 0, none⟩) rn rc))) 6 (by kernel_rfl) (by kernel_rfl) ?_
          refine takeQ (i := 0) (v := ?vq5008) rfl (by kernel_rfl) (fun _ _ _ h => h) (by rfl) ?hq5008 (by assumption) ?rq5008
          case hq5008 => (intro u hu; (try dsimp only at hu); go_simp <;> with_reducible rfl)
          try simp only [Act.put, lsA, lsB, lsC]
          refine takeQ (i := 1) (v := ?vq5009) rfl (by kernel_rfl) (fun _ _ _ h => h) (by rfl) ?hq5009 (by assumption) ?rq5009
          case hq5009 => (intro u hu; (try dsimp only at hu); go_simp <;> with_reducible rfl)
          try simp only [Act.put, lsA, lsB, lsC]
          refine takeQ (i := 2) (v := ?vq5010) rfl (by kernel_rfl) (fun _ _ _ h => h) (by rfl) ?hq5010 (by assumption) ?rq5010
          case hq5010 => (intro u hu; (try dsimp only at hu); go_simp <;> with_reducible rfl)
          try simp only [Act.put, lsA, lsB, lsC]
          refine oneL (i := 3) (by kernel_rfl) rfl (fun K hK => ?_)
          go_simp
          refine (spec_off B 1 3 _ (hR5.below ((Below.refl _ _).drew)) (by omega) (by omega) (by omega)).mono ?_
          rintro e w6 ⟨⟨y, rfl, _⟩, hR6, hg6'⟩
          have hg6 := grown_trans (grown_below (grown_refl w5 B) ((Below.refl _ _).drew)) hg6'
          have P6 := P5.grown hg6 (by omega)
          have D6 := D5.grown hg6 (by omega)
          have PT6 := PT5.lowB hg6 hlt
          have hG6 := grown_trans hG5 hg6
          clear x0 x1 x2 x3 x4 x5 f0 f1 f2 f3 f4 f5
          obtain ⟨x0, x1, x2, x3, x4, x5⟩ := P6.six'
          have f0 := P6.frozen 0
          have f1 := P6.frozen 1
          have f2 := P6.frozen 2
          have f3 := P6.frozen 3
          have f4 := P6.frozen 4
          have f5 := P6.frozen 5
          dsimp only
          refine hK.out _ _ x4 (fun hHeld => ?_)
          clear hK K
          try simp only [Act.put, lsA, lsB, lsC]
          refine takeQ (i := 4) (v := ?vq5011) rfl (by kernel_rfl) (fun _ _ _ h => h) (by rfl) ?hq5011 (by assumption) ?rq5011
          case hq5011 => (intro u hu; (try dsimp only at hu); go_simp <;> with_reducible rfl)
          try simp only [Act.put, lsA, lsB, lsC]
          refine takeQ (i := 5) (v := ?vq5012) rfl (by kernel_rfl) (fun _ _ _ h => h) (by rfl) ?hq5012 (by assumption) ?rq5012
          case hq5012 => (intro u hu; (try dsimp only at hu); go_simp <;> with_reducible rfl)
          try simp only [Act.put, lsA, lsB, lsC]
          refine wpAnyH_done (by kernel_rfl) ?_ _
          refine lastL rfl ?_
          clear hS0 hHeld
          obtain ⟨qq, hqx, hqd, PT7⟩ := PT6.ref0 (x := y) hrn hd.1
          have hqq : DimQ qq := ⟨hqd, by rw [hqx]; exact hd.2⟩
          obtain ⟨rcs, RB⟩ : ∃ c, Blk w6 rb c 38 := by
            obtain ⟨_, _, _, _, _, _, _, _, _, _, _, _, rows, hv, _, _, h4, _⟩ := PT6
            simp only [Value.agg.injEq, Array.mk.injEq, List.cons.injEq, Value.slice.injEq, and_true, true_and] at hv
            obtain ⟨⟨rfl, rfl, rfl⟩, ⟨rfl, rfl, rfl⟩, ⟨rfl, rfl, rfl⟩, ⟨rfl, rfl, rfl⟩⟩ := hv
            exact h4.blkAt
          have hrb : w.heap.size ≤ rb := by
            obtain ⟨_, _, _, _, _, _, _, _, _, _, _, _, rows, hv, _, _, h4, _⟩ := PT6
            simp only [Value.agg.injEq, Array.mk.injEq, List.cons.injEq, Value.slice.injEq, and_true, true_and] at hv
            obtain ⟨⟨rfl, rfl, rfl⟩, ⟨rfl, rfl, rfl⟩, ⟨rfl, rfl, rfl⟩, ⟨rfl, rfl, rfl⟩⟩ := hv
            exact (h4.block _ rfl).1
          have hg7 := gset w6 rb 3 (.int .i64 y)
          have P7 := P6.ty hg7 (rowTy_blk RB) (by decide)
          have D7 := D6.ty hg7 (rowTy_blk RB) (by decide)
          have hrp : ¬ rb = pb := fun e => by subst e; exact absurd (blk_type P6 RB) (by decide)
          have hrw : ¬ rb = w.heap.size := fun e => by subst e; exact absurd (blk_type D6 RB) (by decide)
          have hrp' : ¬ pb = rb := fun e => hrp e.symm
          have hrw' : ¬ w.heap.size = rb := fun e => hrw e.symm
          have hpw : ¬ pb = w.heap.size := by omega
          have hpw' : ¬ w.heap.size = pb := by omega
          have hG7 := grown_row hG6 hg7 (fun k e => by cases e; omega)
          have hR7 := hR6.grown hg7 (by omega)
          obtain ⟨rv, hrv⟩ : ∃ rv, w6.cell? ⟨rb, 3, none⟩ = some rv := by
            obtain ⟨_, _, _, _, _, _, _, _, _, _, _, _, rows, hv, _, _, h4, _⟩ := PT6
            simp only [Value.agg.injEq, Array.mk.injEq, List.cons.injEq, Value.slice.injEq, and_true, true_and] at hv
            obtain ⟨⟨rfl, rfl, rfl⟩, ⟨rfl, rfl, rfl⟩, ⟨rfl, rfl, rfl⟩, ⟨rfl, rfl, rfl⟩⟩ := hv
            have hlen := h4.sl.len
            have hc0 := h4.cellAt (i := 0) (j := 3) (List.getElem?_eq_getElem (show 0 < p.rf.length by omega)) rfl
            exact ⟨_, by simpa using hc0⟩
          have hrf := RB.frozen 3
          obtain ⟨d0, d1, d2, d3, d4, d5⟩ := D6.six'
          have g0 := D6.frozen 0
          have g1 := D6.frozen 1
          have g2 := D6.frozen 2
          have g3 := D6.frozen 3
          have g4 := D6.frozen 4
          have g5 := D6.frozen 5
          go_wp2
          obtain ⟨W0, hg0⟩ := set6 D7 (.int .i64 p.size) (.int .i64 p.next) (.slice ea en ec) (.slice va vn vc) (.slice (some ⟨rb, 0, none⟩) rn rc) (.slice la ln lc)
          have PF := PT7.tyP hg0 (rowTy_blk D7)
          have hRW := hR7.grown hg0 hlt
          have hGW := grown_row hG7 hg0 (fun k e => by cases e; exact Nat.le_refl _)
          generalize (((((((w6.setCell ⟨rb, 3, none⟩ (.int .i64 y)).setCell ⟨w.heap.size, 0, none⟩ (.int .i64 p.size)).setCell ⟨w.heap.size, 1, none⟩ (.int .i64 p.next)).setCell ⟨w.heap.size, 2, none⟩ (.slice ea en ec)).setCell ⟨w.heap.size, 3, none⟩ (.slice va vn vc)).setCell ⟨w.heap.size, 4, none⟩ (.slice (some ⟨rb, 0, none⟩) rn rc)).setCell ⟨w.heap.size, 5, none⟩ (.slice la ln lc)) = W8 at *
          refine bodyPost_ret (results_cell_row rfl _ W8 w.heap.size _ _ _ _ rfl W0 Tryz.underlying28 rfl (by kernel_rfl)) rfl ?_
          exact ⟨⟨_, qq, rfl, PF, hqq⟩, hRW, hGW⟩
        · obtain rfl : rn = 0 := by omega
          obtain ⟨y0, y1, y2, y3, y4, y5⟩ := P5.six'
          obtain ⟨x0, x1, x2, x3, x4, x5⟩ := D5.six'
          have f0 := D5.frozen 0
          have f1 := D5.frozen 1
          have f2 := D5.frozen 2
          have f3 := D5.frozen 3
          have f4 := D5.frozen 4
          have f5 := D5.frozen 5
          go_wp2
          obtain ⟨W0, hg0⟩ := set6 D5 (.int .i64 p.size) (.int .i64 p.next) (.slice ea en ec) (.slice va vn vc) (.slice ra 0 rc) (.slice la ln lc)
          have PF := PT5.tyP hg0 (rowTy_blk D5)
          have hRW := hR5.grown hg0 hlt
          have hGW := grown_row hG5 hg0 (fun k e => by cases e; exact Nat.le_refl _)
          generalize ((((((w5.setCell ⟨w.heap.size, 0, none⟩ (.int .i64 p.size)).setCell ⟨w.heap.size, 1, none⟩ (.int .i64 p.next)).setCell ⟨w.heap.size, 2, none⟩ (.slice ea en ec)).setCell ⟨w.heap.size, 3, none⟩ (.slice va vn vc)).setCell ⟨w.heap.size, 4, none⟩ (.slice ra 0 rc)).setCell ⟨w.heap.size, 5, none⟩ (.slice la ln lc)) = W8 at *
          refine bodyPost_ret (results_cell_row rfl _ W8 w.heap.size _ _ _ _ rfl W0 Tryz.underlying28 rfl (by kernel_rfl)) rfl ?_
          exact ⟨⟨_, p, rfl, PF, hd⟩, hRW, hGW⟩
      · go_wp2_with fail
        refine (spec_off B 1 200 _ hR5 (by omega) (by omega) (by omega)).mono ?_
        rintro e w6 ⟨⟨y, rfl, _⟩, hR6, hg6⟩
        have P6 := P5.grown hg6 (by omega)
        have D6 := D5.grown hg6 (by omega)
        have PT6 := PT5.lowB hg6 hlt
        have hG6 := grown_trans hG5 hg6
        obtain ⟨x0, x1, x2, x3, x4, x5⟩ := P6.six'
        have f0 := P6.frozen 0
        have f1 := P6.frozen 1
        have f2 := P6.frozen 2
        have f3 := P6.frozen 3
        have f4 := P6.frozen 4
        have f5 := P6.frozen 5
        have hg7 := gset w6 pb 0 (.int .i64 y)
        have P7 : Blk (w6.setCell ⟨pb, 0, none⟩ (.int .i64 y)) pb #[.int .i64 y, .int .i64 p.next, .slice ea en ec, .slice va vn vc, .slice ra rn rc, .slice la ln lc] 28 := by simpa using P6.set 0 (.int .i64 y)
        have D7 := D6.grown hg7 (by omega)
        have PT7' := PT6.tyP hg7 (rowTy_blk P6)
        have PT7 : PoolT w.heap.size (w6.setCell ⟨pb, 0, none⟩ (.int .i64 y)) (.agg #[.int .i64 y, .int .i64 p.next, .slice ea en ec, .slice va vn vc, .slice ra rn rc, .slice la ln lc]) { p with size := y } := by
          obtain ⟨_, _, _, _, _, _, _, _, _, _, _, _, rows, hv, hrest⟩ := PT7'
          simp only [Value.agg.injEq, Array.mk.injEq, List.cons.injEq, Value.slice.injEq, and_true, true_and] at hv
          obtain ⟨⟨rfl, rfl, rfl⟩, ⟨rfl, rfl, rfl⟩, ⟨rfl, rfl, rfl⟩, ⟨rfl, rfl, rfl⟩⟩ := hv
          exact ⟨_, _, _, _, _, _, _, _, _, _, _, _, rows, rfl, hrest⟩
        have hG7 := grown_row hG6 hg7 (fun k e => by cases e; omega)
        have hR7 := hR6.grown hg7 (by omega)
        have hn1 : ¬ pb = w.heap.size := by omega
        have hn2 : ¬ w.heap.size = pb := by omega
        obtain ⟨d0, d1, d2, d3, d4, d5⟩ := D6.six'
        have g0 := D6.frozen 0
        have g1 := D6.frozen 1
        have g2 := D6.frozen 2
        have g3 := D6.frozen 3
        have g4 := D6.frozen 4
        have g5 := D6.frozen 5
        go_wp2
        obtain ⟨W0, hg0⟩ := set6 D7 (.int .i64 y) (.int .i64 p.next) (.slice ea en ec) (.slice va vn vc) (.slice ra rn rc) (.slice la ln lc)
        have PF := PT7.tyP hg0 (rowTy_blk D7)
        have hRW := hR7.grown hg0 hlt
        have hGW := grown_row hG7 hg0 (fun k e => by cases e; exact Nat.le_refl _)
        generalize (((((((w6.setCell ⟨pb, 0, none⟩ (.int .i64 y)).setCell ⟨w.heap.size, 0, none⟩ (.int .i64 y)).setCell ⟨w.heap.size, 1, none⟩ (.int .i64 p.next)).setCell ⟨w.heap.size, 2, none⟩ (.slice ea en ec)).setCell ⟨w.heap.size, 3, none⟩ (.slice va vn vc)).setCell ⟨w.heap.size, 4, none⟩ (.slice ra rn rc)).setCell ⟨w.heap.size, 5, none⟩ (.slice la ln lc)) = W8 at *
        refine bodyPost_ret (results_cell_row rfl _ W8 w.heap.size _ _ _ _ rfl W0 Tryz.underlying28 rfl (by kernel_rfl)) rfl ?_
        exact ⟨⟨_, { p with size := y }, rfl, PF, hd⟩, hRW, hGW⟩
      · have y1 : ¬ (z : Int) = 37 := by omega
        have y2 : ¬ (z : Int) = 38 := by omega
        have y3 : ¬ (z : Int) = 39 := by omega
        obtain ⟨c0, c1, c2, c3, c4, c5⟩ := P5.six'
        obtain ⟨x0, x1, x2, x3, x4, x5⟩ := D5.six'
        have f0 := D5.frozen 0
        have f1 := D5.frozen 1
        have f2 := D5.frozen 2
        have f3 := D5.frozen 3
        have f4 := D5.frozen 4
        have f5 := D5.frozen 5
        go_wp2
        obtain ⟨W0, hg0⟩ := set6 D5 (.int .i64 p.size) (.int .i64 p.next) (.slice ea en ec) (.slice va vn vc) (.slice ra rn rc) (.slice la ln lc)
        have PF := PT5.tyP hg0 (rowTy_blk D5)
        have hRW := hR5.grown hg0 hlt
        have hGW := grown_row hG5 hg0 (fun k e => by cases e; exact Nat.le_refl _)
        generalize ((((((w5.setCell ⟨w.heap.size, 0, none⟩ (.int .i64 p.size)).setCell ⟨w.heap.size, 1, none⟩ (.int .i64 p.next)).setCell ⟨w.heap.size, 2, none⟩ (.slice ea en ec)).setCell ⟨w.heap.size, 3, none⟩ (.slice va vn vc)).setCell ⟨w.heap.size, 4, none⟩ (.slice ra rn rc)).setCell ⟨w.heap.size, 5, none⟩ (.slice la ln lc)) = W8 at *
        refine bodyPost_ret (results_cell_row rfl _ W8 w.heap.size _ _ _ _ rfl W0 Tryz.underlying28 rfl (by kernel_rfl)) rfl ?_
        exact ⟨⟨_, p, rfl, PF, hd⟩, hRW, hGW⟩
end Go.Proofs.YtnjefbkhibfgmaaGreat
