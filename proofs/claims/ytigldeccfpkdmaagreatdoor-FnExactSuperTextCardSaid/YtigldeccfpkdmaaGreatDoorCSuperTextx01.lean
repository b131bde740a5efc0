/- The parts: partOk, goesOn, PartsOk of the program: each returns what the plain function gives, and turns nothing that was there. Plain facts on the functions over lists of parts. The parts, as the model has them, and the laws' own helpers for parts. Blocks of the call's own: what they hold, and that a store into one leaves the others. The extents: dataOk and SpaceOk of the program, l1Plain and SpaceOk of the model. -/
import Derived.Test.YtigldeccfpkdmaaGreatDoorProg
import Derived.Test.YtigldeccfpkdmaaGreatDoorCSuperTextx00
namespace Go.Proofs.YtigldeccfpkdmaaGreatDoor
open Go.RowKit
theorem impl_partOk (p : Pt) (w : World) :
    Calls Tryz.prog 259 #[.agg #[.int .i64 p.a, .int .i64 p.f, .int .i64 p.n]] w fun e w' => e = .returned (.bool (partOkB p)) ∧ Below w.heap.size w w' := by
  obtain ⟨a, f, n⟩ := p
  go_enter Tryz.func259, Tryz.ntmps259
  go_wp2
  all_goals go_returns
  all_goals go_light
  all_goals refine ⟨?_, by go_grown⟩
  all_goals simp [partOkB, *]
  all_goals try omega
theorem impl_goesOn (p q : Pt) (w : World) :
    Calls Tryz.prog 260 #[.agg #[.int .i64 p.a, .int .i64 p.f, .int .i64 p.n], .agg #[.int .i64 q.a, .int .i64 q.f, .int .i64 q.n]] w fun e w' => e = .returned (.bool (goesOnB p q)) ∧ Below w.heap.size w w' := by
  obtain ⟨a, f, n⟩ := p
  obtain ⟨b, g, m⟩ := q
  go_enter Tryz.func260, Tryz.ntmps260
  go_wp2
  all_goals go_returns
  all_goals go_light
  all_goals refine ⟨?_, by go_grown⟩
  all_goals simp_all [goesOnB]
theorem impl_PartsOk (a : Option Addr) (n cap : Nat) (l : List Pt) (w : World) (h : PtsAt w a n l) (hn : n ≤ 4194304) :
    Calls Tryz.prog 234 #[.slice a n cap] w fun e w' => e = .returned (.bool (partsOkB l)) ∧ Below w.heap.size w w' := by
  have hlen := h.len
  by_cases h16 : n ≤ 16
  · have hfin : Hid (partsOkB l = pgo none 100 l) := by show _ = _; simp [partsOkB, hlen, h16]
    have hlen' : Hid (l.length = n) := hlen
    clear hlen
    go_enter Tryz.func234, Tryz.ntmps234
    go_wp2_with fail
    go_loopw [2, 3, 4, 5, 11] (fun r left i p ix wr => ∃ (k : Nat) (lf : Int), k ≤ n ∧ ix = .int .i64 k ∧ left = .int .i64 lf ∧ 0 ≤ lf ∧ lf ≤ 100 ∧ Hid (pgo none 100 l = pgo (ahead l k) lf (l.drop k)) ∧ Below w.heap.size w wr) (fun _ _ _ _ ix _ => n - (intOf ix).toNat)
    case atStart => exact ⟨0, 100, Nat.zero_le _, rfl, rfl, by omega, by omega, rfl, Below.refl _ _⟩
    case round =>
      obtain ⟨k, lf, hk, rfl, rfl, hf0, hf1, hI, hB⟩ := hrel
      by_cases hlt : k < n
      · obtain ⟨b, o, p, rfl, hp, c0, c1, c2⟩ := pts_at (h.below hB) hlt
        have hd : Hid (l.drop k = p :: l.drop (k + 1)) := drop_at hp
        have hq : Hid (l[k]? = some p) := hp
        clear hp
        have hwr : w.heap.size ≤ wr.heap.size := hB.size
        cases hpo : partOkB p
        · go_wp2_with fail
          refine (impl_partOk p _).mono ?_
          rintro e w1 ⟨rfl, hB1⟩
          obtain ⟨x0, x1, x2, hB1', hs1⟩ := box3 hB1
          rw [hpo]
          go_wp2_with fail
          go_returns
          go_light
          refine ⟨ret_bool ?_, chain hB hB1'⟩
          rw [hfin.out, hI.out, hd.out]; cases ahead l k <;> simp [pgo, hpo]
        by_cases hle : p.n ≤ lf
        · rcases k with _ | j
          · simp only [Nat.zero_mul, Nat.add_zero] at c0 c1 c2
            go_wp2_with fail
            refine (impl_partOk p _).mono ?_
            rintro e w1 ⟨rfl, hB1⟩
            rw [hpo]
            obtain ⟨x0, x1, x2, hB1', hs1⟩ := box3 hB1
            clear hB1 c0 c1 c2
            have hp1 := partOkB_pos hpo
            go_wp2_with fail
            go_quiet (fail)
            go_wp2
            go_roundw
            case rel => exact ⟨1, lf - p.n, by omega, by go_num, by go_num, by omega, by omega, by show _ = _; rw [hI.out, hd.out, ahead_zero, ahead_succ, hq.out]; simp [pgo, hpo, hle], chain hB (chain hB1' (drewNB _ _))⟩
            case measure => simp [intOf]; omega
          · obtain ⟨b', o', q, hbo, hq', d0, d1, d2⟩ := pts_at (h.below hB) (k := j) (by omega)
            obtain ⟨rfl, rfl⟩ : b = b' ∧ o = o' := by simpa using hbo
            have ha : Hid (ahead l (j + 1) = some q) := by show _ = _; rw [ahead_succ]; exact hq'
            clear hq' hbo
            have hp1 := partOkB_pos hpo
            cases hgo : goesOnB q p
            all_goals
              go_wp2_with fail
              refine (impl_partOk p _).mono ?_
              rintro e w1 ⟨rfl, hB1⟩
              rw [hpo]
              obtain ⟨x0, x1, x2, hB1', hs1⟩ := box3 hB1
              clear hB1
              replace d0 := bcell hB1' d0
              replace d1 := bcell hB1' d1
              replace d2 := bcell hB1' d2
              clear c0 c1 c2
              have hj : (0 : Int) < (j : Int) + 1 := by omega
              have hj1 : (j : Int) < n := by omega
              have hj2 : (0 : Int) ≤ j := by omega
              have hw1 : IntKind.i64.wrap ((j : Int) + 1 - 1) = (j : Int) := by rw [IntKind.wrap_i64]; omega
              have hw2 : IntKind.i64.wrap (j : Int) = (j : Int) := by rw [IntKind.wrap_i64]; omega
              go_wp2_with fail
              go_region_held3 (fun w' => w'.cell? ⟨b, o + j * 3, none⟩ = some (.int .i64 q.a) ∧ w'.cell? ⟨b, o + j * 3 + 1, none⟩ = some (.int .i64 q.f) ∧ w'.cell? ⟨b, o + j * 3 + 2, none⟩ = some (.int .i64 q.n) ∧ w'.cell? ⟨wr.heap.size, 0, none⟩ = some (.int .i64 p.a) ∧ w'.cell? ⟨wr.heap.size, 1, none⟩ = some (.int .i64 p.f) ∧ w'.cell? ⟨wr.heap.size, 2, none⟩ = some (.int .i64 p.n)) (go_keep)
                (first | (go_at_call 260; refine (impl_goesOn q p _).mono ?_; rintro e w2 ⟨rfl, hB2⟩; have y0 := bcell hB2 d0; have y1 := bcell hB2 d1; have y2 := bcell hB2 d2; have z0 := bcell hB2 x0; have z1 := bcell hB2 x1; have z2 := bcell hB2 x2))
              go_wp2
            · go_roundw
              case rel => exact ⟨j + 2, lf - p.n, by omega, by go_num, by go_num, by omega, by omega, by show _ = _; rw [hI.out, hd.out, ha.out, ahead_succ, hq.out]; simp [pgo, hpo, hle, hgo], chain hB (chain hB1' (undrew hB2))⟩
              case measure => simp [intOf]; omega
            · go_returns
              go_light
              refine ⟨ret_bool ?_, chain hB (chain hB1' (undrew hB2))⟩
              rw [hfin.out, hI.out, hd.out, ha.out]; simp [pgo, hgo]
        · go_wp2_with fail
          refine (impl_partOk p _).mono ?_
          rintro e w1 ⟨rfl, hB1⟩
          rw [hpo]
          obtain ⟨x0, x1, x2, hB1', hs1⟩ := box3 hB1
          go_wp2
          go_returns
          go_light
          refine ⟨ret_bool ?_, chain hB hB1'⟩
          have hle' : ¬ p.n ≤ lf := by omega
          rw [hfin.out, hI.out, hd.out]; cases ahead l k <;> simp [pgo, hle']
      · obtain rfl : k = n := by omega
        go_wp2
        go_returns
        go_light
        refine ⟨ret_bool ?_, hB⟩
        rw [hfin.out, hI.out, List.drop_of_length_le (Nat.le_of_eq hlen'.out)]; cases ahead l k <;> rfl
  · go_enter Tryz.func234, Tryz.ntmps234
    go_wp2
    go_returns
    go_light
    refine ⟨ret_bool ?_, Below.refl _ _⟩
    simp [partsOkB, hlen]; omega
end Go.Proofs.YtigldeccfpkdmaaGreatDoor
namespace Go.Proofs.YtigldeccfpkdmaaGreatDoor
open Go.RowKit
/-- The model's PartsOk, its rounds. -/
def sgo : Option Pt → Int → List Pt → Bool
  | _, s, [] => decide (s ≤ 100)
  | none, s, p :: r => (partOkB p && decide (p.n ≤ 100)) && sgo (some p) (s + p.n) r
  | some q, s, p :: r => (partOkB p && decide (p.n ≤ 100)) && !goesOnB q p && sgo (some p) (s + p.n) r
theorem sgo_over (l : List Pt) : ∀ (q : Option Pt) (s : Int), 100 < s → sgo q s l = false := by
  induction l with
  | nil => intro q s h; cases q <;> simp [sgo] <;> omega
  | cons p r ih =>
    intro q s h
    cases hp : partOkB p
    · cases q <;> simp [sgo, hp]
    · have := partOkB_pos hp
      cases q <;> simp [sgo, ih _ (s + p.n) (by omega)]
theorem sgo_pgo (l : List Pt) : ∀ (q : Option Pt) (s : Int), 0 ≤ s → s ≤ 100 → sgo q s l = pgo q (100 - s) l := by
  induction l with
  | nil => intro q s h0 h1; cases q <;> simp [sgo, pgo] <;> omega
  | cons p r ih =>
    intro q s h0 h1
    cases hp : partOkB p
    · cases q <;> simp [sgo, pgo, hp]
    · have hpos := partOkB_pos hp
      by_cases hle : p.n ≤ 100 - s
      · have e := ih (some p) (s + p.n) (by omega) (by omega)
        have e2 : 100 - (s + p.n) = 100 - s - p.n := by omega
        have h100 : p.n ≤ 100 := by omega
        rw [e2] at e
        cases q <;> simp [sgo, pgo, hp, e, hle, h100]
      · have e := sgo_over r (some p) (s + p.n) (by omega)
        cases q <;> simp [sgo, pgo, e, hle]
theorem pgo_all (l : List Pt) : ∀ (q : Option Pt) (s : Int), 0 ≤ s → pgo q s l = true → (∀ p ∈ l, partOkB p = true) ∧ sumN l ≤ s := by
  induction l with
  | nil => intro q s h0 _; exact ⟨by simp, by simpa [sumN] using h0⟩
  | cons p r ih =>
    intro q s h0 h
    have hh : partOkB p = true ∧ p.n ≤ s ∧ pgo (some p) (s - p.n) r = true := by
      cases q
      · simp [pgo] at h; exact ⟨h.1.1, h.1.2, h.2⟩
      · simp [pgo] at h; exact ⟨h.1.1.1, h.1.1.2, h.2⟩
    obtain ⟨a, b⟩ := ih (some p) (s - p.n) (by omega) hh.2.2
    refine ⟨?_, by simp [sumN]; omega⟩
    intro x hx
    rcases List.mem_cons.1 hx with rfl | hx
    · exact hh.1
    · exact a x hx
theorem take_at {α : Type} {l : List α} {k : Nat} {x : α} (h : l[k]? = some x) : l.take (k + 1) = l.take k ++ [x] := by
  rw [List.take_add_one, h]; rfl
theorem partsOkB_all {l : List Pt} (h : partsOkB l = true) : l.length ≤ 16 ∧ (∀ p ∈ l, partOkB p = true) ∧ sumN l ≤ 100 := by
  simp [partsOkB] at h
  exact ⟨h.1, pgo_all l none 100 (by omega) h.2⟩
end Go.Proofs.YtigldeccfpkdmaaGreatDoor
namespace Go.Proofs.YtigldeccfpkdmaaGreatDoor
open Go.RowKit
theorem spec_l1In (n lo hi : Int) (w : World) :
    Calls Tryz.prog 54 #[.int .i64 n, .int .i64 lo, .int .i64 hi] w fun e w' => e = .returned (.bool (decide (lo ≤ n) && decide (n ≤ hi))) ∧ w' = w := by
  go_enter Tryz.func54, Tryz.ntmps54
  go_wp2
  all_goals go_returns
  all_goals go_light
  all_goals refine ⟨?_, rfl⟩
  all_goals simp_all
  all_goals try omega
theorem spec_l2Next (p q : Pt) (w : World) :
    Calls Tryz.prog 212 #[.agg #[.int .i64 p.a, .int .i64 p.f, .int .i64 p.n], .agg #[.int .i64 q.a, .int .i64 q.f, .int .i64 q.n]] w fun e w' => e = .returned (.bool (goesOnB p q)) ∧ Below w.heap.size w w' := by
  obtain ⟨a, f, n⟩ := p
  obtain ⟨b, g, m⟩ := q
  go_enter Tryz.func212, Tryz.ntmps212
  go_wp2
  all_goals go_returns
  all_goals go_light
  all_goals refine ⟨?_, by go_grown⟩
  all_goals simp_all [goesOnB]
  all_goals first | (rw [Bool.eq_iff_iff]; simp; omega) | omega
theorem spec_l2PartOk (p : Pt) (w : World) :
    Calls Tryz.prog 211 #[.agg #[.int .i64 p.a, .int .i64 p.f, .int .i64 p.n]] w fun e w' => e = .returned (.bool (partOkB p && decide (p.n ≤ 100))) ∧ Below w.heap.size w w' := by
  obtain ⟨a, f, n⟩ := p
  go_enter Tryz.func211, Tryz.ntmps211
  go_wp2
  all_goals go_returns
  all_goals go_light
  all_goals refine ⟨?_, by go_grown⟩
  all_goals simp [partOkB, *]
  all_goals try omega
  all_goals (rw [Bool.eq_iff_iff]; simp; omega)
theorem laws_toPart (p : Pt) (w : World) :
    Calls Tryz.prog 273 #[.agg #[.int .i64 p.a, .int .i64 p.f, .int .i64 p.n]] w fun e w' => e = .returned (.agg #[.int .i64 p.a, .int .i64 p.f, .int .i64 p.n]) ∧ Below w.heap.size w w' := by
  obtain ⟨a, f, n⟩ := p
  go_enter Tryz.func273, Tryz.ntmps273
  go_wp2
  go_returns
  go_light
  refine ⟨rfl, by go_grown⟩
def eqPtB (p q : Pt) : Bool := p.a == q.a && p.f == q.f && p.n == q.n
theorem laws_eqPart (p q : Pt) (w : World) :
    Calls Tryz.prog 272 #[.agg #[.int .i64 p.a, .int .i64 p.f, .int .i64 p.n], .agg #[.int .i64 q.a, .int .i64 q.f, .int .i64 q.n]] w fun e w' => e = .returned (.bool (eqPtB p q)) ∧ Below w.heap.size w w' := by
  obtain ⟨a, f, n⟩ := p
  obtain ⟨b, g, m⟩ := q
  go_enter Tryz.func272, Tryz.ntmps272
  go_wp2
  all_goals go_returns
  all_goals go_light
  all_goals refine ⟨?_, by go_grown⟩
  all_goals simp_all [eqPtB]
end Go.Proofs.YtigldeccfpkdmaaGreatDoor
namespace Go.Proofs.YtigldeccfpkdmaaGreatDoor
open Go.RowKit
/-- Block b is a row of these cells, none frozen. -/
def Blk (w : World) (b : Nat) (c : Array Value) (t : TypeId) : Prop := w.heap[b]? = some (.cells c t)
theorem Blk.lt {w : World} {b : Nat} {c : Array Value} {t : TypeId} (h : Blk w b c t) : b < w.heap.size := (Array.getElem?_eq_some_iff.1 h).1
theorem Blk.cell {w : World} {b : Nat} {c : Array Value} {t : TypeId} (h : Blk w b c t) (i : Nat) : w.cell? ⟨b, i, none⟩ = c[i]? := by
  unfold Blk at h; simp [World.cell?, h]
theorem Blk.frozen {w : World} {b : Nat} {c : Array Value} {t : TypeId} (h : Blk w b c t) (i : Nat) : w.frozen? ⟨b, i, none⟩ = false := by
  unfold Blk at h; simp [World.frozen?, h]
theorem Blk.has {w : World} {b : Nat} {c : Array Value} {t : TypeId} (h : Blk w b c t) {i : Nat} (hi : i < c.size) : ∃ v, w.cell? ⟨b, i, none⟩ = some v := ⟨c[i], by rw [h.cell]; simp [hi]⟩
theorem Blk.new (w : World) (c : Array Value) (t : TypeId) : Blk (w.alloc (.cells c t)) w.heap.size c t := heap_alloc_new w _
theorem Blk.below {w w' : World} {b : Nat} {c : Array Value} {t : TypeId} (h : Blk w b c t) (hb : Below w.heap.size w w') : Blk w' b c t := by
  unfold Blk; rw [hb.block b h.lt]; exact h
theorem Blk.grown {w w' : World} {b : Nat} {c : Array Value} {t : TypeId} {r : Nat} (h : Blk w b c t) (hg : w.grownBy w' (some r)) (hr : b ≠ r) : Blk w' b c t := by
  unfold Blk; rw [hg.block b h.lt (by simpa using hr)]; exact h
theorem Blk.set {w : World} {b : Nat} {c : Array Value} {t : TypeId} (h : Blk w b c t) (i : Nat) (v : Value) : Blk (w.setCell ⟨b, i, none⟩ v) b (c.setIfInBounds i v) t := by
  unfold Blk at *; simp [World.setCell, Array.getElem?_modify, h]
theorem Blk.alloc {w : World} {b : Nat} {c : Array Value} {t : TypeId} (h : Blk w b c t) (o : Obj) : Blk (w.alloc o) b c t := h.below ((Below.refl _ _).alloc (Nat.le_refl _) _)
theorem Blk.drew {w : World} {b : Nat} {c : Array Value} {t : TypeId} (h : Blk w b c t) : Blk w.drew b c t := h
/-- A store into block b turns no other. -/
theorem grown_set {w0 w : World} {b : Nat} (h : w0.grownBy w (some b)) (i : Nat) (v : Value) : w0.grownBy (w.setCell ⟨b, i, none⟩ v) (some b) :=
  ⟨h.os, h.tape, h.output, by simpa [World.setCell] using h.size, fun k hk hne => by
    rw [Below.heap_setCell _ _ _ _ (by simpa using hne)]; exact h.block k hk hne⟩
/-- What turns one block that is new turns nothing old. -/
theorem below_grown {w w1 w' : World} {b : Nat} (hb : Below w.heap.size w w1) (hg : w1.grownBy w' (some b)) (hn : w.heap.size ≤ b) : Below w.heap.size w w' :=
  hb.grown hg hb.size (fun k e => by cases e; exact hn)
/-- Block b, which is the call's own, begins with the list l, n elements of sz cells each. -/
structure OwnAt {α : Type} (cs : α → List Value) (sz : Nat) (t : TypeId) (w : World) (b : Nat) (n : Nat) (l : List α) : Prop where
  len : l.length = n
  blk : ∃ c, Blk w b c t ∧ n * sz ≤ c.size ∧ ∀ i x, l[i]? = some x → ∀ j v, (cs x)[j]? = some v → c[i * sz + j]? = some v
theorem OwnAt.sl {α : Type} {cs : α → List Value} {sz : Nat} {t : TypeId} {w : World} {b n : Nat} {l : List α} (h : OwnAt cs sz t w b n l) : SlAt cs sz w (some ⟨b, 0, none⟩) n l := by
  obtain ⟨c, hb, _, hc⟩ := h.blk
  exact ⟨h.len, fun i x hx => ⟨b, 0, rfl, fun j v hv => by rw [hb.cell, Nat.zero_add]; exact hc i x hx j v hv⟩⟩
theorem OwnAt.below {α : Type} {cs : α → List Value} {sz : Nat} {t : TypeId} {w w' : World} {b n : Nat} {l : List α} (h : OwnAt cs sz t w b n l) (hb : Below w.heap.size w w') : OwnAt cs sz t w' b n l := by
  obtain ⟨c, hc, r⟩ := h.blk
  exact ⟨h.len, c, hc.below hb, r⟩
theorem OwnAt.grown {α : Type} {cs : α → List Value} {sz : Nat} {t : TypeId} {w w' : World} {b n r : Nat} {l : List α} (h : OwnAt cs sz t w b n l) (hg : w.grownBy w' (some r)) (hr : b ≠ r) : OwnAt cs sz t w' b n l := by
  obtain ⟨c, hc, q⟩ := h.blk
  exact ⟨h.len, c, hc.grown hg hr, q⟩
theorem OwnAt.lt {α : Type} {cs : α → List Value} {sz : Nat} {t : TypeId} {w : World} {b n : Nat} {l : List α} (h : OwnAt cs sz t w b n l) : b < w.heap.size := by
  obtain ⟨c, hc, _⟩ := h.blk
  exact hc.lt
/-- A slice in a block other than the one that was written. -/
theorem SlAt.grown {α : Type} {cs : α → List Value} {sz : Nat} {w w' : World} {a : Option Addr} {n r : Nat} {l : List α} (h : SlAt cs sz w a n l) (hg : w.grownBy w' (some r)) (hr : ∀ ad, a = some ad → ad.block ≠ r) : SlAt cs sz w' a n l :=
  ⟨h.len, fun i x hx => by
    obtain ⟨b, o, ha, hc⟩ := h.cell i x hx
    exact ⟨b, o, ha, fun j v hv => hg.cell (hc j v hv) (by have := hr _ ha; simpa using this)⟩⟩
end Go.Proofs.YtigldeccfpkdmaaGreatDoor
namespace Go.Proofs.YtigldeccfpkdmaaGreatDoor
open Go.RowKit Go.BigFrame
def charB (c : UInt8) : Bool := decide (32 ≤ (c.toNat : Int)) && decide ((c.toNat : Int) ≤ 126)
def plainB (d : ByteArray) : Bool := d.data.toList.all charB
def dataOkB (d : ByteArray) : Bool := decide (1 ≤ d.size) && decide (d.size ≤ 20) && plainB d
theorem str_drop (s : ByteArray) (k : Nat) (h : k < s.size) : s.data.toList.drop k = s[k] :: s.data.toList.drop (k + 1) := by
  rw [List.drop_eq_getElem_cons (by simpa using h)]; rfl
set_option maxHeartbeats 400000 in
theorem impl_dataOk (d : ByteArray) (w : World) (hd : d.size ≤ 9223372036854775807) :
    Calls Tryz.prog 163 #[.string d] w fun e w' => e = .returned (.bool (dataOkB d)) ∧ w' = w := by
  by_cases h1 : 1 ≤ d.size ∧ d.size ≤ 20
  · have hfin : Hid (dataOkB d = (d.data.toList.drop 0).all charB) := by show _ = _; simp [dataOkB, plainB, h1]
    obtain ⟨h1, h20⟩ := h1
    go_enter Tryz.func163, Tryz.ntmps163
    go_wp2_with fail
    go_loop [14] (fun ix => ∃ (k : Nat), k ≤ d.size ∧ ix = .int .i64 k ∧ Hid (dataOkB d = (d.data.toList.drop k).all charB)) (fun ix => d.size - (intOf ix).toNat)
    case atStart => exact ⟨0, Nat.zero_le _, rfl, hfin⟩
    case round =>
      obtain ⟨k, hk, rfl, hI⟩ := hrel
      by_cases hlt : k < d.size
      · have hs : Hid (d.data.toList.drop k = d[k] :: d.data.toList.drop (k + 1)) := str_drop d k hlt
        cases hc : charB d[k]
        · have hc' : (d[k].toNat : Int) < 32 ∨ 126 < (d[k].toNat : Int) := by simp [charB] at hc; omega
          go_wp2
          all_goals go_returns
          all_goals go_light
          all_goals (refine ⟨ret_bool ?_, rfl⟩; rw [hI.out, hs.out]; simp [hc])
        · have hc' : 32 ≤ (d[k].toNat : Int) ∧ (d[k].toNat : Int) ≤ 126 := by simp [charB] at hc; omega
          obtain ⟨hc1, hc2⟩ := hc'
          go_wp2
          go_round
          case rel => exact ⟨k + 1, by omega, by go_num, by show _ = _; rw [hI.out, hs.out]; simp [hc]⟩
          case measure => simp [intOf]; omega
      · obtain rfl : k = d.size := by omega
        go_wp2
        go_returns
        go_light
        refine ⟨ret_bool ?_, rfl⟩
        rw [hI.out, List.drop_of_length_le (by simp)]; rfl
  · have hfin : Hid (dataOkB d = false) := by show _ = _; simp [dataOkB]; omega
    go_enter Tryz.func163, Tryz.ntmps163
    go_wp2
    all_goals go_returns
    all_goals go_light
    all_goals exact ⟨ret_bool hfin.out.symm, rfl⟩
set_option maxHeartbeats 400000 in
theorem spec_l1Plain (d : ByteArray) (w : World) (hd : d.size ≤ 9223372036854775807) :
    Calls Tryz.prog 177 #[.string d] w fun e w' => e = .returned (.bool (plainB d && decide (d.size ≤ 20))) ∧ w' = w := by
  have hfin : Hid (plainB d = (d.data.toList.drop 0).all charB) := rfl
  go_enter Tryz.func177, Tryz.ntmps177
  go_wp2_with fail
  go_loop [3] (fun ix => ∃ (k : Nat), k ≤ d.size ∧ ix = .int .i64 k ∧ Hid (plainB d = (d.data.toList.drop k).all charB)) (fun ix => d.size - (intOf ix).toNat)
  case atStart => exact ⟨0, Nat.zero_le _, rfl, hfin⟩
  case round =>
    obtain ⟨k, hk, rfl, hI⟩ := hrel
    by_cases hlt : k < d.size
    · have hs : Hid (d.data.toList.drop k = d[k] :: d.data.toList.drop (k + 1)) := str_drop d k hlt
      cases hc : charB d[k]
      · have hc' : (d[k].toNat : Int) < 32 ∨ 126 < (d[k].toNat : Int) := by simp [charB] at hc; omega
        go_wp2
        all_goals go_returns
        all_goals go_light
        all_goals (refine ⟨ret_bool ?_, rfl⟩; rw [hI.out, hs.out]; simp [hc])
      · have hc' : 32 ≤ (d[k].toNat : Int) ∧ (d[k].toNat : Int) ≤ 126 := by simp [charB] at hc; omega
        obtain ⟨hc1, hc2⟩ := hc'
        go_wp2
        go_round
        case rel => exact ⟨k + 1, by omega, by go_num, by show _ = _; rw [hI.out, hs.out]; simp [hc]⟩
        case measure => simp [intOf]; omega
    · obtain rfl : k = d.size := by omega
      go_wp2
      go_returns
      go_light
      refine ⟨ret_bool ?_, rfl⟩
      rw [hI.out, List.drop_of_length_le (by simp)]; rw [Bool.eq_iff_iff]; simp; omega
/-- SpaceOk's rounds: the size, the first byte that is free, the extents to come. -/
def xgo (size : Int) : Int → List Ex → Bool
  | _, [] => true
  | next, e :: r => dataOkB e.d && decide (next ≤ e.a) && decide (e.a ≤ size + 1 - e.d.size) && xgo size (e.a + e.d.size) r
def spaceOkB (size : Int) (l : List Ex) : Bool := decide (1 ≤ size) && decide (size ≤ 400) && decide (l.length ≤ 60) && xgo size 1 l
/-- The strings of a list are as short as strings are. -/
def Strs (l : List Ex) : Prop := ∀ e ∈ l, e.d.size ≤ 9223372036854775807
theorem Strs.at {l : List Ex} (h : Strs l) {k : Nat} {e : Ex} (he : l[k]? = some e) : e.d.size ≤ 9223372036854775807 := h e (List.mem_of_getElem? he)
set_option maxHeartbeats 1000000 in
theorem impl_SpaceOk (size : Int) (a : Option Addr) (n cap : Nat) (l : List Ex) (w : World) (h : ExsAt w a n l) (hstr : Strs l) (hn : n ≤ 4194304) :
    Calls Tryz.prog 99 #[.int .i64 size, .slice a n cap] w fun e w' => e = .returned (.bool (spaceOkB size l)) ∧ Below w.heap.size w w' := by
  have hlen : Hid (l.length = n) := h.len
  by_cases h0 : 1 ≤ size ∧ size ≤ 400 ∧ n ≤ 60
  · have hfin : Hid (spaceOkB size l = xgo size 1 (l.drop 0)) := by show _ = _; simp [spaceOkB, hlen.out, h0]
    obtain ⟨h1, h400, h60⟩ := h0
    go_enter Tryz.func99, Tryz.ntmps99
    go_wp2_with fail
    go_loopw [5, 21] (fun nx ix wr => ∃ (k : Nat) (next : Int), k ≤ n ∧ ix = .int .i64 k ∧ nx = .int .i64 next ∧ 1 ≤ next ∧ next ≤ 421 ∧ Hid (spaceOkB size l = xgo size next (l.drop k)) ∧ Below w.heap.size w wr) (fun _ ix _ => n - (intOf ix).toNat)
    case atStart => exact ⟨0, 1, Nat.zero_le _, rfl, rfl, by omega, by omega, hfin, Below.refl _ _⟩
    case round =>
      obtain ⟨k, next, hk, rfl, rfl, hx1, hx2, hI, hB⟩ := hrel
      by_cases hlt : k < n
      · obtain ⟨b, o, p, rfl, hp, c0, c1⟩ := exs_at (h.below hB) hlt
        have hd : Hid (l.drop k = p :: l.drop (k + 1)) := drop_at hp
        have hsz := hstr.at hp
        clear hp
        have hwr := hB.size
        cases hdo : dataOkB p.d
        · go_wp2_with fail
          refine (impl_dataOk p.d _ hsz).mono ?_
          rintro e w1 ⟨rfl, rfl⟩
          rw [hdo]
          go_wp2
          go_returns
          go_light
          refine ⟨ret_bool ?_, by go_grown⟩
          rw [hI.out, hd.out]; simp [xgo, hdo]
        · have hd20 : 1 ≤ p.d.size ∧ p.d.size ≤ 20 := by simp [dataOkB] at hdo; exact hdo.1
          obtain ⟨hd1, hd2⟩ := hd20
          by_cases hok : next ≤ p.a ∧ p.a ≤ size + 1 - p.d.size
          · obtain ⟨ha1, ha2⟩ := hok
            go_wp2_with fail
            refine (impl_dataOk p.d _ hsz).mono ?_
            rintro e w1 ⟨rfl, rfl⟩
            rw [hdo]
            go_wp2
            go_roundw
            case rel => exact ⟨k + 1, p.a + p.d.size, by omega, by go_num, by go_num, by omega, by omega, by show _ = _; rw [hI.out, hd.out]; simp [xgo, hdo, ha1, ha2], by go_grown⟩
            case measure => simp [intOf]; omega
          · go_wp2_with fail
            refine (impl_dataOk p.d _ hsz).mono ?_
            rintro e w1 ⟨rfl, rfl⟩
            rw [hdo]
            go_wp2
            all_goals go_returns
            all_goals go_light
            all_goals refine ⟨ret_bool ?_, by go_grown⟩
            all_goals (rw [hI.out, hd.out]; simp [xgo, hdo]; omega)
      · obtain rfl : k = n := by omega
        go_wp2
        go_returns
        go_light
        refine ⟨ret_bool ?_, hB⟩
        rw [hI.out, List.drop_of_length_le (Nat.le_of_eq hlen.out)]; rfl
  · have hfin : Hid (spaceOkB size l = false) := by show _ = _; have := hlen.out; simp [spaceOkB]; omega
    go_enter Tryz.func99, Tryz.ntmps99
    go_wp2
    all_goals go_returns
    all_goals go_light
    all_goals exact ⟨ret_bool hfin.out.symm, Below.refl _ _⟩
end Go.Proofs.YtigldeccfpkdmaaGreatDoor
