/- How the laws' arguments, as they are read, lie in memory: pools. -/
import Derived.Test.YtllbojcjdpelnaaGreatKt
import Derived.Test.YtllbojcjdpelnaaGreatKa
import Derived.Lib.SmallJoins
namespace Go.Proofs.YtllbojcjdpelnaaGreat
open Go.ChangeShapes Go.WideShapes Go.ChangeAt Go.RowKit Go.Deep

theorem slice_cell {H : Type} {enc : TypeId × Value → H} {P : Program} {w : World} {spare : Nat → Bool} {held : Bool} {t e : TypeId} {fuel : Nat} {x : Value} {y : DataW H × List MemPlace} (ht : P.underlying t = some (.slice e)) (h : DataW.trod enc P w 0 spare held fuel t [x] = some y) :
    ∃ a n cap, x = .slice a n cap ∧ n ≤ cap ∧ cap ≤ 9223372036854775807 := by
  rcases open_slice ht h with ⟨hcs, _⟩ | ⟨ad, len, cap', m, n', D, Pl, hcs, _, hl, hm, _⟩
  · exact ⟨none, 0, 0, by simpa using hcs, by omega, by omega⟩
  · exact ⟨some ad, len, cap', by simpa using hcs, hl, by unfold maxLen at hm; omega⟩

theorem cellsI : Tryz.prog.cellsOf 158 = 2 := by kernel_rfl
theorem cellsV : Tryz.prog.cellsOf 107 = 4 := by kernel_rfl
theorem cP : Tryz.prog.cellsOf 156 = 1 := by kernel_rfl
theorem cI : Tryz.prog.cellsOf 105 = 1 := by kernel_rfl
theorem c4b : Tryz.prog.cellsOf 4 = 1 := by kernel_rfl

def ItOpen (w : World) (ad : Addr) (i : Nat) (q : It) : Prop :=
  ∃ pa pn pc, w.cell? (ad.add (i * 2)) = some (.string q.nm) ∧ w.cell? (ad.add (i * 2 + 1)) = some (.slice pa pn pc) ∧ PtsAt w pa pn q.ps ∧ pn ≤ pc ∧ pc ≤ 9223372036854775807 ∧ q.nm.size ≤ 9223372036854775807

set_option maxRecDepth 100000 in
/-- An argument that is a list of items. -/
theorem open_its {H : Type} {enc : TypeId × Value → H} {w : World} {spare : Nat → Bool} {held : Bool} {a : Option Addr} {n cap : Nat} {d : DataW H} {p : List MemPlace}
    (h : DataW.Trod enc Tryz.prog w 0 spare held 105 (.slice a n cap) d p) : n ≤ 9223372036854775807 ∧ ∃ l : List It, ItsAt 0 w a n l ∧ BigI l := by
  obtain ⟨fuel, hf⟩ := h
  rcases open_slice Tryz.underlying105 hf with ⟨hcs, _⟩ | ⟨ad, len, cap', m, n', D, Pl, hcs, _, hl, hm, hmm, _, hel⟩
  · simp [Value.cells] at hcs
    obtain ⟨rfl, rfl, rfl⟩ := hcs
    exact ⟨Nat.zero_le _, [], ⟨rfl, fun i x hx => by simp at hx⟩, fun x hx => by simp at hx⟩
  · simp [Value.cells] at hcs
    obtain ⟨rfl, rfl, rfl⟩ := hcs
    have hle : n ≤ m := by rw [hmm]; split <;> omega
    refine ⟨by unfold maxLen at hm; omega, ?_⟩
    have hone : ∀ i, i < n → ∃ q : It, ItOpen w ad i q := by
      intro i hi
      obtain ⟨cs', h1, h2⟩ := hel i (by omega)
      rw [cellsI] at h1
      obtain ⟨_, hlen, hcell⟩ := World.cells?_some h1
      obtain ⟨y0, y1, _, _, _, t0, t1⟩ := trod_struct2 Tryz.underlying158 h2
      obtain ⟨z0, e0, _, hz⟩ := DataW.trod_string Tryz.underlying9 t0
      match cs', hlen with
      | [x0, x1], _ =>
        simp [c9, cP] at e0 t1
        subst e0
        obtain ⟨pa, pn, pc, rfl, hp1, hp2⟩ := slice_cell Tryz.underlying156 t1
        obtain ⟨_, l, hl'⟩ := open_pts (d := y1.1) (p := y1.2) ⟨_, t1⟩
        have q0 := hcell 0 (by omega)
        have q1 := hcell 1 (by omega)
        rw [Addr.add_add] at q0 q1
        exact ⟨⟨z0, l⟩, pa, pn, pc, q0, q1, hl', hp1, hp2, by unfold maxLen at hz; exact hz⟩
    have hinh : Inhabited It := ⟨⟨.empty, []⟩⟩
    obtain ⟨L, hL⟩ := choose_lt (α := It) (p := fun i q => ItOpen w ad i q) hone
    refine ⟨(List.range n).map L, ⟨by simp, fun i x hx => ?_⟩, fun x hx => ?_⟩
    · have hi : i < n := by have := (List.getElem?_eq_some_iff.1 hx).1; simpa using this
      simp [hi] at hx
      subst hx
      obtain ⟨_, _, _, h00, _⟩ := hL 0 (by omega)
      obtain ⟨b, o, rfl⟩ := spotless h00 (by omega)
      obtain ⟨pa, pn, pc, c0, c1, r1, r2, r3, _⟩ := hL i hi
      rw [Addr.add_lit] at c0 c1
      exact ⟨b, o, pa, pn, pc, rfl, c0, by rw [Nat.add_assoc]; exact c1, r1, ⟨r2, r3, fun h0 => by omega⟩, Nat.zero_le _, fun _ _ => Nat.zero_le _, sf_zero, sf_zero⟩
    · obtain ⟨i, hi, rfl⟩ := List.mem_map.1 hx
      obtain ⟨pa, pn, pc, c0, c1, r1, r2, r3, r4⟩ := hL i (by simpa using hi)
      exact ⟨r4, by rw [r1.len]; omega⟩

def VoOpen (w : World) (ad : Addr) (i : Nat) (q : Vo) : Prop :=
  ∃ pa pn pc, w.cell? (ad.add (i * 4)) = some (.int .i64 q.id) ∧ w.cell? (ad.add (i * 4 + 1)) = some (.string q.nm) ∧ w.cell? (ad.add (i * 4 + 2)) = some (.bool q.fx) ∧ w.cell? (ad.add (i * 4 + 3)) = some (.slice pa pn pc) ∧ ItsAt 0 w pa pn q.its ∧ pn ≤ pc ∧ pc ≤ 9223372036854775807 ∧ q.nm.size ≤ 9223372036854775807 ∧ BigI q.its

set_option maxRecDepth 100000 in
/-- An argument that is a list of volumes. -/
theorem open_vs {H : Type} {enc : TypeId × Value → H} {w : World} {spare : Nat → Bool} {held : Bool} {a : Option Addr} {n cap : Nat} {d : DataW H} {p : List MemPlace}
    (h : DataW.Trod enc Tryz.prog w 0 spare held 23 (.slice a n cap) d p) : n ≤ 9223372036854775807 ∧ ∃ l : List Vo, VsAt 0 w a n l ∧ BigV l := by
  obtain ⟨fuel, hf⟩ := h
  rcases open_slice Tryz.underlying23 hf with ⟨hcs, _⟩ | ⟨ad, len, cap', m, n', D, Pl, hcs, _, hl, hm, hmm, _, hel⟩
  · simp [Value.cells] at hcs
    obtain ⟨rfl, rfl, rfl⟩ := hcs
    exact ⟨Nat.zero_le _, [], ⟨rfl, fun i x hx => by simp at hx⟩, fun x hx => by simp at hx⟩
  · simp [Value.cells] at hcs
    obtain ⟨rfl, rfl, rfl⟩ := hcs
    have hle : n ≤ m := by rw [hmm]; split <;> omega
    refine ⟨by unfold maxLen at hm; omega, ?_⟩
    have hone : ∀ i, i < n → ∃ q : Vo, VoOpen w ad i q := by
      intro i hi
      obtain ⟨cs', h1, h2⟩ := hel i (by omega)
      rw [cellsV] at h1
      obtain ⟨_, hlen, hcell⟩ := World.cells?_some h1
      obtain ⟨y0, y1, y2, y3, _, _, _, t0, t1, t2, t3⟩ := Go.Joins.trod_struct4 Tryz.underlying107 h2
      obtain ⟨z0, e0, _, _⟩ := DataW.trod_int Tryz.underlying2 t0
      obtain ⟨z1, e1, _, hz⟩ := DataW.trod_string Tryz.underlying9 t1
      obtain ⟨z2, e2, _⟩ := DataW.trod_bool Tryz.underlying4 t2
      match cs', hlen with
      | [x0, x1, x2, x3], _ =>
        simp [c2, c9, cI, c4b] at e0 e1 e2 t3
        subst e0 e1 e2
        obtain ⟨pa, pn, pc, rfl, hp1, hp2⟩ := slice_cell Tryz.underlying105 t3
        obtain ⟨_, l, hl', hbl⟩ := open_its (d := y3.1) (p := y3.2) ⟨_, t3⟩
        have q0 := hcell 0 (by omega)
        have q1 := hcell 1 (by omega)
        have q2 := hcell 2 (by omega)
        have q3 := hcell 3 (by omega)
        rw [Addr.add_add] at q0 q1 q2 q3
        exact ⟨⟨z0, z1, z2, l⟩, pa, pn, pc, q0, q1, q2, q3, hl', hp1, hp2, by unfold maxLen at hz; exact hz, hbl⟩
    have hinh : Inhabited Vo := ⟨⟨0, .empty, false, []⟩⟩
    obtain ⟨L, hL⟩ := choose_lt (α := Vo) (p := fun i q => VoOpen w ad i q) hone
    refine ⟨(List.range n).map L, ⟨by simp, fun i x hx => ?_⟩, fun x hx => ?_⟩
    · have hi : i < n := by have := (List.getElem?_eq_some_iff.1 hx).1; simpa using this
      simp [hi] at hx
      subst hx
      obtain ⟨_, _, _, h00, _⟩ := hL 0 (by omega)
      obtain ⟨b, o, rfl⟩ := spotless h00 (by omega)
      obtain ⟨pa, pn, pc, c0, c1, c2, c3, r1, r2, r3, _⟩ := hL i hi
      rw [Addr.add_lit] at c0 c1 c2 c3
      exact ⟨b, o, pa, pn, pc, rfl, c0, by rw [Nat.add_assoc]; exact c1, by rw [Nat.add_assoc]; exact c2, by rw [Nat.add_assoc]; exact c3, r1, ⟨r2, r3, fun h0 => by omega⟩, Nat.zero_le _, sf_zero⟩
    · obtain ⟨i, hi, rfl⟩ := List.mem_map.1 hx
      obtain ⟨pa, pn, pc, c0, c1, c2, c3, r1, r2, r3, r4, r5⟩ := hL i (by simpa using hi)
      exact ⟨r4, by rw [r1.len]; omega, r5⟩

theorem array6 {α : Type} {cs : Array α} (h : cs.size = 6) : ∃ c0 c1 c2 c3 c4 c5, cs = #[c0, c1, c2, c3, c4, c5] := by
  obtain ⟨l⟩ := cs
  match l, h with
  | [c0, c1, c2, c3, c4, c5], _ => exact ⟨c0, c1, c2, c3, c4, c5, rfl⟩

set_option maxRecDepth 100000 in
/-- An argument that is a pool. -/
theorem open_pool {H : Type} {enc : TypeId × Value → H} {W : World} {r : Reach} {b0 : Nat} {spare : Nat → Bool} {held : Bool} {v : Value} {d : DataW H} {p : List MemPlace}
    (hv : Value.okWide Tryz.prog W r b0 26 v) (h : DataW.Trod enc Tryz.prog W 0 spare held 26 v d p) :
    ∃ q : Po, PoolAt 0 W v q ∧ BigP q := by
  have hc : Tryz.prog.cellsOf 26 = 6 := by kernel_rfl
  have hcE : Tryz.prog.cellsOf 22 = 1 := by kernel_rfl
  have hcV : Tryz.prog.cellsOf 23 = 1 := by kernel_rfl
  have hcC : Tryz.prog.cellsOf 24 = 1 := by kernel_rfl
  obtain ⟨cs, rfl, hsz⟩ := okWide_struct Tryz.underlying26 hv
  obtain ⟨c0, c1, c2', c3, c4, c5, rfl⟩ := array6 (hsz.trans hc)
  obtain ⟨fuel, hf⟩ := h
  obtain ⟨xs, n, _, _, _, hlen, hx⟩ := DataW.trod_struct Tryz.underlying26 hf
  have len6 : xs.length = 6 := hlen
  have q0 : DataW.trod enc Tryz.prog W 0 spare held n 2 [c0] = some (xs[0]'(by omega)) := by
    have := hx 0 _ rfl
    rw [List.getElem?_eq_getElem (by omega)] at this
    simpa [Value.cells, c2] using this
  have q1 : DataW.trod enc Tryz.prog W 0 spare held n 2 [c1] = some (xs[1]'(by omega)) := by
    have := hx 1 _ rfl
    rw [List.getElem?_eq_getElem (by omega)] at this
    simpa [Value.cells, c2] using this
  have q2 : DataW.trod enc Tryz.prog W 0 spare held n 22 [c2'] = some (xs[2]'(by omega)) := by
    have := hx 2 _ rfl
    rw [List.getElem?_eq_getElem (by omega)] at this
    simpa [Value.cells, hcE] using this
  have q3 : DataW.trod enc Tryz.prog W 0 spare held n 23 [c3] = some (xs[3]'(by omega)) := by
    have := hx 3 _ rfl
    rw [List.getElem?_eq_getElem (by omega)] at this
    simpa [Value.cells, hcV] using this
  have q4 : DataW.trod enc Tryz.prog W 0 spare held n 24 [c4] = some (xs[4]'(by omega)) := by
    have := hx 4 _ rfl
    rw [List.getElem?_eq_getElem (by omega)] at this
    simpa [Value.cells, hcC] using this
  have q5 : DataW.trod enc Tryz.prog W 0 spare held n 24 [c5] = some (xs[5]'(by omega)) := by
    have := hx 5 _ rfl
    rw [List.getElem?_eq_getElem (by omega)] at this
    simpa [Value.cells, hcC] using this
  obtain ⟨n0, e0, _, _⟩ := DataW.trod_int Tryz.underlying2 q0
  obtain ⟨n1, e1, _, _⟩ := DataW.trod_int Tryz.underlying2 q1
  simp at e0 e1
  subst e0 e1
  obtain ⟨ea, en, ec, rfl, k1, k1'⟩ := slice_cell Tryz.underlying22 q2
  obtain ⟨va, vn, vc, rfl, k2, k2'⟩ := slice_cell Tryz.underlying23 q3
  obtain ⟨ra, rn, rc, rfl, k3, k3'⟩ := slice_cell Tryz.underlying24 q4
  obtain ⟨la, ln, lc, rfl, k4, k4'⟩ := slice_cell Tryz.underlying24 q5
  obtain ⟨_, ex, h1, s1⟩ := open_exs (d := (xs[2]'(by omega)).1) (p := (xs[2]'(by omega)).2) ⟨_, q2⟩
  obtain ⟨_, vs, h2, s2⟩ := open_vs (d := (xs[3]'(by omega)).1) (p := (xs[3]'(by omega)).2) ⟨_, q3⟩
  obtain ⟨_, rf, h3, s3⟩ := open_cts (d := (xs[4]'(by omega)).1) (p := (xs[4]'(by omega)).2) ⟨_, q4⟩
  obtain ⟨_, lt, h4, s4⟩ := open_cts (d := (xs[5]'(by omega)).1) (p := (xs[5]'(by omega)).2) ⟨_, q5⟩
  unfold maxLen at s1 s3 s4
  refine ⟨⟨n0, n1, ex, vs, rf, lt⟩, ⟨ea, en, ec, va, vn, vc, ra, rn, rc, la, ln, lc, rfl, ⟨h1, ⟨k1, k1', fun h0 => by omega⟩, sf_zero⟩, ⟨h2, k2, k2', fun h0 => by omega⟩, ⟨h3, ⟨k3, k3', fun h0 => by omega⟩, sf_zero⟩, h4, ⟨k4, k4', fun h0 => by omega⟩, sf_zero⟩, ?_⟩
  exact ⟨by show ex.length ≤ _; rw [h1.len]; omega, fun e he => by have := s1 e he; omega, by show vs.length ≤ _; rw [h2.len]; omega, s2, by show rf.length ≤ _; rw [h3.len]; omega, fun e he => by have := s3 e he; omega, by show lt.length ≤ _; rw [h4.len]; omega, fun e he => by have := s4 e he; omega⟩
end Go.Proofs.YtllbojcjdpelnaaGreat
