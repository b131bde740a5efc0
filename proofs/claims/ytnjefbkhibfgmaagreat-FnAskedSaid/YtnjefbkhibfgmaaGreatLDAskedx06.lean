/- The gaps of the model: l1Gaps, GapsOf. -/
import Derived.Test.YtnjefbkhibfgmaaGreatProg
import Derived.Test.YtnjefbkhibfgmaaGreatLDAskedx04
import Derived.Test.YtnjefbkhibfgmaaGreatLDAskedx05
namespace Go.Proofs.YtnjefbkhibfgmaaGreat
open Go.RowKit Go.BigFrame
theorem ics_one : ∀ (l : List Int), ∀ u ∈ l.flatMap ics, u.oneCell' = true := by
  intro l u hu
  obtain ⟨x, _, hx⟩ := List.mem_flatMap.1 hu
  simp at hx
  subst hx
  rfl
theorem sl_newI' (w : World) (x : Int) (t : TypeId) (b : Nat) (hb : b = w.heap.size) : SlAt ics 1 (w.alloc (.cells #[.int .i64 x] t)) (some ⟨b, 0, none⟩) 1 [x] := by
  subst hb
  refine ⟨rfl, fun i y hy => ⟨w.heap.size, 0, rfl, fun j v hv => ?_⟩⟩
  have hi : i = 0 := by have := (List.getElem?_eq_some_iff.1 hy).1; simp at this; exact this
  subst hi
  simp at hy
  subst hy
  match j, hv with
  | 0, hv => obtain rfl := Option.some.inj hv; simp
  | j + 1, hv => simp at hv
theorem own_ne' {a : Option Addr} {n cap x B : Nat} (h : ∀ ad, a = some ad → B ≤ ad.block) (hx : x < B) : some x ≠ Value.ownBlock (.slice a n cap) := by
  cases a with
  | none => simp [Value.ownBlock]
  | some ad => have := h ad rfl; simp [Value.ownBlock]; omega
def gl (size : Int) : Int → List Ex → List Int
  | next, [] => [size + 1 - next]
  | next, e :: r => (e.a - next) :: gl size (e.a + e.d.size) r
def glA (size : Int) (l : List Ex) : Nat → List Int × Int
  | 0 => ([], 1)
  | k + 1 => match l[k]? with
    | none => glA size l k
    | some e => ((glA size l k).1 ++ [e.a - (glA size l k).2], e.a + e.d.size)
theorem glA_succ {size : Int} {l : List Ex} {k : Nat} {p : Ex} (h : l[k]? = some p) : glA size l (k + 1) = ((glA size l k).1 ++ [p.a - (glA size l k).2], p.a + p.d.size) := by simp [glA, h]
theorem glA_gl {size : Int} {l : List Ex} : ∀ k, k ≤ l.length → gl size 1 l = (glA size l k).1 ++ gl size (glA size l k).2 (l.drop k)
  | 0, _ => by simp [glA]
  | k + 1, h => by
    have hk : l[k]? = some l[k] := by simp [show k < l.length by omega]
    rw [glA_gl k (by omega), drop_at hk, glA_succ hk]
    simp [gl]
theorem glA_len {size : Int} {l : List Ex} : ∀ k, k ≤ l.length → (glA size l k).1.length = k
  | 0, _ => rfl
  | k + 1, h => by
    have hk : l[k]? = some l[k] := by simp [show k < l.length by omega]
    rw [glA_succ hk]
    simp [glA_len (size := size) (l := l) k (by omega)]
theorem glA_bd {size : Int} {l : List Ex} (hs : size ≤ 400) : ∀ k, k ≤ l.length → xgo size 1 l = true → 1 ≤ (glA size l k).2 ∧ (glA size l k).2 ≤ 421 ∧ xgo size (glA size l k).2 (l.drop k) = true
  | 0, _, h => ⟨by simp [glA], by simp [glA], by simpa [glA] using h⟩
  | k + 1, hk', h => by
    have hk : l[k]? = some l[k] := by simp [show k < l.length by omega]
    obtain ⟨q1, q2, q3⟩ := glA_bd hs k (by omega) h
    rw [drop_at hk] at q3
    simp only [xgo, Bool.and_eq_true, decide_eq_true_eq] at q3
    obtain ⟨⟨⟨h1, h2⟩, h3⟩, h4⟩ := q3
    have h20 : l[k].d.size ≤ 20 := by simp [dataOkB] at h1; omega
    rw [glA_succ hk]
    exact ⟨by simp; omega, by simp; omega, h4⟩
set_option maxHeartbeats 2000000 in
set_option maxRecDepth 100000 in
theorem spec_l1Gaps (size : Int) (a : Option Addr) (n cap : Nat) (l : List Ex) (w : World) (h : ExsAt w a n l) (hn : n ≤ 60) (hs1 : 1 ≤ size) (hs2 : size ≤ 400) (hx : xgo size 1 l = true) :
    Calls Tryz.prog 132 #[.int .i64 size, .slice a n cap] w fun e w' => (∃ a' n' cap', e = .returned (.slice a' n' cap') ∧ ResAt ics 1 2 w' w.heap.size a' n' cap' (gl size 1 l)) ∧ Below w.heap.size w w' := by
  have hlen : Hid (l.length = n) := h.len
  obtain ⟨i0, hi, hz0, hz1, hz2⟩ := info_parts infoI
  go_enter Tryz.func132, Tryz.ntmps132
  go_wp2_with fail
  go_loopw [5, 6, 7] (fun out nx ix wr => ∃ (k : Nat) (a2 : Option Addr) (n2 cap2 : Nat), k ≤ n ∧ ix = .int .i64 k ∧ nx = .int .i64 (glA size l k).2 ∧ out = .slice a2 n2 cap2 ∧ n2 = k ∧ ResAt ics 1 2 wr w.heap.size a2 n2 cap2 (glA size l k).1 ∧ Below w.heap.size w wr) (fun _ _ ix _ => n - (intOf ix).toNat)
  case atStart => exact ⟨0, _, 0, 0, Nat.zero_le _, rfl, rfl, rfl, rfl, res_empty (Blk.new _ _ _) (Nat.le_refl _), by go_grown⟩
  case round =>
    obtain ⟨k, a2, n2, cap2, hk, rfl, rfl, rfl, rfl, R2, hB⟩ := hrel
    have hsz := hB.size
    obtain ⟨q1, q2, q3⟩ := glA_bd (k := n2) hs2 (by rw [hlen.out]; exact hk) hx
    by_cases hlt : n2 < n
    · obtain ⟨b, o, p, rfl, hp, c0, c1⟩ := exs_at (h.below hB) hlt
      have hst : Hid (glA size l (n2 + 1) = ((glA size l n2).1 ++ [p.a - (glA size l n2).2], p.a + p.d.size)) := glA_succ hp
      rw [drop_at hp] at q3
      simp only [xgo, Bool.and_eq_true, decide_eq_true_eq] at q3
      obtain ⟨⟨⟨h1, h2⟩, h3⟩, _⟩ := q3
      have h20 : p.d.size ≤ 20 := by simp [dataOkB] at h1; omega
      have hlb : b < wr.heap.size := World.block_lt_of_cell? wr _ c0
      have hbw : b < w.heap.size := by
        obtain ⟨b', o', p', hbo, _, d0, _⟩ := exs_at h hlt
        obtain ⟨rfl, rfl⟩ : b = b' ∧ o = o' := by simpa using hbo
        exact World.block_lt_of_cell? w _ d0
      clear hp h1
      generalize glA size l n2 = G at *
      obtain ⟨gk, nk⟩ := G
      simp only at *
      have hk1 : (n2 : Int) < n := by omega
      have hk2 : (0 : Int) ≤ n2 := by omega
      go_wp2_with (at_builtin; refine wpList_app rfl (fun K hK => wp_app _ _ 116 rfl w.heap.size 2 i0 (.int .i64 0) 8 Tryz.underlying116 hi hz0 hz1 hz2 rfl (by decide) ics_len ics_one a2 n2 cap2 gk rfl (R2.alloc _) _ 1 1 [p.a - nk] rfl (sl_newI' _ _ _ _ (by simp)) (fun ad h => (by cases h; rfl)) (fun h => (by cases h)) (n2 + 1) rfl (by unfold maxLen; omega) (by omega) (by simp; omega) (fun a3 cap3 w3 R3 hg3 => hK _ _ ?_)))
      have hB3 : Below w.heap.size w w3 := Below.grown (hB.alloc hsz _) hg3 (by simp; omega) (own_ge fun ad had => (R2.block ad had).1)
      have d0 := hg3.cell (acell (.cells #[.int .i64 (p.a - nk)] 2) c0) (own_ne' (fun ad had => (R2.block ad had).1) hbw)
      have d1 := hg3.cell (acell (.cells #[.int .i64 (p.a - nk)] 2) c1) (own_ne' (fun ad had => (R2.block ad had).1) hbw)
      clear c0 c1 hK
      go_wp2_with fail
      go_quiet (fail)
      have R4 := R3.below (drewNB w3 nq)
      have hB4 := chain hB3 (drewNB w3 nq)
      go_wp2
      go_roundw
      case rel => exact ⟨n2 + 1, a3, n2 + 1, cap3, by omega, by go_num, by rw [hst.out], rfl, rfl, by rw [hst.out]; exact R4, hB4⟩
      case measure => simp [intOf]; omega
    · obtain rfl : n2 = n := by omega
      have hst : Hid (gl size 1 l = (glA size l n2).1 ++ [size + 1 - (glA size l n2).2]) := by
        show _ = _
        rw [glA_gl n2 (by rw [hlen.out]; omega), List.drop_of_length_le (Nat.le_of_eq hlen.out), gl]
      clear q3
      generalize glA size l n2 = G at *
      obtain ⟨gk, nk⟩ := G
      simp only at *
      go_wp2_with (at_builtin; refine wpList_app rfl (fun K hK => wp_app _ _ 116 rfl w.heap.size 2 i0 (.int .i64 0) 8 Tryz.underlying116 hi hz0 hz1 hz2 rfl (by decide) ics_len ics_one a2 n2 cap2 gk rfl (R2.alloc _) _ 1 1 [size + 1 - nk] rfl (sl_newI' _ _ _ _ (by simp)) (fun ad h => (by cases h; rfl)) (fun h => (by cases h)) (n2 + 1) rfl (by unfold maxLen; omega) (by omega) (by simp; omega) (fun a3 cap3 w3 R3 hg3 => hK _ _ ?_)))
      have hB3 : Below w.heap.size w w3 := Below.grown (hB.alloc hsz _) hg3 (by simp; omega) (own_ge fun ad had => (R2.block ad had).1)
      go_returns
      exact ⟨⟨a3, n2 + 1, cap3, rfl, by rw [hst.out]; exact R3⟩, hB3⟩
theorem gl_len {size : Int} : ∀ {L : List Ex} {next : Int}, (gl size next L).length = L.length + 1
  | [], _ => rfl
  | e :: r, next => by simp [gl, gl_len (L := r)]
end Go.Proofs.YtnjefbkhibfgmaaGreat
