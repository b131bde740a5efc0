/- RoomOf of the program and of the model. -/
import Derived.Test.YtbmkedickkpjjaaGa
import Derived.Test.YtbmkedickkpjjaaXb
import Derived.RangeFuncFrom
namespace Go.Proofs.Ytbmkedickkpjjaa
open Go.RowKit Go.Shelf

attribute [local go_sem] Oper.semAt_some

def sumG : List (Int × Int) → Int
  | [] => 0
  | x :: r => x.2 + sumG r
/-- All of it, as the program adds it up. -/
def sumW (l : List (Int × Int)) : Int := l.foldl (fun s x => wrap64 (s + x.2)) 0
theorem sumW_snoc (l : List (Int × Int)) (x : Int × Int) : sumW (l ++ [x]) = wrap64 (sumW l + x.2) := by simp [sumW]
def sumD : List Ex → Int
  | [] => 0
  | e :: r => e.d.size + sumD r

theorem foldW : ∀ (l : List (Int × Int)) (s : Int), (∀ x ∈ l, 0 ≤ x.2) → 0 ≤ s → s + sumG l ≤ 1000 → l.foldl (fun s x => wrap64 (s + x.2)) s = s + sumG l
  | [], s, _, _, _ => by simp [sumG]
  | x :: r, s, h, h0, h1 => by
    have hx := h x (by simp)
    have hr : ∀ y ∈ r, 0 ≤ y.2 := fun y hy => h y (by simp [hy])
    have hsum : ∀ (r : List (Int × Int)), (∀ y ∈ r, 0 ≤ y.2) → 0 ≤ sumG r := by
      intro r
      induction r with
      | nil => intro _; simp [sumG]
      | cons y t ih => intro hy; have := ih (fun z hz => hy z (by simp [hz])); have := hy y (by simp); simp only [sumG]; omega
    have h2 := hsum r hr
    simp only [sumG] at h1
    rw [List.foldl_cons, show wrap64 (s + x.2) = s + x.2 by unfold wrap64; omega, foldW r (s + x.2) hr (by omega) (by omega)]
    simp only [sumG]; omega

theorem ggo_facts {size : Int} : ∀ {L : List Ex} {next : Int}, xgo size next L = true → next ≤ size + 1 → (∀ x ∈ ggo size next L, 1 ≤ x.2) ∧ sumG (ggo size next L) = size + 1 - next - sumD L
  | [], next, _, hn => by
    rw [ggo]
    split
    · simp [sumG, sumD]; omega
    · simp [sumG, sumD]; omega
  | e :: r, next, h, hn => by
    simp only [xgo, Bool.and_eq_true, decide_eq_true_eq] at h
    obtain ⟨⟨⟨h1, h2⟩, h3⟩, h4⟩ := h
    obtain ⟨q1, q2⟩ := ggo_facts h4 (by omega)
    rw [ggo]
    split
    · refine ⟨fun x hx => ?_, ?_⟩
      · rcases List.mem_append.1 hx with hx | hx
        · simp at hx; subst hx; simp; omega
        · exact q1 x hx
      · simp only [List.singleton_append, sumG, q2, sumD]; omega
    · refine ⟨fun x hx => q1 x (by simpa using hx), ?_⟩
      simp only [List.nil_append, q2, sumD]; omega

theorem sumD_nonneg : ∀ l : List Ex, 0 ≤ sumD l
  | [] => by simp [sumD]
  | e :: r => by have := sumD_nonneg r; simp only [sumD]; omega

def roomV (size : Int) (l : List Ex) : Int := if spaceOkB size l = true then size - sumD l else -1

theorem ok_parts {size : Int} {l : List Ex} (h : spaceOkB size l = true) : 1 ≤ size ∧ size ≤ 400 ∧ l.length ≤ 60 ∧ xgo size 1 l = true := by
  simp only [spaceOkB, Bool.and_eq_true, decide_eq_true_eq] at h
  exact ⟨h.1.1.1, h.1.1.2, h.1.2, h.2⟩

theorem sumW_room {size : Int} {l : List Ex} (h : spaceOkB size l = true) : sumW (ggo size 1 l) = size - sumD l := by
  obtain ⟨h1, h2, _, h4⟩ := ok_parts h
  obtain ⟨q1, q2⟩ := ggo_facts h4 (by omega)
  have := sumD_nonneg l
  unfold sumW
  rw [foldW _ 0 (fun x hx => by have := q1 x hx; omega) (by omega) (by omega), q2]; omega

set_option maxRecDepth 100000 in
set_option maxHeartbeats 2000000 in
theorem impl_RoomOf_in (size : Int) (a : Option Addr) (n cap : Nat) (l : List Ex) (w : World) (h : ExsAt w a n l) (hstr : Strs l) (hn : n ≤ 4194304) (hl : ∀ ad, 0 < n → a = some ad → ad.block < w.heap.size) :
    CallsIn Fence.wide 5 Try.prog 42 #[.int .i64 size, .slice a n cap] w fun e W' => e = .returned (.int .i64 (roomV size l)) ∧ Below w.heap.size w W' := by
  refine callsIn_of_wp_marks Try.func42 rfl trivial ?_ rfl
  simp only [Try.ntmps42, List.size_toArray, List.length_cons, List.length_nil, Nat.reduceAdd, Nat.reduceSub, Array.replicate_succ, Array.replicate_zero, List.push_toArray, List.append_toArray, List.nil_append, List.cons_append]
  have f41 : Fence.wide.fn 41 := trivial
  have f114 : Fence.wide.fn 114 := trivial
  cases hok : spaceOkB size l
  · have hf : roomV size l = -1 := by simp [roomV, hok]
    rw [hf]
    gi_wp2_with (gi_at_call 41; refine (callsIn_wide.2 (impl_SpaceOk size a n cap l _ h hstr hn)).mono ?_; rintro e w1 ⟨rfl, hB1⟩; rw [hok])
    exact ⟨_, results_tmp rfl _ _ _, rfl, hB1⟩
  · have hf : roomV size l = sumW (ggo size 1 l) := by rw [sumW_room hok]; simp [roomV, hok]
    rw [hf]
    gi_wp2_with (first | (gi_at_call 41; refine (callsIn_wide.2 (impl_SpaceOk size a n cap l _ h hstr hn)).mono ?_; rintro e w1 ⟨rfl, hB1⟩; rw [hok]) | (gi_at_call 114; refine (gaps_in _ size a n cap _).mono ?_; rintro e w2 ⟨rfl, rfl⟩))
    obtain ⟨hs1, hs2, hln, hxg⟩ := ok_parts hok
    have hlen := h.len
    have hz := hB1.size
    have hB0 : Below w.heap.size w (((w1.alloc (.cells #[.int .i64 0] 2)).alloc (.cells #[.int .i64 size] 2)).alloc (.cells #[.slice a n cap] 24)) := ((hB1.alloc hz _).alloc (by simp; omega) _).alloc (by simp; omega) _
    have bR : Boxed (((w1.alloc (.cells #[.int .i64 0] 2)).alloc (.cells #[.int .i64 size] 2)).alloc (.cells #[.slice a n cap] 24)) w1.heap.size 2 (.int .i64 0) := ((Boxed.new w1 2 _).alloc _).alloc _
    have bS : Boxed (((w1.alloc (.cells #[.int .i64 0] 2)).alloc (.cells #[.int .i64 size] 2)).alloc (.cells #[.slice a n cap] 24)) (w1.heap.size + 1) 2 (.int .i64 size) := by
      have := (Boxed.new (w1.alloc (.cells #[.int .i64 0] 2)) 2 (.int .i64 size)).alloc (.cells #[.slice a n cap] 24)
      simpa using this
    have bL : Boxed (((w1.alloc (.cells #[.int .i64 0] 2)).alloc (.cells #[.int .i64 size] 2)).alloc (.cells #[.slice a n cap] 24)) (w1.heap.size + 1 + 1) 24 (.slice a n cap) := by
      have := Boxed.new ((w1.alloc (.cells #[.int .i64 0] 2)).alloc (.cells #[.int .i64 size] 2)) 24 (.slice a n cap)
      simpa using this
    have hszW : (((w1.alloc (.cells #[.int .i64 0] 2)).alloc (.cells #[.int .i64 size] 2)).alloc (.cells #[.slice a n cap] 24)).heap.size = w1.heap.size + 1 + 1 + 1 := by simp
    generalize ((w1.alloc (.cells #[.int .i64 0] 2)).alloc (.cells #[.int .i64 size] 2)).alloc (.cells #[.slice a n cap] 24) = W0 at *
    refine wpIn_rangeFunc_ownF rfl (by omega) (gf := 164) (lb := #[.pointer (some ⟨w1.heap.size + 1 + 1, 0, none⟩), .pointer (some ⟨w1.heap.size + 1, 0, none⟩)]) rfl trivial (enters_of Try.func164 (by kernel_rfl) rfl)
      (gaps_stops (5 - 1) (by omega) (w1.heap.size + 1 + 1) (w1.heap.size + 1) w.heap.size size a n cap l W0 (by omega) bL.cell bS.cell ⟨h.below hB0, hl⟩ hxg hs1 hs2 (by omega)) KpG.t (KpG.b (by omega) (by omega)) (Below.refl _ _) (fun _ => rfl)
      (fun pre W => Boxed W w1.heap.size 2 (.int .i64 (sumW pre)) ∧ Below w.heap.size w W)
      (fun _ _ _ => False)
      (OwnFrom.and (Own.from (boxed_own _ _ _) _) (ownFrom_below (Nat.le_refl _) (by omega)))
      (fun _ _ _ _ _ hs _ _ => hs)
      ⟨bR, hB0⟩
      (fun x => { tmps := #[.int .i64 size, .slice a n cap, undef, undef, .int .i64 0, .pointer (some ⟨w1.heap.size, 0, none⟩), undef, .int .i64 x.2, .int .i64 size, .slice a n cap, .bool true, .bool false, .int .i64 size, .slice a n cap, .func (.func 164) #[] #[.pointer (some ⟨w1.heap.size + 1 + 1, 0, none⟩), .pointer (some ⟨w1.heap.size + 1, 0, none⟩)], .int .i64 x.1, .int .i64 x.2, undef, undef, undef, undef], defers := [] }) ?assign ?body ?done ?stop
    case assign =>
      intro l x W K hK
      gi_wp2
      exact hK
    case body =>
      rintro l pre x W ⟨hc, hB⟩ _
      have c0 := hc.cell
      have f0 := hc.frozen
      gi_wp2
      refine ⟨KeepsOthers.setCell _ _ _, ⟨(Below.refl w.heap.size W).setCell (p := ⟨w1.heap.size, 0, none⟩) hz _, fun b c hb => ?_, fun v hv => ?_⟩, by rw [sumW_snoc]; exact hc.set _, hB.setCell (p := ⟨w1.heap.size, 0, none⟩) hz _⟩
      · have hbR : b ≠ w1.heap.size := fun e => by subst e; unfold Blk at hb; rw [show W.heap[w1.heap.size]? = _ from hc] at hb; cases hb
        exact hb.grown (grownBy_setCell' W w1.heap.size _) hbR
      · exact (grownBy_setCell' W w1.heap.size _).cell hv (by simp)
    case done =>
      rintro D ys W hD rfl ⟨hc, hB⟩ hK
      have c0 := hc.cell
      gi_wp2
      refine ⟨by simp, .inl ⟨_, _, rfl, run_takeDeferred hK, ?_⟩⟩
      exact ⟨_, results_tmp rfl _ _ _, rfl, hB.trans (belowK_b (w := w) (Nat.le_refl _) W D _ _ (by omega) hK rfl rfl)⟩
    case stop =>
      rintro D c pre W _ _ h _
      exact h.elim

theorem impl_RoomOf (size : Int) (a : Option Addr) (n cap : Nat) (l : List Ex) (w : World) (h : ExsAt w a n l) (hstr : Strs l) (hn : n ≤ 4194304) (hl : ∀ ad, 0 < n → a = some ad → ad.block < w.heap.size) :
    Calls Try.prog 42 #[.int .i64 size, .slice a n cap] w fun e W' => e = .returned (.int .i64 (roomV size l)) ∧ Below w.heap.size w W' :=
  callsIn_wide.1 (impl_RoomOf_in size a n cap l w h hstr hn hl)

theorem sumD_take {l : List Ex} : ∀ {k : Nat} {p : Ex}, l[k]? = some p → sumD (l.take (k + 1)) = sumD (l.take k) + p.d.size := by
  induction l with
  | nil => intro k p h; simp at h
  | cons e r ih =>
    intro k p h
    cases k with
    | zero => simp at h; subst h; simp [sumD]
    | succ k => simp at h; have := ih h; simp only [List.take_succ_cons, sumD, this]; omega

theorem xgo_sum {size : Int} : ∀ {L : List Ex} {next : Int}, xgo size next L = true → next ≤ size + 1 → sumD L ≤ size + 1 - next
  | [], next, _, hn => by simp [sumD]; omega
  | e :: r, next, h, hn => by
    simp only [xgo, Bool.and_eq_true, decide_eq_true_eq] at h
    obtain ⟨⟨⟨h1, h2⟩, h3⟩, h4⟩ := h
    have := xgo_sum h4 (by omega)
    simp only [sumD]; omega

theorem sumD_take_le : ∀ (l : List Ex) (k : Nat), sumD (l.take k) ≤ sumD l
  | [], k => by simp
  | e :: r, 0 => by have := sumD_nonneg (e :: r); simpa [sumD] using this
  | e :: r, k + 1 => by have := sumD_take_le r k; simp only [List.take_succ_cons, sumD]; omega

set_option maxHeartbeats 1000000 in
theorem spec_RoomOf (size : Int) (a : Option Addr) (n cap : Nat) (l : List Ex) (w : World) (h : ExsAt w a n l) (hstr : Strs l) (hn : n ≤ 4194304) :
    Calls Try.prog 45 #[.int .i64 size, .slice a n cap] w fun e w' => e = .returned (.int .i64 (roomV size l)) ∧ w' = w := by
  have hlen : Hid (l.length = n) := h.len
  cases hok : spaceOkB size l
  · have hf : roomV size l = -1 := by simp [roomV, hok]
    rw [hf]
    go_enter Try.func45, Try.ntmps45
    go_wp2_with fail
    refine (spec_SpaceOk size a n cap l _ h hstr hn).mono ?_
    rintro e w1 ⟨rfl, rfl⟩
    rw [hok]
    go_wp2
    go_returns
    exact ⟨rfl, rfl⟩
  · have hf : Hid (roomV size l = size - sumD l) := by show _ = _; simp [roomV, hok]
    obtain ⟨hs1, hs2, hln, hxg⟩ := ok_parts hok
    have hsum := xgo_sum hxg (by omega)
    generalize roomV size l = R at *
    go_enter Try.func45, Try.ntmps45
    go_wp2_with fail
    refine (spec_SpaceOk size a n cap l _ h hstr hn).mono ?_
    rintro e w1 ⟨rfl, rfl⟩
    rw [hok]
    go_wp2_with fail
    go_loop [5, 6] (fun nv ix => ∃ (k : Nat), k ≤ n ∧ ix = .int .i64 k ∧ nv = .int .i64 (size - sumD (l.take k))) (fun _ ix => n - (intOf ix).toNat)
    case atStart => exact ⟨0, Nat.zero_le _, rfl, by simp [sumD]⟩
    case round =>
      obtain ⟨k, hk, rfl, rfl⟩ := hrel
      by_cases hlt : k < n
      · obtain ⟨b, o, p, rfl, hp, c0, c1⟩ := exs_at h hlt
        have hst : Hid (sumD (l.take (k + 1)) = sumD (l.take k) + p.d.size) := sumD_take hp
        have hle := sumD_take_le l k
        have hle2 := sumD_take_le l (k + 1)
        rw [hst.out] at hle2
        have hnn := sumD_nonneg (l.take k)
        clear hp
        generalize sumD (l.take k) = sk at *
        go_wp2
        go_round
        case rel => exact ⟨k + 1, by omega, by go_num, by rw [hst.out]; show Value.int IntKind.i64 _ = Value.int IntKind.i64 _; congr 1; omega⟩
        case measure => simp [intOf]; omega
      · obtain rfl : k = n := by omega
        rw [List.take_of_length_le (Nat.le_of_eq hlen.out)]
        go_wp2
        go_returns
        go_light
        exact ⟨ret_int hf.out.symm, rfl⟩
end Go.Proofs.Ytbmkedickkpjjaa
