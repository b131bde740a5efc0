/- Files of a disk, by the model: names, forms, places. Files put in their place, by the model. A region that draws its order, whose last operation waits for all others. Files of a disk, by the model: what is the same, forms, lists that are right, an op that is done. -/
import Derived.Test.YtpobgjkmcmkkeaaProg
import Derived.Test.YtpobgjkmcmkkeaaG03
import Derived.Test.YtpobgjkmcmkkeaaG01
import Derived.OrdersHeld
import Derived.StillTail
namespace Go.Proofs.Ytpobgjkmcmkkeaa
open Go.RowKit Go.BigFrame

theorem spec_l8Name (d : ByteArray) (w : World) (hd : d.size ≤ 9223372036854775807) :
    Calls Try.prog 77 #[.string d] w fun e w' => e = .returned (.bool (nmB d)) ∧ w' = w := by
  by_cases h1 : 1 ≤ d.size
  · have hf : Hid (decide ((d.size : Int) ≤ 100) = nmB d) := by
      show _ = _
      have h2 : ((d.size : Int) ≤ 100) ↔ d.size ≤ 100 := by omega
      simp [nmB, h1, h2]
    go_enter Try.func77, Try.ntmps77
    go_wp2
    go_returns
    exact ⟨ret_bool hf.out, rfl⟩
  · have hf : Hid (nmB d = false) := by show _ = _; simp [nmB]; omega
    go_enter Try.func77, Try.ntmps77
    go_wp2
    go_returns
    exact ⟨ret_bool hf.out.symm, rfl⟩

theorem spec_l1InD (n low high : Int) (w : World) :
    Calls Try.prog 73 #[.int .i64 n, .int .i64 low, .int .i64 high] w fun e w' => e = .returned (.bool (decide (low ≤ n) && decide (n ≤ high))) ∧ w' = w := by
  by_cases h1 : low ≤ n <;> by_cases h2 : n ≤ high
  all_goals
    have hf : Hid ((decide (low ≤ n) && decide (n ≤ high)) = (decide (low ≤ n) && decide (n ≤ high))) := rfl
    go_enter Try.func73, Try.ntmps73
    go_wp2
    go_returns
    exact ⟨by simp [*], rfl⟩

/-- Where a file is: its place, or -1. -/
def plF (o : Option Nat) : Int := match o with | none => -1 | some i => i

theorem atF_drop {l : List Fl} {nm : ByteArray} {k : Nat} {x : Fl} (h : l[k]? = some x) : (atF (l.drop k) nm).map (· + k) = if (x.nm.toList == nm.toList) = true then some k else (atF (l.drop (k + 1)) nm).map (· + (k + 1)) := by
  unfold atF
  rw [drop_at h, List.findIdx?_cons]
  split
  · simp
  · simp only [Option.map_map]
    congr 1
    funext i
    simp only [Function.comp]
    omega

set_option maxHeartbeats 1000000 in
theorem spec_l8At (a : Option Addr) (n cap : Nat) (l : List Fl) (nm : ByteArray) (w : World) (h : FlsAt w a n l) (hn : n ≤ 4194304) :
    Calls Try.prog 61 #[.slice a n cap, .string nm] w fun e w' => e = .returned (.int .i64 (plF (atF l nm))) ∧ w' = w := by
  have hlen : Hid (l.length = n) := h.len
  go_enter Try.func61, Try.ntmps61
  go_wp2_with fail
  go_loopw [5] (fun ix wr => ∃ k : Nat, k ≤ n ∧ ix = .int .i64 k ∧ Hid (atF l nm = (atF (l.drop k) nm).map (· + k)) ∧ w = wr) (fun ix _ => n - (intOf ix).toNat)
  case atStart => exact ⟨0, Nat.zero_le _, rfl, by show _ = _; simp, rfl⟩
  case round =>
    obtain ⟨k, hk, rfl, hI, rfl⟩ := hrel
    by_cases hlt : k < n
    · obtain ⟨b, o, p, rfl, hp, c0, c1⟩ := fl_at h hlt
      have hst := atF_drop (nm := nm) hp
      clear hp
      have hk1 : (k : Int) < n := by omega
      have hk2 : (0 : Int) ≤ k := by omega
      cases heq : (p.nm.toList == nm.toList)
      · have hq : ¬ p.nm.toList = nm.toList := by simpa using heq
        rw [heq, if_neg (by simp)] at hst
        have hst' : Hid (atF l nm = (atF (l.drop (k + 1)) nm).map (· + (k + 1))) := by show _ = _; rw [hI.out]; exact hst
        clear hst hI
        go_wp2
        go_roundw
        case rel => exact ⟨k + 1, by omega, by go_num, hst', by first | trivial | rfl⟩
        case measure => simp [intOf]; omega
      · have hq : p.nm.toList = nm.toList := by simpa using heq
        rw [heq, if_pos rfl] at hst
        have hst' : Hid (atF l nm = some k) := by show _ = _; rw [hI.out]; exact hst
        clear hst hI
        go_wp2
        go_returns
        exact ⟨by rw [hst'.out]; rfl, rfl⟩
    · obtain rfl : k = n := by omega
      have hend : Hid (atF l nm = none) := by
        show _ = _
        rw [hI.out, List.drop_of_length_le (Nat.le_of_eq hlen.out)]; rfl
      clear hI
      go_wp2
      go_returns
      exact ⟨by rw [hend.out]; rfl, rfl⟩

theorem infoFl : (Try.prog.info? 82).map (fun i => (i.zero, i.size, i.bytes)) = some (some (.agg #[.string .empty, .string .empty]), 2, 32) := by kernel_rfl

theorem sl_newFl (w : World) (r : Fl) (t : TypeId) (b : Nat) (hb : b = w.heap.size) : SlAt Fl.cs 2 (w.alloc (.cells #[.string r.nm, .string r.d] t)) (some ⟨b, 0, none⟩) 1 [r] := by
  subst hb
  refine ⟨rfl, fun i y hy => ⟨_, 0, rfl, fun j v hv => ?_⟩⟩
  have hi : i = 0 := by have := (List.getElem?_eq_some_iff.1 hy).1; simp at this; exact this
  subst hi
  simp at hy
  subst hy
  rw [World.cell?_alloc_new]
  simp only [Nat.zero_mul, Nat.zero_add]
  match j, hv with
  | 0, hv => exact hv
  | 1, hv => exact hv
  | j + 2, hv => simp [Fl.cs] at hv
section
variable {o : Oper} {a : Act} {w : World} {K : Act → World → Prop} {Q : Exit → Act → World → Prop}
theorem wp_appFl (s x : Operand) (ho : o.op = .call { callee := .builtin .append, args := #[s, x], argTypes := #[24, 24] })
    (B : Nat) (da : Option Addr) (dn dcap : Nat) (ld : List Fl) (hs : a.eval s = .slice da dn dcap) (hd : ResAt Fl.cs 2 82 w B da dn dcap ld)
    (sa : Option Addr) (sn scap : Nat) (ls : List Fl) (hx : a.eval x = .slice sa sn scap) (hsrc : FlsAt w sa sn ls) (hspot : ∀ ad, sa = some ad → ad.spot = none) (hnone : sa = none → scap = 0)
    (tot : Nat) (htot : dn + sn = tot) (h63 : tot ≤ 9000000) (hbase : B ≤ w.heap.size)
    (h : ∀ a' cap' w', ResAt Fl.cs 2 82 w' B a' tot cap' (ld ++ ls) → w.grownBy w' (Value.ownBlock (.slice da dn dcap)) → K (a.put o.dst (.slice a' tot cap')) w') : o.wp Try.prog a w K Q := by
  obtain ⟨i0, hi, hz0, hz1, hz2⟩ := info_parts infoFl
  exact wp_app s x _ ho B _ i0 _ 32 Try.underlying24 hi hz0 hz1 hz2 rfl (by decide) flcs_len flcs_one da dn dcap ld hs hd sa sn scap ls hx hsrc hspot hnone tot htot (by unfold maxLen; omega) (by omega) hbase h
end

set_option maxHeartbeats 2000000 in
set_option maxRecDepth 100000 in
theorem spec_l8Cut (a : Option Addr) (n cap : Nat) (l : List Fl) (nm : ByteArray) (w : World) (h : FlsAt w a n l) (hn : n ≤ 4194304) :
    Calls Try.prog 79 #[.slice a n cap, .string nm] w fun e w' => (∃ a' n' cap', e = .returned (.slice a' n' cap') ∧ n' ≤ n ∧ ResAt Fl.cs 2 82 w' w.heap.size a' n' cap' (cutF nm l)) ∧ Below w.heap.size w w' := by
  have hlen : Hid (l.length = n) := h.len
  go_enter Try.func79, Try.ntmps79
  go_wp2_with fail
  go_loopw [5, 6] (fun out ix wr => ∃ (k : Nat) (a2 : Option Addr) (n2 cap2 : Nat), k ≤ n ∧ ix = .int .i64 k ∧ out = .slice a2 n2 cap2 ∧ n2 ≤ k ∧ ResAt Fl.cs 2 82 wr w.heap.size a2 n2 cap2 (cutF nm (l.take k)) ∧ Below w.heap.size w wr) (fun _ ix _ => n - (intOf ix).toNat)
  case atStart => exact ⟨0, _, 0, 0, Nat.zero_le _, rfl, rfl, Nat.le_refl _, res_empty (Blk.new' _ _ _ _ rfl) (Nat.le_refl _), by go_grown⟩
  case round =>
    obtain ⟨k, a2, n2, cap2, hk, rfl, rfl, hn2, R, hB⟩ := hrel
    have hsz := hB.size
    by_cases hlt : k < n
    · obtain ⟨b, o, p, rfl, hp, c0, c1⟩ := fl_at (h.below hB) hlt
      have hst : cutF nm (l.take (k + 1)) = cutF nm (l.take k) ++ (if (p.nm.toList == nm.toList) = true then [] else [p]) := by
        unfold cutF
        rw [take_at hp, List.filter_append]
        cases hq : (p.nm.toList == nm.toList) <;> simp [hq]
      clear hp
      have hk1 : (k : Int) < n := by omega
      have hk2 : (0 : Int) ≤ k := by omega
      generalize cutF nm (l.take k) = G at *
      cases heq : (p.nm.toList == nm.toList)
      · have hq : ¬ p.nm.toList = nm.toList := by simpa using heq
        rw [heq, if_neg (by simp)] at hst
        have hst' : Hid (cutF nm (l.take (k + 1)) = G ++ [p]) := hst
        clear hst
        go_wp2_with (at_builtin; refine wpList_app rfl (fun K hK => wp_appFl _ _ rfl w.heap.size a2 n2 cap2 G rfl (R.alloc _) _ 1 1 [p] rfl (sl_newFl _ p _ _ rfl) (fun ad h => (by cases h; rfl)) (fun h => (by cases h)) (n2 + 1) rfl (by omega) (by simp; omega) (fun a3 cap3 w3 R3 hg3 => hK _ _ ?_)))
        have hB3 : Below w.heap.size w w3 := Below.grown (hB.alloc hsz _) hg3 (by simp; omega) (own_ge fun ad had => (R.block ad had).1)
        go_wp2
        go_roundw
        case rel => exact ⟨k + 1, a3, n2 + 1, cap3, by omega, by go_num, rfl, by omega, by rw [hst'.out]; exact R3, hB3⟩
        case measure => simp [intOf]; omega
      · have hq : p.nm.toList = nm.toList := by simpa using heq
        rw [heq, if_pos rfl, List.append_nil] at hst
        have hst' : Hid (cutF nm (l.take (k + 1)) = G) := hst
        clear hst
        go_wp2
        go_roundw
        case rel => exact ⟨k + 1, a2, n2, cap2, by omega, by go_num, rfl, by omega, by rw [hst'.out]; exact R, hB⟩
        case measure => simp [intOf]; omega
    · obtain rfl : k = n := by omega
      rw [List.take_of_length_le (Nat.le_of_eq hlen.out)] at R
      go_wp2
      go_returns
      exact ⟨⟨a2, n2, cap2, rfl, hn2, R⟩, hB⟩
end Go.Proofs.Ytpobgjkmcmkkeaa
namespace Go.Proofs.Ytpobgjkmcmkkeaa
open Go.RowKit Go.BigFrame

theorem own_neF {a : Option Addr} {n cap x B : Nat} (h : ∀ ad, a = some ad → B ≤ ad.block) (hx : x < B) : some x ≠ Value.ownBlock (.slice a n cap) := by
  cases a with
  | none => simp [Value.ownBlock]
  | some ad => have := h ad rfl; simp [Value.ownBlock]; omega

set_option maxHeartbeats 4000000 in
set_option maxRecDepth 100000 in
theorem spec_l8Put (a : Option Addr) (n cap : Nat) (l : List Fl) (nm d : ByteArray) (w : World) (h : FlsAt w a n l) (hn : n ≤ 4194304) :
    Calls Try.prog 78 #[.slice a n cap, .string nm, .string d] w fun e w' => (∃ a' n' cap', e = .returned (.slice a' n' cap') ∧ ResAt Fl.cs 2 82 w' w.heap.size a' n' cap' (putF ⟨nm, d⟩ l)) ∧ Below w.heap.size w w' := by
  have hlen : Hid (l.length = n) := h.len
  go_enter Try.func78, Try.ntmps78
  go_wp2_with fail
  go_loopw [7, 8, 9] (fun out dn ix wr => ∃ (k : Nat) (a2 : Option Addr) (n2 cap2 : Nat), k ≤ n ∧ ix = .int .i64 k ∧ dn = .bool (putK ⟨nm, d⟩ l k).2 ∧ out = .slice a2 n2 cap2 ∧ n2 ≤ 2 * k ∧ ResAt Fl.cs 2 82 wr w.heap.size a2 n2 cap2 (putK ⟨nm, d⟩ l k).1 ∧ Below w.heap.size w wr) (fun _ _ ix _ => n - (intOf ix).toNat)
  case atStart => exact ⟨0, _, 0, 0, Nat.zero_le _, rfl, rfl, rfl, by omega, res_empty (Blk.new' _ _ _ _ rfl) (Nat.le_refl _), by go_grown⟩
  case round =>
    obtain ⟨k, a2, n2, cap2, hk, rfl, rfl, rfl, hn2, R, hB⟩ := hrel
    have hsz := hB.size
    by_cases hlt : k < n
    · obtain ⟨b, o, y, rfl, hy, c0, c1⟩ := fl_at (h.below hB) hlt
      have hbw : b < w.heap.size := by
        obtain ⟨b', o', _, hbo, _, f0, _⟩ := fl_at h hlt
        obtain ⟨rfl, rfl⟩ : b = b' ∧ o = o' := by simpa using hbo
        exact World.block_lt_of_cell? w _ f0
      have hst : Hid (putK ⟨nm, d⟩ l (k + 1) = putS ⟨nm, d⟩ (putK ⟨nm, d⟩ l k) y) := putK_succ hy
      clear hy
      have hk1 : (k : Int) < n := by omega
      have hk2 : (0 : Int) ≤ k := by omega
      generalize putK ⟨nm, d⟩ l k = G at *
      obtain ⟨gl, dd⟩ := G
      simp only at R ⊢
      cases dd
      · cases hbl : bl y.nm.toList nm.toList
        · cases heq : (y.nm.toList == nm.toList)
          · have he : Hid (putS ⟨nm, d⟩ (gl, false) y = (gl ++ [(⟨nm, d⟩ : Fl)] ++ [y], true)) := by show _ = _; simp [putS, hbl, heq]
            have hq : ¬ y.nm.toList = nm.toList := by simpa using heq
            go_wp2_with (first | (at_builtin; refine wpList_app rfl (fun K hK => wp_appFl _ _ rfl w.heap.size a3 (n2 + 1) cap3 (gl ++ [(⟨nm, d⟩ : Fl)]) rfl (R3.alloc _) _ 1 1 [y] rfl (sl_newFl _ y _ _ (by simp)) (fun ad h => (by cases h; rfl)) (fun h => (by cases h)) ((n2 + 1) + 1) rfl (by omega) (by simp; omega) (fun a4 cap4 w4 R4 hg4 => hK _ _ ?_)); have hB4 : Below w.heap.size w w4 := Below.grown (hB3.alloc hB3.size _) hg4 (by have := hB3.size; simp; omega) (own_ge fun ad had => (R3.block ad had).1); have hsz4 := hB4.size) | (at_builtin; refine wpList_app rfl (fun K hK => wp_appFl _ _ rfl w.heap.size a2 n2 cap2 gl rfl (R.alloc _) _ 1 1 [(⟨nm, d⟩ : Fl)] rfl (sl_newFl _ (⟨nm, d⟩ : Fl) _ _ (by simp)) (fun ad h => (by cases h; rfl)) (fun h => (by cases h)) (n2 + 1) rfl (by omega) (by simp; omega) (fun a3 cap3 w3 R3 hg3 => hK _ _ ?_)); have hB3 : Below w.heap.size w w3 := Below.grown (hB.alloc hsz _) hg3 (by have := hsz; simp; omega) (own_ge fun ad had => (R.block ad had).1); have hsz3 := hB3.size; have c0' := hg3.cell (a := ⟨b, o + k * 2, none⟩) (acell _ c0) (own_neF (fun ad had => (R.block ad had).1) hbw); have c1' := hg3.cell (a := ⟨b, o + k * 2 + 1, none⟩) (acell _ c1) (own_neF (fun ad had => (R.block ad had).1) hbw); have za := fun ob => acell (w := w3) ob c0'; have zb := fun ob => acell (w := w3) ob c1'))
            go_wp2
            go_roundw
            case rel => exact ⟨k + 1, a4, (n2 + 1 + 1), cap4, by omega, by go_num, by rw [hst.out, he.out], rfl, by omega, by rw [hst.out, he.out]; exact R4, hB4⟩
            case measure => simp [intOf]; omega
          · have he : Hid (putS ⟨nm, d⟩ (gl, false) y = (gl ++ [(⟨nm, d⟩ : Fl)], true)) := by show _ = _; simp [putS, hbl, heq]
            have hq : y.nm.toList = nm.toList := by simpa using heq
            have hbl2 := hbl
            rw [hq] at hbl2
            go_wp2_with (at_builtin; refine wpList_app rfl (fun K hK => wp_appFl _ _ rfl w.heap.size a2 n2 cap2 gl rfl (R.alloc _) _ 1 1 [(⟨nm, d⟩ : Fl)] rfl (sl_newFl _ (⟨nm, d⟩ : Fl) _ _ (by simp)) (fun ad h => (by cases h; rfl)) (fun h => (by cases h)) (n2 + 1) rfl (by omega) (by simp; omega) (fun a3 cap3 w3 R3 hg3 => hK _ _ ?_)); have hB3 : Below w.heap.size w w3 := Below.grown (hB.alloc hsz _) hg3 (by have := hsz; simp; omega) (own_ge fun ad had => (R.block ad had).1); have hsz3 := hB3.size; have c0' := hg3.cell (a := ⟨b, o + k * 2, none⟩) (acell _ c0) (own_neF (fun ad had => (R.block ad had).1) hbw); have c1' := hg3.cell (a := ⟨b, o + k * 2 + 1, none⟩) (acell _ c1) (own_neF (fun ad had => (R.block ad had).1) hbw))
            go_wp2
            go_roundw
            case rel => exact ⟨k + 1, a3, (n2 + 1), cap3, by omega, by go_num, by rw [hst.out, he.out], rfl, by omega, by rw [hst.out, he.out]; exact R3, hB3⟩
            case measure => simp [intOf]; omega
        · cases heq : (y.nm.toList == nm.toList)
          · have he : Hid (putS ⟨nm, d⟩ (gl, false) y = (gl ++ [y], false)) := by show _ = _; simp [putS, hbl, heq]
            have hq : ¬ y.nm.toList = nm.toList := by simpa using heq
            go_wp2_with (at_builtin; refine wpList_app rfl (fun K hK => wp_appFl _ _ rfl w.heap.size a2 n2 cap2 gl rfl (R.alloc _) _ 1 1 [y] rfl (sl_newFl _ y _ _ (by simp)) (fun ad h => (by cases h; rfl)) (fun h => (by cases h)) (n2 + 1) rfl (by omega) (by simp; omega) (fun a3 cap3 w3 R3 hg3 => hK _ _ ?_)); have hB3 : Below w.heap.size w w3 := Below.grown (hB.alloc hsz _) hg3 (by have := hsz; simp; omega) (own_ge fun ad had => (R.block ad had).1); have hsz3 := hB3.size)
            go_wp2
            go_roundw
            case rel => exact ⟨k + 1, a3, (n2 + 1), cap3, by omega, by go_num, by rw [hst.out, he.out], rfl, by omega, by rw [hst.out, he.out]; exact R3, hB3⟩
            case measure => simp [intOf]; omega
          · have he : Hid (putS ⟨nm, d⟩ (gl, false) y = (gl, false)) := by show _ = _; simp [putS, hbl, heq]
            have hq : y.nm.toList = nm.toList := by simpa using heq
            have hbl2 := hbl
            rw [hq] at hbl2
            go_wp2
            go_roundw
            case rel => exact ⟨k + 1, a2, n2, cap2, by omega, by go_num, by rw [hst.out, he.out], rfl, by omega, by rw [hst.out, he.out]; exact R, hB⟩
            case measure => simp [intOf]; omega
      · cases hbl : bl y.nm.toList nm.toList
        · cases heq : (y.nm.toList == nm.toList)
          · have he : Hid (putS ⟨nm, d⟩ (gl, true) y = (gl ++ [y], true)) := by show _ = _; simp [putS, hbl, heq]
            have hq : ¬ y.nm.toList = nm.toList := by simpa using heq
            go_wp2_with (at_builtin; refine wpList_app rfl (fun K hK => wp_appFl _ _ rfl w.heap.size a2 n2 cap2 gl rfl (R.alloc _) _ 1 1 [y] rfl (sl_newFl _ y _ _ (by simp)) (fun ad h => (by cases h; rfl)) (fun h => (by cases h)) (n2 + 1) rfl (by omega) (by simp; omega) (fun a3 cap3 w3 R3 hg3 => hK _ _ ?_)); have hB3 : Below w.heap.size w w3 := Below.grown (hB.alloc hsz _) hg3 (by have := hsz; simp; omega) (own_ge fun ad had => (R.block ad had).1); have hsz3 := hB3.size)
            go_wp2
            go_roundw
            case rel => exact ⟨k + 1, a3, (n2 + 1), cap3, by omega, by go_num, by rw [hst.out, he.out], rfl, by omega, by rw [hst.out, he.out]; exact R3, hB3⟩
            case measure => simp [intOf]; omega
          · have he : Hid (putS ⟨nm, d⟩ (gl, true) y = (gl, true)) := by show _ = _; simp [putS, hbl, heq]
            have hq : y.nm.toList = nm.toList := by simpa using heq
            have hbl2 := hbl
            rw [hq] at hbl2
            go_wp2
            go_roundw
            case rel => exact ⟨k + 1, a2, n2, cap2, by omega, by go_num, by rw [hst.out, he.out], rfl, by omega, by rw [hst.out, he.out]; exact R, hB⟩
            case measure => simp [intOf]; omega
        · cases heq : (y.nm.toList == nm.toList)
          · have he : Hid (putS ⟨nm, d⟩ (gl, true) y = (gl ++ [y], true)) := by show _ = _; simp [putS, hbl, heq]
            have hq : ¬ y.nm.toList = nm.toList := by simpa using heq
            go_wp2_with (at_builtin; refine wpList_app rfl (fun K hK => wp_appFl _ _ rfl w.heap.size a2 n2 cap2 gl rfl (R.alloc _) _ 1 1 [y] rfl (sl_newFl _ y _ _ (by simp)) (fun ad h => (by cases h; rfl)) (fun h => (by cases h)) (n2 + 1) rfl (by omega) (by simp; omega) (fun a3 cap3 w3 R3 hg3 => hK _ _ ?_)); have hB3 : Below w.heap.size w w3 := Below.grown (hB.alloc hsz _) hg3 (by have := hsz; simp; omega) (own_ge fun ad had => (R.block ad had).1); have hsz3 := hB3.size)
            go_wp2
            go_roundw
            case rel => exact ⟨k + 1, a3, (n2 + 1), cap3, by omega, by go_num, by rw [hst.out, he.out], rfl, by omega, by rw [hst.out, he.out]; exact R3, hB3⟩
            case measure => simp [intOf]; omega
          · have he : Hid (putS ⟨nm, d⟩ (gl, true) y = (gl, true)) := by show _ = _; simp [putS, hbl, heq]
            have hq : y.nm.toList = nm.toList := by simpa using heq
            have hbl2 := hbl
            rw [hq] at hbl2
            go_wp2
            go_roundw
            case rel => exact ⟨k + 1, a2, n2, cap2, by omega, by go_num, by rw [hst.out, he.out], rfl, by omega, by rw [hst.out, he.out]; exact R, hB⟩
            case measure => simp [intOf]; omega
    · obtain rfl : k = n := by omega
      have hend : Hid (putE ⟨nm, d⟩ (putK ⟨nm, d⟩ l k) = putF ⟨nm, d⟩ l) := putK_all hlen.out
      generalize putK ⟨nm, d⟩ l k = G at *
      obtain ⟨gl, dd⟩ := G
      simp only at R ⊢
      cases dd
      · have he : Hid (putF ⟨nm, d⟩ l = gl ++ [(⟨nm, d⟩ : Fl)]) := by show _ = _; rw [← hend.out]; simp [putE]
        go_wp2_with (at_builtin; refine wpList_app rfl (fun K hK => wp_appFl _ _ rfl w.heap.size a2 n2 cap2 gl rfl (R.alloc _) _ 1 1 [(⟨nm, d⟩ : Fl)] rfl (sl_newFl _ (⟨nm, d⟩ : Fl) _ _ (by simp)) (fun ad h => (by cases h; rfl)) (fun h => (by cases h)) (n2 + 1) rfl (by omega) (by simp; omega) (fun a3 cap3 w3 R3 hg3 => hK _ _ ?_)); have hB3 : Below w.heap.size w w3 := Below.grown (hB.alloc hsz _) hg3 (by have := hsz; simp; omega) (own_ge fun ad had => (R.block ad had).1); have hsz3 := hB3.size)
        go_wp2
        go_returns
        exact ⟨⟨a3, _, cap3, rfl, by rw [he.out]; exact R3⟩, hB3⟩
      · have he : Hid (putF ⟨nm, d⟩ l = gl) := by show _ = _; rw [← hend.out]; simp [putE]
        go_wp2
        go_returns
        exact ⟨⟨a2, n2, cap2, rfl, by rw [he.out]; exact R⟩, hB⟩
end Go.Proofs.Ytpobgjkmcmkkeaa
namespace Go.Proofs.Ytpobgjkmcmkkeaa
open Go Go.RowKit

section
variable {P : Program} {ops : Array Oper} {Q : Exit → Act → World → Prop} {md : Region.Mode}

/-- What is to hold behind all but the last: the last one leads on. -/
def LastQ (P : Program) (ops : Array Oper) (n : Nat) (Q : Exit → Act → World → Prop) : Exit → Act → World → Prop
  | .normal, a, w => wpOp P ops Q n (Q .normal) a w
  | e, a, w => Q e a w

theorem lets_last {n : Nat} (h : LetsOut (LastQ P ops n Q)) : LetsOut Q := by
  obtain ⟨a, w, h⟩ := h
  exact ⟨a, w, h⟩

theorem wpOp_last {n i : Nat} {K : Act → World → Prop} {a : Act} {w : World} (h : wpOp P ops (LastQ P ops n Q) i K a w) : wpOp P ops Q i K a w := by
  unfold wpOp at *
  split
  · rename_i h0; simp only [h0] at h; exact h
  · rename_i o h0
    simp only [h0] at h
    split
    · rename_i hw
      rw [if_pos hw] at h
      rcases h with h | ⟨h1, h2⟩
      · left
        unfold Oper.wp at *
        generalize (execOp a.eval o).run P w = r at *
        cases r with
        | ok nx w' =>
          cases nx <;> simp only [Oper.upon] at h ⊢ <;> try exact h
        | halt x w' =>
          cases x <;> simp only [Oper.upon] at h ⊢
          exact h
      · exact .inr ⟨h1, lets_last h2⟩
    · rename_i hw
      rw [if_neg hw] at h
      exact h

/-- How many ahead of n have not come up. -/
def unl (n : Nat) (listed : Array Bool) : Nat := (List.range n).countP (fun i => listed.getD i true == false)
/-- Each waits for elder ones alone. -/
def dagB (ops : Array Oper) : Bool := (List.range ops.size).all fun j => match ops[j]? with | some o => o.after.all fun e => decide (e.on < j) | none => true
theorem dag_spec (h : dagB ops = true) {j : Nat} {o : Oper} (hj : ops[j]? = some o) : ∀ e ∈ o.after, e.on < j := by
  intro e he
  have h1 := List.all_eq_true.1 h j (List.mem_range.2 (Array.getElem?_eq_some_iff.1 hj).1)
  simp only [hj] at h1
  have := Array.all_eq_true_iff_forall_mem.1 h1 e he
  simpa using this
theorem unl_pos {n : Nat} {listed : Array Bool} (h : 0 < unl n listed) : ∃ i, i < n ∧ listed.getD i true = false := by
  obtain ⟨i, hi, h1⟩ := List.countP_pos_iff.1 h
  exact ⟨i, List.mem_range.1 hi, by simpa using h1⟩
theorem unl_zero {n : Nat} {listed : Array Bool} (h : unl n listed = 0) : ∀ i, i < n → listed.getD i true = true := by
  intro i hi
  have := List.countP_eq_zero.1 h i (List.mem_range.2 hi)
  simpa using this
theorem count_set {listed : Array Bool} {i : Nat} (hi : i < listed.size) (hf : listed.getD i true = false) : ∀ (l : List Nat), l.Nodup → i ∈ l → l.countP (fun k => (listed.setIfInBounds i true).getD k true == false) + 1 = l.countP (fun k => listed.getD k true == false)
  | [], _, h => by cases h
  | x :: r, hn, h => by
    rw [List.countP_cons, List.countP_cons]
    by_cases hx : x = i
    · subst hx
      have hr : ∀ k ∈ r, ((listed.setIfInBounds x true).getD k true == false) = (listed.getD k true == false) := fun k hk => by
        rw [getD_set_ne true (fun e => by subst e; exact (List.nodup_cons.1 hn).1 hk)]
      rw [List.countP_congr (fun k hk => by rw [hr k hk])]
      have h1 : (listed.setIfInBounds x true).getD x true = true := by simp [hi]
      simp only [h1, hf]
      simp
    · have ih := count_set hi hf r (List.nodup_cons.1 hn).2 (by rcases List.mem_cons.1 h with e | e; exact absurd e.symm hx; exact e)
      rw [getD_set_ne true (Ne.symm hx)]
      omega
theorem least_unl {n : Nat} {listed : Array Bool} (h : 0 < unl n listed) : ∃ i, i < n ∧ listed.getD i true = false ∧ ∀ k, k < i → listed.getD k true = true := by
  obtain ⟨i, hi, hf⟩ := unl_pos h
  induction i using Nat.strongRecOn with
  | _ i ih =>
    by_cases hk : ∃ k, k < i ∧ listed.getD k true = false
    · obtain ⟨k, h1, h2⟩ := hk
      exact ih k h1 (by omega) h2
    · refine ⟨i, hi, hf, fun k hki => ?_⟩
      cases hb : listed.getD k true with
      | true => rfl
      | false => exact absurd ⟨k, hki, hb⟩ hk
theorem true_false {listed : Array Bool} {i : Nat} (hi : i < listed.size) (h : listed.getD i true = true) : listed.getD i false = true := by
  simp [hi] at h ⊢; exact h

theorem wpAny_last {n : Nat} (hn : ops.size = n + 1) (hs : Region.sinkB md ops n = true) (hd : dagB ops = true) :
    ∀ (fuel : Nat) (listed : Array Bool) (a : Act) (w : World), HeadInv md ops n listed → unl n listed = fuel →
      wpAny P md ops (LastQ P ops n Q) fuel (listed.setIfInBounds n true) a w → wpAny P md ops Q (fuel + 1) listed a w := by
  have hc : Region.chainB md ops n = true := by
    refine List.all_eq_true.2 fun t ht => ?_
    have := List.mem_range.1 ht
    simp; left; omega
  intro fuel
  induction fuel with
  | zero =>
    intro listed a w inv hu h
    have hall := unl_zero hu
    have hsz := inv.size
    obtain ⟨h1, h2⟩ := h
    have hrn : ∀ i ∈ Region.ready md ops listed, i = n := fun i hi => by
      obtain ⟨q1, o, q2, _⟩ := mem_ready.1 hi
      have := (Array.getElem?_eq_some_iff.1 q2).1
      rcases Nat.lt_or_ge i n with q | q
      · rw [hall i q] at q1; cases q1
      · omega
    have hin : n ∈ Region.ready md ops listed := by
      have hlt : n < ops.size := by omega
      have ho : ops[n]? = some ops[n] := by simp [hlt]
      exact mem_ready.2 ⟨inv.tail n (Nat.le_refl _) hlt, _, ho, fun e he _ => true_false (by have := dag_spec hd ho e he; omega) (hall _ (dag_spec hd ho e he))⟩
    refine ⟨fun h0 => (by rw [h0] at hin; cases hin), fun i hi => ?_⟩
    obtain rfl := hrn i hi
    exact wpOp_mono (fun a' w' hq => ⟨h1, hq⟩) h2
  | succ fuel ih =>
    intro listed a w inv hu h
    have hsz := inv.size
    obtain ⟨i0, hi0, hf0, hk0⟩ := least_unl (n := n) (listed := listed) (by omega)
    have hin : i0 ∈ Region.ready md ops listed := by
      have hlt : i0 < ops.size := by omega
      have ho : ops[i0]? = some ops[i0] := by simp [hlt]
      exact mem_ready.2 ⟨hf0, _, ho, fun e he _ => true_false (by have := dag_spec hd ho e he; omega) (hk0 _ (dag_spec hd ho e he))⟩
    refine ⟨fun h0 => (by rw [h0] at hin; cases hin), fun i hi => ?_⟩
    obtain ⟨q1, o, q2, _⟩ := mem_ready.1 hi
    have hlt := (Array.getElem?_eq_some_iff.1 q2).1
    have hni : i < n := by
      rcases Nat.lt_or_ge i n with q | q
      · exact q
      · exact absurd hi (tail_waits hs hc (by omega) inv _ i0 rfl hi0 hf0 i q)
    have h2 := h.2 i (ready_mono hi (by omega))
    refine wpOp_last (n := n) (wpOp_mono (fun a' w' hq => ?_) h2)
    refine ih _ a' w' (inv.set hi hni) ?_ ?_
    · have := count_set (listed := listed) (i := i) (by omega) q1 (List.range n) List.nodup_range (List.mem_range.2 hni)
      unfold unl at *
      omega
    · rw [Array.setIfInBounds_comm _ _ (by omega)]
      exact hq

/-- A region whose last operation waits for all others: S is to hold behind each of these, not behind the last. -/
theorem wp_region_last {S : World → Prop} {id : Nat} {a : Act} {w : World} (n : Nat) (hm : P.follows .mixedOrders = true) (hB : (decide (ops.size = n + 1) && Region.sinkB .any ops n && dagB ops) = true)
    (h : wpAnyH P .any ops (LastQ P ops n Q) S n ((Array.replicate ops.size false).setIfInBounds n true) a w.drew) : (Code.region id ops true).wp P Q a w := by
  simp only [Bool.and_eq_true, decide_eq_true_eq] at hB
  refine wp_region_any hm ?_
  have hx := wpAny_last (P := P) (Q := Q) hB.1.1 hB.1.2 hB.2 n (Array.replicate ops.size false) a w.drew ⟨by simp, fun j oj _ hl => (by rw [getD_replicate_false] at hl; cases hl), fun t _ ht => (by simp [ht])⟩ (by
    unfold unl
    rw [List.countP_eq_length.2 (fun k hk => by have := List.mem_range.1 hk; have : k < ops.size := (by omega); simp [this])]
    simp) (wpAny_of_held _ _ _ _ h)
  rw [hB.1.1] at hx ⊢
  rw [← hB.1.1]
  rw [← hB.1.1] at hx
  exact hx

variable {S : World → Prop}
theorem takeL {l : List Oper} {i : Nat} {oi : Oper} {v : Value} {fuel : Nat} {listed : Array Bool} {a : Act} {w : World} (hi : l[i]? = some oi)
    (hs : Region.noSelect l.toArray = true) (hf : Region.free md l.toArray listed i = true) (hr : (Region.ready md l.toArray listed).contains i = true)
    (hQ : ∀ c a w, Q (.panic c) (a.put oi.dst v) w → Q (.panic c) a w) (hy : YieldsIf P l.toArray S oi v a) (hS : S w)
    (h : wpAnyH P md l.toArray Q S fuel (listed.setIfInBounds i true) (a.put oi.dst v) w) : wpAnyH P md l.toArray Q S (fuel + 1) listed a w :=
  wpAnyH_take (by simpa using hi) hs hf hr hQ hy hS h
theorem oneL {l : List Oper} {i : Nat} {o : Oper} {fuel : Nat} {listed : Array Bool} {a : Act} {w : World} (hr : Region.ready md l.toArray listed = [i]) (hi : l[i]? = some o)
    (h : ∀ K' : Act → World → Prop, Shut (∀ a w, S w → (S w → wpAnyH P md l.toArray Q S fuel (listed.setIfInBounds i true) a w) → K' a w) → if Region.wanted o (yielded l.toArray a.tmps) = true then Oper.wp P o a w K' Q else K' (a.put o.dst undef) w) :
    wpAnyH P md l.toArray Q S (fuel + 1) listed a w :=
  wpAnyH_ready hr (by simp) (AllReadyH.cons (by simpa using hi) h AllReadyH.nil)
theorem lastL {l : List Oper} {n : Nat} {o : Oper} {a : Act} {w : World} (hi : l[n]? = some o) (h : wpList P l.toArray Q [o] a w) : LastQ P l.toArray n Q .normal a w := by
  have hi' : l.toArray[n]? = some o := by simpa using hi
  show wpOp P l.toArray Q n (Q .normal) a w
  unfold wpOp
  simp only [hi']
  exact h
end
end Go.Proofs.Ytpobgjkmcmkkeaa
namespace Go.Proofs.Ytpobgjkmcmkkeaa
open Go Go.RowKit Go.BigFrame

theorem wp_region_heldH {P : Program} {ops : Array Oper} {Q : Exit → Act → World → Prop} {S : World → Prop} {id : Nat} {a : Act} {w : World} (n : Nat) (hm : P.follows .mixedOrders = true) (hn : ops.size = n)
    (h : wpAnyH P .any ops Q S n (Array.replicate n false) a w.drew) : (Code.region id ops true).wp P Q a w := by
  subst hn
  exact wp_region_held hm h

set_option maxHeartbeats 1000000 in
theorem spec_l8Same (a : Option Addr) (n cap : Nat) (l : List Fl) (a' : Option Addr) (n' cap' : Nat) (m : List Fl) (w : World) (h : FlsAt w a n l) (h' : FlsAt w a' n' m) (hn : n ≤ 4194304) (hn' : n' ≤ 4194304) :
    Calls Try.prog 50 #[.slice a n cap, .slice a' n' cap'] w fun e w' => e = .returned (.bool (eqFls l m)) ∧ Below w.heap.size w w' := by
  have hlen : Hid (l.length = n) := h.len
  have hlen' : Hid (m.length = n') := h'.len
  by_cases hne : n = n'
  · subst hne
    have hbn : ((n : Int) != (n : Int)) = false := by simp
    go_enter Try.func50, Try.ntmps50
    go_wp2_with fail
    go_loopw [5] (fun ix wr => ∃ (k : Nat), k ≤ n ∧ ix = .int .i64 k ∧ Hid (eqFls l m = eqFls (l.drop k) (m.drop k)) ∧ Below w.heap.size w wr) (fun ix _ => n - (intOf ix).toNat)
    case atStart => exact ⟨0, Nat.zero_le _, rfl, rfl, Below.refl _ _⟩
    case round =>
      obtain ⟨k, hk, rfl, hI, hB⟩ := hrel
      by_cases hlt : k < n
      · obtain ⟨b, o, p, rfl, hp, c0, c1⟩ := fl_at (h.below hB) hlt
        obtain ⟨b', o', q, rfl, hq, d0, d1⟩ := fl_at (h'.below hB) hlt
        have hd : Hid (l.drop k = p :: l.drop (k + 1)) := drop_at hp
        have hd' : Hid (m.drop k = q :: m.drop (k + 1)) := drop_at hq
        clear hp hq
        have hk1 : (k : Int) < n := by omega
        have hk2 : (0 : Int) ≤ k := by omega
        have hpq : eqFl p q = (p.nm.toList == q.nm.toList && p.d.toList == q.d.toList) := rfl
        by_cases e1 : p.nm.toList = q.nm.toList
        · by_cases e2 : p.d.toList = q.d.toList
          · replace hpq : eqFl p q = true := by rw [hpq]; simp [e1, e2]
            have hS0 : (fun u => u.cell? ⟨b, o + k * 2, none⟩ = some (.string p.nm) ∧ u.cell? ⟨b, o + k * 2 + 1, none⟩ = some (.string p.d) ∧ u.cell? ⟨b', o' + k * 2, none⟩ = some (.string q.nm) ∧ u.cell? ⟨b', o' + k * 2 + 1, none⟩ = some (.string q.d)) wr.drew := ⟨c0, c1, d0, d1⟩
            go_wp2_with fail
            refine wp_region_heldH (S := (fun u => u.cell? ⟨b, o + k * 2, none⟩ = some (.string p.nm) ∧ u.cell? ⟨b, o + k * 2 + 1, none⟩ = some (.string p.d) ∧ u.cell? ⟨b', o' + k * 2, none⟩ = some (.string q.nm) ∧ u.cell? ⟨b', o' + k * 2 + 1, none⟩ = some (.string q.d))) 9 (by kernel_rfl) rfl ?_
            refine takeL (i := 0) (v := ?vq10001) rfl (by kernel_rfl) (by kernel_rfl) (by kernel_rfl) (fun _ _ _ h => h) (Or.inl ⟨by rfl, ?hyq10001⟩) (by assumption) ?restq10001
            case hyq10001 => (intro u hu; (try dsimp only at hu); go_simp <;> with_reducible rfl)
            try simp only [Act.put, List.setIfInBounds_toArray, List.set_cons_zero, List.set_cons_succ]
            refine takeL (i := 1) (v := ?vq10002) rfl (by kernel_rfl) (by kernel_rfl) (by kernel_rfl) (fun _ _ _ h => h) (Or.inl ⟨by rfl, ?hyq10002⟩) (by assumption) ?restq10002
            case hyq10002 => (intro u hu; (try dsimp only at hu); go_simp <;> with_reducible rfl)
            try simp only [Act.put, List.setIfInBounds_toArray, List.set_cons_zero, List.set_cons_succ]
            refine takeL (i := 2) (v := ?vq10003) rfl (by kernel_rfl) (by kernel_rfl) (by kernel_rfl) (fun _ _ _ h => h) (Or.inl ⟨by rfl, ?hyq10003⟩) (by assumption) ?restq10003
            case hyq10003 => (intro u hu; (try dsimp only at hu); go_simp <;> with_reducible rfl)
            try simp only [Act.put, List.setIfInBounds_toArray, List.set_cons_zero, List.set_cons_succ]
            refine takeL (i := 3) (v := ?vq10004) rfl (by kernel_rfl) (by kernel_rfl) (by kernel_rfl) (fun _ _ _ h => h) (Or.inl ⟨by rfl, ?hyq10004⟩) (by assumption) ?restq10004
            case hyq10004 => (intro u hu; (try dsimp only at hu); go_simp <;> with_reducible rfl)
            try simp only [Act.put, List.setIfInBounds_toArray, List.set_cons_zero, List.set_cons_succ]
            refine takeL (i := 4) (v := ?vq10005) rfl (by kernel_rfl) (by kernel_rfl) (by kernel_rfl) (fun _ _ _ h => h) (Or.inl ⟨by rfl, ?hyq10005⟩) (by assumption) ?restq10005
            case hyq10005 => (intro u hu; (try dsimp only at hu); go_simp <;> with_reducible rfl)
            try simp only [Act.put, List.setIfInBounds_toArray, List.set_cons_zero, List.set_cons_succ]
            refine takeL (i := 5) (v := ?vq10006) rfl (by kernel_rfl) (by kernel_rfl) (by kernel_rfl) (fun _ _ _ h => h) (Or.inl ⟨by rfl, ?hyq10006⟩) (by assumption) ?restq10006
            case hyq10006 => (intro u hu; (try dsimp only at hu); go_simp <;> with_reducible rfl)
            try simp only [Act.put, List.setIfInBounds_toArray, List.set_cons_zero, List.set_cons_succ]
            refine takeL (i := 6) (v := ?vq10007) rfl (by kernel_rfl) (by kernel_rfl) (by kernel_rfl) (fun _ _ _ h => h) (Or.inl ⟨by rfl, ?hyq10007⟩) (by assumption) ?restq10007
            case hyq10007 => (intro u hu; (try dsimp only at hu); go_simp <;> with_reducible rfl)
            try simp only [Act.put, List.setIfInBounds_toArray, List.set_cons_zero, List.set_cons_succ]
            refine takeL (i := 7) (v := ?vq10008) rfl (by kernel_rfl) (by kernel_rfl) (by kernel_rfl) (fun _ _ _ h => h) (Or.inl ⟨by rfl, ?hyq10008⟩) (by assumption) ?restq10008
            case hyq10008 => (intro u hu; (try dsimp only at hu); go_simp <;> with_reducible rfl)
            try simp only [Act.put, List.setIfInBounds_toArray, List.set_cons_zero, List.set_cons_succ]
            refine takeL (i := 8) (v := ?vq10009) rfl (by kernel_rfl) (by kernel_rfl) (by kernel_rfl) (fun _ _ _ h => h) (Or.inl ⟨by rfl, ?hyq10009⟩) (by assumption) ?restq10009
            case hyq10009 => (intro u hu; (try dsimp only at hu); go_simp <;> with_reducible rfl)
            try simp only [Act.put, List.setIfInBounds_toArray, List.set_cons_zero, List.set_cons_succ]
            refine wpAnyH_done (by kernel_rfl) ?_ _
            clear hS0
            go_wp2
            go_roundw
            case rel => exact ⟨k + 1, by omega, by go_num, by show _ = _; rw [hI.out, hd.out, hd'.out]; simp only [eqFls, hpq, Bool.true_and], chain hB ((Below.refl _ _).drew)⟩
            case measure => simp [intOf]; omega
          · replace hpq : eqFl p q = false := by rw [hpq]; simp [e2]
            have hS0 : (fun u => u.cell? ⟨b, o + k * 2, none⟩ = some (.string p.nm) ∧ u.cell? ⟨b, o + k * 2 + 1, none⟩ = some (.string p.d) ∧ u.cell? ⟨b', o' + k * 2, none⟩ = some (.string q.nm) ∧ u.cell? ⟨b', o' + k * 2 + 1, none⟩ = some (.string q.d)) wr.drew := ⟨c0, c1, d0, d1⟩
            go_wp2_with fail
            refine wp_region_heldH (S := (fun u => u.cell? ⟨b, o + k * 2, none⟩ = some (.string p.nm) ∧ u.cell? ⟨b, o + k * 2 + 1, none⟩ = some (.string p.d) ∧ u.cell? ⟨b', o' + k * 2, none⟩ = some (.string q.nm) ∧ u.cell? ⟨b', o' + k * 2 + 1, none⟩ = some (.string q.d))) 9 (by kernel_rfl) rfl ?_
            refine takeL (i := 0) (v := ?vq10010) rfl (by kernel_rfl) (by kernel_rfl) (by kernel_rfl) (fun _ _ _ h => h) (Or.inl ⟨by rfl, ?hyq10010⟩) (by assumption) ?restq10010
            case hyq10010 => (intro u hu; (try dsimp only at hu); go_simp <;> with_reducible rfl)
            try simp only [Act.put, List.setIfInBounds_toArray, List.set_cons_zero, List.set_cons_succ]
            refine takeL (i := 1) (v := ?vq10011) rfl (by kernel_rfl) (by kernel_rfl) (by kernel_rfl) (fun _ _ _ h => h) (Or.inl ⟨by rfl, ?hyq10011⟩) (by assumption) ?restq10011
            case hyq10011 => (intro u hu; (try dsimp only at hu); go_simp <;> with_reducible rfl)
            try simp only [Act.put, List.setIfInBounds_toArray, List.set_cons_zero, List.set_cons_succ]
            refine takeL (i := 2) (v := ?vq10012) rfl (by kernel_rfl) (by kernel_rfl) (by kernel_rfl) (fun _ _ _ h => h) (Or.inl ⟨by rfl, ?hyq10012⟩) (by assumption) ?restq10012
            case hyq10012 => (intro u hu; (try dsimp only at hu); go_simp <;> with_reducible rfl)
            try simp only [Act.put, List.setIfInBounds_toArray, List.set_cons_zero, List.set_cons_succ]
            refine takeL (i := 3) (v := ?vq10013) rfl (by kernel_rfl) (by kernel_rfl) (by kernel_rfl) (fun _ _ _ h => h) (Or.inl ⟨by rfl, ?hyq10013⟩) (by assumption) ?restq10013
            case hyq10013 => (intro u hu; (try dsimp only at hu); go_simp <;> with_reducible rfl)
            try simp only [Act.put, List.setIfInBounds_toArray, List.set_cons_zero, List.set_cons_succ]
            refine takeL (i := 4) (v := ?vq10014) rfl (by kernel_rfl) (by kernel_rfl) (by kernel_rfl) (fun _ _ _ h => h) (Or.inl ⟨by rfl, ?hyq10014⟩) (by assumption) ?restq10014
            case hyq10014 => (intro u hu; (try dsimp only at hu); go_simp <;> with_reducible rfl)
            try simp only [Act.put, List.setIfInBounds_toArray, List.set_cons_zero, List.set_cons_succ]
            refine takeL (i := 5) (v := ?vq10015) rfl (by kernel_rfl) (by kernel_rfl) (by kernel_rfl) (fun _ _ _ h => h) (Or.inl ⟨by rfl, ?hyq10015⟩) (by assumption) ?restq10015
            case hyq10015 => (intro u hu; (try dsimp only at hu); go_simp <;> with_reducible rfl)
            try simp only [Act.put, List.setIfInBounds_toArray, List.set_cons_zero, List.set_cons_succ]
            refine takeL (i := 6) (v := ?vq10016) rfl (by kernel_rfl) (by kernel_rfl) (by kernel_rfl) (fun _ _ _ h => h) (Or.inl ⟨by rfl, ?hyq10016⟩) (by assumption) ?restq10016
            case hyq10016 => (intro u hu; (try dsimp only at hu); go_simp <;> with_reducible rfl)
            try simp only [Act.put, List.setIfInBounds_toArray, List.set_cons_zero, List.set_cons_succ]
            refine takeL (i := 7) (v := ?vq10017) rfl (by kernel_rfl) (by kernel_rfl) (by kernel_rfl) (fun _ _ _ h => h) (Or.inl ⟨by rfl, ?hyq10017⟩) (by assumption) ?restq10017
            case hyq10017 => (intro u hu; (try dsimp only at hu); go_simp <;> with_reducible rfl)
            try simp only [Act.put, List.setIfInBounds_toArray, List.set_cons_zero, List.set_cons_succ]
            refine takeL (i := 8) (v := ?vq10018) rfl (by kernel_rfl) (by kernel_rfl) (by kernel_rfl) (fun _ _ _ h => h) (Or.inl ⟨by rfl, ?hyq10018⟩) (by assumption) ?restq10018
            case hyq10018 => (intro u hu; (try dsimp only at hu); go_simp <;> with_reducible rfl)
            try simp only [Act.put, List.setIfInBounds_toArray, List.set_cons_zero, List.set_cons_succ]
            refine wpAnyH_done (by kernel_rfl) ?_ _
            clear hS0
            go_wp2
            go_returns
            go_light
            refine ⟨ret_bool ?_, chain hB ((Below.refl _ _).drew)⟩
            rw [hI.out, hd.out, hd'.out]; simp only [eqFls, hpq, Bool.false_and]
        · replace hpq : eqFl p q = false := by rw [hpq]; simp [e1]
          have hS0 : (fun u => u.cell? ⟨b, o + k * 2, none⟩ = some (.string p.nm) ∧ u.cell? ⟨b, o + k * 2 + 1, none⟩ = some (.string p.d) ∧ u.cell? ⟨b', o' + k * 2, none⟩ = some (.string q.nm) ∧ u.cell? ⟨b', o' + k * 2 + 1, none⟩ = some (.string q.d)) wr.drew := ⟨c0, c1, d0, d1⟩
          go_wp2_with fail
          refine wp_region_heldH (S := (fun u => u.cell? ⟨b, o + k * 2, none⟩ = some (.string p.nm) ∧ u.cell? ⟨b, o + k * 2 + 1, none⟩ = some (.string p.d) ∧ u.cell? ⟨b', o' + k * 2, none⟩ = some (.string q.nm) ∧ u.cell? ⟨b', o' + k * 2 + 1, none⟩ = some (.string q.d))) 9 (by kernel_rfl) rfl ?_
          refine takeL (i := 0) (v := ?vq10019) rfl (by kernel_rfl) (by kernel_rfl) (by kernel_rfl) (fun _ _ _ h => h) (Or.inl ⟨by rfl, ?hyq10019⟩) (by assumption) ?restq10019
          case hyq10019 => (intro u hu; (try dsimp only at hu); go_simp <;> with_reducible rfl)
          try simp only [Act.put, List.setIfInBounds_toArray, List.set_cons_zero, List.set_cons_succ]
          refine takeL (i := 1) (v := ?vq10020) rfl (by kernel_rfl) (by kernel_rfl) (by kernel_rfl) (fun _ _ _ h => h) (Or.inl ⟨by rfl, ?hyq10020⟩) (by assumption) ?restq10020
          case hyq10020 => (intro u hu; (try dsimp only at hu); go_simp <;> with_reducible rfl)
          try simp only [Act.put, List.setIfInBounds_toArray, List.set_cons_zero, List.set_cons_succ]
          refine takeL (i := 2) (v := ?vq10021) rfl (by kernel_rfl) (by kernel_rfl) (by kernel_rfl) (fun _ _ _ h => h) (Or.inl ⟨by rfl, ?hyq10021⟩) (by assumption) ?restq10021
          case hyq10021 => (intro u hu; (try dsimp only at hu); go_simp <;> with_reducible rfl)
          try simp only [Act.put, List.setIfInBounds_toArray, List.set_cons_zero, List.set_cons_succ]
          refine takeL (i := 3) (v := ?vq10022) rfl (by kernel_rfl) (by kernel_rfl) (by kernel_rfl) (fun _ _ _ h => h) (Or.inl ⟨by rfl, ?hyq10022⟩) (by assumption) ?restq10022
          case hyq10022 => (intro u hu; (try dsimp only at hu); go_simp <;> with_reducible rfl)
          try simp only [Act.put, List.setIfInBounds_toArray, List.set_cons_zero, List.set_cons_succ]
          refine takeL (i := 4) (v := ?vq10023) rfl (by kernel_rfl) (by kernel_rfl) (by kernel_rfl) (fun _ _ _ h => h) (Or.inl ⟨by rfl, ?hyq10023⟩) (by assumption) ?restq10023
          case hyq10023 => (intro u hu; (try dsimp only at hu); go_simp <;> with_reducible rfl)
          try simp only [Act.put, List.setIfInBounds_toArray, List.set_cons_zero, List.set_cons_succ]
          refine takeL (i := 5) (v := ?vq10024) rfl (by kernel_rfl) (by kernel_rfl) (by kernel_rfl) (fun _ _ _ h => h) (Or.inl ⟨by rfl, ?hyq10024⟩) (by assumption) ?restq10024
          case hyq10024 => (intro u hu; (try dsimp only at hu); go_simp <;> with_reducible rfl)
          try simp only [Act.put, List.setIfInBounds_toArray, List.set_cons_zero, List.set_cons_succ]
          refine takeL (i := 6) (v := ?vq10025) rfl (by kernel_rfl) (by kernel_rfl) (by kernel_rfl) (fun _ _ _ h => h) (Or.inl ⟨by rfl, ?hyq10025⟩) (by assumption) ?restq10025
          case hyq10025 => (intro u hu; (try dsimp only at hu); go_simp <;> with_reducible rfl)
          try simp only [Act.put, List.setIfInBounds_toArray, List.set_cons_zero, List.set_cons_succ]
          refine takeL (i := 7) (v := ?vq10026) rfl (by kernel_rfl) (by kernel_rfl) (by kernel_rfl) (fun _ _ _ h => h) (Or.inl ⟨by rfl, ?hyq10026⟩) (by assumption) ?restq10026
          case hyq10026 => (intro u hu; (try dsimp only at hu); go_simp <;> with_reducible rfl)
          try simp only [Act.put, List.setIfInBounds_toArray, List.set_cons_zero, List.set_cons_succ]
          refine takeL (i := 8) (v := ?vq10027) rfl (by kernel_rfl) (by kernel_rfl) (by kernel_rfl) (fun _ _ _ h => h) (Or.inl ⟨by rfl, ?hyq10027⟩) (by assumption) ?restq10027
          case hyq10027 => (intro u hu; (try dsimp only at hu); go_simp <;> with_reducible rfl)
          try simp only [Act.put, List.setIfInBounds_toArray, List.set_cons_zero, List.set_cons_succ]
          refine wpAnyH_done (by kernel_rfl) ?_ _
          clear hS0
          go_wp2
          go_returns
          go_light
          refine ⟨ret_bool ?_, chain hB ((Below.refl _ _).drew)⟩
          rw [hI.out, hd.out, hd'.out]; simp only [eqFls, hpq, Bool.false_and]
      · obtain rfl : k = n := by omega
        go_wp2
        go_returns
        go_light
        refine ⟨ret_bool ?_, hB⟩
        rw [hI.out, List.drop_of_length_le (Nat.le_of_eq hlen.out), List.drop_of_length_le (Nat.le_of_eq hlen'.out)]; rfl
  · have hbn : ((n : Int) != (n' : Int)) = true := by simp; omega
    go_enter Try.func50, Try.ntmps50
    go_wp2
    go_returns
    go_light
    refine ⟨ret_bool ?_, Below.refl _ _⟩
    rw [eqFls_len (by rw [hlen.out, hlen'.out]; exact hne)]

set_option maxHeartbeats 2000000 in
theorem spec_l8Form (o : Dp) (w : World) (hs : StrD o) :
    Calls Try.prog 49 #[.agg #[.int .i64 o.k, .string o.nm, .string o.tt, .string o.d]] w fun e w' => e = .returned (.bool (formB o)) ∧ Below w.heap.size w w' := by
  obtain ⟨k, nm, tt, d⟩ := o
  obtain ⟨g1, g2, g3⟩ := hs
  simp only at g1 g2 g3
  have hB0 : Below w.heap.size w (w.alloc (.cells #[.int .i64 k, .string nm, .string tt, .string d] 36)) := by go_grown
  have hin := spec_l1InD k 1 3
  have hnm := fun u => spec_l8Name nm u g1
  have htt := fun u => spec_l8Name tt u g2
  by_cases hk : 1 ≤ k ∧ k ≤ 3
  · have hkb : (decide ((1 : Int) ≤ k) && decide (k ≤ 3)) = true := by simp; omega
    cases hn : nmB nm
    · have hf : Hid (formB ⟨k, nm, tt, d⟩ = false) := by show _ = _; simp [formB, hn]
      go_enter Try.func49, Try.ntmps49
      go_wp2_with fail
      refine (hin _).mono ?_
      rintro e w1 ⟨rfl, rfl⟩
      rw [hkb]
      go_wp2_with fail
      refine (hnm _).mono ?_
      rintro e w2 ⟨rfl, rfl⟩
      rw [hn]
      go_wp2
      go_returns
      exact ⟨ret_bool hf.out.symm, hB0⟩
    · by_cases h2 : k = 2
      · subst h2
        have hf : Hid (formB ⟨2, nm, tt, d⟩ = (nmB tt && emB d)) := by show _ = _; simp [formB, hn]
        go_enter Try.func49, Try.ntmps49
        go_wp2_with fail
        refine (hin _).mono ?_
        rintro e w1 ⟨rfl, rfl⟩
        rw [hkb]
        go_wp2_with fail
        refine (hnm _).mono ?_
        rintro e w2 ⟨rfl, rfl⟩
        rw [hn]
        go_wp2_with fail
        refine (htt _).mono ?_
        rintro e w3 ⟨rfl, rfl⟩
        cases ht : nmB tt
        · go_wp2
          go_returns
          exact ⟨by rw [hf.out, ht]; rfl, hB0⟩
        · cases he : emB d
          · have hq : ¬ d.toList = (⟨#[]⟩ : ByteArray).toList := by simpa [emB] using he
            go_wp2
            go_returns
            exact ⟨by rw [hf.out, ht, he]; first | rfl | simp_all [emB], hB0⟩
          · have hq : d.toList = (⟨#[]⟩ : ByteArray).toList := by simpa [emB] using he
            go_wp2
            go_returns
            exact ⟨by rw [hf.out, ht, he]; first | rfl | simp_all [emB], hB0⟩
      · have h2b : (k == 2) = false := by simpa using h2
        have hf : Hid (formB ⟨k, nm, tt, d⟩ = (emB tt && (decide (k = 1) || emB d))) := by show _ = _; simp [formB, hn, h2, hk]
        go_enter Try.func49, Try.ntmps49
        go_wp2_with fail
        refine (hin _).mono ?_
        rintro e w1 ⟨rfl, rfl⟩
        rw [hkb]
        go_wp2_with fail
        refine (hnm _).mono ?_
        rintro e w2 ⟨rfl, rfl⟩
        rw [hn]
        by_cases h1 : k = 1
        · subst h1
          go_wp2
          all_goals go_returns
          all_goals exact ⟨by rw [hf.out]; simp_all [emB], hB0⟩
        · have h1b : (k == 1) = false := by simpa using h1
          go_wp2
          all_goals go_returns
          all_goals exact ⟨by rw [hf.out]; simp_all [emB], hB0⟩
  · have hkb : (decide ((1 : Int) ≤ k) && decide (k ≤ 3)) = false := by simp; omega
    have hf : Hid (formB ⟨k, nm, tt, d⟩ = false) := by show _ = _; simp only [formB, hkb, Bool.false_and]
    go_enter Try.func49, Try.ntmps49
    go_wp2_with fail
    refine (hin _).mono ?_
    rintro e w1 ⟨rfl, rfl⟩
    rw [hkb]
    go_wp2
    go_returns
    exact ⟨ret_bool hf.out.symm, hB0⟩
end Go.Proofs.Ytpobgjkmcmkkeaa
