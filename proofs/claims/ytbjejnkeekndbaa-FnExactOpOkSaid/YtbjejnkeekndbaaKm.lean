/- Ops as plain data: when one is right; names and lengths. OpOk of the program. -/
import Derived.Test.YtbjejnkeekndbaaProg
import Derived.Test.YtbjejnkeekndbaaKe
import Derived.Test.YtbjejnkeekndbaaKc
import Derived.Test.YtbjejnkeekndbaaKb
import Derived.Laws.StructEq
import Derived.Test.YtbjejnkeekndbaaKa
namespace Go.Proofs.Ytbjejnkeekndbaa
open Go.RowKit Go.BigFrame

/-- An op: Kind, Vol, File, To, Into, At, From, Len, Data. -/
structure Opr where
  k : Int
  vol : ByteArray
  file : ByteArray
  to : ByteArray
  into : ByteArray
  at' : Int
  fr : Int
  ln : Int
  data : ByteArray

abbrev StrsAt := SlAt (fun x : ByteArray => [Value.string x]) 1
theorem strs_at {w : World} {a : Option Addr} {n : Nat} {l : List ByteArray} (h : StrsAt w a n l) {k : Nat} (hk : k < n) :
    ∃ b o p, a = some ⟨b, o, none⟩ ∧ l[k]? = some p ∧ w.cell? ⟨b, o + k, none⟩ = some (.string p) := by
  have hl : k < l.length := by rw [h.len]; exact hk
  have hx : l[k]? = some l[k] := by simp [hl]
  obtain ⟨b, o, ha, hc⟩ := h.cell k _ hx
  exact ⟨b, o, l[k], ha, hx, by simpa using hc 0 _ rfl⟩

set_option maxHeartbeats 400000 in
theorem impl_namesOk (a : Option Addr) (n cap : Nat) (l : List ByteArray) (w : World) (h : StrsAt w a n l) (hn : n ≤ 16) (hs : ∀ x ∈ l, x.size ≤ 9223372036854775807) :
    Calls Try.prog 131 #[.slice a n cap] w fun e w' => e = .returned (.bool (l.all nameB)) ∧ w' = w := by
  have hlen : Hid (l.length = n) := h.len
  have hfin : Hid (l.all nameB = (l.drop 0).all nameB) := by show _ = _; simp
  go_enter Try.func131, Try.ntmps131
  go_wp2_with fail
  go_loop [7] (fun ix => ∃ (k : Nat), k ≤ n ∧ ix = .int .i64 k ∧ Hid (l.all nameB = (l.drop k).all nameB)) (fun ix => n - (intOf ix).toNat)
  case atStart => exact ⟨0, Nat.zero_le _, rfl, hfin⟩
  case round =>
    obtain ⟨k, hk, rfl, hI⟩ := hrel
    by_cases hlt : k < n
    · obtain ⟨b, o, p, rfl, hp, c0⟩ := strs_at h hlt
      have hd : Hid (l.drop k = p :: l.drop (k + 1)) := drop_at hp
      have hps := hs p (List.mem_of_getElem? hp)
      cases hc : nameB p
      · go_wp2_with (first | (go_at_call 145; refine (impl_NameOk p _ hps).mono ?_; rintro e w1 ⟨rfl, rfl⟩; rw [hc]))
        all_goals go_returns
        all_goals go_light
        all_goals (refine ⟨ret_bool ?_, rfl⟩; rw [hI.out, hd.out]; simp [hc])
      · go_wp2_with (first | (go_at_call 145; refine (impl_NameOk p _ hps).mono ?_; rintro e w1 ⟨rfl, rfl⟩; rw [hc]))
        go_round
        case rel => exact ⟨k + 1, by omega, by go_num, by show _ = _; rw [hI.out, hd.out]; simp [hc]⟩
        case measure => simp [intOf]; omega
    · obtain rfl : k = n := by omega
      go_wp2
      go_returns
      go_light
      refine ⟨ret_bool ?_, rfl⟩
      rw [hI.out, List.drop_of_length_le (by rw [hlen.out]; exact Nat.le_refl _)]; rfl

theorem impl_lenOk (n lo : Int) (w : World) :
    Calls Try.prog 132 #[.int .i64 n, .int .i64 lo] w fun e w' => e = .returned (.bool (decide (lo ≤ n) && decide (n ≤ 100))) ∧ w' = w := by
  go_enter Try.func132, Try.ntmps132
  go_wp2
  all_goals go_returns
  all_goals go_light
  all_goals refine ⟨ret_bool ?_, rfl⟩
  all_goals first | (simp_all; done) | (simp_all; omega)

def opEq (p q : Opr) : Bool := p.k == q.k && (p.vol.toList == q.vol.toList && (p.file.toList == q.file.toList && (p.to.toList == q.to.toList && (p.into.toList == q.into.toList && (p.at' == q.at' && (p.fr == q.fr && (p.ln == q.ln && p.data.toList == q.data.toList)))))))

set_option maxHeartbeats 1000000 in
theorem eqlOp (p q : Opr) (w : World) : (binOp .eql 97 (.agg #[.int .i64 p.k, .string p.vol, .string p.file, .string p.to, .string p.into, .int .i64 p.at', .int .i64 p.fr, .int .i64 p.ln, .string p.data]) (.agg #[.int .i64 q.k, .string q.vol, .string q.file, .string q.to, .string q.into, .int .i64 q.at', .int .i64 q.fr, .int .i64 q.ln, .string q.data])).run Try.prog w = .ok (.bool (opEq p q)) w := by
  have u2 := Try.underlying2
  have u9 := Try.underlying9
  have a2 := Try.isAgg2
  have a9 := Try.isAgg9
  have z2 := Try.sizeOf2
  have z9 := Try.sizeOf9
  have hS : Try.prog.underlying 97 = some (.struct (Try.prog.fieldsOf 97)) := by kernel_rfl
  have hp : Try.prog.stoodInHeld 97 = false := by kernel_rfl
  rw [run_eql_struct, show (10000 : Nat) = 9999 + 1 from rfl, run_equalIn_agg w 9999 97 _ _ hS hp]
  simp only [Program.fieldsOf, Try.underlying97]
  go_simp
  unfold opEq
  by_cases h1 : p.k = q.k
  case neg => simp [h1]
  by_cases h2 : p.vol.toList = q.vol.toList
  case neg => simp [h1, h2]
  by_cases h3 : p.file.toList = q.file.toList
  case neg => simp [h1, h2, h3]
  by_cases h4 : p.to.toList = q.to.toList
  case neg => simp [h1, h2, h3, h4]
  by_cases h5 : p.into.toList = q.into.toList
  case neg => simp [h1, h2, h3, h4, h5]
  by_cases h6 : p.at' = q.at'
  case neg => simp [h1, h2, h3, h4, h5, h6]
  by_cases h7 : p.fr = q.fr
  case neg => simp [h1, h2, h3, h4, h5, h6, h7]
  by_cases h8 : p.ln = q.ln
  case neg => simp [h1, h2, h3, h4, h5, h6, h7, h8]
  by_cases h9 : p.data.toList = q.data.toList <;> simp [h1, h2, h3, h4, h5, h6, h7, h8, h9]
end Go.Proofs.Ytbjejnkeekndbaa
namespace Go.Proofs.Ytbjejnkeekndbaa
open Go.RowKit Go.BigFrame

def zB (d : ByteArray) : Bool := d.toList == (⟨#[]⟩ : ByteArray).toList
def inB (n lo hi : Int) : Bool := decide (lo ≤ n) && decide (n ≤ hi)

/-- An op is right. -/
def opB (o : Opr) : Bool :=
  if o.k = 1 ∨ o.k = 7 ∨ o.k = 8 then nameB o.vol && (zB o.file && zB o.to && zB o.into && o.at' == 0 && o.fr == 0 && o.ln == 0 && zB o.data)
  else if o.k = 2 then nameB o.vol && nameB o.file && inB o.at' 0 100 && dataOkB o.data && (zB o.to && zB o.into && o.fr == 0 && o.ln == 0)
  else if o.k = 3 then nameB o.vol && nameB o.file && inB o.ln 0 100 && (zB o.to && zB o.into && o.at' == 0 && o.fr == 0 && zB o.data)
  else if o.k = 4 then nameB o.vol && nameB o.file && (zB o.to && zB o.into && o.at' == 0 && o.fr == 0 && o.ln == 0 && zB o.data)
  else if o.k = 10 then nameB o.vol && nameB o.file && inB o.at' 0 100 && inB o.ln 1 100 && (zB o.to && zB o.into && o.fr == 0 && zB o.data)
  else if o.k = 5 then nameB o.vol && nameB o.file && nameB o.to && nameB o.into && inB o.at' 0 100 && inB o.fr 0 100 && inB o.ln 1 100 && zB o.data
  else if o.k = 6 then nameB o.vol && nameB o.to && (zB o.file && zB o.into && o.at' == 0 && o.fr == 0 && o.ln == 0 && zB o.data)
  else if o.k = 9 then zB o.vol && zB o.file && zB o.to && zB o.into && o.at' == 0 && o.fr == 0 && o.ln == 0 && zB o.data
  else false

structure StrO (o : Opr) : Prop where
  vol : o.vol.size ≤ 9223372036854775807
  file : o.file.size ≤ 9223372036854775807
  to : o.to.size ≤ 9223372036854775807
  into : o.into.size ≤ 9223372036854775807
  data : o.data.size ≤ 9223372036854775807

theorem strs_new (w : World) (l : List ByteArray) (t : TypeId) (b : Nat) (hb : b = w.heap.size) (cs : Array Value) (hc : cs = (l.map Value.string).toArray) : StrsAt (w.alloc (.cells cs t)) (some ⟨b, 0, none⟩) l.length l := by
  subst hb hc
  refine ⟨rfl, fun i x hx => ⟨_, 0, rfl, fun j v hv => ?_⟩⟩
  match j, hv with
  | 0, hv =>
    obtain rfl := Option.some.inj hv
    rw [World.cell?_alloc_new]
    simp [hx]
  | j + 1, hv => simp at hv

/-- The case of a walk: the answer is told by an equation. -/
theorem opEnd {w w' : World} {e : Ending} {r x : Bool} (he : e = .returned (.bool x)) (hB : Below w.heap.size w w') (h : r = x) : e = .returned (.bool r) ∧ Below w.heap.size w w' := ⟨by rw [he, h], hB⟩

set_option maxHeartbeats 2000000 in
set_option maxRecDepth 100000 in
theorem impl_OpOk1 (k : Int) (vol file to into : ByteArray) (at' fr ln : Int) (data : ByteArray) (w : World) (hs : StrO ⟨k, vol, file, to, into, at', fr, ln, data⟩) (hk : k = 1 ∨ k = 7 ∨ k = 8) :
    Calls Try.prog 78 #[.agg #[.int .i64 k, .string vol, .string file, .string to, .string into, .int .i64 at', .int .i64 fr, .int .i64 ln, .string data]] w fun e w' => e = .returned (.bool ([vol].all nameB && (opEq ⟨k, vol, file, to, into, at', fr, ln, data⟩ ⟨k, vol, ⟨#[]⟩, ⟨#[]⟩, ⟨#[]⟩, 0, 0, 0, ⟨#[]⟩⟩))) ∧ Below w.heap.size w w' := by
  have heq := eqlOp ⟨k, vol, file, to, into, at', fr, ln, data⟩ ⟨k, vol, ⟨#[]⟩, ⟨#[]⟩, ⟨#[]⟩, 0, 0, 0, ⟨#[]⟩⟩
  dsimp only at heq
  generalize opEq _ _ = E at heq ⊢
  generalize hN : [vol].all nameB = N
  rcases hk with rfl | rfl | rfl
  all_goals go_enter Try.func78, Try.ntmps78
  all_goals go_wp2_with fail
  all_goals refine (impl_namesOk _ 1 1 [vol] _ (strs_new _ [vol] _ _ (by simp) _ rfl) (by omega) (by simpa using hs.vol)).mono ?_
  all_goals rintro e w1 ⟨rfl, rfl⟩
  all_goals rw [hN]
  all_goals cases N
  all_goals go_wp2
  all_goals go_returns
  all_goals go_light
  all_goals exact ⟨by simp, by go_grown⟩

set_option maxHeartbeats 2000000 in
set_option maxRecDepth 100000 in
theorem impl_OpOk4 (k : Int) (vol file to into : ByteArray) (at' fr ln : Int) (data : ByteArray) (w : World) (hs : StrO ⟨k, vol, file, to, into, at', fr, ln, data⟩) (hk : k = 4) :
    Calls Try.prog 78 #[.agg #[.int .i64 k, .string vol, .string file, .string to, .string into, .int .i64 at', .int .i64 fr, .int .i64 ln, .string data]] w fun e w' => e = .returned (.bool ([vol, file].all nameB && (opEq ⟨k, vol, file, to, into, at', fr, ln, data⟩ ⟨k, vol, file, ⟨#[]⟩, ⟨#[]⟩, 0, 0, 0, ⟨#[]⟩⟩))) ∧ Below w.heap.size w w' := by
  have heq := eqlOp ⟨k, vol, file, to, into, at', fr, ln, data⟩ ⟨k, vol, file, ⟨#[]⟩, ⟨#[]⟩, 0, 0, 0, ⟨#[]⟩⟩
  dsimp only at heq
  generalize opEq _ _ = E at heq ⊢
  generalize hN : [vol, file].all nameB = N
  subst hk
  go_enter Try.func78, Try.ntmps78
  go_wp2_with fail
  refine (impl_namesOk _ 2 2 [vol, file] _ (strs_new _ [vol, file] _ _ (by simp) _ rfl) (by omega) (by intro x hx; simp at hx; rcases hx with rfl | rfl <;> first | exact hs.vol | exact hs.file)).mono ?_
  rintro e w1 ⟨rfl, rfl⟩
  rw [hN]
  cases N
  all_goals go_wp2
  all_goals go_returns
  all_goals go_light
  all_goals exact ⟨by simp, by go_grown⟩

set_option maxHeartbeats 2000000 in
set_option maxRecDepth 100000 in
theorem impl_OpOk6 (k : Int) (vol file to into : ByteArray) (at' fr ln : Int) (data : ByteArray) (w : World) (hs : StrO ⟨k, vol, file, to, into, at', fr, ln, data⟩) (hk : k = 6) :
    Calls Try.prog 78 #[.agg #[.int .i64 k, .string vol, .string file, .string to, .string into, .int .i64 at', .int .i64 fr, .int .i64 ln, .string data]] w fun e w' => e = .returned (.bool ([vol, to].all nameB && (opEq ⟨k, vol, file, to, into, at', fr, ln, data⟩ ⟨k, vol, ⟨#[]⟩, to, ⟨#[]⟩, 0, 0, 0, ⟨#[]⟩⟩))) ∧ Below w.heap.size w w' := by
  have heq := eqlOp ⟨k, vol, file, to, into, at', fr, ln, data⟩ ⟨k, vol, ⟨#[]⟩, to, ⟨#[]⟩, 0, 0, 0, ⟨#[]⟩⟩
  dsimp only at heq
  generalize opEq _ _ = E at heq ⊢
  generalize hN : [vol, to].all nameB = N
  subst hk
  go_enter Try.func78, Try.ntmps78
  go_wp2_with fail
  refine (impl_namesOk _ 2 2 [vol, to] _ (strs_new _ [vol, to] _ _ (by simp) _ rfl) (by omega) (by intro x hx; simp at hx; rcases hx with rfl | rfl <;> first | exact hs.vol | exact hs.to)).mono ?_
  rintro e w1 ⟨rfl, rfl⟩
  rw [hN]
  cases N
  all_goals go_wp2
  all_goals go_returns
  all_goals go_light
  all_goals exact ⟨by simp, by go_grown⟩

set_option maxHeartbeats 2000000 in
set_option maxRecDepth 100000 in
theorem impl_OpOk2 (k : Int) (vol file to into : ByteArray) (at' fr ln : Int) (data : ByteArray) (w : World) (hs : StrO ⟨k, vol, file, to, into, at', fr, ln, data⟩) (hk : k = 2) :
    Calls Try.prog 78 #[.agg #[.int .i64 k, .string vol, .string file, .string to, .string into, .int .i64 at', .int .i64 fr, .int .i64 ln, .string data]] w fun e w' => e = .returned (.bool ([vol, file].all nameB && (decide (0 ≤ at') && decide (at' ≤ 100) && (dataOkB data && (opEq ⟨k, vol, file, to, into, at', fr, ln, data⟩ ⟨k, vol, file, ⟨#[]⟩, ⟨#[]⟩, at', 0, 0, data⟩))))) ∧ Below w.heap.size w w' := by
  have heq := eqlOp ⟨k, vol, file, to, into, at', fr, ln, data⟩ ⟨k, vol, file, ⟨#[]⟩, ⟨#[]⟩, at', 0, 0, data⟩
  dsimp only at heq
  generalize opEq _ _ = E at heq ⊢
  generalize hN : [vol, file].all nameB = N
  generalize hC0 : (decide (0 ≤ at') && decide (at' ≤ 100)) = C0
  generalize hC1 : (dataOkB data) = C1
  subst hk
  go_enter Try.func78, Try.ntmps78
  go_wp2_with fail
  refine (impl_namesOk _ 2 2 [vol, file] _ (strs_new _ [vol, file] _ _ (by simp) _ rfl) (by omega) (by intro x hx; simp at hx; rcases hx with rfl | rfl <;> first | exact hs.vol | exact hs.file)).mono ?_
  rintro e w1 ⟨rfl, rfl⟩
  rw [hN]
  cases N
  · go_wp2
    go_returns
    go_light
    exact ⟨by simp, by go_grown⟩
  · go_wp2_with fail
    refine (impl_lenOk at' 0 _).mono ?_
    rintro e w1 ⟨rfl, rfl⟩
    rw [hC0]
    cases C0
    · go_wp2
      go_returns
      go_light
      exact ⟨by simp, by go_grown⟩
    · go_wp2_with fail
      refine (impl_dataOk data _ hs.data).mono ?_
      rintro e w1 ⟨rfl, rfl⟩
      rw [hC1]
      cases C1
      · go_wp2
        go_returns
        go_light
        exact ⟨by simp, by go_grown⟩
      · go_wp2
        all_goals go_returns
        all_goals go_light
        all_goals exact ⟨by simp [], by go_grown⟩

set_option maxHeartbeats 2000000 in
set_option maxRecDepth 100000 in
theorem impl_OpOk3 (k : Int) (vol file to into : ByteArray) (at' fr ln : Int) (data : ByteArray) (w : World) (hs : StrO ⟨k, vol, file, to, into, at', fr, ln, data⟩) (hk : k = 3) :
    Calls Try.prog 78 #[.agg #[.int .i64 k, .string vol, .string file, .string to, .string into, .int .i64 at', .int .i64 fr, .int .i64 ln, .string data]] w fun e w' => e = .returned (.bool ([vol, file].all nameB && (decide (0 ≤ ln) && decide (ln ≤ 100) && (opEq ⟨k, vol, file, to, into, at', fr, ln, data⟩ ⟨k, vol, file, ⟨#[]⟩, ⟨#[]⟩, 0, 0, ln, ⟨#[]⟩⟩)))) ∧ Below w.heap.size w w' := by
  have heq := eqlOp ⟨k, vol, file, to, into, at', fr, ln, data⟩ ⟨k, vol, file, ⟨#[]⟩, ⟨#[]⟩, 0, 0, ln, ⟨#[]⟩⟩
  dsimp only at heq
  generalize opEq _ _ = E at heq ⊢
  generalize hN : [vol, file].all nameB = N
  generalize hC0 : (decide (0 ≤ ln) && decide (ln ≤ 100)) = C0
  subst hk
  go_enter Try.func78, Try.ntmps78
  go_wp2_with fail
  refine (impl_namesOk _ 2 2 [vol, file] _ (strs_new _ [vol, file] _ _ (by simp) _ rfl) (by omega) (by intro x hx; simp at hx; rcases hx with rfl | rfl <;> first | exact hs.vol | exact hs.file)).mono ?_
  rintro e w1 ⟨rfl, rfl⟩
  rw [hN]
  cases N
  · go_wp2
    go_returns
    go_light
    exact ⟨by simp, by go_grown⟩
  · go_wp2_with fail
    refine (impl_lenOk ln 0 _).mono ?_
    rintro e w1 ⟨rfl, rfl⟩
    rw [hC0]
    cases C0
    · go_wp2
      go_returns
      go_light
      exact ⟨by simp, by go_grown⟩
    · go_wp2
      all_goals go_returns
      all_goals go_light
      all_goals exact ⟨by simp [], by go_grown⟩

set_option maxHeartbeats 2000000 in
set_option maxRecDepth 100000 in
theorem impl_OpOk10 (k : Int) (vol file to into : ByteArray) (at' fr ln : Int) (data : ByteArray) (w : World) (hs : StrO ⟨k, vol, file, to, into, at', fr, ln, data⟩) (hk : k = 10) :
    Calls Try.prog 78 #[.agg #[.int .i64 k, .string vol, .string file, .string to, .string into, .int .i64 at', .int .i64 fr, .int .i64 ln, .string data]] w fun e w' => e = .returned (.bool ([vol, file].all nameB && (decide (0 ≤ at') && decide (at' ≤ 100) && (decide (1 ≤ ln) && decide (ln ≤ 100) && (opEq ⟨k, vol, file, to, into, at', fr, ln, data⟩ ⟨k, vol, file, ⟨#[]⟩, ⟨#[]⟩, at', 0, ln, ⟨#[]⟩⟩))))) ∧ Below w.heap.size w w' := by
  have heq := eqlOp ⟨k, vol, file, to, into, at', fr, ln, data⟩ ⟨k, vol, file, ⟨#[]⟩, ⟨#[]⟩, at', 0, ln, ⟨#[]⟩⟩
  dsimp only at heq
  generalize opEq _ _ = E at heq ⊢
  generalize hN : [vol, file].all nameB = N
  generalize hC0 : (decide (0 ≤ at') && decide (at' ≤ 100)) = C0
  generalize hC1 : (decide (1 ≤ ln) && decide (ln ≤ 100)) = C1
  subst hk
  go_enter Try.func78, Try.ntmps78
  go_wp2_with fail
  refine (impl_namesOk _ 2 2 [vol, file] _ (strs_new _ [vol, file] _ _ (by simp) _ rfl) (by omega) (by intro x hx; simp at hx; rcases hx with rfl | rfl <;> first | exact hs.vol | exact hs.file)).mono ?_
  rintro e w1 ⟨rfl, rfl⟩
  rw [hN]
  cases N
  · go_wp2
    go_returns
    go_light
    exact ⟨by simp, by go_grown⟩
  · go_wp2_with fail
    refine (impl_lenOk at' 0 _).mono ?_
    rintro e w1 ⟨rfl, rfl⟩
    rw [hC0]
    cases C0
    · go_wp2
      go_returns
      go_light
      exact ⟨by simp, by go_grown⟩
    · go_wp2_with fail
      refine (impl_lenOk ln 1 _).mono ?_
      rintro e w1 ⟨rfl, rfl⟩
      rw [hC1]
      cases C1
      · go_wp2
        go_returns
        go_light
        exact ⟨by simp, by go_grown⟩
      · go_wp2
        all_goals go_returns
        all_goals go_light
        all_goals exact ⟨by simp [], by go_grown⟩

set_option maxHeartbeats 2000000 in
set_option maxRecDepth 100000 in
theorem impl_OpOk5 (k : Int) (vol file to into : ByteArray) (at' fr ln : Int) (data : ByteArray) (w : World) (hs : StrO ⟨k, vol, file, to, into, at', fr, ln, data⟩) (hk : k = 5) :
    Calls Try.prog 78 #[.agg #[.int .i64 k, .string vol, .string file, .string to, .string into, .int .i64 at', .int .i64 fr, .int .i64 ln, .string data]] w fun e w' => e = .returned (.bool ([vol, file, to, into].all nameB && (decide (0 ≤ at') && decide (at' ≤ 100) && (decide (0 ≤ fr) && decide (fr ≤ 100) && (decide (1 ≤ ln) && decide (ln ≤ 100) && (zB data)))))) ∧ Below w.heap.size w w' := by
  generalize hN : [vol, file, to, into].all nameB = N
  generalize hC0 : (decide (0 ≤ at') && decide (at' ≤ 100)) = C0
  generalize hC1 : (decide (0 ≤ fr) && decide (fr ≤ 100)) = C1
  generalize hC2 : (decide (1 ≤ ln) && decide (ln ≤ 100)) = C2
  subst hk
  go_enter Try.func78, Try.ntmps78
  go_wp2_with fail
  refine (impl_namesOk _ 4 4 [vol, file, to, into] _ (strs_new _ [vol, file, to, into] _ _ (by simp) _ rfl) (by omega) (by intro x hx; simp at hx; rcases hx with rfl | rfl | rfl | rfl <;> first | exact hs.vol | exact hs.file | exact hs.to | exact hs.into)).mono ?_
  rintro e w1 ⟨rfl, rfl⟩
  rw [hN]
  cases N
  · go_wp2
    go_returns
    go_light
    exact ⟨by simp, by go_grown⟩
  · go_wp2_with fail
    refine (impl_lenOk at' 0 _).mono ?_
    rintro e w1 ⟨rfl, rfl⟩
    rw [hC0]
    cases C0
    · go_wp2
      go_returns
      go_light
      exact ⟨by simp, by go_grown⟩
    · go_wp2_with fail
      refine (impl_lenOk fr 0 _).mono ?_
      rintro e w1 ⟨rfl, rfl⟩
      rw [hC1]
      cases C1
      · go_wp2
        go_returns
        go_light
        exact ⟨by simp, by go_grown⟩
      · go_wp2_with fail
        refine (impl_lenOk ln 1 _).mono ?_
        rintro e w1 ⟨rfl, rfl⟩
        rw [hC2]
        cases C2
        · go_wp2
          go_returns
          go_light
          exact ⟨by simp, by go_grown⟩
        · go_wp2
          all_goals go_returns
          all_goals go_light
          all_goals exact ⟨by simp [zB], by go_grown⟩

set_option maxHeartbeats 2000000 in
set_option maxRecDepth 100000 in
theorem impl_OpOk9 (k : Int) (vol file to into : ByteArray) (at' fr ln : Int) (data : ByteArray) (w : World) (hk : k = 9) :
    Calls Try.prog 78 #[.agg #[.int .i64 k, .string vol, .string file, .string to, .string into, .int .i64 at', .int .i64 fr, .int .i64 ln, .string data]] w fun e w' => e = .returned (.bool (opEq ⟨k, vol, file, to, into, at', fr, ln, data⟩ ⟨k, ⟨#[]⟩, ⟨#[]⟩, ⟨#[]⟩, ⟨#[]⟩, 0, 0, 0, ⟨#[]⟩⟩)) ∧ Below w.heap.size w w' := by
  have heq := eqlOp ⟨k, vol, file, to, into, at', fr, ln, data⟩ ⟨k, ⟨#[]⟩, ⟨#[]⟩, ⟨#[]⟩, ⟨#[]⟩, 0, 0, 0, ⟨#[]⟩⟩
  dsimp only at heq
  generalize opEq _ _ = E at heq ⊢
  subst hk
  go_enter Try.func78, Try.ntmps78
  go_wp2
  go_returns
  go_light
  exact ⟨rfl, by go_grown⟩

set_option maxHeartbeats 2000000 in
set_option maxRecDepth 100000 in
theorem impl_OpOk0 (k : Int) (vol file to into : ByteArray) (at' fr ln : Int) (data : ByteArray) (w : World) (hk : ¬ (1 ≤ k ∧ k ≤ 10)) :
    Calls Try.prog 78 #[.agg #[.int .i64 k, .string vol, .string file, .string to, .string into, .int .i64 at', .int .i64 fr, .int .i64 ln, .string data]] w fun e w' => e = .returned (.bool false) ∧ Below w.heap.size w w' := by
  have h1 : k ≠ 1 := by omega
  have h2 : k ≠ 2 := by omega
  have h3 : k ≠ 3 := by omega
  have h4 : k ≠ 4 := by omega
  have h5 : k ≠ 5 := by omega
  have h6 : k ≠ 6 := by omega
  have h7 : k ≠ 7 := by omega
  have h8 : k ≠ 8 := by omega
  have h9 : k ≠ 9 := by omega
  have h10 : k ≠ 10 := by omega
  go_enter Try.func78, Try.ntmps78
  go_wp2
  go_returns
  go_light
  exact ⟨rfl, by go_grown⟩

theorem impl_OpOk (o : Opr) (w : World) (hs : StrO o) :
    Calls Try.prog 78 #[.agg #[.int .i64 o.k, .string o.vol, .string o.file, .string o.to, .string o.into, .int .i64 o.at', .int .i64 o.fr, .int .i64 o.ln, .string o.data]] w fun e w' => e = .returned (.bool (opB o)) ∧ Below w.heap.size w w' := by
  obtain ⟨k, vol, file, to, into, at', fr, ln, data⟩ := o
  by_cases hk : 1 ≤ k ∧ k ≤ 10
  · have hk' : k = 1 ∨ k = 2 ∨ k = 3 ∨ k = 4 ∨ k = 5 ∨ k = 6 ∨ k = 7 ∨ k = 8 ∨ k = 9 ∨ k = 10 := by omega
    rcases hk' with h | h | h | h | h | h | h | h | h | h
    · refine (impl_OpOk1 k vol file to into at' fr ln data w hs (by omega)).mono fun e w' ⟨h1, h2⟩ => ⟨by rw [h1]; subst h; simp [opB, opEq, zB, Bool.and_assoc], h2⟩
    · refine (impl_OpOk2 k vol file to into at' fr ln data w hs h).mono fun e w' ⟨h1, h2⟩ => ⟨by rw [h1]; subst h; simp [opB, opEq, zB, inB, Bool.and_assoc], h2⟩
    · refine (impl_OpOk3 k vol file to into at' fr ln data w hs h).mono fun e w' ⟨h1, h2⟩ => ⟨by rw [h1]; subst h; simp [opB, opEq, zB, inB, Bool.and_assoc], h2⟩
    · refine (impl_OpOk4 k vol file to into at' fr ln data w hs h).mono fun e w' ⟨h1, h2⟩ => ⟨by rw [h1]; subst h; simp [opB, opEq, zB, Bool.and_assoc], h2⟩
    · refine (impl_OpOk5 k vol file to into at' fr ln data w hs h).mono fun e w' ⟨h1, h2⟩ => ⟨by rw [h1]; subst h; simp [opB, zB, inB, Bool.and_assoc], h2⟩
    · refine (impl_OpOk6 k vol file to into at' fr ln data w hs h).mono fun e w' ⟨h1, h2⟩ => ⟨by rw [h1]; subst h; simp [opB, opEq, zB, Bool.and_assoc], h2⟩
    · refine (impl_OpOk1 k vol file to into at' fr ln data w hs (by omega)).mono fun e w' ⟨h1, h2⟩ => ⟨by rw [h1]; subst h; simp [opB, opEq, zB, Bool.and_assoc], h2⟩
    · refine (impl_OpOk1 k vol file to into at' fr ln data w hs (by omega)).mono fun e w' ⟨h1, h2⟩ => ⟨by rw [h1]; subst h; simp [opB, opEq, zB, Bool.and_assoc], h2⟩
    · refine (impl_OpOk9 k vol file to into at' fr ln data w h).mono fun e w' ⟨h1, h2⟩ => ⟨by rw [h1]; subst h; simp [opB, opEq, zB, Bool.and_assoc], h2⟩
    · refine (impl_OpOk10 k vol file to into at' fr ln data w hs h).mono fun e w' ⟨h1, h2⟩ => ⟨by rw [h1]; subst h; simp [opB, opEq, zB, inB, Bool.and_assoc], h2⟩
  · refine (impl_OpOk0 k vol file to into at' fr ln data w hk).mono fun e w' ⟨h1, h2⟩ => ⟨by rw [h1]; refine ret_bool (Eq.symm ?_); unfold opB; dsimp only; repeat (rw [if_neg (by omega)]), h2⟩
end Go.Proofs.Ytbjejnkeekndbaa
