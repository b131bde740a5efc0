/- What is done to a file's parts, by the model: all kinds together. -/
import Derived.Test.YtnjefbkhibfgmaaGreatLDAskedx24
import Derived.Test.YtnjefbkhibfgmaaGreatLDAskedx26
import Derived.Test.YtnjefbkhibfgmaaGreatLDAskedx28
import Derived.Test.YtnjefbkhibfgmaaGreatLDAskedx11
namespace Go.Proofs.YtnjefbkhibfgmaaGreat
open Go Go.RowKit Go.BigFrame
theorem ggo_bd {size : Int} : ∀ {L : List Ex} {next : Int}, xgo size next L = true → 1 ≤ next → ∀ x ∈ ggo size next L, 1 ≤ x.1 ∧ x.1 ≤ size
  | [], next, _, h1, x, hx => by
    unfold ggo at hx
    split at hx
    · simp at hx; subst hx; exact ⟨h1, by assumption⟩
    · cases hx
  | e :: r, next, h, h1, x, hx => by
    simp only [xgo, Bool.and_eq_true, decide_eq_true_eq] at h
    have hpos := dataOkB_pos h.1.1.1
    unfold ggo at hx
    rcases List.mem_append.1 hx with hx | hx
    · split at hx
      · simp at hx; subst hx; simp only; omega
      · cases hx
    · exact ggo_bd h.2 (by omega) x hx
theorem placed_bd {size a : Int} {l L : List Ex} {d : ByteArray} (h : placedO size l d = some (L, a)) : 1 ≤ a ∧ a ≤ 400 := by
  unfold placedO at h
  split at h
  · rename_i hc
    obtain ⟨s1, s2, _, hx⟩ := ok_parts hc.1
    cases hf : (ggo size 1 l).find? (fun x => decide ((d.size : Int) ≤ x.2)) with
    | none => rw [hf] at h; simp at h
    | some y =>
      rw [hf] at h
      simp at h
      have := ggo_bd hx (by omega) y (List.mem_of_find?_eq_some hf)
      omega
  · cases h
theorem slp_len {fr to : Int} : ∀ {l : List Pt} {st : Int}, (slp fr to st l).length ≤ l.length
  | [], _ => Nat.le_refl _
  | p :: r, st => by
    have := slp_len (fr := fr) (to := to) (l := r) (st := st + p.n)
    unfold slp
    split
    · simp only [List.length_cons]; omega
    · simp only [List.length_cons]; omega
theorem joinL_len2 : ∀ {m l : List Pt}, (joinL l m).length ≤ l.length + m.length
  | [], l => Nat.le_refl _
  | p :: r, l => by
    have h1 := joinL_len2 (m := r) (l := addL l p)
    have h2 := addL_len l p
    show (joinL (addL l p) r).length ≤ _
    simp only [List.length_cons]
    omega
theorem slice_ok2 {q : List Pt} (h : partsOkB q = true) (fr to : Int) : partsOkB (joinL [] (slp fr to 0 q)) = true := by
  have h16 := (partsOkB_all h).1
  have hl := slp_len (fr := fr) (to := to) (l := q) (st := 0)
  have hm : partsOkB (slp fr to 0 q) = true := by
    unfold partsOkB
    rw [slice_pgo h fr to]
    simp
    omega
  rw [partsOkB_join (l := []) rfl hm]
  have hs := (partsOkB_all hm).2.2
  have hj := joinL_len2 (m := slp fr to 0 q) (l := [])
  simp only [List.length_nil] at hj
  simp [sumN]
  omega
theorem spec_l6File (B : Nat) (hB0 : 0 < B) (v : Value) (p : Po) (o : Opr) (w : World) (h : PoolT B w v p) (hNn : NnE v) (hBw : B ≤ w.heap.size) (hd : DimP p) (hp : poolB p = true) (hop : opB o = true) (hk : o.k = 2 ∨ o.k = 3 ∨ o.k = 5 ∨ o.k = 10) :
    Calls Tryz.prog 108 #[v, .agg #[.int .i64 o.k, .string o.vol, .string o.file, .string o.to, .string o.into, .int .i64 o.at', .int .i64 o.fr, .int .i64 o.ln, .string o.data]] w fun e w' => (∃ v' c, e = .returned (.tuple #[v', .int .i64 c]) ∧ PoolV v' ∧ c = (fileS p o).1 ∧ (c = 0 → PoolT B w' v' (fileS p o).2 ∧ (partsS p o).2.2.length ≤ 1000)) ∧ Below B w w' ∧ FrV w w' := by
  by_cases h5 : o.k = 5
  · have hop' := hop
    simp [opB, h5, inB] at hop'
    cases hso : volI p.vs o.to with
    | none => exact spec_l6File_goneC B hB0 v p o w h hNn hBw hd hp h5 hso
    | some i =>
      have hx : p.vs[i]? = some (p.vs[i]'(volI_lt hso)) := by simp [volI_lt hso]
      cases hf : (p.vs[i]'(volI_lt hso)).fx with
      | true => exact spec_l6File_fixedC B hB0 v p o w h hNn hBw hd hp h5 i hso (fun x e => by rw [hx] at e; cases e; exact hf)
      | false =>
        have hfx : ∀ x : Vo, p.vs[i]? = some x → x.fx = false := fun x e => by rw [hx] at e; cases e; exact hf
        cases hs : partsO p.vs o.vol o.file with
        | none => exact spec_l6File_copyNone B hB0 v p o w h hNn hBw hd hp h5 i hso hfx hs
        | some q =>
          by_cases hg : sumN q < o.fr + o.ln
          · exact spec_l6File_copyFar B hB0 v p o w h hNn hBw hd hp h5 i hso hfx q hs (by omega) (by omega) hg
          · exact spec_l6File_copy B hB0 v p o w h hNn hBw hd hp h5 i hso hfx q hs (by omega) (by omega) (by omega) hg (slice_ok2 (parts_right hp hs).1 _ _)
  · cases hso : volI p.vs o.vol with
    | none => exact spec_l6File_gone B hB0 v p o w h hNn hBw hd hp h5 hso
    | some i =>
      have hx : p.vs[i]? = some (p.vs[i]'(volI_lt hso)) := by simp [volI_lt hso]
      cases hf : (p.vs[i]'(volI_lt hso)).fx with
      | true => exact spec_l6File_fixed B hB0 v p o w h hNn hBw hd hp h5 i hso (fun x e => by rw [hx] at e; cases e; exact hf)
      | false =>
        have hfx : ∀ x : Vo, p.vs[i]? = some x → x.fx = false := fun x e => by rw [hx] at e; cases e; exact hf
        rcases hk with h1 | h1 | h1 | h1
        · have hop' := hop
          simp [opB, h1, inB] at hop'
          cases hpl : placedO p.size p.ex o.data with
          | none => exact spec_l6File_full B hB0 v p o w h hNn hBw hd hp h1 i hso hfx (by simp [hop']) hpl
          | some La =>
            obtain ⟨L, a⟩ := La
            exact spec_l6File_write B hB0 v p o w h hNn hBw hd hp h1 i hso hfx (by simp [hop']) (by omega) L a (placed_bd hpl) hpl
        · have hop' := hop
          simp [opB, h1, inB] at hop'
          cases hs : partsO p.vs o.vol o.file with
          | none => exact spec_l6File_cutNone B hB0 v p o w h hNn hBw hd hp h1 i hso hfx hs
          | some q =>
            by_cases hg : sumN q < o.ln
            · exact spec_l6File_cutMore B hB0 v p o w h hNn hBw hd hp h1 i hso hfx q hs (by omega) hg
            · exact spec_l6File_cutLess B hB0 v p o w h hNn hBw hd hp h1 i hso hfx q hs (by omega) hg
        · exact absurd h1 h5
        · have hop' := hop
          simp [opB, h1, inB] at hop'
          cases hs : partsO p.vs o.vol o.file with
          | none => exact spec_l6File_punchNone B hB0 v p o w h hNn hBw hd hp h1 i hso hfx hs
          | some q => exact spec_l6File_punch B hB0 v p o w h hNn hBw hd hp h1 i hso hfx q hs (by omega) (by omega)
end Go.Proofs.YtnjefbkhibfgmaaGreat
namespace Go.Proofs.YtnjefbkhibfgmaaGreat
open Go Go.RowKit
theorem addC_own {c : Ct} : ∀ {l : List Ct} {x : Ct}, x ∈ addC l c → x.o = c.o ∨ ∃ d ∈ l, x.o = d.o
  | [], x, h => by simp [addC] at h; subst h; exact .inl rfl
  | y :: r, x, h => by
    unfold addC at h
    split at h
    · rcases List.mem_cons.1 h with rfl | h
      · exact .inr ⟨x, by simp, rfl⟩
      · rcases addC_own h with h | ⟨d, hd, h⟩
        · exact .inl h
        · exact .inr ⟨d, by simp [hd], h⟩
    · split at h
      · split at h
        · rcases List.mem_cons.1 h with rfl | h
          · exact .inl rfl
          · exact .inr ⟨x, by simp [h], rfl⟩
        · exact .inr ⟨x, by simp [h], rfl⟩
      · rcases List.mem_cons.1 h with rfl | h
        · exact .inl rfl
        · exact .inr ⟨x, h, rfl⟩
theorem sumC_own : ∀ {m l : List Ct} {x : Ct}, x ∈ sumC l m → (∃ d ∈ l, x.o = d.o) ∨ ∃ d ∈ m, x.o = d.o
  | [], l, x, h => .inl ⟨x, h, rfl⟩
  | c :: r, l, x, h => by
    rcases sumC_own (m := r) (l := addC l c) h with ⟨d, hd, h⟩ | ⟨d, hd, h⟩
    · rcases addC_own hd with h' | ⟨y, hy, h'⟩
      · exact .inr ⟨c, by simp, h.trans h'⟩
      · exact .inl ⟨y, hy, h.trans h'⟩
    · exact .inr ⟨d, by simp [hd], h⟩
theorem walk_str {l : List Vo} (h : StrV l) : StrC (walkL l) := by
  intro c hc
  rcases sumC_own hc with ⟨d, hd, _⟩ | ⟨d, hd, e⟩
  · cases hd
  · rw [e]
    unfold allCs at hd
    obtain ⟨v, hv, hd⟩ := List.mem_flatMap.1 hd
    unfold volCs at hd
    obtain ⟨x, hx, hd⟩ := List.mem_flatMap.1 hd
    unfold partCs at hd
    obtain ⟨p, _, rfl⟩ := List.mem_map.1 hd
    exact ((h v hv).2.2 x hx).1
theorem sum_str {l m : List Ct} (hl : StrC l) (hm : StrC m) : StrC (sumC l m) := by
  intro c hc
  rcases sumC_own hc with ⟨d, hd, e⟩ | ⟨d, hd, e⟩
  · rw [e]; exact hl d hd
  · rw [e]; exact hm d hd
theorem neg_str {l : List Ct} (h : StrC l) : StrC (negC l) := by
  intro c hc
  obtain ⟨d, hd, rfl⟩ := List.mem_map.1 hc
  exact h d hd
theorem pool_right {p : Po} (h : poolB p = true) : spaceOkB p.size p.ex = true ∧ (1 ≤ p.next ∧ p.next ≤ 1000000000) ∧ TinyV p.vs ∧ refsOkB p.rf = true ∧ lateOkB p.lt = true := by
  unfold poolB at h
  simp only [Bool.and_eq_true, decide_eq_true_eq] at h
  obtain ⟨⟨⟨⟨⟨⟨h1, h2⟩, h3⟩, h4⟩, _⟩, h6⟩, _⟩ := h
  simp only [volsB, Bool.and_eq_true, decide_eq_true_eq] at h4
  refine ⟨h1, ⟨h2, h3⟩, tiny_of h4.1 h4.2, ?_⟩
  unfold flushedO at h6
  split at h6
  · cases h6
  · rename_i s hs
    split at hs
    · rename_i hh; exact hh
    · cases hs
def WS (l : List Vo) : Prop := WideV l ∧ StrV l
def ItOk (x : It) : Prop := x.nm.size ≤ 9223372036854775807 ∧ x.ps.length ≤ 1000 ∧ NonN x.ps
def VoOk (v : Vo) : Prop := v.nm.size ≤ 9223372036854775807 ∧ v.its.length ≤ 6 ∧ ∀ x ∈ v.its, ItOk x
theorem ws_of {l : List Vo} (h7 : l.length ≤ 7) (h : ∀ v ∈ l, VoOk v) : WS l :=
  ⟨⟨h7, fun v hv => ⟨(h v hv).2.1, fun x hx => ⟨((h v hv).2.2 x hx).2.1, ((h v hv).2.2 x hx).2.2⟩⟩⟩, fun v hv => ⟨(h v hv).1, by have := (h v hv).2.1; omega, fun x hx => ⟨((h v hv).2.2 x hx).1, by have := ((h v hv).2.2 x hx).2.1; omega⟩⟩⟩
theorem vo_tiny {l : List Vo} (h : TinyV l) (hs : StrV l) : ∀ v ∈ l, VoOk v ∧ v.its.length ≤ 5 := fun v hv =>
  ⟨⟨(hs v hv).1, by have := (h.2 v hv).1; omega, fun x hx => ⟨((hs v hv).2.2 x hx).1, by have := ((h.2 v hv).2 x hx).1; omega, ((h.2 v hv).2 x hx).2⟩⟩, (h.2 v hv).1⟩
theorem parts_nn {p : Po} {o : Opr} (hp : poolB p = true) : NonN (partsS p o).2.2 := by
  have hq : ∀ {vol file : ByteArray}, NonN ((partsO p.vs vol file).getD []) := fun {vol file} => nn_ok (ok_getD hp)
  unfold partsS
  simp only
  split
  · split
    · exact nn_nil
    · rename_i l a hpl
      refine laidJ_nn hq (fun q hq' => ?_)
      simp at hq'
      subst hq'
      have := placed_bd hpl
      simp only
      omega
  · split
    · split
      · exact nn_nil
      · rename_i src hs
        split
        · exact nn_nil
        · exact laidJ_nn hq (joinL_nn nn_nil (slp_nn (nn_ok (parts_right hp hs).1)))
    · split
      · exact nn_nil
      · rename_i q hs
        have hn : NonN q := nn_ok (parts_right hp hs).1
        split
        · exact laidJ_nn hn (fun q hq' => by simp at hq'; subst hq'; exact Int.le_refl _)
        · split
          · exact laidJ_nn hn (fun q hq' => by simp at hq'; subst hq'; exact Int.le_refl _)
          · exact joinL_nn nn_nil (slp_nn hn)
theorem file_ok {p : Po} {o : Opr} (hp : poolB p = true) (hd : DimP p) (hf : o.file.size ≤ 9223372036854775807) (hi : o.into.size ≤ 9223372036854775807) (hl : (partsS p o).2.2.length ≤ 1000) : WS (fileS p o).2.vs := by
  obtain ⟨_, _, ht, _⟩ := pool_right hp
  have hv := vo_tiny ht hd.2.2.2.1
  have hbase : WS p.vs := ws_of (by have := ht.1; omega) (fun v h => (hv v h).1)
  unfold fileS
  simp only
  split
  · exact hbase
  · split
    · exact hbase
    · rename_i i _ v hvi
      split
      · exact hbase
      · split
        · refine ws_of (by rw [List.length_set]; have := ht.1; omega) (fun u hu => ?_)
          rcases List.mem_or_eq_of_mem_set hu with hu | rfl
          · exact (hv u hu).1
          · have hv' := hv v (List.mem_of_getElem? hvi)
            refine ⟨hv'.1.1, ?_, fun x hx => ?_⟩
            · have := setI_len ⟨if o.k = 5 then o.into else o.file, (partsS p o).2.2⟩ v.its
              simp only
              omega
            · rcases setI_mem hx with rfl | hx
              · refine ⟨?_, hl, parts_nn hp⟩
                simp only
                split <;> assumption
              · exact hv'.1.2.2 x hx
        · exact hbase
theorem vol_ok {p : Po} {o : Opr} (hp : poolB p = true) (hd : DimP p) (hv0 : o.vol.size ≤ 9223372036854775807) (ht0 : o.to.size ≤ 9223372036854775807) : WS (volS p o).2.vs := by
  obtain ⟨_, _, ht, _⟩ := pool_right hp
  have hv := vo_tiny ht hd.2.2.2.1
  have h6 := ht.1
  have hbase : WS p.vs := ws_of (by omega) (fun v h => (hv v h).1)
  have hset : ∀ (i : Nat) (y : Vo), VoOk y → WS (p.vs.set i y) := fun i y hy => ws_of (by rw [List.length_set]; omega) (fun u hu => by
    rcases List.mem_or_eq_of_mem_set hu with hu | rfl
    · exact (hv u hu).1
    · exact hy)
  have hadd : ∀ y : Vo, VoOk y → WS (p.vs ++ [y]) := fun y hy => ws_of (by simp; omega) (fun u hu => by
    rcases List.mem_append.1 hu with hu | hu
    · exact (hv u hu).1
    · simp at hu; subst hu; exact hy)
  unfold volS
  split
  · split
    · exact hadd _ ⟨hv0, by simp, fun x hx => by cases hx⟩
    · exact hbase
  · split
    · exact hbase
    · rename_i i _ v hvi
      have hvo := (hv v (List.mem_of_getElem? hvi)).1
      split
      · exact hbase
      · split
        · split
          · exact hbase
          · exact hadd _ ⟨ht0, hvo.2.1, hvo.2.2⟩
        · split
          · refine ws_of (by simp; omega) (fun u hu => ?_)
            rcases List.mem_append.1 hu with hu | hu
            · exact (hv u (List.mem_of_mem_take hu)).1
            · exact (hv u (List.mem_of_mem_drop hu)).1
          · split
            · split
              · exact hbase
              · exact hset _ _ ⟨hvo.1, hvo.2.1, hvo.2.2⟩
            · split
              · split
                · exact hbase
                · split
                  · exact hbase
                  · refine hset _ _ ⟨hvo.1, ?_, fun x hx => ?_⟩
                    · have := hvo.2.1
                      simp only [List.length_append, List.length_take, List.length_drop]
                      omega
                    · rcases List.mem_append.1 hx with hx | hx
                      · exact hvo.2.2 x (List.mem_of_mem_take hx)
                      · exact hvo.2.2 x (List.mem_of_mem_drop hx)
              · exact hbase
end Go.Proofs.YtnjefbkhibfgmaaGreat
