/- Two drawn owners. -/
import Derived.Test.YtbmkedickkpjjaaProg
import Derived.Test.YtbmkedickkpjjaaDb
namespace Go.Proofs.Ytbmkedickkpjjaa
open Go.RowKit Go.BigFrame

theorem Blk.aside {w : World} {b : Nat} {c : Array Value} {t : TypeId} (h : Blk w b c t) (p : Addr) (v : Value) (hp : b ≠ p.block) : Blk (w.setCell p v) b c t := by
  unfold Blk at *; rw [Below.heap_setCell _ _ _ _ (by simpa using hp)]; exact h

/-- Two results, each a struct in a block of its own. -/
theorem results_cell2 {P : Program} {fn : Func} {p q : Tmp} {ty ty' : TypeId} (h : fn.results = #[.cell p ty, .cell q ty']) (tmps : Array Value) (w : World) (g : Nat) (t : TypeId) (cs : Array Value) (g' : Nat) (t' : TypeId) (cs' : Array Value) (d d' : TypeDesc)
    (hp : tmps.getD p undef = .pointer (some ⟨g, 0, none⟩)) (hq : tmps.getD q undef = .pointer (some ⟨g', 0, none⟩)) (hg : Blk w g cs t) (hg' : Blk w g' cs' t')
    (hu : P.underlying ty = some d) (hu' : P.underlying ty' = some d') (hd : (match d with | .struct _ | .array _ _ => true | _ => false) = true) (hd' : (match d' with | .struct _ | .array _ _ => true | _ => false) = true) (hi : (P.info? ty).map (·.size) = some cs.size) (hi' : (P.info? ty').map (·.size) = some cs'.size) :
    (results fn tmps).run P w = .ok (.tuple #[.agg cs, .agg cs']) w := by
  have hp' : tmps[p]?.getD undef = .pointer (some ⟨g, 0, none⟩) := by simpa using hp
  have hq' : tmps[q]?.getD undef = .pointer (some ⟨g', 0, none⟩) := by simpa using hq
  simp [results, h, hp', hq', asAddr, run_loadVar_row w g t ty cs _ d hg hu hd hi, run_loadVar_row w g' t' ty' cs' _ d' hg' hu' hd' hi']

set_option maxHeartbeats 2000000 in
set_option maxRecDepth 100000 in
theorem spec_DrawOwnerAhead (a : Option Addr) (n cap : Nat) (w : World) (h : CodeAt w a n) (hn : n ≤ 1048576) :
    Calls Try.prog 74 #[.slice a n cap] w fun e w' => (∃ o p : Ow, e = .returned (.tuple #[.agg #[.int .i64 o.a, .int .i64 o.v, .string o.f], .agg #[.int .i64 p.a, .int .i64 p.v, .string p.f]]) ∧ o.f.size ≤ 1 ∧ p.f.size ≤ 1) ∧ Below w.heap.size w w' := by
  go_enter Try.func74, Try.ntmps74
  go_wp2_with fail
  refine (spec_l1Open a n cap _ (h.below (by go_grown)) hn).mono ?_
  rintro e w1 ⟨rfl, hR1, hB1⟩
  have hb1 : Blk w1 w.heap.size #[.int .i64 0, .int .i64 0, .string ⟨#[]⟩] 64 := ((Blk.new w _ _).alloc _).below hB1
  have hb2 : Blk w1 (w.heap.size + 1) #[.int .i64 0, .int .i64 0, .string ⟨#[]⟩] 64 := by
    have := (Blk.new (w.alloc (.cells #[.int .i64 0, .int .i64 0, .string ⟨#[]⟩] 64)) #[.int .i64 0, .int .i64 0, .string ⟨#[]⟩] 64).below hB1
    simpa using this
  replace hB1 : Below w.heap.size w w1 := chain (by go_grown) hB1
  simp only [World.size_alloc] at hR1
  clear h
  go_wp2_with fail
  refine (spec_owner (w.heap.size + 1 + 1) _ hR1).mono ?_
  rintro e w2 ⟨⟨o, rfl, ho⟩, hR2, hg2⟩
  replace hb1 := hb1.grown hg2 (by omega)
  replace hb2 := hb2.grown hg2 (by omega)
  have hB2 : Below w.heap.size w w2 := below_grown hB1 hg2 (by omega)
  have hlt2 := hR2.lt
  clear hB1 hR1 hg2
  go_wp2_with fail
  have hR0 := hR2.below ((Below.refl w2.heap.size w2).alloc (Nat.le_refl _) (.cells #[.int .i64 o.a, .int .i64 o.v, .string o.f] 64))
  have hA := Blk.new w2 #[.int .i64 o.a, .int .i64 o.v, .string o.f] 64
  have hb10 := hb1.alloc (.cells #[.int .i64 o.a, .int .i64 o.v, .string o.f] 64)
  have hb20 := hb2.alloc (.cells #[.int .i64 o.a, .int .i64 o.v, .string o.f] 64)
  have hB0 := hB2.alloc hB2.size (.cells #[.int .i64 o.a, .int .i64 o.v, .string o.f] 64)
  clear hR2 hb1 hb2 hB2
  generalize hk2 : w2.heap.size = k2 at *
  generalize w2.alloc (.cells #[.int .i64 o.a, .int .i64 o.v, .string o.f] 64) = W0 at *
  clear hk2
  have x0 : W0.cell? ⟨k2, 0, none⟩ = some (.int .i64 o.a) := hA.cell 0
  have x1 : W0.cell? ⟨k2, 1, none⟩ = some (.int .i64 o.v) := hA.cell 1
  have x2 : W0.cell? ⟨k2, 2, none⟩ = some (.string o.f) := hA.cell 2
  have hRd := hR0.below ((Below.refl W0.heap.size W0).drew)
  have hAd := hA.drew
  have hb1d := hb10.drew
  have hb2d := hb20.drew
  go_region_with (go_at_call 143; refine (spec_owner (w.heap.size + 1 + 1) _ hRd).mono ?_; rintro e w3 ⟨⟨q, rfl, hq⟩, hR3, hg3⟩; have hA3 := hAd.grown hg3 (by omega); have b13 := hb1d.grown hg3 (by omega); have b23 := hb2d.grown hg3 (by omega); have d0 := hA3.cell 0; have d1 := hA3.cell 1; have d2 := hA3.cell 2; have p0 := b13.cell 0; have p1 := b13.cell 1; have p2 := b13.cell 2; have q0 := b23.cell 0; have q1 := b23.cell 1; have q2 := b23.cell 2; simp only [List.getElem?_toArray, List.getElem?_cons_zero, List.getElem?_cons_succ] at d0 d1 d2 p0 p1 p2 q0 q1 q2; have f0 := b13.frozen 0; have f1 := b13.frozen 1; have f2 := b13.frozen 2; have g0 := b23.frozen 0; have g1 := b23.frozen 1; have g2 := b23.frozen 2)
  all_goals
    have hW1 := ((((((b13.set 0 (.int .i64 o.a)).set 1 (.int .i64 o.v)).set 2 (.string o.f)).aside ⟨w.heap.size + 1, 0, none⟩ (.int .i64 q.a) (by simp)).aside ⟨w.heap.size + 1, 1, none⟩ (.int .i64 q.v) (by simp)).aside ⟨w.heap.size + 1, 2, none⟩ (.string q.f) (by simp))
    have hW2 := ((((((b23.aside ⟨w.heap.size, 0, none⟩ (.int .i64 o.a) (by simp)).aside ⟨w.heap.size, 1, none⟩ (.int .i64 o.v) (by simp)).aside ⟨w.heap.size, 2, none⟩ (.string o.f) (by simp)).set 0 (.int .i64 q.a)).set 1 (.int .i64 q.v)).set 2 (.string q.f))
    have hBW : Below w.heap.size w ((((((w3.setCell ⟨w.heap.size, 0, none⟩ (.int .i64 o.a)).setCell ⟨w.heap.size, 1, none⟩ (.int .i64 o.v)).setCell ⟨w.heap.size, 2, none⟩ (.string o.f)).setCell ⟨w.heap.size + 1, 0, none⟩ (.int .i64 q.a)).setCell ⟨w.heap.size + 1, 1, none⟩ (.int .i64 q.v)).setCell ⟨w.heap.size + 1, 2, none⟩ (.string q.f)) := by
      have h3 : Below w.heap.size w w3 := below_grown (hB0.drew) hg3 (by omega)
      refine (((((h3.setCell ?_ _).setCell ?_ _).setCell ?_ _).setCell ?_ _).setCell ?_ _).setCell ?_ _
      all_goals (simp; try omega)
    clear hA3 b13 b23 d0 d1 d2 p0 p1 p2 q0 q1 q2 f0 f1 f2 g0 g1 g2 hR0 hRd hAd hb1d hb2d hb10 hb20 hB0 hA x0 x1 x2 hR3 hg3
    generalize ((((((w3.setCell ⟨w.heap.size, 0, none⟩ (.int .i64 o.a)).setCell ⟨w.heap.size, 1, none⟩ (.int .i64 o.v)).setCell ⟨w.heap.size, 2, none⟩ (.string o.f)).setCell ⟨w.heap.size + 1, 0, none⟩ (.int .i64 q.a)).setCell ⟨w.heap.size + 1, 1, none⟩ (.int .i64 q.v)).setCell ⟨w.heap.size + 1, 2, none⟩ (.string q.f)) = W6 at *
    go_wp2
    refine bodyPost_ret (results_cell2 rfl _ W6 w.heap.size _ _ (w.heap.size + 1) _ _ _ _ rfl rfl hW1 hW2 Try.underlying64 Try.underlying64 rfl rfl (by kernel_rfl) (by kernel_rfl)) rfl ?_
    exact ⟨⟨o, q, by simp, ho, hq⟩, hBW⟩
end Go.Proofs.Ytbmkedickkpjjaa
