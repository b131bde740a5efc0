/- A pool read by the program: what panics is met. A text read by both: the law's walk. -/
import Derived.Defers
import Derived.Recover
import Derived.Test.YtigldeccfpkdmaaGreatDoorCReadPoolx41
import Derived.Test.YtigldeccfpkdmaaGreatDoorCReadPoolx28
import Derived.Test.YtigldeccfpkdmaaGreatDoorCReadPoolx26
import Derived.Test.YtigldeccfpkdmaaGreatDoorCReadPoolx29
namespace Go.Proofs.YtigldeccfpkdmaaGreatDoor
open Go Go.RowKit Go.BigFrame
set_option maxHeartbeats 4000000 in
set_option maxRecDepth 100000 in
theorem catch_panics (b1 b2 : Nat) (u : TypeId) (pv : Value) (older : List PanicEntry) (c0 c1 c2 c3 c4 c5 d : Value) (w : World) (hP : Blk w b1 #[c0, c1, c2, c3, c4, c5] tPo) (hO : Blk w b2 #[d] 4) (hne : b1 ≠ b2) :
    CallsD Tryz.prog 38 #[.pointer (some ⟨b1, 0, none⟩), .pointer (some ⟨b2, 0, none⟩)] (.panicking ({ v := .iface u pv, recovered := false } :: older)) w fun e u' w' =>
      e = .returned (.tuple #[]) ∧ u' = .panicking ({ v := .iface u pv, recovered := true } :: older) ∧ w' = (put6 w b1 (.int .i64 0) (.int .i64 0) (.slice none 0 0) (.slice none 0 0) (.slice none 0 0) (.slice none 0 0)).setCell ⟨b2, 0, none⟩ (.bool false) := by
  obtain ⟨e0, e1, e2, e3, e4, e5⟩ := blk6 hP
  have f0 := hP.frozen 0
  have f1 := hP.frozen 1
  have f2 := hP.frozen 2
  have f3 := hP.frozen 3
  have f4 := hP.frozen 4
  have f5 := hP.frozen 5
  have o0 := hO.cell 0
  have o1 := hO.frozen 0
  refine callsD_of_wpS Tryz.func38 rfl fun c₀ cs hu => ?_
  apply wpS_seq
  apply wpS_region
  simp [wpOpsS, go_sem, recoverD, hu, Tryz.ntmps38, Exit.thenS]
  refine wpS_cond (t := true) (by simp [Act.eval, Array.replicate]) ?_
  simp only [if_true]
  refine wpS_of_wp ?_
  rw [show (#[Value.pointer (some ⟨b1, 0, none⟩), Value.pointer (some ⟨b2, 0, none⟩)] ++ ((Array.replicate 3 undef).setIfInBounds 0 (Value.iface u pv)).setIfInBounds 1 (Value.bool true)) = #[Value.pointer (some ⟨b1, 0, none⟩), Value.pointer (some ⟨b2, 0, none⟩), Value.iface u pv, Value.bool true, undef] from rfl]
  go_wp2
  exact ⟨rfl, _, rfl, .tuple #[], by simp [results, Tryz.results38], rfl, rfl, rfl⟩
set_option maxHeartbeats 4000000 in
theorem catch_rests (b1 b2 : Nat) (w : World) :
    CallsD Tryz.prog 38 #[.pointer (some ⟨b1, 0, none⟩), .pointer (some ⟨b2, 0, none⟩)] .returning w fun e u' w' => e = .returned (.tuple #[]) ∧ u' = .returning ∧ w' = w := by
  refine callsD_of_wpS Tryz.func38 rfl fun c₀ cs hu => ?_
  apply wpS_seq
  apply wpS_region
  simp [wpOpsS, go_sem, recoverD, hu, Tryz.ntmps38, Exit.thenS]
  refine wpS_cond (t := false) (by simp [Act.eval, Array.replicate]) ?_
  simp only [Bool.false_eq_true, if_false]
  refine wpS_of_wp (wp_skip ?_)
  cases c₀
  simp_all [bodyPostS, results, Tryz.results38]
theorem PoolM.boxT {B : Nat} {w w' : World} {row : Option Nat} {v : Value} {p : Po} (h : PoolM B w v p) (hg : w.grownBy w' row) (hr : RowTy w row 4) : PoolM B w' v p := by
  obtain ⟨ea, en, ec, va, vn, vc, ra, rn, rc, la, ln, lc, vr, e, h1, h2, h3, h4, h5, h6, h7, h8⟩ := h.out
  exact ⟨ea, en, ec, va, vn, vc, ra, rn, rc, la, ln, lc, vr, e, h1.ty hg hr (by decide), h2.ty hg hr (by decide), h3.ty hg hr (by decide), h4.ty hg hr (by decide), h5, h6.imp fun _ _ _ h => h.ty hg hr (by decide) (by decide), h7, h8⟩
theorem load_bool (g : Nat) (b : Bool) (w : World) (h : Blk w g #[.bool b] 4) : (loadVar 4 ⟨g, 0, none⟩).run Tryz.prog w = .ok (.bool b) w := by
  have c := h.cell 0
  simp at c
  simp [loadVar, go_sem, c, Tryz.isAgg4]
theorem results_two (tmps : Array Value) (w : World) (g g' : Nat) (cs : Array Value) (b : Bool) (hp : tmps.getD 2 undef = .pointer (some ⟨g, 0, none⟩)) (hq : tmps.getD 3 undef = .pointer (some ⟨g', 0, none⟩)) (hg : Blk w g cs tPo) (hs : cs.size = 6) (hg' : Blk w g' #[.bool b] 4) :
    (results Tryz.f10 tmps).run Tryz.prog w = .ok (.tuple #[.agg cs, .bool b]) w := by
  have hp' : tmps[2]?.getD undef = .pointer (some ⟨g, 0, none⟩) := by simpa using hp
  have hq' : tmps[3]?.getD undef = .pointer (some ⟨g', 0, none⟩) := by simpa using hq
  have hi : (Tryz.prog.info? tPo).map (·.size) = some cs.size := by rw [hs]; kernel_rfl
  simp [results, hp', hq', asAddr, run_loadVar_row w g tPo tPo cs _ _ hg Tryz.underlying26 rfl hi, load_bool g' b w hg']
/-- A panic is met: nothing is answered. -/
theorem door_pan {w u : World} {tmps : Array Value} {tp : TypeId} {pe c0 c1 c2 c3 c4 c5 d : Value} (hP : Blk u w.heap.size #[c0, c1, c2, c3, c4, c5] tPo) (hO : Blk u (w.heap.size + 1) #[d] 4) (hB : Below w.heap.size w u) (h2 : tmps.getD 2 undef = .pointer (some ⟨w.heap.size, 0, none⟩)) (h3 : tmps.getD 3 undef = .pointer (some ⟨w.heap.size + 1, 0, none⟩)) :
    Leaves Tryz.prog Tryz.f10 tmps (fun e w' => (∃ v, e = .returned (.tuple #[v, .bool (none : Option Po).isSome]) ∧ PoolM w.heap.size w' v ((none : Option Po).getD emptyP)) ∧ Below w.heap.size w w') [{ target := .fn (Fn.func 38) #[.pointer (some ⟨w.heap.size, 0, none⟩), .pointer (some ⟨w.heap.size + 1, 0, none⟩)], args := #[] }] (.panicking [{ v := .iface tp pe, recovered := false }]) u := by
  refine leaves_cons (f := 38) (args := #[.pointer (some ⟨w.heap.size, 0, none⟩), .pointer (some ⟨w.heap.size + 1, 0, none⟩)]) (by simp) (by simp [go_sem]) ?_
  refine (catch_panics w.heap.size (w.heap.size + 1) tp pe [] c0 c1 c2 c3 c4 c5 d u hP hO (by omega)).mono ?_
  rintro e u' w'' ⟨rfl, rfl, rfl⟩
  obtain ⟨E8, M8, hB8⟩ := put6_all (p := emptyP) hP hB (Nat.le_refl _) (emptyM w.heap.size u)
  have hg6 : u.grownBy (put6 u w.heap.size (.int .i64 0) (.int .i64 0) (.slice none 0 0) (.slice none 0 0) (.slice none 0 0) (.slice none 0 0)) (some w.heap.size) := grown_set (grown_set (grown_set (grown_set (grown_set (grown_set (World.grownBy.refl _ _) _ _) _ _) _ _) _ _) _ _) _ _
  have O8 := hO.grown hg6 (by simp)
  generalize put6 u w.heap.size (.int .i64 0) (.int .i64 0) (.slice none 0 0) (.slice none 0 0) (.slice none 0 0) (.slice none 0 0) = W8 at *
  have hg9 : W8.grownBy (W8.setCell ⟨w.heap.size + 1, 0, none⟩ (.bool false)) (some (w.heap.size + 1)) := grown_set (World.grownBy.refl _ _) _ _
  have E9 := E8.grown hg9 (by simp)
  have O9 : Blk (W8.setCell ⟨w.heap.size + 1, 0, none⟩ (.bool false)) (w.heap.size + 1) #[.bool false] 4 := by simpa using O8.set 0 (.bool false)
  have hB9 : Below w.heap.size w (W8.setCell ⟨w.heap.size + 1, 0, none⟩ (.bool false)) := hB8.grown hg9 (by have := O8.lt; omega) (fun k e => by cases e; omega)
  exact ⟨_, results_two _ _ _ _ _ false h2 h3 E9 rfl O9, ⟨_, rfl, emptyM _ _⟩, hB9⟩
set_option maxHeartbeats 8000000 in
set_option maxRecDepth 100000 in
theorem impl_ReadPool (s : ByteArray) (w : World) (hs : s.size ≤ 2000000) (hG : Glb w) :
    Calls Tryz.prog 10 #[.string s] w fun e w' => (∃ v, e = .returned (.tuple #[v, .bool (ansO s.data.toList).isSome]) ∧ PoolM w.heap.size w' v ((ansO s.data.toList).getD emptyP)) ∧ Below w.heap.size w w' := by
  obtain ⟨A, hA⟩ : ∃ A, Hid (ansO s.data.toList = A) := ⟨_, rfl⟩
  rw [hA.out]
  have hmf : ∀ (fn : Fn) (first cap : Array Value) (w : World), (Instr.makeFunc fn first cap).run Tryz.prog w = .ok (.func fn first cap) w := fun _ _ _ _ => rfl
  have hA0 : Below w.heap.size w ((w.alloc (.cells #[.int .i64 0, .int .i64 0, .slice none 0 0, .slice none 0 0, .slice none 0 0, .slice none 0 0] tPo)).alloc (.cells #[.bool false] 4)) := by go_grown
  have PB : Blk ((w.alloc (.cells #[.int .i64 0, .int .i64 0, .slice none 0 0, .slice none 0 0, .slice none 0 0, .slice none 0 0] tPo)).alloc (.cells #[.bool false] 4)) w.heap.size #[.int .i64 0, .int .i64 0, .slice none 0 0, .slice none 0 0, .slice none 0 0, .slice none 0 0] tPo := (Blk.new w _ tPo).below ((Below.refl _ _).alloc (Nat.le_refl _) _)
  have OB : Blk ((w.alloc (.cells #[.int .i64 0, .int .i64 0, .slice none 0 0, .slice none 0 0, .slice none 0 0, .slice none 0 0] tPo)).alloc (.cells #[.bool false] 4)) (w.heap.size + 1) #[.bool false] 4 := Blk.new' _ _ _ _ (by simp)
  have G0 := hG.below hA0
  have hgs := hG.sz
  rcases Nat.lt_or_ge 60000 s.size with hb | hb
  · have hAn : A = none := by rw [← hA.out, ansO, if_neg (by rw [← Lib.size_eq]; omega)]
    subst hAn
    obtain ⟨tp, pe, hE⟩ := G0.err
    go_enter_defers Tryz.func10, Tryz.ntmps10
    go_upto_region 2 with fail
    generalize (w.alloc (.cells #[.int .i64 0, .int .i64 0, .slice none 0 0, .slice none 0 0, .slice none 0 0, .slice none 0 0] tPo)).alloc (.cells #[.bool false] 4) = W0 at *
    go_wp2
    exact door_pan PB OB hA0 rfl rfl
  · have hR := impl_readerOf s _ hb G0
    have hAi : Hid (A = readO s.data.toList) := by show _ = _; rw [← hA.out, ansO, if_pos (by rw [← Lib.size_eq]; omega)]
    rw [readI_o] at hAi
    go_enter_defers Tryz.func10, Tryz.ntmps10
    go_upto_region 2 with fail
    generalize (w.alloc (.cells #[.int .i64 0, .int .i64 0, .slice none 0 0, .slice none 0 0, .slice none 0 0, .slice none 0 0] tPo)).alloc (.cells #[.bool false] 4) = W0 at *
    have hw0 : w.heap.size + 1 < W0.heap.size := OB.lt
    go_wp2_with fail
    refine hR.mono ?_
    clear hR
    cases hL : lnsB s.data.toList.length s.data.toList with
    | none =>
      rintro e w1 ⟨⟨tp, pe, rfl⟩, hB1⟩
      have hAn : A = none := by rw [hAi.out, readI, hL]; rfl
      subst hAn
      go_wp2
      exact door_pan (PB.below hB1) (OB.below hB1) (chain hA0 hB1) rfl rfl
    | some ls =>
      rintro e w1 ⟨⟨rb, rfl, hrb, D, hll⟩, hB1⟩
      replace PB := PB.below hB1
      replace OB := OB.below hB1
      replace G0 := G0.below hB1
      have hB := chain hA0 hB1
      have hw1 := hB1.size
      clear hB1 hA0
      have q := impl_poolR rb ls w1 D G0 (by omega) hll
      go_wp2_with fail
      refine q.mono ?_
      clear q
      cases hp : poolP ls with
      | none =>
        rintro e w2 ⟨⟨tp, pe, rfl⟩, hg2⟩
        have hAn : A = none := by rw [hAi.out, readI, hL, Option.bind_some, hp]; rfl
        subst hAn
        go_wp2
        exact door_pan (PB.grown hg2 (by simp; omega)) (OB.grown hg2 (by simp; omega)) (hB.grown hg2 (by omega) (fun k e => by cases e; omega)) rfl rfl
      | some pq =>
        obtain ⟨p, rest⟩ := pq
        rintro e w2 ⟨⟨v, rfl, M, D2⟩, hg2⟩
        replace PB := PB.grown hg2 (by simp; omega)
        replace OB := OB.grown hg2 (by simp; omega)
        replace G0 := G0.grown hg2 (by omega)
        replace hB := hB.grown hg2 (by omega) (fun k e => by cases e; omega)
        have hw2 := hg2.size
        clear hg2 D
        obtain ⟨ea, en, ec, va, vn, vc, ra, rn, rc, la, ln, lc, vr, rfl, _⟩ := M.out
        obtain ⟨r0, r1, r2, r3, r4, r5⟩ := blk6 PB
        have g0 := PB.frozen 0
        have g1 := PB.frozen 1
        have g2 := PB.frozen 2
        have g3 := PB.frozen 3
        have g4 := PB.frozen 4
        have g5 := PB.frozen 5
        go_upto_region 6 with fail
        obtain ⟨P3, hg3⟩ := put6F PB (.int .i64 p.size) (.int .i64 p.next) (.slice ea en ec) (.slice va vn vc) (.slice ra rn rc) (.slice la ln lc)
        have M3 := M.box hg3 PB
        have D3 := D2.ty hg3 (rowTy_blk PB) (by decide) (by decide)
        have O3 := OB.grown hg3 (by simp)
        have G3 := G0.low ((Below.refl w.heap.size _).grown hg3 (by omega) (fun k e => by cases e; exact Nat.le_refl _)) hgs
        have hB3 := hB.grown hg3 (by omega) (fun k e => by cases e; exact Nat.le_refl _)
        have hs3 := hg3.size
        generalize (((((w2.setCell ⟨w.heap.size, 0, none⟩ (.int .i64 p.size)).setCell ⟨w.heap.size, 1, none⟩ (.int .i64 p.next)).setCell ⟨w.heap.size, 2, none⟩ (.slice ea en ec)).setCell ⟨w.heap.size, 3, none⟩ (.slice va vn vc)).setCell ⟨w.heap.size, 4, none⟩ (.slice ra rn rc)).setCell ⟨w.heap.size, 5, none⟩ (.slice la ln lc) = W3 at *
        clear hg3 PB OB D2 M hB r0 r1 r2 r3 r4 r5 g0 g1 g2 g3 g4 g5
        obtain ⟨lb, lo, lcap, lcs, RB3, _⟩ := D3.out
        have d0 := RB3.cell 0
        cases rest with
        | cons l r =>
          simp only [List.length_cons] at d0
          have hAn : A = none := by rw [hAi.out, readI, hL, Option.bind_some, hp]; rfl
          subst hAn
          obtain ⟨tp, pe, hE⟩ := G3.err
          have hn : (0 : Int) < ((r.length + 1 : Nat) : Int) := by omega
          generalize r.length + 1 = n at *
          go_wp2
          exact door_pan P3 O3 hB3 rfl rfl
        | nil =>
          have hRI : readI s.data.toList = some p := by rw [readI, hL, Option.bind_some, hp]
          have hd : DimP p := dim_text (by rw [← readI_r hRI, ← Lib.size_eq]; exact hb)
          rw [hRI] at hAi
          have hA2 : Hid (A = if poolB p = true then some p else none) := hAi.out
          clear hAi hRI
          simp only [List.length_nil] at d0
          have q := impl_PoolOk w1.heap.size _ p W3 M3.at hd
          obtain ⟨v0, v1, v2, v3, v4, v5⟩ := blk6 P3
          go_wp2_with fail
          refine q.mono ?_
          rintro e w4 ⟨rfl, hB4⟩
          clear q v0 v1 v2 v3 v4 v5 d0 RB3 D3
          replace P3 := P3.below hB4
          replace O3 := O3.below hB4
          replace M3 := M3.below hB4
          replace G3 := G3.below hB4
          replace hB3 := chain hB3 hB4
          have hs4 := hB4.size
          clear hB4
          cases hpb : poolB p with
          | false =>
            rw [hpb] at hA2
            have hAn : A = none := hA2.out
            subst hAn
            obtain ⟨tp, pe, hE⟩ := G3.err
            go_wp2
            exact door_pan P3 O3 hB3 rfl rfl
          | true =>
            rw [hpb] at hA2
            have hAn : A = some p := hA2.out
            subst hAn
            obtain ⟨r0, r1, r2, r3, r4, r5⟩ := blk6 P3
            have g0 := P3.frozen 0
            have g1 := P3.frozen 1
            have g2 := P3.frozen 2
            have g3 := P3.frozen 3
            have g4 := P3.frozen 4
            have g5 := P3.frozen 5
            have o0 : w4.cell? ⟨w.heap.size + 1, 0, none⟩ = some (.bool false) := O3.cell 0
            have o1 := O3.frozen 0
            go_wp2
            obtain ⟨P5, hg5⟩ := put6F P3 (.int .i64 p.size) (.int .i64 p.next) (.slice ea en ec) (.slice va vn vc) (.slice ra rn rc) (.slice la ln lc)
            have M5 := M3.box hg5 P3
            have O5 := O3.grown hg5 (by simp)
            have hB5 := hB3.grown hg5 (by omega) (fun k e => by cases e; exact Nat.le_refl _)
            generalize (((((w4.setCell ⟨w.heap.size, 0, none⟩ (.int .i64 p.size)).setCell ⟨w.heap.size, 1, none⟩ (.int .i64 p.next)).setCell ⟨w.heap.size, 2, none⟩ (.slice ea en ec)).setCell ⟨w.heap.size, 3, none⟩ (.slice va vn vc)).setCell ⟨w.heap.size, 4, none⟩ (.slice ra rn rc)).setCell ⟨w.heap.size, 5, none⟩ (.slice la ln lc) = W5 at *
            have hg6 : W5.grownBy (W5.setCell ⟨w.heap.size + 1, 0, none⟩ (.bool true)) (some (w.heap.size + 1)) := grown_set (World.grownBy.refl _ _) _ _
            have P6 := P5.grown hg6 (by simp)
            have O6 : Blk (W5.setCell ⟨w.heap.size + 1, 0, none⟩ (.bool true)) (w.heap.size + 1) #[.bool true] 4 := by simpa using O5.set 0 (.bool true)
            have M6 : PoolM w.heap.size (W5.setCell ⟨w.heap.size + 1, 0, none⟩ (.bool true)) (.agg #[.int .i64 p.size, .int .i64 p.next, .slice ea en ec, .slice va vn vc, .slice ra rn rc, .slice la ln lc]) p := (M5.boxT hg6 (rowTy_blk O5)).mono (by omega)
            have hB6 : Below w.heap.size w (W5.setCell ⟨w.heap.size + 1, 0, none⟩ (.bool true)) := hB5.grown hg6 (by have := O5.lt; omega) (fun k e => by cases e; omega)
            generalize W5.setCell ⟨w.heap.size + 1, 0, none⟩ (.bool true) = W6 at *
            refine leaves_cons (f := 38) (args := #[.pointer (some ⟨w.heap.size, 0, none⟩), .pointer (some ⟨w.heap.size + 1, 0, none⟩)]) (by simp) (by simp [go_sem]) ?_
            refine (catch_rests w.heap.size (w.heap.size + 1) W6).mono ?_
            rintro e u' w'' ⟨rfl, rfl, rfl⟩
            exact ⟨_, results_two _ _ _ _ _ true rfl rfl P6 rfl O6, ⟨_, rfl, M6⟩, hB6⟩
end Go.Proofs.YtigldeccfpkdmaaGreatDoor
namespace Go.Proofs.YtigldeccfpkdmaaGreatDoor
open Go Go.RowKit Go.BigFrame
theorem dimk_ans (s : By) : DimK ((ansO s).getD emptyP) := by
  unfold ansO
  split
  · next hs =>
    rw [readI_o]
    cases hI : readI s with
    | none => exact dimk_empty
    | some p =>
      show DimK ((if poolB p = true then some p else none).getD emptyP)
      split
      · exact dimk_text (p := p) (by rw [← readI_r hI]; exact hs)
      · exact dimk_empty
  · exact dimk_empty
set_option maxHeartbeats 8000000 in
set_option maxRecDepth 100000 in
theorem walkReadPool (s : ByteArray) (w : World) (hs : s.size ≤ 9223372036854775807) (hG : Glb w) :
    Calls Tryz.prog 3 #[.string s] w fun e w' => e = .returned (.bool true) ∧ Below w.heap.size w w' := by
  rcases Nat.lt_or_ge 1048576 s.size with hb | hb
  · go_enter Tryz.func3, Tryz.ntmps3
    go_wp2
    go_returns
    exact ⟨rfl, Below.refl _ _⟩
  · have hK := dimk_ans s.data.toList
    obtain ⟨ok, hok⟩ : ∃ ok, Hid ((ansO s.data.toList).isSome = ok) := ⟨_, rfl⟩
    obtain ⟨p, hp⟩ : ∃ p, Hid ((ansO s.data.toList).getD emptyP = p) := ⟨_, rfl⟩
    rw [hp.out] at hK
    have hgs := hG.sz
    have hoo : (ok != ok) = false := by simp
    have q1 := spec_ReadPool s w (by omega) (by omega)
    have q2 := fun (u : World) (hu : Glb u) => impl_ReadPool s u (by omega) hu
    rw [hok.out, hp.out] at q1
    simp only [hok.out, hp.out] at q2
    go_enter Tryz.func3, Tryz.ntmps3
    go_wp2_with fail
    refine q1.mono ?_
    rintro e w1 ⟨⟨v1, rfl, M1⟩, hb1⟩
    obtain ⟨ea1, en1, ec1, va1, vn1, vc1, ra1, rn1, rc1, la1, ln1, lc1, vr1, rfl, _⟩ := M1.out
    have G1 := hG.below hb1
    have hA1 : Below w1.heap.size w1 (w1.alloc (.cells #[.int .i64 p.size, .int .i64 p.next, .slice ea1 en1 ec1, .slice va1 vn1 vc1, .slice ra1 rn1 rc1, .slice la1 ln1 lc1] 26)) := (Below.refl _ _).alloc (Nat.le_refl _) _
    obtain ⟨b1, hb10⟩ : ∃ b, b = w1.heap.size := ⟨_, rfl⟩
    have P1 : Blk (w1.alloc (.cells #[.int .i64 p.size, .int .i64 p.next, .slice ea1 en1 ec1, .slice va1 vn1 vc1, .slice ra1 rn1 rc1, .slice la1 ln1 lc1] 26)) b1 #[.int .i64 p.size, .int .i64 p.next, .slice ea1 en1 ec1, .slice va1 vn1 vc1, .slice ra1 rn1 rc1, .slice la1 ln1 lc1] 26 := Blk.new' _ _ _ _ hb10
    have hl1 : w.heap.size ≤ b1 := by rw [hb10]; exact hb1.size
    replace M1 := M1.below hA1
    replace G1 := G1.below hA1
    have hB := chain hb1 hA1
    clear q1
    go_wp2_with fail
    rw [← hb10]
    clear hb10
    generalize w1.alloc (.cells #[.int .i64 p.size, .int .i64 p.next, .slice ea1 en1 ec1, .slice va1 vn1 vc1, .slice ra1 rn1 rc1, .slice la1 ln1 lc1] 26) = W1 at *
    clear hb1 hA1
    have z1 := P1.lt
    have hW0 := Below.refl W1.heap.size W1
    refine (q2 W1 G1).mono ?_
    rintro e w2 ⟨⟨v2, rfl, M2⟩, hb2⟩
    obtain ⟨ea2, en2, ec2, va2, vn2, vc2, ra2, rn2, rc2, la2, ln2, lc2, vr2, rfl, _⟩ := M2.out
    have hA2 : Below w2.heap.size w2 (w2.alloc (.cells #[.int .i64 p.size, .int .i64 p.next, .slice ea2 en2 ec2, .slice va2 vn2 vc2, .slice ra2 rn2 rc2, .slice la2 ln2 lc2] 26)) := (Below.refl _ _).alloc (Nat.le_refl _) _
    obtain ⟨b2, hb20⟩ : ∃ b, b = w2.heap.size := ⟨_, rfl⟩
    have P2 : Blk (w2.alloc (.cells #[.int .i64 p.size, .int .i64 p.next, .slice ea2 en2 ec2, .slice va2 vn2 vc2, .slice ra2 rn2 rc2, .slice la2 ln2 lc2] 26)) b2 #[.int .i64 p.size, .int .i64 p.next, .slice ea2 en2 ec2, .slice va2 vn2 vc2, .slice ra2 rn2 rc2, .slice la2 ln2 lc2] 26 := Blk.new' _ _ _ _ hb20
    have hl2 : w2.heap.size ≤ b2 := by rw [hb20]; exact Nat.le_refl _
    have hz2 := hb2.size
    have hW := chain hb2 hA2
    obtain ⟨x0, x1, x2, x3, x4, x5⟩ := (P1.below hW).sixM
    obtain ⟨y0, y1, y2, y3, y4, y5⟩ := P2.sixM
    clear hW0
    go_upto_region 5 with fail
    rw [← hb20]
    clear hb20
    generalize w2.alloc (.cells #[.int .i64 p.size, .int .i64 p.next, .slice ea2 en2 ec2, .slice va2 vn2 vc2, .slice ra2 rn2 rc2, .slice la2 ln2 lc2] 26) = W2 at *
    have qe := laws_eqPool 0 0 _ _ p W2 ((M2.below hA2).at.mono (Nat.zero_le _)) ((M1.below hW).at.mono (Nat.zero_le _)) hK.small
    go_wp2_with fail
    refine qe.mono ?_
    rintro e w3 ⟨rfl, hb3⟩
    clear qe x0 x1 x2 x3 x4 x5 y0 y1 y2 y3 y4 y5
    replace P2 := P2.below hb3
    replace hA2 := chain hA2 hb3
    replace hW := chain hW hb3
    clear hb3
    obtain ⟨y0, y1, y2, y3, y4, y5⟩ := P2.sixM
    have qm := laws_markPoolM W1.heap.size _ p w2 w3 M2 hA2 hK hz2 b2 _ _ P2 hl2
    go_wp2_with fail
    refine qm.mono ?_
    rintro e w4 ⟨⟨k, rfl, MK, hk⟩, hb4, P4⟩
    clear qm y0 y1 y2 y3 y4 y5 P2 hA2
    replace hW := hW.trans hb4
    clear hb4
    have hkk : (((k : Nat) : Int) != ((k : Nat) : Int)) = false := by simp
    have hk0 : ¬ ((k : Nat) : Int) < 0 := by omega
    obtain ⟨y0, y1, y2, y3, y4, y5⟩ := P4.sixM
    go_wp2_with fail
    refine (laws_heldPoolM _ k w4 MK).mono ?_
    rintro e w5 ⟨rfl, hb5⟩
    clear y0 y1 y2 y3 y4 y5
    replace P4 := P4.below hb5
    replace MK := MK.below hb5
    have hz4 := hW.size
    replace hW := hW.trans (hb5.mono hz4)
    clear hb5
    have G5 := G1.below hW
    go_wp2_with fail
    refine (q2 w5 G5).mono ?_
    rintro e w6 ⟨⟨v3, rfl, M3⟩, hb6⟩
    obtain ⟨ea3, en3, ec3, va3, vn3, vc3, ra3, rn3, rc3, la3, ln3, lc3, vr3, rfl, _⟩ := M3.out
    have hA6 : Below w6.heap.size w6 (w6.alloc (.cells #[.int .i64 p.size, .int .i64 p.next, .slice ea3 en3 ec3, .slice va3 vn3 vc3, .slice ra3 rn3 rc3, .slice la3 ln3 lc3] 26)) := (Below.refl _ _).alloc (Nat.le_refl _) _
    obtain ⟨b3, hb30⟩ : ∃ b, b = w6.heap.size := ⟨_, rfl⟩
    have P6 : Blk (w6.alloc (.cells #[.int .i64 p.size, .int .i64 p.next, .slice ea3 en3 ec3, .slice va3 vn3 vc3, .slice ra3 rn3 rc3, .slice la3 ln3 lc3] 26)) b3 #[.int .i64 p.size, .int .i64 p.next, .slice ea3 en3 ec3, .slice va3 vn3 vc3, .slice ra3 rn3 rc3, .slice la3 ln3 lc3] 26 := Blk.new' _ _ _ _ hb30
    have hc6 := chain hb6 hA6
    replace P4 := P4.below hc6
    replace MK := MK.below hc6
    have hz5 := hW.size
    replace hW := hW.trans (hc6.mono hz5)
    obtain ⟨x0, x1, x2, x3, x4, x5⟩ := (P1.below hW).sixM
    obtain ⟨y0, y1, y2, y3, y4, y5⟩ := P6.sixM
    clear hb6 hc6
    go_upto_region 16 with fail
    rw [← hb30]
    clear hb30
    generalize w6.alloc (.cells #[.int .i64 p.size, .int .i64 p.next, .slice ea3 en3 ec3, .slice va3 vn3 vc3, .slice ra3 rn3 rc3, .slice la3 ln3 lc3] 26) = W6 at *
    have qe := laws_eqPool 0 0 _ _ p W6 ((M3.below hA6).at.mono (Nat.zero_le _)) ((M1.below hW).at.mono (Nat.zero_le _)) hK.small
    go_wp2_with fail
    refine qe.mono ?_
    rintro e w7 ⟨rfl, hb7⟩
    clear qe x0 x1 x2 x3 x4 x5 y0 y1 y2 y3 y4 y5 hA6
    replace P4 := P4.below hb7
    replace MK := MK.below hb7
    have hz6 := hW.size
    replace hW := hW.trans (hb7.mono hz6)
    clear hb7
    obtain ⟨y0, y1, y2, y3, y4, y5⟩ := P4.sixM
    go_wp2_with fail
    refine (laws_heldPoolM _ k w7 MK).mono ?_
    rintro e w8 ⟨rfl, hb8⟩
    have hz7 := hW.size
    replace hW := hW.trans (hb8.mono hz7)
    clear hb8
    go_wp2
    go_returns
    exact ⟨rfl, hB.trans (hW.mono hB.size)⟩
end Go.Proofs.YtigldeccfpkdmaaGreatDoor
