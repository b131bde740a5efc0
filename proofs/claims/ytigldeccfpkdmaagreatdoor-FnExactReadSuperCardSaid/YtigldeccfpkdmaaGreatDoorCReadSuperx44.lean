/- A pool read by the program: what panics is met. The sum of bytes that a commitment ends with, plain. The sum of bytes, and four bytes of a number, by the program. -/
import Derived.Defers
import Derived.Recover
import Derived.Test.YtigldeccfpkdmaaGreatDoorCReadSuperx43
import Derived.Test.YtigldeccfpkdmaaGreatDoorCReadSuperx31
import Derived.Test.YtigldeccfpkdmaaGreatDoorCReadSuperx27
import Derived.Laws.Closers25b
import Derived.Laws.BitsLemmas
import Derived.Test.YtigldeccfpkdmaaGreatDoorCReadSuperx01
import Derived.Test.YtigldeccfpkdmaaGreatDoorCReadSuperx00
namespace Go.Proofs.YtigldeccfpkdmaaGreatDoor
open Go Go.RowKit Go.BigFrame
set_option maxHeartbeats 4000000 in
set_option maxRecDepth 100000 in
theorem catch_panics (b1 b2 : Nat) (u : TypeId) (pv : Value) (older : List PanicEntry) (c0 c1 c2 c3 c4 c5 d : Value) (w : World) (hP : Blk w b1 #[c0, c1, c2, c3, c4, c5] tPo) (hO : Blk w b2 #[d] 4) (hne : b1 ≠ b2) :
    CallsD Tryz.prog 38 #[.pointer (some ⟨b1, 0, none⟩), .pointer (some ⟨b2, 0, none⟩)] (.panicking ({ v := .iface u pv, recovered := false } :: older)) w fun e u' w' =>
      e = .returned (.tuple #[]) ∧ u' = .panicking ({ v := .iface u pv, recovered := true } :: older) ∧ w' = (put6 w b1 (.int .i64 0) (.int .i64 0) (.slice none 0 0) (.slice none 0 0) (.slice none 0 0) (.slice none 0 0)).setCell ⟨b2, 0, none⟩ (.bool false) := by
  obtain ⟨e0, e1, e2, e3, e4, e5⟩ := blk6 hP
  have f0 := hP.frozen 0
  have f1 := hP.frozen 1
  have f2 := hP.frozen 2
  have f3 := hP.frozen 3
  have f4 := hP.frozen 4
  have f5 := hP.frozen 5
  have o0 := hO.cell 0
  have o1 := hO.frozen 0
  refine callsD_of_wpS Tryz.func38 rfl fun c₀ cs hu => ?_
  apply wpS_seq
  apply wpS_region
  simp [wpOpsS, go_sem, recoverD, hu, Tryz.ntmps38, Exit.thenS]
  refine wpS_cond (t := true) (by simp [Act.eval, Array.replicate]) ?_
  simp only [if_true]
  refine wpS_of_wp ?_
  rw [show (#[Value.pointer (some ⟨b1, 0, none⟩), Value.pointer (some ⟨b2, 0, none⟩)] ++ ((Array.replicate 3 undef).setIfInBounds 0 (Value.iface u pv)).setIfInBounds 1 (Value.bool true)) = #[Value.pointer (some ⟨b1, 0, none⟩), Value.pointer (some ⟨b2, 0, none⟩), Value.iface u pv, Value.bool true, undef] from rfl]
  go_wp2
  exact ⟨rfl, _, rfl, .tuple #[], by simp [results, Tryz.results38], rfl, rfl, rfl⟩
set_option maxHeartbeats 4000000 in
theorem catch_rests (b1 b2 : Nat) (w : World) :
    CallsD Tryz.prog 38 #[.pointer (some ⟨b1, 0, none⟩), .pointer (some ⟨b2, 0, none⟩)] .returning w fun e u' w' => e = .returned (.tuple #[]) ∧ u' = .returning ∧ w' = w := by
  refine callsD_of_wpS Tryz.func38 rfl fun c₀ cs hu => ?_
  apply wpS_seq
  apply wpS_region
  simp [wpOpsS, go_sem, recoverD, hu, Tryz.ntmps38, Exit.thenS]
  refine wpS_cond (t := false) (by simp [Act.eval, Array.replicate]) ?_
  simp only [Bool.false_eq_true, if_false]
  refine wpS_of_wp (wp_skip ?_)
  cases c₀
  simp_all [bodyPostS, results, Tryz.results38]
theorem PoolM.boxT {B : Nat} {w w' : World} {row : Option Nat} {v : Value} {p : Po} (h : PoolM B w v p) (hg : w.grownBy w' row) (hr : RowTy w row 4) : PoolM B w' v p := by
  obtain ⟨ea, en, ec, va, vn, vc, ra, rn, rc, la, ln, lc, vr, e, h1, h2, h3, h4, h5, h6, h7, h8⟩ := h.out
  exact ⟨ea, en, ec, va, vn, vc, ra, rn, rc, la, ln, lc, vr, e, h1.ty hg hr (by decide), h2.ty hg hr (by decide), h3.ty hg hr (by decide), h4.ty hg hr (by decide), h5, h6.imp fun _ _ _ h => h.ty hg hr (by decide) (by decide), h7, h8⟩
theorem load_bool (g : Nat) (b : Bool) (w : World) (h : Blk w g #[.bool b] 4) : (loadVar 4 ⟨g, 0, none⟩).run Tryz.prog w = .ok (.bool b) w := by
  have c := h.cell 0
  simp at c
  simp [loadVar, go_sem, c, Tryz.isAgg4]
theorem results_two (tmps : Array Value) (w : World) (g g' : Nat) (cs : Array Value) (b : Bool) (hp : tmps.getD 2 undef = .pointer (some ⟨g, 0, none⟩)) (hq : tmps.getD 3 undef = .pointer (some ⟨g', 0, none⟩)) (hg : Blk w g cs tPo) (hs : cs.size = 6) (hg' : Blk w g' #[.bool b] 4) :
    (results Tryz.f10 tmps).run Tryz.prog w = .ok (.tuple #[.agg cs, .bool b]) w := by
  have hp' : tmps[2]?.getD undef = .pointer (some ⟨g, 0, none⟩) := by simpa using hp
  have hq' : tmps[3]?.getD undef = .pointer (some ⟨g', 0, none⟩) := by simpa using hq
  have hi : (Tryz.prog.info? tPo).map (·.size) = some cs.size := by rw [hs]; kernel_rfl
  simp [results, hp', hq', asAddr, run_loadVar_row w g tPo tPo cs _ _ hg Tryz.underlying26 rfl hi, load_bool g' b w hg']
/-- A panic is met: nothing is answered. -/
theorem door_pan {w u : World} {tmps : Array Value} {tp : TypeId} {pe c0 c1 c2 c3 c4 c5 d : Value} (hP : Blk u w.heap.size #[c0, c1, c2, c3, c4, c5] tPo) (hO : Blk u (w.heap.size + 1) #[d] 4) (hB : Below w.heap.size w u) (h2 : tmps.getD 2 undef = .pointer (some ⟨w.heap.size, 0, none⟩)) (h3 : tmps.getD 3 undef = .pointer (some ⟨w.heap.size + 1, 0, none⟩)) :
    Leaves Tryz.prog Tryz.f10 tmps (fun e w' => (∃ v, e = .returned (.tuple #[v, .bool (none : Option Po).isSome]) ∧ PoolM w.heap.size w' v ((none : Option Po).getD emptyP)) ∧ Below w.heap.size w w') [{ target := .fn (Fn.func 38) #[.pointer (some ⟨w.heap.size, 0, none⟩), .pointer (some ⟨w.heap.size + 1, 0, none⟩)], args := #[] }] (.panicking [{ v := .iface tp pe, recovered := false }]) u := by
  refine leaves_cons (f := 38) (args := #[.pointer (some ⟨w.heap.size, 0, none⟩), .pointer (some ⟨w.heap.size + 1, 0, none⟩)]) (by simp) (by simp [go_sem]) ?_
  refine (catch_panics w.heap.size (w.heap.size + 1) tp pe [] c0 c1 c2 c3 c4 c5 d u hP hO (by omega)).mono ?_
  rintro e u' w'' ⟨rfl, rfl, rfl⟩
  obtain ⟨E8, M8, hB8⟩ := put6_all (p := emptyP) hP hB (Nat.le_refl _) (emptyM w.heap.size u)
  have hg6 : u.grownBy (put6 u w.heap.size (.int .i64 0) (.int .i64 0) (.slice none 0 0) (.slice none 0 0) (.slice none 0 0) (.slice none 0 0)) (some w.heap.size) := grown_set (grown_set (grown_set (grown_set (grown_set (grown_set (World.grownBy.refl _ _) _ _) _ _) _ _) _ _) _ _) _ _
  have O8 := hO.grown hg6 (by simp)
  generalize put6 u w.heap.size (.int .i64 0) (.int .i64 0) (.slice none 0 0) (.slice none 0 0) (.slice none 0 0) (.slice none 0 0) = W8 at *
  have hg9 : W8.grownBy (W8.setCell ⟨w.heap.size + 1, 0, none⟩ (.bool false)) (some (w.heap.size + 1)) := grown_set (World.grownBy.refl _ _) _ _
  have E9 := E8.grown hg9 (by simp)
  have O9 : Blk (W8.setCell ⟨w.heap.size + 1, 0, none⟩ (.bool false)) (w.heap.size + 1) #[.bool false] 4 := by simpa using O8.set 0 (.bool false)
  have hB9 : Below w.heap.size w (W8.setCell ⟨w.heap.size + 1, 0, none⟩ (.bool false)) := hB8.grown hg9 (by have := O8.lt; omega) (fun k e => by cases e; omega)
  exact ⟨_, results_two _ _ _ _ _ false h2 h3 E9 rfl O9, ⟨_, rfl, emptyM _ _⟩, hB9⟩
set_option maxHeartbeats 8000000 in
set_option maxRecDepth 100000 in
theorem impl_ReadPool (s : ByteArray) (w : World) (hs : s.size ≤ 2000000) (hG : Glb w) :
    Calls Tryz.prog 10 #[.string s] w fun e w' => (∃ v, e = .returned (.tuple #[v, .bool (ansO s.data.toList).isSome]) ∧ PoolM w.heap.size w' v ((ansO s.data.toList).getD emptyP)) ∧ Below w.heap.size w w' := by
  obtain ⟨A, hA⟩ : ∃ A, Hid (ansO s.data.toList = A) := ⟨_, rfl⟩
  rw [hA.out]
  have hmf : ∀ (fn : Fn) (first cap : Array Value) (w : World), (Instr.makeFunc fn first cap).run Tryz.prog w = .ok (.func fn first cap) w := fun _ _ _ _ => rfl
  have hA0 : Below w.heap.size w ((w.alloc (.cells #[.int .i64 0, .int .i64 0, .slice none 0 0, .slice none 0 0, .slice none 0 0, .slice none 0 0] tPo)).alloc (.cells #[.bool false] 4)) := by go_grown
  have PB : Blk ((w.alloc (.cells #[.int .i64 0, .int .i64 0, .slice none 0 0, .slice none 0 0, .slice none 0 0, .slice none 0 0] tPo)).alloc (.cells #[.bool false] 4)) w.heap.size #[.int .i64 0, .int .i64 0, .slice none 0 0, .slice none 0 0, .slice none 0 0, .slice none 0 0] tPo := (Blk.new w _ tPo).below ((Below.refl _ _).alloc (Nat.le_refl _) _)
  have OB : Blk ((w.alloc (.cells #[.int .i64 0, .int .i64 0, .slice none 0 0, .slice none 0 0, .slice none 0 0, .slice none 0 0] tPo)).alloc (.cells #[.bool false] 4)) (w.heap.size + 1) #[.bool false] 4 := Blk.new' _ _ _ _ (by simp)
  have G0 := hG.below hA0
  have hgs := hG.sz
  rcases Nat.lt_or_ge 60000 s.size with hb | hb
  · have hAn : A = none := by rw [← hA.out, ansO, if_neg (by rw [← Lib.size_eq]; omega)]
    subst hAn
    obtain ⟨tp, pe, hE⟩ := G0.err
    go_enter_defers Tryz.func10, Tryz.ntmps10
    go_upto_region 2 with fail
    generalize (w.alloc (.cells #[.int .i64 0, .int .i64 0, .slice none 0 0, .slice none 0 0, .slice none 0 0, .slice none 0 0] tPo)).alloc (.cells #[.bool false] 4) = W0 at *
    go_wp2
    exact door_pan PB OB hA0 rfl rfl
  · have hR := impl_readerOf s _ hb G0
    have hAi : Hid (A = readO s.data.toList) := by show _ = _; rw [← hA.out, ansO, if_pos (by rw [← Lib.size_eq]; omega)]
    rw [readI_o] at hAi
    go_enter_defers Tryz.func10, Tryz.ntmps10
    go_upto_region 2 with fail
    generalize (w.alloc (.cells #[.int .i64 0, .int .i64 0, .slice none 0 0, .slice none 0 0, .slice none 0 0, .slice none 0 0] tPo)).alloc (.cells #[.bool false] 4) = W0 at *
    have hw0 : w.heap.size + 1 < W0.heap.size := OB.lt
    go_wp2_with fail
    refine hR.mono ?_
    clear hR
    cases hL : lnsB s.data.toList.length s.data.toList with
    | none =>
      rintro e w1 ⟨⟨tp, pe, rfl⟩, hB1⟩
      have hAn : A = none := by rw [hAi.out, readI, hL]; rfl
      subst hAn
      go_wp2
      exact door_pan (PB.below hB1) (OB.below hB1) (chain hA0 hB1) rfl rfl
    | some ls =>
      rintro e w1 ⟨⟨rb, rfl, hrb, D, hll⟩, hB1⟩
      replace PB := PB.below hB1
      replace OB := OB.below hB1
      replace G0 := G0.below hB1
      have hB := chain hA0 hB1
      have hw1 := hB1.size
      clear hB1 hA0
      have q := impl_poolR rb ls w1 D G0 (by omega) hll
      go_wp2_with fail
      refine q.mono ?_
      clear q
      cases hp : poolP ls with
      | none =>
        rintro e w2 ⟨⟨tp, pe, rfl⟩, hg2⟩
        have hAn : A = none := by rw [hAi.out, readI, hL, Option.bind_some, hp]; rfl
        subst hAn
        go_wp2
        exact door_pan (PB.grown hg2 (by simp; omega)) (OB.grown hg2 (by simp; omega)) (hB.grown hg2 (by omega) (fun k e => by cases e; omega)) rfl rfl
      | some pq =>
        obtain ⟨p, rest⟩ := pq
        rintro e w2 ⟨⟨v, rfl, M, D2⟩, hg2⟩
        replace PB := PB.grown hg2 (by simp; omega)
        replace OB := OB.grown hg2 (by simp; omega)
        replace G0 := G0.grown hg2 (by omega)
        replace hB := hB.grown hg2 (by omega) (fun k e => by cases e; omega)
        have hw2 := hg2.size
        clear hg2 D
        obtain ⟨ea, en, ec, va, vn, vc, ra, rn, rc, la, ln, lc, vr, rfl, _⟩ := M.out
        obtain ⟨r0, r1, r2, r3, r4, r5⟩ := blk6 PB
        have g0 := PB.frozen 0
        have g1 := PB.frozen 1
        have g2 := PB.frozen 2
        have g3 := PB.frozen 3
        have g4 := PB.frozen 4
        have g5 := PB.frozen 5
        go_upto_region 6 with fail
        obtain ⟨P3, hg3⟩ := put6F PB (.int .i64 p.size) (.int .i64 p.next) (.slice ea en ec) (.slice va vn vc) (.slice ra rn rc) (.slice la ln lc)
        have M3 := M.box hg3 PB
        have D3 := D2.ty hg3 (rowTy_blk PB) (by decide) (by decide)
        have O3 := OB.grown hg3 (by simp)
        have G3 := G0.low ((Below.refl w.heap.size _).grown hg3 (by omega) (fun k e => by cases e; exact Nat.le_refl _)) hgs
        have hB3 := hB.grown hg3 (by omega) (fun k e => by cases e; exact Nat.le_refl _)
        have hs3 := hg3.size
        generalize (((((w2.setCell ⟨w.heap.size, 0, none⟩ (.int .i64 p.size)).setCell ⟨w.heap.size, 1, none⟩ (.int .i64 p.next)).setCell ⟨w.heap.size, 2, none⟩ (.slice ea en ec)).setCell ⟨w.heap.size, 3, none⟩ (.slice va vn vc)).setCell ⟨w.heap.size, 4, none⟩ (.slice ra rn rc)).setCell ⟨w.heap.size, 5, none⟩ (.slice la ln lc) = W3 at *
        clear hg3 PB OB D2 M hB r0 r1 r2 r3 r4 r5 g0 g1 g2 g3 g4 g5
        obtain ⟨lb, lo, lcap, lcs, RB3, _⟩ := D3.out
        have d0 := RB3.cell 0
        cases rest with
        | cons l r =>
          simp only [List.length_cons] at d0
          have hAn : A = none := by rw [hAi.out, readI, hL, Option.bind_some, hp]; rfl
          subst hAn
          obtain ⟨tp, pe, hE⟩ := G3.err
          have hn : (0 : Int) < ((r.length + 1 : Nat) : Int) := by omega
          generalize r.length + 1 = n at *
          go_wp2
          exact door_pan P3 O3 hB3 rfl rfl
        | nil =>
          have hRI : readI s.data.toList = some p := by rw [readI, hL, Option.bind_some, hp]
          have hd : DimP p := dim_text (by rw [← readI_r hRI, ← Lib.size_eq]; exact hb)
          rw [hRI] at hAi
          have hA2 : Hid (A = if poolB p = true then some p else none) := hAi.out
          clear hAi hRI
          simp only [List.length_nil] at d0
          have q := impl_PoolOk w1.heap.size _ p W3 M3.at hd
          obtain ⟨v0, v1, v2, v3, v4, v5⟩ := blk6 P3
          go_wp2_with fail
          refine q.mono ?_
          rintro e w4 ⟨rfl, hB4⟩
          clear q v0 v1 v2 v3 v4 v5 d0 RB3 D3
          replace P3 := P3.below hB4
          replace O3 := O3.below hB4
          replace M3 := M3.below hB4
          replace G3 := G3.below hB4
          replace hB3 := chain hB3 hB4
          have hs4 := hB4.size
          clear hB4
          cases hpb : poolB p with
          | false =>
            rw [hpb] at hA2
            have hAn : A = none := hA2.out
            subst hAn
            obtain ⟨tp, pe, hE⟩ := G3.err
            go_wp2
            exact door_pan P3 O3 hB3 rfl rfl
          | true =>
            rw [hpb] at hA2
            have hAn : A = some p := hA2.out
            subst hAn
            obtain ⟨r0, r1, r2, r3, r4, r5⟩ := blk6 P3
            have g0 := P3.frozen 0
            have g1 := P3.frozen 1
            have g2 := P3.frozen 2
            have g3 := P3.frozen 3
            have g4 := P3.frozen 4
            have g5 := P3.frozen 5
            have o0 : w4.cell? ⟨w.heap.size + 1, 0, none⟩ = some (.bool false) := O3.cell 0
            have o1 := O3.frozen 0
            go_wp2
            obtain ⟨P5, hg5⟩ := put6F P3 (.int .i64 p.size) (.int .i64 p.next) (.slice ea en ec) (.slice va vn vc) (.slice ra rn rc) (.slice la ln lc)
            have M5 := M3.box hg5 P3
            have O5 := O3.grown hg5 (by simp)
            have hB5 := hB3.grown hg5 (by omega) (fun k e => by cases e; exact Nat.le_refl _)
            generalize (((((w4.setCell ⟨w.heap.size, 0, none⟩ (.int .i64 p.size)).setCell ⟨w.heap.size, 1, none⟩ (.int .i64 p.next)).setCell ⟨w.heap.size, 2, none⟩ (.slice ea en ec)).setCell ⟨w.heap.size, 3, none⟩ (.slice va vn vc)).setCell ⟨w.heap.size, 4, none⟩ (.slice ra rn rc)).setCell ⟨w.heap.size, 5, none⟩ (.slice la ln lc) = W5 at *
            have hg6 : W5.grownBy (W5.setCell ⟨w.heap.size + 1, 0, none⟩ (.bool true)) (some (w.heap.size + 1)) := grown_set (World.grownBy.refl _ _) _ _
            have P6 := P5.grown hg6 (by simp)
            have O6 : Blk (W5.setCell ⟨w.heap.size + 1, 0, none⟩ (.bool true)) (w.heap.size + 1) #[.bool true] 4 := by simpa using O5.set 0 (.bool true)
            have M6 : PoolM w.heap.size (W5.setCell ⟨w.heap.size + 1, 0, none⟩ (.bool true)) (.agg #[.int .i64 p.size, .int .i64 p.next, .slice ea en ec, .slice va vn vc, .slice ra rn rc, .slice la ln lc]) p := (M5.boxT hg6 (rowTy_blk O5)).mono (by omega)
            have hB6 : Below w.heap.size w (W5.setCell ⟨w.heap.size + 1, 0, none⟩ (.bool true)) := hB5.grown hg6 (by have := O5.lt; omega) (fun k e => by cases e; omega)
            generalize W5.setCell ⟨w.heap.size + 1, 0, none⟩ (.bool true) = W6 at *
            refine leaves_cons (f := 38) (args := #[.pointer (some ⟨w.heap.size, 0, none⟩), .pointer (some ⟨w.heap.size + 1, 0, none⟩)]) (by simp) (by simp [go_sem]) ?_
            refine (catch_rests w.heap.size (w.heap.size + 1) W6).mono ?_
            rintro e u' w'' ⟨rfl, rfl, rfl⟩
            exact ⟨_, results_two _ _ _ _ _ true rfl rfl P6 rfl O6, ⟨_, rfl, M6⟩, hB6⟩
end Go.Proofs.YtigldeccfpkdmaaGreatDoor
namespace Go.Proofs.YtigldeccfpkdmaaGreatDoor
open Go Go.RowKit Go.BigFrame
def stC (c : Int) : Int := if c % 2 = 1 then bits .xor .u32 (c / 2) 3988292384 else c / 2
def itC : Nat → Int → Int
  | 0, c => c
  | k + 1, c => stC (itC k c)
def byC (c : Int) (b : UInt8) : Int := itC 8 (bits .xor .u32 c (b.toNat : Int))
def crC (l : List UInt8) : Int := l.foldl byC 4294967295
def crcS (l : List UInt8) : Int := bits .xor .u32 4294967295 (crC l)
def U32 (c : Int) : Prop := 0 ≤ c ∧ c < 4294967296
theorem bits_u32 (op : BinOp) (a b : Int) : U32 (bits op .u32 a b) := by
  have h1 := bits_lo_u32 op a b
  have h2 := bits_hi_u32 op a b
  exact ⟨h1, by omega⟩
theorem stC_u32 {c : Int} (h : U32 c) : U32 (stC c) := by
  unfold stC
  split
  · exact bits_u32 _ _ _
  · obtain ⟨h1, h2⟩ := h
    exact ⟨by omega, by omega⟩
theorem crC_take {l : List UInt8} {k : Nat} {b : UInt8} (h : l[k]? = some b) : crC (l.take (k + 1)) = byC (crC (l.take k)) b := by
  unfold crC
  rw [List.take_add_one, h, Option.toList, List.foldl_append]
  rfl
theorem and_one {c : Int} (h : U32 c) : bits .and .u32 c 1 = c % 2 := by
  have := bits_mask .u32 32 (by decide) (fun n h0 h1 => by rw [IntKind.wrap_u32]; omega) 1 (by decide) c h.1 h.2
  simpa using this
def hiB (n : Int) : ByteArray := strOfNums [n / 16777216, n / 65536 % 256, n / 256 % 256, n % 256]
def loB (n : Int) : ByteArray := strOfNums [n % 256, n / 256 % 256, n / 65536 % 256, n / 16777216]
def bodyC (n : Int) (p : List UInt8) : List UInt8 := (decB n).data.toList ++ [10] ++ p
def superC (n : Int) (p : List UInt8) : ByteArray := hiB ((bodyC n p).length) ++ ⟨(bodyC n p).toArray⟩ ++ loB (crcS (bodyC n p))
end Go.Proofs.YtigldeccfpkdmaaGreatDoor
namespace Go.Proofs.YtigldeccfpkdmaaGreatDoor
open Go Go.RowKit Go.BigFrame
set_option maxHeartbeats 1000000 in
theorem impl_checksum (s : ByteArray) (w : World) (hs : s.size ≤ 2000000) :
    Calls Tryz.prog 64 #[.string s] w fun e w' => e = .returned (.int .u32 (crcS s.data.toList)) ∧ w' = w := by
  obtain ⟨R, hR⟩ : ∃ R, Hid (crcS s.data.toList = R) := ⟨_, rfl⟩
  rw [hR.out]
  go_enter Tryz.func64, Tryz.ntmps64
  go_wp2_with fail
  go_loop [3, 8] (fun sm ix => ∃ (k : Nat) (c : Int), k ≤ s.size ∧ ix = .int .i64 k ∧ sm = .int .u32 c ∧ U32 c ∧ Hid (crC (s.data.toList.take k) = c)) (fun _ ix => s.size - (intOf ix).toNat)
  case atStart => exact ⟨0, 4294967295, Nat.zero_le _, rfl, rfl, ⟨by omega, by omega⟩, rfl⟩
  case round =>
    obtain ⟨k, c, hk, rfl, rfl, hU, hI⟩ := hrel
    by_cases hlt : k < s.size
    · have hb : s.data.toList[k]? = some s[k] := by rw [List.getElem?_eq_getElem (by simpa using hlt)]; rfl
      have hst : Hid (crC (s.data.toList.take (k + 1)) = itC 8 (bits .xor .u32 c ((s[k].toNat : Int) % 4294967296))) := by
        show _ = _
        rw [crC_take hb, hI.out, byC, Int.emod_eq_of_lt (by omega) (by have := s[k].toNat_lt; omega)]
      have hu0 := bits_u32 .xor c ((s[k].toNat : Int) % 4294967296)
      go_wp2_with fail
      generalize bits .xor .u32 c ((s[k].toNat : Int) % 4294967296) = d0 at *
      clear hb
      go_loop [3, 17] (fun sm jx => ∃ (j : Nat) (d : Int), j ≤ 8 ∧ jx = .int .i64 j ∧ sm = .int .u32 d ∧ U32 d ∧ Hid (itC j d0 = d)) (fun _ jx => 8 - (intOf jx).toNat)
      case atStart => exact ⟨0, d0, by omega, rfl, rfl, hu0, rfl⟩
      case round =>
        obtain ⟨j, d, hj, rfl, rfl, hV, hJ⟩ := hrel
        by_cases hj8 : j < 8
        · have hn : Hid (itC (j + 1) d0 = stC d) := by show stC (itC j d0) = _; rw [hJ.out]
          have hu := stC_u32 hV
          have ha : Hid (bits .and .u32 d 1 = d % 2) := and_one hV
          have hd0 := hV.1
          have hd1 := hV.2
          by_cases hp : d % 2 = 1
          · have hb1 : bits .and .u32 d 1 = 1 := by rw [ha.out, hp]
            have hs1 : Hid (stC d = bits .xor .u32 (d / 2) 3988292384) := by show stC d = _; unfold stC; rw [if_pos hp]
            generalize stC d = z at *
            go_wp2
            go_round
            case rel => exact ⟨j + 1, _, by omega, by go_num, by rw [hs1.out], hu, hn⟩
            case measure => simp [intOf]; omega
          · have hb1 : bits .and .u32 d 1 = 0 := by rw [ha.out]; omega
            have hs1 : Hid (stC d = d / 2) := by show stC d = _; unfold stC; rw [if_neg hp]
            generalize stC d = z at *
            go_wp2
            go_round
            case rel => exact ⟨j + 1, _, by omega, by go_num, by rw [hs1.out], hu, hn⟩
            case measure => simp [intOf]; omega
        · obtain rfl : j = 8 := by omega
          go_wp2
          go_round
          case rel => exact ⟨k + 1, _, by omega, by go_num, rfl, hV, by show _ = _; rw [hst.out, hJ.out]⟩
          case measure => simp [intOf]; omega
    · obtain rfl : k = s.size := by omega
      have hfin : Hid (R = bits .xor .u32 4294967295 c) := by
        show _ = _
        rw [← hR.out, crcS, ← hI.out, List.take_of_length_le (by simp)]
      go_wp2
      go_returns
      go_light
      exact ⟨by rw [hfin.out]; rfl, rfl⟩
/-- Four bytes made a text. -/
theorem conv4 (u : World) (a b c d : Int) : (convert 173 9 (.slice (some ⟨u.heap.size, 0, none⟩) 4 4)).run Tryz.prog (u.alloc (.cells #[.int .u8 a, .int .u8 b, .int .u8 c, .int .u8 d] 5)) = .ok (.string (strOfNums [a, b, c, d])) (u.alloc (.cells #[.int .u8 a, .int .u8 b, .int .u8 c, .int .u8 d] 5)) :=
  run_convert_bytes_arg (P := Tryz.prog) _ 173 5 Tryz.underlying173 Tryz.underlying5 u.heap.size 0 4 4 [a, b, c, d] rfl (fun i hi => (by
    rcases i with _ | _ | _ | _ | i
    · simp
    · simp
    · simp
    · simp
    · omega)) 9 Tryz.underlying9
set_option maxHeartbeats 1000000 in
theorem impl_highestFirst (n : Int) (w : World) (h : U32 n) :
    Calls Tryz.prog 62 #[.int .u32 n] w fun e w' => e = .returned (.string (hiB n)) ∧ Below w.heap.size w w' := by
  obtain ⟨h0, h1⟩ := h
  have hcv := conv4
  go_enter Tryz.func62, Tryz.ntmps62
  go_wp2
  go_returns
  exact ⟨rfl, by go_grown⟩
set_option maxHeartbeats 1000000 in
theorem impl_lowestFirst (n : Int) (w : World) (h : U32 n) :
    Calls Tryz.prog 63 #[.int .u32 n] w fun e w' => e = .returned (.string (loB n)) ∧ Below w.heap.size w w' := by
  obtain ⟨h0, h1⟩ := h
  have hcv := conv4
  go_enter Tryz.func63, Tryz.ntmps63
  go_wp2
  go_returns
  exact ⟨rfl, by go_grown⟩
set_option maxHeartbeats 1000000 in
theorem spec_l9Sum (s : ByteArray) (w : World) (hs : s.size ≤ 2000000) :
    Calls Tryz.prog 123 #[.string s] w fun e w' => e = .returned (.string (loB (crcS s.data.toList))) ∧ Below w.heap.size w w' := by
  obtain ⟨R, hR⟩ : ∃ R, Hid (crcS s.data.toList = R) := ⟨_, rfl⟩
  rw [hR.out]
  have hcv := conv4
  go_enter Tryz.func123, Tryz.ntmps123
  go_wp2_with fail
  go_loop [3, 4] (fun sm ix => ∃ (k : Nat) (c : Int), k ≤ s.size ∧ ix = .int .i64 k ∧ sm = .int .u32 c ∧ U32 c ∧ Hid (crC (s.data.toList.take k) = c)) (fun _ ix => s.size - (intOf ix).toNat)
  case atStart => exact ⟨0, 4294967295, Nat.zero_le _, rfl, rfl, ⟨by omega, by omega⟩, rfl⟩
  case round =>
    obtain ⟨k, c, hk, rfl, rfl, hU, hI⟩ := hrel
    by_cases hlt : k < s.size
    · have hb : s.data.toList[k]? = some s[k] := by rw [List.getElem?_eq_getElem (by simpa using hlt)]; rfl
      have hst : Hid (crC (s.data.toList.take (k + 1)) = itC 8 (bits .xor .u32 c ((s[k].toNat : Int) % 4294967296))) := by
        show _ = _
        rw [crC_take hb, hI.out, byC, Int.emod_eq_of_lt (by omega) (by have := s[k].toNat_lt; omega)]
      have hu0 := bits_u32 .xor c ((s[k].toNat : Int) % 4294967296)
      go_wp2_with fail
      generalize bits .xor .u32 c ((s[k].toNat : Int) % 4294967296) = d0 at *
      clear hb
      go_loop [3, 5] (fun sm jx => ∃ (j : Nat) (d : Int), j ≤ 8 ∧ jx = .int .i64 j ∧ sm = .int .u32 d ∧ U32 d ∧ Hid (itC j d0 = d)) (fun _ jx => 8 - (intOf jx).toNat)
      case atStart => exact ⟨0, d0, by omega, rfl, rfl, hu0, rfl⟩
      case round =>
        obtain ⟨j, d, hj, rfl, rfl, hV, hJ⟩ := hrel
        by_cases hj8 : j < 8
        · have hn : Hid (itC (j + 1) d0 = stC d) := by show stC (itC j d0) = _; rw [hJ.out]
          have hu := stC_u32 hV
          have hd0 := hV.1
          have hd1 := hV.2
          by_cases hp : d % 2 = 1
          · have hs1 : Hid (stC d = bits .xor .u32 (d / 2) 3988292384) := by show stC d = _; unfold stC; rw [if_pos hp]
            generalize stC d = z at *
            go_wp2
            go_round
            case rel => exact ⟨j + 1, _, by omega, by go_num, by rw [hs1.out], hu, hn⟩
            case measure => simp [intOf]; omega
          · have hb1 : d % 2 = 0 := by omega
            have hs1 : Hid (stC d = d / 2) := by show stC d = _; unfold stC; rw [if_neg hp]
            generalize stC d = z at *
            go_wp2
            go_round
            case rel => exact ⟨j + 1, _, by omega, by go_num, by rw [hs1.out], hu, hn⟩
            case measure => simp [intOf]; omega
        · obtain rfl : j = 8 := by omega
          go_wp2
          go_round
          case rel => exact ⟨k + 1, _, by omega, by go_num, rfl, hV, by show _ = _; rw [hst.out, hJ.out]⟩
          case measure => simp [intOf]; omega
    · obtain rfl : k = s.size := by omega
      have hfin : Hid (R = bits .xor .u32 4294967295 c) := by
        show _ = _
        rw [← hR.out, crcS, ← hI.out, List.take_of_length_le (by simp)]
      have hRu : U32 R := by rw [← hR.out]; exact bits_u32 _ _ _
      obtain ⟨hr0, hr1⟩ := hRu
      go_wp2
      go_returns
      refine ⟨?_, by go_grown⟩
      have e : bits .xor .u32 IntKind.u32.max c = R := hfin.out.symm
      show Ending.returned (.string (strOfNums [bits .xor .u32 IntKind.u32.max c % 256, bits .xor .u32 IntKind.u32.max c / 256 % 256, bits .xor .u32 IntKind.u32.max c / 65536 % 256, bits .xor .u32 IntKind.u32.max c / 16777216 % 256])) = _
      rw [e, Int.emod_eq_of_lt (a := R / 16777216) (by omega) (by omega)]
      rfl
end Go.Proofs.YtigldeccfpkdmaaGreatDoor
