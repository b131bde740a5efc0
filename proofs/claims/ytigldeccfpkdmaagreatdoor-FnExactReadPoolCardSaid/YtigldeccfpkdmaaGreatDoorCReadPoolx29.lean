/- The laws' marks of a pool that was read. Regions in which several operations come up in whatever order, each laying memory of its own. Files and ops of a disk, as they lie in memory. The laws' sizes, copies and comparisons of lists of these. The laws' sizes, copies and comparisons of lists of these. Disks, as plain functions. Files of a disk, by the model: what is the same, forms, lists that are right, an op that is done. Lists of files that are right, and an op that is done on one, by the model. Disks that are right, by the model. -/
import Derived.Test.YtigldeccfpkdmaaGreatDoorCReadPoolx28
import Derived.Test.YtigldeccfpkdmaaGreatDoorCReadPoolx15
import Derived.Test.YtigldeccfpkdmaaGreatDoorCReadPoolx10
import Derived.Test.YtigldeccfpkdmaaGreatDoorCReadPoolx01
import Derived.Test.YtigldeccfpkdmaaGreatDoorProg
import Derived.Test.YtigldeccfpkdmaaGreatDoorCReadPoolx02
import Derived.Test.YtigldeccfpkdmaaGreatDoorCReadPoolx03
namespace Go.Proofs.YtigldeccfpkdmaaGreatDoor
open Go Go.RowKit Go.BigFrame
/-- How many marks volumes take. -/
def nVs (vs : List Vo) : Nat := (vs.map fun v => 3 + (v.its.map fun x => 1 + 3 * x.ps.length).sum).sum
theorem kIt_al {w : World} {B : Nat} {irs : List IR} {its : List It} (h : Al2 (ItR w B) irs its) : (irs.map fun x => 1 + 3 * x.n).sum = (its.map fun x => 1 + 3 * x.ps.length).sum := by
  induction h with
  | nil => rfl
  | cons hr _ ih =>
    simp only [List.map_cons, List.sum_cons, ih]
    rw [← hr.ps.sl.len]
theorem kVo_al {w : World} {B k0 : Nat} {vr : List VR} {vs : List Vo} (h : Al2 (VoR w B) vr vs) : kVo k0 vr = k0 + nVs vs := by
  unfold kVo nVs
  congr 1
  induction h with
  | nil => rfl
  | cons hr _ ih =>
    simp only [List.map_cons, List.sum_cons, ih]
    rw [kIt_al hr.its]
theorem nIt_le (its : List It) : (its.map fun x => 1 + 3 * x.ps.length).sum ≤ 3 * (its.flatMap itLn).length := by
  induction its with
  | nil => simp
  | cons x l ih => simp [itLn] at ih ⊢; omega
theorem nVs_le (vs : List Vo) : nVs vs ≤ 3 * (vs.flatMap voLn).length := by
  unfold nVs
  induction vs with
  | nil => simp
  | cons v l ih =>
    have := nIt_le v.its
    simp [voLn] at ih this ⊢
    omega
/-- Lists and texts as small as those of a text that is read. -/
structure DimK (p : Po) : Prop where
  small : SmallP p
  ex : p.ex.length ≤ 60000
  vs : p.vs.length ≤ 60000
  its : ∀ v ∈ p.vs, v.its.length ≤ 60000 ∧ ∀ x ∈ v.its, x.ps.length ≤ 60000
  nv : nVs p.vs ≤ 180000
  rf : p.rf.length ≤ 60000
  lt : p.lt.length ≤ 60000
theorem dimk_text {p : Po} (h : (textW p).length ≤ 60000) : DimK p := by
  rw [text_lines] at h
  have hc := cat_len (poLn p)
  have hm : ∀ l ∈ poLn p, l.length ≤ 60000 := fun l hl => by have := cat_mem hl; omega
  have hL : (poLn p).length ≤ 60000 := by omega
  have e : poLn p = joW [poolK, Lib.itoa p.size, Lib.itoa p.next] :: (p.ex.map exLn ++ (p.vs.flatMap voLn ++ (p.rf.map (ctLn refK) ++ p.lt.map (ctLn lateK)))) := by simp [poLn]
  rw [e] at hL
  simp only [List.length_cons, List.length_append, List.length_map] at hL
  have hw : ∀ (x : ByteArray) (l : By), l ∈ poLn p → x.data.toList.length ≤ l.length → x.size ≤ 1048576 := fun x l hl hx => by
    have := hm l hl
    rw [Lib.size_eq]
    omega
  have hvm : ∀ v ∈ p.vs, ∀ l ∈ voLn v, l ∈ poLn p := fun v hv l hl => by
    rw [e]
    simp only [List.mem_cons, List.mem_append, List.mem_flatMap]
    exact .inr (.inr (.inl ⟨v, hv, hl⟩))
  have hvs : p.vs.length ≤ 60000 := by
    have := flat_cnt (f := voLn) p.vs (fun v _ => by simp [voLn])
    omega
  have hits : ∀ v ∈ p.vs, v.its.length ≤ 60000 ∧ ∀ x ∈ v.its, x.ps.length ≤ 60000 := fun v hv => by
    have h1 := flat_mem (f := voLn) hv
    have h3 : (voLn v).length = 1 + (v.its.flatMap itLn).length := by simp [voLn]; omega
    refine ⟨?_, fun x hx => ?_⟩
    · have h2 := flat_cnt (f := itLn) v.its (fun x _ => by simp [itLn])
      omega
    · have h2 := flat_mem (f := itLn) hx
      have h4 : (itLn x).length = 1 + x.ps.length := by simp [itLn]; omega
      omega
  refine ⟨⟨⟨by omega, fun x hx => ?_⟩, ⟨by omega, fun v hv => ⟨?_, ⟨by have := (hits v hv).1; omega, fun x hx => ⟨?_, by have := (hits v hv).2 x hx; omega⟩⟩⟩⟩, ⟨by omega, fun c hc' => ?_⟩, by omega, fun c hc' => ?_⟩, by omega, hvs, hits, ?_, by omega, by omega⟩
  · exact hw _ (exLn x) (by rw [e]; simp only [List.mem_cons, List.mem_append, List.mem_map]; exact .inr (.inl ⟨x, hx, rfl⟩)) (jo_mem (l := [exK, Lib.itoa x.a, x.d.data.toList]) (by simp))
  · exact hw _ (joW [volK, Lib.itoa v.id, v.nm.data.toList, flagL v.fx]) (hvm v hv _ (by simp [voLn])) (jo_mem (by simp))
  · exact hw _ (joW [fileK, x.nm.data.toList]) (hvm v hv _ (by simp only [voLn, List.mem_cons, List.mem_flatMap]; exact .inr ⟨x, hx, by simp [itLn]⟩)) (jo_mem (by simp))
  · exact hw _ (ctLn refK c) (by rw [e]; simp only [List.mem_cons, List.mem_append, List.mem_map]; exact .inr (.inr (.inr (.inl ⟨c, hc', rfl⟩)))) (jo_mem (l := [refK, Lib.itoa c.o.a, Lib.itoa c.o.v, c.o.f.data.toList, Lib.itoa c.n]) (by simp))
  · exact hw _ (ctLn lateK c) (by rw [e]; simp only [List.mem_cons, List.mem_append, List.mem_map]; exact .inr (.inr (.inr (.inr ⟨c, hc', rfl⟩)))) (jo_mem (l := [lateK, Lib.itoa c.o.a, Lib.itoa c.o.v, c.o.f.data.toList, Lib.itoa c.n]) (by simp))
  · have := nVs_le p.vs
    omega
theorem dimk_empty : DimK emptyP := by
  refine ⟨⟨⟨by simp [emptyP], fun x hx => by simp [emptyP] at hx⟩, ⟨by simp [emptyP], fun x hx => by simp [emptyP] at hx⟩, ⟨by simp [emptyP], fun x hx => by simp [emptyP] at hx⟩, by simp [emptyP], fun x hx => by simp [emptyP] at hx⟩, by simp [emptyP], by simp [emptyP], fun x hx => by simp [emptyP] at hx, by simp [emptyP, nVs], by simp [emptyP], by simp [emptyP]⟩
/-- A pool that bears marks, up to k. -/
structure MkPo (w : World) (v : Value) (k : Nat) : Prop where
  out : ∃ (s n : Int) (ea : Option Addr) (en ec : Nat) (va : Option Addr) (vn vc : Nat) (ra : Option Addr) (rn rc : Nat) (la : Option Addr) (ln lc : Nat) (vr : List VR), v = .agg #[.int .i64 s, .int .i64 n, .slice ea en ec, .slice va vn vc, .slice ra rn rc, .slice la ln lc] ∧
    MkE w ea en 1 ∧ MkV w va vr (1 + 2 * en) ∧ MkC w ra rn (kVo (1 + 2 * en) vr) ∧ MkC w la ln (kVo (1 + 2 * en) vr + 4 * rn) ∧ k = kVo (1 + 2 * en) vr + 4 * rn + 4 * ln ∧
    vr.length = vn ∧ (∀ x ∈ vr, x.irs.length = x.n) ∧ (∀ x ∈ vr, x.n ≤ 4194304 ∧ ∀ y ∈ x.irs, y.n ≤ 4194304) ∧ en ≤ 60000 ∧ vn ≤ 60000 ∧ rn ≤ 60000 ∧ ln ≤ 60000 ∧ kVo (1 + 2 * en) vr ≤ 400000
theorem MkPo.below {w w' : World} {v : Value} {k : Nat} (h : MkPo w v k) (hb : Below w.heap.size w w') : MkPo w' v k := by
  obtain ⟨s, n, ea, en, ec, va, vn, vc, ra, rn, rc, la, ln, lc, vr, e, h1, h2, h3, h4, r⟩ := h.out
  exact ⟨s, n, ea, en, ec, va, vn, vc, ra, rn, rc, la, ln, lc, vr, e, h1.below hb, h2.below hb, h3.below hb, h4.below hb, r⟩
theorem own_no {α β : Type} {cs : α → List Value} {cs' : β → List Value} {sz sz' : Nat} {t t' : TypeId} {w : World} {B n cap B' n' cap' : Nat} {a a' : Option Addr} {l : List α} {l' : List β} (h : ResAt cs sz t w B a n cap l) (h' : ResAt cs' sz' t' w B' a' n' cap' l') (ht : t ≠ t') : ∀ ad, a = some ad → ad.block ∉ (blkO a').toList := fun ad e hm => by
  cases ha : a' with
  | none => rw [ha] at hm; simp [blkO] at hm
  | some ad' => rw [ha] at hm; simp [blkO] at hm; exact res_ne h h' ht e ha hm
theorem own_novr {α : Type} {cs : α → List Value} {sz : Nat} {t : TypeId} {w : World} {B B' n cap : Nat} {a : Option Addr} {l : List α} {vr : List VR} {vs : List Vo} (h : ResAt cs sz t w B a n cap l) (AL : Al2 (VoR w B') vr vs) (h1 : t ≠ tI) (h2 : t ≠ tP) : ∀ ad, a = some ad → ad.block ∉ vbl vr := fun ad e hm => by
  rcases vbl_cases hm with ⟨z, hz, az, ez, eb⟩ | ⟨z, hz, y, hy, ay, ey, eb⟩
  · obtain ⟨u, hu⟩ := al_mem AL hz
    exact res_ne h hu.rows h1 e ez eb.symm
  · obtain ⟨u, hu⟩ := al_mem AL hz
    obtain ⟨t, ht⟩ := al_mem hu.its hy
    exact res_ne h ht.ps h2 e ey eb.symm
theorem chg_low {L : List Nat} {w w' : World} {B : Nat} (h : Chg L w w') (hL : ∀ b ∈ L, B ≤ b) (hB : B ≤ w.heap.size) : Below B w w' := ⟨h.os, h.tape, h.output, h.size, fun k hk => h.block k (by omega) (fun hm => by have := hL k hm; omega)⟩
theorem vbl_ge {w : World} {B : Nat} {vr : List VR} {vs : List Vo} (AL : Al2 (VoR w B) vr vs) : ∀ b ∈ vbl vr, B ≤ b := fun b hb => by
  rcases vbl_cases hb with ⟨z, hz, az, ez, rfl⟩ | ⟨z, hz, y, hy, ay, ey, rfl⟩
  · obtain ⟨u, hu⟩ := al_mem AL hz
    exact (hu.rows.block az ez).1
  · obtain ⟨u, hu⟩ := al_mem AL hz
    obtain ⟨t, ht⟩ := al_mem hu.its hy
    exact (ht.ps.block ay ey).1
theorem blkO_ge {α : Type} {cs : α → List Value} {sz : Nat} {t : TypeId} {w : World} {B n cap : Nat} {a : Option Addr} {l : List α} (h : ResAt cs sz t w B a n cap l) : ∀ b ∈ (blkO a).toList, B ≤ b := fun b hb => by
  cases ha : a with
  | none => rw [ha] at hb; simp [blkO] at hb
  | some ad => rw [ha] at hb; simp [blkO] at hb; subst hb; exact (h.block ad ha).1
theorem al_mem2 {α β : Type} {R : α → β → Prop} {l : List α} {m : List β} (h : Al2 R l m) {x : α} (hx : x ∈ l) : ∃ y ∈ m, R x y := by
  induction h with
  | nil => cases hx
  | cons hr _ ih =>
    rcases List.mem_cons.1 hx with rfl | hx
    · exact ⟨_, by simp, hr⟩
    · obtain ⟨y, hy, h⟩ := ih hx
      exact ⟨y, by simp [hy], h⟩
theorem MkE.chg {w w' : World} {a : Option Addr} {n k0 : Nat} {L : List Nat} (h : MkE w a n k0) (hc : Chg L w w') (hn : ∀ ad, a = some ad → ad.block ∉ L) : MkE w' a n k0 := fun j hj => by
  obtain ⟨b, ha, c0, c1⟩ := h j hj
  have := hn _ ha
  exact ⟨b, ha, hc.cell c0 this, hc.cell c1 this⟩
theorem MkC.chg {w w' : World} {a : Option Addr} {n k0 : Nat} {L : List Nat} (h : MkC w a n k0) (hc : Chg L w w') (hn : ∀ ad, a = some ad → ad.block ∉ L) : MkC w' a n k0 := fun j hj => by
  obtain ⟨b, ha, c0, c1, c2, c3⟩ := h j hj
  have := hn _ ha
  exact ⟨b, ha, hc.cell c0 this, hc.cell c1 this, hc.cell c2 this, hc.cell c3 this⟩
theorem blkO_no {a a' : Option Addr} (h : ∀ x y, a = some x → a' = some y → x.block ≠ y.block) : ∀ ad, a = some ad → ad.block ∉ (blkO a').toList := fun ad e hm => by
  cases ha : a' with
  | none => rw [ha] at hm; simp [blkO] at hm
  | some ad' => rw [ha] at hm; simp [blkO] at hm; exact h ad ad' e ha hm
theorem blkO_lt {α : Type} {cs : α → List Value} {sz : Nat} {t : TypeId} {w : World} {B n cap : Nat} {a : Option Addr} {l : List α} (h : ResAt cs sz t w B a n cap l) : ∀ b ∈ (blkO a).toList, b < w.heap.size := fun b hb => by
  cases ha : a with
  | none => rw [ha] at hb; simp [blkO] at hb
  | some ad => rw [ha] at hb; simp [blkO] at hb; subst hb; exact (h.block ad ha).2
theorem vbl_lt {w : World} {B : Nat} {vr : List VR} {vs : List Vo} (AL : Al2 (VoR w B) vr vs) : ∀ b ∈ vbl vr, b < w.heap.size := fun b hb => by
  rcases vbl_cases hb with ⟨z, hz, az, ez, rfl⟩ | ⟨z, hz, y, hy, ay, ey, rfl⟩
  · obtain ⟨u, hu⟩ := al_mem AL hz
    exact (hu.rows.block az ez).2
  · obtain ⟨u, hu⟩ := al_mem AL hz
    obtain ⟨t, ht⟩ := al_mem hu.its hy
    exact (ht.ps.block ay ey).2
set_option maxHeartbeats 4000000 in
set_option maxRecDepth 100000 in
theorem laws_markPoolM (B : Nat) (v : Value) (p : Po) (wT w : World) (h : PoolM B wT v p) (hW : Below wT.heap.size wT w) (hd : DimK p) (hB : B ≤ wT.heap.size) (kb : Nat) (kc : Array Value) (kt : TypeId) (KB : Blk w kb kc kt) (hkb : wT.heap.size ≤ kb) :
    Calls Tryz.prog 12 #[v, .int .i64 1] w fun e w' => (∃ k : Nat, e = .returned (.int .i64 ((k : Nat) : Int)) ∧ MkPo w' v k ∧ k ≤ 1000000) ∧ Below B w w' ∧ Blk w' kb kc kt := by
  obtain ⟨ea, en, ec, va, vn, vc, ra, rn, rc, la, ln, lc, vr, rfl, RE, RV, RR, RL, hap, AL, N1, N2⟩ := h.out
  have hen : en ≤ 60000 := by rw [← RE.sl.len]; exact hd.ex
  have hvn : vn ≤ 60000 := by rw [← RV.sl.len, AL.len]; exact hd.vs
  have hrn : rn ≤ 60000 := by rw [← RR.sl.len]; exact hd.rf
  have hln : ln ≤ 60000 := by rw [← RL.sl.len]; exact hd.lt
  have hk : kVo (1 + 2 * en) vr ≤ 400000 := by rw [kVo_al AL]; have := hd.nv; omega
  have hkg := kVo_ge (1 + 2 * en) vr
  have hvl : Hid (vr.length = vn) := RV.sl.len
  have hil : Hid (∀ x ∈ vr, x.irs.length = x.n) := fun x hx => by
    obtain ⟨u, hu⟩ := al_mem AL hx
    exact hu.rows.sl.len
  have hpn : Hid (∀ x ∈ vr, x.n ≤ 4194304 ∧ ∀ y ∈ x.irs, y.n ≤ 4194304) := fun x hx => by
    obtain ⟨u, hu1, hu⟩ := al_mem2 AL hx
    obtain ⟨d1, d2⟩ := hd.its u hu1
    refine ⟨by rw [← hu.rows.sl.len, hu.its.len]; omega, fun y hy => ?_⟩
    obtain ⟨t, ht1, ht⟩ := al_mem2 hu.its hy
    have := d2 t ht1
    rw [← ht.ps.sl.len]
    omega
  have hLE : Hid (∀ b ∈ (blkO ea).toList, b < wT.heap.size) := blkO_lt RE
  have hLV : Hid (∀ b ∈ (blkO va).toList ++ vbl vr, b < wT.heap.size) := fun b hb => (List.mem_append.1 hb).elim (blkO_lt RV b) (vbl_lt AL b)
  have hLR : Hid (∀ b ∈ (blkO ra).toList, b < wT.heap.size) := blkO_lt RR
  have hLL : Hid (∀ b ∈ (blkO la).toList, b < wT.heap.size) := blkO_lt RL
  have hGE := blkO_ge RE
  have hGV : ∀ b ∈ (blkO va).toList ++ vbl vr, B ≤ b := fun b hb => (List.mem_append.1 hb).elim (blkO_ge RV b) (vbl_ge AL b)
  have hGR := blkO_ge RR
  have hGL := blkO_ge RL
  have hEV : ∀ ad, ea = some ad → ad.block ∉ (blkO va).toList ++ vbl vr := fun ad e hm => (List.mem_append.1 hm).elim (own_no RE RV (by decide) ad e) (own_novr RE AL (by decide) (by decide) ad e)
  have hRV : ∀ ad, ra = some ad → ad.block ∉ (blkO va).toList ++ vbl vr := fun ad e hm => (List.mem_append.1 hm).elim (own_no RR RV (by decide) ad e) (own_novr RR AL (by decide) (by decide) ad e)
  have hLVn : ∀ ad, la = some ad → ad.block ∉ (blkO va).toList ++ vbl vr := fun ad e hm => (List.mem_append.1 hm).elim (own_no RL RV (by decide) ad e) (own_novr RL AL (by decide) (by decide) ad e)
  have hVE := own_no RV RE (by decide)
  have hER := own_no RE RR (by decide)
  have hEL := own_no RE RL (by decide)
  have hRE := own_no RR RE (by decide)
  have hLEn := own_no RL RE (by decide)
  have hVR := own_no RV RR (by decide)
  have hVL := own_no RV RL (by decide)
  have hvE : ∀ b ∈ vbl vr, b ∉ (blkO ea).toList := fun b hb hm => by
    cases hea : ea with
    | none => rw [hea] at hm; simp [blkO] at hm
    | some ad => rw [hea] at hm; simp [blkO] at hm; exact own_novr RE AL (by decide) (by decide) ad hea (hm ▸ hb)
  have hvR : ∀ b ∈ vbl vr, b ∉ (blkO ra).toList := fun b hb hm => by
    cases hea : ra with
    | none => rw [hea] at hm; simp [blkO] at hm
    | some ad => rw [hea] at hm; simp [blkO] at hm; exact own_novr RR AL (by decide) (by decide) ad hea (hm ▸ hb)
  have hvL : ∀ b ∈ vbl vr, b ∉ (blkO la).toList := fun b hb hm => by
    cases hea : la with
    | none => rw [hea] at hm; simp [blkO] at hm
    | some ad => rw [hea] at hm; simp [blkO] at hm; exact own_novr RL AL (by decide) (by decide) ad hea (hm ▸ hb)
  have hRL := blkO_no hap
  have hLRn := blkO_no (fun x y hx hy => (hap y x hy hx).symm)
  have hwT := hW.size
  have hA0 : Below w.heap.size w (w.alloc (.cells #[.int .i64 p.size, .int .i64 p.next, .slice ea en ec, .slice va vn vc, .slice ra rn rc, .slice la ln lc] 26)) := (Below.refl _ _).alloc (Nat.le_refl _) _
  have PB := Blk.new w #[.int .i64 p.size, .int .i64 p.next, .slice ea en ec, .slice va vn vc, .slice ra rn rc, .slice la ln lc] 26
  have hWA := chain hW hA0
  replace KB := KB.below hA0
  replace RE := RE.below hWA
  replace RV := RV.below hWA
  replace RR := RR.below hWA
  replace RL := RL.below hWA
  replace AL : Al2 (VoR _ B) vr p.vs := AL.imp fun _ _ _ h => h.below hWA
  obtain ⟨K2, hK2⟩ : ∃ K, Hid (kVo (1 + 2 * en) vr = K) := ⟨_, rfl⟩
  rw [hK2.out] at hk hkg
  go_enter Tryz.func12, Tryz.ntmps12
  go_wp2_with fail
  generalize w.alloc (.cells #[.int .i64 p.size, .int .i64 p.next, .slice ea en ec, .slice va vn vc, .slice ra rn rc, .slice la ln lc] 26) = W0 at *
  have hB0 : Below B w W0 := hA0.mono (by omega)
  have hs0 := hA0.size
  refine (markMkE B ea en ec 1 p.ex W0 RE (by omega) ⟨by omega, by omega⟩).mono ?_
  rintro e w1 ⟨rfl, hE1, hg1⟩
  have C1 := own_chg hg1
  replace RV := RV.chg C1 hVE
  replace RR := RR.chg C1 hRE
  replace RL := RL.chg C1 hLEn
  replace AL : Al2 (VoR w1 B) vr p.vs := AL.imp fun x hx _ hr => ⟨hr.id, hr.nm, hr.fx, hr.rows.chg C1 (fun ad e => hvE _ (vbl_v hx e)), ResAt.chgA hr.its C1 (fun y hy ad e => hvE _ (vbl_p hx hy e))⟩
  replace PB := C1.blk PB (fun hm => by have := hLE.out _ hm; omega)
  replace KB := C1.blk KB (fun hm => by have := hLE.out _ hm; omega)
  have b1 := hB0.trans (chg_low C1 hGE (by omega))
  have hs1 := b1.size
  clear hg1 C1 RE hA0 hB0
  have p3 := PB.cell 3
  have q2 := laws_markVolM B va vn vc (1 + 2 * en) vr p.vs w1 RV AL N1 N2 (by omega) hpn.out (by omega) (by rw [hK2.out]; omega)
  rw [hK2.out] at q2
  go_wp2_with fail
  refine q2.mono ?_
  rintro e w2 ⟨rfl, hV2, C2⟩
  replace hE1 := hE1.chg C2 hEV
  replace RR := RR.chg C2 hRV
  replace RL := RL.chg C2 hLVn
  replace PB := C2.blk PB (fun hm => by have := hLV.out _ hm; omega)
  replace KB := C2.blk KB (fun hm => by have := hLV.out _ hm; omega)
  replace b1 := b1.trans (chg_low C2 hGV (by omega))
  have hs2 := b1.size
  clear q2 C2 p3 RV AL
  have p4 := PB.cell 4
  go_wp2_with fail
  refine (markMkC B ra rn rc K2 p.rf w2 RR (by omega) ⟨by omega, by omega⟩).mono ?_
  rintro e w3 ⟨rfl, hR3, hg3⟩
  have C3 := own_chg hg3
  replace hE1 := hE1.chg C3 hER
  replace hV2 := hV2.chg C3 hVR (fun x hx ad e => hvR _ (vbl_v hx e)) (fun x hx y hy ad e => hvR _ (vbl_p hx hy e))
  replace RL := RL.chg C3 hLRn
  replace PB := C3.blk PB (fun hm => by have := hLR.out _ hm; omega)
  replace KB := C3.blk KB (fun hm => by have := hLR.out _ hm; omega)
  replace b1 := b1.trans (chg_low C3 hGR (by omega))
  have hs3 := b1.size
  clear C3 p4 RR hg3
  have p5 := PB.cell 5
  go_wp2_with fail
  refine (markMkC B la ln lc (K2 + 4 * rn) p.lt w3 RL (by omega) ⟨by omega, by omega⟩).mono ?_
  rintro e w4 ⟨rfl, hL4, hg4⟩
  have C4 := own_chg hg4
  replace hE1 := hE1.chg C4 hEL
  replace hV2 := hV2.chg C4 hVL (fun x hx ad e => hvL _ (vbl_v hx e)) (fun x hx y hy ad e => hvL _ (vbl_p hx hy e))
  replace hR3 := hR3.chg C4 hRL
  replace b1 := b1.trans (chg_low C4 hGL (by omega))
  replace KB := C4.blk KB (fun hm => by have := hLL.out _ hm; omega)
  clear C4 p5 RL hg4
  go_wp2
  go_returns
  refine ⟨⟨K2 + 4 * rn + 4 * ln, rfl, ⟨p.size, p.next, ea, en, ec, va, vn, vc, ra, rn, rc, la, ln, lc, vr, rfl, hE1, hV2, ?_, ?_, ?_, hvl.out, hil.out, hpn.out, hen, hvn, hrn, hln, ?_⟩, by omega⟩, b1, KB⟩
  · rw [hK2.out]; exact hR3
  · rw [hK2.out]; exact hL4
  · rw [hK2.out]
  · rw [hK2.out]; exact hk
set_option maxHeartbeats 4000000 in
set_option maxRecDepth 100000 in
theorem laws_heldPoolM (v : Value) (k : Nat) (w : World) (h : MkPo w v k) :
    Calls Tryz.prog 13 #[v, .int .i64 1] w fun e w' => e = .returned (.int .i64 ((k : Nat) : Int)) ∧ Below w.heap.size w w' := by
  obtain ⟨s, n, ea, en, ec, va, vn, vc, ra, rn, rc, la, ln, lc, vr, rfl, h1, h2, h3, h4, hk, hvl, hil, hpn, hen, hvn, hrn, hln, hK⟩ := h.out
  have hA0 : Below w.heap.size w (w.alloc (.cells #[.int .i64 s, .int .i64 n, .slice ea en ec, .slice va vn vc, .slice ra rn rc, .slice la ln lc] 26)) := (Below.refl _ _).alloc (Nat.le_refl _) _
  have PB := Blk.new w #[.int .i64 s, .int .i64 n, .slice ea en ec, .slice va vn vc, .slice ra rn rc, .slice la ln lc] 26
  replace h1 := h1.below hA0
  replace h2 := h2.below hA0
  replace h3 := h3.below hA0
  replace h4 := h4.below hA0
  have hkg := kVo_ge (1 + 2 * en) vr
  obtain ⟨K2, hK2⟩ : ∃ K, Hid (kVo (1 + 2 * en) vr = K) := ⟨_, rfl⟩
  rw [hK2.out] at h3 h4 hk hK hkg
  have hkh : Hid (k = K2 + 4 * rn + 4 * ln) := hk
  have hvlh : Hid (vr.length = vn) := hvl
  have hilh : Hid (∀ x ∈ vr, x.irs.length = x.n) := hil
  have hpnh : Hid (∀ x ∈ vr, x.n ≤ 4194304 ∧ ∀ y ∈ x.irs, y.n ≤ 4194304) := hpn
  clear hk hvl hil hpn
  have q2 := fun (u : World) (hu : MkV u va vr (1 + 2 * en)) => laws_heldVolM va vn vc (1 + 2 * en) vr u hu hvlh.out hilh.out (by omega) hpnh.out (by omega) (by rw [hK2.out]; omega)
  rw [hK2.out] at q2
  go_enter Tryz.func13, Tryz.ntmps13
  go_wp2_with fail
  generalize w.alloc (.cells #[.int .i64 s, .int .i64 n, .slice ea en ec, .slice va vn vc, .slice ra rn rc, .slice la ln lc] 26) = W0 at *
  refine (heldMkE ea en ec 1 W0 h1 (by omega) ⟨by omega, by omega⟩).mono ?_
  rintro e w1 ⟨rfl, hB1⟩
  replace PB := PB.below hB1
  replace h2 := h2.below hB1
  replace h3 := h3.below hB1
  replace h4 := h4.below hB1
  replace hA0 := chain hA0 hB1
  clear hB1 h1
  have p3 := PB.cell 3
  have n1 : ¬ (((1 + 2 * en : Nat) : Int) < 0) := by omega
  go_wp2_with fail
  refine (q2 w1 h2).mono ?_
  rintro e w2 ⟨rfl, hB1⟩
  replace PB := PB.below hB1
  replace h3 := h3.below hB1
  replace h4 := h4.below hB1
  replace hA0 := chain hA0 hB1
  clear hB1 h2 p3 q2
  have p4 := PB.cell 4
  have n2 : ¬ (((K2 : Nat) : Int) < 0) := by omega
  go_wp2_with fail
  refine (heldMkC ra rn rc K2 w2 h3 (by omega) ⟨by omega, by omega⟩).mono ?_
  rintro e w3 ⟨rfl, hB1⟩
  replace PB := PB.below hB1
  replace h4 := h4.below hB1
  replace hA0 := chain hA0 hB1
  clear hB1 h3 p4
  have p5 := PB.cell 5
  have n3 : ¬ (((K2 + 4 * rn : Nat) : Int) < 0) := by omega
  go_wp2_with fail
  refine (heldMkC la ln lc (K2 + 4 * rn) w3 h4 (by omega) ⟨by omega, by omega⟩).mono ?_
  rintro e w4 ⟨rfl, hB1⟩
  replace hA0 := chain hA0 hB1
  clear hB1 h4 p5
  have n4 : ¬ (((K2 + 4 * rn + 4 * ln : Nat) : Int) < 0) := by omega
  rw [← hkh.out] at n4 ⊢
  go_wp2
  go_returns
  exact ⟨rfl, hA0⟩
end Go.Proofs.YtigldeccfpkdmaaGreatDoor
namespace Go.Proofs.YtigldeccfpkdmaaGreatDoor
open Go Go.RowKit Go.BigFrame
/-- Two states that differ in these slots alone. -/
structure Agree (D : List Nat) (a0 a : Act) : Prop where
  rest : ∀ k, k ∉ D → a.tmps[k]? = a0.tmps[k]?
  size : a.tmps.size = a0.tmps.size
  defers : a.defers = a0.defers
theorem Agree.refl (D : List Nat) (a : Act) : Agree D a a := ⟨fun _ _ => rfl, rfl, rfl⟩
theorem Agree.put {D : List Nat} {a0 a : Act} (h : Agree D a0 a) {k : Nat} (v : Value) (hk : k ∈ D) : Agree D a0 (a.put (some k) v) := by
  refine ⟨fun j hj => ?_, by simp [Act.put, h.size], h.defers⟩
  rw [← h.rest j hj]
  have hne : k ≠ j := fun e => hj (e ▸ hk)
  simp [Act.put, Array.getElem?_setIfInBounds_ne hne]
theorem Agree.eval {D : List Nat} {a0 a : Act} (h : Agree D a0 a) {k : Nat} (hk : k ∉ D) : a.eval (.tmp k) = a0.eval (.tmp k) := by
  have := h.rest k hk
  simp only [Act.eval, Array.getD_eq_getD_getElem?, this]
/-- All of them put, one behind the other. -/
def putAll (x : Nat → Value) (D : List Nat) (a : Act) : Act := D.foldl (fun b k => b.put (some k) (x k)) a
end Go.Proofs.YtigldeccfpkdmaaGreatDoor
namespace Go.Proofs.YtigldeccfpkdmaaGreatDoor
open Go.RowKit
structure Fl where
  nm : ByteArray
  d : ByteArray
def Fl.cs (p : Fl) : List Value := [.string p.nm, .string p.d]
abbrev FlsAt (w : World) (a : Option Addr) (n : Nat) (l : List Fl) : Prop := SlAt Fl.cs 2 w a n l
structure Dp where
  k : Int
  nm : ByteArray
  tt : ByteArray
  d : ByteArray
def Dp.cs (p : Dp) : List Value := [.int .i64 p.k, .string p.nm, .string p.tt, .string p.d]
abbrev DpsAt (w : World) (a : Option Addr) (n : Nat) (l : List Dp) : Prop := SlAt Dp.cs 4 w a n l
/-- Its texts are texts. -/
def StrD (p : Dp) : Prop := p.nm.size ≤ 9223372036854775807 ∧ p.tt.size ≤ 9223372036854775807 ∧ p.d.size ≤ 9223372036854775807
end Go.Proofs.YtigldeccfpkdmaaGreatDoor
namespace Go.Proofs.YtigldeccfpkdmaaGreatDoor
open Go.RowKit Go.BigFrame
/-- All bytes of it. -/
def bytesF (p : Fl) : Nat := p.nm.size + p.d.size
/-- A list that is within the budget. -/
def SmallF (n : Nat) (l : List Fl) : Prop := n ≤ 1048576 ∧ ∀ e ∈ l, bytesF e ≤ 1048576
end Go.Proofs.YtigldeccfpkdmaaGreatDoor
namespace Go.Proofs.YtigldeccfpkdmaaGreatDoor
open Go.RowKit Go.BigFrame
/-- All bytes of it. -/
def bytesD (p : Dp) : Nat := p.nm.size + p.tt.size + p.d.size
/-- A list that is within the budget. -/
def SmallD (n : Nat) (l : List Dp) : Prop := n ≤ 1048576 ∧ ∀ e ∈ l, bytesD e ≤ 1048576
end Go.Proofs.YtigldeccfpkdmaaGreatDoor
namespace Go.Proofs.YtigldeccfpkdmaaGreatDoor
open Go.RowKit
def nmB (s : ByteArray) : Bool := decide (1 ≤ s.size) && decide (s.size ≤ 100)
structure Dk where
  live : List Fl
  safe : List Fl
  ops : List Dp
end Go.Proofs.YtigldeccfpkdmaaGreatDoor
namespace Go.Proofs.YtigldeccfpkdmaaGreatDoor
open Go Go.RowKit Go.BigFrame
theorem wp_region_heldH {P : Program} {ops : Array Oper} {Q : Exit → Act → World → Prop} {S : World → Prop} {id : Nat} {a : Act} {w : World} (n : Nat) (hm : P.follows .mixedOrders = true) (hn : ops.size = n)
    (h : wpAnyH P .any ops Q S n (Array.replicate n false) a w.drew) : (Code.region id ops true).wp P Q a w := by
  subst hn
  exact wp_region_held hm h
end Go.Proofs.YtigldeccfpkdmaaGreatDoor
namespace Go.Proofs.YtigldeccfpkdmaaGreatDoor
open Go Go.RowKit Go.BigFrame
/-- Files that are not too great. -/
def BndF (l : List Fl) : Prop := ∀ x ∈ l, x.nm.size ≤ 9223372036854775807 ∧ x.d.size ≤ 100000000
end Go.Proofs.YtigldeccfpkdmaaGreatDoor
namespace Go.Proofs.YtigldeccfpkdmaaGreatDoor
open Go Go.RowKit Go.BigFrame
/-- A disk in memory. -/
structure SlH {α : Type} (cs : α → List Value) (sz : Nat) (w : World) (a : Option Addr) (n cap : Nat) (l : List α) : Prop where
  sl : SlAt cs sz w a n l
  spot : ∀ ad, a = some ad → ad.spot = none
  nil : a = none → cap = 0
theorem SlH.below {α : Type} {cs : α → List Value} {sz : Nat} {w w' : World} {a : Option Addr} {n cap : Nat} {l : List α} (h : SlH cs sz w a n cap l) (hb : Below w.heap.size w w') : SlH cs sz w' a n cap l := ⟨h.sl.below hb, h.spot, h.nil⟩
theorem ResAt.slH {α : Type} {cs : α → List Value} {sz : Nat} {t : TypeId} {w : World} {B n cap : Nat} {a : Option Addr} {l : List α} (h : ResAt cs sz t w B a n cap l) : SlH cs sz w a n cap l := by
  refine ⟨h.sl, fun ad e => ?_, fun e => ?_⟩
  · rcases h.own with ⟨h0, _⟩ | ⟨b, h1, _⟩
    · rw [h0] at e; cases e
    · rw [h1] at e; cases e; rfl
  · rcases h.own with ⟨_, _, h0⟩ | ⟨b, h1, _⟩
    · exact h0
    · rw [h1] at e; cases e
def DiskAt (w : World) (v : Value) (d : Dk) : Prop :=
  ∃ la ln lc sa sn sc oa on oc, v = .agg #[.slice la ln lc, .slice sa sn sc, .slice oa on oc] ∧ SlH Fl.cs 2 w la ln lc d.live ∧ SlH Fl.cs 2 w sa sn sc d.safe ∧ SlH Dp.cs 4 w oa on oc d.ops
theorem DiskAt.below {w w' : World} {v : Value} {d : Dk} (h : DiskAt w v d) (hb : Below w.heap.size w w') : DiskAt w' v d := by
  obtain ⟨la, ln, lc, sa, sn, sc, oa, on, oc, hv, h1, h2, h3⟩ := h
  exact ⟨la, ln, lc, sa, sn, sc, oa, on, oc, hv, h1.below hb, h2.below hb, h3.below hb⟩
/-- A disk that is asked. -/
structure DimD (d : Dk) : Prop where
  live : d.live.length ≤ 4000000 ∧ BndF d.live
  safe : d.safe.length ≤ 4000000 ∧ BndF d.safe
  ops : d.ops.length ≤ 4000000 ∧ ∀ o ∈ d.ops, StrD o ∧ o.d.size ≤ 10000000
end Go.Proofs.YtigldeccfpkdmaaGreatDoor
