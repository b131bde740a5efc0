/- A pool read line by line, as the program reads it: plain. What the program reads is what was written, and what was written is read: plain. What the program reads, written again, is the text: plain. -/
import Derived.Test.YtigldeccfpkdmaaGreatDoorCReadPoolx08
import Derived.Test.YtigldeccfpkdmaaGreatDoorCReadPoolx10
namespace Go.Proofs.YtigldeccfpkdmaaGreatDoor
open Go
theorem wordL_jo : ∀ (l : List ByteArray), wordL l = joW (l.map (·.data.toList))
  | [] => rfl
  | [a] => word_one a
  | a :: b :: l => by
    rw [word_step, wordL_jo (b :: l)]
    simp [joW]
def poolK : By := [112, 111, 111, 108]
def exK : By := [101, 120, 116, 101, 110, 116]
def volK : By := [118, 111, 108, 117, 109, 101]
def fileK : By := [102, 105, 108, 101]
def partK : By := [112, 97, 114, 116]
def refK : By := [114, 101, 102]
def lateK : By := [108, 97, 116, 101]
def flagP (s : By) : Option Bool := if s = [48] then some false else if s = [49] then some true else none
def exP (l : By) : Option Ex := match wdsN 2 l with
  | [_, a, d] => (numP a).map fun n => ⟨n, bA d⟩
  | _ => none
def ptP (l : By) : Option Pt := match wdsN 3 l with
  | [_, a, f, n] => (numP a).bind fun a => (numP f).bind fun f => (numP n).map fun n => ⟨a, f, n⟩
  | _ => none
def fileP (l : By) : Option ByteArray := match wdsN 1 l with
  | [_, a] => some (bA a)
  | _ => none
def voP (l : By) : Option (Int × ByteArray × Bool) := match wdsN 3 l with
  | [_, i, nm, f] => (numP i).bind fun i => (flagP f).map fun f => (i, bA nm, f)
  | _ => none
def ctP (l : By) : Option Ct := match wdsN 4 l with
  | [_, a, v, f, n] => (numP a).bind fun a => (numP v).bind fun v => (numP n).map fun n => ⟨⟨a, v, bA f⟩, n⟩
  | _ => none
def hdP (l : By) : Option (Int × Int) := match wdsN 2 l with
  | [_, a, b] => (numP a).bind fun a => (numP b).map fun b => (a, b)
  | _ => none
/-- Lines that begin with a word, as long as they do. -/
def manyP {α : Type} (wd : By) (f : By → Option α) : List By → Option (List α × List By)
  | [] => some ([], [])
  | l :: r => if ahP wd l then (f l).bind fun x => (manyP wd f r).map fun q => (x :: q.1, q.2) else some ([], l :: r)
def itemsP : Nat → List By → Option (List It × List By)
  | 0, ls => some ([], ls)
  | _ + 1, [] => some ([], [])
  | k + 1, l :: r => if ahP fileK l then (fileP l).bind fun nm => (manyP partK ptP r).bind fun q => (itemsP k q.2).map fun s => (⟨nm, q.1⟩ :: s.1, s.2) else some ([], l :: r)
def volsP : Nat → List By → Option (List Vo × List By)
  | 0, ls => some ([], ls)
  | _ + 1, [] => some ([], [])
  | k + 1, l :: r => if ahP volK l then (voP l).bind fun h => (itemsP r.length r).bind fun q => (volsP k q.2).map fun s => (⟨h.1, h.2.1, h.2.2, q.1⟩ :: s.1, s.2) else some ([], l :: r)
def poolP : List By → Option (Po × List By)
  | [] => none
  | l :: r => if ahP poolK l then (hdP l).bind fun h => (manyP exK exP r).bind fun a => (volsP a.2.length a.2).bind fun b => (manyP refK ctP b.2).bind fun c => (manyP lateK ctP c.2).map fun d => (⟨h.1, h.2, a.1, b.1, c.1, d.1⟩, d.2) else none
/-- The lines of a pool. -/
def exLn (e : Ex) : By := joW [exK, Lib.itoa e.a, e.d.data.toList]
def ptLn (p : Pt) : By := joW [partK, Lib.itoa p.a, Lib.itoa p.f, Lib.itoa p.n]
def itLn (x : It) : List By := joW [fileK, x.nm.data.toList] :: x.ps.map ptLn
def flagL (b : Bool) : By := if b then [49] else [48]
def voLn (v : Vo) : List By := joW [volK, Lib.itoa v.id, v.nm.data.toList, flagL v.fx] :: v.its.flatMap itLn
def ctLn (wd : By) (c : Ct) : By := joW [wd, Lib.itoa c.o.a, Lib.itoa c.o.v, c.o.f.data.toList, Lib.itoa c.n]
def poLn (p : Po) : List By := joW [poolK, Lib.itoa p.size, Lib.itoa p.next] :: p.ex.map exLn ++ p.vs.flatMap voLn ++ p.rf.map (ctLn refK) ++ p.lt.map (ctLn lateK)
theorem catL_map {α : Type} {f : α → By} {g : α → By} (h : ∀ x, g x = f x ++ [10]) (l : List α) : catL (l.map f) = l.flatMap g := by
  induction l with
  | nil => rfl
  | cons x l ih => rw [List.map_cons, catL_cons, ih, List.flatMap_cons, h]
theorem catL_flat {α : Type} {f : α → List By} {g : α → By} (h : ∀ x, g x = catL (f x)) (l : List α) : catL (l.flatMap f) = l.flatMap g := by
  induction l with
  | nil => rfl
  | cons x l ih => rw [List.flatMap_cons, catL_app, ih, List.flatMap_cons, h]
theorem dec_data (n : Int) : (decB n).data.toList = Lib.itoa n := by simp [decB]
theorem ex_line (e : Ex) : lineL (exW e) = exLn e ++ [10] := by
  unfold lineL exW exLn; rw [wordL_jo]; simp [dec_data]; rfl
theorem pt_line (p : Pt) : lineL (ptW p) = ptLn p ++ [10] := by
  unfold lineL ptW ptLn; rw [wordL_jo]; simp [dec_data]; rfl
theorem ct_lineR (w : ByteArray) (c : Ct) : lineL (ctL w c) = ctLn w.data.toList c ++ [10] := by
  unfold lineL ctL ctLn; rw [wordL_jo]; simp [dec_data]
theorem it_lines (x : It) : itW x = catL (itLn x) := by
  unfold itW itLn partsW
  rw [catL_cons, catL_map pt_line]
  unfold lineL; rw [wordL_jo]; rfl
theorem flag_data (b : Bool) : (flagB b).data.toList = flagL b := by cases b <;> rfl
theorem vo_lines (v : Vo) : volW v = catL (voLn v) := by
  unfold volW voLn itsW
  rw [catL_cons, catL_flat it_lines]
  unfold lineL voW; rw [wordL_jo]; simp [dec_data, flag_data]; rfl
theorem text_lines (p : Po) : textW p = catL (poLn p) := by
  unfold textW poLn exsW volsW ctsW
  rw [catL_app, catL_app, catL_app, catL_cons, catL_map ex_line, catL_flat vo_lines, catL_map (f := ctLn refK) (ct_lineR refW), catL_map (f := ctLn lateK) (ct_lineR lateW)]
  unfold lineL hdW; rw [wordL_jo]; simp [dec_data]; rfl
end Go.Proofs.YtigldeccfpkdmaaGreatDoor
namespace Go.Proofs.YtigldeccfpkdmaaGreatDoor
open Go
theorem itoa_no {n : Int} {c : UInt8} (h1 : c ≠ 45) (h2 : c.toNat < 48) : c ∉ Lib.itoa n := by
  have hd : ∀ k : Nat, c ∉ Lib.decDigits k := fun k => by
    induction k using Nat.strongRecOn with
    | _ k ih =>
      rw [Lib.decDigits]
      have h3 : ∀ d : Nat, d < 10 → c ≠ UInt8.ofNat (48 + d) := fun d hd e => by
        have := congrArg UInt8.toNat e
        simp at this
        omega
      split
      · next h => simpa using h3 k h
      · next h =>
        intro hm
        rcases List.mem_append.1 hm with e | e
        · exact ih (k / 10) (by omega) e
        · exact h3 (k % 10) (by omega) (by simpa using e)
  unfold Lib.itoa
  split
  · intro hm
    rcases List.mem_cons.1 hm with e | e
    · exact h1 e
    · exact hd _ e
  · exact hd _
theorem itoa_32 (n : Int) : (32 : UInt8) ∉ Lib.itoa n := itoa_no (by decide) (by decide)
theorem itoa_10 (n : Int) : (10 : UInt8) ∉ Lib.itoa n := itoa_no (by decide) (by decide)
/-- Names without blanks, numbers of ten digits at most, no line's end in any text. -/
structure NiceP (p : Po) : Prop where
  hd : Ten p.size ∧ Ten p.next
  ex : ∀ e ∈ p.ex, Ten e.a ∧ (10 : UInt8) ∉ e.d.data.toList
  vs : ∀ v ∈ p.vs, Ten v.id ∧ ((32 : UInt8) ∉ v.nm.data.toList ∧ (10 : UInt8) ∉ v.nm.data.toList) ∧ ∀ x ∈ v.its, ((32 : UInt8) ∉ x.nm.data.toList ∧ (10 : UInt8) ∉ x.nm.data.toList) ∧ ∀ t ∈ x.ps, Ten t.a ∧ Ten t.f ∧ Ten t.n
  ct : ∀ c ∈ p.rf ++ p.lt, (Ten c.o.a ∧ Ten c.o.v ∧ Ten c.n) ∧ (32 : UInt8) ∉ c.o.f.data.toList ∧ (10 : UInt8) ∉ c.o.f.data.toList
theorem wds2 {a b c : By} (ha : (32 : UInt8) ∉ a) (hb : (32 : UInt8) ∉ b) : wdsN 2 (joW [a, b, c]) = [a, b, c] := wds_jo [a, b] c (by simp [ha, hb])
theorem wds1 {a b : By} (ha : (32 : UInt8) ∉ a) : wdsN 1 (joW [a, b]) = [a, b] := wds_jo [a] b (by simp [ha])
theorem wds3 {a b c d : By} (ha : (32 : UInt8) ∉ a) (hb : (32 : UInt8) ∉ b) (hc : (32 : UInt8) ∉ c) : wdsN 3 (joW [a, b, c, d]) = [a, b, c, d] := wds_jo [a, b, c] d (by simp [ha, hb, hc])
theorem wds4 {a b c d e : By} (ha : (32 : UInt8) ∉ a) (hb : (32 : UInt8) ∉ b) (hc : (32 : UInt8) ∉ c) (hd : (32 : UInt8) ∉ d) : wdsN 4 (joW [a, b, c, d, e]) = [a, b, c, d, e] := wds_jo [a, b, c, d] e (by simp [ha, hb, hc, hd])
theorem exP_ln {e : Ex} (h : Ten e.a) : exP (exLn e) = some e := by
  unfold exP exLn
  rw [wds2 (by decide) (itoa_32 _)]
  simp [numP_itoa h, bA_data]
theorem ptP_ln {p : Pt} (h : Ten p.a ∧ Ten p.f ∧ Ten p.n) : ptP (ptLn p) = some p := by
  unfold ptP ptLn
  rw [wds3 (by decide) (itoa_32 _) (itoa_32 _)]
  simp [numP_itoa h.1, numP_itoa h.2.1, numP_itoa h.2.2]
theorem fileP_ln (b : ByteArray) : fileP (joW [fileK, b.data.toList]) = some b := by
  unfold fileP
  rw [wds1 (by decide)]
  simp [bA_data]
theorem flagP_of (b : Bool) : flagP (flagL b) = some b := by cases b <;> rfl
theorem voP_ln {v : Vo} (h : Ten v.id) (h2 : (32 : UInt8) ∉ v.nm.data.toList) : voP (joW [volK, Lib.itoa v.id, v.nm.data.toList, flagL v.fx]) = some (v.id, v.nm, v.fx) := by
  unfold voP
  rw [wds3 (by decide) (itoa_32 _) h2]
  simp [numP_itoa h, bA_data, flagP_of]
theorem ctP_ln {wd : By} {c : Ct} (hw : (32 : UInt8) ∉ wd) (h : Ten c.o.a ∧ Ten c.o.v ∧ Ten c.n) (h2 : (32 : UInt8) ∉ c.o.f.data.toList) : ctP (ctLn wd c) = some c := by
  unfold ctP ctLn
  rw [wds4 hw (itoa_32 _) (itoa_32 _) h2]
  simp [numP_itoa h.1, numP_itoa h.2.1, numP_itoa h.2.2, bA_data]
theorem hdP_ln {a b : Int} (h : Ten a ∧ Ten b) : hdP (joW [poolK, Lib.itoa a, Lib.itoa b]) = some (a, b) := by
  unfold hdP
  rw [wds2 (by decide) (itoa_32 _)]
  simp [numP_itoa h.1, numP_itoa h.2]
/-- The first word of a line, by its first byte. -/
def NoAh (wd : By) (ls : List By) : Prop := ∀ l r, ls = l :: r → ahP wd l = false
theorem noAh_nil (wd : By) : NoAh wd [] := fun l r h => by cases h
theorem noAh_hd {wd l : By} {r : List By} (hw : wd ≠ []) (h : l.head? ≠ wd.head?) : NoAh wd (l :: r) := fun l' r' e => by
  obtain ⟨rfl, rfl⟩ := List.cons.inj e
  cases hc : ahP wd l with
  | false => rfl
  | true => exact absurd (ahP_head hc hw) h
theorem manyP_w {α : Type} {wd : By} {f : By → Option α} {g : α → By} : ∀ {xs : List α} {r : List By}, (∀ x ∈ xs, ahP wd (g x) = true ∧ f (g x) = some x) → NoAh wd r → manyP wd f (xs.map g ++ r) = some (xs, r)
  | [], [], _, _ => rfl
  | [], l :: r, _, h => by
    show manyP wd f (l :: r) = _
    rw [manyP, h l r rfl]; rfl
  | x :: xs, r, h, hr => by
    obtain ⟨h1, h2⟩ := h x (by simp)
    show manyP wd f (g x :: (xs.map g ++ r)) = _
    rw [manyP, if_pos h1, h2, Option.bind_some, manyP_w (fun y hy => h y (by simp [hy])) hr]
    rfl
theorem manyP_r {α : Type} {wd : By} {f : By → Option α} {g : α → By} (hg : ∀ l x, ahP wd l = true → f l = some x → l = g x) : ∀ {ls : List By} {xs : List α} {r : List By}, manyP wd f ls = some (xs, r) → ls = xs.map g ++ r ∧ r.length ≤ ls.length
  | [], xs, r, h => by obtain ⟨rfl, rfl⟩ := Prod.mk.inj (Option.some.inj h); exact ⟨rfl, Nat.le_refl _⟩
  | l :: ls, xs, r, h => by
    unfold manyP at h
    split at h
    · next ha =>
      cases hf : f l with
      | none => rw [hf] at h; cases h
      | some x =>
        rw [hf, Option.bind_some] at h
        cases hm : manyP wd f ls with
        | none => rw [hm] at h; cases h
        | some q =>
          rw [hm] at h
          obtain ⟨rfl, rfl⟩ := Prod.mk.inj (Option.some.inj h)
          obtain ⟨h1, h2⟩ := manyP_r hg (xs := q.1) (r := q.2) hm
          refine ⟨?_, by simp; omega⟩
          rw [List.map_cons, List.cons_append, ← h1, ← hg l x ha hf]
    · obtain ⟨rfl, rfl⟩ := Prod.mk.inj (Option.some.inj h); exact ⟨rfl, Nat.le_refl _⟩
theorem jo_hd (w x : By) (l : List By) (hw : w ≠ []) : (joW (w :: x :: l)).head? = w.head? := by
  cases w with
  | nil => exact absurd rfl hw
  | cons a t => rfl
theorem itemsP_w : ∀ {xs : List It} {r : List By} {k : Nat}, (∀ x ∈ xs, ∀ t ∈ x.ps, Ten t.a ∧ Ten t.f ∧ Ten t.n) → NoAh fileK r → NoAh partK r → (xs.flatMap itLn ++ r).length ≤ k → itemsP k (xs.flatMap itLn ++ r) = some (xs, r)
  | [], [], 0, _, _, _, _ => rfl
  | [], [], k + 1, _, _, _, _ => rfl
  | [], l :: r, 0, _, _, _, h => by simp at h
  | [], l :: r, k + 1, _, h, _, _ => by
    show itemsP (k + 1) (l :: r) = _
    rw [itemsP, h l r rfl]; rfl
  | x :: xs, r, 0, _, _, _, h => by simp [itLn] at h
  | x :: xs, r, k + 1, h, h1, h2, hk => by
    have e : (x :: xs).flatMap itLn ++ r = joW [fileK, x.nm.data.toList] :: (x.ps.map ptLn ++ (xs.flatMap itLn ++ r)) := by simp [itLn]
    rw [e] at hk ⊢
    have hn : NoAh partK (xs.flatMap itLn ++ r) := by
      cases xs with
      | nil => exact h2
      | cons y ys => exact noAh_hd (by decide) (by rw [jo_hd _ _ _ (by decide)]; decide)
    rw [itemsP, if_pos (ahP_jo _ _ _), fileP_ln, Option.bind_some, manyP_w (g := ptLn) (fun t ht => ⟨ahP_jo _ _ _, ptP_ln (h x (by simp) t ht)⟩) hn, Option.bind_some]
    simp only
    rw [itemsP_w (fun y hy => h y (by simp [hy])) h1 h2 (by simp at hk ⊢; omega)]
    rfl
theorem volsP_w : ∀ {vs : List Vo} {r : List By} {k : Nat}, (∀ v ∈ vs, Ten v.id ∧ ((32 : UInt8) ∉ v.nm.data.toList) ∧ ∀ x ∈ v.its, ∀ t ∈ x.ps, Ten t.a ∧ Ten t.f ∧ Ten t.n) → NoAh volK r → NoAh fileK r → NoAh partK r → (vs.flatMap voLn ++ r).length ≤ k → volsP k (vs.flatMap voLn ++ r) = some (vs, r)
  | [], [], 0, _, _, _, _, _ => rfl
  | [], [], k + 1, _, _, _, _, _ => rfl
  | [], l :: r, 0, _, _, _, _, h => by simp at h
  | [], l :: r, k + 1, _, h, _, _, _ => by
    show volsP (k + 1) (l :: r) = _
    rw [volsP, h l r rfl]; rfl
  | v :: vs, r, 0, _, _, _, _, h => by simp [voLn] at h
  | v :: vs, r, k + 1, h, h1, h2, h3, hk => by
    have e : (v :: vs).flatMap voLn ++ r = joW [volK, Lib.itoa v.id, v.nm.data.toList, flagL v.fx] :: (v.its.flatMap itLn ++ (vs.flatMap voLn ++ r)) := by simp [voLn]
    rw [e] at hk ⊢
    obtain ⟨n1, n2, n3⟩ := h v (by simp)
    have hn : NoAh fileK (vs.flatMap voLn ++ r) ∧ NoAh partK (vs.flatMap voLn ++ r) := by
      cases vs with
      | nil => exact ⟨h2, h3⟩
      | cons y ys => exact ⟨noAh_hd (by decide) (by rw [jo_hd _ _ _ (by decide)]; decide), noAh_hd (by decide) (by rw [jo_hd _ _ _ (by decide)]; decide)⟩
    rw [volsP, if_pos (ahP_jo _ _ _), voP_ln n1 n2, Option.bind_some, itemsP_w n3 hn.1 hn.2 (Nat.le_refl _), Option.bind_some]
    simp only
    rw [volsP_w (fun y hy => h y (by simp [hy])) h1 h2 h3 (by simp at hk ⊢; omega)]
    rfl
theorem noAh_ct {wd w2 : By} {l : List Ct} {r : List By} (hw : wd ≠ []) (h2 : w2 ≠ []) (h : w2.head? ≠ wd.head?) (hr : NoAh wd r) : NoAh wd (l.map (ctLn w2) ++ r) := by
  cases l with
  | nil => exact hr
  | cons c l => exact noAh_hd hw (by rw [ctLn, jo_hd _ _ _ h2]; exact h)
theorem poolP_w {p : Po} (h : NiceP p) : poolP (poLn p) = some (p, []) := by
  obtain ⟨ph, pe, pv, pc⟩ := h
  have a1 : ∀ wd : By, wd ≠ [] → wd.head? ≠ some 108 → NoAh wd (p.lt.map (ctLn lateK)) := fun wd hw hh => by
    have := noAh_ct (l := p.lt) (r := []) hw (show lateK ≠ [] by decide) (fun e => hh e.symm) (noAh_nil _)
    simpa using this
  have a2 : ∀ wd : By, wd ≠ [] → wd.head? ≠ some 108 → wd.head? ≠ some 114 → NoAh wd (p.rf.map (ctLn refK) ++ p.lt.map (ctLn lateK)) := fun wd hw hh hg => noAh_ct hw (show refK ≠ [] by decide) (fun e => hg e.symm) (a1 wd hw hh)
  have e : poLn p = joW [poolK, Lib.itoa p.size, Lib.itoa p.next] :: (p.ex.map exLn ++ (p.vs.flatMap voLn ++ (p.rf.map (ctLn refK) ++ (p.lt.map (ctLn lateK) ++ [])))) := by simp [poLn]
  have a3 : NoAh exK (p.vs.flatMap voLn ++ (p.rf.map (ctLn refK) ++ (p.lt.map (ctLn lateK) ++ []))) := by
    cases p.vs with
    | nil => simpa using a2 exK (by decide) (by decide) (by decide)
    | cons v vs => exact noAh_hd (by decide) (by rw [jo_hd _ _ _ (by decide)]; decide)
  have b1 := a2 volK (by decide) (by decide) (by decide)
  have b2 := a2 fileK (by decide) (by decide) (by decide)
  have b3 := a2 partK (by decide) (by decide) (by decide)
  have b4 := a1 refK (by decide) (by decide)
  rw [← List.append_nil (p.lt.map (ctLn lateK))] at b1 b2 b3 b4
  rw [e, poolP, if_pos (ahP_jo _ _ _), hdP_ln ph, Option.bind_some,
    manyP_w (g := exLn) (fun x hx => ⟨ahP_jo _ _ _, exP_ln (pe x hx).1⟩) a3, Option.bind_some]
  simp only
  rw [volsP_w (fun v hv => ⟨(pv v hv).1, (pv v hv).2.1.1, fun x hx => ((pv v hv).2.2 x hx).2⟩) b1 b2 b3 (Nat.le_refl _), Option.bind_some]
  simp only
  rw [manyP_w (g := ctLn refK) (fun c hc => ⟨ahP_jo _ _ _, ctP_ln (by decide) (pc c (by simp [hc])).1 (pc c (by simp [hc])).2.1⟩) b4, Option.bind_some]
  simp only
  rw [manyP_w (g := ctLn lateK) (fun c hc => ⟨ahP_jo _ _ _, ctP_ln (by decide) (pc c (by simp [hc])).1 (pc c (by simp [hc])).2.1⟩) (noAh_nil _)]
  rfl
end Go.Proofs.YtigldeccfpkdmaaGreatDoor
namespace Go.Proofs.YtigldeccfpkdmaaGreatDoor
open Go
theorem wds_hd {wd l : By} {k : Nat} {x : By} {r : List By} (h : ahP wd l = true) (hw : (32 : UInt8) ∉ wd) (e : wdsN (k + 1) l = x :: r) : l = joW (wd :: r) := by
  obtain ⟨s, _, h2⟩ := wds_ah k h hw
  have h3 := joW_wds (k + 1) l
  rw [e] at h2
  obtain ⟨rfl, rfl⟩ := List.cons.inj h2
  rw [← h3, e]
theorem exP_r {l : By} {e : Ex} (h : ahP exK l = true) (he : exP l = some e) : l = exLn e := by
  unfold exP at he
  split at he
  · next a d hc =>
    cases h1 : numP a with
    | none => rw [h1] at he; cases he
    | some n =>
      rw [h1] at he
      obtain rfl := Option.some.inj he
      rw [wds_hd h (by decide) hc, (numP_some h1).1, exLn, bA_list]
  · cases he
theorem ptP_r {l : By} {e : Pt} (h : ahP partK l = true) (he : ptP l = some e) : l = ptLn e := by
  unfold ptP at he
  split at he
  · next a f n hc =>
    cases h1 : numP a with
    | none => rw [h1] at he; cases he
    | some a' =>
      cases h2 : numP f with
      | none => rw [h1, h2] at he; cases he
      | some f' =>
        cases h3 : numP n with
        | none => rw [h1, h2, h3] at he; cases he
        | some n' =>
          rw [h1, h2, h3] at he
          obtain rfl := Option.some.inj he
          rw [wds_hd h (by decide) hc, (numP_some h1).1, (numP_some h2).1, (numP_some h3).1, ptLn]
  · cases he
theorem fileP_r {l : By} {e : ByteArray} (h : ahP fileK l = true) (he : fileP l = some e) : l = joW [fileK, e.data.toList] := by
  unfold fileP at he
  split at he
  · next a hc =>
    obtain rfl := Option.some.inj he
    rw [wds_hd h (by decide) hc, bA_list]
  · cases he
theorem flagP_r {s : By} {b : Bool} (h : flagP s = some b) : s = flagL b := by
  unfold flagP at h
  split at h
  · next e => obtain rfl := Option.some.inj h; exact e
  · split at h
    · next e => obtain rfl := Option.some.inj h; exact e
    · cases h
theorem voP_r {l : By} {e : Int × ByteArray × Bool} (h : ahP volK l = true) (he : voP l = some e) : l = joW [volK, Lib.itoa e.1, e.2.1.data.toList, flagL e.2.2] := by
  unfold voP at he
  split at he
  · next i nm f hc =>
    cases h1 : numP i with
    | none => rw [h1] at he; cases he
    | some a' =>
      cases h2 : flagP f with
      | none => rw [h1, h2] at he; cases he
      | some f' =>
        rw [h1, h2] at he
        obtain rfl := Option.some.inj he
        rw [wds_hd h (by decide) hc, (numP_some h1).1, flagP_r h2, bA_list]
  · cases he
theorem ctP_r {wd l : By} {c : Ct} (hw : (32 : UInt8) ∉ wd) (h : ahP wd l = true) (he : ctP l = some c) : l = ctLn wd c := by
  unfold ctP at he
  split at he
  · next a v f n hc =>
    cases h1 : numP a with
    | none => rw [h1] at he; cases he
    | some a' =>
      cases h2 : numP v with
      | none => rw [h1, h2] at he; cases he
      | some v' =>
        cases h3 : numP n with
        | none => rw [h1, h2, h3] at he; cases he
        | some n' =>
          rw [h1, h2, h3] at he
          obtain rfl := Option.some.inj he
          rw [wds_hd h hw hc, (numP_some h1).1, (numP_some h2).1, (numP_some h3).1, ctLn, bA_list]
  · cases he
theorem hdP_r {l : By} {e : Int × Int} (h : ahP poolK l = true) (he : hdP l = some e) : l = joW [poolK, Lib.itoa e.1, Lib.itoa e.2] := by
  unfold hdP at he
  split at he
  · next a b hc =>
    cases h1 : numP a with
    | none => rw [h1] at he; cases he
    | some a' =>
      cases h2 : numP b with
      | none => rw [h1, h2] at he; cases he
      | some b' =>
        rw [h1, h2] at he
        obtain rfl := Option.some.inj he
        rw [wds_hd h (by decide) hc, (numP_some h1).1, (numP_some h2).1]
  · cases he
theorem itemsP_r : ∀ {k : Nat} {ls : List By} {xs : List It} {r : List By}, itemsP k ls = some (xs, r) → ls = xs.flatMap itLn ++ r ∧ r.length ≤ ls.length
  | 0, ls, xs, r, h => by obtain ⟨rfl, rfl⟩ := Prod.mk.inj (Option.some.inj h); exact ⟨rfl, Nat.le_refl _⟩
  | k + 1, [], xs, r, h => by obtain ⟨rfl, rfl⟩ := Prod.mk.inj (Option.some.inj h); exact ⟨rfl, Nat.le_refl _⟩
  | k + 1, l :: ls, xs, r, h => by
    unfold itemsP at h
    split at h
    · next ha =>
      cases hf : fileP l with
      | none => rw [hf] at h; cases h
      | some nm =>
        rw [hf, Option.bind_some] at h
        cases hm : manyP partK ptP ls with
        | none => rw [hm] at h; cases h
        | some q =>
          rw [hm, Option.bind_some] at h
          cases hi : itemsP k q.2 with
          | none => rw [hi] at h; cases h
          | some s =>
            rw [hi] at h
            obtain ⟨rfl, rfl⟩ := Prod.mk.inj (Option.some.inj h)
            obtain ⟨h1, h2⟩ := manyP_r (g := ptLn) (fun l x => ptP_r) (xs := q.1) (r := q.2) hm
            obtain ⟨h3, h4⟩ := itemsP_r (xs := s.1) (r := s.2) hi
            refine ⟨?_, by simp; omega⟩
            rw [List.flatMap_cons, itLn, List.append_assoc, ← h3, List.cons_append, ← h1, ← fileP_r ha hf]
    · obtain ⟨rfl, rfl⟩ := Prod.mk.inj (Option.some.inj h); exact ⟨rfl, Nat.le_refl _⟩
theorem volsP_r : ∀ {k : Nat} {ls : List By} {xs : List Vo} {r : List By}, volsP k ls = some (xs, r) → ls = xs.flatMap voLn ++ r
  | 0, ls, xs, r, h => by obtain ⟨rfl, rfl⟩ := Prod.mk.inj (Option.some.inj h); rfl
  | k + 1, [], xs, r, h => by obtain ⟨rfl, rfl⟩ := Prod.mk.inj (Option.some.inj h); rfl
  | k + 1, l :: ls, xs, r, h => by
    unfold volsP at h
    split at h
    · next ha =>
      cases hf : voP l with
      | none => rw [hf] at h; cases h
      | some e =>
        rw [hf, Option.bind_some] at h
        cases hm : itemsP ls.length ls with
        | none => rw [hm] at h; cases h
        | some q =>
          rw [hm, Option.bind_some] at h
          cases hi : volsP k q.2 with
          | none => rw [hi] at h; cases h
          | some s =>
            rw [hi] at h
            obtain ⟨rfl, rfl⟩ := Prod.mk.inj (Option.some.inj h)
            have h1 := (itemsP_r (xs := q.1) (r := q.2) hm).1
            have h3 := volsP_r (xs := s.1) (r := s.2) hi
            rw [List.flatMap_cons, voLn, List.append_assoc, ← h3, List.cons_append, ← h1, ← voP_r ha hf]
    · obtain ⟨rfl, rfl⟩ := Prod.mk.inj (Option.some.inj h); rfl
theorem poolP_r {ls : List By} {p : Po} (h : poolP ls = some (p, [])) : ls = poLn p := by
  cases ls with
  | nil => cases h
  | cons l r =>
    rw [poolP] at h
    split at h
    · next ha =>
      cases h0 : hdP l with
      | none => rw [h0] at h; cases h
      | some e =>
        rw [h0, Option.bind_some] at h
        cases h1 : manyP exK exP r with
        | none => rw [h1] at h; cases h
        | some a =>
          rw [h1, Option.bind_some] at h
          cases h2 : volsP a.2.length a.2 with
          | none => rw [h2] at h; cases h
          | some b =>
            rw [h2, Option.bind_some] at h
            cases h3 : manyP refK ctP b.2 with
            | none => rw [h3] at h; cases h
            | some c =>
              rw [h3, Option.bind_some] at h
              cases h4 : manyP lateK ctP c.2 with
              | none => rw [h4] at h; cases h
              | some d =>
                rw [h4] at h
                obtain ⟨rfl, hd⟩ := Prod.mk.inj (Option.some.inj h)
                have e1 := (manyP_r (g := exLn) (fun l x => exP_r) (xs := a.1) (r := a.2) h1).1
                have e2 := volsP_r (xs := b.1) (r := b.2) h2
                have e3 := (manyP_r (g := ctLn refK) (fun l x => ctP_r (by decide)) (xs := c.1) (r := c.2) h3).1
                have e4 := (manyP_r (g := ctLn lateK) (fun l x => ctP_r (by decide)) (xs := d.1) (r := d.2) h4).1
                rw [hd, List.append_nil] at e4
                rw [e1, e2, e3, e4, hdP_r ha h0]
                simp [poLn]
    · cases h
/-- What the program reads of a text. -/
def readI (s : By) : Option Po := (lnsB s.length s).bind fun ls => match poolP ls with
  | some (p, []) => some p
  | _ => none
theorem readI_r {s : By} {p : Po} (h : readI s = some p) : s = textW p := by
  unfold readI at h
  cases h1 : lnsB s.length s with
  | none => rw [h1] at h; cases h
  | some ls =>
    rw [h1, Option.bind_some] at h
    split at h
    · next q hq =>
      obtain rfl := Option.some.inj h
      rw [text_lines, ← poolP_r hq]
      exact (lnsB_some h1).1
    · cases h
theorem mem_jo {c : UInt8} (hc : c ≠ 32) : ∀ {ws : List By}, (∀ w ∈ ws, c ∉ w) → c ∉ joW ws
  | [], _ => by simp [joW]
  | [a], h => h a (by simp)
  | a :: b :: l, h => by
    have := mem_jo hc (ws := b :: l) (fun w hw => h w (by simp [List.mem_cons.1 hw]))
    have h2 := h a (by simp)
    rw [joW]
    simp [this, h2, hc]
theorem nice_lines {p : Po} (h : NiceP p) : ∀ l ∈ poLn p, (10 : UInt8) ∉ l := by
  obtain ⟨ph, pe, pv, pc⟩ := h
  intro l hl
  unfold poLn at hl
  simp only [List.mem_append, List.mem_cons, List.mem_map, List.mem_flatMap] at hl
  have hk : ∀ {ws : List By}, (∀ w ∈ ws, (10 : UInt8) ∉ w) → (10 : UInt8) ∉ joW ws := fun h => mem_jo (by decide) h
  have hct : ∀ (wd : By) (c : Ct), (10 : UInt8) ∉ wd → c ∈ p.rf ++ p.lt → (10 : UInt8) ∉ ctLn wd c := fun wd c hw hc => by
    have := (pc c hc).2.2
    refine hk ?_
    simp [hw, itoa_10, this]
  rcases hl with (((rfl | ⟨e, he, rfl⟩) | ⟨v, hv, hl⟩) | ⟨c, hc, rfl⟩) | ⟨c, hc, rfl⟩
  · refine hk ?_
    simp [itoa_10]; decide
  · have := (pe e he).2
    refine hk ?_
    simp [itoa_10, this]; decide
  · obtain ⟨_, ⟨_, hn⟩, hi⟩ := pv v hv
    unfold voLn at hl
    simp only [List.mem_cons, List.mem_flatMap] at hl
    rcases hl with rfl | ⟨x, hx, hl⟩
    · refine hk ?_
      have : (10 : UInt8) ∉ flagL v.fx := by cases v.fx <;> decide
      simp [itoa_10, hn, this]; decide
    · obtain ⟨⟨_, hx2⟩, _⟩ := hi x hx
      unfold itLn at hl
      simp only [List.mem_cons, List.mem_map] at hl
      rcases hl with rfl | ⟨t, ht, rfl⟩
      · refine hk ?_
        simp [hx2]; decide
      · refine hk ?_
        simp [itoa_10]; decide
  · exact hct _ _ (by decide) (by simp [hc])
  · exact hct _ _ (by decide) (by simp [hc])
theorem lns_nice {p : Po} (h : NiceP p) : lnsB (textW p).length (textW p) = some (poLn p) := by
  rw [text_lines]
  exact lnsB_cat (nice_lines h) (Nat.le_refl _)
theorem readI_w {p : Po} (h : NiceP p) : readI (textW p) = some p := by
  unfold readI
  rw [lns_nice h, Option.bind_some, poolP_w h]
end Go.Proofs.YtigldeccfpkdmaaGreatDoor
