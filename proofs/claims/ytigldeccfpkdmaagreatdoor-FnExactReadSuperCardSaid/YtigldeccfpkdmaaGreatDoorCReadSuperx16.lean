/- What the program reads, written again, is the text: plain. A pool read line by line, as the model reads it: plain. An append that tells where the new list lies; what the elements' types are. -/
import Derived.Test.YtigldeccfpkdmaaGreatDoorCReadSuperx15
import Derived.Test.YtigldeccfpkdmaaGreatDoorCReadSuperx06
import Derived.Test.YtigldeccfpkdmaaGreatDoorCReadSuperx14
namespace Go.Proofs.YtigldeccfpkdmaaGreatDoor
open Go
theorem wds_hd {wd l : By} {k : Nat} {x : By} {r : List By} (h : ahP wd l = true) (hw : (32 : UInt8) ∉ wd) (e : wdsN (k + 1) l = x :: r) : l = joW (wd :: r) := by
  obtain ⟨s, _, h2⟩ := wds_ah k h hw
  have h3 := joW_wds (k + 1) l
  rw [e] at h2
  obtain ⟨rfl, rfl⟩ := List.cons.inj h2
  rw [← h3, e]
theorem exP_r {l : By} {e : Ex} (h : ahP exK l = true) (he : exP l = some e) : l = exLn e := by
  unfold exP at he
  split at he
  · next a d hc =>
    cases h1 : numP a with
    | none => rw [h1] at he; cases he
    | some n =>
      rw [h1] at he
      obtain rfl := Option.some.inj he
      rw [wds_hd h (by decide) hc, (numP_some h1).1, exLn, bA_list]
  · cases he
theorem ptP_r {l : By} {e : Pt} (h : ahP partK l = true) (he : ptP l = some e) : l = ptLn e := by
  unfold ptP at he
  split at he
  · next a f n hc =>
    cases h1 : numP a with
    | none => rw [h1] at he; cases he
    | some a' =>
      cases h2 : numP f with
      | none => rw [h1, h2] at he; cases he
      | some f' =>
        cases h3 : numP n with
        | none => rw [h1, h2, h3] at he; cases he
        | some n' =>
          rw [h1, h2, h3] at he
          obtain rfl := Option.some.inj he
          rw [wds_hd h (by decide) hc, (numP_some h1).1, (numP_some h2).1, (numP_some h3).1, ptLn]
  · cases he
theorem fileP_r {l : By} {e : ByteArray} (h : ahP fileK l = true) (he : fileP l = some e) : l = joW [fileK, e.data.toList] := by
  unfold fileP at he
  split at he
  · next a hc =>
    obtain rfl := Option.some.inj he
    rw [wds_hd h (by decide) hc, bA_list]
  · cases he
theorem flagP_r {s : By} {b : Bool} (h : flagP s = some b) : s = flagL b := by
  unfold flagP at h
  split at h
  · next e => obtain rfl := Option.some.inj h; exact e
  · split at h
    · next e => obtain rfl := Option.some.inj h; exact e
    · cases h
theorem voP_r {l : By} {e : Int × ByteArray × Bool} (h : ahP volK l = true) (he : voP l = some e) : l = joW [volK, Lib.itoa e.1, e.2.1.data.toList, flagL e.2.2] := by
  unfold voP at he
  split at he
  · next i nm f hc =>
    cases h1 : numP i with
    | none => rw [h1] at he; cases he
    | some a' =>
      cases h2 : flagP f with
      | none => rw [h1, h2] at he; cases he
      | some f' =>
        rw [h1, h2] at he
        obtain rfl := Option.some.inj he
        rw [wds_hd h (by decide) hc, (numP_some h1).1, flagP_r h2, bA_list]
  · cases he
theorem ctP_r {wd l : By} {c : Ct} (hw : (32 : UInt8) ∉ wd) (h : ahP wd l = true) (he : ctP l = some c) : l = ctLn wd c := by
  unfold ctP at he
  split at he
  · next a v f n hc =>
    cases h1 : numP a with
    | none => rw [h1] at he; cases he
    | some a' =>
      cases h2 : numP v with
      | none => rw [h1, h2] at he; cases he
      | some v' =>
        cases h3 : numP n with
        | none => rw [h1, h2, h3] at he; cases he
        | some n' =>
          rw [h1, h2, h3] at he
          obtain rfl := Option.some.inj he
          rw [wds_hd h hw hc, (numP_some h1).1, (numP_some h2).1, (numP_some h3).1, ctLn, bA_list]
  · cases he
theorem hdP_r {l : By} {e : Int × Int} (h : ahP poolK l = true) (he : hdP l = some e) : l = joW [poolK, Lib.itoa e.1, Lib.itoa e.2] := by
  unfold hdP at he
  split at he
  · next a b hc =>
    cases h1 : numP a with
    | none => rw [h1] at he; cases he
    | some a' =>
      cases h2 : numP b with
      | none => rw [h1, h2] at he; cases he
      | some b' =>
        rw [h1, h2] at he
        obtain rfl := Option.some.inj he
        rw [wds_hd h (by decide) hc, (numP_some h1).1, (numP_some h2).1]
  · cases he
theorem itemsP_r : ∀ {k : Nat} {ls : List By} {xs : List It} {r : List By}, itemsP k ls = some (xs, r) → ls = xs.flatMap itLn ++ r ∧ r.length ≤ ls.length
  | 0, ls, xs, r, h => by obtain ⟨rfl, rfl⟩ := Prod.mk.inj (Option.some.inj h); exact ⟨rfl, Nat.le_refl _⟩
  | k + 1, [], xs, r, h => by obtain ⟨rfl, rfl⟩ := Prod.mk.inj (Option.some.inj h); exact ⟨rfl, Nat.le_refl _⟩
  | k + 1, l :: ls, xs, r, h => by
    unfold itemsP at h
    split at h
    · next ha =>
      cases hf : fileP l with
      | none => rw [hf] at h; cases h
      | some nm =>
        rw [hf, Option.bind_some] at h
        cases hm : manyP partK ptP ls with
        | none => rw [hm] at h; cases h
        | some q =>
          rw [hm, Option.bind_some] at h
          cases hi : itemsP k q.2 with
          | none => rw [hi] at h; cases h
          | some s =>
            rw [hi] at h
            obtain ⟨rfl, rfl⟩ := Prod.mk.inj (Option.some.inj h)
            obtain ⟨h1, h2⟩ := manyP_r (g := ptLn) (fun l x => ptP_r) (xs := q.1) (r := q.2) hm
            obtain ⟨h3, h4⟩ := itemsP_r (xs := s.1) (r := s.2) hi
            refine ⟨?_, by simp; omega⟩
            rw [List.flatMap_cons, itLn, List.append_assoc, ← h3, List.cons_append, ← h1, ← fileP_r ha hf]
    · obtain ⟨rfl, rfl⟩ := Prod.mk.inj (Option.some.inj h); exact ⟨rfl, Nat.le_refl _⟩
theorem volsP_r : ∀ {k : Nat} {ls : List By} {xs : List Vo} {r : List By}, volsP k ls = some (xs, r) → ls = xs.flatMap voLn ++ r
  | 0, ls, xs, r, h => by obtain ⟨rfl, rfl⟩ := Prod.mk.inj (Option.some.inj h); rfl
  | k + 1, [], xs, r, h => by obtain ⟨rfl, rfl⟩ := Prod.mk.inj (Option.some.inj h); rfl
  | k + 1, l :: ls, xs, r, h => by
    unfold volsP at h
    split at h
    · next ha =>
      cases hf : voP l with
      | none => rw [hf] at h; cases h
      | some e =>
        rw [hf, Option.bind_some] at h
        cases hm : itemsP ls.length ls with
        | none => rw [hm] at h; cases h
        | some q =>
          rw [hm, Option.bind_some] at h
          cases hi : volsP k q.2 with
          | none => rw [hi] at h; cases h
          | some s =>
            rw [hi] at h
            obtain ⟨rfl, rfl⟩ := Prod.mk.inj (Option.some.inj h)
            have h1 := (itemsP_r (xs := q.1) (r := q.2) hm).1
            have h3 := volsP_r (xs := s.1) (r := s.2) hi
            rw [List.flatMap_cons, voLn, List.append_assoc, ← h3, List.cons_append, ← h1, ← voP_r ha hf]
    · obtain ⟨rfl, rfl⟩ := Prod.mk.inj (Option.some.inj h); rfl
theorem poolP_r {ls : List By} {p : Po} (h : poolP ls = some (p, [])) : ls = poLn p := by
  cases ls with
  | nil => cases h
  | cons l r =>
    rw [poolP] at h
    split at h
    · next ha =>
      cases h0 : hdP l with
      | none => rw [h0] at h; cases h
      | some e =>
        rw [h0, Option.bind_some] at h
        cases h1 : manyP exK exP r with
        | none => rw [h1] at h; cases h
        | some a =>
          rw [h1, Option.bind_some] at h
          cases h2 : volsP a.2.length a.2 with
          | none => rw [h2] at h; cases h
          | some b =>
            rw [h2, Option.bind_some] at h
            cases h3 : manyP refK ctP b.2 with
            | none => rw [h3] at h; cases h
            | some c =>
              rw [h3, Option.bind_some] at h
              cases h4 : manyP lateK ctP c.2 with
              | none => rw [h4] at h; cases h
              | some d =>
                rw [h4] at h
                obtain ⟨rfl, hd⟩ := Prod.mk.inj (Option.some.inj h)
                have e1 := (manyP_r (g := exLn) (fun l x => exP_r) (xs := a.1) (r := a.2) h1).1
                have e2 := volsP_r (xs := b.1) (r := b.2) h2
                have e3 := (manyP_r (g := ctLn refK) (fun l x => ctP_r (by decide)) (xs := c.1) (r := c.2) h3).1
                have e4 := (manyP_r (g := ctLn lateK) (fun l x => ctP_r (by decide)) (xs := d.1) (r := d.2) h4).1
                rw [hd, List.append_nil] at e4
                rw [e1, e2, e3, e4, hdP_r ha h0]
                simp [poLn]
    · cases h
/-- What the program reads of a text. -/
def readI (s : By) : Option Po := (lnsB s.length s).bind fun ls => match poolP ls with
  | some (p, []) => some p
  | _ => none
theorem readI_r {s : By} {p : Po} (h : readI s = some p) : s = textW p := by
  unfold readI at h
  cases h1 : lnsB s.length s with
  | none => rw [h1] at h; cases h
  | some ls =>
    rw [h1, Option.bind_some] at h
    split at h
    · next q hq =>
      obtain rfl := Option.some.inj h
      rw [text_lines, ← poolP_r hq]
      exact (lnsB_some h1).1
    · cases h
theorem mem_jo {c : UInt8} (hc : c ≠ 32) : ∀ {ws : List By}, (∀ w ∈ ws, c ∉ w) → c ∉ joW ws
  | [], _ => by simp [joW]
  | [a], h => h a (by simp)
  | a :: b :: l, h => by
    have := mem_jo hc (ws := b :: l) (fun w hw => h w (by simp [List.mem_cons.1 hw]))
    have h2 := h a (by simp)
    rw [joW]
    simp [this, h2, hc]
theorem nice_lines {p : Po} (h : NiceP p) : ∀ l ∈ poLn p, (10 : UInt8) ∉ l := by
  obtain ⟨ph, pe, pv, pc⟩ := h
  intro l hl
  unfold poLn at hl
  simp only [List.mem_append, List.mem_cons, List.mem_map, List.mem_flatMap] at hl
  have hk : ∀ {ws : List By}, (∀ w ∈ ws, (10 : UInt8) ∉ w) → (10 : UInt8) ∉ joW ws := fun h => mem_jo (by decide) h
  have hct : ∀ (wd : By) (c : Ct), (10 : UInt8) ∉ wd → c ∈ p.rf ++ p.lt → (10 : UInt8) ∉ ctLn wd c := fun wd c hw hc => by
    have := (pc c hc).2.2
    refine hk ?_
    simp [hw, itoa_10, this]
  rcases hl with (((rfl | ⟨e, he, rfl⟩) | ⟨v, hv, hl⟩) | ⟨c, hc, rfl⟩) | ⟨c, hc, rfl⟩
  · refine hk ?_
    simp [itoa_10]; decide
  · have := (pe e he).2
    refine hk ?_
    simp [itoa_10, this]; decide
  · obtain ⟨_, ⟨_, hn⟩, hi⟩ := pv v hv
    unfold voLn at hl
    simp only [List.mem_cons, List.mem_flatMap] at hl
    rcases hl with rfl | ⟨x, hx, hl⟩
    · refine hk ?_
      have : (10 : UInt8) ∉ flagL v.fx := by cases v.fx <;> decide
      simp [itoa_10, hn, this]; decide
    · obtain ⟨⟨_, hx2⟩, _⟩ := hi x hx
      unfold itLn at hl
      simp only [List.mem_cons, List.mem_map] at hl
      rcases hl with rfl | ⟨t, ht, rfl⟩
      · refine hk ?_
        simp [hx2]; decide
      · refine hk ?_
        simp [itoa_10]; decide
  · exact hct _ _ (by decide) (by simp [hc])
  · exact hct _ _ (by decide) (by simp [hc])
theorem lns_nice {p : Po} (h : NiceP p) : lnsB (textW p).length (textW p) = some (poLn p) := by
  rw [text_lines]
  exact lnsB_cat (nice_lines h) (Nat.le_refl _)
theorem readI_w {p : Po} (h : NiceP p) : readI (textW p) = some p := by
  unfold readI
  rw [lns_nice h, Option.bind_some, poolP_w h]
end Go.Proofs.YtigldeccfpkdmaaGreatDoor
namespace Go.Proofs.YtigldeccfpkdmaaGreatDoor
open Go
def numQ (w : List By) (i : Nat) : Int := match w[i]? with
  | none => -1
  | some x => (numP x).getD (-1)
def wordQ (w : List By) (i : Nat) : By := w[i]?.getD []
def behQ (l : By) : By := match cutB 32 l with
  | none => []
  | some q => q.2
def modL {α : Type} (f : α → α) : List α → List α
  | [] => []
  | [x] => [f x]
  | x :: y :: l => x :: modL f (y :: l)
theorem modL_snoc {α : Type} (f : α → α) : ∀ (a : List α) (x : α), modL f (a ++ [x]) = a ++ [f x]
  | [], x => rfl
  | [y], x => rfl
  | y :: z :: a, x => by
    show y :: modL f (z :: a ++ [x]) = _
    rw [modL_snoc f (z :: a) x]; rfl
def ctQ (w : List By) : Ct := ⟨⟨numQ w 1, numQ w 2, bA (wordQ w 3)⟩, (numP (wordQ w 4)).getD 0⟩
def volQ (w : List By) : Vo := ⟨numQ w 1, bA (wordQ w 2), wordQ w 3 == [49], []⟩
/-- A pool with what a line says. -/
def lineG (p : Po) (k : By) (w : List By) (l : By) : Po :=
  if k = poolK then { p with size := numQ w 1, next := numQ w 2 }
  else if k = exK then { p with ex := p.ex ++ [⟨numQ w 1, bA (behQ (behQ l))⟩] }
  else if k = volK then { p with vs := p.vs ++ [volQ w] }
  else if k = fileK then { p with vs := modL (fun v => { v with its := v.its ++ [⟨bA (wordQ w 1), []⟩] }) p.vs }
  else if k = partK then { p with vs := modL (fun v => { v with its := modL (fun x => { x with ps := x.ps ++ [⟨numQ w 1, numQ w 2, numQ w 3⟩] }) v.its }) p.vs }
  else if k = refK then { p with rf := p.rf ++ [ctQ w] }
  else if k = lateK then { p with lt := p.lt ++ [ctQ w] }
  else p
def lineF (p : Po) (l : By) : Po := lineG p (wordQ (wdsA l) 0) (wdsA l) l
theorem lineF_of (p : Po) {l k : By} {r : List By} (h : wdsA l = k :: r) : lineF p l = lineG p k (k :: r) l := by
  unfold lineF
  rw [h]
  rfl
theorem wdsN_all : ∀ {ws : List By} {k : Nat}, ws ≠ [] → (∀ w ∈ ws, (32 : UInt8) ∉ w) → ws.length ≤ k + 1 → wdsN k (joW ws) = ws
  | [], _, h, _, _ => absurd rfl h
  | [a], 0, _, _, _ => rfl
  | [a], k + 1, _, h, _ => by
    show wdsN (k + 1) a = _
    rw [wdsN, cutB_none (h a (by simp))]
  | a :: b :: l, 0, _, _, hk => by simp at hk
  | a :: b :: l, k + 1, _, h, hk => by
    show wdsN (k + 1) (a ++ 32 :: joW (b :: l)) = _
    rw [wdsN, cutB_app _ (h a (by simp))]
    simp only
    rw [wdsN_all (by simp) (fun w hw => h w (by simp [List.mem_cons.1 hw])) (by simpa using hk)]
theorem joW_len : ∀ (ws : List By), ws.length ≤ (joW ws).length + 1
  | [] => by simp
  | [a] => by simp
  | a :: b :: l => by
    have := joW_len (b :: l)
    simp [joW] at this ⊢; omega
theorem wdsA_jo {ws : List By} (h : ws ≠ []) (h2 : ∀ w ∈ ws, (32 : UInt8) ∉ w) : wdsA (joW ws) = ws := wdsN_all h h2 (joW_len ws)
theorem wdsA_ex {a b d : By} (ha : (32 : UInt8) ∉ a) (hb : (32 : UInt8) ∉ b) : ∃ r, wdsA (joW [a, b, d]) = a :: b :: r := by
  unfold wdsA
  obtain ⟨k, hk⟩ : ∃ k, (joW [a, b, d]).length = k + 2 := ⟨(joW [a, b, d]).length - 2, by simp [joW]; omega⟩
  rw [hk]
  show ∃ r, wdsN (k + 2) (a ++ 32 :: (b ++ 32 :: d)) = _
  rw [wdsN, cutB_app _ ha]
  simp only
  rw [wdsN, cutB_app _ hb]
  exact ⟨_, rfl⟩
theorem beh_jo {a : By} {b : By} {l : List By} (h : (32 : UInt8) ∉ a) : behQ (joW (a :: b :: l)) = joW (b :: l) := by
  show behQ (a ++ 32 :: joW (b :: l)) = _
  unfold behQ
  rw [cutB_app _ h]
theorem numQ_of {w : List By} {i : Nat} {n : Int} (h : w[i]? = some (Lib.itoa n)) (hn : Ten n) : numQ w i = n := by
  unfold numQ
  rw [h]
  simp [numP_itoa hn]
theorem lineF_hd (p : Po) {a b : Int} (h : Ten a ∧ Ten b) : lineF p (joW [poolK, Lib.itoa a, Lib.itoa b]) = { p with size := a, next := b } := by
  rw [lineF_of p (wdsA_jo (by simp) (by simp [itoa_32]; decide)), lineG, if_pos rfl, numQ_of rfl h.1, numQ_of rfl h.2]
theorem lineF_ex (p : Po) {e : Ex} (h : Ten e.a) : lineF p (exLn e) = { p with ex := p.ex ++ [e] } := by
  obtain ⟨r, hr⟩ := wdsA_ex (a := exK) (b := Lib.itoa e.a) (d := e.d.data.toList) (by decide) (itoa_32 _)
  unfold exLn
  rw [lineF_of p hr, lineG, if_neg (by decide), if_pos rfl, numQ_of rfl h, beh_jo (by decide), beh_jo (itoa_32 _)]
  simp [joW, bA_data]
theorem lineF_vol (p : Po) {v : Vo} (h : Ten v.id) (h2 : (32 : UInt8) ∉ v.nm.data.toList) : lineF p (joW [volK, Lib.itoa v.id, v.nm.data.toList, flagL v.fx]) = { p with vs := p.vs ++ [{ v with its := [] }] } := by
  have hf : (32 : UInt8) ∉ flagL v.fx := by cases v.fx <;> decide
  rw [lineF_of p (wdsA_jo (by simp) (by simp [itoa_32, h2, hf]; decide)), lineG, if_neg (by decide), if_neg (by decide), if_pos rfl, volQ, numQ_of rfl h]
  have e : (wordQ [volK, Lib.itoa v.id, v.nm.data.toList, flagL v.fx] 3 == [49]) = v.fx := by
    show (flagL v.fx == [49]) = _
    cases v.fx <;> rfl
  rw [e]
  simp [wordQ, bA_data]
theorem lineF_file (p : Po) {nm : ByteArray} (h2 : (32 : UInt8) ∉ nm.data.toList) : lineF p (joW [fileK, nm.data.toList]) = { p with vs := modL (fun v => { v with its := v.its ++ [⟨nm, []⟩] }) p.vs } := by
  rw [lineF_of p (wdsA_jo (by simp) (by simp [h2]; decide)), lineG, if_neg (by decide), if_neg (by decide), if_neg (by decide), if_pos rfl]
  simp [wordQ, bA_data]
theorem lineF_part (p : Po) {t : Pt} (h : Ten t.a ∧ Ten t.f ∧ Ten t.n) : lineF p (ptLn t) = { p with vs := modL (fun v => { v with its := modL (fun x => { x with ps := x.ps ++ [t] }) v.its }) p.vs } := by
  unfold ptLn
  rw [lineF_of p (wdsA_jo (by simp) (by simp [itoa_32]; decide)), lineG, if_neg (by decide), if_neg (by decide), if_neg (by decide), if_neg (by decide), if_pos rfl, numQ_of rfl h.1, numQ_of rfl h.2.1, numQ_of rfl h.2.2]
theorem ctQ_ln {wd : By} {c : Ct} (h : Ten c.o.a ∧ Ten c.o.v ∧ Ten c.n) : ctQ [wd, Lib.itoa c.o.a, Lib.itoa c.o.v, c.o.f.data.toList, Lib.itoa c.n] = c := by
  unfold ctQ
  rw [numQ_of rfl h.1, numQ_of rfl h.2.1]
  simp [wordQ, bA_data, numP_itoa h.2.2]
theorem lineF_ref (p : Po) {c : Ct} (h : Ten c.o.a ∧ Ten c.o.v ∧ Ten c.n) (h2 : (32 : UInt8) ∉ c.o.f.data.toList) : lineF p (ctLn refK c) = { p with rf := p.rf ++ [c] } := by
  unfold ctLn
  rw [lineF_of p (wdsA_jo (by simp) (by simp [itoa_32, h2]; decide)), lineG, if_neg (by decide), if_neg (by decide), if_neg (by decide), if_neg (by decide), if_neg (by decide), if_pos rfl, ctQ_ln h]
theorem lineF_late (p : Po) {c : Ct} (h : Ten c.o.a ∧ Ten c.o.v ∧ Ten c.n) (h2 : (32 : UInt8) ∉ c.o.f.data.toList) : lineF p (ctLn lateK c) = { p with lt := p.lt ++ [c] } := by
  unfold ctLn
  rw [lineF_of p (wdsA_jo (by simp) (by simp [itoa_32, h2]; decide)), lineG, if_neg (by decide), if_neg (by decide), if_neg (by decide), if_neg (by decide), if_neg (by decide), if_neg (by decide), if_pos rfl, ctQ_ln h]
theorem fold_ex : ∀ {l : List Ex} (p : Po), (∀ e ∈ l, Ten e.a) → (l.map exLn).foldl lineF p = { p with ex := p.ex ++ l }
  | [], p, _ => by simp
  | e :: l, p, h => by
    rw [List.map_cons, List.foldl_cons, lineF_ex p (h e (by simp)), fold_ex _ (fun x hx => h x (by simp [hx]))]
    simp
theorem fold_ref : ∀ {l : List Ct} (p : Po), (∀ c ∈ l, (Ten c.o.a ∧ Ten c.o.v ∧ Ten c.n) ∧ (32 : UInt8) ∉ c.o.f.data.toList) → (l.map (ctLn refK)).foldl lineF p = { p with rf := p.rf ++ l }
  | [], p, _ => by simp
  | e :: l, p, h => by
    rw [List.map_cons, List.foldl_cons, lineF_ref p (h e (by simp)).1 (h e (by simp)).2, fold_ref _ (fun x hx => h x (by simp [hx]))]
    simp
theorem fold_late : ∀ {l : List Ct} (p : Po), (∀ c ∈ l, (Ten c.o.a ∧ Ten c.o.v ∧ Ten c.n) ∧ (32 : UInt8) ∉ c.o.f.data.toList) → (l.map (ctLn lateK)).foldl lineF p = { p with lt := p.lt ++ l }
  | [], p, _ => by simp
  | e :: l, p, h => by
    rw [List.map_cons, List.foldl_cons, lineF_late p (h e (by simp)).1 (h e (by simp)).2, fold_late _ (fun x hx => h x (by simp [hx]))]
    simp
theorem fold_part : ∀ {l : List Pt} (p : Po) (vs : List Vo) (v : Vo) (xs : List It) (x : It), (∀ t ∈ l, Ten t.a ∧ Ten t.f ∧ Ten t.n) → (l.map ptLn).foldl lineF { p with vs := vs ++ [{ v with its := xs ++ [x] }] } = { p with vs := vs ++ [{ v with its := xs ++ [{ x with ps := x.ps ++ l }] }] }
  | [], p, vs, v, xs, x, _ => by simp
  | t :: l, p, vs, v, xs, x, h => by
    rw [List.map_cons, List.foldl_cons, lineF_part _ (h t (by simp))]
    simp only [modL_snoc]
    rw [fold_part p vs v xs { x with ps := x.ps ++ [t] } (fun x hx => h x (by simp [hx]))]
    simp
theorem fold_item : ∀ {l : List It} (p : Po) (vs : List Vo) (v : Vo) (xs : List It), (∀ x ∈ l, (32 : UInt8) ∉ x.nm.data.toList ∧ ∀ t ∈ x.ps, Ten t.a ∧ Ten t.f ∧ Ten t.n) → (l.flatMap itLn).foldl lineF { p with vs := vs ++ [{ v with its := xs }] } = { p with vs := vs ++ [{ v with its := xs ++ l }] }
  | [], p, vs, v, xs, _ => by simp
  | x :: l, p, vs, v, xs, h => by
    obtain ⟨h1, h2⟩ := h x (by simp)
    rw [List.flatMap_cons, List.foldl_append, itLn, List.foldl_cons, lineF_file _ h1]
    simp only [modL_snoc]
    rw [fold_part p vs v xs ⟨x.nm, []⟩ h2]
    simp only [List.nil_append]
    rw [fold_item p vs v (xs ++ [x]) (fun y hy => h y (by simp [hy]))]
    simp
theorem fold_vol : ∀ {l : List Vo} (p : Po) (vs : List Vo), (∀ v ∈ l, Ten v.id ∧ (32 : UInt8) ∉ v.nm.data.toList ∧ ∀ x ∈ v.its, (32 : UInt8) ∉ x.nm.data.toList ∧ ∀ t ∈ x.ps, Ten t.a ∧ Ten t.f ∧ Ten t.n) → (l.flatMap voLn).foldl lineF { p with vs := vs } = { p with vs := vs ++ l }
  | [], p, vs, _ => by simp
  | v :: l, p, vs, h => by
    obtain ⟨h1, h2, h3⟩ := h v (by simp)
    rw [List.flatMap_cons, List.foldl_append, voLn, List.foldl_cons, lineF_vol _ h1 h2]
    simp only
    rw [fold_item p vs v [] h3]
    simp only [List.nil_append]
    rw [fold_vol p (vs ++ [v]) (fun y hy => h y (by simp [hy]))]
    simp
def emptyP : Po := ⟨0, 0, [], [], [], []⟩
theorem fold_nice {p : Po} (h : NiceP p) : (poLn p).foldl lineF emptyP = p := by
  obtain ⟨ph, pe, pv, pc⟩ := h
  have e : poLn p = joW [poolK, Lib.itoa p.size, Lib.itoa p.next] :: (p.ex.map exLn ++ (p.vs.flatMap voLn ++ (p.rf.map (ctLn refK) ++ p.lt.map (ctLn lateK)))) := by simp [poLn]
  rw [e, List.foldl_cons, lineF_hd _ ph, List.foldl_append, fold_ex _ (fun x hx => (pe x hx).1), List.foldl_append]
  simp only [emptyP, List.nil_append]
  have hv := fold_vol (l := p.vs) ⟨p.size, p.next, p.ex, [], [], []⟩ [] (fun v hv => ⟨(pv v hv).1, (pv v hv).2.1.1, fun x hx => ⟨((pv v hv).2.2 x hx).1.1, ((pv v hv).2.2 x hx).2⟩⟩)
  simp only [List.nil_append] at hv
  rw [hv, List.foldl_append, fold_ref _ (fun c hc => ⟨(pc c (by simp [hc])).1, (pc c (by simp [hc])).2.1⟩), fold_late _ (fun c hc => ⟨(pc c (by simp [hc])).1, (pc c (by simp [hc])).2.1⟩)]
  simp
/-- What the model makes of a text. -/
def readM (s : By) : Option Po := (lnsB s.length s).map fun ls => ls.foldl lineF emptyP
theorem readM_w {p : Po} (h : NiceP p) : readM (textW p) = some p := by
  unfold readM
  rw [lns_nice h]
  simp [fold_nice h]
end Go.Proofs.YtigldeccfpkdmaaGreatDoor
namespace Go.Proofs.YtigldeccfpkdmaaGreatDoor
open Go Go.RowKit Go.BigFrame
theorem app_freshM {P : Program} {w w' : World} {v v' : Value} (base : Nat) (t ty e : TypeId) (i : TypeInfo) (z : Value) (size bytes : Nat) (ht : P.underlying t = some (.slice e)) (hi : P.info? e = some i) (hz : i.zero = some z)
    (hsize : i.size = size) (hby : i.bytes = bytes) (n : Nat) (xs : List Value) (hown : w.ownsRow base e size v n xs)
    (a : Addr) (m c : Nat) (news : List Value) (hl : news.length = m * size) (hnews : ∀ j u, news[j]? = some u → w.cell? (a.add j) = some u) (h1 : ∀ u ∈ news, u.oneCell' = true)
    (h63 : n + m ≤ maxLen) (hbytes : (n + m) * bytes ≤ 140737488355328) (hr : (Builtin.append_ #[t, t] ty #[v, .slice (some a) m c]).run P w = .ok v' w') (hnil : v' = .slice none 0 0 ↔ v = .slice none 0 0 ∧ m = 0) :
    ∀ g, v'.ownBlock = some g → v.ownBlock = some g ∨ w.heap.size ≤ g := by
  by_cases hm : 0 < m
  · exact app_fresh base t ty e i z size bytes ht hi hz hsize hby n xs hown a m c news hm hl hnews h1 h63 hbytes hr
  · obtain rfl : m = 0 := by omega
    subst hsize
    intro g' hg'
    rcases hown.2 with ⟨rfl, rfl⟩ | ⟨g, cap, cur, rfl, hbg, hg, hnc, hcm, hcs, htake⟩
    · rw [hnil.2 ⟨rfl, rfl⟩] at hg'
      simp [Value.ownBlock] at hg'
    · have hfit : n * i.size + news.length ≤ cur.size := by rw [hl, hcs, ← Nat.add_mul]; exact Nat.mul_le_mul_right _ (by omega)
      have hr2 := run_append_room (P := P) w t ty e i ht hi g n cap cur hg a 0 c news hl hnews h1 (by omega) hfit
      rw [hr] at hr2
      cases hr2
      left
      simpa [Value.ownBlock] using hg'
theorem wp_appM {α : Type} {cs : α → List Value} {size : Nat} {P : Program} {o : Oper} {a : Act} {w : World} {K : Act → World → Prop} {Q : Exit → Act → World → Prop}
    (s x : Operand) (t : TypeId) (ho : o.op = .call { callee := .builtin .append, args := #[s, x], argTypes := #[t, t] })
    (B : Nat) (e : TypeId) (i : TypeInfo) (z : Value) (bytes : Nat) (ht : P.underlying t = some (.slice e)) (hi : P.info? e = some i) (hz : i.zero = some z) (hsize : i.size = size) (hby : i.bytes = bytes) (hzs : z.cells.size = size) (hpos : 0 < size)
    (hsz : ∀ y, (cs y).length = size) (hone : ∀ (l : List α), ∀ u ∈ l.flatMap cs, u.oneCell' = true)
    (da : Option Addr) (dn dcap : Nat) (ld : List α) (hs : a.eval s = .slice da dn dcap) (hd : ResAt cs size e w B da dn dcap ld)
    (sa : Option Addr) (sn scap : Nat) (ls : List α) (hx : a.eval x = .slice sa sn scap) (hsrc : SlAt cs size w sa sn ls) (hspot : ∀ ad, sa = some ad → ad.spot = none) (hnone : sa = none → scap = 0)
    (tot : Nat) (htot : dn + sn = tot) (h63 : tot ≤ maxLen) (hbytes : tot * bytes ≤ 140737488355328) (hbase : B ≤ w.heap.size)
    (h : ∀ a' cap' w', ResAt cs size e w' B a' tot cap' (ld ++ ls) → w.grownBy w' (Value.ownBlock (.slice da dn dcap)) → (∀ ad', a' = some ad' → (∃ ad, da = some ad ∧ ad.block = ad'.block) ∨ w.heap.size ≤ ad'.block) → K (a.put o.dst (.slice a' tot cap')) w') : o.wp P a w K Q := by
  subst htot
  have hrow := hd.row hsz
  have hlen : (ld ++ ls).length = dn + sn := by rw [List.length_append, hd.sl.len, hsrc.len]
  cases sa with
  | none =>
    have h0 : sn = 0 := by
      cases ls with
      | nil => rw [← hsrc.len]; rfl
      | cons y r => obtain ⟨b, o', hb, _⟩ := hsrc.cell 0 y rfl; cases hb
    obtain rfl := h0
    obtain rfl := hnone rfl
    have hl0 : ls = [] := List.eq_nil_of_length_eq_zero hsrc.len
    subst hl0
    have hrun := run_append_owned_none (P := P) w B t o.type e i size ht hi (.slice da dn dcap) dn (ld.flatMap cs) hrow
    unfold Oper.wp
    simp [execOp, ho, resolve, invoke, builtin, hs, hx, hrun, Result.andThen]
    exact h da dcap w (by simpa using hd) (World.grownBy.refl _ _) (fun ad' had' => .inl ⟨ad', had', rfl⟩)
  | some ad =>
    obtain ⟨b, off, spot⟩ := ad
    have := hspot _ rfl
    simp only at this
    subst this
    have hnl : (ls.flatMap cs).length = sn * size := by rw [flat_len hsz, hsrc.len]
    obtain ⟨v', w', hr, hrow', hg, hnil⟩ := run_append_own (P := P) w B t o.type e i z size bytes ht hi hz hsize hby hzs hpos (.slice da dn dcap) dn (ld.flatMap cs) hrow ⟨b, off, none⟩ sn scap (ls.flatMap cs) hnl (SlAt.src hsz hsrc) (hone ls) h63 hbytes hbase
    have hfr := app_freshM (P := P) B t o.type e i z size bytes ht hi hz hsize hby dn (ld.flatMap cs) hrow ⟨b, off, none⟩ sn scap (ls.flatMap cs) hnl (SlAt.src hsz hsrc) (hone ls) h63 hbytes hr hnil
    rw [← List.flatMap_append] at hrow'
    obtain ⟨a', cap', rfl, hres⟩ := res_of_row hsz hlen hrow'
    unfold Oper.wp
    simp [execOp, ho, resolve, invoke, builtin, hs, hx, hr, Result.andThen]
    refine h a' cap' w' hres hg (fun ad' had' => ?_)
    subst had'
    rcases hfr ad'.block (by simp [Value.ownBlock]) with h1 | h1
    · cases da with
      | none => simp [Value.ownBlock] at h1
      | some ad => exact .inl ⟨ad, rfl, by simpa [Value.ownBlock] using h1⟩
    · exact .inr h1
theorem infMI : (Tryz.prog.info? tI).map (fun i => (i.zero, i.size, i.bytes)) = some (some (.agg #[.string .empty, .slice none 0 0]), 2, 40) := by kernel_rfl
theorem infMV : (Tryz.prog.info? tV).map (fun i => (i.zero, i.size, i.bytes)) = some (some (.agg #[.int .i64 0, .string .empty, .bool false, .slice none 0 0]), 4, 56) := by kernel_rfl
theorem infMP : (Tryz.prog.info? tP).map (fun i => (i.zero, i.size, i.bytes)) = some (some (.agg #[.int .i64 0, .int .i64 0, .int .i64 0]), 3, 24) := by kernel_rfl
theorem infME : (Tryz.prog.info? tE).map (fun i => (i.zero, i.size, i.bytes)) = some (some (.agg #[.int .i64 0, .string .empty]), 2, 24) := by kernel_rfl
theorem infMC : (Tryz.prog.info? tC).map (fun i => (i.zero, i.size, i.bytes)) = some (some (.agg #[.int .i64 0, .int .i64 0, .string .empty, .int .i64 0]), 4, 40) := by kernel_rfl
theorem idxN_q (ws : List By) (i : Nat) : idxN (ws.map bA) i = numQ ws i := by
  unfold idxN numQ
  rw [List.getElem?_map]
  cases ws[i]? with
  | none => rfl
  | some x => simp [bA_list]
theorem idxW_q (ws : List By) (i : Nat) : idxW (ws.map bA) i = bA (wordQ ws i) := by
  unfold idxW wordQ
  rw [List.getElem?_map]
  cases ws[i]? with
  | none => rfl
  | some x => rfl
/-- Lists of at most K rows. -/
structure DimM (K : Nat) (p : Po) : Prop where
  ex : p.ex.length ≤ K
  vs : p.vs.length ≤ K
  its : ∀ v ∈ p.vs, v.its.length ≤ K ∧ ∀ x ∈ v.its, x.ps.length ≤ K
  rf : p.rf.length ≤ K
  lt : p.lt.length ≤ K
end Go.Proofs.YtigldeccfpkdmaaGreatDoor
