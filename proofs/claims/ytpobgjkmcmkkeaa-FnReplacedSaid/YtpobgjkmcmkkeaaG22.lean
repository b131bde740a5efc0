/- A region, cut behind it: what it leaves in its slots, whatever came up first. -/
import Derived.Test.YtpobgjkmcmkkeaaG21
namespace Go.Proofs.Ytpobgjkmcmkkeaa
open Go Go.RowKit Go.BigFrame

/-- What a region leaves: the slots' values and the world. -/
def CutQ (D : List Nat) (a0 : Act) (Φ : (Nat → Value) → World → Prop) : Exit → Act → World → Prop := fun e a u => e = .normal ∧ ∃ x, a = putAll x D a0 ∧ Φ x u
theorem region_cut {P : Program} {l : List Oper} {Q : Exit → Act → World → Prop} {id : Nat} {a0 : Act} {w : World} (S : World → Prop) (n : Nat) (D : List Nat) (Φ : (Nat → Value) → World → Prop) (hm : P.follows .mixedOrders = true) (hn : l.toArray.size = n)
    (h1 : wpAnyH P .any l.toArray (CutQ D a0 Φ) S n (Array.replicate n false) a0 w.drew) (h2 : ∀ x u, Φ x u → Q .normal (putAll x D a0) u) : (Code.region id l.toArray true).wp P Q a0 w := by
  refine Code.wp_mono ?_ (wp_region_heldH (S := S) n hm hn h1)
  rintro e a u ⟨rfl, x, rfl, hx⟩
  exact h2 x u hx
theorem cut_panic {D : List Nat} {a0 : Act} {Φ : (Nat → Value) → World → Prop} {x y : Act} : ∀ c (w : World), CutQ D a0 Φ (.panic c) x w → CutQ D a0 Φ (.panic c) y w := fun _ _ h => by cases h.1
theorem leaf_of {D : List Nat} {a0 a : Act} {Φ : (Nat → Value) → World → Prop} {u : World} (hA : a = putAll (fun k => a.eval (.tmp k)) D a0) (hΦ : Φ (fun k => a.eval (.tmp k)) u) : CutQ D a0 Φ .normal a u := ⟨rfl, _, hA, hΦ⟩
theorem takeC {P : Program} {D : List Nat} {a0 : Act} {Φ : (Nat → Value) → World → Prop} {md : Region.Mode} {S : World → Prop} {l : List Oper} {i : Nat} {oi : Oper} {v : Value} {fuel : Nat} {listed : Array Bool} {a : Act} {w : World} (hi : l[i]? = some oi)
    (hs : Region.noSelect l.toArray = true) (hf : Region.free md l.toArray listed i = true) (hr : (Region.ready md l.toArray listed).contains i = true)
    (hy : YieldsIf P l.toArray S oi v a) (hS : S w)
    (h : wpAnyH P md l.toArray (CutQ D a0 Φ) S fuel (listed.setIfInBounds i true) (a.put oi.dst v) w) : wpAnyH P md l.toArray (CutQ D a0 Φ) S (fuel + 1) listed a w :=
  takeL hi hs hf hr (fun c _ w h => cut_panic c w h) hy hS h
theorem twoLJ {P : Program} {Q : Exit → Act → World → Prop} {md : Region.Mode} {S : World → Prop} {l : List Oper} {i j : Nat} {o o' : Oper} {fuel : Nat} {listed : Array Bool} {a : Act} {w : World} (hr : Region.ready md l.toArray listed = [i, j]) (hi : l[i]? = some o) (hj : l[j]? = some o')
    (h : ∀ K' : Act → World → Prop, Shut (∀ a w, S w → (S w → wpAnyH P md l.toArray Q S fuel (listed.setIfInBounds i true) a w) → K' a w) → if Region.wanted o (yielded l.toArray a.tmps) = true then Oper.wp P o a w K' Q else K' (a.put o.dst undef) w)
    (h' : ∀ K' : Act → World → Prop, Shut (∀ a w, S w → (S w → wpAnyH P md l.toArray Q S fuel (listed.setIfInBounds j true) a w) → K' a w) → if Region.wanted o' (yielded l.toArray a.tmps) = true then Oper.wp P o' a w K' Q else K' (a.put o'.dst undef) w) :
    wpAnyH P md l.toArray Q S (fuel + 1) listed a w :=
  wpAnyH_ready hr (by simp) (AllReadyH.cons (by simpa using hi) h (AllReadyH.cons (by simpa using hj) h' AllReadyH.nil))
/-- A disk's cells in a block, put there in three stores. -/
theorem put3_all {B b : Nat} {w w0 : World} {c0 c1 c2 x y z : Value} {t : TypeId} (hb : Blk w b #[c0, c1, c2] t) (hB : Below B w0 w) (h : B ≤ b) : Blk (((w.setCell ⟨b, 0, none⟩ x).setCell ⟨b, 1, none⟩ y).setCell ⟨b, 2, none⟩ z) b #[x, y, z] t ∧ Below B w0 (((w.setCell ⟨b, 0, none⟩ x).setCell ⟨b, 1, none⟩ y).setCell ⟨b, 2, none⟩ z) ∧ w.grownBy (((w.setCell ⟨b, 0, none⟩ x).setCell ⟨b, 1, none⟩ y).setCell ⟨b, 2, none⟩ z) (some b) ∧ (((w.setCell ⟨b, 0, none⟩ x).setCell ⟨b, 1, none⟩ y).setCell ⟨b, 2, none⟩ z).heap.size = w.heap.size :=
  ⟨hb.put3, ((hB.setCell (by simpa using h) _).setCell (by simpa using h) _).setCell (by simpa using h) _, grown_put3 _ _ _ _ _, by simp⟩
theorem DiskR.ofTy {B b : Nat} {w w' : World} {v : Value} {d : Dk} {c : Array Value} (h : DiskR B w v d) (hg : w.grownBy w' (some b)) (hb : Blk w b c 27) : DiskR B w' v d := by
  obtain ⟨la, ln, lc, sa, sn, sc, oa, on, oc, hv, h1, h2, h3⟩ := h
  exact ⟨la, ln, lc, sa, sn, sc, oa, on, oc, hv, h1.ty hg (rowTy_blk hb) (by decide), h2.ty hg (rowTy_blk hb) (by decide), h3.ty hg (rowTy_blk hb) (by decide)⟩
theorem DiskS.ofTy {B b : Nat} {w w' : World} {v : Value} {d : Dk} {c : Array Value} (h : DiskS B w v d) (hg : w.grownBy w' (some b)) (hb : Blk w b c 27) : DiskS B w' v d := by
  obtain ⟨la, ln, lc, sa, sn, sc, oa, on, oc, hv, h1, h2, h3, h4⟩ := h
  exact ⟨la, ln, lc, sa, sn, sc, oa, on, oc, hv, h1.ty hg (rowTy_blk hb) (by decide), h2.ty hg (rowTy_blk hb) (by decide), h3.ty hg (rowTy_blk hb) (by decide), h4⟩
end Go.Proofs.Ytpobgjkmcmkkeaa
