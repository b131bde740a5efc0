/- The laws' marks in a pool: cells of the same kinds, the slices as they were, nothing else turned. -/
import Derived.Lib.SmallJoins
import Derived.Lib.SliceRun
import Derived.Lib.Overlaps
import Derived.Laws.CopyOwn
import Derived.Shelf.SlSortCmp.NoneTotal
import Derived.Maps.RangeWalk
import Derived.WideKeyEntry
import Derived.Deep.DeepCutAuto
import Derived.Test.YtkkjdbfalpjhfaaGreatDoorU02
set_option maxHeartbeats 20000000
set_option maxRecDepth 100000
namespace Go.Proofs.YtkkjdbfalpjhfaaGreatDoor
open Go Go.RowKit Go.BigFrame Tryz
variable{α:Type}{c:Array Value}{B b j n:Nat}{a:Option Addr}{v x:Value}{w w':World}{l:List α}
theorem Ad.same {t:TypeId}{cs:α->List Value}{sz:Nat}{cap:Nat}(h:Ad cs sz t w B a n cap l)(he:∀ ad,a=some ad->w'.heap[ad.block]?=w.heap[ad.block]?):Ad cs sz t w' B a n cap l:=by
 have hb:∀ b o,a=some ⟨b,o,none⟩->∀ j,w'.cell? ⟨b,j,none⟩=w.cell? ⟨b,j,none⟩:=fun b o ha j=>by
  have:=he _ ha
  simp only[World.cell?];rw[this]
 refine⟨⟨h.sl.len,fun i x hx=>?_⟩,?_⟩
 ·obtain⟨b,o,ha,hc⟩:=h.sl.cell i x hx;exact⟨b,o,ha,fun j v hv=>by rw[hb b o ha];exact hc j v hv⟩
 ·rcases h.own with h0 | ⟨b,ha,hB,h1,h2,c,hc,q⟩
  ·exact .inl h0
  ·exact .inr ⟨b,ha,hB,h1,h2,c,(he _ ha).trans hc,q⟩
end Go.Proofs.YtkkjdbfalpjhfaaGreatDoor
