/- Ops that are done when they are tried, by the model. -/
import Derived.Deep.DeepCutAuto
import Derived.Laws.EntriesVeiled
import Derived.Test.YtkiceokhlceciaaGreatDoorU15
set_option maxHeartbeats 20000000
set_option maxRecDepth 100000
namespace Go.Proofs.YtkiceokhlceciaaGreatDoor
section
open Go Go.RowKit Go.BigFrame Tryz
variable{B n r:Nat}{a:Option Addr}{w w':World}
def DH (w:World)(a:Option Addr)(n:Nat):Prop:=∀ i,i<n->∃ b o,∃ v:Int,a=some ⟨b,o,none⟩∧0<=v∧v<=255∧w.cell? ⟨b,o+i,none⟩=some (.int .u8 v)
def Rd (w:World)(B:Nat):Prop:=∃ a n cap p,∃ t:TypeId,Blk w B #[.slice a n cap,.int .i64 ((p:Nat):Int)] t∧p<=n∧n<=1048576∧DH w a n∧∀ ad,0<n->a=some ad->ad.block<B
theorem Rd.lt (h:Rd w B):B<w.heap.size:=by
 obtain⟨a,n,cap,p,t,h1,_⟩:=h;exact h1.lt
theorem DH.below (h:DH w a n)(hb:Below w.heap.size w w'):DH w' a n:=fun i hi=>by
 obtain⟨b,o,v,ha,h0,h1,hc⟩:=h i hi;exact⟨b,o,v,ha,h0,h1,Ab hb hc⟩
theorem DH.grown (h:DH w a n)(hg:w.grownBy w' (some r))(hr:∀ ad,0<n->a=some ad->ad.block≠r):DH w' a n:=fun i hi=>by
 obtain⟨b,o,v,ha,h0,h1,hc⟩:=h i hi;exact⟨b,o,v,ha,h0,h1,hg.cell hc (by have:=hr _ (by omega) ha;simpa using this)⟩
theorem Rd.below (h:Rd w B)(hb:Below w.heap.size w w'):Rd w' B:=by
 obtain⟨a,n,cap,p,t,h1,h2,h3,h4,h5⟩:=h;exact⟨a,n,cap,p,t,h1.below hb,h2,h3,h4.below hb,h5⟩
theorem Rd.grown (h:Rd w B)(hg:w.grownBy w' (some r))(hr:B<r):Rd w' B:=by
 obtain⟨a,n,cap,p,t,h1,h2,h3,h4,h5⟩:=h;exact⟨a,n,cap,p,t,h1.grown hg (by omega),h2,h3,h4.grown hg (fun ad h0 ha=>by have:=h5 ad h0 ha;omega),h5⟩
end
section
open Go Go.RowKit Go.BigFrame Tryz
variable{w w':World}
theorem Bo.below {b n:Nat}{f:Ow->Int}(h:Bo w b n f)(hb:Below w.heap.size w w'):Bo w' b n f:=h.kept (row:=none) ⟨hb.os,hb.tape,hb.output,hb.size,fun k hk _=>hb.block k hk⟩ (by simp)
end
end Go.Proofs.YtkiceokhlceciaaGreatDoor
