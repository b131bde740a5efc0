/- The order of owners: cmp.Compare, cmp.Or, ownerOrder, OwnerAhead of the program; OwnerAhead of the model. ownerOrder, OwnerAhead. The gaps of a space, told by a range over a function: the iterator of the program. RoomOf of the program and of the model. Appending one element: the row that comes of it is the old one, or new. The lengths of parts, of the program and of the model; the model's PartsOk. The laws' comparison of two lists of parts. The row in the making: (*row).add. The model's l2Add. Answers' blocks, and what is kept while one of them is written. The gaps of the model: l1Gaps, GapsOf. -/
import Derived.Test.YtigldeccfpkdmaaGreatDoorProg
import Derived.Test.YtigldeccfpkdmaaGreatDoorK03
import Derived.Test.YtigldeccfpkdmaaGreatDoorK00
import Derived.RangeFuncNested
import Derived.RangeFuncBound
import Derived.RangeFuncCalls
import Derived.RangeFuncLeaves
import Derived.RangeFuncBox
import Derived.Shelf.Abstract
import Derived.Shelf.RegionOpen
import Derived.WalkKit
import Derived.OwnWalkIn
import Derived.TacticsInMore
import Derived.LoopNIn
import Derived.LoopIn
import Derived.Test.YtigldeccfpkdmaaGreatDoorK01
import Derived.RangeFuncFrom
import Derived.Test.YtigldeccfpkdmaaGreatDoorK04
import Derived.Maps.AppendAt
import Derived.StillTailTactics
namespace Go.Proofs.YtigldeccfpkdmaaGreatDoor
open Go.RowKit Go.BigFrame
set_option maxHeartbeats 20000000
set_option maxRecDepth 100000
theorem dC_ (x:Int) (w:World) :
  Calls Tryz.prog 270 #[.int .i64 x] w fun e w'=>e=.returned (.bool false)∧w'=w:=by
 have hx:(x != x)=false:=by simp
 go_enter Tryz.func270,Tryz.ntmps270
 go_wp2
 go_returns
 go_light
 exact ⟨by simp,rfl⟩
theorem dD_ (x:ByteArray) (w:World) :
  Calls Tryz.prog 271 #[.string x] w fun e w'=>e=.returned (.bool false)∧w'=w:=by
 go_enter Tryz.func271,Tryz.ntmps271
 go_wp2
 go_returns
 go_light
 exact ⟨by simp,rfl⟩
theorem cS_ (x y:Int) (w:World) :
  Calls Tryz.prog 239 #[.int .i64 x,.int .i64 y] w fun e w'=>e=.returned (.int .i64 (cmpI x y))∧w'=w:=by
 go_enter Tryz.func239,Tryz.ntmps239
 go_wp2_with fail
 refine (dC_ _ _).mono ?_
 rintro e w1 ⟨rfl,rfl⟩
 go_wp2_with fail
 refine (dC_ _ _).mono ?_
 rintro e w1 ⟨rfl,rfl⟩
 go_wp2
 all_goals go_returns
 all_goals go_light
 all_goals refine ⟨aA_ ?_,rfl⟩
 all_goals simp [cmpI]
 all_goals omega
theorem cT_ (x y:ByteArray) (w:World) :
  Calls Tryz.prog 240 #[.string x,.string y] w fun e w'=>e=.returned (.int .i64 (cmpS x y))∧w'=w:=by
 go_enter Tryz.func240,Tryz.ntmps240
 go_wp2_with fail
 refine (dD_ _ _).mono ?_
 rintro e w1 ⟨rfl,rfl⟩
 go_wp2_with fail
 refine (dD_ _ _).mono ?_
 rintro e w1 ⟨rfl,rfl⟩
 go_wp2
 all_goals go_returns
 all_goals go_light
 all_goals refine ⟨aA_ ?_,rfl⟩
 all_goals simp_all [cmpS,bl]
theorem lb_ (x y z:Int) (b:Nat) (cap:Nat) (w:World) (h0:w.cell? ⟨b,0,none⟩=some (.int .i64 x)) (h1:w.cell? ⟨b,1,none⟩=some (.int .i64 y)) (h2:w.cell? ⟨b,2,none⟩=some (.int .i64 z)) :
  Calls Tryz.prog 238 #[.slice (some ⟨b,0,none⟩) 3 cap] w fun e w'=>e=.returned (.int .i64 (or3 x y z))∧w'=w:=by
 by_cases hx:x=0
 ·have hx':(x != 0)=false:=by simp [hx]
  by_cases hy:y=0
  ·have hy':(y != 0)=false:=by simp [hy]
   by_cases hz:z=0
   ·have hz':(z != 0)=false:=by simp [hz]
    have hf:Hid (or3 x y z=0):=by show _=_;simp [or3,hx,hy,hz]
    clear hx hy hz
    go_enter Tryz.func238,Tryz.ntmps238
    go_wp2_with fail
    go_rounds 4
    go_returns
    go_light
    exact ⟨aA_ hf.out.symm,rfl⟩
   ·have hz':(z != 0)=true:=by simp [hz]
    have hf:Hid (or3 x y z=z):=by show _=_;simp [or3,hx,hy]
    clear hx hy hz
    go_enter Tryz.func238,Tryz.ntmps238
    go_wp2_with fail
    go_rounds 3
    go_returns
    go_light
    exact ⟨aA_ hf.out.symm,rfl⟩
  ·have hy':(y != 0)=true:=by simp [hy]
   have hf:Hid (or3 x y z=y):=by show _=_;simp [or3,hx,hy]
   clear hx hy
   go_enter Tryz.func238,Tryz.ntmps238
   go_wp2_with fail
   go_rounds 2
   go_returns
   go_light
   exact ⟨aA_ hf.out.symm,rfl⟩
 ·have hx':(x != 0)=true:=by simp [hx]
  have hf:Hid (or3 x y z=x):=by show _=_;simp [or3,hx]
  clear hx
  go_enter Tryz.func238,Tryz.ntmps238
  go_wp2_with fail
  go_rounds 1
  go_returns
  go_light
  exact ⟨aA_ hf.out.symm,rfl⟩
theorem new3 (w:World) (x y z:Value) (t:TypeId):(w.alloc (.cells #[x,y,z] t)).drew.cell? ⟨w.heap.size,0,none⟩=some x∧(w.alloc (.cells #[x,y,z] t)).drew.cell? ⟨w.heap.size,1,none⟩=some y∧(w.alloc (.cells #[x,y,z] t)).drew.cell? ⟨w.heap.size,2,none⟩=some z:=
 ⟨World.cell?_alloc_new _ _ _ 0,World.cell?_alloc_new _ _ _ 1,World.cell?_alloc_new _ _ _ 2⟩
theorem fa_ (p q:Ow) (w:World) :
  Calls Tryz.prog 208 #[.agg #[.int .i64 p.a,.int .i64 p.v,.string p.f],.agg #[.int .i64 q.a,.int .i64 q.v,.string q.f]] w fun e w'=>e=.returned (.int .i64 (ordO p q))∧Below w.heap.size w w':=by
 have hfin:Hid (ordO p q=or3 (cmpI p.a q.a) (cmpI p.v q.v) (cmpS p.f q.f)):=rfl
 generalize ordO p q=R at *
 obtain ⟨a,v,f⟩:=p
 obtain ⟨b,u,g⟩:=q
 simp only at hfin
 go_enter Tryz.func208,Tryz.ntmps208
 go_wp2_with fail
 have x0:((w.alloc (.cells #[.int .i64 a,.int .i64 v,.string f] 132)).alloc (.cells #[.int .i64 b,.int .i64 u,.string g] 132)).cell? ⟨w.heap.size,0,none⟩=some (.int .i64 a):=acell _ (by simp)
 have x1:((w.alloc (.cells #[.int .i64 a,.int .i64 v,.string f] 132)).alloc (.cells #[.int .i64 b,.int .i64 u,.string g] 132)).cell? ⟨w.heap.size,1,none⟩=some (.int .i64 v):=acell _ (by simp)
 have x2:((w.alloc (.cells #[.int .i64 a,.int .i64 v,.string f] 132)).alloc (.cells #[.int .i64 b,.int .i64 u,.string g] 132)).cell? ⟨w.heap.size,2,none⟩=some (.string f):=acell _ (by simp)
 have y0:((w.alloc (.cells #[.int .i64 a,.int .i64 v,.string f] 132)).alloc (.cells #[.int .i64 b,.int .i64 u,.string g] 132)).cell? ⟨w.heap.size+1,0,none⟩=some (.int .i64 b):=by simp
 have y1:((w.alloc (.cells #[.int .i64 a,.int .i64 v,.string f] 132)).alloc (.cells #[.int .i64 b,.int .i64 u,.string g] 132)).cell? ⟨w.heap.size+1,1,none⟩=some (.int .i64 u):=by simp
 have y2:((w.alloc (.cells #[.int .i64 a,.int .i64 v,.string f] 132)).alloc (.cells #[.int .i64 b,.int .i64 u,.string g] 132)).cell? ⟨w.heap.size+1,2,none⟩=some (.string g):=by simp
 have hB0:Below w.heap.size w ((w.alloc (.cells #[.int .i64 a,.int .i64 v,.string f] 132)).alloc (.cells #[.int .i64 b,.int .i64 u,.string g] 132)):=by go_grown
 generalize (w.alloc (.cells #[.int .i64 a,.int .i64 v,.string f] 132)).alloc (.cells #[.int .i64 b,.int .i64 u,.string g] 132)=W0 at *
 go_region_held3 (fun u'=>u'.cell? ⟨w.heap.size,0,none⟩=some (.int .i64 a)∧u'.cell? ⟨w.heap.size,1,none⟩=some (.int .i64 v)∧u'.cell? ⟨w.heap.size,2,none⟩=some (.string f)∧u'.cell? ⟨w.heap.size+1,0,none⟩=some (.int .i64 b)∧u'.cell? ⟨w.heap.size+1,1,none⟩=some (.int .i64 u)∧u'.cell? ⟨w.heap.size+1,2,none⟩=some (.string g)) (go_keep)
  (first | (go_at_call 239;refine (cS_ _ _ _).mono ?_;rintro e w2 ⟨rfl,rfl⟩) | (go_at_call 240;refine (cT_ _ _ _).mono ?_;rintro e w2 ⟨rfl,rfl⟩) | (go_at_call 238;refine (lb_ (cmpI a b) (cmpI v u) (cmpS f g) W0.heap.size 3 _ (new3 W0 _ _ _ _).1 (new3 W0 _ _ _ _).2.1 (new3 W0 _ _ _ _).2.2).mono ?_;rintro e w2 ⟨rfl,rfl⟩))
 go_wp2
 go_returns
 go_light
 exact ⟨aA_ hfin.out.symm,(hB0.alloc hB0.size _).drew⟩
theorem fb_ (p q:Ow) (w:World) :
  Calls Tryz.prog 205 #[.agg #[.int .i64 p.a,.int .i64 p.v,.string p.f],.agg #[.int .i64 q.a,.int .i64 q.v,.string q.f]] w fun e w'=>e=.returned (.bool (owLt p q))∧Below w.heap.size w w':=by
 have hfin:Hid (owLt p q=decide (ordO p q<0)):=(hL_ p q).symm
 obtain ⟨a,v,f⟩:=p
 obtain ⟨b,u,g⟩:=q
 go_enter Tryz.func205,Tryz.ntmps205
 go_wp2_with fail
 refine (fa_ ⟨a,v,f⟩ ⟨b,u,g⟩ _).mono ?_
 rintro e w1 ⟨rfl,hB1⟩
 have hB2:Below w.heap.size w w1:=chain (by go_grown) hB1
 go_wp2
 go_returns
 go_light
 exact ⟨ab_ hfin.out.symm,hB2⟩
theorem au_ (p q:Ow) (w:World) :
  Calls Tryz.prog 214 #[.agg #[.int .i64 p.a,.int .i64 p.v,.string p.f],.agg #[.int .i64 q.a,.int .i64 q.v,.string q.f]] w fun e w'=>e=.returned (.bool (owLt p q))∧Below w.heap.size w w':=by
 obtain ⟨a,v,f⟩:=p
 obtain ⟨b,u,g⟩:=q
 go_enter Tryz.func214,Tryz.ntmps214
 go_wp2
 all_goals go_returns
 all_goals go_light
 all_goals refine ⟨?_,by go_grown⟩
 all_goals simp_all [owLt]
end Go.Proofs.YtigldeccfpkdmaaGreatDoor
namespace Go.Proofs.YtigldeccfpkdmaaGreatDoor
open Go.RowKit Go.Shelf
set_option maxHeartbeats 20000000
set_option maxRecDepth 100000
attribute [local go_sem] Oper.semAt_some
/-- What a round that goes on keeps, for the iterator: what lay below n₀, its own copies of extents, the size's box. -/
def KpG (n₀ Bs:Nat) (t:TypeId) (A B:World):Prop:=Below n₀ A B∧(∀ b c,Blk A b c t->Blk B b c t)∧(∀ v,A.cell? ⟨Bs,0,none⟩=some v->B.cell? ⟨Bs,0,none⟩=some v)
theorem KpG.t {n₀ Bs:Nat} {t:TypeId} {A B C:World} (h:KpG n₀ Bs t A B) (k:KpG n₀ Bs t B C):KpG n₀ Bs t A C:=
 ⟨h.1.trans k.1,fun b c hb=>k.2.1 b c (h.2.1 b c hb),fun v hv=>k.2.2 v (h.2.2 v hv)⟩
theorem KpG.b {n₀ Bs:Nat} {t:TypeId} {w:World} (hn:n₀<=w.heap.size) (hs:Bs<w.heap.size) (W:World) (l:Nat) (o o':Obj) (hl:w.heap.size<=l) (h:W.heap[l]?=some o) (hc:o.isCells=false) (hw:o.isWalk=false):KpG n₀ Bs t W (W.putObj l o'):=by
 refine ⟨belowK_b hn W l o o' hl h hc hw,fun b c hb=>?_,fun v hv=>?_⟩
 ·have hbl:b≠l:=fun e=>by subst e;unfold Blk at hb;rw [h] at hb;cases hb;cases hc
  exact Blk.grown hb (grownBy_putObj' W l o') hbl
 ·exact (grownBy_putObj' W l o').cell hv (by simp;omega)
attribute [local go_sem] Oper.semAt_some
theorem iV_ {size:Int} {l:List Ex} (h:spaceOkB size l=true):1<=size∧size<=400∧l.length<=60∧xgo size 1 l=true:=by
 simp only [spaceOkB,Bool.and_eq_true,decide_eq_true_eq] at h
 exact ⟨h.1.1.1,h.1.1.2,h.1.2,h.2⟩
end Go.Proofs.YtigldeccfpkdmaaGreatDoor
namespace Go.Proofs.YtigldeccfpkdmaaGreatDoor
open Go.RowKit
set_option maxHeartbeats 20000000
set_option maxRecDepth 100000
theorem mb_ {P:Program} {w w':World} {v v':Value} (base:Nat) (t ty e:TypeId) (i:TypeInfo) (z:Value) (size bytes:Nat) (ht:P.underlying t=some (.slice e)) (hi:P.info? e=some i) (hz:i.zero=some z)
  (hsize:i.size=size) (hby:i.bytes=bytes) (n:Nat) (xs:List Value) (hown:w.ownsRow base e size v n xs)
  (a:Addr) (m c:Nat) (news:List Value) (hm:0<m) (hl:news.length=m*size) (hnews:∀ j u,news[j]?=some u->w.cell? (a.add j)=some u) (h1:∀ u∈news,u.oneCell'=true)
  (h63:n+m<=maxLen) (hbytes:(n+m)*bytes<=140737488355328) (hr:(Builtin.append_ #[t,t] ty #[v,.slice (some a) m c]).run P w=.ok v' w') :
  ∀ g,v'.ownBlock=some g->v.ownBlock=some g∨w.heap.size<=g:=by
 subst hsize
 subst hby
 have hsmall:n+m<=9223372036854775807:=by simp only [maxLen] at h63;omega
 intro g' hg'
 rcases hown.2 with ⟨rfl,rfl⟩ | ⟨g,cap,cur,rfl,hbg,hg,hnc,hcm,hcs,htake⟩
 ·have hr2:=run_append_nil (P:=P) w t ty e i z ht hi hz a m c news hl hnews (by omega) (by omega) (by have hb:=hbytes;simp only [Nat.zero_add] at hb;omega)
  rw [hr] at hr2
  cases hr2
  right
  simp [Value.ownBlock] at hg'
  omega
 ·by_cases hroom:n+m<=cap
  ·have hfit:n*i.size+news.length<=cur.size:=by rw [hl,hcs,<-Nat.add_mul];exact Nat.mul_le_mul_right _ hroom
   have hr2:=run_append_room (P:=P) w t ty e i ht hi g n cap cur hg a m c news hl hnews h1 hroom hfit
   rw [hr] at hr2
   cases hr2
   left
   simpa [Value.ownBlock] using hg'
  ·have holds:∀ j u,xs[j]?=some u->w.cell? ((⟨g,0,none⟩:Addr).add j)=some u:=hown.cells (g:=g) rfl
   have hr2:=run_append_grow (P:=P) w t ty e i z ht hi hz ⟨g,0,none⟩ n cap xs hown.1 holds a m c news hl hnews (by omega) (by omega) (growslice_fits (by omega) hbytes)
   rw [hr] at hr2
   cases hr2
   right
   simp [Value.ownBlock] at hg'
   omega
end Go.Proofs.YtigldeccfpkdmaaGreatDoor
namespace Go.Proofs.YtigldeccfpkdmaaGreatDoor
open Go.RowKit Go.BigFrame
set_option maxHeartbeats 20000000
set_option maxRecDepth 100000
theorem hO_ (a:Option Addr) (n cap:Nat) (l:List Pt) (w:World) (h:PtsAt w a n l) (hn:n<=4194304) :
  Calls Tryz.prog 179 #[.slice a n cap] w fun e w'=>e=.returned (.bool (partsOkB l))∧Below w.heap.size w w':=by
 have hlen:=h.len
 by_cases h16:n<=16
 ·have hfin:Hid (partsOkB l=sgo none 0 l):=by show _=_;rw [of_ l none 0 (by omega) (by omega)];simp [partsOkB,hlen,h16]
  have hlen':Hid (l.length=n):=hlen
  clear hlen
  go_enter Tryz.func179,Tryz.ntmps179
  go_wp2_with fail
  go_loopw [2,3,4] (fun r s ix wr=>∃ (k:Nat) (lf:Int),k<=n∧ix=.int .i64 k∧s=.int .i64 lf∧0<=lf∧lf<=100*k∧Hid (sgo none 0 l=sgo (ahead l k) lf (l.drop k))∧Below w.heap.size w wr) (fun _ _ ix _=>n-(intOf ix).toNat)
  case atStart=>exact ⟨0,0,Nat.zero_le _,rfl,rfl,by omega,by omega,rfl,Below.refl _ _⟩
  case round=>
   obtain ⟨k,lf,hk,rfl,rfl,hf0,hf1,hI,hB⟩:=hrel
   by_cases hlt:k<n
   ·obtain ⟨b,o,p,rfl,hp,c0,c1,c2⟩:=bc_ (h.below hB) hlt
    have hd:Hid (l.drop k=p::l.drop (k+1)):=aj_ hp
    have hq:Hid (l[k]?=some p):=hp
    clear hp
    have hk1:(k:Int)<n:=by omega
    have hk2:(0:Int)<=k:=by omega
    cases hpo:(partOkB p&&decide (p.n<=100))
    ·go_wp2_with fail
     have g0:=gcell c0
     have g1:=gcell c1
     have g2:=gcell c2
     have hne:=aq_ wr
     refine aa_ (by kernel_rfl) (by kernel_rfl) ?_
     repeat (go_big_quiet_step (first | (go_at_call 211;have qq:=cl_ p;rw [hpo] at qq;exact ag_ (qq _))))
     refine wpQuiet_nil ?_
     intro w2 hx
     have hB2:=ae_ hx
     clear hx
     go_wp2
     go_returns
     go_light
     refine ⟨ab_ ?_,chain hB hB2⟩
     rw [hfin.out,hI.out,hd.out];cases ahead l k<;>simp only [sgo,hpo,Bool.false_and]
    ·have hpn:1<=p.n∧p.n<=100:=by simp at hpo;exact ⟨aW_ hpo.1,hpo.2⟩
     rcases k with _ | j
     ·simp only [Nat.zero_mul,Nat.add_zero] at c0 c1 c2
      go_wp2_with fail
      have g0:=gcell c0
      have g1:=gcell c1
      have g2:=gcell c2
      have hne:=aq_ wr
      refine aa_ (by kernel_rfl) (by kernel_rfl) ?_
      repeat (go_big_quiet_step (first | (go_at_call 211;have qq:=cl_ p;rw [hpo] at qq;exact ag_ (qq _))))
      refine wpQuiet_nil ?_
      intro w2 hx
      have hB2:=ae_ hx
      have d2:=bcell hB2 c2
      clear hx
      go_wp2
      go_roundw
      case rel=>exact ⟨1,lf+p.n,by omega,by go_num,by go_num,by omega,by omega,by show _=_;rw [hI.out,hd.out,fu_,bq_,hq.out];simp only [sgo,hpo,Bool.true_and],chain hB hB2⟩
      case measure=>simp [intOf];omega
     ·obtain ⟨b',o',q,hbo,hq',d0,d1,d2⟩:=bc_ (h.below hB) (k:=j) (by omega)
      obtain ⟨rfl,rfl⟩:b=b'∧o=o':=by simpa using hbo
      have ha:Hid (ahead l (j+1)=some q):=by show _=_;rw [bq_];exact hq'
      clear hq' hbo
      cases hgo:goesOnB q p
      all_goals
       go_wp2_with fail
       have g0:=gcell c0
       have g1:=gcell c1
       have g2:=gcell c2
       have g3:=gcell d0
       have g4:=gcell d1
       have g5:=gcell d2
       have hne:=aq_ wr
       refine aa_ (by kernel_rfl) (by kernel_rfl) ?_
       repeat (go_big_quiet_step (first | (go_at_call 211;have qq:=cl_ p;rw [hpo] at qq;exact ag_ (qq _)) | (go_at_call 212;have qq:=iE_ q p;rw [hgo] at qq;exact ag_ (qq _))))
       refine wpQuiet_nil ?_
       intro w2 hx
       have hB2:=ae_ hx
       have e2:=bcell hB2 c2
       clear hx
       go_wp2
      ·go_roundw
       case rel=>exact ⟨j+2,lf+p.n,by omega,by go_num,by go_num,by omega,by omega,by show _=_;rw [hI.out,hd.out,ha.out,bq_,hq.out];simp only [sgo,hpo,hgo,Bool.true_and,Bool.not_false],chain hB hB2⟩
       case measure=>simp [intOf];omega
      ·go_returns
       go_light
       refine ⟨ab_ ?_,chain hB hB2⟩
       rw [hfin.out,hI.out,hd.out,ha.out];simp only [sgo,hpo,hgo,Bool.true_and,Bool.not_true,Bool.false_and]
   ·obtain rfl:k=n:=by omega
    go_wp2
    go_returns
    go_light
    refine ⟨ab_ ?_,hB⟩
    rw [hfin.out,hI.out,List.drop_of_length_le (Nat.le_of_eq hlen'.out)];cases ahead l k<;>rfl
 ·go_enter Tryz.func179,Tryz.ntmps179
  go_wp2
  go_returns
  go_light
  refine ⟨ab_ ?_,Below.refl _ _⟩
  simp [partsOkB,hlen];omega
def eqPts:List Pt->List Pt->Bool
 |[],[]=>true
 |p::r,q::s=>eqPtB p q&&eqPts r s
 |_,_=>false
theorem mc_ (p q:Pt):eqPtB p q=true↔p=q:=by
 cases p;cases q;simp [eqPtB,and_assoc]
theorem md_ (l:List Pt):∀ m,eqPts l m=true↔l=m:=by
 induction l with
 |nil=>intro m;cases m<;>simp [eqPts]
 |cons p r ih=>intro m;cases m<;>simp [eqPts,mc_,ih]
theorem kp_ (l:List Pt):eqPts l l=true:=(md_ l l).2 rfl
theorem me_ {l:List Pt}:∀ {m:List Pt},l.length≠m.length->eqPts l m=false:=by
 induction l with
 |nil=>intro m h;cases m<;>simp [eqPts] at *
 |cons p r ih=>intro m h;cases m<;>simp [eqPts] at *;exact fun _=>ih h
theorem hP_ (a:Option Addr) (n cap:Nat) (l:List Pt) (a':Option Addr) (n' cap':Nat) (m:List Pt) (w:World) (h:PtsAt w a n l) (h':PtsAt w a' n' m) (hn:n<=4194304) (hn':n'<=4194304) :
  Calls Tryz.prog 241 #[.slice a n cap,.slice a' n' cap'] w fun e w'=>e=.returned (.bool (eqPts l m))∧Below w.heap.size w w':=by
 have hlen:Hid (l.length=n):=h.len
 have hlen':Hid (m.length=n'):=h'.len
 by_cases hne:n=n'
 ·subst hne
  have hbn:((n:Int) != (n:Int))=false:=by simp
  go_enter Tryz.func241,Tryz.ntmps241
  go_wp2_with fail
  go_loopw [5] (fun ix wr=>∃ (k:Nat),k<=n∧ix=.int .i64 k∧Hid (eqPts l m=eqPts (l.drop k) (m.drop k))∧Below w.heap.size w wr) (fun ix _=>n-(intOf ix).toNat)
  case atStart=>exact ⟨0,Nat.zero_le _,rfl,rfl,Below.refl _ _⟩
  case round=>
   obtain ⟨k,hk,rfl,hI,hB⟩:=hrel
   by_cases hlt:k<n
   ·obtain ⟨b,o,p,rfl,hp,c0,c1,c2⟩:=bc_ (h.below hB) hlt
    obtain ⟨b',o',q,rfl,hq,d0,d1,d2⟩:=bc_ (h'.below hB) hlt
    have hd:Hid (l.drop k=p::l.drop (k+1)):=aj_ hp
    have hd':Hid (m.drop k=q::m.drop (k+1)):=aj_ hq
    clear hp hq
    have hk1:(k:Int)<n:=by omega
    have hk2:(0:Int)<=k:=by omega
    cases hpq:eqPtB p q
    all_goals
     go_wp2_with fail
     have g0:=gcell c0
     have g1:=gcell c1
     have g2:=gcell c2
     have g3:=gcell d0
     have g4:=gcell d1
     have g5:=gcell d2
     have hne:=aq_ wr
     refine aa_ (by kernel_rfl) (by kernel_rfl) ?_
     repeat (go_big_quiet_step (first | (go_at_call 272;have qq:=iF_ p q;rw [hpq] at qq;exact ag_ (qq _))))
     refine wpQuiet_nil ?_
     intro w2 hx
     have hB2:=ae_ hx
     clear hx
     go_wp2
    ·go_returns
     go_light
     refine ⟨ab_ ?_,chain hB hB2⟩
     rw [hI.out,hd.out,hd'.out];simp only [eqPts,hpq,Bool.false_and]
    ·go_roundw
     case rel=>exact ⟨k+1,by omega,by go_num,by show _=_;rw [hI.out,hd.out,hd'.out];simp only [eqPts,hpq,Bool.true_and],chain hB hB2⟩
     case measure=>simp [intOf];omega
   ·obtain rfl:k=n:=by omega
    go_wp2
    go_returns
    go_light
    refine ⟨ab_ ?_,hB⟩
    rw [hI.out,List.drop_of_length_le (Nat.le_of_eq hlen.out),List.drop_of_length_le (Nat.le_of_eq hlen'.out)];rfl
 ·have hbn:((n:Int) != (n':Int))=true:=by simp;omega
  go_enter Tryz.func241,Tryz.ntmps241
  go_wp2
  go_returns
  go_light
  refine ⟨ab_ ?_,Below.refl _ _⟩
  rw [me_ (by rw [hlen.out,hlen'.out];exact hne)]
/-- A region that draws its order, whose first n operations only read, what is left coming behind them in its own order. -/
theorem b3_ {P:Program} {id:Nat} {Q:Exit->Act->World->Prop} {a:Act} {w:World} {l:List Oper} (n:Nat) (hm:P.follows .mixedOrders=true) (hB:Region.lexTailB .any l.toArray n=true)
  (h:wpStill P l.toArray w.drew (fun a'=>wpList P l.toArray Q (l.drop n) a' w.drew) (l.take n) a):(Code.region id l.toArray true).wp P Q a w:=
 wp_region_still_tail n hm hB h
/-- A row in the making: its parts, all lengths together, whether it grew too great. -/
structure RSt where
 L:List Pt
 s:Int
 ov:Bool
/-- A slice value as Go has it. -/
structure ArgOk (a:Option Addr) (cap:Nat):Prop where
 spot:∀ ad,a=some ad->ad.spot=none
 nil:a=none->cap=0
theorem ResAt.arg {α:Type} {cs:α->List Value} {sz:Nat} {t:TypeId} {w:World} {B n cap:Nat} {a:Option Addr} {l:List α} (h:ResAt cs sz t w B a n cap l):ArgOk a cap:=by
 rcases h.own with ⟨rfl,_,rfl⟩ | ⟨b,rfl,_⟩
 ·exact ⟨fun ad h=>(by cases h),fun _=>rfl⟩
 ·exact ⟨fun ad h=>(by cases h;rfl),fun h=>(by cases h)⟩
/-- The row that a slice of the call's own lies in. -/
def rowB:Option Addr->Option Nat
 |none=>none
 |some ad=>some ad.block
theorem SlAt.grownO {α:Type} {cs:α->List Value} {sz:Nat} {w w':World} {a:Option Addr} {n:Nat} {l:List α} {row:Option Nat} (h:SlAt cs sz w a n l) (hg:w.grownBy w' row) (hr:∀ ad,a=some ad->some ad.block≠row):SlAt cs sz w' a n l:=
 ⟨h.len,fun i x hx=>by
  obtain ⟨b,o,ha,hc⟩:=h.cell i x hx
  exact ⟨b,o,ha,fun j v hv=>hg.cell (hc j v hv) (hr ⟨b,o,none⟩ ha)⟩⟩
theorem hQ_ {w w1 w':World} {row:Option Nat} (hb:Below w.heap.size w w1) (hg:w1.grownBy w' row) (hn:∀ k,row=some k->w.heap.size<=k):Below w.heap.size w w':=hb.grown hg hb.size hn
theorem ol_ {a:Option Addr} {B:Nat} (h:∀ ad,a=some ad->B<=ad.block):∀ k,rowB a=some k->B<=k:=by
 intro k hk
 cases a with
 |none=>cases hk
 |some ad=>have:=h ad rfl;simp [rowB] at hk;omega
theorem aw_ {a:Option Addr} {n cap x B:Nat} (h:∀ ad,a=some ad->B<=ad.block) (hx:x<B):some x≠Value.ownBlock (.slice a n cap):=by
 cases a with
 |none=>simp [Value.ownBlock]
 |some ad=>have:=h ad rfl;simp [Value.ownBlock];omega
/-- All gaps, those of nought too. -/
def gl (size:Int):Int->List Ex->List Int
 |next,[]=>[size+1-next]
 |next,e::r=>(e.a-next)::gl size (e.a+e.d.size) r
end Go.Proofs.YtigldeccfpkdmaaGreatDoor
