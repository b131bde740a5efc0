/- The laws' marks in a pool: cells of the same kinds, the slices as they were, nothing else turned. -/
import Derived.Test.YtdmeabghpchckaaGreatDoorU28
import Derived.Test.YtdmeabghpchckaaGreatDoorU29
set_option maxHeartbeats 20000000
set_option maxRecDepth 100000
namespace Go.Proofs.YtdmeabghpchckaaGreatDoor
open Go Go.RowKit Go.BigFrame Tryz
variable{α:Type}{c:Array Value}{d:ByteArray}{B b j n:Nat}{a:Option Addr}{p:Po}{v x:Value}{w w' w1 w2:World}{l:List α}
def Cg (p:Po):List Ct:=if Ai p=true then AA p.vs else []
theorem kY_ (B:Nat)(v:Value)(p:Po)(w:World)(h:AF B w v p)(hd:AB p):
  Calls prog 11 #[v] w fun e w'=>(∃ a n cap,e=.returned (.slice a n cap)∧n<=480∧Ad Ct.cs 4 46 w' w.heap.size a n cap (Cg p))∧Below w.heap.size w w':=by
 obtain⟨ea,en,ec,va,vn,vc,ra,rn,rc,la,ln,lc,rfl,ha⟩:=h;have h:AF B w (.agg #[.int .i64 p.size,.int .i64 p.next,.slice ea en ec,.slice va vn vc,.slice ra rn rc,.slice la ln lc]) p:=⟨ea,en,ec,va,vn,vc,ra,rn,rc,la,ln,lc,rfl,ha⟩;have h2:=ha.2.1.1;have z3:=hd.2.2.1;have z4:=hd.2.2.2.1;rw[h2.len] at z3;clear ha
 obtain⟨pb,po,hj⟩:∃ pb po,0<vn->va=some ⟨pb,po,none⟩:=by
  by_cases h0:0<vn
  ·obtain⟨b,o,_,_,_,_,hv,_⟩:=b5_ h2 h0;exact⟨b,o,fun _=>hv⟩
  ·exact⟨0,0,fun h=>absurd h h0⟩
 have C:=(Blk.new w #[.int .i64 p.size,.int .i64 p.next,.slice ea en ec,.slice va vn vc,.slice ra rn rc,.slice la ln lc] 28);have hg:Below w.heap.size w (w.alloc (.cells #[.int .i64 p.size,.int .i64 p.next,.slice ea en ec,.slice va vn vc,.slice ra rn rc,.slice la ln lc] 28)):=by go_grown
 have hT:Hid (Ai p=true->Cg p=AA p.vs):=fun e=>by simp[Cg,e]
 have hF:Hid (Ai p=false->Cg p=[]):=fun e=>by simp[Cg,e]
 have hh:=fun e:Ai p=true=>bL_ e;generalize Cg p=R at *;go_enter func11,ntmps11
 go_wp2_with fail
 generalize w.alloc (.cells #[.int .i64 p.size,.int .i64 p.next,.slice ea en ec,.slice va vn vc,.slice ra rn rc,.slice la ln lc] 28)=W0 at *;refine (ch_ B _ p _ (h.below hg) hd).mono ?_;rintro e w1 ⟨rfl,hb⟩;have C1:=C.below hb;replace hb:=Aa hg hb;clear C hg
 cases he:Ai p
 ·have hR:=hF.out he;subst hR;clear he hT hF hh;go_wp2;go_returns;exact⟨⟨none,0,0,rfl,by omega,aB_⟩,hb⟩
 ·have hR:=hT.out he;subst hR;obtain⟨q1,q2,q3,q4,q5⟩:=hh he;clear he hT hF hh;obtain⟨d0,d1,d2,d3,d4,d5⟩:=C1.six
  go_wp2_with fail
  refine (bC_ B p.size p.next ea en ec va vn vc ra rn rc la ln lc p.vs pb po hj _ (h2.below hb) z3 z4).mono ?_;rintro e w2 ⟨⟨mb,D,rfl,hm,hO,hV⟩,hc⟩;replace hc:=Aa hb hc;clear d0 d1 d2 d3 d4 d5 C1 hb
  go_wp2_with fail
  refine (hQ_ B mb pb po D va vn p.vs hj _ hO hV q5 (h2.below hc) (g2_ q1 q2) (oA_ q3 q2)).mono ?_;rintro e w3 ⟨⟨a3,n3,cap3,rfl,hk,R3⟩,hf⟩;have hl:=hc.size;replace hf:=Aa hc hf;go_wp2;go_returns;exact⟨⟨a3,n3,cap3,rfl,hk,R3.mono hl⟩,hf⟩
theorem pO_ (h:Ai p=true)(hd:AB p):HV p:=by
 obtain⟨q1,⟨q2,q3⟩,q4,_,_⟩:=aQ_ h;obtain⟨z1,z2,z3,z4,z5,z6,z7,z8⟩:=hd;have hf:=(dv_ h).1;have hr:=c6_ h;refine⟨p8_ h ⟨z1,z2,z3,z4,z5,z6,z7,z8⟩,oI_ h,by omega,by omega,fun v hv z hz=>by have:=((q4.2 v hv).2 z hz).1;omega,z2,z1,z6,z8,z5,z7,?_,?_,kI_ q1⟩
 ·rw[hf];exact (a0_ hr).1
 ·rw[hf];exact fun c hc=>((jt_ hr).1 c hc).1
theorem b4_ (h:zB d=true):d.size=0:=by
 unfold zB at h;have h1:d.toList=(⟨#[]⟩:ByteArray).toList:=by simpa using h
 rw[Zu,Zu] at h1;have h2:d.data.toList.length=0:=by rw[h1];rfl
 have h3:d.data.toList.length=d.size:=by simp
 omega
theorem cj_ (h:nameB d=true):d.size<=8:=by
 simp only[nameB,Zf,ZU] at h;exact h.1.2
theorem l6_ (h:As d=true):d.size<=20:=by
 simp only[As,Zf,ZU] at h;exact h.1.2
theorem pP_ {o:Opr}(h:opB o=true):HU o.k o.vol o.to o.data∧(o.k=5->0<=o.fr∧o.fr<=1000000000∧0<=o.ln∧o.ln<=1000000000):=by
 unfold opB inB at h
 repeat' split at h
 all_goals simp only[Zf,ZU,Zj] at h
 ·have a:=cj_ h.1;have b:=b4_ h.2.1.1.1.1.1.2;have c:=b4_ h.2.2;exact⟨⟨by omega,by omega,by omega,fun _=>cm_ h.1,fun e=>by omega⟩,fun e=>by omega⟩
 ·have a:=cj_ h.1.1.1.1;have b:=b4_ h.2.1.1.1;have c:=l6_ h.1.2;exact⟨⟨by omega,by omega,by omega,fun _=>cm_ h.1.1.1.1,fun e=>by omega⟩,fun e=>by omega⟩
 ·have a:=cj_ h.1.1.1;have b:=b4_ h.2.1.1.1.1;have c:=b4_ h.2.2;exact⟨⟨by omega,by omega,by omega,fun _=>cm_ h.1.1.1,fun e=>by omega⟩,fun e=>by omega⟩
 ·have a:=cj_ h.1.1;have b:=b4_ h.2.1.1.1.1.1;have c:=b4_ h.2.2;exact⟨⟨by omega,by omega,by omega,fun _=>cm_ h.1.1,fun e=>by omega⟩,fun e=>by omega⟩
 ·have a:=cj_ h.1.1.1.1;have b:=b4_ h.2.1.1.1;have c:=b4_ h.2.2;exact⟨⟨by omega,by omega,by omega,fun _=>cm_ h.1.1.1.1,fun e=>by omega⟩,fun e=>by omega⟩
 ·obtain⟨⟨⟨⟨⟨⟨⟨h1,h2⟩,h3⟩,h4⟩,h5⟩,h6⟩,h7⟩,h8⟩:=h;have a:=cj_ h1;have b:=cj_ h3;have c:=b4_ h8;exact⟨⟨by omega,by omega,by omega,fun _=>cm_ h1,fun _=>cm_ h3⟩,fun _=>by omega⟩
 ·have a:=cj_ h.1.1;have b:=cj_ h.1.2;have c:=b4_ h.2.2;exact⟨⟨by omega,by omega,by omega,fun _=>cm_ h.1.1,fun e=>by omega⟩,fun e=>by omega⟩
 ·have a:=b4_ h.1.1.1.1.1.1.1;have b:=b4_ h.1.1.1.1.1.2;have c:=b4_ h.2;exact⟨⟨by omega,by omega,by omega,fun e=>by omega,fun e=>by omega⟩,fun e=>by omega⟩
theorem PoB.t {pb:Nat}(h:PoB B pb w p):∃ ea en ec va vn vc ra rn rc la ln lc,Blk w pb #[.int .i64 p.size,.int .i64 p.next,.slice ea en ec,.slice va vn vc,.slice ra rn rc,.slice la ln lc] 28∧Al B w (.agg #[.int .i64 p.size,.int .i64 p.next,.slice ea en ec,.slice va vn vc,.slice ra rn rc,.slice la ln lc]) p:=by
 obtain⟨ea,en,ec,va,vn,vc,ra,rn,rc,la,ln,lc,rows,h0,h1,h2,h3,h4,h5,h6,_⟩:=h;exact⟨ea,en,ec,va,vn,vc,ra,rn,rc,la,ln,lc,h0,ea,en,ec,va,vn,vc,ra,rn,rc,la,ln,lc,rows,rfl,h1,⟨h2,h3⟩,h4,h5,h6⟩
theorem Ad.same {t:TypeId}{cs:α->List Value}{sz:Nat}{cap:Nat}(h:Ad cs sz t w B a n cap l)(he:∀ ad,a=some ad->w'.heap[ad.block]?=w.heap[ad.block]?):Ad cs sz t w' B a n cap l:=by
 have hb:∀ b o,a=some ⟨b,o,none⟩->∀ j,w'.cell? ⟨b,j,none⟩=w.cell? ⟨b,j,none⟩:=fun b o ha j=>by
  have:=he _ ha
  simp only[World.cell?];rw[this]
 refine⟨⟨h.sl.len,fun i x hx=>?_⟩,?_⟩
 ·obtain⟨b,o,ha,hc⟩:=h.sl.cell i x hx;exact⟨b,o,ha,fun j v hv=>by rw[hb b o ha];exact hc j v hv⟩
 ·rcases h.own with h0 | ⟨b,ha,hB,h1,h2,c,hc,q⟩
  ·exact .inl h0
  ·exact .inr ⟨b,ha,hB,h1,h2,c,(he _ ha).trans hc,q⟩
end Go.Proofs.YtdmeabghpchckaaGreatDoor
