/- Files that are not there, and copies that are refused, by the model. -/
import Derived.Deep.DeepCutAuto
import Derived.Test.YtahenegmbmnmjaaGreatDoorU25
set_option maxHeartbeats 20000000
set_option maxRecDepth 100000
namespace Go.Proofs.YtahenegmbmnmjaaGreatDoor
section
open Go Go.RowKit
variable{o:Opr}{p:Po}
theorem qc_ (hp:Ai p=true)(hd:AC p)(hv0:o.vol.size<=9223372036854775807)(ht0:o.to.size<=9223372036854775807):WS (Az p o).2.vs:=by
 obtain⟨_,_,ht,_⟩:=aQ_ hp;have hv:=mW_ ht hd.2.2.2.1;have h6:=ht.1;have ha:WS p.vs:=iY_ (by omega) (fun v h=>(hv v h).1)
 have he:∀ (i:Nat) (y:Vo),He y->WS (p.vs.set i y):=fun i y hy=>iY_ (by rw[List.length_set];omega) (fun u hu=>by
  rcases List.mem_or_eq_of_mem_set hu with hu | rfl
  ·exact (hv u hu).1
  ·exact hy)
 have hc:∀ y:Vo,He y->WS (p.vs++[y]):=fun y hy=>iY_ (by simp;omega) (fun u hu=>by
  rcases Zs.1 hu with hu | hu
  ·exact (hv u hu).1
  ·simp at hu;subst hu;exact hy)
 unfold Az;split
 ·split
  ·exact hc _ ⟨hv0,by simp,fun x hx=>by cases hx⟩
  ·exact ha
 ·split
  ·exact ha
  ·rename_i i _ v hvi;have hb:=(hv v (Zc hvi)).1;split
   ·exact ha
   ·split
    ·split
     ·exact ha
     ·exact hc _ ⟨ht0,hb.2.1,hb.2.2⟩
    ·split
     ·refine iY_ (by simp;omega) (fun u hu=>?_);rcases Zs.1 hu with hu | hu
      ·exact (hv u (ZX hu)).1
      ·exact (hv u (List.mem_of_mem_drop hu)).1
     ·split
      ·split
       ·exact ha
       ·exact he _ _ ⟨hb.1,hb.2.1,hb.2.2⟩
      ·split
       ·split
        ·exact ha
        ·split
         ·exact ha
         ·refine he _ _ ⟨hb.1,?_,fun x hx=>?_⟩
          ·have:=hb.2.1
           simp only[ZE,Zz,List.length_drop];omega
          ·rcases Zs.1 hx with hx | hx
           ·exact hb.2.2 x (ZX hx)
           ·exact hb.2.2 x (List.mem_of_mem_drop hx)
       ·exact ha
end
section
open Go Go.RowKit Go.BigFrame Tryz
variable{p:Po}{w:World}
theorem AG.cells {B:Nat}{v:Value}(h:AG B w v p):∃ ea en ec va vn vc ra rn rc la ln lc,v=.agg #[.int .i64 p.size,.int .i64 p.next,.slice ea en ec,.slice va vn vc,.slice ra rn rc,.slice la ln lc]:=by
 obtain⟨ea,en,ec,va,vn,vc,ra,rn,rc,la,ln,lc,rfl,_⟩:=h;exact⟨_,_,_,_,_,_,_,_,_,_,_,_,rfl⟩
theorem Blk.six {b:Nat}{c0 c1 c2 c3 c4 c5:Value}{t:TypeId}(h:Blk w b #[c0,c1,c2,c3,c4,c5] t):w.cell? ⟨b,0,none⟩=some c0∧w.cell? ⟨b,1,none⟩=some c1∧w.cell? ⟨b,2,none⟩=some c2∧w.cell? ⟨b,3,none⟩=some c3∧w.cell? ⟨b,4,none⟩=some c4∧w.cell? ⟨b,5,none⟩=some c5:=
 ⟨h.cell 0,h.cell 1,h.cell 2,h.cell 3,h.cell 4,h.cell 5⟩
end
section
open Go Go.RowKit Go.BigFrame Tryz
variable{α:Type}{c:Array Value}{d:ByteArray}{B b j n:Nat}{a:Option Addr}{p:Po}{v x:Value}{w w' w1 w2:World}{l:List α}
theorem Ae.same {t:TypeId}{cs:α->List Value}{sz:Nat}{cap:Nat}(h:Ae cs sz t w B a n cap l)(he:∀ ad,a=some ad->w'.heap[ad.block]?=w.heap[ad.block]?):Ae cs sz t w' B a n cap l:=by
 have hb:∀ b o,a=some ⟨b,o,none⟩->∀ j,w'.cell? ⟨b,j,none⟩=w.cell? ⟨b,j,none⟩:=fun b o ha j=>by
  have:=he _ ha
  simp only[World.cell?];rw[this]
 refine⟨⟨h.sl.len,fun i x hx=>?_⟩,?_⟩
 ·obtain⟨b,o,ha,hc⟩:=h.sl.cell i x hx;exact⟨b,o,ha,fun j v hv=>by rw[hb b o ha];exact hc j v hv⟩
 ·rcases h.own with h0 | ⟨b,ha,hB,h1,h2,c,hc,q⟩
  ·exact .inl h0
  ·exact .inr ⟨b,ha,hB,h1,h2,c,(he _ ha).trans hc,q⟩
def Cm (p:Po):List Ct:=if Ai p=true then AB p.vs else []
theorem kY_ (B:Nat)(v:Value)(p:Po)(w:World)(h:AG B w v p)(hd:AC p):
  Calls prog 41 #[v] w fun e w'=>(∃ a n cap,e=.returned (.slice a n cap)∧n<=480∧Ae Ct.cs 4 80 w' w.heap.size a n cap (Cm p))∧Below w.heap.size w w':=by
 obtain⟨ea,en,ec,va,vn,vc,ra,rn,rc,la,ln,lc,rfl,ha⟩:=h;have h:AG B w (.agg #[.int .i64 p.size,.int .i64 p.next,.slice ea en ec,.slice va vn vc,.slice ra rn rc,.slice la ln lc]) p:=⟨ea,en,ec,va,vn,vc,ra,rn,rc,la,ln,lc,rfl,ha⟩;have h2:=ha.2.1.1;have z3:=hd.2.2.1;have z4:=hd.2.2.2.1;rw[h2.len] at z3;clear ha
 obtain⟨pb,po,hj⟩:∃ pb po,0<vn->va=some ⟨pb,po,none⟩:=by
  by_cases h0:0<vn
  ·obtain⟨b,o,_,_,_,_,hv,_⟩:=b5_ h2 h0;exact⟨b,o,fun _=>hv⟩
  ·exact⟨0,0,fun h=>absurd h h0⟩
 have C:=(Blk.new w #[.int .i64 p.size,.int .i64 p.next,.slice ea en ec,.slice va vn vc,.slice ra rn rc,.slice la ln lc] 35);have hg:Below w.heap.size w (w.alloc (.cells #[.int .i64 p.size,.int .i64 p.next,.slice ea en ec,.slice va vn vc,.slice ra rn rc,.slice la ln lc] 35)):=by go_grown
 have hT:Hid (Ai p=true->Cm p=AB p.vs):=fun e=>by simp[Cm,e]
 have hF:Hid (Ai p=false->Cm p=[]):=fun e=>by simp[Cm,e]
 have hh:=fun e:Ai p=true=>bL_ e;generalize Cm p=R at *;go_enter func41,ntmps41
 go_wp2_with fail
 generalize w.alloc (.cells #[.int .i64 p.size,.int .i64 p.next,.slice ea en ec,.slice va vn vc,.slice ra rn rc,.slice la ln lc] 35)=W0 at *;refine (ch_ B _ p _ (h.below hg) hd).mono ?_;rintro e w1 ⟨rfl,hb⟩;have C1:=C.below hb;replace hb:=Aa hg hb;clear C hg
 cases he:Ai p
 ·have hR:=hF.out he;subst hR;clear he hT hF hh;go_wp2;go_returns;exact⟨⟨none,0,0,rfl,by omega,aB_⟩,hb⟩
 ·have hR:=hT.out he;subst hR;obtain⟨q1,q2,q3,q4,q5⟩:=hh he;clear he hT hF hh;obtain⟨d0,d1,d2,d3,d4,d5⟩:=C1.six
  go_wp2_with fail
  refine (bC_ B p.size p.next ea en ec va vn vc ra rn rc la ln lc p.vs pb po hj _ (h2.below hb) z3 z4).mono ?_;rintro e w2 ⟨⟨mb,D,rfl,hm,hO,hV⟩,hc⟩;replace hc:=Aa hb hc;clear d0 d1 d2 d3 d4 d5 C1 hb
  go_wp2_with fail
  refine (hQ_ B mb pb po D va vn p.vs hj _ hO hV q5 (h2.below hc) (g2_ q1 q2) (oA_ q3 q2)).mono ?_;rintro e w3 ⟨⟨a3,n3,cap3,rfl,hk,R3⟩,hf⟩;have hl:=hc.size;replace hf:=Aa hc hf;go_wp2;go_returns;exact⟨⟨a3,n3,cap3,rfl,hk,R3.mono hl⟩,hf⟩
theorem dv_ (h:Ai p=true):Aq p.rf p.lt=some (AR p.rf p.lt)∧AO p.rf=true∧A4 p.lt=true:=by
 simp only[Ai,Zf] at h;have h1:=h.1.2;unfold Aq at h1 ⊢;split at h1
 ·rename_i hh;split at hh
  ·split at hh<;>cases h1
  ·cases h1
 ·rename_i s hh;split at hh
  ·rename_i h2;split at hh
   ·rename_i h3;rw[if_pos h2,if_pos h3];exact⟨rfl,h2⟩
   ·cases hh
  ·cases hh
theorem c6_ (h:Ai p=true):AO (AR p.rf p.lt)=true:=by
 have h1:=(dv_ h).1;unfold Aq at h1;split at h1
 ·split at h1
  ·assumption
  ·cases h1
 ·cases h1
theorem pO_ (h:Ai p=true)(hd:AC p):H0 p:=by
 obtain⟨q1,⟨q2,q3⟩,q4,_,_⟩:=aQ_ h;obtain⟨z1,z2,z3,z4,z5,z6,z7,z8⟩:=hd;have hf:=(dv_ h).1;have hr:=c6_ h;refine⟨p8_ h ⟨z1,z2,z3,z4,z5,z6,z7,z8⟩,oI_ h,by omega,by omega,fun v hv z hz=>by have:=((q4.2 v hv).2 z hz).1;omega,z2,z1,z6,z8,z5,z7,?_,?_,kI_ q1⟩
 ·rw[hf];exact (a0_ hr).1
 ·rw[hf];exact fun c hc=>((jt_ hr).1 c hc).1
theorem b4_ (h:zB d=true):d.size=0:=by
 unfold zB at h;have h1:d.toList=(⟨#[]⟩:ByteArray).toList:=by simpa using h
 rw[Zu,Zu] at h1;have h2:d.data.toList.length=0:=by rw[h1];rfl
 have h3:d.data.toList.length=d.size:=by simp
 omega
theorem cj_ (h:nameB d=true):d.size<=8:=by
 simp only[nameB,Zf,ZU] at h;exact h.1.2
theorem l6_ (h:As d=true):d.size<=20:=by
 simp only[As,Zf,ZU] at h;exact h.1.2
theorem pP_ {o:Opr}(h:opB o=true):HZ o.k o.vol o.to o.data∧(o.k=5->0<=o.fr∧o.fr<=1000000000∧0<=o.ln∧o.ln<=1000000000):=by
 unfold opB inB at h
 repeat' split at h
 all_goals simp only[Zf,ZU,Zj] at h
 ·have a:=cj_ h.1;have b:=b4_ h.2.1.1.1.1.1.2;have c:=b4_ h.2.2;exact⟨⟨by omega,by omega,by omega,fun _=>cm_ h.1,fun e=>by omega⟩,fun e=>by omega⟩
 ·have a:=cj_ h.1.1.1.1;have b:=b4_ h.2.1.1.1;have c:=l6_ h.1.2;exact⟨⟨by omega,by omega,by omega,fun _=>cm_ h.1.1.1.1,fun e=>by omega⟩,fun e=>by omega⟩
 ·have a:=cj_ h.1.1.1;have b:=b4_ h.2.1.1.1.1;have c:=b4_ h.2.2;exact⟨⟨by omega,by omega,by omega,fun _=>cm_ h.1.1.1,fun e=>by omega⟩,fun e=>by omega⟩
 ·have a:=cj_ h.1.1;have b:=b4_ h.2.1.1.1.1.1;have c:=b4_ h.2.2;exact⟨⟨by omega,by omega,by omega,fun _=>cm_ h.1.1,fun e=>by omega⟩,fun e=>by omega⟩
 ·have a:=cj_ h.1.1.1.1;have b:=b4_ h.2.1.1.1;have c:=b4_ h.2.2;exact⟨⟨by omega,by omega,by omega,fun _=>cm_ h.1.1.1.1,fun e=>by omega⟩,fun e=>by omega⟩
 ·obtain⟨⟨⟨⟨⟨⟨⟨h1,h2⟩,h3⟩,h4⟩,h5⟩,h6⟩,h7⟩,h8⟩:=h;have a:=cj_ h1;have b:=cj_ h3;have c:=b4_ h8;exact⟨⟨by omega,by omega,by omega,fun _=>cm_ h1,fun _=>cm_ h3⟩,fun _=>by omega⟩
 ·have a:=cj_ h.1.1;have b:=cj_ h.1.2;have c:=b4_ h.2.2;exact⟨⟨by omega,by omega,by omega,fun _=>cm_ h.1.1,fun e=>by omega⟩,fun e=>by omega⟩
 ·have a:=b4_ h.1.1.1.1.1.1.1;have b:=b4_ h.1.1.1.1.1.2;have c:=b4_ h.2;exact⟨⟨by omega,by omega,by omega,fun e=>by omega,fun e=>by omega⟩,fun e=>by omega⟩
theorem BI.own {rows:List VR}(h:BI B w v p rows):∃ ea en ec va vn vc ra rn rc la ln lc,v=.agg #[.int .i64 p.size,.int .i64 p.next,.slice ea en ec,.slice va vn vc,.slice ra rn rc,.slice la ln lc]∧Own B w.heap.size (w.alloc (.cells #[.int .i64 p.size,.int .i64 p.next,.slice ea en ec,.slice va vn vc,.slice ra rn rc,.slice la ln lc] 35)) p ea en ec va vn vc ra rn rc la ln lc rows:=by
 obtain⟨ea,en,ec,va,vn,vc,ra,rn,rc,la,ln,lc,hv,h1,⟨h2,h3⟩,h4,h5,h6,h7,h8⟩:=h;have hA:Below w.heap.size w (w.alloc (.cells #[.int .i64 p.size,.int .i64 p.next,.slice ea en ec,.slice va vn vc,.slice ra rn rc,.slice la ln lc] 35)):=(Yg _ _).alloc (Zd _) _;exact⟨ea,en,ec,va,vn,vc,ra,rn,rc,la,ln,lc,hv,Blk.new _ _ _,h1.below hA,h2.below hA,h3.below hA,h4.below hA,h5.below hA,h6,h7,dc_ h3 h8 hA⟩
theorem PoB.t {pb:Nat}(h:PoB B pb w p):∃ ea en ec va vn vc ra rn rc la ln lc,Blk w pb #[.int .i64 p.size,.int .i64 p.next,.slice ea en ec,.slice va vn vc,.slice ra rn rc,.slice la ln lc] 35∧Am B w (.agg #[.int .i64 p.size,.int .i64 p.next,.slice ea en ec,.slice va vn vc,.slice ra rn rc,.slice la ln lc]) p:=by
 obtain⟨ea,en,ec,va,vn,vc,ra,rn,rc,la,ln,lc,rows,h0,h1,h2,h3,h4,h5,h6,_⟩:=h;exact⟨ea,en,ec,va,vn,vc,ra,rn,rc,la,ln,lc,h0,ea,en,ec,va,vn,vc,ra,rn,rc,la,ln,lc,rows,rfl,h1,⟨h2,h3⟩,h4,h5,h6⟩
end
end Go.Proofs.YtahenegmbmnmjaaGreatDoor
