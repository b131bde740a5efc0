/- Texts of pools, read and written; what is drawn. -/
import Derived.Test.YteejlahappbalaaGreatDoorU20
set_option maxHeartbeats 20000000
set_option maxRecDepth 100000
namespace Go.Proofs.YteejlahappbalaaGreatDoor
open Go Go.RowKit Go.BigFrame Tryz
theorem AK.agg6 {B:Nat}{w:World}{v:Value}{p:Po}(h:AK B w v p):∃ x0 x1 x2 x3 x4 x5,v=.agg #[x0,x1,x2,x3,x4,x5]:=by
 obtain⟨ea,en,ec,va,vn,vc,ra,rn,rc,la,ln,lc,vr,e,_⟩:=h.out;exact⟨_,_,_,_,_,_,e⟩
theorem Eq {P:Program}{fn:Func}{p q:Tmp}{ty:TypeId}(h:fn.results=#[.cell p ty,.tmp q])(tmps:Array Value)(w:World)(g:Nat)(t:TypeId)(cs:Array Value)(fr:Nat×Nat)(d:TypeDesc)(v:Value)
  (hp:tmps.getD p undef=.pointer (some ⟨g,0,none⟩)) (hq:tmps.getD q undef=v) (hg:w.heap[g]?=some (.cells cs t fr))
  (hu:P.underlying ty=some d) (hd:(match d with | .struct _ | .array _ _=>true | _=>false)=true) (hi:(P.info? ty).map (·.size)=some cs.size) :
  (results fn tmps).run P w=.ok (.tuple #[.agg cs,v]) w:=by
 exact me
theorem JQ:∀ (n k k':Nat) (l:By),l.length<=n->l.length<=k->l.length<=k'->lnsB k l=lnsB k' l
 |0,k,k',l,h,_,_=>by
  obtain rfl:=Zt (Nat.le_zero.1 h)
  cases k<;>cases k'<;>rfl
 |n+1,k,k',l,h,h1,h2=>by
  by_cases hl:l=[]
  ·subst hl
   cases k<;>cases k'<;>rfl
  ·have hp:0<l.length:=List.length_pos_iff.2 hl
   obtain⟨k,rfl⟩:∃ j,k=j+1:=⟨k-1,sH⟩
   obtain⟨k',rfl⟩:∃ j,k'=j+1:=⟨k'-1,sH⟩
   rw[lnsB,lnsB,if_neg hl,if_neg hl]
   cases hc:cutB 10 l with
   |none=>rfl
   |some q=>
    have:q.2.length<l.length:=by
     exact mE
    simp only;rw[JQ n k k' q.2 sH sH sH]
theorem OG {l:By}(h:l≠[])(hc:cutB 10 l=none):lnsB l.length l=none:=by
 have hp:0<l.length:=List.length_pos_iff.2 h;obtain⟨k,hk⟩:∃ j,l.length=j+1:=⟨l.length-1,sH⟩;rw[hk,lnsB,if_neg h,hc]
theorem OF {l:By}{q:By×By}(h:l≠[])(hc:cutB 10 l=some q):lnsB l.length l=(lnsB q.2.length q.2).map (q.1::·)∧q.2.length<l.length∧q.1.length<l.length:=by
 obtain⟨h1,_⟩:=Bq (a:=q.1) (b:=q.2) hc;have h2:=congrArg List.length h1;simp at h2;obtain⟨k,hk⟩:∃ j,l.length=j+1:=⟨l.length-1,sH⟩;refine ⟨?_,sH,sH⟩;rw[hk,lnsB,if_neg h,hc];simp only;rw[JQ _ k q.2.length q.2 (Zd _) sH (Zd _)]
theorem OO:Ha []=none:=by rw[Ky];rfl
theorem M7:B9 Ao=⟨#[]⟩:=by
 unfold B9;rw[if_neg];intro h;have:=EU h;simp only[Ai,Zf,ZU] at h;have h1:=h.1.1.1.1.1.2;simp[Ao] at h1
theorem lE{p:Prop}(h:p:=by
 obtain⟨E8,M8,qB⟩:=AS (p:=Ao) RB hB (Zd _) (Dx w.heap.size w1);change bodyPost _ _ _ _ _ (Bm w1 w.heap.size (.int .i64 0) (.int .i64 0) (.slice none 0 0) (.slice none 0 0) (.slice none 0 0) (.slice none 0 0));generalize Bm w1 w.heap.size (.int .i64 0) (.int .i64 0) (.slice none 0 0) (.slice none 0 0) (.slice none 0 0) (.slice none 0 0)=W8 at *;refine YW (Eq rfl _ W8 w.heap.size _ _ _ _ _ rfl rfl E8 underlying33 rfl sI) rfl ?_
 exact⟨⟨_,rfl,M8⟩,qB⟩):p:=h
theorem lX{p:Prop}(h:p:=by
 refine YW (Eq rfl _ W8 w.heap.size _ _ _ _ _ rfl rfl E8 underlying33 rfl sI) rfl ?_
 exact⟨⟨_,rfl,M8⟩,qB⟩):p:=h
theorem dA{p:Prop}(h:p:=by have:=hsz.out;omega):p:=h
theorem Jq (s:ByteArray)(w:World)(hs:s.size<=2000000)(hw:0<w.heap.size) :
  Calls prog 88 #[.string s] w fun e w'=>(∃ v,e=.returned (.tuple #[v,.bool (Dh s.data.toList).isSome])∧AK w.heap.size w' v ((Dh s.data.toList).getD Ao))∧Below w.heap.size w w':=by
 obtain⟨A,hA⟩:∃ A,Hid (Dh s.data.toList=A):=⟨_,rfl⟩;rw[hA.out];have hsz:Hid (s.size=s.data.toList.length):=Lib.size_eq s;go_enter func88,ntmps88;go_wp2_with fail;go_loopw [5] (fun sv wr=>∃ (rest:ByteArray) (p:Po) (k:Nat) (x0 x1 x2 x3 x4 x5:Value),sv=.string rest∧Blk wr w.heap.size #[.int .i64 0,.int .i64 0,.slice none 0 0,.slice none 0 0,.slice none 0 0,.slice none 0 0] 33∧Blk wr (w.heap.size+1) #[x0,x1,x2,x3,x4,x5] 33∧AK (w.heap.size+2) wr (.agg #[x0,x1,x2,x3,x4,x5]) p∧Ka k p∧Oe 60000 p∧k<=60000∧(s.size<=60000->k+rest.size<=s.size)∧(60000<s.size->rest=s∧p=Ao)∧Hid (s.size<=60000->IP s.data.toList=(lnsB rest.data.toList.length rest.data.toList).map (·.foldl AZ p))∧Below w.heap.size w wr) (fun sv _=>match sv with | .string r=>r.size | _=>0)
 case atStart=>
  refine ⟨s,Ao,0,_,_,_,_,_,_,rfl,?_,?_,Dx _ _,JD.1,JD.2,sH,fun _=>by omega,fun _=>⟨rfl,rfl⟩,fun _=>rfl,sM⟩
  ·exact (Blk.new w _ _).below ((Yg _ _).alloc (Zd _) _)
  ·exact Blk.new' _ _ _ _ sK
 case round=>
  obtain⟨rest,p,k,x0,x1,x2,x3,x4,x5,rfl,RB,PB,M,hd,hS,hk,hU,hO,hI,hB⟩:=hrel;rcases Nat.lt_or_ge 60000 s.size with hb | hb
  ·obtain⟨rfl,rfl⟩:=hO hb;have hh:A=none:=by rw[<-hA.out,Dh,if_neg dA]
   subst hh;have hH:rest.toList.isEmpty=false:=Bool.eq_false_iff.2 fun e=>by
    rw[Zu] at e;have hsz:=hsz.out;rw[List.isEmpty_iff.1 e] at hsz;simp only[YK] at hsz;omega
   have hQ:¬ rest.toList=[]:=fun e=>by rw[e] at hH;cases hH
   generalize hp:Ao=p at *;obtain⟨v0,v1,v2,v3,v4,v5⟩:=PB.sixM;have q:=De (w.heap.size+2) sH _ p wr M.at (hd.dimP hk hS) EW;obtain⟨T,hT⟩:∃ T,Hid (B9 p=T):=⟨_,rfl⟩;rw[hT.out] at q;go_wp2_with fail;refine q.mono ?_;rintro e w1 ⟨rfl,ha⟩;clear q v0 v1 v2 v3 v4 v5;replace RB:=RB.below ha;replace PB:=PB.below ha;replace M:=M.below ha;replace hB:=Aa hB ha;clear ha;obtain⟨r0,r1,r2,r3,r4,r5⟩:=RB.sixM;have g0:=RB.frozen 0;have g1:=RB.frozen 1;have g2:=RB.frozen 2;have g3:=RB.frozen 3;have g4:=RB.frozen 4;have g5:=RB.frozen 5;obtain⟨v0,v1,v2,v3,v4,v5⟩:=PB.sixM;have hD:(T.toList==rest.toList)=false:=by
    rw[ZV,Zu,Zu,<-hT.out,<-hp,M7];intro e;have hsz:=hsz.out;rw[<-e] at hsz;simp only[YK] at hsz;omega
   go_wp2;subst hp;exact lE
  ·have hf:=hI.out hb;by_cases hr:rest.data.toList=[]
   ·have hq:rest.toList=[]:=by rw[Zu,hr]
    have hR:rest.toList.isEmpty=true:=by rw[Zu,hr];rfl
    rw[hr] at hf;have hz:IP s.data.toList=some p:=by rw[hf];rfl
    clear hf hI;by_cases hse:s.data.toList=[]
    ·have hx:s.toList=[]:=by rw[Zu,hse]
     have hu:s.toList.isEmpty=true:=by rw[Zu,hse];rfl
     have hh:A=none:=by rw[<-hA.out,Dh,if_pos dA,hse,OO]
     subst hh;obtain⟨r0,r1,r2,r3,r4,r5⟩:=RB.sixM;have g0:=RB.frozen 0;have g1:=RB.frozen 1;have g2:=RB.frozen 2;have g3:=RB.frozen 3;have g4:=RB.frozen 4;have g5:=RB.frozen 5;go_wp2;obtain⟨E8,M8,qB⟩:=AS (p:=Ao) RB hB (Zd _) (Dx w.heap.size wr);change bodyPost _ _ _ _ _ (Bm wr w.heap.size (.int .i64 0) (.int .i64 0) (.slice none 0 0) (.slice none 0 0) (.slice none 0 0) (.slice none 0 0));generalize Bm wr w.heap.size (.int .i64 0) (.int .i64 0) (.slice none 0 0) (.slice none 0 0) (.slice none 0 0) (.slice none 0 0)=W8 at *;exact lX
    ·have hx:¬ s.toList=[]:=by rw[Zu];exact hse
     have hu:s.toList.isEmpty=false:=Bool.eq_false_iff.2 fun e=>hse (by rw[Zu] at e;exact List.isEmpty_iff.1 e);have hg:Hid (A=if B9 p=s then some p else none):=by
      show _=_;rw[<-hA.out,Dh,if_pos dA,NK s hse,hz];rfl
     clear hz;obtain⟨v0,v1,v2,v3,v4,v5⟩:=PB.sixM;have q:=De (w.heap.size+2) sH _ p wr M.at (hd.dimP hk hS) EW;obtain⟨T,hT⟩:∃ T,Hid (B9 p=T):=⟨_,rfl⟩;rw[hT.out] at q;go_wp2_with fail;refine q.mono ?_;rintro e w1 ⟨rfl,ha⟩;clear q v0 v1 v2 v3 v4 v5;replace RB:=RB.below ha;replace PB:=PB.below ha;replace M:=M.below ha;replace hB:=Aa hB ha;clear ha;obtain⟨r0,r1,r2,r3,r4,r5⟩:=RB.sixM;have g0:=RB.frozen 0;have g1:=RB.frozen 1;have g2:=RB.frozen 2;have g3:=RB.frozen 3;have g4:=RB.frozen 4;have g5:=RB.frozen 5;obtain⟨v0,v1,v2,v3,v4,v5⟩:=PB.sixM;rw[hT.out] at hg;by_cases hTs:T=s
     ·have hD:(T.toList==s.toList)=true:=by rw[hTs];simp
      rw[if_pos hTs] at hg;have:=hg.out;subst this;obtain⟨ea,en,ec,va,vn,vc,ra,rn,rc,la,ln,lc,vr,ev,_⟩:=M.out
      cases ev;go_wp2;obtain⟨E8,M8,qB⟩:=AS RB hB (Zd _) (M.mono sH);change bodyPost _ _ _ _ _ (Bm w1 w.heap.size (.int .i64 p.size) (.int .i64 p.next) (.slice ea en ec) (.slice va vn vc) (.slice ra rn rc) (.slice la ln lc));generalize Bm w1 w.heap.size (.int .i64 p.size) (.int .i64 p.next) (.slice ea en ec) (.slice va vn vc) (.slice ra rn rc) (.slice la ln lc)=W8 at *;exact lX
     ·have hD:(T.toList==s.toList)=false:=by
       rw[ZV,Zu,Zu];exact fun e=>hTs (ByteArray.ext (Array.ext' e))
      rw[if_neg hTs] at hg;have:=hg.out;subst this;go_wp2;exact lE
   ·have hq:¬ rest.toList=[]:=by rw[Zu];exact hr
    have hR:rest.toList.isEmpty=false:=Bool.eq_false_iff.2 fun e=>hr (by rw[Zu] at e;exact List.isEmpty_iff.1 e);have ht:Hid (rest.size=rest.data.toList.length):=Lib.size_eq rest;have hP:=hU hb;go_wp2_with fail;refine (Eg 10 rest wr sH).mono ?_;rintro e w1 ⟨rfl,ha⟩;replace RB:=RB.below ha;replace PB:=PB.below ha;replace M:=M.below ha;replace hB:=Aa hB ha;clear ha
    cases hc:cutB 10 rest.data.toList with
    |none=>
     have hv:HV 10 rest=.tuple #[.string rest,.string ⟨#[]⟩,.bool false]:=dC;have hh:A=none:=by
      rw[<-hA.out,Dh,if_pos dA,NK s (by intro e;have hsz:=hsz.out;rw[e] at hsz;simp only[YK] at hsz;rw[ht.out] at hP;have:=List.length_pos_iff.2 hr;omega),hf,OG hr hc];rfl
     subst hh;rw[hv];clear hv hc hI hf;obtain⟨r0,r1,r2,r3,r4,r5⟩:=RB.sixM;have g0:=RB.frozen 0;have g1:=RB.frozen 1;have g2:=RB.frozen 2;have g3:=RB.frozen 3;have g4:=RB.frozen 4;have g5:=RB.frozen 5;go_wp2;exact lE
    |some q=>
     have hv:HV 10 rest=.tuple #[.string (bA q.1),.string (bA q.2),.bool true]:=dC;obtain⟨hJ,hW,hX⟩:=OF hr hc;rw[hJ] at hf;obtain⟨line,hm⟩:∃ x,Hid (bA q.1=x):=⟨_,rfl⟩;obtain⟨more,ho⟩:∃ x,Hid (bA q.2=x):=⟨_,rfl⟩;have hl:line.data.toList=q.1:=by rw[<-hm.out,Ak]
     have hn:more.data.toList=q.2:=by rw[<-ho.out,Ak]
     have hG:line.size<=60000:=by rw[Lib.size_eq,hl];have:=ht.out;omega
     have hV:more.size+1<=rest.size:=by rw[Lib.size_eq,hn,ht.out];omega
     have hy:Hid (s.size<=60000->IP s.data.toList=(lnsB more.data.toList.length more.data.toList).map (·.foldl AZ (AZ p line.data.toList))):=fun _=>by
      rw[hf,hn,hl]
      cases lnsB q.2.length q.2<;>rfl
     have hE:=hd.line line.data.toList;have hC:=hS.line line.data.toList (by rw[<-Lib.size_eq];exact hG);rw[hm.out,ho.out] at hv;rw[hv];clear hv hc hI hf hJ hm ho hl hn;obtain⟨v0,v1,v2,v3,v4,v5⟩:=PB.sixM;have hY:=hB.size;have hZ:=PB.lt;go_wp2_with fail;refine (Mb (w.heap.size+2) k _ p line w1 M sH sH hd hG).mono ?_;rintro e w2 ⟨⟨v',rfl,M2⟩,hj⟩;obtain⟨y0,y1,y2,y3,y4,y5,rfl⟩:=M2.agg6;clear v0 v1 v2 v3 v4 v5;have hK:Blk w2 w.heap.size #[.int .i64 0,.int .i64 0,.slice none 0 0,.slice none 0 0,.slice none 0 0,.slice none 0 0] 33:=(hj.block _ sH).trans RB;have he:Blk w2 (w.heap.size+1) #[x0,x1,x2,x3,x4,x5] 33:=(hj.block _ sH).trans PB;obtain⟨ea,en,ec,va,vn,vc,ra,rn,rc,la,ln,lc,vr,ev,_⟩:=M2.out;obtain⟨P0,hN⟩:∃ P0,Hid (AZ p line.data.toList=P0):=⟨_,rfl⟩;rw[hN.out] at M2 hE hC hy ev
     cases ev;have hL:Below w.heap.size w w2:=hB.trans (hj.mono sH);clear RB PB hB M hj;obtain⟨v0,v1,v2,v3,v4,v5⟩:=he.sixM;have g0:=he.frozen 0;have g1:=he.frozen 1;have g2:=he.frozen 2;have g3:=he.frozen 3;have g4:=he.frozen 4;have g5:=he.frozen 5;go_wp2;have hF:w2.grownBy (Bm w2 (w.heap.size+1) (.int .i64 P0.size) (.int .i64 P0.next) (.slice ea en ec) (.slice va vn vc) (.slice ra rn rc) (.slice la ln lc)) (some (w.heap.size+1)):=af_ (af_ (af_ (af_ (af_ (af_ (Yh _ _) _ _) _ _) _ _) _ _) _ _) _ _;obtain⟨P9,_,hM⟩:=AS (p:=P0) he hL sH (M2.mono sH);have M9:=M2.box hF he;have R9:=hK.grown hF sK;go_roundw
     case rel=>exact⟨more,P0,k+1,_,_,_,_,_,_,rfl,R9,P9,M9,hE,hC,sH,fun _=>by omega,fun h=>absurd h sH,hy,hM⟩
     case measure=>simp;omega
end Go.Proofs.YteejlahappbalaaGreatDoor
