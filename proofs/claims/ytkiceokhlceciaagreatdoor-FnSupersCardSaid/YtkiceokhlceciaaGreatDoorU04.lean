/- Counts added up: a list in order with no nought is told by its sums. -/
import Derived.Test.YtkiceokhlceciaaGreatDoorU03
set_option maxHeartbeats 20000000
set_option maxRecDepth 100000
namespace Go.Proofs.YtkiceokhlceciaaGreatDoor
section
open Go Go.RowKit
variable{c:Ct}
def AQ (c:Ct)(s:List Ct×Bool)(x:Ct):List Ct×Bool:=
 if s.2=true then (s.1++[x],true) else if Bk x.o c.o=true then (s.1++[x],false) else
 if BV x.o c.o=true then (if x.n+c.n≠0 then (s.1++[⟨c.o,x.n+c.n⟩],true) else (s.1,true)) else (s.1++[c]++[x],true)
def C9 (c:Ct)(s:List Ct×Bool):List Ct:=if s.2=true then s.1 else s.1++[c]
theorem fI_ (c:Ct):∀ (l out:List Ct),l.foldl (AQ c) (out,true)=(out++l,true)
 |[],out=>by simp
 |x::r,out=>by
  rw[YE,show AQ c (out,true) x=(out++[x],true) by simp[AQ],fI_ c r];simp
theorem jZ_ (c:Ct):∀ (l out:List Ct),C9 c (l.foldl (AQ c) (out,false))=out++BD l c
 |[],out=>by simp[C9,BD]
 |x::r,out=>by
  rw[YE];unfold BD;by_cases h1:Bk x.o c.o=true
  ·rw[show AQ c (out,false) x=(out++[x],false) by simp[AQ,h1],jZ_ c r,if_pos h1];simp
  ·by_cases h2:BV x.o c.o=true
   ·by_cases h3:x.n+c.n≠0
    ·rw[show AQ c (out,false) x=(out++[⟨c.o,x.n+c.n⟩],true) by simp[AQ,h1,h2,h3],fI_,if_neg h1,if_pos h2,if_pos h3];simp[C9]
    ·rw[show AQ c (out,false) x=(out,true) by simp[AQ,h1,h2,h3],fI_,if_neg h1,if_pos h2,if_neg h3];simp[C9]
   ·rw[show AQ c (out,false) x=(out++[c]++[x],true) by simp[AQ,h1,h2],fI_,if_neg h1,if_neg h2];simp[C9]
end
section
open Go Go.RowKit Go.BigFrame Tryz
theorem aF_ (p q:Ow)(w:World):
  Calls prog 143 #[.agg #[.int .i64 p.a,.int .i64 p.v,.string p.f],.agg #[.int .i64 q.a,.int .i64 q.v,.string q.f]] w fun e w'=>e=.returned (.bool (Bk p q))∧Below w.heap.size w w':=by
 obtain⟨a,v,f⟩:=p;obtain⟨b,u,g⟩:=q;go_enter func143,ntmps143;go_wp2
 all_goals go_returns
 all_goals go_light
 all_goals refine⟨?_,by go_grown⟩
 all_goals simp_all [Bk]
end
section
open Go Go.RowKit Go.BigFrame Tryz
variable{l r:List Pt}{b:Nat}{p q:Pt}{w:World}
theorem i7_ (a:Option Addr)(n cap:Nat)(l:List Pt)(w:World)(h:BI w a n l)(hn:n<=4194304):
  Calls prog 93 #[.slice a n cap] w fun e w'=>e=.returned (.bool (Ae l))∧Below w.heap.size w w':=by
 have hc:=h.len;by_cases h16:n<=16
 ·have hf:Hid (Ae l=sgo none 0 l):=by show _=_;rw[pe_ l none 0 (by omega) (by omega)];simp[Ae,hc,h16]
  have hg:Hid (l.length=n):=hc;clear hc;go_enter func93,ntmps93
  go_wp2_with fail
  go_loopw [2,3,4] (fun r s ix wr=>∃ (k:Nat) (lf:Int),k<=n∧ix=.int .i64 k∧s=.int .i64 lf∧0<=lf∧lf<=100*k∧Hid (sgo none 0 l=sgo (ahead l k) lf (l.drop k))∧Below w.heap.size w wr) (fun _ _ ix _=>n-(intOf ix).toNat)
  case atStart=>exact⟨0,0,Zg _,rfl,rfl,by omega,by omega,rfl,Yg _ _⟩
  case round=>
   obtain⟨k,lf,hk,rfl,rfl,ho,hr,hI,hB⟩:=hrel;by_cases hlt:k<n
   ·obtain⟨b,o,p,rfl,hp,c0,c1,c2⟩:=bi_ (h.below hB) hlt;have hd:Hid (l.drop k=p::l.drop (k+1)):=al_ hp;have hq:Hid (l[k]?=some p):=hp;clear hp;have hs:(k:Int)<n:=by omega
    have ht:(0:Int)<=k:=by omega
    cases hb:(Ao p&&decide (p.n<=100))
    ·go_wp2_with fail
     have g0:=Ac c0;have g1:=Ac c1;have g2:=Ac c2;have hl:=aA_ wr;refine ab_ (by kernel_rfl) (by kernel_rfl) ?_
     repeat (go_big_quiet_step (first | (go_at_call 140;have qq:=cR_ p;rw[hb] at qq;exact an_ (qq _))))
     refine wpQuiet_nil ?_;intro w2 hx;have he:=ah_ hx;clear hx;go_wp2;go_returns;go_light;refine⟨ac_ ?_,Aa hB he⟩;rw[hf.out,hI.out,hd.out];cases ahead l k<;>simp only[sgo,hb,Zr]
    ·have hu:1<=p.n∧p.n<=100:=by simp at hb;exact⟨av_ hb.1,hb.2⟩
     rcases k with _ | j
     ·simp only[Nat.zero_mul,Nat.add_zero] at c0 c1 c2
      go_wp2_with fail
      have g0:=Ac c0;have g1:=Ac c1;have g2:=Ac c2;have hl:=aA_ wr;refine ab_ (by kernel_rfl) (by kernel_rfl) ?_
      repeat (go_big_quiet_step (first | (go_at_call 140;have qq:=cR_ p;rw[hb] at qq;exact an_ (qq _))))
      refine wpQuiet_nil ?_;intro w2 hx;have he:=ah_ hx;have d2:=Ab he c2;clear hx;go_wp2;go_roundw
      case rel=>exact⟨1,lf+p.n,by omega,by go_num,by go_num,by omega,by omega,by show _=_;rw[hI.out,hd.out,hh_,b6_,hq.out];simp only[sgo,hb,Zp],Aa hB he⟩
      case measure=>simp[intOf];omega
     ·obtain⟨b',o',q,hj,hm,d0,d1,d2⟩:=bi_ (h.below hB) (k:=j) (by omega);obtain⟨rfl,rfl⟩:b=b'∧o=o':=by simpa using hj
      have ha:Hid (ahead l (j+1)=some q):=by show _=_;rw[b6_];exact hm
      clear hm hj
      cases hh:Be q p
      all_goals
       go_wp2_with fail
       have g0:=Ac c0;have g1:=Ac c1;have g2:=Ac c2;have g3:=Ac d0;have g4:=Ac d1;have g5:=Ac d2;have hl:=aA_ wr;refine ab_ (by kernel_rfl) (by kernel_rfl) ?_
       repeat (go_big_quiet_step (first | (go_at_call 140;have qq:=cR_ p;rw[hb] at qq;exact an_ (qq _)) | (go_at_call 141;have qq:=gC_ q p;rw[hh] at qq;exact an_ (qq _))))
       refine wpQuiet_nil ?_;intro w2 hx;have he:=ah_ hx;have e2:=Ab he c2;clear hx;go_wp2
      ·go_roundw
       case rel=>exact⟨j+2,lf+p.n,by omega,by go_num,by go_num,by omega,by omega,by show _=_;rw[hI.out,hd.out,ha.out,b6_,hq.out];simp only[sgo,hb,hh,Zp,Bool.not_false],Aa hB he⟩
       case measure=>simp[intOf];omega
      ·go_returns;go_light;refine⟨ac_ ?_,Aa hB he⟩;rw[hf.out,hI.out,hd.out,ha.out];simp only[sgo,hb,hh,Zp,Bool.not_true,Zr]
   ·obtain rfl:k=n:=by omega
    go_wp2;go_returns;go_light;refine⟨ac_ ?_,hB⟩;rw[hf.out,hI.out,Ze (Zm hg.out)];cases ahead l k<;>rfl
 ·go_enter func93,ntmps93;go_wp2;go_returns;go_light;refine⟨ac_ ?_,Yg _ _⟩;simp[Ae,hc];omega
end
section
open Go Go.RowKit Go.BigFrame Tryz
variable{c:Ct}{size x y:Int}{l more:List Ct}{r:List Pt}{B cap k n:Nat}{a:Option Addr}{p:Pt}{w:World}
theorem at_ {x:Nat}(h:∀ ad,a=some ad->B<=ad.block)(hx:x<B):some x≠Value.ownBlock (.slice a n cap):=by
 cases a with
 |none=>simp[Value.ownBlock]
 |some ad=>have:=h ad rfl;simp[Value.ownBlock];omega
theorem Ng (p q:Ow)(w:World):(binOp .eql 66 (.agg #[.int .i64 p.a,.int .i64 p.v,.string p.f]) (.agg #[.int .i64 q.a,.int .i64 q.v,.string q.f])).run prog w=.ok (.bool (BV p q)) w:=by
 have u2:=underlying2;have u9:=underlying9;have a2:=Tryz.isAgg2;have a9:=Tryz.isAgg9;have z2:=Tryz.sizeOf2;have z9:=Tryz.sizeOf9;have hS:prog.underlying 66=some (.struct (prog.fieldsOf 66)):=by kernel_rfl
 have hp:prog.stoodInHeld 66=false:=by kernel_rfl
 rw[run_eql_struct,show (10000:Nat)=9999+1 from rfl,run_equalIn_agg w 9999 66 _ _ hS hp];simp only[Program.fieldsOf,underlying66];go_simp;unfold BV;by_cases h1:p.a=q.a<;>by_cases h2:p.v=q.v<;>by_cases h3:p.f.toList=q.f.toList<;>simp[h1,h2,h3]
def Fo (c:Ct)(l:List Ct)(k:Nat):List Ct×Bool:=(l.take k).foldl (AQ c) ([],false)
theorem nd_ {p:Ct}(h:l[k]?=some p):Fo c l (k+1)=AQ c (Fo c l k) p:=by
 have hk:=(Zb.1 h).1;unfold Fo;rw[ZK,h];simp
theorem n4_ (h:l.length=n):C9 c (Fo c l n)=BD l c:=by
 unfold Fo;rw[Zk (Zm h),jZ_];rfl
theorem hr_ (a:Option Addr)(n cap:Nat)(l:List Ct)(c:Ct)(w:World)(h:A8 w a n l)(hn:n<=4194304)(hb:∀ x∈l,-1000000000000000<=x.n∧x.n<=1000000000000000)(hc:-1000000000000000<=c.n∧c.n<=1000000000000000):
  Calls prog 97 #[.slice a n cap,.agg #[.int .i64 c.o.a,.int .i64 c.o.v,.string c.o.f,.int .i64 c.n]] w fun e w'=>(∃ a' n' cap',e=.returned (.slice a' n' cap')∧n'<=n+1∧Ad Ct.cs 4 68 w' w.heap.size a' n' cap' (BD l c))∧Below w.heap.size w w':=by
 have hD:Hid (l.length=n):=h.len;obtain⟨i0,hi,hv,hw,hy⟩:=info_parts Gl;go_enter func97,ntmps97
 go_wp2_with fail
 go_loopw [5,6,7] (fun out dn ix wr=>∃ (k:Nat) (a2:Option Addr) (n2 cap2:Nat),k<=n∧ix=.int .i64 k∧dn=.bool (Fo c l k).2∧out=.slice a2 n2 cap2∧n2<=k+(if (Fo c l k).2=true then 1 else 0)∧Ad Ct.cs 4 68 wr (w.heap.size+1) a2 n2 cap2 (Fo c l k).1∧A8 wr (some ⟨w.heap.size,0,none⟩) 1 [c]∧w.heap.size+1<=wr.heap.size∧Below w.heap.size w wr) (fun _ _ ix _=>n-(intOf ix).toNat)
 case atStart=>exact⟨0,_,0,0,Zg _,rfl,rfl,rfl,Zg _,aw_ (Blk.new' _ _ _ _ (by simp)) (by simp),(cl_ _ c _ _ rfl).alloc _,by simp,by go_grown⟩
 case round=>
  obtain⟨k,a2,n2,cap2,hk,rfl,rfl,rfl,ht,R2,C2,hj,hB⟩:=hrel;have hh:=hB.size;obtain⟨_,_,c',hL,hG,z0,z1,z2,z3⟩:=aN_ C2 (k:=0) (by omega)
  cases hL
  simp at hG;subst hG;simp only[Nat.zero_mul,Nat.add_zero,Zq] at z0 z1 z2 z3;by_cases hlt:k<n
  ·obtain⟨b,o,p,rfl,hp,c0,c1,c2,c3⟩:=aN_ (h.below hB) hlt;have ho:Hid (Fo c l (k+1)=AQ c (Fo c l k) p):=nd_ hp;obtain⟨hO,hP⟩:=hb p (Zc hp);have hm:b<wr.heap.size:=Yk wr _ c0
   have hz:b<w.heap.size:=by
    obtain⟨b',o',p',hJ,_,d0,_⟩:=aN_ h hlt;obtain⟨rfl,rfl⟩:b=b'∧o=o':=by simpa using hJ
    exact Yk w _ d0
   clear hp hb;generalize Fo c l k=G at *;obtain⟨gk,d⟩:=G;simp only at *;have hQ:(k:Int)<n:=by omega
   have hR:(0:Int)<=k:=by omega
   cases d
   ·have hE:n2<=k:=by simpa using ht
    clear ht
    cases hl:Bk p.o c.o
    ·have hH:=Ng p.o c.o
     cases hA:BV p.o c.o
     ·have he:Hid (AQ c (gk,false) p=(gk++[c]++[p],true)):=by show _=_;simp[AQ,hl,hA]
      rw[hA] at hH
      go_wp2_with fail
      have g0:=Ac c0;have g1:=Ac c1;have g2:=Ac c2;have g3:=Ac c3;have k0:=Ac z0;have k1:=Ac z1;have k2:=Ac z2;have k3:=Ac z3;have hr:=aA_ wr;refine ab_ (by kernel_rfl) (by kernel_rfl) ?_
      repeat (go_big_quiet_step (first | (go_at_call 143;have qq:=fun w=>aF_ p.o c.o w;rw[hl] at qq;exact an_ (qq _))))
      refine wpQuiet_nil ?_;intro wq hx;have hq:=ah_ hx;clear hx g0 g1 g2 g3 k0 k1 k2 k3 hr;have hf:=hq.size;replace R2:=R2.below hq;replace hB:=Aa hB hq;replace z0:=Ab hq z0;replace z1:=Ab hq z1;replace z2:=Ab hq z2;replace z3:=Ab hq z3;replace c0:=Ab hq c0;replace c1:=Ab hq c1;replace c2:=Ab hq c2;replace c3:=Ab hq c3;replace hj:=Zl hj hf;replace hm:=Zy hm hf;replace hh:=Zl hh hf;clear hq hf;clear C2
      go_wp2_with fail
      have g0:=Ac c0;have g1:=Ac c1;have g2:=Ac c2;have g3:=Ac c3;have k0:=Ac z0;have k1:=Ac z1;have k2:=Ac z2;have k3:=Ac z3;have hr:=aA_ wq;refine ab_ (by kernel_rfl) (by kernel_rfl) ?_
      repeat (go_big_quiet_step (first | (go_at_call 143;have qq:=fun w=>aF_ p.o c.o w;rw[hl] at qq;exact an_ (qq _))))
      refine wpQuiet_nil ?_;intro wq hx;have hq:=ah_ hx;clear hx g0 g1 g2 g3 k0 k1 k2 k3 hr;have hf:=hq.size;replace R2:=R2.below hq;replace hB:=Aa hB hq;replace z0:=Ab hq z0;replace z1:=Ab hq z1;replace z2:=Ab hq z2;replace z3:=Ab hq z3;replace c0:=Ab hq c0;replace c1:=Ab hq c1;replace c2:=Ab hq c2;replace c3:=Ab hq c3;replace hj:=Zl hj hf;replace hm:=Zy hm hf;replace hh:=Zl hh hf;clear hq hf
      go_wp2_with (first | (at_builtin;refine ag_ rfl (fun K hK=>ay_ _ _ 26 rfl (w.heap.size+1) 68 i0 (.agg #[.int .i64 0,.int .i64 0,.string .empty,.int .i64 0]) 40 underlying26 hi hv hw hy rfl (by decide) aS_ a9_ a2 n2 cap2 gk rfl (R2.alloc _) _ 1 1 [c] rfl (cl_ _ c _ _ (by simp)) (fun ad h=>(by cases h;rfl)) (fun h=>(by cases h)) (n2+1) rfl (by unfold maxLen;omega) (by omega) (by simp;omega) (fun a3 cap3 w3 R3 hg=>hK _ _ ?_));have hs:Below w.heap.size w w3:=Yi (hB.alloc hh _) hg (by simp;omega) (aG_ fun ad ha=>(by have:=(R2.block ad ha).1;omega));have y0:=hg.cell (Al _ z0) (at_ (fun ad ha=>(R2.block ad ha).1) (ZB _));have y1:=hg.cell (Al _ z1) (at_ (fun ad ha=>(R2.block ad ha).1) (ZB _));have y2:=hg.cell (Al _ z2) (at_ (fun ad ha=>(R2.block ad ha).1) (ZB _));have y3:=hg.cell (Al _ z3) (at_ (fun ad ha=>(R2.block ad ha).1) (ZB _));have hu:w.heap.size+1<=w3.heap.size:=Yk w3 _ y0;have d0:=hg.cell (Al _ c0) (at_ (fun ad ha=>(R2.block ad ha).1) (Nat.lt_succ_of_lt hz));have d1:=hg.cell (Al _ c1) (at_ (fun ad ha=>(R2.block ad ha).1) (Nat.lt_succ_of_lt hz));have d2:=hg.cell (Al _ c2) (at_ (fun ad ha=>(R2.block ad ha).1) (Nat.lt_succ_of_lt hz));have d3:=hg.cell (Al _ c3) (at_ (fun ad ha=>(R2.block ad ha).1) (Nat.lt_succ_of_lt hz));have hF:=hs.size) | (at_builtin;refine ag_ rfl (fun K hK=>ay_ _ _ 26 rfl (w.heap.size+1) 68 i0 (.agg #[.int .i64 0,.int .i64 0,.string .empty,.int .i64 0]) 40 underlying26 hi hv hw hy rfl (by decide) aS_ a9_ a3 (n2+1) cap3 (gk++[c]) rfl (R3.alloc _) _ 1 1 [p] rfl (cl_ _ p _ _ (by simp)) (fun ad h=>(by cases h;rfl)) (fun h=>(by cases h)) (n2+2) rfl (by unfold maxLen;omega) (by omega) (by simp;omega) (fun a4 cap4 w4 R4 hC=>hK _ _ ?_))))
      have hI:Below w.heap.size w w4:=Yi (hs.alloc hF _) hC (by simp;omega) (aG_ fun ad ha=>(by have:=(R3.block ad ha).1;omega));have x0:=hC.cell (Al _ y0) (at_ (fun ad ha=>(R3.block ad ha).1) (ZB _));have x1:=hC.cell (Al _ y1) (at_ (fun ad ha=>(R3.block ad ha).1) (ZB _));have x2:=hC.cell (Al _ y2) (at_ (fun ad ha=>(R3.block ad ha).1) (ZB _));have x3:=hC.cell (Al _ y3) (at_ (fun ad ha=>(R3.block ad ha).1) (ZB _));have hM:w.heap.size+1<=w4.heap.size:=Yk w4 _ x0;go_wp2;go_roundw
      case rel=>exact⟨k+1,a4,n2+2,cap4,by omega,by go_num,by rw[ho.out,he.out],rfl,by rw[ho.out,he.out];simp;omega,by rw[ho.out,he.out];exact R4,eM_ x0 x1 x2 x3,hM,hI⟩
      case measure=>simp[intOf];omega
     ·rw[hA] at hH;by_cases hs0:p.n+c.n=0
      ·have he:Hid (AQ c (gk,false) p=(gk,true)):=by show _=_;simp[AQ,hl,hA,hs0]
       go_wp2_with fail
       have g0:=Ac c0;have g1:=Ac c1;have g2:=Ac c2;have g3:=Ac c3;have k0:=Ac z0;have k1:=Ac z1;have k2:=Ac z2;have k3:=Ac z3;have hr:=aA_ wr;refine ab_ (by kernel_rfl) (by kernel_rfl) ?_
       repeat (go_big_quiet_step (first | (go_at_call 143;have qq:=fun w=>aF_ p.o c.o w;rw[hl] at qq;exact an_ (qq _))))
       refine wpQuiet_nil ?_;intro wq hx;have hq:=ah_ hx;clear hx g0 g1 g2 g3 k0 k1 k2 k3 hr;have hf:=hq.size;replace R2:=R2.below hq;replace hB:=Aa hB hq;replace z0:=Ab hq z0;replace z1:=Ab hq z1;replace z2:=Ab hq z2;replace z3:=Ab hq z3;replace c0:=Ab hq c0;replace c1:=Ab hq c1;replace c2:=Ab hq c2;replace c3:=Ab hq c3;replace hj:=Zl hj hf;replace hm:=Zy hm hf;replace hh:=Zl hh hf;clear hq hf;clear C2
       go_wp2_with fail
       have g0:=Ac c0;have g1:=Ac c1;have g2:=Ac c2;have g3:=Ac c3;have k0:=Ac z0;have k1:=Ac z1;have k2:=Ac z2;have k3:=Ac z3;have hr:=aA_ wq;refine ab_ (by kernel_rfl) (by kernel_rfl) ?_
       repeat (go_big_quiet_step (first | (go_at_call 143;have qq:=fun w=>aF_ p.o c.o w;rw[hl] at qq;exact an_ (qq _))))
       refine wpQuiet_nil ?_;intro wq hx;have hq:=ah_ hx;clear hx g0 g1 g2 g3 k0 k1 k2 k3 hr;have hf:=hq.size;replace R2:=R2.below hq;replace hB:=Aa hB hq;replace z0:=Ab hq z0;replace z1:=Ab hq z1;replace z2:=Ab hq z2;replace z3:=Ab hq z3;replace c0:=Ab hq c0;replace c1:=Ab hq c1;replace c2:=Ab hq c2;replace c3:=Ab hq c3;replace hj:=Zl hj hf;replace hm:=Zy hm hf;replace hh:=Zl hh hf;clear hq hf
       go_wp2_with fail
       have g0:=Ac c0;have g1:=Ac c1;have g2:=Ac c2;have g3:=Ac c3;have k0:=Ac z0;have k1:=Ac z1;have k2:=Ac z2;have k3:=Ac z3;have hr:=aA_ wq;refine ab_ (by kernel_rfl) (by kernel_rfl) ?_
       repeat (go_big_quiet_step (first | (go_at_call 143;have qq:=fun w=>aF_ p.o c.o w;rw[hl] at qq;exact an_ (qq _))))
       refine wpQuiet_nil ?_;intro wq hx;have hq:=ah_ hx;clear hx g0 g1 g2 g3 k0 k1 k2 k3 hr;have hf:=hq.size;replace R2:=R2.below hq;replace hB:=Aa hB hq;replace z0:=Ab hq z0;replace z1:=Ab hq z1;replace z2:=Ab hq z2;replace z3:=Ab hq z3;replace c0:=Ab hq c0;replace c1:=Ab hq c1;replace c2:=Ab hq c2;replace c3:=Ab hq c3;replace hj:=Zl hj hf;replace hm:=Zy hm hf;replace hh:=Zl hh hf;clear hq hf;go_wp2;go_roundw
       case rel=>exact⟨k+1,a2,n2,cap2,by omega,by go_num,by rw[ho.out,he.out],rfl,by rw[ho.out,he.out];simp;omega,by rw[ho.out,he.out];exact R2,eM_ z0 z1 z2 z3,hj,hB⟩
       case measure=>simp[intOf];omega
      ·have he:Hid (AQ c (gk,false) p=(gk++[⟨c.o,p.n+c.n⟩],true)):=by show _=_;simp[AQ,hl,hA,hs0]
       go_wp2_with fail
       have g0:=Ac c0;have g1:=Ac c1;have g2:=Ac c2;have g3:=Ac c3;have k0:=Ac z0;have k1:=Ac z1;have k2:=Ac z2;have k3:=Ac z3;have hr:=aA_ wr;refine ab_ (by kernel_rfl) (by kernel_rfl) ?_
       repeat (go_big_quiet_step (first | (go_at_call 143;have qq:=fun w=>aF_ p.o c.o w;rw[hl] at qq;exact an_ (qq _))))
       refine wpQuiet_nil ?_;intro wq hx;have hq:=ah_ hx;clear hx g0 g1 g2 g3 k0 k1 k2 k3 hr;have hf:=hq.size;replace R2:=R2.below hq;replace hB:=Aa hB hq;replace z0:=Ab hq z0;replace z1:=Ab hq z1;replace z2:=Ab hq z2;replace z3:=Ab hq z3;replace c0:=Ab hq c0;replace c1:=Ab hq c1;replace c2:=Ab hq c2;replace c3:=Ab hq c3;replace hj:=Zl hj hf;replace hm:=Zy hm hf;replace hh:=Zl hh hf;clear hq hf;clear C2
       go_wp2_with fail
       have g0:=Ac c0;have g1:=Ac c1;have g2:=Ac c2;have g3:=Ac c3;have k0:=Ac z0;have k1:=Ac z1;have k2:=Ac z2;have k3:=Ac z3;have hr:=aA_ wq;refine ab_ (by kernel_rfl) (by kernel_rfl) ?_
       repeat (go_big_quiet_step (first | (go_at_call 143;have qq:=fun w=>aF_ p.o c.o w;rw[hl] at qq;exact an_ (qq _))))
       refine wpQuiet_nil ?_;intro wq hx;have hq:=ah_ hx;clear hx g0 g1 g2 g3 k0 k1 k2 k3 hr;have hf:=hq.size;replace R2:=R2.below hq;replace hB:=Aa hB hq;replace z0:=Ab hq z0;replace z1:=Ab hq z1;replace z2:=Ab hq z2;replace z3:=Ab hq z3;replace c0:=Ab hq c0;replace c1:=Ab hq c1;replace c2:=Ab hq c2;replace c3:=Ab hq c3;replace hj:=Zl hj hf;replace hm:=Zy hm hf;replace hh:=Zl hh hf;clear hq hf
       go_wp2_with fail
       have g0:=Ac c0;have g1:=Ac c1;have g2:=Ac c2;have g3:=Ac c3;have k0:=Ac z0;have k1:=Ac z1;have k2:=Ac z2;have k3:=Ac z3;have hr:=aA_ wq;refine ab_ (by kernel_rfl) (by kernel_rfl) ?_
       repeat (go_big_quiet_step (first | (go_at_call 143;have qq:=fun w=>aF_ p.o c.o w;rw[hl] at qq;exact an_ (qq _))))
       refine wpQuiet_nil ?_;intro wq hx;have hq:=ah_ hx;clear hx g0 g1 g2 g3 k0 k1 k2 k3 hr;have hf:=hq.size;replace R2:=R2.below hq;replace hB:=Aa hB hq;replace z0:=Ab hq z0;replace z1:=Ab hq z1;replace z2:=Ab hq z2;replace z3:=Ab hq z3;replace c0:=Ab hq c0;replace c1:=Ab hq c1;replace c2:=Ab hq c2;replace c3:=Ab hq c3;replace hj:=Zl hj hf;replace hm:=Zy hm hf;replace hh:=Zl hh hf;clear hq hf;have hN:Hid (IntKind.i64.wrap (p.n+c.n)=p.n+c.n):=by show _=_;rw[Ys];omega
       go_wp2_with fail
       go_region_held3 (fun u=>u.cell? ⟨w.heap.size,0,none⟩=some (.int .i64 c.o.a)∧u.cell? ⟨w.heap.size,1,none⟩=some (.int .i64 c.o.v)∧u.cell? ⟨w.heap.size,2,none⟩=some (.string c.o.f)∧u.cell? ⟨w.heap.size,3,none⟩=some (.int .i64 c.n)∧u.cell? ⟨b,o+k*4+3,none⟩=some (.int .i64 p.n)) (go_keep) (first | (refine aJ_ rfl (ay_ _ _ 26 rfl (w.heap.size+1) 68 i0 (.agg #[.int .i64 0,.int .i64 0,.string .empty,.int .i64 0]) 40 underlying26 hi hv hw hy rfl (by decide) aS_ a9_ a2 n2 cap2 gk rfl (R2.below (by go_grown)) _ 1 1 [(⟨c.o,IntKind.i64.wrap (p.n+c.n)⟩:Ct)] rfl (by first | exact cl_ _ (⟨c.o,IntKind.i64.wrap (p.n+c.n)⟩:Ct) _ _ (by first | rfl | simp) | exact (cl_ _ (⟨c.o,IntKind.i64.wrap (p.n+c.n)⟩:Ct) _ _ (by first | rfl | simp)).drew) (fun ad h=>(by cases h;rfl)) (fun h=>(by cases h)) (n2+1) rfl (by unfold maxLen;omega) (by omega) (by first | omega | (simp;omega) | (show w.heap.size+1<=(World.alloc _ _).heap.size;simp;omega)) ?_);intro a3 cap3 w3 R3 hg;have y0:=hg.cell (a:=⟨w.heap.size,0,none⟩) (by first | exact Al _ z0 | exact Al _ (Al _ z0)) (at_ (fun ad ha=>(R2.block ad ha).1) (ZB _));have y1:=hg.cell (a:=⟨w.heap.size,1,none⟩) (by first | exact Al _ z1 | exact Al _ (Al _ z1)) (at_ (fun ad ha=>(R2.block ad ha).1) (ZB _));have y2:=hg.cell (a:=⟨w.heap.size,2,none⟩) (by first | exact Al _ z2 | exact Al _ (Al _ z2)) (at_ (fun ad ha=>(R2.block ad ha).1) (ZB _));have y3:=hg.cell (a:=⟨w.heap.size,3,none⟩) (by first | exact Al _ z3 | exact Al _ (Al _ z3)) (at_ (fun ad ha=>(R2.block ad ha).1) (ZB _));have yb:=hg.cell (a:=⟨b,o+k*4+3,none⟩) (by first | exact Al _ c3 | exact Al _ (Al _ c3)) (at_ (fun ad ha=>(R2.block ad ha).1) (Nat.lt_succ_of_lt hz))))
       have hs:Below w.heap.size w w3:=Yi (Aa hB (by go_grown)) hg (by first | omega | (simp;omega)) (aG_ fun ad ha=>(by have:=(R2.block ad ha).1;omega));have hu:w.heap.size+1<=w3.heap.size:=Yk w3 _ y0;rw[hN.out] at R3;go_wp2;go_roundw
       case rel=>exact⟨k+1,a3,n2+1,cap3,by omega,by go_num,by rw[ho.out,he.out],rfl,by rw[ho.out,he.out];simp;omega,by rw[ho.out,he.out];exact R3,eM_ y0 y1 y2 y3,hu,hs⟩
       case measure=>simp[intOf];omega
    ·have he:Hid (AQ c (gk,false) p=(gk++[p],false)):=by show _=_;simp[AQ,hl]
     go_wp2_with fail
     have g0:=Ac c0;have g1:=Ac c1;have g2:=Ac c2;have g3:=Ac c3;have k0:=Ac z0;have k1:=Ac z1;have k2:=Ac z2;have k3:=Ac z3;have hr:=aA_ wr;refine ab_ (by kernel_rfl) (by kernel_rfl) ?_
     repeat (go_big_quiet_step (first | (go_at_call 143;have qq:=fun w=>aF_ p.o c.o w;rw[hl] at qq;exact an_ (qq _))))
     refine wpQuiet_nil ?_;intro wq hx;have hq:=ah_ hx;clear hx g0 g1 g2 g3 k0 k1 k2 k3 hr;have hf:=hq.size;replace R2:=R2.below hq;replace hB:=Aa hB hq;replace z0:=Ab hq z0;replace z1:=Ab hq z1;replace z2:=Ab hq z2;replace z3:=Ab hq z3;replace c0:=Ab hq c0;replace c1:=Ab hq c1;replace c2:=Ab hq c2;replace c3:=Ab hq c3;replace hj:=Zl hj hf;replace hm:=Zy hm hf;replace hh:=Zl hh hf;clear hq hf;clear C2
     go_wp2_with (at_builtin;refine ag_ rfl (fun K hK=>ay_ _ _ 26 rfl (w.heap.size+1) 68 i0 (.agg #[.int .i64 0,.int .i64 0,.string .empty,.int .i64 0]) 40 underlying26 hi hv hw hy rfl (by decide) aS_ a9_ a2 n2 cap2 gk rfl (R2.alloc _) _ 1 1 [p] rfl (cl_ _ p _ _ (by simp)) (fun ad h=>(by cases h;rfl)) (fun h=>(by cases h)) (n2+1) rfl (by unfold maxLen;omega) (by omega) (by simp;omega) (fun a3 cap3 w3 R3 hg=>hK _ _ ?_)))
     have hs:Below w.heap.size w w3:=Yi (hB.alloc hh _) hg (by simp;omega) (aG_ fun ad ha=>(by have:=(R2.block ad ha).1;omega));have y0:=hg.cell (Al _ z0) (at_ (fun ad ha=>(R2.block ad ha).1) (ZB _));have y1:=hg.cell (Al _ z1) (at_ (fun ad ha=>(R2.block ad ha).1) (ZB _));have y2:=hg.cell (Al _ z2) (at_ (fun ad ha=>(R2.block ad ha).1) (ZB _));have y3:=hg.cell (Al _ z3) (at_ (fun ad ha=>(R2.block ad ha).1) (ZB _));have hu:w.heap.size+1<=w3.heap.size:=Yk w3 _ y0;go_wp2;go_roundw
     case rel=>exact⟨k+1,a3,n2+1,cap3,by omega,by go_num,by rw[ho.out,he.out],rfl,by rw[ho.out,he.out];simp;omega,by rw[ho.out,he.out];exact R3,eM_ y0 y1 y2 y3,hu,hs⟩
     case measure=>simp[intOf];omega
   ·have he:Hid (AQ c (gk,true) p=(gk++[p],true)):=by show _=_;simp[AQ]
    have hE:n2<=k+1:=by simpa using ht
    clear ht
    go_wp2_with fail
    go_quiet (fail)
    have hq:=Bi wr nq;have hf:=hq.size;replace R2:=R2.below hq;replace hB:=Aa hB hq;replace z0:=Ab hq z0;replace z1:=Ab hq z1;replace z2:=Ab hq z2;replace z3:=Ab hq z3;replace c0:=Ab hq c0;replace c1:=Ab hq c1;replace c2:=Ab hq c2;replace c3:=Ab hq c3;replace hj:=Zl hj hf;replace hm:=Zy hm hf;replace hh:=Zl hh hf;clear hq hf C2;generalize wr.drewN nq=wq at *
    go_wp2_with (at_builtin;refine ag_ rfl (fun K hK=>ay_ _ _ 26 rfl (w.heap.size+1) 68 i0 (.agg #[.int .i64 0,.int .i64 0,.string .empty,.int .i64 0]) 40 underlying26 hi hv hw hy rfl (by decide) aS_ a9_ a2 n2 cap2 gk rfl (R2.alloc _) _ 1 1 [p] rfl (cl_ _ p _ _ (by simp)) (fun ad h=>(by cases h;rfl)) (fun h=>(by cases h)) (n2+1) rfl (by unfold maxLen;omega) (by omega) (by simp;omega) (fun a3 cap3 w3 R3 hg=>hK _ _ ?_)))
    have hs:Below w.heap.size w w3:=Yi (hB.alloc hh _) hg (by simp;omega) (aG_ fun ad ha=>(by have:=(R2.block ad ha).1;omega));have y0:=hg.cell (Al _ z0) (at_ (fun ad ha=>(R2.block ad ha).1) (ZB _));have y1:=hg.cell (Al _ z1) (at_ (fun ad ha=>(R2.block ad ha).1) (ZB _));have y2:=hg.cell (Al _ z2) (at_ (fun ad ha=>(R2.block ad ha).1) (ZB _));have y3:=hg.cell (Al _ z3) (at_ (fun ad ha=>(R2.block ad ha).1) (ZB _));have hu:w.heap.size+1<=w3.heap.size:=Yk w3 _ y0;go_wp2;go_roundw
    case rel=>exact⟨k+1,a3,n2+1,cap3,by omega,by go_num,by rw[ho.out,he.out],rfl,by rw[ho.out,he.out];simp;omega,by rw[ho.out,he.out];exact R3,eM_ y0 y1 y2 y3,hu,hs⟩
    case measure=>simp[intOf];omega
  ·obtain rfl:k=n:=by omega
   have ho:Hid (C9 c (Fo c l k)=BD l c):=n4_ hD.out;generalize Fo c l k=G at *;obtain⟨gk,d⟩:=G;simp only at *
   cases d
   ·have he:Hid (C9 c (gk,false)=gk++[c]):=by show _=_;simp[C9]
    have hE:n2<=k:=by simpa using ht
    clear ht C2
    go_wp2_with (at_builtin;refine ag_ rfl (fun K hK=>ay_ _ _ 26 rfl (w.heap.size+1) 68 i0 (.agg #[.int .i64 0,.int .i64 0,.string .empty,.int .i64 0]) 40 underlying26 hi hv hw hy rfl (by decide) aS_ a9_ a2 n2 cap2 gk rfl (R2.alloc _) _ 1 1 [c] rfl (cl_ _ c _ _ (by simp)) (fun ad h=>(by cases h;rfl)) (fun h=>(by cases h)) (n2+1) rfl (by unfold maxLen;omega) (by omega) (by simp;omega) (fun a3 cap3 w3 R3 hg=>hK _ _ ?_)))
    have hs:Below w.heap.size w w3:=Yi (hB.alloc hh _) hg (by simp;omega) (aG_ fun ad ha=>(by have:=(R2.block ad ha).1;omega));go_wp2;go_returns;exact⟨⟨a3,n2+1,cap3,rfl,by omega,by rw[<-ho.out,he.out];exact R3.mono (by omega)⟩,hs⟩
   ·have he:Hid (C9 c (gk,true)=gk):=by show _=_;simp[C9]
    have hE:n2<=k+1:=by simpa using ht
    clear ht;go_wp2;go_returns;exact⟨⟨a2,n2,cap2,rfl,by omega,by rw[<-ho.out,he.out];exact R2.mono (by omega)⟩,hB⟩
theorem fp_ {B D:Int}(hB:0<=B)(hD:0<=D)(h1:-D<=c.n)(h2:c.n<=D):∀ {l:List Ct},(∀ x∈l,-B<=x.n∧x.n<=B)->∀ x∈BD l c,-(B+D)<=x.n∧x.n<=B+D
 |[],_=>by intro x hx;simp[BD] at hx;subst hx;omega
 |y::r,h=>by
  have hy:=h y (by simp);have hr:∀ x∈r,-B<=x.n∧x.n<=B:=fun x hx=>h x (by simp[hx]);have ha:∀ x∈r,-(B+D)<=x.n∧x.n<=B+D:=fun x hx=>by have:=hr x hx;omega
  unfold BD;split
  ·intro x hx;rcases Zn.1 hx with rfl | hx
   ·omega
   ·exact fp_ hB hD h1 h2 hr x hx
  ·split
   ·split
    ·intro x hx;rcases Zn.1 hx with rfl | hx
     ·simp only;omega
     ·exact ha x hx
    ·exact ha
   ·intro x hx;rcases Zn.1 hx with rfl | hx
    ·omega
    ·rcases Zn.1 hx with rfl | hx
     ·omega
     ·exact ha x hx
theorem lD_ {B:Int}(hB:0<=B)(h1:-1000<=c.n)(h2:c.n<=1000)(h:∀ x∈l,-B<=x.n∧x.n<=B):∀ x∈BD l c,-(B+1000)<=x.n∧x.n<=B+1000:=fp_ hB (by omega) h1 h2 h
def FD (l more:List Ct)(k:Nat):List Ct:=(more.take k).foldl BD l
theorem ne_ {p:Ct}(h:more[k]?=some p):FD l more (k+1)=BD (FD l more k) p:=by
 unfold FD;rw[ZK,h];simp
theorem n5_ (h:more.length=n):FD l more n=A7 l more:=by
 unfold FD A7;rw[Zk (Zm h)]
theorem cJ_ (a:Option Addr)(n cap:Nat)(l:List Ct)(a':Option Addr)(n' cap':Nat)(more:List Ct)(w:World)(h:A8 w a n l)(ha1:∀ ad,a=some ad->ad.spot=none)(ha2:a=none->cap=0)(h':A8 w a' n' more)(hn:n<=100000)(hn':n'<=100000)(hb:∀ x∈l,-100000000<=x.n∧x.n<=100000000)(hb':∀ x∈more,-100000000<=x.n∧x.n<=100000000):
  Calls prog 68 #[.slice a n cap,.slice a' n' cap'] w fun e w'=>(∃ a2 n2 cap2,e=.returned (.slice a2 n2 cap2)∧n2<=n+n'∧Ad Ct.cs 4 68 w' w.heap.size a2 n2 cap2 (A7 l more))∧Below w.heap.size w w':=by
 have hs:Hid (l.length=n):=h.len;have ha:Hid (more.length=n'):=h'.len;obtain⟨i0,hi,hv,hw,hy⟩:=info_parts Gl;go_enter func68,ntmps68
 go_wp2_with (at_builtin;refine ag_ rfl (fun K hK=>ay_ _ _ 26 rfl w.heap.size 68 i0 (.agg #[.int .i64 0,.int .i64 0,.string .empty,.int .i64 0]) 40 underlying26 hi hv hw hy rfl (by decide) aS_ a9_ _ 0 0 [] rfl (aw_ (Blk.new' _ _ _ _ (by simp)) (by simp)) a n cap l rfl (h.alloc _) ha1 ha2 n (Zq _) (by unfold maxLen;omega) (by omega) (by simp) (fun a1 cap1 w1 hg hr=>hK _ _ ?_)))
 have hh:Below w.heap.size w w1:=Yi (by go_grown) hr (by simp) (fun k e=>by simp[Value.ownBlock] at e;omega);rw[ZM] at hg
 go_loopw [5,6] (fun out ix wr=>∃ (k:Nat) (a2:Option Addr) (n2 cap2:Nat),k<=n'∧ix=.int .i64 k∧out=.slice a2 n2 cap2∧n2<=n+k∧Ad Ct.cs 4 68 wr w.heap.size a2 n2 cap2 (FD l more k)∧(∀ x∈FD l more k,-(100000000+100000000*(k:Int))<=x.n∧x.n<=100000000+100000000*(k:Int))∧Below w.heap.size w wr) (fun _ ix _=>n'-(intOf ix).toNat)
 case atStart=>exact⟨0,_,n,cap1,Zg _,rfl,rfl,by omega,hg,by simpa[FD] using hb,hh⟩
 case round=>
  obtain⟨k,a2,n2,cap2,hk,rfl,rfl,ht,R2,hf,hB⟩:=hrel;have hu:=hB.size;by_cases hlt:k<n'
  ·obtain⟨b,o,p,rfl,hp,c0,c1,c2,c3⟩:=aN_ (h'.below hB) hlt;have hc:Hid (FD l more (k+1)=BD (FD l more k) p):=ne_ hp;obtain⟨hm,ho⟩:=hb' p (Zc hp);have hq:=fp_ (B:=100000000+100000000*(k:Int)) (D:=100000000) (by omega) (by omega) hm ho hf;have he:∀ x∈FD l more k,-1000000000000000<=x.n∧x.n<=1000000000000000:=fun x hx=>by have:=hf x hx;omega
   clear hp;generalize FD l more k=G at *;have hz:(k:Int)<n':=by omega
   have hA:(0:Int)<=k:=by omega
   go_wp2_with fail
   refine (hr_ a2 n2 cap2 G p wr R2.sl (by omega) he ⟨by omega,by omega⟩).mono ?_;rintro e w3 ⟨⟨a3,n3,cap3,rfl,hC,R3⟩,hj⟩;have hl:=Aa hB hj;go_wp2;go_roundw
   case rel=>exact⟨k+1,a3,n3,cap3,by omega,by go_num,rfl,by omega,by rw[hc.out];exact R3.mono hu,by rw[hc.out];intro x hx;have:=hq x hx;omega,hl⟩
   case measure=>simp[intOf];omega
  ·obtain rfl:k=n':=by omega
   have hc:Hid (FD l more k=A7 l more):=n5_ ha.out;go_wp2;go_returns;exact⟨⟨a2,n2,cap2,rfl,ht,by rw[<-hc.out];exact R2⟩,hB⟩
theorem hs_ (a:Option Addr)(n cap:Nat)(l:List Ct)(a':Option Addr)(n' cap':Nat)(more:List Ct)(w:World)(h:A8 w a n l)(ha1:∀ ad,a=some ad->ad.spot=none)(ha2:a=none->cap=0)(h':A8 w a' n' more)(hn:n<=200)(hn':n'<=200)(hb:∀ x∈l,-1000<=x.n∧x.n<=1000)(hb':∀ x∈more,-1000<=x.n∧x.n<=1000):
  Calls prog 68 #[.slice a n cap,.slice a' n' cap'] w fun e w'=>(∃ a2 n2 cap2,e=.returned (.slice a2 n2 cap2)∧n2<=n+n'∧Ad Ct.cs 4 68 w' w.heap.size a2 n2 cap2 (A7 l more))∧Below w.heap.size w w':=
 cJ_ a n cap l a' n' cap' more w h ha1 ha2 h' (by omega) (by omega) (fun x hx=>by have:=hb x hx;omega) (fun x hx=>by have:=hb' x hx;omega)
theorem aq_ (d:ByteArray)(w:World)(hd:d.size<=9223372036854775807):
  Calls prog 92 #[.string d] w fun e w'=>e=.returned (.bool (nameB d))∧w'=w:=by
 by_cases h1:1<=d.size∧d.size<=8
 ·have ha:Hid (nameB d=(d.data.toList.drop 0).all Gn):=by show _=_;simp[nameB,h1]
  obtain⟨h1,he⟩:=h1;go_enter func92,ntmps92
  go_wp2_with fail
  go_loop [3] (fun ix=>∃ (k:Nat),k<=d.size∧ix=.int .i64 k∧Hid (nameB d=(d.data.toList.drop k).all Gn)) (fun ix=>d.size-(intOf ix).toNat)
  case atStart=>exact⟨0,Zg _,rfl,ha⟩
  case round=>
   obtain⟨k,hk,rfl,hI⟩:=hrel;by_cases hlt:k<d.size
   ·have hs:Hid (d.data.toList.drop k=d[k]::d.data.toList.drop (k+1)):=fH_ d k hlt
    cases hc:Gn d[k]
    ·have hb:(d[k].toNat:Int)<97∨122<(d[k].toNat:Int):=by simp[Gn] at hc;omega
     go_wp2
     all_goals go_returns
     all_goals go_light
     all_goals (refine⟨ac_ ?_,rfl⟩;rw[hI.out,hs.out];simp[hc])
    ·have hb:97<=(d[k].toNat:Int)∧(d[k].toNat:Int)<=122:=by simp[Gn] at hc;omega
     obtain⟨hf,hg⟩:=hb;go_wp2;go_round
     case rel=>exact⟨k+1,by omega,by go_num,by show _=_;rw[hI.out,hs.out];simp[hc]⟩
     case measure=>simp[intOf];omega
   ·obtain rfl:k=d.size:=by omega
    go_wp2;go_returns;go_light;refine⟨ac_ ?_,rfl⟩;rw[hI.out,Ze (by simp)];rfl
 ·have ha:Hid (nameB d=false):=by show _=_;simp[nameB];omega
  go_enter func92,ntmps92;go_wp2
  all_goals go_returns
  all_goals go_light
  all_goals exact⟨ac_ ha.out.symm,rfl⟩
end
section
open Go Go.RowKit Go.BigFrame Tryz
variable{l:List Ct}{x:Value}{w w1:World}
theorem bq_ (p:Ow)(w:World)(hd:p.f.size<=9223372036854775807):
  Calls prog 142 #[.agg #[.int .i64 p.a,.int .i64 p.v,.string p.f]] w fun e w'=>e=.returned (.bool (AN p))∧Below w.heap.size w w':=by
 have ha:Hid (AN p=((decide (1<=p.a)&&decide (p.a<=400))&&(decide (1<=p.v)&&decide (p.v<=1000000000))&&nameB p.f)):=by show _=_;simp[AN,ZO]
 generalize AN p=R at *;obtain⟨a,v,f⟩:=p;simp only at *
 cases h1:(decide (1<=a)&&decide (a<=400))
 ·go_enter func142,ntmps142
  go_wp2_with fail
  refine (ai_ _ _ _ _).mono ?_;rintro e w1 ⟨rfl,rfl⟩;rw[h1];go_wp2;go_returns;go_light;exact⟨ac_ (by rw[ha.out,h1];rfl),by go_grown⟩
 ·cases h2:(decide (1<=v)&&decide (v<=1000000000))
  ·go_enter func142,ntmps142
   go_wp2_with fail
   refine (ai_ _ _ _ _).mono ?_;rintro e w1 ⟨rfl,rfl⟩;rw[h1]
   go_wp2_with fail
   refine (ai_ _ _ _ _).mono ?_;rintro e w1 ⟨rfl,rfl⟩;rw[h2];go_wp2;go_returns;go_light;exact⟨ac_ (by rw[ha.out,h1,h2];rfl),by go_grown⟩
  ·go_enter func142,ntmps142
   go_wp2_with fail
   refine (ai_ _ _ _ _).mono ?_;rintro e w1 ⟨rfl,rfl⟩;rw[h1]
   go_wp2_with fail
   refine (ai_ _ _ _ _).mono ?_;rintro e w1 ⟨rfl,rfl⟩;rw[h2]
   go_wp2_with fail
   refine (aq_ f _ hd).mono ?_;rintro e w1 ⟨rfl,rfl⟩;go_wp2;go_returns;go_light;exact⟨ac_ (by rw[ha.out,h1,h2];rfl),by go_grown⟩
theorem em_ (a:Option Addr)(n cap:Nat)(l:List Ct)(w:World)(h:A8 w a n l)(hstr:Co l)(hn:n<=4194304):
  Calls prog 96 #[.slice a n cap] w fun e w'=>e=.returned (.bool (AR l))∧Below w.heap.size w w':=by
 have he:Hid (l.length=n):=h.len;by_cases h2:n<=200
 ·have hc:Hid (AR l=(l.drop 0).all Ce):=by show _=_;simp[AR,he.out,h2]
  go_enter func96,ntmps96
  go_wp2_with fail
  go_loopw [3] (fun ix wr=>∃ (k:Nat),k<=n∧ix=.int .i64 k∧Hid (AR l=(l.drop k).all Ce)∧Below w.heap.size w wr) (fun ix _=>n-(intOf ix).toNat)
  case atStart=>exact⟨0,Zg _,rfl,hc,Yg _ _⟩
  case round=>
   obtain⟨k,hk,rfl,hI,hB⟩:=hrel;by_cases hlt:k<n
   ·obtain⟨b,o,p,rfl,hp,c0,c1,c2,c3⟩:=aN_ (h.below hB) hlt;have hd:Hid (l.drop k=p::l.drop (k+1)):=al_ hp;have hg:=hstr.at hp;clear hp;have hh:=hB.size
    cases hb:AN p.o
    ·go_wp2_with fail
     refine (bq_ p.o _ hg).mono ?_;rintro e w1 ⟨rfl,ha⟩;rw[hb];go_wp2;go_returns;go_light;refine⟨ac_ ?_,Aa hB ha⟩;rw[hI.out,hd.out];simp[Ce,hb]
    ·cases hf:(decide (-1000<=p.n)&&decide (p.n<=1000))
     ·go_wp2_with fail
      refine (bq_ p.o _ hg).mono ?_;rintro e w1 ⟨rfl,ha⟩;rw[hb];have e3:=Ab ha c3
      go_wp2_with fail
      refine (ai_ _ _ _ _).mono ?_;rintro e w2 ⟨rfl,rfl⟩;rw[hf];go_wp2;go_returns;go_light;refine⟨ac_ ?_,Aa hB ha⟩;rw[hI.out,hd.out];simp only[List.all_cons,Ce,hb,Zp,hf,Zr]
     ·cases hz:(p.n==0)
      all_goals
       go_wp2_with fail
       refine (bq_ p.o _ hg).mono ?_;rintro e w1 ⟨rfl,ha⟩;rw[hb];have e3:=Ab ha c3
       go_wp2_with fail
       refine (ai_ _ _ _ _).mono ?_;rintro e w2 ⟨rfl,rfl⟩;rw[hf];go_wp2
      ·go_roundw
       case rel=>exact⟨k+1,by omega,by go_num,by show _=_;rw[hI.out,hd.out];simp only[List.all_cons,Ce,hb,Zp,hf,hz,Bool.not_false],Aa hB ha⟩
       case measure=>simp[intOf];omega
      ·go_returns;go_light;refine⟨ac_ ?_,Aa hB ha⟩;rw[hI.out,hd.out];simp only[List.all_cons,Ce,hb,Zp,hf,hz,Bool.not_true,Zr]
   ·obtain rfl:k=n:=by omega
    go_wp2;go_returns;go_light;refine⟨ac_ ?_,hB⟩;rw[hI.out,Ze (Zm he.out)];rfl
 ·have hc:Hid (AR l=false):=by show _=_;have:=he.out;simp[AR];omega
  go_enter func96,ntmps96;go_wp2;go_returns;go_light;exact⟨ac_ hc.out.symm,Yg _ _⟩
theorem bV_ (a:Option Addr)(n cap:Nat)(l:List Ct)(w:World)(h:A8 w a n l)(hstr:Co l)(hn:n<=4194304):
  Calls prog 95 #[.slice a n cap] w fun e w'=>e=.returned (.bool (AI l))∧Below w.heap.size w w':=by
 have he:Hid (l.length=n):=h.len;by_cases h2:n<=200
 ·have hc:Hid (AI l=rgo (aheadC l 0) (l.drop 0)):=by show _=_;simp[AI,he.out,h2,aheadC]
  go_enter func95,ntmps95
  go_wp2_with fail
  go_loopw [3] (fun ix wr=>∃ (k:Nat),k<=n∧ix=.int .i64 k∧Hid (AI l=rgo (aheadC l k) (l.drop k))∧Below w.heap.size w wr) (fun ix _=>n-(intOf ix).toNat)
  case atStart=>exact⟨0,Zg _,rfl,hc,Yg _ _⟩
  case round=>
   obtain⟨k,hk,rfl,hI,hB⟩:=hrel;by_cases hlt:k<n
   ·obtain⟨b,o,p,rfl,hp,c0,c1,c2,c3⟩:=aN_ (h.below hB) hlt;have hd:Hid (l.drop k=p::l.drop (k+1)):=al_ hp;have hq:Hid (l[k]?=some p):=hp;have hg:=hstr.at hp;clear hp;have hu:=hB.size;have hs:(k:Int)<n:=by omega
    have ht:(0:Int)<=k:=by omega
    cases hb:AN p.o
    ·go_wp2_with fail
     have g0:=Ac c0;have g1:=Ac c1;have g2:=Ac c2;have g3:=Ac c3;have hj:=aA_ wr;refine ab_ (by kernel_rfl) (by kernel_rfl) ?_
     repeat (go_big_quiet_step (first | (go_at_call 142;have qq:=fun w=>bq_ p.o w hg;rw[hb] at qq;exact an_ (qq _))))
     refine wpQuiet_nil ?_;intro w2 hx;have ha:=ah_ hx;clear hx;go_wp2;go_returns;go_light;refine⟨ac_ ?_,Aa hB ha⟩;rw[hI.out,hd.out];cases aheadC l k<;>simp[rgo,DU,hb]
    ·cases hf:(decide (1<=p.n)&&decide (p.n<=1000))
     ·have hz:Hid (DU p=false):=by show _=_;simp only[DU,hb,Zp,hf]
      go_wp2_with fail
      have g0:=Ac c0;have g1:=Ac c1;have g2:=Ac c2;have g3:=Ac c3;have hj:=aA_ wr;refine ab_ (by kernel_rfl) (by kernel_rfl) ?_
      repeat (go_big_quiet_step (first | (go_at_call 142;have qq:=fun w=>bq_ p.o w hg;rw[hb] at qq;exact an_ (qq _)) | (go_at_call 25;have qq:=ai_ p.n 1 1000;rw[hf] at qq;exact am_ (qq _))))
      refine wpQuiet_nil ?_;intro w2 hx;have ha:=ah_ hx;clear hx;go_wp2;go_returns;go_light;refine⟨ac_ ?_,Aa hB ha⟩;rw[hI.out,hd.out];cases aheadC l k<;>simp[rgo,hz.out]
     ·have hr:Hid (DU p=true):=by show _=_;simp only[DU,hb,Zp,hf]
      rcases k with _ | j
      ·simp only[Nat.zero_mul,Nat.add_zero] at c0 c1 c2 c3
       go_wp2_with fail
       have g0:=Ac c0;have g1:=Ac c1;have g2:=Ac c2;have g3:=Ac c3;have hj:=aA_ wr;refine ab_ (by kernel_rfl) (by kernel_rfl) ?_
       repeat (go_big_quiet_step (first | (go_at_call 142;have qq:=fun w=>bq_ p.o w hg;rw[hb] at qq;exact an_ (qq _)) | (go_at_call 25;have qq:=ai_ p.n 1 1000;rw[hf] at qq;exact am_ (qq _))))
       refine wpQuiet_nil ?_;intro w2 hx;have ha:=ah_ hx;clear hx;go_wp2;go_roundw
       case rel=>exact⟨1,by omega,by go_num,by show _=_;rw[hI.out,hd.out,gH_,bU_,hq.out];simp[rgo,hr.out],Aa hB ha⟩
       case measure=>simp[intOf];omega
      ·obtain⟨b',o',q,hm,ho,d0,d1,d2,d3⟩:=aN_ (h.below hB) (k:=j) (by omega);obtain⟨rfl,rfl⟩:b=b'∧o=o':=by simpa using hm
       have hl:Hid (aheadC l (j+1)=some q):=by show _=_;rw[bU_];exact ho
       clear ho hm d3
       cases hh:Bk q.o p.o
       all_goals
        go_wp2_with fail
        have g0:=Ac c0;have g1:=Ac c1;have g2:=Ac c2;have g3:=Ac c3;have g4:=Ac d0;have g5:=Ac d1;have g6:=Ac d2;have hj:=aA_ wr;refine ab_ (by kernel_rfl) (by kernel_rfl) ?_
        repeat (go_big_quiet_step (first | (go_at_call 142;have qq:=fun w=>bq_ p.o w hg;rw[hb] at qq;exact an_ (qq _)) | (go_at_call 25;have qq:=ai_ p.n 1 1000;rw[hf] at qq;exact am_ (qq _)) | (go_at_call 143;have qq:=aF_ q.o p.o;rw[hh] at qq;exact an_ (qq _))))
        refine wpQuiet_nil ?_;intro w2 hx;have ha:=ah_ hx;clear hx;go_wp2
       ·go_returns;go_light;refine⟨ac_ ?_,Aa hB ha⟩;rw[hI.out,hd.out,hl.out];simp[rgo,hh]
       ·go_roundw
        case rel=>exact⟨j+2,by omega,by go_num,by show _=_;rw[hI.out,hd.out,hl.out,bU_,hq.out];simp[rgo,hh,hr.out],Aa hB ha⟩
        case measure=>simp[intOf];omega
   ·obtain rfl:k=n:=by omega
    go_wp2;go_returns;go_light;refine⟨ac_ ?_,hB⟩;rw[hI.out,Ze (Zm he.out)];cases aheadC l k<;>rfl
 ·have hc:Hid (AI l=false):=by show _=_;have:=he.out;simp[AI];omega
  go_enter func95,ntmps95;go_wp2;go_returns;go_light;exact⟨ac_ hc.out.symm,Yg _ _⟩
def Mp (B:Nat)(e:Ending)(w':World):Option (List Ct)->Prop
 |none=>e=.returned (.tuple #[.slice none 0 0,.bool false])
 |some L=>∃ a n cap,e=.returned (.tuple #[.slice a n cap,.bool true])∧Ad Ct.cs 4 68 w' B a n cap L
theorem je_ (a:Option Addr)(n cap:Nat)(l:List Ct)(a':Option Addr)(n' cap':Nat)(more:List Ct)(w:World)(h:A8 w a n l)(ha1:∀ ad,a=some ad->ad.spot=none)(ha2:a=none->cap=0)(h':A8 w a' n' more)(hstr:Co l)(hstr':Co more)(hn:n<=4194304)(hn':n'<=4194304):
  Calls prog 52 #[.slice a n cap,.slice a' n' cap'] w fun e w'=>Mp w.heap.size e w' (AB l more)∧Below w.heap.size w w':=by
 have hs:Hid (l.length=n):=h.len;have ho:Hid (more.length=n'):=h'.len
 cases hh:AI l
 ·have hf:AB l more=none:=by simp[AB,hh]
  rw[hf];go_enter func52,ntmps52
  go_wp2_with fail
  refine (bV_ a n cap l _ h hstr hn).mono ?_;rintro e w1 ⟨rfl,he⟩;rw[hh];go_wp2;go_returns;go_light;exact⟨rfl,he⟩
 ·cases ha:AR more
  ·have hf:AB l more=none:=by simp[AB,ha]
   rw[hf];go_enter func52,ntmps52
   go_wp2_with fail
   refine (bV_ a n cap l _ h hstr hn).mono ?_;rintro e w1 ⟨rfl,he⟩;rw[hh]
   go_wp2_with fail
   refine (em_ a' n' cap' more _ (h'.below he) hstr' hn').mono ?_;rintro e w2 ⟨rfl,hj⟩;rw[ha];have hc:=Aa he hj;go_wp2;go_returns;go_light;exact⟨rfl,hc⟩
  ·obtain⟨hl,hb⟩:=a0_ hh;obtain⟨hw,ht⟩:=br_ ha;have hu:n<=200:=by rw[<-hs.out];exact hl
   have hm:n'<=200:=by rw[<-ho.out];exact hw
   have hv:=ht_ hstr hstr'
   cases hg:AI (A7 l more)
   ·have hf:AB l more=none:=by simp[AB,hh,ha,hg]
    rw[hf];clear hf;go_enter func52,ntmps52
    go_wp2_with fail
    refine (bV_ a n cap l _ h hstr hn).mono ?_;rintro e w1 ⟨rfl,he⟩;rw[hh]
    go_wp2_with fail
    refine (em_ a' n' cap' more _ (h'.below he) hstr' hn').mono ?_;rintro e w2 ⟨rfl,hj⟩;rw[ha];have hc:=Aa he hj
    go_wp2_with fail
    refine (hs_ a n cap l a' n' cap' more w2 (h.below hc) ha1 ha2 (h'.below hc) hu hm (fun x hx=>by have:=hb x hx;omega) ht).mono ?_;rintro e w4 ⟨⟨a2,n2,cap2,rfl,hy,R2⟩,hp⟩;have hq:=Aa hc hp;replace R2:=R2.mono hc.size
    go_wp2_with fail
    refine (bV_ a2 n2 cap2 (A7 l more) _ R2.sl hv (by omega)).mono ?_;rintro e w6 ⟨rfl,hk⟩;rw[hg];have hr:=Aa hq hk;replace R2:=R2.below hk;go_wp2;go_returns;go_light;exact⟨rfl,hr⟩
   ·have hf:AB l more=some (A7 l more):=by simp[AB,hh,ha,hg]
    rw[hf];clear hf;go_enter func52,ntmps52
    go_wp2_with fail
    refine (bV_ a n cap l _ h hstr hn).mono ?_;rintro e w1 ⟨rfl,he⟩;rw[hh]
    go_wp2_with fail
    refine (em_ a' n' cap' more _ (h'.below he) hstr' hn').mono ?_;rintro e w2 ⟨rfl,hj⟩;rw[ha];have hc:=Aa he hj
    go_wp2_with fail
    refine (hs_ a n cap l a' n' cap' more w2 (h.below hc) ha1 ha2 (h'.below hc) hu hm (fun x hx=>by have:=hb x hx;omega) ht).mono ?_;rintro e w4 ⟨⟨a2,n2,cap2,rfl,hy,R2⟩,hp⟩;have hq:=Aa hc hp;replace R2:=R2.mono hc.size
    go_wp2_with fail
    refine (bV_ a2 n2 cap2 (A7 l more) _ R2.sl hv (by omega)).mono ?_;rintro e w6 ⟨rfl,hk⟩;rw[hg];have hr:=Aa hq hk;replace R2:=R2.below hk;go_wp2;go_returns;go_light;exact⟨⟨a2,n2,cap2,rfl,R2⟩,hr⟩
end
end Go.Proofs.YtkiceokhlceciaaGreatDoor
