/- Counts that are the same, and extents that somebody names, by the model. -/
import Derived.Lib.SliceRun
import Derived.Test.YtbbhcnjhohidnaaGreatDoorV08
set_option maxHeartbeats 20000000
set_option maxRecDepth 100000
namespace Go.Proofs.YtbbhcnjhohidnaaGreatDoor
section
open Go Go.RowKit Go.BigFrame Tryz
variable{α β:Type}{x:IR}{rs:List IR}{b:List Nat}{l:List Vo}{B B' cap i k n sz:Nat}{a:Option Addr}{row:Option Nat}{p:Po}{t t':TypeId}{r:VR}{v:Value}{y:Vo}{w w':World}{cs:α->List Value}
theorem ep_ (B:Nat)(hB0:0<B)(v:Value)(p:Po)(w:World)(h:PoolAt B w v p)(hd:DimP p):
  Calls prog 26 #[v] w fun e w'=>e=.returned (.bool (poolB p))∧Below w.heap.size w w':=by
 obtain⟨ea,en,ec,va,vn,vc,ra,rn,rc,la,ln,lc,rfl,⟨h1,k1⟩,⟨h2,k2⟩,⟨h3,k3⟩,h4,k4⟩:=h;obtain⟨z1,z2,z3,z4,z5,z6,z7,z8⟩:=hd;rw[h1.len] at z1;rw[h2.len] at z3;rw[h3.len] at z5;rw[h4.len] at z7;have n2:Hid (p.vs.length=vn):=h2.len;have n1:Hid (p.ex.length=en):=h1.len;obtain⟨size,next,ex,vs,rf,lt⟩:=p;simp only at h1 h2 h3 h4 z2 z4 z6 z8 n1 n2;have hR:Hid (poolB ⟨size,next,ex,vs,rf,lt⟩=(spaceOkB size ex&&decide (1<=next)&&decide (next<=1000000000)&&(decide (vs.length<=6)&&vgo next ex 0 vs)&&namesB vs&&(match flushedO rf lt with | none=>false | some s=>eqCts s (walkL vs))&&addrB ex (rf++lt))):=rfl;generalize poolB ⟨size,next,ex,vs,rf,lt⟩=R at *
 cases hH:spaceOkB size ex
 ·rw[hH] at hR;simp only[Zr] at hR;go_enter func26,ntmps26
  go_wp2_with fail
  refine (aT_ size ea en ec ex _ (h1.below (by go_grown)) z2 z1).mono ?_;rintro e w1 ⟨rfl,rfl⟩;rw[hH];go_wp2;go_returns;exact⟨by rw[hR.out];rfl,by go_grown⟩
 ·rw[hH,Zp] at hR
  cases hO:(decide (1<=next)&&decide (next<=1000000000))
  ·rw[hO] at hR;simp only[Zr] at hR;go_enter func26,ntmps26
   go_wp2_with fail
   refine (aT_ size ea en ec ex _ (h1.below (by go_grown)) z2 z1).mono ?_;rintro e w1 ⟨rfl,rfl⟩;rw[hH]
   go_wp2_with fail
   refine (ai_ next 1 1000000000 _).mono ?_;rintro e w1 ⟨rfl,rfl⟩;rw[hO];go_wp2;go_returns;exact⟨by rw[hR.out];rfl,by go_grown⟩
  ·rw[hO,Zp] at hR;have hW:1<=next∧next<=1000000000:=by simpa using hO
   by_cases h6:vn<=6
   ·rw[n2.out,decide_eq_true h6,Zp,<-kg_ hW.2] at hR;have qJ:=iI_ hH;go_enter func26,ntmps26
    go_wp2_with fail
    refine (aT_ size ea en ec ex _ (h1.below (by go_grown)) z2 z1).mono ?_;rintro e w1 ⟨rfl,qp⟩;rw[hH];have C:Blk w1 w.heap.size #[.int .i64 size,.int .i64 next,.slice ea en ec,.slice va vn vc,.slice ra rn rc,.slice la ln lc] 35:=by rw[qp];exact Blk.new w _ _
    have qw:Below w.heap.size w w1:=by rw[qp];go_grown
    clear qp;have c1:=C.cell 1;have c3:=C.cell 3;simp only[lgA,lgB,lgC] at c1 c3
    go_wp2_with fail
    refine (ai_ next 1 1000000000 _).mono ?_;rintro e w2 ⟨rfl,rfl⟩;rw[hO]
    go_wp2_with fail
    generalize hM:(match flushedO rf lt with | none=>false | some s=>eqCts s (walkL vs))=M at *;generalize qe:addrB ex (rf++lt)=AD at *;replace hM:Hid ((match flushedO rf lt with | none=>false | some s=>eqCts s (walkL vs))=M):=hM;replace qe:Hid (addrB ex (rf++lt)=AD):=qe;have hS:Hid (sgoV next ex [] vs=sgoV next ex (vs.take 0) (vs.drop 0)):=rfl;have qK:Hid (sgoV next ex [] vs=(vgo next ex 0 vs&&namesB vs)):=kg_ hW.2;generalize sgoV next ex [] vs=S at *
    go_loopw [3] (fun ix wr=>∃ (i:Nat),i<=vn∧ix=.int .i64 i∧Hid (S=sgoV next ex (vs.take i) (vs.drop i))∧Blk wr w.heap.size #[.int .i64 size,.int .i64 next,.slice ea en ec,.slice va vn vc,.slice ra rn rc,.slice la ln lc] 35∧Below w.heap.size w wr) (fun ix _=>vn-(intOf ix).toNat)
    case atStart=>exact⟨0,Zg _,rfl,hS,C,qw⟩
    case round=>
     clear c1 c3 C qw hS;obtain⟨i,hi,rfl,hI,C',hB⟩:=hrel;have d1:=C'.cell 1;have d2:=C'.cell 2;have d3:=C'.cell 3;simp only[lgA,lgB,lgC] at d1 d2 d3;by_cases hlt:i<vn
     ·obtain⟨b,o,x,qa,qn,qc,rfl,hx,e0,e1,e2,e3,hP,_,_⟩:=b5_ (h2.below hB) hlt
      have hb:Hid (S=(idB next (if i=0 then none else vs[i-1]?) x&&(nameB x.nm&&itemsB x.its ex)&&!((vs.take i).any (fun u=>sameN u x))&&sgoV next ex (vs.take (i+1)) (vs.drop (i+1)))):=by
       show _=_;rw[hI.out,al_ hx,sgoV,nf_ (by rw[n2.out];omega),bx_ hx]
      obtain⟨m1,m2,m3⟩:=z4 x (Zc hx);rw[hP.len] at m2;have hA:=fun (u:World) (hu:Below wr.heap.size wr u)=>lF_ B x qa qn qc ea en ec ex u (hP.below hu) ((h1.below hB).below hu) z2 z1 qJ m1 m2 m3;have qD:(i:Int)<vn:=by omega
      have qC:(0:Int)<=i:=by omega
      have h5:0<i->∃ y,vs[i-1]?=some y∧wr.cell? ⟨b,o+(i-1)*4,none⟩=some (.int .i64 y.id):=fun h0=>by
       obtain⟨b',o',y,_,_,_,qd,hy,f0,_⟩:=b5_ (h2.below hB) (show i-1<vn by omega);obtain⟨rfl,rfl⟩:b=b'∧o=o':=by simpa using qd
       exact⟨y,hy,f0⟩
      clear hx hI;have hn:Below wr.heap.size wr (wr.alloc (.cells #[.int .i64 x.id,.string x.nm,.bool x.fx,.slice qa qn qc] 97)):=by go_grown
      have X:=Blk.new wr #[.int .i64 x.id,.string x.nm,.bool x.fx,.slice qa qn qc] 97;have X0:(wr.alloc (.cells #[.int .i64 x.id,.string x.nm,.bool x.fx,.slice qa qn qc] 97)).cell? ⟨wr.heap.size,0,none⟩=some (.int .i64 x.id):=X.cell 0;have X1:(wr.alloc (.cells #[.int .i64 x.id,.string x.nm,.bool x.fx,.slice qa qn qc] 97)).cell? ⟨wr.heap.size,1,none⟩=some (.string x.nm):=X.cell 1;have X2:(wr.alloc (.cells #[.int .i64 x.id,.string x.nm,.bool x.fx,.slice qa qn qc] 97)).cell? ⟨wr.heap.size,2,none⟩=some (.bool x.fx):=X.cell 2;have X3:(wr.alloc (.cells #[.int .i64 x.id,.string x.nm,.bool x.fx,.slice qa qn qc] 97)).cell? ⟨wr.heap.size,3,none⟩=some (.slice qa qn qc):=X.cell 3;have g0:=gcell X0;have g1:=gcell X1;have g2:=gcell X2;have g3:=gcell X3;have g5:=gcell (bcell hn d1);have g6:=gcell (bcell hn d2);have g7:=gcell (bcell hn d3);have hE:=aA_ (wr.alloc (.cells #[.int .i64 x.id,.string x.nm,.bool x.fx,.slice qa qn qc] 97))
      cases hm:(decide (1<=x.id)&&decide (x.id<=1000000000))
      ·have hf:idB next (if i=0 then none else vs[i-1]?) x=false:=by unfold idB;rw[hm];simp
       rw[hf] at hb;simp only[Zr] at hb
       go_wp2_with fail
       refine ab_ (by kernel_rfl) (by kernel_rfl) ?_
       repeat (go_big_quiet_step (first | (go_at_call 52;have qq:=fun u:World=>ai_ x.id 1 1000000000 u;rw[hm] at qq;exact am_ (qq _))))
       refine wpQuiet_nil ?_;intro w2 he;have hg:=chain hn (ah_ he);have hD:=bcell (ah_ he) X1;have C2:=C'.below hg;clear he;go_wp2;go_returns;exact⟨by rw[hR.out,hb.out];rfl,chain hB hg⟩
      ·by_cases hnb:x.id<next
       ·have ql:decide (next<=x.id)=false:=decide_eq_false (by omega);by_cases h0:0<i
        ·obtain⟨y,hy,f0⟩:=h5 h0;have g8:=gcell (bcell hn f0);have qN:decide ((0:Int)<(i:Int))=true:=decide_eq_true (by omega);have qS:((i:Int)-1).toNat=i-1:=by omega
         rw[if_neg (by omega),hy] at hb;by_cases hyx:y.id<x.id
         ·have qo:decide (x.id<=y.id)=false:=decide_eq_false (by omega);have hf:idB next (some y) x=true:=by unfold idB;rw[hm];simp[hnb,hyx]
          rw[hf] at hb;simp only[Zp] at hb
          cases hz:(nameB x.nm&&itemsB x.its ex)
          ·rw[hz] at hb;simp only[Zr] at hb
           go_wp2_with fail
           refine ab_ (by kernel_rfl) (by kernel_rfl) ?_
           repeat (go_big_quiet_step (first | (go_at_call 52;have qq:=fun u:World=>ai_ x.id 1 1000000000 u;rw[hm] at qq;exact am_ (qq _)) | (go_at_call 53;have qq:=fun (u:World) (hu:Below wr.heap.size wr u)=>hA u hu;rw[hz] at qq;exact an_ (qq _ (chain hn (Grw.h _))))))
           refine wpQuiet_nil ?_;intro w2 he;have hg:=chain hn (ah_ he);have hD:=bcell (ah_ he) X1;have C2:=C'.below hg;clear he;go_wp2;go_returns;exact⟨by rw[hR.out,hb.out];rfl,chain hB hg⟩
          ·rw[hz] at hb;simp only[Zp] at hb
           go_wp2_with fail
           refine ab_ (by kernel_rfl) (by kernel_rfl) ?_
           repeat (go_big_quiet_step (first | (go_at_call 52;have qq:=fun u:World=>ai_ x.id 1 1000000000 u;rw[hm] at qq;exact am_ (qq _)) | (go_at_call 53;have qq:=fun (u:World) (hu:Below wr.heap.size wr u)=>hA u hu;rw[hz] at qq;exact an_ (qq _ (chain hn (Grw.h _))))))
           refine wpQuiet_nil ?_;intro w2 he;have hg:=chain hn (ah_ he);have hD:=bcell (ah_ he) X1;have C2:=C'.below hg;clear he;have hV:=chain hB hg;clear hg hn g0 g1 g2 g3 g5 g6 g7 hE X X0 X1 X2 X3
           go_wp2_with fail
           go_loopw [5] (fun ix wq=>∃ (k:Nat),k<=i∧ix=.int .i64 k∧Hid ((vs.take i).any (fun u=>sameN u x)=((vs.take i).drop k).any (fun u=>sameN u x))∧Below w2.heap.size w2 wq) (fun ix _=>i-(intOf ix).toNat)
           case atStart=>exact⟨0,Zg _,rfl,rfl,Below.refl _ _⟩
           case round=>
            obtain⟨k,hk,rfl,hJ,ho⟩:=hrel;have C3:=C2.below ho;have y3:=C3.cell 3;simp only[lgA,lgB,lgC] at y3;have y1:=bcell ho hD;by_cases hlk:k<i
            ·obtain⟨b',o',u,_,_,_,qd,hu,_,f1,_,_,_,_,_⟩:=b5_ (h2.below (chain hV ho)) (show k<vn by omega);obtain⟨rfl,rfl⟩:b=b'∧o=o':=by simpa using qd
             have qs:(vs.take i)[k]?=some u:=by rw[Ya hlk];exact hu
             have qg:Hid ((vs.take i).any (fun u=>sameN u x)=(sameN u x||((vs.take i).drop (k+1)).any (fun u=>sameN u x))):=by show _=_;rw[hJ.out,al_ qs];rfl
             clear hu qs qd hJ;have qO:(k:Int)<vn:=by omega
             have qF:(0:Int)<=k:=by omega
             have hC:sameN u x=(u.nm.toList==x.nm.toList):=rfl
             cases h8:(u.nm.toList==x.nm.toList)
             ·rw[hC,h8,Bool.false_or] at qg;have qm:¬ u.nm.toList=x.nm.toList:=by simpa using h8
              go_wp2_with fail
              go_quiet (fail)
              have qk:=chain ho (drewNB _ nq);go_wp2;go_roundw
              case rel=>exact⟨k+1,by omega,by go_num,qg,qk⟩
              case measure=>simp[intOf];omega
             ·rw[hC,h8,Bool.true_or] at qg;have qm:u.nm.toList=x.nm.toList:=by simpa using h8
              rw[qg.out] at hb;simp only[Bool.not_true,Zr] at hb
              go_wp2_with fail
              go_quiet (fail)
              have qk:=chain ho (drewNB _ nq);go_wp2;go_returns;exact⟨by rw[hR.out,hb.out];rfl,chain hV qk⟩
            ·obtain rfl:k=i:=by omega
             have ha:(vs.take k).any (fun u=>sameN u x)=false:=by rw[hJ.out,Ze (by simp;omega)];rfl
             rw[ha] at hb;simp only[Bool.not_false,Zp] at hb;go_wp2;go_roundw
             case rel=>exact⟨k+1,by omega,by go_num,hb,C3,chain hV ho⟩
             case measure=>simp[intOf];omega
         ·have qo:decide (x.id<=y.id)=true:=decide_eq_true (by omega);have hf:idB next (some y) x=false:=by unfold idB;simp[hyx]
          rw[hf] at hb;simp only[Zr] at hb
          go_wp2_with fail
          refine ab_ (by kernel_rfl) (by kernel_rfl) ?_
          repeat (go_big_quiet_step (first | (go_at_call 52;have qq:=fun u:World=>ai_ x.id 1 1000000000 u;rw[hm] at qq;exact am_ (qq _))))
          refine wpQuiet_nil ?_;intro w2 he;have hg:=chain hn (ah_ he);have hD:=bcell (ah_ he) X1;have C2:=C'.below hg;clear he;go_wp2;go_returns;exact⟨by rw[hR.out,hb.out];rfl,chain hB hg⟩
        ·have qN:decide ((0:Int)<(i:Int))=false:=decide_eq_false (by omega);rw[if_pos (by omega)] at hb;have hf:idB next none x=true:=by unfold idB;rw[hm];simp[hnb]
         rw[hf] at hb;simp only[Zp] at hb
         cases hz:(nameB x.nm&&itemsB x.its ex)
         ·rw[hz] at hb;simp only[Zr] at hb
          go_wp2_with fail
          refine ab_ (by kernel_rfl) (by kernel_rfl) ?_
          repeat (go_big_quiet_step (first | (go_at_call 52;have qq:=fun u:World=>ai_ x.id 1 1000000000 u;rw[hm] at qq;exact am_ (qq _)) | (go_at_call 53;have qq:=fun (u:World) (hu:Below wr.heap.size wr u)=>hA u hu;rw[hz] at qq;exact an_ (qq _ (chain hn (Grw.h _))))))
          refine wpQuiet_nil ?_;intro w2 he;have hg:=chain hn (ah_ he);have hD:=bcell (ah_ he) X1;have C2:=C'.below hg;clear he;go_wp2;go_returns;exact⟨by rw[hR.out,hb.out];rfl,chain hB hg⟩
         ·rw[hz] at hb;simp only[Zp] at hb
          go_wp2_with fail
          refine ab_ (by kernel_rfl) (by kernel_rfl) ?_
          repeat (go_big_quiet_step (first | (go_at_call 52;have qq:=fun u:World=>ai_ x.id 1 1000000000 u;rw[hm] at qq;exact am_ (qq _)) | (go_at_call 53;have qq:=fun (u:World) (hu:Below wr.heap.size wr u)=>hA u hu;rw[hz] at qq;exact an_ (qq _ (chain hn (Grw.h _))))))
          refine wpQuiet_nil ?_;intro w2 he;have hg:=chain hn (ah_ he);have hD:=bcell (ah_ he) X1;have C2:=C'.below hg;clear he;have hV:=chain hB hg;clear hg hn g0 g1 g2 g3 g5 g6 g7 hE X X0 X1 X2 X3
          go_wp2_with fail
          go_loopw [5] (fun ix wq=>∃ (k:Nat),k<=i∧ix=.int .i64 k∧Hid ((vs.take i).any (fun u=>sameN u x)=((vs.take i).drop k).any (fun u=>sameN u x))∧Below w2.heap.size w2 wq) (fun ix _=>i-(intOf ix).toNat)
          case atStart=>exact⟨0,Zg _,rfl,rfl,Below.refl _ _⟩
          case round=>
           obtain⟨k,hk,rfl,hJ,ho⟩:=hrel;have C3:=C2.below ho;have y3:=C3.cell 3;simp only[lgA,lgB,lgC] at y3;have y1:=bcell ho hD;by_cases hlk:k<i
           ·exact absurd hlk (by omega)
           ·obtain rfl:k=i:=by omega
            have ha:(vs.take k).any (fun u=>sameN u x)=false:=by rw[hJ.out,Ze (by simp;omega)];rfl
            rw[ha] at hb;simp only[Bool.not_false,Zp] at hb;go_wp2;go_roundw
            case rel=>exact⟨k+1,by omega,by go_num,hb,C3,chain hV ho⟩
            case measure=>simp[intOf];omega
       ·have ql:decide (next<=x.id)=true:=decide_eq_true (by omega);have hf:idB next (if i=0 then none else vs[i-1]?) x=false:=by unfold idB;simp[hnb]
        rw[hf] at hb;simp only[Zr] at hb
        go_wp2_with fail
        refine ab_ (by kernel_rfl) (by kernel_rfl) ?_
        repeat (go_big_quiet_step (first | (go_at_call 52;have qq:=fun u:World=>ai_ x.id 1 1000000000 u;rw[hm] at qq;exact am_ (qq _))))
        refine wpQuiet_nil ?_;intro w2 he;have hg:=chain hn (ah_ he);have hD:=bcell (ah_ he) X1;have C2:=C'.below hg;clear he;go_wp2;go_returns;exact⟨by rw[hR.out,hb.out];rfl,chain hB hg⟩
     ·obtain rfl:i=vn:=by omega
      have d4:=C'.cell 4;have d5:=C'.cell 5;simp only[lgA,lgB,lgC] at d4 d5;have qt:S=true:=by rw[hI.out,Ze (Zm n2.out)];rfl
      have qL:vgo next ex 0 vs=true:=by have:=qK.out;rw[qt] at this;simp at this;exact this.1
      have qG:=g2_ (by rw[n2.out];omega) qL;rw[qt,Zp] at hR
      go_wp2_with fail
      refine (je_ ra rn rc rf la ln lc lt _ (h3.below hB) (k3.1.2.2 hB0).2 (k3.1.2.2 hB0).1 (h4.below hB) z6 z8 z5 z7).mono ?_;rintro e wf ⟨hr,hK⟩;have C4:=C'.below hK;replace hK:=chain hB hK;clear d1 d2 d3 d4 d5 C' hB
      cases hw:flushedO rf lt with
      |none=>
       rw[hw] at hr hM;replace hr:e=.returned (.tuple #[.slice none 0 0,.bool false]):=hr;subst hr;have qH:M=false:=hM.out.symm;rw[qH] at hR;clear hw;go_wp2;go_returns;exact⟨by rw[hR.out];rfl,hK⟩
      |some sm=>
       rw[hw] at hr hM;replace hM:Hid (eqCts sm (walkL vs)=M):=hM;obtain⟨a3,n3,cap3,rfl,R3⟩:=hr
       have qR:n3<=200:=by
        have hl:=R3.sl.len;unfold flushedO at hw;split at hw
        ·split at hw
         ·rename_i hh;obtain rfl:=Zi hw;have:=(a0_ hh).1;omega
         ·cases hw
        ·cases hw
       clear hw;have d3:=C4.cell 3;simp only[lgA,lgB,lgC] at d3
       go_wp2_with fail
       refine (ir_ B va i vc vs _ (h2.below hK) qG).mono ?_;rintro e wg ⟨⟨a4,n4,cap4,rfl,qQ,R4⟩,hU⟩;replace R3:=R3.below hU;replace C4:=C4.below hU;replace hU:=chain hK hU;clear d3 hK
       go_wp2_with fail
       refine (ki_ a3 n3 cap3 sm a4 n4 cap4 (walkL vs) _ R3.sl R4.sl (by omega) (by omega)).mono ?_;rintro e wh ⟨rfl,hT⟩;rw[hM.out];replace C4:=C4.below hT;replace hT:=chain hU hT;clear R3 R4 hU hM
       cases M
       ·go_wp2;go_returns;exact⟨by rw[hR.out];rfl,hT⟩
       ·rw[Zp] at hR
        go_wp2_with fail
        have qu:Hid (AD=((ex.drop 0).all (fun x=>(rf++lt).any (fun c=>c.o.a==x.a))&&(rf++lt).all (fun c=>ex.any (fun x=>x.a==c.o.a)))):=qe.out.symm;clear qe;generalize h9:(rf++lt).all (fun c=>ex.any (fun x=>x.a==c.o.a))=AL at *;replace h9:Hid ((rf++lt).all (fun c=>ex.any (fun x=>x.a==c.o.a))=AL):=h9
        go_loopw [8] (fun ix wr=>∃ (k:Nat),k<=en∧ix=.int .i64 k∧Hid (AD=((ex.drop k).all (fun x=>(rf++lt).any (fun c=>c.o.a==x.a))&&AL))∧Blk wr w.heap.size #[.int .i64 size,.int .i64 next,.slice ea en ec,.slice va i vc,.slice ra rn rc,.slice la ln lc] 35∧Below w.heap.size w wr) (fun ix _=>en-(intOf ix).toNat)
        case atStart=>exact⟨0,Zg _,rfl,qu,C4,hT⟩
        case round=>
         clear C4 hT qu;obtain⟨k,hk,rfl,qf,C5,hF⟩:=hrel;have d0:=C5.cell 0;have d1:=C5.cell 1;have d2:=C5.cell 2;have d3:=C5.cell 3;have d4:=C5.cell 4;have d5:=C5.cell 5;simp only[lgA,lgB,lgC] at d0 d1 d2 d3 d4 d5;by_cases hlt:k<en
         ·obtain⟨b,o,x,rfl,hx,c0,c1⟩:=be_ (h1.below hF) hlt;have hd:Hid (ex.drop k=x::ex.drop (k+1)):=al_ hx;have qD:(k:Int)<en:=by omega
          have qC:(0:Int)<=k:=by omega
          clear hx c1;have hp:=fun (u:World) (hu:Below wr.heap.size wr u)=>gJ_ size next (some ⟨b,o,none⟩) en ec va i vc ra rn rc la ln lc rf lt x.a u ((h3.below hF).below hu) ((h4.below hF).below hu) z5 z7;have g0:=gcell d0;have g1:=gcell d1;have g2:=gcell d2;have g3:=gcell d3;have g4:=gcell d4;have g5:=gcell d5;have gx:=gcell c0;have hE:=aA_ wr
          cases ha:(rf++lt).any (fun c=>c.o.a==x.a)
          ·have hQ:Hid (AD=false):=by show _=_;rw[qf.out,hd.out,List.all_cons,ha];rfl
           go_wp2_with fail
           refine ab_ (by kernel_rfl) (by kernel_rfl) ?_
           repeat (go_big_quiet_step (first | (go_at_call 57;have qq:=hp;rw[ha] at qq;exact an_ (qq _ (Grw.h _)))))
           refine wpQuiet_nil ?_;intro w6 ht;have hL:=chain hF (ah_ ht);clear ht g0 g1 g2 g3 g4 g5 gx hE ha hp;go_wp2;go_returns;exact⟨by rw[hR.out,hQ.out];rfl,hL⟩
          ·have hQ:Hid (AD=((ex.drop (k+1)).all (fun x=>(rf++lt).any (fun c=>c.o.a==x.a))&&AL)):=by show _=_;rw[qf.out,hd.out,List.all_cons,ha];rfl
           go_wp2_with fail
           refine ab_ (by kernel_rfl) (by kernel_rfl) ?_
           repeat (go_big_quiet_step (first | (go_at_call 57;have qq:=hp;rw[ha] at qq;exact an_ (qq _ (Grw.h _)))))
           refine wpQuiet_nil ?_;intro w6 ht;have C6:=C5.below (ah_ ht);have hL:=chain hF (ah_ ht);clear ht g0 g1 g2 g3 g4 g5 gx hE ha hp;go_wp2;go_roundw
           case rel=>exact⟨k+1,by omega,by go_num,hQ,C6,hL⟩
           case measure=>simp[intOf];omega
         ·obtain rfl:k=en:=by omega
          have hQ:Hid (AD=AL):=by show _=_;rw[qf.out,Ze (Zm n1.out)];rfl
          clear qf;obtain⟨wi,qM⟩:∃ x,x=wr:=⟨_,rfl⟩;subst qM;have qE:=C5.lt;obtain⟨i0,qx,qz,qA,qy⟩:=info_parts infoC
          go_wp2_with fail
          go_region_held3 (fun u=>u.cell? ⟨w.heap.size,4,none⟩=some (.slice ra rn rc)∧u.cell? ⟨w.heap.size,5,none⟩=some (.slice la ln lc)) (go_keep) (first
           |(refine aJ_ rfl (ay_ _ _ 33 rfl wi.heap.size 107 i0 (.agg #[.int .i64 0,.int .i64 0,.string .empty,.int .i64 0]) 40 underlying33 qx qz qA qy rfl (by decide) aS_ a9_ a11 rn cap11 ([]++rf) rfl qr la ln lc lt rfl (h4.below (chain hF hs)) (k4.1.2.2 hB0).2 (k4.1.2.2 hB0).1 (rn+ln) rfl (by unfold maxLen;omega) (by omega) hN ?_);intro a13 cap13 qb qv hY;have hv:Below wi.heap.size wi qb:=(Below.grown hs hY hN (aG_ fun ad qh=>(qr.block ad qh).1));have y14:=bcell hv d4;have y15:=bcell hv d5)
           |(refine aJ_ rfl (ay_ _ _ 33 rfl wi.heap.size 107 i0 (.agg #[.int .i64 0,.int .i64 0,.string .empty,.int .i64 0]) 40 underlying33 qx qz qA qy rfl (by decide) aS_ a9_ _ 0 0 [] rfl (by first | exact aw_ (Blk.new' wi _ _ _ rfl).drew (Zd _) | exact aw_ (Blk.new' wi _ _ _ rfl) (Zd _)) ra rn rc rf rfl (h3.below (chain hF (by go_grown))) (k3.1.2.2 hB0).2 (k3.1.2.2 hB0).1 rn (Zq _) (by unfold maxLen;omega) (by omega) (by first | exact Nat.le_succ _ | (simp;omega) | simp) ?_);intro a11 cap11 qB qr hZ;have hs:Below wi.heap.size wi qB:=(Below.grown (by go_grown) hZ (by first | exact Nat.le_succ _ | (simp;omega) | simp) (aG_ fun ad qh=>(by cases qh;exact Zd _)));have hN:wi.heap.size<=qB.heap.size:=hs.size;have y4:=bcell hs d4;have y5:=bcell hs d5))
          have qI:=C5.below hv;have qj:=chain hF hv;clear y4 y5 hs hN qr hZ hY hv d0 d1 d2 d3 d4 d5 C5 qE;have L13:CtsAt qb a13 (rn+ln) (rf++lt):=qv.sl;have n13:Hid ((rf++lt).length=rn+ln):=L13.len;clear qv;have hX:Hid (AL=((rf++lt).drop 0).all (fun c=>ex.any (fun x=>x.a==c.o.a))):=h9.out.symm;clear h9
          go_wp2_with fail
          go_loopw [10] (fun ix wq=>∃ (j:Nat),j<=rn+ln∧ix=.int .i64 j∧Hid (AL=((rf++lt).drop j).all (fun c=>ex.any (fun x=>x.a==c.o.a)))∧Below qb.heap.size qb wq) (fun ix _=>rn+ln-(intOf ix).toNat)
          case atStart=>exact⟨0,Zg _,rfl,hX,Below.refl _ _⟩
          case round=>
           clear hX;obtain⟨j,hj,rfl,hJ,ho⟩:=hrel;have qP:=qI.below ho;have d2:=qP.cell 2;simp only[lgA,lgB,lgC] at d2;have hG:=chain qj ho;by_cases hlj:j<rn+ln
           ·obtain⟨b,o,c,rfl,hc,c0,_,_,_⟩:=aN_ (L13.below ho) hlj;have hd:Hid ((rf++lt).drop j=c::(rf++lt).drop (j+1)):=al_ hc;have qD:(j:Int)<((rn+ln:Nat):Int):=by omega
            have qC:(0:Int)<=j:=by omega
            clear hc;have h7:=fun (u:World) (hu:Below wr.heap.size wr u)=>iC_ ea k ec ex c.o.a u ((h1.below hG).below hu) z1;have hq:=mA_ c.o.a ex 0;have g2:=gcell d2;have gx:=gcell c0;have hE:=aA_ wr
            cases ha:ex.any (fun x=>x.a==c.o.a)
            ·have qi:Hid (AL=false):=by show _=_;rw[hJ.out,hd.out,List.all_cons,ha];rfl
             rw[ha] at hq;replace hq:decide (atG c.o.a 0 ex<0)=true:=hq
             go_wp2_with fail
             refine ab_ (by kernel_rfl) (by kernel_rfl) ?_
             repeat (go_big_quiet_step (first | (go_at_call 58;exact am_ (h7 _ (Grw.h _)))))
             refine wpQuiet_nil ?_;intro w6 ht;have hL:=chain hG (ah_ ht);clear ht g2 gx hE ha h7;go_wp2;go_returns;exact⟨by rw[hR.out,hQ.out,qi.out];rfl,hL⟩
            ·have qi:Hid (AL=((rf++lt).drop (j+1)).all (fun c=>ex.any (fun x=>x.a==c.o.a))):=by show _=_;rw[hJ.out,hd.out,List.all_cons,ha];rfl
             rw[ha] at hq;replace hq:decide (atG c.o.a 0 ex<0)=false:=hq
             go_wp2_with fail
             refine ab_ (by kernel_rfl) (by kernel_rfl) ?_
             repeat (go_big_quiet_step (first | (go_at_call 58;exact am_ (h7 _ (Grw.h _)))))
             refine wpQuiet_nil ?_;intro w6 ht;have hL:=chain ho (ah_ ht);clear ht g2 gx hE ha h7;go_wp2;go_roundw
             case rel=>exact⟨j+1,by omega,by go_num,qi,hL⟩
             case measure=>simp[intOf];omega
           ·obtain rfl:j=rn+ln:=by omega
            go_wp2;go_returns;exact⟨by rw[hR.out,hQ.out,hJ.out,Ze (Zm n13.out)];rfl,hG⟩
   ·rw[n2.out,decide_eq_false h6] at hR;simp only[Zr] at hR;go_enter func26,ntmps26
    go_wp2_with fail
    refine (aT_ size ea en ec ex _ (h1.below (by go_grown)) z2 z1).mono ?_;rintro e w1 ⟨rfl,rfl⟩;rw[hH]
    go_wp2_with fail
    refine (ai_ next 1 1000000000 _).mono ?_;rintro e w1 ⟨rfl,rfl⟩;rw[hO];go_wp2;go_returns;exact⟨by rw[hR.out];rfl,by go_grown⟩
theorem bL_ (h:poolB p=true):p.vs.length<=6∧vgo p.next p.ex 0 p.vs=true∧p.next<=1000000000∧spaceOkB p.size p.ex=true∧(p.vs.map (·.nm.toList)).Nodup:=by
 simp only[poolB,volsB,namesB,Zf,ZU] at h;exact⟨h.1.1.1.2.1,h.1.1.1.2.2,h.1.1.1.1.2,h.1.1.1.1.1.1,h.1.1.2⟩
structure RowT (B:Nat)(w:World)(r:IR)(y:It):Prop where
 nm:r.nm=y.nm
 ps:ResAt Pt.cs 3 162 w B r.pa r.pn r.pc y.ps
structure RowsT (B:Nat)(w:World)(rows:List IR)(l:List It):Prop where
 len:rows.length=l.length
 at':∀ (i:Nat) r y,rows[i]?=some r->l[i]?=some y->RowT B w r y
structure VolT (B:Nat)(w:World)(r:VR)(y:Vo):Prop where
 id:r.id=y.id
 nm:r.nm=y.nm
 fx:r.fx=y.fx
 its:∃ rows,ResAt irs 2 156 w B r.pa r.pn r.pc rows∧RowsT B w rows y.its
structure VolsT (B:Nat)(w:World)(rows:List VR)(l:List Vo):Prop where
 len:rows.length=l.length
 at':∀ (i:Nat) r y,rows[i]?=some r->l[i]?=some y->VolT B w r y
theorem RowT.below {r:IR}{y:It}(h:RowT B w r y)(hb:Below w.heap.size w w'):RowT B w' r y:=⟨h.nm,h.ps.below hb⟩
theorem RowsT.below {rows:List IR}{l:List It}(h:RowsT B w rows l)(hb:Below w.heap.size w w'):RowsT B w' rows l:=⟨h.len,fun i r y h1 h2=>(h.at' i r y h1 h2).below hb⟩
theorem VolT.below (h:VolT B w r y)(hb:Below w.heap.size w w'):VolT B w' r y:=by
 obtain⟨h1,h2,h3,rows,R,T⟩:=h;exact⟨h1,h2,h3,rows,R.below hb,T.below hb⟩
theorem VolsT.below {rows:List VR}(h:VolsT B w rows l)(hb:Below w.heap.size w w'):VolsT B w' rows l:=⟨h.len,fun i r y h1 h2=>(h.at' i r y h1 h2).below hb⟩
theorem RowT.mono {r:IR}{y:It}(h:RowT B w r y)(hb:B'<=B):RowT B' w r y:=⟨h.nm,h.ps.mono hb⟩
theorem RowsT.mono {rows:List IR}{l:List It}(h:RowsT B w rows l)(hb:B'<=B):RowsT B' w rows l:=⟨h.len,fun i r y h1 h2=>(h.at' i r y h1 h2).mono hb⟩
theorem VolT.mono (h:VolT B w r y)(hb:B'<=B):VolT B' w r y:=by
 obtain⟨h1,h2,h3,rows,R,T⟩:=h;exact⟨h1,h2,h3,rows,R.mono hb,T.mono hb⟩
theorem VolsT.mono {rows:List VR}(h:VolsT B w rows l)(hb:B'<=B):VolsT B' w rows l:=⟨h.len,fun i r y h1 h2=>(h.at' i r y h1 h2).mono hb⟩
theorem RowsT.ty {rows:List IR}{l:List It}(h:RowsT B w rows l)(hg:w.grownBy w' row)(hr:RowTy w row t')(ht:(162:TypeId)≠t'):RowsT B w' rows l:=⟨h.len,fun i r y h1 h2=>⟨(h.at' i r y h1 h2).nm,(h.at' i r y h1 h2).ps.ty hg hr ht⟩⟩
theorem VolT.ty (h:VolT B w r y)(hg:w.grownBy w' row)(hr:RowTy w row t')(ht:(162:TypeId)≠t')(ht':(156:TypeId)≠t'):VolT B w' r y:=by
 obtain⟨h1,h2,h3,rows,R,T⟩:=h;exact⟨h1,h2,h3,rows,R.ty hg hr ht',T.ty hg hr ht⟩
theorem VolsT.ty {rows:List VR}(h:VolsT B w rows l)(hg:w.grownBy w' row)(hr:RowTy w row t')(ht:(162:TypeId)≠t')(ht':(156:TypeId)≠t'):VolsT B w' rows l:=⟨h.len,fun i r y h1 h2=>(h.at' i r y h1 h2).ty hg hr ht ht'⟩
theorem kl_ {R:α->β->Prop}{rows:List α}{l:List β}{r:α}{y:β}(hl:rows.length=l.length)(h:∀ (i:Nat) r y,rows[i]?=some r->l[i]?=some y->R r y)(h':R r y):∀ (i:Nat) q z,(rows++[r])[i]?=some q->(l++[y])[i]?=some z->R q z:=by
 intro i q z h1 h2;by_cases hi:i<rows.length
 ·rw[ZD hi] at h1;rw[ZD (by rw[<-hl];exact hi)] at h2;exact h i q z h1 h2
 ·rw[Zv (by omega)] at h1;rw[Zv (by rw[<-hl];omega)] at h2;have h0:i-rows.length=0:=by have:=(Zb.1 h1).1;simp at this;omega
  rw[h0] at h1;rw[<-hl,h0] at h2;simp at h1 h2;subst h1 h2;exact h'
theorem mB_ {R:α->β->Prop}{rows:List α}{l:List β}{r:α}{y:β}(h:∀ (i:Nat) r y,rows[i]?=some r->l[i]?=some y->R r y)(h':R r y):∀ (i:Nat) q z,(rows.set k r)[i]?=some q->(l.set k y)[i]?=some z->R q z:=by
 intro i q z h1 h2;by_cases hi:k=i
 ·subst hi;have e1:=(Zb.1 h1).1;have e2:=(Zb.1 h2).1;rw[List.length_set] at e1 e2;rw[Zx e1] at h1;rw[Zx e2] at h2
  cases h1;cases h2
  exact h'
 ·rw[ZJ hi] at h1 h2;exact h i q z h1 h2
theorem RowsT.nil (B:Nat)(w:World):RowsT B w [] []:=⟨rfl,fun i r y h=>by simp at h⟩
theorem VolsT.nil (B:Nat)(w:World):VolsT B w [] []:=⟨rfl,fun i r y h=>by simp at h⟩
theorem RowsT.snoc {rows:List IR}{l:List It}{r:IR}{y:It}(h:RowsT B w rows l)(h':RowT B w r y):RowsT B w (rows++[r]) (l++[y]):=⟨by simp[h.len],kl_ h.len h.at' h'⟩
theorem VolsT.snoc {rows:List VR}(h:VolsT B w rows l)(h':VolT B w r y):VolsT B w (rows++[r]) (l++[y]):=⟨by simp[h.len],kl_ h.len h.at' h'⟩
theorem VolsT.set {rows:List VR}(k:Nat)(h:VolsT B w rows l)(h':VolT B w r y):VolsT B w (rows.set k r) (l.set k y):=⟨by simp[h.len],mB_ h.at' h'⟩
theorem RowsT.cut {rows:List IR}{l:List It}(h:RowsT B w rows l)(k:Nat):RowsT B w (rows.take k++rows.drop (k+1)) (l.take k++l.drop (k+1)):=by
 rw[<-List.eraseIdx_eq_take_drop_succ,<-List.eraseIdx_eq_take_drop_succ];refine⟨by rw[List.length_eraseIdx,List.length_eraseIdx,h.len],fun i r y h1 h2=>?_⟩;rw[List.getElem?_eraseIdx] at h1 h2;split at h1
 ·rename_i hi;rw[if_pos hi] at h2;exact h.at' _ r y h1 h2
 ·rename_i hi;rw[if_neg hi] at h2;exact h.at' _ r y h1 h2
theorem VolsT.cut {rows:List VR}(h:VolsT B w rows l)(k:Nat):VolsT B w (rows.take k++rows.drop (k+1)) (l.take k++l.drop (k+1)):=by
 rw[<-List.eraseIdx_eq_take_drop_succ,<-List.eraseIdx_eq_take_drop_succ];refine⟨by rw[List.length_eraseIdx,List.length_eraseIdx,h.len],fun i r y h1 h2=>?_⟩;rw[List.getElem?_eraseIdx] at h1 h2;split at h1
 ·rename_i hi;rw[if_pos hi] at h2;exact h.at' _ r y h1 h2
 ·rename_i hi;rw[if_neg hi] at h2;exact h.at' _ r y h1 h2
theorem ResAt.sf {l:List α}(h:ResAt cs sz t w B a n cap l):Sf B w a:=fun _ ad e=>by
 rcases h.own with⟨h0,_⟩ | ⟨b',h1,h2,_,_,c,h3,_⟩
 ·rw[h0] at e;cases e
 ·rw[h1] at e;cases e;exact⟨h2,c,t,h3⟩
theorem ResAt.hd {l:List α}(h:ResAt cs sz t w B a n cap l):Hd B a n cap:=by
 rcases h.own with⟨rfl,rfl,rfl⟩ | ⟨b',rfl,h2,h3,h4,_⟩
 ·exact⟨Zd _,by omega,fun _=>⟨fun _=>rfl,fun ad e=>by cases e⟩⟩
 ·exact⟨h3,by unfold maxLen at h4;omega,fun _=>⟨(fun e=>by cases e),fun ad e=>by cases e;rfl⟩⟩
theorem RowsT.rows {rows:List IR}{l:List It}(h:RowsT B w rows l):RowsI B w rows l:=⟨h.len,fun i r y h1 h2=>by
 have h':=h.at' i r y h1 h2;exact⟨h'.nm,h'.ps.sl,h'.ps.hd,fun ad e=>(h'.ps.block ad e).1,fun ad e=>(h'.ps.block ad e).2,h'.ps.sf⟩⟩
theorem VolsT.rows {rows:List VR}(h:VolsT B w rows l):RowsV B w rows l:=⟨h.len,fun i r y h1 h2=>by
 obtain⟨e1,e2,e3,rs,R,T⟩:=h.at' i r y h1 h2;exact⟨e1,e2,e3,T.rows.its R,R.hd⟩⟩
def PoolT (B:Nat)(w:World)(v:Value)(p:Po):Prop:=
 ∃ ea en ec va vn vc ra rn rc la ln lc rows,v=.agg #[.int .i64 p.size,.int .i64 p.next,.slice ea en ec,.slice va vn vc,.slice ra rn rc,.slice la ln lc]∧
  ResAt Ex.cs 2 103 w B ea en ec p.ex∧(ResAt vrs 4 97 w B va vn vc rows∧VolsT B w rows p.vs)∧ResAt Ct.cs 4 107 w B ra rn rc p.rf∧ResAt Ct.cs 4 107 w B la ln lc p.lt∧(∀ x y,ra=some x->la=some y->0<rc->0<lc->x.block≠y.block)
def NnE (v:Value):Prop:=∀ s n ea en ec a3 a4 a5,v=.agg #[s,n,.slice ea en ec,a3,a4,a5]->ea≠none
theorem PoolT.below (h:PoolT B w v p)(hb:Below w.heap.size w w'):PoolT B w' v p:=by
 obtain⟨ea,en,ec,va,vn,vc,ra,rn,rc,la,ln,lc,rows,hv,h1,⟨h2,h3⟩,h4,h5,h6⟩:=h;exact⟨ea,en,ec,va,vn,vc,ra,rn,rc,la,ln,lc,rows,hv,h1.below hb,⟨h2.below hb,h3.below hb⟩,h4.below hb,h5.below hb,h6⟩
theorem PoolT.mono (h:PoolT B w v p)(hb:B'<=B):PoolT B' w v p:=by
 obtain⟨ea,en,ec,va,vn,vc,ra,rn,rc,la,ln,lc,rows,hv,h1,⟨h2,h3⟩,h4,h5,h6⟩:=h;exact⟨ea,en,ec,va,vn,vc,ra,rn,rc,la,ln,lc,rows,hv,h1.mono hb,⟨h2.mono hb,h3.mono hb⟩,h4.mono hb,h5.mono hb,h6⟩
theorem PoolT.at' (h:PoolT B w v p):PoolAt B w v p:=by
 obtain⟨ea,en,ec,va,vn,vc,ra,rn,rc,la,ln,lc,rows,hv,h1,⟨h2,h3⟩,h4,h5,h6⟩:=h;exact⟨ea,en,ec,va,vn,vc,ra,rn,rc,la,ln,lc,hv,⟨h1.sl,h1.hd,h1.sf⟩,⟨h3.rows.vs h2,h2.hd⟩,⟨h4.sl,h4.hd,h4.sf⟩,h5.sl,h5.hd,h5.sf⟩
def bkI (rs:List IR):List Nat:=rs.filterMap (fun r=>r.pa.map (·.block))
def pbk (w:World)(r:VR):List Nat:=(List.range r.pn).filterMap (fun j=>match r.pa with
 |none=>none
 |some a=>match w.cell? ⟨a.block,a.off+j*2+1,none⟩ with
  |some (.slice (some x) _ _)=>some x.block
  |_=>none)
theorem km_ {f:Nat->Option β}{g:α->Option β}:∀ (rs:List α) (k:Nat),(∀ (i:Nat) (x:α),rs[i]?=some x->f (k+i)=g x)->(List.range' k rs.length).filterMap f=rs.filterMap g
 |[],_,_=>rfl
 |x::r,k,h=>by
  rw[Zw,List.range'_succ,List.filterMap_cons,List.filterMap_cons];have h0:=h 0 x rfl;rw[Nat.add_zero] at h0;rw[h0,km_ (f:=f) (g:=g) r (k+1) (fun i y hy=>by have:=h (i+1) y (by simpa using hy);rw[<-this,show k+1+i=k+(i+1) by omega])]
theorem cv_ (h:SlAt irs 2 w r.pa r.pn rs):pbk w r=bkI rs:=by
 unfold pbk bkI;rw[List.range_eq_range',<-h.len];refine km_ rs 0 (fun i x hx=>?_);obtain⟨b,o,ha,hc⟩:=h.cell i x hx;have h1:=hc 1 (.slice x.pa x.pn x.pc) rfl;rw[ha,Zq];simp only;rw[h1]
 cases x.pa<;>rfl
theorem co_ {qs:List IR}(h:SlAt irs 2 w a n rs)(h':SlAt irs 2 w a n qs):rs=qs:=by
 refine List.ext_getElem? (fun i=>?_);by_cases hi:i<n
 ·have e1:rs[i]?=some (rs[i]'(by rw[h.len];exact hi)):=by simp[h.len,hi]
  have e2:qs[i]?=some (qs[i]'(by rw[h'.len];exact hi)):=by simp[h'.len,hi]
  rw[e1,e2];obtain⟨b,o,ha,hc⟩:=h.cell i _ e1;obtain⟨b',o',hb,he⟩:=h'.cell i _ e2;rw[ha] at hb
  cases hb
  have c0:=hc 0 _ rfl;have c1:=hc 1 _ rfl;have d0:=he 0 _ rfl;have d1:=he 1 _ rfl;rw[c0] at d0;rw[c1] at d1;generalize rs[i]'(by rw[h.len];exact hi)=x at *;generalize qs[i]'(by rw[h'.len];exact hi)=y at *;obtain⟨x1,x2,x3,x4⟩:=x;obtain⟨y1,y2,y3,y4⟩:=y;simp only[Zo,Value.string.injEq,Value.slice.injEq] at d0 d1;obtain⟨rfl,rfl,rfl⟩:=d1;subst d0;rfl
 ·rw[List.getElem?_eq_none (by rw[h.len];omega),List.getElem?_eq_none (by rw[h'.len];omega)]
theorem ng_ {rows:List IR}(h:∀ (i j:Nat) (r s:IR) (x y:Addr),i≠j->rows[i]?=some r->rows[j]?=some s->r.pa=some x->s.pa=some y->x.block≠y.block):(bkI rows).Nodup:=by
 unfold bkI;rw[List.nodup_iff_pairwise_ne,List.pairwise_filterMap,Yb];intro i j hi hj hc a ha b hb;obtain⟨x,hx,rfl⟩:=ZW.1 ha;obtain⟨y,hy,rfl⟩:=ZW.1 hb;exact h i j _ _ x y (by omega) (by simp[hi]) (by simp[hj]) hx hy
theorem jn_ {rows:List IR}{z:Nat}(h:z∈bkI rows):∃ (i:Nat) (r:IR) (x:Addr),rows[i]?=some r∧r.pa=some x∧x.block=z:=by
 unfold bkI at h;obtain⟨r,hr,e⟩:=List.mem_filterMap.1 h;obtain⟨x,hx,rfl⟩:=ZW.1 e;obtain⟨i,hi,rfl⟩:=List.getElem_of_mem hr;exact⟨i,_,x,by simp[hi],hx,rfl⟩
def MovB (n:Nat)(a b:List Nat):Prop:=a.Nodup->(∀ x∈a,x<n)->b.Nodup∧∀ x∈b,x∈a∨n<=x
theorem MovB.mono {m:Nat}{a:List Nat}(h:MovB n a b)(hm:m<=n):MovB m a b:=fun h1 h2=>by
 obtain⟨h3,h4⟩:=h h1 (fun x hx=>by have:=h2 x hx;omega);exact⟨h3,fun x hx=>(h4 x hx).imp id (fun h=>by omega)⟩
theorem MovB.sub {a:List Nat}(h:b.Sublist a):MovB n a b:=fun h1 _=>⟨h1.sublist h,fun _ hx=>.inl (h.subset hx)⟩
theorem kn_ {A M C M':List Nat}(hM:M'.length<=1)(hz:∀ z∈M',n<=z):MovB n (A++M++C) (A++M'++C):=fun h1 h2=>by
 have ha:(A++C).Nodup:=h1.sublist ((List.sublist_append_left A M).append (List.Sublist.refl C));have hA:∀ x∈A,x<n:=fun x hx=>h2 x (by simp[hx]);have hC:∀ x∈C,x<n:=fun x hx=>h2 x (by simp[hx])
 have hb:M'.Nodup:=by
  match M',hM with
  |[],_=>simp
  |[_],_=>simp
 rw[Yf] at ha;obtain⟨a1,a2,a3⟩:=ha;refine⟨?_,fun x hx=>?_⟩
 ·rw[ZC,Yf,Yf];refine⟨a1,⟨hb,a2,fun x hx y hy e=>?_⟩,fun x hx y hy e=>?_⟩
  ·have:=hz x hx;have:=hC y hy;omega
  ·rcases Zs.1 hy with hy | hy
   ·have:=hz y hy;have:=hA x hx;omega
   ·exact a3 x hx y hy e
 ·rcases Zs.1 hx with hx | hx
  ·rcases Zs.1 hx with hx | hx
   ·exact .inl (by simp[hx])
   ·exact .inr (hz x hx)
  ·exact .inl (by simp[hx])
theorem mC_:(bkI [x]).length<=1:=by unfold bkI;cases h:x.pa<;>simp[h]
theorem iJ_ (hx:∀ ad,x.pa=some ad->n<=ad.block):∀ z∈bkI [x],n<=z:=by
 intro z hz;unfold bkI at hz
 cases h:x.pa with
 |none=>simp[h] at hz
 |some ad=>simp[h] at hz;subst hz;exact hx ad h
theorem dB_ (a b:List IR):bkI (a++b)=bkI a++bkI b:=List.filterMap_append
theorem ko_ (hx:∀ ad,x.pa=some ad->n<=ad.block):MovB n (bkI rs) (bkI (rs.take k++[x]++rs.drop k)):=by
 have h:=kn_ (n:=n) (A:=bkI (rs.take k)) (M:=[]) (C:=bkI (rs.drop k)) (M':=bkI [x]) mC_ (iJ_ hx);rw[List.append_nil,<-dB_,List.take_append_drop] at h;rw[dB_,dB_];exact h
theorem oa_ {r:IR}(hk:rs[k]?=some r)(hx:∀ ad,x.pa=some ad->n<=ad.block):MovB n (bkI rs) (bkI (rs.set k x)):=by
 have hl:=(Zb.1 hk).1;have h:=kn_ (n:=n) (A:=bkI (rs.take k)) (M:=bkI [r]) (C:=bkI (rs.drop (k+1))) (M':=bkI [x]) mC_ (iJ_ hx)
 have e1:rs=rs.take k++[r]++rs.drop (k+1):=by
  rw[ZC,List.singleton_append]
  have:r::rs.drop (k+1)=rs.drop k:=by rw[List.drop_eq_getElem_cons hl];congr 1;have:=(Zb.1 hk).2;exact this.symm
  rw[this,List.take_append_drop]
 have e2:rs.set k x=rs.take k++[x]++rs.drop (k+1):=by
  rw[List.set_eq_take_append_cons_drop,if_pos hl,ZC,List.singleton_append]
 rw[<-dB_,<-dB_,<-dB_,<-dB_,<-e1,<-e2] at h;exact h
theorem nh_ {a b' c:List Nat}(h:(a++b++c).Nodup)(hn:∀ x∈a++b++c,x<n)(hm:MovB n b b'):(a++b'++c).Nodup:=by
 rw[ZC,Yf,Yf] at h ⊢;obtain⟨h1,⟨h2,h3,h4⟩,h5⟩:=h;obtain⟨m1,m2⟩:=hm h2 (fun x hx=>hn x (by simp[hx]));refine⟨h1,⟨m1,h3,fun x hx y hy e=>?_⟩,fun x hx y hy e=>?_⟩
 ·rcases m2 x hx with h | h
  ·exact h4 x h y hy e
  ·have:=hn y (by simp[hy]);omega
 ·rcases Zs.1 hy with hy | hy
  ·rcases m2 y hy with h | h
   ·exact h5 x hx y (by simp[h]) e
   ·have:=hn x (by simp[hx]);omega
  ·exact h5 x hx y (by simp[hy]) e
theorem hC_ {f:α->List Nat}:∀ {l m:List α},l.Sublist m->(l.flatMap f).Sublist (m.flatMap f)
 |_,_,.slnil=>List.Sublist.refl _
 |_,_,.cons a h=>by rw[ZF];exact (hC_ h).trans (List.sublist_append_right _ _)
 |_,_,.cons_cons a h=>by rw[ZF,ZF];exact (List.Sublist.refl _).append (hC_ h)
theorem iK_ {f:α->List Nat}{l:List α}{x:α}(hi:i<l.length):(l.set i x).flatMap f=(l.take i).flatMap f++f x++(l.drop (i+1)).flatMap f:=by
 rw[List.set_eq_take_append_cons_drop,if_pos hi,ZQ,ZF,ZC]
theorem ob_ {f:α->List Nat}{l:List α}{x:α}(hi:l[i]?=some x):l.flatMap f=(l.take i).flatMap f++f x++(l.drop (i+1)).flatMap f:=by
 have hl:=(Zb.1 hi).1
 have e:l.set i x=l:=by
  refine List.ext_getElem? (fun j=>?_);rw[List.getElem?_set];split
  ·rename_i e;subst e;exact hi.symm
  ·rfl
 have h:=iK_ (f:=f) (x:=x) hl
 rwa [e] at h
theorem bW_ {f g:α->List Nat}:∀ {l:List α},(∀ x∈l,f x=g x)->l.flatMap f=l.flatMap g
 |[],_=>rfl
 |x::r,h=>by rw[ZF,ZF,h x (by simp),bW_ (fun y hy=>h y (by simp[hy]))]
def NP (w:World)(rows:List VR):Prop:=(rows.flatMap (pbk w)).Nodup
theorem fP_ (V:VolT B w r y)(hk:∀ rs,ResAt irs 2 156 w B r.pa r.pn r.pc rs->SlAt irs 2 w' r.pa r.pn rs):pbk w' r=pbk w r:=by
 obtain⟨_,_,_,rs,R,_⟩:=V;rw[cv_ (hk rs R),cv_ R.sl]
theorem oc_ (V:VolT B w r y):∀ z∈pbk w r,B<=z∧z<w.heap.size:=by
 obtain⟨_,_,_,rs,R,T⟩:=V;rw[cv_ R.sl];intro z hz;obtain⟨i,q,x,h1,h2,rfl⟩:=jn_ hz;have hi:i<y.its.length:=by rw[<-T.len];exact (Zb.1 h1).1
 exact (T.at' i q y.its[i] h1 (by simp[hi])).ps.block x h2
theorem VolsT.of_mem {rows:List VR}(T:VolsT B w rows l)(h:r∈rows):∃ y,VolT B w r y:=by
 obtain⟨i,hi,rfl⟩:=List.getElem_of_mem h;have hl:i<l.length:=by rw[<-T.len];exact hi
 exact⟨l[i],T.at' i rows[i] l[i] (by simp[hi]) (by simp[hl])⟩
theorem mD_ {rows:List VR}(T:VolsT B w rows l):∀ z∈rows.flatMap (pbk w),z<w.heap.size:=fun z hz=>by
 obtain⟨r,hr,hz⟩:=ZL.1 hz;obtain⟨y,V⟩:=T.of_mem hr;exact (oc_ V z hz).2
theorem g3_ {rows:List VR}(T:VolsT B w rows l)(N:NP w rows)(hk:∀ r∈rows,∀ rs,ResAt irs 2 156 w B r.pa r.pn r.pc rs->SlAt irs 2 w' r.pa r.pn rs):NP w' rows:=by
 unfold NP;rw[bW_ (g:=pbk w) (fun r hr=>by obtain⟨y,V⟩:=T.of_mem hr;exact fP_ V (hk r hr))];exact N
theorem dc_ {rows:List VR}(T:VolsT B w rows l)(N:NP w rows)(hb:Below w.heap.size w w'):NP w' rows:=g3_ T N (fun _ _ _ R=>(R.below hb).sl)
theorem lG_ {rows:List VR}(T:VolsT B w rows l)(N:NP w rows)(hg:w.grownBy w' (some k))(hk:k<B):NP w' rows:=g3_ T N (fun _ _ _ R=>(R.grown hg (fun ad e=>by have:=(R.block ad e).1;omega)).sl)
theorem kp_ {rows:List VR}(T:VolsT B w rows l)(N:NP w rows)(hg:w.grownBy w' row)(hr:RowTy w row t)(ht:(156:TypeId)≠t):NP w' rows:=g3_ T N (fun _ _ _ R=>(R.ty hg hr ht).sl)
theorem mE_ {a:List Nat}(ha:a.Nodup)(hl:∀ z∈a,z<n)(hb:b.Nodup)(hf:∀ z∈b,n<=z):(a++b).Nodup:=by
 rw[Yf];exact⟨ha,hb,fun x hx y hy e=>by have:=hl x hx;have:=hf y hy;omega⟩
end
section
open Go Go.RowKit Go.BigFrame Tryz
theorem infoIt:(prog.info? 156).map (fun i=>(i.zero,i.size,i.bytes))=some (some (.agg #[.string .empty,.slice none 0 0]),2,40):=by kernel_rfl
theorem infoVo:(prog.info? 97).map (fun i=>(i.zero,i.size,i.bytes))=some (some (.agg #[.int .i64 0,.string .empty,.bool false,.slice none 0 0]),4,56):=by kernel_rfl
end
end Go.Proofs.YtbbhcnjhohidnaaGreatDoor
