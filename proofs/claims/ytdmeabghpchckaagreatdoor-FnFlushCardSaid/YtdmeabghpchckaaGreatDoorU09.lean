/- Counts that are the same, and extents that somebody names, by the model. -/
import Derived.Test.YtdmeabghpchckaaGreatDoorU08
set_option maxHeartbeats 20000000
set_option maxRecDepth 100000
namespace Go.Proofs.YtdmeabghpchckaaGreatDoor
open Go Go.RowKit Go.BigFrame Tryz
variable{x:IR}{b:List Nat}{l:List Vo}{B i k n:Nat}{a:Option Addr}{p:Po}{r:VR}{v:Value}{y:Vo}{w w':World}
theorem ep_ (B:Nat)(hB0:0<B)(v:Value)(p:Po)(w:World)(h:AF B w v p)(hd:AB p):
  Calls prog 24 #[v] w fun e w'=>e=.returned (.bool (Ai p))∧Below w.heap.size w w':=by
 obtain⟨ea,en,ec,va,vn,vc,ra,rn,rc,la,ln,lc,rfl,⟨h1,k1⟩,⟨h2,k2⟩,⟨h3,k3⟩,h4,k4⟩:=h;obtain⟨z1,z2,z3,z4,z5,z6,z7,z8⟩:=hd;rw[h1.len] at z1;rw[h2.len] at z3;rw[h3.len] at z5;rw[h4.len] at z7;have n2:Hid (p.vs.length=vn):=h2.len;have n1:Hid (p.ex.length=en):=h1.len;obtain⟨size,next,ex,vs,rf,lt⟩:=p;simp only at h1 h2 h3 h4 z2 z4 z6 z8 n1 n2;have hR:Hid (Ai ⟨size,next,ex,vs,rf,lt⟩=(Ao size ex&&decide (1<=next)&&decide (next<=1000000000)&&(decide (vs.length<=6)&&vgo next ex 0 vs)&&CF vs&&(match Aq rf lt with | none=>false | some s=>Bn s (AA vs))&&Ce ex (rf++lt))):=rfl;generalize Ai ⟨size,next,ex,vs,rf,lt⟩=R at *
 cases hL:Ao size ex
 ·rw[hL] at hR;simp only[Zr] at hR;go_enter func24,ntmps24
  go_wp2_with fail
  refine (aT_ size ea en ec ex _ (h1.below (by go_grown)) z2 z1).mono ?_;rintro e w1 ⟨rfl,rfl⟩;rw[hL];go_wp2;go_returns;exact⟨by rw[hR.out];rfl,by go_grown⟩
 ·rw[hL,Zp] at hR
  cases hU:(decide (1<=next)&&decide (next<=1000000000))
  ·rw[hU] at hR;simp only[Zr] at hR;go_enter func24,ntmps24
   go_wp2_with fail
   refine (aT_ size ea en ec ex _ (h1.below (by go_grown)) z2 z1).mono ?_;rintro e w1 ⟨rfl,rfl⟩;rw[hL]
   go_wp2_with fail
   refine (ai_ next 1 1000000000 _).mono ?_;rintro e w1 ⟨rfl,rfl⟩;rw[hU];go_wp2;go_returns;exact⟨by rw[hR.out];rfl,by go_grown⟩
  ·rw[hU,Zp] at hR;have hZ:1<=next∧next<=1000000000:=by simpa using hU
   by_cases h6:vn<=6
   ·rw[n2.out,decide_eq_true h6,Zp,<-kg_ hZ.2] at hR;have qL:=iI_ hL;go_enter func24,ntmps24
    go_wp2_with fail
    refine (aT_ size ea en ec ex _ (h1.below (by go_grown)) z2 z1).mono ?_;rintro e w1 ⟨rfl,qp⟩;rw[hL];have C:Blk w1 w.heap.size #[.int .i64 size,.int .i64 next,.slice ea en ec,.slice va vn vc,.slice ra rn rc,.slice la ln lc] 28:=by rw[qp];exact Blk.new w _ _
    have qu:Below w.heap.size w w1:=by rw[qp];go_grown
    clear qp;have c1:=C.cell 1;have c3:=C.cell 3;simp only[lgA,lgB,lgC] at c1 c3
    go_wp2_with fail
    refine (ai_ next 1 1000000000 _).mono ?_;rintro e w2 ⟨rfl,rfl⟩;rw[hU]
    go_wp2_with fail
    generalize hM:(match Aq rf lt with | none=>false | some s=>Bn s (AA vs))=M at *;generalize h7:Ce ex (rf++lt)=AD at *;replace hM:Hid ((match Aq rf lt with | none=>false | some s=>Bn s (AA vs))=M):=hM;replace h7:Hid (Ce ex (rf++lt)=AD):=h7;have hS:Hid (DJ next ex [] vs=DJ next ex (vs.take 0) (vs.drop 0)):=rfl;have qI:Hid (DJ next ex [] vs=(vgo next ex 0 vs&&CF vs)):=kg_ hZ.2;generalize DJ next ex [] vs=S at *
    go_loopw [3] (fun ix wr=>∃ (i:Nat),i<=vn∧ix=.int .i64 i∧Hid (S=DJ next ex (vs.take i) (vs.drop i))∧Blk wr w.heap.size #[.int .i64 size,.int .i64 next,.slice ea en ec,.slice va vn vc,.slice ra rn rc,.slice la ln lc] 28∧Below w.heap.size w wr) (fun ix _=>vn-(intOf ix).toNat)
    case atStart=>exact⟨0,Zg _,rfl,hS,C,qu⟩
    case round=>
     clear c1 c3 C qu hS;obtain⟨i,hi,rfl,hI,C',hB⟩:=hrel;have d1:=C'.cell 1;have d2:=C'.cell 2;have d3:=C'.cell 3;simp only[lgA,lgB,lgC] at d1 d2 d3;by_cases hlt:i<vn
     ·obtain⟨b,o,x,qa,qn,qc,rfl,hx,e0,e1,e2,e3,hP,_,_⟩:=b5_ (h2.below hB) hlt
      have hb:Hid (S=(idB next (if i=0 then none else vs[i-1]?) x&&(nameB x.nm&&itemsB x.its ex)&&!((vs.take i).any (fun u=>BT u x))&&DJ next ex (vs.take (i+1)) (vs.drop (i+1)))):=by
       show _=_;rw[hI.out,al_ hx,DJ,nf_ (by rw[n2.out];omega),bx_ hx]
      obtain⟨m1,m2,m3⟩:=z4 x (Zc hx);rw[hP.len] at m2;have hA:=fun (u:World) (hu:Below wr.heap.size wr u)=>lF_ B x qa qn qc ea en ec ex u (hP.below hu) ((h1.below hB).below hu) z2 z1 qL m1 m2 m3;have qx:(i:Int)<vn:=by omega
      have qy:(0:Int)<=i:=by omega
      have h5:0<i->∃ y,vs[i-1]?=some y∧wr.cell? ⟨b,o+(i-1)*4,none⟩=some (.int .i64 y.id):=fun h0=>by
       obtain⟨b',o',y,_,_,_,qe,hy,f0,_⟩:=b5_ (h2.below hB) (show i-1<vn by omega);obtain⟨rfl,rfl⟩:b=b'∧o=o':=by simpa using qe
       exact⟨y,hy,f0⟩
      clear hx hI;have hn:Below wr.heap.size wr (wr.alloc (.cells #[.int .i64 x.id,.string x.nm,.bool x.fx,.slice qa qn qc] 38)):=by go_grown
      have X:=Blk.new wr #[.int .i64 x.id,.string x.nm,.bool x.fx,.slice qa qn qc] 38;have X0:(wr.alloc (.cells #[.int .i64 x.id,.string x.nm,.bool x.fx,.slice qa qn qc] 38)).cell? ⟨wr.heap.size,0,none⟩=some (.int .i64 x.id):=X.cell 0;have X1:(wr.alloc (.cells #[.int .i64 x.id,.string x.nm,.bool x.fx,.slice qa qn qc] 38)).cell? ⟨wr.heap.size,1,none⟩=some (.string x.nm):=X.cell 1;have X2:(wr.alloc (.cells #[.int .i64 x.id,.string x.nm,.bool x.fx,.slice qa qn qc] 38)).cell? ⟨wr.heap.size,2,none⟩=some (.bool x.fx):=X.cell 2;have X3:(wr.alloc (.cells #[.int .i64 x.id,.string x.nm,.bool x.fx,.slice qa qn qc] 38)).cell? ⟨wr.heap.size,3,none⟩=some (.slice qa qn qc):=X.cell 3;have g0:=Ae X0;have g1:=Ae X1;have g2:=Ae X2;have g3:=Ae X3;have g5:=Ae (Ab hn d1);have g6:=Ae (Ab hn d2);have g7:=Ae (Ab hn d3);have hE:=aA_ (wr.alloc (.cells #[.int .i64 x.id,.string x.nm,.bool x.fx,.slice qa qn qc] 38))
      cases hm:(decide (1<=x.id)&&decide (x.id<=1000000000))
      ·have hf:idB next (if i=0 then none else vs[i-1]?) x=false:=by unfold idB;rw[hm];simp
       rw[hf] at hb;simp only[Zr] at hb
       go_wp2_with fail
       refine ab_ (by kernel_rfl) (by kernel_rfl) ?_
       repeat (go_big_quiet_step (first | (go_at_call 62;have qq:=fun u:World=>ai_ x.id 1 1000000000 u;rw[hm] at qq;exact am_ (qq _))))
       refine wpQuiet_nil ?_;intro w2 he;have hg:=Aa hn (ah_ he);have hC:=Ab (ah_ he) X1;have C2:=C'.below hg;clear he;go_wp2;go_returns;exact⟨by rw[hR.out,hb.out];rfl,Aa hB hg⟩
      ·by_cases hnb:x.id<next
       ·have qm:decide (next<=x.id)=false:=YV (by omega);by_cases h0:0<i
        ·obtain⟨y,hy,f0⟩:=h5 h0;have g8:=Ae (Ab hn f0);have qG:decide ((0:Int)<(i:Int))=true:=decide_eq_true (by omega);have qQ:((i:Int)-1).toNat=i-1:=by omega
         rw[if_neg (by omega),hy] at hb;by_cases hyx:y.id<x.id
         ·have qr:decide (x.id<=y.id)=false:=YV (by omega);have hf:idB next (some y) x=true:=by unfold idB;rw[hm];simp[hnb,hyx]
          rw[hf] at hb;simp only[Zp] at hb
          cases hz:(nameB x.nm&&itemsB x.its ex)
          ·rw[hz] at hb;simp only[Zr] at hb
           go_wp2_with fail
           refine ab_ (by kernel_rfl) (by kernel_rfl) ?_
           repeat (go_big_quiet_step (first | (go_at_call 62;have qq:=fun u:World=>ai_ x.id 1 1000000000 u;rw[hm] at qq;exact am_ (qq _)) | (go_at_call 63;have qq:=fun (u:World) (hu:Below wr.heap.size wr u)=>hA u hu;rw[hz] at qq;exact an_ (qq _ (Aa hn (Grw.h _))))))
           refine wpQuiet_nil ?_;intro w2 he;have hg:=Aa hn (ah_ he);have hC:=Ab (ah_ he) X1;have C2:=C'.below hg;clear he;go_wp2;go_returns;exact⟨by rw[hR.out,hb.out];rfl,Aa hB hg⟩
          ·rw[hz] at hb;simp only[Zp] at hb
           go_wp2_with fail
           refine ab_ (by kernel_rfl) (by kernel_rfl) ?_
           repeat (go_big_quiet_step (first | (go_at_call 62;have qq:=fun u:World=>ai_ x.id 1 1000000000 u;rw[hm] at qq;exact am_ (qq _)) | (go_at_call 63;have qq:=fun (u:World) (hu:Below wr.heap.size wr u)=>hA u hu;rw[hz] at qq;exact an_ (qq _ (Aa hn (Grw.h _))))))
           refine wpQuiet_nil ?_;intro w2 he;have hg:=Aa hn (ah_ he);have hC:=Ab (ah_ he) X1;have C2:=C'.below hg;clear he;have hW:=Aa hB hg;clear hg hn g0 g1 g2 g3 g5 g6 g7 hE X X0 X1 X2 X3
           go_wp2_with fail
           go_loopw [5] (fun ix wq=>∃ (k:Nat),k<=i∧ix=.int .i64 k∧Hid ((vs.take i).any (fun u=>BT u x)=((vs.take i).drop k).any (fun u=>BT u x))∧Below w2.heap.size w2 wq) (fun ix _=>i-(intOf ix).toNat)
           case atStart=>exact⟨0,Zg _,rfl,rfl,Yg _ _⟩
           case round=>
            obtain⟨k,hk,rfl,hJ,ho⟩:=hrel;have C3:=C2.below ho;have y3:=C3.cell 3;simp only[lgA,lgB,lgC] at y3;have y1:=Ab ho hC;by_cases hlk:k<i
            ·obtain⟨b',o',u,_,_,_,qe,hu,_,f1,_,_,_,_,_⟩:=b5_ (h2.below (Aa hW ho)) (show k<vn by omega);obtain⟨rfl,rfl⟩:b=b'∧o=o':=by simpa using qe
             have qz:(vs.take i)[k]?=some u:=by rw[Ya hlk];exact hu
             have qb:Hid ((vs.take i).any (fun u=>BT u x)=(BT u x||((vs.take i).drop (k+1)).any (fun u=>BT u x))):=by show _=_;rw[hJ.out,al_ qz];rfl
             clear hu qz qe hJ;have qJ:(k:Int)<vn:=by omega
             have qK:(0:Int)<=k:=by omega
             have hF:BT u x=(u.nm.toList==x.nm.toList):=rfl
             cases qf:(u.nm.toList==x.nm.toList)
             ·rw[hF,qf,Bool.false_or] at qb;have qo:¬ u.nm.toList=x.nm.toList:=by simpa using qf
              go_wp2_with fail
              go_quiet (fail)
              have qk:=Aa ho (AJ _ nq);go_wp2;go_roundw
              case rel=>exact⟨k+1,by omega,by go_num,qb,qk⟩
              case measure=>simp[intOf];omega
             ·rw[hF,qf,Bool.true_or] at qb;have qo:u.nm.toList=x.nm.toList:=by simpa using qf
              rw[qb.out] at hb;simp only[Bool.not_true,Zr] at hb
              go_wp2_with fail
              go_quiet (fail)
              have qk:=Aa ho (AJ _ nq);go_wp2;go_returns;exact⟨by rw[hR.out,hb.out];rfl,Aa hW qk⟩
            ·obtain rfl:k=i:=by omega
             have ha:(vs.take k).any (fun u=>BT u x)=false:=by rw[hJ.out,Ze (by simp;omega)];rfl
             rw[ha] at hb;simp only[Bool.not_false,Zp] at hb;go_wp2;go_roundw
             case rel=>exact⟨k+1,by omega,by go_num,hb,C3,Aa hW ho⟩
             case measure=>simp[intOf];omega
         ·have qr:decide (x.id<=y.id)=true:=decide_eq_true (by omega);have hf:idB next (some y) x=false:=by unfold idB;simp[hyx]
          rw[hf] at hb;simp only[Zr] at hb
          go_wp2_with fail
          refine ab_ (by kernel_rfl) (by kernel_rfl) ?_
          repeat (go_big_quiet_step (first | (go_at_call 62;have qq:=fun u:World=>ai_ x.id 1 1000000000 u;rw[hm] at qq;exact am_ (qq _))))
          refine wpQuiet_nil ?_;intro w2 he;have hg:=Aa hn (ah_ he);have hC:=Ab (ah_ he) X1;have C2:=C'.below hg;clear he;go_wp2;go_returns;exact⟨by rw[hR.out,hb.out];rfl,Aa hB hg⟩
        ·have qG:decide ((0:Int)<(i:Int))=false:=YV (by omega);rw[if_pos (by omega)] at hb;have hf:idB next none x=true:=by unfold idB;rw[hm];simp[hnb]
         rw[hf] at hb;simp only[Zp] at hb
         cases hz:(nameB x.nm&&itemsB x.its ex)
         ·rw[hz] at hb;simp only[Zr] at hb
          go_wp2_with fail
          refine ab_ (by kernel_rfl) (by kernel_rfl) ?_
          repeat (go_big_quiet_step (first | (go_at_call 62;have qq:=fun u:World=>ai_ x.id 1 1000000000 u;rw[hm] at qq;exact am_ (qq _)) | (go_at_call 63;have qq:=fun (u:World) (hu:Below wr.heap.size wr u)=>hA u hu;rw[hz] at qq;exact an_ (qq _ (Aa hn (Grw.h _))))))
          refine wpQuiet_nil ?_;intro w2 he;have hg:=Aa hn (ah_ he);have hC:=Ab (ah_ he) X1;have C2:=C'.below hg;clear he;go_wp2;go_returns;exact⟨by rw[hR.out,hb.out];rfl,Aa hB hg⟩
         ·rw[hz] at hb;simp only[Zp] at hb
          go_wp2_with fail
          refine ab_ (by kernel_rfl) (by kernel_rfl) ?_
          repeat (go_big_quiet_step (first | (go_at_call 62;have qq:=fun u:World=>ai_ x.id 1 1000000000 u;rw[hm] at qq;exact am_ (qq _)) | (go_at_call 63;have qq:=fun (u:World) (hu:Below wr.heap.size wr u)=>hA u hu;rw[hz] at qq;exact an_ (qq _ (Aa hn (Grw.h _))))))
          refine wpQuiet_nil ?_;intro w2 he;have hg:=Aa hn (ah_ he);have hC:=Ab (ah_ he) X1;have C2:=C'.below hg;clear he;have hW:=Aa hB hg;clear hg hn g0 g1 g2 g3 g5 g6 g7 hE X X0 X1 X2 X3
          go_wp2_with fail
          go_loopw [5] (fun ix wq=>∃ (k:Nat),k<=i∧ix=.int .i64 k∧Hid ((vs.take i).any (fun u=>BT u x)=((vs.take i).drop k).any (fun u=>BT u x))∧Below w2.heap.size w2 wq) (fun ix _=>i-(intOf ix).toNat)
          case atStart=>exact⟨0,Zg _,rfl,rfl,Yg _ _⟩
          case round=>
           obtain⟨k,hk,rfl,hJ,ho⟩:=hrel;have C3:=C2.below ho;have y3:=C3.cell 3;simp only[lgA,lgB,lgC] at y3;have y1:=Ab ho hC;by_cases hlk:k<i
           ·exact absurd hlk (by omega)
           ·obtain rfl:k=i:=by omega
            have ha:(vs.take k).any (fun u=>BT u x)=false:=by rw[hJ.out,Ze (by simp;omega)];rfl
            rw[ha] at hb;simp only[Bool.not_false,Zp] at hb;go_wp2;go_roundw
            case rel=>exact⟨k+1,by omega,by go_num,hb,C3,Aa hW ho⟩
            case measure=>simp[intOf];omega
       ·have qm:decide (next<=x.id)=true:=decide_eq_true (by omega);have hf:idB next (if i=0 then none else vs[i-1]?) x=false:=by unfold idB;simp[hnb]
        rw[hf] at hb;simp only[Zr] at hb
        go_wp2_with fail
        refine ab_ (by kernel_rfl) (by kernel_rfl) ?_
        repeat (go_big_quiet_step (first | (go_at_call 62;have qq:=fun u:World=>ai_ x.id 1 1000000000 u;rw[hm] at qq;exact am_ (qq _))))
        refine wpQuiet_nil ?_;intro w2 he;have hg:=Aa hn (ah_ he);have hC:=Ab (ah_ he) X1;have C2:=C'.below hg;clear he;go_wp2;go_returns;exact⟨by rw[hR.out,hb.out];rfl,Aa hB hg⟩
     ·obtain rfl:i=vn:=by omega
      have d4:=C'.cell 4;have d5:=C'.cell 5;simp only[lgA,lgB,lgC] at d4 d5;have qv:S=true:=by rw[hI.out,Ze (Zm n2.out)];rfl
      have qN:vgo next ex 0 vs=true:=by have:=qI.out;rw[qv] at this;simp at this;exact this.1
      have qM:=g2_ (by rw[n2.out];omega) qN;rw[qv,Zp] at hR
      go_wp2_with fail
      refine (je_ ra rn rc rf la ln lc lt _ (h3.below hB) (k3.1.2.2 hB0).2 (k3.1.2.2 hB0).1 (h4.below hB) z6 z8 z5 z7).mono ?_;rintro e wf ⟨hs,hK⟩;have C4:=C'.below hK;replace hK:=Aa hB hK;clear d1 d2 d3 d4 d5 C' hB
      cases hw:Aq rf lt with
      |none=>
       rw[hw] at hs hM;replace hs:e=.returned (.tuple #[.slice none 0 0,.bool false]):=hs;subst hs;have qH:M=false:=hM.out.symm;rw[qH] at hR;clear hw;go_wp2;go_returns;exact⟨by rw[hR.out];rfl,hK⟩
      |some sm=>
       rw[hw] at hs hM;replace hM:Hid (Bn sm (AA vs)=M):=hM;obtain⟨a3,n3,cap3,rfl,R3⟩:=hs
       have qR:n3<=200:=by
        have hl:=R3.sl.len;unfold Aq at hw;split at hw
        ·split at hw
         ·rename_i hh;obtain rfl:=Zi hw;have:=(a0_ hh).1;omega
         ·cases hw
        ·cases hw
       clear hw;have d3:=C4.cell 3;simp only[lgA,lgB,lgC] at d3
       go_wp2_with fail
       refine (ir_ B va i vc vs _ (h2.below hK) qM).mono ?_;rintro e wg ⟨⟨a4,n4,cap4,rfl,qS,R4⟩,hQ⟩;replace R3:=R3.below hQ;replace C4:=C4.below hQ;replace hQ:=Aa hK hQ;clear d3 hK
       go_wp2_with fail
       refine (ki_ a3 n3 cap3 sm a4 n4 cap4 (AA vs) _ R3.sl R4.sl (by omega) (by omega)).mono ?_;rintro e wh ⟨rfl,hT⟩;rw[hM.out];replace C4:=C4.below hT;replace hT:=Aa hQ hT;clear R3 R4 hQ hM
       cases M
       ·go_wp2;go_returns;exact⟨by rw[hR.out];rfl,hT⟩
       ·rw[Zp] at hR
        go_wp2_with fail
        have qt:Hid (AD=((ex.drop 0).all (fun x=>(rf++lt).any (fun c=>c.o.a==x.a))&&(rf++lt).all (fun c=>ex.any (fun x=>x.a==c.o.a)))):=h7.out.symm;clear h7;generalize h8:(rf++lt).all (fun c=>ex.any (fun x=>x.a==c.o.a))=AL at *;replace h8:Hid ((rf++lt).all (fun c=>ex.any (fun x=>x.a==c.o.a))=AL):=h8
        go_loopw [8] (fun ix wr=>∃ (k:Nat),k<=en∧ix=.int .i64 k∧Hid (AD=((ex.drop k).all (fun x=>(rf++lt).any (fun c=>c.o.a==x.a))&&AL))∧Blk wr w.heap.size #[.int .i64 size,.int .i64 next,.slice ea en ec,.slice va i vc,.slice ra rn rc,.slice la ln lc] 28∧Below w.heap.size w wr) (fun ix _=>en-(intOf ix).toNat)
        case atStart=>exact⟨0,Zg _,rfl,qt,C4,hT⟩
        case round=>
         clear C4 hT qt;obtain⟨k,hk,rfl,h9,C5,hD⟩:=hrel;have d0:=C5.cell 0;have d1:=C5.cell 1;have d2:=C5.cell 2;have d3:=C5.cell 3;have d4:=C5.cell 4;have d5:=C5.cell 5;simp only[lgA,lgB,lgC] at d0 d1 d2 d3 d4 d5;by_cases hlt:k<en
         ·obtain⟨b,o,x,rfl,hx,c0,c1⟩:=be_ (h1.below hD) hlt;have hd:Hid (ex.drop k=x::ex.drop (k+1)):=al_ hx;have qx:(k:Int)<en:=by omega
          have qy:(0:Int)<=k:=by omega
          clear hx c1;have hp:=fun (u:World) (hu:Below wr.heap.size wr u)=>gJ_ size next (some ⟨b,o,none⟩) en ec va i vc ra rn rc la ln lc rf lt x.a u ((h3.below hD).below hu) ((h4.below hD).below hu) z5 z7;have g0:=Ae d0;have g1:=Ae d1;have g2:=Ae d2;have g3:=Ae d3;have g4:=Ae d4;have g5:=Ae d5;have gx:=Ae c0;have hE:=aA_ wr
          cases ha:(rf++lt).any (fun c=>c.o.a==x.a)
          ·have hO:Hid (AD=false):=by show _=_;rw[h9.out,hd.out,List.all_cons,ha];rfl
           go_wp2_with fail
           refine ab_ (by kernel_rfl) (by kernel_rfl) ?_
           repeat (go_big_quiet_step (first | (go_at_call 67;have qq:=hp;rw[ha] at qq;exact an_ (qq _ (Grw.h _)))))
           refine wpQuiet_nil ?_;intro w6 ht;have hH:=Aa hD (ah_ ht);clear ht g0 g1 g2 g3 g4 g5 gx hE ha hp;go_wp2;go_returns;exact⟨by rw[hR.out,hO.out];rfl,hH⟩
          ·have hO:Hid (AD=((ex.drop (k+1)).all (fun x=>(rf++lt).any (fun c=>c.o.a==x.a))&&AL)):=by show _=_;rw[h9.out,hd.out,List.all_cons,ha];rfl
           go_wp2_with fail
           refine ab_ (by kernel_rfl) (by kernel_rfl) ?_
           repeat (go_big_quiet_step (first | (go_at_call 67;have qq:=hp;rw[ha] at qq;exact an_ (qq _ (Grw.h _)))))
           refine wpQuiet_nil ?_;intro w6 ht;have C6:=C5.below (ah_ ht);have hH:=Aa hD (ah_ ht);clear ht g0 g1 g2 g3 g4 g5 gx hE ha hp;go_wp2;go_roundw
           case rel=>exact⟨k+1,by omega,by go_num,hO,C6,hH⟩
           case measure=>simp[intOf];omega
         ·obtain rfl:k=en:=by omega
          have hO:Hid (AD=AL):=by show _=_;rw[h9.out,Ze (Zm n1.out)];rfl
          clear h9;obtain⟨wi,qO⟩:∃ x,x=wr:=⟨_,rfl⟩;subst qO;have qP:=C5.lt;obtain⟨i0,qw,qA,qB,qC⟩:=info_parts Dg
          go_wp2_with fail
          go_region_held3 (fun u=>u.cell? ⟨w.heap.size,4,none⟩=some (.slice ra rn rc)∧u.cell? ⟨w.heap.size,5,none⟩=some (.slice la ln lc)) (go_keep) (first
           |(refine aJ_ rfl (ay_ _ _ 26 rfl wi.heap.size 46 i0 (.agg #[.int .i64 0,.int .i64 0,.string .empty,.int .i64 0]) 40 underlying26 qw qA qB qC rfl (by decide) aS_ a9_ a11 rn cap11 ([]++rf) rfl qh la ln lc lt rfl (h4.below (Aa hD hq)) (k4.1.2.2 hB0).2 (k4.1.2.2 hB0).1 (rn+ln) rfl (by unfold maxLen;omega) (by omega) hN ?_);intro a13 cap13 qg qs hY;have hv:Below wi.heap.size wi qg:=(Yi hq hY hN (aG_ fun ad ql=>(qh.block ad ql).1));have y14:=Ab hv d4;have y15:=Ab hv d5)
           |(refine aJ_ rfl (ay_ _ _ 26 rfl wi.heap.size 46 i0 (.agg #[.int .i64 0,.int .i64 0,.string .empty,.int .i64 0]) 40 underlying26 qw qA qB qC rfl (by decide) aS_ a9_ _ 0 0 [] rfl (by first | exact aw_ (Blk.new' wi _ _ _ rfl).drew (Zd _) | exact aw_ (Blk.new' wi _ _ _ rfl) (Zd _)) ra rn rc rf rfl (h3.below (Aa hD (by go_grown))) (k3.1.2.2 hB0).2 (k3.1.2.2 hB0).1 rn (Zq _) (by unfold maxLen;omega) (by omega) (by first | exact Nat.le_succ _ | (simp;omega) | simp) ?_);intro a11 cap11 qD qh hX;have hq:Below wi.heap.size wi qD:=(Yi (by go_grown) hX (by first | exact Nat.le_succ _ | (simp;omega) | simp) (aG_ fun ad ql=>(by cases ql;exact Zd _)));have hN:wi.heap.size<=qD.heap.size:=hq.size;have y4:=Ab hq d4;have y5:=Ab hq d5))
          have qE:=C5.below hv;have qj:=Aa hD hv;clear y4 y5 hq hN qh hX hY hv d0 d1 d2 d3 d4 d5 C5 qP;have L13:A4 qg a13 (rn+ln) (rf++lt):=qs.sl;have n13:Hid ((rf++lt).length=rn+ln):=L13.len;clear qs;have hV:Hid (AL=((rf++lt).drop 0).all (fun c=>ex.any (fun x=>x.a==c.o.a))):=h8.out.symm;clear h8
          go_wp2_with fail
          go_loopw [10] (fun ix wq=>∃ (j:Nat),j<=rn+ln∧ix=.int .i64 j∧Hid (AL=((rf++lt).drop j).all (fun c=>ex.any (fun x=>x.a==c.o.a)))∧Below qg.heap.size qg wq) (fun ix _=>rn+ln-(intOf ix).toNat)
          case atStart=>exact⟨0,Zg _,rfl,hV,Yg _ _⟩
          case round=>
           clear hV;obtain⟨j,hj,rfl,hJ,ho⟩:=hrel;have qF:=qE.below ho;have d2:=qF.cell 2;simp only[lgA,lgB,lgC] at d2;have hG:=Aa qj ho;by_cases hlj:j<rn+ln
           ·obtain⟨b,o,c,rfl,hc,c0,_,_,_⟩:=aN_ (L13.below ho) hlj;have hd:Hid ((rf++lt).drop j=c::(rf++lt).drop (j+1)):=al_ hc;have qx:(j:Int)<((rn+ln:Nat):Int):=by omega
            have qy:(0:Int)<=j:=by omega
            clear hc;have qd:=fun (u:World) (hu:Below wr.heap.size wr u)=>iC_ ea k ec ex c.o.a u ((h1.below hG).below hu) z1;have hr:=mA_ c.o.a ex 0;have g2:=Ae d2;have gx:=Ae c0;have hE:=aA_ wr
            cases ha:ex.any (fun x=>x.a==c.o.a)
            ·have qi:Hid (AL=false):=by show _=_;rw[hJ.out,hd.out,List.all_cons,ha];rfl
             rw[ha] at hr;replace hr:decide (atG c.o.a 0 ex<0)=true:=hr
             go_wp2_with fail
             refine ab_ (by kernel_rfl) (by kernel_rfl) ?_
             repeat (go_big_quiet_step (first | (go_at_call 68;exact am_ (qd _ (Grw.h _)))))
             refine wpQuiet_nil ?_;intro w6 ht;have hH:=Aa hG (ah_ ht);clear ht g2 gx hE ha qd;go_wp2;go_returns;exact⟨by rw[hR.out,hO.out,qi.out];rfl,hH⟩
            ·have qi:Hid (AL=((rf++lt).drop (j+1)).all (fun c=>ex.any (fun x=>x.a==c.o.a))):=by show _=_;rw[hJ.out,hd.out,List.all_cons,ha];rfl
             rw[ha] at hr;replace hr:decide (atG c.o.a 0 ex<0)=false:=hr
             go_wp2_with fail
             refine ab_ (by kernel_rfl) (by kernel_rfl) ?_
             repeat (go_big_quiet_step (first | (go_at_call 68;exact am_ (qd _ (Grw.h _)))))
             refine wpQuiet_nil ?_;intro w6 ht;have hH:=Aa ho (ah_ ht);clear ht g2 gx hE ha qd;go_wp2;go_roundw
             case rel=>exact⟨j+1,by omega,by go_num,qi,hH⟩
             case measure=>simp[intOf];omega
           ·obtain rfl:j=rn+ln:=by omega
            go_wp2;go_returns;exact⟨by rw[hR.out,hO.out,hJ.out,Ze (Zm n13.out)];rfl,hG⟩
   ·rw[n2.out,YV h6] at hR;simp only[Zr] at hR;go_enter func24,ntmps24
    go_wp2_with fail
    refine (aT_ size ea en ec ex _ (h1.below (by go_grown)) z2 z1).mono ?_;rintro e w1 ⟨rfl,rfl⟩;rw[hL]
    go_wp2_with fail
    refine (ai_ next 1 1000000000 _).mono ?_;rintro e w1 ⟨rfl,rfl⟩;rw[hU];go_wp2;go_returns;exact⟨by rw[hR.out];rfl,by go_grown⟩
theorem AC.cut {rows:List IR}{l:List It}(h:AC B w rows l)(k:Nat):AC B w (rows.take k++rows.drop (k+1)) (l.take k++l.drop (k+1)):=by
 rw[<-List.eraseIdx_eq_take_drop_succ,<-List.eraseIdx_eq_take_drop_succ];refine⟨by rw[List.length_eraseIdx,List.length_eraseIdx,h.len],fun i r y h1 h2=>?_⟩;rw[List.getElem?_eraseIdx] at h1 h2;split at h1
 ·rename_i hi;rw[if_pos hi] at h2;exact h.at' _ r y h1 h2
 ·rename_i hi;rw[if_neg hi] at h2;exact h.at' _ r y h1 h2
theorem Ax.cut {rows:List VR}(h:Ax B w rows l)(k:Nat):Ax B w (rows.take k++rows.drop (k+1)) (l.take k++l.drop (k+1)):=by
 rw[<-List.eraseIdx_eq_take_drop_succ,<-List.eraseIdx_eq_take_drop_succ];refine⟨by rw[List.length_eraseIdx,List.length_eraseIdx,h.len],fun i r y h1 h2=>?_⟩;rw[List.getElem?_eraseIdx] at h1 h2;split at h1
 ·rename_i hi;rw[if_pos hi] at h2;exact h.at' _ r y h1 h2
 ·rename_i hi;rw[if_neg hi] at h2;exact h.at' _ r y h1 h2
def NnE (v:Value):Prop:=∀ s n ea en ec a3 a4 a5,v=.agg #[s,n,.slice ea en ec,a3,a4,a5]->ea≠none
end Go.Proofs.YtdmeabghpchckaaGreatDoor
