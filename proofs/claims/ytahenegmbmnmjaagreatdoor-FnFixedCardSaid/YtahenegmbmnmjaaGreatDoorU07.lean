/- Counts that are the same, and extents that somebody names, by the model. -/
import Derived.Lib.SliceRun
import Derived.Test.YtahenegmbmnmjaaGreatDoorU06
set_option maxHeartbeats 20000000
set_option maxRecDepth 100000
namespace Go.Proofs.YtahenegmbmnmjaaGreatDoor
section
open Go Go.RowKit Go.BigFrame Tryz
variable{α β:Type}{x:IR}{rs:List IR}{b:List Nat}{l:List Vo}{B B' cap i k n sz:Nat}{a:Option Addr}{row:Option Nat}{p:Po}{t t':TypeId}{r:VR}{v:Value}{y:Vo}{w w':World}{cs:α->List Value}
theorem ep_ (B:Nat)(hB0:0<B)(v:Value)(p:Po)(w:World)(h:AG B w v p)(hd:AC p):
  Calls prog 47 #[v] w fun e w'=>e=.returned (.bool (Ai p))∧Below w.heap.size w w':=by
 obtain⟨ea,en,ec,va,vn,vc,ra,rn,rc,la,ln,lc,rfl,⟨h1,k1⟩,⟨h2,k2⟩,⟨h3,k3⟩,h4,k4⟩:=h;obtain⟨z1,z2,z3,z4,z5,z6,z7,z8⟩:=hd;rw[h1.len] at z1;rw[h2.len] at z3;rw[h3.len] at z5;rw[h4.len] at z7;have n2:Hid (p.vs.length=vn):=h2.len;have n1:Hid (p.ex.length=en):=h1.len;obtain⟨size,next,ex,vs,rf,lt⟩:=p;simp only at h1 h2 h3 h4 z2 z4 z6 z8 n1 n2;have hR:Hid (Ai ⟨size,next,ex,vs,rf,lt⟩=(Ao size ex&&decide (1<=next)&&decide (next<=1000000000)&&(decide (vs.length<=6)&&vgo next ex 0 vs)&&CK vs&&(match Aq rf lt with | none=>false | some s=>Bo s (AB vs))&&Ck ex (rf++lt))):=rfl;generalize Ai ⟨size,next,ex,vs,rf,lt⟩=R at *
 cases hL:Ao size ex
 ·rw[hL] at hR;simp only[Zr] at hR;go_enter func47,ntmps47
  go_wp2_with fail
  refine (aT_ size ea en ec ex _ (h1.below (by go_grown)) z2 z1).mono ?_;rintro e w1 ⟨rfl,rfl⟩;rw[hL];go_wp2;go_returns;exact⟨by rw[hR.out];rfl,by go_grown⟩
 ·rw[hL,Zp] at hR
  cases hU:(decide (1<=next)&&decide (next<=1000000000))
  ·rw[hU] at hR;simp only[Zr] at hR;go_enter func47,ntmps47
   go_wp2_with fail
   refine (aT_ size ea en ec ex _ (h1.below (by go_grown)) z2 z1).mono ?_;rintro e w1 ⟨rfl,rfl⟩;rw[hL]
   go_wp2_with fail
   refine (ai_ next 1 1000000000 _).mono ?_;rintro e w1 ⟨rfl,rfl⟩;rw[hU];go_wp2;go_returns;exact⟨by rw[hR.out];rfl,by go_grown⟩
  ·rw[hU,Zp] at hR;have hZ:1<=next∧next<=1000000000:=by simpa using hU
   by_cases h6:vn<=6
   ·rw[n2.out,decide_eq_true h6,Zp,<-kg_ hZ.2] at hR;have qL:=iI_ hL;go_enter func47,ntmps47
    go_wp2_with fail
    refine (aT_ size ea en ec ex _ (h1.below (by go_grown)) z2 z1).mono ?_;rintro e w1 ⟨rfl,qp⟩;rw[hL];have C:Blk w1 w.heap.size #[.int .i64 size,.int .i64 next,.slice ea en ec,.slice va vn vc,.slice ra rn rc,.slice la ln lc] 35:=by rw[qp];exact Blk.new w _ _
    have qu:Below w.heap.size w w1:=by rw[qp];go_grown
    clear qp;have c1:=C.cell 1;have c3:=C.cell 3;simp only[lgA,lgB,lgC] at c1 c3
    go_wp2_with fail
    refine (ai_ next 1 1000000000 _).mono ?_;rintro e w2 ⟨rfl,rfl⟩;rw[hU]
    go_wp2_with fail
    generalize hM:(match Aq rf lt with | none=>false | some s=>Bo s (AB vs))=M at *;generalize h7:Ck ex (rf++lt)=AD at *;replace hM:Hid ((match Aq rf lt with | none=>false | some s=>Bo s (AB vs))=M):=hM;replace h7:Hid (Ck ex (rf++lt)=AD):=h7;have hS:Hid (DZ next ex [] vs=DZ next ex (vs.take 0) (vs.drop 0)):=rfl;have qI:Hid (DZ next ex [] vs=(vgo next ex 0 vs&&CK vs)):=kg_ hZ.2;generalize DZ next ex [] vs=S at *
    go_loopw [3] (fun ix wr=>∃ (i:Nat),i<=vn∧ix=.int .i64 i∧Hid (S=DZ next ex (vs.take i) (vs.drop i))∧Blk wr w.heap.size #[.int .i64 size,.int .i64 next,.slice ea en ec,.slice va vn vc,.slice ra rn rc,.slice la ln lc] 35∧Below w.heap.size w wr) (fun ix _=>vn-(intOf ix).toNat)
    case atStart=>exact⟨0,Zg _,rfl,hS,C,qu⟩
    case round=>
     clear c1 c3 C qu hS;obtain⟨i,hi,rfl,hI,C',hB⟩:=hrel;have d1:=C'.cell 1;have d2:=C'.cell 2;have d3:=C'.cell 3;simp only[lgA,lgB,lgC] at d1 d2 d3;by_cases hlt:i<vn
     ·obtain⟨b,o,x,qa,qn,qc,rfl,hx,e0,e1,e2,e3,hP,_,_⟩:=b5_ (h2.below hB) hlt
      have hb:Hid (S=(idB next (if i=0 then none else vs[i-1]?) x&&(nameB x.nm&&itemsB x.its ex)&&!((vs.take i).any (fun u=>BW u x))&&DZ next ex (vs.take (i+1)) (vs.drop (i+1)))):=by
       show _=_;rw[hI.out,al_ hx,DZ,nf_ (by rw[n2.out];omega),bx_ hx]
      obtain⟨m1,m2,m3⟩:=z4 x (Zc hx);rw[hP.len] at m2;have hA:=fun (u:World) (hu:Below wr.heap.size wr u)=>lF_ B x qa qn qc ea en ec ex u (hP.below hu) ((h1.below hB).below hu) z2 z1 qL m1 m2 m3;have qx:(i:Int)<vn:=by omega
      have qy:(0:Int)<=i:=by omega
      have h5:0<i->∃ y,vs[i-1]?=some y∧wr.cell? ⟨b,o+(i-1)*4,none⟩=some (.int .i64 y.id):=fun h0=>by
       obtain⟨b',o',y,_,_,_,qe,hy,f0,_⟩:=b5_ (h2.below hB) (show i-1<vn by omega);obtain⟨rfl,rfl⟩:b=b'∧o=o':=by simpa using qe
       exact⟨y,hy,f0⟩
      clear hx hI;have hn:Below wr.heap.size wr (wr.alloc (.cells #[.int .i64 x.id,.string x.nm,.bool x.fx,.slice qa qn qc] 62)):=by go_grown
      have X:=Blk.new wr #[.int .i64 x.id,.string x.nm,.bool x.fx,.slice qa qn qc] 62;have X0:(wr.alloc (.cells #[.int .i64 x.id,.string x.nm,.bool x.fx,.slice qa qn qc] 62)).cell? ⟨wr.heap.size,0,none⟩=some (.int .i64 x.id):=X.cell 0;have X1:(wr.alloc (.cells #[.int .i64 x.id,.string x.nm,.bool x.fx,.slice qa qn qc] 62)).cell? ⟨wr.heap.size,1,none⟩=some (.string x.nm):=X.cell 1;have X2:(wr.alloc (.cells #[.int .i64 x.id,.string x.nm,.bool x.fx,.slice qa qn qc] 62)).cell? ⟨wr.heap.size,2,none⟩=some (.bool x.fx):=X.cell 2;have X3:(wr.alloc (.cells #[.int .i64 x.id,.string x.nm,.bool x.fx,.slice qa qn qc] 62)).cell? ⟨wr.heap.size,3,none⟩=some (.slice qa qn qc):=X.cell 3;have g0:=Ad X0;have g1:=Ad X1;have g2:=Ad X2;have g3:=Ad X3;have g5:=Ad (Ab hn d1);have g6:=Ad (Ab hn d2);have g7:=Ad (Ab hn d3);have hE:=aA_ (wr.alloc (.cells #[.int .i64 x.id,.string x.nm,.bool x.fx,.slice qa qn qc] 62))
      cases hm:(decide (1<=x.id)&&decide (x.id<=1000000000))
      ·have hf:idB next (if i=0 then none else vs[i-1]?) x=false:=by unfold idB;rw[hm];simp
       rw[hf] at hb;simp only[Zr] at hb
       go_wp2_with fail
       refine ab_ (by kernel_rfl) (by kernel_rfl) ?_
       repeat (go_big_quiet_step (first | (go_at_call 93;have qq:=fun u:World=>ai_ x.id 1 1000000000 u;rw[hm] at qq;exact am_ (qq _))))
       refine wpQuiet_nil ?_;intro w2 he;have hg:=Aa hn (ah_ he);have hC:=Ab (ah_ he) X1;have C2:=C'.below hg;clear he;go_wp2;go_returns;exact⟨by rw[hR.out,hb.out];rfl,Aa hB hg⟩
      ·by_cases hnb:x.id<next
       ·have qm:decide (next<=x.id)=false:=YV (by omega);by_cases h0:0<i
        ·obtain⟨y,hy,f0⟩:=h5 h0;have g8:=Ad (Ab hn f0);have qG:decide ((0:Int)<(i:Int))=true:=decide_eq_true (by omega);have qQ:((i:Int)-1).toNat=i-1:=by omega
         rw[if_neg (by omega),hy] at hb;by_cases hyx:y.id<x.id
         ·have qr:decide (x.id<=y.id)=false:=YV (by omega);have hf:idB next (some y) x=true:=by unfold idB;rw[hm];simp[hnb,hyx]
          rw[hf] at hb;simp only[Zp] at hb
          cases hz:(nameB x.nm&&itemsB x.its ex)
          ·rw[hz] at hb;simp only[Zr] at hb
           go_wp2_with fail
           refine ab_ (by kernel_rfl) (by kernel_rfl) ?_
           repeat (go_big_quiet_step (first | (go_at_call 93;have qq:=fun u:World=>ai_ x.id 1 1000000000 u;rw[hm] at qq;exact am_ (qq _)) | (go_at_call 94;have qq:=fun (u:World) (hu:Below wr.heap.size wr u)=>hA u hu;rw[hz] at qq;exact an_ (qq _ (Aa hn (Grw.h _))))))
           refine wpQuiet_nil ?_;intro w2 he;have hg:=Aa hn (ah_ he);have hC:=Ab (ah_ he) X1;have C2:=C'.below hg;clear he;go_wp2;go_returns;exact⟨by rw[hR.out,hb.out];rfl,Aa hB hg⟩
          ·rw[hz] at hb;simp only[Zp] at hb
           go_wp2_with fail
           refine ab_ (by kernel_rfl) (by kernel_rfl) ?_
           repeat (go_big_quiet_step (first | (go_at_call 93;have qq:=fun u:World=>ai_ x.id 1 1000000000 u;rw[hm] at qq;exact am_ (qq _)) | (go_at_call 94;have qq:=fun (u:World) (hu:Below wr.heap.size wr u)=>hA u hu;rw[hz] at qq;exact an_ (qq _ (Aa hn (Grw.h _))))))
           refine wpQuiet_nil ?_;intro w2 he;have hg:=Aa hn (ah_ he);have hC:=Ab (ah_ he) X1;have C2:=C'.below hg;clear he;have hW:=Aa hB hg;clear hg hn g0 g1 g2 g3 g5 g6 g7 hE X X0 X1 X2 X3
           go_wp2_with fail
           go_loopw [5] (fun ix wq=>∃ (k:Nat),k<=i∧ix=.int .i64 k∧Hid ((vs.take i).any (fun u=>BW u x)=((vs.take i).drop k).any (fun u=>BW u x))∧Below w2.heap.size w2 wq) (fun ix _=>i-(intOf ix).toNat)
           case atStart=>exact⟨0,Zg _,rfl,rfl,Yg _ _⟩
           case round=>
            obtain⟨k,hk,rfl,hJ,ho⟩:=hrel;have C3:=C2.below ho;have y3:=C3.cell 3;simp only[lgA,lgB,lgC] at y3;have y1:=Ab ho hC;by_cases hlk:k<i
            ·obtain⟨b',o',u,_,_,_,qe,hu,_,f1,_,_,_,_,_⟩:=b5_ (h2.below (Aa hW ho)) (show k<vn by omega);obtain⟨rfl,rfl⟩:b=b'∧o=o':=by simpa using qe
             have qz:(vs.take i)[k]?=some u:=by rw[Ya hlk];exact hu
             have qb:Hid ((vs.take i).any (fun u=>BW u x)=(BW u x||((vs.take i).drop (k+1)).any (fun u=>BW u x))):=by show _=_;rw[hJ.out,al_ qz];rfl
             clear hu qz qe hJ;have qJ:(k:Int)<vn:=by omega
             have qK:(0:Int)<=k:=by omega
             have hF:BW u x=(u.nm.toList==x.nm.toList):=rfl
             cases qf:(u.nm.toList==x.nm.toList)
             ·rw[hF,qf,Bool.false_or] at qb;have qo:¬ u.nm.toList=x.nm.toList:=by simpa using qf
              go_wp2_with fail
              go_quiet (fail)
              have qk:=Aa ho (AK _ nq);go_wp2;go_roundw
              case rel=>exact⟨k+1,by omega,by go_num,qb,qk⟩
              case measure=>simp[intOf];omega
             ·rw[hF,qf,Bool.true_or] at qb;have qo:u.nm.toList=x.nm.toList:=by simpa using qf
              rw[qb.out] at hb;simp only[Bool.not_true,Zr] at hb
              go_wp2_with fail
              go_quiet (fail)
              have qk:=Aa ho (AK _ nq);go_wp2;go_returns;exact⟨by rw[hR.out,hb.out];rfl,Aa hW qk⟩
            ·obtain rfl:k=i:=by omega
             have ha:(vs.take k).any (fun u=>BW u x)=false:=by rw[hJ.out,Ze (by simp;omega)];rfl
             rw[ha] at hb;simp only[Bool.not_false,Zp] at hb;go_wp2;go_roundw
             case rel=>exact⟨k+1,by omega,by go_num,hb,C3,Aa hW ho⟩
             case measure=>simp[intOf];omega
         ·have qr:decide (x.id<=y.id)=true:=decide_eq_true (by omega);have hf:idB next (some y) x=false:=by unfold idB;simp[hyx]
          rw[hf] at hb;simp only[Zr] at hb
          go_wp2_with fail
          refine ab_ (by kernel_rfl) (by kernel_rfl) ?_
          repeat (go_big_quiet_step (first | (go_at_call 93;have qq:=fun u:World=>ai_ x.id 1 1000000000 u;rw[hm] at qq;exact am_ (qq _))))
          refine wpQuiet_nil ?_;intro w2 he;have hg:=Aa hn (ah_ he);have hC:=Ab (ah_ he) X1;have C2:=C'.below hg;clear he;go_wp2;go_returns;exact⟨by rw[hR.out,hb.out];rfl,Aa hB hg⟩
        ·have qG:decide ((0:Int)<(i:Int))=false:=YV (by omega);rw[if_pos (by omega)] at hb;have hf:idB next none x=true:=by unfold idB;rw[hm];simp[hnb]
         rw[hf] at hb;simp only[Zp] at hb
         cases hz:(nameB x.nm&&itemsB x.its ex)
         ·rw[hz] at hb;simp only[Zr] at hb
          go_wp2_with fail
          refine ab_ (by kernel_rfl) (by kernel_rfl) ?_
          repeat (go_big_quiet_step (first | (go_at_call 93;have qq:=fun u:World=>ai_ x.id 1 1000000000 u;rw[hm] at qq;exact am_ (qq _)) | (go_at_call 94;have qq:=fun (u:World) (hu:Below wr.heap.size wr u)=>hA u hu;rw[hz] at qq;exact an_ (qq _ (Aa hn (Grw.h _))))))
          refine wpQuiet_nil ?_;intro w2 he;have hg:=Aa hn (ah_ he);have hC:=Ab (ah_ he) X1;have C2:=C'.below hg;clear he;go_wp2;go_returns;exact⟨by rw[hR.out,hb.out];rfl,Aa hB hg⟩
         ·rw[hz] at hb;simp only[Zp] at hb
          go_wp2_with fail
          refine ab_ (by kernel_rfl) (by kernel_rfl) ?_
          repeat (go_big_quiet_step (first | (go_at_call 93;have qq:=fun u:World=>ai_ x.id 1 1000000000 u;rw[hm] at qq;exact am_ (qq _)) | (go_at_call 94;have qq:=fun (u:World) (hu:Below wr.heap.size wr u)=>hA u hu;rw[hz] at qq;exact an_ (qq _ (Aa hn (Grw.h _))))))
          refine wpQuiet_nil ?_;intro w2 he;have hg:=Aa hn (ah_ he);have hC:=Ab (ah_ he) X1;have C2:=C'.below hg;clear he;have hW:=Aa hB hg;clear hg hn g0 g1 g2 g3 g5 g6 g7 hE X X0 X1 X2 X3
          go_wp2_with fail
          go_loopw [5] (fun ix wq=>∃ (k:Nat),k<=i∧ix=.int .i64 k∧Hid ((vs.take i).any (fun u=>BW u x)=((vs.take i).drop k).any (fun u=>BW u x))∧Below w2.heap.size w2 wq) (fun ix _=>i-(intOf ix).toNat)
          case atStart=>exact⟨0,Zg _,rfl,rfl,Yg _ _⟩
          case round=>
           obtain⟨k,hk,rfl,hJ,ho⟩:=hrel;have C3:=C2.below ho;have y3:=C3.cell 3;simp only[lgA,lgB,lgC] at y3;have y1:=Ab ho hC;by_cases hlk:k<i
           ·exact absurd hlk (by omega)
           ·obtain rfl:k=i:=by omega
            have ha:(vs.take k).any (fun u=>BW u x)=false:=by rw[hJ.out,Ze (by simp;omega)];rfl
            rw[ha] at hb;simp only[Bool.not_false,Zp] at hb;go_wp2;go_roundw
            case rel=>exact⟨k+1,by omega,by go_num,hb,C3,Aa hW ho⟩
            case measure=>simp[intOf];omega
       ·have qm:decide (next<=x.id)=true:=decide_eq_true (by omega);have hf:idB next (if i=0 then none else vs[i-1]?) x=false:=by unfold idB;simp[hnb]
        rw[hf] at hb;simp only[Zr] at hb
        go_wp2_with fail
        refine ab_ (by kernel_rfl) (by kernel_rfl) ?_
        repeat (go_big_quiet_step (first | (go_at_call 93;have qq:=fun u:World=>ai_ x.id 1 1000000000 u;rw[hm] at qq;exact am_ (qq _))))
        refine wpQuiet_nil ?_;intro w2 he;have hg:=Aa hn (ah_ he);have hC:=Ab (ah_ he) X1;have C2:=C'.below hg;clear he;go_wp2;go_returns;exact⟨by rw[hR.out,hb.out];rfl,Aa hB hg⟩
     ·obtain rfl:i=vn:=by omega
      have d4:=C'.cell 4;have d5:=C'.cell 5;simp only[lgA,lgB,lgC] at d4 d5;have qv:S=true:=by rw[hI.out,Ze (Zm n2.out)];rfl
      have qN:vgo next ex 0 vs=true:=by have:=qI.out;rw[qv] at this;simp at this;exact this.1
      have qM:=g2_ (by rw[n2.out];omega) qN;rw[qv,Zp] at hR
      go_wp2_with fail
      refine (je_ ra rn rc rf la ln lc lt _ (h3.below hB) (k3.1.2.2 hB0).2 (k3.1.2.2 hB0).1 (h4.below hB) z6 z8 z5 z7).mono ?_;rintro e wf ⟨hs,hK⟩;have C4:=C'.below hK;replace hK:=Aa hB hK;clear d1 d2 d3 d4 d5 C' hB
      cases hw:Aq rf lt with
      |none=>
       rw[hw] at hs hM;replace hs:e=.returned (.tuple #[.slice none 0 0,.bool false]):=hs;subst hs;have qH:M=false:=hM.out.symm;rw[qH] at hR;clear hw;go_wp2;go_returns;exact⟨by rw[hR.out];rfl,hK⟩
      |some sm=>
       rw[hw] at hs hM;replace hM:Hid (Bo sm (AB vs)=M):=hM;obtain⟨a3,n3,cap3,rfl,R3⟩:=hs
       have qR:n3<=200:=by
        have hl:=R3.sl.len;unfold Aq at hw;split at hw
        ·split at hw
         ·rename_i hh;obtain rfl:=Zi hw;have:=(a0_ hh).1;omega
         ·cases hw
        ·cases hw
       clear hw;have d3:=C4.cell 3;simp only[lgA,lgB,lgC] at d3
       go_wp2_with fail
       refine (ir_ B va i vc vs _ (h2.below hK) qM).mono ?_;rintro e wg ⟨⟨a4,n4,cap4,rfl,qS,R4⟩,hQ⟩;replace R3:=R3.below hQ;replace C4:=C4.below hQ;replace hQ:=Aa hK hQ;clear d3 hK
       go_wp2_with fail
       refine (ki_ a3 n3 cap3 sm a4 n4 cap4 (AB vs) _ R3.sl R4.sl (by omega) (by omega)).mono ?_;rintro e wh ⟨rfl,hT⟩;rw[hM.out];replace C4:=C4.below hT;replace hT:=Aa hQ hT;clear R3 R4 hQ hM
       cases M
       ·go_wp2;go_returns;exact⟨by rw[hR.out];rfl,hT⟩
       ·rw[Zp] at hR
        go_wp2_with fail
        have qt:Hid (AD=((ex.drop 0).all (fun x=>(rf++lt).any (fun c=>c.o.a==x.a))&&(rf++lt).all (fun c=>ex.any (fun x=>x.a==c.o.a)))):=h7.out.symm;clear h7;generalize h8:(rf++lt).all (fun c=>ex.any (fun x=>x.a==c.o.a))=AL at *;replace h8:Hid ((rf++lt).all (fun c=>ex.any (fun x=>x.a==c.o.a))=AL):=h8
        go_loopw [8] (fun ix wr=>∃ (k:Nat),k<=en∧ix=.int .i64 k∧Hid (AD=((ex.drop k).all (fun x=>(rf++lt).any (fun c=>c.o.a==x.a))&&AL))∧Blk wr w.heap.size #[.int .i64 size,.int .i64 next,.slice ea en ec,.slice va i vc,.slice ra rn rc,.slice la ln lc] 35∧Below w.heap.size w wr) (fun ix _=>en-(intOf ix).toNat)
        case atStart=>exact⟨0,Zg _,rfl,qt,C4,hT⟩
        case round=>
         clear C4 hT qt;obtain⟨k,hk,rfl,h9,C5,hD⟩:=hrel;have d0:=C5.cell 0;have d1:=C5.cell 1;have d2:=C5.cell 2;have d3:=C5.cell 3;have d4:=C5.cell 4;have d5:=C5.cell 5;simp only[lgA,lgB,lgC] at d0 d1 d2 d3 d4 d5;by_cases hlt:k<en
         ·obtain⟨b,o,x,rfl,hx,c0,c1⟩:=be_ (h1.below hD) hlt;have hd:Hid (ex.drop k=x::ex.drop (k+1)):=al_ hx;have qx:(k:Int)<en:=by omega
          have qy:(0:Int)<=k:=by omega
          clear hx c1;have hp:=fun (u:World) (hu:Below wr.heap.size wr u)=>gJ_ size next (some ⟨b,o,none⟩) en ec va i vc ra rn rc la ln lc rf lt x.a u ((h3.below hD).below hu) ((h4.below hD).below hu) z5 z7;have g0:=Ad d0;have g1:=Ad d1;have g2:=Ad d2;have g3:=Ad d3;have g4:=Ad d4;have g5:=Ad d5;have gx:=Ad c0;have hE:=aA_ wr
          cases ha:(rf++lt).any (fun c=>c.o.a==x.a)
          ·have hO:Hid (AD=false):=by show _=_;rw[h9.out,hd.out,List.all_cons,ha];rfl
           go_wp2_with fail
           refine ab_ (by kernel_rfl) (by kernel_rfl) ?_
           repeat (go_big_quiet_step (first | (go_at_call 98;have qq:=hp;rw[ha] at qq;exact an_ (qq _ (Grw.h _)))))
           refine wpQuiet_nil ?_;intro w6 ht;have hH:=Aa hD (ah_ ht);clear ht g0 g1 g2 g3 g4 g5 gx hE ha hp;go_wp2;go_returns;exact⟨by rw[hR.out,hO.out];rfl,hH⟩
          ·have hO:Hid (AD=((ex.drop (k+1)).all (fun x=>(rf++lt).any (fun c=>c.o.a==x.a))&&AL)):=by show _=_;rw[h9.out,hd.out,List.all_cons,ha];rfl
           go_wp2_with fail
           refine ab_ (by kernel_rfl) (by kernel_rfl) ?_
           repeat (go_big_quiet_step (first | (go_at_call 98;have qq:=hp;rw[ha] at qq;exact an_ (qq _ (Grw.h _)))))
           refine wpQuiet_nil ?_;intro w6 ht;have C6:=C5.below (ah_ ht);have hH:=Aa hD (ah_ ht);clear ht g0 g1 g2 g3 g4 g5 gx hE ha hp;go_wp2;go_roundw
           case rel=>exact⟨k+1,by omega,by go_num,hO,C6,hH⟩
           case measure=>simp[intOf];omega
         ·obtain rfl:k=en:=by omega
          have hO:Hid (AD=AL):=by show _=_;rw[h9.out,Ze (Zm n1.out)];rfl
          clear h9;obtain⟨wi,qO⟩:∃ x,x=wr:=⟨_,rfl⟩;subst qO;have qP:=C5.lt;obtain⟨i0,qw,qA,qB,qC⟩:=info_parts Dr
          go_wp2_with fail
          go_region_held3 (fun u=>u.cell? ⟨w.heap.size,4,none⟩=some (.slice ra rn rc)∧u.cell? ⟨w.heap.size,5,none⟩=some (.slice la ln lc)) (go_keep) (first
           |(refine aJ_ rfl (ay_ _ _ 33 rfl wi.heap.size 80 i0 (.agg #[.int .i64 0,.int .i64 0,.string .empty,.int .i64 0]) 40 underlying33 qw qA qB qC rfl (by decide) aS_ a9_ a11 rn cap11 ([]++rf) rfl qh la ln lc lt rfl (h4.below (Aa hD hq)) (k4.1.2.2 hB0).2 (k4.1.2.2 hB0).1 (rn+ln) rfl (by unfold maxLen;omega) (by omega) hN ?_);intro a13 cap13 qg qs hY;have hv:Below wi.heap.size wi qg:=(Yi hq hY hN (aG_ fun ad ql=>(qh.block ad ql).1));have y14:=Ab hv d4;have y15:=Ab hv d5)
           |(refine aJ_ rfl (ay_ _ _ 33 rfl wi.heap.size 80 i0 (.agg #[.int .i64 0,.int .i64 0,.string .empty,.int .i64 0]) 40 underlying33 qw qA qB qC rfl (by decide) aS_ a9_ _ 0 0 [] rfl (by first | exact aw_ (Blk.new' wi _ _ _ rfl).drew (Zd _) | exact aw_ (Blk.new' wi _ _ _ rfl) (Zd _)) ra rn rc rf rfl (h3.below (Aa hD (by go_grown))) (k3.1.2.2 hB0).2 (k3.1.2.2 hB0).1 rn (Zq _) (by unfold maxLen;omega) (by omega) (by first | exact Nat.le_succ _ | (simp;omega) | simp) ?_);intro a11 cap11 qD qh hX;have hq:Below wi.heap.size wi qD:=(Yi (by go_grown) hX (by first | exact Nat.le_succ _ | (simp;omega) | simp) (aG_ fun ad ql=>(by cases ql;exact Zd _)));have hN:wi.heap.size<=qD.heap.size:=hq.size;have y4:=Ab hq d4;have y5:=Ab hq d5))
          have qE:=C5.below hv;have qj:=Aa hD hv;clear y4 y5 hq hN qh hX hY hv d0 d1 d2 d3 d4 d5 C5 qP;have L13:A5 qg a13 (rn+ln) (rf++lt):=qs.sl;have n13:Hid ((rf++lt).length=rn+ln):=L13.len;clear qs;have hV:Hid (AL=((rf++lt).drop 0).all (fun c=>ex.any (fun x=>x.a==c.o.a))):=h8.out.symm;clear h8
          go_wp2_with fail
          go_loopw [10] (fun ix wq=>∃ (j:Nat),j<=rn+ln∧ix=.int .i64 j∧Hid (AL=((rf++lt).drop j).all (fun c=>ex.any (fun x=>x.a==c.o.a)))∧Below qg.heap.size qg wq) (fun ix _=>rn+ln-(intOf ix).toNat)
          case atStart=>exact⟨0,Zg _,rfl,hV,Yg _ _⟩
          case round=>
           clear hV;obtain⟨j,hj,rfl,hJ,ho⟩:=hrel;have qF:=qE.below ho;have d2:=qF.cell 2;simp only[lgA,lgB,lgC] at d2;have hG:=Aa qj ho;by_cases hlj:j<rn+ln
           ·obtain⟨b,o,c,rfl,hc,c0,_,_,_⟩:=aN_ (L13.below ho) hlj;have hd:Hid ((rf++lt).drop j=c::(rf++lt).drop (j+1)):=al_ hc;have qx:(j:Int)<((rn+ln:Nat):Int):=by omega
            have qy:(0:Int)<=j:=by omega
            clear hc;have qd:=fun (u:World) (hu:Below wr.heap.size wr u)=>iC_ ea k ec ex c.o.a u ((h1.below hG).below hu) z1;have hr:=mA_ c.o.a ex 0;have g2:=Ad d2;have gx:=Ad c0;have hE:=aA_ wr
            cases ha:ex.any (fun x=>x.a==c.o.a)
            ·have qi:Hid (AL=false):=by show _=_;rw[hJ.out,hd.out,List.all_cons,ha];rfl
             rw[ha] at hr;replace hr:decide (atG c.o.a 0 ex<0)=true:=hr
             go_wp2_with fail
             refine ab_ (by kernel_rfl) (by kernel_rfl) ?_
             repeat (go_big_quiet_step (first | (go_at_call 99;exact am_ (qd _ (Grw.h _)))))
             refine wpQuiet_nil ?_;intro w6 ht;have hH:=Aa hG (ah_ ht);clear ht g2 gx hE ha qd;go_wp2;go_returns;exact⟨by rw[hR.out,hO.out,qi.out];rfl,hH⟩
            ·have qi:Hid (AL=((rf++lt).drop (j+1)).all (fun c=>ex.any (fun x=>x.a==c.o.a))):=by show _=_;rw[hJ.out,hd.out,List.all_cons,ha];rfl
             rw[ha] at hr;replace hr:decide (atG c.o.a 0 ex<0)=false:=hr
             go_wp2_with fail
             refine ab_ (by kernel_rfl) (by kernel_rfl) ?_
             repeat (go_big_quiet_step (first | (go_at_call 99;exact am_ (qd _ (Grw.h _)))))
             refine wpQuiet_nil ?_;intro w6 ht;have hH:=Aa ho (ah_ ht);clear ht g2 gx hE ha qd;go_wp2;go_roundw
             case rel=>exact⟨j+1,by omega,by go_num,qi,hH⟩
             case measure=>simp[intOf];omega
           ·obtain rfl:j=rn+ln:=by omega
            go_wp2;go_returns;exact⟨by rw[hR.out,hO.out,hJ.out,Ze (Zm n13.out)];rfl,hG⟩
   ·rw[n2.out,YV h6] at hR;simp only[Zr] at hR;go_enter func47,ntmps47
    go_wp2_with fail
    refine (aT_ size ea en ec ex _ (h1.below (by go_grown)) z2 z1).mono ?_;rintro e w1 ⟨rfl,rfl⟩;rw[hL]
    go_wp2_with fail
    refine (ai_ next 1 1000000000 _).mono ?_;rintro e w1 ⟨rfl,rfl⟩;rw[hU];go_wp2;go_returns;exact⟨by rw[hR.out];rfl,by go_grown⟩
theorem bL_ (h:Ai p=true):p.vs.length<=6∧vgo p.next p.ex 0 p.vs=true∧p.next<=1000000000∧Ao p.size p.ex=true∧(p.vs.map (·.nm.toList)).Nodup:=by
 simp only[Ai,CQ,CK,Zf,ZU] at h;exact⟨h.1.1.1.2.1,h.1.1.1.2.2,h.1.1.1.1.2,h.1.1.1.1.1.1,h.1.1.2⟩
structure BY (B:Nat)(w:World)(r:IR)(y:It):Prop where
 nm:r.nm=y.nm
 ps:Ae Pt.cs 3 201 w B r.pa r.pn r.pc y.ps
structure AE (B:Nat)(w:World)(rows:List IR)(l:List It):Prop where
 len:rows.length=l.length
 at':∀ (i:Nat) r y,rows[i]?=some r->l[i]?=some y->BY B w r y
structure Bd (B:Nat)(w:World)(r:VR)(y:Vo):Prop where
 id:r.id=y.id
 nm:r.nm=y.nm
 fx:r.fx=y.fx
 its:∃ rows,Ae irs 2 125 w B r.pa r.pn r.pc rows∧AE B w rows y.its
structure Ay (B:Nat)(w:World)(rows:List VR)(l:List Vo):Prop where
 len:rows.length=l.length
 at':∀ (i:Nat) r y,rows[i]?=some r->l[i]?=some y->Bd B w r y
theorem BY.below {r:IR}{y:It}(h:BY B w r y)(hb:Below w.heap.size w w'):BY B w' r y:=⟨h.nm,h.ps.below hb⟩
theorem AE.below {rows:List IR}{l:List It}(h:AE B w rows l)(hb:Below w.heap.size w w'):AE B w' rows l:=⟨h.len,fun i r y h1 h2=>(h.at' i r y h1 h2).below hb⟩
theorem Bd.below (h:Bd B w r y)(hb:Below w.heap.size w w'):Bd B w' r y:=by
 obtain⟨h1,h2,h3,rows,R,T⟩:=h;exact⟨h1,h2,h3,rows,R.below hb,T.below hb⟩
theorem Ay.below {rows:List VR}(h:Ay B w rows l)(hb:Below w.heap.size w w'):Ay B w' rows l:=⟨h.len,fun i r y h1 h2=>(h.at' i r y h1 h2).below hb⟩
theorem BY.mono {r:IR}{y:It}(h:BY B w r y)(hb:B'<=B):BY B' w r y:=⟨h.nm,h.ps.mono hb⟩
theorem AE.mono {rows:List IR}{l:List It}(h:AE B w rows l)(hb:B'<=B):AE B' w rows l:=⟨h.len,fun i r y h1 h2=>(h.at' i r y h1 h2).mono hb⟩
theorem Bd.mono (h:Bd B w r y)(hb:B'<=B):Bd B' w r y:=by
 obtain⟨h1,h2,h3,rows,R,T⟩:=h;exact⟨h1,h2,h3,rows,R.mono hb,T.mono hb⟩
theorem Ay.mono {rows:List VR}(h:Ay B w rows l)(hb:B'<=B):Ay B' w rows l:=⟨h.len,fun i r y h1 h2=>(h.at' i r y h1 h2).mono hb⟩
theorem AE.ty {rows:List IR}{l:List It}(h:AE B w rows l)(hg:w.grownBy w' row)(hr:BA w row t')(ht:(201:TypeId)≠t'):AE B w' rows l:=⟨h.len,fun i r y h1 h2=>⟨(h.at' i r y h1 h2).nm,(h.at' i r y h1 h2).ps.ty hg hr ht⟩⟩
theorem Bd.ty (h:Bd B w r y)(hg:w.grownBy w' row)(hr:BA w row t')(ht:(201:TypeId)≠t')(ht':(125:TypeId)≠t'):Bd B w' r y:=by
 obtain⟨h1,h2,h3,rows,R,T⟩:=h;exact⟨h1,h2,h3,rows,R.ty hg hr ht',T.ty hg hr ht⟩
theorem Ay.ty {rows:List VR}(h:Ay B w rows l)(hg:w.grownBy w' row)(hr:BA w row t')(ht:(201:TypeId)≠t')(ht':(125:TypeId)≠t'):Ay B w' rows l:=⟨h.len,fun i r y h1 h2=>(h.at' i r y h1 h2).ty hg hr ht ht'⟩
theorem kl_ {R:α->β->Prop}{rows:List α}{l:List β}{r:α}{y:β}(hl:rows.length=l.length)(h:∀ (i:Nat) r y,rows[i]?=some r->l[i]?=some y->R r y)(h':R r y):∀ (i:Nat) q z,(rows++[r])[i]?=some q->(l++[y])[i]?=some z->R q z:=by
 intro i q z h1 h2;by_cases hi:i<rows.length
 ·rw[ZD hi] at h1;rw[ZD (by rw[<-hl];exact hi)] at h2;exact h i q z h1 h2
 ·rw[Zv (by omega)] at h1;rw[Zv (by rw[<-hl];omega)] at h2;have h0:i-rows.length=0:=by have:=(Zb.1 h1).1;simp at this;omega
  rw[h0] at h1;rw[<-hl,h0] at h2;simp at h1 h2;subst h1 h2;exact h'
theorem mB_ {R:α->β->Prop}{rows:List α}{l:List β}{r:α}{y:β}(h:∀ (i:Nat) r y,rows[i]?=some r->l[i]?=some y->R r y)(h':R r y):∀ (i:Nat) q z,(rows.set k r)[i]?=some q->(l.set k y)[i]?=some z->R q z:=by
 intro i q z h1 h2;by_cases hi:k=i
 ·subst hi;have e1:=(Zb.1 h1).1;have e2:=(Zb.1 h2).1;rw[List.length_set] at e1 e2;rw[Zx e1] at h1;rw[Zx e2] at h2
  cases h1;cases h2
  exact h'
 ·rw[ZJ hi] at h1 h2;exact h i q z h1 h2
theorem AE.nil (B:Nat)(w:World):AE B w [] []:=⟨rfl,fun i r y h=>by simp at h⟩
theorem Ay.nil (B:Nat)(w:World):Ay B w [] []:=⟨rfl,fun i r y h=>by simp at h⟩
theorem AE.snoc {rows:List IR}{l:List It}{r:IR}{y:It}(h:AE B w rows l)(h':BY B w r y):AE B w (rows++[r]) (l++[y]):=⟨by simp[h.len],kl_ h.len h.at' h'⟩
theorem Ay.snoc {rows:List VR}(h:Ay B w rows l)(h':Bd B w r y):Ay B w (rows++[r]) (l++[y]):=⟨by simp[h.len],kl_ h.len h.at' h'⟩
theorem Ay.set {rows:List VR}(k:Nat)(h:Ay B w rows l)(h':Bd B w r y):Ay B w (rows.set k r) (l.set k y):=⟨by simp[h.len],mB_ h.at' h'⟩
theorem AE.cut {rows:List IR}{l:List It}(h:AE B w rows l)(k:Nat):AE B w (rows.take k++rows.drop (k+1)) (l.take k++l.drop (k+1)):=by
 rw[<-List.eraseIdx_eq_take_drop_succ,<-List.eraseIdx_eq_take_drop_succ];refine⟨by rw[List.length_eraseIdx,List.length_eraseIdx,h.len],fun i r y h1 h2=>?_⟩;rw[List.getElem?_eraseIdx] at h1 h2;split at h1
 ·rename_i hi;rw[if_pos hi] at h2;exact h.at' _ r y h1 h2
 ·rename_i hi;rw[if_neg hi] at h2;exact h.at' _ r y h1 h2
theorem Ay.cut {rows:List VR}(h:Ay B w rows l)(k:Nat):Ay B w (rows.take k++rows.drop (k+1)) (l.take k++l.drop (k+1)):=by
 rw[<-List.eraseIdx_eq_take_drop_succ,<-List.eraseIdx_eq_take_drop_succ];refine⟨by rw[List.length_eraseIdx,List.length_eraseIdx,h.len],fun i r y h1 h2=>?_⟩;rw[List.getElem?_eraseIdx] at h1 h2;split at h1
 ·rename_i hi;rw[if_pos hi] at h2;exact h.at' _ r y h1 h2
 ·rename_i hi;rw[if_neg hi] at h2;exact h.at' _ r y h1 h2
theorem Ae.sf {l:List α}(h:Ae cs sz t w B a n cap l):Sf B w a:=fun _ ad e=>by
 rcases h.own with⟨h0,_⟩ | ⟨b',h1,h2,_,_,c,h3,_⟩
 ·rw[h0] at e;cases e
 ·rw[h1] at e;cases e;exact⟨h2,c,t,h3⟩
theorem Ae.hd {l:List α}(h:Ae cs sz t w B a n cap l):Hd B a n cap:=by
 rcases h.own with⟨rfl,rfl,rfl⟩ | ⟨b',rfl,h2,h3,h4,_⟩
 ·exact⟨Zd _,by omega,fun _=>⟨fun _=>rfl,fun ad e=>by cases e⟩⟩
 ·exact⟨h3,by unfold maxLen at h4;omega,fun _=>⟨(fun e=>by cases e),fun ad e=>by cases e;rfl⟩⟩
theorem AE.rows {rows:List IR}{l:List It}(h:AE B w rows l):CB B w rows l:=⟨h.len,fun i r y h1 h2=>by
 have h':=h.at' i r y h1 h2;exact⟨h'.nm,h'.ps.sl,h'.ps.hd,fun ad e=>(h'.ps.block ad e).1,fun ad e=>(h'.ps.block ad e).2,h'.ps.sf⟩⟩
theorem Ay.rows {rows:List VR}(h:Ay B w rows l):Cc B w rows l:=⟨h.len,fun i r y h1 h2=>by
 obtain⟨e1,e2,e3,rs,R,T⟩:=h.at' i r y h1 h2;exact⟨e1,e2,e3,T.rows.its R,R.hd⟩⟩
def Am (B:Nat)(w:World)(v:Value)(p:Po):Prop:=
 ∃ ea en ec va vn vc ra rn rc la ln lc rows,v=.agg #[.int .i64 p.size,.int .i64 p.next,.slice ea en ec,.slice va vn vc,.slice ra rn rc,.slice la ln lc]∧
  Ae Ex.cs 2 76 w B ea en ec p.ex∧(Ae vrs 4 62 w B va vn vc rows∧Ay B w rows p.vs)∧Ae Ct.cs 4 80 w B ra rn rc p.rf∧Ae Ct.cs 4 80 w B la ln lc p.lt∧(∀ x y,ra=some x->la=some y->0<rc->0<lc->x.block≠y.block)
def NnE (v:Value):Prop:=∀ s n ea en ec a3 a4 a5,v=.agg #[s,n,.slice ea en ec,a3,a4,a5]->ea≠none
theorem Am.below (h:Am B w v p)(hb:Below w.heap.size w w'):Am B w' v p:=by
 obtain⟨ea,en,ec,va,vn,vc,ra,rn,rc,la,ln,lc,rows,hv,h1,⟨h2,h3⟩,h4,h5,h6⟩:=h;exact⟨ea,en,ec,va,vn,vc,ra,rn,rc,la,ln,lc,rows,hv,h1.below hb,⟨h2.below hb,h3.below hb⟩,h4.below hb,h5.below hb,h6⟩
theorem Am.mono (h:Am B w v p)(hb:B'<=B):Am B' w v p:=by
 obtain⟨ea,en,ec,va,vn,vc,ra,rn,rc,la,ln,lc,rows,hv,h1,⟨h2,h3⟩,h4,h5,h6⟩:=h;exact⟨ea,en,ec,va,vn,vc,ra,rn,rc,la,ln,lc,rows,hv,h1.mono hb,⟨h2.mono hb,h3.mono hb⟩,h4.mono hb,h5.mono hb,h6⟩
theorem Am.at' (h:Am B w v p):AG B w v p:=by
 obtain⟨ea,en,ec,va,vn,vc,ra,rn,rc,la,ln,lc,rows,hv,h1,⟨h2,h3⟩,h4,h5,h6⟩:=h;exact⟨ea,en,ec,va,vn,vc,ra,rn,rc,la,ln,lc,hv,⟨h1.sl,h1.hd,h1.sf⟩,⟨h3.rows.vs h2,h2.hd⟩,⟨h4.sl,h4.hd,h4.sf⟩,h5.sl,h5.hd,h5.sf⟩
def bkI (rs:List IR):List Nat:=rs.filterMap (fun r=>r.pa.map (·.block))
def pbk (w:World)(r:VR):List Nat:=(List.range r.pn).filterMap (fun j=>match r.pa with
 |none=>none
 |some a=>match w.cell? ⟨a.block,a.off+j*2+1,none⟩ with
  |some (.slice (some x) _ _)=>some x.block
  |_=>none)
theorem km_ {f:Nat->Option β}{g:α->Option β}:∀ (rs:List α) (k:Nat),(∀ (i:Nat) (x:α),rs[i]?=some x->f (k+i)=g x)->(List.range' k rs.length).filterMap f=rs.filterMap g
 |[],_,_=>rfl
 |x::r,k,h=>by
  rw[Zw,List.range'_succ,List.filterMap_cons,List.filterMap_cons];have h0:=h 0 x rfl;rw[Nat.add_zero] at h0;rw[h0,km_ (f:=f) (g:=g) r (k+1) (fun i y hy=>by have:=h (i+1) y (by simpa using hy);rw[<-this,show k+1+i=k+(i+1) by omega])]
theorem cv_ (h:AF irs 2 w r.pa r.pn rs):pbk w r=bkI rs:=by
 unfold pbk bkI;rw[List.range_eq_range',<-h.len];refine km_ rs 0 (fun i x hx=>?_);obtain⟨b,o,ha,hc⟩:=h.cell i x hx;have h1:=hc 1 (.slice x.pa x.pn x.pc) rfl;rw[ha,Zq];simp only;rw[h1]
 cases x.pa<;>rfl
theorem co_ {qs:List IR}(h:AF irs 2 w a n rs)(h':AF irs 2 w a n qs):rs=qs:=by
 refine List.ext_getElem? (fun i=>?_);by_cases hi:i<n
 ·have e1:rs[i]?=some (rs[i]'(by rw[h.len];exact hi)):=by simp[h.len,hi]
  have e2:qs[i]?=some (qs[i]'(by rw[h'.len];exact hi)):=by simp[h'.len,hi]
  rw[e1,e2];obtain⟨b,o,ha,hc⟩:=h.cell i _ e1;obtain⟨b',o',hb,he⟩:=h'.cell i _ e2;rw[ha] at hb
  cases hb
  have c0:=hc 0 _ rfl;have c1:=hc 1 _ rfl;have d0:=he 0 _ rfl;have d1:=he 1 _ rfl;rw[c0] at d0;rw[c1] at d1;generalize rs[i]'(by rw[h.len];exact hi)=x at *;generalize qs[i]'(by rw[h'.len];exact hi)=y at *;obtain⟨x1,x2,x3,x4⟩:=x;obtain⟨y1,y2,y3,y4⟩:=y;simp only[Zo,Value.string.injEq,Value.slice.injEq] at d0 d1;obtain⟨rfl,rfl,rfl⟩:=d1;subst d0;rfl
 ·rw[List.getElem?_eq_none (by rw[h.len];omega),List.getElem?_eq_none (by rw[h'.len];omega)]
theorem ng_ {rows:List IR}(h:∀ (i j:Nat) (r s:IR) (x y:Addr),i≠j->rows[i]?=some r->rows[j]?=some s->r.pa=some x->s.pa=some y->x.block≠y.block):(bkI rows).Nodup:=by
 unfold bkI;rw[List.nodup_iff_pairwise_ne,List.pairwise_filterMap,Yb];intro i j hi hj hc a ha b hb;obtain⟨x,hx,rfl⟩:=ZW.1 ha;obtain⟨y,hy,rfl⟩:=ZW.1 hb;exact h i j _ _ x y (by omega) (by simp[hi]) (by simp[hj]) hx hy
theorem jn_ {rows:List IR}{z:Nat}(h:z∈bkI rows):∃ (i:Nat) (r:IR) (x:Addr),rows[i]?=some r∧r.pa=some x∧x.block=z:=by
 unfold bkI at h;obtain⟨r,hr,e⟩:=YQ.1 h;obtain⟨x,hx,rfl⟩:=ZW.1 e;obtain⟨i,hi,rfl⟩:=YS hr;exact⟨i,_,x,by simp[hi],hx,rfl⟩
def DO (n:Nat)(a b:List Nat):Prop:=a.Nodup->(∀ x∈a,x<n)->b.Nodup∧∀ x∈b,x∈a∨n<=x
theorem DO.mono {m:Nat}{a:List Nat}(h:DO n a b)(hm:m<=n):DO m a b:=fun h1 h2=>by
 obtain⟨h3,h4⟩:=h h1 (fun x hx=>by have:=h2 x hx;omega);exact⟨h3,fun x hx=>(h4 x hx).imp id (fun h=>by omega)⟩
theorem DO.sub {a:List Nat}(h:b.Sublist a):DO n a b:=fun h1 _=>⟨h1.sublist h,fun _ hx=>.inl (h.subset hx)⟩
theorem kn_ {A M C M':List Nat}(hM:M'.length<=1)(hz:∀ z∈M',n<=z):DO n (A++M++C) (A++M'++C):=fun h1 h2=>by
 have ha:(A++C).Nodup:=h1.sublist ((List.sublist_append_left A M).append (List.Sublist.refl C));have hA:∀ x∈A,x<n:=fun x hx=>h2 x (by simp[hx]);have hC:∀ x∈C,x<n:=fun x hx=>h2 x (by simp[hx])
 have hb:M'.Nodup:=by
  match M',hM with
  |[],_=>simp
  |[_],_=>simp
 rw[Yf] at ha;obtain⟨a1,a2,a3⟩:=ha;refine⟨?_,fun x hx=>?_⟩
 ·rw[ZC,Yf,Yf];refine⟨a1,⟨hb,a2,fun x hx y hy e=>?_⟩,fun x hx y hy e=>?_⟩
  ·have:=hz x hx;have:=hC y hy;omega
  ·rcases Zs.1 hy with hy | hy
   ·have:=hz y hy;have:=hA x hx;omega
   ·exact a3 x hx y hy e
 ·rcases Zs.1 hx with hx | hx
  ·rcases Zs.1 hx with hx | hx
   ·exact .inl (by simp[hx])
   ·exact .inr (hz x hx)
  ·exact .inl (by simp[hx])
theorem mC_:(bkI [x]).length<=1:=by unfold bkI;cases h:x.pa<;>simp[h]
theorem iJ_ (hx:∀ ad,x.pa=some ad->n<=ad.block):∀ z∈bkI [x],n<=z:=by
 intro z hz;unfold bkI at hz
 cases h:x.pa with
 |none=>simp[h] at hz
 |some ad=>simp[h] at hz;subst hz;exact hx ad h
theorem dB_ (a b:List IR):bkI (a++b)=bkI a++bkI b:=List.filterMap_append
theorem ko_ (hx:∀ ad,x.pa=some ad->n<=ad.block):DO n (bkI rs) (bkI (rs.take k++[x]++rs.drop k)):=by
 have h:=kn_ (n:=n) (A:=bkI (rs.take k)) (M:=[]) (C:=bkI (rs.drop k)) (M':=bkI [x]) mC_ (iJ_ hx);rw[Yy,<-dB_,YM] at h;rw[dB_,dB_];exact h
theorem oa_ {r:IR}(hk:rs[k]?=some r)(hx:∀ ad,x.pa=some ad->n<=ad.block):DO n (bkI rs) (bkI (rs.set k x)):=by
 have hl:=(Zb.1 hk).1;have h:=kn_ (n:=n) (A:=bkI (rs.take k)) (M:=bkI [r]) (C:=bkI (rs.drop (k+1))) (M':=bkI [x]) mC_ (iJ_ hx)
 have e1:rs=rs.take k++[r]++rs.drop (k+1):=by
  rw[ZC,List.singleton_append]
  have:r::rs.drop (k+1)=rs.drop k:=by rw[List.drop_eq_getElem_cons hl];congr 1;have:=(Zb.1 hk).2;exact this.symm
  rw[this,YM]
 have e2:rs.set k x=rs.take k++[x]++rs.drop (k+1):=by
  rw[List.set_eq_take_append_cons_drop,if_pos hl,ZC,List.singleton_append]
 rw[<-dB_,<-dB_,<-dB_,<-dB_,<-e1,<-e2] at h;exact h
theorem nh_ {a b' c:List Nat}(h:(a++b++c).Nodup)(hn:∀ x∈a++b++c,x<n)(hm:DO n b b'):(a++b'++c).Nodup:=by
 rw[ZC,Yf,Yf] at h ⊢;obtain⟨h1,⟨h2,h3,h4⟩,h5⟩:=h;obtain⟨m1,m2⟩:=hm h2 (fun x hx=>hn x (by simp[hx]));refine⟨h1,⟨m1,h3,fun x hx y hy e=>?_⟩,fun x hx y hy e=>?_⟩
 ·rcases m2 x hx with h | h
  ·exact h4 x h y hy e
  ·have:=hn y (by simp[hy]);omega
 ·rcases Zs.1 hy with hy | hy
  ·rcases m2 y hy with h | h
   ·exact h5 x hx y (by simp[h]) e
   ·have:=hn x (by simp[hx]);omega
  ·exact h5 x hx y (by simp[hy]) e
theorem hC_ {f:α->List Nat}:∀ {l m:List α},l.Sublist m->(l.flatMap f).Sublist (m.flatMap f)
 |_,_,.slnil=>List.Sublist.refl _
 |_,_,.cons a h=>by rw[ZF];exact (hC_ h).trans (List.sublist_append_right _ _)
 |_,_,.cons_cons a h=>by rw[ZF,ZF];exact (List.Sublist.refl _).append (hC_ h)
theorem iK_ {f:α->List Nat}{l:List α}{x:α}(hi:i<l.length):(l.set i x).flatMap f=(l.take i).flatMap f++f x++(l.drop (i+1)).flatMap f:=by
 rw[List.set_eq_take_append_cons_drop,if_pos hi,ZQ,ZF,ZC]
theorem ob_ {f:α->List Nat}{l:List α}{x:α}(hi:l[i]?=some x):l.flatMap f=(l.take i).flatMap f++f x++(l.drop (i+1)).flatMap f:=by
 have hl:=(Zb.1 hi).1
 have e:l.set i x=l:=by
  refine List.ext_getElem? (fun j=>?_);rw[List.getElem?_set];split
  ·rename_i e;subst e;exact hi.symm
  ·rfl
 have h:=iK_ (f:=f) (x:=x) hl
 rwa [e] at h
theorem bW_ {f g:α->List Nat}:∀ {l:List α},(∀ x∈l,f x=g x)->l.flatMap f=l.flatMap g
 |[],_=>rfl
 |x::r,h=>by rw[ZF,ZF,h x (by simp),bW_ (fun y hy=>h y (by simp[hy]))]
def NP (w:World)(rows:List VR):Prop:=(rows.flatMap (pbk w)).Nodup
theorem fP_ (V:Bd B w r y)(hk:∀ rs,Ae irs 2 125 w B r.pa r.pn r.pc rs->AF irs 2 w' r.pa r.pn rs):pbk w' r=pbk w r:=by
 obtain⟨_,_,_,rs,R,_⟩:=V;rw[cv_ (hk rs R),cv_ R.sl]
theorem oc_ (V:Bd B w r y):∀ z∈pbk w r,B<=z∧z<w.heap.size:=by
 obtain⟨_,_,_,rs,R,T⟩:=V;rw[cv_ R.sl];intro z hz;obtain⟨i,q,x,h1,h2,rfl⟩:=jn_ hz;have hi:i<y.its.length:=by rw[<-T.len];exact (Zb.1 h1).1
 exact (T.at' i q y.its[i] h1 (by simp[hi])).ps.block x h2
theorem Ay.of_mem {rows:List VR}(T:Ay B w rows l)(h:r∈rows):∃ y,Bd B w r y:=by
 obtain⟨i,hi,rfl⟩:=YS h;have hl:i<l.length:=by rw[<-T.len];exact hi
 exact⟨l[i],T.at' i rows[i] l[i] (by simp[hi]) (by simp[hl])⟩
theorem mD_ {rows:List VR}(T:Ay B w rows l):∀ z∈rows.flatMap (pbk w),z<w.heap.size:=fun z hz=>by
 obtain⟨r,hr,hz⟩:=ZL.1 hz;obtain⟨y,V⟩:=T.of_mem hr;exact (oc_ V z hz).2
theorem g3_ {rows:List VR}(T:Ay B w rows l)(N:NP w rows)(hk:∀ r∈rows,∀ rs,Ae irs 2 125 w B r.pa r.pn r.pc rs->AF irs 2 w' r.pa r.pn rs):NP w' rows:=by
 unfold NP;rw[bW_ (g:=pbk w) (fun r hr=>by obtain⟨y,V⟩:=T.of_mem hr;exact fP_ V (hk r hr))];exact N
theorem dc_ {rows:List VR}(T:Ay B w rows l)(N:NP w rows)(hb:Below w.heap.size w w'):NP w' rows:=g3_ T N (fun _ _ _ R=>(R.below hb).sl)
theorem lG_ {rows:List VR}(T:Ay B w rows l)(N:NP w rows)(hg:w.grownBy w' (some k))(hk:k<B):NP w' rows:=g3_ T N (fun _ _ _ R=>(R.grown hg (fun ad e=>by have:=(R.block ad e).1;omega)).sl)
theorem kp_ {rows:List VR}(T:Ay B w rows l)(N:NP w rows)(hg:w.grownBy w' row)(hr:BA w row t)(ht:(125:TypeId)≠t):NP w' rows:=g3_ T N (fun _ _ _ R=>(R.ty hg hr ht).sl)
theorem mE_ {a:List Nat}(ha:a.Nodup)(hl:∀ z∈a,z<n)(hb:b.Nodup)(hf:∀ z∈b,n<=z):(a++b).Nodup:=by
 rw[Yf];exact⟨ha,hb,fun x hx y hy e=>by have:=hl x hx;have:=hf y hy;omega⟩
end
section
open Go Go.RowKit Go.BigFrame Tryz
theorem FU:(prog.info? 125).map (fun i=>(i.zero,i.size,i.bytes))=some (some (.agg #[.string .empty,.slice none 0 0]),2,40):=by kernel_rfl
theorem HP:(prog.info? 62).map (fun i=>(i.zero,i.size,i.bytes))=some (some (.agg #[.int .i64 0,.string .empty,.bool false,.slice none 0 0]),4,56):=by kernel_rfl
theorem po_ {α:Type}{cs:α->List Value}{size:Nat}{P:Program}{o:Oper}{a:Act}{w:World}{K:Act->World->Prop}{Q:Exit->Act->World->Prop}
  (s x:Operand)(t:TypeId)(ho:o.op=.call {callee:=.builtin .append,args:=#[s,x],argTypes:=#[t,t]})
  (B:Nat)(e:TypeId)(i:TypeInfo)(z:Value)(bytes:Nat)(ht:P.underlying t=some (.slice e))(hi:P.info? e=some i)(hz:i.zero=some z)(hsize:i.size=size)(hby:i.bytes=bytes)(hzs:z.cells.size=size)(hpos:0<size)
  (hsz:∀ y,(cs y).length=size)(hone:∀ (l:List α),∀ u∈l.flatMap cs,u.oneCell'=true)
  (da:Option Addr)(dn dcap:Nat)(ld:List α)(hs:a.eval s=.slice da dn dcap)(hd:Ae cs size e w B da dn dcap ld)
  (sa:Option Addr)(sn scap:Nat)(ls:List α)(hx:a.eval x=.slice sa sn scap)(hsrc:AF cs size w sa sn ls)(hspot:∀ ad,sa=some ad->ad.spot=none)(hnone:sa=none->scap=0)
  (tot:Nat)(htot:dn+sn=tot)(h63:tot<=maxLen)(hbytes:tot*bytes<=140737488355328)(hbase:B<=w.heap.size)
  (h:∀ a' cap' w',Ae cs size e w' B a' tot cap' (ld++ls)->w.grownBy w' (Value.ownBlock (.slice da dn dcap))->(da≠none->a'≠none)->K (a.put o.dst (.slice a' tot cap')) w'):o.wp P a w K Q:=by
 subst htot;have hf:=hd.row hsz;have hh:(ld++ls).length=dn+sn:=by rw[ZE,hd.sl.len,hsrc.len]
 cases sa with
 |none=>
  have h0:sn=0:=by
   cases ls with
   |nil=>rw[<-hsrc.len];rfl
   |cons y r=>obtain⟨b,o',hb,_⟩:=hsrc.cell 0 y rfl;cases hb
  obtain rfl:=h0;obtain rfl:=hnone rfl;have hm:ls=[]:=Zt hsrc.len;subst hm;have hj:=run_append_owned_none (P:=P) w B t o.type e i size ht hi (.slice da dn dcap) dn (ld.flatMap cs) hf;unfold Oper.wp;simp[execOp,ho,resolve,invoke,builtin,hs,hx,hj,Result.andThen];exact h da dcap w (by simpa using hd) (Yh _ _) (fun h=>h)
 |some ad=>
  obtain⟨b,off,spot⟩:=ad
  have:=hspot _ rfl
  simp only at this;subst this;refine wp_append_own w s x t ho B e i z size bytes ht hi hz hsize hby hzs hpos (.slice da dn dcap) dn (ld.flatMap cs) hs hf ⟨b,off,none⟩ sn scap (ls.flatMap cs) hx (by rw[aY_ hsz,hsrc.len]) (AF.src hsz hsrc) (hone ls) h63 hbytes hbase ?_;intro v' w' ha hg hc;rw[<-ZQ] at ha;obtain⟨a',cap',rfl,he⟩:=bz_ hsz hh ha;refine h a' cap' w' he hg (fun hl hk=>?_);subst hk
  have hz:dn+sn=0∧cap'=0:=by
   rcases he.own with⟨_,h1,h2⟩ | ⟨b,e,_⟩
   ·exact⟨h1,h2⟩
   ·cases e
  rw[hz.1,hz.2] at hc
  have:=(hc.1 rfl).1
  injection this with e1;exact hl e1
end
end Go.Proofs.YtahenegmbmnmjaaGreatDoor
