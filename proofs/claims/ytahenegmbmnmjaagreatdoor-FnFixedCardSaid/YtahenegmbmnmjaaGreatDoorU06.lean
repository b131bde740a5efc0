/- The laws' comparisons of lists of items and volumes, where they are the same. -/
import Derived.Test.YtahenegmbmnmjaaGreatDoorU05
set_option maxHeartbeats 20000000
set_option maxRecDepth 100000
namespace Go.Proofs.YtahenegmbmnmjaaGreatDoor
section
open Go.RowKit Go.BigFrame Go.Lib Tryz
variable{B e n:Nat}{w:World}
theorem eo_ (a:Option Addr)(n cap:Nat)(l:List Pt)(a':Option Addr)(n' cap':Nat)(e:List Ex)(w:World)(h:AN w a n l)(h':Bf w a' n' e)(hstr:BS e)(hn:n<=16)(hn':n'<=4194304)(hall:∀ p∈l,1<=p.n∧p.n<=100∧(p.a≠0->0<=p.f∧p.f<20)):
  Calls prog 154 #[.slice a n cap,.slice a' n' cap'] w fun x w'=>GH x (cgo e ⟨#[]⟩ l)∧Below w.heap.size w w':=by
 have hg:Hid (l.length=n):=h.len;have hf:Hid (cgo e ⟨#[]⟩ l=cgo e ⟨#[]⟩ (l.drop 0)):=rfl;generalize cgo e ⟨#[]⟩ l=R at *;obtain⟨i0,hi,hx,hy,hz⟩:=info_parts Hz;go_enter func154,ntmps154
 go_wp2_with fail
 go_loopw [6,7] (fun out ix wr=>∃ (k:Nat) (s:ByteArray),k<=n∧ix=.int .i64 k∧s.size<=100*k∧out=.string s∧Hid (R=cgo e s (l.drop k))∧Below w.heap.size w wr) (fun _ ix _=>n-(RowKit.intOf ix).toNat)
 case atStart=>exact⟨0,⟨#[]⟩,Zg _,rfl,by simp[ByteArray.size],rfl,hf,Yg _ _⟩
 case round=>
  obtain⟨k,s,hk,rfl,hm,rfl,hI,hB⟩:=hrel;have hw:=hB.size;by_cases hlt:k<n
  ·obtain⟨b,o,p,rfl,hp,c0,c1,c2⟩:=bi_ (h.below hB) hlt;have hd:Hid (l.drop k=p::l.drop (k+1)):=al_ hp;obtain⟨hH,hJ,hu⟩:=hall p (Zc hp);obtain⟨pa,pf,pn⟩:=p;dsimp only at *;obtain⟨pk,rfl⟩:∃ pk:Nat,pn=pk:=⟨pn.toNat,by omega⟩
   cases ha:(pa==0)
   ·have ht:pa≠0:=by simpa using ha
    obtain⟨f0,f29⟩:=hu ht;obtain⟨fk,rfl⟩:∃ fk:Nat,pf=fk:=⟨pf.toNat,by omega⟩;have hc:Hid (R=match pieceO e ⟨pa,fk,pk⟩ with | none=>none | some d=>cgo e (s++d) (l.drop (k+1))):=by show _=_;rw[hI.out,hd.out];rfl
    have hb:Hid (pieceO e ⟨pa,fk,pk⟩=if ((AM pa e).size:Int)<fk+pk then none else some ((AM pa e).extract fk (fk+pk))):=by
     show _=_;simp only[pieceO,ha,Zj,if_false,Int.toNat_natCast];rw[show ((fk:Int)+(pk:Int)).toNat=fk+pk by omega]
    have hD:=ek_ (addr:=pa) hstr
    go_wp2_with fail
    refine (iC_ a' n' cap' e pa _ ((h'.below hB).alloc _) hn').mono ?_;rintro x w3 ⟨rfl,rfl⟩;rcases kf_ pa e 0 with⟨g1,g2⟩ | ⟨j,x,g1,g2,g3⟩
    ·rw[g1];rw[g2,if_pos (by simp[ByteArray.size];omega)] at hb;clear hI hd hp c0 c1 c2
     go_wp2_with fail
     go_quiet (fail)
     go_wp2;go_returns;rw[hc.out,hb.out];exact⟨rfl,below_drewN (by go_grown) _⟩
    ·rw[g2,show ((0:Nat):Int)+(j:Int)=j by omega];rw[g3] at hb hD;have hj:j<n':=by rw[<-h'.len];exact (Zb.1 g1).1
     obtain⟨b',o',x',rfl,hr,y0,y1⟩:=be_ ((h'.below hB).alloc (.cells #[.int .i64 pa,.int .i64 fk,.int .i64 pk] 201)) hj;rw[g1] at hr;obtain rfl:=Zi hr;have hl:Below w.heap.size w (wr.alloc (.cells #[.int .i64 pa,.int .i64 fk,.int .i64 pk] 201)):=hB.alloc hw _;have z0:(wr.alloc (.cells #[.int .i64 pa,.int .i64 fk,.int .i64 pk] 201)).cell? ⟨wr.heap.size,0,none⟩=some (.int .i64 pa):=by simp
     have z1:(wr.alloc (.cells #[.int .i64 pa,.int .i64 fk,.int .i64 pk] 201)).cell? ⟨wr.heap.size,1,none⟩=some (.int .i64 fk):=by simp
     have z2:(wr.alloc (.cells #[.int .i64 pa,.int .i64 fk,.int .i64 pk] 201)).cell? ⟨wr.heap.size,2,none⟩=some (.int .i64 pk):=by simp
     clear c0 c1 c2 hI hd hp g1 g2 g3;generalize wr.alloc (.cells #[.int .i64 pa,.int .i64 fk,.int .i64 pk] 201)=W at *;obtain⟨xa,D⟩:=x;dsimp only at *;have hC:(0:Int)<=j:=by omega
     have hE:(j:Int)<n':=by omega
     have hF:decide ((j:Int)<0)=false:=by simp
     by_cases hlt2:(D.size:Int)<fk+pk
     ·rw[if_pos hlt2] at hb
      go_wp2_with fail
      go_quiet (fail)
      go_wp2;go_returns;rw[hc.out,hb.out];exact⟨rfl,below_drewN hl _⟩
     ·rw[if_neg hlt2] at hb;have hG:(fk:Int)+(pk:Int)<=D.size:=by omega
      have hv:=fun W'=>run_slice_string (P:=prog) W' 9 D .i64 .i64 fk (fk+pk) underlying9 (by omega) (by omega) (by omega);rw[show ((fk:Int)+(pk:Int)).toNat=fk+pk by omega,Int.toNat_natCast] at hv;have hK:(D.extract fk (fk+pk)).size=pk:=by rw[ByteArray.size_extract];omega
      generalize D.extract fk (fk+pk)=X at *
      go_wp2_with fail
      go_quiet (fail)
      have hs:=below_drewN hl nq;replace z0:(W.drewN nq).cell? ⟨wr.heap.size,0,none⟩=some (.int .i64 pa):=z0;replace z1:(W.drewN nq).cell? ⟨wr.heap.size,1,none⟩=some (.int .i64 fk):=z1;replace z2:(W.drewN nq).cell? ⟨wr.heap.size,2,none⟩=some (.int .i64 pk):=z2;replace y1:(W.drewN nq).cell? ⟨b',o'+j*2+1,none⟩=some (.string D):=y1;clear y0;generalize W.drewN nq=W1 at *
      go_wp2_with fail
      go_quiet (fail)
      go_wp2;go_roundw
      case rel=>exact⟨k+1,s++X,by omega,by go_num,by rw[ByteArray.size_append];omega,rfl,by show _=_;rw[hc.out,hb.out],below_drewN hs _⟩
      case measure=>simp[RowKit.intOf];omega
   ·have hc:Hid (R=cgo e (s++zs pk) (l.drop (k+1))):=by
     show _=_;rw[hI.out,hd.out];simp[cgo,pieceO,ha]
    have hq:∀ u:World,(Instr.makeSlice 56 (.int .i64 (pk:Int)) (.int .i64 (pk:Int))).run prog u=.ok (.slice (some ⟨u.heap.size,0,none⟩) pk pk) (u.alloc (.cells (strCells (zs pk)).toArray 5)):=fun u=>by
     have hm:=run_make (P:=prog) u 56 5 i0 (.int .u8 0) underlying56 hi hx .i64 .i64 (pk:Int) (pk:Int) (by omega) (YB _) (by rw[hz];omega) (by omega);rw[jN_];simpa[hy,Value.cells,madeCells,Builtin.zeroCells] using hm
    have ho:∀ u:World,(convert 56 9 (.slice (some ⟨u.heap.size,0,none⟩) pk pk)).run prog (u.alloc (.cells (strCells (zs pk)).toArray 5))=.ok (.string (zs pk)) (u.alloc (.cells (strCells (zs pk)).toArray 5)):=fun u=>
     jO_ (B:=0) (e:=5) (n:=pk) ⟨by rw[strCells_length,ca_,Nat.mul_one],.inr ⟨u.heap.size,pk,_,rfl,Zg _,Blk.new u _ 5,Zd _,by unfold maxLen;omega,by simp[strCells_length,ca_],by rw[Nat.mul_one,Zk (by simp[strCells_length,ca_])]⟩⟩ 56 underlying56 underlying5 9 underlying9
    have hh:=hq (wr.alloc (.cells #[.int .i64 pa,.int .i64 pf,.int .i64 pk] 201));have he:=ho (wr.alloc (.cells #[.int .i64 pa,.int .i64 pf,.int .i64 pk] 201));rw[show (wr.alloc (.cells #[.int .i64 pa,.int .i64 pf,.int .i64 pk] 201)).heap.size=wr.heap.size+1 by simp] at hh he;have hA:=ca_ pk;generalize zs pk=Z at *;clear hq ho;go_wp2;go_roundw
    case rel=>exact⟨k+1,s++Z,by omega,by go_num,by rw[ByteArray.size_append];omega,rfl,hc,by go_grown⟩
    case measure=>simp[RowKit.intOf];omega
  ·obtain rfl:k=n:=by omega
   go_wp2;go_returns;rw[hI.out,Ze (by rw[hg.out];exact Zd _)];exact⟨rfl,hB⟩
end
section
open Go Go.RowKit Go.BigFrame Tryz
def B9 (l:List It)(k:Nat):Option It:=if k=0 then none else l[k-1]?
theorem hB_ (l:List It)(k:Nat):B9 l (k+1)=l[k]?:=by simp[B9]
theorem jm_ {ps:List Pt}{e:List Ex}(h:Ao 400 e=true):(Ak ps e).isSome=(Ac ps&&(cgo e ⟨#[]⟩ ps).isSome):=by
 unfold Ak
 cases hp:Ac ps<;>simp[h]
theorem lF_ (B:Nat)(v:Vo)(pa:Option Addr)(pn pc:Nat)(ea:Option Addr)(en ec:Nat)(e:List Ex)(w:World)(h:Bg B w pa pn v.its)(he:Bf w ea en e)(hstr:BS e)(hen:en<=4194304)(hsp:Ao 400 e=true)(hnm:v.nm.size<=9223372036854775807)(hpn:pn<=4194304)(hI:Gq v.its):
  Calls prog 94 #[.agg #[.int .i64 v.id,.string v.nm,.bool v.fx,.slice pa pn pc],.slice ea en ec] w fun x w'=>x=.returned (.bool (nameB v.nm&&itemsB v.its e))∧Below w.heap.size w w':=by
 obtain⟨id,nm,fx,its⟩:=v;simp only at h hnm hI ⊢;have hr:Hid (its.length=pn):=h.len
 cases hw:nameB nm
 ·go_enter func94,ntmps94
  go_wp2_with fail
  refine (aq_ nm _ hnm).mono ?_;rintro x w1 ⟨rfl,rfl⟩;rw[hw];go_wp2;go_returns;exact⟨rfl,by go_grown⟩
 ·have hR:Hid ((true&&itemsB its e)=(decide (its.length<=5)&&igo e none its)):=by show _=_;rw[Zp];rfl
  generalize (true&&itemsB its e)=R at *;by_cases h5:pn<=5
  ·rw[hr.out,decide_eq_true h5,Zp] at hR;go_enter func94,ntmps94
   go_wp2_with fail
   refine (aq_ nm _ hnm).mono ?_;rintro x w1 ⟨rfl,hz⟩;rw[hw];have hE:Below w.heap.size w w1:=by rw[hz];go_grown
   have C:Blk w1 w.heap.size #[.int .i64 id,.string nm,.bool fx,.slice pa pn pc] 62:=by rw[hz];exact Blk.new w _ _
   have hC:=C.lt;clear hz;have c3:=C.cell 3;simp only[lgA,lgB,lgC] at c3
   go_wp2_with fail
   go_loopw [5] (fun ix wr=>∃ (k:Nat),k<=pn∧ix=.int .i64 k∧Hid (R=igo e (B9 its k) (its.drop k))∧Blk wr w.heap.size #[.int .i64 id,.string nm,.bool fx,.slice pa pn pc] 62∧Below w.heap.size w wr) (fun ix _=>pn-(intOf ix).toNat)
   case atStart=>exact⟨0,Zg _,rfl,hR,C,hE⟩
   case round=>
    clear c3;obtain⟨k,hk,rfl,hv,C',hB⟩:=hrel;have c3:=C'.cell 3;simp only[lgA,lgB,lgC] at c3;by_cases hC:k<pn
    ·obtain⟨b,o,x,qa,qn,qc,rfl,hx,c0,c1,hP,_,_,_⟩:=bO_ (h.below hB) hC
     have hb:Hid (R=(nameB x.nm&&(match B9 its k with | none=>true | some p=>bl p.nm.toList x.nm.toList)&&(Ak x.ps e).isSome&&igo e (B9 its (k+1)) (its.drop (k+1)))):=by
      show _=_;rw[hv.out,al_ hx,hB_,hx];rfl
     rw[jm_ hsp] at hb;obtain⟨m1,m2⟩:=hI x (Zc hx);have hD:x.ps.length=qn:=hP.len;rw[hD] at m2;have hH:(k:Int)<pn:=by omega
     have hJ:(0:Int)<=k:=by omega
     have hs:0<k->∃ y,B9 its k=some y∧wr.cell? ⟨b,o+(k-1)*2,none⟩=some (.string y.nm):=fun h0=>by
      obtain⟨b',o',y,_,_,_,hF,hy,d0,_⟩:=bO_ (h.below hB) (show k-1<pn by omega);obtain⟨rfl,rfl⟩:b=b'∧o=o':=by simpa using hF
      exact⟨y,by unfold B9;rw[if_neg (by omega)];exact hy,d0⟩
     have hc:∀ u:World,Below wr.heap.size wr u->Below w.heap.size w u:=fun u hu=>Aa hB hu;clear hx hv hD;have hg:=fun u:World=>aq_ x.nm u m1;have hh:=fun (u:World) (hu:Below wr.heap.size wr u)=>i7_ qa qn qc x.ps u (hP.below hu) m2;have hj:Below wr.heap.size wr (wr.alloc (.cells #[.string x.nm,.slice qa qn qc] 125)):=by go_grown
     have X:=Blk.new wr #[.string x.nm,.slice qa qn qc] 125;have x0:∀ g:Grw (wr.alloc (.cells #[.string x.nm,.slice qa qn qc] 125)),g.w.cell? ⟨wr.heap.size,0,none⟩=some (.string x.nm):=Ad (X.cell 0);have x1:∀ g:Grw (wr.alloc (.cells #[.string x.nm,.slice qa qn qc] 125)),g.w.cell? ⟨wr.heap.size,1,none⟩=some (.slice qa qn qc):=Ad (X.cell 1);have x3:=Ad (Ab hj c3);have hL:=aA_ (wr.alloc (.cells #[.string x.nm,.slice qa qn qc] 125))
     cases hp:nameB x.nm
     ·rw[hp] at hb
      go_wp2_with fail
      refine ab_ (by kernel_rfl) (by kernel_rfl) ?_
      repeat (go_big_quiet_step (first | (go_at_call 152;have qq:=hg;rw[hp] at qq;exact am_ (qq _))))
      refine wpQuiet_nil ?_;intro w2 hx;have hf:=Aa hj (ah_ hx);clear hx;go_wp2;go_returns;exact⟨by rw[hb.out];simp,hc _ hf⟩
     ·rw[hp,Zp] at hb;by_cases hk0:0<k
      ·obtain⟨y,hy,d0⟩:=hs hk0;have y0:=Ad (Ab hj d0);rw[hy] at hb;have ht:decide ((0:Int)<(k:Int))=true:=decide_eq_true (by omega);have hK:((k:Int)-1).toNat=k-1:=by omega
       cases hA:bl y.nm.toList x.nm.toList
       ·simp only[hA,Zr] at hb
        go_wp2_with fail
        refine ab_ (by kernel_rfl) (by kernel_rfl) ?_
        repeat (go_big_quiet_step (first | (go_at_call 152;have qq:=hg;rw[hp] at qq;exact am_ (qq _))))
        refine wpQuiet_nil ?_;intro w2 hx;have hf:=Aa hj (ah_ hx);have x1':=Ab (ah_ hx) (show (wr.alloc (.cells #[.string x.nm,.slice qa qn qc] 125)).cell? ⟨wr.heap.size,1,none⟩=some (.slice qa qn qc) from X.cell 1);have C2:=C'.below hf;clear hx;go_wp2;go_returns;exact⟨by rw[hb.out];rfl,hc _ hf⟩
       ·simp only[hA,Zp] at hb
        cases hn:Ac x.ps
        ·rw[hn,Zr,Zr] at hb
         go_wp2_with fail
         refine ab_ (by kernel_rfl) (by kernel_rfl) ?_
         repeat (go_big_quiet_step (first | (go_at_call 152;have qq:=hg;rw[hp] at qq;exact am_ (qq _)) | (go_at_call 153;have qq:=fun (u:World) (hu:Below wr.heap.size wr u)=>hh u hu;rw[hn] at qq;exact an_ (qq _ (Aa hj (Grw.h _))))))
         refine wpQuiet_nil ?_;intro w2 hx;have hf:=Aa hj (ah_ hx);have x1':=Ab (ah_ hx) (show (wr.alloc (.cells #[.string x.nm,.slice qa qn qc] 125)).cell? ⟨wr.heap.size,1,none⟩=some (.slice qa qn qc) from X.cell 1);have C2:=C'.below hf;clear hx;go_wp2;go_returns;exact⟨by rw[hb.out];rfl,hc _ hf⟩
        ·rw[hn,Zp] at hb;obtain⟨hm,hq⟩:=gd_ hn;rw[hP.len] at hm
         go_wp2_with fail
         refine ab_ (by kernel_rfl) (by kernel_rfl) ?_
         repeat (go_big_quiet_step (first | (go_at_call 152;have qq:=hg;rw[hp] at qq;exact am_ (qq _)) | (go_at_call 153;have qq:=fun (u:World) (hu:Below wr.heap.size wr u)=>hh u hu;rw[hn] at qq;exact an_ (qq _ (Aa hj (Grw.h _))))))
         refine wpQuiet_nil ?_;intro w2 hx;have hf:=Aa hj (ah_ hx);have x1':=Ab (ah_ hx) (show (wr.alloc (.cells #[.string x.nm,.slice qa qn qc] 125)).cell? ⟨wr.heap.size,1,none⟩=some (.slice qa qn qc) from X.cell 1);have C2:=C'.below hf;clear hx
         go_wp2_with fail
         refine (eo_ qa qn qc x.ps ea en ec e _ (hP.below hf) (he.below (hc _ hf)) hstr hm hen hq).mono ?_;rintro e1 w3 ⟨ha,hl⟩;replace C2:=C2.below hl;replace hl:=Aa hf hl
         cases ho:cgo e ⟨#[]⟩ x.ps with
         |none=>
          rw[ho] at ha hb;replace ha:e1=.returned (.tuple #[.string ⟨#[]⟩,.bool false]):=ha;subst ha;clear ho;go_wp2;go_returns;exact⟨by rw[hb.out];rfl,hc _ hl⟩
         |some s=>
          rw[ho] at ha hb;replace ha:e1=.returned (.tuple #[.string s,.bool true]):=ha;subst ha;clear ho;go_wp2;go_roundw
          case rel=>exact⟨k+1,by omega,by go_num,by show _=_;rw[hb.out];rfl,C2,hc _ hl⟩
          case measure=>simp[intOf];omega
      ·have hG:B9 its k=none:=by unfold B9;rw[if_pos (by omega)]
       have ht:decide ((0:Int)<(k:Int))=false:=YV (by omega);rw[hG] at hb;simp only[Zp] at hb
       cases hn:Ac x.ps
       ·rw[hn,Zr,Zr] at hb
        go_wp2_with fail
        refine ab_ (by kernel_rfl) (by kernel_rfl) ?_
        repeat (go_big_quiet_step (first | (go_at_call 152;have qq:=hg;rw[hp] at qq;exact am_ (qq _)) | (go_at_call 153;have qq:=fun (u:World) (hu:Below wr.heap.size wr u)=>hh u hu;rw[hn] at qq;exact an_ (qq _ (Aa hj (Grw.h _))))))
        refine wpQuiet_nil ?_;intro w2 hx;have hf:=Aa hj (ah_ hx);have x1':=Ab (ah_ hx) (show (wr.alloc (.cells #[.string x.nm,.slice qa qn qc] 125)).cell? ⟨wr.heap.size,1,none⟩=some (.slice qa qn qc) from X.cell 1);have C2:=C'.below hf;clear hx;go_wp2;go_returns;exact⟨by rw[hb.out];rfl,hc _ hf⟩
       ·rw[hn,Zp] at hb;obtain⟨hm,hq⟩:=gd_ hn;rw[hP.len] at hm
        go_wp2_with fail
        refine ab_ (by kernel_rfl) (by kernel_rfl) ?_
        repeat (go_big_quiet_step (first | (go_at_call 152;have qq:=hg;rw[hp] at qq;exact am_ (qq _)) | (go_at_call 153;have qq:=fun (u:World) (hu:Below wr.heap.size wr u)=>hh u hu;rw[hn] at qq;exact an_ (qq _ (Aa hj (Grw.h _))))))
        refine wpQuiet_nil ?_;intro w2 hx;have hf:=Aa hj (ah_ hx);have x1':=Ab (ah_ hx) (show (wr.alloc (.cells #[.string x.nm,.slice qa qn qc] 125)).cell? ⟨wr.heap.size,1,none⟩=some (.slice qa qn qc) from X.cell 1);have C2:=C'.below hf;clear hx
        go_wp2_with fail
        refine (eo_ qa qn qc x.ps ea en ec e _ (hP.below hf) (he.below (hc _ hf)) hstr hm hen hq).mono ?_;rintro e1 w3 ⟨ha,hl⟩;replace C2:=C2.below hl;replace hl:=Aa hf hl
        cases ho:cgo e ⟨#[]⟩ x.ps with
        |none=>
         rw[ho] at ha hb;replace ha:e1=.returned (.tuple #[.string ⟨#[]⟩,.bool false]):=ha;subst ha;clear ho;go_wp2;go_returns;exact⟨by rw[hb.out];rfl,hc _ hl⟩
        |some s=>
         rw[ho] at ha hb;replace ha:e1=.returned (.tuple #[.string s,.bool true]):=ha;subst ha;clear ho;go_wp2;go_roundw
         case rel=>exact⟨k+1,by omega,by go_num,by show _=_;rw[hb.out];rfl,C2,hc _ hl⟩
         case measure=>simp[intOf];omega
    ·obtain rfl:k=pn:=by omega
     go_wp2;go_returns;exact⟨by rw[hv.out,Ze (Zm hr.out)];rfl,hB⟩
  ·rw[hr.out,YV h5,Zr] at hR;go_enter func94,ntmps94
   go_wp2_with fail
   refine (aq_ nm _ hnm).mono ?_;rintro x w1 ⟨rfl,rfl⟩;rw[hw];go_wp2;go_returns;exact⟨by rw[hR.out];rfl,by go_grown⟩
end
section
open Go Go.RowKit
variable{next size:Int}{e:List Ex}
def idB (next:Int)(q:Option Vo)(v:Vo):Bool:=decide (1<=v.id)&&decide (v.id<=1000000000)&&decide (v.id<next)&&(match q with | none=>true | some u=>decide (u.id<v.id))
def BW (u v:Vo):Bool:=u.nm.toList==v.nm.toList
def DZ (next:Int)(e:List Ex):List Vo->List Vo->Bool
 |_,[]=>true
 |seen,v::r=>idB next seen.getLast? v&&(nameB v.nm&&itemsB v.its e)&&!(seen.any (fun u=>BW u v))&&DZ next e (seen++[v]) r
def ndV:List Vo->List Vo->Bool
 |_,[]=>true
 |seen,v::r=>!(seen.any (fun u=>BW u v))&&ndV (seen++[v]) r
def CI (seen:List Vo):Int:=match seen.getLast? with | none=>0 | some u=>u.id
theorem mz_ (hn:next<=1000000000):∀ (vs seen:List Vo),(∀ u∈seen,1<=u.id)->DZ next e seen vs=(vgo next e (CI seen) vs&&ndV seen vs)
 |[],seen,_=>rfl
 |v::r,seen,hs=>by
  have ha:idB next seen.getLast? v=(decide (CI seen<v.id)&&decide (v.id<next)):=by
   unfold idB CI
   cases hl:seen.getLast? with
   |none=>rw[YH];simp;omega
   |some u=>
    have:=hs u (List.mem_of_getLast? hl)
    rw[YH];simp;omega
  by_cases hv:1<=v.id
  ·have ih:=mz_ hn r (seen++[v]) (fun u hu=>by
    rcases Zs.1 hu with hu | hu
    ·exact hs u hu
    ·simp at hu;subst hu;exact hv)
   have hl:CI (seen++[v])=v.id:=by simp[CI]
   rw[hl] at ih;simp only[DZ,vgo,ndV,ha,ih]
   cases decide (CI seen<v.id)<;>cases decide (v.id<next)<;>cases nameB v.nm<;>cases itemsB v.its e<;>cases vgo next e v.id r<;>cases (seen.any fun u=>BW u v)<;>simp
  ·have h0:decide (CI seen<v.id)=false:=by
    rw[YU];unfold CI
    cases hl:seen.getLast? with
    |none=>simp;omega
    |some u=>have:=hs u (List.mem_of_getLast? hl);simp;omega
   simp only[DZ,vgo,ha,h0,Zr]
theorem n9_:∀ (vs seen:List Vo),(seen.map (·.nm.toList)).Nodup->ndV seen vs=decide (((seen++vs).map (·.nm.toList)).Nodup)
 |[],seen,h=>by simp[ndV,h]
 |v::r,seen,h=>by
  cases ha:(seen.any fun u=>BW u v)
  ·have hb:v.nm.toList∉seen.map (·.nm.toList):=by
    intro hm;obtain⟨u,hu,he⟩:=ZT.1 hm;rw[List.any_eq_false] at ha;exact ha u hu (by simp[BW,he])
   have h2:((seen++[v]).map (·.nm.toList)).Nodup:=by
    rw[List.map_append,Yf];exact⟨h,by simp,fun x hx y hy=>by simp at hy;subst hy;intro e;subst e;exact hb hx⟩
   have ih:=n9_ r (seen++[v]) h2;simp only[ndV,ha,Bool.not_false,Zp,ih,ZC,YF,ZM]
  ·have:¬ ((seen++v::r).map (·.nm.toList)).Nodup:=by
    intro hn;rw[List.map_append,Yf] at hn;obtain⟨u,hu,he⟩:=ZN.1 ha;exact hn.2.2 u.nm.toList (List.mem_map_of_mem hu) v.nm.toList (by simp) (by simpa[BW] using he)
   simp only[ndV,ha,Bool.not_true,Zr];exact (YV this).symm
theorem kg_ {vs:List Vo}(hn:next<=1000000000):DZ next e [] vs=(vgo next e 0 vs&&CK vs):=by
 rw[mz_ hn vs [] (fun u hu=>by cases hu),n9_ vs [] List.nodup_nil];rfl
theorem kh_ {size':Int}(h:size<=size'):∀ {l:List Ex} {next:Int},xgo size next l=true->xgo size' next l=true
 |[],_,_=>rfl
 |x::r,next,hx=>by
  simp only[xgo,Zf,ZU] at hx ⊢;exact⟨⟨⟨hx.1.1.1,hx.1.1.2⟩,by omega⟩,kh_ h hx.2⟩
theorem iI_ (h:Ao size e=true):Ao 400 e=true:=by
 simp only[Ao,Zf,ZU] at h ⊢;exact⟨⟨⟨by omega,by omega⟩,h.1.2⟩,kh_ h.1.1.2 h.2⟩
theorem db_:∀ {l:List It} {q:Option It},igo e q l=true->∀ x∈l,(Ak x.ps e).isSome=true
 |[],_,_,x,hx=>by cases hx
 |y::r,q,h,x,hx=>by
  simp only[igo,Zf] at h;rcases Zn.1 hx with rfl | hx
  ·exact h.1.2
  ·exact db_ h.2 x hx
theorem b0_:∀ {l:List Vo} {last:Int},vgo next e last l=true->∀ v∈l,itemsB v.its e=true∧nameB v.nm=true∧last<v.id∧v.id<next
 |[],_,_,v,hv=>by cases hv
 |u::r,last,h,v,hv=>by
  simp only[vgo,Zf,ZU] at h;rcases Zn.1 hv with rfl | hv
  ·exact⟨h.1.2,h.1.1.2,h.1.1.1.1,h.1.1.1.2⟩
  ·have:=b0_ h.2 v hv
   exact⟨this.1,this.2.1,by omega,this.2.2.2⟩
theorem cT_ {p:Pt}(h:Ag p=true):0<=p.a:=by
 unfold Ag at h;split at h
 ·rename_i h0;simp at h0;omega
 ·simp at h;omega
theorem g2_ {l:List Vo}{last:Int}(h6:l.length<=6)(h:vgo next e last l=true):Ec l:=by
 refine⟨h6,fun v hv=>?_⟩;obtain⟨hi,_⟩:=b0_ h v hv;simp only[itemsB,Zf,ZU] at hi;refine⟨hi.1,fun x hx=>?_⟩;have hc:=db_ hi.2 x hx
 have hp:Ac x.ps=true:=by
  unfold Ak at hc;split at hc
  ·rename_i hh;exact hh.1
  ·cases hc
 obtain⟨q1,q2,_⟩:=ae_ hp;exact⟨q1,fun p ha=>cT_ (q2 p ha)⟩
theorem mA_ (addr:Int):∀ (l:List Ex) (k:Nat),decide (atG addr k l<0)=!(l.any (fun x=>x.a==addr))
 |[],k=>by simp[atG]
 |x::r,k=>by
  cases hx:(x.a==addr)
  ·simp only[atG,hx,Zj,if_false,List.any_cons,Bool.false_or];exact mA_ addr r (k+1)
  ·simp only[atG,hx,if_true,List.any_cons,Bool.true_or,Bool.not_true,YU];omega
end
section
open Go Go.RowKit Go.BigFrame Tryz
variable{x:IR}{b:List Nat}{l:List Vo}{cap i k n:Nat}{a:Option Addr}{p:Po}{v:Value}{w w':World}
theorem pn_ (p q:Ow)(w:World):(Op.equalIn 9999 78 (.agg #[.int .i64 p.a,.int .i64 p.v,.string p.f]) (.agg #[.int .i64 q.a,.int .i64 q.v,.string q.f])).run prog w=.ok (Bz p q) w:=by
 have u2:=underlying2;have u9:=underlying9;have a2:=Tryz.isAgg2;have a9:=Tryz.isAgg9;have z2:=Tryz.sizeOf2;have z9:=Tryz.sizeOf9;have hS:prog.underlying 78=some (.struct (prog.fieldsOf 78)):=by kernel_rfl
 have hp:prog.stoodInHeld 78=false:=by kernel_rfl
 rw[show (9999:Nat)=9998+1 from rfl,run_equalIn_agg w 9998 78 _ _ hS hp];simp only[Program.fieldsOf,underlying78];clear hS hp;go_simp;unfold Bz;by_cases h1:p.a=q.a<;>by_cases h2:p.v=q.v<;>by_cases h3:p.f.toList=q.f.toList<;>simp[h1,h2,h3]
theorem HA (p q:Ct)(w:World):(binOp .neq 80 (.agg #[.int .i64 p.o.a,.int .i64 p.o.v,.string p.o.f,.int .i64 p.n]) (.agg #[.int .i64 q.o.a,.int .i64 q.o.v,.string q.o.f,.int .i64 q.n])).run prog w=.ok (.bool (!FS p q)) w:=by
 have he:=pn_ p.o q.o;have u2:=underlying2;have a2:=Tryz.isAgg2;have z2:=Tryz.sizeOf2;have hz:=Tryz.sizeOf78;have ha:=Tryz.isAgg78;have hS:prog.underlying 80=some (.struct (prog.fieldsOf 80)):=by kernel_rfl
 have hp:prog.stoodInHeld 80=false:=by kernel_rfl
 rw[run_neq_struct,show (10000:Nat)=9999+1 from rfl,run_equalIn_agg w 9999 80 _ _ hS hp];simp only[Program.fieldsOf,underlying80];clear hS hp;unfold FS
 cases hb:Bz p.o q.o
 all_goals rw[hb] at he
 ·go_simp
 ·by_cases h1:p.n=q.n
  ·go_simp
  ·go_simp
theorem ki_ (a:Option Addr)(n cap:Nat)(l:List Ct)(a':Option Addr)(n' cap':Nat)(m:List Ct)(w:World)(h:A5 w a n l)(h':A5 w a' n' m)(hn:n<=4194304)(hn':n'<=4194304):
  Calls prog 96 #[.slice a n cap,.slice a' n' cap'] w fun e w'=>e=.returned (.bool (Bo l m))∧Below w.heap.size w w':=by
 have hb:Hid (l.length=n):=h.len;have ha:Hid (m.length=n'):=h'.len;by_cases hne:n=n'
 ·subst hne;have hh:((n:Int) != (n:Int))=false:=by simp
  go_enter func96,ntmps96
  go_wp2_with fail
  go_loopw [5] (fun ix wr=>∃ (k:Nat),k<=n∧ix=.int .i64 k∧Hid (Bo l m=Bo (l.drop k) (m.drop k))∧Below w.heap.size w wr) (fun ix _=>n-(intOf ix).toNat)
  case atStart=>exact⟨0,Zg _,rfl,rfl,Yg _ _⟩
  case round=>
   obtain⟨k,hk,rfl,hI,hB⟩:=hrel;by_cases hlt:k<n
   ·obtain⟨b,o,p,rfl,hp,c0,c1,c2,c3⟩:=aN_ (h.below hB) hlt;obtain⟨b',o',q,rfl,hq,d0,d1,d2,d3⟩:=aN_ (h'.below hB) hlt;have hd:Hid (l.drop k=p::l.drop (k+1)):=al_ hp;have hg:Hid (m.drop k=q::m.drop (k+1)):=al_ hq;clear hp hq;have hj:(k:Int)<n:=by omega
    have hl:(0:Int)<=k:=by omega
    have he:=HA p q
    cases hf:FS p q
    all_goals rw[hf] at he
    ·go_wp2_with fail
     go_quiet (fail)
     have hc:=below_drewN hB nq;go_wp2;go_returns;go_light;refine⟨ac_ ?_,hc⟩;rw[hI.out,hd.out,hg.out];simp only[Bo,hf,Zr]
    ·go_wp2_with fail
     go_quiet (fail)
     have hc:=below_drewN hB nq;go_wp2;go_roundw
     case rel=>exact⟨k+1,by omega,by go_num,by show _=_;rw[hI.out,hd.out,hg.out];simp only[Bo,hf,Zp],hc⟩
     case measure=>simp[intOf];omega
   ·obtain rfl:k=n:=by omega
    go_wp2;go_returns;go_light;refine⟨ac_ ?_,hB⟩;rw[hI.out,Ze (Zm hb.out),Ze (Zm ha.out)];rfl
 ·have hh:((n:Int) != (n':Int))=true:=by simp;omega
  go_enter func96,ntmps96;go_wp2;go_returns;go_light;refine⟨ac_ ?_,Yg _ _⟩;rw[gg_ (by rw[hb.out,ha.out];exact hne)]
theorem gJ_ (size next:Int)(ea:Option Addr)(en ec:Nat)(va:Option Addr)(vn vc:Nat)(ra:Option Addr)(rn rc:Nat)(la:Option Addr)(ln lc:Nat)(rf lt:List Ct)(addr:Int)(w:World)(h:A5 w ra rn rf)(h':A5 w la ln lt)(hn:rn<=4194304)(hn':ln<=4194304):
  Calls prog 98 #[.agg #[.int .i64 size,.int .i64 next,.slice ea en ec,.slice va vn vc,.slice ra rn rc,.slice la ln lc],.int .i64 addr] w fun e w'=>e=.returned (.bool ((rf++lt).any (fun c=>c.o.a==addr)))∧Below w.heap.size w w':=by
 have hc:Hid (rf.length=rn):=h.len;have hb:Hid (lt.length=ln):=h'.len;have hR:Hid ((rf++lt).any (fun c=>c.o.a==addr)=((rf.drop 0).any (fun c=>c.o.a==addr)||lt.any (fun c=>c.o.a==addr))):=by show _=_;rw[List.any_append];rfl
 generalize (rf++lt).any (fun c=>c.o.a==addr)=R at *;go_enter func98,ntmps98
 go_wp2_with fail
 have C4:(w.alloc (.cells #[.int .i64 size,.int .i64 next,.slice ea en ec,.slice va vn vc,.slice ra rn rc,.slice la ln lc] 35)).cell? ⟨w.heap.size,4,none⟩=some (.slice ra rn rc):=(Blk.new w _ _).cell 4;have C5:(w.alloc (.cells #[.int .i64 size,.int .i64 next,.slice ea en ec,.slice va vn vc,.slice ra rn rc,.slice la ln lc] 35)).cell? ⟨w.heap.size,5,none⟩=some (.slice la ln lc):=(Blk.new w _ _).cell 5;have ha:Below w.heap.size w (w.alloc (.cells #[.int .i64 size,.int .i64 next,.slice ea en ec,.slice va vn vc,.slice ra rn rc,.slice la ln lc] 35)):=by go_grown
 generalize w.alloc (.cells #[.int .i64 size,.int .i64 next,.slice ea en ec,.slice va vn vc,.slice ra rn rc,.slice la ln lc] 35)=W0 at *
 go_loopw [5] (fun ix wr=>∃ (k:Nat),k<=rn∧ix=.int .i64 k∧Hid (R=((rf.drop k).any (fun c=>c.o.a==addr)||lt.any (fun c=>c.o.a==addr)))∧Below W0.heap.size W0 wr) (fun ix _=>rn-(intOf ix).toNat)
 case atStart=>exact⟨0,Zg _,rfl,hR,Yg _ _⟩
 case round=>
  clear hR;obtain⟨k,hk,rfl,hI,hB⟩:=hrel;have c4:=Ab hB C4;by_cases hlt:k<rn
  ·obtain⟨b,o,p,rfl,hp,c0,c1,c2,c3⟩:=aN_ (h.below (Aa ha hB)) hlt;have hd:Hid (rf.drop k=p::rf.drop (k+1)):=al_ hp;clear hp c1 c2 c3;have hg:(k:Int)<rn:=by omega
   have hh:(0:Int)<=k:=by omega
   cases he:(p.o.a==addr)
   ·go_wp2;go_roundw
    case rel=>exact⟨k+1,by omega,by go_num,by show _=_;rw[hI.out,hd.out];simp only[List.any_cons,he,Bool.false_or],hB⟩
    case measure=>simp[intOf];omega
   ·go_wp2;go_returns;exact⟨ac_ (by rw[hI.out,hd.out];simp[he]),Aa ha hB⟩
  ·obtain rfl:k=rn:=by omega
   have hf:Hid (R=(lt.drop 0).any (fun c=>c.o.a==addr)):=by show _=_;rw[hI.out,Ze (Zm hc.out)];rfl
   obtain⟨wi,hl⟩:∃ x,x=wr:=⟨_,rfl⟩;subst hl;clear hI
   go_wp2_with fail
   go_loopw [6] (fun ix wr=>∃ (j:Nat),j<=ln∧ix=.int .i64 j∧Hid (R=(lt.drop j).any (fun c=>c.o.a==addr))∧Below W0.heap.size W0 wr) (fun ix _=>ln-(intOf ix).toNat)
   case atStart=>exact⟨0,Zg _,rfl,hf,hB⟩
   case round=>
    clear hf hB c4;obtain⟨j,hj,rfl,hI,hB⟩:=hrel;have c5:=Ab hB C5;by_cases hlt2:j<ln
    ·obtain⟨b,o,p,rfl,hp,c0,c1,c2,c3⟩:=aN_ (h'.below (Aa ha hB)) hlt2;have hd:Hid (lt.drop j=p::lt.drop (j+1)):=al_ hp;clear hp c1 c2 c3;have hg:(j:Int)<ln:=by omega
     have hh:(0:Int)<=j:=by omega
     cases he:(p.o.a==addr)
     ·go_wp2;go_roundw
      case rel=>exact⟨j+1,by omega,by go_num,by show _=_;rw[hI.out,hd.out];simp only[List.any_cons,he,Bool.false_or],hB⟩
      case measure=>simp[intOf];omega
     ·go_wp2;go_returns;exact⟨ac_ (by rw[hI.out,hd.out];simp[he]),Aa ha hB⟩
    ·obtain rfl:j=ln:=by omega
     go_wp2;go_returns;exact⟨ac_ (by rw[hI.out,Ze (Zm hb.out)];rfl),Aa ha hB⟩
def AC (p:Po):Prop:=p.ex.length<=4194304∧BS p.ex∧p.vs.length<=4194304∧DS p.vs∧p.rf.length<=4194304∧By p.rf∧p.lt.length<=4194304∧By p.lt
theorem nf_ (h:i<=l.length):(l.take i).getLast?=if i=0 then none else l[i-1]?:=by
 rw[List.getLast?_eq_getElem?,Zz,ZZ h];split
 ·subst_vars;simp
 ·rw[Ya (by omega)]
end
end Go.Proofs.YtahenegmbmnmjaaGreatDoor
