/- The laws' comparisons of lists of items and volumes, where they are the same. -/
import Derived.Test.YtbbhcnjhohidnaaGreatDoorU07
set_option maxHeartbeats 20000000
set_option maxRecDepth 100000
namespace Go.Proofs.YtbbhcnjhohidnaaGreatDoor
section
open Go Go.RowKit
variable{next size:Int}{e:List Ex}
theorem mz_ (hn:next<=1000000000):∀ (vs seen:List Vo),(∀ u∈seen,1<=u.id)->Dj next e seen vs=(vgo next e (Cy seen) vs&&ndV seen vs)
 |[],seen,_=>rfl
 |v::r,seen,hs=>by
  have ha:idB next seen.getLast? v=(decide (Cy seen<v.id)&&decide (v.id<next)):=by
   unfold idB Cy
   cases hl:seen.getLast? with
   |none=>rw[YH];simp;omega
   |some u=>
    have:=hs u (List.mem_of_getLast? hl)
    rw[YH];simp;omega
  by_cases hv:1<=v.id
  ·have ih:=mz_ hn r (seen++[v]) (fun u hu=>by
    rcases Zs.1 hu with hu | hu
    ·exact hs u hu
    ·simp at hu;subst hu;exact hv)
   have hl:Cy (seen++[v])=v.id:=by simp[Cy]
   rw[hl] at ih;simp only[Dj,vgo,ndV,ha,ih]
   cases decide (Cy seen<v.id)<;>cases decide (v.id<next)<;>cases nameB v.nm<;>cases itemsB v.its e<;>cases vgo next e v.id r<;>cases (seen.any fun u=>BQ u v)<;>simp
  ·have h0:decide (Cy seen<v.id)=false:=by
    rw[YU];unfold Cy
    cases hl:seen.getLast? with
    |none=>simp;omega
    |some u=>have:=hs u (List.mem_of_getLast? hl);simp;omega
   simp only[Dj,vgo,ha,h0,Zr]
theorem n9_:∀ (vs seen:List Vo),(seen.map (·.nm.toList)).Nodup->ndV seen vs=decide (((seen++vs).map (·.nm.toList)).Nodup)
 |[],seen,h=>by simp[ndV,h]
 |v::r,seen,h=>by
  cases ha:(seen.any fun u=>BQ u v)
  ·have hb:v.nm.toList∉seen.map (·.nm.toList):=by
    intro hm;obtain⟨u,hu,he⟩:=ZT.1 hm;rw[List.any_eq_false] at ha;exact ha u hu (by simp[BQ,he])
   have h2:((seen++[v]).map (·.nm.toList)).Nodup:=by
    rw[List.map_append,Yf];exact⟨h,by simp,fun x hx y hy=>by simp at hy;subst hy;intro e;subst e;exact hb hx⟩
   have ih:=n9_ r (seen++[v]) h2;simp only[ndV,ha,Bool.not_false,Zp,ih,ZC,YF,ZM]
  ·have:¬ ((seen++v::r).map (·.nm.toList)).Nodup:=by
    intro hn;rw[List.map_append,Yf] at hn;obtain⟨u,hu,he⟩:=ZN.1 ha;exact hn.2.2 u.nm.toList (List.mem_map_of_mem hu) v.nm.toList (by simp) (by simpa[BQ] using he)
   simp only[ndV,ha,Bool.not_true,Zr];exact (YV this).symm
theorem kg_ {vs:List Vo}(hn:next<=1000000000):Dj next e [] vs=(vgo next e 0 vs&&Cs vs):=by
 rw[mz_ hn vs [] (fun u hu=>by cases hu),n9_ vs [] List.nodup_nil];rfl
theorem kh_ {size':Int}(h:size<=size'):∀ {l:List Ex} {next:Int},xgo size next l=true->xgo size' next l=true
 |[],_,_=>rfl
 |x::r,next,hx=>by
  simp only[xgo,Zf,ZU] at hx ⊢;exact⟨⟨⟨hx.1.1.1,hx.1.1.2⟩,by omega⟩,kh_ h hx.2⟩
theorem iI_ (h:Ak size e=true):Ak 400 e=true:=by
 simp only[Ak,Zf,ZU] at h ⊢;exact⟨⟨⟨by omega,by omega⟩,h.1.2⟩,kh_ h.1.1.2 h.2⟩
theorem db_:∀ {l:List It} {q:Option It},igo e q l=true->∀ x∈l,(Ar x.ps e).isSome=true
 |[],_,_,x,hx=>by cases hx
 |y::r,q,h,x,hx=>by
  simp only[igo,Zf] at h;rcases Zn.1 hx with rfl | hx
  ·exact h.1.2
  ·exact db_ h.2 x hx
theorem b0_:∀ {l:List Vo} {last:Int},vgo next e last l=true->∀ v∈l,itemsB v.its e=true∧nameB v.nm=true∧last<v.id∧v.id<next
 |[],_,_,v,hv=>by cases hv
 |u::r,last,h,v,hv=>by
  simp only[vgo,Zf,ZU] at h;rcases Zn.1 hv with rfl | hv
  ·exact⟨h.1.2,h.1.1.2,h.1.1.1.1,h.1.1.1.2⟩
  ·have:=b0_ h.2 v hv
   exact⟨this.1,this.2.1,by omega,this.2.2.2⟩
theorem cT_ {p:Pt}(h:Ao p=true):0<=p.a:=by
 unfold Ao at h;split at h
 ·rename_i h0;simp at h0;omega
 ·simp at h;omega
theorem g2_ {l:List Vo}{last:Int}(h6:l.length<=6)(h:vgo next e last l=true):DK l:=by
 refine⟨h6,fun v hv=>?_⟩;obtain⟨hi,_⟩:=b0_ h v hv;simp only[itemsB,Zf,ZU] at hi;refine⟨hi.1,fun x hx=>?_⟩;have hc:=db_ hi.2 x hx
 have hp:Ae x.ps=true:=by
  unfold Ar at hc;split at hc
  ·rename_i hh;exact hh.1
  ·cases hc
 obtain⟨q1,q2,_⟩:=ae_ hp;exact⟨q1,fun p ha=>cT_ (q2 p ha)⟩
theorem mA_ (addr:Int):∀ (l:List Ex) (k:Nat),decide (atG addr k l<0)=!(l.any (fun x=>x.a==addr))
 |[],k=>by simp[atG]
 |x::r,k=>by
  cases hx:(x.a==addr)
  ·simp only[atG,hx,Zj,if_false,List.any_cons,Bool.false_or];exact mA_ addr r (k+1)
  ·simp only[atG,hx,if_true,List.any_cons,Bool.true_or,Bool.not_true,YU];omega
end
section
open Go Go.RowKit Go.BigFrame Tryz
variable{α:Type}{x:IR}{b:List Nat}{l:List Vo}{B B' cap i k n:Nat}{a:Option Addr}{p:Po}{v:Value}{w w':World}{cs:α->List Value}
theorem pn_ (p q:Ow)(w:World):(Op.equalIn 9999 105 (.agg #[.int .i64 p.a,.int .i64 p.v,.string p.f]) (.agg #[.int .i64 q.a,.int .i64 q.v,.string q.f])).run prog w=.ok (Bo p q) w:=by
 have u2:=underlying2;have u9:=underlying9;have a2:=Tryz.isAgg2;have a9:=Tryz.isAgg9;have z2:=Tryz.sizeOf2;have z9:=Tryz.sizeOf9;have hS:prog.underlying 105=some (.struct (prog.fieldsOf 105)):=by kernel_rfl
 have hp:prog.stoodInHeld 105=false:=by kernel_rfl
 rw[show (9999:Nat)=9998+1 from rfl,run_equalIn_agg w 9998 105 _ _ hS hp];simp only[Program.fieldsOf,underlying105];clear hS hp;go_simp;unfold Bo;by_cases h1:p.a=q.a<;>by_cases h2:p.v=q.v<;>by_cases h3:p.f.toList=q.f.toList<;>simp[h1,h2,h3]
theorem GK (p q:Ct)(w:World):(binOp .neq 107 (.agg #[.int .i64 p.o.a,.int .i64 p.o.v,.string p.o.f,.int .i64 p.n]) (.agg #[.int .i64 q.o.a,.int .i64 q.o.v,.string q.o.f,.int .i64 q.n])).run prog w=.ok (.bool (!Do p q)) w:=by
 have he:=pn_ p.o q.o;have u2:=underlying2;have a2:=Tryz.isAgg2;have z2:=Tryz.sizeOf2;have hz:=Tryz.sizeOf105;have ha:=Tryz.isAgg105;have hS:prog.underlying 107=some (.struct (prog.fieldsOf 107)):=by kernel_rfl
 have hp:prog.stoodInHeld 107=false:=by kernel_rfl
 rw[run_neq_struct,show (10000:Nat)=9999+1 from rfl,run_equalIn_agg w 9999 107 _ _ hS hp];simp only[Program.fieldsOf,underlying107];clear hS hp;unfold Do
 cases hb:Bo p.o q.o
 all_goals rw[hb] at he
 ·go_simp
 ·by_cases h1:p.n=q.n
  ·go_simp
  ·go_simp
theorem ki_ (a:Option Addr)(n cap:Nat)(l:List Ct)(a':Option Addr)(n' cap':Nat)(m:List Ct)(w:World)(h:AM w a n l)(h':AM w a' n' m)(hn:n<=4194304)(hn':n'<=4194304):
  Calls prog 55 #[.slice a n cap,.slice a' n' cap'] w fun e w'=>e=.returned (.bool (A8 l m))∧Below w.heap.size w w':=by
 have hb:Hid (l.length=n):=h.len;have ha:Hid (m.length=n'):=h'.len;by_cases hne:n=n'
 ·subst hne;have hh:((n:Int) != (n:Int))=false:=by simp
  go_enter func55,ntmps55
  go_wp2_with fail
  go_loopw [5] (fun ix wr=>∃ (k:Nat),k<=n∧ix=.int .i64 k∧Hid (A8 l m=A8 (l.drop k) (m.drop k))∧Below w.heap.size w wr) (fun ix _=>n-(intOf ix).toNat)
  case atStart=>exact⟨0,Zg _,rfl,rfl,Yg _ _⟩
  case round=>
   obtain⟨k,hk,rfl,hI,hB⟩:=hrel;by_cases hlt:k<n
   ·obtain⟨b,o,p,rfl,hp,c0,c1,c2,c3⟩:=aN_ (h.below hB) hlt;obtain⟨b',o',q,rfl,hq,d0,d1,d2,d3⟩:=aN_ (h'.below hB) hlt;have hd:Hid (l.drop k=p::l.drop (k+1)):=al_ hp;have hg:Hid (m.drop k=q::m.drop (k+1)):=al_ hq;clear hp hq;have hj:(k:Int)<n:=by omega
    have hl:(0:Int)<=k:=by omega
    have he:=GK p q
    cases hf:Do p q
    all_goals rw[hf] at he
    ·go_wp2_with fail
     go_quiet (fail)
     have hc:=below_drewN hB nq;go_wp2;go_returns;go_light;refine⟨ac_ ?_,hc⟩;rw[hI.out,hd.out,hg.out];simp only[A8,hf,Zr]
    ·go_wp2_with fail
     go_quiet (fail)
     have hc:=below_drewN hB nq;go_wp2;go_roundw
     case rel=>exact⟨k+1,by omega,by go_num,by show _=_;rw[hI.out,hd.out,hg.out];simp only[A8,hf,Zp],hc⟩
     case measure=>simp[intOf];omega
   ·obtain rfl:k=n:=by omega
    go_wp2;go_returns;go_light;refine⟨ac_ ?_,hB⟩;rw[hI.out,Ze (Zm hb.out),Ze (Zm ha.out)];rfl
 ·have hh:((n:Int) != (n':Int))=true:=by simp;omega
  go_enter func55,ntmps55;go_wp2;go_returns;go_light;refine⟨ac_ ?_,Yg _ _⟩;rw[gg_ (by rw[hb.out,ha.out];exact hne)]
theorem gJ_ (size next:Int)(ea:Option Addr)(en ec:Nat)(va:Option Addr)(vn vc:Nat)(ra:Option Addr)(rn rc:Nat)(la:Option Addr)(ln lc:Nat)(rf lt:List Ct)(addr:Int)(w:World)(h:AM w ra rn rf)(h':AM w la ln lt)(hn:rn<=4194304)(hn':ln<=4194304):
  Calls prog 57 #[.agg #[.int .i64 size,.int .i64 next,.slice ea en ec,.slice va vn vc,.slice ra rn rc,.slice la ln lc],.int .i64 addr] w fun e w'=>e=.returned (.bool ((rf++lt).any (fun c=>c.o.a==addr)))∧Below w.heap.size w w':=by
 have hc:Hid (rf.length=rn):=h.len;have hb:Hid (lt.length=ln):=h'.len;have hR:Hid ((rf++lt).any (fun c=>c.o.a==addr)=((rf.drop 0).any (fun c=>c.o.a==addr)||lt.any (fun c=>c.o.a==addr))):=by show _=_;rw[List.any_append];rfl
 generalize (rf++lt).any (fun c=>c.o.a==addr)=R at *;go_enter func57,ntmps57
 go_wp2_with fail
 have C4:(w.alloc (.cells #[.int .i64 size,.int .i64 next,.slice ea en ec,.slice va vn vc,.slice ra rn rc,.slice la ln lc] 35)).cell? ⟨w.heap.size,4,none⟩=some (.slice ra rn rc):=(Blk.new w _ _).cell 4;have C5:(w.alloc (.cells #[.int .i64 size,.int .i64 next,.slice ea en ec,.slice va vn vc,.slice ra rn rc,.slice la ln lc] 35)).cell? ⟨w.heap.size,5,none⟩=some (.slice la ln lc):=(Blk.new w _ _).cell 5;have ha:Below w.heap.size w (w.alloc (.cells #[.int .i64 size,.int .i64 next,.slice ea en ec,.slice va vn vc,.slice ra rn rc,.slice la ln lc] 35)):=by go_grown
 generalize w.alloc (.cells #[.int .i64 size,.int .i64 next,.slice ea en ec,.slice va vn vc,.slice ra rn rc,.slice la ln lc] 35)=W0 at *
 go_loopw [5] (fun ix wr=>∃ (k:Nat),k<=rn∧ix=.int .i64 k∧Hid (R=((rf.drop k).any (fun c=>c.o.a==addr)||lt.any (fun c=>c.o.a==addr)))∧Below W0.heap.size W0 wr) (fun ix _=>rn-(intOf ix).toNat)
 case atStart=>exact⟨0,Zg _,rfl,hR,Yg _ _⟩
 case round=>
  clear hR;obtain⟨k,hk,rfl,hI,hB⟩:=hrel;have c4:=Ab hB C4;by_cases hlt:k<rn
  ·obtain⟨b,o,p,rfl,hp,c0,c1,c2,c3⟩:=aN_ (h.below (Aa ha hB)) hlt;have hd:Hid (rf.drop k=p::rf.drop (k+1)):=al_ hp;clear hp c1 c2 c3;have hg:(k:Int)<rn:=by omega
   have hh:(0:Int)<=k:=by omega
   cases he:(p.o.a==addr)
   ·go_wp2;go_roundw
    case rel=>exact⟨k+1,by omega,by go_num,by show _=_;rw[hI.out,hd.out];simp only[List.any_cons,he,Bool.false_or],hB⟩
    case measure=>simp[intOf];omega
   ·go_wp2;go_returns;exact⟨ac_ (by rw[hI.out,hd.out];simp[he]),Aa ha hB⟩
  ·obtain rfl:k=rn:=by omega
   have hf:Hid (R=(lt.drop 0).any (fun c=>c.o.a==addr)):=by show _=_;rw[hI.out,Ze (Zm hc.out)];rfl
   obtain⟨wi,hl⟩:∃ x,x=wr:=⟨_,rfl⟩;subst hl;clear hI
   go_wp2_with fail
   go_loopw [6] (fun ix wr=>∃ (j:Nat),j<=ln∧ix=.int .i64 j∧Hid (R=(lt.drop j).any (fun c=>c.o.a==addr))∧Below W0.heap.size W0 wr) (fun ix _=>ln-(intOf ix).toNat)
   case atStart=>exact⟨0,Zg _,rfl,hf,hB⟩
   case round=>
    clear hf hB c4;obtain⟨j,hj,rfl,hI,hB⟩:=hrel;have c5:=Ab hB C5;by_cases hlt2:j<ln
    ·obtain⟨b,o,p,rfl,hp,c0,c1,c2,c3⟩:=aN_ (h'.below (Aa ha hB)) hlt2;have hd:Hid (lt.drop j=p::lt.drop (j+1)):=al_ hp;clear hp c1 c2 c3;have hg:(j:Int)<ln:=by omega
     have hh:(0:Int)<=j:=by omega
     cases he:(p.o.a==addr)
     ·go_wp2;go_roundw
      case rel=>exact⟨j+1,by omega,by go_num,by show _=_;rw[hI.out,hd.out];simp only[List.any_cons,he,Bool.false_or],hB⟩
      case measure=>simp[intOf];omega
     ·go_wp2;go_returns;exact⟨ac_ (by rw[hI.out,hd.out];simp[he]),Aa ha hB⟩
    ·obtain rfl:j=ln:=by omega
     go_wp2;go_returns;exact⟨ac_ (by rw[hI.out,Ze (Zm hb.out)];rfl),Aa ha hB⟩
theorem qo_ {w1:World}{c0 c1:Array Value}{t0 t1:TypeId}(hb:Below ((w.alloc (.cells c0 t0)).alloc (.cells c1 t1)).heap.size ((w.alloc (.cells c0 t0)).alloc (.cells c1 t1)) w1):
  Blk w1 w.heap.size c0 t0∧Blk w1 (w.heap.size+1) c1 t1∧Below w.heap.size w w1:=by
 refine⟨?_,?_,Aa (by go_grown) hb⟩
 ·exact ((Blk.new w c0 t0).alloc (.cells c1 t1)).below hb
 ·have:=(Blk.new (w.alloc (.cells c0 t0)) c1 t1).below hb
  simpa using this
theorem BZ.dims (h:BZ p):p.ex.length<=1048576∧p.vs.length<=1048576∧(∀ v∈p.vs,v.its.length<=1048576∧∀ x∈v.its,x.ps.length<=4194304)∧p.rf.length<=1048576∧p.lt.length<=1048576:=by
 obtain⟨h1,h2,h3,h4⟩:=h;exact⟨h1.1,h2.1,fun v hv=>⟨(h2.2 v hv).2.1,fun x hx=>by have:=((h2.2 v hv).2.2 x hx).2;omega⟩,h3.1,h4.1⟩
theorem kj_ (B:Nat)(v:Value)(p:Po)(w:World)(h:AA B w v p)(hs:BZ p):
  Calls prog 8 #[v] w fun e w'=>(∃ v',e=.returned v'∧AA (w.heap.size+1) w' v' p)∧Below w.heap.size w w':=by
 obtain⟨ea,en,ec,va,vn,vc,ra,rn,rc,la,ln,lc,rfl,⟨h1,k1⟩,⟨h2,k2⟩,⟨h3,k3⟩,h4,k4⟩:=h;obtain⟨d1,d2,d3,d4,d5⟩:=hs.dims;rw[h1.len] at d1;rw[h2.len] at d2;rw[h3.len] at d4;rw[h4.len] at d5;clear hs k1 k2 k3 k4;obtain⟨size,next,ex,vs,rf,lt⟩:=p;simp only at *;go_enter func8,ntmps8
 go_wp2_with fail
 refine (hk_ ea en ec ex _ (h1.below (by go_grown)) (by omega)).mono ?_;rintro e w1 ⟨rfl,o1,hg⟩;obtain⟨K0,K1,K2,ha⟩:=n6_ hg;have hh:=hg.size;have hm:=o1.lt;have S1:Bk Ex.cs 2 103 w1 (w.heap.size+1+1+1) en ex:=by simpa[YN] using o1
 simp only[YN] at hh hm ⊢;clear hg o1;have g2:=K2.frozen 2;have y2:=K2.cell 2;have x3:=K0.cell 3;simp only[lgA,lgB,lgC] at y2 x3;have T0:=K0.other ⟨w.heap.size+1+1,2,none⟩ (.slice (some ⟨w.heap.size+1+1+1,0,none⟩) en en) (by simp only[ne_eq];omega);have T1:=K1.other ⟨w.heap.size+1+1,2,none⟩ (.slice (some ⟨w.heap.size+1+1+1,0,none⟩) en en) (by simp only[ne_eq];omega);have T2:=K2.set 2 (.slice (some ⟨w.heap.size+1+1+1,0,none⟩) en en);have Q1:=S1.grown (Ba _ (w.heap.size+1+1) 2 (.slice (some ⟨w.heap.size+1+1+1,0,none⟩) en en)) (by simp only[ne_eq];omega);have hb:Below w.heap.size w (w1.setCell ⟨w.heap.size+1+1,2,none⟩ (.slice (some ⟨w.heap.size+1+1+1,0,none⟩) en en)):=ha.setCell (by simp;omega) _;have hq:w.heap.size+1+1+1<=(w1.setCell ⟨w.heap.size+1+1,2,none⟩ (.slice (some ⟨w.heap.size+1+1+1,0,none⟩) en en)).heap.size:=by simpa using hh
 clear K0 K1 K2 S1 ha hh
 go_wp2_with fail
 clear g2 y2 x3;generalize w1.setCell ⟨w.heap.size+1+1,2,none⟩ (.slice (some ⟨w.heap.size+1+1+1,0,none⟩) en en)=u1 at *;refine (hy_ B va vn vc vs _ (h2.below hb) d2 d3).mono ?_;rintro e w2 ⟨⟨rfl,S2⟩,ha⟩;replace T0:=T0.below ha;replace T1:=T1.below ha;replace T2:=T2.below ha;replace Q1:=Q1.below ha;have hj:=ha.size;replace ha:=Aa hb ha;clear hb;have g2:=T2.frozen 3;have y2:=T2.cell 3;have x3:=T0.cell 4;simp only[Yp,Yo,Yt,Yj,Yr,Yq] at y2 x3;have V0:=T0.other ⟨w.heap.size+1+1,3,none⟩ (.slice (some ⟨u1.heap.size,0,none⟩) vn vn) (by simp only[ne_eq];omega);have V1:=T1.other ⟨w.heap.size+1+1,3,none⟩ (.slice (some ⟨u1.heap.size,0,none⟩) vn vn) (by simp only[ne_eq];omega);have V2:=T2.set 3 (.slice (some ⟨u1.heap.size,0,none⟩) vn vn);have R1:=Q1.grown (Ba _ (w.heap.size+1+1) 3 (.slice (some ⟨u1.heap.size,0,none⟩) vn vn)) (by simp only[ne_eq];omega);have Q2:=S2.grown (Ba _ (w.heap.size+1+1) 3 (.slice (some ⟨u1.heap.size,0,none⟩) vn vn)) (by omega);have hb:Below w.heap.size w (w2.setCell ⟨w.heap.size+1+1,3,none⟩ (.slice (some ⟨u1.heap.size,0,none⟩) vn vn)):=ha.setCell (by simp;omega) _;have hn:u1.heap.size<=(w2.setCell ⟨w.heap.size+1+1,3,none⟩ (.slice (some ⟨u1.heap.size,0,none⟩) vn vn)).heap.size:=by simpa using hj
 clear T0 T1 T2 Q1 S2 ha hj
 go_wp2_with fail
 clear g2 y2 x3;generalize w2.setCell ⟨w.heap.size+1+1,3,none⟩ (.slice (some ⟨u1.heap.size,0,none⟩) vn vn)=u2 at *;refine (d3_ ra rn rc rf _ (h3.below hb) (by omega)).mono ?_;rintro e w3 ⟨rfl,o3,hc⟩;replace V0:=V0.below hc;replace V1:=V1.below hc;replace V2:=V2.below hc;replace R1:=R1.below hc;replace Q2:=Q2.below hc;have S3:=o3;have hk:=hc.size;replace hc:=Aa hb hc;clear hb o3;have g2:=V2.frozen 4;have y2:=V2.cell 4;have x3:=V0.cell 5;simp only[Yp,Yo,Yt,Yj,Yr,Yq] at y2 x3;have X0:=V0.other ⟨w.heap.size+1+1,4,none⟩ (.slice (some ⟨u2.heap.size,0,none⟩) rn rn) (by simp only[ne_eq];omega);have X1:=V1.other ⟨w.heap.size+1+1,4,none⟩ (.slice (some ⟨u2.heap.size,0,none⟩) rn rn) (by simp only[ne_eq];omega);have X2:=V2.set 4 (.slice (some ⟨u2.heap.size,0,none⟩) rn rn);have P1:=R1.grown (Ba _ (w.heap.size+1+1) 4 (.slice (some ⟨u2.heap.size,0,none⟩) rn rn)) (by simp only[ne_eq];omega);have P2:=Q2.grown (Ba _ (w.heap.size+1+1) 4 (.slice (some ⟨u2.heap.size,0,none⟩) rn rn)) (by omega);have P3:=S3.grown (Ba _ (w.heap.size+1+1) 4 (.slice (some ⟨u2.heap.size,0,none⟩) rn rn)) (by simp only[ne_eq];omega);have hb:Below w.heap.size w (w3.setCell ⟨w.heap.size+1+1,4,none⟩ (.slice (some ⟨u2.heap.size,0,none⟩) rn rn)):=hc.setCell (by simp;omega) _;have ho:u2.heap.size<=(w3.setCell ⟨w.heap.size+1+1,4,none⟩ (.slice (some ⟨u2.heap.size,0,none⟩) rn rn)).heap.size:=by simpa using hk
 clear V0 V1 V2 R1 Q2 S3 hc hk
 go_wp2_with fail
 clear g2 y2 x3;generalize w3.setCell ⟨w.heap.size+1+1,4,none⟩ (.slice (some ⟨u2.heap.size,0,none⟩) rn rn)=u3 at *;refine (d3_ la ln lc lt _ (h4.below hb) (by omega)).mono ?_;rintro e w4 ⟨rfl,o4,he⟩;replace X1:=X1.below he;replace X2:=X2.below he;replace P1:=P1.below he;replace P2:=P2.below he;replace P3:=P3.below he;have P4:=o4;have hp:=he.size;replace he:=Aa hb he;clear hb o4 X0;have g2:=X2.frozen 5;have y0:=X2.cell 0;have y1:=X2.cell 1;have y2:=X2.cell 2;have y3:=X2.cell 3;have y4:=X2.cell 4;have y5:=X2.cell 5;obtain⟨f0,f1,f2,f3,f4,f5⟩:=fz6 X1;have z0:=X1.cell 0;have z1:=X1.cell 1;have z2:=X1.cell 2;have z3:=X1.cell 3;have z4:=X1.cell 4;have z5:=X1.cell 5;simp only[Yp,Yo,Yt,Yj,Yr,Yq] at y0 y1 y2 y3 y4 y5 z0 z1 z2 z3 z4 z5
 have hf:∀ (u:World) (i:Nat) (x:Value) (bb:Nat) (hl:bb=w.heap.size+1∨bb=w.heap.size+1+1),Below w.heap.size w u∧Bk Ex.cs 2 103 u (w.heap.size+1+1+1) en ex∧A0 u1.heap.size u (some ⟨u1.heap.size,0,none⟩) vn vs∧Bk Ct.cs 4 107 u u2.heap.size rn rf∧Bk Ct.cs 4 107 u u3.heap.size ln lt->
   Below w.heap.size w (u.setCell ⟨bb,i,none⟩ x)∧Bk Ex.cs 2 103 (u.setCell ⟨bb,i,none⟩ x) (w.heap.size+1+1+1) en ex∧A0 u1.heap.size (u.setCell ⟨bb,i,none⟩ x) (some ⟨u1.heap.size,0,none⟩) vn vs∧Bk Ct.cs 4 107 (u.setCell ⟨bb,i,none⟩ x) u2.heap.size rn rf∧Bk Ct.cs 4 107 (u.setCell ⟨bb,i,none⟩ x) u3.heap.size ln lt:=by
  rintro u i x bb hl ⟨q0,q1,q2,q3,q4⟩;refine⟨q0.setCell (by simp;omega) _,q1.grown (Ba _ bb i x) (by simp only[ne_eq];omega),q2.grown (Ba _ bb i x) (by omega),q3.grown (Ba _ bb i x) (by simp only[ne_eq];omega),q4.grown (Ba _ bb i x) (by simp only[ne_eq];omega)⟩
 have E:=hf _ 5 (.slice (some ⟨u3.heap.size,0,none⟩) ln ln) (w.heap.size+1) (.inl rfl) (hf _ 4 (.slice (some ⟨u2.heap.size,0,none⟩) rn rn) (w.heap.size+1) (.inl rfl) (hf _ 3 (.slice (some ⟨u1.heap.size,0,none⟩) vn vn) (w.heap.size+1) (.inl rfl) (hf _ 2 (.slice (some ⟨w.heap.size+1+1+1,0,none⟩) en en) (w.heap.size+1) (.inl rfl) (hf _ 1 (.int .i64 next) (w.heap.size+1) (.inl rfl) (hf _ 0 (.int .i64 size) (w.heap.size+1) (.inl rfl) (hf _ 5 (.slice (some ⟨u3.heap.size,0,none⟩) ln ln) (w.heap.size+1+1) (.inr rfl) ⟨he,P1,P2,P3,P4⟩))))));have hW:=((((((X1.other ⟨w.heap.size+1+1,5,none⟩ (.slice (some ⟨u3.heap.size,0,none⟩) ln ln) (by simp only[ne_eq];omega)).set 0 (.int .i64 size)).set 1 (.int .i64 next)).set 2 (.slice (some ⟨w.heap.size+1+1+1,0,none⟩) en en)).set 3 (.slice (some ⟨u1.heap.size,0,none⟩) vn vn)).set 4 (.slice (some ⟨u2.heap.size,0,none⟩) rn rn)).set 5 (.slice (some ⟨u3.heap.size,0,none⟩) ln ln);simp only[Yj,Yr,Yq] at hW;clear X1 X2 P1 P2 P3 P4 hf he;go_wp2;generalize ((((((w4.setCell ⟨w.heap.size+1+1,5,none⟩ (.slice (some ⟨u3.heap.size,0,none⟩) ln ln)).setCell ⟨w.heap.size+1,0,none⟩ (.int .i64 size)).setCell ⟨w.heap.size+1,1,none⟩ (.int .i64 next)).setCell ⟨w.heap.size+1,2,none⟩ (.slice (some ⟨w.heap.size+1+1+1,0,none⟩) en en)).setCell ⟨w.heap.size+1,3,none⟩ (.slice (some ⟨u1.heap.size,0,none⟩) vn vn)).setCell ⟨w.heap.size+1,4,none⟩ (.slice (some ⟨u2.heap.size,0,none⟩) rn rn)).setCell ⟨w.heap.size+1,5,none⟩ (.slice (some ⟨u3.heap.size,0,none⟩) ln ln)=W8 at *;refine YW (results_cell_row rfl _ W8 (w.heap.size+1) _ _ _ _ rfl hW underlying35 rfl (by kernel_rfl)) rfl ?_;obtain⟨E0,E1,E2,E3,E4⟩:=E;obtain⟨q1,b1,_⟩:=E1.blk;obtain⟨q3,b3,_⟩:=E3.blk;obtain⟨q4,b4,_⟩:=E4.blk;exact⟨⟨_,rfl,_,_,_,_,_,_,_,_,_,_,_,_,rfl,⟨E1.sl,gh_ _ en (by omega),gi_ b1 (by omega)⟩,⟨E2.mono (by omega),gh_ _ vn (by omega)⟩,⟨E3.sl,gh_ _ rn (by omega),gi_ b3 (by omega)⟩,E4.sl,gh_ _ ln (by omega),gi_ b4 (by omega)⟩,E0⟩
theorem kk_ (B B':Nat)(v v':Value)(p:Po)(w:World)(h:AA B w v p)(h':AA B' w v' p)(hs:BZ p):
  Calls prog 11 #[v,v'] w fun e w'=>e=.returned (.bool true)∧Below w.heap.size w w':=by
 obtain⟨ea,en,ec,va,vn,vc,ra,rn,rc,la,ln,lc,rfl,⟨h1,k1⟩,⟨h2,k2⟩,⟨h3,k3⟩,h4,k4⟩:=h;obtain⟨ea',en',ec',va',vn',vc',ra',rn',rc',la',ln',lc',rfl,⟨hg,k1'⟩,⟨hh,k2'⟩,⟨hj,k3'⟩,hk,k4'⟩:=h';obtain⟨d1,d2,d3,d4,d5⟩:=hs.dims;clear hs k1 k2 k3 k4 k1' k2' k3' k4';have n1:=h1.len;have n2:=h2.len;have n3:=h3.len;have n4:=h4.len;have n1':=hg.len;have n2':=hh.len;have n3':=hj.len;have n4':=hk.len;obtain⟨size,next,ex,vs,rf,lt⟩:=p;simp only at *;have q1:(size != size)=false:=by simp
 have q2:(next != next)=false:=by simp
 go_enter func11,ntmps11
 go_wp2_with fail
 refine (hj_ ea en ec ex ea' en' ec' ex _ (h1.below (by go_grown)) (hg.below (by go_grown)) (by omega) (by omega)).mono ?_;rintro e w1 ⟨rfl,hb⟩;rw[lx_];obtain⟨C,D,he⟩:=qo_ hb;clear hb;have hb:=he;clear he;have c3:=C.cell 3;have d3':=D.cell 3;have c4:=C.cell 4;have d4':=D.cell 4;have c5:=C.cell 5;have d5':=D.cell 5;simp only[lgA,lgB,lgC] at c3 d3' c4 d4' c5 d5';clear C D
 go_wp2_with fail
 refine (hz_ B B' va vn vc va' vn' vc' vs _ (h2.below hb) (hh.below hb) (by omega) (fun v hv=>⟨by have:=(d3 v hv).1;omega,(d3 v hv).2⟩)).mono ?_;rintro e w2 ⟨rfl,ha⟩;replace c4:=Ab ha c4;replace d4':=Ab ha d4';replace c5:=Ab ha c5;replace d5':=Ab ha d5';replace ha:=Aa hb ha;clear c3 d3' hb
 go_wp2_with fail
 refine (d2_ ra rn rc rf ra' rn' rc' rf _ (h3.below ha) (hj.below ha) (by omega) (by omega)).mono ?_;rintro e w3 ⟨rfl,hc⟩;rw[hw_];replace c5:=Ab hc c5;replace d5':=Ab hc d5';replace hc:=Aa ha hc;clear c4 d4' ha
 go_wp2_with fail
 refine (d2_ la ln lc lt la' ln' lc' lt _ (h4.below hc) (hk.below hc) (by omega) (by omega)).mono ?_;rintro e w4 ⟨rfl,hf⟩;rw[hw_];replace hf:=Aa hc hf;go_wp2;go_returns;exact⟨rfl,hf⟩
def Ax (p:Po):Prop:=p.ex.length<=4194304∧BE p.ex∧p.vs.length<=4194304∧Df p.vs∧p.rf.length<=4194304∧Bp p.rf∧p.lt.length<=4194304∧Bp p.lt
theorem nf_ (h:i<=l.length):(l.take i).getLast?=if i=0 then none else l[i-1]?:=by
 rw[List.getLast?_eq_getElem?,Zz,ZZ h];split
 ·subst_vars;simp
 ·rw[Ya (by omega)]
end
end Go.Proofs.YtbbhcnjhohidnaaGreatDoor
