/- ownerOk of the program, l3Owner of the model. -/
import Derived.Lib.SmallJoins
import Derived.Test.YtbbhcnjhohidnaaGreatDoorU05
set_option maxHeartbeats 20000000
set_option maxRecDepth 100000
namespace Go.Proofs.YtbbhcnjhohidnaaGreatDoor
section
open Go Go.RowKit Go.BigFrame Tryz
variable{c c0 c1 c2:Array Value}{l:List It}{B k r:Nat}{t0 t1 t2:TypeId}{w w' w1:World}
theorem j6_ (nm:ByteArray)(pa:Option Addr)(pn pc:Nat)(L:Int)(w:World)(hs:nm.size<=9223372036854775807)(hn:pn<=9223372036854775807)(h0:0<=L)(h1:L<=1048576):
  Calls prog 145 #[.agg #[.string nm,.slice pa pn pc],.int .i64 L] w fun e w'=>(∃ r:Int,e=.returned (.int .i64 r)∧(r=-1∨(0<=r∧r<=1048576∧nm.size<=1048576∧pn<=1048576)))∧Below w.heap.size w w':=by
 by_cases h:L-(nm.size:Int)<0
 ·go_enter func145,ntmps145;go_wp2;go_returns;exact⟨⟨-1,rfl,.inl rfl⟩,by go_grown⟩
 ·go_enter func145,ntmps145
  go_wp2_with fail
  refine (jh_ pa pn pc (L-nm.size) _ hn (by omega) (by omega)).mono ?_;rintro e w1 ⟨⟨r,rfl,hr⟩,rfl⟩;rcases hr with rfl | ⟨r0,r1,r2⟩
  ·go_wp2;go_returns;exact⟨⟨-1,rfl,.inl rfl⟩,by go_grown⟩
  ·go_wp2;go_returns;exact⟨⟨r,rfl,.inr ⟨r0,r1,by omega,r2⟩⟩,by go_grown⟩
theorem ji_ (B:Nat)(a:Option Addr)(n cap:Nat)(l:List It)(L:Int)(w:World)(h:AJ B w a n l)(hbig:FS l)(hn:n<=9223372036854775807)(hL0:0<=L)(hL:L<=1048576):
  Calls prog 97 #[.slice a n cap,.int .i64 L] w fun e w'=>(∃ r:Int,e=.returned (.int .i64 r)∧(r=-1∨(0<=r∧r<=1048576∧Ed n l)))∧Below w.heap.size w w':=by
 have ha:Hid (l.length=n):=h.len;by_cases hb:L-(n:Int)<0
 ·go_enter func97,ntmps97;go_wp2;go_returns;go_light;exact⟨⟨_,rfl,.inl rfl⟩,Yg _ _⟩
 ·go_enter func97,ntmps97
  go_wp2_with fail
  go_loopw [1,5] (fun lf ix wr=>∃ (k:Nat) (r:Int),k<=n∧ix=.int .i64 k∧lf=.int .i64 r∧0<=r∧r<=1048576∧Hid (∀ i x,i<k->l[i]?=some x->x.nm.size<=1048576∧x.ps.length<=1048576)∧Below w.heap.size w wr) (fun _ ix _=>n-(intOf ix).toNat)
  case atStart=>exact⟨0,_,Zg _,rfl,rfl,by omega,by omega,fun i e hi=>by omega,Yg _ _⟩
  case round=>
   obtain⟨k,r,hk,rfl,rfl,hf,hg,hI,hB⟩:=hrel;by_cases hlt:k<n
   ·obtain⟨b,o,x,pa,pn,pc,rfl,hp,c0,c1,hP,_,_,_⟩:=bO_ (h.below hB) hlt;have hh:Hid (l[k]?=some x):=hp;obtain⟨z1,z2⟩:=hbig x (Zc hp);have he:Hid (x.ps.length=pn):=hP.len;rw[he.out] at z2;clear hp hP
    go_wp2_with fail
    refine (j6_ x.nm pa pn pc r _ z1 z2 hf hg).mono ?_;rintro e w1 ⟨⟨q,rfl,hq⟩,hc⟩;rcases hq with rfl | ⟨q0,q1,q2,q3⟩
    ·go_wp2;go_returns;go_light;exact⟨⟨_,rfl,.inl rfl⟩,Aa hB hc⟩
    ·go_wp2;go_roundw
     case rel=>
      refine⟨k+1,q,by omega,by go_num,rfl,by omega,by omega,?_,Aa hB hc⟩;intro i y hi hy;by_cases hik:i=k
      ·subst hik;rw[hh.out] at hy;obtain rfl:=Zi hy;exact⟨q2,by rw[he.out];exact q3⟩
      ·exact hI.out i y (by omega) hy
     case measure=>simp[intOf];omega
   ·obtain rfl:k=n:=by omega
    go_wp2;go_returns;go_light;refine⟨⟨r,rfl,.inr ⟨hf,hg,by omega,fun x hx=>?_⟩⟩,hB⟩;obtain⟨i,hi⟩:=List.getElem?_of_mem hx;exact hI.out i x (by have:=(Zb.1 hi).1;rw[ha.out] at this;exact this) hi
theorem io_ (B:Nat)(v:Vo)(pa:Option Addr)(pn pc:Nat)(L:Int)(w:World)(hI:AJ B w pa pn v.its)(hbig:FS v.its)(hs:v.nm.size<=9223372036854775807)(hn:pn<=9223372036854775807)(h0:0<=L)(h1:L<=1048576):
  Calls prog 49 #[.agg #[.int .i64 v.id,.string v.nm,.bool v.fx,.slice pa pn pc],.int .i64 L] w fun e w'=>(∃ r:Int,e=.returned (.int .i64 r)∧(r=-1∨(0<=r∧r<=1048576∧v.nm.size<=1048576∧Ed pn v.its)))∧Below w.heap.size w w':=by
 obtain⟨id,nm,fx,its⟩:=v;simp only at hs hI hbig;by_cases h:L-(nm.size:Int)<0
 ·go_enter func49,ntmps49;go_wp2;go_returns;exact⟨⟨-1,rfl,.inl rfl⟩,by go_grown⟩
 ·go_enter func49,ntmps49
  go_wp2_with fail
  refine (ji_ B pa pn pc its (L-nm.size) _ (hI.below (by go_grown)) hbig hn (by omega) (by omega)).mono ?_;rintro e w1 ⟨⟨r,rfl,hr⟩,ha⟩;replace ha:Below w.heap.size w w1:=Aa (by go_grown) ha;rcases hr with rfl | ⟨r0,r1,r2⟩
  ·go_wp2;go_returns;exact⟨⟨-1,rfl,.inl rfl⟩,ha⟩
  ·go_wp2;go_returns;exact⟨⟨r,rfl,.inr ⟨r0,r1,by show nm.size<=_;omega,r2⟩⟩,ha⟩
theorem hx_ (B:Nat)(a:Option Addr)(n cap:Nat)(l:List Vo)(L:Int)(w:World)(h:A0 B w a n l)(hbig:GL l)(hn:n<=9223372036854775807)(hL0:0<=L)(hL:L<=1048576):
  Calls prog 24 #[.slice a n cap,.int .i64 L] w fun e w'=>(∃ r:Int,e=.returned (.int .i64 r)∧(r=-1∨(0<=r∧r<=1048576∧Fn n l)))∧Below w.heap.size w w':=by
 have ha:Hid (l.length=n):=h.len;by_cases hb:L-(n:Int)<0
 ·go_enter func24,ntmps24;go_wp2;go_returns;go_light;exact⟨⟨_,rfl,.inl rfl⟩,Yg _ _⟩
 ·go_enter func24,ntmps24
  go_wp2_with fail
  go_loopw [1,5] (fun lf ix wr=>∃ (k:Nat) (r:Int),k<=n∧ix=.int .i64 k∧lf=.int .i64 r∧0<=r∧r<=1048576∧Hid (∀ i v,i<k->l[i]?=some v->v.nm.size<=1048576∧Ed v.its.length v.its)∧Below w.heap.size w wr) (fun _ ix _=>n-(intOf ix).toNat)
  case atStart=>exact⟨0,_,Zg _,rfl,rfl,by omega,by omega,fun i e hi=>by omega,Yg _ _⟩
  case round=>
   obtain⟨k,r,hk,rfl,rfl,hf,hg,hI,hB⟩:=hrel;by_cases hlt:k<n
   ·obtain⟨b,o,v,pa,pn,pc,rfl,hp,c0,c1,c2,c3,hP,_,_⟩:=b5_ (h.below hB) hlt;have hh:Hid (l[k]?=some v):=hp;obtain⟨z1,z2,z3⟩:=hbig v (Zc hp);have he:Hid (v.its.length=pn):=hP.len;rw[he.out] at z2;clear hp
    go_wp2_with fail
    refine (io_ B v pa pn pc r _ hP z3 z1 z2 hf hg).mono ?_;rintro e w1 ⟨⟨q,rfl,hq⟩,hc⟩;rcases hq with rfl | ⟨q0,q1,q2,q3⟩
    ·go_wp2;go_returns;go_light;exact⟨⟨_,rfl,.inl rfl⟩,Aa hB hc⟩
    ·go_wp2;go_roundw
     case rel=>
      refine⟨k+1,q,by omega,by go_num,rfl,by omega,by omega,?_,Aa hB hc⟩;intro i y hi hy;by_cases hik:i=k
      ·subst hik;rw[hh.out] at hy;obtain rfl:=Zi hy;exact⟨q2,by rw[he.out];exact q3⟩
      ·exact hI.out i y (by omega) hy
     case measure=>simp[intOf];omega
   ·obtain rfl:k=n:=by omega
    go_wp2;go_returns;go_light;refine⟨⟨r,rfl,.inr ⟨hf,hg,by omega,fun x hx=>?_⟩⟩,hB⟩;obtain⟨i,hi⟩:=List.getElem?_of_mem hx;exact hI.out i x (by have:=(Zb.1 hi).1;rw[ha.out] at this;exact this) hi
theorem Ba (w:World)(b i:Nat)(v:Value):w.grownBy (w.setCell ⟨b,i,none⟩ v) (some b):=af_ (Yh _ _) i v
theorem bx3 (hb:Below (((w.alloc (.cells c0 t0)).alloc (.cells c1 t1)).alloc (.cells c2 t2)).heap.size (((w.alloc (.cells c0 t0)).alloc (.cells c1 t1)).alloc (.cells c2 t2)) w1):
  Blk w1 w.heap.size c0 t0∧Blk w1 (w.heap.size+1) c1 t1∧Blk w1 (w.heap.size+2) c2 t2∧Below w.heap.size w w1∧w.heap.size+3<=w1.heap.size:=
 ⟨(((Blk.new w _ _).alloc _).alloc _).below hb,((Blk.new' _ _ _ _ (by simp)).alloc _).below hb,(Blk.new' _ _ _ _ (by simp)).below hb,Aa (by go_grown) hb,by have:=hb.size;simp at this;omega⟩
theorem n6_ (hb:Below (((w.alloc (.cells c0 t0)).alloc (.cells c1 t1)).alloc (.cells c2 t2)).heap.size (((w.alloc (.cells c0 t0)).alloc (.cells c1 t1)).alloc (.cells c2 t2)) w1):
  Blk w1 w.heap.size c0 t0∧Blk w1 (w.heap.size+1) c1 t1∧Blk w1 (w.heap.size+1+1) c2 t2∧Below w.heap.size w w1:=by
 refine⟨?_,?_,?_,Aa (by go_grown) hb⟩
 ·have:=(((Blk.new w c0 t0).alloc (.cells c1 t1)).alloc (.cells c2 t2)).below hb
  simpa using this
 ·have:=((Blk.new (w.alloc (.cells c0 t0)) c1 t1).alloc (.cells c2 t2)).below hb
  simpa using this
 ·have:=(Blk.new ((w.alloc (.cells c0 t0)).alloc (.cells c1 t1)) c2 t2).below hb
  simpa using this
theorem j7_ (nm:ByteArray)(pa:Option Addr)(pn pc:Nat)(ps:List Pt)(w:World)(h:AE w pa pn ps)(hn:pn<=4194304):
  Calls prog 153 #[.agg #[.string nm,.slice pa pn pc]] w fun e w'=>(∃ b,w.heap.size<=b∧e=.returned (.agg #[.string nm,.slice (some ⟨b,0,none⟩) pn pn])∧Bk Pt.cs 3 162 w' b pn ps)∧Below w.heap.size w w':=by
 go_enter func153,ntmps153
 go_wp2_with fail
 refine (i9_ pa pn pc ps _ (h.below (by go_grown)) hn).mono ?_;rintro e w1 ⟨rfl,o1,ha⟩;obtain⟨k0,k1,k2,hb⟩:=n6_ ha;clear ha;have S:=o1;simp only[YN] at S ⊢;have he:=o1.lt;simp only[YN] at he;have g1:=k2.frozen 1;have y0:w1.cell? ⟨w.heap.size+1+1,0,none⟩=some (.string nm):=k2.cell 0;have y1:w1.cell? ⟨w.heap.size+1+1,1,none⟩=some (.slice none 0 0):=k2.cell 1;have f0:=k1.frozen 0;have f1:=k1.frozen 1;have z0:w1.cell? ⟨w.heap.size+1,0,none⟩=some (.string ⟨#[]⟩):=k1.cell 0;have z1:w1.cell? ⟨w.heap.size+1,1,none⟩=some (.slice none 0 0):=k1.cell 1
 have hW:Blk (((w1.setCell ⟨w.heap.size+1+1,1,none⟩ (.slice (some ⟨w.heap.size+1+1+1,0,none⟩) pn pn)).setCell ⟨w.heap.size+1,0,none⟩ (.string nm)).setCell ⟨w.heap.size+1,1,none⟩ (.slice (some ⟨w.heap.size+1+1+1,0,none⟩) pn pn)) (w.heap.size+1) #[.string nm,(.slice (some ⟨w.heap.size+1+1+1,0,none⟩) pn pn)] 156:=by
  have:=((k1.other ⟨w.heap.size+1+1,1,none⟩ (.slice (some ⟨w.heap.size+1+1+1,0,none⟩) pn pn) (by simp)).set 0 (.string nm)).set 1 (.slice (some ⟨w.heap.size+1+1+1,0,none⟩) pn pn)
  simpa using this
 have hc:Below w.heap.size w (((w1.setCell ⟨w.heap.size+1+1,1,none⟩ (.slice (some ⟨w.heap.size+1+1+1,0,none⟩) pn pn)).setCell ⟨w.heap.size+1,0,none⟩ (.string nm)).setCell ⟨w.heap.size+1,1,none⟩ (.slice (some ⟨w.heap.size+1+1+1,0,none⟩) pn pn)):=by
  refine ((hb.setCell ?_ _).setCell ?_ _).setCell ?_ _
  all_goals (simp;try omega)
 have hS:Bk Pt.cs 3 162 (((w1.setCell ⟨w.heap.size+1+1,1,none⟩ (.slice (some ⟨w.heap.size+1+1+1,0,none⟩) pn pn)).setCell ⟨w.heap.size+1,0,none⟩ (.string nm)).setCell ⟨w.heap.size+1,1,none⟩ (.slice (some ⟨w.heap.size+1+1+1,0,none⟩) pn pn)) (w.heap.size+1+1+1) pn ps:=
  ((S.grown (Ba _ (w.heap.size+1+1) 1 (.slice (some ⟨w.heap.size+1+1+1,0,none⟩) pn pn)) (by simp only[ne_eq];omega)).grown (Ba _ (w.heap.size+1) 0 (.string nm)) (by simp only[ne_eq];omega)).grown (Ba _ (w.heap.size+1) 1 (.slice (some ⟨w.heap.size+1+1+1,0,none⟩) pn pn)) (by simp only[ne_eq];omega)
 clear k0 k1 k2 S o1;go_wp2;generalize ((w1.setCell ⟨w.heap.size+1+1,1,none⟩ (.slice (some ⟨w.heap.size+1+1+1,0,none⟩) pn pn)).setCell ⟨w.heap.size+1,0,none⟩ (.string nm)).setCell ⟨w.heap.size+1,1,none⟩ (.slice (some ⟨w.heap.size+1+1+1,0,none⟩) pn pn)=W8 at *;refine YW (results_cell_row rfl _ W8 (w.heap.size+1) _ _ _ _ rfl hW underlying156 rfl (by kernel_rfl)) rfl ?_;exact⟨⟨w.heap.size+1+1+1,by omega,rfl,hS⟩,hc⟩
def DB (B:Nat)(w:World)(c:Array Value)(l:List It)(k:Nat):Prop:=
 ∀ i x,i<k->l[i]?=some x->∃ pa pn pc,c[i*2]?=some (.string x.nm)∧c[i*2+1]?=some (.slice pa pn pc)∧AE w pa pn x.ps∧Hd B pa pn pc∧(∀ ad,pa=some ad->B<=ad.block)∧Sf B w pa
theorem DB.below (h:DB B w c l k)(hb:Below w.heap.size w w'):DB B w' c l k:=fun i x hi hx=>by
 obtain⟨pa,pn,pc,c0,c1,hp,hh,hA,sf⟩:=h i x hi hx;exact⟨pa,pn,pc,c0,c1,hp.below hb,hh,hA,sf.below hb⟩
theorem DB.grown (h:DB B w c l k)(hg:w.grownBy w' (some r))(hr:r<B):DB B w' c l k:=fun i x hi hx=>by
 obtain⟨pa,pn,pc,c0,c1,hp,hh,hA,sf⟩:=h i x hi hx;exact⟨pa,pn,pc,c0,c1,hp.grown hg (fun ad ha=>by have:=hA ad ha;omega),hh,hA,sf.grown hg hr⟩
theorem jj_ (B:Nat)(a:Option Addr)(n cap:Nat)(l:List It)(w:World)(h:AJ B w a n l)(hn:n<=1048576)(hps:∀ x∈l,x.ps.length<=4194304):
  Calls prog 114 #[.slice a n cap] w fun e w'=>(e=.returned (.slice (some ⟨w.heap.size,0,none⟩) n n)∧AJ w.heap.size w' (some ⟨w.heap.size,0,none⟩) n l)∧Below w.heap.size w w':=by
 have hc:Hid (l.length=n):=h.len;have hb:(prog.info? 156).map (fun i=>(i.zero,i.size,i.bytes))=some (some (.agg #[.string .empty,.slice none 0 0]),2,40):=by kernel_rfl
 obtain⟨i0,hi,hl,ho,hr⟩:=info_parts hb
 have hy:∀ u:World,(Instr.makeSlice 95 (.int .i64 (n:Int)) (.int .i64 (n:Int))).run prog u =
   .ok (.slice (some ⟨u.heap.size,0,none⟩) n n) (u.alloc (.cells (madeCells #[.string .empty,.slice none 0 0] (n*2)) 156)):=fun u=>by
  have hm:=run_make (P:=prog) u 95 156 i0 (.agg #[.string .empty,.slice none 0 0]) underlying95 hi hl .i64 .i64 (n:Int) (n:Int) (by omega) (YB _) (by rw[hr];omega) (by omega);simpa[ho,Value.cells] using hm
 clear hb hi hl ho hr;go_enter func114,ntmps114
 go_wp2_with fail
 go_loopw [4] (fun ix wr=>∃ (k:Nat) (c:Array Value),k<=n∧ix=.int .i64 k∧Blk wr w.heap.size c 156∧Hid (c.size=n*2)∧DB (w.heap.size+1) wr c l k∧Below w.heap.size w wr) (fun ix _=>n-(intOf ix).toNat)
 case atStart=>exact⟨0,_,Zg _,rfl,Blk.new _ _ _,size_madeCells _ _,fun i p hi=>by omega,(Yg _ _).alloc (Zd _) _⟩
 case round=>
  obtain⟨k,c,hk,rfl,ha,hf,hj,hB⟩:=hrel;by_cases hlt:k<n
  ·obtain⟨b,o,x,pa,pn,pc,rfl,hp,c0,c1,hP,_,_,_⟩:=bO_ (h.below hB) hlt;have hz:Hid (l[k]?=some x):=hp;have hA:pn<=4194304:=by have:=hps x (Zc hp);rw[hP.len] at this;exact this
   have hC:=ha.lt;clear hp hy
   go_wp2_with fail
   refine (j7_ x.nm pa pn pc x.ps _ hP hA).mono ?_;rintro e w1 ⟨⟨nb,hD,rfl,hQ⟩,hg⟩;have he:=ha.below hg;have ht:=hj.below hg;have f0:=he.frozen (k*2);have f1:=he.frozen (k*2+1);have hE:=hB.size;obtain⟨v0,y0⟩:=he.has (i:=k*2) (by rw[hf.out];omega);obtain⟨v1,y1⟩:=he.has (i:=k*2+1) (by rw[hf.out];omega);go_wp2;go_roundw
   case rel=>
    refine⟨k+1,_,by omega,by go_num,(he.set _ _).set _ _,by show _=_;simp[hf.out],?_,?_⟩
    ·have hu:=(ht.grown (Ba _ w.heap.size (k*2) (.string x.nm)) (by omega)).grown (Ba _ w.heap.size (k*2+1) (.slice (some ⟨nb,0,none⟩) pn pn)) (by omega);have hh:=(hQ.grown (Ba _ w.heap.size (k*2) (.string x.nm)) (by simp only[ne_eq];omega)).grown (Ba _ w.heap.size (k*2+1) (.slice (some ⟨nb,0,none⟩) pn pn)) (by simp only[ne_eq];omega);intro i q hi hq;have hw:=hf.out;by_cases hik:i=k
     ·subst hik;obtain rfl:x=q:=by rw[hz.out] at hq;exact Zi hq
      obtain⟨cq,hv,_⟩:=hh.blk;refine⟨some ⟨nb,0,none⟩,pn,pn,?_,?_,hh.sl,gh_ nb pn (by omega),fun ad e=>(by cases e;show _<=nb;omega),gi_ hv (by omega)⟩
      all_goals (simp[Yn];omega)
     ·obtain⟨qa,qn,qc,r0,r1,r2⟩:=hu i q (by omega) hq;refine⟨qa,qn,qc,?_,?_,r2⟩
      all_goals (rw[Za (by omega),Za (by omega)];assumption)
    ·exact ((Aa hB hg).setCell (by simp) _).setCell (by simp) _
   case measure=>simp[intOf];omega
  ·obtain rfl:k=n:=by omega
   go_wp2;go_returns;go_light;refine⟨⟨rfl,hc.out,fun i x hx=>?_⟩,hB⟩;have hi:i<k:=by have:=(Zb.1 hx).1;rw[hc.out] at this;exact this
   obtain⟨pa,pn,pc,r0,r1,r2,r3,r4,r5⟩:=hj i x hi hx;refine⟨w.heap.size,0,pa,pn,pc,rfl,?_,?_,r2,r3.mono (by omega),Zd _,fun ad hs=>(by have:=r4 ad hs;omega),r5.mono (by omega),gi_ ha (Zd _)⟩
   ·rw[Zq,ha.cell];exact r0
   ·rw[Zq,ha.cell];exact r1
theorem ip_ (B:Nat)(v:Vo)(pa:Option Addr)(pn pc:Nat)(w:World)(h:AJ B w pa pn v.its)(hn:pn<=1048576)(hps:∀ x∈v.its,x.ps.length<=4194304):
  Calls prog 65 #[.agg #[.int .i64 v.id,.string v.nm,.bool v.fx,.slice pa pn pc]] w fun e w'=>(∃ b,w.heap.size<=b∧e=.returned (.agg #[.int .i64 v.id,.string v.nm,.bool v.fx,.slice (some ⟨b,0,none⟩) pn pn])∧AJ b w' (some ⟨b,0,none⟩) pn v.its)∧Below w.heap.size w w':=by
 obtain⟨id,nm,fx,its⟩:=v;simp only at h hps ⊢;go_enter func65,ntmps65
 go_wp2_with fail
 refine (jj_ B pa pn pc its _ (h.below (by go_grown)) hn hps).mono ?_;rintro e w1 ⟨⟨rfl,S⟩,ha⟩;obtain⟨k0,k1,k2,hb⟩:=n6_ ha;have he:=ha.size;clear ha;simp only[YN] at S he ⊢;have g3:=k2.frozen 3;have y0:w1.cell? ⟨w.heap.size+1+1,0,none⟩=some (.int .i64 id):=k2.cell 0;have y1:w1.cell? ⟨w.heap.size+1+1,1,none⟩=some (.string nm):=k2.cell 1;have y2:w1.cell? ⟨w.heap.size+1+1,2,none⟩=some (.bool fx):=k2.cell 2;have y3:w1.cell? ⟨w.heap.size+1+1,3,none⟩=some (.slice none 0 0):=k2.cell 3;have f0:=k1.frozen 0;have f1:=k1.frozen 1;have f2:=k1.frozen 2;have f3:=k1.frozen 3;have z0:w1.cell? ⟨w.heap.size+1,0,none⟩=some (.int .i64 0):=k1.cell 0;have z1:w1.cell? ⟨w.heap.size+1,1,none⟩=some (.string ⟨#[]⟩):=k1.cell 1;have z2:w1.cell? ⟨w.heap.size+1,2,none⟩=some (.bool false):=k1.cell 2;have z3:w1.cell? ⟨w.heap.size+1,3,none⟩=some (.slice none 0 0):=k1.cell 3
 have hW:Blk (((((w1.setCell ⟨w.heap.size+1+1,3,none⟩ (.slice (some ⟨w.heap.size+1+1+1,0,none⟩) pn pn)).setCell ⟨w.heap.size+1,0,none⟩ (.int .i64 id)).setCell ⟨w.heap.size+1,1,none⟩ (.string nm)).setCell ⟨w.heap.size+1,2,none⟩ (.bool fx)).setCell ⟨w.heap.size+1,3,none⟩ (.slice (some ⟨w.heap.size+1+1+1,0,none⟩) pn pn)) (w.heap.size+1) #[.int .i64 id,.string nm,.bool fx,.slice (some ⟨w.heap.size+1+1+1,0,none⟩) pn pn] 97:=by
  have:=((((k1.other ⟨w.heap.size+1+1,3,none⟩ (.slice (some ⟨w.heap.size+1+1+1,0,none⟩) pn pn) (by simp)).set 0 (.int .i64 id)).set 1 (.string nm)).set 2 (.bool fx)).set 3 (.slice (some ⟨w.heap.size+1+1+1,0,none⟩) pn pn)
  simpa using this
 have hc:Below w.heap.size w (((((w1.setCell ⟨w.heap.size+1+1,3,none⟩ (.slice (some ⟨w.heap.size+1+1+1,0,none⟩) pn pn)).setCell ⟨w.heap.size+1,0,none⟩ (.int .i64 id)).setCell ⟨w.heap.size+1,1,none⟩ (.string nm)).setCell ⟨w.heap.size+1,2,none⟩ (.bool fx)).setCell ⟨w.heap.size+1,3,none⟩ (.slice (some ⟨w.heap.size+1+1+1,0,none⟩) pn pn)):=by
  refine ((((hb.setCell ?_ _).setCell ?_ _).setCell ?_ _).setCell ?_ _).setCell ?_ _
  all_goals (simp;try omega)
 have hS:AJ (w.heap.size+1+1+1) (((((w1.setCell ⟨w.heap.size+1+1,3,none⟩ (.slice (some ⟨w.heap.size+1+1+1,0,none⟩) pn pn)).setCell ⟨w.heap.size+1,0,none⟩ (.int .i64 id)).setCell ⟨w.heap.size+1,1,none⟩ (.string nm)).setCell ⟨w.heap.size+1,2,none⟩ (.bool fx)).setCell ⟨w.heap.size+1,3,none⟩ (.slice (some ⟨w.heap.size+1+1+1,0,none⟩) pn pn)) (some ⟨w.heap.size+1+1+1,0,none⟩) pn its:=
  ((((S.grown (Ba _ (w.heap.size+1+1) 3 _) (by omega)).grown (Ba _ (w.heap.size+1) 0 _) (by omega)).grown (Ba _ (w.heap.size+1) 1 _) (by omega)).grown (Ba _ (w.heap.size+1) 2 _) (by omega)).grown (Ba _ (w.heap.size+1) 3 _) (by omega)
 clear k0 k1 k2 S;go_wp2;generalize ((((w1.setCell ⟨w.heap.size+1+1,3,none⟩ (.slice (some ⟨w.heap.size+1+1+1,0,none⟩) pn pn)).setCell ⟨w.heap.size+1,0,none⟩ (.int .i64 id)).setCell ⟨w.heap.size+1,1,none⟩ (.string nm)).setCell ⟨w.heap.size+1,2,none⟩ (.bool fx)).setCell ⟨w.heap.size+1,3,none⟩ (.slice (some ⟨w.heap.size+1+1+1,0,none⟩) pn pn)=W8 at *;refine YW (results_cell_row rfl _ W8 (w.heap.size+1) _ _ _ _ rfl hW underlying97 rfl (by kernel_rfl)) rfl ?_;exact⟨⟨w.heap.size+1+1+1,by omega,rfl,hS⟩,hc⟩
def DJ (B:Nat)(w:World)(c:Array Value)(l:List Vo)(k:Nat):Prop:=
 ∀ i x,i<k->l[i]?=some x->∃ pa pn pc,c[i*4]?=some (.int .i64 x.id)∧c[i*4+1]?=some (.string x.nm)∧c[i*4+2]?=some (.bool x.fx)∧c[i*4+3]?=some (.slice pa pn pc)∧AJ B w pa pn x.its∧Hd B pa pn pc
theorem DJ.below {l:List Vo}(h:DJ B w c l k)(hb:Below w.heap.size w w'):DJ B w' c l k:=fun i x hi hx=>by
 obtain⟨pa,pn,pc,c0,c1,c2,c3,hp,r⟩:=h i x hi hx;exact⟨pa,pn,pc,c0,c1,c2,c3,hp.below hb,r⟩
theorem DJ.grown {l:List Vo}(h:DJ B w c l k)(hg:w.grownBy w' (some r))(hr:r<B):DJ B w' c l k:=fun i x hi hx=>by
 obtain⟨pa,pn,pc,c0,c1,c2,c3,hp,hh⟩:=h i x hi hx;exact⟨pa,pn,pc,c0,c1,c2,c3,hp.grown hg hr,hh⟩
theorem hy_ (B:Nat)(a:Option Addr)(n cap:Nat)(l:List Vo)(w:World)(h:A0 B w a n l)(hn:n<=1048576)(hps:∀ v∈l,v.its.length<=1048576∧∀ x∈v.its,x.ps.length<=4194304):
  Calls prog 29 #[.slice a n cap] w fun e w'=>(e=.returned (.slice (some ⟨w.heap.size,0,none⟩) n n)∧A0 w.heap.size w' (some ⟨w.heap.size,0,none⟩) n l)∧Below w.heap.size w w':=by
 have he:Hid (l.length=n):=h.len;have hc:(prog.info? 97).map (fun i=>(i.zero,i.size,i.bytes))=some (some (.agg #[.int .i64 0,.string .empty,.bool false,.slice none 0 0]),4,56):=by kernel_rfl
 obtain⟨i0,hi,hj,hl,ho⟩:=info_parts hc
 have hv:∀ u:World,(Instr.makeSlice 32 (.int .i64 (n:Int)) (.int .i64 (n:Int))).run prog u =
   .ok (.slice (some ⟨u.heap.size,0,none⟩) n n) (u.alloc (.cells (madeCells #[.int .i64 0,.string .empty,.bool false,.slice none 0 0] (n*4)) 97)):=fun u=>by
  have hm:=run_make (P:=prog) u 32 97 i0 (.agg #[.int .i64 0,.string .empty,.bool false,.slice none 0 0]) underlying32 hi hj .i64 .i64 (n:Int) (n:Int) (by omega) (YB _) (by rw[ho];omega) (by omega);simpa[hl,Value.cells] using hm
 clear hc hi hj hl ho;go_enter func29,ntmps29
 go_wp2_with fail
 go_loopw [4] (fun ix wr=>∃ (k:Nat) (c:Array Value),k<=n∧ix=.int .i64 k∧Blk wr w.heap.size c 97∧Hid (c.size=n*4)∧DJ (w.heap.size+1) wr c l k∧Below w.heap.size w wr) (fun ix _=>n-(intOf ix).toNat)
 case atStart=>exact⟨0,_,Zg _,rfl,Blk.new _ _ _,size_madeCells _ _,fun i p hi=>by omega,(Yg _ _).alloc (Zd _) _⟩
 case round=>
  obtain⟨k,c,hk,rfl,ha,hf,hh,hB⟩:=hrel;by_cases hlt:k<n
  ·obtain⟨b,o,x,pa,pn,pc,rfl,hp,c0,c1,c2,c3,hP,_,_⟩:=b5_ (h.below hB) hlt;have hw:Hid (l[k]?=some x):=hp;obtain⟨q1,q2⟩:=hps x (Zc hp);rw[hP.len] at q1;have hy:=ha.lt;clear hp hv
   go_wp2_with fail
   refine (ip_ B x pa pn pc _ hP q1 q2).mono ?_;rintro e w1 ⟨⟨nb,hz,rfl,hQ⟩,hg⟩;have hb:=ha.below hg;have hs:=hh.below hg;have f0:=hb.frozen (k*4);have f1:=hb.frozen (k*4+1);have f2:=hb.frozen (k*4+2);have f3:=hb.frozen (k*4+3);have hA:=hB.size;obtain⟨v0,y0⟩:=hb.has (i:=k*4) (by rw[hf.out];omega);obtain⟨v1,y1⟩:=hb.has (i:=k*4+1) (by rw[hf.out];omega);obtain⟨v2,y2⟩:=hb.has (i:=k*4+2) (by rw[hf.out];omega);obtain⟨v3,y3⟩:=hb.has (i:=k*4+3) (by rw[hf.out];omega);go_wp2;go_roundw
   case rel=>
    refine⟨k+1,_,by omega,by go_num,(((hb.set _ _).set _ _).set _ _).set _ _,by show _=_;simp[hf.out],?_,?_⟩
    ·have ht:=(((hs.grown (Ba _ w.heap.size (k*4) (.int .i64 x.id)) (by omega)).grown (Ba _ w.heap.size (k*4+1) (.string x.nm)) (by omega)).grown (Ba _ w.heap.size (k*4+2) (.bool x.fx)) (by omega)).grown (Ba _ w.heap.size (k*4+3) (.slice (some ⟨nb,0,none⟩) pn pn)) (by omega);have hr:=((((hQ.mono (show w.heap.size+1<=nb by omega)).grown (Ba _ w.heap.size (k*4) (.int .i64 x.id)) (by omega)).grown (Ba _ w.heap.size (k*4+1) (.string x.nm)) (by omega)).grown (Ba _ w.heap.size (k*4+2) (.bool x.fx)) (by omega)).grown (Ba _ w.heap.size (k*4+3) (.slice (some ⟨nb,0,none⟩) pn pn)) (by omega);intro i q hi hq;have hu:=hf.out;by_cases hik:i=k
     ·subst hik;obtain rfl:x=q:=by rw[hw.out] at hq;exact Zi hq
      refine⟨some ⟨nb,0,none⟩,pn,pn,?_,?_,?_,?_,hr,gh_ nb pn (by omega)⟩
      all_goals (simp[Yn];omega)
     ·obtain⟨qa,qn,qc,r0,r1,r2,r3,r4⟩:=ht i q (by omega) hq;refine⟨qa,qn,qc,?_,?_,?_,?_,r4⟩
      all_goals (rw[Za (by omega),Za (by omega),Za (by omega),Za (by omega)];assumption)
    ·exact ((((Aa hB hg).setCell (by simp) _).setCell (by simp) _).setCell (by simp) _).setCell (by simp) _
   case measure=>simp[intOf];omega
  ·obtain rfl:k=n:=by omega
   go_wp2;go_returns;go_light;refine⟨⟨rfl,he.out,fun i x hx=>?_⟩,hB⟩;have hi:i<k:=by have:=(Zb.1 hx).1;rw[he.out] at this;exact this
   obtain⟨pa,pn,pc,r0,r1,r2,r3,r4,r5⟩:=hh i x hi hx;refine⟨w.heap.size,0,pa,pn,pc,rfl,?_,?_,?_,?_,r4.mono (by omega),r5.mono (by omega),Zd _,gi_ ha (Zd _)⟩
   ·rw[Zq,ha.cell];exact r0
   ·rw[Zq,ha.cell];exact r1
   ·rw[Zq,ha.cell];exact r2
   ·rw[Zq,ha.cell];exact r3
end
section
open Go Go.RowKit Go.BigFrame Tryz
theorem j8_ (nm:ByteArray)(ps:List Pt)(pa:Option Addr)(pn pc:Nat)(pa':Option Addr)(pn' pc':Nat)(w:World)(h:AE w pa pn ps)(h':AE w pa' pn' ps)(hn:pn<=4194304):
  Calls prog 169 #[.agg #[.string nm,.slice pa pn pc],.agg #[.string nm,.slice pa' pn' pc']] w fun e w'=>e=.returned (.bool true)∧Below w.heap.size w w':=by
 have hb:pn'<=4194304:=by rw[<-h'.len,h.len];exact hn
 go_enter func169,ntmps169
 go_wp2_with fail
 refine (ja_ pa pn pc ps pa' pn' pc' ps _ (h.below (by go_grown)) (h'.below (by go_grown)) hn hb).mono ?_;rintro e w1 ⟨rfl,ha⟩;rw[lA_];replace ha:Below w.heap.size w w1:=Aa (by go_grown) ha;go_wp2;go_returns;exact⟨rfl,ha⟩
theorem jk_ (B B':Nat)(a:Option Addr)(n cap:Nat)(a':Option Addr)(n' cap':Nat)(l:List It)(w:World)(h:AJ B w a n l)(h':AJ B' w a' n' l)(hn:n<=4194304)(hps:∀ x∈l,x.ps.length<=4194304):
  Calls prog 137 #[.slice a n cap,.slice a' n' cap'] w fun e w'=>e=.returned (.bool true)∧Below w.heap.size w w':=by
 obtain rfl:n=n':=by rw[<-h.len,<-h'.len]
 have hc:((n:Int) != (n:Int))=false:=by simp
 go_enter func137,ntmps137
 go_wp2_with fail
 go_loopw [5] (fun ix wr=>∃ (k:Nat),k<=n∧ix=.int .i64 k∧Below w.heap.size w wr) (fun ix _=>n-(intOf ix).toNat)
 case atStart=>exact⟨0,Zg _,rfl,Yg _ _⟩
 case round=>
  obtain⟨k,hk,rfl,hB⟩:=hrel;by_cases hlt:k<n
  ·obtain⟨b,o,x,pa,pn,pc,rfl,hp,c0,c1,hP,_,_,_⟩:=bO_ (h.below hB) hlt;obtain⟨b',o',y,qa,qn,qc,rfl,hq,d0,d1,hQ,_,_,_⟩:=bO_ (h'.below hB) hlt;rw[hp] at hq;obtain rfl:=Zi hq;have hb:pn<=4194304:=by have:=hps x (Zc hp);rw[hP.len] at this;exact this
   have he:(k:Int)<n:=by omega
   have hf:(0:Int)<=k:=by omega
   clear hp hq;have qq:=fun (u:World) (hu:Below wr.heap.size wr u)=>j8_ x.nm x.ps pa pn pc qa qn qc u (hP.below hu) (hQ.below hu) hb
   go_wp2_with fail
   have g0:=Ad c0;have g1:=Ad c1;have g3:=Ad d0;have g4:=Ad d1;have hg:=aA_ wr;refine ab_ (by kernel_rfl) (by kernel_rfl) ?_
   repeat (go_big_quiet_step (first | (go_at_call 169;exact an_ (qq _ (Grw.h _)))))
   refine wpQuiet_nil ?_;intro w2 hx;have ha:=ah_ hx;clear hx;go_wp2;go_roundw
   case rel=>exact⟨k+1,by omega,by go_num,Aa hB ha⟩
   case measure=>simp[intOf];omega
  ·obtain rfl:k=n:=by omega
   go_wp2;go_returns;exact⟨rfl,hB⟩
theorem iq_ (B B':Nat)(v:Vo)(pa:Option Addr)(pn pc:Nat)(pa':Option Addr)(pn' pc':Nat)(w:World)(h:AJ B w pa pn v.its)(h':AJ B' w pa' pn' v.its)(hn:pn<=4194304)(hps:∀ x∈v.its,x.ps.length<=4194304):
  Calls prog 87 #[.agg #[.int .i64 v.id,.string v.nm,.bool v.fx,.slice pa pn pc],.agg #[.int .i64 v.id,.string v.nm,.bool v.fx,.slice pa' pn' pc']] w fun e w'=>e=.returned (.bool true)∧Below w.heap.size w w':=by
 obtain⟨id,nm,fx,its⟩:=v;simp only at h h' hps;have hc:(id != id)=false:=by simp
 have hb:(fx != fx)=false:=by simp
 go_enter func87,ntmps87
 go_wp2_with fail
 refine (jk_ B B' pa pn pc pa' pn' pc' its _ (h.below (by go_grown)) (h'.below (by go_grown)) hn hps).mono ?_;rintro e w1 ⟨rfl,ha⟩;replace ha:Below w.heap.size w w1:=Aa (by go_grown) ha;go_wp2;go_returns;exact⟨rfl,ha⟩
theorem hz_ (B B':Nat)(a:Option Addr)(n cap:Nat)(a':Option Addr)(n' cap':Nat)(l:List Vo)(w:World)(h:A0 B w a n l)(h':A0 B' w a' n' l)(hn:n<=4194304)(hps:∀ v∈l,v.its.length<=4194304∧∀ x∈v.its,x.ps.length<=4194304):
  Calls prog 36 #[.slice a n cap,.slice a' n' cap'] w fun e w'=>e=.returned (.bool true)∧Below w.heap.size w w':=by
 obtain rfl:n=n':=by rw[<-h.len,<-h'.len]
 have hb:((n:Int) != (n:Int))=false:=by simp
 go_enter func36,ntmps36
 go_wp2_with fail
 go_loopw [5] (fun ix wr=>∃ (k:Nat),k<=n∧ix=.int .i64 k∧Below w.heap.size w wr) (fun ix _=>n-(intOf ix).toNat)
 case atStart=>exact⟨0,Zg _,rfl,Yg _ _⟩
 case round=>
  obtain⟨k,hk,rfl,hB⟩:=hrel;by_cases hlt:k<n
  ·obtain⟨b,o,x,pa,pn,pc,rfl,hp,c0,c1,c2,c3,hP,_,_⟩:=b5_ (h.below hB) hlt;obtain⟨b',o',y,qa,qn,qc,rfl,hq,d0,d1,d2,d3,hQ,_,_⟩:=b5_ (h'.below hB) hlt;rw[hp] at hq;obtain rfl:=Zi hq;obtain⟨m1,m2⟩:=hps x (Zc hp);rw[hP.len] at m1;have hc:(k:Int)<n:=by omega
   have he:(0:Int)<=k:=by omega
   clear hp hq;have qq:=fun (u:World) (hu:Below wr.heap.size wr u)=>iq_ B B' x pa pn pc qa qn qc u (hP.below hu) (hQ.below hu) m1 m2
   go_wp2_with fail
   have g0:=Ad c0;have g1:=Ad c1;have g2:=Ad c2;have g3:=Ad c3;have e0:=Ad d0;have e1:=Ad d1;have e2:=Ad d2;have e3:=Ad d3;have hf:=aA_ wr;refine ab_ (by kernel_rfl) (by kernel_rfl) ?_
   repeat (go_big_quiet_step (first | (go_at_call 87;exact an_ (qq _ (Grw.h _)))))
   refine wpQuiet_nil ?_;intro w2 hx;have ha:=ah_ hx;clear hx;go_wp2;go_roundw
   case rel=>exact⟨k+1,by omega,by go_num,Aa hB ha⟩
   case measure=>simp[intOf];omega
  ·obtain rfl:k=n:=by omega
   go_wp2;go_returns;exact⟨rfl,hB⟩
end
section
open Go.ChangeShapes Go.WideShapes Go.ChangeAt Go.RowKit Go.Deep Tryz
variable{H:Type}{held:Bool}{cap n:Nat}{a:Option Addr}{w:World}
theorem Gm:laidOutB prog=true:=by kernel_rfl
theorem own:ownKnob prog.godebug=none:=by kernel_rfl
theorem Ci {a:Addr}{v:Value}(h:w.cell? (a.add n)=some v)(hn:n=0):∃ b o,a=⟨b,o,none⟩:=by
 subst hn;obtain⟨b,off,spot⟩:=a;have ha:spot=none:=by simpa[Addr.add] using World.cell?_spot h
 exact⟨b,off,by rw[ha]⟩
theorem FM:prog.cellsOf 299=3:=by kernel_rfl
theorem c2:prog.cellsOf 2=1:=by kernel_rfl
theorem n7_ {enc:TypeId×Value->H}{spare:Nat->Bool}{d:DataW H}{p:List MemPlace}
  (h:DataW.Trod enc prog w 0 spare held 242 (.slice a n cap) d p):n<=maxLen∧∃ l:List Pt,AE w a n l:=by
 obtain⟨fuel,hf⟩:=h;rcases open_slice underlying242 hf with⟨hb,_⟩ | ⟨ad,len,cap',m,n',D,Pl,hb,_,hl,hm,hn,_,hh⟩
 ·simp[Value.cells] at hb;obtain⟨rfl,rfl,rfl⟩:=hb;exact⟨Zg _,[],rfl,fun i x hx=>by simp at hx⟩
 ·simp[Value.cells] at hb;obtain⟨rfl,rfl,rfl⟩:=hb;have ho:n<=m:=by rw[hn];split<;>omega
  refine⟨Zl hl hm,?_⟩
  have he:∀ i,i<n->∃ q:Pt,∀ j v,q.cs[j]?=some v->w.cell? (ad.add (i*3+j))=some v:=by
   intro i hi;obtain⟨cs',h1,h2⟩:=hh i (by omega);rw[FM] at h1;obtain⟨_,hc,ha⟩:=World.cells?_some h1;obtain⟨y0,y1,y2,_,_,_,t0,t1,t2⟩:=trod_struct3 underlying299 h2;obtain⟨z0,e0,_,_⟩:=DataW.trod_int underlying2 t0;obtain⟨z1,e1,_,_⟩:=DataW.trod_int underlying2 t1;obtain⟨z2,e2,_,_⟩:=DataW.trod_int underlying2 t2
   match cs',hc with
   |[x0,x1,x2],_=>
    simp[c2] at e0 e1 e2;subst e0 e1 e2;refine⟨⟨z0,z1,z2⟩,fun j v hv=>?_⟩;have hj:j<3:=by have:=(Zb.1 hv).1;simpa[Pt.cs] using this
    have:=ha j hj
    rw[Addr.add_add] at this;rw[this];exact hv
  have hk:Inhabited Pt:=⟨⟨0,0,0⟩⟩;obtain⟨L,hL⟩:=choose_lt (α:=Pt) (p:=fun i q=>∀ j v,q.cs[j]?=some v->w.cell? (ad.add (i*3+j))=some v) he;refine⟨(List.range n).map L,by simp,fun i x hx=>?_⟩;have hi:i<n:=by have:=(Zb.1 hx).1;simpa using this
  simp[hi] at hx;subst hx;have hg:=hL 0 (by omega) 0 _ rfl;obtain⟨b,o,rfl⟩:=Ci hg rfl;exact⟨b,o,rfl,fun j v hv=>by have:=hL i hi j v hv;rw[Addr.add_lit] at this;rw[Nat.add_assoc];exact this⟩
theorem F6:prog.cellsOf 83=2:=by kernel_rfl
theorem c9:prog.cellsOf 9=1:=by kernel_rfl
theorem n8_ {enc:TypeId×Value->H}{spare:Nat->Bool}{d:DataW H}{p:List MemPlace}
  (h:DataW.Trod enc prog w 0 spare held 22 (.slice a n cap) d p):n<=maxLen∧∃ l:List Ex,A3 w a n l∧∀ e∈l,e.d.size<=maxLen:=by
 obtain⟨fuel,hf⟩:=h;rcases open_slice underlying22 hf with⟨hb,_⟩ | ⟨ad,len,cap',m,n',D,Pl,hb,_,hl,hm,ho,_,hk⟩
 ·simp[Value.cells] at hb;obtain⟨rfl,rfl,rfl⟩:=hb;exact⟨Zg _,[],⟨rfl,fun i x hx=>by simp at hx⟩,by simp⟩
 ·simp[Value.cells] at hb;obtain⟨rfl,rfl,rfl⟩:=hb;have hp:n<=m:=by rw[ho];split<;>omega
  refine⟨Zl hl hm,?_⟩
  have hg:∀ i,i<n->∃ q:Ex,q.d.size<=maxLen∧∀ j v,q.cs[j]?=some v->w.cell? (ad.add (i*2+j))=some v:=by
   intro i hi;obtain⟨cs',h1,h2⟩:=hk i (by omega);rw[F6] at h1;obtain⟨_,hc,ha⟩:=World.cells?_some h1;obtain⟨y0,y1,_,_,_,t0,t1⟩:=trod_struct2 underlying83 h2;obtain⟨z0,e0,_,_⟩:=DataW.trod_int underlying2 t0;obtain⟨z1,e1,_,hz⟩:=DataW.trod_string underlying9 t1
   match cs',hc with
   |[x0,x1],_=>
    simp[c2,c9] at e0 e1;subst e0 e1;refine⟨⟨z0,z1⟩,hz,fun j v hv=>?_⟩;have hj:j<2:=by have:=(Zb.1 hv).1;simpa[Ex.cs] using this
    have:=ha j hj
    rw[Addr.add_add] at this;rw[this];exact hv
  have hn:Inhabited Ex:=⟨⟨0,.empty⟩⟩;obtain⟨L,hL⟩:=choose_lt (α:=Ex) (p:=fun i q=>q.d.size<=maxLen∧∀ j v,q.cs[j]?=some v->w.cell? (ad.add (i*2+j))=some v) hg;refine⟨(List.range n).map L,⟨by simp,fun i x hx=>?_⟩,?_⟩
  ·have hi:i<n:=by have:=(Zb.1 hx).1;simpa using this
   simp[hi] at hx;subst hx;have hh:=(hL 0 (by omega)).2 0 _ rfl;obtain⟨b,o,rfl⟩:=Ci hh rfl;exact⟨b,o,rfl,fun j v hv=>by have:=(hL i hi).2 j v hv;rw[Addr.add_lit] at this;rw[Nat.add_assoc];exact this⟩
  ·intro e he;obtain⟨i,hi,rfl⟩:=ZT.1 he;exact (hL i (by simpa using hi)).1
end
section
open Go.ChangeShapes Go.WideShapes Go.ChangeAt Go.RowKit Go.Deep Go.BigFrame Tryz
theorem d3_ (a:Option Addr)(n cap:Nat)(l:List Ct)(w:World)(h:AM w a n l)(hn:n<=4194304):
  Calls prog 30 #[.slice a n cap] w fun e w'=>e=.returned (.slice (some ⟨w.heap.size,0,none⟩) n n)∧Bk Ct.cs 4 107 w' w.heap.size n l∧Below w.heap.size w w':=by
 have hc:Hid (l.length=n):=h.len;have hb:(prog.info? 107).map (fun i=>(i.zero,i.size,i.bytes))=some (some (.agg #[.int .i64 0,.int .i64 0,.string .empty,.int .i64 0]),4,40):=by kernel_rfl
 obtain⟨i0,hi,hj,hl,ho⟩:=info_parts hb
 have hs:∀ u:World,(Instr.makeSlice 33 (.int .i64 (n:Int)) (.int .i64 (n:Int))).run prog u =
   .ok (.slice (some ⟨u.heap.size,0,none⟩) n n) (u.alloc (.cells (madeCells #[.int .i64 0,.int .i64 0,.string .empty,.int .i64 0] (n*4)) 107)):=fun u=>by
  have hm:=run_make (P:=prog) u 33 107 i0 (.agg #[.int .i64 0,.int .i64 0,.string .empty,.int .i64 0]) underlying33 hi hj .i64 .i64 (n:Int) (n:Int) (by omega) (YB _) (by rw[ho];omega) (by omega);simpa[hl,Value.cells] using hm
 clear hb hi hj hl ho;go_enter func30,ntmps30
 go_wp2_with fail
 go_loopw [4] (fun ix wr=>∃ (k:Nat) (c:Array Value),k<=n∧ix=.int .i64 k∧Blk wr w.heap.size c 107∧Hid (c.size=n*4)∧Hid (∀ i p,i<k->l[i]?=some p->c[i*4]?=some (.int .i64 p.o.a)∧c[i*4+1]?=some (.int .i64 p.o.v)∧c[i*4+2]?=some (.string p.o.f)∧c[i*4+3]?=some (.int .i64 p.n))∧Below w.heap.size w wr) (fun ix _=>n-(intOf ix).toNat)
 case atStart=>exact⟨0,_,Zg _,rfl,Blk.new _ _ _,size_madeCells _ _,fun i p hi=>by omega,(Yg _ _).alloc (Zd _) _⟩
 case round=>
  obtain⟨k,c,hk,rfl,hf,he,hh,hB⟩:=hrel;by_cases hlt:k<n
  ·obtain⟨b,o,p,rfl,hp,c0,c1,c2,c3⟩:=aN_ (h.below hB) hlt;have ht:Hid (l[k]?=some p):=hp;clear hp hs
   go_wp2_with fail
   refine (hu_ p _).mono ?_;rintro e w1 ⟨rfl,hg⟩;have ha:=hf.below hg;have f0:=ha.frozen (k*4);have f1:=ha.frozen (k*4+1);have f2:=ha.frozen (k*4+2);have f3:=ha.frozen (k*4+3);have hu:=hB.size;obtain⟨v0,y0⟩:=ha.has (i:=k*4) (by rw[he.out];omega);obtain⟨v1,y1⟩:=ha.has (i:=k*4+1) (by rw[he.out];omega);obtain⟨v2,y2⟩:=ha.has (i:=k*4+2) (by rw[he.out];omega);obtain⟨v3,y3⟩:=ha.has (i:=k*4+3) (by rw[he.out];omega);go_wp2;go_roundw
   case rel=>
    refine⟨k+1,_,by omega,by go_num,(((ha.set _ _).set _ _).set _ _).set _ _,by show _=_;simp[he.out],?_,?_⟩
    ·intro i q hi hq;have hr:=he.out;by_cases hik:i=k
     ·subst hik;obtain rfl:p=q:=by rw[ht.out] at hq;exact Zi hq
      refine⟨?_,?_,?_,?_⟩
      all_goals (simp[Yn];omega)
     ·obtain⟨r0,r1,r2,r3⟩:=hh.out i q (by omega) hq;refine⟨?_,?_,?_,?_⟩
      all_goals (rw[Za (by omega),Za (by omega),Za (by omega),Za (by omega)];assumption)
    ·exact ((((Aa hB hg).setCell (by simp) _).setCell (by simp) _).setCell (by simp) _).setCell (by simp) _
   case measure=>simp[intOf];omega
  ·obtain rfl:k=n:=by omega
   go_wp2;go_returns;go_light;refine⟨rfl,⟨hc.out,c,hf,Zm he.out.symm,?_⟩,hB⟩;intro i x hx j v hv;have hi:i<k:=by have:=(Zb.1 hx).1;rw[hc.out] at this;exact this
   obtain⟨r0,r1,r2,r3⟩:=hh.out i x hi hx
   match j,hv with
   |0,hv=>obtain rfl:=Zi hv;exact r0
   |1,hv=>obtain rfl:=Zi hv;exact r1
   |2,hv=>obtain rfl:=Zi hv;exact r2
   |3,hv=>obtain rfl:=Zi hv;exact r3
   |j+4,hv=>simp[Ct.cs] at hv
theorem GV:prog.cellsOf 92=4:=by kernel_rfl
theorem G5:prog.cellsOf 90=3:=by kernel_rfl
theorem j9_ {H:Type}{enc:TypeId×Value->H}{w:World}{spare:Nat->Bool}{held:Bool}{a:Option Addr}{n cap:Nat}{d:DataW H}{p:List MemPlace}
  (h:DataW.Trod enc prog w 0 spare held 24 (.slice a n cap) d p):n<=maxLen∧∃ l:List Ct,AM w a n l∧∀ e∈l,e.o.f.size<=maxLen:=by
 obtain⟨fuel,hf⟩:=h;rcases open_slice underlying24 hf with⟨hb,_⟩ | ⟨ad,len,cap',m,n',D,Pl,hb,_,hl,hm,ho,_,hk⟩
 ·simp[Value.cells] at hb;obtain⟨rfl,rfl,rfl⟩:=hb;exact⟨Zg _,[],⟨rfl,fun i x hx=>by simp at hx⟩,by simp⟩
 ·simp[Value.cells] at hb;obtain⟨rfl,rfl,rfl⟩:=hb;have hp:n<=m:=by rw[ho];split<;>omega
  refine⟨Zl hl hm,?_⟩
  have hg:∀ i,i<n->∃ q:Ct,q.o.f.size<=maxLen∧∀ j v,q.cs[j]?=some v->w.cell? (ad.add (i*4+j))=some v:=by
   intro i hi;obtain⟨cs',h1,h2⟩:=hk i (by omega);rw[GV] at h1;obtain⟨_,hc,ha⟩:=World.cells?_some h1;obtain⟨y0,y1,_,_,_,t0,t1⟩:=trod_struct2 underlying92 h2;obtain⟨z0,e0,_,_⟩:=DataW.trod_int underlying2 t1;obtain⟨u0,u1,u2,_,_,_,s0,s1,s2⟩:=trod_struct3 underlying90 t0;obtain⟨z1,e1,_,_⟩:=DataW.trod_int underlying2 s0;obtain⟨z2,e2,_,_⟩:=DataW.trod_int underlying2 s1;obtain⟨z3,e3,_,hz⟩:=DataW.trod_string underlying9 s2
   match cs',hc with
   |[x0,x1,x2,x3],_=>
    simp[c2,c9,G5] at e0 e1 e2 e3;subst e0 e1 e2 e3;refine⟨⟨⟨z1,z2,z3⟩,z0⟩,hz,fun j v hv=>?_⟩;have hj:j<4:=by have:=(Zb.1 hv).1;simpa[Ct.cs] using this
    have:=ha j hj
    rw[Addr.add_add] at this;rw[this];exact hv
  have hn:Inhabited Ct:=⟨⟨⟨0,0,.empty⟩,0⟩⟩;obtain⟨L,hL⟩:=choose_lt (α:=Ct) (p:=fun i q=>q.o.f.size<=maxLen∧∀ j v,q.cs[j]?=some v->w.cell? (ad.add (i*4+j))=some v) hg;refine⟨(List.range n).map L,⟨by simp,fun i x hx=>?_⟩,?_⟩
  ·have hi:i<n:=by have:=(Zb.1 hx).1;simpa using this
   simp[hi] at hx;subst hx;have hh:=(hL 0 (by omega)).2 0 _ rfl;obtain⟨b,o,rfl⟩:=Ci hh rfl;exact⟨b,o,rfl,fun j v hv=>by have:=(hL i hi).2 j v hv;rw[Addr.add_lit] at this;rw[Nat.add_assoc];exact this⟩
  ·intro e he;obtain⟨i,hi,rfl⟩:=ZT.1 he;exact (hL i (by simpa using hi)).1
end
section
open Go Go.RowKit Go.BigFrame Tryz
variable{α:Type}{l:List Vo}{B b i n:Nat}{a:Option Addr}{p:Po}{v:Value}{w w':World}{x:α}
theorem A0.grown {r:Nat}(h:A0 B w a n l)(hg:w.grownBy w' (some r))(hr:r<B):A0 B w' a n l:=
 ⟨h.len,fun i x hx=>by
  obtain⟨b,o,pa,pn,pc,ha,c0,c1,c2,c3,hp,hh,hB,s2⟩:=h.cell i x hx;exact⟨b,o,pa,pn,pc,ha,hg.cell c0 (by simp;omega),hg.cell c1 (by simp;omega),hg.cell c2 (by simp;omega),hg.cell c3 (by simp;omega),hp.grown hg hr,hh,hB,s2.grown hg hr⟩⟩
def AA (B:Nat)(w:World)(v:Value)(p:Po):Prop:=
 ∃ ea en ec va vn vc ra rn rc la ln lc,v=.agg #[.int .i64 p.size,.int .i64 p.next,.slice ea en ec,.slice va vn vc,.slice ra rn rc,.slice la ln lc]∧
  (A3 w ea en p.ex∧Hd B ea en ec∧Sf B w ea)∧(A0 B w va vn p.vs∧Hd B va vn vc)∧(AM w ra rn p.rf∧Hd B ra rn rc∧Sf B w ra)∧(AM w la ln p.lt∧Hd B la ln lc∧Sf B w la)
theorem AA.below (h:AA B w v p)(hb:Below w.heap.size w w'):AA B w' v p:=by
 obtain⟨ea,en,ec,va,vn,vc,ra,rn,rc,la,ln,lc,hv,⟨h1,k1⟩,⟨h2,k2⟩,⟨h3,k3⟩,h4,k4⟩:=h;exact⟨ea,en,ec,va,vn,vc,ra,rn,rc,la,ln,lc,hv,⟨h1.below hb,k1.1,k1.2.below hb⟩,⟨h2.below hb,k2⟩,⟨h3.below hb,k3.1,k3.2.below hb⟩,h4.below hb,k4.1,k4.2.below hb⟩
theorem AA.mono {B':Nat}(h:AA B w v p)(hb:B'<=B):AA B' w v p:=by
 obtain⟨ea,en,ec,va,vn,vc,ra,rn,rc,la,ln,lc,hv,⟨h1,k1⟩,⟨h2,k2⟩,⟨h3,k3⟩,h4,k4⟩:=h;exact⟨ea,en,ec,va,vn,vc,ra,rn,rc,la,ln,lc,hv,⟨h1,k1.1.mono hb,k1.2.mono hb⟩,⟨h2.mono hb,k2.mono hb⟩,⟨h3,k3.1.mono hb,k3.2.mono hb⟩,h4,k4.1.mono hb,k4.2.mono hb⟩
def Gc (p:Po):Prop:=p.ex.length<=9223372036854775807∧BE p.ex∧p.vs.length<=9223372036854775807∧GL p.vs∧p.rf.length<=9223372036854775807∧Bp p.rf∧p.lt.length<=9223372036854775807∧Bp p.lt
def BZ (p:Po):Prop:=EO p.ex.length p.ex∧Fn p.vs.length p.vs∧Dt p.rf.length p.rf∧Dt p.lt.length p.lt
end
end Go.Proofs.YtbbhcnjhohidnaaGreatDoor
