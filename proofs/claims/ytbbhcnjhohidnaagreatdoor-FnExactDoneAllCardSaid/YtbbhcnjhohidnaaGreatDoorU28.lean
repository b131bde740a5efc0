/- Files that are not there, and copies that are refused, by the model. -/
import Derived.Deep.DeepCutAuto
import Derived.Test.YtbbhcnjhohidnaaGreatDoorU27
set_option maxHeartbeats 20000000
set_option maxRecDepth 100000
namespace Go.Proofs.YtbbhcnjhohidnaaGreatDoor
section
open Go Go.RowKit
variable{o:Opr}{p:Po}
theorem qc_ (hp:Aj p=true)(hd:Ax p)(hv0:o.vol.size<=9223372036854775807)(ht0:o.to.size<=9223372036854775807):WS (Aw p o).2.vs:=by
 obtain⟨_,_,ht,_⟩:=aQ_ hp;have hv:=mW_ ht hd.2.2.2.1;have h6:=ht.1;have ha:WS p.vs:=iY_ (by omega) (fun v h=>(hv v h).1)
 have he:∀ (i:Nat) (y:Vo),Gr y->WS (p.vs.set i y):=fun i y hy=>iY_ (by rw[List.length_set];omega) (fun u hu=>by
  rcases List.mem_or_eq_of_mem_set hu with hu | rfl
  ·exact (hv u hu).1
  ·exact hy)
 have hc:∀ y:Vo,Gr y->WS (p.vs++[y]):=fun y hy=>iY_ (by simp;omega) (fun u hu=>by
  rcases Zs.1 hu with hu | hu
  ·exact (hv u hu).1
  ·simp at hu;subst hu;exact hy)
 unfold Aw;split
 ·split
  ·exact hc _ ⟨hv0,by simp,fun x hx=>by cases hx⟩
  ·exact ha
 ·split
  ·exact ha
  ·rename_i i _ v hvi;have hb:=(hv v (Zc hvi)).1;split
   ·exact ha
   ·split
    ·split
     ·exact ha
     ·exact hc _ ⟨ht0,hb.2.1,hb.2.2⟩
    ·split
     ·refine iY_ (by simp;omega) (fun u hu=>?_);rcases Zs.1 hu with hu | hu
      ·exact (hv u (ZX hu)).1
      ·exact (hv u (List.mem_of_mem_drop hu)).1
     ·split
      ·split
       ·exact ha
       ·exact he _ _ ⟨hb.1,hb.2.1,hb.2.2⟩
      ·split
       ·split
        ·exact ha
        ·split
         ·exact ha
         ·refine he _ _ ⟨hb.1,?_,fun x hx=>?_⟩
          ·have:=hb.2.1
           simp only[ZE,Zz,List.length_drop];omega
          ·rcases Zs.1 hx with hx | hx
           ·exact hb.2.2 x (ZX hx)
           ·exact hb.2.2 x (List.mem_of_mem_drop hx)
       ·exact ha
end
section
open Go.ChangeShapes Go.WideShapes Go.ChangeAt Go.RowKit Go.Deep Tryz
variable{H α:Type}{held:Bool}{cap n:Nat}{a:Option Addr}{w:World}
theorem b9_ {enc:TypeId×Value->H}{P:Program}{spare:Nat->Bool}{t e:TypeId}{fuel:Nat}{x:Value}{y:DataW H×List MemPlace}(ht:P.underlying t=some (.slice e))(h:DataW.trod enc P w 0 spare held fuel t [x]=some y):
  ∃ a n cap,x=.slice a n cap∧n<=cap∧cap<=9223372036854775807:=by
 rcases open_slice ht h with⟨ha,_⟩ | ⟨ad,len,cap',m,n',D,Pl,ha,_,hl,hm,_⟩
 ·exact⟨none,0,0,by simpa using ha,by omega,by omega⟩
 ·exact⟨some ad,len,cap',by simpa using ha,hl,by unfold maxLen at hm;omega⟩
theorem GZ:prog.cellsOf 244=2:=by kernel_rfl
theorem GY:prog.cellsOf 87=4:=by kernel_rfl
theorem cP:prog.cellsOf 242=1:=by kernel_rfl
theorem cI:prog.cellsOf 85=1:=by kernel_rfl
theorem c4b:prog.cellsOf 4=1:=by kernel_rfl
def Fx (w:World)(ad:Addr)(i:Nat)(q:It):Prop:=
 ∃ pa pn pc,w.cell? (ad.add (i*2))=some (.string q.nm)∧w.cell? (ad.add (i*2+1))=some (.slice pa pn pc)∧AE w pa pn q.ps∧pn<=pc∧pc<=9223372036854775807∧q.nm.size<=9223372036854775807
theorem oO_ {enc:TypeId×Value->H}{spare:Nat->Bool}{d:DataW H}{p:List MemPlace}
  (h:DataW.Trod enc prog w 0 spare held 85 (.slice a n cap) d p):n<=9223372036854775807∧∃ l:List It,AJ 0 w a n l∧FS l:=by
 obtain⟨fuel,hf⟩:=h;rcases open_slice underlying85 hf with⟨hb,_⟩ | ⟨ad,len,cap',m,n',D,Pl,hb,_,hl,hm,hn,_,hh⟩
 ·simp[Value.cells] at hb;obtain⟨rfl,rfl,rfl⟩:=hb;exact⟨Zg _,[],⟨rfl,fun i x hx=>by simp at hx⟩,fun x hx=>by simp at hx⟩
 ·simp[Value.cells] at hb;obtain⟨rfl,rfl,rfl⟩:=hb;have hq:n<=m:=by rw[hn];split<;>omega
  refine⟨by unfold maxLen at hm;omega,?_⟩
  have he:∀ i,i<n->∃ q:It,Fx w ad i q:=by
   intro i hi;obtain⟨cs',h1,h2⟩:=hh i (by omega);rw[GZ] at h1;obtain⟨_,hc,ha⟩:=World.cells?_some h1;obtain⟨y0,y1,_,_,_,t0,t1⟩:=trod_struct2 underlying244 h2;obtain⟨z0,e0,_,hz⟩:=DataW.trod_string underlying9 t0
   match cs',hc with
   |[x0,x1],_=>
    simp[c9,cP] at e0 t1;subst e0;obtain⟨pa,pn,pc,rfl,ho,hp⟩:=b9_ underlying242 t1;obtain⟨_,l,hk⟩:=n7_ (d:=y1.1) (p:=y1.2) ⟨_,t1⟩;have q0:=ha 0 (by omega);have q1:=ha 1 (by omega);rw[Addr.add_add] at q0 q1;exact⟨⟨z0,l⟩,pa,pn,pc,q0,q1,hk,ho,hp,by unfold maxLen at hz;exact hz⟩
  have hj:Inhabited It:=⟨⟨.empty,[]⟩⟩;obtain⟨L,hL⟩:=choose_lt (α:=It) (p:=fun i q=>Fx w ad i q) he;refine⟨(List.range n).map L,⟨by simp,fun i x hx=>?_⟩,fun x hx=>?_⟩
  ·have hi:i<n:=by have:=(Zb.1 hx).1;simpa using this
   simp[hi] at hx;subst hx;obtain⟨_,_,_,hg,_⟩:=hL 0 (by omega);obtain⟨b,o,rfl⟩:=Ci hg (by omega);obtain⟨pa,pn,pc,c0,c1,r1,r2,r3,_⟩:=hL i hi;rw[Addr.add_lit] at c0 c1;exact⟨b,o,pa,pn,pc,rfl,c0,by rw[Nat.add_assoc];exact c1,r1,⟨r2,r3,fun h0=>by omega⟩,Zg _,fun _ _=>Zg _,eO_,eO_⟩
  ·obtain⟨i,hi,rfl⟩:=ZT.1 hx;obtain⟨pa,pn,pc,c0,c1,r1,r2,r3,r4⟩:=hL i (by simpa using hi);exact⟨r4,by rw[r1.len];omega⟩
def Fv (w:World)(ad:Addr)(i:Nat)(q:Vo):Prop:=
 ∃ pa pn pc,w.cell? (ad.add (i*4))=some (.int .i64 q.id)∧w.cell? (ad.add (i*4+1))=some (.string q.nm)∧w.cell? (ad.add (i*4+2))=some (.bool q.fx)∧w.cell? (ad.add (i*4+3))=some (.slice pa pn pc)∧AJ 0 w pa pn q.its∧pn<=pc∧pc<=9223372036854775807∧q.nm.size<=9223372036854775807∧FS q.its
theorem pN_ {enc:TypeId×Value->H}{spare:Nat->Bool}{d:DataW H}{p:List MemPlace}
  (h:DataW.Trod enc prog w 0 spare held 23 (.slice a n cap) d p):n<=9223372036854775807∧∃ l:List Vo,A0 0 w a n l∧GL l:=by
 obtain⟨fuel,hf⟩:=h;rcases open_slice underlying23 hf with⟨hb,_⟩ | ⟨ad,len,cap',m,n',D,Pl,hb,_,hl,hm,ho,_,hj⟩
 ·simp[Value.cells] at hb;obtain⟨rfl,rfl,rfl⟩:=hb;exact⟨Zg _,[],⟨rfl,fun i x hx=>by simp at hx⟩,fun x hx=>by simp at hx⟩
 ·simp[Value.cells] at hb;obtain⟨rfl,rfl,rfl⟩:=hb;have hr:n<=m:=by rw[ho];split<;>omega
  refine⟨by unfold maxLen at hm;omega,?_⟩
  have he:∀ i,i<n->∃ q:Vo,Fv w ad i q:=by
   intro i hi;obtain⟨cs',h1,h2⟩:=hj i (by omega);rw[GY] at h1;obtain⟨_,hc,ha⟩:=World.cells?_some h1;obtain⟨y0,y1,y2,y3,_,_,_,t0,t1,t2,t3⟩:=Go.Joins.trod_struct4 underlying87 h2;obtain⟨z0,e0,_,_⟩:=DataW.trod_int underlying2 t0;obtain⟨z1,e1,_,hz⟩:=DataW.trod_string underlying9 t1;obtain⟨z2,e2,_⟩:=DataW.trod_bool underlying4 t2
   match cs',hc with
   |[x0,x1,x2,x3],_=>
    simp[c2,c9,cI,c4b] at e0 e1 e2 t3;subst e0 e1 e2;obtain⟨pa,pn,pc,rfl,hp,hq⟩:=b9_ underlying85 t3;obtain⟨_,l,hn,hh⟩:=oO_ (d:=y3.1) (p:=y3.2) ⟨_,t3⟩;have q0:=ha 0 (by omega);have q1:=ha 1 (by omega);have q2:=ha 2 (by omega);have q3:=ha 3 (by omega);rw[Addr.add_add] at q0 q1 q2 q3;exact⟨⟨z0,z1,z2,l⟩,pa,pn,pc,q0,q1,q2,q3,hn,hp,hq,by unfold maxLen at hz;exact hz,hh⟩
  have hk:Inhabited Vo:=⟨⟨0,.empty,false,[]⟩⟩;obtain⟨L,hL⟩:=choose_lt (α:=Vo) (p:=fun i q=>Fv w ad i q) he;refine⟨(List.range n).map L,⟨by simp,fun i x hx=>?_⟩,fun x hx=>?_⟩
  ·have hi:i<n:=by have:=(Zb.1 hx).1;simpa using this
   simp[hi] at hx;subst hx;obtain⟨_,_,_,hg,_⟩:=hL 0 (by omega);obtain⟨b,o,rfl⟩:=Ci hg (by omega);obtain⟨pa,pn,pc,c0,c1,c2,c3,r1,r2,r3,_⟩:=hL i hi;rw[Addr.add_lit] at c0 c1 c2 c3;exact⟨b,o,pa,pn,pc,rfl,c0,by rw[Nat.add_assoc];exact c1,by rw[Nat.add_assoc];exact c2,by rw[Nat.add_assoc];exact c3,r1,⟨r2,r3,fun h0=>by omega⟩,Zg _,eO_⟩
  ·obtain⟨i,hi,rfl⟩:=ZT.1 hx;obtain⟨pa,pn,pc,c0,c1,c2,c3,r1,r2,r3,r4,r5⟩:=hL i (by simpa using hi);exact⟨r4,by rw[r1.len];omega,r5⟩
theorem GP {cs:Array α}(h:cs.size=6):∃ c0 c1 c2 c3 c4 c5,cs=#[c0,c1,c2,c3,c4,c5]:=by
 obtain⟨l⟩:=cs
 match l,h with
 |[c0,c1,c2,c3,c4,c5],_=>exact⟨c0,c1,c2,c3,c4,c5,rfl⟩
theorem nH_ {enc:TypeId×Value->H}{W:World}{r:Reach}{b0:Nat}{spare:Nat->Bool}{v:Value}{d:DataW H}{p:List MemPlace}
  (hv:Value.okWide prog W r b0 26 v)(h:DataW.Trod enc prog W 0 spare held 26 v d p):
  ∃ q:Po,AA 0 W v q∧Gc q:=by
 have hc:prog.cellsOf 26=6:=by kernel_rfl
 have hg:prog.cellsOf 22=1:=by kernel_rfl
 have hh:prog.cellsOf 23=1:=by kernel_rfl
 have hb:prog.cellsOf 24=1:=by kernel_rfl
 obtain⟨cs,rfl,hj⟩:=okWide_struct underlying26 hv;obtain⟨c0,c1,c2',c3,c4,c5,rfl⟩:=GP (hj.trans hc);obtain⟨fuel,hf⟩:=h;obtain⟨xs,n,_,_,_,ha,hx⟩:=DataW.trod_struct underlying26 hf;have len6:xs.length=6:=ha
 have q0:DataW.trod enc prog W 0 spare held n 2 [c0]=some (xs[0]'(by omega)):=by
  have:=hx 0 _ rfl
  rw[ZI (by omega)] at this;simpa[Value.cells,c2] using this
 have q1:DataW.trod enc prog W 0 spare held n 2 [c1]=some (xs[1]'(by omega)):=by
  have:=hx 1 _ rfl
  rw[ZI (by omega)] at this;simpa[Value.cells,c2] using this
 have q2:DataW.trod enc prog W 0 spare held n 22 [c2']=some (xs[2]'(by omega)):=by
  have:=hx 2 _ rfl
  rw[ZI (by omega)] at this;simpa[Value.cells,hg] using this
 have q3:DataW.trod enc prog W 0 spare held n 23 [c3]=some (xs[3]'(by omega)):=by
  have:=hx 3 _ rfl
  rw[ZI (by omega)] at this;simpa[Value.cells,hh] using this
 have q4:DataW.trod enc prog W 0 spare held n 24 [c4]=some (xs[4]'(by omega)):=by
  have:=hx 4 _ rfl
  rw[ZI (by omega)] at this;simpa[Value.cells,hb] using this
 have q5:DataW.trod enc prog W 0 spare held n 24 [c5]=some (xs[5]'(by omega)):=by
  have:=hx 5 _ rfl
  rw[ZI (by omega)] at this;simpa[Value.cells,hb] using this
 obtain⟨n0,e0,_,_⟩:=DataW.trod_int underlying2 q0;obtain⟨n1,e1,_,_⟩:=DataW.trod_int underlying2 q1;simp at e0 e1;subst e0 e1;obtain⟨ea,en,ec,rfl,k1,k1'⟩:=b9_ underlying22 q2;obtain⟨va,vn,vc,rfl,k2,k2'⟩:=b9_ underlying23 q3;obtain⟨ra,rn,rc,rfl,k3,k3'⟩:=b9_ underlying24 q4;obtain⟨la,ln,lc,rfl,k4,k4'⟩:=b9_ underlying24 q5;obtain⟨_,ex,h1,s1⟩:=n8_ (d:=(xs[2]'(by omega)).1) (p:=(xs[2]'(by omega)).2) ⟨_,q2⟩;obtain⟨_,vs,h2,s2⟩:=pN_ (d:=(xs[3]'(by omega)).1) (p:=(xs[3]'(by omega)).2) ⟨_,q3⟩;obtain⟨_,rf,h3,s3⟩:=j9_ (d:=(xs[4]'(by omega)).1) (p:=(xs[4]'(by omega)).2) ⟨_,q4⟩;obtain⟨_,lt,h4,s4⟩:=j9_ (d:=(xs[5]'(by omega)).1) (p:=(xs[5]'(by omega)).2) ⟨_,q5⟩;unfold maxLen at s1 s3 s4;refine⟨⟨n0,n1,ex,vs,rf,lt⟩,⟨ea,en,ec,va,vn,vc,ra,rn,rc,la,ln,lc,rfl,⟨h1,⟨k1,k1',fun h0=>by omega⟩,eO_⟩,⟨h2,k2,k2',fun h0=>by omega⟩,⟨h3,⟨k3,k3',fun h0=>by omega⟩,eO_⟩,h4,⟨k4,k4',fun h0=>by omega⟩,eO_⟩,?_⟩;exact⟨by show ex.length<=_;rw[h1.len];omega,fun e he=>by have:=s1 e he;omega,by show vs.length<=_;rw[h2.len];omega,s2,by show rf.length<=_;rw[h3.len];omega,fun e he=>by have:=s3 e he;omega,by show lt.length<=_;rw[h4.len];omega,fun e he=>by have:=s4 e he;omega⟩
end
section
open Go Go.RowKit Go.BigFrame Tryz
variable{p:Po}{w:World}
theorem BZ.dim (h:BZ p):Ax p:=by
 obtain⟨h1,h2,h3,h4⟩:=h;refine⟨by have:=h1.1;omega,h1.strs,by have:=h2.1;omega,fun v hv=>?_,by have:=h3.1;omega,h3.strs,by have:=h4.1;omega,h4.strs⟩;obtain⟨a1,a2,a3⟩:=h2.2 v hv;exact⟨by omega,by omega,fun x hx=>by have:=a3 x hx;omega⟩
theorem AA.cells {B:Nat}{v:Value}(h:AA B w v p):∃ ea en ec va vn vc ra rn rc la ln lc,v=.agg #[.int .i64 p.size,.int .i64 p.next,.slice ea en ec,.slice va vn vc,.slice ra rn rc,.slice la ln lc]:=by
 obtain⟨ea,en,ec,va,vn,vc,ra,rn,rc,la,ln,lc,rfl,_⟩:=h;exact⟨_,_,_,_,_,_,_,_,_,_,_,_,rfl⟩
theorem Blk.six {b:Nat}{c0 c1 c2 c3 c4 c5:Value}{t:TypeId}(h:Blk w b #[c0,c1,c2,c3,c4,c5] t):w.cell? ⟨b,0,none⟩=some c0∧w.cell? ⟨b,1,none⟩=some c1∧w.cell? ⟨b,2,none⟩=some c2∧w.cell? ⟨b,3,none⟩=some c3∧w.cell? ⟨b,4,none⟩=some c4∧w.cell? ⟨b,5,none⟩=some c5:=
 ⟨h.cell 0,h.cell 1,h.cell 2,h.cell 3,h.cell 4,h.cell 5⟩
def EX (k:Nat)(o:ByteArray):ByteArray:=if k=0 then o else EX (k / 10) (strOfNums [48+(k:Int) % 10]++o)
 termination_by k
 decreasing_by omega
def Bf (k:Nat):ByteArray:=ByteArray.mk #[109]++EX k .empty
theorem kX_ (a b:ByteArray):(a++b).size=a.size+b.size:=ByteArray.size_append
theorem ix_ (k:Nat)(w:World)(h1:1<=k)(h2:k<=100000000):
  Calls prog 47 #[.int .i64 k] w fun e w'=>e=.returned (.string (Bf k))∧Below w.heap.size w w':=by
 have hb:∀ (u:World) (x:Int),(convert 150 9 (.slice (some ⟨u.heap.size,0,none⟩) 1 1)).run prog (u.alloc (.cells #[.int .u8 x] 5))=.ok (.string (strOfNums [x])) (u.alloc (.cells #[.int .u8 x] 5)):=fun u x=>
  run_convert_bytes_arg (P:=prog) _ 150 5 underlying150 underlying5 u.heap.size 0 1 1 [x] rfl (fun i hi=>(by obtain rfl:i=0:=(by omega);simp)) 9 underlying9
 go_enter func47,ntmps47
 go_wp2_with fail
 go_loopw [0,3] (fun kk out wr=>∃ (j:Nat) (o:ByteArray),kk=.int .i64 j∧out=.string o∧j<=100000000∧Hid (∃ m,j<10 ^ m∧o.size+m<=9)∧Hid (EX k .empty=EX j o)∧Below w.heap.size w wr) (fun kk _ _=>(intOf kk).toNat)
 case atStart=>exact⟨k,.empty,rfl,rfl,h2,⟨9,by omega,by decide⟩,rfl,Yg _ _⟩
 case round=>
  obtain⟨j,o,rfl,rfl,hj,hm,hI,hB⟩:=hrel;have ho:o.size<=9:=by obtain⟨m,_,h⟩:=hm.out;omega
  by_cases hlt:0<j
  ·have ha:¬ 9223372036854775807<(strOfNums [48+(j:Int) % 10]).size+o.size:=by rw[strOfNums_size];simp;omega
   go_wp2;go_roundw
   case rel=>
    refine⟨j / 10,_,by go_num,rfl,by omega,?_,?_,hB.alloc hB.size _⟩
    ·obtain⟨m,h3,h4⟩:=hm.out
     cases m with
     |zero=>simp at h3;omega
     |succ m=>exact⟨m,by rw[Nat.pow_succ] at h3;omega,by rw[kX_,strOfNums_size];simp;omega⟩
    ·show _=_;rw[hI.out,EX,if_neg (by omega)]
   case measure=>simp[intOf];omega
  ·obtain rfl:j=0:=by omega
   have ha:¬ 9223372036854775807<(ByteArray.mk #[109]).size+o.size:=by show ¬ _<1+_;omega
   go_wp2;go_returns;go_light;refine⟨?_,hB⟩;unfold Bf;rw[hI.out,EX,if_pos rfl];rfl
end
section
open Go Go.RowKit Go.BigFrame Tryz
variable{α:Type}{c:Array Value}{d:ByteArray}{B T b j n:Nat}{a:Option Addr}{p:Po}{v x:Value}{w w' w0 w1 w2:World}{l:List α}
def Dc:Value->Value->Prop
 |.slice a n c,v'=>v'=.slice a n c
 |.int k _,v'=>∃ y,v'=.int k y
 |.string _,v'=>∃ s,v'=.string s
 |.bool _,v'=>∃ b,v'=.bool b
 |_,_=>True
theorem Dc.refl (v:Value):Dc v v:=by cases v<;>simp[Dc]
structure Kp (B:Nat)(w0 w1:World):Prop where
 size:w0.heap.size<=w1.heap.size
 blk:∀ b c t,B<=b->Blk w0 b c t->∃ c',Blk w1 b c' t∧∀ (i:Nat) (v:Value),c[i]?=some v->∃ v',c'[i]?=some v'∧Dc v v'
structure Fr (B T:Nat)(w w':World):Prop where
 size:w.heap.size<=w'.heap.size
 blk:∀ b,b<w.heap.size->(b<B∨T<=b)->w'.heap[b]?=w.heap[b]?
 os:w'.os=w.os
 tape:w'.tape=w.tape
 output:w'.output=w.output
theorem Kp.of_below (h:Below w0.heap.size w0 w1):Kp B w0 w1:=⟨h.size,fun _ c _ _ hb=>⟨c,hb.below h,fun _ v hv=>⟨v,hv,Dc.refl v⟩⟩⟩
theorem Kp.below (h:Kp B w0 w1)(hb:Below w1.heap.size w1 w2):Kp B w0 w2:=⟨Zl h.size hb.size,fun b c t h0 h1=>by
 obtain⟨c',h2,h3⟩:=h.blk b c t h0 h1;exact⟨c',h2.below hb,h3⟩⟩
theorem Kp.set {t:TypeId}(h:Kp B w0 w1)(hb:Blk w0 b c t)(hv:w0.cell? ⟨b,j,none⟩=some v)(hk:Dc v x):Kp B w0 (w1.setCell ⟨b,j,none⟩ x):=
 ⟨by simpa using h.size,fun b' c' t' h0 h1=>by
  obtain⟨d,h2,h3⟩:=h.blk b' c' t' h0 h1;by_cases e:b'=b
  ·subst e;refine⟨_,h2.set j x,fun i u hu=>?_⟩;obtain⟨u',ha,he⟩:=h3 i u hu;by_cases ei:j=i
   ·subst ei;have hc:j<d.size:=(ZG.1 ha).1;refine⟨x,by simp[hc],?_⟩
    have:w0.cell? ⟨b',j,none⟩=some u:=by rw[h1.cell];exact hu
    rw[hv] at this;obtain rfl:=Zi this;exact hk
   ·exact⟨u',by rw[Za ei];exact ha,he⟩
  ·exact⟨d,h2.other ⟨b,j,none⟩ x e,h3⟩⟩
theorem Kp.at {o:Nat}(h:Kp B w0 w1)(hB:0<B)(sf:Sf B w0 (some ⟨b,o,none⟩))(hv:w0.cell? ⟨b,j,none⟩=some v):
  (∃ c t,Blk w0 b c t)∧B<=b∧b<w0.heap.size∧w1.frozen? ⟨b,j,none⟩=false∧∃ v',w1.cell? ⟨b,j,none⟩=some v'∧Dc v v':=by
 obtain⟨h1,c,t,h2⟩:=sf hB _ rfl;obtain⟨c',h3,h4⟩:=h.blk b c t h1 h2;rw[h2.cell] at hv;obtain⟨v',h5,h6⟩:=h4 j v hv;exact⟨⟨c,t,h2⟩,h1,h2.lt,h3.frozen j,v',by rw[h3.cell];exact h5,h6⟩
theorem Fr.refl (B T:Nat)(w:World):Fr B T w w:=⟨Zd _,fun _ _ _=>rfl,rfl,rfl,rfl⟩
theorem Fr.below (h:Fr B T w w1)(hb:Below w1.heap.size w1 w2):Fr B T w w2:=⟨Zl h.size hb.size,fun b h0 h1=>by
 rw[hb.block b (Zy h0 h.size),h.blk b h0 h1],by rw[hb.os,h.os],by rw[hb.tape,h.tape],by rw[hb.output,h.output]⟩
theorem Fr.trans (h:Fr B T w w1)(h':Fr B T w1 w2):Fr B T w w2:=⟨Zl h.size h'.size,fun b h0 h1=>by
 rw[h'.blk b (Zy h0 h.size) h1,h.blk b h0 h1],by rw[h'.os,h.os],by rw[h'.tape,h.tape],by rw[h'.output,h.output]⟩
theorem Fr.set (h:Fr B T w w1)(hB:B<=b)(hT:b<T):Fr B T w (w1.setCell ⟨b,j,none⟩ x):=
 ⟨by simpa using h.size,fun b' h0 h1=>by rw[Below.heap_setCell _ _ _ _ (by show b'≠b;omega)];exact h.blk b' h0 h1,h.os,h.tape,h.output⟩
theorem b3_ (kz:Int)(w:World)(h1:1<=kz)(h2:kz<=4611686018427387904):
  Calls prog 47 #[.int .i64 kz] w fun e w'=>(∃ s,e=.returned (.string s))∧Below w.heap.size w w':=by
 have hb:∀ (u:World) (x:Int),(convert 150 9 (.slice (some ⟨u.heap.size,0,none⟩) 1 1)).run prog (u.alloc (.cells #[.int .u8 x] 5))=.ok (.string (strOfNums [x])) (u.alloc (.cells #[.int .u8 x] 5)):=fun u x=>
  run_convert_bytes_arg (P:=prog) _ 150 5 underlying150 underlying5 u.heap.size 0 1 1 [x] rfl (fun i hi=>(by obtain rfl:i=0:=(by omega);simp)) 9 underlying9
 go_enter func47,ntmps47
 go_wp2_with fail
 go_loopw [0,3] (fun kk out wr=>∃ (j:Nat) (o:ByteArray),kk=.int .i64 j∧out=.string o∧j<=4611686018427387904∧Hid (∃ m,j<10 ^ m∧o.size+m<=19)∧Below w.heap.size w wr) (fun kk _ _=>(intOf kk).toNat)
 case atStart=>exact⟨kz.toNat,.empty,by go_num,rfl,by omega,⟨19,by omega,by decide⟩,Yg _ _⟩
 case round=>
  obtain⟨j,o,rfl,rfl,hj,hm,hB⟩:=hrel;have ho:o.size<=19:=by obtain⟨m,_,h⟩:=hm.out;omega
  by_cases hlt:0<j
  ·have ha:¬ 9223372036854775807<(strOfNums [48+(j:Int) % 10]).size+o.size:=by rw[strOfNums_size];simp;omega
   go_wp2;go_roundw
   case rel=>
    refine⟨j / 10,_,by go_num,rfl,by omega,?_,hB.alloc hB.size _⟩;obtain⟨m,h3,h4⟩:=hm.out
    cases m with
    |zero=>simp at h3;omega
    |succ m=>exact⟨m,by rw[Nat.pow_succ] at h3;omega,by rw[kX_,strOfNums_size];simp;omega⟩
   case measure=>simp[intOf];omega
  ·obtain rfl:j=0:=by omega
   have ha:¬ 9223372036854775807<(ByteArray.mk #[109]).size+o.size:=by show ¬ _<1+_;omega
   go_wp2;go_returns;go_light;exact⟨⟨_,rfl⟩,hB⟩
theorem h2_ (B:Nat)(hB0:0<B)(a:Option Addr)(n cap:Nat)(l:List Pt)(kz:Int)(w0 w1:World)(h:AE w0 a n l)(sf:Sf B w0 a)(hK:Kp B w0 w1)(hn:n<=4194304)(h1:1<=kz)(h2:kz<=4500000000000000000):
  Calls prog 139 #[.slice a n cap,.int .i64 kz] w1 fun e w'=>(∃ k':Int,e=.returned (.int .i64 k')∧kz<=k'∧k'<=kz+3*n)∧Kp B w0 w'∧Fr B w0.heap.size w1 w':=by
 go_enter func139,ntmps139
 go_wp2_with fail
 go_loopw [1,5] (fun kk ix wr=>∃ (i:Nat) (k:Int),i<=n∧ix=.int .i64 i∧kk=.int .i64 k∧kz<=k∧k<=kz+3*i∧Kp B w0 wr∧Fr B w0.heap.size w1 wr) (fun _ ix _=>n-(intOf ix).toNat)
 case atStart=>exact⟨0,kz,Zg _,rfl,rfl,by omega,by omega,hK,Fr.refl _ _ _⟩
 case round=>
  obtain⟨i,k,hi,rfl,rfl,hg,hh,K,F⟩:=hrel;by_cases hlt:i<n
  ·obtain⟨b,o,p,rfl,hp,c0,c1,c2⟩:=bi_ h hlt;obtain⟨⟨c,t,hb⟩,ha,hc,f0,v0,y0,_⟩:=K.at hB0 sf c0;obtain⟨_,_,_,f1,v1,y1,_⟩:=K.at hB0 sf c1;obtain⟨_,_,_,f2,v2,y2,_⟩:=K.at hB0 sf c2;have he:(i:Int)<n:=by omega
   have hf:(0:Int)<=i:=by omega
   have K3:=((K.set hb c0 (x:=.int .i64 k) ⟨_,rfl⟩).set hb c1 (x:=.int .i64 (k+1)) ⟨_,rfl⟩).set hb c2 (x:=.int .i64 (k+1+1)) ⟨_,rfl⟩;have F3:=((F.set (j:=o+i*3) (x:=.int .i64 k) ha hc).set (j:=o+i*3+1) (x:=.int .i64 (k+1)) ha hc).set (j:=o+i*3+2) (x:=.int .i64 (k+1+1)) ha hc;clear hp;go_wp2;go_roundw
   case rel=>exact⟨i+1,k+1+1+1,by omega,by go_num,by go_num,by omega,by omega,K3,F3⟩
   case measure=>simp[intOf];omega
  ·obtain rfl:i=n:=by omega
   go_wp2;go_returns;exact⟨⟨k,rfl,by omega,by omega⟩,K,F⟩
theorem gx_ (B:Nat)(hB0:0<B)(a:Option Addr)(n cap:Nat)(l:List Ex)(kz:Int)(w0 w1:World)(h:A3 w0 a n l)(sf:Sf B w0 a)(hK:Kp B w0 w1)(hn:n<=4194304)(h1:1<=kz)(h2:kz<=4500000000000000000):
  Calls prog 38 #[.slice a n cap,.int .i64 kz] w1 fun e w'=>(∃ k':Int,e=.returned (.int .i64 k')∧kz<=k'∧k'<=kz+2*n)∧Kp B w0 w'∧Fr B w0.heap.size w1 w':=by
 go_enter func38,ntmps38
 go_wp2_with fail
 go_loopw [1,5] (fun kk ix wr=>∃ (i:Nat) (k:Int),i<=n∧ix=.int .i64 i∧kk=.int .i64 k∧kz<=k∧k<=kz+2*i∧Kp B w0 wr∧Fr B w0.heap.size w1 wr) (fun _ ix _=>n-(intOf ix).toNat)
 case atStart=>exact⟨0,kz,Zg _,rfl,rfl,by omega,by omega,hK,Fr.refl _ _ _⟩
 case round=>
  obtain⟨i,k,hi,rfl,rfl,hh,hj,K,F⟩:=hrel;by_cases hlt:i<n
  ·obtain⟨b,o,p,rfl,hp,c0,c1⟩:=be_ h hlt;obtain⟨⟨c,t,hb⟩,hc,he,f0,v0,y0,_⟩:=K.at hB0 sf c0;have hf:(i:Int)<n:=by omega
   have hg:(0:Int)<=i:=by omega
   have K1:=K.set hb c0 (x:=.int .i64 k) ⟨_,rfl⟩;have F1:=F.set (j:=o+i*2) (x:=.int .i64 k) hc he;clear hp K F
   go_wp2_with fail
   generalize wr.setCell ⟨b,o+i*2,none⟩ (.int .i64 k)=W1 at *;refine (b3_ (k+1) _ (by omega) (by omega)).mono ?_;rintro e w2 ⟨⟨s,rfl⟩,ha⟩;have K2:=K1.below ha;have F2:=F1.below ha;obtain⟨_,_,_,f1,v1,y1,_⟩:=K2.at hB0 sf c1;have K3:=K2.set hb c1 (x:=.string s) ⟨_,rfl⟩;have F3:=F2.set (j:=o+i*2+1) (x:=.string s) hc he;clear K1 F1 K2 F2;go_wp2;go_roundw
   case rel=>exact⟨i+1,k+1+1,by omega,by go_num,by go_num,by omega,by omega,K3,F3⟩
   case measure=>simp[intOf];omega
  ·obtain rfl:i=n:=by omega
   go_wp2;go_returns;exact⟨⟨k,rfl,by omega,by omega⟩,K,F⟩
theorem cP_ (B:Nat)(hB0:0<B)(a:Option Addr)(n cap:Nat)(l:List Ct)(kz:Int)(w0 w1:World)(h:AM w0 a n l)(sf:Sf B w0 a)(hK:Kp B w0 w1)(hn:n<=4194304)(h1:1<=kz)(h2:kz<=4500000000000000000):
  Calls prog 40 #[.slice a n cap,.int .i64 kz] w1 fun e w'=>(∃ k':Int,e=.returned (.int .i64 k')∧kz<=k'∧k'<=kz+4*n)∧Kp B w0 w'∧Fr B w0.heap.size w1 w':=by
 go_enter func40,ntmps40
 go_wp2_with fail
 go_loopw [1,5] (fun kk ix wr=>∃ (i:Nat) (k:Int),i<=n∧ix=.int .i64 i∧kk=.int .i64 k∧kz<=k∧k<=kz+4*i∧Kp B w0 wr∧Fr B w0.heap.size w1 wr) (fun _ ix _=>n-(intOf ix).toNat)
 case atStart=>exact⟨0,kz,Zg _,rfl,rfl,by omega,by omega,hK,Fr.refl _ _ _⟩
 case round=>
  obtain⟨i,k,hi,rfl,rfl,hh,hj,K,F⟩:=hrel;by_cases hlt:i<n
  ·obtain⟨b,o,p,rfl,hp,c0,c1,c2,c3⟩:=aN_ h hlt;obtain⟨⟨c,t,hb⟩,ha,hc,f0,v0,y0,_⟩:=K.at hB0 sf c0;obtain⟨_,_,_,f1,v1,y1,_⟩:=K.at hB0 sf c1;have hf:(i:Int)<n:=by omega
   have hg:(0:Int)<=i:=by omega
   have K1:=(K.set hb c0 (x:=.int .i64 k) ⟨_,rfl⟩).set hb c1 (x:=.int .i64 (k+1)) ⟨_,rfl⟩;have F1:=(F.set (j:=o+i*4) (x:=.int .i64 k) ha hc).set (j:=o+i*4+1) (x:=.int .i64 (k+1)) ha hc;clear hp K F
   go_wp2_with fail
   generalize (wr.setCell ⟨b,o+i*4,none⟩ (.int .i64 k)).setCell ⟨b,o+i*4+1,none⟩ (.int .i64 (k+1))=W1 at *;refine (b3_ (k+1+1) _ (by omega) (by omega)).mono ?_;rintro e w2 ⟨⟨s,rfl⟩,he⟩;have K2:=K1.below he;have F2:=F1.below he;obtain⟨_,_,_,f2,v2,y2,_⟩:=K2.at hB0 sf c2;obtain⟨_,_,_,f3,v3,y3,_⟩:=K2.at hB0 sf c3;have K3:=(K2.set hb c2 (x:=.string s) ⟨_,rfl⟩).set hb c3 (x:=.int .i64 (k+1+1+1)) ⟨_,rfl⟩;have F3:=(F2.set (j:=o+i*4+2) (x:=.string s) ha hc).set (j:=o+i*4+3) (x:=.int .i64 (k+1+1+1)) ha hc;clear K1 F1 K2 F2;go_wp2;go_roundw
   case rel=>exact⟨i+1,k+1+1+1+1,by omega,by go_num,by go_num,by omega,by omega,K3,F3⟩
   case measure=>simp[intOf];omega
  ·obtain rfl:i=n:=by omega
   go_wp2;go_returns;exact⟨⟨k,rfl,by omega,by omega⟩,K,F⟩
theorem h3_ (B:Nat)(hB0:0<B)(a:Option Addr)(n cap:Nat)(l:List It)(kz:Int)(w0 w1:World)(h:AJ B w0 a n l)(hK:Kp B w0 w1)(hn:n<=1048576)(hl:∀ x∈l,x.ps.length<=1048576)(h1:1<=kz)(h2:kz<=4000000000000000000):
  Calls prog 89 #[.slice a n cap,.int .i64 kz] w1 fun e w'=>(∃ k':Int,e=.returned (.int .i64 k')∧kz<=k'∧k'<=kz+3145729*n)∧Kp B w0 w'∧Fr B w0.heap.size w1 w':=by
 go_enter func89,ntmps89
 go_wp2_with fail
 go_loopw [1,5] (fun kk ix wr=>∃ (i:Nat) (k:Int),i<=n∧ix=.int .i64 i∧kk=.int .i64 k∧kz<=k∧k<=kz+3145729*i∧Kp B w0 wr∧Fr B w0.heap.size w1 wr) (fun _ ix _=>n-(intOf ix).toNat)
 case atStart=>exact⟨0,kz,Zg _,rfl,rfl,by omega,by omega,hK,Fr.refl _ _ _⟩
 case round=>
  obtain⟨i,k,hi,rfl,rfl,hm,ho,K,F⟩:=hrel;by_cases hlt:i<n
  ·have ha:l[i]?=some (l[i]'(by rw[h.len];exact hlt)):=by simp[h.len,hlt]
   obtain⟨b,o,pa,pn,pc,rfl,c0,c1,hP,hH,hh,hA,sp,sf⟩:=h.cell i _ ha;have hg:=hl _ (Zc ha);rw[hP.len] at hg;have hj:(i:Int)<n:=by omega
   have hk:(0:Int)<=i:=by omega
   clear ha
   go_wp2_with fail
   refine (b3_ k _ (by omega) (by omega)).mono ?_;rintro e w2 ⟨⟨s,rfl⟩,hc⟩;have K2:=K.below hc;have F2:=F.below hc;obtain⟨⟨c,t,hb⟩,he,hf,f0,v0,y0,_⟩:=K2.at hB0 sf c0;have K3:=K2.set hb c0 (x:=.string s) ⟨_,rfl⟩;have F3:=F2.set (j:=o+i*2) (x:=.string s) he hf;obtain⟨_,_,_,_,v1,y1,e1⟩:=K3.at hB0 sf c1;obtain rfl:v1=.slice pa pn pc:=e1;clear K F K2 F2
   go_wp2_with fail
   generalize w2.setCell ⟨b,o+i*2,none⟩ (.string s)=W3 at *;refine (h2_ B hB0 pa pn pc _ (k+1) w0 _ hP sp K3 (by omega) (by omega) (by omega)).mono ?_;rintro e w4 ⟨⟨k4,rfl,hp,hq⟩,K4,F4⟩;have F5:=F3.trans F4;clear K3 F3 F4;go_wp2;go_roundw
   case rel=>exact⟨i+1,k4,by omega,by go_num,rfl,by omega,by omega,K4,F5⟩
   case measure=>simp[intOf];omega
  ·obtain rfl:i=n:=by omega
   go_wp2;go_returns;exact⟨⟨k,rfl,by omega,by omega⟩,K,F⟩
theorem gy_ (B:Nat)(hB0:0<B)(a:Option Addr)(n cap:Nat)(l:List Vo)(kz:Int)(w0 w1:World)(h:A0 B w0 a n l)(hK:Kp B w0 w1)(hn:n<=1048576)(hl:∀ v∈l,v.its.length<=1048576∧∀ x∈v.its,x.ps.length<=1048576)(h1:1<=kz)(h2:kz<=10000000):
  Calls prog 39 #[.slice a n cap,.int .i64 kz] w1 fun e w'=>(∃ k':Int,e=.returned (.int .i64 k')∧kz<=k'∧k'<=kz+3298535931907*n)∧Kp B w0 w'∧Fr B w0.heap.size w1 w':=by
 go_enter func39,ntmps39
 go_wp2_with fail
 go_loopw [1,5] (fun kk ix wr=>∃ (i:Nat) (k:Int),i<=n∧ix=.int .i64 i∧kk=.int .i64 k∧kz<=k∧k<=kz+3298535931907*i∧Kp B w0 wr∧Fr B w0.heap.size w1 wr) (fun _ ix _=>n-(intOf ix).toNat)
 case atStart=>exact⟨0,kz,Zg _,rfl,rfl,by omega,by omega,hK,Fr.refl _ _ _⟩
 case round=>
  obtain⟨i,k,hi,rfl,rfl,ho,hp,K,F⟩:=hrel;by_cases hlt:i<n
  ·have he:l[i]?=some (l[i]'(by rw[h.len];exact hlt)):=by simp[h.len,hlt]
   obtain⟨b,o,pa,pn,pc,rfl,c0,c1,c2,c3,hP,hH,hj,sf⟩:=h.cell i _ he;obtain⟨hg,hh⟩:=hl _ (Zc he);rw[hP.len] at hg;have hk:(i:Int)<n:=by omega
   have hm:(0:Int)<=i:=by omega
   clear he;obtain⟨⟨c,t,hb⟩,ha,hc,f0,v0,y0,_⟩:=K.at hB0 sf c0;have K1:=K.set hb c0 (x:=.int .i64 k) ⟨_,rfl⟩;have F1:=F.set (j:=o+i*4) (x:=.int .i64 k) ha hc;clear K F
   go_wp2_with fail
   generalize wr.setCell ⟨b,o+i*4,none⟩ (.int .i64 k)=W1 at *;refine (b3_ (k+1) _ (by omega) (by omega)).mono ?_;rintro e w2 ⟨⟨s,rfl⟩,hf⟩;have K2:=K1.below hf;have F2:=F1.below hf;obtain⟨_,_,_,f1,v1,y1,_⟩:=K2.at hB0 sf c1;obtain⟨_,_,_,f2,v2,y2,_⟩:=K2.at hB0 sf c2;have K3:=(K2.set hb c1 (x:=.string s) ⟨_,rfl⟩).set hb c2 (x:=.bool ((k+1+1) % 3==0)) ⟨_,rfl⟩;have F3:=(F2.set (j:=o+i*4+1) (x:=.string s) ha hc).set (j:=o+i*4+2) (x:=.bool ((k+1+1) % 3==0)) ha hc;obtain⟨_,_,_,_,v3,y3,e3⟩:=K2.at hB0 sf c3;obtain rfl:v3=.slice pa pn pc:=e3;clear K1 F1 K2 F2
   go_wp2_with fail
   generalize (w2.setCell ⟨b,o+i*4+1,none⟩ (.string s)).setCell ⟨b,o+i*4+2,none⟩ (.bool ((k+1+1) % 3==0))=W3 at *;refine (h3_ B hB0 pa pn pc _ (k+1+1+1) w0 _ hP K3 hg hh (by omega) (by omega)).mono ?_;rintro e w4 ⟨⟨k4,rfl,hq,hr⟩,K4,F4⟩;have F5:=F3.trans F4;clear K3 F3 F4;go_wp2;go_roundw
   case rel=>exact⟨i+1,k4,by omega,by go_num,rfl,by omega,by omega,K4,F5⟩
   case measure=>simp[intOf];omega
  ·obtain rfl:i=n:=by omega
   go_wp2;go_returns;exact⟨⟨k,rfl,by omega,by omega⟩,K,F⟩
theorem aR_ (k:Nat)(x:Int)(hx:x=k)(w:World)(h1:1<=k)(h2:k<=100000000):
  Calls prog 47 #[.int .i64 x] w fun e w'=>e=.returned (.string (Bf k))∧Below w.heap.size w w':=by
 subst hx;exact ix_ k w h1 h2
theorem Ac.same {t:TypeId}{cs:α->List Value}{sz:Nat}{cap:Nat}(h:Ac cs sz t w B a n cap l)(he:∀ ad,a=some ad->w'.heap[ad.block]?=w.heap[ad.block]?):Ac cs sz t w' B a n cap l:=by
 have hb:∀ b o,a=some ⟨b,o,none⟩->∀ j,w'.cell? ⟨b,j,none⟩=w.cell? ⟨b,j,none⟩:=fun b o ha j=>by
  have:=he _ ha
  simp only[World.cell?];rw[this]
 refine⟨⟨h.sl.len,fun i x hx=>?_⟩,?_⟩
 ·obtain⟨b,o,ha,hc⟩:=h.sl.cell i x hx;exact⟨b,o,ha,fun j v hv=>by rw[hb b o ha];exact hc j v hv⟩
 ·rcases h.own with h0 | ⟨b,ha,hB,h1,h2,c,hc,q⟩
  ·exact .inl h0
  ·exact .inr ⟨b,ha,hB,h1,h2,c,(he _ ha).trans hc,q⟩
theorem Fr.blkAt {t:TypeId}{B0:Nat}(hF:Fr B0 T w w')(h:Blk w b c t)(hb:b<B0∨T<=b):Blk w' b c t:=(hF.blk _ h.lt hb).trans h
def Cb (p:Po):List Ct:=if Aj p=true then Az p.vs else []
theorem kY_ (B:Nat)(v:Value)(p:Po)(w:World)(h:AA B w v p)(hd:Ax p):
  Calls prog 74 #[v] w fun e w'=>(∃ a n cap,e=.returned (.slice a n cap)∧n<=480∧Ac Ct.cs 4 107 w' w.heap.size a n cap (Cb p))∧Below w.heap.size w w':=by
 obtain⟨ea,en,ec,va,vn,vc,ra,rn,rc,la,ln,lc,rfl,ha⟩:=h;have h:AA B w (.agg #[.int .i64 p.size,.int .i64 p.next,.slice ea en ec,.slice va vn vc,.slice ra rn rc,.slice la ln lc]) p:=⟨ea,en,ec,va,vn,vc,ra,rn,rc,la,ln,lc,rfl,ha⟩;have h2:=ha.2.1.1;have z3:=hd.2.2.1;have z4:=hd.2.2.2.1;rw[h2.len] at z3;clear ha
 obtain⟨pb,po,hj⟩:∃ pb po,0<vn->va=some ⟨pb,po,none⟩:=by
  by_cases h0:0<vn
  ·obtain⟨b,o,_,_,_,_,hv,_⟩:=b5_ h2 h0;exact⟨b,o,fun _=>hv⟩
  ·exact⟨0,0,fun h=>absurd h h0⟩
 have C:=(Blk.new w #[.int .i64 p.size,.int .i64 p.next,.slice ea en ec,.slice va vn vc,.slice ra rn rc,.slice la ln lc] 35);have hg:Below w.heap.size w (w.alloc (.cells #[.int .i64 p.size,.int .i64 p.next,.slice ea en ec,.slice va vn vc,.slice ra rn rc,.slice la ln lc] 35)):=by go_grown
 have hT:Hid (Aj p=true->Cb p=Az p.vs):=fun e=>by simp[Cb,e]
 have hF:Hid (Aj p=false->Cb p=[]):=fun e=>by simp[Cb,e]
 have hh:=fun e:Aj p=true=>bL_ e;generalize Cb p=R at *;go_enter func74,ntmps74
 go_wp2_with fail
 generalize w.alloc (.cells #[.int .i64 p.size,.int .i64 p.next,.slice ea en ec,.slice va vn vc,.slice ra rn rc,.slice la ln lc] 35)=W0 at *;refine (ch_ B _ p _ (h.below hg) hd).mono ?_;rintro e w1 ⟨rfl,hb⟩;have C1:=C.below hb;replace hb:=Aa hg hb;clear C hg
 cases he:Aj p
 ·have hR:=hF.out he;subst hR;clear he hT hF hh;go_wp2;go_returns;exact⟨⟨none,0,0,rfl,by omega,aB_⟩,hb⟩
 ·have hR:=hT.out he;subst hR;obtain⟨q1,q2,q3,q4,q5⟩:=hh he;clear he hT hF hh;obtain⟨d0,d1,d2,d3,d4,d5⟩:=C1.six
  go_wp2_with fail
  refine (bC_ B p.size p.next ea en ec va vn vc ra rn rc la ln lc p.vs pb po hj _ (h2.below hb) z3 z4).mono ?_;rintro e w2 ⟨⟨mb,D,rfl,hm,hO,hV⟩,hc⟩;replace hc:=Aa hb hc;clear d0 d1 d2 d3 d4 d5 C1 hb
  go_wp2_with fail
  refine (hQ_ B mb pb po D va vn p.vs hj _ hO hV q5 (h2.below hc) (g2_ q1 q2) (oA_ q3 q2)).mono ?_;rintro e w3 ⟨⟨a3,n3,cap3,rfl,hk,R3⟩,hf⟩;have hl:=hc.size;replace hf:=Aa hc hf;go_wp2;go_returns;exact⟨⟨a3,n3,cap3,rfl,hk,R3.mono hl⟩,hf⟩
theorem dv_ (h:Aj p=true):Ap p.rf p.lt=some (AQ p.rf p.lt)∧AH p.rf=true∧AU p.lt=true:=by
 simp only[Aj,Zf] at h;have h1:=h.1.2;unfold Ap at h1 ⊢;split at h1
 ·rename_i hh;split at hh
  ·split at hh<;>cases h1
  ·cases h1
 ·rename_i s hh;split at hh
  ·rename_i h2;split at hh
   ·rename_i h3;rw[if_pos h2,if_pos h3];exact⟨rfl,h2⟩
   ·cases hh
  ·cases hh
theorem c6_ (h:Aj p=true):AH (AQ p.rf p.lt)=true:=by
 have h1:=(dv_ h).1;unfold Ap at h1;split at h1
 ·split at h1
  ·assumption
  ·cases h1
 ·cases h1
theorem pO_ (h:Aj p=true)(hd:Ax p):Hb p:=by
 obtain⟨q1,⟨q2,q3⟩,q4,_,_⟩:=aQ_ h;obtain⟨z1,z2,z3,z4,z5,z6,z7,z8⟩:=hd;have hf:=(dv_ h).1;have hr:=c6_ h;refine⟨p8_ h ⟨z1,z2,z3,z4,z5,z6,z7,z8⟩,oI_ h,by omega,by omega,fun v hv z hz=>by have:=((q4.2 v hv).2 z hz).1;omega,z2,z1,z6,z8,z5,z7,?_,?_,kI_ q1⟩
 ·rw[hf];exact (a0_ hr).1
 ·rw[hf];exact fun c hc=>((jt_ hr).1 c hc).1
theorem b4_ (h:zB d=true):d.size=0:=by
 unfold zB at h;have h1:d.toList=(⟨#[]⟩:ByteArray).toList:=by simpa using h
 rw[Zu,Zu] at h1;have h2:d.data.toList.length=0:=by rw[h1];rfl
 have h3:d.data.toList.length=d.size:=by simp
 omega
theorem cj_ (h:nameB d=true):d.size<=8:=by
 simp only[nameB,Zf,ZU] at h;exact h.1.2
theorem l6_ (h:Aq d=true):d.size<=20:=by
 simp only[Aq,Zf,ZU] at h;exact h.1.2
theorem pP_ {o:Opr}(h:opB o=true):Hl o.k o.vol o.to o.data∧(o.k=5->0<=o.fr∧o.fr<=1000000000∧0<=o.ln∧o.ln<=1000000000):=by
 unfold opB inB at h
 repeat' split at h
 all_goals simp only[Zf,ZU,Zj] at h
 ·have a:=cj_ h.1;have b:=b4_ h.2.1.1.1.1.1.2;have c:=b4_ h.2.2;exact⟨⟨by omega,by omega,by omega,fun _=>cm_ h.1,fun e=>by omega⟩,fun e=>by omega⟩
 ·have a:=cj_ h.1.1.1.1;have b:=b4_ h.2.1.1.1;have c:=l6_ h.1.2;exact⟨⟨by omega,by omega,by omega,fun _=>cm_ h.1.1.1.1,fun e=>by omega⟩,fun e=>by omega⟩
 ·have a:=cj_ h.1.1.1;have b:=b4_ h.2.1.1.1.1;have c:=b4_ h.2.2;exact⟨⟨by omega,by omega,by omega,fun _=>cm_ h.1.1.1,fun e=>by omega⟩,fun e=>by omega⟩
 ·have a:=cj_ h.1.1;have b:=b4_ h.2.1.1.1.1.1;have c:=b4_ h.2.2;exact⟨⟨by omega,by omega,by omega,fun _=>cm_ h.1.1,fun e=>by omega⟩,fun e=>by omega⟩
 ·have a:=cj_ h.1.1.1.1;have b:=b4_ h.2.1.1.1;have c:=b4_ h.2.2;exact⟨⟨by omega,by omega,by omega,fun _=>cm_ h.1.1.1.1,fun e=>by omega⟩,fun e=>by omega⟩
 ·obtain⟨⟨⟨⟨⟨⟨⟨h1,h2⟩,h3⟩,h4⟩,h5⟩,h6⟩,h7⟩,h8⟩:=h;have a:=cj_ h1;have b:=cj_ h3;have c:=b4_ h8;exact⟨⟨by omega,by omega,by omega,fun _=>cm_ h1,fun _=>cm_ h3⟩,fun _=>by omega⟩
 ·have a:=cj_ h.1.1;have b:=cj_ h.1.2;have c:=b4_ h.2.2;exact⟨⟨by omega,by omega,by omega,fun _=>cm_ h.1.1,fun e=>by omega⟩,fun e=>by omega⟩
 ·have a:=b4_ h.1.1.1.1.1.1.1;have b:=b4_ h.1.1.1.1.1.2;have c:=b4_ h.2;exact⟨⟨by omega,by omega,by omega,fun e=>by omega,fun e=>by omega⟩,fun e=>by omega⟩
theorem BK.own {rows:List VR}(h:BK B w v p rows):∃ ea en ec va vn vc ra rn rc la ln lc,v=.agg #[.int .i64 p.size,.int .i64 p.next,.slice ea en ec,.slice va vn vc,.slice ra rn rc,.slice la ln lc]∧Own B w.heap.size (w.alloc (.cells #[.int .i64 p.size,.int .i64 p.next,.slice ea en ec,.slice va vn vc,.slice ra rn rc,.slice la ln lc] 35)) p ea en ec va vn vc ra rn rc la ln lc rows:=by
 obtain⟨ea,en,ec,va,vn,vc,ra,rn,rc,la,ln,lc,hv,h1,⟨h2,h3⟩,h4,h5,h6,h7,h8⟩:=h;have hA:Below w.heap.size w (w.alloc (.cells #[.int .i64 p.size,.int .i64 p.next,.slice ea en ec,.slice va vn vc,.slice ra rn rc,.slice la ln lc] 35)):=(Yg _ _).alloc (Zd _) _;exact⟨ea,en,ec,va,vn,vc,ra,rn,rc,la,ln,lc,hv,Blk.new _ _ _,h1.below hA,h2.below hA,h3.below hA,h4.below hA,h5.below hA,h6,h7,dc_ h3 h8 hA⟩
theorem PoB.t {pb:Nat}(h:PoB B pb w p):∃ ea en ec va vn vc ra rn rc la ln lc,Blk w pb #[.int .i64 p.size,.int .i64 p.next,.slice ea en ec,.slice va vn vc,.slice ra rn rc,.slice la ln lc] 35∧Ai B w (.agg #[.int .i64 p.size,.int .i64 p.next,.slice ea en ec,.slice va vn vc,.slice ra rn rc,.slice la ln lc]) p:=by
 obtain⟨ea,en,ec,va,vn,vc,ra,rn,rc,la,ln,lc,rows,h0,h1,h2,h3,h4,h5,h6,_⟩:=h;exact⟨ea,en,ec,va,vn,vc,ra,rn,rc,la,ln,lc,h0,ea,en,ec,va,vn,vc,ra,rn,rc,la,ln,lc,rows,rfl,h1,⟨h2,h3⟩,h4,h5,h6⟩
end
end Go.Proofs.YtbbhcnjhohidnaaGreatDoor
