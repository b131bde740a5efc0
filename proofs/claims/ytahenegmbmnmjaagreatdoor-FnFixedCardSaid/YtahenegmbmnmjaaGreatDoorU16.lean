/- Plain facts for PoolOk of the program: sets of addresses; volumes by their names. -/
import Derived.Test.YtahenegmbmnmjaaGreatDoorU15
set_option maxHeartbeats 20000000
set_option maxRecDepth 100000
namespace Go.Proofs.YtahenegmbmnmjaaGreatDoor
section
open Go Go.RowKit Go.BigFrame
variable{rows:List VR}{B i vb vc vn:Nat}{r:VR}{y:Vo}{w w' w0:World}
structure Foc (B vb vn vc i:Nat)(rows:List VR)(r:VR)(y:Vo)(w:World):Prop where
 rv:Ae vrs 4 62 w B (some ⟨vb,0,none⟩) vn vc rows
 hi:rows[i]?=some r
 v:Bd B w r y
 ris:E6 y.its
 len:y.its.length<=4000000
 str:Gq y.its
theorem Foc.below (h:Foc B vb vn vc i rows r y w)(hb:Below w.heap.size w w'):Foc B vb vn vc i rows r y w':=⟨h.rv.below hb,h.hi,h.v.below hb,h.ris,h.len,h.str⟩
def Gm (B vb vn vc i:Nat)(rows:List VR)(r:VR)(y:Vo)(its:List It)(w w':World):Prop:=∃ r',Ae vrs 4 62 w' B (some ⟨vb,0,none⟩) vn vc (rows.set i r')∧Bd B w' r' {y with its:=its}∧FrL (vb::AU r.pa) w w'∧FJ w r w' r'
theorem FJ.from {r':VR}(hb:Below w0.heap.size w0 w)(h:FJ w r w' r'):FJ w0 r w' r':=⟨fun ad e=>(h.1 ad e).imp id (fun q=>Zl hb.size q),fun rs ha=>(h.2 rs (ha.below hb)).mono hb.size⟩
theorem Gm.from {its:List It}(hb:Below w0.heap.size w0 w)(h:Gm B vb vn vc i rows r y its w w'):Gm B vb vn vc i rows r y its w0 w':=by
 obtain⟨r',h1,h2,h3,h4⟩:=h;exact⟨r',h1,h2,(FrL.of_below hb).new h3 (fun k h=>.inl h),h4.from hb⟩
theorem Dt (B vb vn vc i:Nat)(rows:List VR)(r:VR)(y:Vo)(file:ByteArray)(pa:Option Addr)(pn pc:Nat)(l:List Pt)(at':Int)(qa:Option Addr)(qn qc:Nat)(m:List Pt)(ep:Addr)(w:World)(hBw:B<=w.heap.size)(F:Foc B vb vn vc i rows r y w)
  (hP:AN w pa pn l)(hpn:pn<=4194304)(hPb:∀ ad,pa=some ad->ad.block<w.heap.size)(hQ:AN w qa qn m)(hqn:qn<=4194304)(hQb:∀ ad,qa=some ad->ad.block<w.heap.size)(hg:BD w 10 ep):
  Calls Tryz.prog 216 #[.pointer (some ⟨vb,i*4,none⟩),.string file,.slice pa pn pc,.int .i64 at',.slice qa qn qc] w fun e w'=>
   (BQ l at' m=none∧e=.returned (BL 5 ep)∧Below w.heap.size w w')∨(∃ ps,BQ l at' m=some ps∧e=.returned .nilIface∧Gm B vb vn vc i rows r y (Ba ⟨file,ps⟩ y.its) w w'):=by
 refine (jq_ B vb vn vc i rows r y file pa pn pc l at' qa qn qc m ep w hBw F.rv F.hi F.v F.ris F.len hP hpn hPb hQ hqn hQb hg).mono ?_;rintro e w' (h | ⟨ps,r',h1,h2,h3,h4,h5⟩)
 ·exact .inl h
 ·exact .inr ⟨ps,h1,h2,r',h3,h4,h5⟩
end
section
open Go Go.RowKit
variable{ps:List Pt}{p:Pt}
def RJ (r:RSt)(J:List Pt):Prop:=(r.ov=false->r.L=J∧r.s<=100∧J.length<=16)∧(r.ov=true->100<r.s∨16<J.length)
theorem pI_ (l:List Pt)(p:Pt):l.length<=(AJ l p).length:=by
 unfold AJ;split
 ·rename_i h;rw[List.getLast?_eq_none_iff] at h;simp[h]
 ·rename_i q h;split
  ·have:0<l.length:=List.length_pos_of_mem (List.mem_of_getLast? h)
   simp only[ZE,List.length_dropLast,Zw,YK];omega
  ·simp
theorem fx_ {x:Int}(h0:0<=x)(h1:x<=1000000):wrap64 x=x:=by unfold wrap64;omega
theorem pJ_ {r:RSt}{J:List Pt}(hi:DQ r)(hp:1<=p.n)(h:RJ r J):RJ (BE r p) (AJ J p):=by
 have hh:=pI_ J p;have hs:=fn_ r p
 cases ha:r.ov
 ·obtain⟨hL,hc,he⟩:=h.1 ha;subst hL;by_cases hA:100<r.s+p.n
  ·have e:BE r p=⟨r.L,r.s+p.n,true⟩:=by simp[BE,hA]
   rw[e];exact⟨fun h=>(by cases h),fun _=>.inl hA⟩
  ·cases hl:r.L.getLast? with
   |none=>
    have e:BE r p=⟨[p],r.s+p.n,r.ov⟩:=by simp[BE,hA,hl]
    have e2:AJ r.L p=[p]:=by simp[AJ,hl]
    rw[e,e2,ha];exact⟨fun _=>⟨rfl,(by show r.s+p.n<=100;omega),(by simp)⟩,fun h=>(by cases h)⟩
   |some q=>
    have hj:=hi.2 q (List.mem_of_getLast? hl)
    cases hg:Ax q p
    ·have e2:AJ r.L p=r.L++[p]:=by simp[AJ,hl,hg]
     by_cases hf:r.L.length<16
     ·rw[j0_ (by omega) hl hg hf,e2,ha];exact⟨fun _=>⟨rfl,(by show r.s+p.n<=100;omega),(by simp;omega)⟩,fun h=>(by cases h)⟩
     ·rw[iE_ (by omega) hl hg hf,e2];exact⟨fun h=>(by cases h),fun _=>.inr (by simp;omega)⟩
    ·have e2:AJ r.L p=r.L.dropLast++[⟨q.a,q.f,q.n+p.n⟩]:=by
      simp only[AJ,hl,hg,if_true];rw[fx_ (by omega) (by omega)]
     rw[hm_ (by omega) hl hg,e2,ha];refine⟨fun _=>⟨rfl,(by show r.s+p.n<=100;omega),?_⟩,fun h=>(by cases h)⟩;simp only[ZE,List.length_dropLast,Zw,YK];omega
 ·have hb:(BE r p).ov=true:=by
   unfold BE;split
   ·rfl
   ·split
    ·exact ha
    ·split
     ·exact ha
     ·split
      ·exact ha
      ·rfl
  refine⟨fun h=>(by rw[hb] at h;cases h),fun _=>?_⟩;rw[hs];rcases h.2 ha with h | h
  ·exact .inl (by omega)
  ·exact .inr (by omega)
theorem p4_ (ps:List Pt):∀ (r:RSt) (J:List Pt),DQ r->(∀ p∈ps,1<=p.n)->RJ r J->RJ (Bn r ps) (Al J ps)∧(Bn r ps).s=r.s+Af ps:=by
 induction ps with
 |nil=>intro r J _ _ h;exact⟨h,by simp[Bn,Af]⟩
 |cons p t ih=>
  intro r J hi hp h;have ha:=hp p (by simp)
  have:=ih (BE r p) (AJ J p) (fJ_ hi ha) (fun q hq=>hp q (by simp[hq])) (pJ_ hi ha h)
  refine⟨this.1,?_⟩;have e:=this.2;rw[fn_] at e;show (Bn (BE r p) t).s=_;rw[e];simp[Af];omega
theorem hS_ (h:∀ p∈ps,1<=p.n):Da (BM ps)=if Af ps<=100∧(Al [] ps).length<=16 then some (Al [] ps) else none:=by
 obtain⟨h1,h2⟩:=p4_ ps ⟨[],0,false⟩ [] fK_ h ⟨fun _=>⟨rfl,by simp,by simp⟩,fun h=>(by cases h)⟩;simp only[Int.zero_add] at h2;unfold Da BM
 cases ha:(Bn ⟨[],0,false⟩ ps).ov
 ·obtain⟨e1,e2,e3⟩:=h1.1 ha;simp only[Zj,if_false];rw[if_pos ⟨by omega,e3⟩,e1]
 ·have:=h1.2 ha
  simp only[if_true];rw[if_neg (by omega)]
theorem mQ_ {fr to st:Int}(h:max (fr-st) 0<min (to-st) p.n):1<=(Be p (max (fr-st) 0) (min (to-st) p.n)).n∧(Be p (max (fr-st) 0) (min (to-st) p.n)).n<=p.n:=by
 rw[gf_];omega
theorem hT_ (fr to:Int)(l:List Pt):∀ st,(∀ p∈l,1<=p.n)->(∀ p∈slp fr to st l,1<=p.n)∧Af (slp fr to st l)<=Af l∧(slp fr to st l).length<=l.length∧0<=Af l:=by
 induction l with
 |nil=>intro st _;simp[slp,Af]
 |cons p r ih=>
  intro st h;have hp:=h p (by simp);obtain⟨h1,h2,h3,h4⟩:=ih (st+p.n) (fun q hq=>h q (by simp[hq]));by_cases hx:max (fr-st) 0<min (to-st) p.n
  ·have hb:=mQ_ hx;rw[eN_ rfl rfl hx];refine⟨?_,by simp only[Af];omega,by simp;omega,by simp only[Af];omega⟩;intro q hq;rcases Zn.1 hq with rfl | hq
   ·exact hb.1
   ·exact h1 q hq
  ·rw[fo_ hx];exact⟨h1,by simp only[Af];omega,by simp;omega,by simp only[Af];omega⟩
theorem nA_ (m:List Pt):∀ l,(Al l m).length<=l.length+m.length:=by
 induction m with
 |nil=>intro l;simp[Al]
 |cons p t ih=>
  intro l;have h1:=ih (AJ l p);have h2:=fL_ l p;show (Al (AJ l p) t).length<=_;simp only[Zw];omega
theorem oC_ (l:List Pt)(fr to:Int):(if Ac l=true∧0<=fr∧fr<=Af l∧fr<=to∧to<=Af l then Da (BM (slp fr to 0 l)) else none)=if Ac l=true∧0<=fr∧fr<=Af l∧fr<=to∧to<=Af l then some (Al [] (slp fr to 0 l)) else none:=by
 split
 ·rename_i h;have hp:=fun p hp=>(ci_ h.1 p hp).1;obtain⟨b1,b2,b3,_⟩:=hT_ fr to l 0 hp;obtain⟨c1,_,c3⟩:=ae_ h.1;have hj:=nA_ (slp fr to 0 l) [];rw[hS_ b1,if_pos ⟨by omega,by simp at hj;omega⟩]
 ·rfl
theorem oD_ (h:∀ p∈ps,1<=p.n):((Da (BM ps)).getD []).length<=16:=by
 rw[hS_ h];split
 ·rename_i h;exact h.2
 ·simp
theorem hU_ (l:List Pt)(fr to:Int):((AZ l fr to).getD []).length<=16:=by
 unfold AZ;split
 ·rename_i h;exact oD_ (hT_ fr to l 0 (fun p hp=>(ci_ h.1 p hp).1)).1
 ·simp
end
section
open Go Go.RowKit Go.BigFrame Tryz
variable{α:Type}{file:ByteArray}{r:IR}{rows:List IR}{l:List Pt}{B i:Nat}{y:Vo}{w w':World}
structure BR (S:Addr->Prop)(w:World):Prop where
 op:∃ a,BD w 1 a∧S a
 volume:∃ a,BD w 4 a∧S a
 file:∃ a,BD w 8 a∧S a
 bytes:∃ a,BD w 9 a∧S a
 there:∃ a,BD w 6 a∧S a
 fixed:∃ a,BD w 5 a∧S a
 room:∃ a,BD w 7 a∧S a
 parts:∃ a,BD w 10 a∧S a
 after:∃ a,BD w 2 a∧S a
theorem BD.below {g:Nat}{a:Addr}(h:BD w g a)(hb:Below w.heap.size w w'):BD w' g a:=Ab hb h
theorem BR.below {S:Addr->Prop}(h:BR S w)(hb:Below w.heap.size w w'):BR S w':=by
 obtain⟨⟨a1,h1,s1⟩,⟨a2,h2,s2⟩,⟨a3,h3,s3⟩,⟨a4,h4,s4⟩,⟨a5,h5,s5⟩,⟨a6,h6,s6⟩,⟨a7,h7,s7⟩,⟨a8,h8,s8⟩,⟨a9,h9,s9⟩⟩:=h;exact⟨⟨a1,h1.below hb,s1⟩,⟨a2,h2.below hb,s2⟩,⟨a3,h3.below hb,s3⟩,⟨a4,h4.below hb,s4⟩,⟨a5,h5.below hb,s5⟩,⟨a6,h6.below hb,s6⟩,⟨a7,h7.below hb,s7⟩,⟨a8,h8.below hb,s8⟩,⟨a9,h9.below hb,s9⟩⟩
def Gp (S:Addr->Prop)(B vb vn vc i:Nat)(rows:List VR)(r:VR)(y:Vo)(w:World)(e:Ending)(w':World):Int⊕List It->Prop
 |.inl c=>(∃ a,S a∧e=.returned (BL c a))∧Below w.heap.size w w'
 |.inr its=>e=.returned .nilIface∧Gm B vb vn vc i rows r y its w w'
def Bw (y:Vo)(file:ByteArray)(l:List Pt)(at':Int)(m:List Pt):Int⊕List It:=match BQ l at' m with | none=>.inl 5 | some ps=>.inr (Ba ⟨file,ps⟩ y.its)
def Ci (y:Vo)(file:ByteArray)(at' size:Int):Int⊕List It:=match AP y file with | none=>.inl 3 | some l=>Bw y file l at' [⟨0,0,size⟩]
def Ef (y:Vo)(file:ByteArray)(size:Int):Int⊕List It:=match AP y file with | none=>.inl 3 | some l=>Bw y file ((AZ l 0 (min size (Ch l))).getD []) size []
theorem gp_ {S:Addr->Prop}{vb vn vc:Nat}{rows:List VR}{r:VR}{m:List Pt}{at':Int}{ep:Addr}{w0:World}{e:Ending}(hS:S ep)(hb:Below w0.heap.size w0 w)
  (h:(BQ l at' m=none∧e=.returned (BL 5 ep)∧Below w.heap.size w w')∨(∃ ps,BQ l at' m=some ps∧e=.returned .nilIface∧Gm B vb vn vc i rows r y (Ba ⟨file,ps⟩ y.its) w w')):Gp S B vb vn vc i rows r y w0 e w' (Bw y file l at' m):=by
 rcases h with⟨h1,h2,h3⟩ | ⟨ps,h1,h2,h3⟩
 ·unfold Bw;rw[h1];exact⟨⟨ep,hS,h2⟩,Aa hb h3⟩
 ·unfold Bw;rw[h1];exact⟨h2,h3.from hb⟩
theorem lV_ (S:Addr->Prop)(B:Nat)(h0:0<B)(vb vn vc i:Nat)(rows:List VR)(r:VR)(y:Vo)(vol file:ByteArray)(at' size:Int)(w:World)(hBw:B<=w.heap.size)(F:Foc B vb vn vc i rows r y w)(hS:BR S w):
  Calls prog 180 #[.pointer (some ⟨vb,i*4,none⟩),.agg #[.string vol,.string file,.int .i64 at',.int .i64 size]] w fun e w'=>Gp S B vb vn vc i rows r y w e w' (Ci y file at' size):=by
 have hR:Hid (Ci y file at' size=match AP y file with | none=>.inl 3 | some l=>Bw y file l at' [⟨0,0,size⟩]):=rfl;generalize Ci y file at' size=R at *;obtain⟨W0,he⟩:∃ W,W=w.alloc (.cells #[.string vol,.string file,.int .i64 at',.int .i64 size] 254):=⟨_,rfl⟩;have hh:Below w.heap.size w W0:=by rw[he];exact (Yg _ _).alloc (Zd _) _
 have X:Blk W0 w.heap.size #[.string vol,.string file,.int .i64 at',.int .i64 size] 254:=by rw[he];exact Blk.new _ _ _
 go_enter func180,ntmps180
 go_wp2_with fail
 rw[<-he];clear he;have F0:=F.below hh;refine (bv_ B vb (i*4) h0 y file W0 (F0.v.at F0.rv F0.hi) (by have:=F.len;omega) F.str).mono ?_;rintro e w1 ⟨ha,hg⟩;have F1:=F0.below hg;have hC:=Aa hh hg;have hj:=hS.below hC;replace X:=X.below hg;obtain⟨x0,x1,x2,x3⟩:=X.four;have hz:=hC.size;change De B e w1 (AP y file) at ha
 cases hf:AP y file with
 |none=>
  rw[hf] at ha;obtain rfl:=ha;obtain⟨ef,hm,hp⟩:=hj.file;have g:w1.cell? ⟨8,0,none⟩=_:=hm;go_wp2;go_returns;rw[hR.out,hf];exact⟨⟨ef,hp,rfl⟩,hC⟩
 |some l=>
  rw[hf] at ha;obtain⟨pa,pn,pc,rfl,hP,hr,hl,hk⟩:=ha;obtain⟨ep,hn,hq⟩:=hj.parts;have ho:pn<=4194304:=by rw[<-hP.len];exact hl
  go_wp2_with fail
  have hA:Below w1.heap.size w1 (w1.alloc (.cells #[.int .i64 0,.int .i64 0,.int .i64 size] 201)):=(Yg _ _).alloc (Zd _) _;have hQ:AN (w1.alloc (.cells #[.int .i64 0,.int .i64 0,.int .i64 size] 201)) (some ⟨w1.heap.size,0,none⟩) 1 [⟨0,0,size⟩]:=jo_ (⟨0,0,size⟩:Pt) (Blk.new w1 #[.int .i64 0,.int .i64 0,.int .i64 size] 201) rfl;refine (Dt B vb vn vc i rows r y file pa pn pc l at' (some ⟨w1.heap.size,0,none⟩) 1 1 [⟨0,0,size⟩] ep _ (by have:=hA.size;omega) (F1.below hA) (hP.below hA) ho (fun ad e=>Zy (hk ad e) hA.size) hQ (by omega) (fun ad e=>by cases e;simp) (hn.below hA)).mono ?_;rintro e w2 hc;have hb:=gp_ (file:=file) hq (Aa hC hA) hc;rcases hc with⟨_,rfl,_⟩ | ⟨ps,_,rfl,_⟩
  ·unfold BL at hb ⊢;go_wp2;go_returns;rw[hR.out,hf];exact hb
  ·go_wp2;go_returns;rw[hR.out,hf];exact hb
theorem oE_ (S:Addr->Prop)(B:Nat)(h0:0<B)(vb vn vc i:Nat)(rows:List VR)(r:VR)(y:Vo)(vol file:ByteArray)(size:Int)(w:World)(hBw:B<=w.heap.size)(F:Foc B vb vn vc i rows r y w)(hS:BR S w):
  Calls prog 179 #[.pointer (some ⟨vb,i*4,none⟩),.agg #[.string vol,.string file,.int .i64 size]] w fun e w'=>Gp S B vb vn vc i rows r y w e w' (Ef y file size):=by
 have hR:Hid (Ef y file size=match AP y file with | none=>.inl 3 | some l=>Bw y file ((AZ l 0 (min size (Ch l))).getD []) size []):=rfl;generalize Ef y file size=R at *;obtain⟨W0,hj⟩:∃ W,W=w.alloc (.cells #[.string vol,.string file,.int .i64 size] 251):=⟨_,rfl⟩;have hm:Below w.heap.size w W0:=by rw[hj];exact (Yg _ _).alloc (Zd _) _
 have X:Blk W0 w.heap.size #[.string vol,.string file,.int .i64 size] 251:=by rw[hj];exact Blk.new _ _ _
 go_enter func179,ntmps179
 go_wp2_with fail
 rw[<-hj];clear hj;have F0:=F.below hm;refine (bv_ B vb (i*4) h0 y file W0 (F0.v.at F0.rv F0.hi) (by have:=F.len;omega) F.str).mono ?_;rintro e w1 ⟨ha,hk⟩;have F1:=F0.below hk;have hC:=Aa hm hk;have hb:=hS.below hC;replace X:=X.below hk;have x2:w1.cell? ⟨w.heap.size,2,none⟩=some (.int .i64 size):=X.cell 2;have hz:=hC.size;change De B e w1 (AP y file) at ha
 cases hf:AP y file with
 |none=>
  rw[hf] at ha;obtain rfl:=ha;obtain⟨ef,ht,hv⟩:=hb.file;have g:w1.cell? ⟨8,0,none⟩=_:=ht;go_wp2;go_returns;rw[hR.out,hf];exact⟨⟨ef,hv,rfl⟩,hC⟩
 |some l=>
  rw[hf] at ha;obtain⟨pa,pn,pc,rfl,hP,hx,hs,hr⟩:=ha;have hn:pn<=4194304:=by rw[<-hP.len];exact hs
  go_wp2_with fail
  have hW:Below w1.heap.size w1 w1.drew:=(Yg _ _).drew;replace hP:=hP.below hW;replace X:=X.below hW;replace F1:=F1.below hW;replace hb:=hb.below hW;replace hC:=Aa hC hW;have hE:w1.drew.heap.size=w1.heap.size:=rfl;have hy:(fun u=>u.cell? ⟨w.heap.size,2,none⟩=some (.int .i64 size)) w1.drew:=x2;refine aC_ (S:=(fun u=>u.cell? ⟨w.heap.size,2,none⟩=some (.int .i64 size))) 12 (by kernel_rfl) rfl ?_;generalize w1.drew=u0 at *;refine tk 0 ?_;refine tk 1 ?_;refine tk 2 ?_;refine tk 3 ?_;refine AX (i:=4) (by kernel_rfl) rfl (fun K hK=>?_);go_simp;refine (bo_ pa pn pc l u0 hP hn).mono ?_;rintro e u1 ⟨rfl,hB⟩;replace hP:=hP.below hB;replace X:=X.below hB;replace F1:=F1.below hB;replace hb:=hb.below hB;replace hC:=Aa hC hB;have hA:=hB.size;clear hB;dsimp only;refine hK.out _ _ (X.cell 2) (fun hHeld=>?_);clear hK K
  try simp only[Act.put,lsA,lsB,lsC]
  refine tk 5 ?_;refine AX (i:=6) (by kernel_rfl) rfl (fun K hK=>?_);go_simp;refine (hp_ pa pn pc l 0 (min size (Ch l)) u1 hP hn (fun ad e=>by have:=hr ad e;omega)).mono ?_;rintro e u2 ⟨hh,hB⟩;replace X:=X.below hB;replace F1:=F1.below hB;replace hb:=hb.below hB;replace hC:=Aa hC hB;have hD:=hB.size
  obtain⟨ka,kn,kc,bk,rfl,hq,hp,ho⟩:∃ ka kn kc bk,e=.returned (.tuple #[.slice ka kn kc,.bool bk])∧AN u2 ka kn ((AZ l 0 (min size (Ch l))).getD [])∧kn<=4194304∧∀ ad,ka=some ad->ad.block<u2.heap.size:=by
   cases hl:AZ l 0 (min size (Ch l)) with
   |none=>rw[hl] at hh;exact⟨none,0,0,false,hh,(aB_ (t:=201) (B:=0)).sl,by omega,fun ad e=>by cases e⟩
   |some L=>
    rw[hl] at hh;obtain⟨ka,kn,kc,he,RK⟩:=hh;refine⟨ka,kn,kc,true,he,RK.sl,?_,fun ad e=>(RK.block ad e).2⟩;rw[<-RK.sl.len]
    have:=hU_ l 0 (min size (Ch l))
    rw[hl] at this;simp only[Yw] at this;omega
  clear hB hh;dsimp only;refine hK.out _ _ (X.cell 2) (fun hHeld=>?_);clear hK K
  try simp only[Act.put,lsA,lsB,lsC]
  refine tk 7 ?_;refine tk 8 ?_;refine tk 9 ?_;refine tk 10 ?_;refine tk 11 ?_;refine wpAnyH_done (by kernel_rfl) ?_ _;obtain⟨ep,hu,hw⟩:=hb.parts;have x1:u2.cell? ⟨w.heap.size,1,none⟩=some (.string file):=X.cell 1;have x2b:u2.cell? ⟨w.heap.size,2,none⟩=some (.int .i64 size):=X.cell 2;clear x2
  go_wp2_with fail
  refine (Dt B vb vn vc i rows r y file ka kn kc _ size none 0 0 [] ep u2 (by omega) F1 hq hp ho (aB_ (t:=201) (B:=0)).sl (by omega) (fun ad e=>by cases e) hu).mono ?_;rintro e w2 hg;have hc:=gp_ (file:=file) hw hC hg;rcases hg with⟨_,rfl,_⟩ | ⟨ps,_,rfl,_⟩
  ·unfold BL at hc ⊢;go_wp2;go_returns;rw[hR.out,hf];exact hc
  ·go_wp2;go_returns;rw[hR.out,hf];exact hc
def B5:Option Nat->Int
 |none=>-1
 |some k=>(k:Int)
theorem fy_ {P:Program}(w:World)(t e:TypeId)(z:Value)(ht:P.underlying t=some (.slice e))(hv:∀ w,(zeroValue e).run P w=.ok z w)(h1:∀ m,∀ u∈(Builtin.zeroCells z.cells m).toList,u.oneCell'=true)(sz:Nat)(hz:z.cells.size=sz)(b o m cp:Nat)(c:Array Value)(e':TypeId)(hb:Blk w b c e')(hfit:o+m*sz<=c.size):
  ∃ W2 c2,(∀ ty,(Builtin.clear_ #[t] ty #[.slice (some ⟨b,o,none⟩) m cp]).run P w=.ok (.tuple #[]) W2)∧Blk W2 b c2 e'∧c2.size=c.size∧c2.toList.take o=c.toList.take o∧w.grownBy W2 (some b):=by
 cases m with
 |zero=>exact⟨w,c,fun ty=>by simp[Builtin.clear_,YY ht],hb,rfl,rfl,Yh _ _⟩
 |succ m=>
  have hl:(Builtin.zeroCells z.cells (m+1)).toList.length=(m+1)*sz:=by simp[Builtin.zeroCells,hz]
  have ha:=run_storeCells_at P b o e' (Builtin.zeroCells z.cells (m+1)).toList 0 c w hb (by rw[hl];simpa using hfit) (h1 (m+1));simp only[Nat.add_zero] at ha;refine⟨w.setRow b (c.toList.take o++(Builtin.zeroCells z.cells (m+1)).toList++c.toList.drop (o+(Builtin.zeroCells z.cells (m+1)).toList.length)).toArray,_,fun ty=>?_,hb.row,?_,?_,fv_ _ _ _⟩
  ·simp[Builtin.clear_,YY ht,hv,ha]
  ·have hc:c.toList.length=c.size:=Array.length_toList;simp only[YI,ZE,Zz,List.length_drop,hc,hl];omega
  ·have hc:c.toList.length=c.size:=Array.length_toList;show (c.toList.take o++_++_).take o=_;rw[ZC,List.take_append_of_le_length (by rw[Zz];omega),List.take_take,Nat.min_self]
theorem cU_ {L:List α}{v:α}(h:i<L.length):(L.set i v).take (i+1)=L.take i++[v]:=by
 rw[ZK,Zx h,List.take_set_of_le (Zd _)];rfl
def eT_ (I:World->Prop)(fv:Value)(q:IR->Bool):Prop:=∃ f cp,fv=.func (.func f) #[] #[cp]∧(∀ (x y:Value) (u:World),(callFunc f #[x,y]).run prog u=.ok (.enter f #[x,y]) u)∧∀ (u:World) (r:IR),I u->Calls prog f #[.agg #[.string r.nm,.slice r.pa r.pn r.pc],cp] u fun e w'=>e=.returned (.bool (q r))∧Below u.heap.size u w'
theorem is_ (I:World->Prop)(fv:Value)(q:IR->Bool)(hq:eT_ I fv q)(hI:∀ u u',I u->Below u.heap.size u u'->I u')(a:Option Addr)(n cap:Nat)(rows:List IR)(w:World)(h:AF irs 2 w a n rows)(hw:I w)(hn:n<=4194304):
  Calls prog 231 #[.slice a n cap,fv] w fun e w'=>e=.returned (.int .i64 (B5 (rows.findIdx? q)))∧Below w.heap.size w w':=by
 obtain⟨f,cp,rfl,hh,hq⟩:=hq;have hb:Hid (rows.length=n):=h.len;have hR:Hid ((B5 (rows.findIdx? q))=B5 (((rows.drop 0).findIdx? q).map (fun j:Nat=>j+0))):=by show _=_;simp
 generalize (B5 (rows.findIdx? q))=R at *;go_enter func231,ntmps231
 go_wp2_with fail
 go_loopw [5,8] (fun _ ix wr=>∃ (k:Nat),k<=n∧ix=.int .i64 k∧Hid (R=B5 (((rows.drop k).findIdx? q).map (fun j:Nat=>j+k)))∧Below w.heap.size w wr) (fun _ ix _=>n-(intOf ix).toNat)
 case atStart=>exact⟨0,Zg _,rfl,hR,Yg _ _⟩
 case round=>
  clear hR;obtain⟨k,hk,rfl,he,hB⟩:=hrel;by_cases hlt:k<n
  ·have hl:(k:Int)<n:=by omega
   have hm:(0:Int)<=k:=by omega
   have hj:k<rows.length:=by rw[hb.out];exact hlt
   obtain⟨r,hr⟩:∃ r,rows[k]?=some r:=⟨rows[k],by simp[hj]⟩;obtain⟨b,o,rfl,hc⟩:=(h.below hB).cell k r hr;have x0:wr.cell? ⟨b,o+k*2,none⟩=some (.string r.nm):=hc 0 _ rfl;have x1:wr.cell? ⟨b,o+k*2+1,none⟩=some (.slice r.pa r.pn r.pc):=hc 1 _ rfl
   have ha:Hid (R=B5 (if q r=true then some k else ((rows.drop (k+1)).findIdx? q).map (fun j:Nat=>j+(k+1)))):=by
    show _=_;rw[he.out,al_ hr,List.findIdx?_cons]
    cases q r
    ·simp only[Zj,if_false]
     cases (rows.drop (k+1)).findIdx? q with
     |none=>rfl
     |some j=>simp only[Option.map_some];congr 2;omega
    ·simp
   clear he
   go_wp2_with fail
   refine (hq wr r (hI _ _ hw hB)).mono ?_;rintro e w2 ⟨rfl,hg⟩;have hC:=Aa hB hg
   cases hf:q r
   ·rw[hf] at ha;simp only[Zj,if_false] at ha;go_wp2;go_roundw
    case rel=>exact⟨k+1,by omega,by go_num,ha,hC⟩
    case measure=>simp[intOf];omega
   ·rw[hf] at ha;simp only[if_true] at ha;go_wp2;go_returns;exact⟨by rw[ha.out]<;>rfl,hC⟩
  ·obtain rfl:k=n:=by omega
   go_wp2;go_returns;exact⟨by rw[he.out,Ze (Zm hb.out)];rfl,hB⟩
theorem p5_:∀ m,∀ u∈(Builtin.zeroCells (.agg #[.string .empty,.slice none 0 0]:Value).cells m).toList,u.oneCell'=true:=by
 intro m u hu;simp only[Builtin.zeroCells,Array.toList_map,ZT] at hu;obtain⟨j,_,rfl⟩:=hu;have h:j % 2<2:=Nat.mod_lt _ (by decide);show ((.agg #[.string .empty,.slice none 0 0]:Value).cells[j % 2]!).oneCell'=true;generalize j % 2=k at h
 match k,h with
 |0,_=>rfl
 |1,_=>rfl
theorem hV_ (I:World->Prop)(fv:Value)(q:IR->Bool)(hq:eT_ I fv q)(hI:∀ u u',I u->Below u.heap.size u u'->I u')(B b n cap:Nat)(hI2:∀ u u',I u->u.grownBy u' (some b)->I u')(rows:List IR)(w:World)(R:Ae irs 2 125 w B (some ⟨b,0,none⟩) n cap rows)(hw:I w)(hn:n<=4194304):
  Calls prog 217 #[.slice (some ⟨b,0,none⟩) n cap,fv] w fun e w'=>∃ m,e=.returned (.slice (some ⟨b,0,none⟩) m cap)∧Ae irs 2 125 w' B (some ⟨b,0,none⟩) m cap (rows.filter (fun r=>!(q r)))∧w.grownBy w' (some b):=by
 have hf:Hid (rows.length=n):=R.sl.len
 have qo:n<=cap∧cap<=9223372036854775807:=by
  rcases R.own with⟨h0,_⟩ | ⟨b',h1,_,h3,h4,_⟩
  ·cases h0
  ·unfold maxLen at h4;omega
 obtain⟨f,cp,rfl,hB,hq⟩:=hq;have qc:eT_ I (.func (.func f) #[] #[cp]) q:=⟨f,cp,rfl,hB,hq⟩;go_enter func217,ntmps217
 go_wp2_with fail
 refine (is_ I (.func (.func f) #[] #[cp]) q qc hI (some ⟨b,0,none⟩) n cap rows w R.sl hw hn).mono ?_;rintro e w1 ⟨rfl,ht⟩;have hU:=hI _ _ hw ht;replace R:=R.below ht;have hu:w.grownBy w1 (some b):=au_ (Yh _ _) ht
 cases hM:rows.findIdx? q with
 |none=>
  have hh:rows.filter (fun r=>!(q r))=rows:=by
   rw[YA];intro r hr
   have:=YL.1 hM r hr
   simpa using this
  unfold B5;go_wp2;go_returns;rw[hh];exact⟨n,rfl,R,hu⟩
 |some k0=>
  obtain⟨hN,hO,hP⟩:=ZA.1 hM;have hD:k0<n:=by rw[<-hf.out];exact hN
  have hk:Hid (rows.take k0=(rows.take (k0+1)).filter (fun r=>!(q r))):=by
   show _=_
   have h1:(rows.take k0).filter (fun r=>!(q r))=rows.take k0:=by
    rw[YA];intro a ha;obtain⟨j,hj,rfl⟩:=List.mem_take_iff_getElem.1 ha
    have:=hP j (by omega)
    simpa using this
   rw[ZK,YR,h1,ZI hN];simp[hO]
  unfold B5;have hz:¬ ((k0:Int)=-1):=by omega
  have qq:((k0:Int)==-1)=false:=by rw[ZV];omega
  go_wp2_with fail
  go_loopw [5,6] (fun vi vj wr=>∃ (i j:Nat) (L:List IR),i<j∧j<=n∧vi=.int .i64 i∧vj=.int .i64 j∧Ae irs 2 125 wr B (some ⟨b,0,none⟩) n cap L∧Hid (L.take i=(rows.take j).filter (fun r=>!(q r)))∧Hid (L.drop j=rows.drop j)∧I wr∧w.grownBy wr (some b)) (fun _ vj _=>n-(intOf vj).toNat)
  case atStart=>exact⟨k0,k0+1,rows,ZB _,hD,rfl,rfl,R,hk,rfl,hU,hu⟩
  case round=>
   clear R hU hu hk hO hP;obtain⟨i,j,L,ql,hj,rfl,rfl,R,hm,hx,hW,hG⟩:=hrel;have qa:L.length=n:=R.sl.len;by_cases hlt:j<n
   ·have qm:(j:Int)<n:=by omega
    have qn:(0:Int)<=j:=by omega
    have qi:(i:Int)<n:=by omega
    have qj:(0:Int)<=i:=by omega
    have h9:j<rows.length:=by rw[hf.out];exact hlt
    obtain⟨v,hv⟩:∃ v,rows[j]?=some v:=⟨rows[j],by simp[h9]⟩
    have hT:L[j]?=some v:=by
     have h1:(L.drop j)[0]?=(rows.drop j)[0]?:=by rw[hx.out]
     simpa[hv] using h1
    have hL:L.drop (j+1)=rows.drop (j+1):=by
     have h1:(L.drop j).drop 1=(rows.drop j).drop 1:=by rw[hx.out]
     simpa[List.drop_drop,Nat.add_comm] using h1
    have hb:(rows.take (j+1)).filter (fun r=>!(q r))=(rows.take j).filter (fun r=>!(q r))++(if q v=true then [] else [v]):=by
     rw[ZK,hv,YR];simp only[Option.toList_some,ZH,List.filter_nil]
     cases q v<;>simp
    have x0:wr.cell? ⟨b,j*2,none⟩=some (.string v.nm):=R.cellAt (j:=0) hT rfl;have x1:wr.cell? ⟨b,j*2+1,none⟩=some (.slice v.pa v.pn v.pc):=R.cellAt (j:=1) hT rfl
    go_wp2_with fail
    have hA:Below wr.heap.size wr (wr.alloc (.cells #[.string v.nm,.slice v.pa v.pn v.pc] 125)):=(Yg _ _).alloc (Zd _) _;have V:=Blk.new wr #[.string v.nm,.slice v.pa v.pn v.pc] 125;have hE:=hI _ _ hW hA;refine (hq _ v hE).mono ?_;rintro e w2 ⟨rfl,hl⟩;have hg:=Aa hA hl;have R2:=R.below hg;have V2:=V.below hl;have hV:=hI _ _ hW hg;have hF:=au_ hG hg;have qp:¬ wr.heap.size=b:=by have:=(R.block _ rfl).2;simp only at this;omega
    have qd:¬ b=wr.heap.size:=by omega
    obtain⟨cc,hp⟩:=R2.blkAt;have y0:w2.cell? ⟨wr.heap.size,0,none⟩=some (.string v.nm):=V2.cell 0;have y1:w2.cell? ⟨wr.heap.size,1,none⟩=some (.slice v.pa v.pn v.pc):=V2.cell 1
    cases hQ:q v
    ·rw[hQ] at hb;simp only[Zj,if_false] at hb;have hs:i<L.length:=by omega
     obtain⟨o,ho⟩:∃ o,L[i]?=some o:=⟨L[i],by simp[hs]⟩;have z0:w2.cell? ⟨b,i*2,none⟩=some (.string o.nm):=R2.cellAt (j:=0) ho rfl;have f0:=hp.frozen (i*2);have z1:w2.cell? ⟨b,i*2+1,none⟩=some (.slice o.pa o.pn o.pc):=R2.cellAt (j:=1) ho rfl;have f1:=hp.frozen (i*2+1);clear V V2 hA hg hE hl R hp qa x0 x1;go_wp2;have Q0:=R2.set1 (x':=⟨v.nm,o.pa,o.pn,o.pc⟩) (v:=.string v.nm) aI_ (i:=i) (j:=0) (l:=L) (x:=o) (ho) (by decide) rfl;have Q1:=Q0.set1 (x':=v) (v:=.slice v.pa v.pn v.pc) aI_ (i:=i) (j:=1) (l:=(L.set i ⟨v.nm,o.pa,o.pn,o.pc⟩)) (x:=⟨v.nm,o.pa,o.pn,o.pc⟩) (by simp[hs]) (by decide) rfl;rw[List.set_set] at Q1;have hH:w2.grownBy ((w2.setCell ⟨b,i*2,none⟩ (.string v.nm)).setCell ⟨b,i*2+1,none⟩ (.slice v.pa v.pn v.pc)) (some b):=af_ (af_ (Yh _ _) _ _) _ _
     have hy:Hid ((L.set i v).take (i+1)=(rows.take (j+1)).filter (fun r=>!(q r))):=by
      show _=_;rw[cU_ hs,hb,hm.out]
     have h2:Hid ((L.set i v).drop (j+1)=rows.drop (j+1)):=by
      show _=_;rw[List.drop_set_of_lt (by omega)];exact hL
     have qe:=hI2 _ _ hV hH;have hY:=aV_ hF hH;go_roundw
     case rel=>exact⟨i+1,j+1,L.set i v,by omega,by omega,by go_num,by go_num,Q1,hy,h2,qe,hY⟩
     case measure=>simp[intOf];omega
    ·rw[hQ] at hb;simp only[if_true,Yy] at hb;have hy:Hid (L.take i=(rows.take (j+1)).filter (fun r=>!(q r))):=by show _=_;rw[hb];exact hm.out
     clear V V2 hA hg hE hl R hp;go_wp2;go_roundw
     case rel=>exact⟨i,j+1,L,by omega,by omega,rfl,by go_num,R2,hy,hL,hV,hF⟩
     case measure=>simp[intOf];omega
   ·obtain rfl:j=n:=by omega
    have hs:i<=L.length:=by omega
    have he:Hid (L.take i=rows.filter (fun r=>!(q r))):=by show _=_;rw[hm.out,Zk (Zm hf.out)]
    rcases R.own with⟨h0,_⟩ | ⟨b',h6,hX,qb,h7,c,hc,hK,hb⟩
    ·cases h0
    cases h6
    have hC:i*2+(j-i)*2<=c.size:=by
     rw[hK,<-Yd];exact ZS _ (by omega)
    obtain⟨W2,c2,qg,hJ,hR,hS,h8⟩:=fy_ (P:=prog) wr 60 125 (.agg #[.string .empty,.slice none 0 0]) underlying60 Tryz.zeroValue125 p5_ 2 rfl b (i*2) (j-i) (cap-i) c 125 hc hC
    have h5:Ae irs 2 125 W2 B (some ⟨b,0,none⟩) i cap (rows.filter (fun r=>!(q r))):=by
     refine bM_ aI_ hJ hX ?_ (by omega) h7 (by rw[hR,hK]) ?_
     ·rw[<-he.out,Zz];omega
     ·rw[hS,<-he.out,<-cq_ aI_,<-hb,List.take_take,ZZ (ZS _ (by omega))]
    have hZ:=aV_ hG h8;have qf:¬ (cap=i):=by omega
    have qh:(0:Int)<=i:=by omega
    have qk:(i:Int)<=(j:Int):=by omega
    clear hR hS hJ hc hb hm hx he R;go_wp2;go_returns;exact⟨i,rfl,h5,hZ⟩
theorem AE.uncons {y:It}{l:List It}(h:AE B w (r::rows) (y::l)):BY B w r y∧AE B w rows l:=
 ⟨h.at' 0 r y rfl rfl,by have:=h.len;simpa using this,fun i q z h1 h2=>h.at' (i+1) q z (by simpa using h1) (by simpa using h2)⟩
theorem AE.cons {y:It}{l:List It}(h:BY B w r y)(h':AE B w rows l):AE B w (r::rows) (y::l):=
 ⟨by simp[h'.len],fun i q z h1 h2=>by
  cases i with
  |zero=>simp at h1 h2;subst h1 h2;exact h
  |succ i=>exact h'.at' i q z (by simpa using h1) (by simpa using h2)⟩
theorem AE.filt {f:List UInt8}:∀ {rows:List IR} {l:List It},AE B w rows l->AE B w (rows.filter (fun r=>!(r.nm.toList==f))) (l.filter (fun y=>!(y.nm.toList==f)))
 |[],[],h=>h
 |[],_::_,h=>by have:=h.len;simp at this
 |_::_,[],h=>by have:=h.len;simp at this
 |r::rows,y::l,h=>by
  obtain⟨h1,h2⟩:=h.uncons;have e:=h1.nm;rw[ZH,ZH,e];split
  ·exact AE.cons h1 (AE.filt h2)
  ·exact AE.filt h2
def BO (y:Vo)(file:ByteArray):Int⊕List It:=match AP y file with | none=>.inl 3 | some _=>.inr (y.its.filter (fun t=>!(t.nm.toList==file.toList)))
theorem jx_ (xb:Nat)(file:ByteArray):eT_ (fun u=>u.cell? ⟨xb,1,none⟩=some (.string file)) (.func (.func 218) #[] #[.pointer (some ⟨xb,0,none⟩)]) (fun r=>r.nm.toList==file.toList):=by
 refine⟨_,_,rfl,fun x y u=>by kernel_rfl,fun u r hu=>?_⟩;go_enter func218,ntmps218;have hx:=fun ob=>Ah (w:=u) ob hu
 cases h:(r.nm.toList==file.toList)
 ·have h':¬ r.nm.toList=file.toList:=by simpa using h
  go_wp2;go_returns;exact⟨rfl,by go_grown⟩
 ·have h':r.nm.toList=file.toList:=by simpa using h
  go_wp2;go_returns;exact⟨rfl,by go_grown⟩
theorem nB_ (h:AP y file=some l):0<y.its.length:=by
 cases hy:y.its with
 |nil=>unfold AP itI at h;rw[hy] at h;simp at h
 |cons a t=>simp
theorem kJ_ (S:Addr->Prop)(B:Nat)(h0:0<B)(vb vn vc i:Nat)(rows:List VR)(r:VR)(y:Vo)(vol file:ByteArray)(w:World)(_:B<=w.heap.size)(F:Foc B vb vn vc i rows r y w)(hS:BR S w):
  Calls prog 181 #[.pointer (some ⟨vb,i*4,none⟩),.agg #[.string vol,.string file]] w fun e w'=>Gp S B vb vn vc i rows r y w e w' (BO y file):=by
 have hR:Hid (BO y file=match AP y file with | none=>.inl 3 | some _=>.inr (y.its.filter (fun t=>!(t.nm.toList==file.toList)))):=rfl;generalize BO y file=R at *;obtain⟨W0,he⟩:∃ W,W=w.alloc (.cells #[.string vol,.string file] 257):=⟨_,rfl⟩;have hq:Below w.heap.size w W0:=by rw[he];exact (Yg _ _).alloc (Zd _) _
 have X:Blk W0 w.heap.size #[.string vol,.string file] 257:=by rw[he];exact Blk.new _ _ _
 go_enter func181,ntmps181
 go_wp2_with fail
 rw[<-he];clear he;have F0:=F.below hq;refine (bv_ B vb (i*4) h0 y file W0 (F0.v.at F0.rv F0.hi) (by have:=F.len;omega) F.str).mono ?_;rintro e w1 ⟨ha,hl⟩;have F1:=F0.below hl;have hC:=Aa hq hl;have hv:=hS.below hC;replace X:=X.below hl;have x1:w1.cell? ⟨w.heap.size,1,none⟩=some (.string file):=X.cell 1;have hz:=hC.size;change De B e w1 (AP y file) at ha
 cases hf:AP y file with
 |none=>
  rw[hf] at ha;obtain rfl:=ha;obtain⟨ef,hw,hy⟩:=hv.file;have g:w1.cell? ⟨8,0,none⟩=_:=hw;go_wp2;go_returns;rw[hR.out,hf];exact⟨⟨ef,hy,rfl⟩,hC⟩
 |some l=>
  rw[hf] at ha;obtain⟨pa,pn,pc,rfl,_⟩:=ha;obtain⟨rowsI,RI,TI⟩:=F1.v.its;have hE:0<y.its.length:=nB_ hf;have hD:=TI.len;have hG:rowsI.length=r.pn:=RI.sl.len;have hx:=F.len;obtain⟨ib,hh,hB,_,_⟩:=RI.addr (by omega);have hp:=F1.rv;have y3:w1.cell? ⟨vb,i*4+3,none⟩=some (.slice r.pa r.pn r.pc):=hp.cellAt F1.hi rfl;rw[hh] at RI y3
  have hA:¬ w.heap.size=ib:=by
   obtain⟨cc,hc⟩:=RI.blkAt;intro e;rw[<-e] at hc;unfold Blk at hc X;rw[hc] at X;injection X with q;injection q with _ q2
   exact absurd q2 (by decide)
  go_wp2_with fail
  refine (hV_ (fun u=>u.cell? ⟨w.heap.size,1,none⟩=some (.string file)) _ (fun r=>r.nm.toList==file.toList) (jx_ w.heap.size file) (fun u u' h hb=>Ab hb h) B ib r.pn r.pc (fun u u' h hg=>hg.cell h (by simpa using hA)) rowsI w1 RI x1 (by omega)).mono ?_;rintro e w2 ⟨m,rfl,R2,hn⟩;have hH:=RI.rowTy (m:=r.pn) (k:=r.pc);obtain⟨cc,hc⟩:=RI.blkAt;have hj:=hp.ty hn (aa_ hc) (by decide);have ht:=TI.tyR hn (aa_ hc) (by decide);have y3b:w2.cell? ⟨vb,i*4+3,none⟩=some (.slice r.pa r.pn r.pc):=hj.cellAt F1.hi rfl;obtain⟨cv,hm⟩:=hj.blkAt;have fv:=hm.frozen (i*4+3);clear y3 x1;go_wp2;have ho:w2.grownBy (w2.setCell ⟨vb,i*4+3,none⟩ (.slice (some ⟨ib,0,none⟩) m r.pc)) (some vb):=af_ (Yh _ _) _ _;have hs:=hj.set1 (x':=⟨r.id,r.nm,r.fx,some ⟨ib,0,none⟩,m,r.pc⟩) (v:=.slice (some ⟨ib,0,none⟩) m r.pc) a2_ F1.hi (j:=3) (by decide) rfl;have R4:=R2.ty ho (aa_ hm) (by decide);have hu:=(ht.tyR ho (aa_ hm) (by decide)).filt (f:=file.toList);have hF:=((FrL.of_below (bs:=vb::AU r.pa) hC).new (FrL.of_grown (bs:=[ib]) hn (fun k e=>.inl (by cases e;simp))) (fun k hk=>.inl (by simp at hk;subst hk;rw[hh];simp[AU]))).new (FrL.of_grown (bs:=[vb]) ho (fun k e=>.inl (by cases e;simp))) (fun k hk=>.inl (by simp at hk;subst hk;simp));go_returns;rw[hR.out,hf];exact⟨rfl,_,hs,⟨F1.v.id,F1.v.nm,F1.v.fx,_,R4,hu⟩,hF,⟨fun ad e=>.inl (by cases e;rw[hh];simp[AU]),fun rs hr=>by rw[hh] at hr;rw[co_ (hr.below hC) RI.sl,cv_ (r:=⟨r.id,r.nm,r.fx,some ⟨ib,0,none⟩,m,r.pc⟩) R4.sl];exact DO.sub (List.filter_sublist.filterMap _)⟩⟩
theorem oF_ (S:Addr->Prop)(B vb vn vc i:Nat)(rows:List VR)(r:VR)(y:Vo)(w:World)(F:Foc B vb vn vc i rows r y w)(hS:BR S w):
  Calls prog 176 #[.pointer (some ⟨vb,i*4,none⟩)] w fun e w'=>(y.fx=true∧(∃ a,S a∧e=.returned (BL 6 a))∧w'=w)∨(y.fx=false∧e=.returned .nilIface∧Ae vrs 4 62 w' B (some ⟨vb,0,none⟩) vn vc (rows.set i {r with fx:=true})∧Bd B w' {r with fx:=true} {y with fx:=true}∧w.grownBy w' (some vb)):=by
 have x2:w.cell? ⟨vb,i*4+2,none⟩=some (.bool r.fx):=F.rv.cellAt F.hi rfl;have ha:Hid (r.fx=y.fx):=F.v.fx
 cases hr:r.fx
 ·rw[hr] at x2 ha;obtain⟨cv,hb⟩:=F.rv.blkAt;have fv:=hb.frozen (i*4+2);go_enter func176,ntmps176;go_wp2;have hc:w.grownBy (w.setCell ⟨vb,i*4+2,none⟩ (.bool true)) (some vb):=af_ (Yh _ _) _ _;have he:=F.rv.set1 (x':={r with fx:=true}) (v:=.bool true) a2_ F.hi (j:=2) (by decide) rfl;have V4:=F.v.ty hc (aa_ hb) (by decide) (by decide);go_returns;exact .inr ⟨ha.out.symm,rfl,he,⟨V4.id,V4.nm,rfl,V4.its⟩,hc⟩
 ·rw[hr] at x2 ha;obtain⟨ef,hf,hg⟩:=hS.fixed;have g:w.cell? ⟨5,0,none⟩=_:=hf;go_enter func176,ntmps176;go_wp2;go_returns;exact .inl ⟨ha.out.symm,⟨ef,hg,rfl⟩,rfl⟩
end
end Go.Proofs.YtahenegmbmnmjaaGreatDoor
