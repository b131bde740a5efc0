/- Texts of pools, read and written; what is drawn. -/
import Derived.Test.YteejlahappbalaaGreatDoorU24
import Derived.Test.YteejlahappbalaaGreatDoorU34
import Derived.Test.YteejlahappbalaaGreatDoorU40
import Derived.Test.YteejlahappbalaaGreatDoorU41
set_option maxHeartbeats 20000000
set_option maxRecDepth 100000
namespace Go.Proofs.YteejlahappbalaaGreatDoor
section
open Go Go.RowKit Go.BigFrame Tryz
theorem RT {c:Int}(h:U32 c):bits .and .u32 c 1=c % 2:=by
 have:=bits_mask .u32 32 sJ (fun n h0 h1=>by rw[IntKind.wrap_u32];omega) 1 sJ c h.1 h.2;simpa using this
theorem Jl (s:ByteArray)(w:World)(hs:s.size<=2000000) :
  Calls prog 56 #[.string s] w fun e w'=>e=.returned (.int .u32 (HU s.data.toList))∧w'=w:=by
 obtain⟨R,hR⟩:∃ R,Hid (HU s.data.toList=R):=⟨_,rfl⟩;rw[hR.out];go_enter func56,ntmps56;go_wp2_with fail;go_loop [3,8] (fun sm ix=>∃ (k:Nat) (c:Int),k<=s.size∧ix=.int .i64 k∧sm=.int .u32 c∧U32 c∧Hid (crC (s.data.toList.take k)=c)) (fun _ ix=>s.size-(intOf ix).toNat)
 case atStart=>exact⟨0,4294967295,Zg _,rfl,rfl,⟨sH,sH⟩,rfl⟩
 case round=>
  obtain⟨k,c,hk,rfl,rfl,hU,hI⟩:=hrel;by_cases hlt:k<s.size
  ·have hb:s.data.toList[k]?=some s[k]:=by rw[ZI rV];rfl
   have qh:Hid (crC (s.data.toList.take (k+1))=itC 8 (bits .xor .u32 c ((s[k].toNat:Int) % 4294967296))):=by
    exact pU
   have he:=Ft .xor c ((s[k].toNat:Int) % 4294967296);go_wp2_with fail;generalize bits .xor .u32 c ((s[k].toNat:Int) % 4294967296)=d0 at *;clear hb;go_loop [3,17] (fun sm jx=>∃ (j:Nat) (d:Int),j<=8∧jx=.int .i64 j∧sm=.int .u32 d∧U32 d∧Hid (itC j d0=d)) (fun _ jx=>8-(intOf jx).toNat)
   case atStart=>exact⟨0,d0,sH,rfl,rfl,he,rfl⟩
   case round=>
    obtain⟨j,d,hj,rfl,rfl,hV,hJ⟩:=hrel;by_cases hj8:j<8
    ·have hn:Hid (itC (j+1) d0=stC d):=by show stC (itC j d0)=_;rw[hJ.out]
     have hu:=NU hV;have ha:Hid (bits .and .u32 d 1=d % 2):=RT hV;have hf:=hV.1;have hg:=hV.2;by_cases hp:d % 2=1
     ·have hc:bits .and .u32 d 1=1:=by rw[ha.out,hp]
      have jm:Hid (stC d=bits .xor .u32 (d / 2) 3988292384):=by show stC d=_;unfold stC;rw[if_pos hp]
      exact ma
     ·have hc:bits .and .u32 d 1=0:=by rw[ha.out];omega
      have jm:Hid (stC d=d / 2):=by show stC d=_;unfold stC;rw[if_neg hp]
      exact ma
    ·exact mX
  ·obtain rfl:k=s.size:=sH;have qd:Hid (R=bits .xor .u32 4294967295 c):=by
    show _=_;rw[<-hR.out,HU,<-hI.out,Zk sK]
   go_wp2;go_returns;go_light;exact⟨rx,rfl⟩
theorem GV (n:Int)(w:World)(h:U32 n) :
  Calls prog 54 #[.int .u32 n] w fun e w'=>e=.returned (.string (hiB n))∧Below w.heap.size w w':=by
 obtain⟨h0,h1⟩:=h;have ha:=Px;go_enter func54,ntmps54;go_wp2;exact mM
theorem Hs (n:Int)(w:World)(h:U32 n) :
  Calls prog 55 #[.int .u32 n] w fun e w'=>e=.returned (.string (loB n))∧Below w.heap.size w w':=by
 obtain⟨h0,h1⟩:=h;have ha:=Px;go_enter func55,ntmps55;go_wp2;exact mM
end
section
open Go Go.RowKit Go.BigFrame Go.Shelf Tryz
theorem N0 (p:Po):¬ (⟨(Ay p).toArray⟩:ByteArray).toList=[]:=by
 have h:Ay p≠[]:=by unfold Ay Ah;simp
 rw[Zu];simpa using h
theorem PQ {T:ByteArray}(h:¬ T.toList=[]):T.toList.isEmpty=false:=by
 cases hc:T.toList with
 |nil=>exact absurd hc h
 |cons x l=>rfl
theorem mB{p:Prop}(h:p:=by
 go_wp2;go_returns
 exact⟨rfl,qe⟩):p:=h
theorem Iy (B0:Nat)(v:Value)(p:Po)(n:Int)(w:World)(h:AC B0 w v p)(hd:A7 p)(hN:Ai p=true->Je p)(ht:Gx w)(hg:9<=w.heap.size) :
  Calls prog 21 #[.int .i64 n,v] w fun e w'=>e=.returned (.string (Db n p))∧Below w.heap.size w w':=by
 have hr:=h;obtain⟨ea,en,ec,va,vn,vc,ra,rn,rc,la,ln,lc,rfl,_,_,_,h4,_⟩:=h;have he:Hid (p.lt.length=ln):=h4.len;clear h4;have C:=Blk.new w #[.int .i64 p.size,.int .i64 p.next,.slice ea en ec,.slice va vn vc,.slice ra rn rc,.slice la ln lc] 33;have ha:Below w.heap.size w (w.alloc (.cells #[.int .i64 p.size,.int .i64 p.next,.slice ea en ec,.slice va vn vc,.slice ra rn rc,.slice la ln lc] 33)):=sM;have kt:=fun (u:World) (hu:Below w.heap.size w u)=>Jh B0 _ p u (hr.below hu) hd hN (BN ht hu hg) (by have:=hu.size;omega);obtain⟨T,hT⟩:∃ z,Hid (B9 p=z):=⟨_,rfl⟩;rw[hT.out] at kt;by_cases hx:(0<=n∧n<=1000000000)∧Ai p=true∧p.lt=[]
 ·obtain⟨⟨h0,h1⟩,hp,hl⟩:=hx;have hs:ln=0:=by rw[<-he.out,hl];rfl
  subst hs;have hj:Hid (T=⟨(Ay p).toArray⟩):=by show _=_;rw[<-hT.out];unfold B9;rw[hp];rfl
  have hc:¬ T.toList=[]:=by rw[hj.out];exact N0 p
  have hm:=PQ hc;have hv:T.size<=1000000:=by rw[hj.out];show (Ay p).toArray.size<=_;simpa using (hN hp).len
  obtain⟨dn,hk⟩:∃ zz,Hid (AG n=zz):=⟨_,rfl⟩;have hy:dn.size<=13:=by rw[<-hk.out];exact Cq sH sH
  obtain⟨b,hb⟩:∃ z,Hid (z=dn++⟨#[10]⟩++T):=⟨_,rfl⟩;have hn:Hid (b=⟨(BO n (Ay p)).toArray⟩):=by show _=_;rw[hb.out,Nm hk.out hj.out.symm]
  have hw:b.size<=1000014:=by
   rw[hn.out];show (BO n (Ay p)).toArray.size<=_;simpa using Ij h0 h1 (hN hp).len
  have e1:¬ 9223372036854775807<dn.size+(⟨#[10]⟩:ByteArray).size:=by show ¬ _<_+1;omega
  have e2:¬ 9223372036854775807<dn.size+(⟨#[10]⟩:ByteArray).size+T.size:=by show ¬ _<_+1+_;omega
  have qd:Hid (Db n p=hiB b.size++b++loB (HU b.data.toList)):=by
   show _=_;rw[I8 h0 h1 hp hl];unfold Cp;rw[hn.out];have:((⟨(BO n (Ay p)).toArray⟩:ByteArray).size)=(BO n (Ay p)).length:=by show (BO n (Ay p)).toArray.size=_;simp
   rw[this]
  generalize Db n p=R at *;go_enter func21,ntmps21;go_wp2_with fail;generalize w.alloc (.cells #[.int .i64 p.size,.int .i64 p.next,.slice ea en ec,.slice va vn vc,.slice ra rn rc,.slice la 0 lc] 33)=W at *;refine (kt W ha).mono ?_;rintro e w1 ⟨rfl,qe⟩;have c5:=(C.below qe).cell 5;replace qe:=Aa ha qe;clear C ha kt;go_wp2_with fail;refine (AF n _ sH sH (BN ht qe hg)).mono ?_;rintro e w2 ⟨rfl,hf⟩;rw[hk.out];replace hf:=Aa qe hf;go_wp2_with fail;have ho:(dn.size:Int)+1+T.size=b.size:=by
   rw[hb.out,kX_,kX_];show _=((dn.size+1+T.size:Nat):Int);omega
  rw[ho,<-hb.out];clear ho;refine (GV b.size _ ⟨sH,sH⟩).mono ?_;rintro e w3 ⟨rfl,hh⟩;replace hh:=Aa hf hh;obtain⟨H,hH⟩:∃ z,Hid (hiB b.size=z):=⟨_,rfl⟩;obtain⟨L,hL⟩:∃ z,Hid (loB (HU b.data.toList)=z):=⟨_,rfl⟩;have e3:¬ 9223372036854775807<H.size+b.size:=by
   have:H.size=4:=by rw[<-hH.out,hiB,strOfNums_size];rfl
   omega
  have e4:¬ 9223372036854775807<H.size+b.size+L.size:=by
   have:H.size=4:=by rw[<-hH.out,hiB,strOfNums_size];rfl
   have:L.size=4:=by rw[<-hL.out,loB,strOfNums_size];rfl
   omega
  rw[hH.out,hL.out] at qd;rw[hH.out];go_wp2_with fail;refine (Jl b _ sH).mono ?_;rintro e w4 ⟨rfl,rfl⟩;go_wp2_with fail;refine (Hs (HU b.data.toList) _ (Ft _ _ _)).mono ?_;rintro e w5 ⟨rfl,hq⟩;rw[hL.out];go_wp2;go_returns;exact⟨rx,Aa hh hq⟩
 ·rw[HH hx];go_enter func21,ntmps21;go_wp2_with fail;generalize w.alloc (.cells #[.int .i64 p.size,.int .i64 p.next,.slice ea en ec,.slice va vn vc,.slice ra rn rc,.slice la ln lc] 33)=W at *;refine (kt W ha).mono ?_;rintro e w1 ⟨rfl,qe⟩;have c5:=(C.below qe).cell 5;replace qe:=Aa ha qe;clear C ha kt;by_cases x0:n<0
  ·exact mB
  ·by_cases x1:1000000000<n
   ·exact mB
   ·cases hp:Ai p
    ·have hc:T.toList=[]:=by
      rw[<-hT.out];unfold B9;rw[hp,if_neg sK,Zu]
     have hm:T.toList.isEmpty=true:=by rw[hc];rfl
     exact mB
    ·have hc:¬ T.toList=[]:=by rw[<-hT.out];unfold B9;rw[hp];exact N0 p
     have hm:=PQ hc;have hl:0<ln:=by
      rcases Nat.eq_zero_or_pos ln with h | h
      ·exact absurd ⟨⟨sH,sH⟩,hp,Zt (by rw[he.out];exact h)⟩ hx
      ·exact h
     exact mB
end
section
open Go.Shelf Go.RowKit Go.Lib Tryz
def Se:Go.Shelf.Ren:=⟨fun | 145=>18 | 220=>47 | 219=>100 | 217=>141 | 225=>142 | 224=>143 | 267=>144 | 266=>181 | 314=>182 | n=>n,fun | 9=>9 | 4=>4 | 59=>54 | 3=>3 | 5=>5 | 46=>174 | 146=>238 | 51=>108 | n=>n,fun | 1=>1 | n=>n⟩
theorem cuL:Lays.n145 Tryz.prog Se where
 mixed:=by kernel_rfl
 f145:=Tryz.func18.trans (congrArg some sI)
 f217:=Tryz.func141.trans (congrArg some sI)
 f219:=Tryz.func100.trans (congrArg some sI)
 f220:=Tryz.func47.trans (congrArg some sI)
 f224:=Tryz.func143.trans (congrArg some sI)
 f225:=Tryz.func142.trans (congrArg some sI)
 f266:=Tryz.func181.trans (congrArg some sI)
 f267:=Tryz.func144.trans (congrArg some sI)
 f314:=Tryz.func182.trans (congrArg some sI)
 t3:=Tryz.underlying3
 a3:=Tryz.isAgg3
 z3:=Tryz.sizeOf3
 v3:=Tryz.zeroValue3
 t4:=Tryz.underlying4
 a4:=Tryz.isAgg4
 z4:=Tryz.sizeOf4
 v4:=Tryz.zeroValue4
 t5:=Tryz.underlying5
 a5:=Tryz.isAgg5
 z5:=Tryz.sizeOf5
 v5:=Tryz.zeroValue5
 t9:=Tryz.underlying9
 a9:=Tryz.isAgg9
 z9:=Tryz.sizeOf9
 v9:=Tryz.zeroValue9
 t46:=Tryz.underlying174
 a46:=Tryz.isAgg174
 z46:=Tryz.sizeOf174
 v46:=Tryz.zeroValue174
 t51:=Tryz.underlying108
 a51:=Tryz.isAgg108
 z51:=Tryz.sizeOf108
 v51:=Tryz.zeroValue108
 t59:=Tryz.underlying54
 a59:=Tryz.isAgg54
 z59:=Tryz.sizeOf54
 v59:=Tryz.zeroValue54
 t146:=Tryz.underlying238
 a146:=Tryz.isAgg238
 z146:=Tryz.sizeOf238
 v146:=Tryz.zeroValue238
 g1:=by kernel_rfl
end
section
open Go Go.RowKit Go.BigFrame Tryz
theorem Kf (w:World)(k:Nat):Below w.heap.size w (w.drewN k):=⟨rfl,rfl,rfl,Zd _,fun _ _=>rfl⟩
theorem Ko (s:ByteArray)(w:World)(hs:s.size<=1000000)(hG:Glb w) :
  Calls prog 19 #[.string s] w fun e w'=>e=.returned (Gl (numP s.data.toList))∧Below w.heap.size w w':=by
 obtain⟨t,ht⟩:∃ t:ByteArray,Hid ((⟨(CT s.data.toList).toArray⟩:ByteArray)=t):=⟨_,rfl⟩;have hc:t.size=(CT s.data.toList).length:=by rw[<-ht.out,Lib.size_eq]
 have hf:t.size<=1000000:=by
  have h1:=N6 s.data.toList;have h2:=Lib.size_eq s;omega
 exact ll
theorem Ue (l:By):(Lib.cut l [10]).1=hdB l∧(Lib.cut l [10]).2.1=tlB l:=by
 unfold Lib.cut hdB tlB;rw[EE 10 l]
 cases hc:cutB 10 l with
 |none=>simp
 |some q=>
  obtain⟨h1,_⟩:=Bq (a:=q.1) (b:=q.2) hc;simp only;rw[if_pos sH];refine ⟨by rw[h1];simp,?_⟩;have:(q.1.length:Int).toNat+[(10:UInt8)].length=(q.1++[10]).length:=sK;simp only;rw[this,h1,show q.1++10::q.2=(q.1++[10])++q.2 by simp,List.drop_left]
theorem FC (s:ByteArray)(w:World)(hs:s.size<=2000000)(hG:Glb w) :
  Calls prog 9 #[.string s] w fun e w'=>(∃ v,e=.returned (.tuple #[.int .i64 ((rsO s).elim 0 (·.1)),v,.bool (rsO s).isSome])∧AK w.heap.size w' v ((rsO s).elim Ao (·.2)))∧Below w.heap.size w w':=by
 obtain⟨A,hA⟩:∃ A,Hid (rsO s=A):=⟨_,rfl⟩;rw[hA.out];have qG:Below w.heap.size w (w.alloc (.cells #[.int .i64 0,.int .i64 0,.slice none 0 0,.slice none 0 0,.slice none 0 0,.slice none 0 0] 33)):=(Yg _ _).alloc (Zd _) _;have QB:=Blk.new w #[.int .i64 0,.int .i64 0,.slice none 0 0,.slice none 0 0,.slice none 0 0,.slice none 0 0] 33;by_cases hb:8<=s.size∧s.size<=120000
 ·obtain⟨zN,kg⟩:=hb;obtain⟨M,hM⟩:∃ M,Hid (bA (El s.data.toList)=M):=⟨_,rfl⟩;have ht:M.size<=120000:=oI;obtain⟨Lb,jf⟩:∃ L,Hid (bA (hdB (El s.data.toList))=L):=⟨_,rfl⟩;obtain⟨Tb,je⟩:∃ L,Hid (bA (tlB (El s.data.toList))=L):=⟨_,rfl⟩;have k8:Hid (A=(numP Lb.data.toList).bind fun n=>(Dh Tb.data.toList).bind fun p=>if Db n p=s then some (n,p) else none):=by
   exact sk
  have hy:∀ u:World,(Instr.slice 9 (.string s) (some (.int .i64 4)) (some (.int .i64 ((s.size:Int)-4))) none).run prog u=.ok (.string M) u:=fun u=>by
   exact mC
  have hv:Tb.size<=120000:=rS;have hr:Lb.size<=120000:=rT;have qc:∀ u:World,Glb u->Calls prog 18 #[.string M,.string ⟨#[10]⟩] u fun e w'=>(∃ b,e=.returned (.tuple #[.string Lb,.string Tb,.bool b]))∧Below u.heap.size u w':=fun u hu=>by
   obtain⟨m,hm⟩:=hu.mx;refine (Any.strings_Cut cuL M ⟨#[10]⟩ m u sH hm).mono ?_;rintro e w' ⟨rfl,k,rfl⟩;have ho:M.data.toList=El s.data.toList:=by rw[<-hM.out,Ak]
   obtain⟨c1,c2⟩:=Ue M.data.toList;refine ⟨⟨(Lib.cut M.data.toList [10]).2.2,?_⟩,Kf _ k⟩;show Ending.returned (Value.tuple #[Value.string (bA (Lib.cut M.data.toList [10]).1),Value.string (bA (Lib.cut M.data.toList [10]).2.1),_])=_;rw[c1,c2,ho,jf.out,je.out]
  have qn:∀ u:World,Glb u->Calls prog 19 #[.string Lb] u fun e w'=>e=.returned (Gl (numP Lb.data.toList))∧Below u.heap.size u w':=fun u hu=>Ko Lb u sH hu;have qr:=fun (u:World) (hu:Glb u)=>Jj Tb u sH hu;go_enter func9,ntmps9;go_wp2_with fail;generalize w.alloc (.cells #[.int .i64 0,.int .i64 0,.slice none 0 0,.slice none 0 0,.slice none 0 0,.slice none 0 0] 33)=W0 at *;have G:=hG.below qG;refine (qc W0 G).mono ?_;rintro e w1 ⟨⟨bb,rfl⟩,hc⟩;replace QB:=QB.below hc;replace G:=G.below hc;replace qG:=Aa qG hc;clear hc qc;go_wp2_with fail;refine (qn w1 G).mono ?_;rintro e w2 ⟨rfl,he⟩;replace QB:=QB.below he;replace G:=G.below he;replace qG:=Aa qG he;clear he qn;obtain⟨n,nb,kx,hk⟩:∃ n nb,Hid ((numP Lb.data.toList).isSome=nb∧(numP Lb.data.toList).getD 0=n)∧Gl (numP Lb.data.toList)=.tuple #[.int .i64 n,.bool nb]:=by
   exact pA
  rw[hk];clear hk;obtain⟨ab,kz⟩:∃ ab,Hid ((Dh Tb.data.toList).isSome=ab):=⟨_,rfl⟩;obtain⟨p,hp⟩:∃ p,Hid ((Dh Tb.data.toList).getD Ao=p):=⟨_,rfl⟩;have hl:A7 p:=dM;rw[kz.out,hp.out] at qr;go_wp2_with fail;refine (qr w2 G).mono ?_;rintro e w3 ⟨⟨v,rfl,M3⟩,hj⟩;obtain⟨ea,en,ec,va,vn,vc,ra,rn,rc,la,ln,lc,vr,rfl,_⟩:=M3.out;have hg:Below w3.heap.size w3 (w3.alloc (.cells #[.int .i64 p.size,.int .i64 p.next,.slice ea en ec,.slice va vn vc,.slice ra rn rc,.slice la ln lc] 33)):=(Yg _ _).alloc (Zd _) _;obtain⟨b3,qD⟩:∃ b,b=w3.heap.size:=⟨_,rfl⟩;have P3:Blk (w3.alloc (.cells #[.int .i64 p.size,.int .i64 p.next,.slice ea en ec,.slice va vn vc,.slice ra rn rc,.slice la ln lc] 33)) b3 #[.int .i64 p.size,.int .i64 p.next,.slice ea en ec,.slice va vn vc,.slice ra rn rc,.slice la ln lc] 33:=Blk.new' _ _ _ _ qD;have hf:=Aa hj hg;have hq:=qG.size;have hw:=QB.lt;have hx:=hj.size;replace QB:=QB.below hf;replace G:=G.below hf;replace M3:=(M3.below hg).mono hq;replace qG:=Aa qG hf;have hne:b3≠w.heap.size:=dz;clear hj hg hf qr;obtain⟨x0,x1,x2,x3,x4,x5⟩:=P3.sixM;go_upto_region 6 with fail;rw[<-qD];clear qD;generalize w3.alloc (.cells #[.int .i64 p.size,.int .i64 p.next,.slice ea en ec,.slice va vn vc,.slice ra rn rc,.slice la ln lc] 33)=W3 at *;by_cases hok:nb=true∧ab=true
  ·obtain⟨rfl,rfl⟩:=hok;have kG:Hid (A=if Db n p=s then some (n,p) else none):=by
    exact mj
   clear kx kz hp k8;obtain⟨S,hS⟩:∃ S,Hid (Db n p=S):=⟨_,rfl⟩;have qs:=Iy 0 _ p n W3 (M3.at.mono (Zg _)) hl EW G.tab G.sz;exact lg
  ·have hh:A=none:=by
    exact mw
   subst hh
   cases nb with
   |false=>
    exact lm
   |true=>
    cases ab with
    |false=>
     exact lm
    |true=>exact absurd ⟨rfl,rfl⟩ hok
 ·have hh:A=none:=by rw[<-hA.out,rsO,if_neg hb]
  subst hh;go_enter func9,ntmps9;go_upto_region 1 with fail;generalize w.alloc (.cells #[.int .i64 0,.int .i64 0,.slice none 0 0,.slice none 0 0,.slice none 0 0,.slice none 0 0] 33)=W0 at *;rcases Nat.lt_or_ge 120000 s.size with h1 | h1
  ·have h2:¬ ((s.size:Int)<8):=sH;exact lp
  ·have h2:(s.size:Int)<8:=sH;have h3:¬ ((120000:Int)<s.size):=sH;exact lp
def doD (d:Dk)(o:Dp):Dk×Int:=if Az d=true then DE d o else (noD,1)
theorem Uf {d:Dk}(o:Dp)(h:Az d=false):doD d o=(noD,1):=by simp[doD,h]
theorem Sm {d:Dk}(o:Dp)(h:Az d=true):doD d o=DE d o:=by simp[doD,h]
theorem Rb (v:Value)(d:Dk)(o:Dp)(w:World)(h:Bv w v d)(hd:Dg d)(ho:Gw o∧o.d.size<=10000000) :
  Calls prog 34 #[v,.agg #[.int .i64 o.k,.string o.nm,.string o.tt,.string o.d]] w fun e w'=>(∃ v',e=.returned (.tuple #[v',.int .i64 (doD d o).2])∧A5 (w.heap.size+1) w' v' (doD d o).1∧((doD d o).2=0->TX v'))∧Below w.heap.size w w':=by
 have hD:=h;obtain⟨la,ln,lc,sa,sn,sc,oa,on,oc,rfl⟩:=h.l.cells;obtain⟨W0,qx⟩:∃ W0,W0=((w.alloc (.cells #[.slice la ln lc,.slice sa sn sc,.slice oa on oc] 27)).alloc (.cells #[.int .i64 o.k,.string o.nm,.string o.tt,.string o.d] 89)).alloc (.cells #[.slice none 0 0,.slice none 0 0,.slice none 0 0] 27):=⟨_,rfl⟩;have he:Below w.heap.size w W0:=o8;have K0:Blk W0 w.heap.size #[.slice la ln lc,.slice sa sn sc,.slice oa on oc] 27:=fj;have K1:Blk W0 (w.heap.size+1) #[.int .i64 o.k,.string o.nm,.string o.tt,.string o.d] 89:=by rw[qx];exact (Blk.new' _ _ _ _ sK).alloc _
 have K2:Blk W0 (w.heap.size+1+1) #[.slice none 0 0,.slice none 0 0,.slice none 0 0] 27:=by rw[qx];exact Blk.new' _ _ _ _ sK
 have zM:Hid (W0.heap.size=w.heap.size+1+1+1):=o9;go_enter func34,ntmps34;go_wp2_with fail;rw[<-qx];clear qx;refine (Dt _ d W0 (hD.below he) hd).mono ?_;rintro e w1 ⟨rfl,qe⟩;replace K0:=K0.below qe;replace K1:=K1.below qe;replace K2:=K2.below qe;have zC:Hid (w.heap.size+1+1+1<=w1.heap.size):=oB;replace qe:=Aa he qe;clear he zM
 cases hg:Az d
 ·have hr:Hid (doD d o=(noD,1)):=Uf o hg;obtain⟨⟨z0,z1,z2⟩,f0,f1,f2⟩:=Av K2;have NR:=G7 (w.heap.size+1+1+1) w1;go_wp2;have E8:=K2.put3 (x:=.slice none 0 0) (y:=.slice none 0 0) (z:=.slice none 0 0);have ha:=AW w1 (w.heap.size+1+1) (.slice none 0 0) (.slice none 0 0) (.slice none 0 0);have hc:=NR.off ha sH;have hf:=ao_ qe ha sH;generalize ((w1.setCell ⟨w.heap.size+1+1,0,none⟩ (.slice none 0 0)).setCell ⟨w.heap.size+1+1,1,none⟩ (.slice none 0 0)).setCell ⟨w.heap.size+1+1,2,none⟩ (.slice none 0 0)=W8 at *;refine YW (ad_ rfl _ W8 (w.heap.size+1+1) _ _ _ _ _ rfl E8 underlying27 rfl sI rfl) rfl ?_;exact⟨⟨_,by rw[hr.out]<;>rfl,by rw[hr.out];exact hc.mono sH,fun h0=>by rw[hr.out] at h0;simp at h0⟩,hf⟩
 ·have hr:Hid (doD d o=DE d o):=Sm o hg;obtain⟨x0,x1,x2⟩:=K0.three;obtain⟨y0,y1,y2,y3⟩:=Fu K1;go_wp2_with fail;refine (Es _ d o w1 (hD.below qe) hd (BR hg).1 ho).mono ?_;rintro e w2 ⟨⟨v2,rfl,R2,hh⟩,hb⟩;replace K2:=K2.below hb;replace hb:=Aa qe hb;obtain⟨la9,ln9,lc9,sa9,sn9,sc9,oa9,on9,oc9,rfl⟩:=R2.at.l.cells;obtain⟨⟨z0,z1,z2⟩,f0,f1,f2⟩:=Av K2;clear x0 x1 x2 y0 y1 y2 y3;go_wp2;have E8:=K2.put3 (x:=.slice la9 ln9 lc9) (y:=.slice sa9 sn9 sc9) (z:=.slice oa9 on9 oc9);have ha:=AW w2 (w.heap.size+1+1) (.slice la9 ln9 lc9) (.slice sa9 sn9 sc9) (.slice oa9 on9 oc9);have hc:=R2.off ha rJ;have hf:=ao_ hb ha sH;generalize ((w2.setCell ⟨w.heap.size+1+1,0,none⟩ (.slice la9 ln9 lc9)).setCell ⟨w.heap.size+1+1,1,none⟩ (.slice sa9 sn9 sc9)).setCell ⟨w.heap.size+1+1,2,none⟩ (.slice oa9 on9 oc9)=W8 at *;refine YW (ad_ rfl _ W8 (w.heap.size+1+1) _ _ _ _ _ rfl E8 underlying27 rfl sI rfl) rfl ?_;exact⟨⟨_,by rw[hr.out]<;>rfl,by rw[hr.out];exact hc.mono rJ,fun h0=>hh (by rw[hr.out] at h0;exact h0)⟩,hf⟩
theorem Tn (v:Value)(d:Dk)(o:Dp)(w:World)(h:Bv w v d)(hd:Dg d)(ho:Gw o∧o.d.size<=10000000) :
  Calls prog 34 #[v,.agg #[.int .i64 o.k,.string o.nm,.string o.tt,.string o.d]] w fun e w'=>(∃ v',e=.returned (.tuple #[v',.int .i64 (doD d o).2])∧A5 (w.heap.size+1) w' v' (doD d o).1)∧Below w.heap.size w w':=by
 refine (Rb v d o w h hd ho).mono ?_;rintro e w' ⟨⟨v',h1,h2,_⟩,h3⟩;exact⟨⟨v',h1,h2⟩,h3⟩
end
section
open Go.RowKit Go.BigFrame Tryz
def LV (s n:Int):Value:=.agg #[.int .i64 s,.int .i64 n,.slice none 0 0,.slice none 0 0,.slice none 0 0,.slice none 0 0]
def HB (size:Int):Bool:=decide (1<=size)&&decide (size<=400)
theorem KA (size:Int)(w:World) :
  Calls prog 65 #[.int .i64 size] w fun e w'=>e=.returned (.tuple #[if HB size=true then LV size 1 else LV 0 0,.bool (HB size)])∧Below w.heap.size w w':=by
 cases hn:HB size;all_goals
  have ha:(decide (1<=size)&&decide (size<=400))=_:=hn;go_enter func65,ntmps65;go_wp2_with fail;refine (ai_ _ _ _ _).mono ?_;rintro e w1 ⟨rfl,rfl⟩;rw[ha];go_wp2;go_returns;go_light;exact⟨rfl,sM⟩
end
section
open Go Go.RowKit Go.BigFrame Tryz
def opN (F:ByteArray):Dp:=⟨1,s0N,⟨#[]⟩,F⟩
def OJ (F:ByteArray):Dk:=⟨[⟨s0N,F⟩],[⟨s0N,F⟩],[]⟩
theorem FW {F:ByteArray}(h:F.size<=200000):Aq [⟨s0N,F⟩]=true:=by
 unfold Aq;have h1:fgo none [⟨s0N,F⟩]=true:=by
  simp only[fgo];decide
 rw[h1];simp[sumB,h]
theorem Lt (F:ByteArray):AP (opN F)=true:=by
 unfold AP opN;have h1:nmB s0N=true:=sJ;have h2:emB ⟨#[]⟩=true:=by unfold emB;simp
 simp[h1,h2]
theorem PN (F:ByteArray):doF [] (opN F)=([⟨s0N,F⟩],true):=rfl
theorem Nh {F:ByteArray}(h:F.size<=200000):DE noD (opN F)=(⟨[⟨s0N,F⟩],[],[opN F]⟩,0):=by
 unfold DE;rw[Lt];simp only[noD,PN,FW h];simp
theorem Rk {F:ByteArray}(h:F.size<=200000):Fh ⟨[⟨s0N,F⟩],[],[opN F]⟩=OJ F:=by
 refine J2 ?_;have h2:runF [] [opN F]=some [⟨s0N,F⟩]:=by
  rw[runF,PN,Lt,FW h];rfl
 unfold Az;simp only[h2,FW h];have h3:Aq []=true:=sJ;simp[h3,GB]
end
section
open Go Go.RowKit Go.BigFrame Go.Shelf Tryz
def BY (size:Int):Po:=⟨size,1,[],[],[],[]⟩
theorem LU (B:Nat)(w:World)(size:Int):AC B w (LV size 1) (BY size):=by
 have e:∀ {α:Type} {cs:α->List Value} {sz:Nat},AH cs sz w none 0 ([]:List α):=fun {α cs sz}=>⟨rfl,fun i x hx=>by simp at hx⟩;have hd:Hd B none 0 0:=⟨Zd _,Zg _,fun _=>⟨fun _=>rfl,fun ad e=>by cases e⟩⟩;have sf:Sf B w none:=fun _ ad e=>by cases e
 exact⟨none,0,0,none,0,0,none,0,0,none,0,0,rfl,⟨e,hd,sf⟩,⟨⟨rfl,fun i x hx=>by simp[BY] at hx⟩,hd⟩,⟨e,hd,sf⟩,e,hd,sf⟩
theorem QG {size:Int}(h:HB size=true):Ai (BY size)=true:=by
 simp only[HB,Zf,ZU] at h;have h1:Af size []=true:=by simp[Af,xgo,h]
 have h2:Ai (BY size)=Af size []:=by
  unfold Ai BY;simp only[h1];have e:∀ b:Bool,b=true->(true&&decide ((1:Int)<=1)&&decide ((1:Int)<=1000000000)&&Fj 1 [] []&&ET []&&b&&DW [] ([]++[]))=true:=fun b hb=>by subst hb;decide
  refine e _ ?_;rw[show As [] []=some [] from rfl];rfl
 rw[h2,h1]
theorem JU (size:Int):A7 (BY size):=by
 unfold A7 BY Strs KV Cx;simp
def LO (size:Int):ByteArray:=Cp 0 (Ay (BY size))
theorem JS {size:Int}(h:HB size=true):(LO size).size<=200000:=by
 simp only[HB,Zf,ZU] at h;have d1:=Cq (n:=size) sH sH;have d2:=Cq (n:=1) sH sH;have d3:=Cq (n:=0) sH sH;have t:(Ay (BY size)).length<=40:=by
  have h1:=Cu (hdW (BY size));have h2:(Ay (BY size)).length=(Du (hdW (BY size))).length+1:=by
   unfold Ay Ah BY EA Cc Bz;simp
  rw[h2];have h3:(⟨#[112,111,111,108]⟩:ByteArray).size=4:=rfl;simp[hdW,BY,h3] at h1 ⊢;omega
 have b:(BO 0 (Ay (BY size))).length<=60:=by
  unfold BO;simp at t ⊢;omega
 unfold LO Cp;rw[kX_,kX_,hiB,loB,strOfNums_size,strOfNums_size];have:((⟨(BO 0 (Ay (BY size))).toArray⟩:ByteArray).size)=(BO 0 (Ay (BY size))).length:=by show (BO 0 (Ay (BY size))).toArray.size=_;simp
 rw[this];simp;omega
def Re (l s o:Value)(size next num:Int):Array Value:=#[l,s,o,.int .i64 size,.int .i64 next,.slice none 0 0,.slice none 0 0,.slice none 0 0,.slice none 0 0,.int .i64 num]
def stZ:Value:=.agg (Re (.slice none 0 0) (.slice none 0 0) (.slice none 0 0) 0 0 0)
theorem Qw {size:Int}(h:HB size=true):Je (BY size):=EW (QG h)
theorem LQ {F:ByteArray}(h:F.size<=200000):Gw (opN F)∧(opN F).d.size<=10000000:=⟨⟨by show (2:Nat)<=9223372036854775807;omega,by show (0:Nat)<=9223372036854775807;omega,by show F.size<=_;omega⟩,by show F.size<=_;omega⟩
theorem Qv {F:ByteArray}(h:F.size<=200000):Dg ⟨[⟨s0N,F⟩],[],[opN F]⟩:=by
 refine ⟨⟨sK,?_⟩,⟨sK,?_⟩,sK,?_⟩
 ·intro x hx;simp at hx;subst hx;exact⟨by show (2:Nat)<=9223372036854775807;omega,by show F.size<=_;omega⟩
 ·simp[If]
 ·intro o ho;simp at ho;subst ho;exact LQ h
theorem Uw (w:World):Bv w (.agg #[.slice none 0 0,.slice none 0 0,.slice none 0 0]) noD:=(G7 0 w).at
theorem SK:Dg noD:=by
 refine ⟨⟨by simp[noD],?_⟩,⟨by simp[noD],?_⟩,by simp[noD],?_⟩
 ·simp[noD,If]
 ·simp[noD,If]
 ·simp[noD]
theorem Jr (size:Int)(w:World) :
  Calls prog 29 #[.int .i64 size] w fun e w'=>((HB size=false∧e=.returned (.tuple #[stZ,.bool false]))∨(HB size=true∧∃ la ln lc sa sn sc oa on oc,e=.returned (.tuple #[.agg (Re (.slice la ln lc) (.slice sa sn sc) (.slice oa on oc) size 1 0),.bool true])∧A5 (w.heap.size+1) w' (.agg #[.slice la ln lc,.slice sa sn sc,.slice oa on oc]) (OJ (LO size))))∧Below w.heap.size w w':=by
 have C:=Blk.new w #[.slice none 0 0,.slice none 0 0,.slice none 0 0,.int .i64 0,.int .i64 0,.slice none 0 0,.slice none 0 0,.slice none 0 0,.slice none 0 0,.int .i64 0] 45;have hj:Below w.heap.size w (w.alloc (.cells #[.slice none 0 0,.slice none 0 0,.slice none 0 0,.int .i64 0,.int .i64 0,.slice none 0 0,.slice none 0 0,.slice none 0 0,.slice none 0 0,.int .i64 0] 45)):=sM;go_enter func29,ntmps29;go_wp2_with fail;generalize w.alloc (.cells #[.slice none 0 0,.slice none 0 0,.slice none 0 0,.int .i64 0,.int .i64 0,.slice none 0 0,.slice none 0 0,.slice none 0 0,.slice none 0 0,.int .i64 0] 45)=W0 at *;refine (KA size W0).mono ?_;rintro e w1 ⟨rfl,ha⟩;replace C:=C.below ha;replace ha:=Aa hj ha;clear hj;have hk:=C.lt
 cases hn:HB size
 ·rw[if_neg sK];unfold LV;go_upto_region 3 with fail;have A1:Below w1.heap.size w1 (w1.alloc (.cells #[.int .i64 0,.int .i64 0,.slice none 0 0,.slice none 0 0,.slice none 0 0,.slice none 0 0] 33)):=sM;replace C:=C.below A1;replace ha:=Aa ha A1;generalize w1.alloc (.cells #[.int .i64 0,.int .i64 0,.slice none 0 0,.slice none 0 0,.slice none 0 0,.slice none 0 0] 33)=W1 at *;clear A1 hk;obtain⟨⟨c0,c1,c2,c3,c4,c5,c6,c7,c8,c9⟩,f0,f1,f2,f3,f4,f5,f6,f7,f8,f9⟩:=Dd C;have CH:Hid (Blk W1 w.heap.size #[.slice none 0 0,.slice none 0 0,.slice none 0 0,.int .i64 0,.int .i64 0,.slice none 0 0,.slice none 0 0,.slice none 0 0,.slice none 0 0,.int .i64 0] 45):=C;clear C;go_wp2;have E:=CU CH.out (.slice none 0 0) (.slice none 0 0) (.slice none 0 0) (.int .i64 0) (.int .i64 0) (.slice none 0 0) (.slice none 0 0) (.slice none 0 0) (.slice none 0 0) (.int .i64 0);have hg:=ao_ ha (B2 W1 w.heap.size (.slice none 0 0) (.slice none 0 0) (.slice none 0 0) (.int .i64 0) (.int .i64 0) (.slice none 0 0) (.slice none 0 0) (.slice none 0 0) (.slice none 0 0) (.int .i64 0)) (Zd _);change bodyPost _ _ _ _ _ (Ep W1 w.heap.size (.slice none 0 0) (.slice none 0 0) (.slice none 0 0) (.int .i64 0) (.int .i64 0) (.slice none 0 0) (.slice none 0 0) (.slice none 0 0) (.slice none 0 0) (.int .i64 0));generalize Ep W1 w.heap.size (.slice none 0 0) (.slice none 0 0) (.slice none 0 0) (.int .i64 0) (.int .i64 0) (.slice none 0 0) (.slice none 0 0) (.slice none 0 0) (.slice none 0 0) (.int .i64 0)=W8 at *;refine YW (ad_ rfl _ W8 w.heap.size _ _ _ _ _ rfl E underlying45 rfl sI rfl) rfl ?_;exact⟨.inl ⟨hn,rfl⟩,hg⟩
 ·rw[if_pos rfl];unfold LV;go_upto_region 4 with fail;have A1:Below w1.heap.size w1 (w1.alloc (.cells #[.int .i64 size,.int .i64 1,.slice none 0 0,.slice none 0 0,.slice none 0 0,.slice none 0 0] 33)):=sM;have P:=Blk.new w1 #[.int .i64 size,.int .i64 1,.slice none 0 0,.slice none 0 0,.slice none 0 0,.slice none 0 0] 33;replace C:=C.below A1;replace ha:=Aa ha A1;generalize w1.alloc (.cells #[.int .i64 size,.int .i64 1,.slice none 0 0,.slice none 0 0,.slice none 0 0,.slice none 0 0] 33)=W1 at *;clear A1;obtain⟨d0,d1,d2,d3,d4,d5⟩:=P.six;go_wp2_with fail;refine (E7 1 _ (BY size) 0 W1 (LU 1 W1 size) (JU size) (Qw hn) sH sH).mono ?_;rintro e w2 ⟨rfl,hc⟩;have hF:=JS hn;obtain⟨F,hh⟩:∃ F,Hid (LO size=F):=⟨_,rfl⟩;rw[show Cp 0 (Ay (BY size))=LO size from rfl,hh.out];rw[hh.out] at hF;replace C:=C.below hc;replace P:=P.below hc;replace hc:=Aa ha hc;clear ha d0 d1 d2 d3 d4 d5;go_wp2_with fail;refine (Es _ noD (opN F) w2 (Uw w2) SK sJ (LQ hF)).mono ?_;rintro e w3 ⟨⟨v3,rfl,R3,_⟩,hb⟩;rw[Nh hF] at R3;rw[Nh hF];obtain⟨la,ln,lc,sa,sn,sc,oa,on,oc,rfl⟩:=R3.at.l.cells;replace C:=C.below hb;replace P:=P.below hb;replace hb:=Aa hc hb;clear hc;go_upto_region 5 with fail;have A3:Below w3.heap.size w3 (w3.alloc (.cells #[.slice la ln lc,.slice sa sn sc,.slice oa on oc] 27)):=sM;have D:=Blk.new w3 #[.slice la ln lc,.slice sa sn sc,.slice oa on oc] 27;have ho:=C.lt;replace C:=(C.below A3).drew;replace P:=(P.below A3).drew;replace D:=D.drew;replace R3:=(R3.below A3).below (Yg _ _).drew;replace hb:=(Aa hb A3).drew;have hl:(fun u=>(u.cell? ⟨w3.heap.size,0,none⟩=some (.slice la ln lc)∧u.cell? ⟨w3.heap.size,1,none⟩=some (.slice sa sn sc)∧u.cell? ⟨w3.heap.size,2,none⟩=some (.slice oa on oc))∧u.cell? ⟨w1.heap.size,0,none⟩=some (.int .i64 size)∧u.cell? ⟨w1.heap.size,1,none⟩=some (.int .i64 1)∧u.cell? ⟨w1.heap.size,2,none⟩=some (.slice none 0 0)∧u.cell? ⟨w1.heap.size,3,none⟩=some (.slice none 0 0)∧u.cell? ⟨w1.heap.size,4,none⟩=some (.slice none 0 0)∧u.cell? ⟨w1.heap.size,5,none⟩=some (.slice none 0 0)) (w3.alloc (.cells #[.slice la ln lc,.slice sa sn sc,.slice oa on oc] 27)).drew:=⟨D.three,P.six⟩;refine aC_ (S:=(fun u=>(u.cell? ⟨w3.heap.size,0,none⟩=some (.slice la ln lc)∧u.cell? ⟨w3.heap.size,1,none⟩=some (.slice sa sn sc)∧u.cell? ⟨w3.heap.size,2,none⟩=some (.slice oa on oc))∧u.cell? ⟨w1.heap.size,0,none⟩=some (.int .i64 size)∧u.cell? ⟨w1.heap.size,1,none⟩=some (.int .i64 1)∧u.cell? ⟨w1.heap.size,2,none⟩=some (.slice none 0 0)∧u.cell? ⟨w1.heap.size,3,none⟩=some (.slice none 0 0)∧u.cell? ⟨w1.heap.size,4,none⟩=some (.slice none 0 0)∧u.cell? ⟨w1.heap.size,5,none⟩=some (.slice none 0 0))) 6 sI rfl ?_;generalize (w3.alloc (.cells #[.slice la ln lc,.slice sa sn sc,.slice oa on oc] 27)).drew=W3 at *;clear A3;refine tk 0 ?_;refine tk 2 ?_;refine Ag (i:=1) sI rfl (fun K hK=>?_);go_simp;refine (HE _ _ W3 R3.at (Qv hF)).mono ?_;rintro e w4 ⟨⟨v4,rfl,R4⟩,he⟩;rw[Rk hF] at R4;obtain⟨la4,ln4,lc4,sa4,sn4,sc4,oa4,on4,oc4,rfl⟩:=R4.at.l.cells;have hm:=D.lt;replace C:=C.below he;replace P:=P.below he;replace D:=D.below he;replace he:=Aa hb he;clear hb R3;dsimp only;refine hK.out _ _ ⟨D.three,P.six⟩ (fun hHeld=>?_);clear hK K;(try simp only[Act.put,Yj,Yq,Yr]);refine tk 3 ?_;obtain⟨⟨c0,c1,c2,c3,c4,c5,c6,c7,c8,c9⟩,f0,f1,f2,f3,f4,f5,f6,f7,f8,f9⟩:=Dd C;refine Ag (i:=4) sI rfl (fun K hK=>?_);go_simp;have hp:w.heap.size<=W3.heap.size:=sH;have E:=CU C (.slice la4 ln4 lc4) (.slice sa4 sn4 sc4) (.slice oa4 on4 oc4) (.int .i64 size) (.int .i64 1) (.slice none 0 0) (.slice none 0 0) (.slice none 0 0) (.slice none 0 0) (.int .i64 0);have hf:=B2 w4 w.heap.size (.slice la4 ln4 lc4) (.slice sa4 sn4 sc4) (.slice oa4 on4 oc4) (.int .i64 size) (.int .i64 1) (.slice none 0 0) (.slice none 0 0) (.slice none 0 0) (.slice none 0 0) (.int .i64 0);have hg:=ao_ he hf (Zd _);have P8:=P.grown hf sH;have D8:=D.grown hf sH;have R8:=(R4.mono (show w.heap.size+1<=W3.heap.size+1 by omega)).off hf sH;change K _ (Ep w4 w.heap.size (.slice la4 ln4 lc4) (.slice sa4 sn4 sc4) (.slice oa4 on4 oc4) (.int .i64 size) (.int .i64 1) (.slice none 0 0) (.slice none 0 0) (.slice none 0 0) (.slice none 0 0) (.int .i64 0));generalize Ep w4 w.heap.size (.slice la4 ln4 lc4) (.slice sa4 sn4 sc4) (.slice oa4 on4 oc4) (.int .i64 size) (.int .i64 1) (.slice none 0 0) (.slice none 0 0) (.slice none 0 0) (.slice none 0 0) (.int .i64 0)=W8 at *;refine hK.out _ _ ⟨D8.three,P8.six⟩ (fun hHeld=>?_);clear hK K;(try simp only[Act.put,Yj,Yq,Yr]);clear c0 c1 c2 c3 c4 c5 c6 c7 c8 c9 f0 f1 f2 f3 f4 f5 f6 f7 f8 f9;refine tk 5 ?_;refine wpAnyH_done sI ?_ _;go_wp2;refine YW (ad_ rfl _ W8 w.heap.size _ _ _ _ _ rfl E underlying45 rfl sI rfl) rfl ?_;exact⟨.inr ⟨hn,_,_,_,_,_,_,_,_,_,rfl,by rw[hh.out];exact R8⟩,hg⟩
end
section
open Go Go.RowKit Go.BigFrame Tryz
theorem SlH.zero {α:Type}{cs:α->List Value}{sz:Nat}{w:World}{a:Option Addr}{n cap:Nat}{l:List α}(h:SlH cs sz w a n cap l):a=none->n=0∧cap=0:=fun e=>by
 refine ⟨?_,h.nil e⟩
 have hl:=h.sl.len
 cases l with
 |nil=>simpa using hl.symm
 |cons x r=>obtain⟨b,o,e2,_⟩:=h.sl.cell 0 x rfl;rw[e] at e2;cases e2
theorem Qf:∀ (l:List Int),∀ u∈l.flatMap (fun x:Int=>[Value.int .i64 x]),u.oneCell'=true:=by
 intro l u hu;obtain⟨x,_,hx⟩:=ZL.1 hu;simp at hx;subst hx;rfl
theorem Uo:(prog.info? 2).map (fun i=>(i.zero,i.size,i.bytes))=some (some (.int .i64 0),1,8):=by kernel_rfl
theorem Rz {o:Oper}{a:Act}{w:World}{K:Act->World->Prop}{Q:Exit->Act->World->Prop}(s x:Operand)(ho:o.op=.call {callee:=.builtin .append,args:=#[s,x],argTypes:=#[81,81]})
  (B:Nat) (da:Option Addr) (dn dcap:Nat) (ld:List Int) (hs:a.eval s=.slice da dn dcap) (hd:Ac (fun x:Int=>[Value.int .i64 x]) 1 2 w B da dn dcap ld)
  (b:Nat) (y:Int) (hx:a.eval x=.slice (some ⟨b,0,none⟩) 1 1) (hb:Blk w b #[.int .i64 y] 2)
  (h63:dn<=9000000) (hbase:B<=w.heap.size)
  (h:∀ a' cap' w',Ac (fun x:Int=>[Value.int .i64 x]) 1 2 w' B a' (dn+1) cap' (ld++[y])->w.grownBy w' (Value.ownBlock (.slice da dn dcap))->K (a.put o.dst (.slice a' (dn+1) cap')) w'):o.wp prog a w K Q:=by
 obtain⟨i0,hi,ha,hc,he⟩:=info_parts Uo;exact ay_ s x _ ho B _ i0 _ 8 underlying81 hi ha hc he rfl sJ mw_ Qf da dn dcap ld hs hd _ 1 1 [y] hx (op_ mw_ hb) (fun ad h=>by cases h;rfl) (fun h=>by cases h) (dn+1) rfl sO sH hbase h
def AcR (w:World)(B ab M:Nat)(cv zv:Array Value)(u:World):Prop:=(∃ k o pw ka kn kc keep t,Blk u ab (Gi k o pw ka kn kc t) 83∧EM o∧Ac (fun x:Int=>[Value.int .i64 x]) 1 2 u (ab+1) ka kn kc keep∧kn<=M)∧Blk u w.heap.size cv 45∧Blk u (w.heap.size+1) zv 83∧Rd u B∧w.grownBy u (some B)∧w.heap.size+2<=ab
theorem NQ {u:World}{b:Nat}{ty:TypeId}{z0 z1 z2 z3 z4 z5 z6 z7 z8 z9 z10 z11 z12:Value}(A:Blk u b #[z0,z1,z2,z3,z4,z5,z6,z7,z8,z9,z10,z11,z12] ty)(k:Int)(o:Opr)(pw:Int)(ka:Option Addr)(kn kc:Nat)(t:Int):∃ U,U=(((((((((((((u.setCell ⟨b,0,none⟩ (.int .i64 k)).setCell ⟨b,1,none⟩ (.int .i64 o.k)).setCell ⟨b,2,none⟩ (.string o.vol)).setCell ⟨b,3,none⟩ (.string o.file)).setCell ⟨b,4,none⟩ (.string o.to)).setCell ⟨b,5,none⟩ (.string o.into)).setCell ⟨b,6,none⟩ (.int .i64 o.at')).setCell ⟨b,7,none⟩ (.int .i64 o.fr)).setCell ⟨b,8,none⟩ (.int .i64 o.ln)).setCell ⟨b,9,none⟩ (.string o.data)).setCell ⟨b,10,none⟩ (.int .i64 pw)).setCell ⟨b,11,none⟩ (.slice ka kn kc)).setCell ⟨b,12,none⟩ (.int .i64 t))∧Blk U b (Gi k o pw ka kn kc t) ty∧u.grownBy U (some b):=
 ⟨_,rfl,by have:=(((((((((((((A.set 0 (.int .i64 k)).set 1 (.int .i64 o.k)).set 2 (.string o.vol)).set 3 (.string o.file)).set 4 (.string o.to)).set 5 (.string o.into)).set 6 (.int .i64 o.at')).set 7 (.int .i64 o.fr)).set 8 (.int .i64 o.ln)).set 9 (.string o.data)).set 10 (.int .i64 pw)).set 11 (.slice ka kn kc)).set 12 (.int .i64 t));simpa using this,(af_ (af_ (af_ (af_ (af_ (af_ (af_ (af_ (af_ (af_ (af_ (af_ (CE u b 0 (.int .i64 k)) 1 (.int .i64 o.k)) 2 (.string o.vol)) 3 (.string o.file)) 4 (.string o.to)) 5 (.string o.into)) 6 (.int .i64 o.at')) 7 (.int .i64 o.fr)) 8 (.int .i64 o.ln)) 9 (.string o.data)) 10 (.int .i64 pw)) 11 (.slice ka kn kc)) 12 (.int .i64 t))⟩
theorem AcR.mv {w u u':World}{B ab M:Nat}{cv zv:Array Value}(h:AcR w B ab M cv zv u)(hR:Rd u' B)(hg:u.grownBy u' (some B))(hlt:B<w.heap.size):AcR w B ab M cv zv u':=by
 obtain⟨⟨k,o,pw,ka,kn,kc,keep,t,A,ho,K,hk⟩,C,D,-,hG,hab⟩:=h;exact⟨⟨k,o,pw,ka,kn,kc,keep,t,A.grown hg sH,ho,K.offB hg sH,hk⟩,C.grown hg sH,D.grown hg sH,hR,aV_ hG hg,hab⟩
theorem AcR.put {w u U:World}{B ab M M':Nat}{cv zv:Array Value}{k:Int}{o:Opr}{pw:Int}{ka:Option Addr}{kn kc:Nat}{keep:List Int}{t:Int}(h:AcR w B ab M cv zv u)(hg:u.grownBy U (some ab))(hlt:B<w.heap.size)(A:Blk U ab (Gi k o pw ka kn kc t) 83)(ho:EM o)(K:Ac (fun x:Int=>[Value.int .i64 x]) 1 2 U (ab+1) ka kn kc keep)(hk:kn<=M'):AcR w B ab M' cv zv U:=by
 obtain⟨-,C,D,hR,hG,hab⟩:=h;exact⟨⟨k,o,pw,ka,kn,kc,keep,t,A,ho,K,hk⟩,C.grown hg sH,D.grown hg sH,hR.grown hg sH,BE hG hg (fun j e=>by cases e;omega),hab⟩
theorem Ti {w w':World}{B:Nat}{row:Option Nat}(h:Rd w B)(hg:w.grownBy w' row)(hr:∀ k,row=some k->B<k):Rd w' B:=by
 exact pD
theorem Pq {B:Nat}{w u:World}{a:Act}{z0 z1 z2 z3 z4 z5 z6 z7 z8 z9 z10 z11 z12:Value}{k:Int}{o:Opr}{pw:Int}{ka:Option Addr}{kn kc:Nat}{keep:List Int}{t:Int}{X:Nat}(D:Blk u (w.heap.size+1) #[z0,z1,z2,z3,z4,z5,z6,z7,z8,z9,z10,z11,z12] 83)(ho:EM o)(K:Ac (fun x:Int=>[Value.int .i64 x]) 1 2 u X ka kn kc keep)(hX:w.heap.size+1<X)(hk:kn<=4194304)(hR:Rd u B)(hG:w.grownBy u (some B))(hlt:B<w.heap.size)(hp:a.tmps.getD 4 undef=.pointer (some ⟨w.heap.size+1,0,none⟩))(hd:a.defers=[]) :
  bodyPost prog f32 (fun e w'=>(∃ k o pw ka kn kc keep t,e=.returned (.agg (Gi k o pw ka kn kc t))∧EM o∧Hi w' ka kn keep∧kn<=4194304)∧Rd w' B∧w.grownBy w' (some B)) .ret a (((((((((((((u.setCell ⟨w.heap.size+1,0,none⟩ (.int .i64 k)).setCell ⟨w.heap.size+1,1,none⟩ (.int .i64 o.k)).setCell ⟨w.heap.size+1,2,none⟩ (.string o.vol)).setCell ⟨w.heap.size+1,3,none⟩ (.string o.file)).setCell ⟨w.heap.size+1,4,none⟩ (.string o.to)).setCell ⟨w.heap.size+1,5,none⟩ (.string o.into)).setCell ⟨w.heap.size+1,6,none⟩ (.int .i64 o.at')).setCell ⟨w.heap.size+1,7,none⟩ (.int .i64 o.fr)).setCell ⟨w.heap.size+1,8,none⟩ (.int .i64 o.ln)).setCell ⟨w.heap.size+1,9,none⟩ (.string o.data)).setCell ⟨w.heap.size+1,10,none⟩ (.int .i64 pw)).setCell ⟨w.heap.size+1,11,none⟩ (.slice ka kn kc)).setCell ⟨w.heap.size+1,12,none⟩ (.int .i64 t)):=by
 obtain⟨U,hU,W0,ha⟩:=NQ D k o pw ka kn kc t;rw[<-hU];have hc:=hR.grown ha sH;have hb:=BE hG ha (fun k e=>by cases e;omega);exact YW (results_cell_row rfl _ _ (w.heap.size+1) _ _ _ _ hp W0 underlying83 rfl sI) hd ⟨⟨k,o,pw,ka,kn,kc,keep,t,rfl,ho,(K.offB ha hX).sl,hk⟩,hc,hb⟩
theorem AcR.app {w u u1 u':World}{B ab M M':Nat}{cv zv:Array Value}{row:Option Nat}{k:Int}{o:Opr}{pw:Int}{ka ka2:Option Addr}{kn kc kn2 kc2:Nat}{keep:List Int}{t:Int}(h:AcR w B ab M cv zv u)(hA:Below u.heap.size u u1)(hg:u1.grownBy u' row)(hr:∀ k,row=some k->ab+1<=k)(hlt:B<w.heap.size)(A:Blk u ab (Gi k o pw ka2 kn2 kc2 t) 83)(ho:EM o)(K:Ac (fun x:Int=>[Value.int .i64 x]) 1 2 u' (ab+1) ka kn kc keep)(hk:kn<=M'):AcR w B ab M' cv zv (u'.setCell ⟨ab,11,none⟩ (.slice ka kn kc)):=by
 obtain⟨-,C,D,hR,hG,hab⟩:=h;have r:∀ x,x<ab+1->some x≠row:=fun x hx e=>by have:=hr x e.symm;omega
 have hs:=CE u' ab 11 (.slice ka kn kc);have ha:Rd u' B:=Ti (hR.below hA) hg (fun k e=>by have:=hr k e;omega);exact⟨⟨k,o,pw,ka,kn,kc,keep,t,by have:=((A.below hA).grownO hg (r _ sH)).set 11 (.slice ka kn kc);simpa using this,ho,K.offB hs sH,hk⟩,((C.below hA).grownO hg (r _ sH)).grown hs sH,((D.below hA).grownO hg (r _ sH)).grown hs sH,ha.grown hs sH,BE (BE (au_ hG hA) hg (fun k e=>by have:=hr k e;omega)) hs (fun j e=>by cases e;omega),hab⟩
theorem AcR.le {w u:World}{B ab M M':Nat}{cv zv:Array Value}(h:AcR w B ab M cv zv u)(hM:M<=M'):AcR w B ab M' cv zv u:=by
 obtain⟨⟨k,o,pw,ka,kn,kc,keep,t,A,ho,K,hk⟩,R⟩:=h;exact⟨⟨k,o,pw,ka,kn,kc,keep,t,A,ho,K,sH⟩,R⟩
theorem KM:EM opZ:=⟨Zg _,Zg _,Zg _,Zg _,Zg _⟩
end
end Go.Proofs.YteejlahappbalaaGreatDoor
