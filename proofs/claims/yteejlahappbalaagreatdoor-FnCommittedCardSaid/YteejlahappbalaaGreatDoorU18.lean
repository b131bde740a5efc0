/- Texts of pools, read and written; what is drawn. -/
import Derived.Test.YteejlahappbalaaGreatDoorU17
set_option maxHeartbeats 20000000
set_option maxRecDepth 100000
namespace Go.Proofs.YteejlahappbalaaGreatDoor
section
open Go Go.RowKit Go.BigFrame Tryz
theorem KO {w:World}{B:Nat}:∀ {l:List VQ} {m:List Vo},Al2 (VoR w B) l m->∀ b∈FT l,b<w.heap.size
 |_,_,.nil,b,hb=>by simp[FT] at hb
 |r::l,_,.cons hr ht,b,hb=>by
  unfold FT at hb
  obtain⟨x,hx,e⟩:=YQ.1 hb
  rcases Zn.1 hx with rfl | hx
  ·cases ha:x.a with
   |none=>rw[ha] at e;cases e
   |some ad=>
    rw[ha] at e
    obtain rfl:=Zi e
    exact (hr.rows.block ad ha).2
  ·exact KO ht b (YQ.2 ⟨x,hx,e⟩)
theorem H7 {w:World}{B:Nat}:∀ {l:List IQ} {m:List It},Al2 (ItR w B) l m->∀ b∈l.filterMap (fun x=>Di x.a),b<w.heap.size
 |_,_,.nil,b,hb=>by simp at hb
 |r::l,_,.cons hr ht,b,hb=>by
  obtain⟨x,hx,e⟩:=YQ.1 hb
  rcases Zn.1 hx with rfl | hx
  ·cases ha:x.a with
   |none=>rw[ha] at e;cases e
   |some ad=>
    rw[ha] at e
    obtain rfl:=Zi e
    exact (hr.ps.block ad ha).2
  ·exact H7 ht b (YQ.2 ⟨x,hx,e⟩)
theorem Kx {w:World}{B:Nat}:∀ {l:List VQ} {m:List Vo},Al2 (VoR w B) l m->∀ b∈EX l,b<w.heap.size
 |_,_,.nil,b,hb=>by simp[EX] at hb
 |r::l,_,.cons hr ht,b,hb=>by
  unfold EX at hb
  obtain⟨x,hx,e⟩:=ZL.1 hb
  rcases Zn.1 hx with rfl | hx
  ·exact H7 hr.its b e
  ·exact Kx ht b (ZL.2 ⟨x,hx,e⟩)
theorem Blk.sixM {w:World}{b:Nat}{c0 c1 c2 c3 c4 c5:Value}{t:TypeId}(h:Blk w b #[c0,c1,c2,c3,c4,c5] t):w.cell? ⟨b,0,none⟩=some c0∧w.cell? ⟨b,1,none⟩=some c1∧w.cell? ⟨b,2,none⟩=some c2∧w.cell? ⟨b,3,none⟩=some c3∧w.cell? ⟨b,4,none⟩=some c4∧w.cell? ⟨b,5,none⟩=some c5:=⟨h.cell 0,h.cell 1,h.cell 2,h.cell 3,h.cell 4,h.cell 5⟩
theorem Ib (c:Pt):c.cs.length=3:=rfl
end
section
open Go Tryz
theorem Ie {s:By}(h:∀ p,Ai p=true->s≠Ay p):Ha s=none:=by
 unfold Ha;rw[dif_neg];rintro⟨p,h1,h2⟩;exact h p h1 h2
theorem Ky (s:By):Ha s=(Fg s).bind fun p=>if Ai p=true then some p else none:=by
 cases hI:Fg s with
 |none=>
  refine Ie fun p hp e=>?_;subst e;rw[Id (EU hp)] at hI
  cases hI
 |some p=>
  have hs:=Kz hI;by_cases hp:Ai p=true
  ·rw[YO,if_pos hp,hs,NM hp]
  ·rw[YO,if_neg hp];refine Ie fun q hq e=>?_;rw[e,Id (EU hq)] at hI;obtain rfl:=Zi hI;exact hp hq
end
section
open Go Go.RowKit Go.BigFrame Tryz
noncomputable def Dh (s:By):Option Po:=if s.length<=60000 then Ha s else none
def stC (c:Int):Int:=if c % 2=1 then bits .xor .u32 (c / 2) 3988292384 else c / 2
def itC:Nat->Int->Int
 |0,c=>c
 |k+1,c=>stC (itC k c)
def byC (c:Int)(b:UInt8):Int:=itC 8 (bits .xor .u32 c (b.toNat:Int))
def crC (l:List UInt8):Int:=l.foldl byC 4294967295
def HU (l:List UInt8):Int:=bits .xor .u32 4294967295 (crC l)
def U32 (c:Int):Prop:=0<=c∧c<4294967296
theorem Ft (op:BinOp)(a b:Int):U32 (bits op .u32 a b):=by
 have h1:=bits_lo_u32 op a b;have h2:=bits_hi_u32 op a b;exact⟨h1,sH⟩
theorem NU {c:Int}(h:U32 c):U32 (stC c):=by
 unfold stC;split
 ·exact Ft _ _ _
 ·obtain⟨h1,h2⟩:=h;exact⟨sH,sH⟩
theorem Pz {l:List UInt8}{k:Nat}{b:UInt8}(h:l[k]?=some b):crC (l.take (k+1))=byC (crC (l.take k)) b:=by
 unfold crC;rw[ZK,h,Option.toList,List.foldl_append];rfl
def hiB (n:Int):ByteArray:=strOfNums [n / 16777216,n / 65536 % 256,n / 256 % 256,n % 256]
def loB (n:Int):ByteArray:=strOfNums [n % 256,n / 256 % 256,n / 65536 % 256,n / 16777216]
def BO (n:Int)(p:List UInt8):List UInt8:=(AG n).data.toList++[10]++p
def Cp (n:Int)(p:List UInt8):ByteArray:=hiB ((BO n p).length)++⟨(BO n p).toArray⟩++loB (HU (BO n p))
theorem ma{p:Prop}(h:p:=by
 generalize stC d=z at *;go_wp2;go_round
 case rel=>exact⟨j+1,_,sH,sQ,by rw[jm.out],hu,hn⟩
 case measure=>simp[intOf];omega):p:=h
theorem mX{p:Prop}(h:p:=by
 obtain rfl:j=8:=sH;go_wp2;go_round
 case rel=>exact⟨k+1,_,sH,sQ,rfl,hV,by show _=_;rw[qh.out,hJ.out]⟩
 case measure=>simp[intOf];omega):p:=h
theorem pU{p:Prop}(h:p:=by
 show _=_
 rw[Pz hb,hI.out,byC,Int.emod_eq_of_lt sH (by have:=s[k].toNat_lt;omega)]):p:=h
theorem Px (u:World)(a b c d:Int):(convert 22 9 (.slice (some ⟨u.heap.size,0,none⟩) 4 4)).run prog (u.alloc (.cells #[.int .u8 a,.int .u8 b,.int .u8 c,.int .u8 d] 5))=.ok (.string (strOfNums [a,b,c,d])) (u.alloc (.cells #[.int .u8 a,.int .u8 b,.int .u8 c,.int .u8 d] 5)):=
 run_convert_bytes_arg (P:=prog) _ 22 5 underlying22 underlying5 u.heap.size 0 4 4 [a,b,c,d] rfl (fun i hi=>(by
  rcases i with _ | _ | _ | _ | i
  ·simp
  ·simp
  ·simp
  ·simp
  ·omega)) 9 underlying9
theorem GH (s:ByteArray)(w:World)(hs:s.size<=2000000) :
  Calls prog 121 #[.string s] w fun e w'=>e=.returned (.string (loB (HU s.data.toList)))∧Below w.heap.size w w':=by
 obtain⟨R,hR⟩:∃ R,Hid (HU s.data.toList=R):=⟨_,rfl⟩;rw[hR.out];have hg:=Px;go_enter func121,ntmps121;go_wp2_with fail;go_loop [3,4] (fun sm ix=>∃ (k:Nat) (c:Int),k<=s.size∧ix=.int .i64 k∧sm=.int .u32 c∧U32 c∧Hid (crC (s.data.toList.take k)=c)) (fun _ ix=>s.size-(intOf ix).toNat)
 case atStart=>exact⟨0,4294967295,Zg _,rfl,rfl,⟨sH,sH⟩,rfl⟩
 case round=>
  obtain⟨k,c,hk,rfl,rfl,hU,hI⟩:=hrel;by_cases hlt:k<s.size
  ·have hb:s.data.toList[k]?=some s[k]:=by rw[ZI rV];rfl
   have qh:Hid (crC (s.data.toList.take (k+1))=itC 8 (bits .xor .u32 c ((s[k].toNat:Int) % 4294967296))):=by
    exact pU
   have he:=Ft .xor c ((s[k].toNat:Int) % 4294967296);go_wp2_with fail;generalize bits .xor .u32 c ((s[k].toNat:Int) % 4294967296)=d0 at *;clear hb;go_loop [3,5] (fun sm jx=>∃ (j:Nat) (d:Int),j<=8∧jx=.int .i64 j∧sm=.int .u32 d∧U32 d∧Hid (itC j d0=d)) (fun _ jx=>8-(intOf jx).toNat)
   case atStart=>exact⟨0,d0,sH,rfl,rfl,he,rfl⟩
   case round=>
    obtain⟨j,d,hj,rfl,rfl,hV,hJ⟩:=hrel;by_cases hj8:j<8
    ·have hn:Hid (itC (j+1) d0=stC d):=by show stC (itC j d0)=_;rw[hJ.out]
     have hu:=NU hV;have hh:=hV.1;have hl:=hV.2;by_cases hp:d % 2=1
     ·have jm:Hid (stC d=bits .xor .u32 (d / 2) 3988292384):=by show stC d=_;unfold stC;rw[if_pos hp]
      exact ma
     ·have hf:d % 2=0:=sH;have jm:Hid (stC d=d / 2):=by show stC d=_;unfold stC;rw[if_neg hp]
      exact ma
    ·exact mX
  ·obtain rfl:k=s.size:=sH;have ha:Hid (R=bits .xor .u32 4294967295 c):=by
    show _=_;rw[<-hR.out,HU,<-hI.out,Zk sK]
   have hc:U32 R:=by rw[<-hR.out];exact Ft _ _ _
   obtain⟨hm,ho⟩:=hc;go_wp2;go_returns;refine ⟨?_,sM⟩;have e:bits .xor .u32 IntKind.u32.max c=R:=ha.out.symm;show Ending.returned (.string (strOfNums [bits .xor .u32 IntKind.u32.max c % 256,bits .xor .u32 IntKind.u32.max c / 256 % 256,bits .xor .u32 IntKind.u32.max c / 65536 % 256,bits .xor .u32 IntKind.u32.max c / 16777216 % 256]))=_;rw[e,Int.emod_eq_of_lt (a:=R / 16777216) sH sH];rfl
end
section
open Go Go.RowKit Go.BigFrame Go.Shelf Tryz
theorem Py {w:World}{b:Nat}{a c d e:Int}(h:Blk w b #[.int .u8 a,.int .u8 c,.int .u8 d,.int .u8 e] 5):(convert 22 9 (.slice (some ⟨b,0,none⟩) 4 4)).run prog w=.ok (.string (strOfNums [a,c,d,e])) w:=
 run_convert_bytes_arg (P:=prog) _ 22 5 underlying22 underlying5 b 0 4 4 [a,c,d,e] rfl (fun i hi=>(by
  rcases i with _ | _ | _ | _ | i
  ·exact h.cell 0
  ·exact h.cell 1
  ·exact h.cell 2
  ·exact h.cell 3
  ·omega)) 9 underlying9
theorem Nm {dn T:ByteArray}{n:Int}{t:List UInt8}(hd:AG n=dn)(hT:(⟨t.toArray⟩:ByteArray)=T):dn++⟨#[10]⟩++T=⟨(BO n t).toArray⟩:=by
 rw[<-hd,<-hT];refine DY ?_;simp[BO,ByteArray.data_append]
theorem Ij {n:Int}{t:List UInt8}(h0:0<=n)(h1:n<=1000000000)(ht:t.length<=1000000):(BO n t).length<=1000014:=by
 have:=Cq (n:=n) sH sH;have h2:(AG n).data.toList.length=(AG n).size:=sK;unfold BO;simp only[ZE,List.length_singleton];omega
theorem TM {P:Program}{Q:Exit->Act->World->Prop}{md:Region.Mode}{S:World->Prop}{l:List Oper}{i j:Nat}{o o':Oper}{fuel:Nat}{listed:Array Bool}{a:Act}{w:World}(hr:Region.ready md l.toArray listed=[i,j])(hi:l[i]?=some o)(hj:l[j]?=some o')
  (h:∀ K':Act->World->Prop,Shut (∀ a w,S w->(S w->wpAnyH P md l.toArray Q S fuel (listed.setIfInBounds i true) a w)->K' a w)->if Region.wanted o (yielded l.toArray a.tmps)=true then Oper.wp P o a w K' Q else K' (a.put o.dst undef) w)
  (h':∀ K':Act->World->Prop,Shut (∀ a w,S w->(S w->wpAnyH P md l.toArray Q S fuel (listed.setIfInBounds j true) a w)->K' a w)->if Region.wanted o' (yielded l.toArray a.tmps)=true then Oper.wp P o' a w K' Q else K' (a.put o'.dst undef) w) :
  wpAnyH P md l.toArray Q S (fuel+1) listed a w:=
 wpAnyH_ready hr sK (AllReadyH.cons rL h (AllReadyH.cons dm h' AllReadyH.nil))
theorem l8{p:Prop}(h:p:=by
 refine hK.out _ _ trivial (fun hHeld=>?_);clear hK K;(try simp only[Act.put,Yj,Yq,Yr]);refine Ag (i:=12) sI rfl (fun K hK=>?_);have ju:=Py V4;rw[hH.out] at ju;go_simp;refine hK.out _ _ trivial (fun hHeld=>?_);clear hK K;(try simp only[Act.put,Yj,Yq,Yr]);refine tk 14 ?_;refine tk 17 ?_;refine tk 18 ?_;refine wpAnyH_done sI ?_ _;go_wp2;go_returns
 exact⟨by rw[qd.out,<-jD.out,hL.out];rfl,qt⟩):p:=h
theorem Jt (sz nx:Int)(ea:Option Addr)(en ec:Nat)(va:Option Addr)(vn vc:Nat)(ra:Option Addr)(rn rc:Nat)(la:Option Addr)(ln lc:Nat)(n:Int)(T:ByteArray)(w:World)(h0:0<=n)(h1:n<=1000000000)(hTs:T.size<=1000000)
  (kt:∀ u:World,Below w.heap.size w u->Calls prog 46 #[.agg #[.int .i64 sz,.int .i64 nx,.slice ea en ec,.slice va vn vc,.slice ra rn rc,.slice la ln lc]] u fun e w'=>e=.returned (.string T)∧Below u.heap.size u w') :
  Calls prog 67 #[.int .i64 n,.agg #[.int .i64 sz,.int .i64 nx,.slice ea en ec,.slice va vn vc,.slice ra rn rc,.slice la ln lc]] w fun e w'=>e=.returned (.string (Cp n T.data.toList))∧Below w.heap.size w w':=by
 obtain⟨dn,hf⟩:∃ zz,Hid (AG n=zz):=⟨_,rfl⟩;have kd:∀ u:World,Calls prog 97 #[.int .i64 n] u fun e w'=>e=.returned (.string dn)∧Below u.heap.size u w':=fun u=>by rw[<-hf.out];exact Bn n u sH sH
 have hm:T.data.toList.length<=1000000:=by rw[<-Lib.size_eq];exact hTs
 have hn:=Ij h0 h1 hm;obtain⟨b,hb⟩:∃ z,Hid (z=dn++⟨#[10]⟩++T):=⟨_,rfl⟩;have hh:Hid (b=⟨(BO n T.data.toList).toArray⟩):=by show _=_;rw[hb.out,Nm hf.out (Lib.mk_data T)]
 have ho:b.size<=1000014:=by
  rw[hh.out];show (BO n T.data.toList).toArray.size<=_;simpa using hn
 have hp:dn.size<=13:=by rw[<-hf.out];exact Cq sH sH
 have e1:¬ 9223372036854775807<dn.size+(⟨#[10]⟩:ByteArray).size:=by show ¬ _<_+1;omega
 have e2:¬ 9223372036854775807<(dn++⟨#[10]⟩).size+T.size:=by
  have:(dn++⟨#[10]⟩++T).size<=1000014:=by rw[<-hb.out];exact ho
  rw[kX_] at this;omega
 have qd:Hid (Cp n T.data.toList=hiB b.size++b++loB (HU b.data.toList)):=by
  show _=_;unfold Cp;rw[hh.out];have:((⟨(BO n T.data.toList).toArray⟩:ByteArray).size)=(BO n T.data.toList).length:=by show (BO n T.data.toList).toArray.size=_;simp
  rw[this]
 generalize Cp n T.data.toList=R at *;go_enter func67,ntmps67;have C:=Blk.new w #[.int .i64 sz,.int .i64 nx,.slice ea en ec,.slice va vn vc,.slice ra rn rc,.slice la ln lc] 33;have he:Below w.heap.size w (w.alloc (.cells #[.int .i64 sz,.int .i64 nx,.slice ea en ec,.slice va vn vc,.slice ra rn rc,.slice la ln lc] 33)):=sM;go_wp2_with fail;generalize w.alloc (.cells #[.int .i64 sz,.int .i64 nx,.slice ea en ec,.slice va vn vc,.slice ra rn rc,.slice la ln lc] 33)=W at *;replace kt:=fun (u:World) (hu:Below W.heap.size W u)=>kt u (Aa he hu);have q0:=Ad (C.cell 0);have q1:=Ad (C.cell 1);have q2:=Ad (C.cell 2);have q3:=Ad (C.cell 3);have q4:=Ad (C.cell 4);have q5:=Ad (C.cell 5);refine ab_ sI sI ?_;have hr:=aA_ W;iterate 2 (go_big_quiet_step (first | (go_at_call 97;exact an_ (kd _))))
 iterate 3 (go_big_quiet_step (first | (go_at_call 46;exact an_ (kt _ (Grw.h _)))))
 iterate 2 (go_big_quiet_step (fail))
 refine wpQuiet_nil ?_;intro w1 hj;have hg:=Aa he (ah_ hj);rw[<-hb.out];clear hj q0 q1 q2 q3 q4 q5 e1 e2 kd kt hp he C;go_wp2_with fail;obtain⟨H,hH⟩:∃ z,Hid (strOfNums [IntKind.u8.wrap ((b.size:Int) / 16777216),IntKind.u8.wrap ((b.size:Int) / 65536),IntKind.u8.wrap ((b.size:Int) / 256),IntKind.u8.wrap (b.size:Int)]=z):=⟨_,rfl⟩;have jD:Hid (H=hiB b.size):=by
  show _=_;rw[<-hH.out,hiB];simp only[IntKind.wrap_u8];rw[Int.emod_eq_of_lt (a:=(b.size:Int) / 16777216) sH sH]
 obtain⟨L,hL⟩:∃ z,Hid (loB (HU b.data.toList)=z):=⟨_,rfl⟩;have hk:H.size=4:=by rw[<-hH.out,strOfNums_size];rfl
 have hl:L.size=4:=by rw[<-hL.out,loB,strOfNums_size];rfl
 have e3:¬ 9223372036854775807<H.size+b.size:=sH;have e4:¬ 9223372036854775807<H.size+b.size+L.size:=sH;clear hk hl;have hc:=hg.drew;have hq:(fun _=>True) w1.drew:=trivial;refine aC_ (S:=(fun _=>True)) 19 sI rfl ?_;generalize w1.drew=W2 at *;clear hg w1;refine tk 0 ?_;refine tk 1 ?_;refine tk 2 ?_;refine tk 3 ?_;refine tk 4 ?_;refine tk 5 ?_;refine tk 6 ?_;refine tk 7 ?_;refine tk 8 ?_;refine tk 9 ?_;refine tk 10 ?_;refine tk 13 ?_;refine tk 15 ?_;refine TM (i:=11) (j:=16) sI rfl rfl (fun K hK=>?_) (fun K hK=>?_)
 ·go_simp;have V3:=Blk.new W2 #[.int .u8 (IntKind.u8.wrap (↑b.size / 16777216)),.int .u8 (IntKind.u8.wrap (↑b.size / 65536)),.int .u8 (IntKind.u8.wrap (↑b.size / 256)),.int .u8 (IntKind.u8.wrap ↑b.size)] 5;have ha:Below w.heap.size w (W2.alloc (.cells #[.int .u8 (IntKind.u8.wrap (↑b.size / 16777216)),.int .u8 (IntKind.u8.wrap (↑b.size / 65536)),.int .u8 (IntKind.u8.wrap (↑b.size / 256)),.int .u8 (IntKind.u8.wrap ↑b.size)] 5)):=hc.alloc hc.size _;generalize W2.alloc (.cells #[.int .u8 (IntKind.u8.wrap (↑b.size / 16777216)),.int .u8 (IntKind.u8.wrap (↑b.size / 65536)),.int .u8 (IntKind.u8.wrap (↑b.size / 256)),.int .u8 (IntKind.u8.wrap ↑b.size)] 5)=W3 at *;refine hK.out _ _ trivial (fun hHeld=>?_);clear hK K;(try simp only[Act.put,Yj,Yq,Yr]);refine TM (i:=12) (j:=16) sI rfl rfl (fun K hK=>?_) (fun K hK=>?_)
  ·have ju:=Py V3;rw[hH.out] at ju;go_simp;refine hK.out _ _ trivial (fun hHeld=>?_);clear hK K;(try simp only[Act.put,Yj,Yq,Yr]);refine tk 14 ?_;refine Ag (i:=16) sI rfl (fun K hK=>?_);go_simp;refine (GH b _ sH).mono ?_;rintro e W4 ⟨rfl,qt⟩;replace qt:=Aa ha qt;rw[hL.out];dsimp only;refine hK.out _ _ trivial (fun hHeld=>?_);clear hK K;(try simp only[Act.put,Yj,Yq,Yr]);refine tk 17 ?_;refine tk 18 ?_;refine wpAnyH_done sI ?_ _;go_wp2;go_returns;exact⟨by rw[qd.out,<-jD.out,hL.out];rfl,qt⟩
  ·go_simp;refine (GH b _ sH).mono ?_;rintro e W4 ⟨rfl,qt⟩;have V4:=V3.below qt;replace qt:=Aa ha qt;rw[hL.out];dsimp only;exact l8
 ·go_simp;refine (GH b _ sH).mono ?_;rintro e W3 ⟨rfl,ha⟩;replace ha:=Aa hc ha;rw[hL.out];dsimp only;refine hK.out _ _ trivial (fun hHeld=>?_);clear hK K;(try simp only[Act.put,Yj,Yq,Yr]);refine Ag (i:=11) sI rfl (fun K hK=>?_);go_simp;have V4:=Blk.new W3 #[.int .u8 (IntKind.u8.wrap (↑b.size / 16777216)),.int .u8 (IntKind.u8.wrap (↑b.size / 65536)),.int .u8 (IntKind.u8.wrap (↑b.size / 256)),.int .u8 (IntKind.u8.wrap ↑b.size)] 5;have qt:Below w.heap.size w (W3.alloc (.cells #[.int .u8 (IntKind.u8.wrap (↑b.size / 16777216)),.int .u8 (IntKind.u8.wrap (↑b.size / 65536)),.int .u8 (IntKind.u8.wrap (↑b.size / 256)),.int .u8 (IntKind.u8.wrap ↑b.size)] 5)):=ha.alloc ha.size _;generalize W3.alloc (.cells #[.int .u8 (IntKind.u8.wrap (↑b.size / 16777216)),.int .u8 (IntKind.u8.wrap (↑b.size / 65536)),.int .u8 (IntKind.u8.wrap (↑b.size / 256)),.int .u8 (IntKind.u8.wrap ↑b.size)] 5)=W4 at *;exact l8
theorem E7 (B0:Nat)(v:Value)(p:Po)(n:Int)(w:World)(h:AC B0 w v p)(hd:A7 p)(hN:Je p)(h0:0<=n)(h1:n<=1000000000) :
  Calls prog 67 #[.int .i64 n,v] w fun e w'=>e=.returned (.string (Cp n (Ay p)))∧Below w.heap.size w w':=by
 have ha:=h;obtain⟨ea,en,ec,va,vn,vc,ra,rn,rc,la,ln,lc,rfl,_⟩:=h;have hs:(⟨(Ay p).toArray⟩:ByteArray).size<=1000000:=by show (Ay p).toArray.size<=_;simpa using hN.len
 have:=Jt p.size p.next ea en ec va vn vc ra rn rc la ln lc n ⟨(Ay p).toArray⟩ w h0 h1 hs (fun u hu=>HQ B0 _ p u (ha.below hu) hd hN);simpa using this
end
section
open Go Go.RowKit Go.BigFrame Tryz
theorem H3:∀ {ls:List By} {l:By},l∈ls->l.length+1<=(DZ ls).length
 |a::ls,l,h=>by
  rw[DO]
  rcases Zn.1 h with rfl | h
  ·simp
  ·have:=H3 h
   simp;omega
theorem H2:∀ (ls:List By),ls.length<=(DZ ls).length
 |[]=>Zg _
 |a::ls=>by
  rw[DO]
  have:=H2 ls
  simp;omega
theorem ED {α β:Type}{f:α->List β}:∀ {l:List α} {x:α},x∈l->(f x).length<=(l.flatMap f).length
 |a::l,x,h=>by
  rcases Zn.1 h with rfl | h
  ·simp
  ·have:=ED (f:=f) h
   simp at this ⊢;omega
theorem Fw {α β:Type}{f:α->List β}:∀ (l:List α),(∀ x∈l,1<=(f x).length)->l.length<=(l.flatMap f).length
 |[],_=>Zg _
 |a::l,h=>by
  have h1:=h a sK
  have h2:=Fw l (fun x hx=>h x rv)
  simp at h2 ⊢;omega
theorem Hx:∀ {l:List By} {x:By},x∈l->x.length<=(joW l).length
 |[a],x,h=>by simp at h;subst h;exact Zd _
 |a::b::l,x,h=>by
  show _<=(a++32::joW (b::l)).length
  rcases Zn.1 h with rfl | h
  ·simp
  ·have:=Hx h
   simp;omega
theorem mF{p:Prop}(h:p:=by exact hw _ (BD BQ c) (by rw[e];simp only[Zn,Zs,ZT];exact .inr (.inr (.inr (.inr ⟨c,zS,rfl⟩)))) (Hx (l:=[BQ,Lib.itoa c.o.a,Lib.itoa c.o.v,c.o.f.data.toList,Lib.itoa c.n]) sK)):p:=h
theorem mG{p:Prop}(h:p:=by exact hw _ (BD DK c) (by rw[e];simp only[Zn,Zs,ZT];exact .inr (.inr (.inr (.inl ⟨c,zS,rfl⟩)))) (Hx (l:=[DK,Lib.itoa c.o.a,Lib.itoa c.o.v,c.o.f.data.toList,Lib.itoa c.n]) sK)):p:=h
theorem m8{p:Prop}(h:p:=by exact hw _ (Fm x) (by rw[e];simp only[Zn,Zs,ZT];exact .inr (.inl ⟨x,hx,rfl⟩)) (Hx (l:=[exK,Lib.itoa x.a,x.d.data.toList]) sK)):p:=h
theorem pg{p:Prop}(h:p:=by exact hw _ (joW [BZ,x.nm.data.toList]) (jw v hv _ (by simp only[BA,Zn,ZL];exact .inr ⟨x,hx,by simp[Ci]⟩)) (Hx sK)):p:=h
theorem pF{p:Prop}(h:p:=by exact hw _ (joW [Ei,Lib.itoa v.id,v.nm.data.toList,EC v.fx]) (jw v hv _ (by simp[BA])) (Hx sK)):p:=h
theorem Ll {p:Po}(h:(Ay p).length<=60000):A7 p:=by
 rw[Fb] at h;have hc:=H2 (CJ p);have hm:∀ l∈CJ p,l.length<=60000:=fun l hl=>by have:=H3 hl;omega
 have hL:(CJ p).length<=60000:=sH;have hb:(p.vs.flatMap BA).length<=60000:=by
  have e:CJ p=joW [Cj,Lib.itoa p.size,Lib.itoa p.next]::(p.ex.map Fm++(p.vs.flatMap BA++(p.rf.map (BD DK)++p.lt.map (BD BQ)))):=by simp[CJ]
  rw[e] at hL;simp only[Zw,ZE] at hL;omega
 have e:CJ p=joW [Cj,Lib.itoa p.size,Lib.itoa p.next]::(p.ex.map Fm++(p.vs.flatMap BA++(p.rf.map (BD DK)++p.lt.map (BD BQ)))):=by simp[CJ]
 have ha:=hL;rw[e] at ha;simp only[Zw,ZE,List.length_map] at ha;have hw:∀ (x:ByteArray) (l:By),l∈CJ p->x.data.toList.length<=l.length->x.size<=9223372036854775807:=fun x l hl hx=>by
  have:=hm l hl;rw[Lib.size_eq];omega
 have jw:∀ v∈p.vs,∀ l∈BA v,l∈CJ p:=fun v hv l hl=>by
  rw[e];simp only[Zn,Zs,ZL];exact .inr (.inr (.inl ⟨v,hv,hl⟩))
 refine ⟨sH,fun x hx=>?_,?_,fun v hv=>⟨?_,?_,fun x hx=>⟨?_,?_⟩⟩,sH,fun c zS=>?_,sH,fun c zS=>?_⟩
 ·exact m8
 ·have:=Fw (f:=BA) p.vs (fun v _=>by simp[BA]);omega
 ·exact pF
 ·have h1:=ED (f:=BA) hv;have h2:=Fw (f:=Ci) v.its (fun x _=>by simp[Ci]);have h3:(BA v).length=1+(v.its.flatMap Ci).length:=by simp[BA];omega
  omega
 ·exact pg
 ·have h1:=ED (f:=BA) hv;have h2:=ED (f:=Ci) hx;have h3:(BA v).length=1+(v.its.flatMap Ci).length:=by simp[BA];omega
  have h4:(Ci x).length=1+x.ps.length:=by simp[Ci];omega
  omega
 ·exact mG
 ·exact mF
theorem Gs {w:World}{b:Nat}{c0 c1 c2 c3 c4 c5:Value}{t:TypeId}(h:Blk w b #[c0,c1,c2,c3,c4,c5] t)(x0 x1 x2 x3 x4 x5:Value):Blk ((((((w.setCell ⟨b,0,none⟩ x0).setCell ⟨b,1,none⟩ x1).setCell ⟨b,2,none⟩ x2).setCell ⟨b,3,none⟩ x3).setCell ⟨b,4,none⟩ x4).setCell ⟨b,5,none⟩ x5) b #[x0,x1,x2,x3,x4,x5] t∧w.grownBy ((((((w.setCell ⟨b,0,none⟩ x0).setCell ⟨b,1,none⟩ x1).setCell ⟨b,2,none⟩ x2).setCell ⟨b,3,none⟩ x3).setCell ⟨b,4,none⟩ x4).setCell ⟨b,5,none⟩ x5) (some b):=
 ⟨by have:=(((((h.set 0 x0).set 1 x1).set 2 x2).set 3 x3).set 4 x4).set 5 x5;simpa using this,af_ (af_ (af_ (af_ (af_ (af_ (Yh _ _) _ _) _ _) _ _) _ _) _ _) _ _⟩
structure KR (p:Prop):Prop where
 out:p
theorem Dd {w:World}{b:Nat}{c0 c1 c2 c3 c4 c5 c6 c7 c8 c9:Value}{t:TypeId}(h:Blk w b #[c0,c1,c2,c3,c4,c5,c6,c7,c8,c9] t) :
  (w.cell? ⟨b,0,none⟩=some c0∧w.cell? ⟨b,1,none⟩=some c1∧w.cell? ⟨b,2,none⟩=some c2∧w.cell? ⟨b,3,none⟩=some c3∧w.cell? ⟨b,4,none⟩=some c4∧w.cell? ⟨b,5,none⟩=some c5∧w.cell? ⟨b,6,none⟩=some c6∧w.cell? ⟨b,7,none⟩=some c7∧w.cell? ⟨b,8,none⟩=some c8∧w.cell? ⟨b,9,none⟩=some c9)∧
  w.frozen? ⟨b,0,none⟩=false∧w.frozen? ⟨b,1,none⟩=false∧w.frozen? ⟨b,2,none⟩=false∧w.frozen? ⟨b,3,none⟩=false∧w.frozen? ⟨b,4,none⟩=false∧w.frozen? ⟨b,5,none⟩=false∧w.frozen? ⟨b,6,none⟩=false∧w.frozen? ⟨b,7,none⟩=false∧w.frozen? ⟨b,8,none⟩=false∧w.frozen? ⟨b,9,none⟩=false:=
 ⟨⟨h.cell 0,h.cell 1,h.cell 2,h.cell 3,h.cell 4,h.cell 5,h.cell 6,h.cell 7,h.cell 8,h.cell 9⟩,h.frozen 0,h.frozen 1,h.frozen 2,h.frozen 3,h.frozen 4,h.frozen 5,h.frozen 6,h.frozen 7,h.frozen 8,h.frozen 9⟩
end
end Go.Proofs.YteejlahappbalaaGreatDoor
