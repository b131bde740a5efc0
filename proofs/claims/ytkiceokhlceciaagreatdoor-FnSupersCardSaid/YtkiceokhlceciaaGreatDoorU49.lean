/- Texts of pools, read and written; what is drawn. -/
import Derived.Test.YtkiceokhlceciaaGreatDoorU21
import Derived.Test.YtkiceokhlceciaaGreatDoorU42
import Derived.Test.YtkiceokhlceciaaGreatDoorU43
import Derived.Test.YtkiceokhlceciaaGreatDoorU47
import Derived.Test.YtkiceokhlceciaaGreatDoorU48
set_option maxHeartbeats 20000000
set_option maxRecDepth 100000
namespace Go.Proofs.YtkiceokhlceciaaGreatDoor
section
open Go Go.RowKit Go.BigFrame Tryz
def stC (c:Int):Int:=if c % 2=1 then bits .xor .u32 (c / 2) 3988292384 else c / 2
def itC:Nat->Int->Int
 |0,c=>c
 |k+1,c=>stC (itC k c)
def byC (c:Int)(b:UInt8):Int:=itC 8 (bits .xor .u32 c (b.toNat:Int))
def crC (l:List UInt8):Int:=l.foldl byC 4294967295
def FR (l:List UInt8):Int:=bits .xor .u32 4294967295 (crC l)
def U32 (c:Int):Prop:=0<=c∧c<4294967296
theorem Eh (op:BinOp)(a b:Int):U32 (bits op .u32 a b):=by
 have h1:=bits_lo_u32 op a b
 have h2:=bits_hi_u32 op a b
 exact⟨h1,by omega⟩
theorem JD {c:Int}(h:U32 c):U32 (stC c):=by
 unfold stC
 split
 ·exact Eh _ _ _
 ·obtain⟨h1,h2⟩:=h
  exact⟨by omega,by omega⟩
theorem HN {l:List UInt8}{k:Nat}{b:UInt8}(h:l[k]?=some b):crC (l.take (k+1))=byC (crC (l.take k)) b:=by
 unfold crC
 rw[ZK,h,Option.toList,List.foldl_append]
 rfl
theorem Lq {c:Int}(h:U32 c):bits .and .u32 c 1=c % 2:=by
 have:=bits_mask .u32 32 (by decide) (fun n h0 h1=>by rw[IntKind.wrap_u32];omega) 1 (by decide) c h.1 h.2
 simpa using this
def hiB (n:Int):ByteArray:=strOfNums [n / 16777216,n / 65536 % 256,n / 256 % 256,n % 256]
def loB (n:Int):ByteArray:=strOfNums [n % 256,n / 256 % 256,n / 65536 % 256,n / 16777216]
def CG (n:Int)(p:List UInt8):List UInt8:=(AF n).data.toList++[10]++p
def DW (n:Int)(p:List UInt8):ByteArray:=hiB ((CG n p).length)++⟨(CG n p).toArray⟩++loB (FR (CG n p))
theorem GE (s:ByteArray)(w:World)(hs:s.size<=2000000) :
  Calls prog 21 #[.string s] w fun e w'=>e=.returned (.int .u32 (FR s.data.toList))∧w'=w:=by
 obtain⟨R,hR⟩:∃ R,Hid (FR s.data.toList=R):=⟨_,rfl⟩
 rw[hR.out]
 go_enter func21,ntmps21
 go_wp2_with fail
 go_loop [3,8] (fun sm ix=>∃ (k:Nat) (c:Int),k<=s.size∧ix=.int .i64 k∧sm=.int .u32 c∧U32 c∧Hid (crC (s.data.toList.take k)=c)) (fun _ ix=>s.size-(intOf ix).toNat)
 case atStart=>exact⟨0,4294967295,Zg _,rfl,rfl,⟨by omega,by omega⟩,rfl⟩
 case round=>
  obtain⟨k,c,hk,rfl,rfl,hU,hI⟩:=hrel
  by_cases hlt:k<s.size
  ·have hb:s.data.toList[k]?=some s[k]:=by rw[ZI (by simpa using hlt)];rfl
   have hg:Hid (crC (s.data.toList.take (k+1))=itC 8 (bits .xor .u32 c ((s[k].toNat:Int) % 4294967296))):=by
    show _=_
    rw[HN hb,hI.out,byC,Int.emod_eq_of_lt (by omega) (by have:=s[k].toNat_lt;omega)]
   have hh:=Eh .xor c ((s[k].toNat:Int) % 4294967296)
   go_wp2_with fail
   generalize bits .xor .u32 c ((s[k].toNat:Int) % 4294967296)=d0 at *
   clear hb
   go_loop [3,17] (fun sm jx=>∃ (j:Nat) (d:Int),j<=8∧jx=.int .i64 j∧sm=.int .u32 d∧U32 d∧Hid (itC j d0=d)) (fun _ jx=>8-(intOf jx).toNat)
   case atStart=>exact⟨0,d0,by omega,rfl,rfl,hh,rfl⟩
   case round=>
    obtain⟨j,d,hj,rfl,rfl,hV,hJ⟩:=hrel
    by_cases hj8:j<8
    ·have hn:Hid (itC (j+1) d0=stC d):=by show stC (itC j d0)=_;rw[hJ.out]
     have hu:=JD hV
     have ha:Hid (bits .and .u32 d 1=d % 2):=Lq hV
     have hl:=hV.1
     have hm:=hV.2
     by_cases hp:d % 2=1
     ·have hf:bits .and .u32 d 1=1:=by rw[ha.out,hp]
      have he:Hid (stC d=bits .xor .u32 (d / 2) 3988292384):=by show stC d=_;unfold stC;rw[if_pos hp]
      generalize stC d=z at *
      go_wp2
      go_round
      case rel=>exact⟨j+1,_,by omega,by go_num,by rw[he.out],hu,hn⟩
      case measure=>simp[intOf];omega
     ·have hf:bits .and .u32 d 1=0:=by rw[ha.out];omega
      have he:Hid (stC d=d / 2):=by show stC d=_;unfold stC;rw[if_neg hp]
      generalize stC d=z at *
      go_wp2
      go_round
      case rel=>exact⟨j+1,_,by omega,by go_num,by rw[he.out],hu,hn⟩
      case measure=>simp[intOf];omega
    ·obtain rfl:j=8:=by omega
     go_wp2
     go_round
     case rel=>exact⟨k+1,_,by omega,by go_num,rfl,hV,by show _=_;rw[hg.out,hJ.out]⟩
     case measure=>simp[intOf];omega
  ·obtain rfl:k=s.size:=by omega
   have hc:Hid (R=bits .xor .u32 4294967295 c):=by
    show _=_
    rw[<-hR.out,FR,<-hI.out,Zk (by simp)]
   go_wp2
   go_returns
   go_light
   exact⟨by rw[hc.out];rfl,rfl⟩
theorem Ku (u:World)(a b c d:Int):(convert 22 9 (.slice (some ⟨u.heap.size,0,none⟩) 4 4)).run prog (u.alloc (.cells #[.int .u8 a,.int .u8 b,.int .u8 c,.int .u8 d] 5))=.ok (.string (strOfNums [a,b,c,d])) (u.alloc (.cells #[.int .u8 a,.int .u8 b,.int .u8 c,.int .u8 d] 5)):=
 run_convert_bytes_arg (P:=prog) _ 22 5 underlying22 underlying5 u.heap.size 0 4 4 [a,b,c,d] rfl (fun i hi=>(by
  rcases i with _ | _ | _ | _ | i
  ·simp
  ·simp
  ·simp
  ·simp
  ·omega)) 9 underlying9
theorem E7 (n:Int)(w:World)(h:U32 n) :
  Calls prog 19 #[.int .u32 n] w fun e w'=>e=.returned (.string (hiB n))∧Below w.heap.size w w':=by
 obtain⟨h0,h1⟩:=h
 have ha:=Ku
 go_enter func19,ntmps19
 go_wp2
 go_returns
 exact⟨rfl,by go_grown⟩
theorem Fv (n:Int)(w:World)(h:U32 n) :
  Calls prog 20 #[.int .u32 n] w fun e w'=>e=.returned (.string (loB n))∧Below w.heap.size w w':=by
 obtain⟨h0,h1⟩:=h
 have ha:=Ku
 go_enter func20,ntmps20
 go_wp2
 go_returns
 exact⟨rfl,by go_grown⟩
theorem ER (s:ByteArray)(w:World)(hs:s.size<=2000000) :
  Calls prog 59 #[.string s] w fun e w'=>e=.returned (.string (loB (FR s.data.toList)))∧Below w.heap.size w w':=by
 obtain⟨R,hR⟩:∃ R,Hid (FR s.data.toList=R):=⟨_,rfl⟩
 rw[hR.out]
 have hl:=Ku
 go_enter func59,ntmps59
 go_wp2_with fail
 go_loop [3,4] (fun sm ix=>∃ (k:Nat) (c:Int),k<=s.size∧ix=.int .i64 k∧sm=.int .u32 c∧U32 c∧Hid (crC (s.data.toList.take k)=c)) (fun _ ix=>s.size-(intOf ix).toNat)
 case atStart=>exact⟨0,4294967295,Zg _,rfl,rfl,⟨by omega,by omega⟩,rfl⟩
 case round=>
  obtain⟨k,c,hk,rfl,rfl,hU,hI⟩:=hrel
  by_cases hlt:k<s.size
  ·have hb:s.data.toList[k]?=some s[k]:=by rw[ZI (by simpa using hlt)];rfl
   have hf:Hid (crC (s.data.toList.take (k+1))=itC 8 (bits .xor .u32 c ((s[k].toNat:Int) % 4294967296))):=by
    show _=_
    rw[HN hb,hI.out,byC,Int.emod_eq_of_lt (by omega) (by have:=s[k].toNat_lt;omega)]
   have hg:=Eh .xor c ((s[k].toNat:Int) % 4294967296)
   go_wp2_with fail
   generalize bits .xor .u32 c ((s[k].toNat:Int) % 4294967296)=d0 at *
   clear hb
   go_loop [3,5] (fun sm jx=>∃ (j:Nat) (d:Int),j<=8∧jx=.int .i64 j∧sm=.int .u32 d∧U32 d∧Hid (itC j d0=d)) (fun _ jx=>8-(intOf jx).toNat)
   case atStart=>exact⟨0,d0,by omega,rfl,rfl,hg,rfl⟩
   case round=>
    obtain⟨j,d,hj,rfl,rfl,hV,hJ⟩:=hrel
    by_cases hj8:j<8
    ·have hn:Hid (itC (j+1) d0=stC d):=by show stC (itC j d0)=_;rw[hJ.out]
     have hu:=JD hV
     have hm:=hV.1
     have ho:=hV.2
     by_cases hp:d % 2=1
     ·have hc:Hid (stC d=bits .xor .u32 (d / 2) 3988292384):=by show stC d=_;unfold stC;rw[if_pos hp]
      generalize stC d=z at *
      go_wp2
      go_round
      case rel=>exact⟨j+1,_,by omega,by go_num,by rw[hc.out],hu,hn⟩
      case measure=>simp[intOf];omega
     ·have hh:d % 2=0:=by omega
      have hc:Hid (stC d=d / 2):=by show stC d=_;unfold stC;rw[if_neg hp]
      generalize stC d=z at *
      go_wp2
      go_round
      case rel=>exact⟨j+1,_,by omega,by go_num,by rw[hc.out],hu,hn⟩
      case measure=>simp[intOf];omega
    ·obtain rfl:j=8:=by omega
     go_wp2
     go_round
     case rel=>exact⟨k+1,_,by omega,by go_num,rfl,hV,by show _=_;rw[hf.out,hJ.out]⟩
     case measure=>simp[intOf];omega
  ·obtain rfl:k=s.size:=by omega
   have ha:Hid (R=bits .xor .u32 4294967295 c):=by
    show _=_
    rw[<-hR.out,FR,<-hI.out,Zk (by simp)]
   have he:U32 R:=by rw[<-hR.out];exact Eh _ _ _
   obtain⟨hq,hr⟩:=he
   go_wp2
   go_returns
   refine ⟨?_,by go_grown⟩
   have e:bits .xor .u32 IntKind.u32.max c=R:=ha.out.symm
   show Ending.returned (.string (strOfNums [bits .xor .u32 IntKind.u32.max c % 256,bits .xor .u32 IntKind.u32.max c / 256 % 256,bits .xor .u32 IntKind.u32.max c / 65536 % 256,bits .xor .u32 IntKind.u32.max c / 16777216 % 256]))=_
   rw[e,Int.emod_eq_of_lt (a:=R / 16777216) (by omega) (by omega)]
   rfl
end
section
open Go Go.RowKit Go.BigFrame Go.Shelf Tryz
theorem IC {w:World}{b:Nat}{a c d e:Int}(h:Blk w b #[.int .u8 a,.int .u8 c,.int .u8 d,.int .u8 e] 5):(convert 22 9 (.slice (some ⟨b,0,none⟩) 4 4)).run prog w=.ok (.string (strOfNums [a,c,d,e])) w:=
 run_convert_bytes_arg (P:=prog) _ 22 5 underlying22 underlying5 b 0 4 4 [a,c,d,e] rfl (fun i hi=>(by
  rcases i with _ | _ | _ | _ | i
  ·exact h.cell 0
  ·exact h.cell 1
  ·exact h.cell 2
  ·exact h.cell 3
  ·omega)) 9 underlying9
theorem IY {dn T:ByteArray}{n:Int}{t:List UInt8}(hd:AF n=dn)(hT:(⟨t.toArray⟩:ByteArray)=T):dn++⟨#[10]⟩++T=⟨(CG n t).toArray⟩:=by
 rw[<-hd,<-hT]
 refine Da ?_
 simp[CG,ByteArray.data_append]
theorem HH {n:Int}{t:List UInt8}(h0:0<=n)(h1:n<=1000000000)(ht:t.length<=1000000):(CG n t).length<=1000014:=by
 have:=Dw (n:=n) (by omega) (by omega)
 have h2:(AF n).data.toList.length=(AF n).size:=by simp
 unfold CG
 simp only[ZE,List.length_singleton]
 omega
theorem Mk {P:Program}{Q:Exit->Act->World->Prop}{md:Region.Mode}{S:World->Prop}{l:List Oper}{i j:Nat}{o o':Oper}{fuel:Nat}{listed:Array Bool}{a:Act}{w:World}(hr:Region.ready md l.toArray listed=[i,j])(hi:l[i]?=some o)(hj:l[j]?=some o')
  (h:∀ K':Act->World->Prop,Shut (∀ a w,S w->(S w->wpAnyH P md l.toArray Q S fuel (listed.setIfInBounds i true) a w)->K' a w)->if Region.wanted o (yielded l.toArray a.tmps)=true then Oper.wp P o a w K' Q else K' (a.put o.dst undef) w)
  (h':∀ K':Act->World->Prop,Shut (∀ a w,S w->(S w->wpAnyH P md l.toArray Q S fuel (listed.setIfInBounds j true) a w)->K' a w)->if Region.wanted o' (yielded l.toArray a.tmps)=true then Oper.wp P o' a w K' Q else K' (a.put o'.dst undef) w) :
  wpAnyH P md l.toArray Q S (fuel+1) listed a w:=
 wpAnyH_ready hr (by simp) (AllReadyH.cons (by simpa using hi) h (AllReadyH.cons (by simpa using hj) h' AllReadyH.nil))
theorem GH (sz nx:Int)(ea:Option Addr)(en ec:Nat)(va:Option Addr)(vn vc:Nat)(ra:Option Addr)(rn rc:Nat)(la:Option Addr)(ln lc:Nat)(n:Int)(T:ByteArray)(w:World)(h0:0<=n)(h1:n<=1000000000)(hTs:T.size<=1000000)
  (kt:∀ u:World,Below w.heap.size w u->Calls prog 58 #[.agg #[.int .i64 sz,.int .i64 nx,.slice ea en ec,.slice va vn vc,.slice ra rn rc,.slice la ln lc]] u fun e w'=>e=.returned (.string T)∧Below u.heap.size u w') :
  Calls prog 27 #[.int .i64 n,.agg #[.int .i64 sz,.int .i64 nx,.slice ea en ec,.slice va vn vc,.slice ra rn rc,.slice la ln lc]] w fun e w'=>e=.returned (.string (DW n T.data.toList))∧Below w.heap.size w w':=by
 obtain⟨dn,hk⟩:∃ zz,Hid (AF n=zz):=⟨_,rfl⟩
 have kd:∀ u:World,Calls prog 57 #[.int .i64 n] u fun e w'=>e=.returned (.string dn)∧Below u.heap.size u w':=fun u=>by rw[<-hk.out];exact Bl n u (by omega) (by omega)
 have hq:T.data.toList.length<=1000000:=by rw[<-Lib.size_eq];exact hTs
 have hr:=HH h0 h1 hq
 obtain⟨b,hb⟩:∃ z,Hid (z=dn++⟨#[10]⟩++T):=⟨_,rfl⟩
 have hm:Hid (b=⟨(CG n T.data.toList).toArray⟩):=by show _=_;rw[hb.out,IY hk.out (Lib.mk_data T)]
 have hs:b.size<=1000014:=by
  rw[hm.out]
  show (CG n T.data.toList).toArray.size<=_
  simpa using hr
 have ht:dn.size<=13:=by rw[<-hk.out];exact Dw (by omega) (by omega)
 have e1:¬ 9223372036854775807<dn.size+(⟨#[10]⟩:ByteArray).size:=by show ¬ _<_+1;omega
 have e2:¬ 9223372036854775807<(dn++⟨#[10]⟩).size+T.size:=by
  have:(dn++⟨#[10]⟩++T).size<=1000014:=by rw[<-hb.out];exact hs
  rw[kX_] at this
  omega
 have he:Hid (DW n T.data.toList=hiB b.size++b++loB (FR b.data.toList)):=by
  show _=_
  unfold DW
  rw[hm.out]
  have:((⟨(CG n T.data.toList).toArray⟩:ByteArray).size)=(CG n T.data.toList).length:=by show (CG n T.data.toList).toArray.size=_;simp
  rw[this]
 generalize DW n T.data.toList=R at *
 go_enter func27,ntmps27
 have C:=Blk.new w #[.int .i64 sz,.int .i64 nx,.slice ea en ec,.slice va vn vc,.slice ra rn rc,.slice la ln lc] 28
 have hh:Below w.heap.size w (w.alloc (.cells #[.int .i64 sz,.int .i64 nx,.slice ea en ec,.slice va vn vc,.slice ra rn rc,.slice la ln lc] 28)):=by go_grown
 go_wp2_with fail
 generalize w.alloc (.cells #[.int .i64 sz,.int .i64 nx,.slice ea en ec,.slice va vn vc,.slice ra rn rc,.slice la ln lc] 28)=W at *
 replace kt:=fun (u:World) (hu:Below W.heap.size W u)=>kt u (Aa hh hu)
 have q0:=Ac (C.cell 0)
 have q1:=Ac (C.cell 1)
 have q2:=Ac (C.cell 2)
 have q3:=Ac (C.cell 3)
 have q4:=Ac (C.cell 4)
 have q5:=Ac (C.cell 5)
 refine ab_ (by kernel_rfl) (by kernel_rfl) ?_
 have hw:=aA_ W
 iterate 2 (go_big_quiet_step (first | (go_at_call 57;exact an_ (kd _))))
 iterate 3 (go_big_quiet_step (first | (go_at_call 58;exact an_ (kt _ (Grw.h _)))))
 iterate 2 (go_big_quiet_step (fail))
 refine wpQuiet_nil ?_
 intro w1 hn
 have hl:=Aa hh (ah_ hn)
 rw[<-hb.out]
 clear hn q0 q1 q2 q3 q4 q5 e1 e2 kd kt ht hh C
 go_wp2_with fail
 obtain⟨H,hH⟩:∃ z,Hid (strOfNums [IntKind.u8.wrap ((b.size:Int) / 16777216),IntKind.u8.wrap ((b.size:Int) / 65536),IntKind.u8.wrap ((b.size:Int) / 256),IntKind.u8.wrap (b.size:Int)]=z):=⟨_,rfl⟩
 have hj:Hid (H=hiB b.size):=by
  show _=_
  rw[<-hH.out,hiB]
  simp only[IntKind.wrap_u8]
  rw[Int.emod_eq_of_lt (a:=(b.size:Int) / 16777216) (by omega) (by omega)]
 obtain⟨L,hL⟩:∃ z,Hid (loB (FR b.data.toList)=z):=⟨_,rfl⟩
 have ho:H.size=4:=by rw[<-hH.out,strOfNums_size];rfl
 have hp:L.size=4:=by rw[<-hL.out,loB,strOfNums_size];rfl
 have e3:¬ 9223372036854775807<H.size+b.size:=by omega
 have e4:¬ 9223372036854775807<H.size+b.size+L.size:=by omega
 clear ho hp
 have hg:=hl.drew
 have hv:(fun _=>True) w1.drew:=trivial
 refine aC_ (S:=(fun _=>True)) 19 (by kernel_rfl) rfl ?_
 generalize w1.drew=W2 at *
 clear hl w1
 refine tk 0 ?_
 refine tk 1 ?_
 refine tk 2 ?_
 refine tk 3 ?_
 refine tk 4 ?_
 refine tk 5 ?_
 refine tk 6 ?_
 refine tk 7 ?_
 refine tk 8 ?_
 refine tk 9 ?_
 refine tk 10 ?_
 refine tk 13 ?_
 refine tk 15 ?_
 refine Mk (i:=11) (j:=16) (by kernel_rfl) rfl rfl (fun K hK=>?_) (fun K hK=>?_)
 ·go_simp
  have V3:=Blk.new W2 #[.int .u8 (IntKind.u8.wrap (↑b.size / 16777216)),.int .u8 (IntKind.u8.wrap (↑b.size / 65536)),.int .u8 (IntKind.u8.wrap (↑b.size / 256)),.int .u8 (IntKind.u8.wrap ↑b.size)] 5
  have hc:Below w.heap.size w (W2.alloc (.cells #[.int .u8 (IntKind.u8.wrap (↑b.size / 16777216)),.int .u8 (IntKind.u8.wrap (↑b.size / 65536)),.int .u8 (IntKind.u8.wrap (↑b.size / 256)),.int .u8 (IntKind.u8.wrap ↑b.size)] 5)):=hg.alloc hg.size _
  generalize W2.alloc (.cells #[.int .u8 (IntKind.u8.wrap (↑b.size / 16777216)),.int .u8 (IntKind.u8.wrap (↑b.size / 65536)),.int .u8 (IntKind.u8.wrap (↑b.size / 256)),.int .u8 (IntKind.u8.wrap ↑b.size)] 5)=W3 at *
  refine hK.out _ _ trivial (fun hHeld=>?_)
  clear hK K
  try simp only[Act.put,Yj,Yq,Yr]
  refine Mk (i:=12) (j:=16) (by kernel_rfl) rfl rfl (fun K hK=>?_) (fun K hK=>?_)
  ·have hf:=IC V3
   rw[hH.out] at hf
   go_simp
   refine hK.out _ _ trivial (fun hHeld=>?_)
   clear hK K
   try simp only[Act.put,Yj,Yq,Yr]
   refine tk 14 ?_
   refine Aq (i:=16) (by kernel_rfl) rfl (fun K hK=>?_)
   go_simp
   refine (ER b _ (by omega)).mono ?_
   rintro e W4 ⟨rfl,ha⟩
   replace ha:=Aa hc ha
   rw[hL.out]
   dsimp only
   refine hK.out _ _ trivial (fun hHeld=>?_)
   clear hK K
   try simp only[Act.put,Yj,Yq,Yr]
   refine tk 17 ?_
   refine tk 18 ?_
   refine wpAnyH_done (by kernel_rfl) ?_ _
   go_wp2
   go_returns
   exact⟨by rw[he.out,<-hj.out,hL.out];rfl,ha⟩
  ·go_simp
   refine (ER b _ (by omega)).mono ?_
   rintro e W4 ⟨rfl,ha⟩
   have V4:=V3.below ha
   replace ha:=Aa hc ha
   rw[hL.out]
   dsimp only
   refine hK.out _ _ trivial (fun hHeld=>?_)
   clear hK K
   try simp only[Act.put,Yj,Yq,Yr]
   refine Aq (i:=12) (by kernel_rfl) rfl (fun K hK=>?_)
   have hf:=IC V4
   rw[hH.out] at hf
   go_simp
   refine hK.out _ _ trivial (fun hHeld=>?_)
   clear hK K
   try simp only[Act.put,Yj,Yq,Yr]
   refine tk 14 ?_
   refine tk 17 ?_
   refine tk 18 ?_
   refine wpAnyH_done (by kernel_rfl) ?_ _
   go_wp2
   go_returns
   exact⟨by rw[he.out,<-hj.out,hL.out];rfl,ha⟩
 ·go_simp
  refine (ER b _ (by omega)).mono ?_
  rintro e W3 ⟨rfl,hc⟩
  replace hc:=Aa hg hc
  rw[hL.out]
  dsimp only
  refine hK.out _ _ trivial (fun hHeld=>?_)
  clear hK K
  try simp only[Act.put,Yj,Yq,Yr]
  refine Aq (i:=11) (by kernel_rfl) rfl (fun K hK=>?_)
  go_simp
  have V4:=Blk.new W3 #[.int .u8 (IntKind.u8.wrap (↑b.size / 16777216)),.int .u8 (IntKind.u8.wrap (↑b.size / 65536)),.int .u8 (IntKind.u8.wrap (↑b.size / 256)),.int .u8 (IntKind.u8.wrap ↑b.size)] 5
  have ha:Below w.heap.size w (W3.alloc (.cells #[.int .u8 (IntKind.u8.wrap (↑b.size / 16777216)),.int .u8 (IntKind.u8.wrap (↑b.size / 65536)),.int .u8 (IntKind.u8.wrap (↑b.size / 256)),.int .u8 (IntKind.u8.wrap ↑b.size)] 5)):=hc.alloc hc.size _
  generalize W3.alloc (.cells #[.int .u8 (IntKind.u8.wrap (↑b.size / 16777216)),.int .u8 (IntKind.u8.wrap (↑b.size / 65536)),.int .u8 (IntKind.u8.wrap (↑b.size / 256)),.int .u8 (IntKind.u8.wrap ↑b.size)] 5)=W4 at *
  refine hK.out _ _ trivial (fun hHeld=>?_)
  clear hK K
  try simp only[Act.put,Yj,Yq,Yr]
  refine Aq (i:=12) (by kernel_rfl) rfl (fun K hK=>?_)
  have hf:=IC V4
  rw[hH.out] at hf
  go_simp
  refine hK.out _ _ trivial (fun hHeld=>?_)
  clear hK K
  try simp only[Act.put,Yj,Yq,Yr]
  refine tk 14 ?_
  refine tk 17 ?_
  refine tk 18 ?_
  refine wpAnyH_done (by kernel_rfl) ?_ _
  go_wp2
  go_returns
  exact⟨by rw[he.out,<-hj.out,hL.out];rfl,ha⟩
def Cw (n:Int)(p:Po):ByteArray:=if (0<=n∧n<=1000000000)∧Ap p=true∧p.lt=[] then DW n (AO p) else ⟨#[]⟩
theorem G4 {n:Int}{p:Po}(h:¬ ((0<=n∧n<=1000000000)∧Ap p=true∧p.lt=[])):Cw n p=⟨#[]⟩:=if_neg h
theorem Gu {n:Int}{p:Po}(h0:0<=n)(h1:n<=1000000000)(hp:Ap p=true)(hl:p.lt=[]):Cw n p=DW n (AO p):=if_pos ⟨⟨h0,h1⟩,hp,hl⟩
theorem HA (B0:Nat)(v:Value)(p:Po)(n:Int)(w:World)(h:AW B0 w v p)(hd:AJ p)(hN:Hc p)(h0:0<=n)(h1:n<=1000000000) :
  Calls prog 27 #[.int .i64 n,v] w fun e w'=>e=.returned (.string (DW n (AO p)))∧Below w.heap.size w w':=by
 have ha:=h
 obtain⟨ea,en,ec,va,vn,vc,ra,rn,rc,la,ln,lc,rfl,_⟩:=h
 have hs:(⟨(AO p).toArray⟩:ByteArray).size<=1000000:=by show (AO p).toArray.size<=_;simpa using hN.len
 have:=GH p.size p.next ea en ec va vn vc ra rn rc la ln lc n ⟨(AO p).toArray⟩ w h0 h1 hs (fun u hu=>FO B0 _ p u (ha.below hu) hd hN)
 simpa using this
theorem Gs (B0:Nat)(hB0:0<B0)(v:Value)(p:Po)(n:Int)(w:World)(h:AW B0 w v p)(hd:AJ p)(hN:Ap p=true->Hc p) :
  Calls prog 8 #[.int .i64 n,v] w fun e w'=>e=.returned (.string (Cw n p))∧Below w.heap.size w w':=by
 have hg:=h
 obtain⟨ea,en,ec,va,vn,vc,ra,rn,rc,la,ln,lc,rfl,_,_,_,h4,_⟩:=h
 have hf:Hid (p.lt.length=ln):=h4.len
 clear h4
 have C:=Blk.new w #[.int .i64 p.size,.int .i64 p.next,.slice ea en ec,.slice va vn vc,.slice ra rn rc,.slice la ln lc] 28
 have he:Below w.heap.size w (w.alloc (.cells #[.int .i64 p.size,.int .i64 p.next,.slice ea en ec,.slice va vn vc,.slice ra rn rc,.slice la ln lc] 28)):=by go_grown
 have kin:=fun (u:World)=>ai_ n 0 1000000000 u
 by_cases hx:(0<=n∧n<=1000000000)∧Ap p=true∧p.lt=[]
 ·obtain⟨⟨h0,h1⟩,hp,hl⟩:=hx
  have hj:ln=0:=by rw[<-hf.out,hl];rfl
  subst hj
  have ks:=fun (u:World) (hu:Below w.heap.size w u)=>HA B0 _ p n u (hg.below hu) hd (hN hp) h0 h1
  have kp:=fun (u:World) (hu:Below w.heap.size w u)=>ep_ B0 hB0 _ p u (hg.below hu) hd
  rw[hp] at kp
  rw[Gu h0 h1 hp hl]
  obtain⟨T,hT⟩:∃ z,Hid (DW n (AO p)=z):=⟨_,rfl⟩
  rw[hT.out] at ks
  rw[hT.out]
  go_enter func8,ntmps8
  go_wp2_with fail
  generalize w.alloc (.cells #[.int .i64 p.size,.int .i64 p.next,.slice ea en ec,.slice va vn vc,.slice ra rn rc,.slice la 0 lc] 28)=W at *
  have d0:=C.cell 0
  have d1:=C.cell 1
  have d2:=C.cell 2
  have d3:=C.cell 3
  have d4:=C.cell 4
  have d5:=C.cell 5
  refine (kin W).mono ?_
  rintro e w1 ⟨rfl,rfl⟩
  rw[show (decide (0<=n)&&decide (n<=1000000000))=true by simp[h0,h1]]
  go_wp2_with fail
  refine (kp _ he).mono ?_
  rintro e w2 ⟨rfl,ha⟩
  have C2:=C.below ha
  replace ha:=Aa he ha
  clear d0 d1 d2 d3 d4 d5 C he
  obtain⟨d0,d1,d2,d3,d4,d5⟩:=C2.six
  go_wp2_with fail
  refine (ks w2 ha).mono ?_
  rintro e w3 ⟨rfl,hh⟩
  go_wp2
  go_returns
  exact⟨rfl,Aa ha hh⟩
 ·rw[G4 hx]
  have kp:=fun (u:World) (hu:Below w.heap.size w u)=>ep_ B0 hB0 _ p u (hg.below hu) hd
  go_enter func8,ntmps8
  go_wp2_with fail
  generalize w.alloc (.cells #[.int .i64 p.size,.int .i64 p.next,.slice ea en ec,.slice va vn vc,.slice ra rn rc,.slice la ln lc] 28)=W at *
  obtain⟨d0,d1,d2,d3,d4,d5⟩:=C.six
  refine (kin W).mono ?_
  rintro e w1 ⟨rfl,rfl⟩
  by_cases hin:0<=n∧n<=1000000000
  ·rw[show (decide (0<=n)&&decide (n<=1000000000))=true by simp[hin.1,hin.2]]
   go_wp2_with fail
   refine (kp _ he).mono ?_
   rintro e w2 ⟨rfl,ha⟩
   have C2:=C.below ha
   replace ha:=Aa he ha
   clear d0 d1 d2 d3 d4 d5 C he
   obtain⟨d0,d1,d2,d3,d4,d5⟩:=C2.six
   cases hp:Ap p
   ·go_wp2
    go_returns
    exact⟨rfl,ha⟩
   ·have hl:0<ln:=by
     rcases Nat.eq_zero_or_pos ln with h | h
     ·exact absurd ⟨hin,hp,Zt (by rw[hf.out];exact h)⟩ hx
     ·exact h
    go_wp2
    go_returns
    exact⟨rfl,ha⟩
  ·have hb:(decide (0<=n)&&decide (n<=1000000000))=false:=by
    cases hc:(decide (0<=n)&&decide (n<=1000000000)) with
    |false=>rfl
    |true=>simp at hc;exact absurd hc hin
   rw[hb]
   go_wp2
   go_returns
   exact⟨rfl,he⟩
theorem JH (p:Po):¬ (⟨(AO p).toArray⟩:ByteArray).toList=[]:=by
 have h:AO p≠[]:=by unfold AO Ah;simp
 rw[Zu]
 simpa using h
theorem KC {T:ByteArray}(h:¬ T.toList=[]):T.toList.isEmpty=false:=by
 cases hc:T.toList with
 |nil=>exact absurd hc h
 |cons x l=>rfl
theorem Gk (B0:Nat)(v:Value)(p:Po)(n:Int)(w:World)(h:AW B0 w v p)(hd:AJ p)(hN:Ap p=true->Hc p)(ht:ES w)(hg:9<=w.heap.size) :
  Calls prog 6 #[.int .i64 n,v] w fun e w'=>e=.returned (.string (Cw n p))∧Below w.heap.size w w':=by
 have hv:=h
 obtain⟨ea,en,ec,va,vn,vc,ra,rn,rc,la,ln,lc,rfl,_,_,_,h4,_⟩:=h
 have hh:Hid (p.lt.length=ln):=h4.len
 clear h4
 have C:=Blk.new w #[.int .i64 p.size,.int .i64 p.next,.slice ea en ec,.slice va vn vc,.slice ra rn rc,.slice la ln lc] 28
 have hc:Below w.heap.size w (w.alloc (.cells #[.int .i64 p.size,.int .i64 p.next,.slice ea en ec,.slice va vn vc,.slice ra rn rc,.slice la ln lc] 28)):=by go_grown
 have kt:=fun (u:World) (hu:Below w.heap.size w u)=>GC B0 _ p u (hv.below hu) hd hN (Br ht hu hg) (by have:=hu.size;omega)
 obtain⟨T,hT⟩:∃ z,Hid (BL p=z):=⟨_,rfl⟩
 rw[hT.out] at kt
 by_cases hx:(0<=n∧n<=1000000000)∧Ap p=true∧p.lt=[]
 ·obtain⟨⟨h0,h1⟩,hp,hl⟩:=hx
  have hw:ln=0:=by rw[<-hh.out,hl];rfl
  subst hw
  have hm:Hid (T=⟨(AO p).toArray⟩):=by show _=_;rw[<-hT.out];unfold BL;rw[hp];rfl
  have he:¬ T.toList=[]:=by rw[hm.out];exact JH p
  have ho:=KC he
  have hy:T.size<=1000000:=by rw[hm.out];show (AO p).toArray.size<=_;simpa using (hN hp).len
  obtain⟨dn,hn⟩:∃ zz,Hid (AF n=zz):=⟨_,rfl⟩
  have hA:dn.size<=13:=by rw[<-hn.out];exact Dw (by omega) (by omega)
  obtain⟨b,hb⟩:∃ z,Hid (z=dn++⟨#[10]⟩++T):=⟨_,rfl⟩
  have hq:Hid (b=⟨(CG n (AO p)).toArray⟩):=by show _=_;rw[hb.out,IY hn.out hm.out.symm]
  have hz:b.size<=1000014:=by
   rw[hq.out]
   show (CG n (AO p)).toArray.size<=_
   simpa using HH h0 h1 (hN hp).len
  have e1:¬ 9223372036854775807<dn.size+(⟨#[10]⟩:ByteArray).size:=by show ¬ _<_+1;omega
  have e2:¬ 9223372036854775807<dn.size+(⟨#[10]⟩:ByteArray).size+T.size:=by show ¬ _<_+1+_;omega
  have hf:Hid (Cw n p=hiB b.size++b++loB (FR b.data.toList)):=by
   show _=_
   rw[Gu h0 h1 hp hl]
   unfold DW
   rw[hq.out]
   have:((⟨(CG n (AO p)).toArray⟩:ByteArray).size)=(CG n (AO p)).length:=by show (CG n (AO p)).toArray.size=_;simp
   rw[this]
  generalize Cw n p=R at *
  go_enter func6,ntmps6
  go_wp2_with fail
  generalize w.alloc (.cells #[.int .i64 p.size,.int .i64 p.next,.slice ea en ec,.slice va vn vc,.slice ra rn rc,.slice la 0 lc] 28)=W at *
  refine (kt W hc).mono ?_
  rintro e w1 ⟨rfl,ha⟩
  have c5:=(C.below ha).cell 5
  replace ha:=Aa hc ha
  clear C hc kt
  go_wp2_with fail
  refine (Az n _ (by omega) (by omega) (Br ht ha hg)).mono ?_
  rintro e w2 ⟨rfl,hj⟩
  rw[hn.out]
  replace hj:=Aa ha hj
  go_wp2_with fail
  have hr:(dn.size:Int)+1+T.size=b.size:=by
   rw[hb.out,kX_,kX_]
   show _=((dn.size+1+T.size:Nat):Int)
   omega
  rw[hr,<-hb.out]
  clear hr
  refine (E7 b.size _ ⟨by omega,by omega⟩).mono ?_
  rintro e w3 ⟨rfl,hk⟩
  replace hk:=Aa hj hk
  obtain⟨H,hH⟩:∃ z,Hid (hiB b.size=z):=⟨_,rfl⟩
  obtain⟨L,hL⟩:∃ z,Hid (loB (FR b.data.toList)=z):=⟨_,rfl⟩
  have e3:¬ 9223372036854775807<H.size+b.size:=by
   have:H.size=4:=by rw[<-hH.out,hiB,strOfNums_size];rfl
   omega
  have e4:¬ 9223372036854775807<H.size+b.size+L.size:=by
   have:H.size=4:=by rw[<-hH.out,hiB,strOfNums_size];rfl
   have:L.size=4:=by rw[<-hL.out,loB,strOfNums_size];rfl
   omega
  rw[hH.out,hL.out] at hf
  rw[hH.out]
  go_wp2_with fail
  refine (GE b _ (by omega)).mono ?_
  rintro e w4 ⟨rfl,rfl⟩
  go_wp2_with fail
  refine (Fv (FR b.data.toList) _ (Eh _ _ _)).mono ?_
  rintro e w5 ⟨rfl,hs⟩
  rw[hL.out]
  go_wp2
  go_returns
  exact⟨by rw[hf.out];rfl,Aa hk hs⟩
 ·rw[G4 hx]
  go_enter func6,ntmps6
  go_wp2_with fail
  generalize w.alloc (.cells #[.int .i64 p.size,.int .i64 p.next,.slice ea en ec,.slice va vn vc,.slice ra rn rc,.slice la ln lc] 28)=W at *
  refine (kt W hc).mono ?_
  rintro e w1 ⟨rfl,ha⟩
  have c5:=(C.below ha).cell 5
  replace ha:=Aa hc ha
  clear C hc kt
  by_cases x0:n<0
  ·go_wp2
   go_returns
   exact⟨rfl,ha⟩
  ·by_cases x1:1000000000<n
   ·go_wp2
    go_returns
    exact⟨rfl,ha⟩
   ·cases hp:Ap p
    ·have he:T.toList=[]:=by
      rw[<-hT.out];unfold BL
      rw[hp,if_neg (by simp),Zu]
     have ho:T.toList.isEmpty=true:=by rw[he];rfl
     go_wp2
     go_returns
     exact⟨rfl,ha⟩
    ·have he:¬ T.toList=[]:=by rw[<-hT.out];unfold BL;rw[hp];exact JH p
     have ho:=KC he
     have hl:0<ln:=by
      rcases Nat.eq_zero_or_pos ln with h | h
      ·exact absurd ⟨⟨by omega,by omega⟩,hp,Zt (by rw[hh.out];exact h)⟩ hx
      ·exact h
     go_wp2
     go_returns
     exact⟨rfl,ha⟩
end
section
open Go.Shelf Go.RowKit Go.Lib Tryz
def Lx:Go.Shelf.Ren:=⟨fun | 145=>22 | 220=>44 | 219=>81 | 217=>126 | 225=>127 | 224=>128 | 267=>129 | 266=>160 | 314=>161 | n=>n,fun | 9=>9 | 4=>4 | 59=>50 | 3=>3 | 5=>5 | 46=>85 | 146=>196 | 51=>48 | n=>n,fun | 1=>1 | n=>n⟩
theorem cuL:Lays.n145 Tryz.prog Lx where
 mixed:=by kernel_rfl
 f145:=Tryz.func22.trans (congrArg some (by kernel_rfl))
 f217:=Tryz.func126.trans (congrArg some (by kernel_rfl))
 f219:=Tryz.func81.trans (congrArg some (by kernel_rfl))
 f220:=Tryz.func44.trans (congrArg some (by kernel_rfl))
 f224:=Tryz.func128.trans (congrArg some (by kernel_rfl))
 f225:=Tryz.func127.trans (congrArg some (by kernel_rfl))
 f266:=Tryz.func160.trans (congrArg some (by kernel_rfl))
 f267:=Tryz.func129.trans (congrArg some (by kernel_rfl))
 f314:=Tryz.func161.trans (congrArg some (by kernel_rfl))
 t3:=Tryz.underlying3
 a3:=Tryz.isAgg3
 z3:=Tryz.sizeOf3
 v3:=Tryz.zeroValue3
 t4:=Tryz.underlying4
 a4:=Tryz.isAgg4
 z4:=Tryz.sizeOf4
 v4:=Tryz.zeroValue4
 t5:=Tryz.underlying5
 a5:=Tryz.isAgg5
 z5:=Tryz.sizeOf5
 v5:=Tryz.zeroValue5
 t9:=Tryz.underlying9
 a9:=Tryz.isAgg9
 z9:=Tryz.sizeOf9
 v9:=Tryz.zeroValue9
 t46:=Tryz.underlying85
 a46:=Tryz.isAgg85
 z46:=Tryz.sizeOf85
 v46:=Tryz.zeroValue85
 t51:=Tryz.underlying48
 a51:=Tryz.isAgg48
 z51:=Tryz.sizeOf48
 v51:=Tryz.zeroValue48
 t59:=Tryz.underlying50
 a59:=Tryz.isAgg50
 z59:=Tryz.sizeOf50
 v59:=Tryz.zeroValue50
 t146:=Tryz.underlying196
 a146:=Tryz.isAgg196
 z146:=Tryz.sizeOf196
 v146:=Tryz.zeroValue196
 g1:=by kernel_rfl
end
section
open Go Go.RowKit Go.BigFrame Tryz
def nVs (vs:List Vo):Nat:=(vs.map fun v=>3+(v.its.map fun x=>1+3*x.ps.length).sum).sum
theorem MA (its:List It):(its.map fun x=>1+3*x.ps.length).sum<=3*(its.flatMap BX).length:=by
 induction its with
 |nil=>simp
 |cons x l ih=>simp[BX] at ih ⊢;omega
theorem MB (vs:List Vo):nVs vs<=3*(vs.flatMap Bt).length:=by
 unfold nVs
 induction vs with
 |nil=>simp
 |cons v l ih=>
  have:=MA v.its
  simp[Bt] at ih this ⊢
  omega
structure Lm (p:Po):Prop where
 small:Ix p
 ex:p.ex.length<=60000
 vs:p.vs.length<=60000
 its:∀ v∈p.vs,v.its.length<=60000∧∀ x∈v.its,x.ps.length<=60000
 nv:nVs p.vs<=180000
 rf:p.rf.length<=60000
 lt:p.lt.length<=60000
theorem JW {p:Po}(h:(AO p).length<=60000):Lm p:=by
 rw[DY] at h
 have hc:=FX (Ch p)
 have hm:∀ l∈Ch p,l.length<=60000:=fun l hl=>by have:=FY hl;omega
 have hL:(Ch p).length<=60000:=by omega
 have e:Ch p=joW [BA,Lib.itoa p.size,Lib.itoa p.next]::(p.ex.map DM++(p.vs.flatMap Bt++(p.rf.map (Bu B7)++p.lt.map (Bu Bj)))):=by simp[Ch]
 rw[e] at hL
 simp only[Zw,ZE,List.length_map] at hL
 have hw:∀ (x:ByteArray) (l:By),l∈Ch p->x.data.toList.length<=l.length->x.size<=1048576:=fun x l hl hx=>by
  have:=hm l hl
  rw[Lib.size_eq]
  omega
 have he:∀ v∈p.vs,∀ l∈Bt v,l∈Ch p:=fun v hv l hl=>by
  rw[e]
  simp only[Zn,Zs,ZL]
  exact .inr (.inr (.inl ⟨v,hv,hl⟩))
 have hf:p.vs.length<=60000:=by
  have:=El (f:=Bt) p.vs (fun v _=>by simp[Bt])
  omega
 have ha:∀ v∈p.vs,v.its.length<=60000∧∀ x∈v.its,x.ps.length<=60000:=fun v hv=>by
  have h1:=Dx (f:=Bt) hv
  have h3:(Bt v).length=1+(v.its.flatMap BX).length:=by simp[Bt];omega
  refine ⟨?_,fun x hx=>?_⟩
  ·have h2:=El (f:=BX) v.its (fun x _=>by simp[BX])
   omega
  ·have h2:=Dx (f:=BX) hx
   have h4:(BX x).length=1+x.ps.length:=by simp[BX];omega
   omega
 refine ⟨⟨⟨by omega,fun x hx=>?_⟩,⟨by omega,fun v hv=>⟨?_,⟨by have:=(ha v hv).1;omega,fun x hx=>⟨?_,by have:=(ha v hv).2 x hx;omega⟩⟩⟩⟩,⟨by omega,fun c hb=>?_⟩,by omega,fun c hb=>?_⟩,by omega,hf,ha,?_,by omega,by omega⟩
 ·exact hw _ (DM x) (by rw[e];simp only[Zn,Zs,ZT];exact .inr (.inl ⟨x,hx,rfl⟩)) (De (l:=[exK,Lib.itoa x.a,x.d.data.toList]) (by simp))
 ·exact hw _ (joW [Cl,Lib.itoa v.id,v.nm.data.toList,Dm v.fx]) (he v hv _ (by simp[Bt])) (De (by simp))
 ·exact hw _ (joW [Bz,x.nm.data.toList]) (he v hv _ (by simp only[Bt,Zn,ZL];exact .inr ⟨x,hx,by simp[BX]⟩)) (De (by simp))
 ·exact hw _ (Bu B7 c) (by rw[e];simp only[Zn,Zs,ZT];exact .inr (.inr (.inr (.inl ⟨c,hb,rfl⟩)))) (De (l:=[B7,Lib.itoa c.o.a,Lib.itoa c.o.v,c.o.f.data.toList,Lib.itoa c.n]) (by simp))
 ·exact hw _ (Bu Bj c) (by rw[e];simp only[Zn,Zs,ZT];exact .inr (.inr (.inr (.inr ⟨c,hb,rfl⟩)))) (De (l:=[Bj,Lib.itoa c.o.a,Lib.itoa c.o.v,c.o.f.data.toList,Lib.itoa c.n]) (by simp))
 ·have:=MB p.vs
  omega
theorem EQ:Lm Ar:=by
 refine ⟨⟨⟨by simp[Ar],fun x hx=>by simp[Ar] at hx⟩,⟨by simp[Ar],fun x hx=>by simp[Ar] at hx⟩,⟨by simp[Ar],fun x hx=>by simp[Ar] at hx⟩,by simp[Ar],fun x hx=>by simp[Ar] at hx⟩,by simp[Ar],by simp[Ar],fun x hx=>by simp[Ar] at hx,by simp[Ar,nVs],by simp[Ar],by simp[Ar]⟩
theorem HV (s:By):Lm ((CM s).getD Ar):=by
 unfold CM
 split
 ·next hs=>
  rw[Ht]
  cases hI:Eb s with
  |none=>exact EQ
  |some p=>
   show Lm ((if Ap p=true then some p else none).getD Ar)
   split
   ·exact JW (p:=p) (by rw[<-Hu hI];exact hs)
   ·exact EQ
 ·exact EQ
def Ee (s:By):By:=(s.drop 4).take (s.length-8)
def hdB (m:By):By:=match cutB 10 m with
 |none=>m
 |some q=>q.1
def tlB (m:By):By:=match cutB 10 m with
 |none=>[]
 |some q=>q.2
noncomputable def rsO (s:ByteArray):Option (Int×Po):=if 8<=s.size∧s.size<=120000 then (numP (hdB (Ee s.data.toList))).bind fun n=>(CM (tlB (Ee s.data.toList))).bind fun p=>if Cw n p=s then some (n,p) else none else none
theorem DC (s:By):(Ee s).length<=s.length:=by
 unfold Ee
 simp
 omega
theorem Ji (s:ByteArray)(h:8<=s.size):s.extract 4 (s.size-4)=bA (Ee s.data.toList):=by
 apply ByteArray.ext
 apply Array.ext'
 rw[ByteArray.data_extract,Array.toList_extract,bA,Ee]
 simp
 have:s.size=s.data.size:=rfl
 rw[this]
 congr 1
 omega
theorem Hh (w:World)(k:Nat):Below w.heap.size w (w.drewN k):=⟨rfl,rfl,rfl,Zd _,fun _ _=>rfl⟩
theorem AZ {P:Program}{fn:Func}{p q r:Tmp}{ty:TypeId}(h:fn.results=#[.tmp q,.cell p ty,.tmp r])(tmps:Array Value)(w:World)(g:Nat)(t:TypeId)(cs:Array Value)(fr:Nat×Nat)(d:TypeDesc)(v u:Value)
  (hp:tmps.getD p undef=.pointer (some ⟨g,0,none⟩)) (hq:tmps.getD q undef=v) (hr:tmps.getD r undef=u) (hg:w.heap[g]?=some (.cells cs t fr))
  (hu:P.underlying ty=some d) (hd:(match d with | .struct _ | .array _ _=>true | _=>false)=true) (hi:(P.info? ty).map (·.size)=some cs.size) :
  (results fn tmps).run P w=.ok (.tuple #[v,.agg cs,u]) w:=by
 have ha:tmps[p]?.getD undef=.pointer (some ⟨g,0,none⟩):=by simpa using hp
 have hb:tmps[q]?.getD undef=v:=by simpa using hq
 have hc:tmps[r]?.getD undef=u:=by simpa using hr
 simp[results,h,ha,hb,hc,asAddr,run_loadVar_row w g t ty cs fr d hg hu hd hi]
theorem Ho (s:ByteArray)(w:World)(hs:s.size<=1000000)(hG:Glb w) :
  Calls prog 23 #[.string s] w fun e w'=>e=.returned (Dz (numP s.data.toList))∧Below w.heap.size w w':=by
 obtain⟨t,ht⟩:∃ t:ByteArray,Hid ((⟨(Cn s.data.toList).toArray⟩:ByteArray)=t):=⟨_,rfl⟩
 have hj:t.size=(Cn s.data.toList).length:=by rw[<-ht.out,Lib.size_eq]
 have hk:t.size<=1000000:=by
  have h1:=JJ s.data.toList
  have h2:=Lib.size_eq s
  omega
 obtain⟨V,hV⟩:∃ V,Hid (Dz (numP s.data.toList)=V):=⟨_,rfl⟩
 rw[hV.out]
 have q1:Calls prog 45 #[.string s,.string ⟨#[45]⟩] w fun e w'=>e=.returned (.string t)∧w'=w:=by
  rw[<-ht.out]
  exact Any.strings_TrimPrefix tpL s ⟨#[45]⟩ w
 go_enter func23,ntmps23
 go_wp2_with fail
 refine q1.mono ?_
 rintro e w1 ⟨rfl,hg⟩
 obtain rfl:w=w1:=hg.symm
 clear q1
 rcases Nat.lt_or_ge 10 t.size with hh | hh
 ·have hv:V=.tuple #[.int .i64 0,.bool false]:=by rw[<-hV.out,GX (by omega)];rfl
  subst hv
  go_wp2
  go_returns
  exact⟨rfl,Yg _ _⟩
 ·have hc:=FK (s:=s.data.toList) (by omega)
  cases ha:Lib.atoi s.data.toList with
  |none=>
   have hv:V=.tuple #[.int .i64 0,.bool false]:=by rw[<-hV.out,H6 ha];rfl
   subst hv
   rw[ha] at hc
   obtain⟨tp,p,hy⟩:=hG.syn
   go_wp2_with fail
   refine (Any.strconv_ParseInt_10_at64_syntax piL s (by omega) hc (.iface tp p) w hy (.inr ⟨tp,p,rfl⟩)).mono ?_
   rintro e w1 ⟨N,rfl,_,_,hB⟩
   go_wp2
   go_returns
   exact⟨rfl,hB⟩
  |some n=>
   rw[ha] at hc
   have hb:=Lib.parseIntB_bounds hc
   rw[show (2 ^ (64-1):Nat)=9223372036854775808 by decide] at hb
   have q2:=fun (u:World) (hu:Below w.heap.size w u)=>Az n u (by omega) (by omega) (hG.below hu).tab
   clear hb
   go_wp2_with fail
   refine (Any.strconv_ParseInt_10_at64_ok piL s (by omega) n hc w).mono ?_
   rintro e w1 ⟨rfl,hg⟩
   have hB:Below w.heap.size w w1:=by
    rcases hg with rfl | ⟨t,rfl⟩
    ·exact Yg _ _
    ·exact Lib.bytesWorld_below _ _ _
   clear hg
   go_wp2_with fail
   refine (q2 w1 hB).mono ?_
   rintro e w2 ⟨rfl,hf⟩
   replace hf:=Aa hB hf
   by_cases hd:Lib.itoa n=s.data.toList
   ·have hv:V=.tuple #[.int .i64 n,.bool true]:=by rw[<-hV.out,GW (by omega) hd];rfl
    subst hv
    have he:(AF n).toList=s.toList:=by rw[Zu,Zu,Cb,hd]
    go_wp2
    go_returns
    exact⟨rfl,hf⟩
   ·have hv:V=.tuple #[.int .i64 0,.bool false]:=by rw[<-hV.out,Gp ha hd];rfl
    subst hv
    have he:((AF n).toList==s.toList)=false:=by rw[ZV,Zu,Zu,Cb];exact hd
    go_wp2
    go_returns
    exact⟨rfl,hf⟩
theorem Mu (l:By):(Lib.cut l [10]).1=hdB l∧(Lib.cut l [10]).2.1=tlB l:=by
 unfold Lib.cut hdB tlB
 rw[Dy 10 l]
 cases hc:cutB 10 l with
 |none=>simp
 |some q=>
  obtain⟨h1,_⟩:=A4 (a:=q.1) (b:=q.2) hc
  simp only
  rw[if_pos (by omega)]
  refine ⟨by rw[h1];simp,?_⟩
  have:(q.1.length:Int).toNat+[(10:UInt8)].length=(q.1++[10]).length:=by simp
  simp only
  rw[this,h1,show q.1++10::q.2=(q.1++[10])++q.2 by simp,List.drop_left]
theorem I9 (l:By):(hdB l).length<=l.length:=by
 unfold hdB
 cases hc:cutB 10 l with
 |none=>exact Zd _
 |some q=>
  obtain⟨h1,_⟩:=A4 (a:=q.1) (b:=q.2) hc
  rw[h1];simp
theorem JI (l:By):(tlB l).length<=l.length:=by
 unfold tlB
 cases hc:cutB 10 l with
 |none=>simp
 |some q=>
  obtain⟨h1,_⟩:=A4 (a:=q.1) (b:=q.2) hc
  rw[h1];simp;omega
theorem KH (s:ByteArray)(w:World)(hs:s.size<=2000000)(hG:Glb w) :
  Calls prog 7 #[.string s] w fun e w'=>(∃ v,e=.returned (.tuple #[.int .i64 ((rsO s).elim 0 (·.1)),v,.bool (rsO s).isSome])∧AE w.heap.size w' v ((rsO s).elim Ar (·.2)))∧Below w.heap.size w w':=by
 obtain⟨A,hA⟩:∃ A,Hid (rsO s=A):=⟨_,rfl⟩
 rw[hA.out]
 have hc:Below w.heap.size w (w.alloc (.cells #[.int .i64 0,.int .i64 0,.slice none 0 0,.slice none 0 0,.slice none 0 0,.slice none 0 0] 28)):=(Yg _ _).alloc (Zd _) _
 have QB:=Blk.new w #[.int .i64 0,.int .i64 0,.slice none 0 0,.slice none 0 0,.slice none 0 0,.slice none 0 0] 28
 by_cases hb:8<=s.size∧s.size<=120000
 ·obtain⟨hC,hI⟩:=hb
  obtain⟨M,hM⟩:∃ M,Hid (bA (Ee s.data.toList)=M):=⟨_,rfl⟩
  have hO:M.size<=120000:=by rw[<-hM.out,Cz];have:=DC s.data.toList;rw[<-Lib.size_eq] at this;omega
  obtain⟨Lb,hw⟩:∃ L,Hid (bA (hdB (Ee s.data.toList))=L):=⟨_,rfl⟩
  obtain⟨Tb,hx⟩:∃ L,Hid (bA (tlB (Ee s.data.toList))=L):=⟨_,rfl⟩
  have hr:Hid (A=(numP Lb.data.toList).bind fun n=>(CM Tb.data.toList).bind fun p=>if Cw n p=s then some (n,p) else none):=by
   show _=_
   rw[<-hA.out,rsO,if_pos ⟨hC,hI⟩,<-hw.out,<-hx.out,Af,Af]
  have hU:∀ u:World,(Instr.slice 9 (.string s) (some (.int .i64 4)) (some (.int .i64 ((s.size:Int)-4))) none).run prog u=.ok (.string M) u:=fun u=>by
   rw[<-hM.out,<-Ji s hC]
   have:=run_slice_string (P:=prog) u 9 s .i64 .i64 4 ((s.size:Int)-4) underlying9 (by omega) (by omega) (by omega)
   rw[show ((s.size:Int)-4).toNat=s.size-4 by omega] at this
   exact this
  have hQ:Tb.size<=120000:=by rw[<-hx.out,Cz];have:=JI (Ee s.data.toList);have h2:=DC s.data.toList;rw[<-Lib.size_eq] at h2;omega
  have hN:Lb.size<=120000:=by rw[<-hw.out,Cz];have:=I9 (Ee s.data.toList);have h2:=DC s.data.toList;rw[<-Lib.size_eq] at h2;omega
  have qc:∀ u:World,Glb u->Calls prog 22 #[.string M,.string ⟨#[10]⟩] u fun e w'=>(∃ b,e=.returned (.tuple #[.string Lb,.string Tb,.bool b]))∧Below u.heap.size u w':=fun u hu=>by
   obtain⟨m,hm⟩:=hu.mx
   refine (Any.strings_Cut cuL M ⟨#[10]⟩ m u (by omega) hm).mono ?_
   rintro e w' ⟨rfl,k,rfl⟩
   have hF:M.data.toList=Ee s.data.toList:=by rw[<-hM.out,Af]
   obtain⟨c1,c2⟩:=Mu M.data.toList
   refine ⟨⟨(Lib.cut M.data.toList [10]).2.2,?_⟩,Hh _ k⟩
   show Ending.returned (Value.tuple #[Value.string (bA (Lib.cut M.data.toList [10]).1),Value.string (bA (Lib.cut M.data.toList [10]).2.1),_])=_
   rw[c1,c2,hF,hw.out,hx.out]
  have qn:∀ u:World,Glb u->Calls prog 23 #[.string Lb] u fun e w'=>e=.returned (Dz (numP Lb.data.toList))∧Below u.heap.size u w':=fun u hu=>Ho Lb u (by omega) hu
  have qr:=fun (u:World) (hu:Glb u)=>GD Tb u (by omega) hu
  go_enter func7,ntmps7
  go_wp2_with fail
  generalize w.alloc (.cells #[.int .i64 0,.int .i64 0,.slice none 0 0,.slice none 0 0,.slice none 0 0,.slice none 0 0] 28)=W0 at *
  have G:=hG.below hc
  refine (qc W0 G).mono ?_
  rintro e w1 ⟨⟨bb,rfl⟩,hf⟩
  replace QB:=QB.below hf
  replace G:=G.below hf
  replace hc:=Aa hc hf
  clear hf qc
  go_wp2_with fail
  refine (qn w1 G).mono ?_
  rintro e w2 ⟨rfl,hg⟩
  replace QB:=QB.below hg
  replace G:=G.below hg
  replace hc:=Aa hc hg
  clear hg qn
  obtain⟨n,nb,hB,hD⟩:∃ n nb,Hid ((numP Lb.data.toList).isSome=nb∧(numP Lb.data.toList).getD 0=n)∧Dz (numP Lb.data.toList)=.tuple #[.int .i64 n,.bool nb]:=by
   cases numP Lb.data.toList with
   |none=>exact⟨0,false,⟨rfl,rfl⟩,rfl⟩
   |some n=>exact⟨n,true,⟨rfl,rfl⟩,rfl⟩
  rw[hD]
  clear hD
  obtain⟨ab,ho⟩:∃ ab,Hid ((CM Tb.data.toList).isSome=ab):=⟨_,rfl⟩
  obtain⟨p,hp⟩:∃ p,Hid ((CM Tb.data.toList).getD Ar=p):=⟨_,rfl⟩
  have hE:AJ p:=by rw[<-hp.out];exact (HV Tb.data.toList).small.dim
  rw[ho.out,hp.out] at qr
  go_wp2_with fail
  refine (qr w2 G).mono ?_
  rintro e w3 ⟨⟨v,rfl,M3⟩,hy⟩
  obtain⟨ea,en,ec,va,vn,vc,ra,rn,rc,la,ln,lc,vr,rfl,_⟩:=M3.out
  have ht:Below w3.heap.size w3 (w3.alloc (.cells #[.int .i64 p.size,.int .i64 p.next,.slice ea en ec,.slice va vn vc,.slice ra rn rc,.slice la ln lc] 28)):=(Yg _ _).alloc (Zd _) _
  obtain⟨b3,hh⟩:∃ b,b=w3.heap.size:=⟨_,rfl⟩
  have P3:Blk (w3.alloc (.cells #[.int .i64 p.size,.int .i64 p.next,.slice ea en ec,.slice va vn vc,.slice ra rn rc,.slice la ln lc] 28)) b3 #[.int .i64 p.size,.int .i64 p.next,.slice ea en ec,.slice va vn vc,.slice ra rn rc,.slice la ln lc] 28:=Blk.new' _ _ _ _ hh
  have hq:=Aa hy ht
  have hL:=hc.size
  have hR:=QB.lt
  have hT:=hy.size
  replace QB:=QB.below hq
  replace G:=G.below hq
  replace M3:=(M3.below ht).mono hL
  replace hc:=Aa hc hq
  have hJ:b3≠w.heap.size:=by rw[hh];omega
  clear hy ht hq qr
  obtain⟨x0,x1,x2,x3,x4,x5⟩:=P3.sixM
  go_upto_region 6 with fail
  rw[<-hh]
  clear hh
  generalize w3.alloc (.cells #[.int .i64 p.size,.int .i64 p.next,.slice ea en ec,.slice va vn vc,.slice ra rn rc,.slice la ln lc] 28)=W3 at *
  by_cases hok:nb=true∧ab=true
  ·obtain⟨rfl,rfl⟩:=hok
   have hj:Hid (A=if Cw n p=s then some (n,p) else none):=by
    show _=_
    obtain⟨h1,h2⟩:=hB.out
    have h3:=ho.out
    have h4:=hp.out
    rw[hr.out]
    cases hn:numP Lb.data.toList with
    |none=>rw[hn] at h1;cases h1
    |some n'=>
     rw[hn] at h2
     cases ha:CM Tb.data.toList with
     |none=>rw[ha] at h3;cases h3
     |some p'=>
      rw[ha] at h4
      obtain rfl:n'=n:=h2
      obtain rfl:p'=p:=h4
      rfl
   clear hB ho hp hr
   obtain⟨S,hS⟩:∃ S,Hid (Cw n p=S):=⟨_,rfl⟩
   have qs:=Gk 0 _ p n W3 (M3.at.mono (Zg _)) hE F1 G.tab G.sz
   rw[hS.out] at qs hj
   go_wp2_with fail
   refine qs.mono ?_
   rintro e w4 ⟨rfl,hl⟩
   clear qs x0 x1 x2 x3 x4 x5
   replace QB:=QB.below hl
   replace P3:=P3.below hl
   replace M3:=M3.below hl
   replace hc:=Aa hc hl
   clear hl
   by_cases hSs:S=s
   ·have hH:(S.toList==s.toList)=true:=by rw[hSs];simp
    rw[if_pos hSs] at hj
    have:=hj.out
    subst this
    go_upto_region 8 with fail
    have hk:Below w4.heap.size w4 w4.drew:=(Yg _ _).drew
    replace QB:=QB.below hk
    replace P3:=P3.below hk
    replace M3:=M3.below hk
    replace hc:=Aa hc hk
    have hP:(fun u=>u.cell? ⟨b3,0,none⟩=some (.int .i64 p.size)∧u.cell? ⟨b3,1,none⟩=some (.int .i64 p.next)∧u.cell? ⟨b3,2,none⟩=some (.slice ea en ec)∧u.cell? ⟨b3,3,none⟩=some (.slice va vn vc)∧u.cell? ⟨b3,4,none⟩=some (.slice ra rn rc)∧u.cell? ⟨b3,5,none⟩=some (.slice la ln lc)) w4.drew:=P3.sixM
    refine aC_ (S:=(fun u=>u.cell? ⟨b3,0,none⟩=some (.int .i64 p.size)∧u.cell? ⟨b3,1,none⟩=some (.int .i64 p.next)∧u.cell? ⟨b3,2,none⟩=some (.slice ea en ec)∧u.cell? ⟨b3,3,none⟩=some (.slice va vn vc)∧u.cell? ⟨b3,4,none⟩=some (.slice ra rn rc)∧u.cell? ⟨b3,5,none⟩=some (.slice la ln lc))) 5 (by kernel_rfl) rfl ?_
    generalize w4.drew=y0 at *
    clear hk
    refine tk 0 ?_
    refine tk 1 ?_
    refine tk 2 ?_
    obtain⟨r0,r1,r2,r3,r4,r5⟩:=QB.sixM
    have g0:=QB.frozen 0
    have g1:=QB.frozen 1
    have g2:=QB.frozen 2
    have g3:=QB.frozen 3
    have g4:=QB.frozen 4
    have g5:=QB.frozen 5
    refine Aq (i:=3) (by kernel_rfl) rfl (fun K hK=>?_)
    go_simp
    obtain⟨E8,hz⟩:=FM QB (.int .i64 p.size) (.int .i64 p.next) (.slice ea en ec) (.slice va vn vc) (.slice ra rn rc) (.slice la ln lc)
    have P8:=P3.grown hz (by simpa using hJ)
    have M8:=M3.box hz QB
    have he:=hc.grown hz (by have:=QB.lt;omega) (fun k e=>by cases e;exact Zd _)
    refine hK.out _ _ P8.sixM (fun hHeld=>?_)
    clear hK K
    try simp only[Act.put,Yj,Yq,Yr]
    generalize (((((y0.setCell ⟨w.heap.size,0,none⟩ (.int .i64 p.size)).setCell ⟨w.heap.size,1,none⟩ (.int .i64 p.next)).setCell ⟨w.heap.size,2,none⟩ (.slice ea en ec)).setCell ⟨w.heap.size,3,none⟩ (.slice va vn vc)).setCell ⟨w.heap.size,4,none⟩ (.slice ra rn rc)).setCell ⟨w.heap.size,5,none⟩ (.slice la ln lc)=W8 at *
    refine tk 4 ?_
    refine wpAnyH_done (by kernel_rfl) ?_ _
    go_wp2
    refine YW (AZ rfl _ W8 w.heap.size _ _ _ _ _ _ rfl rfl rfl E8 underlying28 rfl (by kernel_rfl)) rfl ?_
    exact⟨⟨_,rfl,M8⟩,he⟩
   ·have hH:(S.toList==s.toList)=false:=by
     rw[ZV,Zu,Zu]
     exact fun e=>hSs (ByteArray.ext (Array.ext' e))
    rw[if_neg hSs] at hj
    have:=hj.out
    subst this
    obtain⟨r0,r1,r2,r3,r4,r5⟩:=QB.sixM
    have g0:=QB.frozen 0
    have g1:=QB.frozen 1
    have g2:=QB.frozen 2
    have g3:=QB.frozen 3
    have g4:=QB.frozen 4
    have g5:=QB.frozen 5
    go_wp2
    obtain⟨E8,M8,he⟩:=AA (p:=Ar) QB hc (Zd _) (BQ w.heap.size w4)
    change bodyPost _ _ _ _ _ (AV w4 w.heap.size (.int .i64 0) (.int .i64 0) (.slice none 0 0) (.slice none 0 0) (.slice none 0 0) (.slice none 0 0))
    generalize AV w4 w.heap.size (.int .i64 0) (.int .i64 0) (.slice none 0 0) (.slice none 0 0) (.slice none 0 0) (.slice none 0 0)=W8 at *
    refine YW (AZ rfl _ W8 w.heap.size _ _ _ _ _ _ rfl rfl rfl E8 underlying28 rfl (by kernel_rfl)) rfl ?_
    exact⟨⟨_,rfl,M8⟩,he⟩
  ·have hv:A=none:=by
    rw[hr.out]
    obtain⟨h1,_⟩:=hB.out
    have h3:=ho.out
    cases hn:numP Lb.data.toList with
    |none=>rfl
    |some n'=>
     rw[hn] at h1
     cases ha:CM Tb.data.toList with
     |none=>rfl
     |some p'=>
      rw[ha] at h3
      exact absurd ⟨h1.symm,h3.symm⟩ hok
   subst hv
   cases nb with
   |false=>
    obtain⟨r0,r1,r2,r3,r4,r5⟩:=QB.sixM
    have g0:=QB.frozen 0
    have g1:=QB.frozen 1
    have g2:=QB.frozen 2
    have g3:=QB.frozen 3
    have g4:=QB.frozen 4
    have g5:=QB.frozen 5
    go_wp2
    obtain⟨E8,M8,he⟩:=AA (p:=Ar) QB hc (Zd _) (BQ w.heap.size W3)
    change bodyPost _ _ _ _ _ (AV W3 w.heap.size (.int .i64 0) (.int .i64 0) (.slice none 0 0) (.slice none 0 0) (.slice none 0 0) (.slice none 0 0))
    generalize AV W3 w.heap.size (.int .i64 0) (.int .i64 0) (.slice none 0 0) (.slice none 0 0) (.slice none 0 0) (.slice none 0 0)=W8 at *
    refine YW (AZ rfl _ W8 w.heap.size _ _ _ _ _ _ rfl rfl rfl E8 underlying28 rfl (by kernel_rfl)) rfl ?_
    exact⟨⟨_,rfl,M8⟩,he⟩
   |true=>
    cases ab with
    |false=>
     obtain⟨r0,r1,r2,r3,r4,r5⟩:=QB.sixM
     have g0:=QB.frozen 0
     have g1:=QB.frozen 1
     have g2:=QB.frozen 2
     have g3:=QB.frozen 3
     have g4:=QB.frozen 4
     have g5:=QB.frozen 5
     go_wp2
     obtain⟨E8,M8,he⟩:=AA (p:=Ar) QB hc (Zd _) (BQ w.heap.size W3)
     change bodyPost _ _ _ _ _ (AV W3 w.heap.size (.int .i64 0) (.int .i64 0) (.slice none 0 0) (.slice none 0 0) (.slice none 0 0) (.slice none 0 0))
     generalize AV W3 w.heap.size (.int .i64 0) (.int .i64 0) (.slice none 0 0) (.slice none 0 0) (.slice none 0 0) (.slice none 0 0)=W8 at *
     refine YW (AZ rfl _ W8 w.heap.size _ _ _ _ _ _ rfl rfl rfl E8 underlying28 rfl (by kernel_rfl)) rfl ?_
     exact⟨⟨_,rfl,M8⟩,he⟩
    |true=>exact absurd ⟨rfl,rfl⟩ hok
 ·have hv:A=none:=by rw[<-hA.out,rsO,if_neg hb]
  subst hv
  go_enter func7,ntmps7
  go_upto_region 1 with fail
  generalize w.alloc (.cells #[.int .i64 0,.int .i64 0,.slice none 0 0,.slice none 0 0,.slice none 0 0,.slice none 0 0] 28)=W0 at *
  rcases Nat.lt_or_ge 120000 s.size with h1 | h1
  ·have h2:¬ ((s.size:Int)<8):=by omega
   obtain⟨r0,r1,r2,r3,r4,r5⟩:=QB.sixM
   have g0:=QB.frozen 0
   have g1:=QB.frozen 1
   have g2:=QB.frozen 2
   have g3:=QB.frozen 3
   have g4:=QB.frozen 4
   have g5:=QB.frozen 5
   go_wp2
   obtain⟨E8,M8,he⟩:=AA (p:=Ar) QB hc (Zd _) (BQ w.heap.size W0)
   change bodyPost _ _ _ _ _ (AV W0 w.heap.size (.int .i64 0) (.int .i64 0) (.slice none 0 0) (.slice none 0 0) (.slice none 0 0) (.slice none 0 0))
   generalize AV W0 w.heap.size (.int .i64 0) (.int .i64 0) (.slice none 0 0) (.slice none 0 0) (.slice none 0 0) (.slice none 0 0)=W8 at *
   refine YW (AZ rfl _ W8 w.heap.size _ _ _ _ _ _ rfl rfl rfl E8 underlying28 rfl (by kernel_rfl)) rfl ?_
   exact⟨⟨_,rfl,M8⟩,he⟩
  ·have h2:(s.size:Int)<8:=by omega
   have h3:¬ ((120000:Int)<s.size):=by omega
   obtain⟨r0,r1,r2,r3,r4,r5⟩:=QB.sixM
   have g0:=QB.frozen 0
   have g1:=QB.frozen 1
   have g2:=QB.frozen 2
   have g3:=QB.frozen 3
   have g4:=QB.frozen 4
   have g5:=QB.frozen 5
   go_wp2
   obtain⟨E8,M8,he⟩:=AA (p:=Ar) QB hc (Zd _) (BQ w.heap.size W0)
   change bodyPost _ _ _ _ _ (AV W0 w.heap.size (.int .i64 0) (.int .i64 0) (.slice none 0 0) (.slice none 0 0) (.slice none 0 0) (.slice none 0 0))
   generalize AV W0 w.heap.size (.int .i64 0) (.int .i64 0) (.slice none 0 0) (.slice none 0 0) (.slice none 0 0) (.slice none 0 0)=W8 at *
   refine YW (AZ rfl _ W8 w.heap.size _ _ _ _ _ _ rfl rfl rfl E8 underlying28 rfl (by kernel_rfl)) rfl ?_
   exact⟨⟨_,rfl,M8⟩,he⟩
end
end Go.Proofs.YtkiceokhlceciaaGreatDoor
