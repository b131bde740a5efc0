/- The laws' marks of texts. The laws' marks of texts, at a number that is told by an equation. Files and ops of a disk, as they lie in memory. The laws' marks of disks: written into them, and held against them. Marks of a disk. -/
import Derived.Test.YtigldeccfpkdmaaGreatDoorProg
import Derived.Laws.BytesArg
import Derived.Test.YtigldeccfpkdmaaGreatDoorK00
import Derived.WalkKit
import Derived.ProofKit
import Derived.OpenShut
import Derived.Handy
import Derived.Deep.Light
import Derived.Deep.RegionHeld3
import Derived.Deep.QuietTactic
import Derived.BigQuiet
import Derived.WalkSmall
import Derived.Test.YtigldeccfpkdmaaGreatDoorK04
import Derived.Test.YtigldeccfpkdmaaGreatDoorK22
import Derived.Deep.RegionLaw
import Derived.Laws.AppendOwnNone
import Derived.Test.YtigldeccfpkdmaaGreatDoorK03
import Derived.Test.YtigldeccfpkdmaaGreatDoorK02
import Derived.Test.YtigldeccfpkdmaaGreatDoorK23
import Derived.Test.YtigldeccfpkdmaaGreatDoorK24
import Derived.Test.YtigldeccfpkdmaaGreatDoorK25
import Derived.Test.YtigldeccfpkdmaaGreatDoorK26
import Derived.Test.YtigldeccfpkdmaaGreatDoorK27
import Derived.Lib.SliceRun
import Derived.Test.YtigldeccfpkdmaaGreatDoorK28
import Derived.Test.YtigldeccfpkdmaaGreatDoorK29
import Derived.Test.YtigldeccfpkdmaaGreatDoorK30
import Derived.Test.YtigldeccfpkdmaaGreatDoorK31
import Derived.Test.YtigldeccfpkdmaaGreatDoorK11
import Derived.Test.YtigldeccfpkdmaaGreatDoorK01
import Derived.Laws.Cover1
import Derived.OrdersHeld
import Derived.StillTail
import Derived.Laws.StructEq
import Derived.Lib.AppendZerosOnto
import Derived.Lib.Overlaps
import Derived.Laws.CopyOwn
import Derived.Laws.NewBlocks
import Derived.Lib.SmallJoins
import Derived.ArgAppend
import Derived.Deep.Strs
import Derived.Deep.Slices
import Derived.SizedLaws
import Derived.Shelf.Strings.OnBuilder
import Derived.Shelf.Small.Strs
import Derived.Test.YtigldeccfpkdmaaGreatDoorK32
namespace Go.Proofs.YtigldeccfpkdmaaGreatDoor
open Go.RowKit Go.BigFrame
set_option maxHeartbeats 20000000
set_option maxRecDepth 100000
theorem gM_ (k:Nat) (w:World) (h1:1<=k) (h2:k<=100000000) :
  Calls Tryz.prog 109 #[.int .i64 k] w fun e w'=>e=.returned (.string (markT k))∧Below w.heap.size w w':=by
 have hcv:∀ (u:World) (x:Int),(convert 173 9 (.slice (some ⟨u.heap.size,0,none⟩) 1 1)).run Tryz.prog (u.alloc (.cells #[.int .u8 x] 5))=.ok (.string (strOfNums [x])) (u.alloc (.cells #[.int .u8 x] 5)):=fun u x=>
  run_convert_bytes_arg (P:=Tryz.prog) _ 173 5 Tryz.underlying173 Tryz.underlying5 u.heap.size 0 1 1 [x] rfl (fun i hi=>(by obtain rfl:i=0:=(by omega);simp)) 9 Tryz.underlying9
 go_enter Tryz.func109,Tryz.ntmps109
 go_wp2_with fail
 go_loopw [0,3] (fun kk out wr=>∃ (j:Nat) (o:ByteArray),kk=.int .i64 j∧out=.string o∧j<=100000000∧Hid (∃ m,j<10 ^ m∧o.size+m<=9)∧Hid (mtGo k .empty=mtGo j o)∧Below w.heap.size w wr) (fun kk _ _=>(intOf kk).toNat)
 case atStart=>exact ⟨k,.empty,rfl,rfl,h2,⟨9,by omega,by decide⟩,rfl,Below.refl _ _⟩
 case round=>
  obtain ⟨j,o,rfl,rfl,hj,hm,hI,hB⟩:=hrel
  have ho:o.size<=9:=by obtain ⟨m,_,h⟩:=hm.out;omega
  by_cases hlt:0<j
  ·have hss:¬ 9223372036854775807<(strOfNums [48+(j:Int) % 10]).size+o.size:=by rw [strOfNums_size];simp;omega
   go_wp2
   go_roundw
   case rel=>
    refine ⟨j / 10,_,by go_num,rfl,by omega,?_,?_,hB.alloc hB.size _⟩
    ·obtain ⟨m,h3,h4⟩:=hm.out
     cases m with
     |zero=>simp at h3;omega
     |succ m=>exact ⟨m,by rw [Nat.pow_succ] at h3;omega,by rw [cp_,strOfNums_size];simp;omega⟩
    ·show _=_
     rw [hI.out,mtGo,if_neg (by omega)]
   case measure=>simp [intOf];omega
  ·obtain rfl:j=0:=by omega
   have hss:¬ 9223372036854775807<(ByteArray.mk #[109]).size+o.size:=by show ¬ _<1+_;omega
   go_wp2
   go_returns
   go_light
   refine ⟨?_,hB⟩
   unfold markT
   rw [hI.out,mtGo,if_pos rfl]
   rfl
theorem ar_ (k:Nat) (x:Int) (hx:x=k) (w:World) (h1:1<=k) (h2:k<=100000000) :
  Calls Tryz.prog 109 #[.int .i64 x] w fun e w'=>e=.returned (.string (markT k))∧Below w.heap.size w w':=by
 subst hx;exact gM_ k w h1 h2
end Go.Proofs.YtigldeccfpkdmaaGreatDoor
namespace Go.Proofs.YtigldeccfpkdmaaGreatDoor
open Go.RowKit
set_option maxHeartbeats 20000000
set_option maxRecDepth 100000
theorem n3_ (p:Dp):p.cs.length=4:=rfl
end Go.Proofs.YtigldeccfpkdmaaGreatDoor
namespace Go.Proofs.YtigldeccfpkdmaaGreatDoor
open Go.RowKit Go.BigFrame
set_option maxHeartbeats 20000000
set_option maxRecDepth 100000
theorem gN_ (b n cap k0:Nat) (c:Array Value) (w:World) (hb:Blk w b c 123) (hsz:n*2<=c.size) (hn:n<=4194304) (hk0:1<=k0∧k0<=50000000) :
  Calls Tryz.prog 78 #[.slice (some ⟨b,0,none⟩) n cap,.int .i64 ((k0:Nat):Int)] w fun e w'=>e=.returned (.int .i64 ((k0+2*n:Nat):Int))∧MarkF w' (some ⟨b,0,none⟩) n k0∧w.grownBy w' (some b):=by
 go_enter Tryz.func78,Tryz.ntmps78
 go_wp2_with fail
 go_loopw [1,5] (fun kk ix wr=>∃ (k:Nat) (c':Array Value),k<=n∧ix=.int .i64 k∧kk=.int .i64 ((k0+2*k:Nat):Int)∧Blk wr b c' 123∧Hid (c'.size=c.size)∧Hid (∀ j,j<k->c'[j*2]?=some (.string (markT (k0+2*j)))∧c'[j*2+1]?=some (.string (markT (k0+2*j+1))))∧w.grownBy wr (some b)) (fun _ ix _=>n-(intOf ix).toNat)
 case atStart=>exact ⟨0,c,Nat.zero_le _,rfl,rfl,hb,rfl,fun j hj=>(by omega),World.grownBy.refl _ _⟩
 case round=>
  obtain ⟨k,c',hk,rfl,rfl,hblk,hcs,hcc,hg⟩:=hrel
  by_cases hlt:k<n
  ·have hc3:k*2+1<c'.size:=by rw [hcs.out];omega
   have hk1:(k:Int)<n:=by omega
   have hk2:(0:Int)<=k:=by omega
   obtain ⟨KK,hKK⟩:∃ KK:Int,KK=((k0+2*k:Nat):Int):=⟨_,rfl⟩
   have hKh:Hid (KK=((k0+2*k:Nat):Int)):=hKK
   rw [<-hKK]
   have hK1:1<=KK:=by omega
   have hK2:KK<=70000000:=by omega
   clear hKK
   go_wp2_with fail
   refine (ar_ (k0+2*k) _ (by have:=hKh.out;omega) _ (by omega) (by omega)).mono ?_
   rintro e w1 ⟨rfl,hB1⟩
   have b1:=(hblk).below hB1
   have g1:=aP_ (hg) hB1
   obtain ⟨v0,y0⟩:=b1.has (i:=k*2) (by first | omega | (simp;omega))
   have f0:=b1.frozen (k*2)
   go_wp2_with fail
   refine (ar_ (k0+2*k+1) _ (by have:=hKh.out;omega) _ (by omega) (by omega)).mono ?_
   rintro e w2 ⟨rfl,hB2⟩
   have b2:=(b1.set (k*2) (.string (markT (k0+2*k)))).below hB2
   have g2:=aP_ (ac_ g1 (k*2) (.string (markT (k0+2*k)))) hB2
   obtain ⟨v1,y1⟩:=b2.has (i:=k*2+1) (by first | omega | (simp;omega))
   have f1:=b2.frozen (k*2+1)
   go_wp2
   go_roundw
   case rel=>
    refine ⟨k+1,_,by omega,by go_num,by (show Value.int IntKind.i64 _=Value.int IntKind.i64 _;have:=hKh.out;congr 1;omega),b2.set (k*2+1) (.string (markT (k0+2*k+1))),by show _=_;simp [hcs.out],?_,ac_ g2 (k*2+1) (.string (markT (k0+2*k+1)))⟩
    intro j hj
    have hcs':=hcs.out
    by_cases hjk:j=k
    ·subst hjk
     refine ⟨?_,?_⟩
     ·rw [Array.getElem?_setIfInBounds_ne (by omega),Array.getElem?_setIfInBounds_self_of_lt (by first | omega | (simp;omega))]
     ·rw [Array.getElem?_setIfInBounds_self_of_lt (by first | omega | (simp;omega))]
    ·obtain ⟨r0,r1⟩:=hcc.out j (by omega)
     refine ⟨?_,?_⟩
     all_goals (rw [Array.getElem?_setIfInBounds_ne (by omega),Array.getElem?_setIfInBounds_ne (by omega)];assumption)
   case measure=>simp [intOf];omega
  ·obtain rfl:k=n:=by omega
   go_wp2
   go_returns
   go_light
   exact ⟨rfl,fun j hj=>(by
    obtain ⟨r0,r1⟩:=hcc.out j hj
    exact ⟨b,rfl,by rw [hblk.cell];exact r0,by rw [hblk.cell];exact r1⟩),hg⟩
theorem markMarkF (B:Nat) (a:Option Addr) (n cap k0:Nat) (l:List Fl) (w:World) (h:WrAt Fl.cs 2 123 w B a n cap l) (hn:n<=4194304) (hk0:1<=k0∧k0<=50000000) :
  Calls Tryz.prog 78 #[.slice a n cap,.int .i64 ((k0:Nat):Int)] w fun e w'=>e=.returned (.int .i64 ((k0+2*n:Nat):Int))∧MarkF w' a n k0∧w.grownBy w' (Value.ownBlock (.slice a n cap)):=by
 rcases h.own with ⟨rfl,rfl,rfl⟩ | ⟨b,c,rfl,_,hc,hs⟩
 ·go_enter Tryz.func78,Tryz.ntmps78
  go_wp2_with fail
  go_rounds 1
  go_returns
  exact ⟨rfl,fun j hj=>(by omega),World.grownBy.refl _ _⟩
 ·exact gN_ b n cap k0 c w hc hs hn hk0
theorem gO_ (b n cap k0:Nat) (c:Array Value) (w:World) (hb:Blk w b c 120) (hsz:n*4<=c.size) (hn:n<=4194304) (hk0:1<=k0∧k0<=50000000) :
  Calls Tryz.prog 79 #[.slice (some ⟨b,0,none⟩) n cap,.int .i64 ((k0:Nat):Int)] w fun e w'=>e=.returned (.int .i64 ((k0+4*n:Nat):Int))∧MarkD w' (some ⟨b,0,none⟩) n k0∧w.grownBy w' (some b):=by
 go_enter Tryz.func79,Tryz.ntmps79
 go_wp2_with fail
 go_loopw [1,5] (fun kk ix wr=>∃ (k:Nat) (c':Array Value),k<=n∧ix=.int .i64 k∧kk=.int .i64 ((k0+4*k:Nat):Int)∧Blk wr b c' 120∧Hid (c'.size=c.size)∧Hid (∀ j,j<k->c'[j*4]?=some (.int .i64 ((k0+4*j:Nat):Int))∧c'[j*4+1]?=some (.string (markT (k0+4*j+1)))∧c'[j*4+2]?=some (.string (markT (k0+4*j+2)))∧c'[j*4+3]?=some (.string (markT (k0+4*j+3))))∧w.grownBy wr (some b)) (fun _ ix _=>n-(intOf ix).toNat)
 case atStart=>exact ⟨0,c,Nat.zero_le _,rfl,rfl,hb,rfl,fun j hj=>(by omega),World.grownBy.refl _ _⟩
 case round=>
  obtain ⟨k,c',hk,rfl,rfl,hblk,hcs,hcc,hg⟩:=hrel
  by_cases hlt:k<n
  ·have hc3:k*4+3<c'.size:=by rw [hcs.out];omega
   have hk1:(k:Int)<n:=by omega
   have hk2:(0:Int)<=k:=by omega
   obtain ⟨KK,hKK⟩:∃ KK:Int,KK=((k0+4*k:Nat):Int):=⟨_,rfl⟩
   have hKh:Hid (KK=((k0+4*k:Nat):Int)):=hKK
   rw [<-hKK]
   have hK1:1<=KK:=by omega
   have hK2:KK<=70000000:=by omega
   clear hKK
   obtain ⟨v0,y0⟩:=hblk.has (i:=k*4) (by omega)
   have f0:=hblk.frozen (k*4)
   have hv:Hid (Value.int .i64 KK=.int .i64 ((k0+4*k:Nat):Int)):=by show _=_;rw [hKh.out]
   go_wp2_with fail
   refine (ar_ (k0+4*k+1) _ (by have:=hKh.out;omega) _ (by omega) (by omega)).mono ?_
   rintro e w2 ⟨rfl,hB2⟩
   have b2:=(hblk.set (k*4) (.int .i64 KK)).below hB2
   have g2:=aP_ (ac_ hg (k*4) (.int .i64 KK)) hB2
   obtain ⟨v1,y1⟩:=b2.has (i:=k*4+1) (by first | omega | (simp;omega))
   have f1:=b2.frozen (k*4+1)
   go_wp2_with fail
   refine (ar_ (k0+4*k+2) _ (by have:=hKh.out;omega) _ (by omega) (by omega)).mono ?_
   rintro e w3 ⟨rfl,hB3⟩
   have b3:=(b2.set (k*4+1) (.string (markT (k0+4*k+1)))).below hB3
   have g3:=aP_ (ac_ g2 (k*4+1) (.string (markT (k0+4*k+1)))) hB3
   obtain ⟨v2,y2⟩:=b3.has (i:=k*4+2) (by first | omega | (simp;omega))
   have f2:=b3.frozen (k*4+2)
   go_wp2_with fail
   refine (ar_ (k0+4*k+3) _ (by have:=hKh.out;omega) _ (by omega) (by omega)).mono ?_
   rintro e w4 ⟨rfl,hB4⟩
   have b4:=(b3.set (k*4+2) (.string (markT (k0+4*k+2)))).below hB4
   have g4:=aP_ (ac_ g3 (k*4+2) (.string (markT (k0+4*k+2)))) hB4
   obtain ⟨v3,y3⟩:=b4.has (i:=k*4+3) (by first | omega | (simp;omega))
   have f3:=b4.frozen (k*4+3)
   go_wp2
   go_roundw
   case rel=>
    refine ⟨k+1,_,by omega,by go_num,by (show Value.int IntKind.i64 _=Value.int IntKind.i64 _;have:=hKh.out;congr 1;omega),b4.set (k*4+3) (.string (markT (k0+4*k+3))),by show _=_;simp [hcs.out],?_,ac_ g4 (k*4+3) (.string (markT (k0+4*k+3)))⟩
    intro j hj
    have hcs':=hcs.out
    by_cases hjk:j=k
    ·subst hjk
     refine ⟨?_,?_,?_,?_⟩
     ·rw [Array.getElem?_setIfInBounds_ne (by omega),Array.getElem?_setIfInBounds_ne (by omega),Array.getElem?_setIfInBounds_ne (by omega),Array.getElem?_setIfInBounds_self_of_lt (by first | omega | (simp;omega))];rw [hv.out]
     ·rw [Array.getElem?_setIfInBounds_ne (by omega),Array.getElem?_setIfInBounds_ne (by omega),Array.getElem?_setIfInBounds_self_of_lt (by first | omega | (simp;omega))]
     ·rw [Array.getElem?_setIfInBounds_ne (by omega),Array.getElem?_setIfInBounds_self_of_lt (by first | omega | (simp;omega))]
     ·rw [Array.getElem?_setIfInBounds_self_of_lt (by first | omega | (simp;omega))]
    ·obtain ⟨r0,r1,r2,r3⟩:=hcc.out j (by omega)
     refine ⟨?_,?_,?_,?_⟩
     all_goals (rw [Array.getElem?_setIfInBounds_ne (by omega),Array.getElem?_setIfInBounds_ne (by omega),Array.getElem?_setIfInBounds_ne (by omega),Array.getElem?_setIfInBounds_ne (by omega)];assumption)
   case measure=>simp [intOf];omega
  ·obtain rfl:k=n:=by omega
   go_wp2
   go_returns
   go_light
   exact ⟨rfl,fun j hj=>(by
    obtain ⟨r0,r1,r2,r3⟩:=hcc.out j hj
    exact ⟨b,rfl,by rw [hblk.cell];exact r0,by rw [hblk.cell];exact r1,by rw [hblk.cell];exact r2,by rw [hblk.cell];exact r3⟩),hg⟩
theorem markMarkD (B:Nat) (a:Option Addr) (n cap k0:Nat) (l:List Dp) (w:World) (h:WrAt Dp.cs 4 120 w B a n cap l) (hn:n<=4194304) (hk0:1<=k0∧k0<=50000000) :
  Calls Tryz.prog 79 #[.slice a n cap,.int .i64 ((k0:Nat):Int)] w fun e w'=>e=.returned (.int .i64 ((k0+4*n:Nat):Int))∧MarkD w' a n k0∧w.grownBy w' (Value.ownBlock (.slice a n cap)):=by
 rcases h.own with ⟨rfl,rfl,rfl⟩ | ⟨b,c,rfl,_,hc,hs⟩
 ·go_enter Tryz.func79,Tryz.ntmps79
  go_wp2_with fail
  go_rounds 1
  go_returns
  exact ⟨rfl,fun j hj=>(by omega),World.grownBy.refl _ _⟩
 ·exact gO_ b n cap k0 c w hc hs hn hk0
end Go.Proofs.YtigldeccfpkdmaaGreatDoor
namespace Go.Proofs.YtigldeccfpkdmaaGreatDoor
open Go Go.RowKit Go.BigFrame
set_option maxHeartbeats 20000000
set_option maxRecDepth 100000
theorem ResAt.frd {α:Type} {cs:α->List Value} {sz:Nat} (hsz:∀ x,(cs x).length=sz) {t:TypeId} {w w':World} {B T B' n cap:Nat} {a:Option Addr} {l:List α} (h:ResAt cs sz t w B' a n cap l) (hf:FrD B T w w') (hT:T<=B'):ResAt cs sz t w' B' a n cap l:=by
 rcases h.own with ⟨rfl,rfl,rfl⟩ | ⟨b,rfl,hB,h1,h2,c,hc,h3,h4⟩
 ·obtain rfl:l=[]:=List.eq_nil_of_length_eq_zero h.sl.len
  exact aL_
 ·exact bn_ hsz (hf.blk hc (.inr (by omega))) hB h.sl.len h1 h2 h3 h4
theorem DiskS.frd {B T B':Nat} {w w':World} {v:Value} {d:Dk} (h:DiskS B' w v d) (hf:FrD B T w w') (hT:T<=B'):DiskS B' w' v d:=by
 obtain ⟨la,ln,lc,sa,sn,sc,oa,on,oc,hv,h1,h2,h3,h4⟩:=h
 exact ⟨la,ln,lc,sa,sn,sc,oa,on,oc,hv,h1.frd f1_ hf hT,h2.frd f1_ hf hT,h3.frd n3_ hf hT,h4⟩
/-- Its lists lie from B up to T. -/
def InB (B T:Nat) (v:Value):Prop:=∀ la ln lc sa sn sc oa on oc,v=.agg #[.slice la ln lc,.slice sa sn sc,.slice oa on oc]->(∀ ad,la=some ad->B<=ad.block∧ad.block<T)∧(∀ ad,sa=some ad->B<=ad.block∧ad.block<T)∧∀ ad,oa=some ad->B<=ad.block∧ad.block<T
theorem DiskW.inB {B:Nat} {w:World} {v:Value} {d:Dk} (h:DiskW B w v d):InB B w.heap.size v:=by
 obtain ⟨la,ln,lc,sa,sn,sc,oa,on,oc,hv,h1,h2,h3,_⟩:=h
 intro la' ln' lc' sa' sn' sc' oa' on' oc' e
 rw [hv] at e
 cases e
 exact ⟨h1.block,h2.block,h3.block⟩
theorem k2_ {B T:Nat} {a:Option Addr} {n cap:Nat} (h:∀ ad,a=some ad->B<=ad.block∧ad.block<T):∀ k,Value.ownBlock (.slice a n cap)=some k->B<=k∧k<T:=by
 intro k hk
 cases a with
 |none=>simp [Value.ownBlock] at hk
 |some ad=>have:=h ad rfl;simp [Value.ownBlock] at hk;omega
theorem j5_ {α:Type} {cs:α->List Value} {sz:Nat} {t:TypeId} {w:World} {B n cap:Nat} {a:Option Addr} {l:List α} (h:WrAt cs sz t w B a n cap l) {m k:Nat}:RowTy w (Value.ownBlock (.slice a m k)) t:=by
 rcases h.own with ⟨rfl,_⟩ | ⟨b,c,rfl,_,hc,_⟩
 ·intro k e;simp [Value.ownBlock] at e
 ·intro k e;simp [Value.ownBlock] at e;subst e;exact ⟨c,hc⟩
def markN (d:Dk):Nat:=1+2*d.live.length+2*d.safe.length+4*d.ops.length
theorem gP_ (B T:Nat) (v:Value) (d:Dk) (w:World) (h:DiskW B w v d) (hi:InB B T v) (hT:T<=w.heap.size) (hn:d.live.length<=4194304∧d.safe.length<=4194304∧d.ops.length<=4194304) :
  Calls Tryz.prog 25 #[v,.int .i64 1] w fun e w'=>e=.returned (.int .i64 ((markN d:Nat):Int))∧MarkDk w' v d∧FrD B T w w':=by
 obtain ⟨la,ln,lc,sa,sn,sc,oa,on,oc,rfl,h1,h2,h3,hsep⟩:=h
 obtain ⟨i1,i2,i3⟩:=hi _ _ _ _ _ _ _ _ _ rfl
 rw [h1.sl.len,h2.sl.len,h3.sl.len] at hn
 obtain ⟨n1,n2,n3⟩:=hn
 have hd1:=h1.ne h3 (by decide)
 have hd2:=h2.ne h3 (by decide)
 have hmk:Hid (markN d=1+2*ln+2*sn+4*on):=by show _=_;unfold markN;rw [h1.sl.len,h2.sl.len,h3.sl.len]
 have hl:Hid (d.live.length=ln∧d.safe.length=sn∧d.ops.length=on):=⟨h1.sl.len,h2.sl.len,h3.sl.len⟩
 have hA:Below w.heap.size w (w.alloc (.cells #[.slice la ln lc,.slice sa sn sc,.slice oa on oc] 52)):=(Below.refl _ _).alloc (Nat.le_refl _) _
 have C:=Blk.new w #[.slice la ln lc,.slice sa sn sc,.slice oa on oc] 52
 have F0:FrD B T w (w.alloc (.cells #[.slice la ln lc,.slice sa sn sc,.slice oa on oc] 52)):=FrD.of hA
 replace h1:=h1.below hA
 replace h2:=h2.below hA
 replace h3:=h3.below hA
 go_enter Tryz.func25,Tryz.ntmps25
 go_wp2_with fail
 generalize w.alloc (.cells #[.slice la ln lc,.slice sa sn sc,.slice oa on oc] 52)=W0 at *
 refine (markMarkF B la ln lc 1 d.live W0 h1 n1 (by omega)).mono ?_
 rintro e w1 ⟨rfl,M1,hg1⟩
 have F1:=F0.grown hg1 (k2_ i1)
 have C1:=C.grownO hg1 (ck_ fun ad e=>by have:=i1 ad e;omega)
 replace h2:=h2.off hg1 (fun ad e=>ck_ fun ad' e'=>fun hh=>hsep ad' ad e' e hh.symm)
 replace h3:=h3.ty hg1 (j5_ h1) (by decide)
 obtain ⟨c0,c1,c2⟩:=C1.three
 clear h1 hA F0 C hg1
 obtain ⟨K1,hK1⟩:∃ K1:Nat,K1=1+2*ln:=⟨_,rfl⟩
 rw [<-hK1]
 have hKH:Hid (K1=1+2*ln):=hK1
 clear hK1
 go_wp2_with fail
 refine (markMarkF B sa sn sc K1 d.safe w1 h2 n2 (by have:=hKH.out;omega)).mono ?_
 rintro e w2 ⟨rfl,M2,hg2⟩
 have F2:=F1.grown hg2 (k2_ i2)
 have C2:=C1.grownO hg2 (ck_ fun ad e=>by have:=i2 ad e;omega)
 replace M1:=M1.off hg2 (fun _ ad e=>ck_ fun ad' e'=>hsep ad ad' e e')
 replace h3:=h3.ty hg2 (j5_ h2) (by decide)
 have hty2:=h3
 clear h2 hg2 F1 C1 c0 c1 c2
 obtain ⟨c0,c1,c2⟩:=C2.three
 obtain ⟨K2,hK2⟩:∃ K2:Nat,K2=K1+2*sn:=⟨_,rfl⟩
 rw [<-hK2]
 have hKH2:Hid (K2=K1+2*sn):=hK2
 clear hK2
 go_wp2_with fail
 refine (markMarkD B oa on oc K2 d.ops w2 h3 n3 (by have:=hKH.out;have:=hKH2.out;omega)).mono ?_
 rintro e w3 ⟨rfl,M3,hg3⟩
 have F3:=F2.grown hg3 (k2_ i3)
 replace M1:=M1.off hg3 (fun _ ad e=>ck_ fun ad' e'=>hd1 ad ad' e e')
 replace M2:=M2.off hg3 (fun _ ad e=>ck_ fun ad' e'=>hd2 ad ad' e e')
 clear h3 hg3 F2 C2 c0 c1 c2 hty2
 have hend:Hid (((K2+4*on:Nat):Int)=((markN d:Nat):Int)):=by show _=_;rw [hmk.out];have:=hKH.out;have:=hKH2.out;omega
 rw [hKH2.out,hKH.out] at M3
 rw [hKH.out] at M2
 generalize ((K2+4*on:Nat):Int)=KE at *
 go_wp2
 go_returns
 exact ⟨by rw [hend.out]<;>rfl,⟨la,ln,lc,sa,sn,sc,oa,on,oc,rfl,hl.out,M1,M2,M3⟩,F3⟩
end Go.Proofs.YtigldeccfpkdmaaGreatDoor
