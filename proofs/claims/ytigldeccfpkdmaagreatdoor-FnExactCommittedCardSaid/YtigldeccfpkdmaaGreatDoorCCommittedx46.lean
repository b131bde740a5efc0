/- The laws' marks of parts, extents and counts: written from a number on, and held. The laws' marks of items and volumes: plain, and what they leave alone. The laws' marks of items: written and held. -/
import Derived.Test.YtigldeccfpkdmaaGreatDoorK04
import Derived.Test.YtigldeccfpkdmaaGreatDoorK00
import Derived.Test.YtigldeccfpkdmaaGreatDoorK03
import Derived.Test.YtigldeccfpkdmaaGreatDoorK06
import Derived.Test.YtigldeccfpkdmaaGreatDoorK07
import Derived.Test.YtigldeccfpkdmaaGreatDoorK02
import Derived.Test.YtigldeccfpkdmaaGreatDoorK05
import Derived.Maps.AppendAt
import Derived.Test.YtigldeccfpkdmaaGreatDoorProg
import Derived.Test.YtigldeccfpkdmaaGreatDoorK10
import Derived.Test.YtigldeccfpkdmaaGreatDoorK11
import Derived.Test.YtigldeccfpkdmaaGreatDoorK12
import Derived.Test.YtigldeccfpkdmaaGreatDoorK01
import Derived.Test.YtigldeccfpkdmaaGreatDoorK41
import Derived.Test.YtigldeccfpkdmaaGreatDoorK09
import Derived.Test.YtigldeccfpkdmaaGreatDoorK08
import Derived.Deep.RegionLaw
import Derived.Laws.AppendOwnNone
import Derived.WalkKit
import Derived.ProofKit
import Derived.OpenShut
import Derived.Handy
import Derived.Deep.Light
import Derived.Deep.RegionHeld3
import Derived.Deep.QuietTactic
import Derived.BigQuiet
import Derived.WalkSmall
import Derived.Laws.Cover1
import Derived.Laws.StructEq
import Derived.OrdersHeld
import Derived.StillTail
import Derived.RangeFuncNested
import Derived.RangeFuncBound
import Derived.RangeFuncCalls
import Derived.RangeFuncLeaves
import Derived.RangeFuncBox
import Derived.Shelf.Abstract
import Derived.Shelf.RegionOpen
import Derived.OwnWalkIn
import Derived.TacticsInMore
import Derived.LoopNIn
import Derived.LoopIn
import Derived.RangeFuncFrom
import Derived.Test.YtigldeccfpkdmaaGreatDoorCCommittedx45
import Derived.Laws.Rows
import Derived.StillTailTactics
import Derived.Lib.Strings
import Derived.Deep.DeepCutAuto
import Derived.Lib.Atoi
import Derived.Shelf.Strconv.Itoa4
import Derived.Shelf.Strings.OnBuilder
import Derived.Lib.AppendStr
import Derived.Lib.AppendZerosOnto
import Derived.Laws.BytesArg
import Derived.Shelf.Strings.BuilderK
import Derived.Lib.AppendIntMem
import Derived.Lib.ItoaNum
namespace Go.Proofs.YtigldeccfpkdmaaGreatDoor
open Go.RowKit Go.BigFrame
set_option maxHeartbeats 20000000
set_option maxRecDepth 100000
theorem j6_ (b n cap k0:Nat) (c:Array Value) (w:World) (hb:Blk w b c tP) (hsz:n*3<=c.size) (hn:n<=4194304) (hk0:1<=k0∧k0<=50000000) :
  Calls Tryz.prog 173 #[.slice (some ⟨b,0,none⟩) n cap,.int .i64 ((k0:Nat):Int)] w fun e w'=>e=.returned (.int .i64 ((k0+3*n:Nat):Int))∧MkP w' (some ⟨b,0,none⟩) n k0∧w.grownBy w' (some b):=by
 go_enter Tryz.func173,Tryz.ntmps173
 go_wp2_with fail
 go_loopw [1,5] (fun kk ix wr=>∃ (k:Nat) (c':Array Value),k<=n∧ix=.int .i64 k∧kk=.int .i64 ((k0+3*k:Nat):Int)∧Blk wr b c' tP∧Hid (c'.size=c.size)∧Hid (∀ j,j<k->c'[j*3]?=some (.int .i64 ((k0+3*j:Nat):Int))∧c'[j*3+1]?=some (.int .i64 ((k0+3*j+1:Nat):Int))∧c'[j*3+2]?=some (.int .i64 ((k0+3*j+2:Nat):Int)))∧w.grownBy wr (some b)) (fun _ ix _=>n-(intOf ix).toNat)
 case atStart=>exact ⟨0,c,Nat.zero_le _,rfl,rfl,hb,rfl,fun j hj=>(by omega),World.grownBy.refl _ _⟩
 case round=>
  obtain ⟨k,c',hk,rfl,rfl,hblk,hcs,hcc,hg⟩:=hrel
  by_cases hlt:k<n
  ·have hc3:k*3+2<c'.size:=by rw [hcs.out];omega
   have hk1:(k:Int)<n:=by omega
   have hk2:(0:Int)<=k:=by omega
   obtain ⟨KK,hKK⟩:∃ KK:Int,KK=((k0+3*k:Nat):Int):=⟨_,rfl⟩
   have hKh:Hid (KK=((k0+3*k:Nat):Int)):=hKK
   rw [<-hKK]
   have hK1:1<=KK:=by omega
   have hK2:KK<=70000000:=by omega
   clear hKK
   obtain ⟨v0,y0⟩:=hblk.has (i:=k*3) (by first | omega | (simp;omega))
   have f0:=hblk.frozen (k*3)
   have hv0:Hid (Value.int .i64 (KK)=.int .i64 ((k0+3*k:Nat):Int)):=by show Value.int .i64 _=Value.int .i64 _;first | (rw [hKh.out];done) | (have:=hKh.out;congr 1;omega)
   obtain ⟨v1,y1⟩:=hblk.has (i:=k*3+1) (by first | omega | (simp;omega))
   have f1:=hblk.frozen (k*3+1)
   have hv1:Hid (Value.int .i64 (KK+1)=.int .i64 ((k0+3*k+1:Nat):Int)):=by show Value.int .i64 _=Value.int .i64 _;first | (rw [hKh.out];done) | (have:=hKh.out;congr 1;omega)
   obtain ⟨v2,y2⟩:=hblk.has (i:=k*3+2) (by first | omega | (simp;omega))
   have f2:=hblk.frozen (k*3+2)
   have hv2:Hid (Value.int .i64 (KK+1+1)=.int .i64 ((k0+3*k+2:Nat):Int)):=by show Value.int .i64 _=Value.int .i64 _;first | (rw [hKh.out];done) | (have:=hKh.out;congr 1;omega)
   go_wp2
   go_roundw
   case rel=>
    refine ⟨k+1,_,by omega,by go_num,by (show Value.int IntKind.i64 _=Value.int IntKind.i64 _;have:=hKh.out;congr 1;omega),(((hblk).set (k*3) (.int .i64 (KK))).set (k*3+1) (.int .i64 (KK+1))).set (k*3+2) (.int .i64 (KK+1+1)),by show _=_;simp [hcs.out],?_,ac_ (ac_ (ac_ (hg) (k*3) (.int .i64 (KK))) (k*3+1) (.int .i64 (KK+1))) (k*3+2) (.int .i64 (KK+1+1))⟩
    intro j hj
    have hcs':=hcs.out
    by_cases hjk:j=k
    ·subst hjk
     refine ⟨?_,?_,?_⟩
     ·rw [Array.getElem?_setIfInBounds_ne (by omega),Array.getElem?_setIfInBounds_ne (by omega),Array.getElem?_setIfInBounds_self_of_lt (by first | omega | (simp;omega))];rw [hv0.out]
     ·rw [Array.getElem?_setIfInBounds_ne (by omega),Array.getElem?_setIfInBounds_self_of_lt (by first | omega | (simp;omega))];rw [hv1.out]
     ·rw [Array.getElem?_setIfInBounds_self_of_lt (by first | omega | (simp;omega))];rw [hv2.out]
    ·obtain ⟨r0,r1,r2⟩:=hcc.out j (by omega)
     refine ⟨?_,?_,?_⟩
     all_goals (rw [Array.getElem?_setIfInBounds_ne (by omega),Array.getElem?_setIfInBounds_ne (by omega),Array.getElem?_setIfInBounds_ne (by omega)];assumption)
   case measure=>simp [intOf];omega
  ·obtain rfl:k=n:=by omega
   go_wp2
   go_returns
   go_light
   exact ⟨rfl,fun j hj=>(by
    obtain ⟨r0,r1,r2⟩:=hcc.out j hj
    exact ⟨b,rfl,by rw [hblk.cell];exact r0,by rw [hblk.cell];exact r1,by rw [hblk.cell];exact r2⟩),hg⟩
theorem markMkP (B:Nat) (a:Option Addr) (n cap k0:Nat) (l:List Pt) (w:World) (h:ResAt Pt.cs 3 tP w B a n cap l) (hn:n<=4194304) (hk0:1<=k0∧k0<=50000000) :
  Calls Tryz.prog 173 #[.slice a n cap,.int .i64 ((k0:Nat):Int)] w fun e w'=>e=.returned (.int .i64 ((k0+3*n:Nat):Int))∧MkP w' a n k0∧w.grownBy w' (Value.ownBlock (.slice a n cap)):=by
 rcases h.own with ⟨rfl,rfl,rfl⟩ | ⟨b,rfl,_,hnc,_,c,hc,hs0,_⟩
 ·go_enter Tryz.func173,Tryz.ntmps173
  go_wp2_with fail
  go_rounds 1
  go_returns
  exact ⟨rfl,fun j hj=>(by omega),World.grownBy.refl _ _⟩
 ·exact j6_ b n cap k0 c w hc (by rw [hs0];exact Nat.mul_le_mul_right _ hnc) hn hk0
theorem heldMkP (a:Option Addr) (n cap k0:Nat) (w:World) (h:MkP w a n k0) (hn:n<=4194304) (hk0:1<=k0∧k0<=50000000) :
  Calls Tryz.prog 174 #[.slice a n cap,.int .i64 ((k0:Nat):Int)] w fun e w'=>e=.returned (.int .i64 ((k0+3*n:Nat):Int))∧Below w.heap.size w w':=by
 go_enter Tryz.func174,Tryz.ntmps174
 go_wp2_with fail
 go_loopw [1,5] (fun kk ix wr=>∃ (k:Nat),k<=n∧ix=.int .i64 k∧kk=.int .i64 ((k0+3*k:Nat):Int)∧Below w.heap.size w wr) (fun _ ix _=>n-(intOf ix).toNat)
 case atStart=>exact ⟨0,Nat.zero_le _,rfl,rfl,Below.refl _ _⟩
 case round=>
  obtain ⟨k,hk,rfl,rfl,hB⟩:=hrel
  by_cases hlt:k<n
  ·obtain ⟨b,rfl,c0,c1,c2⟩:=h k hlt
   have hk3:(k:Int)<n:=by omega
   have hk4:(0:Int)<=k:=by omega
   obtain ⟨KK,hKK⟩:∃ KK:Int,KK=((k0+3*k:Nat):Int):=⟨_,rfl⟩
   have hKh:Hid (KK=((k0+3*k:Nat):Int)):=hKK
   rw [<-hKK]
   have hK1:1<=KK:=by omega
   have hK2:KK<=70000000:=by omega
   rw [show ((k0+3*k:Nat):Int)=KK by omega] at c0
   have e0:(KK != KK)=false:=by simp
   rw [show ((k0+3*k+1:Nat):Int)=KK+1 by omega] at c1
   have e1:(KK+1 != KK+1)=false:=by simp
   rw [show ((k0+3*k+2:Nat):Int)=KK+1+1 by omega] at c2
   have e2:(KK+1+1 != KK+1+1)=false:=by simp
   clear hKK
   replace c0:=bcell hB c0
   replace c1:=bcell hB c1
   replace c2:=bcell hB c2
   go_wp2
   go_roundw
   case rel=>exact ⟨k+1,by omega,by go_num,by have:=hKh.out;show Value.int IntKind.i64 _=Value.int IntKind.i64 _;congr 1;omega,hB⟩
   case measure=>simp [intOf];omega
  ·obtain rfl:k=n:=by omega
   go_wp2
   go_returns
   exact ⟨rfl,hB⟩
theorem j7_ (b n cap k0:Nat) (c:Array Value) (w:World) (hb:Blk w b c tE) (hsz:n*2<=c.size) (hn:n<=4194304) (hk0:1<=k0∧k0<=50000000) :
  Calls Tryz.prog 45 #[.slice (some ⟨b,0,none⟩) n cap,.int .i64 ((k0:Nat):Int)] w fun e w'=>e=.returned (.int .i64 ((k0+2*n:Nat):Int))∧MkE w' (some ⟨b,0,none⟩) n k0∧w.grownBy w' (some b):=by
 go_enter Tryz.func45,Tryz.ntmps45
 go_wp2_with fail
 go_loopw [1,5] (fun kk ix wr=>∃ (k:Nat) (c':Array Value),k<=n∧ix=.int .i64 k∧kk=.int .i64 ((k0+2*k:Nat):Int)∧Blk wr b c' tE∧Hid (c'.size=c.size)∧Hid (∀ j,j<k->c'[j*2]?=some (.int .i64 ((k0+2*j:Nat):Int))∧c'[j*2+1]?=some (.string (markT (k0+2*j+1))))∧w.grownBy wr (some b)) (fun _ ix _=>n-(intOf ix).toNat)
 case atStart=>exact ⟨0,c,Nat.zero_le _,rfl,rfl,hb,rfl,fun j hj=>(by omega),World.grownBy.refl _ _⟩
 case round=>
  obtain ⟨k,c',hk,rfl,rfl,hblk,hcs,hcc,hg⟩:=hrel
  by_cases hlt:k<n
  ·have hc3:k*2+1<c'.size:=by rw [hcs.out];omega
   have hk1:(k:Int)<n:=by omega
   have hk2:(0:Int)<=k:=by omega
   obtain ⟨KK,hKK⟩:∃ KK:Int,KK=((k0+2*k:Nat):Int):=⟨_,rfl⟩
   have hKh:Hid (KK=((k0+2*k:Nat):Int)):=hKK
   rw [<-hKK]
   have hK1:1<=KK:=by omega
   have hK2:KK<=70000000:=by omega
   clear hKK
   obtain ⟨v0,y0⟩:=hblk.has (i:=k*2) (by first | omega | (simp;omega))
   have f0:=hblk.frozen (k*2)
   have hv0:Hid (Value.int .i64 (KK)=.int .i64 ((k0+2*k:Nat):Int)):=by show Value.int .i64 _=Value.int .i64 _;first | (rw [hKh.out];done) | (have:=hKh.out;congr 1;omega)
   go_wp2_with fail
   refine (ar_ (k0+2*k+1) _ (by have:=hKh.out;omega) _ (by omega) (by omega)).mono ?_
   rintro e w2 ⟨rfl,hB2⟩
   have b2:=((hblk).set (k*2) (.int .i64 (KK))).below hB2
   have g2:=aP_ (ac_ (hg) (k*2) (.int .i64 (KK))) hB2
   obtain ⟨v1,y1⟩:=b2.has (i:=k*2+1) (by first | omega | (simp;omega))
   have f1:=b2.frozen (k*2+1)
   go_wp2
   go_roundw
   case rel=>
    refine ⟨k+1,_,by omega,by go_num,by (show Value.int IntKind.i64 _=Value.int IntKind.i64 _;have:=hKh.out;congr 1;omega),b2.set (k*2+1) (.string (markT (k0+2*k+1))),by show _=_;simp [hcs.out],?_,ac_ g2 (k*2+1) (.string (markT (k0+2*k+1)))⟩
    intro j hj
    have hcs':=hcs.out
    by_cases hjk:j=k
    ·subst hjk
     refine ⟨?_,?_⟩
     ·rw [Array.getElem?_setIfInBounds_ne (by omega),Array.getElem?_setIfInBounds_self_of_lt (by first | omega | (simp;omega))];rw [hv0.out]
     ·rw [Array.getElem?_setIfInBounds_self_of_lt (by first | omega | (simp;omega))]
    ·obtain ⟨r0,r1⟩:=hcc.out j (by omega)
     refine ⟨?_,?_⟩
     all_goals (rw [Array.getElem?_setIfInBounds_ne (by omega),Array.getElem?_setIfInBounds_ne (by omega)];assumption)
   case measure=>simp [intOf];omega
  ·obtain rfl:k=n:=by omega
   go_wp2
   go_returns
   go_light
   exact ⟨rfl,fun j hj=>(by
    obtain ⟨r0,r1⟩:=hcc.out j hj
    exact ⟨b,rfl,by rw [hblk.cell];exact r0,by rw [hblk.cell];exact r1⟩),hg⟩
theorem markMkE (B:Nat) (a:Option Addr) (n cap k0:Nat) (l:List Ex) (w:World) (h:ResAt Ex.cs 2 tE w B a n cap l) (hn:n<=4194304) (hk0:1<=k0∧k0<=50000000) :
  Calls Tryz.prog 45 #[.slice a n cap,.int .i64 ((k0:Nat):Int)] w fun e w'=>e=.returned (.int .i64 ((k0+2*n:Nat):Int))∧MkE w' a n k0∧w.grownBy w' (Value.ownBlock (.slice a n cap)):=by
 rcases h.own with ⟨rfl,rfl,rfl⟩ | ⟨b,rfl,_,hnc,_,c,hc,hs0,_⟩
 ·go_enter Tryz.func45,Tryz.ntmps45
  go_wp2_with fail
  go_rounds 1
  go_returns
  exact ⟨rfl,fun j hj=>(by omega),World.grownBy.refl _ _⟩
 ·exact j7_ b n cap k0 c w hc (by rw [hs0];exact Nat.mul_le_mul_right _ hnc) hn hk0
theorem heldMkE (a:Option Addr) (n cap k0:Nat) (w:World) (h:MkE w a n k0) (hn:n<=4194304) (hk0:1<=k0∧k0<=50000000) :
  Calls Tryz.prog 48 #[.slice a n cap,.int .i64 ((k0:Nat):Int)] w fun e w'=>e=.returned (.int .i64 ((k0+2*n:Nat):Int))∧Below w.heap.size w w':=by
 go_enter Tryz.func48,Tryz.ntmps48
 go_wp2_with fail
 go_loopw [1,5] (fun kk ix wr=>∃ (k:Nat),k<=n∧ix=.int .i64 k∧kk=.int .i64 ((k0+2*k:Nat):Int)∧Below w.heap.size w wr) (fun _ ix _=>n-(intOf ix).toNat)
 case atStart=>exact ⟨0,Nat.zero_le _,rfl,rfl,Below.refl _ _⟩
 case round=>
  obtain ⟨k,hk,rfl,rfl,hB⟩:=hrel
  by_cases hlt:k<n
  ·obtain ⟨b,rfl,c0,c1⟩:=h k hlt
   have hk3:(k:Int)<n:=by omega
   have hk4:(0:Int)<=k:=by omega
   obtain ⟨KK,hKK⟩:∃ KK:Int,KK=((k0+2*k:Nat):Int):=⟨_,rfl⟩
   have hKh:Hid (KK=((k0+2*k:Nat):Int)):=hKK
   rw [<-hKK]
   have hK1:1<=KK:=by omega
   have hK2:KK<=70000000:=by omega
   rw [show ((k0+2*k:Nat):Int)=KK by omega] at c0
   have e0:(KK != KK)=false:=by simp
   clear hKK
   replace c0:=bcell hB c0
   replace c1:=bcell hB c1
   have e1:(!((markT (k0+2*k+1)).toList==(markT (k0+2*k+1)).toList))=false:=by simp
   go_wp2_with fail
   have g1:=gcell c1
   have hne:=aq_ wr
   refine aa_ (by kernel_rfl) (by kernel_rfl) ?_
   repeat (go_big_quiet_step (first | (go_at_call 109;exact ag_ (ar_ (k0+2*k+1) (KK+1) (by have:=hKh.out;omega) _ (by omega) (by omega)))))
   refine wpQuiet_nil ?_
   intro w3 hx
   have hB3:=ae_ hx
   clear hx g1 hne e1
   have hC3:=chain hB hB3
   go_wp2
   go_roundw
   case rel=>exact ⟨k+1,by omega,by go_num,by have:=hKh.out;show Value.int IntKind.i64 _=Value.int IntKind.i64 _;congr 1;omega,hC3⟩
   case measure=>simp [intOf];omega
  ·obtain rfl:k=n:=by omega
   go_wp2
   go_returns
   exact ⟨rfl,hB⟩
theorem j8_ (b n cap k0:Nat) (c:Array Value) (w:World) (hb:Blk w b c tC) (hsz:n*4<=c.size) (hn:n<=4194304) (hk0:1<=k0∧k0<=50000000) :
  Calls Tryz.prog 47 #[.slice (some ⟨b,0,none⟩) n cap,.int .i64 ((k0:Nat):Int)] w fun e w'=>e=.returned (.int .i64 ((k0+4*n:Nat):Int))∧MkC w' (some ⟨b,0,none⟩) n k0∧w.grownBy w' (some b):=by
 go_enter Tryz.func47,Tryz.ntmps47
 go_wp2_with fail
 go_loopw [1,5] (fun kk ix wr=>∃ (k:Nat) (c':Array Value),k<=n∧ix=.int .i64 k∧kk=.int .i64 ((k0+4*k:Nat):Int)∧Blk wr b c' tC∧Hid (c'.size=c.size)∧Hid (∀ j,j<k->c'[j*4]?=some (.int .i64 ((k0+4*j:Nat):Int))∧c'[j*4+1]?=some (.int .i64 ((k0+4*j+1:Nat):Int))∧c'[j*4+2]?=some (.string (markT (k0+4*j+2)))∧c'[j*4+3]?=some (.int .i64 ((k0+4*j+3:Nat):Int)))∧w.grownBy wr (some b)) (fun _ ix _=>n-(intOf ix).toNat)
 case atStart=>exact ⟨0,c,Nat.zero_le _,rfl,rfl,hb,rfl,fun j hj=>(by omega),World.grownBy.refl _ _⟩
 case round=>
  obtain ⟨k,c',hk,rfl,rfl,hblk,hcs,hcc,hg⟩:=hrel
  by_cases hlt:k<n
  ·have hc3:k*4+3<c'.size:=by rw [hcs.out];omega
   have hk1:(k:Int)<n:=by omega
   have hk2:(0:Int)<=k:=by omega
   obtain ⟨KK,hKK⟩:∃ KK:Int,KK=((k0+4*k:Nat):Int):=⟨_,rfl⟩
   have hKh:Hid (KK=((k0+4*k:Nat):Int)):=hKK
   rw [<-hKK]
   have hK1:1<=KK:=by omega
   have hK2:KK<=70000000:=by omega
   clear hKK
   obtain ⟨v0,y0⟩:=hblk.has (i:=k*4) (by first | omega | (simp;omega))
   have f0:=hblk.frozen (k*4)
   have hv0:Hid (Value.int .i64 (KK)=.int .i64 ((k0+4*k:Nat):Int)):=by show Value.int .i64 _=Value.int .i64 _;first | (rw [hKh.out];done) | (have:=hKh.out;congr 1;omega)
   obtain ⟨v1,y1⟩:=hblk.has (i:=k*4+1) (by first | omega | (simp;omega))
   have f1:=hblk.frozen (k*4+1)
   have hv1:Hid (Value.int .i64 (KK+1)=.int .i64 ((k0+4*k+1:Nat):Int)):=by show Value.int .i64 _=Value.int .i64 _;first | (rw [hKh.out];done) | (have:=hKh.out;congr 1;omega)
   go_wp2_with fail
   refine (ar_ (k0+4*k+2) _ (by have:=hKh.out;omega) _ (by omega) (by omega)).mono ?_
   rintro e w3 ⟨rfl,hB3⟩
   have b3:=(((hblk).set (k*4) (.int .i64 (KK))).set (k*4+1) (.int .i64 (KK+1))).below hB3
   have g3:=aP_ (ac_ (ac_ (hg) (k*4) (.int .i64 (KK))) (k*4+1) (.int .i64 (KK+1))) hB3
   obtain ⟨v2,y2⟩:=b3.has (i:=k*4+2) (by first | omega | (simp;omega))
   have f2:=b3.frozen (k*4+2)
   obtain ⟨v3,y3⟩:=b3.has (i:=k*4+3) (by first | omega | (simp;omega))
   have f3:=b3.frozen (k*4+3)
   have hv3:Hid (Value.int .i64 (KK+1+1+1)=.int .i64 ((k0+4*k+3:Nat):Int)):=by show Value.int .i64 _=Value.int .i64 _;first | (rw [hKh.out];done) | (have:=hKh.out;congr 1;omega)
   go_wp2
   go_roundw
   case rel=>
    refine ⟨k+1,_,by omega,by go_num,by (show Value.int IntKind.i64 _=Value.int IntKind.i64 _;have:=hKh.out;congr 1;omega),(b3.set (k*4+2) (.string (markT (k0+4*k+2)))).set (k*4+3) (.int .i64 (KK+1+1+1)),by show _=_;simp [hcs.out],?_,ac_ (ac_ g3 (k*4+2) (.string (markT (k0+4*k+2)))) (k*4+3) (.int .i64 (KK+1+1+1))⟩
    intro j hj
    have hcs':=hcs.out
    by_cases hjk:j=k
    ·subst hjk
     refine ⟨?_,?_,?_,?_⟩
     ·rw [Array.getElem?_setIfInBounds_ne (by omega),Array.getElem?_setIfInBounds_ne (by omega),Array.getElem?_setIfInBounds_ne (by omega),Array.getElem?_setIfInBounds_self_of_lt (by first | omega | (simp;omega))];rw [hv0.out]
     ·rw [Array.getElem?_setIfInBounds_ne (by omega),Array.getElem?_setIfInBounds_ne (by omega),Array.getElem?_setIfInBounds_self_of_lt (by first | omega | (simp;omega))];rw [hv1.out]
     ·rw [Array.getElem?_setIfInBounds_ne (by omega),Array.getElem?_setIfInBounds_self_of_lt (by first | omega | (simp;omega))]
     ·rw [Array.getElem?_setIfInBounds_self_of_lt (by first | omega | (simp;omega))];rw [hv3.out]
    ·obtain ⟨r0,r1,r2,r3⟩:=hcc.out j (by omega)
     refine ⟨?_,?_,?_,?_⟩
     all_goals (rw [Array.getElem?_setIfInBounds_ne (by omega),Array.getElem?_setIfInBounds_ne (by omega),Array.getElem?_setIfInBounds_ne (by omega),Array.getElem?_setIfInBounds_ne (by omega)];assumption)
   case measure=>simp [intOf];omega
  ·obtain rfl:k=n:=by omega
   go_wp2
   go_returns
   go_light
   exact ⟨rfl,fun j hj=>(by
    obtain ⟨r0,r1,r2,r3⟩:=hcc.out j hj
    exact ⟨b,rfl,by rw [hblk.cell];exact r0,by rw [hblk.cell];exact r1,by rw [hblk.cell];exact r2,by rw [hblk.cell];exact r3⟩),hg⟩
theorem markMkC (B:Nat) (a:Option Addr) (n cap k0:Nat) (l:List Ct) (w:World) (h:ResAt Ct.cs 4 tC w B a n cap l) (hn:n<=4194304) (hk0:1<=k0∧k0<=50000000) :
  Calls Tryz.prog 47 #[.slice a n cap,.int .i64 ((k0:Nat):Int)] w fun e w'=>e=.returned (.int .i64 ((k0+4*n:Nat):Int))∧MkC w' a n k0∧w.grownBy w' (Value.ownBlock (.slice a n cap)):=by
 rcases h.own with ⟨rfl,rfl,rfl⟩ | ⟨b,rfl,_,hnc,_,c,hc,hs0,_⟩
 ·go_enter Tryz.func47,Tryz.ntmps47
  go_wp2_with fail
  go_rounds 1
  go_returns
  exact ⟨rfl,fun j hj=>(by omega),World.grownBy.refl _ _⟩
 ·exact j8_ b n cap k0 c w hc (by rw [hs0];exact Nat.mul_le_mul_right _ hnc) hn hk0
theorem heldMkC (a:Option Addr) (n cap k0:Nat) (w:World) (h:MkC w a n k0) (hn:n<=4194304) (hk0:1<=k0∧k0<=50000000) :
  Calls Tryz.prog 50 #[.slice a n cap,.int .i64 ((k0:Nat):Int)] w fun e w'=>e=.returned (.int .i64 ((k0+4*n:Nat):Int))∧Below w.heap.size w w':=by
 go_enter Tryz.func50,Tryz.ntmps50
 go_wp2_with fail
 go_loopw [1,5] (fun kk ix wr=>∃ (k:Nat),k<=n∧ix=.int .i64 k∧kk=.int .i64 ((k0+4*k:Nat):Int)∧Below w.heap.size w wr) (fun _ ix _=>n-(intOf ix).toNat)
 case atStart=>exact ⟨0,Nat.zero_le _,rfl,rfl,Below.refl _ _⟩
 case round=>
  obtain ⟨k,hk,rfl,rfl,hB⟩:=hrel
  by_cases hlt:k<n
  ·obtain ⟨b,rfl,c0,c1,c2,c3⟩:=h k hlt
   have hk3:(k:Int)<n:=by omega
   have hk4:(0:Int)<=k:=by omega
   obtain ⟨KK,hKK⟩:∃ KK:Int,KK=((k0+4*k:Nat):Int):=⟨_,rfl⟩
   have hKh:Hid (KK=((k0+4*k:Nat):Int)):=hKK
   rw [<-hKK]
   have hK1:1<=KK:=by omega
   have hK2:KK<=70000000:=by omega
   rw [show ((k0+4*k:Nat):Int)=KK by omega] at c0
   have e0:(KK != KK)=false:=by simp
   rw [show ((k0+4*k+1:Nat):Int)=KK+1 by omega] at c1
   have e1:(KK+1 != KK+1)=false:=by simp
   rw [show ((k0+4*k+3:Nat):Int)=KK+1+1+1 by omega] at c3
   have e3:(KK+1+1+1 != KK+1+1+1)=false:=by simp
   clear hKK
   replace c0:=bcell hB c0
   replace c1:=bcell hB c1
   replace c2:=bcell hB c2
   replace c3:=bcell hB c3
   have e2:(!((markT (k0+4*k+2)).toList==(markT (k0+4*k+2)).toList))=false:=by simp
   go_wp2_with fail
   have g2:=gcell c2
   have hne:=aq_ wr
   refine aa_ (by kernel_rfl) (by kernel_rfl) ?_
   repeat (go_big_quiet_step (first | (go_at_call 109;exact ag_ (ar_ (k0+4*k+2) (KK+1+1) (by have:=hKh.out;omega) _ (by omega) (by omega)))))
   refine wpQuiet_nil ?_
   intro w4 hx
   have hB4:=ae_ hx
   clear hx g2 hne e2
   replace c3:=bcell hB4 c3
   have hC4:=chain hB hB4
   go_wp2
   go_roundw
   case rel=>exact ⟨k+1,by omega,by go_num,by have:=hKh.out;show Value.int IntKind.i64 _=Value.int IntKind.i64 _;congr 1;omega,hC4⟩
   case measure=>simp [intOf];omega
  ·obtain rfl:k=n:=by omega
   go_wp2
   go_returns
   exact ⟨rfl,hB⟩
end Go.Proofs.YtigldeccfpkdmaaGreatDoor
namespace Go.Proofs.YtigldeccfpkdmaaGreatDoor
open Go Go.RowKit Go.BigFrame
set_option maxHeartbeats 20000000
set_option maxRecDepth 100000
theorem Chg.ofB {L:List Nat} {w w':World} (h:Below w.heap.size w w'):Chg L w w':=⟨h.os,h.tape,h.output,h.size,fun k hk _=>h.block k hk⟩
theorem Chg.ofG {L:List Nat} {w w':World} {row:Option Nat} (h:w.grownBy w' row) (hr:∀ b,row=some b->b∈L):Chg L w w':=by
 obtain ⟨o,t,p,s,b⟩:=h
 exact ⟨o,t,p,s,fun k hk hn=>b k hk (fun e=>hn (hr k e.symm))⟩
theorem ResAt.chg {α:Type} {cs:α->List Value} {sz:Nat} {t:TypeId} {w w':World} {B n cap:Nat} {a:Option Addr} {l:List α} {L:List Nat} (h:ResAt cs sz t w B a n cap l) (hc:Chg L w w') (hn:∀ ad,a=some ad->ad.block∉L):ResAt cs sz t w' B a n cap l:=by
 refine ⟨⟨h.sl.len,fun i x hx=>?_⟩,?_⟩
 ·obtain ⟨b,o,ha,hq⟩:=h.sl.cell i x hx
  exact ⟨b,o,ha,fun j v hv=>hc.cell (hq j v hv) (hn _ ha)⟩
 ·rcases h.own with h0 | ⟨b,ha,hB,h1,h2,c,hb,q⟩
  ·exact .inl h0
  ·exact .inr ⟨b,ha,hB,h1,h2,c,hc.blk hb (hn _ ha),q⟩
theorem MkP.chg {w w':World} {a:Option Addr} {n k0:Nat} {L:List Nat} (h:MkP w a n k0) (hc:Chg L w w') (hn:0<n->∀ ad,a=some ad->ad.block∉L):MkP w' a n k0:=fun j hj=>by
 obtain ⟨b,ha,c0,c1,c2⟩:=h j hj
 have:=hn (by omega) _ ha
 exact ⟨b,ha,hc.cell c0 this,hc.cell c1 this,hc.cell c2 this⟩
theorem j9_ {k0:Nat} {irs:List IR} {i:Nat} {x:IR} (h:irs[i]?=some x):kIt k0 (irs.take (i+1))=kIt k0 (irs.take i)+1+3*x.n:=by
 unfold kIt
 rw [List.take_add_one,h]
 simp
 omega
theorem ka_ {k0:Nat} {vr:List VR} {i:Nat} {x:VR} (h:vr[i]?=some x):kVo k0 (vr.take (i+1))=kIt (kVo k0 (vr.take i)+3) x.irs:=by
 unfold kVo kIt
 rw [List.take_add_one,h]
 simp
 omega
theorem n4_ {k0:Nat} {irs:List IR} (i:Nat):kIt k0 (irs.take i)<=kIt k0 irs:=by
 have h:=congrArg (fun l=>(l.map fun x:IR=>1+3*x.n).sum) (List.take_append_drop i irs)
 simp only [List.map_append,List.sum_append] at h
 unfold kIt
 omega
theorem n5_ {k0:Nat} {vr:List VR} (i:Nat):kVo k0 (vr.take i)<=kVo k0 vr:=by
 have h:=congrArg (fun l=>(l.map fun x:VR=>3+(x.irs.map fun x=>1+3*x.n).sum).sum) (List.take_append_drop i vr)
 simp only [List.map_append,List.sum_append] at h
 unfold kVo
 omega
theorem ip_ (k0:Nat) (irs:List IR):k0<=kIt k0 irs:=Nat.le_add_right _ _
theorem iq_ (k0:Nat) (vr:List VR):k0<=kVo k0 vr:=Nat.le_add_right _ _
theorem MkI.chg {w w':World} {a:Option Addr} {irs:List IR} {k0:Nat} {L:List Nat} (h:MkI w a irs k0) (hc:Chg L w w') (ha:∀ ad,a=some ad->ad.block∉L) (hp:∀ x∈irs,∀ ad,x.a=some ad->ad.block∉L):MkI w' a irs k0:=fun j x hx=>by
 obtain ⟨b,e,c0,c1,m⟩:=h j x hx
 exact ⟨b,e,hc.cell c0 (ha _ e),hc.cell c1 (ha _ e),m.chg hc (fun _=>hp x (List.mem_of_getElem? hx))⟩
theorem MkV.chg {w w':World} {a:Option Addr} {vr:List VR} {k0:Nat} {L:List Nat} (h:MkV w a vr k0) (hc:Chg L w w') (ha:∀ ad,a=some ad->ad.block∉L) (hv:∀ x∈vr,∀ ad,x.a=some ad->ad.block∉L) (hp:∀ x∈vr,∀ y∈x.irs,∀ ad,y.a=some ad->ad.block∉L):MkV w' a vr k0:=fun j x hx=>by
 obtain ⟨b,e,c0,c1,c2,c3,m⟩:=h j x hx
 have hm:=List.mem_of_getElem? hx
 exact ⟨b,e,hc.cell c0 (ha _ e),hc.cell c1 (ha _ e),hc.cell c2 (ha _ e),hc.cell c3 (ha _ e),m.chg hc (hv x hm) (hp x hm)⟩
/-- Whose blocks a list of items reaches. -/
abbrev ibl (irs:List IR):List Nat:=irs.filterMap fun x=>blkO x.a
theorem ir_ {irs:List IR} {x:IR} {ad:Addr} (h:x∈irs) (ha:x.a=some ad):ad.block∈ibl irs:=List.mem_filterMap.2 ⟨x,h,by simp [blkO,ha]⟩
theorem gl_ {irs:List IR} {i:Nat} {x:IR} (h:irs[i]?=some x):ibl (irs.take (i+1))=ibl (irs.take i)++(blkO x.a).toList:=by
 unfold ibl
 rw [List.take_add_one,h]
 show ((irs.take i)++[x]).filterMap _=_
 rw [c3_]
theorem n6_ {irs:List IR} {i:Nat} {x:IR} {ad:Addr} (hN:(ibl irs).Nodup) (h:irs[i]?=some x) (ha:x.a=some ad):ad.block∉ibl (irs.take i):=fun hm=>by
 have h1:=gl_ h
 have h2:((irs.take (i+1)).filterMap fun x=>blkO x.a).Nodup:=List.Nodup.sublist ((List.take_sublist _ _).filterMap _) hN
 change (ibl (irs.take (i+1))).Nodup at h2
 rw [h1,ha] at h2
 exact (List.nodup_append.1 h2).2.2 _ hm _ (by simp [blkO]) rfl
theorem aZ_ {α β:Type} {R:α->β->Prop} {l:List α} {m:List β} (h:Al2 R l m) {x:α} (hx:x∈l):∃ y,R x y:=by
 induction h with
 |nil=>cases hx
 |cons hr _ ih=>
  rcases List.mem_cons.1 hx with rfl | hx
  ·exact ⟨_,hr⟩
  ·exact ih hx
theorem fq_ {a:Option Addr} {n c:Nat} {w w':World} (h:w.grownBy w' (Value.ownBlock (.slice a n c))):Chg (blkO a).toList w w':=Chg.ofG h (fun b e=>by
 cases a with
 |none=>simp [Value.ownBlock] at e
 |some ad=>simp [Value.ownBlock] at e;simp [blkO,e])
theorem dh_ {α β:Type} {cs:α->List Value} {cs':β->List Value} {sz sz':Nat} {t t':TypeId} {w:World} {B n cap B' n' cap':Nat} {a a':Option Addr} {l:List α} {l':List β} (h:ResAt cs sz t w B a n cap l) (h':ResAt cs' sz' t' w B' a' n' cap' l') (ht:t≠t') {ad ad':Addr} (e:a=some ad) (e':a'=some ad'):ad.block≠ad'.block:=fun he=>by
 rcases h.own with ⟨h0,_⟩ | ⟨b,ha,_,_,_,c,hc,_⟩
 ·rw [h0] at e;cases e
 ·rcases h'.own with ⟨h0,_⟩ | ⟨b',ha',_,_,_,c',hc',_⟩
  ·rw [h0] at e';cases e'
  ·rw [ha] at e;cases e
   rw [ha'] at e';cases e'
   simp only at he
   subst he
   have:=hc.symm.trans hc'
   simp at this
   exact ht this.2
theorem gm_ (B:Nat) (a:Option Addr) (n cap k0:Nat) (irs:List IR) (its:List It) (w:World) (RI:ResAt IR.cs 2 tI w B a n cap irs) (IL:Al2 (ItR w B) irs its) (hN:(ibl irs).Nodup) (hn:n<=4194304) (hpn:∀ x∈irs,x.n<=4194304) (hk1:1<=k0) (hk2:kIt k0 irs<=40000000) :
  Calls Tryz.prog 110 #[.slice a n cap,.int .i64 ((k0:Nat):Int)] w fun e w'=>e=.returned (.int .i64 ((kIt k0 irs:Nat):Int))∧MkI w' a irs k0∧Chg ((blkO a).toList++ibl irs) w w':=by
 have hlen:=RI.sl.len
 rcases RI.own with ⟨rfl,rfl,rfl⟩ | ⟨ib,rfl,hB,hnc,hcm,c,hc,hs,_⟩
 ·obtain rfl:=List.eq_nil_of_length_eq_zero hlen
  go_enter Tryz.func110,Tryz.ntmps110
  go_wp2_with fail
  go_rounds 1
  go_returns
  exact ⟨rfl,fun j x hx=>(by simp at hx),Chg.refl _ _⟩
 ·have hsl:Hid (∀ j x,irs[j]?=some x->c[j*2+1]?=some (.slice x.a x.n x.c)):=fun j x hx=>by
   obtain ⟨b,o,e,hq⟩:=RI.sl.cell j x hx
   cases e
   have:=hq 1 _ rfl
   rw [hc.cell] at this
   simpa using this
  have hP:Hid (∀ x∈irs,∃ ps,ResAt Pt.cs 3 tP w B x.a x.n x.c ps):=fun x hx=>by
   obtain ⟨y,hy⟩:=aZ_ IL hx
   exact ⟨_,hy.ps⟩
  have hne:Hid (∀ x∈irs,∀ ad,x.a=some ad->ad.block≠ib):=fun x hx ad e=>by
   obtain ⟨ps,hp⟩:=hP.out x hx
   exact dh_ hp RI (by decide) e rfl
  have hkl:Hid (∀ i,kIt k0 (irs.take i)<=40000000):=fun i=>Nat.le_trans (n4_ i) hk2
  have hkg:Hid (∀ i,1<=kIt k0 (irs.take i)):=fun i=>Nat.le_trans hk1 (ip_ _ _)
  obtain ⟨kE,hkE⟩:∃ kE,Hid (kIt k0 irs=kE):=⟨_,rfl⟩
  rw [hkE.out]
  go_enter Tryz.func110,Tryz.ntmps110
  go_wp2_with fail
  go_loopw [1,5] (fun kk ix wr=>∃ (i:Nat) (c':Array Value),i<=n∧ix=.int .i64 i∧kk=.int .i64 ((kIt k0 (irs.take i):Nat):Int)∧Blk wr ib c' tI∧Hid (c'.size=c.size)∧Hid (∀ j x,irs[j]?=some x->c'[j*2+1]?=some (.slice x.a x.n x.c))∧Hid (∀ j,j<i->c'[j*2]?=some (.string (markT (kIt k0 (irs.take j)))))∧Hid (∀ j x,j<i->irs[j]?=some x->MkP wr x.a x.n (kIt k0 (irs.take j)+1))∧Chg (ib::ibl (irs.take i)) w wr) (fun _ ix _=>n-(intOf ix).toNat)
  case atStart=>exact ⟨0,c,Nat.zero_le _,rfl,rfl,hc,rfl,hsl.out,fun j hj=>(by omega),fun j x hj=>(by omega),Chg.refl _ _⟩
  case round=>
   obtain ⟨i,c',hi,rfl,rfl,hblk,hcs,hcc,hcm1,hmk,hC⟩:=hrel
   by_cases hlt:i<n
   ·obtain ⟨x,hx⟩:∃ x,irs[i]?=some x:=⟨irs[i]'(by omega),by simp⟩
    have hxm:=List.mem_of_getElem? hx
    obtain ⟨ps,hps⟩:=hP.out x hxm
    have hc3:i*2+1<c'.size:=by rw [hcs.out,hs];have:=Nat.mul_le_mul_right 2 hnc;omega
    have hi1:(i:Int)<n:=by omega
    have hi2:(0:Int)<=i:=by omega
    obtain ⟨q,hq⟩:∃ q,Hid (kIt k0 (irs.take i)=q):=⟨_,rfl⟩
    have hq1:1<=q:=by rw [<-hq.out];exact hkg.out i
    have hq2:q<=40000000:=by rw [<-hq.out];exact hkl.out i
    have hq3:Hid (kIt k0 (irs.take (i+1))=q+1+3*x.n):=by show _=_;rw [j9_ hx,hq.out]
    have hq4:q+1+3*x.n<=40000000:=by rw [<-hq3.out];exact hkl.out (i+1)
    have hxn:=hpn x hxm
    rw [hq.out]
    go_wp2_with fail
    refine (ar_ q _ rfl _ (by omega) (by omega)).mono ?_
    rintro e w1 ⟨rfl,hB1⟩
    have b1:=hblk.below hB1
    obtain ⟨v0,y0⟩:=b1.has (i:=i*2) (by omega)
    have f0:=b1.frozen (i*2)
    have y1:w1.cell? ⟨ib,i*2+1,none⟩=some (.slice x.a x.n x.c):=by rw [b1.cell];exact hcc.out i x hx
    go_wp2_with fail
    rw [show ((q:Nat):Int)+1=((q+1:Nat):Int) by omega]
    have b2:=b1.set (i*2) (.string (markT q))
    have C12:Chg [ib] wr (w1.setCell ⟨ib,i*2,none⟩ (.string (markT q))):=(Chg.ofB hB1).trans (Chg.ofG (ac_ (World.grownBy.refl _ _) _ _) (fun b e=>by cases e;simp))
    generalize w1.setCell ⟨ib,i*2,none⟩ (.string (markT q))=W2 at *
    clear y0 y1 f0 b1
    have hC2:Chg (ib::ibl (irs.take i)) w W2:=hC.trans (C12.mono (by simp))
    have hps2:=hps.chg hC2 (fun ad e=>by
     simp only [List.mem_cons,not_or]
     exact ⟨hne.out x hxm ad e,n6_ hN hx e⟩)
    refine (markMkP B x.a x.n x.c (q+1) ps W2 hps2 hxn ⟨by omega,by omega⟩).mono ?_
    rintro e w3 ⟨rfl,hMk,hg3⟩
    have b3:=b2.ty hg3 (hps2.rowTy (m:=x.n) (k:=x.c)) (by decide)
    have C23:=fq_ hg3
    have hC3:Chg (ib::ibl (irs.take (i+1))) w w3:=(hC2.mono (fun k hk=>by
     rw [gl_ hx]
     rcases List.mem_cons.1 hk with rfl | hk
     ·simp
     ·exact List.mem_cons_of_mem _ (List.mem_append_left _ hk))).trans (C23.mono (fun k hk=>by rw [gl_ hx];exact List.mem_cons_of_mem _ (List.mem_append_right _ hk)))
    have hmk3:Hid (∀ j z,j<i+1->irs[j]?=some z->MkP w3 z.a z.n (kIt k0 (irs.take j)+1)):=fun j z hj hz=>by
     by_cases hji:j=i
     ·subst hji
      obtain rfl:x=z:=Option.some.inj (hx.symm.trans hz)
      rw [hq.out]
      exact hMk
     ·have hzm:=List.mem_of_getElem? hz
      have h1:=hmk.out j z (by omega) hz
      refine (h1.chg C12 (fun _ ad e=>by simpa using hne.out z hzm ad e)).chg C23 (fun _ ad e=>?_)
      intro hm
      cases hxa:x.a with
      |none=>rw [hxa] at hm;simp [blkO] at hm
      |some ax=>
       rw [hxa] at hm
       simp [blkO] at hm
       refine n6_ hN hx hxa ?_
       rw [<-hm]
       exact ir_ (List.mem_of_getElem? (i:=j) (by rw [List.getElem?_take_of_lt (by omega)];exact hz)) e
    clear hMk hg3 C23 hC2 hps2 hps C12 hB1 hblk b2
    go_wp2
    go_roundw
    case rel=>
     refine ⟨i+1,_,by omega,by go_num,?_,b3,by show _=_;simp [hcs.out],?_,?_,hmk3,hC3⟩
     ·rw [hq3.out]
      rfl
     ·intro j z hz
      rw [Array.getElem?_setIfInBounds_ne (by omega)]
      exact hcc.out j z hz
     ·intro j hj
      by_cases hji:j=i
      ·subst hji
       rw [Array.getElem?_setIfInBounds_self_of_lt (by omega),hq.out]
      ·rw [Array.getElem?_setIfInBounds_ne (by omega)]
       exact hcm1.out j (by omega)
    case measure=>simp [intOf];omega
   ·obtain rfl:i=n:=by omega
    have ht:irs.take i=irs:=List.take_of_length_le (by omega)
    rw [ht] at hC ⊢
    rw [hkE.out]
    go_wp2
    go_returns
    refine ⟨rfl,fun j x hx=>?_,hC⟩
    have hj:j<i:=by rw [<-hlen];exact (List.getElem?_eq_some_iff.1 hx).1
    exact ⟨ib,rfl,by rw [hblk.cell];exact hcm1.out j hj,by rw [hblk.cell];exact hcc.out j x hx,hmk.out j x hj hx⟩
theorem gn_ (a:Option Addr) (n cap k0:Nat) (irs:List IR) (w:World) (h:MkI w a irs k0) (hlen:irs.length=n) (hn:n<=4194304) (hpn:∀ x∈irs,x.n<=4194304) (hk1:1<=k0) (hk2:kIt k0 irs<=40000000) :
  Calls Tryz.prog 111 #[.slice a n cap,.int .i64 ((k0:Nat):Int)] w fun e w'=>e=.returned (.int .i64 ((kIt k0 irs:Nat):Int))∧Below w.heap.size w w':=by
 have hkl:Hid (∀ i,kIt k0 (irs.take i)<=40000000):=fun i=>Nat.le_trans (n4_ i) hk2
 have hkg:Hid (∀ i,1<=kIt k0 (irs.take i)):=fun i=>Nat.le_trans hk1 (ip_ _ _)
 obtain ⟨kE,hkE⟩:∃ kE,Hid (kIt k0 irs=kE):=⟨_,rfl⟩
 rw [hkE.out]
 go_enter Tryz.func111,Tryz.ntmps111
 go_wp2_with fail
 go_loopw [1,5] (fun kk ix wr=>∃ (i:Nat),i<=n∧ix=.int .i64 i∧kk=.int .i64 ((kIt k0 (irs.take i):Nat):Int)∧Below w.heap.size w wr) (fun _ ix _=>n-(intOf ix).toNat)
 case atStart=>exact ⟨0,Nat.zero_le _,rfl,rfl,Below.refl _ _⟩
 case round=>
  obtain ⟨i,hi,rfl,rfl,hB⟩:=hrel
  by_cases hlt:i<n
  ·obtain ⟨x,hx⟩:∃ x,irs[i]?=some x:=⟨irs[i]'(by omega),by simp⟩
   have hxm:=List.mem_of_getElem? hx
   obtain ⟨b,rfl,c0,c1,hm⟩:=h i x hx
   have hi1:(i:Int)<n:=by omega
   have hi2:(0:Int)<=i:=by omega
   obtain ⟨q,hq⟩:∃ q,Hid (kIt k0 (irs.take i)=q):=⟨_,rfl⟩
   have hq1:1<=q:=by rw [<-hq.out];exact hkg.out i
   have hq3:Hid (kIt k0 (irs.take (i+1))=q+1+3*x.n):=by show _=_;rw [j9_ hx,hq.out]
   have hq4:q+1+3*x.n<=40000000:=by rw [<-hq3.out];exact hkl.out (i+1)
   have hxn:=hpn x hxm
   rw [hq.out] at c0 hm ⊢
   replace c0:=bcell hB c0
   replace c1:=bcell hB c1
   replace hm:=hm.below hB
   have e0:(!((markT q).toList==(markT q).toList))=false:=by simp
   go_wp2_with fail
   have g0:=gcell c0
   have hne:=aq_ wr
   refine aa_ (by kernel_rfl) (by kernel_rfl) ?_
   repeat (go_big_quiet_step (first | (go_at_call 109;exact ag_ (ar_ q ((q:Nat):Int) rfl _ (by omega) (by omega)))))
   refine wpQuiet_nil ?_
   intro w2 hxx
   have hB2:=ae_ hxx
   clear hxx g0 hne e0
   replace c1:=bcell hB2 c1
   replace hm:=hm.below hB2
   have hC2:=chain hB hB2
   go_wp2_with fail
   rw [show ((q:Nat):Int)+1=((q+1:Nat):Int) by omega]
   refine (heldMkP x.a x.n x.c (q+1) w2 hm hxn ⟨by omega,by omega⟩).mono ?_
   rintro e w3 ⟨rfl,hB3⟩
   have hC3:=chain hC2 hB3
   obtain ⟨qq,hqq⟩:∃ qq:Int,((q+1+3*x.n:Nat):Int)=qq:=⟨_,rfl⟩
   have hqh:Hid (((q+1+3*x.n:Nat):Int)=qq):=hqq
   have hq5:0<=qq:=by omega
   have hq6:¬ qq<0:=by omega
   have hq7:qq<=40000000:=by omega
   rw [hqq]
   clear hqq
   go_wp2
   go_roundw
   case rel=>exact ⟨i+1,by omega,by go_num,by rw [<-hqh.out,hq3.out],hC3⟩
   case measure=>simp [intOf];omega
  ·obtain rfl:i=n:=by omega
   have ht:irs.take i=irs:=List.take_of_length_le (by omega)
   rw [ht,hkE.out]
   go_wp2
   go_returns
   exact ⟨rfl,hB⟩
end Go.Proofs.YtigldeccfpkdmaaGreatDoor
