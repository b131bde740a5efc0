/- What is read of a disk, by the model and by the program. A new store's disk: plain. StoreNew, by the program and by the model. The commitment on a disk: plain, and by the program. The commitment on a disk, by the program. -/
import Derived.Test.YtigldeccfpkdmaaGreatDoorK31
import Derived.Deep.DeepCutAuto
import Derived.Test.YtigldeccfpkdmaaGreatDoorK24
import Derived.Test.YtigldeccfpkdmaaGreatDoorK32
import Derived.Test.YtigldeccfpkdmaaGreatDoorK00
import Derived.Test.YtigldeccfpkdmaaGreatDoorProg
import Derived.Test.YtigldeccfpkdmaaGreatDoorK41
import Derived.Test.YtigldeccfpkdmaaGreatDoorK42
namespace Go.Proofs.YtigldeccfpkdmaaGreatDoor
open Go Go.RowKit Go.BigFrame
set_option maxHeartbeats 20000000
set_option maxRecDepth 100000
def rdL (l:List Fl) (nm:ByteArray):ByteArray×Bool:=match atF l nm with | none=>(⟨#[]⟩,false) | some i=>match l[i]? with | some f=>(f.d,true) | none=>(⟨#[]⟩,false)
def rdD (d:Dk) (nm:ByteArray):ByteArray×Bool:=if diskB d=true then rdL d.live nm else (⟨#[]⟩,false)
theorem n1_ {d:Dk} (nm:ByteArray) (h:diskB d=false):rdD d nm=(⟨#[]⟩,false):=by simp [rdD,h]
theorem lW_ {d:Dk} (nm:ByteArray) (h:diskB d=true):rdD d nm=rdL d.live nm:=by simp [rdD,h]
theorem pr_ {l:List Fl} {nm:ByteArray} {i:Nat} (h:atF l nm=some i):∃ f,l[i]?=some f∧f.nm.toList=nm.toList:=by
 unfold atF at h
 obtain ⟨h1,h2,_⟩:=List.findIdx?_eq_some_iff_getElem.1 h
 exact ⟨l[i],by simp [h1],by simpa using h2⟩
theorem gL_ (v:Value) (d:Dk) (nm:ByteArray) (w:World) (h:DiskAt w v d) (hd:DimD d) :
  Calls Tryz.prog 74 #[v,.string nm] w fun e w'=>e=.returned (.tuple #[.string (rdD d nm).1,.bool (rdD d nm).2])∧Below w.heap.size w w':=by
 have hD:=h
 obtain ⟨la,ln,lc,sa,sn,sc,oa,on,oc,rfl,hL,hS,hO⟩:=h
 have hln:ln<=4000000:=by rw [<-hL.sl.len];exact hd.live.1
 have hB0:Below w.heap.size w (w.alloc (.cells #[.slice la ln lc,.slice sa sn sc,.slice oa on oc] 52)):=by go_grown
 have D0:=Blk.new w #[.slice la ln lc,.slice sa sn sc,.slice oa on oc] 52
 go_enter Tryz.func74,Tryz.ntmps74
 go_wp2_with fail
 refine (e2_ _ d _ (hD.below hB0) hd).mono ?_
 rintro e w1 ⟨rfl,hB1⟩
 have D1:=D0.below hB1
 have hC1:=chain hB0 hB1
 cases hdb:diskB d
 ·have hr:Hid (rdD d nm=(⟨#[]⟩,false)):=n1_ nm hdb
  go_wp2
  go_returns
  exact ⟨by rw [hr.out]<;>rfl,hC1⟩
 ·have hr:Hid (rdD d nm=rdL d.live nm):=lW_ nm hdb
  obtain ⟨x0,x1,x2⟩:=D1.three
  have hL1:=hL.sl.below hC1
  have hlen:Hid (d.live.length=ln):=hL.sl.len
  generalize d.live=live at *
  go_wp2_with fail
  go_loopw [14] (fun ix wr=>∃ k:Nat,k<=ln∧ix=.int .i64 k∧Hid (atF live nm=(atF (live.drop k) nm).map (·+k))∧Below w1.heap.size w1 wr) (fun ix _=>ln-(intOf ix).toNat)
  case atStart=>exact ⟨0,Nat.zero_le _,rfl,by show _=_;simp,Below.refl _ _⟩
  case round=>
   obtain ⟨k,hk,rfl,hI,hB⟩:=hrel
   by_cases hlt:k<ln
   ·obtain ⟨b,o,p,rfl,hp,c0,c1⟩:=bk_ (hL1.below hB) hlt
    have hst:=jF_ (nm:=nm) hp
    have hp':Hid (live[k]?=some p):=hp
    clear hp
    have hk1:(k:Int)<ln:=by omega
    have hk2:(0:Int)<=k:=by omega
    have hA:Below wr.heap.size wr (wr.alloc (.cells #[.string p.nm,.string p.d] 123)):=(Below.refl _ _).alloc (Nat.le_refl _) _
    cases heq:(p.nm.toList==nm.toList)
    ·have hq:¬ p.nm.toList=nm.toList:=by simpa using heq
     rw [heq,if_neg (by simp)] at hst
     have hst':Hid (atF live nm=(atF (live.drop (k+1)) nm).map (·+(k+1))):=by show _=_;rw [hI.out];exact hst
     clear hst hI
     go_wp2
     go_roundw
     case rel=>exact ⟨k+1,by omega,by go_num,hst',chain hB hA⟩
     case measure=>simp [intOf];omega
    ·have hq:p.nm.toList=nm.toList:=by simpa using heq
     rw [heq,if_pos rfl] at hst
     have hr2:Hid (rdD d nm=(p.d,true)):=by
      show _=_
      rw [hr.out];unfold rdL;rw [hI.out,hst];simp only [hp'.out]
     clear hst hI
     go_wp2
     go_returns
     exact ⟨by rw [hr2.out]<;>rfl,chain (chain hC1 hB) hA⟩
   ·obtain rfl:k=ln:=by omega
    have hend:atF live nm=none:=by
     rw [hI.out,List.drop_of_length_le (Nat.le_of_eq hlen.out)];rfl
    have hr2:Hid (rdD d nm=(⟨#[]⟩,false)):=by show _=_;rw [hr.out];unfold rdL;rw [hend]
    clear hI hend
    go_wp2
    go_returns
    exact ⟨by rw [hr2.out]<;>rfl,chain hC1 hB⟩
def s0N:ByteArray:=⟨#[115,48]⟩
end Go.Proofs.YtigldeccfpkdmaaGreatDoor
namespace Go.Proofs.YtigldeccfpkdmaaGreatDoor
open Go Go.RowKit Go.BigFrame Go.Shelf
set_option maxHeartbeats 20000000
set_option maxRecDepth 100000
theorem pF_:decB 0=⟨#[48]⟩:=by
 unfold decB Lib.itoa
 rw [if_neg (by omega)]
 rw [show (0:Int).toNat=0 from rfl,Lib.decDigits]
 rfl
theorem ij_ (w:World) (ht:TabP w) :
  Calls Tryz.prog 75 #[.int .i64 0] w fun e w'=>e=.returned (.string s0N)∧Below w.heap.size w w':=by
 have e1:¬ 9223372036854775807<(⟨#[115]⟩:ByteArray).size+(⟨#[48]⟩:ByteArray).size:=by decide
 go_enter Tryz.func75,Tryz.ntmps75
 go_wp2_with fail
 refine (ak_ 0 _ (by omega) (by omega) ht).mono ?_
 rintro e w1 ⟨rfl,hB1⟩
 rw [pF_]
 go_wp2
 go_returns
 exact ⟨rfl,hB1⟩
end Go.Proofs.YtigldeccfpkdmaaGreatDoor
namespace Go.Proofs.YtigldeccfpkdmaaGreatDoor
open Go Go.RowKit Go.BigFrame
set_option maxHeartbeats 20000000
set_option maxRecDepth 100000
def slN:Nat->ByteArray
 |0=>⟨#[115,48]⟩
 |1=>⟨#[115,49]⟩
 |_=>⟨#[115,50]⟩
/-- What the i-th slot holds. -/
noncomputable def rcO (d:Dk) (i:Nat):Option (Int×Po):=if (rdD d (slN i)).2=true then rsO (rdD d (slN i)).1 else none
def stepC (a:Int×Po) (i:Nat) (r:Option (Int×Po)):Int×Po:=match r with
 |none=>a
 |some q=>if q.1 % 3=i∧a.1<q.1 then q else a
noncomputable def accC (d:Dk):Nat->Int×Po
 |0=>(-1,emptyP)
 |i+1=>stepC (accC d i) i (rcO d i)
noncomputable def comO (d:Dk):Option (Int×Po):=if (accC d 3).1<0 then none else some (accC d 3)
theorem n2_ {s:ByteArray} {q:Int×Po} (h:rsO s=some q):0<=q.1:=by
 unfold rsO at h
 split at h
 ·next hb=>
  cases hn:numP (hdB (midB s.data.toList)) with
  |none=>rw [hn] at h;cases h
  |some n=>
   rw [hn] at h
   cases ha:ansO (tlB (midB s.data.toList)) with
   |none=>rw [ha] at h;cases h
   |some p=>
    rw [ha] at h
    simp only [Option.bind_some] at h
    split at h
    ·next hs=>
     obtain rfl:=Option.some.inj h
     show 0<=n
     by_cases hc:(0<=n∧n<=1000000000)∧poolB p=true∧p.lt=[]
     ·exact hc.1.1
     ·rw [eM_ hc] at hs
      rw [<-hs] at hb
      exact absurd hb.1 (by decide)
    ·cases h
 ·cases h
theorem pG_:decB 1=⟨#[49]⟩:=by
 unfold decB Lib.itoa
 rw [if_neg (by omega)]
 rw [show (1:Int).toNat=1 from rfl,Lib.decDigits]
 rfl
theorem pH_:decB 2=⟨#[50]⟩:=by
 unfold decB Lib.itoa
 rw [if_neg (by omega)]
 rw [show (2:Int).toNat=2 from rfl,Lib.decDigits]
 rfl
theorem ik_ (w:World) (ht:TabP w) :
  Calls Tryz.prog 75 #[.int .i64 1] w fun e w'=>e=.returned (.string (slN 1))∧Below w.heap.size w w':=by
 have e1:¬ 9223372036854775807<(⟨#[115]⟩:ByteArray).size+(⟨#[49]⟩:ByteArray).size:=by decide
 go_enter Tryz.func75,Tryz.ntmps75
 go_wp2_with fail
 refine (ak_ 1 _ (by omega) (by omega) ht).mono ?_
 rintro e w1 ⟨rfl,hB1⟩
 rw [pG_]
 go_wp2
 go_returns
 exact ⟨rfl,hB1⟩
theorem il_ (w:World) (ht:TabP w) :
  Calls Tryz.prog 75 #[.int .i64 2] w fun e w'=>e=.returned (.string (slN 2))∧Below w.heap.size w w':=by
 have e1:¬ 9223372036854775807<(⟨#[115]⟩:ByteArray).size+(⟨#[50]⟩:ByteArray).size:=by decide
 go_enter Tryz.func75,Tryz.ntmps75
 go_wp2_with fail
 refine (ak_ 2 _ (by omega) (by omega) ht).mono ?_
 rintro e w1 ⟨rfl,hB1⟩
 rw [pH_]
 go_wp2
 go_returns
 exact ⟨rfl,hB1⟩
theorem im_ (i:Nat) (hi:i<3) (w:World) (ht:TabP w) :
  Calls Tryz.prog 75 #[.int .i64 ((i:Nat):Int)] w fun e w'=>e=.returned (.string (slN i))∧Below w.heap.size w w':=by
 match i,hi with
 |0,_=>exact ij_ w ht
 |1,_=>exact ik_ w ht
 |2,_=>exact il_ w ht
theorem dg_ (v:Value) (d:Dk) (w:World) (h:DiskAt w v d) (hd:DimD d) (hz:∀ nm,(rdD d nm).1.size<=2000000) (hG:Glb w) :
  Calls Tryz.prog 23 #[v] w fun e w'=>(∃ u,e=.returned (.tuple #[.int .i64 ((comO d).elim 0 (·.1)),u,.bool (comO d).isSome])∧PoolM w.heap.size w' u ((comO d).elim emptyP (·.2)))∧Below w.heap.size w w':=by
 have hD:=h
 obtain ⟨la,ln,lc,sa,sn,sc,oa,on,oc,rfl,_⟩:=h
 obtain ⟨A,hA⟩:∃ A,Hid (comO d=A):=⟨_,rfl⟩
 rw [hA.out]
 have hA0:Below w.heap.size w (((w.alloc (.cells #[.slice la ln lc,.slice sa sn sc,.slice oa on oc] 52)).alloc (.cells #[.int .i64 0,.int .i64 0,.slice none 0 0,.slice none 0 0,.slice none 0 0,.slice none 0 0] 26)).alloc (.cells #[.int .i64 0,.int .i64 0,.slice none 0 0,.slice none 0 0,.slice none 0 0,.slice none 0 0] 26)):=by go_grown
 have DB0:Blk (((w.alloc (.cells #[.slice la ln lc,.slice sa sn sc,.slice oa on oc] 52)).alloc (.cells #[.int .i64 0,.int .i64 0,.slice none 0 0,.slice none 0 0,.slice none 0 0,.slice none 0 0] 26)).alloc (.cells #[.int .i64 0,.int .i64 0,.slice none 0 0,.slice none 0 0,.slice none 0 0,.slice none 0 0] 26)) w.heap.size #[.slice la ln lc,.slice sa sn sc,.slice oa on oc] 52:=(Blk.new w _ _).below (by go_grown)
 have QB0:Blk (((w.alloc (.cells #[.slice la ln lc,.slice sa sn sc,.slice oa on oc] 52)).alloc (.cells #[.int .i64 0,.int .i64 0,.slice none 0 0,.slice none 0 0,.slice none 0 0,.slice none 0 0] 26)).alloc (.cells #[.int .i64 0,.int .i64 0,.slice none 0 0,.slice none 0 0,.slice none 0 0,.slice none 0 0] 26)) (w.heap.size+1) #[.int .i64 0,.int .i64 0,.slice none 0 0,.slice none 0 0,.slice none 0 0,.slice none 0 0] 26:=(Blk.new' (w.alloc (.cells #[.slice la ln lc,.slice sa sn sc,.slice oa on oc] 52)) _ _ _ (by simp)).below (by go_grown)
 have PB0:Blk (((w.alloc (.cells #[.slice la ln lc,.slice sa sn sc,.slice oa on oc] 52)).alloc (.cells #[.int .i64 0,.int .i64 0,.slice none 0 0,.slice none 0 0,.slice none 0 0,.slice none 0 0] 26)).alloc (.cells #[.int .i64 0,.int .i64 0,.slice none 0 0,.slice none 0 0,.slice none 0 0,.slice none 0 0] 26)) (w.heap.size+1+1) #[.int .i64 0,.int .i64 0,.slice none 0 0,.slice none 0 0,.slice none 0 0,.slice none 0 0] 26:=Blk.new' _ _ _ _ (by simp)
 go_enter Tryz.func23,Tryz.ntmps23
 go_wp2_with fail
 generalize ((w.alloc (.cells #[.slice la ln lc,.slice sa sn sc,.slice oa on oc] 52)).alloc (.cells #[.int .i64 0,.int .i64 0,.slice none 0 0,.slice none 0 0,.slice none 0 0,.slice none 0 0] 26)).alloc (.cells #[.int .i64 0,.int .i64 0,.slice none 0 0,.slice none 0 0,.slice none 0 0,.slice none 0 0] 26)=W0 at *
 go_loopw [5,14] (fun bv ix wr=>∃ (i:Nat) (b:Int) (p0:Po) (ea0:Option Addr) (en0 ec0:Nat) (va0:Option Addr) (vn0 vc0:Nat) (ra0:Option Addr) (rn0 rc0:Nat) (la0:Option Addr) (ln0 lc0:Nat),ix=.int .i64 ((i:Nat):Int)∧bv=.int .i64 b∧i<=3∧Hid (accC d i=(b,p0))∧Blk wr w.heap.size #[.slice la ln lc,.slice sa sn sc,.slice oa on oc] 52∧Blk wr (w.heap.size+1) #[.int .i64 0,.int .i64 0,.slice none 0 0,.slice none 0 0,.slice none 0 0,.slice none 0 0] 26∧Blk wr (w.heap.size+1+1) #[.int .i64 p0.size,.int .i64 p0.next,.slice ea0 en0 ec0,.slice va0 vn0 vc0,.slice ra0 rn0 rc0,.slice la0 ln0 lc0] 26∧PoolM (w.heap.size+3) wr (.agg #[.int .i64 p0.size,.int .i64 p0.next,.slice ea0 en0 ec0,.slice va0 vn0 vc0,.slice ra0 rn0 rc0,.slice la0 ln0 lc0]) p0∧Below w.heap.size w wr) (fun _ ix _=>3-(intOf ix).toNat)
 case atStart=>exact ⟨0,-1,emptyP,none,0,0,none,0,0,none,0,0,none,0,0,rfl,rfl,by omega,rfl,DB0,QB0,PB0,emptyM _ _,hA0⟩
 case round=>
  clear DB0 QB0 PB0 hA0
  obtain ⟨i,b,p0,ea0,en0,ec0,va0,vn0,vc0,ra0,rn0,rc0,la0,ln0,lc0,rfl,rfl,hi,hI,DB,QB,PB,M0,hB⟩:=hrel
  have hwz:=PB.lt
  rcases Nat.lt_or_ge i 3 with hlt | hge
  ·have G:=hG.below hB
   have hi1:(i:Int)<3:=by omega
   have hi2:(0:Int)<=i:=by omega
   obtain ⟨D,hDd⟩:∃ D,Hid ((rdD d (slN i)).1=D):=⟨_,rfl⟩
   obtain ⟨th,hth⟩:∃ t,Hid ((rdD d (slN i)).2=t):=⟨_,rfl⟩
   have hDs:D.size<=2000000:=by rw [<-hDd.out];exact hz _
   have hrc:Hid (rcO d i=if th=true then rsO D else none):=by show _=_;rw [rcO,hth.out,hDd.out]
   have qs:=fun (u:World) (hu:Below wr.heap.size wr u)=>im_ i hlt u (G.below hu).tab
   have qf:=fun (u:World) (hu:Below wr.heap.size wr u)=>gL_ _ d (slN i) u (hD.below (chain hB hu)) hd
   rw [hDd.out,hth.out] at qf
   obtain ⟨sl,hsl⟩:∃ z,slN i=z:=⟨_,rfl⟩
   rw [hsl] at qs qf
   clear hsl
   have c0:=DB.cell 0
   have c1:=DB.cell 1
   have c2:=DB.cell 2
   go_upto_region 5 with fail
   have g0:=gcell c0
   have g1:=gcell c1
   have g2:=gcell c2
   have hne:=aq_ wr
   refine aa_ (by kernel_rfl) (by kernel_rfl) ?_
   repeat (go_big_quiet_step (first | (go_at_call 75;exact ag_ (qs _ (Grw.h _))) | (go_at_call 74;exact ag_ (qf _ (Grw.h _)))))
   refine wpQuiet_nil ?_
   intro w2 hxx
   have hB2:=ae_ hxx
   clear hxx g0 g1 g2 hne qs qf c0 c1 c2
   replace DB:=DB.below hB2
   replace QB:=QB.below hB2
   replace PB:=PB.below hB2
   replace M0:=M0.below hB2
   replace G:=G.below hB2
   replace hB:=chain hB hB2
   clear hB2
   obtain ⟨n1,hn1⟩:∃ z,Hid ((rsO D).elim 0 (·.1)=z):=⟨_,rfl⟩
   obtain ⟨ok1,hok1⟩:∃ z,Hid ((rsO D).isSome=z):=⟨_,rfl⟩
   obtain ⟨p1,hp1⟩:∃ z,Hid ((rsO D).elim emptyP (·.2)=z):=⟨_,rfl⟩
   have qr:=gi_ D w2 hDs G
   rw [hn1.out,hok1.out,hp1.out] at qr
   go_wp2_with fail
   refine qr.mono ?_
   rintro e w3 ⟨⟨v3,rfl,M1⟩,hb3⟩
   obtain ⟨ea1,en1,ec1,va1,vn1,vc1,ra1,rn1,rc1,la1,ln1,lc1,vr1,rfl,_⟩:=M1.out
   have hA3:Below w3.heap.size w3 (w3.alloc (.cells #[.int .i64 p1.size,.int .i64 p1.next,.slice ea1 en1 ec1,.slice va1 vn1 vc1,.slice ra1 rn1 rc1,.slice la1 ln1 lc1] 26)):=(Below.refl _ _).alloc (Nat.le_refl _) _
   obtain ⟨b3,hb30⟩:∃ b,b=w3.heap.size:=⟨_,rfl⟩
   have P3:Blk (w3.alloc (.cells #[.int .i64 p1.size,.int .i64 p1.next,.slice ea1 en1 ec1,.slice va1 vn1 vc1,.slice ra1 rn1 rc1,.slice la1 ln1 lc1] 26)) b3 #[.int .i64 p1.size,.int .i64 p1.next,.slice ea1 en1 ec1,.slice va1 vn1 vc1,.slice ra1 rn1 rc1,.slice la1 ln1 lc1] 26:=Blk.new' _ _ _ _ hb30
   have hc3:=chain hb3 hA3
   have hq2:=PB.lt
   have hq3:=hb3.size
   have hne3:b3≠w.heap.size+1+1:=by rw [hb30];omega
   replace DB:=DB.below hc3
   replace QB:=QB.below hc3
   replace PB:=PB.below hc3
   replace M0:=M0.below hc3
   replace M1:=(M1.below hA3).mono (show w.heap.size+3<=_ by omega)
   replace hB:=chain hB hc3
   clear hb3 hA3 hc3 qr G
   go_upto_region 7 with fail
   rw [<-hb30]
   clear hb30
   generalize w3.alloc (.cells #[.int .i64 p1.size,.int .i64 p1.next,.slice ea1 en1 ec1,.slice va1 vn1 vc1,.slice ra1 rn1 rc1,.slice la1 ln1 lc1] 26)=W3 at *
   have hnn:ok1=true->0<=n1:=fun ho=>by
    rw [<-hn1.out]
    have h1:=hok1.out
    cases hr:rsO D with
    |none=>rw [hr,ho] at h1;cases h1
    |some q=>exact n2_ hr
   have hstep:Hid (accC d (i+1)=if th=true∧ok1=true∧n1 % 3=i∧b<n1 then (n1,p1) else (b,p0)):=by
    show stepC (accC d i) i (rcO d i)=_
    rw [hI.out,hrc.out]
    have h1:=hok1.out
    have h2:=hn1.out
    have h3:=hp1.out
    cases th with
    |false=>simp [stepC]
    |true=>
     simp only [if_true]
     cases hr:rsO D with
     |none=>rw [hr] at h1;subst h1;simp [stepC]
     |some q=>
      obtain ⟨qn,qp⟩:=q
      rw [hr] at h1 h2 h3
      subst h1
      obtain rfl:qn=n1:=h2
      obtain rfl:qp=p1:=h3
      simp [stepC]
   clear hrc hn1 hok1 hp1
   by_cases hup:th=true∧ok1=true∧n1 % 3=i∧b<n1
   ·obtain ⟨rfl,rfl,hm,hgt⟩:=hup
    have hn0:=hnn rfl
    rw [if_pos ⟨rfl,rfl,hm,hgt⟩] at hstep
    have hmb:(n1 % 3==(i:Int))=true:=by rw [beq_iff_eq];exact hm
    go_upto_region 8 with fail
    have hWd:Below W3.heap.size W3 W3.drew:=(Below.refl _ _).drew
    replace DB:=DB.below hWd
    replace QB:=QB.below hWd
    replace PB:=PB.below hWd
    replace P3:=P3.below hWd
    replace M1:=M1.below hWd
    replace hB:=chain hB hWd
    have hS0:(fun u=>u.cell? ⟨b3,0,none⟩=some (.int .i64 p1.size)∧u.cell? ⟨b3,1,none⟩=some (.int .i64 p1.next)∧u.cell? ⟨b3,2,none⟩=some (.slice ea1 en1 ec1)∧u.cell? ⟨b3,3,none⟩=some (.slice va1 vn1 vc1)∧u.cell? ⟨b3,4,none⟩=some (.slice ra1 rn1 rc1)∧u.cell? ⟨b3,5,none⟩=some (.slice la1 ln1 lc1)) W3.drew:=P3.sixM
    refine ad_ (S:=(fun u=>u.cell? ⟨b3,0,none⟩=some (.int .i64 p1.size)∧u.cell? ⟨b3,1,none⟩=some (.int .i64 p1.next)∧u.cell? ⟨b3,2,none⟩=some (.slice ea1 en1 ec1)∧u.cell? ⟨b3,3,none⟩=some (.slice va1 vn1 vc1)∧u.cell? ⟨b3,4,none⟩=some (.slice ra1 rn1 rc1)∧u.cell? ⟨b3,5,none⟩=some (.slice la1 ln1 lc1))) 4 (by kernel_rfl) rfl ?_
    generalize W3.drew=y0 at *
    clear hWd
    refine tk 0 ?_
    refine tk 1 ?_
    refine tk 2 ?_
    obtain ⟨r0,r1,r2,r3,r4,r5⟩:=PB.sixM
    obtain ⟨f0,f1,f2,f3,f4,f5⟩:=fz6 PB
    refine oneL (i:=3) (by kernel_rfl) rfl (fun K hK=>?_)
    go_simp
    obtain ⟨P8,hg8⟩:=put6F PB (.int .i64 p1.size) (.int .i64 p1.next) (.slice ea1 en1 ec1) (.slice va1 vn1 vc1) (.slice ra1 rn1 rc1) (.slice la1 ln1 lc1)
    have M8:=M1.box hg8 PB
    have P9:=P3.grown hg8 (by simpa using hne3)
    replace DB:=DB.grown hg8 (by simp;omega)
    replace QB:=QB.grown hg8 (by simp)
    replace hB:=hB.grown hg8 (by have:=PB.lt;omega) (fun k e=>by cases e;omega)
    refine hK.out _ _ P9.sixM (fun hHeld=>?_)
    clear hK K
    try simp only [Act.put,lsA,lsB,lsC]
    generalize ((((((y0).setCell ⟨w.heap.size+1+1,0,none⟩ (.int .i64 p1.size)).setCell ⟨w.heap.size+1+1,1,none⟩ (.int .i64 p1.next)).setCell ⟨w.heap.size+1+1,2,none⟩ (.slice ea1 en1 ec1)).setCell ⟨w.heap.size+1+1,3,none⟩ (.slice va1 vn1 vc1)).setCell ⟨w.heap.size+1+1,4,none⟩ (.slice ra1 rn1 rc1)).setCell ⟨w.heap.size+1+1,5,none⟩ (.slice la1 ln1 lc1)=W8 at *
    refine wpAnyH_done (by kernel_rfl) ?_ _
    clear hHeld hS0
    go_wp2
    go_roundw
    case rel=>exact ⟨i+1,n1,p1,ea1,en1,ec1,va1,vn1,vc1,ra1,rn1,rc1,la1,ln1,lc1,by go_num,rfl,by omega,hstep.out,DB,QB,P8,M8,hB⟩
    case measure=>simp [intOf];omega
   ·rw [if_neg hup] at hstep
    cases th with
    |false=>
     go_wp2
     go_roundw
     case rel=>exact ⟨i+1,b,p0,ea0,en0,ec0,va0,vn0,vc0,ra0,rn0,rc0,la0,ln0,lc0,by go_num,rfl,by omega,hstep.out,DB,QB,PB,M0,hB⟩
     case measure=>simp [intOf];omega
    |true=>
     cases ok1 with
     |false=>
      go_wp2
      go_roundw
      case rel=>exact ⟨i+1,b,p0,ea0,en0,ec0,va0,vn0,vc0,ra0,rn0,rc0,la0,ln0,lc0,by go_num,rfl,by omega,hstep.out,DB,QB,PB,M0,hB⟩
      case measure=>simp [intOf];omega
     |true=>
      have hn0:=hnn rfl
      by_cases hm:n1 % 3=i
      ·have hmb:(n1 % 3==(i:Int))=true:=by rw [beq_iff_eq];exact hm
       have hgt:¬ b<n1:=fun h=>hup ⟨rfl,rfl,hm,h⟩
       go_wp2
       go_roundw
       case rel=>exact ⟨i+1,b,p0,ea0,en0,ec0,va0,vn0,vc0,ra0,rn0,rc0,la0,ln0,lc0,by go_num,rfl,by omega,hstep.out,DB,QB,PB,M0,hB⟩
       case measure=>simp [intOf];omega
      ·have hmb:(n1 % 3==(i:Int))=false:=by rw [beq_eq_false_iff_ne];exact hm
       go_wp2
       go_roundw
       case rel=>exact ⟨i+1,b,p0,ea0,en0,ec0,va0,vn0,vc0,ra0,rn0,rc0,la0,ln0,lc0,by go_num,rfl,by omega,hstep.out,DB,QB,PB,M0,hB⟩
       case measure=>simp [intOf];omega
  ·obtain rfl:i=3:=by omega
   have hAe:Hid (A=if b<0 then none else some (b,p0)):=by show _=_;rw [<-hA.out,comO,hI.out]
   clear hI
   by_cases hneg:b<0
   ·rw [if_pos hneg] at hAe
    have:=hAe.out
    subst this
    obtain ⟨r0,r1,r2,r3,r4,r5⟩:=QB.sixM
    obtain ⟨f0,f1,f2,f3,f4,f5⟩:=fz6 QB
    go_wp2
    obtain ⟨E8,M8,hB8⟩:=an_ (p:=emptyP) QB hB (by omega) (emptyM w.heap.size wr)
    change bodyPost _ _ _ _ _ (put6 wr (w.heap.size+1) (.int .i64 0) (.int .i64 0) (.slice none 0 0) (.slice none 0 0) (.slice none 0 0) (.slice none 0 0))
    generalize put6 wr (w.heap.size+1) (.int .i64 0) (.int .i64 0) (.slice none 0 0) (.slice none 0 0) (.slice none 0 0) (.slice none 0 0)=W8 at *
    refine bodyPost_ret (as_ rfl _ W8 (w.heap.size+1) _ _ _ _ _ _ rfl rfl rfl E8 Tryz.underlying26 rfl (by kernel_rfl)) rfl ?_
    exact ⟨⟨_,rfl,M8⟩,hB8⟩
   ·rw [if_neg hneg] at hAe
    have:=hAe.out
    subst this
    go_upto_region 12 with fail
    have hWd:Below wr.heap.size wr wr.drew:=(Below.refl _ _).drew
    replace QB:=QB.below hWd
    replace PB:=PB.below hWd
    replace M0:=M0.below hWd
    replace hB:=chain hB hWd
    have hS0:(fun u=>u.cell? ⟨w.heap.size+1+1,0,none⟩=some (.int .i64 p0.size)∧u.cell? ⟨w.heap.size+1+1,1,none⟩=some (.int .i64 p0.next)∧u.cell? ⟨w.heap.size+1+1,2,none⟩=some (.slice ea0 en0 ec0)∧u.cell? ⟨w.heap.size+1+1,3,none⟩=some (.slice va0 vn0 vc0)∧u.cell? ⟨w.heap.size+1+1,4,none⟩=some (.slice ra0 rn0 rc0)∧u.cell? ⟨w.heap.size+1+1,5,none⟩=some (.slice la0 ln0 lc0)) wr.drew:=PB.sixM
    refine ad_ (S:=(fun u=>u.cell? ⟨w.heap.size+1+1,0,none⟩=some (.int .i64 p0.size)∧u.cell? ⟨w.heap.size+1+1,1,none⟩=some (.int .i64 p0.next)∧u.cell? ⟨w.heap.size+1+1,2,none⟩=some (.slice ea0 en0 ec0)∧u.cell? ⟨w.heap.size+1+1,3,none⟩=some (.slice va0 vn0 vc0)∧u.cell? ⟨w.heap.size+1+1,4,none⟩=some (.slice ra0 rn0 rc0)∧u.cell? ⟨w.heap.size+1+1,5,none⟩=some (.slice la0 ln0 lc0))) 5 (by kernel_rfl) rfl ?_
    generalize wr.drew=y0 at *
    clear hWd
    refine tk 0 ?_
    refine tk 1 ?_
    refine tk 2 ?_
    obtain ⟨r0,r1,r2,r3,r4,r5⟩:=QB.sixM
    obtain ⟨f0,f1,f2,f3,f4,f5⟩:=fz6 QB
    refine oneL (i:=3) (by kernel_rfl) rfl (fun K hK=>?_)
    go_simp
    obtain ⟨E8,hg8⟩:=put6F QB (.int .i64 p0.size) (.int .i64 p0.next) (.slice ea0 en0 ec0) (.slice va0 vn0 vc0) (.slice ra0 rn0 rc0) (.slice la0 ln0 lc0)
    have P8:=PB.grown hg8 (by simp)
    have M8:=(M0.box hg8 QB).mono (show w.heap.size<=w.heap.size+3 by omega)
    have hB8:=hB.grown hg8 (by have:=QB.lt;omega) (fun k e=>by cases e;omega)
    refine hK.out _ _ P8.sixM (fun hHeld=>?_)
    clear hK K
    try simp only [Act.put,lsA,lsB,lsC]
    generalize ((((((y0).setCell ⟨w.heap.size+1,0,none⟩ (.int .i64 p0.size)).setCell ⟨w.heap.size+1,1,none⟩ (.int .i64 p0.next)).setCell ⟨w.heap.size+1,2,none⟩ (.slice ea0 en0 ec0)).setCell ⟨w.heap.size+1,3,none⟩ (.slice va0 vn0 vc0)).setCell ⟨w.heap.size+1,4,none⟩ (.slice ra0 rn0 rc0)).setCell ⟨w.heap.size+1,5,none⟩ (.slice la0 ln0 lc0)=W8 at *
    refine tk 4 ?_
    refine wpAnyH_done (by kernel_rfl) ?_ _
    go_wp2
    refine bodyPost_ret (as_ rfl _ W8 (w.heap.size+1) _ _ _ _ _ _ rfl rfl rfl E8 Tryz.underlying26 rfl (by kernel_rfl)) rfl ?_
    exact ⟨⟨_,rfl,M8⟩,hB8⟩
end Go.Proofs.YtigldeccfpkdmaaGreatDoor
