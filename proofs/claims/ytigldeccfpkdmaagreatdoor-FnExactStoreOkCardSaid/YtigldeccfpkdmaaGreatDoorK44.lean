/- The commitment on a disk, by the model. Small facts for Committed's law. Committed by both: the law's walk. At every disk the program's Committed answers as its model does, and owns what it answers: the row. Stores: sizes, copies and comparisons by the laws. At every store the program's StoreOk answers as its model does: the row. -/
import Derived.Test.YtigldeccfpkdmaaGreatDoorK43
import Derived.Test.YtigldeccfpkdmaaGreatDoorK31
import Derived.Test.YtigldeccfpkdmaaGreatDoorK32
import Derived.Test.YtigldeccfpkdmaaGreatDoorK41
import Derived.Test.YtigldeccfpkdmaaGreatDoorK42
import Derived.Test.YtigldeccfpkdmaaGreatDoorRows
import Derived.Lib.SmallJoins
import Derived.ChangeSame
import Derived.ChangeVars
import Derived.ChangeMaps5
import Derived.JoinedOf
import Derived.RowKitTokens
import Derived.LaidLaws
import Derived.LaidHandle
import Derived.Lay
import Derived.MakeChecks
import Derived.Stop.LaidErr
import Derived.Lib.LaidTab
import Derived.SevenTiedAt
import Derived.Test.YtigldeccfpkdmaaGreatDoorK00
import Derived.Test.YtigldeccfpkdmaaGreatDoorK40
namespace Go.Proofs.YtigldeccfpkdmaaGreatDoor
open Go Go.RowKit Go.BigFrame
set_option maxHeartbeats 20000000
set_option maxRecDepth 100000
theorem k1_ {P:Program} {fn:Func} {p q:Tmp} {ty:TypeId} (h:fn.results=#[.tmp q,.cell p ty]) (tmps:Array Value) (w:World) (g:Nat) (t:TypeId) (cs:Array Value) (fr:Nat×Nat) (d:TypeDesc) (v:Value)
  (hp:tmps.getD p undef=.pointer (some ⟨g,0,none⟩)) (hq:tmps.getD q undef=v) (hg:w.heap[g]?=some (.cells cs t fr))
  (hu:P.underlying ty=some d) (hd:(match d with | .struct _ | .array _ _=>true | _=>false)=true) (hi:(P.info? ty).map (·.size)=some cs.size) :
  (results fn tmps).run P w=.ok (.tuple #[v,.agg cs]) w:=by
 have hp':tmps[p]?.getD undef=.pointer (some ⟨g,0,none⟩):=by simpa using hp
 have hq':tmps[q]?.getD undef=v:=by simpa using hq
 simp [results,h,hp',hq',asAddr,run_loadVar_row w g t ty cs fr d hg hu hd hi]
theorem in_ (i:Nat) (hi:i<3) (w:World) :
  Calls Tryz.prog 142 #[.int .i64 ((i:Nat):Int)] w fun e w'=>e=.returned (.string (slN i))∧Below w.heap.size w w':=by
 match i,hi with
 |0,_=>
  go_enter Tryz.func142,Tryz.ntmps142
  go_wp2
  go_returns
  exact ⟨rfl,by go_grown⟩
 |1,_=>
  go_enter Tryz.func142,Tryz.ntmps142
  go_wp2
  go_returns
  exact ⟨rfl,by go_grown⟩
 |2,_=>
  go_enter Tryz.func142,Tryz.ntmps142
  go_wp2
  go_returns
  exact ⟨rfl,by go_grown⟩
theorem e9_ (v:Value) (d:Dk) (w:World) (h:DiskAt w v d) (hd:DimD d) (hdb:diskB d=true) (hz:∀ nm,(rdD d nm).1.size<=2000000) (hw:0<w.heap.size) :
  Calls Tryz.prog 71 #[v] w fun e w'=>(∃ u,e=.returned (.tuple #[.int .i64 (accC d 3).1,u])∧PoolM w.heap.size w' u (accC d 3).2)∧Below w.heap.size w w':=by
 have hD:=h
 obtain ⟨la,ln,lc,sa,sn,sc,oa,on,oc,rfl,hLv,_⟩:=h
 have hln:ln<=4000000:=by rw [<-hLv.sl.len];exact hd.live.1
 obtain ⟨A,hA⟩:∃ A,Hid (accC d 3=A):=⟨_,rfl⟩
 rw [hA.out]
 have hA0:Below w.heap.size w (((w.alloc (.cells #[.slice la ln lc,.slice sa sn sc,.slice oa on oc] 52)).alloc (.cells #[.int .i64 0,.int .i64 0,.slice none 0 0,.slice none 0 0,.slice none 0 0,.slice none 0 0] 26)).alloc (.cells #[.int .i64 0,.int .i64 0,.slice none 0 0,.slice none 0 0,.slice none 0 0,.slice none 0 0] 26)):=by go_grown
 have DB0:Blk (((w.alloc (.cells #[.slice la ln lc,.slice sa sn sc,.slice oa on oc] 52)).alloc (.cells #[.int .i64 0,.int .i64 0,.slice none 0 0,.slice none 0 0,.slice none 0 0,.slice none 0 0] 26)).alloc (.cells #[.int .i64 0,.int .i64 0,.slice none 0 0,.slice none 0 0,.slice none 0 0,.slice none 0 0] 26)) w.heap.size #[.slice la ln lc,.slice sa sn sc,.slice oa on oc] 52:=(Blk.new w _ _).below (by go_grown)
 have QB0:Blk (((w.alloc (.cells #[.slice la ln lc,.slice sa sn sc,.slice oa on oc] 52)).alloc (.cells #[.int .i64 0,.int .i64 0,.slice none 0 0,.slice none 0 0,.slice none 0 0,.slice none 0 0] 26)).alloc (.cells #[.int .i64 0,.int .i64 0,.slice none 0 0,.slice none 0 0,.slice none 0 0,.slice none 0 0] 26)) (w.heap.size+1) #[.int .i64 0,.int .i64 0,.slice none 0 0,.slice none 0 0,.slice none 0 0,.slice none 0 0] 26:=(Blk.new' (w.alloc (.cells #[.slice la ln lc,.slice sa sn sc,.slice oa on oc] 52)) _ _ _ (by simp)).below (by go_grown)
 have PB0:Blk (((w.alloc (.cells #[.slice la ln lc,.slice sa sn sc,.slice oa on oc] 52)).alloc (.cells #[.int .i64 0,.int .i64 0,.slice none 0 0,.slice none 0 0,.slice none 0 0,.slice none 0 0] 26)).alloc (.cells #[.int .i64 0,.int .i64 0,.slice none 0 0,.slice none 0 0,.slice none 0 0,.slice none 0 0] 26)) (w.heap.size+1+1) #[.int .i64 0,.int .i64 0,.slice none 0 0,.slice none 0 0,.slice none 0 0,.slice none 0 0] 26:=Blk.new' _ _ _ _ (by simp)
 go_enter Tryz.func71,Tryz.ntmps71
 go_wp2_with fail
 generalize ((w.alloc (.cells #[.slice la ln lc,.slice sa sn sc,.slice oa on oc] 52)).alloc (.cells #[.int .i64 0,.int .i64 0,.slice none 0 0,.slice none 0 0,.slice none 0 0,.slice none 0 0] 26)).alloc (.cells #[.int .i64 0,.int .i64 0,.slice none 0 0,.slice none 0 0,.slice none 0 0,.slice none 0 0] 26)=W0 at *
 go_loopw [4,6] (fun bv ix wr=>∃ (i:Nat) (b:Int) (p0:Po) (ea0:Option Addr) (en0 ec0:Nat) (va0:Option Addr) (vn0 vc0:Nat) (ra0:Option Addr) (rn0 rc0:Nat) (la0:Option Addr) (ln0 lc0:Nat),ix=.int .i64 ((i:Nat):Int)∧bv=.int .i64 b∧i<=3∧Hid (accC d i=(b,p0))∧Blk wr w.heap.size #[.slice la ln lc,.slice sa sn sc,.slice oa on oc] 52∧Blk wr (w.heap.size+1) #[.int .i64 0,.int .i64 0,.slice none 0 0,.slice none 0 0,.slice none 0 0,.slice none 0 0] 26∧Blk wr (w.heap.size+1+1) #[.int .i64 p0.size,.int .i64 p0.next,.slice ea0 en0 ec0,.slice va0 vn0 vc0,.slice ra0 rn0 rc0,.slice la0 ln0 lc0] 26∧PoolM (w.heap.size+3) wr (.agg #[.int .i64 p0.size,.int .i64 p0.next,.slice ea0 en0 ec0,.slice va0 vn0 vc0,.slice ra0 rn0 rc0,.slice la0 ln0 lc0]) p0∧Below w.heap.size w wr) (fun _ ix _=>3-(intOf ix).toNat)
 case atStart=>exact ⟨0,-1,emptyP,none,0,0,none,0,0,none,0,0,none,0,0,rfl,rfl,by omega,rfl,DB0,QB0,PB0,emptyM _ _,hA0⟩
 case round=>
  clear DB0 QB0 PB0 hA0
  obtain ⟨i,b,p0,ea0,en0,ec0,va0,vn0,vc0,ra0,rn0,rc0,la0,ln0,lc0,rfl,rfl,hi,hI,DB,QB,PB,M0,hB⟩:=hrel
  have hwz:=PB.lt
  rcases Nat.lt_or_ge i 3 with hlt | hge
  ·have hi1:(i:Int)<3:=by omega
   have hi2:(0:Int)<=i:=by omega
   obtain ⟨pl,hpl⟩:∃ z,Hid (atF d.live (slN i)=z):=⟨_,rfl⟩
   have qs:=fun (u:World) (hu:Below wr.heap.size wr u)=>in_ i hlt u
   have qf:=fun (u:World) (hu:Below wr.heap.size wr u)=>(bY_ la ln lc d.live (slN i) u (hLv.sl.below (chain hB hu)) (by omega)).mono fun e w' ⟨h1,h2⟩=>(⟨h1,by rw [h2];exact Below.refl _ _⟩:e=Ending.returned (.int .i64 (plF (atF d.live (slN i))))∧Below u.heap.size u w')
   rw [hpl.out] at qf
   obtain ⟨at',hat⟩:∃ z,Hid (plF pl=z):=⟨_,rfl⟩
   rw [hat.out] at qf
   obtain ⟨sl,hsl⟩:∃ z,slN i=z:=⟨_,rfl⟩
   have hrd:Hid (rdD d (slN i)=rdL d.live (slN i)):=lW_ _ hdb
   rw [hsl] at qs qf
   have c0:=DB.cell 0
   go_upto_region 6 with fail
   have g0:=gcell c0
   have hne:=aq_ wr
   refine aa_ (by kernel_rfl) (by kernel_rfl) ?_
   repeat (go_big_quiet_step (first | (go_at_call 142;exact ag_ (qs _ (Grw.h _))) | (go_at_call 141;exact ag_ (qf _ (Grw.h _)))))
   refine wpQuiet_nil ?_
   intro w2 hxx
   have hB2:=ae_ hxx
   clear hxx g0 hne qs qf c0
   replace DB:=DB.below hB2
   replace QB:=QB.below hB2
   replace PB:=PB.below hB2
   replace M0:=M0.below hB2
   replace hB:=chain hB hB2
   clear hB2
   cases pl with
   |none=>
    obtain rfl:-1=at':=hat.out
    have hstep:Hid (accC d (i+1)=(b,p0)):=by
     show stepC (accC d i) i (rcO d i)=_
     rw [hI.out,rcO,hrd.out]
     unfold rdL
     rw [hpl.out]
     simp [stepC]
    go_wp2
    go_roundw
    case rel=>exact ⟨i+1,b,p0,ea0,en0,ec0,va0,vn0,vc0,ra0,rn0,rc0,la0,ln0,lc0,by go_num,rfl,by omega,hstep.out,DB,QB,PB,M0,hB⟩
    case measure=>simp [intOf];omega
   |some kf=>
    obtain rfl:((kf:Nat):Int)=at':=hat.out
    obtain ⟨fl,hfl,_⟩:=pr_ hpl.out
    obtain ⟨D,hDd⟩:∃ D,Hid (fl.d=D):=⟨_,rfl⟩
    have hrdv:rdD d (slN i)=(D,true):=by rw [hrd.out,rdL,hpl.out];simp only;rw [hfl,<-hDd.out]
    have hDs:D.size<=2000000:=by have:=hz (slN i);rw [hrdv] at this;exact this
    have hrc:Hid (rcO d i=rsO D):=by show _=_;rw [rcO,hrdv];simp
    obtain ⟨fb,fo,rfl,hcl⟩:=hLv.sl.cell kf fl hfl
    have hkl:=(List.getElem?_eq_some_iff.1 hfl).1
    rw [hLv.sl.len] at hkl
    have d1:=bcell hB (hcl 1 (.string D) (by rw [<-hDd.out];rfl))
    have c0:=DB.cell 0
    have hk0:(0:Int)<=(kf:Nat):=by omega
    have hk1:((kf:Nat):Int)<ln:=by omega
    obtain ⟨n1,hn1⟩:∃ z,Hid ((rsO D).elim 0 (·.1)=z):=⟨_,rfl⟩
    obtain ⟨ok1,hok1⟩:∃ z,Hid ((rsO D).isSome=z):=⟨_,rfl⟩
    obtain ⟨p1,hp1⟩:∃ z,Hid ((rsO D).elim emptyP (·.2)=z):=⟨_,rfl⟩
    have qr:=gj_ D w2 hDs (by have:=PB.lt;omega)
    rw [hn1.out,hok1.out,hp1.out] at qr
    go_wp2_with fail
    refine qr.mono ?_
    rintro e w3 ⟨⟨v3,rfl,M1⟩,hb3⟩
    obtain ⟨ea1,en1,ec1,va1,vn1,vc1,ra1,rn1,rc1,la1,ln1,lc1,vr1,rfl,_⟩:=M1.out
    have hA3:Below w3.heap.size w3 (w3.alloc (.cells #[.int .i64 p1.size,.int .i64 p1.next,.slice ea1 en1 ec1,.slice va1 vn1 vc1,.slice ra1 rn1 rc1,.slice la1 ln1 lc1] 26)):=(Below.refl _ _).alloc (Nat.le_refl _) _
    obtain ⟨b3,hb30⟩:∃ b,b=w3.heap.size:=⟨_,rfl⟩
    have P3:Blk (w3.alloc (.cells #[.int .i64 p1.size,.int .i64 p1.next,.slice ea1 en1 ec1,.slice va1 vn1 vc1,.slice ra1 rn1 rc1,.slice la1 ln1 lc1] 26)) b3 #[.int .i64 p1.size,.int .i64 p1.next,.slice ea1 en1 ec1,.slice va1 vn1 vc1,.slice ra1 rn1 rc1,.slice la1 ln1 lc1] 26:=Blk.new' _ _ _ _ hb30
    have hc3:=chain hb3 hA3
    have hq2:=PB.lt
    have hq3:=hb3.size
    have hne3:b3≠w.heap.size+1+1:=by rw [hb30];omega
    replace DB:=DB.below hc3
    replace QB:=QB.below hc3
    replace PB:=PB.below hc3
    replace M0:=M0.below hc3
    replace M1:=(M1.below hA3).mono (show w.heap.size+3<=_ by omega)
    replace hB:=chain hB hc3
    clear hb3 hA3 hc3 qr
    go_upto_region 9 with fail
    rw [<-hb30]
    clear hb30
    generalize w3.alloc (.cells #[.int .i64 p1.size,.int .i64 p1.next,.slice ea1 en1 ec1,.slice va1 vn1 vc1,.slice ra1 rn1 rc1,.slice la1 ln1 lc1] 26)=W3 at *
    have hnn:ok1=true->0<=n1:=fun ho=>by
     rw [<-hn1.out]
     have h1:=hok1.out
     cases hr:rsO D with
     |none=>rw [hr,ho] at h1;cases h1
     |some q=>exact n2_ hr
    have hstep:Hid (accC d (i+1)=if ok1=true∧n1 % 3=i∧b<n1 then (n1,p1) else (b,p0)):=by
     show stepC (accC d i) i (rcO d i)=_
     rw [hI.out,hrc.out]
     have h1:=hok1.out
     have h2:=hn1.out
     have h3:=hp1.out
     cases hr:rsO D with
     |none=>rw [hr] at h1;subst h1;simp [stepC]
     |some q=>
      obtain ⟨qn,qp⟩:=q
      rw [hr] at h1 h2 h3
      subst h1
      obtain rfl:qn=n1:=h2
      obtain rfl:qp=p1:=h3
      simp [stepC]
    clear hrc hn1 hok1 hp1
    by_cases hup:ok1=true∧n1 % 3=i∧b<n1
    ·obtain ⟨rfl,hm,hgt⟩:=hup
     have hn0:=hnn rfl
     rw [if_pos ⟨rfl,hm,hgt⟩] at hstep
     have hmb:(n1 % 3==(i:Int))=true:=by rw [beq_iff_eq];exact hm
     obtain ⟨r0,r1,r2,r3,r4,r5⟩:=PB.sixM
     obtain ⟨f0,f1,f2,f3,f4,f5⟩:=fz6 PB
     obtain ⟨t0,t1,t2,t3,t4,t5⟩:=P3.sixM
     go_wp2
     obtain ⟨P8,hg8⟩:=put6F PB (.int .i64 p1.size) (.int .i64 p1.next) (.slice ea1 en1 ec1) (.slice va1 vn1 vc1) (.slice ra1 rn1 rc1) (.slice la1 ln1 lc1)
     have M8:=M1.box hg8 PB
     replace DB:=DB.grown hg8 (by simp;omega)
     replace QB:=QB.grown hg8 (by simp)
     replace hB:=hB.grown hg8 (by have:=PB.lt;omega) (fun k e=>by cases e;omega)
     go_roundw
     case rel=>exact ⟨i+1,n1,p1,ea1,en1,ec1,va1,vn1,vc1,ra1,rn1,rc1,la1,ln1,lc1,by go_num,rfl,by omega,hstep.out,DB,QB,P8,M8,hB⟩
     case measure=>simp [intOf];omega
    ·rw [if_neg hup] at hstep
     cases ok1 with
     |false=>
      go_wp2
      go_roundw
      case rel=>exact ⟨i+1,b,p0,ea0,en0,ec0,va0,vn0,vc0,ra0,rn0,rc0,la0,ln0,lc0,by go_num,rfl,by omega,hstep.out,DB,QB,PB,M0,hB⟩
      case measure=>simp [intOf];omega
     |true=>
      have hn0:=hnn rfl
      by_cases hm:n1 % 3=i
      ·have hmb:(n1 % 3==(i:Int))=true:=by rw [beq_iff_eq];exact hm
       have hgt:¬ b<n1:=fun h=>hup ⟨rfl,hm,h⟩
       go_wp2
       go_roundw
       case rel=>exact ⟨i+1,b,p0,ea0,en0,ec0,va0,vn0,vc0,ra0,rn0,rc0,la0,ln0,lc0,by go_num,rfl,by omega,hstep.out,DB,QB,PB,M0,hB⟩
       case measure=>simp [intOf];omega
      ·have hmb:(n1 % 3==(i:Int))=false:=by rw [beq_eq_false_iff_ne];exact hm
       go_wp2
       go_roundw
       case rel=>exact ⟨i+1,b,p0,ea0,en0,ec0,va0,vn0,vc0,ra0,rn0,rc0,la0,ln0,lc0,by go_num,rfl,by omega,hstep.out,DB,QB,PB,M0,hB⟩
       case measure=>simp [intOf];omega
  ·obtain rfl:i=3:=by omega
   have hAe:A=(b,p0):=by rw [<-hA.out,hI.out]
   subst hAe
   go_upto_region 12 with fail
   have hWd:Below wr.heap.size wr wr.drew:=(Below.refl _ _).drew
   replace QB:=QB.below hWd
   replace PB:=PB.below hWd
   replace M0:=M0.below hWd
   replace hB:=chain hB hWd
   have hS0:(fun u=>u.cell? ⟨w.heap.size+1+1,0,none⟩=some (.int .i64 p0.size)∧u.cell? ⟨w.heap.size+1+1,1,none⟩=some (.int .i64 p0.next)∧u.cell? ⟨w.heap.size+1+1,2,none⟩=some (.slice ea0 en0 ec0)∧u.cell? ⟨w.heap.size+1+1,3,none⟩=some (.slice va0 vn0 vc0)∧u.cell? ⟨w.heap.size+1+1,4,none⟩=some (.slice ra0 rn0 rc0)∧u.cell? ⟨w.heap.size+1+1,5,none⟩=some (.slice la0 ln0 lc0)) wr.drew:=PB.sixM
   refine ad_ (S:=(fun u=>u.cell? ⟨w.heap.size+1+1,0,none⟩=some (.int .i64 p0.size)∧u.cell? ⟨w.heap.size+1+1,1,none⟩=some (.int .i64 p0.next)∧u.cell? ⟨w.heap.size+1+1,2,none⟩=some (.slice ea0 en0 ec0)∧u.cell? ⟨w.heap.size+1+1,3,none⟩=some (.slice va0 vn0 vc0)∧u.cell? ⟨w.heap.size+1+1,4,none⟩=some (.slice ra0 rn0 rc0)∧u.cell? ⟨w.heap.size+1+1,5,none⟩=some (.slice la0 ln0 lc0))) 4 (by kernel_rfl) rfl ?_
   generalize wr.drew=y0 at *
   clear hWd
   refine tk 0 ?_
   refine tk 1 ?_
   refine tk 2 ?_
   obtain ⟨r0,r1,r2,r3,r4,r5⟩:=QB.sixM
   obtain ⟨f0,f1,f2,f3,f4,f5⟩:=fz6 QB
   refine oneL (i:=3) (by kernel_rfl) rfl (fun K hK=>?_)
   go_simp
   obtain ⟨E8,hg8⟩:=put6F QB (.int .i64 p0.size) (.int .i64 p0.next) (.slice ea0 en0 ec0) (.slice va0 vn0 vc0) (.slice ra0 rn0 rc0) (.slice la0 ln0 lc0)
   have P8:=PB.grown hg8 (by simp)
   have M8:=(M0.box hg8 QB).mono (show w.heap.size<=w.heap.size+3 by omega)
   have hB8:=hB.grown hg8 (by have:=QB.lt;omega) (fun k e=>by cases e;omega)
   refine hK.out _ _ P8.sixM (fun hHeld=>?_)
   clear hK K
   try simp only [Act.put,lsA,lsB,lsC]
   generalize ((((((y0).setCell ⟨w.heap.size+1,0,none⟩ (.int .i64 p0.size)).setCell ⟨w.heap.size+1,1,none⟩ (.int .i64 p0.next)).setCell ⟨w.heap.size+1,2,none⟩ (.slice ea0 en0 ec0)).setCell ⟨w.heap.size+1,3,none⟩ (.slice va0 vn0 vc0)).setCell ⟨w.heap.size+1,4,none⟩ (.slice ra0 rn0 rc0)).setCell ⟨w.heap.size+1,5,none⟩ (.slice la0 ln0 lc0)=W8 at *
   refine wpAnyH_done (by kernel_rfl) ?_ _
   go_wp2
   refine bodyPost_ret (k1_ rfl _ W8 (w.heap.size+1) _ _ _ _ _ rfl rfl E8 Tryz.underlying26 rfl (by kernel_rfl)) rfl ?_
   exact ⟨⟨_,rfl,M8⟩,hB8⟩
theorem FrD.trans {B T:Nat} {w w1 w2:World} (h:FrD B T w w1) (g:FrD B T w1 w2):FrD B T w w2:=
 ⟨g.os.trans h.os,g.tape.trans h.tape,g.output.trans h.output,Nat.le_trans h.size g.size,fun k hk hkk=>by rw [g.block k (Nat.lt_of_lt_of_le hk h.size) hkk,h.block k hk hkk]⟩
/-- A world up to its n-th block. -/
def cutW (n:Nat) (w:World):World:={w with heap:=w.heap.extract 0 n}
theorem dx_ {n:Nat} {w:World} (h:n<=w.heap.size):(cutW n w).heap.size=n:=by simp [cutW];omega
theorem lX_ {n:Nat} {w:World} {k:Nat} (hk:k<n) (h:n<=w.heap.size):(cutW n w).heap[k]?=w.heap[k]?:=by
 simp only [cutW]
 rw [Array.getElem?_extract]
 simp
 omega
theorem FrD.cut {B T:Nat} {w w':World} (h:FrD B T w w'):FrD B T w (cutW w.heap.size w'):=
 ⟨h.os,h.tape,h.output,by rw [dx_ h.size];exact Nat.le_refl _,fun k hk hkk=>by rw [lX_ hk h.size];exact h.block k hk hkk⟩
theorem SmallDk.rd {d:Dk} (h:SmallDk d) (nm:ByteArray):(rdD d nm).1.size<=2000000:=by
 unfold rdD
 split
 ·unfold rdL
  split
  ·decide
  ·split
   ·next f hf=>
    have:=h.1.2 f (List.mem_of_getElem? hf)
    unfold bytesF at this
    simp only
    omega
   ·decide
 ·decide
theorem Blk.lo {B k:Nat} {w w':World} {c:Array Value} {t:TypeId} (h:Blk w k c t) (hb:Below B w w') (hk:k<B):Blk w' k c t:=by
 unfold Blk;rw [hb.block _ hk];exact h
end Go.Proofs.YtigldeccfpkdmaaGreatDoor
namespace Go.Proofs.YtigldeccfpkdmaaGreatDoor
open Go.ChangeShapes Go.WideShapes Go.ChangeAt Go.RowKit Go.Deep Go.Joins
open Go.ChangeMaps (open_string shut_string)
set_option maxHeartbeats 20000000
set_option maxRecDepth 100000
/-- As the library's own, with the world's shape handed on. -/
theorem bN_ {H:Type} {enc:TypeId×Value->H} {a:Assume} {C:Checked} {os:Os} {f:FuncId} {fn:Func} {s:ChangeSpec} {conds:List PathCond} {apart fresh handsOn again:Bool} {X:World->Array Value->Prop}
  (hX:∀ (w w':World) (args:Array Value),w.heap=w'.heap->X w args->X w' args)
  (own:ownKnob C.prog.godebug=none) (started:os.Started) (noInit:C.prog.inits.idxOf? f=none) (hfn:C.prog.funcs[f]?=some fn)
  (witness:∃ (w:World) (tape:Tape) (i:Input),w.os=os∧(w.forCall tape i).Shaped C.prog∧i.vars=[]∧Input.okWide C.prog (w.forCall tape i) .any w.heap.size f i∧
   ((s.pre enc C.prog fn conds apart (w.forCall tape i).memory i.args∧X (w.forCall tape i).memory i.args)∧sizedMet enc C.prog fn (OpenSpec.ofChange s) apart (w.forCall tape i).memory i.args)∧a.holds C.prog (lone (Frame.enter C.prog f i.args .normal) [] (w.forCall tape i)))
  (contract:∀ (W:World) (base:Nat) (args:Array Value) (ds gs:List (DataW H)) (before:List MemPlace),
   (∀ (j:Nat) t v,fn.params[j]?=some t->args[j]?=some v->Value.okWide C.prog W .any base t v)->
   DataW.Whole enc C.prog fn.params.toList s.vars apart W args.toList ds gs before->X W args->W.ShapedOpen C.prog->
   Calls C.prog f args W fun e W'=>∃ v,e=.returned v∧s.post enc C.prog fn apart fresh handsOn again W args v W') :
  ReturnsInHanded a C os f .any (fun w args=>(s.pre enc C.prog fn conds apart w args∧X w args)∧sizedMet enc C.prog fn (OpenSpec.ofChange s) apart w args) (s.post enc C.prog fn apart fresh handsOn again):=by
 refine returnsInHanded_of_calls own started noInit witness ?_
 intro w tape i _ hsh _ hok hpre _
 obtain ⟨_,_,_,fn',hfn',_,_,_,_,hval⟩:=hok
 have e:fn'=fn:=Option.some.inj (hfn'.symm.trans hfn)
 subst e
 obtain ⟨⟨⟨ds,gs,before,hw,_⟩,hx⟩,_⟩:=hpre
 have hw':=DataW.Whole.of_heap (w':=w.forCall tape i) (by rfl) hw
 refine (contract (w.forCall tape i) w.heap.size i.args ds gs before hval hw' (hX _ _ _ (by rfl) hx) hsh).mono fun e W' ⟨v,he,hp⟩=>?_
 subst he
 exact ChangeSpec.post_blind hp
theorem cn_ {P:Program} {w:World} {g:Nat} {t:TypeId} {zero:Array Value} {k:IntKind} (h:w.ShapedOpen P) (hg:g<P.globals.size)
  (h0:((begin P (fun _ _=>0) default).world.heap[g]?).bind Obj.row?=some (zero,t)) (hz:zero.size=1)
  (hb:P.buildable t=true) (hc:P.cellTypes P.depth t=some [t]) (hu:P.underlying t=some (.int k)):∃ m,w.cell? ⟨g,0,none⟩=some (.int k m):=by
 obtain ⟨cs,hh,hs,hr⟩:=h.1 g zero t hg h0
 obtain ⟨ts,hts,_,hall⟩:=hr hb
 rw [hc] at hts
 cases hts
 have h1:0<cs.size:=by omega
 obtain ⟨u,hu',hok⟩:=hall 0 cs[0] (by simp [h1])
 have:u=t:=by simpa using hu'.symm
 subst this
 have hcell:w.cell? ⟨g,0,none⟩=some cs[0]:=by simp [World.cell?,hh,h1]
 rw [hcell]
 unfold Cell.ok at hok
 rw [hu] at hok
 cases hv:cs[0]<;>rw [hv] at hok<;>first | (simp at hok;done) | (simp at hok;obtain ⟨rfl,_⟩:=hok;exact ⟨_,rfl⟩) | (simp at hok;subst hok;exact ⟨_,rfl⟩)
theorem eN_ {W:World} {zs:List Int} {k:IntKind} {name:String} {g:Nat} (hg:Tryz.prog.globalNamed name=some g) (h:Lib.TabIs Tryz.prog W name k zs) (h0:0<zs.length):g<W.heap.size:=by
 have:=h.cell hg 0 h0
 unfold World.cell? at this
 by_cases hl:g<W.heap.size
 ·exact hl
 ·simp [Array.getElem?_eq_none (Nat.le_of_not_lt hl)] at this
def tabR:DataW Unit->List Int
 |.agg l=>l.map fun | .lit (.int _ n)=>n | _=>0
 |_=>[]
theorem starR:"*"++"errors.errorString"="*errors.errorString":=by decide
theorem rowR (u:TypeId) (h:Tryz.prog.typeName? 3 u=some "*errors.errorString"):u=323:=
 typeName_ptr_named (nm:="errors.errorString") (by rw [starR];kernel_rfl) (by kernel_rfl) (by decide) u (by rw [starR];exact h)
theorem gErrR:Tryz.prog.globalNamed "loop.example/g00336/impl.errText"=some 0:=by kernel_rfl
theorem gErrTR:(Tryz.prog.globals[0]?).map (·.type)=some 75:=by kernel_rfl
theorem gSynR:Tryz.prog.globalNamed "strconv.ErrSyntax"=some 3:=by kernel_rfl
theorem gSynTR:(Tryz.prog.globals[3]?).map (·.type)=some 75:=by kernel_rfl
theorem io_ {W:World} (h:laidMetH Tryz.prog Rows.fnExactCommittedRow.laid W) (hsh:W.ShapedOpen Tryz.prog):Glb W∧∃ a:Addr,W.var? Tryz.prog "loop.example/g00336/impl.errText"=some #[.iface 323 (.pointer (some a))]:=by
 have h1:laidMet Tryz.prog Rows.fnExactCommittedRow.laid W:=h
 have h2:laidMet Tryz.prog (("math/bits.deBruijn64tab",Lib.tabData .u8 (tabR Rows.laid_math_bits_deBruijn64tab))::("internal/strconv.uint64pow10",Lib.tabData .u64 Lib.pow10Tab)::("unicode/utf8.acceptRanges",Rows.laid_unicode_utf8_acceptRanges)::("strconv.ErrRange",Rows.laid_strconv_ErrRange)::("strconv.ErrSyntax",.iface "*errors.errorString" (.ptr (.agg [.lit (.string [105,110,118,97,108,105,100,32,115,121,110,116,97,120])])))::("loop.example/g00336/impl.errText",.iface "*errors.errorString" (.ptr (.agg [.lit (.string [116,104,101,32,116,101,120,116,32,105,115,32,110,111,110,101,32,111,102,32,97,32,114,105,103,104,116,32,112,111,111,108])])))::[("unicode/utf8.first",Rows.laid_unicode_utf8_first)]) W:=laidMet.tail h1
 have h3:=laidMet.tail h2
 have h6:=laidMet.tail (laidMet.tail (laidMet.tail h3))
 have h7:=laidMet.tail h6
 have g2:Tryz.prog.globalNamed "math/bits.deBruijn64tab"=some 8:=by kernel_rfl
 have t2:Lib.TabIs Tryz.prog W "math/bits.deBruijn64tab" .u8 (tabR Rows.laid_math_bits_deBruijn64tab):=Lib.tabIs_of_head (n:=64) (e:=5) (t:=337) (g:=8) g2 (by kernel_rfl) (by kernel_rfl) Tryz.underlying5 (by kernel_rfl) (by kernel_rfl) h2
 have hsz:=eN_ g2 t2 (by decide)
 have t3:TabP W:=Lib.tabIs_of_head (n:=20) (e:=274) (t:=301) (g:=2) (by kernel_rfl) (by kernel_rfl) (by kernel_rfl) (by kernel_rfl) (by kernel_rfl) (by kernel_rfl) h3
 obtain ⟨a1,s1,v1,_⟩:=laid_sentinel (ms:=(Tryz.prog.underlying 75).elim #[] fun | .interface ms=>ms | _=>#[]) (te:=325) (ts:=9) (f:=((Tryz.prog.underlying 325).elim #[] fun | .struct fs=>fs | _=>#[])[0]!) h6 gSynR gSynTR (by kernel_rfl) rowR (by kernel_rfl) (by kernel_rfl) (by kernel_rfl) (by kernel_rfl) Tryz.underlying9 (by kernel_rfl) (by kernel_rfl)
 obtain ⟨a2,s2,v2,_⟩:=laid_sentinel (ms:=(Tryz.prog.underlying 75).elim #[] fun | .interface ms=>ms | _=>#[]) (te:=325) (ts:=9) (f:=((Tryz.prog.underlying 325).elim #[] fun | .struct fs=>fs | _=>#[])[0]!) h7 gErrR gErrTR (by kernel_rfl) rowR (by kernel_rfl) (by kernel_rfl) (by kernel_rfl) (by kernel_rfl) Tryz.underlying9 (by kernel_rfl) (by kernel_rfl)
 obtain ⟨m,hm⟩:=cn_ (g:=1) (t:=3) (zero:=#[.int .i64 0]) (k:=.i64) hsh (by decide) (by kernel_rfl) rfl (by kernel_rfl) (by kernel_rfl) Tryz.underlying3
 exact ⟨⟨t3,⟨323,_,by simpa using World.var?_cell gSynR v1 0⟩,⟨323,_,by simpa using World.var?_cell gErrR v2 0⟩,⟨m,hm⟩,hsz⟩,a2,v2⟩
theorem iface75R:Tryz.prog.underlying 75=some (.interface ((Tryz.prog.underlying 75).elim #[] fun | .interface ms=>ms | _=>#[])):=by kernel_rfl
theorem gk_ {w w':World} {cs:Array Value} (h:w.var? Tryz.prog "loop.example/g00336/impl.errText"=some cs) (hb:Below w.heap.size w w') (hg:9<=w.heap.size):w'.var? Tryz.prog "loop.example/g00336/impl.errText"=some cs:=by
 unfold World.var? at h ⊢
 rw [gErrR] at h ⊢
 simp only [Option.bind_some] at h ⊢
 rw [hb.block _ (by omega)]
 exact h
end Go.Proofs.YtigldeccfpkdmaaGreatDoor
namespace Go.Proofs.YtigldeccfpkdmaaGreatDoor
open Go Go.RowKit Go.BigFrame
set_option maxHeartbeats 20000000
set_option maxRecDepth 100000
structure Sr where
 d:Dk
 p:Po
 m:Int
theorem PoolAt.off {B b:Nat} {w w':World} {v:Value} {p:Po} (h:PoolAt B w v p) (hg:w.grownBy w' (some b)) (hb:b<B):PoolAt B w' v p:=by
 obtain ⟨ea,en,ec,va,vn,vc,ra,rn,rc,la,ln,lc,hv,⟨h1,k1,s1⟩,⟨h2,k2⟩,⟨h3,k3,s3⟩,h4,k4,s4⟩:=h
 have q:∀ {a:Option Addr},Sf B w a->∀ ad,a=some ad->ad.block≠b:=fun s ad e=>by have:=(s (by omega) ad e).1;omega
 exact ⟨ea,en,ec,va,vn,vc,ra,rn,rc,la,ln,lc,hv,⟨h1.grown hg (q s1),k1,s1.grown hg hb⟩,⟨h2.grown hg hb,k2⟩,⟨h3.grown hg (q s3),k3,s3.grown hg hb⟩,h4.grown hg (q s4),k4,s4.grown hg hb⟩
theorem WrAt.offB {α:Type} {cs:α->List Value} {sz:Nat} {t:TypeId} {w w':World} {B n cap b:Nat} {a:Option Addr} {l:List α} (h:WrAt cs sz t w B a n cap l) (hg:w.grownBy w' (some b)) (hb:b<B):WrAt cs sz t w' B a n cap l:=h.off hg (fun ad e=>by
 rcases h.own with ⟨h0,_⟩ | ⟨k,c,ha,hB,_⟩
 ·rw [h0] at e;cases e
 ·rw [ha] at e;cases e;simp;omega)
theorem DiskW.off {B b:Nat} {w w':World} {v:Value} {d:Dk} (h:DiskW B w v d) (hg:w.grownBy w' (some b)) (hb:b<B):DiskW B w' v d:=by
 obtain ⟨la,ln,lc,sa,sn,sc,oa,on,oc,hv,h1,h2,h3,h4⟩:=h
 exact ⟨la,ln,lc,sa,sn,sc,oa,on,oc,hv,h1.offB hg hb,h2.offB hg hb,h3.offB hg hb,h4⟩
theorem DiskW.mono {B B':Nat} {w:World} {v:Value} {d:Dk} (h:DiskW B w v d) (hb:B'<=B):DiskW B' w v d:=by
 obtain ⟨la,ln,lc,sa,sn,sc,oa,on,oc,hv,h1,h2,h3,h4⟩:=h
 exact ⟨la,ln,lc,sa,sn,sc,oa,on,oc,hv,h1.mono hb,h2.mono hb,h3.mono hb,h4⟩
/-- A store as an argument holds it; a store in blocks of its own. -/
def StL (w:World) (v:Value) (s:Sr):Prop:=∃ la ln lc sa sn sc oa on oc ea en ec va vn vc ra rn rc ta tn tc,v=.agg #[.slice la ln lc,.slice sa sn sc,.slice oa on oc,.int .i64 s.p.size,.int .i64 s.p.next,.slice ea en ec,.slice va vn vc,.slice ra rn rc,.slice ta tn tc,.int .i64 s.m]∧DiskL w (.agg #[.slice la ln lc,.slice sa sn sc,.slice oa on oc]) s.d∧PoolAt 0 w (.agg #[.int .i64 s.p.size,.int .i64 s.p.next,.slice ea en ec,.slice va vn vc,.slice ra rn rc,.slice ta tn tc]) s.p
def StW (B:Nat) (w:World) (v:Value) (s:Sr):Prop:=∃ la ln lc sa sn sc oa on oc ea en ec va vn vc ra rn rc ta tn tc,v=.agg #[.slice la ln lc,.slice sa sn sc,.slice oa on oc,.int .i64 s.p.size,.int .i64 s.p.next,.slice ea en ec,.slice va vn vc,.slice ra rn rc,.slice ta tn tc,.int .i64 s.m]∧DiskW B w (.agg #[.slice la ln lc,.slice sa sn sc,.slice oa on oc]) s.d∧PoolAt B w (.agg #[.int .i64 s.p.size,.int .i64 s.p.next,.slice ea en ec,.slice va vn vc,.slice ra rn rc,.slice ta tn tc]) s.p
theorem StL.below {w w':World} {v:Value} {s:Sr} (h:StL w v s) (hb:Below w.heap.size w w'):StL w' v s:=by
 obtain ⟨la,ln,lc,sa,sn,sc,oa,on,oc,ea,en,ec,va,vn,vc,ra,rn,rc,ta,tn,tc,hv,h1,h2⟩:=h
 exact ⟨la,ln,lc,sa,sn,sc,oa,on,oc,ea,en,ec,va,vn,vc,ra,rn,rc,ta,tn,tc,hv,h1.below hb,h2.below hb⟩
theorem StW.below {B:Nat} {w w':World} {v:Value} {s:Sr} (h:StW B w v s) (hb:Below w.heap.size w w'):StW B w' v s:=by
 obtain ⟨la,ln,lc,sa,sn,sc,oa,on,oc,ea,en,ec,va,vn,vc,ra,rn,rc,ta,tn,tc,hv,h1,h2⟩:=h
 exact ⟨la,ln,lc,sa,sn,sc,oa,on,oc,ea,en,ec,va,vn,vc,ra,rn,rc,ta,tn,tc,hv,h1.below hb,h2.below hb⟩
theorem StW.l {B:Nat} {w:World} {v:Value} {s:Sr} (h:StW B w v s):StL w v s:=by
 obtain ⟨la,ln,lc,sa,sn,sc,oa,on,oc,ea,en,ec,va,vn,vc,ra,rn,rc,ta,tn,tc,hv,h1,h2⟩:=h
 exact ⟨la,ln,lc,sa,sn,sc,oa,on,oc,ea,en,ec,va,vn,vc,ra,rn,rc,ta,tn,tc,hv,h1.at.l,h2.mono (Nat.zero_le _)⟩
theorem StL.cells {w:World} {v:Value} {s:Sr} (h:StL w v s):∃ la ln lc sa sn sc oa on oc ea en ec va vn vc ra rn rc ta tn tc,v=.agg #[.slice la ln lc,.slice sa sn sc,.slice oa on oc,.int .i64 s.p.size,.int .i64 s.p.next,.slice ea en ec,.slice va vn vc,.slice ra rn rc,.slice ta tn tc,.int .i64 s.m]:=by
 obtain ⟨la,ln,lc,sa,sn,sc,oa,on,oc,ea,en,ec,va,vn,vc,ra,rn,rc,ta,tn,tc,hv,_⟩:=h
 exact ⟨la,ln,lc,sa,sn,sc,oa,on,oc,ea,en,ec,va,vn,vc,ra,rn,rc,ta,tn,tc,hv⟩
end Go.Proofs.YtigldeccfpkdmaaGreatDoor
