/- What is found by going through all volumes, by the model. Content of the program. Content of the model. -/
import Derived.Test.YtigldeccfpkdmaaGreatDoorProg
import Derived.StillTailTactics
import Derived.Test.YtigldeccfpkdmaaGreatDoorK06
import Derived.Test.YtigldeccfpkdmaaGreatDoorK08
import Derived.Laws.Strings2
import Derived.Test.YtigldeccfpkdmaaGreatDoorK04
import Derived.Test.YtigldeccfpkdmaaGreatDoorK00
import Derived.Test.YtigldeccfpkdmaaGreatDoorK05
namespace Go.Proofs.YtigldeccfpkdmaaGreatDoor
open Go.RowKit Go.BigFrame
set_option maxHeartbeats 20000000
set_option maxRecDepth 100000
/-- Volumes as small as right ones are. -/
def TinyV (l:List Vo):Prop:=l.length<=6∧∀ v∈l,v.its.length<=5∧∀ x∈v.its,x.ps.length<=16∧∀ p∈x.ps,0<=p.a
/-- Volumes as small as they are when an op has been tried. -/
def WideV (l:List Vo):Prop:=l.length<=7∧∀ v∈l,v.its.length<=6∧∀ x∈v.its,x.ps.length<=1000∧∀ p∈x.ps,0<=p.a
theorem TinyV.wide {l:List Vo} (h:TinyV l):WideV l:=⟨by have:=h.1;omega,fun v hv=>⟨by have:=(h.2 v hv).1;omega,fun x hx=>⟨by have:=((h.2 v hv).2 x hx).1;omega,((h.2 v hv).2 x hx).2⟩⟩⟩
theorem jg_ (l a b:List Ct):sumC l (a++b)=sumC (sumC l a) b:=by simp [sumC]
theorem eX_ {id:Int} {nm:ByteArray} {ps:List Pt} {j:Nat} {p:Pt} (h:ps[j]?=some p):partCs id nm (ps.take (j+1))=partCs id nm (ps.take j)++(if p.a==0 then [] else [⟨⟨p.a,id,nm⟩,1⟩]):=by
 unfold partCs
 rw [aO_ h,List.filter_append,List.map_append]
 cases hp:(p.a==0)<;>simp [hp]
def itsCs (v:Vo) (l:List It):List Ct:=l.flatMap (fun x=>partCs v.id x.nm x.ps)
theorem fN_ {v:Vo} {l:List It} {k:Nat} {x:It} (h:l[k]?=some x):itsCs v (l.take (k+1))=itsCs v (l.take k)++partCs v.id x.nm x.ps:=by
 unfold itsCs
 rw [aO_ h,List.flatMap_append];simp
theorem kx_ {l:List Vo} {i:Nat} {v:Vo} (h:l[i]?=some v):allCs (l.take (i+1))=allCs (l.take i)++itsCs v v.its:=by
 unfold allCs
 rw [aO_ h,List.flatMap_append];simp [volCs,itsCs]
/-- What is found so far: the list, how many at most. -/
structure Fnd (w:World) (B:Nat) (out:Value) (L:List Ct) (M:Nat):Prop where
 at':∃ a n cap,out=.slice a n cap∧n<=M∧ResAt Ct.cs 4 134 w B a n cap L
 bd:∀ x∈L,-(1000*(M:Int))<=x.n∧x.n<=1000*(M:Int)
theorem Fnd.below {w w':World} {B:Nat} {out:Value} {L:List Ct} {M:Nat} (h:Fnd w B out L M) (hb:Below w.heap.size w w'):Fnd w' B out L M:=by
 obtain ⟨⟨a,n,cap,e,hn,R⟩,hbd⟩:=h
 exact ⟨⟨a,n,cap,e,hn,R.below hb⟩,hbd⟩
theorem Fnd.mono {w:World} {B:Nat} {out:Value} {L:List Ct} {M M':Nat} (h:Fnd w B out L M) (hM:M<=M'):Fnd w B out L M':=by
 obtain ⟨⟨a,n,cap,e,hn,R⟩,hbd⟩:=h
 exact ⟨⟨a,n,cap,e,by omega,R⟩,fun x hx=>by have:=hbd x hx;omega⟩
theorem fO_ (B:Nat) (a:Option Addr) (n cap:Nat) (vs:List Vo) (w:World) (h:VsAt B w a n vs) (ht:WideV vs) :
  Calls Tryz.prog 119 #[.slice a n cap] w fun e w'=>(∃ a' n' cap',e=.returned (.slice a' n' cap')∧n'<=42000∧(∀ x∈walkL vs,-42000000<=x.n∧x.n<=42000000)∧ResAt Ct.cs 4 134 w' w.heap.size a' n' cap' (walkL vs))∧Below w.heap.size w w':=by
 have hlen:Hid (vs.length=n):=h.len
 have hn6:n<=7:=by rw [<-hlen.out];exact ht.1
 go_enter Tryz.func119,Tryz.ntmps119
 go_wp2_with fail
 go_loopw [3,4] (fun out ix wr=>∃ (i:Nat),i<=n∧ix=.int .i64 i∧Fnd wr w.heap.size out (sumC [] (allCs (vs.take i))) (6000*i)∧Below w.heap.size w wr) (fun _ ix _=>n-(intOf ix).toNat)
 case atStart=>exact ⟨0,Nat.zero_le _,rfl,⟨⟨_,0,0,rfl,Nat.zero_le _,a1_ (Blk.new' _ _ _ _ rfl) (Nat.le_refl _)⟩,fun x hx=>by cases hx⟩,(Below.refl _ _).alloc (Nat.le_refl _) _⟩
 case round=>
  obtain ⟨i,hi,rfl,hF,hB⟩:=hrel
  obtain ⟨wi,hwi⟩:∃ x,x=wr:=⟨_,rfl⟩
  subst hwi
  by_cases hlt:i<n
  ·obtain ⟨b,o,v,ia,inn,icp,rfl,hv,c0,c1,c2,c3,hI,_,_⟩:=cg_ (h.below hB) hlt
   obtain ⟨t1,t2⟩:=ht.2 v (List.mem_of_getElem? hv)
   have hil:Hid (v.its.length=inn):=hI.len
   rw [hil.out] at t1
   have hi1:(i:Int)<n:=by omega
   have hi2:(0:Int)<=i:=by omega
   have hall:Hid (allCs (vs.take (i+1))=allCs (vs.take i)++itsCs v v.its):=kx_ hv
   clear hv
   generalize allCs (vs.take i)=PA at *
   go_wp2_with fail
   go_loopw [3,5] (fun out ix wk=>∃ (k:Nat),k<=inn∧ix=.int .i64 k∧Fnd wk w.heap.size out (sumC [] (PA++itsCs v (v.its.take k))) (6000*i+1000*k)∧Below wi.heap.size wi wk) (fun _ ix _=>inn-(intOf ix).toNat)
   case atStart=>exact ⟨0,Nat.zero_le _,rfl,by simpa [itsCs] using hF,Below.refl _ _⟩
   case round=>
    clear hF
    obtain ⟨k,hk,rfl,hF,hBk⟩:=hrel
    obtain ⟨wk,hwk⟩:∃ x,x=wr:=⟨_,rfl⟩
    subst hwk
    have e0:=bcell hBk c0
    have e3:=bcell hBk c3
    by_cases hlk:k<inn
    ·obtain ⟨b',o',x,pa,pn,pc,rfl,hx,d0,d1,hP,_,_,_⟩:=bt_ (hI.below hBk) hlk
     obtain ⟨u1,u2⟩:=t2 x (List.mem_of_getElem? hx)
     have hpl:Hid (x.ps.length=pn):=hP.len
     rw [hpl.out] at u1
     have hk1:(k:Int)<inn:=by omega
     have hk2:(0:Int)<=k:=by omega
     have hits:Hid (itsCs v (v.its.take (k+1))=itsCs v (v.its.take k)++partCs v.id x.nm x.ps):=fN_ hx
     clear hx
     generalize itsCs v (v.its.take k)=PI at *
     go_wp2_with fail
     have hW0:Below wk.heap.size wk (wk.alloc (.cells #[.string x.nm,.slice pa pn pc] 139)):=by go_grown
     have X0:(wk.alloc (.cells #[.string x.nm,.slice pa pn pc] 139)).cell? ⟨wk.heap.size,0,none⟩=some (.string x.nm):=(Blk.new wk #[.string x.nm,.slice pa pn pc] 139).cell 0
     have X1:(wk.alloc (.cells #[.string x.nm,.slice pa pn pc] 139)).cell? ⟨wk.heap.size,1,none⟩=some (.slice pa pn pc):=(Blk.new wk #[.string x.nm,.slice pa pn pc] 139).cell 1
     have E0:=bcell hW0 e0
     have hP0:=hP.below hW0
     have hF0:=hF.below hW0
     generalize wk.alloc (.cells #[.string x.nm,.slice pa pn pc] 139)=W0 at *
     go_loopw [3,7] (fun out ix wj=>∃ (j:Nat),j<=pn∧ix=.int .i64 j∧Fnd wj w.heap.size out (sumC [] (PA++PI++partCs v.id x.nm (x.ps.take j))) (6000*i+1000*k+j)∧Below W0.heap.size W0 wj) (fun _ ix _=>pn-(intOf ix).toNat)
     case atStart=>exact ⟨0,Nat.zero_le _,rfl,by simpa [partCs] using hF0,Below.refl _ _⟩
     case round=>
      clear hF hF0
      obtain ⟨j,hj,rfl,hF,hBj⟩:=hrel
      have x0:=bcell hBj X0
      have x1:=bcell hBj X1
      have y0:=bcell hBj E0
      by_cases hlj:j<pn
      ·obtain ⟨b2,o2,p,rfl,hp,f0,f1,f2⟩:=bc_ (hP0.below hBj) hlj
       have hpa:=u2 p (List.mem_of_getElem? hp)
       have hpt:Hid (partCs v.id x.nm (x.ps.take (j+1))=partCs v.id x.nm (x.ps.take j)++(if p.a==0 then [] else [⟨⟨p.a,v.id,x.nm⟩,1⟩])):=eX_ hp
       clear hp
       generalize partCs v.id x.nm (x.ps.take j)=PP at *
       have hj1:(j:Int)<pn:=by omega
       have hj2:(0:Int)<=j:=by omega
       by_cases hz:0<p.a
       ·have hne:(p.a==0)=false:=beq_eq_false_iff_ne.2 (by omega)
        rw [hne] at hpt
        simp only [Bool.false_eq_true,if_false] at hpt
        obtain ⟨⟨a2,n2,cap2,rfl,hn2,R⟩,hbd⟩:=hF
        go_wp2_with fail
        refine b3_ 16 (by kernel_rfl) (by kernel_rfl) ?_
        simp only [List.take_succ_cons,List.take_zero,List.drop_succ_cons,List.drop_zero]
        repeat still_step
        refine wpStill_nil ?_
        go_wp2_with fail
        have hBd:=(Below.refl wr.heap.size wr).drew
        refine (fG_ a2 n2 cap2 _ ⟨⟨p.a,v.id,x.nm⟩,1⟩ _ (R.sl.below hBd) (by omega) (fun z hz'=>by have:=hbd z hz';omega) (by simp)).mono ?_
        rintro e w3 ⟨⟨a3,n3,cap3,rfl,hn3,R3⟩,hB3⟩
        have hB4:Below wr.heap.size wr w3:=chain hBd hB3
        have hz0:=hB.size
        have hz1:=hBk.size
        have hz2:=hW0.size
        have hz3:=hBj.size
        have hz4:=hBd.size
        go_wp2
        go_roundw
        case rel=>
         refine ⟨j+1,by omega,by go_num,⟨⟨a3,n3,cap3,rfl,by omega,?_⟩,?_⟩,chain hBj hB4⟩
         ·rw [hpt.out,<-List.append_assoc,jg_]
          exact R3.mono (by omega)
         ·rw [hpt.out,<-List.append_assoc,jg_]
          intro z hz'
          have:=kq_ (B:=1000*((6000*i+1000*k+j:Nat):Int)) (by omega) (c:=⟨⟨p.a,v.id,x.nm⟩,1⟩) (by simp) (by simp) hbd z hz'
          omega
        case measure=>simp [intOf];omega
       ·have hne:(p.a==0)=true:=by simp;omega
        rw [hne] at hpt
        simp only [if_true,List.append_nil] at hpt
        go_wp2
        go_roundw
        case rel=>exact ⟨j+1,by omega,by go_num,by rw [hpt.out];exact hF.mono (by omega),hBj⟩
        case measure=>simp [intOf];omega
      ·obtain rfl:j=pn:=by omega
       go_wp2
       go_roundw
       case rel=>
        refine ⟨k+1,by omega,by go_num,?_,chain hBk (chain hW0 hBj)⟩
        rw [hits.out,<-List.append_assoc]
        rw [List.take_of_length_le (Nat.le_of_eq hpl.out)] at hF
        exact hF.mono (by omega)
       case measure=>simp [intOf];omega
    ·obtain rfl:k=inn:=by omega
     go_wp2
     go_roundw
     case rel=>
      refine ⟨i+1,by omega,by go_num,?_,chain hB hBk⟩
      rw [hall.out,<-List.take_of_length_le (l:=v.its) (Nat.le_of_eq hil.out)]
      exact hF.mono (by omega)
     case measure=>simp [intOf];omega
  ·obtain rfl:i=n:=by omega
   obtain ⟨⟨a2,n2,cap2,rfl,hn2,R⟩,hbd⟩:=hF
   go_wp2
   go_returns
   rw [List.take_of_length_le (Nat.le_of_eq hlen.out)] at R hbd
   exact ⟨⟨a2,n2,cap2,rfl,by omega,(fun x hx=>by have:=hbd x hx;omega),R⟩,hB⟩
theorem gy_ (B:Nat) (a:Option Addr) (n cap:Nat) (vs:List Vo) (w:World) (h:VsAt B w a n vs) (ht:TinyV vs) :
  Calls Tryz.prog 119 #[.slice a n cap] w fun e w'=>(∃ a' n' cap',e=.returned (.slice a' n' cap')∧n'<=42000∧ResAt Ct.cs 4 134 w' w.heap.size a' n' cap' (walkL vs))∧Below w.heap.size w w':=by
 refine (fO_ B a n cap vs w h ht.wide).mono ?_
 rintro e w' ⟨⟨a',n',cap',he,hn,_,R⟩,hB⟩
 exact ⟨⟨a',n',cap',he,hn,R⟩,hB⟩
end Go.Proofs.YtigldeccfpkdmaaGreatDoor
namespace Go.Proofs.YtigldeccfpkdmaaGreatDoor
open Go.RowKit Go.BigFrame Go.Lib
set_option maxHeartbeats 20000000
set_option maxRecDepth 100000
def RetStr (e:Ending):Option ByteArray->Prop
 |none=>e=.returned (.tuple #[.string ⟨#[]⟩,.bool false])
 |some s=>e=.returned (.tuple #[.string s,.bool true])
theorem cV_ (x y:ByteArray):strCells x++strCells y=strCells (x++y):=by
 simp [strCells]
theorem info5:(Tryz.prog.info? 5).map (fun i=>(i.zero,i.size,i.bytes))=some (some (.int .u8 0),1,1):=by kernel_rfl
theorem hf_ {w:World} {B e n:Nat} {v:Value} {xs:List Value} (h:w.ownsRow B e 1 v n xs):∀ k,v.ownBlock=some k->B<=k:=by
 rcases h.2 with ⟨rfl,_⟩ | ⟨g,cap,cur,rfl,hB,_⟩
 ·intro k hk;cases hk
 ·intro k hk;simp [Value.ownBlock] at hk;omega
theorem hg_ {w w':World} {B e n:Nat} {v:Value} {xs:List Value} (h:w.ownsRow B e 1 v n xs) (hb:Below w.heap.size w w'):w'.ownsRow B e 1 v n xs:=by
 refine ⟨h.1,?_⟩
 rcases h.2 with h0 | ⟨g,cap,cur,h1,h2,h3,h4⟩
 ·exact .inl h0
 ·exact .inr ⟨g,cap,cur,h1,h2,by rw [hb.block g (Array.getElem?_eq_some_iff.1 h3).1];exact h3,h4⟩
theorem hh_ {w:World} {B e n:Nat} {v:Value} {xs:List Value} (h:w.ownsRow B e 1 v n xs):∃ a cap,v=.slice a n cap:=by
 rcases h.2 with ⟨rfl,rfl⟩ | ⟨g,cap,cur,rfl,_⟩
 ·exact ⟨none,0,rfl⟩
 ·exact ⟨_,_,rfl⟩
theorem d5_ (a:Option Addr) (n cap:Nat) (l:List Pt) (a':Option Addr) (n' cap':Nat) (e:List Ex) (w:World) (h:PtsAt w a n l) (h':ExsAt w a' n' e) (hstr:Strs e) (hn:n<=4194304) (hn':n'<=4194304) :
  Calls Tryz.prog 203 #[.slice a n cap,.slice a' n' cap'] w fun x w'=>RetStr x (contentO l e)∧Below w.heap.size w w':=by
 have hlen:Hid (l.length=n):=h.len
 cases hok:partsOkB l
 ·have hf:contentO l e=none:=by simp [contentO,hok]
  rw [hf]
  go_enter Tryz.func203,Tryz.ntmps203
  go_wp2_with fail
  refine (cF_ a n cap l _ h hn).mono ?_
  rintro x w1 ⟨rfl,hB1⟩
  rw [hok]
  go_wp2
  go_returns
  exact ⟨rfl,hB1⟩
 ·cases hok':spaceOkB 400 e
  ·have hf:contentO l e=none:=by simp [contentO,hok']
   rw [hf]
   go_enter Tryz.func203,Tryz.ntmps203
   go_wp2_with fail
   refine (cF_ a n cap l _ h hn).mono ?_
   rintro x w1 ⟨rfl,hB1⟩
   rw [hok]
   go_wp2_with fail
   refine (bP_ 400 a' n' cap' e _ (h'.below hB1) hstr hn').mono ?_
   rintro x w2 ⟨rfl,hB2⟩
   rw [hok']
   have hB3:=chain hB1 hB2
   go_wp2
   go_returns
   exact ⟨rfl,hB3⟩
  ·have hf:Hid (contentO l e=cgo e ⟨#[]⟩ (l.drop 0)):=by show _=_;simp [contentO,hok,hok']
   obtain ⟨hl16,hall⟩:=eo_ hok
   have hn16:n<=16:=by rw [<-hlen.out];exact hl16
   obtain ⟨i0,hi,hz0,hz1,hz2⟩:=info_parts info5
   generalize contentO l e=R at *
   go_enter Tryz.func203,Tryz.ntmps203
   go_wp2_with fail
   refine (cF_ a n cap l _ h hn).mono ?_
   rintro x w1 ⟨rfl,hB1⟩
   rw [hok]
   go_wp2_with fail
   refine (bP_ 400 a' n' cap' e _ (h'.below hB1) hstr hn').mono ?_
   rintro x w2 ⟨rfl,hB2⟩
   rw [hok']
   replace hB2:=chain hB1 hB2
   go_wp2_with fail
   go_loopw [6,20] (fun out ix wr=>∃ (k m:Nat) (s:ByteArray) (a2:Option Addr) (cap2:Nat),k<=n∧ix=.int .i64 k∧m<=100*k∧out=.slice a2 m cap2∧wr.ownsRow w.heap.size 5 1 (.slice a2 m cap2) m (strCells s)∧Hid (R=cgo e s (l.drop k))∧Below w.heap.size w wr) (fun _ ix _=>n-(RowKit.intOf ix).toNat)
   case atStart=>exact ⟨0,0,⟨#[]⟩,none,0,Nat.zero_le _,rfl,Nat.zero_le _,rfl,World.ownsRow_nil _ _ _ _,hf,hB2⟩
   case round=>
    obtain ⟨k,m,s,a2,cap2,hk,rfl,hm,rfl,hrow,hI,hB⟩:=hrel
    have hsz:=hB.size
    by_cases hlt:k<n
    ·obtain ⟨b,o,p,rfl,hp,c0,c1,c2⟩:=bc_ (h.below hB) hlt
     have hd:Hid (l.drop k=p::l.drop (k+1)):=aj_ hp
     obtain ⟨hp1,hp2,hp3⟩:=hall p (List.mem_of_getElem? hp)
     obtain ⟨pa,pf,pn⟩:=p
     dsimp only at *
     obtain ⟨pk,rfl⟩:∃ pk:Nat,pn=pk:=⟨pn.toNat,by omega⟩
     cases ha:(pa==0)
     ·have hne:pa≠0:=by simpa using ha
      obtain ⟨f0,f20⟩:=hp3 hne
      obtain ⟨fk,rfl⟩:∃ fk:Nat,pf=fk:=⟨pf.toNat,by omega⟩
      have hst:Hid (R=match pieceO e ⟨pa,fk,pk⟩ with | none=>none | some d=>cgo e (s++d) (l.drop (k+1))):=by show _=_;rw [hI.out,hd.out];rfl
      have hpc:Hid (pieceO e ⟨pa,fk,pk⟩=if ((dataAtB pa e).size:Int)<fk+pk then none else some ((dataAtB pa e).extract fk (fk+pk))):=by
       show _=_
       simp only [pieceO,ha,Bool.false_eq_true,if_false,Int.toNat_natCast]
       rw [show ((fk:Int)+(pk:Int)).toNat=fk+pk by omega]
      have hD:=c0_ (addr:=pa) hstr
      go_wp2_with fail
      refine (iR_ a' n' cap' e pa _ ((h'.below hB).alloc _) hn').mono ?_
      rintro x w3 ⟨rfl,hB3⟩
      generalize dataAtB pa e=D at *
      obtain ⟨z0,z1,z2,hB3',_⟩:=box3 hB3
      clear hB3 c0 c1 c2
      have hrow3:=hg_ hrow hB3'
      have hB4:=chain hB hB3'
      clear hrow
      by_cases hlt2:(D.size:Int)<fk+pk
      ·rw [if_pos hlt2] at hpc
       go_wp2
       go_returns
       rw [hst.out,hpc.out]
       exact ⟨rfl,hB4⟩
      ·rw [if_neg hlt2] at hpc
       have hle:(fk:Int)+(pk:Int)<=D.size:=by omega
       have hsl:=run_slice_string (P:=Tryz.prog) (w:=w3) 9 D .i64 .i64 fk (fk+pk) Tryz.underlying9 (by omega) (by omega) (by omega)
       rw [show ((fk:Int)+(pk:Int)).toNat=fk+pk by omega,Int.toNat_natCast] at hsl
       have hxs:(D.extract fk (fk+pk)).size=pk:=by rw [ByteArray.size_extract];omega
       generalize D.extract fk (fk+pk)=X at *
       go_wp2_with (at_builtin;refine wpList_append_own_string _ rfl _ _ 173 9 rfl w.heap.size 5 i0 Tryz.underlying173 Tryz.underlying9 hi hz0 hz1 hz2 _ m (strCells s) rfl hrow3 X rfl (by unfold maxLen;omega) (by omega) hB4.size ?_;intro v5 w5 hrow5 hg5 _)
       obtain ⟨a3,cap3,rfl⟩:=hh_ hrow5
       rw [cV_] at hrow5
       have hB5:Below w.heap.size w w5:=hB4.grown hg5 hB4.size (hf_ hrow3)
       go_roundw
       case rel=>exact ⟨k+1,m+X.size,s++X,a3,cap3,by omega,by go_num,by omega,rfl,hrow5,by show _=_;rw [hst.out,hpc.out],hB5⟩
       case measure=>simp [RowKit.intOf];omega
     ·have hst:Hid (R=cgo e (s++zs pk) (l.drop (k+1))):=by
       show _=_
       rw [hI.out,hd.out]
       simp [cgo,pieceO,ha]
      have hrow2:∀ x,(wr.alloc x).ownsRow w.heap.size 5 1 (.slice a2 m cap2) m (strCells s):=fun x=>hg_ hrow ((Below.refl _ _).alloc (Nat.le_refl _) _)
      go_wp2_with (at_builtin;refine dz_ _ rfl _ _ 173 2 9 rfl w.heap.size 5 i0 .i64 Tryz.underlying173 Tryz.underlying2 Tryz.underlying9 hi hz0 hz1 hz2 _ m (strCells s) rfl (hrow2 _) .i64 pk rfl (by omega) (by omega) (by simp;omega) ?_;intro v3 w3 hrow3 hg3)
      obtain ⟨a3,cap3,rfl⟩:=hh_ hrow3
      rw [cV_] at hrow3
      have hB3:Below w.heap.size w w3:=Below.grown (by go_grown) hg3 (by simp;omega) (hf_ hrow)
      go_roundw
      case rel=>exact ⟨k+1,m+pk,s++zs pk,a3,cap3,by omega,by go_num,by omega,rfl,hrow3,hst,hB3⟩
      case measure=>simp [RowKit.intOf];omega
    ·obtain rfl:k=n:=by omega
     have hconv:=iQ_ (P:=Tryz.prog) hrow 173 Tryz.underlying173 Tryz.underlying5 9 Tryz.underlying9
     go_wp2
     go_returns
     rw [hI.out,List.drop_of_length_le (by rw [hlen.out];exact Nat.le_refl _)]
     exact ⟨rfl,hB⟩
theorem jh_ (addr:Int):∀ (l:List Ex) (k:Nat),(atG addr k l=-1∧dataAtB addr l=⟨#[]⟩)∨∃ (j:Nat) (x:Ex),l[j]?=some x∧atG addr k l=(k:Int)+j∧dataAtB addr l=x.d
 |[],k=>.inl ⟨rfl,rfl⟩
 |e::r,k=>by
  unfold atG dataAtB
  split
  ·rename_i h;exact .inr ⟨0,e,rfl,by simp,rfl⟩
  ·rename_i h
   rcases jh_ addr r (k+1) with ⟨h1,h2⟩ | ⟨j,x,h1,h2,h3⟩
   ·exact .inl ⟨h1,h2⟩
   ·exact .inr ⟨j+1,x,by simpa using h1,by rw [h2];omega,h3⟩
theorem c4_ (a:Option Addr) (n cap:Nat) (l:List Pt) (a':Option Addr) (n' cap':Nat) (e:List Ex) (w:World) (h:PtsAt w a n l) (h':ExsAt w a' n' e) (hstr:Strs e) (hn:n<=16) (hn':n'<=4194304) (hall:∀ p∈l,1<=p.n∧p.n<=100∧(p.a≠0->0<=p.f∧p.f<20)) :
  Calls Tryz.prog 180 #[.slice a n cap,.slice a' n' cap'] w fun x w'=>RetStr x (cgo e ⟨#[]⟩ l)∧Below w.heap.size w w':=by
 have hlen:Hid (l.length=n):=h.len
 have hf:Hid (cgo e ⟨#[]⟩ l=cgo e ⟨#[]⟩ (l.drop 0)):=rfl
 generalize cgo e ⟨#[]⟩ l=R at *
 obtain ⟨i0,hi,hz0,hz1,hz2⟩:=info_parts info5
 go_enter Tryz.func180,Tryz.ntmps180
 go_wp2_with fail
 go_loopw [6,7] (fun out ix wr=>∃ (k:Nat) (s:ByteArray),k<=n∧ix=.int .i64 k∧s.size<=100*k∧out=.string s∧Hid (R=cgo e s (l.drop k))∧Below w.heap.size w wr) (fun _ ix _=>n-(RowKit.intOf ix).toNat)
 case atStart=>exact ⟨0,⟨#[]⟩,Nat.zero_le _,rfl,by simp [ByteArray.size],rfl,hf,Below.refl _ _⟩
 case round=>
  obtain ⟨k,s,hk,rfl,hm,rfl,hI,hB⟩:=hrel
  have hsz:=hB.size
  by_cases hlt:k<n
  ·obtain ⟨b,o,p,rfl,hp,c0,c1,c2⟩:=bc_ (h.below hB) hlt
   have hd:Hid (l.drop k=p::l.drop (k+1)):=aj_ hp
   obtain ⟨hp1,hp2,hp3⟩:=hall p (List.mem_of_getElem? hp)
   obtain ⟨pa,pf,pn⟩:=p
   dsimp only at *
   obtain ⟨pk,rfl⟩:∃ pk:Nat,pn=pk:=⟨pn.toNat,by omega⟩
   cases ha:(pa==0)
   ·have hne:pa≠0:=by simpa using ha
    obtain ⟨f0,f20⟩:=hp3 hne
    obtain ⟨fk,rfl⟩:∃ fk:Nat,pf=fk:=⟨pf.toNat,by omega⟩
    have hst:Hid (R=match pieceO e ⟨pa,fk,pk⟩ with | none=>none | some d=>cgo e (s++d) (l.drop (k+1))):=by show _=_;rw [hI.out,hd.out];rfl
    have hpc:Hid (pieceO e ⟨pa,fk,pk⟩=if ((dataAtB pa e).size:Int)<fk+pk then none else some ((dataAtB pa e).extract fk (fk+pk))):=by
     show _=_
     simp only [pieceO,ha,Bool.false_eq_true,if_false,Int.toNat_natCast]
     rw [show ((fk:Int)+(pk:Int)).toNat=fk+pk by omega]
    have hD:=c0_ (addr:=pa) hstr
    go_wp2_with fail
    refine (g5_ a' n' cap' e pa _ ((h'.below hB).alloc _) hn').mono ?_
    rintro x w3 ⟨rfl,rfl⟩
    rcases jh_ pa e 0 with ⟨g1,g2⟩ | ⟨j,x,g1,g2,g3⟩
    ·rw [g1]
     rw [g2,if_pos (by simp [ByteArray.size];omega)] at hpc
     clear hI hd hp c0 c1 c2
     go_wp2_with fail
     go_quiet (fail)
     go_wp2
     go_returns
     rw [hst.out,hpc.out]
     exact ⟨rfl,below_drewN (by go_grown) _⟩
    ·rw [g2,show ((0:Nat):Int)+(j:Int)=j by omega]
     rw [g3] at hpc hD
     have hj:j<n':=by rw [<-h'.len];exact (List.getElem?_eq_some_iff.1 g1).1
     obtain ⟨b',o',x',rfl,hx',y0,y1⟩:=bp_ ((h'.below hB).alloc (.cells #[.int .i64 pa,.int .i64 fk,.int .i64 pk] 141)) hj
     rw [g1] at hx'
     obtain rfl:=Option.some.inj hx'
     have hB2:Below w.heap.size w (wr.alloc (.cells #[.int .i64 pa,.int .i64 fk,.int .i64 pk] 141)):=hB.alloc hsz _
     have z0:(wr.alloc (.cells #[.int .i64 pa,.int .i64 fk,.int .i64 pk] 141)).cell? ⟨wr.heap.size,0,none⟩=some (.int .i64 pa):=by simp
     have z1:(wr.alloc (.cells #[.int .i64 pa,.int .i64 fk,.int .i64 pk] 141)).cell? ⟨wr.heap.size,1,none⟩=some (.int .i64 fk):=by simp
     have z2:(wr.alloc (.cells #[.int .i64 pa,.int .i64 fk,.int .i64 pk] 141)).cell? ⟨wr.heap.size,2,none⟩=some (.int .i64 pk):=by simp
     clear c0 c1 c2 hI hd hp g1 g2 g3
     generalize wr.alloc (.cells #[.int .i64 pa,.int .i64 fk,.int .i64 pk] 141)=W at *
     obtain ⟨xa,D⟩:=x
     dsimp only at *
     have hj1:(0:Int)<=j:=by omega
     have hj2:(j:Int)<n':=by omega
     have hj3:decide ((j:Int)<0)=false:=by simp
     by_cases hlt2:(D.size:Int)<fk+pk
     ·rw [if_pos hlt2] at hpc
      go_wp2_with fail
      go_quiet (fail)
      go_wp2
      go_returns
      rw [hst.out,hpc.out]
      exact ⟨rfl,below_drewN hB2 _⟩
     ·rw [if_neg hlt2] at hpc
      have hle:(fk:Int)+(pk:Int)<=D.size:=by omega
      have hsl:=fun W'=>run_slice_string (P:=Tryz.prog) W' 9 D .i64 .i64 fk (fk+pk) Tryz.underlying9 (by omega) (by omega) (by omega)
      rw [show ((fk:Int)+(pk:Int)).toNat=fk+pk by omega,Int.toNat_natCast] at hsl
      have hxs:(D.extract fk (fk+pk)).size=pk:=by rw [ByteArray.size_extract];omega
      generalize D.extract fk (fk+pk)=X at *
      go_wp2_with fail
      go_quiet (fail)
      have hB3:=below_drewN hB2 nq
      replace z0:(W.drewN nq).cell? ⟨wr.heap.size,0,none⟩=some (.int .i64 pa):=z0
      replace z1:(W.drewN nq).cell? ⟨wr.heap.size,1,none⟩=some (.int .i64 fk):=z1
      replace z2:(W.drewN nq).cell? ⟨wr.heap.size,2,none⟩=some (.int .i64 pk):=z2
      replace y1:(W.drewN nq).cell? ⟨b',o'+j*2+1,none⟩=some (.string D):=y1
      clear y0
      generalize W.drewN nq=W1 at *
      go_wp2_with fail
      go_quiet (fail)
      go_wp2
      go_roundw
      case rel=>exact ⟨k+1,s++X,by omega,by go_num,by rw [ByteArray.size_append];omega,rfl,by show _=_;rw [hst.out,hpc.out],below_drewN hB3 _⟩
      case measure=>simp [RowKit.intOf];omega
   ·have hst:Hid (R=cgo e (s++zs pk) (l.drop (k+1))):=by
     show _=_
     rw [hI.out,hd.out]
     simp [cgo,pieceO,ha]
    have hmk:∀ u:World,(Instr.makeSlice 173 (.int .i64 (pk:Int)) (.int .i64 (pk:Int))).run Tryz.prog u=.ok (.slice (some ⟨u.heap.size,0,none⟩) pk pk) (u.alloc (.cells (strCells (zs pk)).toArray 5)):=fun u=>by
     have hm:=run_make (P:=Tryz.prog) u 173 5 i0 (.int .u8 0) Tryz.underlying173 hi hz0 .i64 .i64 (pk:Int) (pk:Int) (by omega) (Int.le_refl _) (by rw [hz2];omega) (by omega)
     rw [iP_]
     simpa [hz1,Value.cells,madeCells,Builtin.zeroCells] using hm
    have hcv:∀ u:World,(convert 173 9 (.slice (some ⟨u.heap.size,0,none⟩) pk pk)).run Tryz.prog (u.alloc (.cells (strCells (zs pk)).toArray 5))=.ok (.string (zs pk)) (u.alloc (.cells (strCells (zs pk)).toArray 5)):=fun u=>
     iQ_ (B:=0) (e:=5) (n:=pk) ⟨by rw [strCells_length,bC_,Nat.mul_one],.inr ⟨u.heap.size,pk,_,rfl,Nat.zero_le _,Blk.new u _ 5,Nat.le_refl _,by unfold maxLen;omega,by simp [strCells_length,bC_],by rw [Nat.mul_one,List.take_of_length_le (by simp [strCells_length,bC_])]⟩⟩ 173 Tryz.underlying173 Tryz.underlying5 9 Tryz.underlying9
    have hmk1:=hmk (wr.alloc (.cells #[.int .i64 pa,.int .i64 pf,.int .i64 pk] 141))
    have hcv1:=hcv (wr.alloc (.cells #[.int .i64 pa,.int .i64 pf,.int .i64 pk] 141))
    rw [show (wr.alloc (.cells #[.int .i64 pa,.int .i64 pf,.int .i64 pk] 141)).heap.size=wr.heap.size+1 by simp] at hmk1 hcv1
    have hzsz:=bC_ pk
    generalize zs pk=Z at *
    clear hmk hcv
    go_wp2
    go_roundw
    case rel=>exact ⟨k+1,s++Z,by omega,by go_num,by rw [ByteArray.size_append];omega,rfl,hst,by go_grown⟩
    case measure=>simp [RowKit.intOf];omega
  ·obtain rfl:k=n:=by omega
   go_wp2
   go_returns
   rw [hI.out,List.drop_of_length_le (by rw [hlen.out];exact Nat.le_refl _)]
   exact ⟨rfl,hB⟩
end Go.Proofs.YtigldeccfpkdmaaGreatDoor
