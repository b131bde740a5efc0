/- Files of a disk, by the model: what is the same, forms, lists that are right, an op that is done. Lists of files that are right, and an op that is done on one, by the model. An op that is done on files, by the model. -/
import Derived.Test.YtigldeccfpkdmaaGreatDoorK02
import Derived.Test.YtigldeccfpkdmaaGreatDoorK23
namespace Go.Proofs.YtigldeccfpkdmaaGreatDoor
open Go Go.RowKit Go.BigFrame
set_option maxHeartbeats 20000000
set_option maxRecDepth 100000
theorem ad_ {P:Program} {ops:Array Oper} {Q:Exit->Act->World->Prop} {S:World->Prop} {id:Nat} {a:Act} {w:World} (n:Nat) (hm:P.follows .mixedOrders=true) (hn:ops.size=n)
  (h:wpAnyH P .any ops Q S n (Array.replicate n false) a w.drew):(Code.region id ops true).wp P Q a w:=by
 subst hn
 exact wp_region_held hm h
theorem jG_ (a:Option Addr) (n cap:Nat) (l:List Fl) (a':Option Addr) (n' cap':Nat) (m:List Fl) (w:World) (h:FlsAt w a n l) (h':FlsAt w a' n' m) (hn:n<=4194304) (hn':n'<=4194304) :
  Calls Tryz.prog 140 #[.slice a n cap,.slice a' n' cap'] w fun e w'=>e=.returned (.bool (eqFls l m))∧Below w.heap.size w w':=by
 have hlen:Hid (l.length=n):=h.len
 have hlen':Hid (m.length=n'):=h'.len
 by_cases hne:n=n'
 ·subst hne
  have hbn:((n:Int) != (n:Int))=false:=by simp
  go_enter Tryz.func140,Tryz.ntmps140
  go_wp2_with fail
  go_loopw [5] (fun ix wr=>∃ (k:Nat),k<=n∧ix=.int .i64 k∧Hid (eqFls l m=eqFls (l.drop k) (m.drop k))∧Below w.heap.size w wr) (fun ix _=>n-(intOf ix).toNat)
  case atStart=>exact ⟨0,Nat.zero_le _,rfl,rfl,Below.refl _ _⟩
  case round=>
   obtain ⟨k,hk,rfl,hI,hB⟩:=hrel
   by_cases hlt:k<n
   ·obtain ⟨b,o,p,rfl,hp,c0,c1⟩:=bk_ (h.below hB) hlt
    obtain ⟨b',o',q,rfl,hq,d0,d1⟩:=bk_ (h'.below hB) hlt
    have hd:Hid (l.drop k=p::l.drop (k+1)):=aj_ hp
    have hd':Hid (m.drop k=q::m.drop (k+1)):=aj_ hq
    clear hp hq
    have hk1:(k:Int)<n:=by omega
    have hk2:(0:Int)<=k:=by omega
    have hpq:eqFl p q=(p.nm.toList==q.nm.toList&&p.d.toList==q.d.toList):=rfl
    by_cases e1:p.nm.toList=q.nm.toList
    ·by_cases e2:p.d.toList=q.d.toList
     ·replace hpq:eqFl p q=true:=by rw [hpq];simp [e1,e2]
      have hS0:(fun u=>u.cell? ⟨b,o+k*2,none⟩=some (.string p.nm)∧u.cell? ⟨b,o+k*2+1,none⟩=some (.string p.d)∧u.cell? ⟨b',o'+k*2,none⟩=some (.string q.nm)∧u.cell? ⟨b',o'+k*2+1,none⟩=some (.string q.d)) wr.drew:=⟨c0,c1,d0,d1⟩
      go_wp2_with fail
      refine ad_ (S:=(fun u=>u.cell? ⟨b,o+k*2,none⟩=some (.string p.nm)∧u.cell? ⟨b,o+k*2+1,none⟩=some (.string p.d)∧u.cell? ⟨b',o'+k*2,none⟩=some (.string q.nm)∧u.cell? ⟨b',o'+k*2+1,none⟩=some (.string q.d))) 9 (by kernel_rfl) rfl ?_
      refine tk 0 ?_
      refine tk 1 ?_
      refine tk 2 ?_
      refine tk 3 ?_
      refine tk 4 ?_
      refine tk 5 ?_
      refine tk 6 ?_
      refine tk 7 ?_
      refine tk 8 ?_
      refine wpAnyH_done (by kernel_rfl) ?_ _
      clear hS0
      go_wp2
      go_roundw
      case rel=>exact ⟨k+1,by omega,by go_num,by show _=_;rw [hI.out,hd.out,hd'.out];simp only [eqFls,hpq,Bool.true_and],chain hB ((Below.refl _ _).drew)⟩
      case measure=>simp [intOf];omega
     ·replace hpq:eqFl p q=false:=by rw [hpq];simp [e2]
      have hS0:(fun u=>u.cell? ⟨b,o+k*2,none⟩=some (.string p.nm)∧u.cell? ⟨b,o+k*2+1,none⟩=some (.string p.d)∧u.cell? ⟨b',o'+k*2,none⟩=some (.string q.nm)∧u.cell? ⟨b',o'+k*2+1,none⟩=some (.string q.d)) wr.drew:=⟨c0,c1,d0,d1⟩
      go_wp2_with fail
      refine ad_ (S:=(fun u=>u.cell? ⟨b,o+k*2,none⟩=some (.string p.nm)∧u.cell? ⟨b,o+k*2+1,none⟩=some (.string p.d)∧u.cell? ⟨b',o'+k*2,none⟩=some (.string q.nm)∧u.cell? ⟨b',o'+k*2+1,none⟩=some (.string q.d))) 9 (by kernel_rfl) rfl ?_
      refine tk 0 ?_
      refine tk 1 ?_
      refine tk 2 ?_
      refine tk 3 ?_
      refine tk 4 ?_
      refine tk 5 ?_
      refine tk 6 ?_
      refine tk 7 ?_
      refine tk 8 ?_
      refine wpAnyH_done (by kernel_rfl) ?_ _
      clear hS0
      go_wp2
      go_returns
      go_light
      refine ⟨ab_ ?_,chain hB ((Below.refl _ _).drew)⟩
      rw [hI.out,hd.out,hd'.out];simp only [eqFls,hpq,Bool.false_and]
    ·replace hpq:eqFl p q=false:=by rw [hpq];simp [e1]
     have hS0:(fun u=>u.cell? ⟨b,o+k*2,none⟩=some (.string p.nm)∧u.cell? ⟨b,o+k*2+1,none⟩=some (.string p.d)∧u.cell? ⟨b',o'+k*2,none⟩=some (.string q.nm)∧u.cell? ⟨b',o'+k*2+1,none⟩=some (.string q.d)) wr.drew:=⟨c0,c1,d0,d1⟩
     go_wp2_with fail
     refine ad_ (S:=(fun u=>u.cell? ⟨b,o+k*2,none⟩=some (.string p.nm)∧u.cell? ⟨b,o+k*2+1,none⟩=some (.string p.d)∧u.cell? ⟨b',o'+k*2,none⟩=some (.string q.nm)∧u.cell? ⟨b',o'+k*2+1,none⟩=some (.string q.d))) 9 (by kernel_rfl) rfl ?_
     refine tk 0 ?_
     refine tk 1 ?_
     refine tk 2 ?_
     refine tk 3 ?_
     refine tk 4 ?_
     refine tk 5 ?_
     refine tk 6 ?_
     refine tk 7 ?_
     refine tk 8 ?_
     refine wpAnyH_done (by kernel_rfl) ?_ _
     clear hS0
     go_wp2
     go_returns
     go_light
     refine ⟨ab_ ?_,chain hB ((Below.refl _ _).drew)⟩
     rw [hI.out,hd.out,hd'.out];simp only [eqFls,hpq,Bool.false_and]
   ·obtain rfl:k=n:=by omega
    go_wp2
    go_returns
    go_light
    refine ⟨ab_ ?_,hB⟩
    rw [hI.out,List.drop_of_length_le (Nat.le_of_eq hlen.out),List.drop_of_length_le (Nat.le_of_eq hlen'.out)];rfl
 ·have hbn:((n:Int) != (n':Int))=true:=by simp;omega
  go_enter Tryz.func140,Tryz.ntmps140
  go_wp2
  go_returns
  go_light
  refine ⟨ab_ ?_,Below.refl _ _⟩
  rw [ez_ (by rw [hlen.out,hlen'.out];exact hne)]
theorem jH_ (o:Dp) (w:World) (hs:StrD o) :
  Calls Tryz.prog 139 #[.agg #[.int .i64 o.k,.string o.nm,.string o.tt,.string o.d]] w fun e w'=>e=.returned (.bool (formB o))∧Below w.heap.size w w':=by
 obtain ⟨k,nm,tt,d⟩:=o
 obtain ⟨g1,g2,g3⟩:=hs
 simp only at g1 g2 g3
 have hB0:Below w.heap.size w (w.alloc (.cells #[.int .i64 k,.string nm,.string tt,.string d] 120)):=by go_grown
 have hin:=kK_ k 1 3
 have hnm:=fun u=>c7_ nm u g1
 have htt:=fun u=>c7_ tt u g2
 by_cases hk:1<=k∧k<=3
 ·have hkb:(decide ((1:Int)<=k)&&decide (k<=3))=true:=by simp;omega
  cases hn:nmB nm
  ·have hf:Hid (formB ⟨k,nm,tt,d⟩=false):=by show _=_;simp [formB,hn]
   go_enter Tryz.func139,Tryz.ntmps139
   go_wp2_with fail
   refine (hin _).mono ?_
   rintro e w1 ⟨rfl,rfl⟩
   rw [hkb]
   go_wp2_with fail
   refine (hnm _).mono ?_
   rintro e w2 ⟨rfl,rfl⟩
   rw [hn]
   go_wp2
   go_returns
   exact ⟨ab_ hf.out.symm,hB0⟩
  ·by_cases h2:k=2
   ·subst h2
    have hf:Hid (formB ⟨2,nm,tt,d⟩=(nmB tt&&emB d)):=by show _=_;simp [formB,hn]
    go_enter Tryz.func139,Tryz.ntmps139
    go_wp2_with fail
    refine (hin _).mono ?_
    rintro e w1 ⟨rfl,rfl⟩
    rw [hkb]
    go_wp2_with fail
    refine (hnm _).mono ?_
    rintro e w2 ⟨rfl,rfl⟩
    rw [hn]
    go_wp2_with fail
    refine (htt _).mono ?_
    rintro e w3 ⟨rfl,rfl⟩
    cases ht:nmB tt
    ·go_wp2
     go_returns
     exact ⟨by rw [hf.out,ht];rfl,hB0⟩
    ·cases he:emB d
     ·have hq:¬ d.toList=(⟨#[]⟩:ByteArray).toList:=by simpa [emB] using he
      go_wp2
      go_returns
      exact ⟨by rw [hf.out,ht,he];first | rfl | simp_all [emB],hB0⟩
     ·have hq:d.toList=(⟨#[]⟩:ByteArray).toList:=by simpa [emB] using he
      go_wp2
      go_returns
      exact ⟨by rw [hf.out,ht,he];first | rfl | simp_all [emB],hB0⟩
   ·have h2b:(k==2)=false:=by simpa using h2
    have hf:Hid (formB ⟨k,nm,tt,d⟩=(emB tt&&(decide (k=1)||emB d))):=by show _=_;simp [formB,hn,h2,hk]
    go_enter Tryz.func139,Tryz.ntmps139
    go_wp2_with fail
    refine (hin _).mono ?_
    rintro e w1 ⟨rfl,rfl⟩
    rw [hkb]
    go_wp2_with fail
    refine (hnm _).mono ?_
    rintro e w2 ⟨rfl,rfl⟩
    rw [hn]
    by_cases h1:k=1
    ·subst h1
     go_wp2
     all_goals go_returns
     all_goals exact ⟨by rw [hf.out];simp_all [emB],hB0⟩
    ·have h1b:(k==1)=false:=by simpa using h1
     go_wp2
     all_goals go_returns
     all_goals exact ⟨by rw [hf.out];simp_all [emB],hB0⟩
 ·have hkb:(decide ((1:Int)<=k)&&decide (k<=3))=false:=by simp;omega
  have hf:Hid (formB ⟨k,nm,tt,d⟩=false):=by show _=_;simp only [formB,hkb,Bool.false_and]
  go_enter Tryz.func139,Tryz.ntmps139
  go_wp2_with fail
  refine (hin _).mono ?_
  rintro e w1 ⟨rfl,rfl⟩
  rw [hkb]
  go_wp2
  go_returns
  exact ⟨ab_ hf.out.symm,hB0⟩
/-- Files that are not too great. -/
def BndF (l:List Fl):Prop:=∀ x∈l,x.nm.size<=9223372036854775807∧x.d.size<=100000000
def prevF (l:List Fl) (k:Nat):Option Fl:=if k=0 then none else l[k-1]?
theorem nO_ {l:List Fl} {k:Nat} {p:Fl} {q:Option Fl} (h:l[k]?=some p):fgo q (l.drop k)=(nmB p.nm&&(match q with | none=>true | some x=>bl x.nm.toList p.nm.toList)&&fgo (some p) (l.drop (k+1))):=by
 rw [aj_ h]
 rfl
theorem mC_ {l:List Fl} {k:Nat} {p:Fl} (h:l[k]?=some p):sumB (l.take (k+1))=sumB (l.take k)+p.d.size:=by
 rw [aO_ h,jE_]
 simp [sumB]
theorem oD_ {l:List Fl} (h:BndF l):sumB l<=100000000*l.length:=by
 induction l with
 |nil=>simp [sumB]
 |cons x r ih=>
  have h1:=(h x (by simp)).2
  have h2:=ih (fun y hy=>h y (by simp [hy]))
  simp only [sumB,List.length_cons]
  omega
theorem a4_ (a:Option Addr) (n cap:Nat) (l:List Fl) (w:World) (h:FlsAt w a n l) (hb:BndF l) (hn:n<=9223372036854775807) :
  Calls Tryz.prog 137 #[.slice a n cap] w fun e w'=>e=.returned (.bool (filesB l))∧Below w.heap.size w w':=by
 have hlen:Hid (l.length=n):=h.len
 by_cases h60:n<=60
 ·have hfl:Hid (filesB l=(fgo none l&&decide (sumB l<=200000))):=by show _=_;simp [filesB,hlen.out,h60]
  have h60':¬ (60:Int)<n:=by omega
  go_enter Tryz.func137,Tryz.ntmps137
  go_wp2_with fail
  go_loopw [3,4] (fun sm ix wr=>∃ k:Nat,k<=n∧ix=.int .i64 k∧sm=.int .i64 (sumB (l.take k):Nat)∧Hid (fgo none l=fgo (prevF l k) (l.drop k))∧Below w.heap.size w wr) (fun _ ix _=>n-(intOf ix).toNat)
  case atStart=>exact ⟨0,Nat.zero_le _,rfl,by simp [sumB],by show _=_;simp [prevF],Below.refl _ _⟩
  case round=>
   obtain ⟨k,hk,rfl,rfl,hI,hB⟩:=hrel
   by_cases hlt:k<n
   ·obtain ⟨b,o,p,rfl,hp,c0,c1⟩:=bk_ (h.below hB) hlt
    have hpb:=hb p (List.mem_of_getElem? hp)
    have hsb:=oD_ (l:=l.take k) (fun x hx=>hb x (List.mem_of_mem_take hx))
    have htl:(l.take k).length<=60:=by rw [List.length_take];omega
    have hst:Hid (sumB (l.take (k+1))=sumB (l.take k)+p.d.size):=mC_ hp
    have hgo:∀ q,fgo q (l.drop k)=(nmB p.nm&&(match q with | none=>true | some x=>bl x.nm.toList p.nm.toList)&&fgo (some p) (l.drop (k+1))):=fun q=>nO_ hp
    have hpv:Hid (prevF l (k+1)=some p):=by show _=_;simp [prevF,hp]
    have hk1:(k:Int)<n:=by omega
    have hk2:(0:Int)<=k:=by omega
    generalize hSB:sumB (l.take k)=sb at *
    have hname:=fun u=>c7_ p.nm u hpb.1
    cases hnm:nmB p.nm
    ·have hf:Hid (fgo none l=false):=by show _=_;rw [hI.out,hgo,hnm];simp
     clear hgo
     go_wp2_with fail
     have hS0:(fun u=>u.cell? ⟨b,o+k*2,none⟩=some (.string p.nm)) wr.drew:=c0
     refine ad_ (S:=(fun u=>u.cell? ⟨b,o+k*2,none⟩=some (.string p.nm))) 25 (by kernel_rfl) rfl ?_
     refine tk 0 ?_
     refine tk 1 ?_
     refine tk 2 ?_
     refine tk 3 ?_
     refine tk 4 ?_
     refine oneL (i:=5) (by kernel_rfl) rfl (fun K hK=>?_)
     go_simp
     refine (hname _).mono ?_
     rintro e w1 ⟨rfl,rfl⟩
     rw [hnm]
     dsimp only
     refine hK.out _ _ (by assumption) (fun hHeld=>?_)
     clear hK K
     try simp only [Act.put,lsA,lsB,lsC]
     refine tk 6 ?_
     refine tk 7 ?_
     refine tku 8 ?_
     refine tku 9 ?_
     refine tku 10 ?_
     refine tku 11 ?_
     refine tku 12 ?_
     refine tku 13 ?_
     refine tku 14 ?_
     refine tku 15 ?_
     refine tku 16 ?_
     refine tku 17 ?_
     refine tku 18 ?_
     refine tku 19 ?_
     refine tku 20 ?_
     refine tku 21 ?_
     refine tku 22 ?_
     refine tku 23 ?_
     refine tk 24 ?_
     refine wpAnyH_done (by kernel_rfl) ?_ _
     clear hS0 hHeld
     go_wp2
     go_returns
     exact ⟨by rw [hfl.out,hf.out];rfl,chain hB ((Below.refl _ _).drew)⟩
    ·by_cases hk0:k=0
     ·subst hk0
      have hnx:Hid (fgo none l=fgo (prevF l (0+1)) (l.drop (0+1))):=by show _=_;rw [hI.out,hgo,hnm,hpv.out];simp [prevF]
      clear hgo
      go_wp2_with fail
      have hS0:(fun u=>u.cell? ⟨b,o,none⟩=some (.string p.nm)) wr.drew:=by simpa using c0
      refine ad_ (S:=(fun u=>u.cell? ⟨b,o,none⟩=some (.string p.nm))) 25 (by kernel_rfl) rfl ?_
      refine tk 0 ?_
      refine tk 1 ?_
      refine tk 2 ?_
      refine tk 3 ?_
      refine tk 4 ?_
      refine oneL (i:=5) (by kernel_rfl) rfl (fun K hK=>?_)
      go_simp
      refine (hname _).mono ?_
      rintro e w1 ⟨rfl,rfl⟩
      rw [hnm]
      dsimp only
      refine hK.out _ _ (by assumption) (fun hHeld=>?_)
      clear hK K
      try simp only [Act.put,lsA,lsB,lsC]
      refine tk 6 ?_
      refine tk 7 ?_
      refine tk 8 ?_
      refine tk 9 ?_
      refine tk 10 ?_
      refine tku 11 ?_
      refine tku 12 ?_
      refine tku 13 ?_
      refine tku 14 ?_
      refine tku 15 ?_
      refine tku 16 ?_
      refine tku 17 ?_
      refine tku 18 ?_
      refine tku 19 ?_
      refine tku 20 ?_
      refine tku 21 ?_
      refine tku 22 ?_
      refine tk 23 ?_
      refine tk 24 ?_
      refine wpAnyH_done (by kernel_rfl) ?_ _
      clear hS0 hHeld
      have c1':wr.drew.cell? ⟨b,o+1,none⟩=some (.string p.d):=by simpa using c1
      have hsw:IntKind.i64.wrap ((sb:Int)+(p.d.size:Int))=(sb:Int)+(p.d.size:Int):=by rw [IntKind.wrap_i64];omega
      go_wp2
      go_roundw
      case rel=>exact ⟨0+1,by omega,by go_num,by rw [hst.out];go_num,hnx,chain hB ((Below.refl _ _).drew)⟩
      case measure=>simp [intOf];omega
     ·obtain ⟨x,hx⟩:∃ x,l[k-1]?=some x:=⟨_,List.getElem?_eq_getElem (by rw [hlen.out];omega)⟩
      have hpx:Hid (prevF l k=some x):=by show _=_;simp [prevF,hk0,hx]
      obtain ⟨b2,o2,x2,hbo,hx2,e0,_⟩:=bk_ (h.below hB) (show k-1<n by omega)
      cases hbo
      rw [hx] at hx2
      cases hx2
      have hk3:(0:Int)<k:=by omega
      have hk7:decide ((0:Int)<k)=true:=by simp;omega
      have hk8:0<k:=by omega
      have hk9:decide (0<k)=true:=by simp;omega
      have hkw:IntKind.i64.wrap ((k:Int)-1)=((k-1:Nat):Int):=by rw [IntKind.wrap_i64];omega
      have hkn:((k:Int)-1).toNat=k-1:=by omega
      have hk5:(0:Int)<=((k-1:Nat):Int):=by omega
      have hk6:((k-1:Nat):Int)<n:=by omega
      cases hbl:bl x.nm.toList p.nm.toList
      ·have hf:Hid (fgo none l=false):=by show _=_;rw [hI.out,hpx.out,hgo,hnm];simp [hbl]
       clear hgo
       have hS0:(fun u=>u.cell? ⟨b,o+k*2,none⟩=some (.string p.nm)∧u.cell? ⟨b,o+(k-1)*2,none⟩=some (.string x.nm)) wr.drew:=⟨c0,e0⟩
       by_cases hq3:p.nm.toList=x.nm.toList
       ·have hq2:(p.nm.toList==x.nm.toList)=true:=by simpa using hq3
        go_wp2_with fail
        refine ad_ (S:=(fun u=>u.cell? ⟨b,o+k*2,none⟩=some (.string p.nm)∧u.cell? ⟨b,o+(k-1)*2,none⟩=some (.string x.nm))) 25 (by kernel_rfl) rfl ?_
        refine tk 0 ?_
        refine tk 1 ?_
        refine tk 2 ?_
        refine tk 3 ?_
        refine tk 4 ?_
        refine oneL (i:=5) (by kernel_rfl) rfl (fun K hK=>?_)
        go_simp
        refine (hname _).mono ?_
        rintro e w1 ⟨rfl,rfl⟩
        rw [hnm]
        dsimp only
        refine hK.out _ _ (by assumption) (fun hHeld=>?_)
        clear hK K
        try simp only [Act.put,lsA,lsB,lsC]
        refine tk 6 ?_
        refine tk 7 ?_
        refine tk 8 ?_
        refine tk 9 ?_
        refine tk 10 ?_
        refine tk 11 ?_
        refine tk 12 ?_
        refine tk 13 ?_
        refine tk 14 ?_
        refine tk 15 ?_
        refine tk 16 ?_
        refine tk 17 ?_
        refine tk 18 ?_
        refine tk 19 ?_
        refine tk 20 ?_
        refine tk 21 ?_
        refine tk 22 ?_
        refine tk 23 ?_
        refine tk 24 ?_
        refine wpAnyH_done (by kernel_rfl) ?_ _
        clear hS0 hHeld
        go_wp2
        go_returns
        exact ⟨by rw [hfl.out,hf.out];rfl,chain hB ((Below.refl _ _).drew)⟩
       ·have hq2:(p.nm.toList==x.nm.toList)=false:=by simpa using hq3
        have hq1:bl p.nm.toList x.nm.toList=true:=dT_ hbl (fun e=>hq3 e.symm)
        go_wp2_with fail
        refine ad_ (S:=(fun u=>u.cell? ⟨b,o+k*2,none⟩=some (.string p.nm)∧u.cell? ⟨b,o+(k-1)*2,none⟩=some (.string x.nm))) 25 (by kernel_rfl) rfl ?_
        refine tk 0 ?_
        refine tk 1 ?_
        refine tk 2 ?_
        refine tk 3 ?_
        refine tk 4 ?_
        refine oneL (i:=5) (by kernel_rfl) rfl (fun K hK=>?_)
        go_simp
        refine (hname _).mono ?_
        rintro e w1 ⟨rfl,rfl⟩
        rw [hnm]
        dsimp only
        refine hK.out _ _ (by assumption) (fun hHeld=>?_)
        clear hK K
        try simp only [Act.put,lsA,lsB,lsC]
        refine tk 6 ?_
        refine tk 7 ?_
        refine tk 8 ?_
        refine tk 9 ?_
        refine tk 10 ?_
        refine tk 11 ?_
        refine tk 12 ?_
        refine tk 13 ?_
        refine tk 14 ?_
        refine tk 15 ?_
        refine tk 16 ?_
        refine tk 17 ?_
        refine tk 18 ?_
        refine tk 19 ?_
        refine tk 20 ?_
        refine tk 21 ?_
        refine tk 22 ?_
        refine tk 23 ?_
        refine tk 24 ?_
        refine wpAnyH_done (by kernel_rfl) ?_ _
        clear hS0 hHeld
        go_wp2
        go_returns
        exact ⟨by rw [hfl.out,hf.out];rfl,chain hB ((Below.refl _ _).drew)⟩
      ·have hnx:Hid (fgo none l=fgo (prevF l (k+1)) (l.drop (k+1))):=by show _=_;rw [hI.out,hpx.out,hgo,hnm,hpv.out];simp [hbl]
       clear hgo
       have hq1:bl p.nm.toList x.nm.toList=false:=dU_ hbl
       have hq3:¬ p.nm.toList=x.nm.toList:=fun e=>by rw [e,bV_] at hbl;cases hbl
       have hq2:(p.nm.toList==x.nm.toList)=false:=by simpa using hq3
       have hS0:(fun u=>u.cell? ⟨b,o+k*2,none⟩=some (.string p.nm)∧u.cell? ⟨b,o+(k-1)*2,none⟩=some (.string x.nm)) wr.drew:=⟨c0,e0⟩
       go_wp2_with fail
       refine ad_ (S:=(fun u=>u.cell? ⟨b,o+k*2,none⟩=some (.string p.nm)∧u.cell? ⟨b,o+(k-1)*2,none⟩=some (.string x.nm))) 25 (by kernel_rfl) rfl ?_
       refine tk 0 ?_
       refine tk 1 ?_
       refine tk 2 ?_
       refine tk 3 ?_
       refine tk 4 ?_
       refine oneL (i:=5) (by kernel_rfl) rfl (fun K hK=>?_)
       go_simp
       refine (hname _).mono ?_
       rintro e w1 ⟨rfl,rfl⟩
       rw [hnm]
       dsimp only
       refine hK.out _ _ (by assumption) (fun hHeld=>?_)
       clear hK K
       try simp only [Act.put,lsA,lsB,lsC]
       refine tk 6 ?_
       refine tk 7 ?_
       refine tk 8 ?_
       refine tk 9 ?_
       refine tk 10 ?_
       refine tk 11 ?_
       refine tk 12 ?_
       refine tk 13 ?_
       refine tk 14 ?_
       refine tk 15 ?_
       refine tk 16 ?_
       refine tk 17 ?_
       refine tk 18 ?_
       refine tk 19 ?_
       refine tk 20 ?_
       refine tk 21 ?_
       refine tk 22 ?_
       refine tk 23 ?_
       refine tk 24 ?_
       refine wpAnyH_done (by kernel_rfl) ?_ _
       clear hS0 hHeld
       have c1':wr.drew.cell? ⟨b,o+k*2+1,none⟩=some (.string p.d):=c1
       have hsw:IntKind.i64.wrap ((sb:Int)+(p.d.size:Int))=(sb:Int)+(p.d.size:Int):=by rw [IntKind.wrap_i64];omega
       go_wp2
       go_roundw
       case rel=>exact ⟨k+1,by omega,by go_num,by rw [hst.out];go_num,hnx,chain hB ((Below.refl _ _).drew)⟩
       case measure=>simp [intOf];omega
   ·obtain rfl:k=n:=by omega
    have hall:Hid (fgo none l=true):=by
     show _=_
     rw [hI.out,List.drop_of_length_le (Nat.le_of_eq hlen.out)];rfl
    rw [List.take_of_length_le (Nat.le_of_eq hlen.out)]
    clear hI
    have hf:Hid (decide ((sumB l:Int)<=200000)=filesB l):=by
     show _=_
     have h2:((sumB l:Int)<=200000)↔sumB l<=200000:=by omega
     rw [hfl.out,hall.out]
     simp [h2]
    go_wp2
    go_returns
    exact ⟨ab_ hf.out,hB⟩
 ·have h60':(60:Int)<n:=by omega
  have hf:Hid (filesB l=false):=by show _=_;simp [filesB,hlen.out,h60]
  go_enter Tryz.func137,Tryz.ntmps137
  go_wp2
  go_returns
  exact ⟨ab_ hf.out.symm,Below.refl _ _⟩
theorem nP_ {l:List Fl} {nm:ByteArray} {i:Nat} (h:atF l nm=some i):i<l.length:=by
 unfold atF at h
 exact (List.findIdx?_eq_some_iff_getElem.1 h).1
theorem mD_ (a:Option Addr) (n cap:Nat) (l:List Fl) (op:Dp) (w:World) (h:FlsAt w a n l) (ha1:∀ ad,a=some ad->ad.spot=none) (ha2:a=none->cap=0) (hn:n<=4000000) (hb:∀ f∈l,f.d.size<=100000000) (ho:op.d.size<=100000000) :
  Calls Tryz.prog 138 #[.slice a n cap,.agg #[.int .i64 op.k,.string op.nm,.string op.tt,.string op.d]] w fun e w'=>(∃ a' n' cap',e=.returned (.tuple #[.slice a' n' cap',.bool (doF l op).2])∧ResAt Fl.cs 2 123 w' w.heap.size a' n' cap' (doF l op).1)∧Below w.heap.size w w':=by
 have hlen:Hid (l.length=n):=h.len
 obtain ⟨kd,nm,tt,d⟩:=op
 simp only at ho
 have O0:=Blk.new w #[.int .i64 kd,.string nm,.string tt,.string d] 120
 have hB0:Below w.heap.size w (w.alloc (.cells #[.int .i64 kd,.string nm,.string tt,.string d] 120)):=by go_grown
 cases hat:atF l nm with
 |none=>
  by_cases hk:kd=1
  ·subst hk
   have hf:Hid (doF l ⟨1,nm,tt,d⟩=(putF ⟨nm,d⟩ l,true)):=by show _=_;simp [doF,hat]
   generalize doF l ⟨1,nm,tt,d⟩=R at *
   go_enter Tryz.func138,Tryz.ntmps138
   go_wp2_with fail
   refine (bY_ a n cap l nm _ (h.below hB0) (by omega)).mono ?_
   rintro e w1 ⟨rfl,rfl⟩
   rw [hat]
   simp only [plF]
   go_wp2_with fail
   refine (dN_ a n cap l nm d _ (h.below hB0) (by omega)).mono ?_
   rintro e w2 ⟨⟨a2,n2,cap2,rfl,R2⟩,hB2⟩
   go_wp2
   go_returns
   exact ⟨⟨a2,n2,cap2,by rw [hf.out]<;>rfl,by rw [hf.out];exact R2.mono (by simp)⟩,chain hB0 hB2⟩
  ·have hkb:(kd==1)=false:=by simpa using hk
   have hf:Hid (doF l ⟨kd,nm,tt,d⟩=(l,false)):=by show _=_;simp [doF,hat,hk]
   generalize doF l ⟨kd,nm,tt,d⟩=R at *
   go_enter Tryz.func138,Tryz.ntmps138
   go_wp2_with fail
   refine (bY_ a n cap l nm _ (h.below hB0) (by omega)).mono ?_
   rintro e w1 ⟨rfl,rfl⟩
   rw [hat]
   simp only [plF]
   go_wp2_with (at_builtin;refine al_ rfl (fun K hK=>a6_ _ _ rfl w.heap.size _ 0 0 [] rfl (a1_ (Blk.new' _ _ _ _ (by simp)) (by first | omega | (simp;done) | (simp;omega))) a n cap l rfl ((h.below hB0).alloc _) ha1 ha2 n (Nat.zero_add _) (by omega) (by first | omega | (simp;done) | (simp;omega)) (fun a3 cap3 w3 R3 hg3=>hK _ _ ?_)))
   have hB3:Below w.heap.size w w3:=Below.grown (hB0.alloc (by simp) _) hg3 (by first | omega | (simp;done) | (simp;omega)) (fun j e=>by simp [Value.ownBlock] at e;omega)
   go_wp2
   go_returns
   exact ⟨⟨a3,n,cap3,by rw [hf.out]<;>rfl,by rw [hf.out];simpa using R3⟩,hB3⟩
 |some i=>
  have hil:=nP_ hat
  rw [hlen.out] at hil
  obtain ⟨b,o,f,rfl,hfi,c0,c1⟩:=bk_ h hil
  have hfb:=hb f (List.mem_of_getElem? hfi)
  have hi1:(i:Int)<n:=by omega
  have hi2:(0:Int)<=i:=by omega
  have hi3:¬ (i:Int)<0:=by omega
  have g1:=bcell hB0 c1
  by_cases hk:kd=1
  ·subst hk
   have hf:Hid (doF l ⟨1,nm,tt,d⟩=(putF ⟨nm,f.d++d⟩ l,true)):=by show _=_;simp [doF,hat,hfi]
   generalize doF l ⟨1,nm,tt,d⟩=R at *
   clear hfi
   go_enter Tryz.func138,Tryz.ntmps138
   go_wp2_with fail
   refine (bY_ _ n cap l nm _ (h.below hB0) (by omega)).mono ?_
   rintro e w1 ⟨rfl,rfl⟩
   rw [hat]
   simp only [plF]
   go_wp2_with fail
   refine (dN_ _ n cap l nm (f.d++d) _ (h.below hB0) (by omega)).mono ?_
   rintro e w2 ⟨⟨a2,n2,cap2,rfl,R2⟩,hB2⟩
   go_wp2
   go_returns
   exact ⟨⟨a2,n2,cap2,by rw [hf.out]<;>rfl,by rw [hf.out];exact R2.mono (by simp)⟩,chain hB0 hB2⟩
  ·have hkb:(kd==1)=false:=by simpa using hk
   by_cases hk2:kd=2
   ·subst hk2
    have hf:Hid (doF l ⟨2,nm,tt,d⟩=(putF ⟨tt,f.d⟩ (cutF nm l),true)):=by show _=_;simp [doF,hat,hfi]
    generalize doF l ⟨2,nm,tt,d⟩=R at *
    clear hfi
    go_enter Tryz.func138,Tryz.ntmps138
    go_wp2_with fail
    refine (bY_ _ n cap l nm _ (h.below hB0) (by omega)).mono ?_
    rintro e w1 ⟨rfl,rfl⟩
    rw [hat]
    simp only [plF]
    go_wp2_with fail
    refine (f5_ _ n cap l nm _ (h.below hB0) (by omega)).mono ?_
    rintro e w2 ⟨⟨a2,n2,cap2,rfl,hn2,R2⟩,hB2⟩
    have O2:=O0.below hB2
    have x0:w2.cell? ⟨w.heap.size,0,none⟩=some (.int .i64 2):=O2.cell 0
    have x2:w2.cell? ⟨w.heap.size,2,none⟩=some (.string tt):=O2.cell 2
    have g2:=bcell hB2 g1
    go_wp2_with fail
    have hSB:∀ u,Below w2.heap.size w2 u->(fun u=>u.cell? ⟨w.heap.size,2,none⟩=some (.string tt)∧u.cell? ⟨b,o+i*2+1,none⟩=some (.string f.d)) u:=fun u hu=>⟨bcell hu x2,bcell hu g2⟩
    have hS0:(fun u=>u.cell? ⟨w.heap.size,2,none⟩=some (.string tt)∧u.cell? ⟨b,o+i*2+1,none⟩=some (.string f.d)) w2.drew:=⟨x2,g2⟩
    refine ad_ (S:=(fun u=>u.cell? ⟨w.heap.size,2,none⟩=some (.string tt)∧u.cell? ⟨b,o+i*2+1,none⟩=some (.string f.d))) 10 (by kernel_rfl) rfl ?_
    refine tk 0 ?_
    refine tk 1 ?_
    refine tk 2 ?_
    refine tk 3 ?_
    refine tk 4 ?_
    refine tk 5 ?_
    refine tk 6 ?_
    refine tk 7 ?_
    refine oneL (i:=8) (by kernel_rfl) rfl (fun K hK=>?_)
    go_simp
    refine (dN_ a2 n2 cap2 (cutF nm l) tt f.d _ (R2.sl.below ((Below.refl _ _).drew)) (by omega)).mono ?_
    rintro e w3 ⟨⟨a3,n3,cap3,rfl,R3⟩,hB3'⟩
    have hB3:=chain ((Below.refl w2.heap.size w2).drew) hB3'
    dsimp only
    refine hK.out _ _ (hSB _ hB3) (fun hHeld=>?_)
    clear hK K
    try simp only [Act.put,lsA,lsB,lsC]
    refine tk 9 ?_
    refine wpAnyH_done (by kernel_rfl) ?_ _
    clear hS0 hSB hHeld
    have hs2:=hB2.size
    simp only [World.size_alloc] at hs2
    go_wp2
    go_returns
    exact ⟨⟨a3,n3,cap3,by rw [hf.out]<;>rfl,by rw [hf.out];exact R3.mono (show w.heap.size<=w2.heap.size by omega)⟩,chain (chain hB0 hB2) hB3⟩
   ·have hk2b:(kd==2)=false:=by simpa using hk2
    have hf:Hid (doF l ⟨kd,nm,tt,d⟩=(cutF nm l,true)):=by show _=_;simp [doF,hat,hfi,hk,hk2]
    generalize doF l ⟨kd,nm,tt,d⟩=R at *
    clear hfi
    go_enter Tryz.func138,Tryz.ntmps138
    go_wp2_with fail
    refine (bY_ _ n cap l nm _ (h.below hB0) (by omega)).mono ?_
    rintro e w1 ⟨rfl,rfl⟩
    rw [hat]
    simp only [plF]
    go_wp2_with fail
    refine (f5_ _ n cap l nm _ (h.below hB0) (by omega)).mono ?_
    rintro e w2 ⟨⟨a2,n2,cap2,rfl,hn2,R2⟩,hB2⟩
    have O2:=O0.below hB2
    have x0:w2.cell? ⟨w.heap.size,0,none⟩=some (.int .i64 kd):=O2.cell 0
    go_wp2
    go_returns
    exact ⟨⟨a2,n2,cap2,by rw [hf.out]<;>rfl,by rw [hf.out];exact R2.mono (by simp)⟩,chain hB0 hB2⟩
end Go.Proofs.YtigldeccfpkdmaaGreatDoor
