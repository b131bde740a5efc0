/- Lists of files that are right, by the program. A contract of the library (strings.Compare), laid at this program. Where a file is, or would be, by the program. Taking one row out of a slice of the call's own. -/
import Derived.Test.YtigldeccfpkdmaaGreatDoorK25
import Derived.Test.YtigldeccfpkdmaaGreatDoorProg
import Derived.Shelf.Small.Strs
import Derived.Deep.RegionLaw
namespace Go.Proofs.YtigldeccfpkdmaaGreatDoor
open Go Go.RowKit Go.BigFrame
set_option maxHeartbeats 20000000
set_option maxRecDepth 100000
theorem bM_ (d:ByteArray) (w:World) (hd:d.size<=9223372036854775807) :
  Calls Tryz.prog 198 #[.string d] w fun e w'=>e=.returned (.bool (nmB d))∧w'=w:=by
 by_cases h1:1<=d.size
 ·have hf:Hid (decide ((d.size:Int)<=100)=nmB d):=by
   show _=_
   have h2:((d.size:Int)<=100)↔d.size<=100:=by omega
   simp [nmB,h1,h2]
  go_enter Tryz.func198,Tryz.ntmps198
  go_wp2
  go_returns
  exact ⟨ab_ hf.out,rfl⟩
 ·have hf:Hid (nmB d=false):=by show _=_;simp [nmB];omega
  go_enter Tryz.func198,Tryz.ntmps198
  go_wp2
  go_returns
  exact ⟨ab_ hf.out.symm,rfl⟩
theorem nS_ (l:List Fl):sumH (l.map oneH)=sumB l:=by
 induction l with
 |nil=>rfl
 |cons x r ih=>simp only [List.map_cons,sumH,sumB,ih,oneH,sumP];omega
theorem nT_ (l:List Fl):fitsB (l.map oneH)=(decide (l.length<=60)&&decide (sumB l<=200000)):=by
 unfold fitsB
 rw [nS_,List.length_map]
theorem jJ_ (l:List Fl):filesB l=(fgo none l&&fitsB (l.map oneH)):=by
 rw [nT_]
 unfold filesB
 cases fgo none l<;>simp
theorem bm_ (a:Option Addr) (n cap:Nat) (l:List Fl) (w:World) (h:FlsAt w a n l) (hb:StrsF l) (hn:n<=4000000) :
  Calls Tryz.prog 151 #[.slice a n cap] w fun e w'=>e=.returned (.bool (filesB l))∧Below w.heap.size w w':=by
 have hlen:Hid (l.length=n):=h.len
 have hfl:Hid (filesB l=(fgo none l&&fitsB (l.map oneH))):=jJ_ l
 go_enter Tryz.func151,Tryz.ntmps151
 go_wp2_with fail
 go_loopw [3,4,8] (fun _pi _pf ix wr=>∃ k:Nat,k<=n∧ix=.int .i64 k∧Hid (fgo none l=fgo (prevF l k) (l.drop k))∧Below w.heap.size w wr) (fun _ _ ix _=>n-(intOf ix).toNat)
 case atStart=>exact ⟨0,Nat.zero_le _,rfl,by show _=_;simp [prevF],Below.refl _ _⟩
 case round=>
  obtain ⟨k,hk,rfl,hI,hB⟩:=hrel
  obtain ⟨wi,hwi⟩:∃ x,x=wr:=⟨_,rfl⟩
  subst hwi
  by_cases hlt:k<n
  ·obtain ⟨b,o,p,rfl,hp,c0,c1⟩:=bk_ (h.below hB) hlt
   have hpb:=hb p (List.mem_of_getElem? hp)
   have hgo:∀ q,fgo q (l.drop k)=(nmB p.nm&&(match q with | none=>true | some x=>bl x.nm.toList p.nm.toList)&&fgo (some p) (l.drop (k+1))):=fun q=>nO_ hp
   have hpv:Hid (prevF l (k+1)=some p):=by show _=_;simp [prevF,hp]
   have hk1:(k:Int)<n:=by omega
   have hk2:(0:Int)<=k:=by omega
   have hname:=fun u=>bM_ p.nm u hpb.1
   have hA:Below wi.heap.size wi (wi.alloc (.cells #[.string p.nm,.string p.d] 123)):=(Below.refl _ _).alloc (Nat.le_refl _) _
   have z0:(wi.alloc (.cells #[.string p.nm,.string p.d] 123)).cell? ⟨wi.heap.size,0,none⟩=some (.string p.nm):=(Blk.new wi _ _).cell 0
   have hB1:=chain hB hA
   cases hnm:nmB p.nm
   ·have hf:Hid (fgo none l=false):=by show _=_;rw [hI.out,hgo,hnm];simp
    clear hgo
    go_wp2_with fail
    generalize wi.alloc (.cells #[.string p.nm,.string p.d] 123)=W at *
    have hS0:(fun u=>u.cell? ⟨wi.heap.size,0,none⟩=some (.string p.nm)) W.drew:=z0
    refine ad_ (S:=(fun u=>u.cell? ⟨wi.heap.size,0,none⟩=some (.string p.nm))) 19 (by kernel_rfl) rfl ?_
    refine tk 0 ?_
    refine tk 1 ?_
    refine oneL (i:=2) (by kernel_rfl) rfl (fun K hK=>?_)
    go_simp
    refine (hname _).mono ?_
    rintro e w1 ⟨rfl,rfl⟩
    rw [hnm]
    dsimp only
    refine hK.out _ _ (by assumption) (fun hHeld=>?_)
    clear hK K
    try simp only [Act.put,lsA,lsB,lsC]
    refine tk 3 ?_
    refine tk 4 ?_
    refine tku 5 ?_
    refine tku 6 ?_
    refine tku 7 ?_
    refine tku 8 ?_
    refine tku 9 ?_
    refine tku 10 ?_
    refine tku 11 ?_
    refine tku 12 ?_
    refine tku 13 ?_
    refine tku 14 ?_
    refine tku 15 ?_
    refine tku 16 ?_
    refine tku 17 ?_
    refine tk 18 ?_
    refine wpAnyH_done (by kernel_rfl) ?_ _
    clear hS0 hHeld
    go_wp2
    go_returns
    exact ⟨by rw [hfl.out,hf.out];rfl,chain hB1 ((Below.refl _ _).drew)⟩
   ·by_cases hk0:k=0
    ·subst hk0
     have hnx:Hid (fgo none l=fgo (prevF l (0+1)) (l.drop (0+1))):=by show _=_;rw [hI.out,hgo,hnm,hpv.out];simp [prevF]
     clear hgo
     simp only [Nat.zero_mul,Nat.add_zero] at c0 c1
     go_wp2_with fail
     generalize wi.alloc (.cells #[.string p.nm,.string p.d] 123)=W at *
     have hS0:(fun u=>u.cell? ⟨wi.heap.size,0,none⟩=some (.string p.nm)) W.drew:=z0
     refine ad_ (S:=(fun u=>u.cell? ⟨wi.heap.size,0,none⟩=some (.string p.nm))) 19 (by kernel_rfl) rfl ?_
     refine tk 0 ?_
     refine tk 1 ?_
     refine oneL (i:=2) (by kernel_rfl) rfl (fun K hK=>?_)
     go_simp
     refine (hname _).mono ?_
     rintro e w1 ⟨rfl,rfl⟩
     rw [hnm]
     dsimp only
     refine hK.out _ _ (by assumption) (fun hHeld=>?_)
     clear hK K
     try simp only [Act.put,lsA,lsB,lsC]
     refine tk 3 ?_
     refine tk 4 ?_
     refine tk 5 ?_
     refine tk 6 ?_
     refine tk 7 ?_
     refine tku 8 ?_
     refine tku 9 ?_
     refine tku 10 ?_
     refine tku 11 ?_
     refine tku 12 ?_
     refine tku 13 ?_
     refine tku 14 ?_
     refine tku 15 ?_
     refine tku 16 ?_
     refine tk 17 ?_
     refine tk 18 ?_
     refine wpAnyH_done (by kernel_rfl) ?_ _
     clear hS0 hHeld
     go_wp2
     go_roundw
     case rel=>exact ⟨0+1,by omega,by go_num,hnx,chain hB1 ((Below.refl _ _).drew)⟩
     case measure=>simp [intOf];omega
    ·obtain ⟨x,hx⟩:∃ x,l[k-1]?=some x:=⟨_,List.getElem?_eq_getElem (by rw [hlen.out];omega)⟩
     have hpx:Hid (prevF l k=some x):=by show _=_;simp [prevF,hk0,hx]
     obtain ⟨b2,o2,x2,hbo,hx2,e0,_⟩:=bk_ (h.below hB1) (show k-1<n by omega)
     cases hbo
     rw [hx] at hx2
     cases hx2
     have hk3:(0:Int)<k:=by omega
     have hk7:decide ((0:Int)<k)=true:=by simp;omega
     have hk8:0<k:=by omega
     have hk9:decide (0<k)=true:=by simp;omega
     have hkw:IntKind.i64.wrap ((k:Int)-1)=((k-1:Nat):Int):=by rw [IntKind.wrap_i64];omega
     have hkn:((k:Int)-1).toNat=k-1:=by omega
     have hk5:(0:Int)<=((k-1:Nat):Int):=by omega
     have hk6:((k-1:Nat):Int)<n:=by omega
     cases hbl:bl x.nm.toList p.nm.toList
     ·have hf:Hid (fgo none l=false):=by show _=_;rw [hI.out,hpx.out,hgo,hnm];simp [hbl]
      clear hgo
      go_wp2_with fail
      generalize wi.alloc (.cells #[.string p.nm,.string p.d] 123)=W at *
      have hS0:(fun u=>u.cell? ⟨wi.heap.size,0,none⟩=some (.string p.nm)∧u.cell? ⟨b,o+(k-1)*2,none⟩=some (.string x.nm)) W.drew:=⟨z0,e0⟩
      refine ad_ (S:=(fun u=>u.cell? ⟨wi.heap.size,0,none⟩=some (.string p.nm)∧u.cell? ⟨b,o+(k-1)*2,none⟩=some (.string x.nm))) 19 (by kernel_rfl) rfl ?_
      refine tk 0 ?_
      refine tk 1 ?_
      refine oneL (i:=2) (by kernel_rfl) rfl (fun K hK=>?_)
      go_simp
      refine (hname _).mono ?_
      rintro e w1 ⟨rfl,rfl⟩
      rw [hnm]
      dsimp only
      refine hK.out _ _ (by assumption) (fun hHeld=>?_)
      clear hK K
      try simp only [Act.put,lsA,lsB,lsC]
      refine tk 3 ?_
      refine tk 4 ?_
      refine tk 5 ?_
      refine tk 6 ?_
      refine tk 7 ?_
      refine tk 8 ?_
      refine tk 9 ?_
      refine tk 10 ?_
      refine tk 11 ?_
      refine tk 12 ?_
      refine tk 13 ?_
      refine tk 14 ?_
      refine tk 15 ?_
      refine tk 16 ?_
      refine tk 17 ?_
      refine tk 18 ?_
      refine wpAnyH_done (by kernel_rfl) ?_ _
      clear hS0 hHeld
      go_wp2
      go_returns
      exact ⟨by rw [hfl.out,hf.out];rfl,chain hB1 ((Below.refl _ _).drew)⟩
     ·have hnx:Hid (fgo none l=fgo (prevF l (k+1)) (l.drop (k+1))):=by show _=_;rw [hI.out,hpx.out,hgo,hnm,hpv.out];simp [hbl]
      clear hgo
      go_wp2_with fail
      generalize wi.alloc (.cells #[.string p.nm,.string p.d] 123)=W at *
      have hS0:(fun u=>u.cell? ⟨wi.heap.size,0,none⟩=some (.string p.nm)∧u.cell? ⟨b,o+(k-1)*2,none⟩=some (.string x.nm)) W.drew:=⟨z0,e0⟩
      refine ad_ (S:=(fun u=>u.cell? ⟨wi.heap.size,0,none⟩=some (.string p.nm)∧u.cell? ⟨b,o+(k-1)*2,none⟩=some (.string x.nm))) 19 (by kernel_rfl) rfl ?_
      refine tk 0 ?_
      refine tk 1 ?_
      refine oneL (i:=2) (by kernel_rfl) rfl (fun K hK=>?_)
      go_simp
      refine (hname _).mono ?_
      rintro e w1 ⟨rfl,rfl⟩
      rw [hnm]
      dsimp only
      refine hK.out _ _ (by assumption) (fun hHeld=>?_)
      clear hK K
      try simp only [Act.put,lsA,lsB,lsC]
      refine tk 3 ?_
      refine tk 4 ?_
      refine tk 5 ?_
      refine tk 6 ?_
      refine tk 7 ?_
      refine tk 8 ?_
      refine tk 9 ?_
      refine tk 10 ?_
      refine tk 11 ?_
      refine tk 12 ?_
      refine tk 13 ?_
      refine tk 14 ?_
      refine tk 15 ?_
      refine tk 16 ?_
      refine tk 17 ?_
      refine tk 18 ?_
      refine wpAnyH_done (by kernel_rfl) ?_ _
      clear hS0 hHeld
      go_wp2
      go_roundw
      case rel=>exact ⟨k+1,by omega,by go_num,hnx,chain hB1 ((Below.refl _ _).drew)⟩
      case measure=>simp [intOf];omega
  ·obtain rfl:k=n:=by omega
   have hall:Hid (fgo none l=true):=by
    show _=_
    rw [hI.out,List.drop_of_length_le (Nat.le_of_eq hlen.out)];rfl
   clear hI
   go_wp2_with fail
   refine (ed_ a k cap l _ (h.below hB) (by omega)).mono ?_
   rintro e w1 ⟨⟨a1,c1,rows,rfl,R1,T1⟩,hB1⟩
   have hC1:=chain hB hB1
   have hA:Below w1.heap.size w1 (w1.alloc (.cells #[.slice a1 k c1] 207)):=(Below.refl _ _).alloc (Nat.le_refl _) _
   have P1:=Blk.new w1 #[.slice a1 k c1] 207
   go_wp2_with fail
   refine (hy_ wi.heap.size w1.heap.size a1 k c1 rows (l.map oneH) _ P1 (R1.below hA) (T1.below hA) (by omega) (fun y hy=>by obtain ⟨f,_,rfl⟩:=List.mem_map.1 hy;simp [oneH]) (fun y hy s hs=>by obtain ⟨f,hf,rfl⟩:=List.mem_map.1 hy;simp [oneH] at hs;subst hs;exact (hb f hf).2)).mono ?_
   rintro e w2 ⟨rfl,hB2⟩
   go_wp2
   go_returns
   exact ⟨by rw [hfl.out,hall.out];simp,chain (chain hC1 hA) hB2⟩
end Go.Proofs.YtigldeccfpkdmaaGreatDoor
namespace Go.Proofs.YtigldeccfpkdmaaGreatDoor
open Go.Shelf Go.RowKit Go.Lib
set_option maxHeartbeats 20000000
set_option maxRecDepth 100000
def mF_:Go.Shelf.Ren:=⟨fun | 106=>309 | 213=>312 | 265=>314 | n=>n,fun | 9=>9 | 3=>3 | n=>n,fun | n=>n⟩
theorem cmpLy:Lays.n106 Tryz.prog mF_ where
 mixed:=by kernel_rfl
 f106:=Tryz.func309.trans (congrArg some (by kernel_rfl))
 f213:=Tryz.func312.trans (congrArg some (by kernel_rfl))
 f265:=Tryz.func314.trans (congrArg some (by kernel_rfl))
 t3:=Tryz.underlying3
 a3:=Tryz.isAgg3
 z3:=Tryz.sizeOf3
 v3:=Tryz.zeroValue3
 t9:=Tryz.underlying9
 a9:=Tryz.isAgg9
 z9:=Tryz.sizeOf9
 v9:=Tryz.zeroValue9
theorem jK_ (a b:ByteArray) (w:World):Calls Tryz.prog 309 #[.string a,.string b] w fun e w'=>e=.returned (.int .i64 (Lib.compareBytes a.toList b.toList))∧w'=w:=by
 rw [ByteArray.toList_eq,ByteArray.toList_eq]
 exact Any.strings_Compare cmpLy a b w
end Go.Proofs.YtigldeccfpkdmaaGreatDoor
namespace Go.Proofs.YtigldeccfpkdmaaGreatDoor
open Go Go.RowKit Go.BigFrame
set_option maxHeartbeats 20000000
set_option maxRecDepth 100000
theorem o2_ {a b:UInt8} (h1:¬ a<b) (h2:¬ b<a):a=b:=UInt8.le_antisymm (UInt8.not_lt.1 h2) (UInt8.not_lt.1 h1)
theorem nU_ {a b:UInt8} (h:a<b):¬ a=b:=by rintro rfl;exact UInt8.lt_irrefl _ h
theorem lE_:∀ x y:List UInt8,decide (Lib.compareBytes x y<0)=bl x y
 |[],[]=>by simp [Lib.compareBytes,bl,Op.bytesLess]
 |[],_::_=>by simp [Lib.compareBytes,bl,Op.bytesLess]
 |_::_,[]=>by simp [Lib.compareBytes,bl,Op.bytesLess]
 |a::x,b::y=>by
  have ih:=lE_ x y
  by_cases h1:a<b
  ·simp [Lib.compareBytes,bl,Op.bytesLess,h1]
  ·by_cases h2:b<a
   ·have h3:¬ a=b:=fun e=>nU_ h2 e.symm
    simp [Lib.compareBytes,bl,Op.bytesLess,h1,h2,h3]
   ·obtain rfl:=o2_ h1 h2
    simpa [Lib.compareBytes,bl,Op.bytesLess,h1] using ih
theorem lF_:∀ x y:List UInt8,decide (Lib.compareBytes x y=0)=(x==y)
 |[],[]=>by simp [Lib.compareBytes]
 |[],_::_=>by simp [Lib.compareBytes]
 |_::_,[]=>by simp [Lib.compareBytes]
 |a::x,b::y=>by
  have ih:=lF_ x y
  by_cases h1:a<b
  ·have h3:=nU_ h1
   simp [Lib.compareBytes,h1,h3]
  ·by_cases h2:b<a
   ·have h3:¬ a=b:=fun e=>nU_ h2 e.symm
    simp [Lib.compareBytes,h1,h2,h3]
   ·obtain rfl:=o2_ h1 h2
    simpa [Lib.compareBytes,h1] using ih
theorem ee_ (nm s:ByteArray) (pa:Option Addr) (pn pc:Nat) (w:World) :
  Calls Tryz.prog 308 #[.agg #[.string nm,.slice pa pn pc],.string s] w fun e w'=>e=.returned (.int .i64 (Lib.compareBytes nm.toList s.toList))∧Below w.heap.size w w':=by
 go_enter Tryz.func308,Tryz.ntmps308
 go_wp2_with (go_at_call 309;refine (jK_ _ _ _).mono ?_;rintro e w' ⟨rfl,rfl⟩)
 go_returns
 exact ⟨rfl,by go_grown⟩
/-- Where the file is, or would be. -/
def plH (l:List Hy) (s:ByteArray):Nat:=(l.takeWhile (fun y=>bl y.nm.toList s.toList)).length
def hasH (l:List Hy) (s:ByteArray):Bool:=match l[plH l s]? with | some y=>y.nm.toList==s.toList | none=>false
/-- By rising names. -/
def SrtH (l:List Hy):Prop:=∀ (i j:Nat) x y,i<j->l[i]?=some x->l[j]?=some y->bl x.nm.toList y.nm.toList=true
theorem kL_ {s:ByteArray}:∀ {l:List Hy} {i:Nat},i<=l.length->(∀ (t:Nat) (x:Hy),t<i->l[t]?=some x->bl x.nm.toList s.toList=true)->(∀ (t:Nat) (x:Hy),i<=t->l[t]?=some x->bl x.nm.toList s.toList=false)->plH l s=i
 |[],i,hi,_,_=>by simp at hi;subst hi;rfl
 |y::r,0,_,_,h2=>by
  have:=h2 0 y (Nat.le_refl _) rfl
  simp [plH,List.takeWhile,this]
 |y::r,i+1,hi,h1,h2=>by
  have:=h1 0 y (by omega) rfl
  have ih:=kL_ (s:=s) (l:=r) (i:=i) (by simpa using hi) (fun t x ht hx=>h1 (t+1) x (by omega) (by simpa using hx)) (fun t x ht hx=>h2 (t+1) x (by omega) (by simpa using hx))
  unfold plH at ih ⊢
  simp [List.takeWhile,this,ih]
theorem SrtH.lo {l:List Hy} (h:SrtH l) {s:ByteArray} {m:Nat} {y:Hy} (hy:l[m]?=some y) (hb:bl y.nm.toList s.toList=true):∀ (t:Nat) (x:Hy),t<m+1->l[t]?=some x->bl x.nm.toList s.toList=true:=by
 intro t x ht hx
 by_cases he:t=m
 ·subst he;rw [hy] at hx;cases hx;exact hb
 ·exact cr_ (h t m x y (by omega) hx hy) hb
theorem SrtH.hi {l:List Hy} (h:SrtH l) {s:ByteArray} {m:Nat} {y:Hy} (hy:l[m]?=some y) (hb:bl y.nm.toList s.toList=false):∀ (t:Nat) (x:Hy),m<=t->l[t]?=some x->bl x.nm.toList s.toList=false:=by
 intro t x ht hx
 by_cases he:t=m
 ·subst he;rw [hy] at hx;cases hx;exact hb
 ·cases hc:bl x.nm.toList s.toList
  ·rfl
  ·rw [cr_ (h m t y x (by omega) hy hx) hc] at hb;cases hb
theorem jL_ (B:Nat) (a:Option Addr) (n cap:Nat) (rows:List Hr) (l:List Hy) (s:ByteArray) (w:World) (R:ResAt hrs 2 253 w B a n cap rows) (T:HsT B w rows l) (hs:SrtH l) (hn:n<=4194304) :
  Calls Tryz.prog 307 #[.slice a n cap,.string s,.func (.func 308) #[] #[]] w fun e w'=>e=.returned (.tuple #[.int .i64 (plH l s:Nat),.bool (hasH l s)])∧Below w.heap.size w w':=by
 have hlen:Hid (l.length=n):=by show _=_;rw [<-T.len];exact R.sl.len
 have hsH:Hid (SrtH l):=hs
 clear hs
 go_enter Tryz.func307,Tryz.ntmps307
 go_wp2_with fail
 go_loopw [9,10,11] (fun i9 i10 _h wr=>∃ (lo hi:Nat),i9=.int .i64 lo∧i10=.int .i64 hi∧lo<=hi∧hi<=n∧Hid ((∀ (t:Nat) (x:Hy),t<lo->l[t]?=some x->bl x.nm.toList s.toList=true)∧(∀ (t:Nat) (x:Hy),hi<=t->l[t]?=some x->bl x.nm.toList s.toList=false))∧Below w.heap.size w wr) (fun i9 i10 _ _=>(intOf i10).toNat-(intOf i9).toNat)
 case atStart=>exact ⟨0,n,rfl,rfl,Nat.zero_le _,Nat.le_refl _,⟨fun t x h=>absurd h (Nat.not_lt_zero _),fun t x h hx=>by have:=(List.getElem?_eq_some_iff.1 hx).1;rw [hlen.out] at this;omega⟩,Below.refl _ _⟩
 case round=>
  obtain ⟨lo,hi,rfl,rfl,hlh,hhn,hI,hB⟩:=hrel
  by_cases hlt:lo<hi
  ·obtain ⟨b,r,y,rfl,hr,hy,hT,c0,c1⟩:=jI_ (R.below hB) (T.below hB) (show (lo+hi) / 2<n by omega)
   obtain ⟨rn,pa,pn,pc⟩:=r
   simp only at c1
   have hy':Hid (l[(lo+hi) / 2]?=some y):=hy
   have hcm:=lE_ y.nm.toList s.toList
   clear hr hy hT
   generalize hbl:bl y.nm.toList s.toList=q at hcm
   have hbl':Hid (bl y.nm.toList s.toList=q):=hbl
   clear hbl
   have hc:=fun u=>ee_ y.nm s pa pn pc u
   generalize Lib.compareBytes y.nm.toList s.toList=z at hcm hc
   cases q
   ·have hz:¬ z<0:=by simpa using hcm
    clear hcm
    go_wp2_with (go_at_call 308;refine (hc _).mono ?_;rintro e w1 ⟨rfl,hB1⟩)
    go_roundw
    case rel=>exact ⟨lo,(lo+hi) / 2,rfl,by go_num,by omega,by omega,⟨hI.out.1,hsH.out.hi hy'.out hbl'.out⟩,chain hB hB1⟩
    case measure=>simp [intOf];omega
   ·have hz:z<0:=by simpa using hcm
    clear hcm
    go_wp2_with (go_at_call 308;refine (hc _).mono ?_;rintro e w1 ⟨rfl,hB1⟩)
    go_roundw
    case rel=>exact ⟨(lo+hi) / 2+1,hi,by go_num,rfl,by omega,by omega,⟨hsH.out.lo hy'.out hbl'.out,hI.out.2⟩,chain hB hB1⟩
    case measure=>simp [intOf];omega
  ·obtain rfl:lo=hi:=by omega
   have hpl:Hid (plH l s=lo):=kL_ (by rw [hlen.out];omega) hI.out.1 hI.out.2
   clear hI
   by_cases hln:lo<n
   ·obtain ⟨b,r,y,rfl,hr,hy,hT,c0,c1⟩:=jI_ (R.below hB) (T.below hB) hln
    obtain ⟨rn,pa,pn,pc⟩:=r
    simp only at c1
    have hh:Hid (hasH l s=(y.nm.toList==s.toList)):=by show _=_;unfold hasH;rw [hpl.out,hy]
    have hcm:=lF_ y.nm.toList s.toList
    clear hr hy hT
    have hc:=fun u=>ee_ y.nm s pa pn pc u
    generalize hbl:(y.nm.toList==s.toList)=q at hcm hh
    clear hbl
    generalize Lib.compareBytes y.nm.toList s.toList=z at hcm hc
    have hl1:(lo:Int)<n:=by omega
    cases q
    ·have hz:¬ z=0:=by simpa using hcm
     have hz2:(z==0)=false:=by simpa using hz
     clear hcm
     go_wp2_with (go_at_call 308;refine (hc _).mono ?_;rintro e w1 ⟨rfl,hB1⟩)
     go_returns
     exact ⟨by rw [hpl.out,hh.out];rfl,chain hB hB1⟩
    ·have hz:z=0:=by simpa using hcm
     clear hcm
     subst hz
     go_wp2_with (go_at_call 308;refine (hc _).mono ?_;rintro e w1 ⟨rfl,hB1⟩)
     go_returns
     exact ⟨by rw [hpl.out,hh.out];rfl,chain hB hB1⟩
   ·have hh:Hid (hasH l s=false):=by
     show _=_
     unfold hasH
     rw [hpl.out,List.getElem?_eq_none (by rw [hlen.out];omega)]
    have hl1:¬ (lo:Int)<n:=by omega
    go_wp2
    go_returns
    exact ⟨by rw [hpl.out,hh.out];rfl,hB⟩
theorem cP_ (B sb:Nat) (a:Option Addr) (n cap:Nat) (rows:List Hr) (l:List Hy) (s:ByteArray) (w:World) (hS:Blk w sb #[.slice a n cap] 207) (R:ResAt hrs 2 253 w B a n cap rows) (T:HsT B w rows l) (hs:SrtH l) (hn:n<=4194304) :
  Calls Tryz.prog 304 #[.pointer (some ⟨sb,0,none⟩),.string s] w fun e w'=>e=.returned (.tuple #[.int .i64 (plH l s:Nat),.bool (hasH l s)])∧Below w.heap.size w w':=by
 have x0:w.cell? ⟨sb,0,none⟩=some (.slice a n cap):=hS.cell 0
 have hc:=jL_ B a n cap rows l s w R T hs hn
 clear hS R T hs
 generalize plH l s=p at *
 generalize hasH l s=q at *
 go_enter Tryz.func304,Tryz.ntmps304
 go_wp2_with (go_at_call 307;refine hc.mono ?_;rintro e w1 ⟨rfl,hB1⟩)
 go_returns
 exact ⟨rfl,hB1⟩
theorem ef_ (B sb:Nat) (a:Option Addr) (n cap:Nat) (rows:List Hr) (l:List Hy) (s:ByteArray) (w:World) (hS:Blk w sb #[.slice a n cap] 207) (R:ResAt hrs 2 253 w B a n cap rows) (T:HsT B w rows l) (hs:SrtH l) (hn:n<=4194304) :
  Calls Tryz.prog 318 #[.pointer (some ⟨sb,0,none⟩),.string s] w fun e w'=>e=.returned (.bool (hasH l s))∧Below w.heap.size w w':=by
 have hc:=cP_ B sb a n cap rows l s w hS R T hs hn
 clear hS R T hs
 generalize plH l s=p at *
 generalize hasH l s=q at *
 go_enter Tryz.func318,Tryz.ntmps318
 go_wp2_with (go_at_call 304;refine hc.mono ?_;rintro e w1 ⟨rfl,hB1⟩)
 go_returns
 exact ⟨rfl,hB1⟩
/-- An append that finds room, also of rows of the same block. -/
theorem kM_ {α:Type} {cs:α->List Value} {size:Nat} {P:Program} {o:Oper} {a:Act} {w:World} {K:Act->World->Prop} {Q:Exit->Act->World->Prop}
  (s x:Operand) (t:TypeId) (ho:o.op=.call {callee:=.builtin .append,args:=#[s,x],argTypes:=#[t,t]})
  (e:TypeId) (i:TypeInfo) (ht:P.underlying t=some (.slice e)) (hi:P.info? e=some i) (hsize:i.size=size)
  (hsz:∀ y,(cs y).length=size) (hone:∀ (l:List α),∀ u∈l.flatMap cs,u.oneCell'=true)
  (b dn dcap:Nat) (c:Array Value) (hs:a.eval s=.slice (some ⟨b,0,none⟩) dn dcap) (hb:Blk w b c e)
  (sb so sn scap:Nat) (ls:List α) (hx:a.eval x=.slice (some ⟨sb,so,none⟩) sn scap) (hsrc:SlAt cs size w (some ⟨sb,so,none⟩) sn ls)
  (hroom:dn+sn<=dcap) (hfit:(dn+sn)*size<=c.size)
  (h:∀ w',Blk w' b (c.toList.take (dn*size)++ls.flatMap cs++c.toList.drop ((dn+sn)*size)).toArray e->w.grownBy w' (some b)->w'.heap.size=w.heap.size->K (a.put o.dst (.slice (some ⟨b,0,none⟩) (dn+sn) dcap)) w'):o.wp P a w K Q:=by
 subst hsize
 have hl:(ls.flatMap cs).length=sn*i.size:=by rw [aT_ hsz,hsrc.len]
 have hr:=run_append_room (P:=P) w t o.type e i ht hi b dn dcap c hb ⟨sb,so,none⟩ sn scap (ls.flatMap cs) hl (SlAt.src hsz hsrc) (hone ls) hroom (by rw [hl,<-Nat.add_mul];exact hfit)
 rw [hl,<-Nat.add_mul] at hr
 unfold Oper.wp execOp
 simp only [ho,resolve,invoke,builtin,Sem.run_bind,Sem.run_pure,Result.andThen_ok,List.map_toArray,List.map_cons,List.map_nil,hs,hx,hr]
 exact h _ (setRow_heap w b c _ e _ hb) ⟨rfl,rfl,rfl,by simp,fun k _ hk=>setRow_other w b k _ (fun e=>hk (by simp [e]))⟩ (by simp)
/-- `clear` of one element. -/
theorem gF_ {P:Program} (w:World) (t e ty:TypeId) (z:Value) (ht:P.underlying t=some (.slice e)) (hv:∀ w,(zeroValue e).run P w=.ok z w) (zs:List Value) (hz:z.cells.toList=zs) (h1:∀ u∈zs,u.oneCell'=true) (b o cp:Nat) (c:Array Value) (e':TypeId) (hb:Blk w b c e') (hfit:o+zs.length<=c.size) :
  (Builtin.clear_ #[t] ty #[.slice (some ⟨b,o,none⟩) 1 cp]).run P w=.ok (.tuple #[]) (w.setRow b (c.toList.take o++zs++c.toList.drop (o+zs.length)).toArray):=by
 have hzc:(Builtin.zeroCells z.cells 1).toList=zs:=by
  rw [<-hz]
  congr 1
  apply Array.ext
  ·simp [Builtin.zeroCells]
  ·intro j h1 h2
   simp [Builtin.zeroCells,Nat.mod_eq_of_lt h2]
   exact getElem!_pos z.cells j h2
 have hst:=run_storeCells_at P b o e' zs 0 c w hb (by simpa using hfit) h1
 simp only [Nat.add_zero] at hst
 simp [Builtin.clear_,run_underlying ht,hv,hzc,hst]
theorem Blk.row {w:World} {b:Nat} {c c':Array Value} {t:TypeId} (h:Blk w b c t):Blk (w.setRow b c') b c' t:=setRow_heap w b c c' t _ h
theorem eC_ (w:World) (b:Nat) (c:Array Value):w.grownBy (w.setRow b c) (some b):=⟨rfl,rfl,rfl,by simp,fun k _ hk=>setRow_other w b k _ (fun e=>hk (by simp [e]))⟩
theorem mG_ {P:Program} (w:World) (t e:TypeId) (z:Value) (ht:P.underlying t=some (.slice e)) (hv:∀ w,(zeroValue e).run P w=.ok z w) (zs:List Value) (hz:z.cells.toList=zs) (h1:∀ u∈zs,u.oneCell'=true) (b o cp:Nat) (c:Array Value) (e':TypeId) (hb:Blk w b c e') (hfit:o+zs.length<=c.size) :
  ∃ W2,(∀ ty,(Builtin.clear_ #[t] ty #[.slice (some ⟨b,o,none⟩) 1 cp]).run P w=.ok (.tuple #[]) W2)∧Blk W2 b (c.toList.take o++zs++c.toList.drop (o+zs.length)).toArray e'∧w.grownBy W2 (some b)∧W2.heap.size=w.heap.size:=
 ⟨_,fun ty=>gF_ w t e ty z ht hv zs hz h1 b o cp c e' hb hfit,hb.row,eC_ _ _ _,by simp⟩
theorem zeroHeld:∀ w:World,(zeroValue 253).run Tryz.prog w=.ok (.agg #[.string .empty,.slice none 0 0]) w:=Tryz.zeroValue253
theorem kN_ {α:Type} {cs:α->List Value} (l:List α) (p:Nat):(l.eraseIdx p).flatMap cs=(l.take p).flatMap cs++(l.drop (p+1)).flatMap cs:=by
 rw [List.eraseIdx_eq_take_drop_succ,List.flatMap_append]
theorem dt_ {α:Type} {cs:α->List Value} {sz:Nat} (hsz:∀ x,(cs x).length=sz):∀ (l:List α) (p:Nat),(l.flatMap cs).take (p*sz)=(l.take p).flatMap cs
 |[],p=>by simp
 |x::r,0=>by simp
 |x::r,p+1=>by
  rw [List.flatMap_cons,List.take_succ_cons,List.flatMap_cons,Nat.add_mul,Nat.one_mul,Nat.add_comm,<-hsz x,List.take_append,List.take_of_length_le (by omega)]
  congr 1
  rw [Nat.add_sub_cancel_left,hsz x]
  exact dt_ hsz r p
/-- The cells behind Delete. -/
theorem mH_ {α:Type} {cs:α->List Value} {sz:Nat} (hsz:∀ x,(cs x).length=sz) {c:Array Value} {n cap p:Nat} {l:List α} {zs:List Value} (hz:zs.length=sz) (hl:l.length=n) (hp:p<n) (hn:n<=cap) (hc:c.size=cap*sz) (ht:c.toList.take (n*sz)=l.flatMap cs) :
  let c1:=(c.toList.take (p*sz)++(l.drop (p+1)).flatMap cs++c.toList.drop ((n-1)*sz)).toArray
  let c2:=(c1.toList.take ((n-1)*sz)++zs++c1.toList.drop ((n-1)*sz+zs.length)).toArray
  c1.size=cap*sz∧c2.size=cap*sz∧c2.toList.take ((n-1)*sz)=(l.eraseIdx p).flatMap cs:=by
 intro c1 c2
 have e0:c.toList.take (p*sz)=(l.take p).flatMap cs:=by
  rw [<-dt_ hsz,<-ht,List.take_take,Nat.min_eq_left (Nat.mul_le_mul_right _ (by omega))]
 have e1:(l.eraseIdx p).length=n-1:=by rw [List.length_eraseIdx,hl];simp [hp]
 have e2:c1.toList=(l.eraseIdx p).flatMap cs++c.toList.drop ((n-1)*sz):=by
  show (c.toList.take (p*sz)++(l.drop (p+1)).flatMap cs++c.toList.drop ((n-1)*sz))=_
  rw [e0,kN_]
 have e3:((l.eraseIdx p).flatMap cs).length=(n-1)*sz:=by rw [aT_ hsz,e1]
 have h1:(n-1)*sz+sz=n*sz:=by rw [<-Nat.succ_mul];congr 1;omega
 have h2:n*sz<=cap*sz:=Nat.mul_le_mul_right _ hn
 have s1:c1.size=cap*sz:=by
  rw [<-Array.length_toList,e2,List.length_append,e3,List.length_drop,Array.length_toList,hc];omega
 have e4:c1.toList.take ((n-1)*sz)=(l.eraseIdx p).flatMap cs:=by rw [e2,<-e3,List.take_left]
 have e5:c2.toList=(l.eraseIdx p).flatMap cs++zs++c1.toList.drop ((n-1)*sz+zs.length):=by
  show (c1.toList.take ((n-1)*sz)++zs++c1.toList.drop ((n-1)*sz+zs.length))=_
  rw [e4]
 have s2:c1.toList.length=cap*sz:=by rw [Array.length_toList];exact s1
 refine ⟨s1,?_,?_⟩
 ·rw [<-Array.length_toList,e5,List.length_append,List.length_append,e3,List.length_drop,s2,hz];omega
 ·rw [e5,List.append_assoc,<-e3,List.take_left]
theorem bn_ {α:Type} {cs:α->List Value} {sz:Nat} (hsz:∀ x,(cs x).length=sz) {t:TypeId} {w:World} {B b n cap:Nat} {l:List α} {c:Array Value} (hb:Blk w b c t) (hB:B<=b) (hl:l.length=n) (hn:n<=cap) (hm:cap<=maxLen) (hc:c.size=cap*sz) (ht:c.toList.take (n*sz)=l.flatMap cs):ResAt cs sz t w B (some ⟨b,0,none⟩) n cap l:=by
 refine ⟨⟨hl,fun i x hx=>⟨b,0,rfl,fun j v hv=>?_⟩⟩,.inr ⟨b,rfl,hB,hn,hm,c,hb,hc,ht⟩⟩
 have h:=hN_ hsz l hx hv
 rw [<-ht] at h
 rw [List.getElem?_take] at h
 split at h
 ·rw [Nat.zero_add,hb.cell,<-Array.getElem?_toList];exact h
 ·cases h
theorem jM_ (B b n cap p:Nat) (rows:List Hr) (w:World) (R:ResAt hrs 2 253 w B (some ⟨b,0,none⟩) n cap rows) (hp:p<n) (hn:n<=4194304) :
  Calls Tryz.prog 305 #[.slice (some ⟨b,0,none⟩) n cap,.int .i64 p,.int .i64 ((p:Int)+1)] w fun e w'=>e=.returned (.slice (some ⟨b,0,none⟩) (n-1) cap)∧ResAt hrs 2 253 w' B (some ⟨b,0,none⟩) (n-1) cap (rows.eraseIdx p)∧w.grownBy w' (some b)∧w'.heap.size=w.heap.size:=by
 have hlen:=R.sl.len
 rcases R.own with ⟨h0,_⟩ | ⟨b',ha,hB,hnc,hcm,c,hb,hc,ht⟩
 ·cases h0
 cases ha
 have hKK:=mH_ (zs:=[.string .empty,.slice none 0 0]) aE_ rfl hlen hp hnc hc ht
 replace hKK:Hid _:=hKK
 obtain ⟨i0,hi,hz0,hz1,hz2⟩:∃ i0,Tryz.prog.info? 253=some i0∧i0.zero=some (.agg #[.string .empty,.slice none 0 0])∧i0.size=2∧i0.bytes=40:=by
  have h:=infoHr
  cases hh:Tryz.prog.info? 253 with
  |none=>rw [hh] at h;cases h
  |some i0=>rw [hh] at h;simp at h;exact ⟨i0,rfl,h.1,h.2.1,h.2.2⟩
 obtain ⟨so,hA,hsrc⟩:∃ so:Nat,(if cap=p+1 then some (⟨b,0,none⟩:Addr) else some ⟨b,(p+1)*2,none⟩)=some ⟨b,so,none⟩∧Hid (SlAt hrs 2 w.drew (some ⟨b,so,none⟩) (n-(p+1)) (rows.drop (p+1))):=by
  by_cases h:cap=p+1
  ·exact ⟨0,by simp [h],⟨by simp [hlen],fun i x hx=>by
    have:=(List.getElem?_eq_some_iff.1 hx).1
    simp [hlen] at this;omega⟩⟩
  ·refine ⟨(p+1)*2,by simp [h],⟨by simp [hlen],fun i x hx=>⟨b,_,rfl,fun j v hv=>?_⟩⟩⟩
   rw [List.getElem?_drop] at hx
   obtain ⟨b2,o2,e2,hc2⟩:=R.sl.cell _ _ hx
   cases e2
   have:=hc2 j v hv
   show w.cell? _=_
   rw [<-this]
   congr 2
   omega
 have hel:(rows.eraseIdx p).length=n-1:=by rw [List.length_eraseIdx,hlen];simp [hp]
 have hpc:p<=cap:=by omega
 have hqc:p+1<=cap:=by omega
 have hz:Hid (2<=c.size∧(p+(n-(p+1)))*2<=c.size):=by
  show _∧_
  omega
 have hnn:p+(n-(p+1))=n-1:=by omega
 clear R ht hlen
 have hne:¬ ((p:Int)=(p:Int)+1):=by omega
 have hq1:(0:Int)<=(p:Int)+1:=by omega
 have hq2:(p:Int)+1<=n:=by omega
 go_enter Tryz.func305,Tryz.ntmps305
 go_wp2_with fail
 have hS0:(fun _:World=>True) w.drew:=trivial
 refine ad_ (S:=(fun _=>True)) 8 (by kernel_rfl) rfl ?_
 refine tk 0 ?_
 refine tk 1 ?_
 refine tk 2 ?_
 refine tk 3 ?_
 refine tk 4 ?_
 refine tk 5 ?_
 refine oneL (i:=6) (by kernel_rfl) rfl (fun K hK=>?_)
 refine aD_ rfl (kM_ _ _ _ rfl 253 i0 Tryz.underlying205 hi hz1 aE_ ds_ b p cap c rfl hb b so (n-(p+1)) (cap-(p+1)) (rows.drop (p+1)) rfl hsrc.out (by omega) hz.out.2 (fun w1 P1 hg1 hs1=>?_))
 rw [hnn] at P1
 rw [hnn]
 dsimp only
 refine hK.out _ _ trivial (fun hHeld=>?_)
 clear hK K
 try simp only [Act.put,lsA,lsB,lsC]
 refine tk 7 ?_
 refine wpAnyH_done (by kernel_rfl) ?_ _
 obtain ⟨W2,hcl,P2,hg2,hs2⟩:=mG_ (P:=Tryz.prog) w1 205 253 _ Tryz.underlying205 zeroHeld [.string .empty,.slice none 0 0] rfl (by simp [Value.oneCell']) b ((n-1)*2) (cap-(n-1)) _ 253 P1 (by rw [hKK.out.1];simp only [List.length_cons,List.length_nil];omega)
 have R2:=bn_ (l:=rows.eraseIdx p) aE_ P2 hB hel (by omega) hcm hKK.out.2.1 hKK.out.2.2
 clear P1 P2 hHeld hS0
 have hG:Hid (w.grownBy W2 (some b)):=⟨hg2.os.trans hg1.os,hg2.tape.trans hg1.tape,hg2.output.trans hg1.output,by have:=hg1.size;have:=hg2.size;simp at *;omega,fun k hk hk2=>(hg2.block k (by have:=hg1.size;simp at this;omega) hk2).trans (hg1.block k hk hk2)⟩
 have hZ:Hid (W2.heap.size=w.heap.size):=by show _=_;rw [hs2,hs1];rfl
 clear hg1 hg2 hs1 hs2 hKK
 have hx1:n-(n-1)=1:=by omega
 have hx2:¬ cap=n-1:=by omega
 have hx3:((n-1:Nat):Int)<=n:=by omega
 have hx4:(0:Int)<=((n-1:Nat):Int):=by omega
 have hx5:(n:Int)<=cap:=by omega
 go_wp2
 go_returns
 exact ⟨rfl,R2,hG.out,hZ.out⟩
end Go.Proofs.YtigldeccfpkdmaaGreatDoor
