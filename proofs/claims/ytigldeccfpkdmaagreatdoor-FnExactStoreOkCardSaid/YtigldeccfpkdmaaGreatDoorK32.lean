/- Marks of a disk. A region, cut behind it: what it leaves in its slots, whatever came up first. Counts that a reader holds, read by the program. -/
import Derived.Test.YtigldeccfpkdmaaGreatDoorK31
import Derived.Test.YtigldeccfpkdmaaGreatDoorK12
import Derived.Test.YtigldeccfpkdmaaGreatDoorK11
namespace Go.Proofs.YtigldeccfpkdmaaGreatDoor
open Go Go.RowKit Go.BigFrame
set_option maxHeartbeats 20000000
set_option maxRecDepth 100000
/-- All is as it was but what lies from B up to T. -/
structure FrD (B T:Nat) (w w':World):Prop where
 os:w'.os=w.os
 tape:w'.tape=w.tape
 output:w'.output=w.output
 size:w.heap.size<=w'.heap.size
 block:∀ k,k<w.heap.size->(k<B∨T<=k)->w'.heap[k]?=w.heap[k]?
theorem FrD.of {B T:Nat} {w w':World} (h:Below w.heap.size w w'):FrD B T w w':=⟨h.os,h.tape,h.output,h.size,fun k hk _=>h.block k hk⟩
theorem FrD.grown {B T:Nat} {w w1 w2:World} {row:Option Nat} (h:FrD B T w w1) (hg:w1.grownBy w2 row) (hr:∀ k,row=some k->B<=k∧k<T):FrD B T w w2:=
 ⟨hg.os.trans h.os,hg.tape.trans h.tape,hg.output.trans h.output,Nat.le_trans h.size hg.size,fun k hk hkk=>by
  rw [hg.block k (Nat.lt_of_lt_of_le hk h.size) (fun e=>by have:=hr k e.symm;omega)]
  exact h.block k hk hkk⟩
theorem FrD.low {B T B':Nat} {w w':World} (h:FrD B T w w') (hb:B'<=B) (hw:B'<=w.heap.size):Below B' w w':=⟨h.os,h.tape,h.output,h.size,fun k hk=>h.block k (by omega) (.inl (by omega))⟩
theorem FrD.blk {B T:Nat} {w w':World} (h:FrD B T w w') {k:Nat} {c:Array Value} {t:TypeId} (hk:Blk w k c t) (hh:k<B∨T<=k):Blk w' k c t:=by
 unfold Blk;rw [h.block k hk.lt hh];exact hk
theorem WrAt.ty {α:Type} {cs:α->List Value} {sz:Nat} {t t':TypeId} {w w':World} {B n cap:Nat} {a:Option Addr} {l:List α} {row:Option Nat} (h:WrAt cs sz t w B a n cap l) (hg:w.grownBy w' row) (hr:RowTy w row t') (ht:t≠t'):WrAt cs sz t w' B a n cap l:=by
 refine h.off hg (fun ad e hc=>?_)
 obtain ⟨c',h'⟩:=hr _ hc.symm
 rcases h.own with ⟨h0,_⟩ | ⟨b,c,ha,_,hb,_⟩
 ·rw [h0] at e;cases e
 ·rw [ha] at e;cases e;exact ht (c2_ hb h')
theorem WrAt.ne {α β:Type} {cs:α->List Value} {cs':β->List Value} {sz sz':Nat} {t t':TypeId} {w:World} {B n cap B' n' cap':Nat} {a a':Option Addr} {l:List α} {l':List β} (h:WrAt cs sz t w B a n cap l) (h':WrAt cs' sz' t' w B' a' n' cap' l') (ht:t≠t'):∀ ad ad',a=some ad->a'=some ad'->ad.block≠ad'.block:=by
 intro ad ad' e e' hh
 rcases h.own with ⟨h0,_⟩ | ⟨b,c,ha,_,hb,_⟩
 ·rw [h0] at e;cases e
 ·rcases h'.own with ⟨h0,_⟩ | ⟨b',c',ha',_,hb',_⟩
  ·rw [h0] at e';cases e'
  ·rw [ha] at e;rw [ha'] at e'
   cases e;cases e'
   simp only at hh
   subst hh
   exact ht (c2_ hb hb')
/-- The disk holds its marks. -/
def MarkDk (w:World) (v:Value) (d:Dk):Prop:=∃ la ln lc sa sn sc oa on oc,v=.agg #[.slice la ln lc,.slice sa sn sc,.slice oa on oc]∧(d.live.length=ln∧d.safe.length=sn∧d.ops.length=on)∧MarkF w la ln 1∧MarkF w sa sn (1+2*ln)∧MarkD w oa on (1+2*ln+2*sn)
theorem MarkDk.below {w w':World} {v:Value} {d:Dk} (h:MarkDk w v d) (hb:Below w.heap.size w w'):MarkDk w' v d:=by
 obtain ⟨la,ln,lc,sa,sn,sc,oa,on,oc,hv,h0,h1,h2,h3⟩:=h
 exact ⟨la,ln,lc,sa,sn,sc,oa,on,oc,hv,h0,h1.below hb,h2.below hb,h3.below hb⟩
theorem twoLJ {P:Program} {Q:Exit->Act->World->Prop} {md:Region.Mode} {S:World->Prop} {l:List Oper} {i j:Nat} {o o':Oper} {fuel:Nat} {listed:Array Bool} {a:Act} {w:World} (hr:Region.ready md l.toArray listed=[i,j]) (hi:l[i]?=some o) (hj:l[j]?=some o')
  (h:∀ K':Act->World->Prop,Shut (∀ a w,S w->(S w->wpAnyH P md l.toArray Q S fuel (listed.setIfInBounds i true) a w)->K' a w)->if Region.wanted o (yielded l.toArray a.tmps)=true then Oper.wp P o a w K' Q else K' (a.put o.dst undef) w)
  (h':∀ K':Act->World->Prop,Shut (∀ a w,S w->(S w->wpAnyH P md l.toArray Q S fuel (listed.setIfInBounds j true) a w)->K' a w)->if Region.wanted o' (yielded l.toArray a.tmps)=true then Oper.wp P o' a w K' Q else K' (a.put o'.dst undef) w) :
  wpAnyH P md l.toArray Q S (fuel+1) listed a w:=
 wpAnyH_ready hr (by simp) (AllReadyH.cons (by simpa using hi) h (AllReadyH.cons (by simpa using hj) h' AllReadyH.nil))
/-- What a region leaves, or how it panics. -/
def CutP (D:List Nat) (a0:Act) (Φ:(Nat->Value)->World->Prop) (Ψ:List PanicEntry->World->Prop):Exit->Act->World->Prop
 |.normal,a,u=>∃ x,a=putAll x D a0∧Φ x u
 |.panic c,a,u=>a.defers=a0.defers∧Ψ c u
 |_,_,_=>False
theorem dd_ {P:Program} {l:List Oper} {Q:Exit->Act->World->Prop} {id:Nat} {a0:Act} {w:World} (S:World->Prop) (n:Nat) (D:List Nat) (Φ:(Nat->Value)->World->Prop) (Ψ:List PanicEntry->World->Prop) (hm:P.follows .mixedOrders=true) (hn:l.toArray.size=n)
  (h1:wpAnyH P .any l.toArray (CutP D a0 Φ Ψ) S n (Array.replicate n false) a0 w.drew) (h2:∀ x u,Φ x u->Q .normal (putAll x D a0) u) (h3:∀ c a u,a.defers=a0.defers->Ψ c u->Q (.panic c) a u):(Code.region id l.toArray true).wp P Q a0 w:=by
 refine Code.wp_mono ?_ (ad_ (S:=S) n hm hn h1)
 intro e a u h
 cases e with
 |normal=>obtain ⟨x,rfl,hx⟩:=h;exact h2 x u hx
 |panic c=>exact h3 c a u h.1 h.2
 |_=>exact h.elim
theorem bo_ {D:List Nat} {a0 a:Act} {Φ:(Nat->Value)->World->Prop} {Ψ:List PanicEntry->World->Prop} {u:World} (hA:a=putAll (fun k=>a.eval (.tmp k)) D a0) (hΦ:Φ (fun k=>a.eval (.tmp k)) u):CutP D a0 Φ Ψ .normal a u:=⟨_,hA,hΦ⟩
theorem eK_ {α:Type} (wd:By) (f:By->Option α) {ls:List By} (h:ahL wd ls=false):manyP wd f ls=some ([],ls):=by
 cases ls with
 |nil=>rfl
 |cons l r=>rw [manyP,if_neg];intro e;rw [show ahL wd (l::r)=ahP wd l from rfl,e] at h;cases h
theorem takeP {P:Program} {D:List Nat} {a0:Act} {Φ:(Nat->Value)->World->Prop} {Ψ:List PanicEntry->World->Prop} {md:Region.Mode} {S:World->Prop} {l:List Oper} {i:Nat} {oi:Oper} {v:Value} {fuel:Nat} {listed:Array Bool} {a:Act} {w:World} (hi:l[i]?=some oi)
  (hs:Region.noSelect l.toArray=true) (hf:Region.free md l.toArray listed i=true) (hr:(Region.ready md l.toArray listed).contains i=true)
  (hy:YieldsIf P l.toArray S oi v a) (hS:S w)
  (h:wpAnyH P md l.toArray (CutP D a0 Φ Ψ) S fuel (listed.setIfInBounds i true) (a.put oi.dst v) w):wpAnyH P md l.toArray (CutP D a0 Φ Ψ) S (fuel+1) listed a w:=
 takeL hi hs hf hr (fun c a w h=>⟨by have:=h.1;revert this;cases oi.dst<;>exact id,h.2⟩) hy hS h
theorem tkp {P:Program} {D:List Nat} {a0:Act} {Φ:(Nat->Value)->World->Prop} {Ψ:List PanicEntry->World->Prop} {md:Region.Mode} {S:World->Prop} {l:List Oper} (i:Nat) {oi:Oper} {v:Value} {fuel:Nat} {listed li:Array Bool} {a b:Act} {w:World} (h:wpAnyH P md l.toArray (CutP D a0 Φ Ψ) S fuel li b w) (hi:l[i]?=some oi:=by rfl)
  (hB:(Region.noSelect l.toArray&&Region.free md l.toArray listed i&&(Region.ready md l.toArray listed).contains i)=true:=by kernel_rfl) (hw:Region.wanted oi (yielded l.toArray a.tmps)=true:=by rfl)
  (hy:∀ w,S w->(execOp a.eval oi).run P w=.ok (.value v) w:=by (intro u hu;(try dsimp only at hu);go_simp<;>with_reducible rfl)) (hS:S w:=by first | assumption | trivial)
  (hl:listed.setIfInBounds i true=li:=by (try simp only [List.setIfInBounds_toArray,List.set_cons_zero,List.set_cons_succ]);rfl) (ha:a.put oi.dst v=b:=by (try simp only [Act.put,lsA,lsB,lsC]);rfl):wpAnyH P md l.toArray (CutP D a0 Φ Ψ) S (fuel+1) listed a w:=by
 subst hl ha
 simp only [Bool.and_eq_true] at hB
 exact takeP hi hB.1.1 hB.1.2 hB.2 (.inl ⟨hw,hy⟩) hS h
theorem cz_ {wd:By} {k:Nat} {l:By} {r:List By} (ha:ahP wd l=true) (h:takP wd k (l::r)=none):(wdsN k l).length≠k+1:=fun e=>by
 unfold takP at h
 simp only at h
 rw [if_pos ha,if_pos e] at h
 cases h
theorem cA_ {wd:By} {k:Nat} {l:By} {r:List By} {q:List By×List By} (ha:ahP wd l=true) (h:takP wd k (l::r)=some q):(wdsN k l).length=k+1∧q=((wdsN k l).tail,r):=by
 unfold takP at h
 simp only at h
 rw [if_pos ha] at h
 split at h
 ·next e=>exact ⟨e,(Option.some.inj h).symm⟩
 ·cases h
theorem len5 {α:Type}:∀ {l:List α},l.length=5->∃ x a b c d,l=[x,a,b,c,d]
 |[x,a,b,c,d],_=>⟨x,a,b,c,d,rfl⟩
theorem oL_ {wd l:By} {r:List By} (ha:ahP wd l=true) (h:takP wd 4 (l::r)=none):ctP l=none:=by
 have:=cz_ ha h
 unfold ctP
 split
 ·next e=>rw [e] at this;simp at this
 ·rfl
theorem oM_ {wd l:By} {r:List By} {q:List By×List By} (ha:ahP wd l=true) (h:takP wd 4 (l::r)=some q):∃ a v f n,q=([a,v,f,n],r)∧ctP l=(numP a).bind fun a=>(numP v).bind fun v=>(numP n).map fun n=>⟨⟨a,v,bA f⟩,n⟩:=by
 obtain ⟨h1,rfl⟩:=cA_ ha h
 obtain ⟨x,a,v,f,n,e⟩:=len5 h1
 refine ⟨a,v,f,n,by rw [e];rfl,?_⟩
 unfold ctP
 rw [e]
theorem dv_ {α:Type} {wd:By} {f:By->Option α} {l:By} {r:List By} (ha:ahP wd l=true):manyP wd f (l::r)=(f l).bind fun x=>(manyP wd f r).map fun q=>(x::q.1,q.2):=by rw [manyP,if_pos ha]
abbrev tO:TypeId:=132
theorem blk3 {w:World} {b:Nat} {c0 c1 c2:Value} {t:TypeId} (h:Blk w b #[c0,c1,c2] t):w.cell? ⟨b,0,none⟩=some c0∧w.cell? ⟨b,1,none⟩=some c1∧w.cell? ⟨b,2,none⟩=some c2:=⟨h.cell 0,h.cell 1,h.cell 2⟩
theorem put3F {w:World} {b:Nat} {c0 c1 c2:Value} {t:TypeId} (h:Blk w b #[c0,c1,c2] t) (x y z:Value):Blk (((w.setCell ⟨b,0,none⟩ x).setCell ⟨b,1,none⟩ y).setCell ⟨b,2,none⟩ z) b #[x,y,z] t∧w.grownBy (((w.setCell ⟨b,0,none⟩ x).setCell ⟨b,1,none⟩ y).setCell ⟨b,2,none⟩ z) (some b):=
 ⟨by have:=((h.set 0 x).set 1 y).set 2 z;simpa using this,ac_ (ac_ (ac_ (World.grownBy.refl _ _) _ _) _ _) _ _⟩
theorem e5_ (rb:Nat) (ls:List By) (wd:ByteArray) (w:World) (h:RdAt w rb ls) (hG:Glb w) (hrb:9<=rb) (hwd:wd.size<=100) (hl:ls.length<=60000) :
  Calls Tryz.prog 98 #[.pointer (some ⟨rb,0,none⟩),.string wd] w fun e w'=>(match manyP wd.data.toList ctP ls with
   |none=>Pan e
   |some q=>∃ a n cap,e=.returned (.slice a n cap)∧ResAt Ct.cs 4 tC w' w.heap.size a n cap q.1∧RdAt w' rb q.2)∧w.grownBy w' (some rb):=by
 obtain ⟨M,hM⟩:∃ M,Hid (manyP wd.data.toList ctP ls=M):=⟨_,rfl⟩
 rw [hM.out]
 have hlt:=h.lt
 obtain ⟨i0,hi0,hz0,hz1,hz2⟩:=info_parts infMC
 go_enter Tryz.func98,Tryz.ntmps98
 go_wp2_with fail
 go_loopw [5] (fun av wr=>∃ (done:List Ct) (rest:List By) (a:Option Addr) (n cap:Nat),av=.slice a n cap∧ResAt Ct.cs 4 tC wr w.heap.size a n cap done∧RdAt wr rb rest∧n+rest.length<=60000∧Hid (M=(manyP wd.data.toList ctP rest).map fun q=>(done++q.1,q.2))∧w.grownBy wr (some rb)) (fun _ wr=>lnV (wr.cell? ⟨rb,0,none⟩))
 case atStart=>exact ⟨[],ls,none,0,0,rfl,aL_,h,by omega,by show _=_;rw [<-hM.out];cases manyP wd.data.toList ctP ls<;>rfl,World.grownBy.refl _ _⟩
 case round=>
  obtain ⟨done,rest,a,n,cap,rfl,R,D,hn,hI,hg⟩:=hrel
  have G:=hG.grown hg hrb
  have hws:=hg.size
  go_wp2_with fail
  refine (bu_ rb rest wd wr D hwd).mono ?_
  rintro e w1 ⟨rfl,hw1⟩
  obtain rfl:wr=w1:=hw1.symm
  cases hah:ahL wd.data.toList rest with
  |false=>
   have hfin:M=some (done,rest):=by rw [hI.out,eK_ _ _ hah];simp
   subst hfin
   go_wp2
   go_returns
   exact ⟨⟨a,n,cap,rfl,R,D⟩,hg⟩
  |true=>
   cases rest with
   |nil=>cases hah
   |cons l r=>
    have ha:ahP wd.data.toList l=true:=hah
    have q:=bX_ rb (l::r) wd 4 wr D G hrb hwd (by omega) (by omega)
    cases ht:takP wd.data.toList 4 (l::r) with
    |none=>
     rw [ht] at q
     have hfin:M=none:=by rw [hI.out,dv_ ha,oL_ ha ht];rfl
     subst hfin
     go_wp2_with fail
     refine q.mono ?_
     rintro e w2 ⟨⟨tp,pe,rfl⟩,hg2⟩
     go_wp2
     exact ⟨rfl,⟨tp,pe,rfl⟩,gstep hg hg2 (fun k e=>by cases e;exact .inr rfl)⟩
    |some qq=>
     rw [ht] at q
     obtain ⟨xa,xv,xf,xn,rfl,hct⟩:=oM_ ha ht
     have hMc:Hid (M=(ctP l).bind fun x=>(manyP wd.data.toList ctP r).map fun q=>(done++x::q.1,q.2)):=by
      show _=_
      rw [hI.out,dv_ ha]
      cases ctP l with
      |none=>rfl
      |some x=>cases manyP wd.data.toList ctP r<;>rfl
     rw [hct] at hMc
     clear hct hI
     go_wp2_with fail
     refine q.mono ?_
     rintro e w2 ⟨⟨wb,wc,rfl,_,hcs,hwc1,hwc2,⟨wcs,WB⟩,D2⟩,hg2⟩
     obtain ⟨c1,z1⟩:=hcs 0 xa rfl
     obtain ⟨c2,z2⟩:=hcs 1 xv rfl
     obtain ⟨c3,z3⟩:=hcs 2 xf rfl
     obtain ⟨c4,z4⟩:=hcs 3 xn rfl
     simp only [Nat.zero_add,Nat.reduceAdd] at c1 c2 c3 c4
     clear hcs q hah ht
     have G2:=G.grown hg2 hrb
     have R2:=R.off hg2 (fun ad e=>by have:=(R.block ad e).1;simp;omega)
     have hgw:=gstep hg hg2 (fun k e=>by cases e;exact .inr rfl)
     have hw2:=hgw.size
     clear hg hg2 R G
     have D0:=D
     clear D
     go_upto_region 4 with fail
     have hSB:∀ u,Below w2.heap.size w2 u->(fun u=>u.cell? ⟨wb,1,none⟩=some (.string (bA xa))∧u.cell? ⟨wb,2,none⟩=some (.string (bA xv))∧u.cell? ⟨wb,3,none⟩=some (.string (bA xf))∧u.cell? ⟨wb,4,none⟩=some (.string (bA xn))) u:=fun u hu=>⟨bcell hu c1,bcell hu c2,bcell hu c3,bcell hu c4⟩
     refine dd_ (fun u=>u.cell? ⟨wb,1,none⟩=some (.string (bA xa))∧u.cell? ⟨wb,2,none⟩=some (.string (bA xv))∧u.cell? ⟨wb,3,none⟩=some (.string (bA xf))∧u.cell? ⟨wb,4,none⟩=some (.string (bA xn))) 14 [14,15,16,17,18,19,20,21,22,23,24,25,7] (fun x u=>∃ ob n1 n2,numP xa=some n1∧x 7=.pointer (some ⟨ob,0,none⟩)∧numP xv=some n2∧Blk u ob #[.int .i64 n1,.int .i64 n2,.string (bA xf)] tO∧Below w2.heap.size w2 u∧w2.heap.size<=ob) (fun c u=>(∃ tp pe,c=[{v:=.iface tp pe,recovered:=false}])∧Below w2.heap.size w2 u∧(numP xa=none∨numP xv=none)) (by kernel_rfl) rfl ?walk4 ?rest4 ?pan4
     case walk4=>
      have hWd:Below w2.heap.size w2 w2.drew:=(Below.refl _ _).drew
      generalize w2.drew=WD at hWd ⊢
      have hS0:=hSB WD hWd
      refine tkp 0 ?_
      refine tkp 1 ?_
      refine tkp 2 ?_
      refine tkp 4 ?_
      refine tkp 5 ?_
      refine tkp 6 ?_
      refine tkp 8 ?_
      refine tkp 9 ?_
      refine tkp 10 ?_
      refine twoLJ (i:=3) (j:=12) (by kernel_rfl) rfl rfl (fun K hK=>?_) (fun K hK=>?_)
      ·skip
       go_simp
       refine (ai_ (bA xa) _ (by omega) (G2.below hWd)).mono ?_
       rw [af_]
       rintro e u1 ⟨hm,hb⟩
       have hU1:=chain hWd hb
       try replace FB:=FB.below hb
       clear hb
       cases hn1:numP xa with
       |none=>
        rw [hn1] at hm
        obtain ⟨tp,pe,rfl⟩:=hm
        exact ⟨rfl,⟨tp,pe,rfl⟩,hU1,(by first | rfl | exact .inl rfl | exact .inl hn1)⟩
       |some n1=>
        rw [hn1] at hm
        subst hm
        dsimp only
        refine hK.out _ _ (hSB u1 hU1) (fun hHeld=>?_)
        clear hK K
        try simp only [Act.put,lsA,lsB,lsC]
        refine twoLJ (i:=7) (j:=12) (by kernel_rfl) rfl rfl (fun K hK=>?_) (fun K hK=>?_)
        ·skip
         go_simp
         refine (ai_ (bA xv) _ (by omega) (G2.below hU1)).mono ?_
         rw [af_]
         rintro e u2 ⟨hm,hb⟩
         have hU2:=chain hU1 hb
         try replace FB:=FB.below hb
         clear hb
         cases hn2:numP xv with
         |none=>
          rw [hn2] at hm
          obtain ⟨tp,pe,rfl⟩:=hm
          exact ⟨rfl,⟨tp,pe,rfl⟩,hU2,(by first | rfl | exact .inr rfl | exact .inr hn2)⟩
         |some n2=>
          rw [hn2] at hm
          subst hm
          dsimp only
          refine hK.out _ _ (hSB u2 hU2) (fun hHeld=>?_)
          clear hK K
          try simp only [Act.put,lsA,lsB,lsC]
          refine tkp 11 ?_
          refine oneL (i:=12) (by kernel_rfl) rfl (fun K hK=>?_)
          go_simp
          have hbu:Below u2.heap.size u2 (u2.alloc (.cells #[.int .i64 0,.int .i64 0,.string ⟨#[]⟩] tO)):=(Below.refl _ _).alloc (Nat.le_refl _) _
          obtain ⟨ob,hob0⟩:∃ ob,ob=u2.heap.size:=⟨_,rfl⟩
          have FB:Blk (u2.alloc (.cells #[.int .i64 0,.int .i64 0,.string ⟨#[]⟩] tO)) ob #[.int .i64 0,.int .i64 0,.string ⟨#[]⟩] tO:=Blk.new' _ _ _ _ hob0
          have hfl:Hid (w2.heap.size<=ob):=by show _<=_;rw [hob0];exact hU2.size
          rw [<-hob0]
          clear hob0
          have hU3:=chain hU2 hbu
          clear hbu
          refine hK.out _ _ (hSB _ hU3) (fun hHeld=>?_)
          clear hK K
          try simp only [Act.put,lsA,lsB,lsC]
          generalize u2.alloc (.cells #[.int .i64 0,.int .i64 0,.string ⟨#[]⟩] tO)=u3 at *
          obtain ⟨t0,t1,t2⟩:=blk3 FB
          have s0:=FB.frozen 0
          have s1:=FB.frozen 1
          have s2:=FB.frozen 2
          refine oneL (i:=13) (by kernel_rfl) rfl (fun K hK=>?_)
          go_simp
          obtain ⟨F9,hg9⟩:=put3F FB (.int .i64 n1) (.int .i64 n2) (.string (bA xf))
          have hU9:=am_ hU3 hg9 hfl.out
          refine hK.out _ _ (hSB _ hU9) (fun hHeld=>?_)
          clear hK K
          try simp only [Act.put,lsA,lsB,lsC]
          refine wpAnyH_done (by kernel_rfl) ?_ _
          refine bo_ (by simp only [putAll,List.foldl_cons,List.foldl_nil,Act.put,Act.eval,List.setIfInBounds_toArray,List.set_cons_zero,List.set_cons_succ,Array.getD_eq_getD_getElem?,List.getElem?_toArray,List.getElem?_cons_succ,List.getElem?_cons_zero,Option.getD_some]) ?_
          exact ⟨ob,n1,n2,(by first | rfl | assumption),(by simp only [Act.eval,Array.getD_eq_getD_getElem?,List.getElem?_toArray,List.getElem?_cons_succ,List.getElem?_cons_zero,Option.getD_some]),(by first | rfl | assumption),F9,hU9,hfl.out⟩
        ·skip
         go_simp
         have hbu:Below u1.heap.size u1 (u1.alloc (.cells #[.int .i64 0,.int .i64 0,.string ⟨#[]⟩] tO)):=(Below.refl _ _).alloc (Nat.le_refl _) _
         obtain ⟨ob,hob0⟩:∃ ob,ob=u1.heap.size:=⟨_,rfl⟩
         have FB:Blk (u1.alloc (.cells #[.int .i64 0,.int .i64 0,.string ⟨#[]⟩] tO)) ob #[.int .i64 0,.int .i64 0,.string ⟨#[]⟩] tO:=Blk.new' _ _ _ _ hob0
         have hfl:Hid (w2.heap.size<=ob):=by show _<=_;rw [hob0];exact hU1.size
         rw [<-hob0]
         clear hob0
         have hU2:=chain hU1 hbu
         clear hbu
         refine hK.out _ _ (hSB _ hU2) (fun hHeld=>?_)
         clear hK K
         try simp only [Act.put,lsA,lsB,lsC]
         generalize u1.alloc (.cells #[.int .i64 0,.int .i64 0,.string ⟨#[]⟩] tO)=u2 at *
         refine oneL (i:=7) (by kernel_rfl) rfl (fun K hK=>?_)
         go_simp
         refine (ai_ (bA xv) _ (by omega) (G2.below hU2)).mono ?_
         rw [af_]
         rintro e u3 ⟨hm,hb⟩
         have hU3:=chain hU2 hb
         try replace FB:=FB.below hb
         clear hb
         cases hn2:numP xv with
         |none=>
          rw [hn2] at hm
          obtain ⟨tp,pe,rfl⟩:=hm
          exact ⟨rfl,⟨tp,pe,rfl⟩,hU3,(by first | rfl | exact .inr rfl | exact .inr hn2)⟩
         |some n2=>
          rw [hn2] at hm
          subst hm
          dsimp only
          refine hK.out _ _ (hSB u3 hU3) (fun hHeld=>?_)
          clear hK K
          try simp only [Act.put,lsA,lsB,lsC]
          refine tkp 11 ?_
          obtain ⟨t0,t1,t2⟩:=blk3 FB
          have s0:=FB.frozen 0
          have s1:=FB.frozen 1
          have s2:=FB.frozen 2
          refine oneL (i:=13) (by kernel_rfl) rfl (fun K hK=>?_)
          go_simp
          obtain ⟨F9,hg9⟩:=put3F FB (.int .i64 n1) (.int .i64 n2) (.string (bA xf))
          have hU9:=am_ hU3 hg9 hfl.out
          refine hK.out _ _ (hSB _ hU9) (fun hHeld=>?_)
          clear hK K
          try simp only [Act.put,lsA,lsB,lsC]
          refine wpAnyH_done (by kernel_rfl) ?_ _
          refine bo_ (by simp only [putAll,List.foldl_cons,List.foldl_nil,Act.put,Act.eval,List.setIfInBounds_toArray,List.set_cons_zero,List.set_cons_succ,Array.getD_eq_getD_getElem?,List.getElem?_toArray,List.getElem?_cons_succ,List.getElem?_cons_zero,Option.getD_some]) ?_
          exact ⟨ob,n1,n2,(by first | rfl | assumption),(by simp only [Act.eval,Array.getD_eq_getD_getElem?,List.getElem?_toArray,List.getElem?_cons_succ,List.getElem?_cons_zero,Option.getD_some]),(by first | rfl | assumption),F9,hU9,hfl.out⟩
      ·skip
       go_simp
       have hbu:Below WD.heap.size WD (WD.alloc (.cells #[.int .i64 0,.int .i64 0,.string ⟨#[]⟩] tO)):=(Below.refl _ _).alloc (Nat.le_refl _) _
       obtain ⟨ob,hob0⟩:∃ ob,ob=WD.heap.size:=⟨_,rfl⟩
       have FB:Blk (WD.alloc (.cells #[.int .i64 0,.int .i64 0,.string ⟨#[]⟩] tO)) ob #[.int .i64 0,.int .i64 0,.string ⟨#[]⟩] tO:=Blk.new' _ _ _ _ hob0
       have hfl:Hid (w2.heap.size<=ob):=by show _<=_;rw [hob0];exact hWd.size
       rw [<-hob0]
       clear hob0
       have hU1:=chain hWd hbu
       clear hbu
       refine hK.out _ _ (hSB _ hU1) (fun hHeld=>?_)
       clear hK K
       try simp only [Act.put,lsA,lsB,lsC]
       generalize WD.alloc (.cells #[.int .i64 0,.int .i64 0,.string ⟨#[]⟩] tO)=u1 at *
       refine oneL (i:=3) (by kernel_rfl) rfl (fun K hK=>?_)
       go_simp
       refine (ai_ (bA xa) _ (by omega) (G2.below hU1)).mono ?_
       rw [af_]
       rintro e u2 ⟨hm,hb⟩
       have hU2:=chain hU1 hb
       try replace FB:=FB.below hb
       clear hb
       cases hn1:numP xa with
       |none=>
        rw [hn1] at hm
        obtain ⟨tp,pe,rfl⟩:=hm
        exact ⟨rfl,⟨tp,pe,rfl⟩,hU2,(by first | rfl | exact .inl rfl | exact .inl hn1)⟩
       |some n1=>
        rw [hn1] at hm
        subst hm
        dsimp only
        refine hK.out _ _ (hSB u2 hU2) (fun hHeld=>?_)
        clear hK K
        try simp only [Act.put,lsA,lsB,lsC]
        refine oneL (i:=7) (by kernel_rfl) rfl (fun K hK=>?_)
        go_simp
        refine (ai_ (bA xv) _ (by omega) (G2.below hU2)).mono ?_
        rw [af_]
        rintro e u3 ⟨hm,hb⟩
        have hU3:=chain hU2 hb
        try replace FB:=FB.below hb
        clear hb
        cases hn2:numP xv with
        |none=>
         rw [hn2] at hm
         obtain ⟨tp,pe,rfl⟩:=hm
         exact ⟨rfl,⟨tp,pe,rfl⟩,hU3,(by first | rfl | exact .inr rfl | exact .inr hn2)⟩
        |some n2=>
         rw [hn2] at hm
         subst hm
         dsimp only
         refine hK.out _ _ (hSB u3 hU3) (fun hHeld=>?_)
         clear hK K
         try simp only [Act.put,lsA,lsB,lsC]
         refine tkp 11 ?_
         obtain ⟨t0,t1,t2⟩:=blk3 FB
         have s0:=FB.frozen 0
         have s1:=FB.frozen 1
         have s2:=FB.frozen 2
         refine oneL (i:=13) (by kernel_rfl) rfl (fun K hK=>?_)
         go_simp
         obtain ⟨F9,hg9⟩:=put3F FB (.int .i64 n1) (.int .i64 n2) (.string (bA xf))
         have hU9:=am_ hU3 hg9 hfl.out
         refine hK.out _ _ (hSB _ hU9) (fun hHeld=>?_)
         clear hK K
         try simp only [Act.put,lsA,lsB,lsC]
         refine wpAnyH_done (by kernel_rfl) ?_ _
         refine bo_ (by simp only [putAll,List.foldl_cons,List.foldl_nil,Act.put,Act.eval,List.setIfInBounds_toArray,List.set_cons_zero,List.set_cons_succ,Array.getD_eq_getD_getElem?,List.getElem?_toArray,List.getElem?_cons_succ,List.getElem?_cons_zero,Option.getD_some]) ?_
         exact ⟨ob,n1,n2,(by first | rfl | assumption),(by simp only [Act.eval,Array.getD_eq_getD_getElem?,List.getElem?_toArray,List.getElem?_cons_succ,List.getElem?_cons_zero,Option.getD_some]),(by first | rfl | assumption),F9,hU9,hfl.out⟩
     case pan4=>
      rintro c a' u hd ⟨⟨tp,pe,rfl⟩,hU,hno⟩
      have hfin:M=none:=by
       rw [hMc.out]
       rcases hno with h | h
       ·rw [h];rfl
       ·rw [h];cases numP xa<;>rfl
      subst hfin
      go_wp2
      exact ⟨hd,⟨tp,pe,rfl⟩,gbelow hgw hU⟩
     case rest4=>
      rintro x u ⟨ob,n1,n2,hn1,e7,hn2,OB,hU,hol⟩
      rw [hn1,hn2] at hMc
      simp only [putAll,List.foldl_cons,List.foldl_nil,e7]
      try simp only [Act.put,lsA,lsB,lsC]
      generalize x 14=s14;generalize x 15=s15;generalize x 16=s16;generalize x 17=s17;generalize x 18=s18;generalize x 19=s19;generalize x 20=s20;generalize x 21=s21;generalize x 22=s22;generalize x 23=s23;generalize x 24=s24;generalize x 25=s25
      clear e7 x
      replace c4:=bcell hU c4
      replace D2:=D2.below hU
      replace WB:=WB.below hU
      replace G2:=G2.below hU
      replace R2:=R2.below hU
      replace hgw:=gbelow hgw hU
      have huz:=hU.size
      clear c1 c2 c3 hSB hn1 hn2 hU
      simp only [List.length_cons] at hn
      go_upto_region 5 with fail
      have hWd:Below u.heap.size u u.drew:=(Below.refl _ _).drew
      replace c4:=bcell hWd c4
      replace D2:=D2.below hWd
      replace WB:=WB.below hWd
      replace G2:=G2.below hWd
      replace R2:=R2.below hWd
      replace OB:=OB.below hWd
      replace hgw:=gbelow hgw hWd
      replace huz:=Nat.le_trans huz hWd.size
      have hS0:(fun u=>(u.cell? ⟨ob,0,none⟩=some (.int .i64 n1)∧u.cell? ⟨ob,1,none⟩=some (.int .i64 n2)∧u.cell? ⟨ob,2,none⟩=some (.string (bA xf)))∧u.cell? ⟨wb,4,none⟩=some (.string (bA xn))) u.drew:=⟨blk3 OB,c4⟩
      refine ad_ (S:=(fun u=>(u.cell? ⟨ob,0,none⟩=some (.int .i64 n1)∧u.cell? ⟨ob,1,none⟩=some (.int .i64 n2)∧u.cell? ⟨ob,2,none⟩=some (.string (bA xf)))∧u.cell? ⟨wb,4,none⟩=some (.string (bA xn)))) 10 (by kernel_rfl) rfl ?_
      generalize u.drew=y0 at *
      clear hWd
      refine tk 0 ?_
      refine tk 1 ?_
      refine tk 2 ?_
      refine tk 3 ?_
      refine tk 4 ?_
      refine oneL (i:=5) (by kernel_rfl) rfl (fun K hK=>?_)
      go_simp
      refine (ai_ (bA xn) _ (by omega) G2).mono ?_
      rw [af_]
      rintro e y1 ⟨hm,hb⟩
      replace c4:=bcell hb c4
      replace D2:=D2.below hb
      replace WB:=WB.below hb
      replace R2:=R2.below hb
      replace OB:=OB.below hb
      replace hgw:=gbelow hgw hb
      replace huz:=Nat.le_trans huz hb.size
      clear hb G2
      cases hn4:numP xn with
      |none=>
       rw [hn4] at hm hMc
       obtain ⟨tp,pe,rfl⟩:=hm
       have hfin:M=none:=hMc.out
       subst hfin
       go_wp2
       exact ⟨rfl,⟨tp,pe,rfl⟩,hgw⟩
      |some n4=>
       rw [hn4] at hm hMc
       subst hm
       dsimp only
       refine hK.out _ _ ⟨blk3 OB,c4⟩ (fun hHeld=>?_)
       clear hK K
       try simp only [Act.put,lsA,lsB,lsC]
       refine tk 6 ?_
       refine oneL (i:=7) (by kernel_rfl) rfl (fun K hK=>?_)
       go_simp
       have hWA:Below y1.heap.size y1 (y1.alloc (.cells (Ct.cs (⟨⟨n1,n2,bA xf⟩,n4⟩:Ct)).toArray tC)):=(Below.refl _ _).alloc (Nat.le_refl _) _
       have L4:=bi_ do_ y1 (⟨⟨n1,n2,bA xf⟩,n4⟩:Ct) tC _ rfl
       replace c4:=bcell hWA c4
       replace D2:=D2.below hWA
       replace WB:=WB.below hWA
       replace R2:=R2.below hWA
       replace OB:=OB.below hWA
       replace hgw:=gbelow hgw hWA
       replace huz:=Nat.le_trans huz hWA.size
       change K _ (y1.alloc (.cells (Ct.cs (⟨⟨n1,n2,bA xf⟩,n4⟩:Ct)).toArray tC))
       generalize y1.alloc (.cells (Ct.cs (⟨⟨n1,n2,bA xf⟩,n4⟩:Ct)).toArray tC)=y2 at *
       clear hWA
       refine hK.out _ _ ⟨blk3 OB,c4⟩ (fun hHeld=>?_)
       clear hK K
       try simp only [Act.put,lsA,lsB,lsC]
       refine oneL (i:=8) (by kernel_rfl) rfl (fun K hK=>?_)
       refine aD_ rfl (bh_ _ _ 24 rfl w.heap.size tC i0 (.agg #[.int .i64 0,.int .i64 0,.string .empty,.int .i64 0]) 40 Tryz.underlying24 hi0 hz0 hz1 hz2 rfl (by decide) do_ hW_ a n cap _ rfl R2 _ 1 1 [(⟨⟨n1,n2,bA xf⟩,n4⟩:Ct)] rfl L4 (fun ad h=>(by cases h;rfl)) (fun h=>(by cases h)) (n+1) rfl (by unfold maxLen;omega) (by omega) (by omega) (fun a4 cap4 w4 R4 hg4 hf4=>?_))
       have hty:=R2.rowTy (m:=n) (k:=cap)
       have D4:=D2.ty hg4 hty (by decide) (by decide)
       have O4:=OB.ty hg4 hty (by decide)
       have hgw4:=gstep hgw hg4 (fun k e=>.inl (bj_ (fun ad e=>(R2.block ad e).1) k e))
       have c5:w4.cell? ⟨wb,4,none⟩=some (.string (bA xn)):=by rw [(WB.ty hg4 hty (by decide)).cell,<-WB.cell];exact c4
       have hI4:Hid (M=(manyP wd.data.toList ctP r).map fun q=>((done++[(⟨⟨n1,n2,bA xf⟩,n4⟩:Ct)])++q.1,q.2)):=by
        show _=_
        rw [hMc.out]
        show (manyP wd.data.toList ctP r).map _=_
        simp
       refine hK.out _ _ ⟨blk3 O4,c5⟩ (fun hHeld=>?_)
       clear hK K
       try simp only [Act.put,lsA,lsB,lsC]
       refine tk 9 ?_
       refine wpAnyH_done (by kernel_rfl) ?_ _
       clear hHeld
       go_wp2
       go_roundw
       case rel=>exact ⟨done++[(⟨⟨n1,n2,bA xf⟩,n4⟩:Ct)],r,a4,n+1,cap4,rfl,R4,D4,by omega,hI4,hgw4⟩
       case measure=>(rw [D4.len,D0.len];simp)
end Go.Proofs.YtigldeccfpkdmaaGreatDoor
