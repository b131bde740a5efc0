/- Taking a file out. What a shelf tells. The change that an op is. A file removed, by the program. slices.Equal at files. A shelf against a list of files: taking out. -/
import Derived.Test.YtigldeccfpkdmaaGreatDoorK26
import Derived.Test.YtigldeccfpkdmaaGreatDoorK02
import Derived.Laws.StructEq
import Derived.Lib.SliceRun
namespace Go.Proofs.YtigldeccfpkdmaaGreatDoor
open Go Go.RowKit Go.BigFrame
set_option maxHeartbeats 20000000
set_option maxRecDepth 100000
theorem f7_ (B sb:Nat) (a:Option Addr) (n cap:Nat) (rows:List Hr) (l:List Hy) (s:ByteArray) (w:World) (hS:Blk w sb #[.slice a n cap] 207) (R:ResAt hrs 2 253 w B a n cap rows) (T:HsT B w rows l) (hs:SrtH l) (hn:n<=4194304) (hh:hasH l s=false) :
  Calls Tryz.prog 302 #[.pointer (some ⟨sb,0,none⟩),.string s] w fun e w'=>e=.returned (.agg #[.string s,.slice none 0 0])∧Below w.heap.size w w':=by
 have hA:Below w.heap.size w (w.alloc (.cells #[.string .empty,.slice none 0 0] 253)):=(Below.refl _ _).alloc (Nat.le_refl _) _
 have D:=Blk.new w #[.string .empty,.slice none 0 0] 253
 have hc:=cP_ B sb a n cap rows l s _ (hS.below hA) (R.below hA) (T.below hA) hs hn
 rw [hh] at hc
 generalize plH l s=p at hc
 clear hS R T hs hh
 go_enter Tryz.func302,Tryz.ntmps302
 go_wp2_with fail
 refine hc.mono ?_
 rintro e w1 ⟨rfl,hB1⟩
 have D1:=D.below hB1
 have hB2:=chain hA hB1
 clear hc D hA hB1
 have z0:=D1.cell 0
 have z1:=D1.cell 1
 have q0:=D1.frozen 0
 have q1:=D1.frozen 1
 simp only [lgA,lgB,lgC] at z0 z1
 go_wp2
 have D2:=(D1.set 0 (.string s)).set 1 (.slice none 0 0)
 simp only [List.setIfInBounds_toArray,List.set_cons_zero,List.set_cons_succ] at D2
 have hg:w1.grownBy ((w1.setCell ⟨w.heap.size,0,none⟩ (.string s)).setCell ⟨w.heap.size,1,none⟩ (.slice none 0 0)) (some w.heap.size):=ac_ (ac_ (World.grownBy.refl _ _) _ _) _ _
 have hB3:=hB2.grown hg hB2.size (fun j e=>by cases e;exact Nat.le_refl _)
 generalize (w1.setCell ⟨w.heap.size,0,none⟩ (.string s)).setCell ⟨w.heap.size,1,none⟩ (.slice none 0 0)=W8 at *
 refine bodyPost_ret (results_cell_row rfl _ W8 w.heap.size _ _ _ _ rfl D2 Tryz.underlying253 rfl (by kernel_rfl)) rfl ?_
 exact ⟨rfl,hB3⟩
theorem bK_ {α:Type} {l:List α} {p i:Nat} {x:α} (h:(l.eraseIdx p)[i]?=some x):∃ j,l[j]?=some x∧j≠p∧j=(if i<p then i else i+1):=by
 rw [List.getElem?_eraseIdx] at h
 split at h
 ·exact ⟨i,h,by omega,by simp [*]⟩
 ·exact ⟨i+1,h,by omega,by simp [*]⟩
theorem HsT.erase {B:Nat} {w:World} {rows:List Hr} {l:List Hy} (h:HsT B w rows l) (p:Nat):HsT B w (rows.eraseIdx p) (l.eraseIdx p):=by
 refine ⟨by rw [List.length_eraseIdx,List.length_eraseIdx,h.len],fun i r y h1 h2=>?_,fun i j r s x y hij h1 h2 hx hy=>?_⟩
 ·obtain ⟨j1,g1,_,e1⟩:=bK_ h1
  obtain ⟨j2,g2,_,e2⟩:=bK_ h2
  rw [<-e1] at e2
  subst e2
  exact h.at' _ r y g1 g2
 ·obtain ⟨j1,g1,_,e1⟩:=bK_ h1
  obtain ⟨j2,g2,_,e2⟩:=bK_ h2
  exact h.apart j1 j2 r s x y (by split at e1<;>split at e2<;>omega) g1 g2 hx hy
/-- All that was there is as it was, but the shelf and the block of its files. -/
def FrS (sb:Nat) (a:Option Addr) (w w':World):Prop:=∀ k,k<w.heap.size->k≠sb->(∀ ad,a=some ad->k≠ad.block)->w'.heap[k]?=w.heap[k]?
theorem FrS.of {sb:Nat} {a:Option Addr} {w w':World} (h:Below w.heap.size w w'):FrS sb a w w':=fun k hk _ _=>h.block k hk
theorem FrS.grown {sb:Nat} {a:Option Addr} {w w1 w2:World} {row:Option Nat} (h:FrS sb a w w1) (hs:w.heap.size<=w1.heap.size) (hg:w1.grownBy w2 row) (hr:∀ k,row=some k->k=sb∨(∃ ad,a=some ad∧k=ad.block)∨w.heap.size<=k):FrS sb a w w2:=fun k hk h1 h2=>by
 rw [hg.block k (by omega) (fun e=>?_)]
 ·exact h k hk h1 h2
 ·rcases hr k e.symm with h3 | ⟨ad,h3,h4⟩ | h3
  ·exact h1 h3
  ·exact h2 ad h3 h4
  ·omega
theorem FrS.from {sb:Nat} {a:Option Addr} {w0 w w':World} (h:FrS sb a w w') (hb:Below w0.heap.size w0 w):FrS sb a w0 w':=fun k hk h1 h2=>(h k (Nat.lt_of_lt_of_le hk hb.size) h1 h2).trans (hb.block k hk)
theorem FrS.blk {sb:Nat} {a:Option Addr} {w w':World} (h:FrS sb a w w') {k:Nat} {c:Array Value} {t:TypeId} (hk:Blk w k c t) (h1:k≠sb) (h2:∀ ad,a=some ad->k≠ad.block):Blk w' k c t:=by
 unfold Blk;rw [h k hk.lt h1 h2];exact hk
/-- What is left when a file was taken out. -/
structure Lifted (B B0 sb:Nat) (a:Option Addr) (n cap p:Nat) (rows:List Hr) (l:List Hy) (r:Hr) (y:Hy) (w w':World):Prop where
 sh:Blk w' sb #[.slice a (n-1) cap] 207
 res:ResAt hrs 2 253 w' B a (n-1) cap (rows.eraseIdx p)
 its:HsT B w' (rows.eraseIdx p) (l.eraseIdx p)
 one:HT B w' r y
 low:Below B0 w w'
 fr:FrS sb a w w'
theorem c8_ (B B0 sb:Nat) (a:Option Addr) (n cap:Nat) (rows:List Hr) (l:List Hy) (s:ByteArray) (w:World) (hS:Blk w sb #[.slice a n cap] 207) (R:ResAt hrs 2 253 w B a n cap rows) (T:HsT B w rows l) (hs:SrtH l) (hn:n<=4194304) (hh:hasH l s=true) (h0:B0<=B) (h1:B0<=sb) :
  Calls Tryz.prog 302 #[.pointer (some ⟨sb,0,none⟩),.string s] w fun e w'=>∃ r y,rows[plH l s]?=some r∧l[plH l s]?=some y∧y.nm.toList=s.toList∧e=.returned (.agg #[.string y.nm,.slice r.pa r.pn r.pc])∧Lifted B B0 sb a n cap (plH l s) rows l r y w w':=by
 have hA:Below w.heap.size w (w.alloc (.cells #[.string .empty,.slice none 0 0] 253)):=(Below.refl _ _).alloc (Nat.le_refl _) _
 have D:=Blk.new w #[.string .empty,.slice none 0 0] 253
 have hc:=cP_ B sb a n cap rows l s _ (hS.below hA) (R.below hA) (T.below hA) hs hn
 have hlen:l.length=n:=by rw [<-T.len];exact R.sl.len
 obtain ⟨y,hy,hnm⟩:∃ y,l[plH l s]?=some y∧y.nm.toList=s.toList:=by
  unfold hasH at hh
  cases hq:l[plH l s]? with
  |none=>rw [hq] at hh;cases hh
  |some y=>rw [hq] at hh;exact ⟨y,rfl,by simpa using hh⟩
 rw [hh] at hc
 generalize plH l s=p at *
 have hp:p<n:=by rw [<-hlen];exact (List.getElem?_eq_some_iff.1 hy).1
 have hsb:=hS.lt
 obtain ⟨b,r,y',rfl,hr,hy',hT,c0,c1⟩:=jI_ R T hp
 rw [hy] at hy'
 cases hy'
 have hbt:Hid (∃ c,Blk w b c 253):=by
  rcases R.own with ⟨e,_⟩ | ⟨b',e,_,_,_,c,hb,_⟩
  ·cases e
  ·cases e;exact ⟨c,hb⟩
 have hbB:B<=b:=(R.block _ rfl).1
 have hbl:b<w.heap.size:=(R.block _ rfl).2
 have hne:sb≠b:=by
  rintro rfl
  obtain ⟨c,hb⟩:=hbt.out
  unfold Blk at hS hb
  rw [hS] at hb
  cases hb
 have hy2:Hid (l[p]?=some y∧y.nm.toList=s.toList∧rows[p]?=some r):=⟨hy,hnm,hr⟩
 clear hy hnm hr hs hh
 have hG:∀ u,Below w.heap.size w u->Blk u sb #[.slice (some ⟨b,0,none⟩) n cap] 207∧ResAt hrs 2 253 u B (some ⟨b,0,none⟩) n cap rows∧HsT B u rows l∧HT B u r y∧u.cell? ⟨b,p*2,none⟩=some (.string y.nm)∧u.cell? ⟨b,p*2+1,none⟩=some (.slice r.pa r.pn r.pc):=fun u hu=>⟨hS.below hu,R.below hu,T.below hu,hT.below hu,bcell hu c0,bcell hu c1⟩
 clear hS R T hT c0 c1 hlen
 obtain ⟨rn,pa,pn,pc⟩:=r
 simp only at hG
 have hp1:(p:Int)<n:=by omega
 have hp2:(0:Int)<=p:=by omega
 go_enter Tryz.func302,Tryz.ntmps302
 go_wp2_with fail
 refine hc.mono ?_
 rintro e w1 ⟨rfl,hB1⟩
 have D1:=D.below hB1
 have hB2:=chain hA hB1
 clear hc D hA hB1
 obtain ⟨S1,R1,T1,N1,d0,d1⟩:=hG w1 hB2
 clear hG
 have x0:=S1.one
 have hA2:Below w1.heap.size w1 (w1.alloc (.cells #[.string y.nm,.slice pa pn pc] 253)):=(Below.refl _ _).alloc (Nat.le_refl _) _
 have xa:=fun ob=>acell (w:=w1) ob x0
 have hw1:=hB2.size
 have hw2:=D1.lt
 go_wp2_with fail
 obtain ⟨cb,hcb⟩:=hbt.out
 have hb2:=(hcb.below hB2).below hA2
 have ht3:=ap_ hb2
 have S2:=S1.below hA2
 have D2:=D1.below hA2
 have F2:=Blk.new w1 #[.string y.nm,.slice pa pn pc] 253
 have T2:=T1.below hA2
 have N2:=N1.below hA2
 have hB3:=chain hB2 hA2
 refine (jM_ B b n cap p rows _ (R1.below hA2) hp hn).mono ?_
 rintro e w3 ⟨rfl,R3,hg3,hs3⟩
 have S3:=S2.grown hg3 hne
 have D3:=D2.grown hg3 (show w.heap.size≠b by omega)
 have F3:=F2.grown hg3 (show w1.heap.size≠b by omega)
 have T3:=(T2.erase p).ty hg3 ht3 (by decide)
 have N3:=N2.ty hg3 ht3 (by decide)
 have hB4:Below B0 w w3:=Below.grown (hB3.mono (show B0<=w.heap.size by omega)) hg3 (by have:=hB3.size;omega) (fun j e=>by cases e;omega)
 have F4:FrS sb (some ⟨b,0,none⟩) w w3:=(FrS.of hB3).grown hB3.size hg3 (fun k e=>.inr (.inl ⟨_,rfl,by cases e;rfl⟩))
 have hsz3:w.heap.size<=w3.heap.size:=by have:=hB3.size;omega
 clear hbt hcb hb2 ht3 S2 D2 F2 T2 N2 hB3 S1 R1 T1 N1 D1 hg3 hA2 x0 xa d0 d1
 have y0:=S3.one
 have y1:=S3.frozen 0
 have z0:=D3.cell 0
 have z1:=D3.cell 1
 have q0:=D3.frozen 0
 have q1:=D3.frozen 1
 have v0:=F3.cell 0
 have v1:=F3.cell 1
 simp only [lgA,lgB,lgC] at z0 z1 v0 v1
 have n1:¬ sb=w1.heap.size:=by omega
 have n2:¬ w1.heap.size=sb:=by omega
 have n3:¬ sb=w.heap.size:=by omega
 have n4:¬ w.heap.size=sb:=by omega
 have n5:¬ w.heap.size=w1.heap.size:=by omega
 have n6:¬ w1.heap.size=w.heap.size:=by omega
 go_wp2
 have hg4:w3.grownBy (w3.setCell ⟨sb,0,none⟩ (.slice (some ⟨b,0,none⟩) (n-1) cap)) (some sb):=ac_ (World.grownBy.refl _ _) _ _
 have S4:Blk (w3.setCell ⟨sb,0,none⟩ (.slice (some ⟨b,0,none⟩) (n-1) cap)) sb #[.slice (some ⟨b,0,none⟩) (n-1) cap] 207:=by simpa using S3.set 0 (.slice (some ⟨b,0,none⟩) (n-1) cap)
 have R4:=R3.ty hg4 (ap_ S3) (by decide)
 have T4:=T3.ty hg4 (ap_ S3) (by decide)
 have N4:=N3.ty hg4 (ap_ S3) (by decide)
 have D4:=D3.grown hg4 n4
 have hw3:=D3.lt
 have hB5:=hB4.grown hg4 (by omega) (fun j e=>by cases e;omega)
 have hw4:=D4.lt
 have F5:=F4.grown hsz3 hg4 (fun k e=>.inl (by cases e;rfl))
 generalize w3.setCell ⟨sb,0,none⟩ (.slice (some ⟨b,0,none⟩) (n-1) cap)=w4 at *
 have hg5:w4.grownBy ((w4.setCell ⟨w.heap.size,0,none⟩ (.string y.nm)).setCell ⟨w.heap.size,1,none⟩ (.slice pa pn pc)) (some w.heap.size):=ac_ (ac_ (World.grownBy.refl _ _) _ _) _ _
 have D5:=(D4.set 0 (.string y.nm)).set 1 (.slice pa pn pc)
 simp only [List.setIfInBounds_toArray,List.set_cons_zero,List.set_cons_succ] at D5
 have S5:=S4.grown hg5 n3
 have R5:=R4.grown hg5 (fun ad e=>by cases e;simp only;omega)
 have T5:=T4.ty hg5 (ap_ D4) (by decide)
 have N5:=N4.ty hg5 (ap_ D4) (by decide)
 have F6:=F5.grown (by omega) hg5 (fun k e=>.inr (.inr (by cases e;exact Nat.le_refl _)))
 have hB6:=hB5.grown hg5 (by omega) (fun j e=>by cases e;omega)
 generalize (w4.setCell ⟨w.heap.size,0,none⟩ (.string y.nm)).setCell ⟨w.heap.size,1,none⟩ (.slice pa pn pc)=W8 at *
 refine bodyPost_ret (results_cell_row rfl _ W8 w.heap.size _ _ _ _ rfl D5 Tryz.underlying253 rfl (by kernel_rfl)) rfl ?_
 exact ⟨⟨rn,pa,pn,pc⟩,y,hy2.out.2.2,hy2.out.1,hy2.out.2.1,rfl,⟨S5,R5,T5,N5,hB6,F6⟩⟩
/-- Pieces put together. -/
def joinB (ps:List ByteArray):ByteArray:=⟨(Lib.join (ps.map (·.data.toList)) []).toArray⟩
def toldF (y:Hy):Fl:=⟨y.nm,joinB y.ps⟩
theorem mI_ (ps:List ByteArray):Lib.lens (ps.map (·.data.toList))=sumP ps:=by
 induction ps with
 |nil=>rfl
 |cons x r ih=>simp [Lib.lens,sumP] at ih ⊢;rw [ih]
theorem jN_ (ps:List ByteArray):(Lib.join (ps.map (·.data.toList)) []).length=sumP ps:=by
 cases ps with
 |nil=>rfl
 |cons x r=>
  have h:=mI_ (x::r)
  rw [List.map_cons] at h
  rw [List.map_cons,Lib.join_length,h];simp
theorem nV_ (a:Option Addr) (n cap:Nat) (ps:List ByteArray) (w:World) (h:SlAt sps 1 w a n ps) (hc:n<=cap) (hlt:∀ ad,a=some ad->ad.block<w.heap.size) (hsum:sumP ps<=140737488355328) (hn:n<=4194304) :
  Calls Tryz.prog 188 #[.slice a n cap,.string ⟨#[]⟩] w fun e w'=>e=.returned (.string (joinB ps))∧Below w.heap.size w w':=by
 have hl:=h.len
 cases ps with
 |nil=>
  simp at hl
  subst hl
  refine (Any.strings_Join_none jnL jnX a cap ⟨#[]⟩ w).mono ?_
  rintro e w' ⟨rfl,rfl⟩
  exact ⟨rfl,Below.refl _ _⟩
 |cons x r=>
  obtain ⟨b,o,rfl,_⟩:=h.cell 0 x rfl
  subst hl
  refine Any.strings_Join jnL jnX b o cap (x::r) ⟨#[]⟩ w (fun j y hy=>?_) (hlt _ rfl) (by omega) hc (by rw [show (⟨#[]⟩:ByteArray).data.toList=[] from rfl,jN_];exact hsum)
  obtain ⟨b',o',e,hcc⟩:=h.cell j y hy
  cases e
  have:=hcc 0 _ rfl
  simpa using this
theorem kO_ (B sb:Nat) (a:Option Addr) (n cap:Nat) (rows:List Hr) (l:List Hy) (w:World) (hS:Blk w sb #[.slice a n cap] 207) (R:ResAt hrs 2 253 w B a n cap rows) (T:HsT B w rows l) (hn:n<=4194304) (hp:∀ y∈l,y.ps.length<=4194304) (hsum:sumH l<=200000) :
  Calls Tryz.prog 156 #[.pointer (some ⟨sb,0,none⟩)] w fun e w'=>(∃ a' cap',e=.returned (.slice a' n cap')∧ResAt Fl.cs 2 123 w' w.heap.size a' n cap' (l.map toldF))∧Below w.heap.size w w':=by
 have hlen:Hid (l.length=n):=by show _=_;rw [<-T.len];exact R.sl.len
 have x0:=hS.one
 go_enter Tryz.func156,Tryz.ntmps156
 go_wp2_with fail
 go_loopw [3,5,11] (fun out _f ix wr=>∃ (k:Nat) (a2:Option Addr) (c2:Nat),k<=n∧ix=.int .i64 k∧out=.slice a2 k c2∧ResAt Fl.cs 2 123 wr w.heap.size a2 k c2 ((l.take k).map toldF)∧Below w.heap.size w wr) (fun _ _ ix _=>n-(intOf ix).toNat)
 case atStart=>exact ⟨0,none,0,Nat.zero_le _,rfl,rfl,by simpa using aL_,Below.refl _ _⟩
 case round=>
  obtain ⟨k,a2,c2,hk,rfl,rfl,R2,hB⟩:=hrel
  by_cases hlt:k<n
  ·obtain ⟨b,r,y,rfl,hr,hy,hT,c0,c1⟩:=jI_ (R.below hB) (T.below hB) hlt
   have hst:Hid ((l.take (k+1)).map toldF=(l.take k).map toldF++[toldF y]):=by
    show _=_
    rw [aO_ hy,List.map_append];rfl
   have hps:sumP y.ps<=200000:=by
    have h1:=hx_ hy
    have h2:=lD_ l (k+1)
    omega
   have hpl:y.ps.length=r.pn:=hT.ps.sl.len
   have hyp:r.pn<=4194304:=by rw [<-hpl];exact hp y (List.mem_of_getElem? hy)
   clear hr hy hpl
   generalize (l.take k).map toldF=G at *
   obtain ⟨rn,pa,pn,pc⟩:=r
   simp only at c1 hyp
   have hpc:pn<=pc:=by
    rcases hT.ps.own with ⟨_,h1,h2⟩ | ⟨_,_,_,h1,_⟩
    ·simp only at h1 h2;omega
    ·exact h1
   have hk1:(k:Int)<n:=by omega
   have hk2:(0:Int)<=k:=by omega
   have hA:Below wr.heap.size wr (wr.alloc (.cells #[.string y.nm,.slice pa pn pc] 253)):=(Below.refl _ _).alloc (Nat.le_refl _) _
   have F:=Blk.new wr #[.string y.nm,.slice pa pn pc] 253
   have hsz:=hB.size
   go_wp2_with fail
   generalize wr.alloc (.cells #[.string y.nm,.slice pa pn pc] 253)=W at *
   have hwA:=hA.size
   have hS0:(fun u=>u.cell? ⟨wr.heap.size,0,none⟩=some (.string y.nm)∧u.cell? ⟨wr.heap.size,1,none⟩=some (.slice pa pn pc)) W.drew:=⟨F.cell 0,F.cell 1⟩
   refine ad_ (S:=(fun u=>u.cell? ⟨wr.heap.size,0,none⟩=some (.string y.nm)∧u.cell? ⟨wr.heap.size,1,none⟩=some (.slice pa pn pc))) 10 (by kernel_rfl) rfl ?_
   refine tk 0 ?_
   refine tk 1 ?_
   refine tk 2 ?_
   refine tk 3 ?_
   refine tk 4 ?_
   refine oneL (i:=5) (by kernel_rfl) rfl (fun K hK=>?_)
   go_simp
   refine (nV_ pa pn pc y.ps _ ((hT.ps.sl.below hA).below (Below.refl _ _).drew) hpc (fun ad e=>by have:=(hT.ps.block ad e).2;show ad.block<W.heap.size;omega) (by omega) hyp).mono ?_
   rintro e w1 ⟨rfl,hB1⟩
   dsimp only
   have F1:=(F.below (Below.refl _ _).drew).below hB1
   have hB2:=chain (chain hB hA) (chain (Below.refl _ _).drew hB1)
   have R3:=((R2.below hA).below (Below.refl _ _).drew).below hB1
   refine hK.out _ _ ⟨F1.cell 0,F1.cell 1⟩ (fun hHeld=>?_)
   clear hK K
   try simp only [Act.put,lsA,lsB,lsC]
   refine tk 6 ?_
   refine oneL (i:=7) (by kernel_rfl) rfl (fun K hK=>?_)
   go_simp
   have hA4:Below w1.heap.size w1 (w1.alloc (.cells #[.string y.nm,.string (joinB y.ps)] 123)):=(Below.refl _ _).alloc (Nat.le_refl _) _
   have F4:=F1.below hA4
   refine hK.out _ _ ⟨F4.cell 0,F4.cell 1⟩ (fun hHeld=>?_)
   clear hK K
   try simp only [Act.put,lsA,lsB,lsC]
   refine oneL (i:=8) (by kernel_rfl) rfl (fun K hK=>?_)
   refine aD_ rfl (a6_ _ _ rfl w.heap.size a2 k c2 G rfl (R3.below hA4) _ 1 1 [toldF y] rfl (bl_ _ (toldF y) _ _ rfl) (fun ad h=>(by cases h;rfl)) (fun h=>(by cases h)) (k+1) rfl (by omega) (by have:=hB2.size;simp;omega) (fun a3 c3 w3 R5 hg3=>?_))
   have F5:=F4.ty hg3 ((R3.below hA4).rowTy (m:=k) (k:=c2)) (by decide)
   have hB5:Below w.heap.size w w3:=Below.grown (chain hB2 hA4) hg3 (chain hB2 hA4).size (aI_ fun ad had=>(R3.block ad had).1)
   dsimp only
   refine hK.out _ _ ⟨F5.cell 0,F5.cell 1⟩ (fun hHeld=>?_)
   clear hK K
   try simp only [Act.put,lsA,lsB,lsC]
   refine tk 9 ?_
   refine wpAnyH_done (by kernel_rfl) ?_ _
   clear hS0 hHeld
   go_wp2
   go_roundw
   case rel=>exact ⟨k+1,a3,c3,by omega,by go_num,rfl,by rw [hst.out];exact R5,hB5⟩
   case measure=>simp [intOf];omega
  ·obtain rfl:k=n:=by omega
   rw [List.take_of_length_le (Nat.le_of_eq hlen.out)] at R2
   go_wp2
   go_returns
   exact ⟨⟨a2,c2,rfl,R2⟩,hB⟩
def chV (o:Dp):Value:=if o.k=1 then .iface 255 (.agg #[.string o.nm,.string o.d]) else if o.k=2 then .iface 257 (.agg #[.string o.nm,.string o.tt]) else .iface 259 (.agg #[.string o.nm])
theorem f8_ (d:ByteArray):emB d=d.toList.isEmpty:=by
 have h:(⟨#[]⟩:ByteArray).toList=[]:=by simp [ByteArray.toList_eq]
 unfold emB
 rw [h]
 cases d.toList<;>rfl
theorem gG_ (k:Int) (nm tt d:ByteArray) (w:World) (h1:nm.size<=9223372036854775807) (h2:tt.size<=9223372036854775807) :
  Calls Tryz.prog 153 #[.agg #[.int .i64 k,.string nm,.string tt,.string d]] w fun e w'=>(∃ v,e=.returned (.tuple #[v,.bool (formB ⟨k,nm,tt,d⟩)])∧(formB ⟨k,nm,tt,d⟩=true->v=chV ⟨k,nm,tt,d⟩))∧Below w.heap.size w w':=by
 have hname:=fun u=>bM_ nm u h1
 have hnamt:=fun u=>bM_ tt u h2
 have hA:Below w.heap.size w (w.alloc (.cells #[.int .i64 k,.string nm,.string tt,.string d] 120)):=(Below.refl _ _).alloc (Nat.le_refl _) _
 have D:=Blk.new w #[.int .i64 k,.string nm,.string tt,.string d] 120
 cases hn:nmB nm
 ·have hf:Hid (formB ⟨k,nm,tt,d⟩=false):=by show _=_;simp [formB,hn]
  rw [hn] at hname
  go_enter Tryz.func153,Tryz.ntmps153
  go_wp2_with (go_at_call 198;refine (hname _).mono ?_;rintro e w1 ⟨rfl,rfl⟩)
  go_returns
  exact ⟨⟨_,by rw [hf.out];rfl,fun h=>by rw [hf.out] at h;cases h⟩,hA⟩
 ·rw [hn] at hname
  by_cases hk1:k=1
  ·subst hk1
   have hf:Hid (formB ⟨1,nm,tt,d⟩=tt.toList.isEmpty):=by show _=_;simp [formB,hn,f8_]
   go_enter Tryz.func153,Tryz.ntmps153
   go_wp2_with (go_at_call 198;refine (hname _).mono ?_;rintro e w1 ⟨rfl,rfl⟩)
   generalize w.alloc (.cells #[.int .i64 1,.string nm,.string tt,.string d] 120)=W at *
   have hS0:(fun u=>u.cell? ⟨w.heap.size,1,none⟩=some (.string nm)∧u.cell? ⟨w.heap.size,2,none⟩=some (.string tt)∧u.cell? ⟨w.heap.size,3,none⟩=some (.string d)) W.drew:=⟨D.cell 1,D.cell 2,D.cell 3⟩
   refine ad_ (S:=(fun u=>u.cell? ⟨w.heap.size,1,none⟩=some (.string nm)∧u.cell? ⟨w.heap.size,2,none⟩=some (.string tt)∧u.cell? ⟨w.heap.size,3,none⟩=some (.string d))) 11 (by kernel_rfl) rfl ?_
   refine tk 0 ?_
   refine tk 1 ?_
   refine tk 2 ?_
   refine tk 3 ?_
   refine tk 4 ?_
   refine tk 5 ?_
   refine tk 6 ?_
   refine tk 7 ?_
   refine tk 8 ?_
   refine tk 9 ?_
   refine tk 10 ?_
   refine wpAnyH_done (by kernel_rfl) ?_ _
   clear hS0
   go_wp2
   go_returns
   exact ⟨⟨_,by rw [hf.out];rfl,fun _=>rfl⟩,hA.drew⟩
  ·by_cases hk2:k=2
   ·subst hk2
    cases ht:nmB tt
    ·have hf:Hid (formB ⟨2,nm,tt,d⟩=false):=by show _=_;simp [formB,hn,ht,f8_]
     rw [ht] at hnamt
     go_enter Tryz.func153,Tryz.ntmps153
     go_wp2_with (go_at_call 198;refine (hname _).mono ?_;rintro e w1 ⟨rfl,rfl⟩)
     generalize w.alloc (.cells #[.int .i64 2,.string nm,.string tt,.string d] 120)=W at *
     have hS0:(fun u=>u.cell? ⟨w.heap.size,1,none⟩=some (.string nm)∧u.cell? ⟨w.heap.size,2,none⟩=some (.string tt)∧u.cell? ⟨w.heap.size,3,none⟩=some (.string d)) W.drew:=⟨D.cell 1,D.cell 2,D.cell 3⟩
     refine ad_ (S:=(fun u=>u.cell? ⟨w.heap.size,1,none⟩=some (.string nm)∧u.cell? ⟨w.heap.size,2,none⟩=some (.string tt)∧u.cell? ⟨w.heap.size,3,none⟩=some (.string d))) 16 (by kernel_rfl) rfl ?_
     refine tk 0 ?_
     refine tk 1 ?_
     refine tk 2 ?_
     refine tk 3 ?_
     refine tk 4 ?_
     refine tk 5 ?_
     refine tk 6 ?_
     refine tk 7 ?_
     refine oneL (i:=8) (by kernel_rfl) rfl (fun K hK=>?_)
     go_simp
     refine (hnamt _).mono ?_
     rintro e w1 ⟨rfl,rfl⟩
     dsimp only
     refine hK.out _ _ (by assumption) (fun hHeld=>?_)
     clear hK K
     try simp only [Act.put,lsA,lsB,lsC]
     refine tk 9 ?_
     refine tku 10 ?_
     refine tku 11 ?_
     refine tku 12 ?_
     refine tk 13 ?_
     refine tk 14 ?_
     refine tk 15 ?_
     refine wpAnyH_done (by kernel_rfl) ?_ _
     clear hS0 hHeld
     go_wp2
     go_returns
     exact ⟨⟨_,by rw [hf.out];rfl,fun h=>by rw [hf.out] at h;cases h⟩,hA.drew⟩
    ·have hf:Hid (formB ⟨2,nm,tt,d⟩=d.toList.isEmpty):=by show _=_;simp [formB,hn,ht,f8_]
     rw [ht] at hnamt
     go_enter Tryz.func153,Tryz.ntmps153
     go_wp2_with (go_at_call 198;refine (hname _).mono ?_;rintro e w1 ⟨rfl,rfl⟩)
     generalize w.alloc (.cells #[.int .i64 2,.string nm,.string tt,.string d] 120)=W at *
     have hS0:(fun u=>u.cell? ⟨w.heap.size,1,none⟩=some (.string nm)∧u.cell? ⟨w.heap.size,2,none⟩=some (.string tt)∧u.cell? ⟨w.heap.size,3,none⟩=some (.string d)) W.drew:=⟨D.cell 1,D.cell 2,D.cell 3⟩
     refine ad_ (S:=(fun u=>u.cell? ⟨w.heap.size,1,none⟩=some (.string nm)∧u.cell? ⟨w.heap.size,2,none⟩=some (.string tt)∧u.cell? ⟨w.heap.size,3,none⟩=some (.string d))) 16 (by kernel_rfl) rfl ?_
     refine tk 0 ?_
     refine tk 1 ?_
     refine tk 2 ?_
     refine tk 3 ?_
     refine tk 4 ?_
     refine tk 5 ?_
     refine tk 6 ?_
     refine tk 7 ?_
     refine oneL (i:=8) (by kernel_rfl) rfl (fun K hK=>?_)
     go_simp
     refine (hnamt _).mono ?_
     rintro e w1 ⟨rfl,rfl⟩
     dsimp only
     refine hK.out _ _ (by assumption) (fun hHeld=>?_)
     clear hK K
     try simp only [Act.put,lsA,lsB,lsC]
     refine tk 9 ?_
     refine tk 10 ?_
     refine tk 11 ?_
     refine tk 12 ?_
     refine tk 13 ?_
     refine tk 14 ?_
     refine tk 15 ?_
     refine wpAnyH_done (by kernel_rfl) ?_ _
     clear hS0 hHeld
     go_wp2
     go_returns
     exact ⟨⟨_,by rw [hf.out];rfl,fun _=>rfl⟩,hA.drew⟩
   ·by_cases hk3:k=3
    ·subst hk3
     cases ht:emB tt
     ·have hf:Hid (formB ⟨3,nm,tt,d⟩=false):=by show _=_;simp [formB,hn,ht];try rw [f8_]
      have hq:tt.toList.isEmpty=false:=by rw [<-f8_];exact ht
      have hq2:¬ tt.toList=(⟨#[]⟩:ByteArray).toList:=by simpa [emB] using ht
      go_enter Tryz.func153,Tryz.ntmps153
      go_wp2_with (go_at_call 198;refine (hname _).mono ?_;rintro e w1 ⟨rfl,rfl⟩)
      generalize w.alloc (.cells #[.int .i64 3,.string nm,.string tt,.string d] 120)=W at *
      have hS0:(fun u=>u.cell? ⟨w.heap.size,1,none⟩=some (.string nm)∧u.cell? ⟨w.heap.size,2,none⟩=some (.string tt)∧u.cell? ⟨w.heap.size,3,none⟩=some (.string d)) W.drew:=⟨D.cell 1,D.cell 2,D.cell 3⟩
      refine ad_ (S:=(fun u=>u.cell? ⟨w.heap.size,1,none⟩=some (.string nm)∧u.cell? ⟨w.heap.size,2,none⟩=some (.string tt)∧u.cell? ⟨w.heap.size,3,none⟩=some (.string d))) 14 (by kernel_rfl) rfl ?_
      refine tk 0 ?_
      refine tk 1 ?_
      refine tk 2 ?_
      refine tk 3 ?_
      refine tk 4 ?_
      refine tk 5 ?_
      refine tk 6 ?_
      refine tk 7 ?_
      refine tku 8 ?_
      refine tku 9 ?_
      refine tku 10 ?_
      refine tk 11 ?_
      refine tk 12 ?_
      refine tk 13 ?_
      refine wpAnyH_done (by kernel_rfl) ?_ _
      clear hS0
      go_wp2
      go_returns
      exact ⟨⟨_,by rw [hf.out];rfl,fun h=>by rw [hf.out] at h;cases h⟩,hA.drew⟩
     ·have hf:Hid (formB ⟨3,nm,tt,d⟩=d.toList.isEmpty):=by show _=_;simp [formB,hn,ht];try rw [f8_]
      have hq:tt.toList.isEmpty=true:=by rw [<-f8_];exact ht
      have hq2:tt.toList=(⟨#[]⟩:ByteArray).toList:=by simpa [emB] using ht
      go_enter Tryz.func153,Tryz.ntmps153
      go_wp2_with (go_at_call 198;refine (hname _).mono ?_;rintro e w1 ⟨rfl,rfl⟩)
      generalize w.alloc (.cells #[.int .i64 3,.string nm,.string tt,.string d] 120)=W at *
      have hS0:(fun u=>u.cell? ⟨w.heap.size,1,none⟩=some (.string nm)∧u.cell? ⟨w.heap.size,2,none⟩=some (.string tt)∧u.cell? ⟨w.heap.size,3,none⟩=some (.string d)) W.drew:=⟨D.cell 1,D.cell 2,D.cell 3⟩
      refine ad_ (S:=(fun u=>u.cell? ⟨w.heap.size,1,none⟩=some (.string nm)∧u.cell? ⟨w.heap.size,2,none⟩=some (.string tt)∧u.cell? ⟨w.heap.size,3,none⟩=some (.string d))) 14 (by kernel_rfl) rfl ?_
      refine tk 0 ?_
      refine tk 1 ?_
      refine tk 2 ?_
      refine tk 3 ?_
      refine tk 4 ?_
      refine tk 5 ?_
      refine tk 6 ?_
      refine tk 7 ?_
      refine tk 8 ?_
      refine tk 9 ?_
      refine tk 10 ?_
      refine tk 11 ?_
      refine tk 12 ?_
      refine tk 13 ?_
      refine wpAnyH_done (by kernel_rfl) ?_ _
      clear hS0
      go_wp2
      go_returns
      exact ⟨⟨_,by rw [hf.out];rfl,fun _=>rfl⟩,hA.drew⟩
    ·have hf:Hid (formB ⟨k,nm,tt,d⟩=false):=by
      show _=_
      have:¬ (1<=k∧k<=3):=by omega
      simp only [formB]
      by_cases h1:1<=k
      ·have h3:¬ k<=3:=by omega
       simp [h3]
      ·simp [h1]
     go_enter Tryz.func153,Tryz.ntmps153
     go_wp2_with (go_at_call 198;refine (hname _).mono ?_;rintro e w1 ⟨rfl,rfl⟩)
     go_returns
     exact ⟨⟨_,by rw [hf.out];rfl,fun h=>by rw [hf.out] at h;cases h⟩,hA⟩
theorem eD_ (B sb:Nat) (a:Option Addr) (n cap:Nat) (rows:List Hr) (l:List Hy) (s:ByteArray) (w:World) (hS:Blk w sb #[.slice a n cap] 207) (R:ResAt hrs 2 253 w B a n cap rows) (T:HsT B w rows l) (hs:SrtH l) (hn:n<=4194304) (hh:hasH l s=false) :
  Calls Tryz.prog 319 #[.agg #[.string s],.pointer (some ⟨sb,0,none⟩)] w fun e w'=>e=.returned (.bool false)∧Below w.heap.size w w':=by
 have hA:Below w.heap.size w (w.alloc (.cells #[.string s] 259)):=(Below.refl _ _).alloc (Nat.le_refl _) _
 have hc:=ef_ B sb a n cap rows l s _ (hS.below hA) (R.below hA) (T.below hA) hs hn
 rw [hh] at hc
 clear hS R T hs hh
 go_enter Tryz.func319,Tryz.ntmps319
 go_wp2_with (go_at_call 318;refine hc.mono ?_;rintro e w1 ⟨rfl,hB1⟩)
 go_returns
 exact ⟨rfl,chain hA hB1⟩
theorem Lifted.from {B B0 sb:Nat} {a:Option Addr} {n cap p:Nat} {rows:List Hr} {l:List Hy} {r:Hr} {y:Hy} {w0 w w':World} (h:Lifted B B0 sb a n cap p rows l r y w w') (hb:Below w0.heap.size w0 w) (h0:B0<=w0.heap.size):Lifted B B0 sb a n cap p rows l r y w0 w':=
 ⟨h.sh,h.res,h.its,h.one,(hb.mono h0).trans h.low,h.fr.from hb⟩
theorem eE_ (B B0 sb:Nat) (a:Option Addr) (n cap:Nat) (rows:List Hr) (l:List Hy) (s:ByteArray) (w:World) (hS:Blk w sb #[.slice a n cap] 207) (R:ResAt hrs 2 253 w B a n cap rows) (T:HsT B w rows l) (hs:SrtH l) (hn:n<=4194304) (hh:hasH l s=true) (h0:B0<=B) (h1:B0<=sb) :
  Calls Tryz.prog 319 #[.agg #[.string s],.pointer (some ⟨sb,0,none⟩)] w fun e w'=>e=.returned (.bool true)∧∃ r y,Lifted B B0 sb a n cap (plH l s) rows l r y w w':=by
 have hA:Below w.heap.size w (w.alloc (.cells #[.string s] 259)):=(Below.refl _ _).alloc (Nat.le_refl _) _
 have D:=Blk.new w #[.string s] 259
 have hsb:=hS.lt
 have hc:=ef_ B sb a n cap rows l s _ (hS.below hA) (R.below hA) (T.below hA) hs hn
 have hl:=fun u (hu:Below w.heap.size w u)=>c8_ B B0 sb a n cap rows l s u (hS.below hu) (R.below hu) (T.below hu) hs hn hh h0 h1
 rw [hh] at hc
 clear hS R T hs hh
 generalize plH l s=p at *
 go_enter Tryz.func319,Tryz.ntmps319
 go_wp2_with fail
 refine hc.mono ?_
 rintro e w1 ⟨rfl,hB1⟩
 have hB2:=chain hA hB1
 have d0:=(D.below hB1).one
 clear hc D hA hB1
 go_wp2_with fail
 refine (hl w1 hB2).mono ?_
 rintro e w2 ⟨r,y,_,_,_,rfl,L⟩
 have L2:=L.from hB2 (by omega)
 clear L hl
 go_wp2
 go_returns
 exact ⟨rfl,r,y,L2⟩
theorem neqFl (p q:Fl) (w:World):(binOp .neq 123 (.agg #[.string p.nm,.string p.d]) (.agg #[.string q.nm,.string q.d])).run Tryz.prog w=.ok (.bool (!eqFl p q)) w:=by
 have u9:=Tryz.underlying9
 have a9:=Tryz.isAgg9
 have z9:=Tryz.sizeOf9
 have hS:Tryz.prog.underlying 123=some (.struct (Tryz.prog.fieldsOf 123)):=by kernel_rfl
 have hp:Tryz.prog.stoodInHeld 123=false:=by kernel_rfl
 rw [run_neq_struct,show (10000:Nat)=9999+1 from rfl,run_equalIn_agg w 9999 123 _ _ hS hp]
 simp only [Program.fieldsOf,Tryz.underlying123]
 clear hS hp
 go_simp
 unfold eqFl
 by_cases h1:p.nm.toList=q.nm.toList<;>by_cases h2:p.d.toList=q.d.toList<;>simp [h1,h2]
theorem jO_ (a:Option Addr) (n cap:Nat) (l:List Fl) (a':Option Addr) (n' cap':Nat) (m:List Fl) (w:World) (h:FlsAt w a n l) (h':FlsAt w a' n' m) (hn:n<=4194304) (hn':n'<=4194304) :
  Calls Tryz.prog 155 #[.slice a n cap,.slice a' n' cap'] w fun e w'=>e=.returned (.bool (eqFls l m))∧Below w.heap.size w w':=by
 have hlen:Hid (l.length=n):=h.len
 have hlen':Hid (m.length=n'):=h'.len
 by_cases hne:n=n'
 ·subst hne
  have hbn:((n:Int) != (n:Int))=false:=by simp
  go_enter Tryz.func155,Tryz.ntmps155
  go_wp2_with fail
  go_loopw [5,13] (fun _i ix wr=>∃ (k:Nat),k<=n∧ix=.int .i64 k∧Hid (eqFls l m=eqFls (l.drop k) (m.drop k))∧Below w.heap.size w wr) (fun _ ix _=>n-(intOf ix).toNat)
  case atStart=>exact ⟨0,Nat.zero_le _,rfl,rfl,Below.refl _ _⟩
  case round=>
   obtain ⟨k,hk,rfl,hI,hB⟩:=hrel
   by_cases hlt:k<n
   ·obtain ⟨b,o,p,rfl,hp,c0,c1⟩:=bk_ (h.below hB) hlt
    obtain ⟨b',o',q,rfl,hq,d0,d1⟩:=bk_ (h'.below hB) hlt
    have hd:Hid (l.drop k=p::l.drop (k+1)):=aj_ hp
    have hd':Hid (m.drop k=q::m.drop (k+1)):=aj_ hq
    clear hp hq
    have hk1:(k:Int)<n:=by omega
    have hk2:(0:Int)<=k:=by omega
    have hneq:=neqFl p q
    cases hpq:eqFl p q
    all_goals rw [hpq] at hneq
    ·go_wp2_with fail
     go_quiet (fail)
     have hB2:=below_drewN hB nq
     go_wp2
     go_returns
     go_light
     refine ⟨ab_ ?_,hB2⟩
     rw [hI.out,hd.out,hd'.out];simp only [eqFls,hpq,Bool.false_and]
    ·go_wp2_with fail
     go_quiet (fail)
     have hB2:=below_drewN hB nq
     go_wp2
     go_roundw
     case rel=>exact ⟨k+1,by omega,by go_num,by show _=_;rw [hI.out,hd.out,hd'.out];simp only [eqFls,hpq,Bool.true_and],hB2⟩
     case measure=>simp [intOf];omega
   ·obtain rfl:k=n:=by omega
    go_wp2
    go_returns
    go_light
    refine ⟨ab_ ?_,hB⟩
    rw [hI.out,List.drop_of_length_le (Nat.le_of_eq hlen.out),List.drop_of_length_le (Nat.le_of_eq hlen'.out)];rfl
 ·have hbn:((n:Int) != (n':Int))=true:=by simp;omega
  go_enter Tryz.func155,Tryz.ntmps155
  go_wp2
  go_returns
  go_light
  refine ⟨ab_ ?_,Below.refl _ _⟩
  rw [ez_ (by rw [hlen.out,hlen'.out];exact hne)]
end Go.Proofs.YtigldeccfpkdmaaGreatDoor
namespace Go.Proofs.YtigldeccfpkdmaaGreatDoor
open Go Go.RowKit
set_option maxHeartbeats 20000000
set_option maxRecDepth 100000
theorem eg_ {α:Type} (f:α->Bool):∀ (l:List α) (p:Nat) (y:α),l[p]?=some y->f y=false->(∀ (j:Nat) (x:α),j≠p->l[j]?=some x->f x=true)->l.filter f=l.eraseIdx p
 |[],p,y,h,_,_=>by simp at h
 |x::r,0,y,h,hy,hall=>by
  simp at h
  subst h
  have hr:r.filter f=r:=List.filter_eq_self.2 fun z hz=>by
   obtain ⟨i,hi⟩:=List.mem_iff_getElem?.1 hz
   exact hall (i+1) z (by omega) (by simpa using hi)
  simp [hy,hr]
 |x::r,p+1,y,h,hy,hall=>by
  have hx:=hall 0 x (by omega) rfl
  have ih:=eg_ f r p y (by simpa using h) hy (fun j z hj hz=>hall (j+1) z (by omega) (by simpa using hz))
  simp [hx,ih]
theorem kP_ {l:List Hy} (hs:SrtH l) {s:ByteArray} {j:Nat} {y:Hy} (hy:l[j]?=some y) (he:y.nm.toList=s.toList):plH l s=j:=by
 refine kL_ (Nat.le_of_lt (List.getElem?_eq_some_iff.1 hy).1) (fun t x ht hx=>?_) (fun t x ht hx=>?_)
 ·rw [<-he];exact hs t j x y ht hx hy
 ·by_cases h:t=j
  ·subst h;rw [hy] at hx;cases hx;rw [he];exact bV_ _
  ·have:=hs j t y x (by omega) hy hx
   rw [he] at this
   exact dU_ this
theorem kQ_ {l:List Hy} (hs:SrtH l) {s:ByteArray} {j:Nat} {y:Hy} (hy:l[j]?=some y) (he:y.nm.toList=s.toList):hasH l s=true:=by
 unfold hasH
 rw [kP_ hs hy he,hy]
 simp [he]
theorem hz_ {l:List Hy} (hs:SrtH l) {s:ByteArray} (hh:hasH l s=false):cutF s (l.map toldF)=l.map toldF:=by
 refine List.filter_eq_self.2 fun z hz=>?_
 obtain ⟨y,hy,rfl⟩:=List.mem_map.1 hz
 obtain ⟨j,hj⟩:=List.mem_iff_getElem?.1 hy
 by_cases he:y.nm.toList=s.toList
 ·rw [kQ_ hs hj he] at hh;cases hh
 ·simpa [toldF] using he
theorem nW_ {l:List Hy} (hs:SrtH l) {s:ByteArray} (hh:hasH l s=true):cutF s (l.map toldF)=(l.eraseIdx (plH l s)).map toldF:=by
 obtain ⟨y,hy,he⟩:∃ y,l[plH l s]?=some y∧y.nm.toList=s.toList:=by
  unfold hasH at hh
  cases hq:l[plH l s]? with
  |none=>rw [hq] at hh;cases hh
  |some y=>rw [hq] at hh;exact ⟨y,rfl,by simpa using hh⟩
 unfold cutF
 rw [List.filter_map,eg_ _ l (plH l s) y hy (by simp [toldF,he]) (fun j x hj hx=>?_)]
 by_cases h:x.nm.toList=s.toList
 ·exact absurd (kP_ hs hx h).symm hj
 ·simpa [toldF] using h
theorem SrtH.erase {l:List Hy} (hs:SrtH l) (p:Nat):SrtH (l.eraseIdx p):=by
 intro i j x y hij hx hy
 obtain ⟨i1,g1,_,e1⟩:=bK_ hx
 obtain ⟨j1,g2,_,e2⟩:=bK_ hy
 exact hs i1 j1 x y (by split at e1<;>split at e2<;>omega) g1 g2
end Go.Proofs.YtigldeccfpkdmaaGreatDoor
