/- A volume that a writer writes. What the text of a pool says: plain. -/
import Derived.Test.YtigldeccfpkdmaaGreatDoorK03
import Derived.Test.YtigldeccfpkdmaaGreatDoorK08
namespace Go.Proofs.YtigldeccfpkdmaaGreatDoor
open Go Go.RowKit Go.BigFrame Go.Shelf
set_option maxHeartbeats 20000000
set_option maxRecDepth 100000
/-- What the lines of parts, items and a volume say. -/
def ptW (p:Pt):List ByteArray:=[⟨#[112,97,114,116]⟩,decB p.a,decB p.f,decB p.n]
def partsW (l:List Pt):List UInt8:=l.flatMap (fun p=>lineL (ptW p))
def itW (x:It):List UInt8:=lineL [⟨#[102,105,108,101]⟩,x.nm]++partsW x.ps
def itsW (l:List It):List UInt8:=l.flatMap itW
def flagB (b:Bool):ByteArray:=if b then ⟨#[49]⟩ else ⟨#[48]⟩
def voW (v:Vo):List ByteArray:=[⟨#[118,111,108,117,109,101]⟩,decB v.id,v.nm,flagB v.fx]
def volW (v:Vo):List UInt8:=lineL (voW v)++itsW v.its
theorem ch_ {l:List Pt} {k:Nat} {p:Pt} (h:l[k]?=some p):partsW (l.take (k+1))=partsW (l.take k)++lineL (ptW p):=by
 unfold partsW
 rw [aO_ h,List.flatMap_append];simp
theorem dm_ {l:List It} {k:Nat} {x:It} (h:l[k]?=some x):itsW (l.take (k+1))=itsW (l.take k)++itW x:=by
 unfold itsW
 rw [aO_ h,List.flatMap_append];simp
theorem cI_ {α:Type} (f:α->List UInt8) (l:List α) (k:Nat):((l.take k).flatMap f).length<=(l.flatMap f).length:=by
 conv=>rhs;rw [<-List.take_append_drop k l,List.flatMap_append,List.length_append]
 omega
/-- Numbers of a file's parts, an item's, a volume's. -/
def NumP (l:List Pt):Prop:=∀ p∈l,Num p.a∧Num p.f∧Num p.n
theorem fourX {w:World} {b:Nat} {c0 c1 c2 c3:Value} {t:TypeId} (h:Blk w b #[c0,c1,c2,c3] t):w.cell? ⟨b,0,none⟩=some c0∧w.cell? ⟨b,1,none⟩=some c1∧w.cell? ⟨b,2,none⟩=some c2∧w.cell? ⟨b,3,none⟩=some c3:=⟨h.cell 0,h.cell 1,h.cell 2,h.cell 3⟩
theorem lenItem {P:List UInt8} {l:List It} {k:Nat} {x:It} (h:l[k]?=some x) (hl:(P++itsW l).length<=1000000):(P++itsW (l.take k)++itW x).length<=1000000:=by
 have h1:=cI_ itW l (k+1)
 have h2:=congrArg List.length (dm_ h)
 unfold itsW at h2 hl ⊢
 rw [List.length_append] at h2 hl
 rw [List.length_append,List.length_append]
 omega
theorem lenPart {P:List UInt8} {l:List Pt} {k:Nat} {p:Pt} (h:l[k]?=some p) (hl:(P++partsW l).length<=1000000):(P++partsW (l.take k)).length+(lineL (ptW p)).length<=1000000:=by
 have h1:=cI_ (fun p=>lineL (ptW p)) l (k+1)
 have h2:=congrArg List.length (ch_ h)
 unfold partsW at h2 hl ⊢
 rw [List.length_append] at h2 hl ⊢
 omega
theorem er_ (B b:Nat) (l:List UInt8) (v:Vo) (Bx:Nat) (ia:Option Addr) (inn ic:Nat) (w0 w:World) (hfx:v.fx=true) (hI:ItsAt Bx w0 ia inn v.its) (hw:Below w0.heap.size w0 w) (hwB:w0.heap.size<=B) (h:Wr B b l w) (ht:TabP w) (hg:9<=B) (hBw:B<=w.heap.size) (n1:Num v.id) (n2:∀ x∈v.its,NumP x.ps) (hn:inn<=4194304) (hpn:∀ x∈v.its,x.ps.length<=4194304) (hlen:(l++volW v).length<=1000000) :
  Calls Tryz.prog 128 #[.pointer (some ⟨b,0,none⟩),.agg #[.int .i64 v.id,.string v.nm,.bool true,.slice ia inn ic]] w fun e w'=>e=.returned (.tuple #[])∧Wr B b (l++volW v) w'∧Below B w w'∧Lib.OthersKept 5 (some b) w w':=by
 have hlenI:Hid (v.its.length=inn):=hI.len
 obtain ⟨a1,a2⟩:=n1
 have hblt:=h.lt
 obtain ⟨da,hda⟩:∃ x,decB v.id=x:=⟨_,rfl⟩
 have hvo:voW v=[⟨#[118,111,108,117,109,101]⟩,da,v.nm,⟨#[49]⟩]:=by unfold voW flagB;rw [hda,hfx];rfl
 have hvw:volW v=lineL [⟨#[118,111,108,117,109,101]⟩,da,v.nm,⟨#[49]⟩]++itsW v.its:=by unfold volW;rw [hvo]
 rw [hvw] at hlen ⊢
 obtain ⟨L0,hL0⟩:∃ x,l++lineL [⟨#[118,111,108,117,109,101]⟩,da,v.nm,⟨#[49]⟩]=x:=⟨_,rfl⟩
 have hlen1:l.length+(lineL [⟨#[118,111,108,117,109,101]⟩,da,v.nm,⟨#[49]⟩]).length<=1000000:=by
  rw [List.length_append,List.length_append] at hlen
  omega
 rw [<-List.append_assoc,hL0] at hlen ⊢
 have C:=Blk.new w #[.int .i64 v.id,.string v.nm,.bool true,.slice ia inn ic] 128
 have hB0:Below w.heap.size w (w.alloc (.cells #[.int .i64 v.id,.string v.nm,.bool true,.slice ia inn ic] 128)):=(Below.refl _ _).alloc (Nat.le_refl _) _
 obtain ⟨x0,x1,x2,x3⟩:=fourX C
 clear hvo hvw hfx
 go_enter Tryz.func128,Tryz.ntmps128
 go_wp2_with fail
 clear x0 x1 x2 x3
 generalize w.alloc (.cells #[.int .i64 v.id,.string v.nm,.bool true,.slice ia inn ic] 128)=W at *
 have hSB:∀ u:World,Below W.heap.size W u->u.cell? ⟨w.heap.size,0,none⟩=some (.int .i64 v.id)∧u.cell? ⟨w.heap.size,1,none⟩=some (.string v.nm)∧u.cell? ⟨w.heap.size,2,none⟩=some (.bool true)∧u.cell? ⟨w.heap.size,3,none⟩=some (.slice ia inn ic):=fun u hu=>fourX (C.below hu)
 have hS0:(fun u:World=>u.cell? ⟨w.heap.size,0,none⟩=some (.int .i64 v.id)∧u.cell? ⟨w.heap.size,1,none⟩=some (.string v.nm)∧u.cell? ⟨w.heap.size,2,none⟩=some (.bool true)∧u.cell? ⟨w.heap.size,3,none⟩=some (.slice ia inn ic)) W.drew:=(hSB _ (Below.refl _ W).drew)
 refine av_ (S:=(fun u:World=>u.cell? ⟨w.heap.size,0,none⟩=some (.int .i64 v.id)∧u.cell? ⟨w.heap.size,1,none⟩=some (.string v.nm)∧u.cell? ⟨w.heap.size,2,none⟩=some (.bool true)∧u.cell? ⟨w.heap.size,3,none⟩=some (.slice ia inn ic))) 9 (by kernel_rfl) rfl ?_
 refine tk 0 ?_ (hy:=by intro u hu;obtain ⟨u0,u1,u2,u3⟩:=hu;go_simp<;>with_reducible rfl)
 refine tk 1 ?_ (hy:=by intro u hu;obtain ⟨u0,u1,u2,u3⟩:=hu;go_simp<;>with_reducible rfl)
 refine tk 2 ?_ (hy:=by intro u hu;obtain ⟨u0,u1,u2,u3⟩:=hu;go_simp<;>with_reducible rfl)
 refine tk 4 ?_ (hy:=by intro u hu;obtain ⟨u0,u1,u2,u3⟩:=hu;go_simp<;>with_reducible rfl)
 refine tk 5 ?_ (hy:=by intro u hu;obtain ⟨u0,u1,u2,u3⟩:=hu;go_simp<;>with_reducible rfl)
 refine tk 6 ?_ (hy:=by intro u hu;obtain ⟨u0,u1,u2,u3⟩:=hu;go_simp<;>with_reducible rfl)
 refine oneL (i:=3) (by kernel_rfl) rfl (fun K hK=>?_)
 go_simp
 refine (ak_ v.id W.drew (by omega) (by omega) (aK_ ht (hB0.drew.mono hBw) hg)).mono ?_
 rintro e w1 ⟨rfl,hB1'⟩
 rw [hda]
 have hB1:Below W.heap.size W w1:=chain (Below.refl _ W).drew hB1'
 dsimp only
 refine hK.out _ _ (hSB _ hB1) (fun hHeld=>?_)
 clear hK K
 try simp only [Act.put,lsA,lsB,lsC]
 refine oneL (i:=7) (by kernel_rfl) rfl (fun K hK=>?_)
 go_simp
 have hA4:Below w1.heap.size w1 (w1.alloc (.cells #[.string ⟨#[118,111,108,117,109,101]⟩,.string da,.string v.nm,.string ⟨#[49]⟩] 9)):=(Below.refl _ _).alloc (Nat.le_refl _) _
 have X4:=Blk.new w1 #[.string ⟨#[118,111,108,117,109,101]⟩,.string da,.string v.nm,.string ⟨#[49]⟩] 9
 have hB4:=chain hB1 hA4
 have hC4:=chain hB0 hB4
 have hz4:=hC4.size
 have hz3:=X4.lt
 refine hK.out _ _ (hSB _ hB4) (fun hHeld=>?_)
 clear hK K
 try simp only [Act.put,lsA,lsB,lsC]
 generalize w1.alloc (.cells #[.string ⟨#[118,111,108,117,109,101]⟩,.string da,.string v.nm,.string ⟨#[49]⟩] 9)=w4 at *
 refine oneL (i:=8) (by kernel_rfl) rfl (fun K hK=>?_)
 go_simp
 refine (a0_ B b l [⟨#[118,111,108,117,109,101]⟩,da,v.nm,⟨#[49]⟩] w1.heap.size 0 4 w4 (h.below hC4) (sl5 (ps:=[⟨#[118,111,108,117,109,101]⟩,da,v.nm,⟨#[49]⟩]) X4) hz3 (by simp) hlen1 (by simp) (by omega)).mono ?_
 rintro e w5 ⟨rfl,h5,hB5,hk5⟩
 rw [hL0] at h5
 have C5:=(C.below hB4).ok hk5 (by omega) (by decide)
 dsimp only
 refine hK.out _ _ (fourX C5) (fun hHeld=>?_)
 clear hK K
 try simp only [Act.put,lsA,lsB,lsC]
 refine wpAnyH_done (by kernel_rfl) ?_ _
 have x3:=C5.cell 3
 simp only [lgA,lgB,lgC] at x3
 have hBw5:=(hC4.mono hBw).trans hB5
 have hkw5:=(bG_ hC4:Lib.OthersKept 5 (some b) w w4).trans hk5
 clear hS0 hHeld hSB X4 hB4 hC4 hA4 hB1 hB1' hB5 hk5 hlen1 hz3 hz4
 go_wp2_with fail
 go_loopw [23] (fun ix wr=>∃ (k:Nat),k<=inn∧ix=.int .i64 k∧Wr B b (L0++itsW (v.its.take k)) wr∧Below B w wr∧Lib.OthersKept 5 (some b) w wr) (fun ix _=>inn-(intOf ix).toNat)
 case atStart=>exact ⟨0,Nat.zero_le _,rfl,by simpa [itsW] using h5,hBw5,hkw5⟩
 case round=>
  clear h5 hBw5 hkw5 C5 x3
  obtain ⟨k,hk,rfl,h6,hB6,hk6⟩:=hrel
  have hwr:Below w0.heap.size w0 wr:=hw.trans (hB6.mono hwB)
  by_cases hlt:k<inn
  ·obtain ⟨b',o',x,pa,pn,pc,rfl,hx,c0,c1,hP,_,_,_⟩:=bt_ hI hlt
   have hxm:=List.mem_of_getElem? hx
   have hpl:pn<=4194304:=by rw [<-hP.len];exact hpn x hxm
   have hnp:=n2 x hxm
   have hst:Hid (itsW (v.its.take (k+1))=itsW (v.its.take k)++itW x):=dm_ hx
   have hlx:=lenItem hx hlen
   obtain ⟨P0,hP0⟩:∃ P,Hid (L0++itsW (v.its.take k)=P):=⟨_,rfl⟩
   rw [hP0.out] at h6 hlx
   have d0:=bcell hwr c0
   have d1:=bcell hwr c1
   have hk1:(k:Int)<inn:=by omega
   have hk2:(0:Int)<=k:=by omega
   have hplen:Hid (x.ps.length=pn):=hP.len
   have hz6:=hB6.size
   have hi1:P0.length+(lineL [⟨#[102,105,108,101]⟩,x.nm]).length<=1000000:=by
    unfold itW at hlx
    rw [List.length_append,List.length_append] at hlx
    omega
   obtain ⟨P1,hP1⟩:∃ P,Hid (P0++lineL [⟨#[102,105,108,101]⟩,x.nm]=P):=⟨_,rfl⟩
   have hl1:Hid ((P1++partsW x.ps).length<=1000000):=by
    show _<=_
    rw [<-hP1.out]
    unfold itW at hlx
    rw [List.append_assoc]
    exact hlx
   clear hx hlx c0 c1
   go_wp2_with fail
   have hA1:Below wr.heap.size wr (wr.alloc (.cells #[.string x.nm,.slice pa pn pc] 139)):=(Below.refl _ _).alloc (Nat.le_refl _) _
   have I1:=Blk.new wr #[.string x.nm,.slice pa pn pc] 139
   have hs1:(wr.alloc (.cells #[.string x.nm,.slice pa pn pc] 139)).heap.size=wr.heap.size+1:=by simp
   generalize wr.alloc (.cells #[.string x.nm,.slice pa pn pc] 139)=W1 at *
   have hA2:Below W1.heap.size W1 (W1.alloc (.cells #[.string ⟨#[102,105,108,101]⟩,.string x.nm] 9)):=(Below.refl _ _).alloc (Nat.le_refl _) _
   have F2:=Blk.new W1 #[.string ⟨#[102,105,108,101]⟩,.string x.nm] 9
   rw [hs1] at F2
   have hAA:=chain hA1 hA2
   have I2:=I1.below hA2
   have hzA:=hAA.size
   generalize W1.alloc (.cells #[.string ⟨#[102,105,108,101]⟩,.string x.nm] 9)=W2 at *
   refine (a0_ B b P0 [⟨#[102,105,108,101]⟩,x.nm] (wr.heap.size+1) 0 2 W2 (h6.below hAA) (sl5 (ps:=[⟨#[102,105,108,101]⟩,x.nm]) F2) F2.lt (by simp) hi1 (by simp) (by omega)).mono ?_
   rintro e w7 ⟨rfl,h7,hB7,hk7⟩
   rw [hP1.out] at h7
   have I7:=I2.ok hk7 (by omega) (by decide)
   have hBw7:Below B w w7:=hB6.trans ((hAA.mono (by omega)).trans hB7)
   have hkw7:=hk6.trans ((bG_ hAA:Lib.OthersKept 5 (some b) wr W2).trans hk7)
   have i1:=I7.cell 1
   simp only [lgA,lgB,lgC] at i1
   obtain ⟨wo,hwo⟩:∃ y,y=wr:=⟨_,rfl⟩
   subst hwo
   clear hA1 hA2 hAA I1 I2 F2 hB7 hk7 h6 hB6 hk6 hi1 d0 d1 hwr I7
   go_wp2_with fail
   go_loopw [35] (fun ix wq=>∃ (j:Nat),j<=pn∧ix=.int .i64 j∧Wr B b (P1++partsW (x.ps.take j)) wq∧Below B w wq∧Lib.OthersKept 5 (some b) w wq) (fun ix _=>pn-(intOf ix).toNat)
   case atStart=>exact ⟨0,Nat.zero_le _,rfl,by simpa [partsW] using h7,hBw7,hkw7⟩
   case round=>
    clear h7 hBw7 hkw7 i1
    obtain ⟨j,hj,rfl,h8,hB8,hk8⟩:=hrel
    have hwq:Below w0.heap.size w0 wr:=hw.trans (hB8.mono hwB)
    by_cases hlj:j<pn
    ·obtain ⟨bb,oo,p,rfl,hp,e0,e1,e2⟩:=bc_ hP hlj
     obtain ⟨⟨na1,na2⟩,⟨nf1,nf2⟩,⟨nn1,nn2⟩⟩:=hnp p (List.mem_of_getElem? hp)
     have hsp:Hid (partsW (x.ps.take (j+1))=partsW (x.ps.take j)++lineL (ptW p)):=ch_ hp
     have hlp:=lenPart hp hl1.out
     obtain ⟨Q0,hQ0⟩:∃ P,Hid (P1++partsW (x.ps.take j)=P):=⟨_,rfl⟩
     rw [hQ0.out] at h8 hlp
     obtain ⟨pa1,hpa1⟩:∃ x,decB p.a=x:=⟨_,rfl⟩
     obtain ⟨pf1,hpf1⟩:∃ x,decB p.f=x:=⟨_,rfl⟩
     obtain ⟨pn1,hpn1⟩:∃ x,decB p.n=x:=⟨_,rfl⟩
     have hpt:Hid (ptW p=[⟨#[112,97,114,116]⟩,pa1,pf1,pn1]):=by show _=_;unfold ptW;rw [hpa1,hpf1,hpn1]
     rw [hpt.out] at hlp
     have g0:=bcell hwq e0
     have g1:=bcell hwq e1
     have g2:=bcell hwq e2
     have hj1:(j:Int)<pn:=by omega
     have hj2:(0:Int)<=j:=by omega
     have hz8:=hB8.size
     have hbl8:=h8.lt
     clear hp e0 e1 e2
     go_wp2_with fail
     have hA:Below wr.heap.size wr (wr.alloc (.cells #[.int .i64 p.a,.int .i64 p.f,.int .i64 p.n] 141)):=(Below.refl _ _).alloc (Nat.le_refl _) _
     have PB:=Blk.new wr #[.int .i64 p.a,.int .i64 p.f,.int .i64 p.n] 141
     clear g0 g1 g2
     generalize wr.alloc (.cells #[.int .i64 p.a,.int .i64 p.f,.int .i64 p.n] 141)=V at *
     have hSB:∀ u:World,Below V.heap.size V u->u.cell? ⟨wr.heap.size,0,none⟩=some (.int .i64 p.a)∧u.cell? ⟨wr.heap.size,1,none⟩=some (.int .i64 p.f)∧u.cell? ⟨wr.heap.size,2,none⟩=some (.int .i64 p.n):=fun u hu=>⟨(PB.below hu).cell 0,(PB.below hu).cell 1,(PB.below hu).cell 2⟩
     have htV:∀ u:World,Below V.heap.size V u->TabP u:=fun u hu=>aK_ ht (hB8.trans ((chain hA hu).mono (by omega))) hg
     have hS0:(fun u:World=>u.cell? ⟨wr.heap.size,0,none⟩=some (.int .i64 p.a)∧u.cell? ⟨wr.heap.size,1,none⟩=some (.int .i64 p.f)∧u.cell? ⟨wr.heap.size,2,none⟩=some (.int .i64 p.n)) V.drew:=(hSB _ (Below.refl _ V).drew)
     refine av_ (S:=(fun u:World=>u.cell? ⟨wr.heap.size,0,none⟩=some (.int .i64 p.a)∧u.cell? ⟨wr.heap.size,1,none⟩=some (.int .i64 p.f)∧u.cell? ⟨wr.heap.size,2,none⟩=some (.int .i64 p.n))) 12 (by kernel_rfl) rfl ?_
     refine tk 0 ?_ (hy:=by intro u hu;obtain ⟨u0,u1,u2⟩:=hu;go_simp<;>with_reducible rfl)
     refine tk 1 ?_ (hy:=by intro u hu;obtain ⟨u0,u1,u2⟩:=hu;go_simp<;>with_reducible rfl)
     refine tk 2 ?_ (hy:=by intro u hu;obtain ⟨u0,u1,u2⟩:=hu;go_simp<;>with_reducible rfl)
     refine tk 4 ?_ (hy:=by intro u hu;obtain ⟨u0,u1,u2⟩:=hu;go_simp<;>with_reducible rfl)
     refine tk 5 ?_ (hy:=by intro u hu;obtain ⟨u0,u1,u2⟩:=hu;go_simp<;>with_reducible rfl)
     refine tk 7 ?_ (hy:=by intro u hu;obtain ⟨u0,u1,u2⟩:=hu;go_simp<;>with_reducible rfl)
     refine tk 8 ?_ (hy:=by intro u hu;obtain ⟨u0,u1,u2⟩:=hu;go_simp<;>with_reducible rfl)
     refine oneL (i:=3) (by kernel_rfl) rfl (fun K hK=>?_)
     go_simp
     refine (ak_ p.a V.drew (by omega) (by omega) (htV _ (Below.refl _ V).drew)).mono ?_
     rintro e w1 ⟨rfl,hB1'⟩
     rw [hpa1]
     have hB1:Below V.heap.size V w1:=chain (Below.refl _ V).drew hB1'
     dsimp only
     refine hK.out _ _ (hSB _ hB1) (fun hHeld=>?_)
     clear hK K
     try simp only [Act.put,lsA,lsB,lsC]
     refine oneL (i:=6) (by kernel_rfl) rfl (fun K hK=>?_)
     go_simp
     refine (ak_ p.f w1 (by omega) (by omega) (htV _ hB1)).mono ?_
     rintro e w2 ⟨rfl,hB2'⟩
     rw [hpf1]
     have hB2:=chain hB1 hB2'
     dsimp only
     refine hK.out _ _ (hSB _ hB2) (fun hHeld=>?_)
     clear hK K
     try simp only [Act.put,lsA,lsB,lsC]
     refine oneL (i:=9) (by kernel_rfl) rfl (fun K hK=>?_)
     go_simp
     refine (ak_ p.n w2 (by omega) (by omega) (htV _ hB2)).mono ?_
     rintro e w3 ⟨rfl,hB3'⟩
     rw [hpn1]
     have hB3:=chain hB2 hB3'
     dsimp only
     refine hK.out _ _ (hSB _ hB3) (fun hHeld=>?_)
     clear hK K
     try simp only [Act.put,lsA,lsB,lsC]
     refine oneL (i:=10) (by kernel_rfl) rfl (fun K hK=>?_)
     go_simp
     have hA4:Below w3.heap.size w3 (w3.alloc (.cells #[.string ⟨#[112,97,114,116]⟩,.string pa1,.string pf1,.string pn1] 9)):=(Below.refl _ _).alloc (Nat.le_refl _) _
     have X4:=Blk.new w3 #[.string ⟨#[112,97,114,116]⟩,.string pa1,.string pf1,.string pn1] 9
     have hB4:=chain hB3 hA4
     have hC4:=chain hA hB4
     have hz4:=hC4.size
     have hz3:=X4.lt
     refine hK.out _ _ (hSB _ hB4) (fun hHeld=>?_)
     clear hK K
     try simp only [Act.put,lsA,lsB,lsC]
     generalize w3.alloc (.cells #[.string ⟨#[112,97,114,116]⟩,.string pa1,.string pf1,.string pn1] 9)=w4 at *
     refine oneL (i:=11) (by kernel_rfl) rfl (fun K hK=>?_)
     go_simp
     refine (a0_ B b Q0 [⟨#[112,97,114,116]⟩,pa1,pf1,pn1] w3.heap.size 0 4 w4 (h8.below hC4) (sl5 (ps:=[⟨#[112,97,114,116]⟩,pa1,pf1,pn1]) X4) hz3 (by simp) hlp (by simp) (by omega)).mono ?_
     rintro e w9 ⟨rfl,h9,hB9,hk9⟩
     have P9:=(PB.below hB4).ok hk9 (by omega) (by decide)
     dsimp only
     refine hK.out _ _ ⟨P9.cell 0,P9.cell 1,P9.cell 2⟩ (fun hHeld=>?_)
     clear hK K
     try simp only [Act.put,lsA,lsB,lsC]
     refine wpAnyH_done (by kernel_rfl) ?_ _
     have hBw9:Below B w w9:=hB8.trans ((hC4.mono (by omega)).trans hB9)
     have hkw9:=hk8.trans ((bG_ hC4:Lib.OthersKept 5 (some b) wr w4).trans hk9)
     have h9':Wr B b (P1++partsW (x.ps.take (j+1))) w9:=by rw [hsp.out,<-List.append_assoc,hQ0.out,hpt.out];exact h9
     clear hS0 hHeld hSB htV X4 hB4 hC4 hA4 hB1 hB1' hB2 hB2' hB3 hB3' hB9 hk9 P9 PB hA
     go_wp2
     go_roundw
     case rel=>exact ⟨j+1,by omega,by go_num,h9',hBw9,hkw9⟩
     case measure=>simp [intOf];omega
    ·obtain rfl:j=pn:=by omega
     rw [List.take_of_length_le (Nat.le_of_eq hplen.out)] at h8
     have h9':Wr B b (L0++itsW (v.its.take (k+1))) wr:=by
      rw [hst.out,<-List.append_assoc,hP0.out]
      unfold itW
      rw [<-List.append_assoc,hP1.out]
      exact h8
     go_wp2
     go_roundw
     case rel=>exact ⟨k+1,by omega,by go_num,h9',hB8,hk8⟩
     case measure=>simp [intOf];omega
  ·obtain rfl:k=inn:=by omega
   rw [List.take_of_length_le (Nat.le_of_eq hlenI.out)] at h6
   go_wp2
   go_end0
   exact ⟨rfl,h6,hB6,hk6⟩
theorem dX_ (B b:Nat) (l:List UInt8) (v:Vo) (Bx:Nat) (ia:Option Addr) (inn ic:Nat) (w0 w:World) (hfx:v.fx=false) (hI:ItsAt Bx w0 ia inn v.its) (hw:Below w0.heap.size w0 w) (hwB:w0.heap.size<=B) (h:Wr B b l w) (ht:TabP w) (hg:9<=B) (hBw:B<=w.heap.size) (n1:Num v.id) (n2:∀ x∈v.its,NumP x.ps) (hn:inn<=4194304) (hpn:∀ x∈v.its,x.ps.length<=4194304) (hlen:(l++volW v).length<=1000000) :
  Calls Tryz.prog 128 #[.pointer (some ⟨b,0,none⟩),.agg #[.int .i64 v.id,.string v.nm,.bool false,.slice ia inn ic]] w fun e w'=>e=.returned (.tuple #[])∧Wr B b (l++volW v) w'∧Below B w w'∧Lib.OthersKept 5 (some b) w w':=by
 have hlenI:Hid (v.its.length=inn):=hI.len
 obtain ⟨a1,a2⟩:=n1
 have hblt:=h.lt
 obtain ⟨da,hda⟩:∃ x,decB v.id=x:=⟨_,rfl⟩
 have hvo:voW v=[⟨#[118,111,108,117,109,101]⟩,da,v.nm,⟨#[48]⟩]:=by unfold voW flagB;rw [hda,hfx];rfl
 have hvw:volW v=lineL [⟨#[118,111,108,117,109,101]⟩,da,v.nm,⟨#[48]⟩]++itsW v.its:=by unfold volW;rw [hvo]
 rw [hvw] at hlen ⊢
 obtain ⟨L0,hL0⟩:∃ x,l++lineL [⟨#[118,111,108,117,109,101]⟩,da,v.nm,⟨#[48]⟩]=x:=⟨_,rfl⟩
 have hlen1:l.length+(lineL [⟨#[118,111,108,117,109,101]⟩,da,v.nm,⟨#[48]⟩]).length<=1000000:=by
  rw [List.length_append,List.length_append] at hlen
  omega
 rw [<-List.append_assoc,hL0] at hlen ⊢
 have C:=Blk.new w #[.int .i64 v.id,.string v.nm,.bool false,.slice ia inn ic] 128
 have hB0:Below w.heap.size w (w.alloc (.cells #[.int .i64 v.id,.string v.nm,.bool false,.slice ia inn ic] 128)):=(Below.refl _ _).alloc (Nat.le_refl _) _
 obtain ⟨x0,x1,x2,x3⟩:=fourX C
 clear hvo hvw hfx
 go_enter Tryz.func128,Tryz.ntmps128
 go_wp2_with fail
 clear x0 x1 x2 x3
 generalize w.alloc (.cells #[.int .i64 v.id,.string v.nm,.bool false,.slice ia inn ic] 128)=W at *
 have hSB:∀ u:World,Below W.heap.size W u->u.cell? ⟨w.heap.size,0,none⟩=some (.int .i64 v.id)∧u.cell? ⟨w.heap.size,1,none⟩=some (.string v.nm)∧u.cell? ⟨w.heap.size,2,none⟩=some (.bool false)∧u.cell? ⟨w.heap.size,3,none⟩=some (.slice ia inn ic):=fun u hu=>fourX (C.below hu)
 have hS0:(fun u:World=>u.cell? ⟨w.heap.size,0,none⟩=some (.int .i64 v.id)∧u.cell? ⟨w.heap.size,1,none⟩=some (.string v.nm)∧u.cell? ⟨w.heap.size,2,none⟩=some (.bool false)∧u.cell? ⟨w.heap.size,3,none⟩=some (.slice ia inn ic)) W.drew:=(hSB _ (Below.refl _ W).drew)
 refine av_ (S:=(fun u:World=>u.cell? ⟨w.heap.size,0,none⟩=some (.int .i64 v.id)∧u.cell? ⟨w.heap.size,1,none⟩=some (.string v.nm)∧u.cell? ⟨w.heap.size,2,none⟩=some (.bool false)∧u.cell? ⟨w.heap.size,3,none⟩=some (.slice ia inn ic))) 9 (by kernel_rfl) rfl ?_
 refine tk 0 ?_ (hy:=by intro u hu;obtain ⟨u0,u1,u2,u3⟩:=hu;go_simp<;>with_reducible rfl)
 refine tk 1 ?_ (hy:=by intro u hu;obtain ⟨u0,u1,u2,u3⟩:=hu;go_simp<;>with_reducible rfl)
 refine tk 2 ?_ (hy:=by intro u hu;obtain ⟨u0,u1,u2,u3⟩:=hu;go_simp<;>with_reducible rfl)
 refine tk 4 ?_ (hy:=by intro u hu;obtain ⟨u0,u1,u2,u3⟩:=hu;go_simp<;>with_reducible rfl)
 refine tk 5 ?_ (hy:=by intro u hu;obtain ⟨u0,u1,u2,u3⟩:=hu;go_simp<;>with_reducible rfl)
 refine tk 6 ?_ (hy:=by intro u hu;obtain ⟨u0,u1,u2,u3⟩:=hu;go_simp<;>with_reducible rfl)
 refine oneL (i:=3) (by kernel_rfl) rfl (fun K hK=>?_)
 go_simp
 refine (ak_ v.id W.drew (by omega) (by omega) (aK_ ht (hB0.drew.mono hBw) hg)).mono ?_
 rintro e w1 ⟨rfl,hB1'⟩
 rw [hda]
 have hB1:Below W.heap.size W w1:=chain (Below.refl _ W).drew hB1'
 dsimp only
 refine hK.out _ _ (hSB _ hB1) (fun hHeld=>?_)
 clear hK K
 try simp only [Act.put,lsA,lsB,lsC]
 refine oneL (i:=7) (by kernel_rfl) rfl (fun K hK=>?_)
 go_simp
 have hA4:Below w1.heap.size w1 (w1.alloc (.cells #[.string ⟨#[118,111,108,117,109,101]⟩,.string da,.string v.nm,.string ⟨#[48]⟩] 9)):=(Below.refl _ _).alloc (Nat.le_refl _) _
 have X4:=Blk.new w1 #[.string ⟨#[118,111,108,117,109,101]⟩,.string da,.string v.nm,.string ⟨#[48]⟩] 9
 have hB4:=chain hB1 hA4
 have hC4:=chain hB0 hB4
 have hz4:=hC4.size
 have hz3:=X4.lt
 refine hK.out _ _ (hSB _ hB4) (fun hHeld=>?_)
 clear hK K
 try simp only [Act.put,lsA,lsB,lsC]
 generalize w1.alloc (.cells #[.string ⟨#[118,111,108,117,109,101]⟩,.string da,.string v.nm,.string ⟨#[48]⟩] 9)=w4 at *
 refine oneL (i:=8) (by kernel_rfl) rfl (fun K hK=>?_)
 go_simp
 refine (a0_ B b l [⟨#[118,111,108,117,109,101]⟩,da,v.nm,⟨#[48]⟩] w1.heap.size 0 4 w4 (h.below hC4) (sl5 (ps:=[⟨#[118,111,108,117,109,101]⟩,da,v.nm,⟨#[48]⟩]) X4) hz3 (by simp) hlen1 (by simp) (by omega)).mono ?_
 rintro e w5 ⟨rfl,h5,hB5,hk5⟩
 rw [hL0] at h5
 have C5:=(C.below hB4).ok hk5 (by omega) (by decide)
 dsimp only
 refine hK.out _ _ (fourX C5) (fun hHeld=>?_)
 clear hK K
 try simp only [Act.put,lsA,lsB,lsC]
 refine wpAnyH_done (by kernel_rfl) ?_ _
 have x3:=C5.cell 3
 simp only [lgA,lgB,lgC] at x3
 have hBw5:=(hC4.mono hBw).trans hB5
 have hkw5:=(bG_ hC4:Lib.OthersKept 5 (some b) w w4).trans hk5
 clear hS0 hHeld hSB X4 hB4 hC4 hA4 hB1 hB1' hB5 hk5 hlen1 hz3 hz4
 go_wp2_with fail
 go_loopw [23] (fun ix wr=>∃ (k:Nat),k<=inn∧ix=.int .i64 k∧Wr B b (L0++itsW (v.its.take k)) wr∧Below B w wr∧Lib.OthersKept 5 (some b) w wr) (fun ix _=>inn-(intOf ix).toNat)
 case atStart=>exact ⟨0,Nat.zero_le _,rfl,by simpa [itsW] using h5,hBw5,hkw5⟩
 case round=>
  clear h5 hBw5 hkw5 C5 x3
  obtain ⟨k,hk,rfl,h6,hB6,hk6⟩:=hrel
  have hwr:Below w0.heap.size w0 wr:=hw.trans (hB6.mono hwB)
  by_cases hlt:k<inn
  ·obtain ⟨b',o',x,pa,pn,pc,rfl,hx,c0,c1,hP,_,_,_⟩:=bt_ hI hlt
   have hxm:=List.mem_of_getElem? hx
   have hpl:pn<=4194304:=by rw [<-hP.len];exact hpn x hxm
   have hnp:=n2 x hxm
   have hst:Hid (itsW (v.its.take (k+1))=itsW (v.its.take k)++itW x):=dm_ hx
   have hlx:=lenItem hx hlen
   obtain ⟨P0,hP0⟩:∃ P,Hid (L0++itsW (v.its.take k)=P):=⟨_,rfl⟩
   rw [hP0.out] at h6 hlx
   have d0:=bcell hwr c0
   have d1:=bcell hwr c1
   have hk1:(k:Int)<inn:=by omega
   have hk2:(0:Int)<=k:=by omega
   have hplen:Hid (x.ps.length=pn):=hP.len
   have hz6:=hB6.size
   have hi1:P0.length+(lineL [⟨#[102,105,108,101]⟩,x.nm]).length<=1000000:=by
    unfold itW at hlx
    rw [List.length_append,List.length_append] at hlx
    omega
   obtain ⟨P1,hP1⟩:∃ P,Hid (P0++lineL [⟨#[102,105,108,101]⟩,x.nm]=P):=⟨_,rfl⟩
   have hl1:Hid ((P1++partsW x.ps).length<=1000000):=by
    show _<=_
    rw [<-hP1.out]
    unfold itW at hlx
    rw [List.append_assoc]
    exact hlx
   clear hx hlx c0 c1
   go_wp2_with fail
   have hA1:Below wr.heap.size wr (wr.alloc (.cells #[.string x.nm,.slice pa pn pc] 139)):=(Below.refl _ _).alloc (Nat.le_refl _) _
   have I1:=Blk.new wr #[.string x.nm,.slice pa pn pc] 139
   have hs1:(wr.alloc (.cells #[.string x.nm,.slice pa pn pc] 139)).heap.size=wr.heap.size+1:=by simp
   generalize wr.alloc (.cells #[.string x.nm,.slice pa pn pc] 139)=W1 at *
   have hA2:Below W1.heap.size W1 (W1.alloc (.cells #[.string ⟨#[102,105,108,101]⟩,.string x.nm] 9)):=(Below.refl _ _).alloc (Nat.le_refl _) _
   have F2:=Blk.new W1 #[.string ⟨#[102,105,108,101]⟩,.string x.nm] 9
   rw [hs1] at F2
   have hAA:=chain hA1 hA2
   have I2:=I1.below hA2
   have hzA:=hAA.size
   generalize W1.alloc (.cells #[.string ⟨#[102,105,108,101]⟩,.string x.nm] 9)=W2 at *
   refine (a0_ B b P0 [⟨#[102,105,108,101]⟩,x.nm] (wr.heap.size+1) 0 2 W2 (h6.below hAA) (sl5 (ps:=[⟨#[102,105,108,101]⟩,x.nm]) F2) F2.lt (by simp) hi1 (by simp) (by omega)).mono ?_
   rintro e w7 ⟨rfl,h7,hB7,hk7⟩
   rw [hP1.out] at h7
   have I7:=I2.ok hk7 (by omega) (by decide)
   have hBw7:Below B w w7:=hB6.trans ((hAA.mono (by omega)).trans hB7)
   have hkw7:=hk6.trans ((bG_ hAA:Lib.OthersKept 5 (some b) wr W2).trans hk7)
   have i1:=I7.cell 1
   simp only [lgA,lgB,lgC] at i1
   obtain ⟨wo,hwo⟩:∃ y,y=wr:=⟨_,rfl⟩
   subst hwo
   clear hA1 hA2 hAA I1 I2 F2 hB7 hk7 h6 hB6 hk6 hi1 d0 d1 hwr I7
   go_wp2_with fail
   go_loopw [35] (fun ix wq=>∃ (j:Nat),j<=pn∧ix=.int .i64 j∧Wr B b (P1++partsW (x.ps.take j)) wq∧Below B w wq∧Lib.OthersKept 5 (some b) w wq) (fun ix _=>pn-(intOf ix).toNat)
   case atStart=>exact ⟨0,Nat.zero_le _,rfl,by simpa [partsW] using h7,hBw7,hkw7⟩
   case round=>
    clear h7 hBw7 hkw7 i1
    obtain ⟨j,hj,rfl,h8,hB8,hk8⟩:=hrel
    have hwq:Below w0.heap.size w0 wr:=hw.trans (hB8.mono hwB)
    by_cases hlj:j<pn
    ·obtain ⟨bb,oo,p,rfl,hp,e0,e1,e2⟩:=bc_ hP hlj
     obtain ⟨⟨na1,na2⟩,⟨nf1,nf2⟩,⟨nn1,nn2⟩⟩:=hnp p (List.mem_of_getElem? hp)
     have hsp:Hid (partsW (x.ps.take (j+1))=partsW (x.ps.take j)++lineL (ptW p)):=ch_ hp
     have hlp:=lenPart hp hl1.out
     obtain ⟨Q0,hQ0⟩:∃ P,Hid (P1++partsW (x.ps.take j)=P):=⟨_,rfl⟩
     rw [hQ0.out] at h8 hlp
     obtain ⟨pa1,hpa1⟩:∃ x,decB p.a=x:=⟨_,rfl⟩
     obtain ⟨pf1,hpf1⟩:∃ x,decB p.f=x:=⟨_,rfl⟩
     obtain ⟨pn1,hpn1⟩:∃ x,decB p.n=x:=⟨_,rfl⟩
     have hpt:Hid (ptW p=[⟨#[112,97,114,116]⟩,pa1,pf1,pn1]):=by show _=_;unfold ptW;rw [hpa1,hpf1,hpn1]
     rw [hpt.out] at hlp
     have g0:=bcell hwq e0
     have g1:=bcell hwq e1
     have g2:=bcell hwq e2
     have hj1:(j:Int)<pn:=by omega
     have hj2:(0:Int)<=j:=by omega
     have hz8:=hB8.size
     have hbl8:=h8.lt
     clear hp e0 e1 e2
     go_wp2_with fail
     have hA:Below wr.heap.size wr (wr.alloc (.cells #[.int .i64 p.a,.int .i64 p.f,.int .i64 p.n] 141)):=(Below.refl _ _).alloc (Nat.le_refl _) _
     have PB:=Blk.new wr #[.int .i64 p.a,.int .i64 p.f,.int .i64 p.n] 141
     clear g0 g1 g2
     generalize wr.alloc (.cells #[.int .i64 p.a,.int .i64 p.f,.int .i64 p.n] 141)=V at *
     have hSB:∀ u:World,Below V.heap.size V u->u.cell? ⟨wr.heap.size,0,none⟩=some (.int .i64 p.a)∧u.cell? ⟨wr.heap.size,1,none⟩=some (.int .i64 p.f)∧u.cell? ⟨wr.heap.size,2,none⟩=some (.int .i64 p.n):=fun u hu=>⟨(PB.below hu).cell 0,(PB.below hu).cell 1,(PB.below hu).cell 2⟩
     have htV:∀ u:World,Below V.heap.size V u->TabP u:=fun u hu=>aK_ ht (hB8.trans ((chain hA hu).mono (by omega))) hg
     have hS0:(fun u:World=>u.cell? ⟨wr.heap.size,0,none⟩=some (.int .i64 p.a)∧u.cell? ⟨wr.heap.size,1,none⟩=some (.int .i64 p.f)∧u.cell? ⟨wr.heap.size,2,none⟩=some (.int .i64 p.n)) V.drew:=(hSB _ (Below.refl _ V).drew)
     refine av_ (S:=(fun u:World=>u.cell? ⟨wr.heap.size,0,none⟩=some (.int .i64 p.a)∧u.cell? ⟨wr.heap.size,1,none⟩=some (.int .i64 p.f)∧u.cell? ⟨wr.heap.size,2,none⟩=some (.int .i64 p.n))) 12 (by kernel_rfl) rfl ?_
     refine tk 0 ?_ (hy:=by intro u hu;obtain ⟨u0,u1,u2⟩:=hu;go_simp<;>with_reducible rfl)
     refine tk 1 ?_ (hy:=by intro u hu;obtain ⟨u0,u1,u2⟩:=hu;go_simp<;>with_reducible rfl)
     refine tk 2 ?_ (hy:=by intro u hu;obtain ⟨u0,u1,u2⟩:=hu;go_simp<;>with_reducible rfl)
     refine tk 4 ?_ (hy:=by intro u hu;obtain ⟨u0,u1,u2⟩:=hu;go_simp<;>with_reducible rfl)
     refine tk 5 ?_ (hy:=by intro u hu;obtain ⟨u0,u1,u2⟩:=hu;go_simp<;>with_reducible rfl)
     refine tk 7 ?_ (hy:=by intro u hu;obtain ⟨u0,u1,u2⟩:=hu;go_simp<;>with_reducible rfl)
     refine tk 8 ?_ (hy:=by intro u hu;obtain ⟨u0,u1,u2⟩:=hu;go_simp<;>with_reducible rfl)
     refine oneL (i:=3) (by kernel_rfl) rfl (fun K hK=>?_)
     go_simp
     refine (ak_ p.a V.drew (by omega) (by omega) (htV _ (Below.refl _ V).drew)).mono ?_
     rintro e w1 ⟨rfl,hB1'⟩
     rw [hpa1]
     have hB1:Below V.heap.size V w1:=chain (Below.refl _ V).drew hB1'
     dsimp only
     refine hK.out _ _ (hSB _ hB1) (fun hHeld=>?_)
     clear hK K
     try simp only [Act.put,lsA,lsB,lsC]
     refine oneL (i:=6) (by kernel_rfl) rfl (fun K hK=>?_)
     go_simp
     refine (ak_ p.f w1 (by omega) (by omega) (htV _ hB1)).mono ?_
     rintro e w2 ⟨rfl,hB2'⟩
     rw [hpf1]
     have hB2:=chain hB1 hB2'
     dsimp only
     refine hK.out _ _ (hSB _ hB2) (fun hHeld=>?_)
     clear hK K
     try simp only [Act.put,lsA,lsB,lsC]
     refine oneL (i:=9) (by kernel_rfl) rfl (fun K hK=>?_)
     go_simp
     refine (ak_ p.n w2 (by omega) (by omega) (htV _ hB2)).mono ?_
     rintro e w3 ⟨rfl,hB3'⟩
     rw [hpn1]
     have hB3:=chain hB2 hB3'
     dsimp only
     refine hK.out _ _ (hSB _ hB3) (fun hHeld=>?_)
     clear hK K
     try simp only [Act.put,lsA,lsB,lsC]
     refine oneL (i:=10) (by kernel_rfl) rfl (fun K hK=>?_)
     go_simp
     have hA4:Below w3.heap.size w3 (w3.alloc (.cells #[.string ⟨#[112,97,114,116]⟩,.string pa1,.string pf1,.string pn1] 9)):=(Below.refl _ _).alloc (Nat.le_refl _) _
     have X4:=Blk.new w3 #[.string ⟨#[112,97,114,116]⟩,.string pa1,.string pf1,.string pn1] 9
     have hB4:=chain hB3 hA4
     have hC4:=chain hA hB4
     have hz4:=hC4.size
     have hz3:=X4.lt
     refine hK.out _ _ (hSB _ hB4) (fun hHeld=>?_)
     clear hK K
     try simp only [Act.put,lsA,lsB,lsC]
     generalize w3.alloc (.cells #[.string ⟨#[112,97,114,116]⟩,.string pa1,.string pf1,.string pn1] 9)=w4 at *
     refine oneL (i:=11) (by kernel_rfl) rfl (fun K hK=>?_)
     go_simp
     refine (a0_ B b Q0 [⟨#[112,97,114,116]⟩,pa1,pf1,pn1] w3.heap.size 0 4 w4 (h8.below hC4) (sl5 (ps:=[⟨#[112,97,114,116]⟩,pa1,pf1,pn1]) X4) hz3 (by simp) hlp (by simp) (by omega)).mono ?_
     rintro e w9 ⟨rfl,h9,hB9,hk9⟩
     have P9:=(PB.below hB4).ok hk9 (by omega) (by decide)
     dsimp only
     refine hK.out _ _ ⟨P9.cell 0,P9.cell 1,P9.cell 2⟩ (fun hHeld=>?_)
     clear hK K
     try simp only [Act.put,lsA,lsB,lsC]
     refine wpAnyH_done (by kernel_rfl) ?_ _
     have hBw9:Below B w w9:=hB8.trans ((hC4.mono (by omega)).trans hB9)
     have hkw9:=hk8.trans ((bG_ hC4:Lib.OthersKept 5 (some b) wr w4).trans hk9)
     have h9':Wr B b (P1++partsW (x.ps.take (j+1))) w9:=by rw [hsp.out,<-List.append_assoc,hQ0.out,hpt.out];exact h9
     clear hS0 hHeld hSB htV X4 hB4 hC4 hA4 hB1 hB1' hB2 hB2' hB3 hB3' hB9 hk9 P9 PB hA
     go_wp2
     go_roundw
     case rel=>exact ⟨j+1,by omega,by go_num,h9',hBw9,hkw9⟩
     case measure=>simp [intOf];omega
    ·obtain rfl:j=pn:=by omega
     rw [List.take_of_length_le (Nat.le_of_eq hplen.out)] at h8
     have h9':Wr B b (L0++itsW (v.its.take (k+1))) wr:=by
      rw [hst.out,<-List.append_assoc,hP0.out]
      unfold itW
      rw [<-List.append_assoc,hP1.out]
      exact h8
     go_wp2
     go_roundw
     case rel=>exact ⟨k+1,by omega,by go_num,h9',hB8,hk8⟩
     case measure=>simp [intOf];omega
  ·obtain rfl:k=inn:=by omega
   rw [List.take_of_length_le (Nat.le_of_eq hlenI.out)] at h6
   go_wp2
   go_end0
   exact ⟨rfl,h6,hB6,hk6⟩
theorem iY_ (B b:Nat) (l:List UInt8) (v:Vo) (Bx:Nat) (ia:Option Addr) (inn ic:Nat) (w0 w:World) (hI:ItsAt Bx w0 ia inn v.its) (hw:Below w0.heap.size w0 w) (hwB:w0.heap.size<=B) (h:Wr B b l w) (ht:TabP w) (hg:9<=B) (hBw:B<=w.heap.size) (n1:Num v.id) (n2:∀ x∈v.its,NumP x.ps) (hn:inn<=4194304) (hpn:∀ x∈v.its,x.ps.length<=4194304) (hlen:(l++volW v).length<=1000000) :
  Calls Tryz.prog 128 #[.pointer (some ⟨b,0,none⟩),.agg #[.int .i64 v.id,.string v.nm,.bool v.fx,.slice ia inn ic]] w fun e w'=>e=.returned (.tuple #[])∧Wr B b (l++volW v) w'∧Below B w w'∧Lib.OthersKept 5 (some b) w w':=by
 cases hf:v.fx
 ·exact dX_ B b l v Bx ia inn ic w0 w hf hI hw hwB h ht hg hBw n1 n2 hn hpn hlen
 ·exact er_ B b l v Bx ia inn ic w0 w hf hI hw hwB h ht hg hBw n1 n2 hn hpn hlen
/-- What the lines of a pool say. -/
def hdW (p:Po):List ByteArray:=[⟨#[112,111,111,108]⟩,decB p.size,decB p.next]
def exW (e:Ex):List ByteArray:=[⟨#[101,120,116,101,110,116]⟩,decB e.a,e.d]
def exsW (l:List Ex):List UInt8:=l.flatMap (fun e=>lineL (exW e))
def volsW (l:List Vo):List UInt8:=l.flatMap volW
def ctsW (word:ByteArray) (l:List Ct):List UInt8:=l.flatMap (fun c=>lineL (ctL word c))
def refW:ByteArray:=⟨#[114,101,102]⟩
def lateW:ByteArray:=⟨#[108,97,116,101]⟩
def textW (p:Po):List UInt8:=lineL (hdW p)++exsW p.ex++volsW p.vs++ctsW refW p.rf++ctsW lateW p.lt
def textO (p:Po):ByteArray:=if poolB p=true then ⟨(textW p).toArray⟩ else ⟨#[]⟩
/-- Numbers and lengths as small as a right pool's. -/
structure NumO (p:Po):Prop where
 size:Num p.size
 next:Num p.next
 ex:∀ e∈p.ex,Num e.a
 vs:∀ v∈p.vs,Num v.id∧(∀ x∈v.its,NumP x.ps)∧v.its.length<=4194304∧∀ x∈v.its,x.ps.length<=4194304
 rf:∀ c∈p.rf,Num c.o.a∧Num c.o.v∧Num c.n
 lt:∀ c∈p.lt,Num c.o.a∧Num c.o.v∧Num c.n
 len:(textW p).length<=1000000
theorem ba_ {α:Type} {f:α->List UInt8} {l:List α} {k:Nat} {x:α} (h:l[k]?=some x):(l.take (k+1)).flatMap f=(l.take k).flatMap f++f x:=by
 rw [aO_ h,List.flatMap_append];simp
theorem a2_ {α:Type} {f:α->List UInt8} {P:List UInt8} {l:List α} {k:Nat} {x:α} (h:l[k]?=some x) (hl:(P++l.flatMap f).length<=1000000):(P++(l.take k).flatMap f++f x).length<=1000000:=by
 have h1:=cI_ f l (k+1)
 have h2:=congrArg List.length (ba_ (f:=f) h)
 rw [List.length_append] at h2 hl
 rw [List.length_append,List.length_append]
 omega
theorem bb_ (a b:ByteArray) (l:List ByteArray):wordL (a::b::l)=a.data.toList++[32]++wordL (b::l):=by
 unfold wordL;simp [Lib.join]
theorem bI_ (a:ByteArray):wordL [a]=a.data.toList:=by unfold wordL;simp [Lib.join]
end Go.Proofs.YtigldeccfpkdmaaGreatDoor
