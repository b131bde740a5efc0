/- Disks that are right, by the model. Files in the making, in memory; whether they fit. Files taken to be changed. -/
import Derived.Test.YtigldeccfpkdmaaGreatDoorK24
import Derived.Test.YtigldeccfpkdmaaGreatDoorK11
namespace Go.Proofs.YtigldeccfpkdmaaGreatDoor
open Go Go.RowKit Go.BigFrame
set_option maxHeartbeats 20000000
set_option maxRecDepth 100000
/-- A disk in memory. -/
structure SlH {α:Type} (cs:α->List Value) (sz:Nat) (w:World) (a:Option Addr) (n cap:Nat) (l:List α):Prop where
 sl:SlAt cs sz w a n l
 spot:∀ ad,a=some ad->ad.spot=none
 nil:a=none->cap=0
theorem SlH.below {α:Type} {cs:α->List Value} {sz:Nat} {w w':World} {a:Option Addr} {n cap:Nat} {l:List α} (h:SlH cs sz w a n cap l) (hb:Below w.heap.size w w'):SlH cs sz w' a n cap l:=⟨h.sl.below hb,h.spot,h.nil⟩
theorem ResAt.slH {α:Type} {cs:α->List Value} {sz:Nat} {t:TypeId} {w:World} {B n cap:Nat} {a:Option Addr} {l:List α} (h:ResAt cs sz t w B a n cap l):SlH cs sz w a n cap l:=by
 refine ⟨h.sl,fun ad e=>?_,fun e=>?_⟩
 ·rcases h.own with ⟨h0,_⟩ | ⟨b,h1,_⟩
  ·rw [h0] at e;cases e
  ·rw [h1] at e;cases e;rfl
 ·rcases h.own with ⟨_,_,h0⟩ | ⟨b,h1,_⟩
  ·exact h0
  ·rw [h1] at e;cases e
def DiskAt (w:World) (v:Value) (d:Dk):Prop:=
 ∃ la ln lc sa sn sc oa on oc,v=.agg #[.slice la ln lc,.slice sa sn sc,.slice oa on oc]∧SlH Fl.cs 2 w la ln lc d.live∧SlH Fl.cs 2 w sa sn sc d.safe∧SlH Dp.cs 4 w oa on oc d.ops
theorem DiskAt.below {w w':World} {v:Value} {d:Dk} (h:DiskAt w v d) (hb:Below w.heap.size w w'):DiskAt w' v d:=by
 obtain ⟨la,ln,lc,sa,sn,sc,oa,on,oc,hv,h1,h2,h3⟩:=h
 exact ⟨la,ln,lc,sa,sn,sc,oa,on,oc,hv,h1.below hb,h2.below hb,h3.below hb⟩
/-- A disk that is asked. -/
structure DimD (d:Dk):Prop where
 live:d.live.length<=4000000∧BndF d.live
 safe:d.safe.length<=4000000∧BndF d.safe
 ops:d.ops.length<=4000000∧∀ o∈d.ops,StrD o∧o.d.size<=10000000
theorem oE_ (l:List Fl) (o:Dp):(doF l o).1.length<=l.length+1:=by
 have hc:∀ nm,(cutF nm l).length<=l.length:=fun nm=>List.length_filter_le _ _
 unfold doF
 split
 ·split
  ·exact f3_ _ _
  ·simp
 ·split
  ·simp
  ·split
   ·exact f3_ _ _
   ·split
    ·have:=f3_ ⟨o.tt,‹Fl›.d⟩ (cutF o.nm l)
     have:=hc o.nm
     simp only
     omega
    ·have:=hc o.nm
     simp only
     omega
theorem oF_ {l:List Fl} {o:Dp} (hf:filesB l=true) (ho:StrD o) (hd:o.d.size<=10000000):BndF (doF l o).1:=by
 obtain ⟨_,hs,hg⟩:=cO_ hf
 have hm:∀ x∈l,x.nm.size<=9223372036854775807∧x.d.size<=200000:=fun x hx=>by
  have h1:=eB_ hg x hx
  have h2:=ec_ hx
  simp only [nmB,Bool.and_eq_true,decide_eq_true_eq] at h1
  omega
 have hb:BndF l:=fun x hx=>by have:=hm x hx;omega
 obtain ⟨g1,g2,g3⟩:=ho
 unfold doF
 split
 ·split
  ·intro x hx
   rcases f4_ hx with rfl | hx
   ·exact ⟨g1,by show o.d.size<=_;omega⟩
   ·exact hb x hx
  ·exact hb
 ·split
  ·exact hb
  ·rename_i f hfi
   have hfm:=hm f (List.mem_of_getElem? hfi)
   split
   ·intro x hx
    rcases f4_ hx with rfl | hx
    ·refine ⟨g1,?_⟩
     show (f.d++o.d).size<=_
     rw [ByteArray.size_append]
     omega
    ·exact hb x hx
   ·split
    ·intro x hx
     rcases f4_ hx with rfl | hx
     ·exact ⟨g2,by show f.d.size<=_;omega⟩
     ·exact hb x (List.mem_filter.1 hx).1
    ·exact fun x hx=>hb x (List.mem_filter.1 hx).1
theorem e1_ (v:Value) (d:Dk) (w:World) (h:DiskAt w v d) (hd:DimD d) :
  Calls Tryz.prog 70 #[v] w fun e w'=>e=.returned (.bool (diskB d))∧Below w.heap.size w w':=by
 obtain ⟨la,ln,lc,sa,sn,sc,oa,on,oc,rfl,hL,hS,hO⟩:=h
 obtain ⟨⟨dl1,dl2⟩,⟨ds1,ds2⟩,do1,do2⟩:=hd
 obtain ⟨live,safe,ops⟩:=d
 simp only at dl1 dl2 ds1 ds2 do1 do2 hL hS hO
 have lL:Hid (live.length=ln):=hL.sl.len
 have lS:Hid (safe.length=sn):=hS.sl.len
 have lO:Hid (ops.length=on):=hO.sl.len
 have hB0:Below w.heap.size w (w.alloc (.cells #[.slice la ln lc,.slice sa sn sc,.slice oa on oc] 52)):=by go_grown
 have D0:=Blk.new w #[.slice la ln lc,.slice sa sn sc,.slice oa on oc] 52
 rw [lL.out] at dl1
 rw [lS.out] at ds1
 rw [lO.out] at do1
 cases hfl:filesB live
 ·have hf:Hid (diskB ⟨live,safe,ops⟩=false):=by show _=_;simp [diskB,hfl]
  go_enter Tryz.func70,Tryz.ntmps70
  go_wp2_with fail
  refine (a4_ la ln lc live _ (hL.sl.below hB0) dl2 (by omega)).mono ?_
  rintro e w1 ⟨rfl,hB1⟩
  rw [hfl]
  go_wp2
  go_returns
  exact ⟨ab_ hf.out.symm,chain hB0 hB1⟩
 ·cases hfs:filesB safe
  ·have hf:Hid (diskB ⟨live,safe,ops⟩=false):=by show _=_;simp [diskB,hfs]
   go_enter Tryz.func70,Tryz.ntmps70
   go_wp2_with fail
   refine (a4_ la ln lc live _ (hL.sl.below hB0) dl2 (by omega)).mono ?_
   rintro e w1 ⟨rfl,hB1⟩
   rw [hfl]
   have D1:=D0.below hB1
   have x1:w1.cell? ⟨w.heap.size,1,none⟩=some (.slice sa sn sc):=D1.cell 1
   have hC1:=chain hB0 hB1
   go_wp2_with fail
   refine (a4_ sa sn sc safe _ (hS.sl.below hC1) ds2 (by omega)).mono ?_
   rintro e w2 ⟨rfl,hB2⟩
   rw [hfs]
   go_wp2
   go_returns
   exact ⟨ab_ hf.out.symm,chain hC1 hB2⟩
  ·go_enter Tryz.func70,Tryz.ntmps70
   go_wp2_with fail
   refine (a4_ la ln lc live _ (hL.sl.below hB0) dl2 (by omega)).mono ?_
   rintro e w1 ⟨rfl,hB1⟩
   rw [hfl]
   have D1:=D0.below hB1
   have x1:w1.cell? ⟨w.heap.size,1,none⟩=some (.slice sa sn sc):=D1.cell 1
   have hC1:=chain hB0 hB1
   go_wp2_with fail
   refine (a4_ sa sn sc safe _ (hS.sl.below hC1) ds2 (by omega)).mono ?_
   rintro e w2 ⟨rfl,hB2⟩
   rw [hfs]
   have D2:=D1.below hB2
   have hC2:=chain hC1 hB2
   clear x1
   have x0:w2.cell? ⟨w.heap.size,0,none⟩=some (.slice la ln lc):=D2.cell 0
   have x1:w2.cell? ⟨w.heap.size,1,none⟩=some (.slice sa sn sc):=D2.cell 1
   have x2:w2.cell? ⟨w.heap.size,2,none⟩=some (.slice oa on oc):=D2.cell 2
   by_cases h200:on<=200
   ·have h2b:¬ (200:Int)<on:=by omega
    have hf:Hid (diskB ⟨live,safe,ops⟩=(match runF safe ops with | none=>false | some l=>eqFls l live)):=by
     show _=_
     have h200':ops.length<=200:=by rw [lO.out];exact h200
     show (filesB live&&filesB safe&&decide (ops.length<=200)&&_)=_
     rw [hfl,hfs,decide_eq_true h200']
     cases runF safe ops<;>rfl
    go_wp2_with fail
    go_loopw [3,4] (fun now ix wr=>∃ (k:Nat) (a2:Option Addr) (n2 c2:Nat) (cur:List Fl),k<=on∧ix=.int .i64 k∧now=.slice a2 n2 c2∧SlH Fl.cs 2 wr a2 n2 c2 cur∧filesB cur=true∧Hid (runF safe ops=runF cur (ops.drop k))∧Below w2.heap.size w2 wr) (fun _ ix _=>on-(intOf ix).toNat)
    case atStart=>exact ⟨0,sa,sn,sc,safe,Nat.zero_le _,rfl,rfl,hS.below hC2,hfs,by show _=_;simp,Below.refl _ _⟩
    case round=>
     obtain ⟨k,a2,n2,c2,cur,hk,rfl,rfl,hN,hfc,hI,hB⟩:=hrel
     clear x0 x1 x2
     have D3:=D2.below hB
     have x0:wr.cell? ⟨w.heap.size,0,none⟩=some (.slice la ln lc):=D3.cell 0
     have x2:wr.cell? ⟨w.heap.size,2,none⟩=some (.slice oa on oc):=D3.cell 2
     have hC3:=chain hC2 hB
     obtain ⟨hc60,hcs,hcg⟩:=cO_ hfc
     have hn2:n2<=60:=by rw [<-hN.sl.len];exact hc60
     have hcb:∀ f∈cur,f.d.size<=100000000:=fun f hf=>by have:=ec_ hf;omega
     by_cases hlt:k<on
     ·obtain ⟨b,o,op,rfl,hp,c0,c1,c2',c3⟩:=hv_ (hO.sl.below hC3) hlt
      obtain ⟨hso,hod⟩:=do2 op (List.mem_of_getElem? hp)
      have hrun:runF cur (ops.drop k)=if ((doF cur op).2&&formB op&&filesB (doF cur op).1)=true then runF (doF cur op).1 (ops.drop (k+1)) else none:=by
       rw [aj_ hp];rfl
      clear hp
      have hk1:(k:Int)<on:=by omega
      have hk2:(0:Int)<=k:=by omega
      have hbn:=oF_ hfc hso hod
      have hdl:=oE_ cur op
      go_wp2_with fail
      refine (mD_ a2 n2 c2 cur op _ hN.sl hN.spot hN.nil (by omega) hcb (by omega)).mono ?_
      rintro e w4 ⟨⟨a4,n4,c4,rfl,R4⟩,hB4⟩
      have hC4:=chain hC3 hB4
      have e0:=bcell hB4 c0
      have e1:=bcell hB4 c1
      have e2:=bcell hB4 c2'
      have e3:=bcell hB4 c3
      have y2:=bcell hB4 x2
      have hn4:n4<=61:=by rw [<-R4.sl.len];omega
      cases hok:(doF cur op).2
      ·have hend:Hid (runF safe ops=none):=by show _=_;rw [hI.out,hrun,hok];simp
       go_wp2
       go_returns
       exact ⟨by rw [hf.out,hend.out]<;>rfl,hC4⟩
      ·go_wp2_with fail
       refine (jH_ op _ hso).mono ?_
       rintro e w5 ⟨rfl,hB5⟩
       have hC5:=chain hC4 hB5
       cases hfo:formB op
       ·have hend:Hid (runF safe ops=none):=by show _=_;rw [hI.out,hrun,hok,hfo];simp
        go_wp2
        go_returns
        exact ⟨by rw [hf.out,hend.out]<;>rfl,hC5⟩
       ·have R5:=R4.below hB5
        go_wp2_with fail
        refine (a4_ a4 n4 c4 _ _ R5.sl hbn (by omega)).mono ?_
        rintro e w6 ⟨rfl,hB6⟩
        have hC6:=chain hC5 hB6
        cases hfn:filesB (doF cur op).1
        ·have hend:Hid (runF safe ops=none):=by show _=_;rw [hI.out,hrun,hok,hfo,hfn];simp
         go_wp2
         go_returns
         exact ⟨by rw [hf.out,hend.out]<;>rfl,hC6⟩
        ·have hnx:Hid (runF safe ops=runF (doF cur op).1 (ops.drop (k+1))):=by show _=_;rw [hI.out,hrun,hok,hfo,hfn];simp
         have R6:=(R5.below hB6).slH
         have hB7:Below w2.heap.size w2 w6:=chain (chain (chain hB hB4) hB5) hB6
         go_wp2
         go_roundw
         case rel=>exact ⟨k+1,a4,n4,c4,_,by omega,by go_num,rfl,R6,hfn,hnx,hB7⟩
         case measure=>simp [intOf];omega
     ·obtain rfl:k=on:=by omega
      have hend:Hid (runF safe ops=some cur):=by
       show _=_
       rw [hI.out,List.drop_of_length_le (Nat.le_of_eq lO.out)];rfl
      go_wp2_with fail
      refine (jG_ a2 n2 c2 cur la ln lc live _ hN.sl (hL.sl.below hC3) (by omega) (by omega)).mono ?_
      rintro e w4 ⟨rfl,hB4⟩
      go_wp2
      go_returns
      exact ⟨by rw [hf.out,hend.out]<;>rfl,chain hC3 hB4⟩
   ·have h2b:(200:Int)<on:=by omega
    have hf:Hid (diskB ⟨live,safe,ops⟩=false):=by show _=_;simp [diskB,lO.out,h200]
    go_wp2
    go_returns
    exact ⟨ab_ hf.out.symm,hC2⟩
structure Hr where
 nm:ByteArray
 pa:Option Addr
 pn:Nat
 pc:Nat
def hrs (r:Hr):List Value:=[.string r.nm,.slice r.pa r.pn r.pc]
structure Hy where
 nm:ByteArray
 ps:List ByteArray
def sps (s:ByteArray):List Value:=[.string s]
theorem aE_ (r:Hr):(hrs r).length=2:=rfl
theorem h8_ (s:ByteArray):(sps s).length=1:=rfl
theorem ds_ (l:List Hr):∀ u∈l.flatMap hrs,u.oneCell'=true:=by
 intro u hu
 obtain ⟨p,_,hp⟩:=List.mem_flatMap.1 hu
 simp [hrs] at hp
 rcases hp with rfl | rfl<;>rfl
theorem oG_ (l:List ByteArray):∀ u∈l.flatMap sps,u.oneCell'=true:=by
 intro u hu
 obtain ⟨p,_,hp⟩:=List.mem_flatMap.1 hu
 simp [sps] at hp
 rcases hp with rfl;rfl
/-- A file's pieces lie in a block of their own. -/
structure HT (B:Nat) (w:World) (r:Hr) (y:Hy):Prop where
 nm:r.nm=y.nm
 ps:ResAt sps 1 9 w B r.pa r.pn r.pc y.ps
structure HsT (B:Nat) (w:World) (rows:List Hr) (l:List Hy):Prop where
 len:rows.length=l.length
 at':∀ (i:Nat) r y,rows[i]?=some r->l[i]?=some y->HT B w r y
 apart:∀ (i j:Nat) r s x y,i≠j->rows[i]?=some r->rows[j]?=some s->r.pa=some x->s.pa=some y->x.block≠y.block
theorem HT.below {B:Nat} {w w':World} {r:Hr} {y:Hy} (h:HT B w r y) (hb:Below w.heap.size w w'):HT B w' r y:=⟨h.nm,h.ps.below hb⟩
theorem HsT.below {B:Nat} {w w':World} {rows:List Hr} {l:List Hy} (h:HsT B w rows l) (hb:Below w.heap.size w w'):HsT B w' rows l:=⟨h.len,fun i r y h1 h2=>(h.at' i r y h1 h2).below hb,h.apart⟩
theorem HT.mono {B B':Nat} {w:World} {r:Hr} {y:Hy} (h:HT B w r y) (hb:B'<=B):HT B' w r y:=⟨h.nm,h.ps.mono hb⟩
theorem HsT.mono {B B':Nat} {w:World} {rows:List Hr} {l:List Hy} (h:HsT B w rows l) (hb:B'<=B):HsT B' w rows l:=⟨h.len,fun i r y h1 h2=>(h.at' i r y h1 h2).mono hb,h.apart⟩
theorem HsT.nil (B:Nat) (w:World):HsT B w [] []:=⟨rfl,fun i r y h=>by simp at h,fun i j r s x y _ h=>by simp at h⟩
theorem HsT.block {B:Nat} {w:World} {rows:List Hr} {l:List Hy} (h:HsT B w rows l) {i:Nat} {r:Hr} (hi:rows[i]?=some r):∀ ad,r.pa=some ad->B<=ad.block∧ad.block<w.heap.size:=fun ad had=>by
 have hl:=(List.getElem?_eq_some_iff.1 hi).1
 exact (h.at' i r _ hi (List.getElem?_eq_getElem (by rw [<-h.len];exact hl))).ps.block ad had
/-- One more, whose pieces lie in a new block. -/
theorem HsT.snoc {B:Nat} {w w0:World} {rows:List Hr} {l:List Hy} {r:Hr} {y:Hy} (h:HsT B w rows l) (h':HT B w r y) (hold:∀ (i:Nat) q x,rows[i]?=some q->q.pa=some x->x.block<w0.heap.size) (hnew:∀ x,r.pa=some x->w0.heap.size<=x.block):HsT B w (rows++[r]) (l++[y]):=by
 have hat:∀ (i:Nat) q z,(rows++[r])[i]?=some q->(l++[y])[i]?=some z->HT B w q z:=by
  intro i q z h1 h2
  by_cases hi:i<rows.length
  ·rw [List.getElem?_append_left hi] at h1
   rw [List.getElem?_append_left (by rw [<-h.len];exact hi)] at h2
   exact h.at' i q z h1 h2
  ·rw [List.getElem?_append_right (by omega)] at h1
   rw [List.getElem?_append_right (by rw [<-h.len];omega)] at h2
   have h0:i-rows.length=0:=by have:=(List.getElem?_eq_some_iff.1 h1).1;simp at this;omega
   rw [h0] at h1
   rw [<-h.len,h0] at h2
   simp at h1 h2
   subst h1 h2
   exact h'
 refine ⟨by simp [h.len],hat,?_⟩
 have hcase:∀ (i:Nat) q,(rows++[r])[i]?=some q->rows[i]?=some q∨(i=rows.length∧q=r):=by
  intro i q h1
  by_cases hi:i<rows.length
  ·rw [List.getElem?_append_left hi] at h1;exact .inl h1
  ·rw [List.getElem?_append_right (by omega)] at h1
   have h0:i-rows.length=0:=by have:=(List.getElem?_eq_some_iff.1 h1).1;simp at this;omega
   rw [h0] at h1
   simp at h1
   exact .inr ⟨by omega,h1.symm⟩
 intro i j p q x z hij h1 h2 hx hz
 rcases hcase i p h1 with g1 | ⟨e1,e1'⟩
 ·rcases hcase j q h2 with g2 | ⟨e2,e2'⟩
  ·exact h.apart i j p q x z hij g1 g2 hx hz
  ·have:=hold i p x g1 hx
   rw [e2'] at hz
   have:=hnew z hz
   omega
 ·rcases hcase j q h2 with g2 | ⟨e2,e2'⟩
  ·have:=hold j q z g2 hz
   rw [e1'] at hx
   have:=hnew x hx
   omega
  ·omega
theorem jI_ {B:Nat} {w:World} {a:Option Addr} {n cap:Nat} {rows:List Hr} {l:List Hy} (R:ResAt hrs 2 253 w B a n cap rows) (T:HsT B w rows l) {k:Nat} (hk:k<n) :
  ∃ b r y,a=some ⟨b,0,none⟩∧rows[k]?=some r∧l[k]?=some y∧HT B w r y∧w.cell? ⟨b,k*2,none⟩=some (.string y.nm)∧w.cell? ⟨b,k*2+1,none⟩=some (.slice r.pa r.pn r.pc):=by
 have hl:k<rows.length:=by rw [R.sl.len];exact hk
 have hr:rows[k]?=some rows[k]:=by simp [hl]
 have hy:l[k]?=some (l[k]'(by rw [<-T.len];exact hl)):=by simp [<-T.len,hl]
 have hT:=T.at' k _ _ hr hy
 obtain ⟨b,ha⟩:∃ b,a=some ⟨b,0,none⟩:=by
  rcases R.own with ⟨_,h0,_⟩ | ⟨b,h0,_⟩
  ·omega
  ·exact ⟨b,h0⟩
 subst ha
 obtain ⟨b',o',e,hc⟩:=R.sl.cell k _ hr
 cases e
 have h0:=hc 0 _ rfl
 have h1:=hc 1 _ rfl
 rw [hT.nm] at h0
 simp only [Nat.zero_add,Nat.add_zero] at h0 h1
 exact ⟨_,_,_,rfl,hr,hy,hT,h0,h1⟩
theorem pC_ {w:World} {a:Option Addr} {n:Nat} {l:List ByteArray} (h:SlAt sps 1 w a n l) {k:Nat} (hk:k<n):∃ b o s,a=some ⟨b,o,none⟩∧l[k]?=some s∧w.cell? ⟨b,o+k,none⟩=some (.string s):=by
 have hl:k<l.length:=by rw [h.len];exact hk
 have hx:l[k]?=some l[k]:=by simp [hl]
 obtain ⟨b,o,ha,hc⟩:=h.cell k _ hx
 have:=hc 0 _ rfl
 simp only [Nat.mul_one,Nat.add_zero] at this
 exact ⟨b,o,_,ha,hx,this⟩
def sumP:List ByteArray->Nat
 |[]=>0
 |s::r=>s.size+sumP r
def sumH:List Hy->Nat
 |[]=>0
 |y::r=>sumP y.ps+sumH r
def fitsB (l:List Hy):Bool:=decide (l.length<=60)&&decide (sumH l<=200000)
theorem mE_ {l:List ByteArray} {k:Nat} {s:ByteArray} (h:l[k]?=some s):sumP (l.take (k+1))=sumP (l.take k)+s.size:=by
 rw [aO_ h]
 have:∀ m:List ByteArray,sumP (m++[s])=sumP m+s.size:=fun m=>by
  induction m with
  |nil=>simp [sumP]
  |cons x r ih=>simp only [List.cons_append,sumP,ih];omega
 exact this _
theorem oH_ (l:List ByteArray) (k:Nat):sumP (l.take k)<=sumP l:=by
 induction l generalizing k with
 |nil=>simp [sumP]
 |cons x r ih=>cases k with
  |zero=>simp [sumP]
  |succ k=>have:=ih k;simp only [List.take_succ_cons,sumP];omega
theorem hx_ {l:List Hy} {k:Nat} {y:Hy} (h:l[k]?=some y):sumH (l.take (k+1))=sumH (l.take k)+sumP y.ps:=by
 rw [aO_ h]
 have:∀ m:List Hy,sumH (m++[y])=sumH m+sumP y.ps:=fun m=>by
  induction m with
  |nil=>simp [sumH]
  |cons x r ih=>simp only [List.cons_append,sumH,ih];omega
 exact this _
theorem lD_ (l:List Hy) (k:Nat):sumH (l.take k)<=sumH l:=by
 induction l generalizing k with
 |nil=>simp [sumH]
 |cons x r ih=>cases k with
  |zero=>simp [sumH]
  |succ k=>have:=ih k;simp only [List.take_succ_cons,sumH];omega
theorem hy_ (B sb:Nat) (a:Option Addr) (n cap:Nat) (rows:List Hr) (l:List Hy) (w:World) (hS:Blk w sb #[.slice a n cap] 207) (R:ResAt hrs 2 253 w B a n cap rows) (T:HsT B w rows l) (hn:n<=4194304) (hp:∀ y∈l,y.ps.length<=4194304) (hs:∀ y∈l,∀ s∈y.ps,s.size<=9223372036854775807) :
  Calls Tryz.prog 154 #[.pointer (some ⟨sb,0,none⟩)] w fun e w'=>e=.returned (.bool (fitsB l))∧Below w.heap.size w w':=by
 have hlen:Hid (l.length=n):=by show _=_;rw [<-T.len];exact R.sl.len
 have x0:w.cell? ⟨sb,0,none⟩=some (.slice a n cap):=hS.cell 0
 by_cases h60:n<=60
 ·have h60':¬ (60:Int)<n:=by omega
  have hfl:Hid (fitsB l=decide (sumH l<=200000)):=by show _=_;simp [fitsB,hlen.out,h60]
  go_enter Tryz.func154,Tryz.ntmps154
  go_wp2_with fail
  go_loopw [3,19] (fun lf ix wr=>∃ (k q:Nat),k<=n∧ix=.int .i64 k∧sumH (l.take k)+q=200000∧lf=.int .i64 (q:Int)∧Below w.heap.size w wr) (fun _ ix _=>n-(intOf ix).toNat)
  case atStart=>exact ⟨0,200000,Nat.zero_le _,rfl,by simp [sumH],rfl,Below.refl _ _⟩
  case round=>
   obtain ⟨k,q,hk,rfl,hq,rfl,hB⟩:=hrel
   by_cases hlt:k<n
   ·obtain ⟨b,r,y,rfl,hr,hy,hT,c0,c1⟩:=jI_ (R.below hB) (T.below hB) hlt
    have hst:Hid (sumH (l.take (k+1))=sumH (l.take k)+sumP y.ps):=hx_ hy
    have htot:Hid (sumH (l.take (k+1))<=sumH l):=lD_ l _
    have hyp:=hp y (List.mem_of_getElem? hy)
    have hys:=hs y (List.mem_of_getElem? hy)
    have hpl:Hid (y.ps.length=r.pn):=hT.ps.sl.len
    rw [hpl.out] at hyp
    clear hr hy
    have hk1:(k:Int)<n:=by omega
    have hk2:(0:Int)<=k:=by omega
    obtain ⟨wi,hwi⟩:∃ x,x=wr:=⟨_,rfl⟩
    subst hwi
    generalize sumH (l.take k)=SH at *
    obtain ⟨rn,pa,pn,pc⟩:=r
    simp only at c1 hpl hyp
    have hA:Below wi.heap.size wi (wi.alloc (.cells #[.string y.nm,.slice pa pn pc] 253)):=(Below.refl _ _).alloc (Nat.le_refl _) _
    go_wp2_with fail
    have hP:=hT.ps.sl.below hA
    have hB1:=chain hB hA
    simp only at hP
    generalize wi.alloc (.cells #[.string y.nm,.slice pa pn pc] 253)=W1 at *
    go_loopw [3,7,26] (fun lf _pv ix wr=>∃ (j q2:Nat),j<=pn∧ix=.int .i64 j∧sumP (y.ps.take j)+q2=q∧lf=.int .i64 (q2:Int)∧W1=wr) (fun _ _ ix _=>pn-(intOf ix).toNat)
    case atStart=>exact ⟨0,q,Nat.zero_le _,rfl,by simp [sumP],rfl,rfl⟩
    case round=>
     obtain ⟨j,q2,hj,rfl,hq2,rfl,rfl⟩:=hrel
     by_cases hlj:j<pn
     ·obtain ⟨b2,o2,s,rfl,hsj,d0⟩:=pC_ hP hlj
      have hsz:=hys s (List.mem_of_getElem? hsj)
      have hsp:Hid (sumP (y.ps.take (j+1))=sumP (y.ps.take j)+s.size):=mE_ hsj
      have hspl:Hid (sumP (y.ps.take (j+1))<=sumP y.ps):=oH_ _ _
      clear hsj
      have hj1:(j:Int)<pn:=by omega
      have hj2:(0:Int)<=j:=by omega
      generalize sumP (y.ps.take j)=SP at *
      by_cases hgt:q2<s.size
      ·have hgt':(q2:Int)<(s.size:Int):=by omega
       have hf:Hid (fitsB l=false):=by
        show _=_
        rw [hfl.out]
        have h1:=hst.out
        have h2:=htot.out
        have h3:=hsp.out
        have h4:=hspl.out
        simp only [decide_eq_false_iff_not]
        omega
       go_wp2
       go_returns
       exact ⟨ab_ hf.out.symm,hB1⟩
      ·have hgt':¬ (q2:Int)<(s.size:Int):=by omega
       have hw:IntKind.i64.wrap ((q2:Int)-(s.size:Int))=((q2-s.size:Nat):Int):=by rw [IntKind.wrap_i64];omega
       have hw2:(q2:Int)-(s.size:Int)=((q2-s.size:Nat):Int):=by omega
       go_wp2
       go_roundw
       case rel=>exact ⟨j+1,q2-s.size,by omega,by go_num,by rw [hsp.out];omega,by first | rfl | (rw [hw2]) | go_num,by first | trivial | rfl⟩
       case measure=>simp [intOf];omega
     ·obtain rfl:j=pn:=by omega
      rw [List.take_of_length_le (Nat.le_of_eq hpl.out)] at hq2
      go_wp2
      go_roundw
      case rel=>exact ⟨k+1,q2,by omega,by go_num,by rw [hst.out];omega,rfl,hB1⟩
      case measure=>simp [intOf];omega
   ·obtain rfl:k=n:=by omega
    rw [List.take_of_length_le (Nat.le_of_eq hlen.out)] at hq
    have hf:Hid (fitsB l=true):=by
     show _=_
     rw [hfl.out]
     simp only [decide_eq_true_eq]
     omega
    go_wp2
    go_returns
    exact ⟨ab_ hf.out.symm,hB⟩
 ·have h60':(60:Int)<n:=by omega
  have hf:Hid (fitsB l=false):=by show _=_;simp [fitsB,hlen.out,h60]
  go_enter Tryz.func154,Tryz.ntmps154
  go_wp2
  go_returns
  exact ⟨ab_ hf.out.symm,Below.refl _ _⟩
theorem HsT.ty {B:Nat} {w w':World} {rows:List Hr} {l:List Hy} {row:Option Nat} {t':TypeId} (h:HsT B w rows l) (hg:w.grownBy w' row) (hr:RowTy w row t') (ht:(9:TypeId)≠t'):HsT B w' rows l:=⟨h.len,fun i r y h1 h2=>⟨(h.at' i r y h1 h2).nm,(h.at' i r y h1 h2).ps.ty hg hr ht⟩,h.apart⟩
theorem HT.ty {B:Nat} {w w':World} {r:Hr} {y:Hy} {row:Option Nat} {t':TypeId} (h:HT B w r y) (hg:w.grownBy w' row) (hr:RowTy w row t') (ht:(9:TypeId)≠t'):HT B w' r y:=⟨h.nm,h.ps.ty hg hr ht⟩
theorem infoHr:(Tryz.prog.info? 253).map (fun i=>(i.zero,i.size,i.bytes))=some (some (.agg #[.string .empty,.slice none 0 0]),2,40):=by kernel_rfl
theorem nQ_ {w:World} {b B:Nat} {s:ByteArray} (hb:Blk w b #[.string s] 9) (hB:B<=b):ResAt sps 1 9 w B (some ⟨b,0,none⟩) 1 1 [s]:=by
 refine ⟨⟨rfl,fun i x hx=>⟨b,0,rfl,fun j v hv=>?_⟩⟩,.inr ⟨b,rfl,hB,Nat.le_refl _,by unfold maxLen;omega,_,hb,rfl,rfl⟩⟩
 have hi:i=0:=by have:=(List.getElem?_eq_some_iff.1 hx).1;simp at this;exact this
 subst hi
 simp at hx
 subst hx
 have hj:j=0:=by have:=(List.getElem?_eq_some_iff.1 hv).1;simp [sps] at this;exact this
 subst hj
 simp [sps] at hv
 subst hv
 exact hb.cell 0
theorem nR_ (w:World) (r:Hr) (t:TypeId) (b:Nat) (hb:b=w.heap.size):SlAt hrs 2 (w.alloc (.cells #[.string r.nm,.slice r.pa r.pn r.pc] t)) (some ⟨b,0,none⟩) 1 [r]:=by
 subst hb
 refine ⟨rfl,fun i y hy=>⟨_,0,rfl,fun j v hv=>?_⟩⟩
 have hi:i=0:=by have:=(List.getElem?_eq_some_iff.1 hy).1;simp at this;exact this
 subst hi
 simp at hy
 subst hy
 rw [World.cell?_alloc_new]
 simp only [Nat.zero_mul,Nat.zero_add]
 match j,hv with
 |0,hv=>exact hv
 |1,hv=>exact hv
 |j+2,hv=>simp [hrs] at hv
section
variable {o:Oper} {a:Act} {w:World} {K:Act->World->Prop} {Q:Exit->Act->World->Prop}
theorem f6_ (s x:Operand) (ho:o.op=.call {callee:=.builtin .append,args:=#[s,x],argTypes:=#[205,205]})
  (B:Nat) (da:Option Addr) (dn dcap:Nat) (ld:List Hr) (hs:a.eval s=.slice da dn dcap) (hd:ResAt hrs 2 253 w B da dn dcap ld)
  (sa:Option Addr) (sn scap:Nat) (ls:List Hr) (hx:a.eval x=.slice sa sn scap) (hsrc:SlAt hrs 2 w sa sn ls) (hspot:∀ ad,sa=some ad->ad.spot=none) (hnone:sa=none->scap=0)
  (tot:Nat) (htot:dn+sn=tot) (h63:tot<=9000000) (hbase:B<=w.heap.size)
  (h:∀ a' cap' w',ResAt hrs 2 253 w' B a' tot cap' (ld++ls)->w.grownBy w' (Value.ownBlock (.slice da dn dcap))->K (a.put o.dst (.slice a' tot cap')) w'):o.wp Tryz.prog a w K Q:=by
 obtain ⟨i0,hi,hz0,hz1,hz2⟩:=info_parts infoHr
 exact be_ s x _ ho B _ i0 _ 40 Tryz.underlying205 hi hz0 hz1 hz2 rfl (by decide) aE_ ds_ da dn dcap ld hs hd sa sn scap ls hx hsrc hspot hnone tot htot (by unfold maxLen;omega) (by omega) hbase h
end
/-- A file in one piece. -/
def oneH (f:Fl):Hy:=⟨f.nm,[f.d]⟩
theorem Blk.one {w:World} {b:Nat} {c0:Value} {t:TypeId} (h:Blk w b #[c0] t):w.cell? ⟨b,0,none⟩=some c0:=h.cell 0
theorem ed_ (a:Option Addr) (n cap:Nat) (l:List Fl) (w:World) (h:FlsAt w a n l) (hn:n<=4000000) :
  Calls Tryz.prog 152 #[.slice a n cap] w fun e w'=>(∃ a' c' rows,e=.returned (.agg #[.slice a' n c'])∧ResAt hrs 2 253 w' w.heap.size a' n c' rows∧HsT w.heap.size w' rows (l.map oneH))∧Below w.heap.size w w':=by
 have hlen:Hid (l.length=n):=h.len
 go_enter Tryz.func152,Tryz.ntmps152
 go_wp2_with fail
 go_loopw [5,8] (fun _pv ix wr=>∃ (k:Nat) (a2:Option Addr) (c2:Nat) (rows:List Hr),k<=n∧ix=.int .i64 k∧Blk wr w.heap.size #[.slice none 0 0] 207∧Blk wr (w.heap.size+1) #[.slice a2 k c2] 207∧ResAt hrs 2 253 wr (w.heap.size+2) a2 k c2 rows∧HsT (w.heap.size+2) wr rows ((l.take k).map oneH)∧w.heap.size+2<=wr.heap.size∧Below w.heap.size w wr) (fun _ ix _=>n-(intOf ix).toNat)
 case atStart=>exact ⟨0,none,0,[],Nat.zero_le _,rfl,(Blk.new w _ _).alloc _,Blk.new' _ _ _ _ (by simp),aL_,by simpa using HsT.nil _ _,by simp,by go_grown⟩
 case round=>
  obtain ⟨k,a2,c2,rows,hk,rfl,D,P,R,T,hsz,hB⟩:=hrel
  have x0:=P.one
  have f0:=P.frozen 0
  have za:=fun ob=>acell (w:=wr) ob x0
  have hne1:¬ w.heap.size+1=wr.heap.size:=by omega
  by_cases hlt:k<n
  ·obtain ⟨b,o,p,rfl,hp,c0,c1⟩:=bk_ (h.below hB) hlt
   have hst:Hid ((l.take (k+1)).map oneH=(l.take k).map oneH++[oneH p]):=by
    show _=_
    rw [aO_ hp,List.map_append];rfl
   clear hp
   have hk1:(k:Int)<n:=by omega
   have hk2:(0:Int)<=k:=by omega
   generalize (l.take k).map oneH=G at *
   have hA3:Below wr.heap.size wr (((wr.alloc (.cells #[.string p.nm,.string p.d] 123)).alloc (.cells #[.string p.d] 9)).alloc (.cells #[.string p.nm,.slice (some ⟨wr.heap.size+1,0,none⟩) 1 1] 253)):=by go_grown
   have S3:Blk (((wr.alloc (.cells #[.string p.nm,.string p.d] 123)).alloc (.cells #[.string p.d] 9)).alloc (.cells #[.string p.nm,.slice (some ⟨wr.heap.size+1,0,none⟩) 1 1] 253)) (wr.heap.size+1) #[.string p.d] 9:=(Blk.new' _ _ _ _ (by simp)).alloc _
   go_wp2_with (at_builtin;refine al_ rfl (fun K hK=>f6_ _ _ rfl (w.heap.size+2) a2 k c2 rows rfl (R.below hA3) _ 1 1 [(⟨p.nm,some ⟨wr.heap.size+1,0,none⟩,1,1⟩:Hr)] rfl (nR_ _ (⟨p.nm,some ⟨wr.heap.size+1,0,none⟩,1,1⟩:Hr) _ _ (by simp)) (fun ad h=>(by cases h;rfl)) (fun h=>(by cases h)) (k+1) rfl (by omega) (by simp;omega) (fun a3 c3 w3 R3 hg3=>hK _ _ ?_));have ht3:=(R.below hA3).rowTy (m:=k) (k:=c2);have P3:=(P.below hA3).ty hg3 ht3 (by decide);have y0:=P3.one;have g0:=P3.frozen 0)
   have D3:=(D.below hA3).ty hg3 ht3 (by decide)
   have T3:=(T.below hA3).ty hg3 ht3 (by decide)
   have N3:HT (w.heap.size+2) w3 (⟨p.nm,some ⟨wr.heap.size+1,0,none⟩,1,1⟩:Hr) (oneH p):=⟨rfl,nQ_ (S3.ty hg3 ht3 (by decide)) (by omega)⟩
   have T4:=T3.snoc (w0:=wr) N3 (fun i q x hi hx=>(T.block hi x hx).2) (fun x hx=>by cases hx;simp only;omega)
   have hB3:Below w.heap.size w w3:=Below.grown (chain hB hA3) hg3 (chain hB hA3).size (fun j e=>by have:=aI_ (fun ad had=>(R.block ad had).1) j e;omega)
   have hs3:=hg3.size
   have hsA:=hA3.size
   go_wp2
   have hg4:w3.grownBy (w3.setCell ⟨w.heap.size+1,0,none⟩ (.slice a3 (k+1) c3)) (some (w.heap.size+1)):=ac_ (World.grownBy.refl _ _) _ _
   have hs4:=hg4.size
   go_roundw
   case rel=>exact ⟨k+1,a3,c3,_,by omega,by go_num,(hg4.block _ D3.lt (by simp)).trans D3,by simpa using P3.set 0 (.slice a3 (k+1) c3),R3.ty hg4 (ap_ P3) (by decide),by rw [hst.out];exact T4.ty hg4 (ap_ P3) (by decide),by omega,hB3.grown hg4 hB3.size (fun j e=>by cases e;omega)⟩
   case measure=>simp [intOf];omega
  ·obtain rfl:k=n:=by omega
   rw [List.take_of_length_le (Nat.le_of_eq hlen.out)] at T
   have z0:=D.one
   have q0:=D.frozen 0
   go_wp2
   have hg4:wr.grownBy (wr.setCell ⟨w.heap.size,0,none⟩ (.slice a2 k c2)) (some w.heap.size):=ac_ (World.grownBy.refl _ _) _ _
   have W0:Blk (wr.setCell ⟨w.heap.size,0,none⟩ (.slice a2 k c2)) w.heap.size #[.slice a2 k c2] 207:=by simpa using D.set 0 (.slice a2 k c2)
   have R4:=(R.ty hg4 (ap_ D) (by decide)).mono (show w.heap.size<=w.heap.size+2 by omega)
   have T4:=(T.ty hg4 (ap_ D) (by decide)).mono (show w.heap.size<=w.heap.size+2 by omega)
   have hB4:=hB.grown hg4 hB.size (fun j e=>by cases e;omega)
   generalize wr.setCell ⟨w.heap.size,0,none⟩ (.slice a2 k c2)=W8 at *
   refine bodyPost_ret (results_cell_row rfl _ W8 w.heap.size _ _ _ _ rfl W0 Tryz.underlying207 rfl (by kernel_rfl)) rfl ?_
   exact ⟨⟨a2,c2,rows,rfl,R4,T4⟩,hB4⟩
end Go.Proofs.YtigldeccfpkdmaaGreatDoor
