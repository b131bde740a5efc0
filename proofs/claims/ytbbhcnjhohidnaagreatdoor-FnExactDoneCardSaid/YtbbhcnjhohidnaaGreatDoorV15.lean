/- A copy of items. -/
import Derived.Shelf.SlSortCmp.NoneTotal
import Derived.Maps.RangeWalk
import Derived.WideKeyEntry
import Derived.Test.YtbbhcnjhohidnaaGreatDoorV14
set_option maxHeartbeats 20000000
set_option maxRecDepth 100000
namespace Go.Proofs.YtbbhcnjhohidnaaGreatDoor
section
open Go Go.RowKit Go.BigFrame Tryz
def blkOf:Option Addr->List Nat
 |none=>[]
 |some x=>[x.block]
theorem aO_ {a:Option Addr}{k:Nat}:k∈blkOf a↔∃ x,a=some x∧x.block=k:=by
 cases a with
 |none=>simp[blkOf]
 |some x=>simp[blkOf,eq_comm]
theorem gm_ {a:Option Addr}{n cap k:Nat}(h:Value.ownBlock (.slice a n cap)=some k):k∈blkOf a:=by
 cases a with
 |none=>simp[Value.ownBlock] at h
 |some x=>simp[Value.ownBlock] at h;simp[blkOf,h]
theorem setT (x:It):∀ (L acc:List It),setE x (L.foldl (setS x) (acc,true))=acc++L.filter (fun y=>!(y.nm.toList==x.nm.toList))
 |[],acc=>by simp[setE]
 |y::r,acc=>by
  rw[List.foldl_cons]
  cases he:(y.nm.toList==x.nm.toList)
  ·have:setS x (acc,true) y=(acc++[y],true):=by simp only[setS,he];rfl
   rw[this,setT x r,ZH,he];simp
  ·have:setS x (acc,true) y=(acc,true):=by simp only[setS,he];simp
   rw[this,setT x r,ZH,he];simp
theorem setW (x:It):∀ (L acc:List It),setE x (L.foldl (setS x) (acc,false))=acc++L.takeWhile (fun y=>bl y.nm.toList x.nm.toList)++[x]++(L.dropWhile (fun y=>bl y.nm.toList x.nm.toList)).filter (fun y=>!(y.nm.toList==x.nm.toList))
 |[],acc=>by simp[setE]
 |y::r,acc=>by
  rw[List.foldl_cons]
  cases hb:bl y.nm.toList x.nm.toList
  ·cases he:(y.nm.toList==x.nm.toList)
   ·have:setS x (acc,false) y=(acc++[x]++[y],true):=by simp only[setS,he,hb];rfl
    rw[this,setT x r,List.takeWhile_cons,List.dropWhile_cons,hb];simp[he]
   ·have:setS x (acc,false) y=(acc++[x],true):=by simp only[setS,he,hb];simp
    rw[this,setT x r,List.takeWhile_cons,List.dropWhile_cons,hb];simp[he]
  ·have he:(y.nm.toList==x.nm.toList)=false:=by
    cases h:(y.nm.toList==x.nm.toList)
    ·rfl
    ·have h2:y.nm.toList=x.nm.toList:=by simpa using h
     rw[h2,cn_] at hb;cases hb
   have:setS x (acc,false) y=(acc++[y],false):=by simp only[setS,he,hb];rfl
   rw[this,setW x r,List.takeWhile_cons,List.dropWhile_cons,hb];simp
theorem d5_ {α:Type}(q:α->Bool)(l:List α):l.take (l.takeWhile q).length=l.takeWhile q∧l.drop (l.takeWhile q).length=l.dropWhile q:=by
 have h:=List.takeWhile_append_dropWhile (p:=q) (l:=l);constructor
 ·conv=>lhs;arg 2;rw[<-h]
  exact List.take_left
 ·conv=>lhs;arg 2;rw[<-h]
  exact List.drop_left
def plI (l:List It)(nm:ByteArray):Nat:=(l.takeWhile (fun y=>bl y.nm.toList nm.toList)).length
theorem mL_ {α:Type}(q:α->Bool):∀ (l:List α) (k:Nat) (y:α),l[k]?=some y->k<=(l.takeWhile q).length->(q y=true->k+1<=(l.takeWhile q).length)∧(q y=false->k=(l.takeWhile q).length)
 |[],k,y,h,_=>by simp at h
 |x::t,0,y,h,_=>by
  simp at h;subst h;rw[List.takeWhile_cons];exact⟨fun hq=>by rw[if_pos hq];simp,fun hq=>by rw[if_neg (by simp[hq])];rfl⟩
 |x::t,k+1,y,h,hk=>by
  rw[List.takeWhile_cons] at hk ⊢;by_cases hq:q x=true
  ·rw[if_pos hq] at hk ⊢;have ih:=mL_ q t k y (by simpa using h) (by simpa using hk);simp only[Zw];exact⟨fun e=>by have:=ih.1 e;omega,fun e=>by have:=ih.2 e;omega⟩
  ·rw[if_neg hq] at hk;simp at hk
theorem oq_ {l:List It}{nm:ByteArray}{k:Nat}{y:It}(h:l[k]?=some y)(hk:k<=plI l nm):(bl y.nm.toList nm.toList=true->k+1<=plI l nm)∧(bl y.nm.toList nm.toList=false->k=plI l nm):=mL_ _ l k y h hk
theorem p0_ (l:List It)(nm:ByteArray):plI l nm<=l.length:=(List.takeWhile_prefix _).length_le
def RisI (l:List It):Prop:=l.Pairwise (fun a b=>bl a.nm.toList b.nm.toList=true)
theorem mM_ {l:List It}{x:It}(hr:RisI l)(hn:∀ y,l[plI l x.nm]?=some y->¬ y.nm.toList=x.nm.toList):setI x l=l.take (plI l x.nm)++[x]++l.drop (plI l x.nm):=by
 unfold setI;rw[setW,ZM];obtain⟨e1,e2⟩:=d5_ (fun y=>bl y.nm.toList x.nm.toList) l;show _=l.take (l.takeWhile _).length++[x]++l.drop (l.takeWhile _).length;rw[e1,e2];congr 1;rw[List.filter_eq_self];intro z hz
 cases hd:l.dropWhile (fun y=>bl y.nm.toList x.nm.toList) with
 |nil=>rw[hd] at hz;cases hz
 |cons d t=>
  have ha:bl d.nm.toList x.nm.toList=false:=by
   have:=List.head_dropWhile_not (p:=fun y:It=>bl y.nm.toList x.nm.toList) (l:=l) (by rw[hd];simp)
   simpa[hd] using this
  have hb:l[plI l x.nm]?=some d:=by
   have:(l.drop (plI l x.nm))[0]?=some d:=by show (l.drop (l.takeWhile _).length)[0]?=_;rw[e2,hd];rfl
   simpa using this
  rw[hd] at hz;have hp:(d::t).Pairwise (fun a b:It=>bl a.nm.toList b.nm.toList=true):=by rw[<-hd];exact hr.sublist (List.dropWhile_sublist _)
  rcases Zn.1 hz with rfl | hz
  ·have:=hn z hb;simpa using this
  ·have h1:=(Ye.1 hp).1 z hz
   cases he:(z.nm.toList==x.nm.toList)
   ·rfl
   ·rw[beq_iff_eq] at he;rw[he,ha] at h1
    cases h1
theorem pD_ {l:List It}{x y:It}(hr:RisI l)(hy:l[plI l x.nm]?=some y)(he:y.nm.toList=x.nm.toList):setI x l=l.set (plI l x.nm) x:=by
 unfold setI;rw[setW,ZM];obtain⟨e1,e2⟩:=d5_ (fun y=>bl y.nm.toList x.nm.toList) l;have ha:=(Zb.1 hy).1;rw[List.set_eq_take_append_cons_drop,if_pos ha]
 have hd:l.dropWhile (fun y=>bl y.nm.toList x.nm.toList)=y::l.drop (plI l x.nm+1):=by
  rw[<-e2];show l.drop (plI l x.nm)=_;rw[List.drop_eq_getElem_cons ha];congr 1;simpa[ZI ha] using hy
 have hp:(y::l.drop (plI l x.nm+1)).Pairwise (fun a b:It=>bl a.nm.toList b.nm.toList=true):=by rw[<-hd];exact hr.sublist (List.dropWhile_sublist _)
 rw[hd,<-e1,ZH,if_neg (by simp[he])];show l.take (plI l x.nm)++[x]++_=_;rw[List.filter_eq_self.2]
 ·simp
 ·intro z hz;have h1:=(Ye.1 hp).1 z hz
  cases hq:(z.nm.toList==x.nm.toList)
  ·rfl
  ·rw[beq_iff_eq] at hq;rw[hq,he,cn_] at h1
   cases h1
end
section
open Go Go.RowKit Go.BigFrame Tryz
variable{α:Type}{r:IR}{y:It}{rows:List IR}{l:List It}{B k:Nat}{w:World}{x:α}
def refV (c:Int)(a:Addr):Value:=.iface 69 (.agg #[.int .i64 c,.iface 315 (.pointer (some a))])
def SenAt (w:World)(g:Nat)(a:Addr):Prop:=w.cell? ⟨g,0,none⟩=some (.iface 315 (.pointer (some a)))
theorem VolT.parts {r:VR}{y:Vo}(h:VolT B w r y):∃ rowsI,ResAt irs 2 156 w B r.pa r.pn r.pc rowsI∧RowsT B w rowsI y.its:=h.its
theorem RowsT.set (k:Nat)(h:RowsT B w rows l)(h':RowT B w r y):RowsT B w (rows.set k r) (l.set k y):=⟨by simp[h.len],mB_ h.at' h'⟩
theorem RowsT.ins (hk:k<=rows.length)(h:RowsT B w rows l)(h':RowT B w r y):RowsT B w (rows.take k++[r]++rows.drop k) (l.take k++[y]++l.drop k):=by
 have hl:=h.len;refine⟨by simp[hl],fun i q z h1 h2=>?_⟩;have e1:(rows.take k).length=k:=by simp;omega
 have e2:(l.take k).length=k:=by simp;omega
 rw[ZC] at h1 h2;by_cases hi:i<k
 ·rw[ZD (by omega),Ya hi] at h1 h2;exact h.at' i q z h1 h2
 ·rw[Zv (by omega)] at h1 h2;rw[e1] at h1;rw[e2] at h2;by_cases hik:i=k
  ·subst hik;rw[Nat.sub_self] at h1 h2;simp at h1 h2;subst h1 h2;exact h'
  ·obtain⟨j,hj⟩:∃ j,i-k=j+1:=⟨i-k-1,by omega⟩;rw[hj] at h1 h2;simp only[List.singleton_append,List.getElem?_cons_succ,List.getElem?_drop] at h1 h2;exact h.at' (k+j) q z h1 h2
theorem pE_ {a b:ByteArray}(h:a.toList=b.toList):a=b:=by
 rw[Zu,Zu] at h;exact ByteArray.ext (Array.toList_inj.1 h)
theorem kB_ {l:List α}{i:Nat}(h:l[i]?=some x):l.set i x=l:=by
 apply List.ext_getElem?;intro j;by_cases hj:i=j
 ·subst hj;rw[Zx (Zb.1 h).1,h]
 ·rw[ZJ hj]
theorem mN_ {l:List α}{x':α}(hk:k<=l.length):(l.take k++[x]++l.drop k).set k x'=l.take k++[x']++l.drop k:=by
 have e1:(l.take k).length=k:=by simp;omega
 rw[ZC,List.set_append_right _ _ (by omega),e1,Nat.sub_self];simp
theorem RowsT.tyR {w':World}{row:Option Nat}{t':TypeId}(h:RowsT B w rows l)(hg:w.grownBy w' row)(hr:RowTy w row t')(ht:(162:TypeId)≠t'):RowsT B w' rows l:=
 ⟨h.len,fun i r y h1 h2=>⟨(h.at' i r y h1 h2).nm,(h.at' i r y h1 h2).ps.ty hg hr ht⟩⟩
def MovV (w:World)(r:VR)(w':World)(r':VR):Prop:=(∀ ad,r'.pa=some ad->ad.block∈blkOf r.pa∨w.heap.size<=ad.block)∧∀ rs,SlAt irs 2 w r.pa r.pn rs->MovB w.heap.size (bkI rs) (pbk w' r')
theorem jq_ (B vb vn vc i:Nat)(rows:List VR)(r:VR)(y:Vo)(file:ByteArray)(pa:Option Addr)(pn pc:Nat)(l:List Pt)(at':Int)(qa:Option Addr)(qn qc:Nat)(m:List Pt)(ep:Addr)(w:World)(hBw:B<=w.heap.size)
  (RV:ResAt vrs 4 97 w B (some ⟨vb,0,none⟩) vn vc rows)(hi:rows[i]?=some r)(V:VolT B w r y)(hris:RisI y.its)(hlen:y.its.length<=4000000)
  (hP:PtsAt w pa pn l)(hpn:pn<=4194304)(hPb:∀ ad,pa=some ad->ad.block<w.heap.size)(hQ:PtsAt w qa qn m)(hqn:qn<=4194304)(hQb:∀ ad,qa=some ad->ad.block<w.heap.size)(hg:SenAt w 10 ep):
  Calls prog 159 #[.pointer (some ⟨vb,i*4,none⟩),.string file,.slice pa pn pc,.int .i64 at',.slice qa qn qc] w fun e w'=>
   (laidO l at' m=none∧e=.returned (refV 5 ep)∧Below w.heap.size w w')∨(∃ ps r',laidO l at' m=some ps∧e=.returned .nilIface∧ResAt vrs 4 97 w' B (some ⟨vb,0,none⟩) vn vc (rows.set i r')∧VolT B w' r' {y with its:=setI ⟨file,ps⟩ y.its}∧FrL (vb::blkOf r.pa) w w'∧MovV w r w' r'):=by
 go_enter func159,ntmps159
 go_wp2_with fail
 refine (nc_ pa pn pc l at' qa qn qc m w hP hpn hPb hQ hqn hQb).mono ?_;rintro e w1 ⟨hr,hm⟩
 cases ho:laidO l at' m with
 |none=>
  rw[ho] at hr;obtain rfl:=hr;have x:=bcell hm hg;go_wp2;go_returns;exact .inl ⟨ho,rfl,hm⟩
 |some ps=>
  rw[ho] at hr;obtain⟨a1,n1,c1,rfl,R1⟩:=hr;replace RV:=RV.below hm;replace V:=V.below hm;obtain⟨rowsI,RI,TI⟩:=V.its;have qm:rowsI.length=y.its.length:=TI.len;have qt:rowsI.length=r.pn:=RI.sl.len;have hI:=hm.size;have h8:=(RV.block _ rfl).2;have y3:w1.cell? ⟨vb,i*4+3,none⟩=some (.slice r.pa r.pn r.pc):=RV.cellAt hi rfl;have ql:r.pn<=4000000:=by omega
  clear hP hQ hPb hQb hg
  go_wp2_with fail
  go_loopw [13] (fun ix wr=>∃ (k:Nat),k<=r.pn∧ix=.int .i64 k∧Hid (k<=plI y.its file)∧wr=w1) (fun ix _=>r.pn-(intOf ix).toNat)
  case atStart=>exact⟨0,Zg _,rfl,Zg _,rfl⟩
  case round=>
   obtain⟨k,hk,rfl,h6,rfl⟩:=hrel;by_cases hlt:k<r.pn
   ·have qk:(k:Int)<r.pn:=by omega
    have qu:(0:Int)<=k:=by omega
    obtain⟨ib,hs,qs,qr,qq⟩:=RI.addr (by omega);have h9:k<y.its.length:=by omega
    obtain⟨z,hz⟩:∃ z,y.its[k]?=some z:=⟨y.its[k],by simp[h9]⟩;have qb:k<rowsI.length:=by omega
    obtain⟨ri,hx⟩:∃ ri,rowsI[k]?=some ri:=⟨rowsI[k],by simp[qb]⟩;have hT:=TI.at' k ri z hx hz;rw[hs] at RI y3;have x0:wr.cell? ⟨ib,k*2,none⟩=some (.string ri.nm):=RI.cellAt (j:=0) hx rfl;rw[hT.nm] at x0;have hW:=oq_ hz h6.out
    cases h4:bl z.nm.toList file.toList
    ·have hv:Hid (k=plI y.its file):=hW.2 h4;clear hW;by_cases he:z.nm.toList=file.toList
     ·have qj:Hid (z.nm=file):=pE_ he;have qd:(z.nm.toList==file.toList)=true:=by simpa using he
      have hF:Hid (setI ⟨file,ps⟩ y.its=y.its.set (plI y.its file) ⟨file,ps⟩):=pD_ (x:=⟨file,ps⟩) hris (by show y.its[plI y.its file]?=_;rw[<-hv.out];exact hz) he;obtain⟨cc,hb⟩:=RI.blkAt;have x1:wr.cell? ⟨ib,k*2+1,none⟩=some (.slice ri.pa ri.pn ri.pc):=RI.cellAt (j:=1) hx rfl;have f1:=hb.frozen (k*2+1);have h3:((k:Int)==(r.pn:Int))=false:=by simp;omega
      have qo:=cn_ file.toList;go_wp2;have hK:wr.grownBy (wr.setCell ⟨ib,k*2+1,none⟩ (.slice a1 n1 c1)) (some ib):=af_ (World.grownBy.refl _ _) _ _;have h5:=RI.set1 (x':=⟨ri.nm,a1,n1,c1⟩) (v:=.slice a1 n1 c1) aI_ hx (j:=1) (by decide) rfl;have R9:=(R1.ty hK (aa_ hb) (by decide)).mono hBw;have qi:=(TI.tyR hK (aa_ hb) (by decide)).set k (r:=⟨ri.nm,a1,n1,c1⟩) (y:=⟨file,ps⟩) ⟨by show ri.nm=file;rw[hT.nm,qj.out],R9⟩;have qg:=RV.ty hK (aa_ hb) (by decide);go_returns;have hB:=(FrL.of_below (bs:=vb::blkOf r.pa) hm).new (FrL.of_grown (bs:=[ib]) hK (fun k e=>.inl (by cases e;simp))) (fun k hk=>.inl (by simp at hk;subst hk;rw[hs];simp[blkOf]));refine .inr ⟨ps,r,ho,rfl,?_,?_,hB,⟨fun ad e=>.inl (aO_.2 ⟨ad,e,rfl⟩),fun rs ht=>by rw[hs] at ht;rw[co_ (ht.below hm) RI.sl,cv_ (r:=r) (by rw[hs];exact h5.sl)];exact oa_ hx (fun ad e=>(R1.block ad e).1)⟩⟩
      ·rw[kB_ hi];exact qg
      ·refine⟨V.id,V.nm,V.fx,_,by rw[hs];exact h5,?_⟩;show RowsT _ _ _ (setI ⟨file,ps⟩ y.its);rw[hF.out,<-hv.out];exact qi
     ·have qd:(z.nm.toList==file.toList)=false:=by simpa using he
      have hF:Hid (setI ⟨file,ps⟩ y.its=y.its.take (plI y.its file)++[⟨file,ps⟩]++y.its.drop (plI y.its file)):=mM_ (x:=⟨file,ps⟩) hris (by show ∀ y',y.its[plI y.its file]?=some y'->_;rw[<-hv.out,hz];intro y' e;cases e;exact he);have h3:((k:Int)==(r.pn:Int))=false:=by simp;omega
      go_wp2_with fail
      have ha:Below wr.heap.size wr (wr.alloc (.cells #[.string file,.slice none 0 0] 156)):=(Below.refl _ _).alloc (Zd _) _;have hu:=RI.below ha;have hD:=TI.below ha;have hy:=RV.below ha;have hE:=R1.below ha;have hl:=Blk.new wr #[.string file,.slice none 0 0] 156;have hC:=(FrL.of_below hm).new (FrL.of_below (bs:=vb::blkOf r.pa) ha) (fun k h=>.inl h);refine (hH_ B (some ⟨ib,0,none⟩) r.pn r.pc k wr.heap.size rowsI ⟨file,none,0,0⟩ _ hu hl (fun ad e=>by have:=(RI.block ad e).2;omega) (by omega) (by have:=ha.size;omega) (by omega)).mono ?_;rintro e w3 ⟨⟨a3,c3,rfl,R3,hA⟩,hh⟩;have hX:w.heap.size<=w3.heap.size:=Zl hI (Zl ha.size hh.size);have hq:=hu.rowTy (m:=r.pn) (k:=r.pc);have hM:=hD.tyR hh hq (by decide);have hw:=hy.ty hh hq (by decide);have hS:=hE.ty hh hq (by decide);have hV:=hC.new (FrL.of_grown (bs:=blkOf r.pa) hh (fun k e=>.inl (by have:=gm_ e;first | exact this | (rw[hs];exact this)))) (fun k h=>.inl (ZY _ h));obtain⟨ab,hG,qf,_,_⟩:=R3.addr (by omega)
      have hJ:ab∈blkOf r.pa∨w.heap.size<=ab:=by
       rcases hA _ hG with⟨ad,e1,e2⟩ | e1
       ·left;rw[aO_];exact⟨ad,by first | exact e1 | (rw[hs];exact e1),e2⟩
       ·right;have:=ha.size;simp only at e1;omega
      clear hq hh ha hu hD hy hE hl hC hA
      skip
      have y3b:w3.cell? ⟨vb,i*4+3,none⟩=some (.slice r.pa r.pn r.pc):=hw.cellAt hi rfl;obtain⟨cv,hc⟩:=hw.blkAt;have fv:=hc.frozen (i*4+3);rw[hG] at R3 ⊢;obtain⟨cc,hb⟩:=R3.blkAt;have hH:¬ ab=vb:=fun e=>by rw[e] at hb;unfold Blk at hb hc;rw[hb] at hc;injection hc with q;injection q with _ q2;exact absurd q2 (by decide)
      have hY:¬ vb=ab:=fun e=>hH e.symm;have hn:(rowsI.take k++[(⟨file,none,0,0⟩:IR)]++rowsI.drop k)[k]?=some ⟨file,none,0,0⟩:=by rw[ZC,Zv (by simp;omega)];simp[ZZ (show k<=rowsI.length by omega)]
      have x1b:w3.cell? ⟨ab,k*2+1,none⟩=some (.slice none 0 0):=R3.cellAt (j:=1) hn rfl;have f1b:=hb.frozen (k*2+1);have qe:(k:Int)<(r.pn:Int)+1:=by omega
      have qh:(0:Int)<=k:=by omega
      go_wp2;have hj:w3.grownBy (w3.setCell ⟨vb,i*4+3,none⟩ (.slice (some ⟨ab,0,none⟩) (r.pn+1) c3)) (some vb):=af_ (World.grownBy.refl _ _) _ _;have hR:=hw.set1 (x':=⟨r.id,r.nm,r.fx,some ⟨ab,0,none⟩,r.pn+1,c3⟩) (v:=.slice (some ⟨ab,0,none⟩) (r.pn+1) c3) a2_ hi (j:=3) (by decide) rfl;have R4:=R3.ty hj (aa_ hc) (by decide);have hL:=hM.tyR hj (aa_ hc) (by decide);have hN:=hS.ty hj (aa_ hc) (by decide);have hf:=hb.grown hj hH;have hU:=hV.new (FrL.of_grown (bs:=[vb]) hj (fun k e=>.inl (by cases e;simp))) (fun k hk=>.inl (by simp at hk;subst hk;simp));generalize w3.setCell ⟨vb,i*4+3,none⟩ (.slice (some ⟨ab,0,none⟩) (r.pn+1) c3)=w4 at *;have hp:w4.grownBy (w4.setCell ⟨ab,k*2+1,none⟩ (.slice a1 n1 c1)) (some ab):=af_ (World.grownBy.refl _ _) _ _;have R5:=R4.set1 (x':=⟨file,a1,n1,c1⟩) (v:=.slice a1 n1 c1) aI_ hn (j:=1) (by decide) rfl;rw[mN_ (by omega)] at R5;have h0:=hR.ty hp (aa_ hf) (by decide);have hZ:=(hN.ty hp (aa_ hf) (by decide)).mono hBw;have hO:=(hL.tyR hp (aa_ hf) (by decide)).ins (k:=k) (r:=⟨file,a1,n1,c1⟩) (y:=⟨file,ps⟩) (by omega) ⟨rfl,hZ⟩;have hB:=hU.new (FrL.of_grown (bs:=[ab]) hp (fun k e=>.inl (by cases e;simp))) (fun k hk=>by simp at hk;subst hk;exact hJ.elim (fun h1=>.inl (ZY _ h1)) (fun h1=>.inr h1));go_returns;refine .inr ⟨ps,⟨r.id,r.nm,r.fx,some ⟨ab,0,none⟩,r.pn+1,c3⟩,ho,rfl,h0,⟨V.id,V.nm,V.fx,_,R5,?_⟩,hB,⟨fun ad e=>by cases e;exact hJ,fun rs ht=>by rw[hs] at ht;rw[co_ (ht.below hm) RI.sl,cv_ (r:=⟨r.id,r.nm,r.fx,some ⟨ab,0,none⟩,r.pn+1,c3⟩) R5.sl];exact ko_ (fun ad e=>(R1.block ad e).1)⟩⟩;show RowsT _ _ _ (setI ⟨file,ps⟩ y.its);rw[hF.out,<-hv.out];exact hO
    ·have h7:Hid (k+1<=plI y.its file):=hW.1 h4;go_wp2;go_roundw
     case rel=>exact⟨k+1,by omega,by go_num,h7,trivial⟩
     case measure=>simp[intOf];omega
   ·have qp:Hid (k=r.pn):=by show _=_;omega
    have qk:¬ (k:Int)<r.pn:=by omega
    have h3:((k:Int)==(r.pn:Int))=true:=by simp;omega
    have hv:Hid (k=plI y.its file):=by have h1:=p0_ y.its file;have h2:=h6.out;show _=_;omega
    have hF:Hid (setI ⟨file,ps⟩ y.its=y.its.take (plI y.its file)++[⟨file,ps⟩]++y.its.drop (plI y.its file)):=mM_ (x:=⟨file,ps⟩) hris (by show ∀ y',y.its[plI y.its file]?=some y'->_;rw[<-hv.out];intro y' e;have:=(Zb.1 e).1;omega)
    go_wp2_with fail
    have ha:Below wr.heap.size wr (wr.alloc (.cells #[.string file,.slice none 0 0] 156)):=(Below.refl _ _).alloc (Zd _) _;have hu:=RI.below ha;have hD:=TI.below ha;have hy:=RV.below ha;have hE:=R1.below ha;have hl:=Blk.new wr #[.string file,.slice none 0 0] 156;have hC:=(FrL.of_below hm).new (FrL.of_below (bs:=vb::blkOf r.pa) ha) (fun k h=>.inl h);refine (hH_ B r.pa r.pn r.pc k wr.heap.size rowsI ⟨file,none,0,0⟩ _ hu hl (fun ad e=>by have:=(RI.block ad e).2;omega) (by omega) (by have:=ha.size;omega) (by omega)).mono ?_;rintro e w3 ⟨⟨a3,c3,rfl,R3,hA⟩,hh⟩;have hX:w.heap.size<=w3.heap.size:=Zl hI (Zl ha.size hh.size);have hq:=hu.rowTy (m:=r.pn) (k:=r.pc);have hM:=hD.tyR hh hq (by decide);have hw:=hy.ty hh hq (by decide);have hS:=hE.ty hh hq (by decide);have hV:=hC.new (FrL.of_grown (bs:=blkOf r.pa) hh (fun k e=>.inl (by have:=gm_ e;exact this))) (fun k h=>.inl (ZY _ h));obtain⟨ab,hG,qf,_,_⟩:=R3.addr (by omega)
    have hJ:ab∈blkOf r.pa∨w.heap.size<=ab:=by
     rcases hA _ hG with⟨ad,e1,e2⟩ | e1
     ·left;rw[aO_];exact⟨ad,e1,e2⟩
     ·right;have:=ha.size;simp only at e1;omega
    clear hq hh ha hu hD hy hE hl hC hA
    skip
    have y3b:w3.cell? ⟨vb,i*4+3,none⟩=some (.slice r.pa r.pn r.pc):=hw.cellAt hi rfl;obtain⟨cv,hc⟩:=hw.blkAt;have fv:=hc.frozen (i*4+3);rw[hG] at R3 ⊢;obtain⟨cc,hb⟩:=R3.blkAt;have hH:¬ ab=vb:=fun e=>by rw[e] at hb;unfold Blk at hb hc;rw[hb] at hc;injection hc with q;injection q with _ q2;exact absurd q2 (by decide)
    have hY:¬ vb=ab:=fun e=>hH e.symm;have hn:(rowsI.take k++[(⟨file,none,0,0⟩:IR)]++rowsI.drop k)[k]?=some ⟨file,none,0,0⟩:=by rw[ZC,Zv (by simp;omega)];simp[ZZ (show k<=rowsI.length by omega)]
    have x1b:w3.cell? ⟨ab,k*2+1,none⟩=some (.slice none 0 0):=R3.cellAt (j:=1) hn rfl;have f1b:=hb.frozen (k*2+1);have qe:(k:Int)<(r.pn:Int)+1:=by omega
    have qh:(0:Int)<=k:=by omega
    go_wp2;have hj:w3.grownBy (w3.setCell ⟨vb,i*4+3,none⟩ (.slice (some ⟨ab,0,none⟩) (r.pn+1) c3)) (some vb):=af_ (World.grownBy.refl _ _) _ _;have hR:=hw.set1 (x':=⟨r.id,r.nm,r.fx,some ⟨ab,0,none⟩,r.pn+1,c3⟩) (v:=.slice (some ⟨ab,0,none⟩) (r.pn+1) c3) a2_ hi (j:=3) (by decide) rfl;have R4:=R3.ty hj (aa_ hc) (by decide);have hL:=hM.tyR hj (aa_ hc) (by decide);have hN:=hS.ty hj (aa_ hc) (by decide);have hf:=hb.grown hj hH;have hU:=hV.new (FrL.of_grown (bs:=[vb]) hj (fun k e=>.inl (by cases e;simp))) (fun k hk=>.inl (by simp at hk;subst hk;simp));generalize w3.setCell ⟨vb,i*4+3,none⟩ (.slice (some ⟨ab,0,none⟩) (r.pn+1) c3)=w4 at *;have hp:w4.grownBy (w4.setCell ⟨ab,k*2+1,none⟩ (.slice a1 n1 c1)) (some ab):=af_ (World.grownBy.refl _ _) _ _;have R5:=R4.set1 (x':=⟨file,a1,n1,c1⟩) (v:=.slice a1 n1 c1) aI_ hn (j:=1) (by decide) rfl;rw[mN_ (by omega)] at R5;have h0:=hR.ty hp (aa_ hf) (by decide);have hZ:=(hN.ty hp (aa_ hf) (by decide)).mono hBw;have hO:=(hL.tyR hp (aa_ hf) (by decide)).ins (k:=k) (r:=⟨file,a1,n1,c1⟩) (y:=⟨file,ps⟩) (by omega) ⟨rfl,hZ⟩;have hB:=hU.new (FrL.of_grown (bs:=[ab]) hp (fun k e=>.inl (by cases e;simp))) (fun k hk=>by simp at hk;subst hk;exact hJ.elim (fun h1=>.inl (ZY _ h1)) (fun h1=>.inr h1));go_returns;refine .inr ⟨ps,⟨r.id,r.nm,r.fx,some ⟨ab,0,none⟩,r.pn+1,c3⟩,ho,rfl,h0,⟨V.id,V.nm,V.fx,_,R5,?_⟩,hB,⟨fun ad e=>by cases e;exact hJ,fun rs ht=>by rw[co_ (ht.below hm) RI.sl,cv_ (r:=⟨r.id,r.nm,r.fx,some ⟨ab,0,none⟩,r.pn+1,c3⟩) R5.sl];exact ko_ (fun ad e=>(R1.block ad e).1)⟩⟩;show RowsT _ _ _ (setI ⟨file,ps⟩ y.its);rw[hF.out,<-hv.out];exact hO
theorem jr_ (B:Nat)(its:List It)(pa:Option Addr)(pn pc:Nat)(ea:Option Addr)(en ec:Nat)(e:List Ex)(w:World)(h:ItsAt B w pa pn its)(he:ExsAt w ea en e)(hstr:Strs e)(hen:en<=4194304)(hpn:pn<=4194304)(hI:StrI its):
  Calls prog 142 #[.slice pa pn pc,.slice ea en ec] w fun x w'=>x=.returned (.bool (itemsB its e))∧Below w.heap.size w w':=by
 have hm:Hid (its.length=pn):=h.len;have hR:Hid (itemsB its e=(decide (its.length<=5)&&igo e none its)):=rfl;generalize itemsB its e=R at *;by_cases h5:pn<=5
 ·rw[hm.out,decide_eq_true h5,Zp] at hR;go_enter func142,ntmps142
  go_wp2_with fail
  go_loopw [14] (fun ix wr=>∃ (k:Nat),k<=pn∧ix=.int .i64 k∧Hid (R=igo e (prevI its k) (its.drop k))∧Below w.heap.size w wr) (fun ix _=>pn-(intOf ix).toNat)
  case atStart=>exact⟨0,Zg _,rfl,hR,Below.refl _ _⟩
  case round=>
   obtain⟨k,hk,rfl,hv,hB⟩:=hrel;by_cases hlt:k<pn
   ·obtain⟨b,o,x,qa,qn,qc,rfl,hx,c0,c1,hP,_,_,_⟩:=bO_ (h.below hB) hlt
    have hc:Hid (R=(nameB x.nm&&(match prevI its k with | none=>true | some p=>bl p.nm.toList x.nm.toList)&&(contentO x.ps e).isSome&&igo e (prevI its (k+1)) (its.drop (k+1)))):=by
     show _=_;rw[hv.out,al_ hx,hB_,hx];rfl
    obtain⟨m1,m2⟩:=hI x (Zc hx);have hs:x.ps.length=qn:=hP.len;rw[hs] at m2;have hD:(k:Int)<pn:=by omega
    have hC:(0:Int)<=k:=by omega
    have ho:0<k->∃ y,prevI its k=some y∧wr.cell? ⟨b,o+(k-1)*2,none⟩=some (.string y.nm):=fun h0=>by
     obtain⟨b',o',y,_,_,_,ht,hy,d0,_⟩:=bO_ (h.below hB) (show k-1<pn by omega);obtain⟨rfl,rfl⟩:b=b'∧o=o':=by simpa using ht
     exact⟨y,by unfold prevI;rw[if_neg (by omega)];exact hy,d0⟩
    have hb:∀ u:World,Below wr.heap.size wr u->Below w.heap.size w u:=fun u hu=>chain hB hu;clear hx hv hs;have hf:=fun u:World=>bT_ x.nm u m1;have hp:Below wr.heap.size wr (wr.alloc (.cells #[.string x.nm,.slice qa qn qc] 156)):=by go_grown
    have X:=Blk.new wr #[.string x.nm,.slice qa qn qc] 156;have X1:(wr.alloc (.cells #[.string x.nm,.slice qa qn qc] 156)).cell? ⟨wr.heap.size,1,none⟩=some (.slice qa qn qc):=X.cell 1;have x0:∀ g:Grw (wr.alloc (.cells #[.string x.nm,.slice qa qn qc] 156)),g.w.cell? ⟨wr.heap.size,0,none⟩=some (.string x.nm):=gcell (X.cell 0);have hz:=aA_ (wr.alloc (.cells #[.string x.nm,.slice qa qn qc] 156))
    cases hn:nameB x.nm
    ·rw[hn] at hc
     go_wp2_with fail
     refine ab_ (by kernel_rfl) (by kernel_rfl) ?_
     repeat (go_big_quiet_step (first | (go_at_call 141;have qq:=hf;rw[hn] at qq;exact am_ (qq _))))
     refine wpQuiet_nil ?_;intro w2 hx;have hg:=chain hp (ah_ hx);clear hx;go_wp2;go_returns;exact⟨by rw[hc.out];simp,hb _ hg⟩
    ·rw[hn,Zp] at hc;have hl:∀ w2:World,Below (wr.alloc (.cells #[.string x.nm,.slice qa qn qc] 156)).heap.size (wr.alloc (.cells #[.string x.nm,.slice qa qn qc] 156)) w2->Below wr.heap.size wr w2∧w2.cell? ⟨wr.heap.size,1,none⟩=some (.slice qa qn qc):=fun w2 h2=>⟨chain hp h2,bcell h2 X1⟩;by_cases hk0:0<k
     ·obtain⟨y,hy,d0⟩:=ho hk0;have y0:=gcell (bcell hp d0);rw[hy] at hc;have hq:decide ((0:Int)<(k:Int))=true:=decide_eq_true (by omega);have hA:((k:Int)-1).toNat=k-1:=by omega
      cases hr:bl y.nm.toList x.nm.toList
      ·simp only[hr,Zr] at hc
       go_wp2_with fail
       refine ab_ (by kernel_rfl) (by kernel_rfl) ?_
       repeat (go_big_quiet_step (first | (go_at_call 141;have qq:=hf;rw[hn] at qq;exact am_ (qq _))))
       refine wpQuiet_nil ?_;intro w2 hx;obtain⟨hg,x1'⟩:=hl _ (ah_ hx);clear hx;go_wp2;go_returns;exact⟨by rw[hc.out];rfl,hb _ hg⟩
      ·simp only[hr,Zp] at hc
       go_wp2_with fail
       refine ab_ (by kernel_rfl) (by kernel_rfl) ?_
       repeat (go_big_quiet_step (first | (go_at_call 141;have qq:=hf;rw[hn] at qq;exact am_ (qq _))))
       refine wpQuiet_nil ?_;intro w2 hx;obtain⟨hg,x1'⟩:=hl _ (ah_ hx);clear hx
       go_wp2_with fail
       refine (fO_ qa qn qc x.ps ea en ec e _ (hP.below hg) (he.below (hb _ hg)) hstr m2 hen).mono ?_;rintro e1 w3 ⟨ha,hh⟩;replace hh:=chain hg hh
       cases hj:contentO x.ps e with
       |none=>
        rw[hj] at ha hc;replace ha:e1=.returned (.tuple #[.string ⟨#[]⟩,.bool false]):=ha;subst ha;clear hj;go_wp2;go_returns;exact⟨by rw[hc.out];rfl,hb _ hh⟩
       |some s=>
        rw[hj] at ha hc;replace ha:e1=.returned (.tuple #[.string s,.bool true]):=ha;subst ha;clear hj;go_wp2;go_roundw
        case rel=>exact⟨k+1,by omega,by go_num,by show _=_;rw[hc.out];rfl,hb _ hh⟩
        case measure=>simp[intOf];omega
     ·have hw:prevI its k=none:=by unfold prevI;rw[if_pos (by omega)]
      have hq:decide ((0:Int)<(k:Int))=false:=decide_eq_false (by omega);rw[hw] at hc;simp only[Zp] at hc
      go_wp2_with fail
      refine ab_ (by kernel_rfl) (by kernel_rfl) ?_
      repeat (go_big_quiet_step (first | (go_at_call 141;have qq:=hf;rw[hn] at qq;exact am_ (qq _))))
      refine wpQuiet_nil ?_;intro w2 hx;obtain⟨hg,x1'⟩:=hl _ (ah_ hx);clear hx
      go_wp2_with fail
      refine (fO_ qa qn qc x.ps ea en ec e _ (hP.below hg) (he.below (hb _ hg)) hstr m2 hen).mono ?_;rintro e1 w3 ⟨ha,hh⟩;replace hh:=chain hg hh
      cases hj:contentO x.ps e with
      |none=>
       rw[hj] at ha hc;replace ha:e1=.returned (.tuple #[.string ⟨#[]⟩,.bool false]):=ha;subst ha;clear hj;go_wp2;go_returns;exact⟨by rw[hc.out];rfl,hb _ hh⟩
      |some s=>
       rw[hj] at ha hc;replace ha:e1=.returned (.tuple #[.string s,.bool true]):=ha;subst ha;clear hj;go_wp2;go_roundw
       case rel=>exact⟨k+1,by omega,by go_num,by show _=_;rw[hc.out];rfl,hb _ hh⟩
       case measure=>simp[intOf];omega
   ·obtain rfl:k=pn:=by omega
    go_wp2;go_returns;exact⟨by rw[hv.out,Ze (Zm hm.out)];rfl,hB⟩
 ·rw[hm.out,decide_eq_false h5,Zr] at hR;go_enter func142,ntmps142;go_wp2;go_returns;exact⟨by rw[hR.out];rfl,Below.refl _ _⟩
theorem kC_ (B:Nat)(size next:Int)(ea:Option Addr)(en ec:Nat)(va:Option Addr)(vn vc:Nat)(ra:Option Addr)(rn rc:Nat)(la:Option Addr)(ln lc:Nat)(ex:List Ex)(vs:List Vo)(w:World)(h1:ExsAt w ea en ex)(h2:VsAt B w va vn vs)(z1:en<=4194304)(z2:Strs ex)(z3:vn<=4194304)(z4:StrV vs):
  Calls prog 93 #[.agg #[.int .i64 size,.int .i64 next,.slice ea en ec,.slice va vn vc,.slice ra rn rc,.slice la ln lc]] w fun x w'=>x=.returned (.bool (volsB next vs ex))∧Below w.heap.size w w':=by
 have he:Hid (vs.length=vn):=h2.len;have hR:Hid (volsB next vs ex=(decide (vs.length<=6)&&vgo next ex 0 vs)):=rfl;generalize volsB next vs ex=R at *;by_cases h6:vn<=6
 ·rw[he.out,decide_eq_true h6,Zp] at hR;go_enter func93,ntmps93;have C:=Blk.new w #[.int .i64 size,.int .i64 next,.slice ea en ec,.slice va vn vc,.slice ra rn rc,.slice la ln lc] 35
  go_wp2_with fail
  have hg:Below w.heap.size w (w.alloc (.cells #[.int .i64 size,.int .i64 next,.slice ea en ec,.slice va vn vc,.slice ra rn rc,.slice la ln lc] 35)):=by go_grown
  generalize w.alloc (.cells #[.int .i64 size,.int .i64 next,.slice ea en ec,.slice va vn vc,.slice ra rn rc,.slice la ln lc] 35)=W0 at *
  go_loopw [3,13] (fun lx ix wr=>∃ (k:Nat) (last:Int),k<=vn∧ix=.int .i64 k∧lx=.int .i64 last∧Hid (R=vgo next ex last (vs.drop k))∧Blk wr w.heap.size #[.int .i64 size,.int .i64 next,.slice ea en ec,.slice va vn vc,.slice ra rn rc,.slice la ln lc] 35∧Below w.heap.size w wr) (fun _ ix _=>vn-(intOf ix).toNat)
  case atStart=>exact⟨0,0,Zg _,rfl,rfl,hR,C,hg⟩
  case round=>
   clear hR C hg;obtain⟨k,last,hk,rfl,rfl,hI,C,hB⟩:=hrel;have d1:=C.cell 1;have d2:=C.cell 2;simp only[lgA,lgB,lgC] at d1 d2;by_cases hlt:k<vn
   ·obtain⟨b,o,x,qa,qn,qc,rfl,hx,e0,e1,e2,e3,hP,_,_⟩:=b5_ (h2.below hB) hlt
    have ha:Hid (R=(decide (last<x.id)&&decide (x.id<next)&&nameB x.nm&&itemsB x.its ex&&vgo next ex x.id (vs.drop (k+1)))):=by
     show _=_;rw[hI.out,al_ hx];rfl
    obtain⟨m1,m2,m3⟩:=z4 x (Zc hx);rw[hP.len] at m2;have hl:(k:Int)<vn:=by omega
    have hj:(0:Int)<=k:=by omega
    clear hx hI;have hb:Below wr.heap.size wr (wr.alloc (.cells #[.int .i64 x.id,.string x.nm,.bool x.fx,.slice qa qn qc] 97)):=by go_grown
    have X:=Blk.new wr #[.int .i64 x.id,.string x.nm,.bool x.fx,.slice qa qn qc] 97;have d1':=bcell hb d1;have d2':=bcell hb d2;clear d1 d2;by_cases hid:last<x.id
    ·by_cases hnb:x.id<next
     ·rw[decide_eq_true hid,decide_eq_true hnb,Zp,Zp] at ha
      cases hf:nameB x.nm
      ·rw[hf] at ha
       go_wp2_with fail
       refine (bT_ x.nm _ m1).mono ?_;rintro e w2 ⟨rfl,rfl⟩;rw[hf];go_wp2;go_returns;exact⟨by rw[ha.out];rfl,chain hB hb⟩
      ·rw[hf,Zp] at ha
       go_wp2_with fail
       refine (bT_ x.nm _ m1).mono ?_;rintro e w2 ⟨rfl,rfl⟩;rw[hf]
       go_wp2_with fail
       refine (jr_ B x.its qa qn qc ea en ec ex _ (hP.below hb) ((h1.below hB).below hb) z2 z1 m2 m3).mono ?_;rintro e w2 ⟨rfl,hc⟩;have X2:=(X.below hc).cell 0;simp only[List.getElem?_toArray,List.getElem?_cons_zero] at X2;replace hc:=chain hb hc;have C2:=C.below hc;replace hc:=chain hB hc
       cases hh:itemsB x.its ex
       ·rw[hh] at ha;go_wp2;go_returns;exact⟨by rw[ha.out];rfl,hc⟩
       ·rw[hh,Zp] at ha;go_wp2;go_roundw
        case rel=>exact⟨k+1,x.id,by omega,by go_num,rfl,ha,C2,hc⟩
        case measure=>simp[intOf];omega
     ·rw[decide_eq_false hnb] at ha;simp only[Bool.and_false,Zr] at ha;go_wp2;go_returns;exact⟨by rw[ha.out];rfl,chain hB hb⟩
    ·rw[decide_eq_false hid] at ha;simp only[Zr] at ha;go_wp2;go_returns;exact⟨by rw[ha.out];rfl,chain hB hb⟩
   ·obtain rfl:k=vn:=by omega
    go_wp2;go_returns;exact⟨by rw[hI.out,Ze (Zm he.out)];rfl,hB⟩
 ·rw[he.out,decide_eq_false h6,Zr] at hR;go_enter func93,ntmps93;go_wp2;go_returns;exact⟨by rw[hR.out];rfl,by go_grown⟩
end
section
open Go.Shelf Go.RowKit Go.Lib Go.Sort Tryz
def iP_:Go.Shelf.Ren:=⟨fun | 6=>130 | 15=>165 | 14=>164 | 28=>192 | 29=>193 | 20=>184 | 21=>185 | 22=>186 | 23=>187 | 24=>188 | 25=>189 | 26=>190 | 27=>191 | 46=>207 | 47=>208 | 48=>209 | 49=>210 | 50=>211 | 57=>214 | n=>n,fun | 22=>33 | 24=>107 | 25=>218 | 3=>3 | 39=>263 | 0=>0 | 53=>291 | 55=>293 | 4=>4 | 46=>284 | 45=>283 | 50=>288 | 5=>5 | 9=>9 | 66=>305 | 70=>309 | 76=>311 | 77=>312 | n=>n,fun | n=>n⟩
theorem sortC:SlLaysF0.n6 prog iP_ where
 mixed:=by kernel_rfl
 f6:=⟨Tryz.f130.name,by decide +kernel,func130.trans (congrArg some (by kernel_rfl))⟩
 f14:=⟨Tryz.f164.name,by decide +kernel,func164.trans (congrArg some (by kernel_rfl))⟩
 f15:=func165.trans (congrArg some (by kernel_rfl))
 f20:=⟨Tryz.f184.name,by decide +kernel,func184.trans (congrArg some (by kernel_rfl))⟩
 f21:=⟨Tryz.f185.name,by decide +kernel,func185.trans (congrArg some (by kernel_rfl))⟩
 f22:=⟨Tryz.f186.name,by decide +kernel,func186.trans (congrArg some (by kernel_rfl))⟩
 f23:=⟨Tryz.f187.name,by decide +kernel,func187.trans (congrArg some (by kernel_rfl))⟩
 f24:=⟨Tryz.f188.name,by decide +kernel,func188.trans (congrArg some (by kernel_rfl))⟩
 f25:=⟨Tryz.f189.name,by decide +kernel,func189.trans (congrArg some (by kernel_rfl))⟩
 f26:=⟨Tryz.f190.name,by decide +kernel,func190.trans (congrArg some (by kernel_rfl))⟩
 f27:=⟨Tryz.f191.name,by decide +kernel,func191.trans (congrArg some (by kernel_rfl))⟩
 f28:=func192.trans (congrArg some (by kernel_rfl))
 f29:=func193.trans (congrArg some (by kernel_rfl))
 f46:=⟨Tryz.f207.name,by decide +kernel,func207.trans (congrArg some (by kernel_rfl))⟩
 f47:=func208.trans (congrArg some (by kernel_rfl))
 f48:=func209.trans (congrArg some (by kernel_rfl))
 f49:=⟨Tryz.f210.name,by decide +kernel,func210.trans (congrArg some (by kernel_rfl))⟩
 f50:=⟨Tryz.f211.name,by decide +kernel,func211.trans (congrArg some (by kernel_rfl))⟩
 f57:=⟨Tryz.f214.name,by decide +kernel,func214.trans (congrArg some (by kernel_rfl))⟩
 t0:=underlying0
 a0:=Tryz.isAgg0
 z0:=Tryz.sizeOf0
 v0:=Tryz.zeroValue0
 t3:=underlying3
 a3:=Tryz.isAgg3
 z3:=Tryz.sizeOf3
 v3:=Tryz.zeroValue3
 t4:=underlying4
 a4:=Tryz.isAgg4
 z4:=Tryz.sizeOf4
 v4:=Tryz.zeroValue4
 t5:=underlying5
 a5:=Tryz.isAgg5
 z5:=Tryz.sizeOf5
 v5:=Tryz.zeroValue5
 t9:=underlying9
 a9:=Tryz.isAgg9
 z9:=Tryz.sizeOf9
 v9:=Tryz.zeroValue9
 t22:=underlying33
 a22:=Tryz.isAgg33
 z22:=Tryz.sizeOf33
 v22:=Tryz.zeroValue33
 t25:=underlying218
 a25:=Tryz.isAgg218
 z25:=Tryz.sizeOf218
 v25:=Tryz.zeroValue218
 t39:=underlying263
 a39:=Tryz.isAgg263
 z39:=Tryz.sizeOf263
 v39:=Tryz.zeroValue263
 t45:=underlying283
 a45:=Tryz.isAgg283
 z45:=Tryz.sizeOf283
 v45:=Tryz.zeroValue283
 t46:=underlying284
 a46:=Tryz.isAgg284
 z46:=Tryz.sizeOf284
 v46:=Tryz.zeroValue284
 t50:=underlying288
 a50:=Tryz.isAgg288
 z50:=Tryz.sizeOf288
 v50:=Tryz.zeroValue288
 t53:=underlying291
 a53:=Tryz.isAgg291
 z53:=Tryz.sizeOf291
 v53:=Tryz.zeroValue291
 t55:=underlying293
 a55:=Tryz.isAgg293
 z55:=Tryz.sizeOf293
 v55:=Tryz.zeroValue293
 t66:=underlying305
 a66:=Tryz.isAgg305
 z66:=Tryz.sizeOf305
 v66:=Tryz.zeroValue305
 t70:=underlying309
 a70:=Tryz.isAgg309
 z70:=Tryz.sizeOf309
 v70:=Tryz.zeroValue309
 t76:=underlying311
 a76:=Tryz.isAgg311
 z76:=Tryz.sizeOf311
 v76:=Tryz.zeroValue311
 t77:=underlying312
 a77:=Tryz.isAgg312
 z77:=Tryz.sizeOf312
 v77:=Tryz.zeroValue312
end
section
open Go.ChangeMaps Go.MapKept Go.WideElems
open Go.Maps (Keyed)
variable{H α:Type}{b:Nat}{P:Program}{e k t:TypeId}{w:World}
theorem js_ {R:Value->Option (DataW H×List MemPlace)}{es:Array MapEntry}{clock:Nat}(K:WideMaps.KeyLaw P k)(ht:P.underlying t=some (.map k e)){z:Value}(hz:∀ u:World,(zeroValue e).run P u=.ok z u)(hb:w.heap[b]?=some (.map es clock))(F:Fit P k R es clock)
  {key:Value}{kl:Lit}(hkey:keyOf P k key=some kl):
  ∃ (v0:Value) (st:Value) (w1:World),(Instr.mapEntry t (.map (some b)) key).run P w=.ok (.tuple #[v0,st]) w1∧(Instr.mapUpdate t (.map (some b)) key v0).run P w=.ok () w1∧(Instr.lookup t (.map (some b)) key false).run P w=.ok v0 w:=by
 rcases K.find w hkey es.toList F.keys with⟨h1,h2⟩ | ⟨j,e0,h1,h2,h3⟩
 ·refine⟨z,goInt clock,setBlock w b (.map (es.push ⟨key,z,clock⟩) (clock+1)),?_,?_,?_⟩
  ·simp[Instr.mapEntry,run_underlying ht,MapKept.run_getObj_map hb,K.check w false hkey,h1,hz,MapKept.run_setObj_map _ hb,Result.andThen,setBlock]
  ·simp[Instr.mapUpdate,run_underlying ht,MapKept.run_getObj_map hb,K.check w false hkey,h1,MapKept.run_setObj_map _ hb,Result.andThen,setBlock]
  ·simp[Instr.lookup,run_underlying ht,MapKept.run_getObj_map hb,K.check w _ hkey,h1,hz,Result.andThen]
 ·have hj:es[j]?=some e0:=by simpa using h2
  have hc:es.modify j (fun e=>{e with key:=key})=es:=by
   apply Array.ext';rw[Array.toList_modify,modify_eq_set _ _ _ _ h2]
   have:({e0 with key:=key}:MapEntry)=e0:=by rw[<-h3]
   rw[this];exact set_self _ _ _ h2
  have ha:es.modify j (fun e'=>{e' with key:=key,val:=e0.val})=es:=by
   apply Array.ext';rw[Array.toList_modify,modify_eq_set _ _ _ _ h2]
   have:({e0 with key:=key,val:=e0.val}:MapEntry)=e0:=by rw[<-h3]
   rw[this];exact set_self _ _ _ h2
  refine⟨e0.val,goInt e0.born,setBlock w b (.map es clock),?_,?_,?_⟩
  ·simp[Instr.mapEntry,run_underlying ht,MapKept.run_getObj_map hb,K.check w false hkey,h1,hj,h3,K.stays w hkey,hc,MapKept.run_setObj_map _ hb,Result.andThen,setBlock]
  ·simp[Instr.mapUpdate,run_underlying ht,MapKept.run_getObj_map hb,K.check w false hkey,h1,hj,h3,K.stays w hkey,ha,MapKept.run_setObj_map _ hb,Result.andThen,setBlock]
  ·simp[Instr.lookup,run_underlying ht,MapKept.run_getObj_map hb,K.check w _ hkey,h1,Result.andThen]
theorem g5_ {m:Sem α}{x y:α}{u v:World}(h:m.run P w=.ok x u)(h':m.run P w=.ok y v):x=y∧u=v:=by
 rw[h] at h'
 cases h'
 exact⟨rfl,rfl⟩
theorem et_ (w:World)(b:Nat)(x y:Obj):setBlock (setBlock w b x) b y=setBlock w b y:=by
 simp[setBlock]
theorem nr_ {q:IntKind}{n:Nat}{D:DataW H}(h:w.ownsMap P k (plainElem P e) b n D)(K:WideMaps.KeyLaw P k)(ht:P.underlying t=some (.map k e))(he:P.underlying e=some (.int q))(hz:∀ u:World,(zeroValue e).run P u=.ok (.int q 0) u)(hn:n+1<maxLen)
  {key:Value}{kl:Lit}(hkey:keyOf P k key=some kl):
  ∃ (c:Int) (st:Nat) (w1:World),(Instr.lookup t (.map (some b)) key false).run P w=.ok (.int q c) w∧D.atKey kl (.lit (.int q 0))=.lit (.int q c)∧(Lit.int q c).wf=true∧
   (Instr.mapEntry t (.map (some b)) key).run P w=.ok (.tuple #[.int q c,.int .i64 st]) w1∧(Instr.lookup t (.map (some b)) key false).run P w1=.ok (.int q c) w1∧w.grownBy w1 (some b)∧w1.heap.size=w.heap.size∧
   ∀ x:Int,(Lit.int q x).wf=true->∃ w3,(Instr.entryStore t (.map (some b)) (.int .i64 st) (.int q x)).run P w1=.ok () w3∧w3.ownsMap P k (plainElem P e) b (n+1) (D.put kl (.lit (.int q x)))∧w.grownBy w3 (some b)∧w3.heap.size=w.heap.size:=by
 have K':=Keyed.of_law K;have h0:=h;obtain⟨es,clock,hb,F,hs,hD⟩:=h;obtain⟨c,hl,hg,hc⟩:=h0.lookup_int K' ht he (hz w) hkey;obtain⟨v0,st',hu,hh,hq,hj⟩:=js_ K ht hz hb F hkey;obtain⟨v1,st,es1,clock1,hE,_,hS⟩:=entry_then_store K ht hz hb F hkey;obtain⟨rfl,_⟩:=g5_ hj hl;obtain⟨e1,rfl⟩:=g5_ hh hE;obtain⟨rfl,rfl⟩:Value.int q c=v1∧st'=goInt st:=by simpa using e1
 obtain⟨u1,hm,own1,g1⟩:=h0.update K' ht (by omega) hkey (plainElem_int he hc);obtain⟨_,rfl⟩:=g5_ hq hm;obtain⟨c',hf,ha,_⟩:=own1.lookup_int K' ht he (hz _) hkey
 have ho:c'=c:=by
  rw[Maps.atKey_put_same h0.isMap (K'.key hkey)] at ha;injection ha with e2;injection e2 with _ e3;exact e3.symm
 subst ho;refine⟨c',st,_,hl,hg,hc,hE,hf,g1,by simp[setBlock],fun x hx=>?_⟩;obtain⟨es',clock',hr,hk⟩:=hS (setBlock w b (.map es1 clock1)) (.int q x) (heap_setBlock_same hb _);obtain⟨u2,hp,own2,g2⟩:=h0.update K' ht (by omega) hkey (plainElem_int he hx);obtain⟨_,rfl⟩:=g5_ hk hp;refine⟨_,hr,?_,?_,?_⟩
 ·rw[et_];exact own2
 ·rw[et_];exact g2
 ·simp[setBlock]
end
section
open Go Go.RowKit Go.BigFrame Tryz
open Go.Maps (Keyed)
variable{b n:Nat}{o:Ow}{w:World}
structure WfO (o:Ow):Prop where
 a:(Lit.int .i64 o.a).wf=true
 v:(Lit.int .i64 o.v).wf=true
 f:o.f.size<=maxLen
theorem rowO:(105:TypeId)<prog.types.size:=of_decide_eq_true (by kernel_rfl)
theorem wideO:(match prog.underlying 105 with | some (.array _ _) | some (.struct _)=>true | _=>false)=true:=by kernel_rfl
theorem lawO:WideMaps.KeyLaw prog 105:=deep_law_laid laidOut (m:=3) (by omega) rowO (by kernel_rfl) wideO
theorem keyedO:Keyed prog 105:=Keyed.of_law lawO
def vO (o:Ow):Value:=.agg #[.int .i64 o.a,.int .i64 o.v,.string o.f]
def klO (o:Ow):Lit:=.string (keyBytes [.int .i64 o.a,.int .i64 o.v,.string o.f.data.toList])
theorem keyO (h:WfO o):keyOf prog 105 (vO o)=some (klO o):=by
 obtain⟨a,v,f⟩:=o;obtain⟨h1,h2,h3⟩:=h;have hk:prog.keyType 105=true:=by kernel_rfl
 have hc:prog.cellsOf 105=3:=by kernel_rfl
 have ha:prog.cellsOf 2=1:=by kernel_rfl
 have hb:prog.cellsOf 9=1:=by kernel_rfl
 obtain⟨d,hd⟩:=Nat.exists_eq_succ_of_ne_zero (Nat.ne_of_gt (Nat.zero_lt_of_lt rowO));unfold keyOf vO klO;rw[hd]
 have k2:∀ x:Int,(Lit.int .i64 x).wf=true->prog.keyLits d.succ 2 [.int .i64 x]=some [.int .i64 x]:=fun x hx=>by
  unfold Program.keyLits;simp only[underlying2];rw[if_pos ⟨trivial,hx⟩]
 have k9:prog.keyLits d.succ 9 [.string f]=some [.string f.data.toList]:=by
  unfold Program.keyLits;simp only[underlying9];rw[if_pos h3]
 have e1:=k2 a h1;have e2:=k2 v h2;clear k2 hd;generalize d.succ=D at *;simp only[underlying105,hk,Value.formed,hc,Value.cells];rw[if_pos (by rfl)];unfold Program.keyLits;simp only[underlying105,hc];rw[if_pos (by exact⟨rfl,by decide +kernel⟩)];simp[ha,hb,e1,e2,k9]
theorem mO_ {o':Ow}(h:WfO o)(h':WfO o')(e:klO o=klO o'):o=o':=by
 have h1:=keyO h;have h2:=keyO h';rw[<-e] at h2
 have:=lawO.inj h1 h2
 simp[vO] at this;obtain⟨a,v,f⟩:=o;obtain⟨a',v',f'⟩:=o';simp at this;simp[this]
def TlAt (w:World)(b n:Nat)(f:Ow->Int):Prop:=
 ∃ D:DataW Unit,w.ownsMap prog 105 (plainElem prog 2) b n D∧∀ o,WfO o->D.atKey (klO o) (.lit (.int .i64 0))=.lit (.int .i64 (f o))
theorem zero2 (w:World):(zeroValue 2).run prog w=.ok (.int .i64 0) w:=by kernel_rfl
theorem TlAt.lt {f:Ow->Int}(h:TlAt w b n f):b<w.heap.size:=by
 obtain⟨D,h,_⟩:=h;exact h.lt
theorem TlAt.mono {n':Nat}{f:Ow->Int}(h:TlAt w b n f)(hn:n<=n'):TlAt w b n' f:=by
 obtain⟨D,h,h2⟩:=h;exact⟨D,h.mono hn,h2⟩
theorem TlAt.kept {w':World}{f:Ow->Int}{row:Option Nat}(h:TlAt w b n f)(hg:w.grownBy w' row)(hne:some b≠row):TlAt w' b n f:=by
 obtain⟨D,h,h2⟩:=h;exact⟨D,h.kept hg hne,h2⟩
theorem TlAt.apart {f:Ow->Int}(h:TlAt w b n f){bb o:Nat}{v:Value}(hc:w.cell? ⟨bb,o,none⟩=some v):bb≠b:=by
 obtain⟨D,⟨es,clock,hb,_⟩,_⟩:=h;rintro rfl;simp[World.cell?,hb] at hc
theorem TlAt.made (w:World):TlAt (w.alloc (.map #[] 0)) w.heap.size 0 (fun _=>0):=
 ⟨_,World.ownsMap_made _ _ _ _,fun _ _=>rfl⟩
end
end Go.Proofs.YtbbhcnjhohidnaaGreatDoor
