/- What files are asked for: of the program. -/
import Derived.Test.YtdmeabghpchckaaGreatDoorU38
import Derived.Test.YtdmeabghpchckaaGreatDoorU40
set_option maxHeartbeats 20000000
set_option maxRecDepth 100000
namespace Go.Proofs.YtdmeabghpchckaaGreatDoor
section
open Go.RowKit Go.BigFrame Tryz
theorem Fa {e:List Ex}{p:Pt}{d:ByteArray}(hn:1<=p.n)(hf:p.a≠0->0<=p.f)(h:pieceO e p=some d):(d.size:Int)=p.n:=by
 unfold pieceO at h
 split at h
 ·simp at h;subst h;rw[ca_];omega
 ·rename_i ha
  have:=hf (by simpa using ha)
  split at h
  ·cases h
  ·simp at h;subst h
   rw[ByteArray.size_extract]
   omega
end
section
open Go.RowKit Go.BigFrame Tryz
open Go.Maps (Keyed)
def HZ (B:Nat)(e:Ending)(w':World)(p:Po)(vol:ByteArray):Prop:=
 (e=.returned (.pointer none)∧(Ai p=false∨volI p.vs vol=none))∨∃ i x b o,e=.returned (.pointer (some ⟨b,o,none⟩))∧Ai p=true∧volI p.vs vol=some i∧p.vs[i]?=some x∧Fy B w' b o x
theorem Cl (B:Nat)(v:Value)(p:Po)(vol:ByteArray)(w:World)(h:AF B w v p)(hd:AB p)(hvol:vol.size<=1048576) :
  Calls prog 40 #[v,.string vol] w fun e w'=>HZ B e w' p vol∧Below w.heap.size w w':=by
 have hs:∀ u:World,(zeroValue 89).run prog u=.ok (.pointer none) u:=fun u=>by kernel_rfl
 obtain⟨ea,en,ec,va,vn,vc,ra,rn,rc,la,ln,lc,rfl,ha⟩:=h
 have h:AF B w (.agg #[.int .i64 p.size,.int .i64 p.next,.slice ea en ec,.slice va vn vc,.slice ra rn rc,.slice la ln lc]) p:=⟨ea,en,ec,va,vn,vc,ra,rn,rc,la,ln,lc,rfl,ha⟩
 have h2:=ha.2.1.1
 have z3:=hd.2.2.1
 have z4:=hd.2.2.2.1
 rw[h2.len] at z3
 clear ha
 obtain⟨pb,po,hp⟩:∃ pb po,0<vn->va=some ⟨pb,po,none⟩:=by
  by_cases h0:0<vn
  ·obtain⟨b,o,_,_,_,_,hv,_⟩:=b5_ h2 h0
   exact⟨b,o,fun _=>hv⟩
  ·exact⟨0,0,fun h=>absurd h h0⟩
 have C:=(Blk.new w #[.int .i64 p.size,.int .i64 p.next,.slice ea en ec,.slice va vn vc,.slice ra rn rc,.slice la ln lc] 28)
 have hh:Below w.heap.size w (w.alloc (.cells #[.int .i64 p.size,.int .i64 p.next,.slice ea en ec,.slice va vn vc,.slice ra rn rc,.slice la ln lc] 28)):=by go_grown
 go_enter func40,ntmps40
 go_wp2_with fail
 generalize w.alloc (.cells #[.int .i64 p.size,.int .i64 p.next,.slice ea en ec,.slice va vn vc,.slice ra rn rc,.slice la ln lc] 28)=W0 at *
 refine (ch_ B _ p _ (h.below hh) hd).mono ?_
 rintro e w1 ⟨rfl,hc⟩
 have C1:=C.below hc
 replace hc:=Aa hh hc
 clear C hh
 obtain⟨d0,d1,d2,d3,d4,d5⟩:w1.cell? ⟨w.heap.size,0,none⟩=some (.int .i64 p.size)∧w1.cell? ⟨w.heap.size,1,none⟩=some (.int .i64 p.next)∧w1.cell? ⟨w.heap.size,2,none⟩=some (.slice ea en ec)∧w1.cell? ⟨w.heap.size,3,none⟩=some (.slice va vn vc)∧w1.cell? ⟨w.heap.size,4,none⟩=some (.slice ra rn rc)∧w1.cell? ⟨w.heap.size,5,none⟩=some (.slice la ln lc):=⟨C1.cell 0,C1.cell 1,C1.cell 2,C1.cell 3,C1.cell 4,C1.cell 5⟩
 have hn:∀ pk,Ai p=pk->Hid (Ai p=pk):=fun _ h=>h
 cases hf:Ai p
 ·have hb:=hn _ hf
  clear hf
  go_wp2
  go_returns
  exact⟨.inl ⟨rfl,.inl hb.out⟩,hc⟩
 ·have hb:=hn _ hf
  have hnd:=(bL_ hf).2.2.2.2
  clear hf
  go_wp2_with fail
  refine (bC_ B p.size p.next ea en ec va vn vc ra rn rc la ln lc p.vs pb po hp _ (h2.below hc) z3 z4).mono ?_
  rintro e w2 ⟨⟨mb,D,rfl,ht,hO,hV⟩,he⟩
  replace he:=Aa hc he
  rcases oB_ hO keyed9 underlying75 (hs w2) (HI (s:=vol) (by unfold maxLen;omega)) with⟨hl,hk⟩ | ⟨val,y,hl,hj,hg,ho⟩
  ·rw[hV.has] at hk
   have hm:=nz_ hk
   clear hk
   go_wp2
   go_returns
   exact⟨.inl ⟨rfl,.inr hm⟩,he⟩
  ·obtain⟨o,rfl,hy⟩:=eu_ hj
   obtain⟨i,x,hi,rfl,rfl⟩:=hP_ hV hnd hg hj ho
   have hm:=pH_ hnd hi
   have hq:i<vn:=by rw[<-h2.len];exact (Zb.1 hi).1
   obtain⟨b',o',x',qa,qn,qc,hr,hx,e0,e1,e2,e3,hP,hH,_⟩:=b5_ (h2.below he) hq
   obtain⟨rfl,rfl⟩:b'=pb∧o'=po:=by have:=hp (by omega);rw[hr] at this;simpa using this
   obtain rfl:x=x':=by rw[hi] at hx;exact Zi hx
   clear ho hg hj hx
   go_wp2
   go_returns
   exact⟨.inr ⟨i,x,b',o'+i*4,rfl,hb.out,hm,hi,⟨e0,e1,qa,qn,qc,e3,hP,hH⟩⟩,he⟩
theorem EF (B b o:Nat)(x:Vo)(file:ByteArray)(w:World)(h:Fy B w b o x)(m2:x.its.length<=4194304)(m3:Ge x.its) :
  Calls prog 88 #[.pointer (some ⟨b,o,none⟩),.string file] w fun e w'=>EO B e w' ((itI x.its file).bind fun k=>x.its[k]?.map (·.ps))∧Below w.heap.size w w':=by
 obtain⟨_,_,qa,qn,qc,e3,hP,hH⟩:=h
 have hb:Hid (x.its.length=qn):=hP.len
 rw[hb.out] at m2
 have hR:Hid (((itI x.its file).bind fun k=>x.its[k]?.map (·.ps))=(((itI (x.its.drop 0) file).map (·+0)).bind fun k=>x.its[k]?.map (·.ps))):=by show _=_;simp
 generalize ((itI x.its file).bind fun k=>x.its[k]?.map (·.ps))=R at *
 go_enter func88,ntmps88
 go_wp2_with fail
 go_loopw [13] (fun ix wr=>∃ (k:Nat),k<=qn∧ix=.int .i64 k∧Hid (R=(((itI (x.its.drop k) file).map (·+k)).bind fun k=>x.its[k]?.map (·.ps)))∧Below w.heap.size w wr) (fun ix _=>qn-(intOf ix).toNat)
 case atStart=>exact⟨0,Zg _,rfl,hR,Yg _ _⟩
 case round=>
  clear hR
  obtain⟨k,hk,rfl,hI,hB⟩:=hrel
  by_cases hlt:k<qn
  ·obtain⟨ib,io,y,pa,pn,pc,rfl,hy,g0,g1,hf,he,_,_⟩:=bO_ (hP.below hB) hlt
   obtain⟨_,m5⟩:=m3 y (Zc hy)
   have ha:Hid (R=((if (y.nm.toList==file.toList)=true then some k else (itI (x.its.drop (k+1)) file).map (·+(k+1))).bind fun k=>x.its[k]?.map (·.ps))):=by show _=_;rw[hI.out,ku_ hy]
   have hh:(k:Int)<qn:=by omega
   have hj:(0:Int)<=k:=by omega
   have hc:Below wr.heap.size wr (wr.alloc (.cells #[.string y.nm,.slice pa pn pc] 134)):=by go_grown
   have X:=(Blk.new wr #[.string y.nm,.slice pa pn pc] 134)
   clear hI
   cases hs:(y.nm.toList==file.toList)
   ·rw[hs] at ha
    simp only[Zj,if_false] at ha
    have hg:¬ y.nm.toList=file.toList:=by simpa using hs
    clear hy
    go_wp2
    go_roundw
    case rel=>exact⟨k+1,by omega,by go_num,ha,Aa hB hc⟩
    case measure=>simp[intOf];omega
   ·rw[hs] at ha
    simp only[if_true,YO,hy,Option.map_some] at ha
    have hg:y.nm.toList=file.toList:=by simpa using hs
    clear hy
    go_wp2
    go_returns
    exact⟨by rw[ha.out];exact⟨pa,pn,pc,rfl,hf.below hc,he,m5⟩,Aa hB hc⟩
  ·obtain rfl:k=qn:=by omega
   go_wp2
   go_returns
   exact⟨by rw[hI.out,Ze (Zm hb.out)];rfl,hB⟩
theorem CC (B:Nat)(v:Value)(p:Po)(vol file:ByteArray)(w:World)(h:AF B w v p)(hd:AB p)(hvol:vol.size<=1048576) :
  Calls prog 38 #[v,.string vol,.string file] w fun e w'=>EO B e w' (BV p vol file)∧Below w.heap.size w w':=by
 obtain⟨ea,en,ec,va,vn,vc,ra,rn,rc,la,ln,lc,rfl,hb⟩:=h
 have h:AF B w (.agg #[.int .i64 p.size,.int .i64 p.next,.slice ea en ec,.slice va vn vc,.slice ra rn rc,.slice la ln lc]) p:=⟨ea,en,ec,va,vn,vc,ra,rn,rc,la,ln,lc,rfl,hb⟩
 clear hb
 have z4:=hd.2.2.2.1
 have C:=(Blk.new w #[.int .i64 p.size,.int .i64 p.next,.slice ea en ec,.slice va vn vc,.slice ra rn rc,.slice la ln lc] 28)
 have hg:Below w.heap.size w (w.alloc (.cells #[.int .i64 p.size,.int .i64 p.next,.slice ea en ec,.slice va vn vc,.slice ra rn rc,.slice la ln lc] 28)):=by go_grown
 have hR:Hid (BV p vol file=if Ai p=true then Ar p.vs vol file else none):=rfl
 generalize BV p vol file=R at *
 go_enter func38,ntmps38
 go_wp2_with fail
 generalize w.alloc (.cells #[.int .i64 p.size,.int .i64 p.next,.slice ea en ec,.slice va vn vc,.slice ra rn rc,.slice la ln lc] 28)=W0 at *
 refine (Cl B _ p vol _ (h.below hg) hd hvol).mono ?_
 rintro e w1 ⟨ha,he⟩
 replace he:=Aa hg he
 clear C hg
 rcases ha with⟨rfl,hc⟩ | ⟨i,x,b,o,rfl,hh,hj,hx,hV⟩
 ·have hl:Hid (R=none):=by
   show _=_
   rw[hR.out]
   rcases hc with hc | hc
   ·rw[hc];rfl
   ·split
    ·unfold Ar;rw[hc];rfl
    ·rfl
  clear hc
  go_wp2
  go_returns
  exact⟨by rw[hl.out];rfl,he⟩
 ·have hm:Hid (R=(itI x.its file).bind fun k=>x.its[k]?.map (·.ps)):=by
   show _=_
   rw[hR.out,if_pos hh]
   unfold Ar
   rw[hj,YO,hx,YO]
  obtain⟨m1,m2,m3⟩:=z4 x (Zc hx)
  clear hh hj hx
  go_wp2_with fail
  refine (EF B b o x file _ hV m2 m3).mono ?_
  rintro e w2 ⟨ha,hf⟩
  replace hf:=Aa he hf
  rw[<-hm.out] at ha
  cases R with
  |none=>
   replace ha:e=.returned (.tuple #[.slice none 0 0,.bool false]):=ha
   subst ha
   go_wp2
   go_returns
   exact⟨rfl,hf⟩
  |some ps=>
   obtain⟨pa,pn,pc,rfl,hk,hH,hn⟩:=ha
   go_wp2
   go_returns
   exact⟨⟨pa,pn,pc,rfl,hk,hH,hn⟩,hf⟩
theorem EX (B:Nat)(v:Value)(p:Po)(vol file:ByteArray)(w:World)(h:AF B w v p)(hd:AB p)(hvol:vol.size<=1048576) :
  Calls prog 16 #[v,.string vol,.string file] w fun e w'=>e=.returned (.tuple #[.int .i64 (Dx p vol file).1,.bool (Dx p vol file).2])∧Below w.heap.size w w':=by
 obtain⟨ea,en,ec,va,vn,vc,ra,rn,rc,la,ln,lc,rfl,hb⟩:=h
 have h:AF B w (.agg #[.int .i64 p.size,.int .i64 p.next,.slice ea en ec,.slice va vn vc,.slice ra rn rc,.slice la ln lc]) p:=⟨ea,en,ec,va,vn,vc,ra,rn,rc,la,ln,lc,rfl,hb⟩
 clear hb
 have C:=(Blk.new w #[.int .i64 p.size,.int .i64 p.next,.slice ea en ec,.slice va vn vc,.slice ra rn rc,.slice la ln lc] 28)
 have hg:Below w.heap.size w (w.alloc (.cells #[.int .i64 p.size,.int .i64 p.next,.slice ea en ec,.slice va vn vc,.slice ra rn rc,.slice la ln lc] 28)):=by go_grown
 have hR:Hid (Dx p vol file=(match BV p vol file with | none=>(0,false) | some ps=>(Cb ps,true))):=by
  show _=_
  unfold Dx BV
  split<;>rfl
 generalize Dx p vol file=R at *
 go_enter func16,ntmps16
 go_wp2_with fail
 generalize w.alloc (.cells #[.int .i64 p.size,.int .i64 p.next,.slice ea en ec,.slice va vn vc,.slice ra rn rc,.slice la ln lc] 28)=W0 at *
 refine (CC B _ p vol file _ (h.below hg) hd hvol).mono ?_
 rintro e w1 ⟨ha,hc⟩
 replace hc:=Aa hg hc
 clear C hg
 cases he:BV p vol file with
 |none=>
  rw[he] at ha hR
  replace ha:e=.returned (.tuple #[.slice none 0 0,.bool false]):=ha
  replace hR:Hid (R=(0,false)):=hR
  subst ha
  clear he
  go_wp2
  go_returns
  exact⟨by rw[hR.out];rfl,hc⟩
 |some ps=>
  rw[he] at ha hR
  replace hR:Hid (R=(Cb ps,true)):=hR
  obtain⟨pa,pn,pc,rfl,hh,hH,hj⟩:=ha
  rw[hh.len] at hj
  clear he
  go_wp2_with fail
  refine (bo_ pa pn pc ps _ hh hj).mono ?_
  rintro e w2 ⟨rfl,hf⟩
  replace hf:=Aa hc hf
  go_wp2
  go_returns
  exact⟨by rw[hR.out];rfl,hf⟩
end
section
open Go.RowKit Tryz
theorem CZ {x y:ByteArray}(h:x.data.toList=y.data.toList):x=y:=by
 cases x;cases y;congr 1;exact Array.toList_inj.1 h
theorem Dp (x y:ByteArray):(x++y).data.toList=x.data.toList++y.data.toList:=by simp
theorem Co (x:ByteArray)(i j:Nat):(x.extract i j).data.toList=(x.data.toList.drop i).take (j-i):=by
 simp[ByteArray.data_extract]
theorem FB (x:ByteArray):(⟨#[]⟩:ByteArray)++x=x:=CZ (by rw[Dp];rfl)
theorem ES (x y z:ByteArray):x++y++z=x++(y++z):=CZ (by simp only[Dp,ZC])
theorem HQ (i j:Nat):zs i++zs j=zs (i+j):=CZ (by rw[Dp];simp[zs,List.replicate_append_replicate])
theorem EU (x:ByteArray){i j k:Nat}(h1:i<=j)(h2:j<=k):x.extract i j++x.extract j k=x.extract i k:=by
 apply CZ
 rw[Dp,Co,Co,Co]
 have e1:k-i=(j-i)+(k-j):=by omega
 have e2:x.data.toList.drop j=(x.data.toList.drop i).drop (j-i):=by rw[List.drop_drop];congr 1;omega
 rw[e1,e2,List.take_add]
def catO (e:List Ex)(l:List Pt):Option ByteArray:=cgo e ⟨#[]⟩ l
theorem EB (e:List Ex):∀ (l:List Pt) (acc:ByteArray),cgo e acc l=(catO e l).map (acc++·)
 |[],acc=>by simp[cgo,catO];exact CZ (by simp)
 |p::r,acc=>by
  unfold catO cgo
  cases pieceO e p with
  |none=>rfl
  |some d=>
   simp only
   rw[EB e r (acc++d),EB e r (⟨#[]⟩++d),FB]
   cases catO e r with
   |none=>rfl
   |some s=>simp[ES]
theorem Dr (e:List Ex)(p:Pt)(r:List Pt):catO e (p::r)=(pieceO e p).bind (fun d=>(catO e r).map (d++·)):=by
 conv=>lhs;unfold catO cgo
 cases pieceO e p with
 |none=>rfl
 |some d=>simp only[FB];rw[EB];rfl
theorem Bt (e:List Ex):∀ (l m:List Pt),catO e (l++m)=(catO e l).bind (fun x=>(catO e m).map (x++·))
 |[],m=>by
  show catO e m=_
  cases h:catO e m with
  |none=>rfl
  |some s=>simp[catO,cgo,FB]
 |p::r,m=>by
  rw[YF,Dr,Dr,Bt e r m]
  cases pieceO e p with
  |none=>rfl
  |some d=>
   cases catO e r with
   |none=>rfl
   |some x=>
    cases catO e m with
    |none=>rfl
    |some y=>simp[ES]
theorem DS (e:List Ex)(p:Pt):catO e [p]=pieceO e p:=by
 rw[Dr]
 cases pieceO e p with
 |none=>rfl
 |some d=>simp[catO,cgo];exact CZ (by simp)
theorem Fb {e:List Ex}{q p:Pt}(hq:Ag q=true)(hp:Ag p=true)(hg:Aw q p=true):catO e [⟨q.a,q.f,q.n+p.n⟩]=catO e [q,p]:=by
 have he:=av_ hq
 have hc:=av_ hp
 simp only[Aw,Zf,Bool.or_eq_true,beq_iff_eq] at hg
 obtain⟨ha,hg⟩:=hg
 rw[show [q,p]=[q]++[p] from rfl,Bt,DS,DS,DS]
 by_cases h0:q.a=0
 ·have hb:(q.a==0)=true:=by simp[h0]
  have h0'':(p.a==0)=true:=by simp[ha,h0]
  simp[pieceO,hb,h0'',HQ]
  congr 1;omega
 ·have hb:(q.a==0)=false:=by simp[h0]
  have h0'':(p.a==0)=false:=by simp[ha,h0]
  simp only[Ag,hb,h0'',Zj,if_false,Zf,ZU] at hq hp
  have hf:p.f=q.f+q.n:=by
   rcases hg with hg | hg
   ·omega
   ·rw[hg];unfold wrap64;omega
  simp only[pieceO,hb,Zj,if_false,ha]
  generalize AK q.a e=D
  by_cases hs:(D.size:Int)<q.f+(q.n+p.n)
  ·rw[if_pos hs]
   by_cases hs1:(D.size:Int)<q.f+q.n
   ·rw[if_pos hs1];rfl
   ·rw[if_neg hs1,if_pos (by omega)];rfl
  ·rw[if_neg hs,if_neg (by omega),if_neg (by omega)]
   simp only[YO,Option.map_some]
   congr 1
   rw[show p.f.toNat=(q.f+q.n).toNat by rw[hf],show (p.f+p.n).toNat=(q.f+(q.n+p.n)).toNat by rw[hf];congr 1;omega,EU D (by omega) (by omega)]
theorem Gh {e:List Ex}{l:List Pt}{p:Pt}(hl:∀ q∈l,Ag q=true∧q.n<=1000)(hp:Ag p=true)(hp2:p.n<=1000):catO e (AI l p)=catO e (l++[p]):=by
 unfold AI
 split
 ·rename_i h
  have:l=[]:=by simpa using h
  subst this;rfl
 ·rename_i q hq
  have hb:=hl q (List.mem_of_getLast? hq)
  split
  ·rename_i hg
   have he:=av_ hb.1
   have hc:=av_ hp
   have e1:l=l.dropLast++[q]:=by
    have ha:l≠[]:=fun h=>by rw[h] at hq;simp at hq
    rw[List.getLast?_eq_some_getLast ha] at hq
    rw[<-Zi hq,List.dropLast_concat_getLast ha]
   rw[show wrap64 (q.n+p.n)=q.n+p.n by unfold wrap64;omega]
   conv=>rhs;rw[e1,ZC]
   rw[Bt,Bt,Fb hb.1 hp hg];rfl
  ·rfl
theorem Da:∀ {l:List Pt},(∀ q∈l,Ag q=true)->∀ q∈l,q.n<=Af l
 |[],_,q,hq=>by simp at hq
 |p::r,h,q,hq=>by
  have hr:=az_ r (fun x hx=>h x (by simp[hx]))
  have hp:=av_ (h p (by simp))
  simp only[Af]
  rcases Zn.1 hq with rfl | hq
  ·omega
  ·have:=Da (fun x hx=>h x (by simp[hx])) q hq;omega
theorem DQ (e:List Ex):∀ (m l:List Pt) (B:Int),pgo none B l=true->(∀ p∈m,Ag p=true)->Af l+Af m<=B->B<=1000->0<=B->catO e (Ak l m)=catO e (l++m)
 |[],l,B,_,_,_,_,_=>by simp[Ak]
 |p::r,l,B,h,hm,hs,hB,h0=>by
  obtain⟨h1,h2⟩:=cH_ l none B h0 h
  have hp:=hm p (by simp)
  have hb:=av_ hp
  have hr:=az_ r (fun x hx=>hm x (by simp[hx]))
  have ha:=az_ l h1
  simp only[Af] at hs
  obtain⟨a1,a2⟩:=pL_ h hp (by omega) hB h0
  show catO e (Ak (AI l p) r)=_
  rw[DQ e r (AI l p) B a1 (fun x hx=>hm x (by simp[hx])) (by omega) hB h0,Bt,Gh (fun q hq=>⟨h1 q hq,by have:=Da h1 q hq;omega⟩) hp (by omega),<-Bt]
  simp
theorem Cf {l:List Pt}{e:List Ex}(h:Ac l=true)(h':Ao 400 e=true):Aj l e=catO e l:=by simp[Aj,h,h',catO]
theorem Gj {a:List Pt}{q p:Pt}(hq:Ag q=true)(hq2:q.n<=1000)(hp:Ag p=true)(hp2:p.n<=1000)(ha:∀ x∈a,Ag x=true∧x.n<=1000)(hg:Aw q p=true):Ak a [⟨q.a,q.f,q.n+p.n⟩]=Ak a [q,p]:=by
 have hj:=av_ hq
 have hh:=av_ hp
 show AI a ⟨q.a,q.f,q.n+p.n⟩=AI (AI a q) p
 have hf:=hg
 simp only[Aw,Zf,Bool.or_eq_true,beq_iff_eq] at hg
 have hk:q.a=0∨(0<=q.f∧q.f<20):=by
  by_cases h0:q.a=0
  ·exact .inl h0
  ·have hc:(q.a==0)=false:=by simp[h0]
   simp only[Ag,hc,Zj,if_false,Zf,ZU] at hq
   exact .inr (by omega)
 have w1:wrap64 (q.n+p.n)=q.n+p.n:=by unfold wrap64;omega
 cases hl:a.getLast? with
 |none=>
  have:a=[]:=by simpa using hl
  subst this
  have e1:AI [] q=[q]:=rfl
  rw[e1]
  simp[AI,hf,w1]
 |some x=>
  have hx:=ha x (List.mem_of_getLast? hl)
  have hm:=av_ hx.1
  have e0:AI a q=if Aw x q then a.dropLast++[⟨x.a,x.f,wrap64 (x.n+q.n)⟩] else a++[q]:=by simp[AI,hl]
  have e2:Aw x ⟨q.a,q.f,q.n+p.n⟩=Aw x q:=rfl
  have w2:wrap64 (x.n+q.n)=x.n+q.n:=by unfold wrap64;omega
  have w3:wrap64 (x.n+(q.n+p.n))=x.n+(q.n+p.n):=by unfold wrap64;omega
  have w4:wrap64 (x.n+q.n+p.n)=x.n+q.n+p.n:=by unfold wrap64;omega
  rw[e0]
  cases he:Aw x q
  ·have e3:AI a ⟨q.a,q.f,q.n+p.n⟩=a++[⟨q.a,q.f,q.n+p.n⟩]:=by simp[AI,hl,e2,he]
   rw[e3]
   simp[AI,hf,w1]
  ·have e3:AI a ⟨q.a,q.f,q.n+p.n⟩=a.dropLast++[⟨x.a,x.f,x.n+(q.n+p.n)⟩]:=by simp[AI,hl,e2,he,w3]
   have hb:=he
   simp only[Aw,Zf,Bool.or_eq_true,beq_iff_eq] at hb
   have hn:x.a=0∨(0<=x.f∧x.f<20):=by
    by_cases h0:x.a=0
    ·exact .inl h0
    ·have hc:(x.a==0)=false:=by simp[h0]
     have:=hx.1
     simp only[Ag,hc,Zj,if_false,Zf,ZU] at this
     exact .inr (by omega)
   have e4:Aw ⟨x.a,x.f,x.n+q.n⟩ p=true:=by
    simp only[Aw,Zf,Bool.or_eq_true,beq_iff_eq]
    refine ⟨by omega,?_⟩
    by_cases h0:p.a=0
    ·exact .inl h0
    ·right
     have g1:p.f=wrap64 (q.f+q.n):=hg.2.resolve_left h0
     have g2:q.f=wrap64 (x.f+x.n):=hb.2.resolve_left (by omega)
     rw[g1,g2]
     unfold wrap64
     omega
   rw[e3]
   simp[AI,e4,w2,w4]
   omega
theorem Er (e:List Ex):∀ (l:List Pt) (acc s:ByteArray),(∀ p∈l,1<=p.n∧p.n<=100∧(p.a≠0->0<=p.f∧p.f<20))->cgo e acc l=some s->(s.size:Int)=acc.size+Af l
 |[],acc,s,_,h=>by simp[cgo] at h;subst h;simp[Af]
 |p::r,acc,s,hp,h=>by
  unfold cgo at h
  split at h
  ·cases h
  ·rename_i d hd
   obtain⟨h1,_,h3⟩:=hp p (by simp)
   have hs:=Fa h1 (fun ha=>(h3 ha).1) hd
   have:=Er e r (acc++d) s (fun q hq=>hp q (by simp[hq])) h
   rw[ByteArray.size_append] at this
   simp only[Af]
   omega
theorem Cp {l:List Pt}{e:List Ex}{s:ByteArray}(h:Aj l e=some s):(s.size:Int)=Af l∧s.size<=100:=by
 unfold Aj at h
 split at h
 ·rename_i hh
  have:=Er e l _ s (gd_ hh.1).2 h
  have h0:(((⟨#[]⟩:ByteArray).size:Nat):Int)=0:=rfl
  have:=(ae_ hh.1).2.2
  omega
 ·cases h
theorem Eg {u v t:Int}:∀ (l:List Pt) (st:Int),u<=st->v<=st->(∀ p∈l,1<=p.n)->slp u t st l=slp v t st l
 |[],_,_,_,_=>rfl
 |p::r,st,hu,hv,hp=>by
  have hn:=hp p (by simp)
  have ih:=Eg (u:=u) (v:=v) (t:=t) r (st+p.n) (by omega) (by omega) (fun q hq=>hp q (by simp[hq]))
  have e1:max (u-st) 0=0:=by omega
  have e2:max (v-st) 0=0:=by omega
  simp only[slp,e1,e2,ih]
theorem GG {p:Pt}{x v y:Int}(h:Ag p=true)(h0:0<=x)(h1:x<v)(h2:v<y)(h3:y<=p.n):Aw (Be p x v) (Be p v y)=true∧Be p x y=⟨(Be p x v).a,(Be p x v).f,(Be p x v).n+(Be p v y).n⟩:=by
 by_cases ha:p.a=0
 ·simp[Be,Aw,ha];omega
 ·have hb:(p.a==0)=false:=by simp[ha]
  simp only[Ag,hb,Zj,if_false,Zf,ZU] at h
  have hw:wrap64 (p.f+x+(v-x))=p.f+v:=by unfold wrap64;omega
  simp only[Be,Aw,hb,Zj,if_false,beq_self_eq_true,Zp,Bool.false_or,hw,true_and]
  congr 1
  omega
theorem Du {u v t:Int}(huv:u<=v)(hvt:v<=t):∀ (l:List Pt) (st:Int) (acc:List Pt) (B:Int),pgo none B acc=true->(∀ p∈l,Ag p=true)->Af acc+Af l<=B->B<=1000->0<=B->Ak acc (slp u v st l++slp v t st l)=Ak acc (slp u t st l)
 |[],_,_,_,_,_,_,_,_=>rfl
 |p::r,st,acc,B,ha,hp,hs,hB,h0=>by
  have he:=hp p (by simp)
  have hn:=av_ he
  have hr:∀ q∈r,Ag q=true:=fun q hq=>hp q (by simp[hq])
  have hf:∀ q∈r,1<=q.n:=fun q hq=>av_ (hr q hq)
  have hj:=az_ r hr
  have hb:=cH_ acc none B h0 ha
  have hg:=az_ acc hb.1
  simp only[Af] at hs
  by_cases hA:st+p.n<=v
  ·have e2:slp v t st (p::r)=slp v t (st+p.n) r:=fo_ (by omega)
   rw[e2]
   by_cases hx:max (u-st) 0<min (t-st) p.n
   ·have e1:slp u v st (p::r)=Be p (max (u-st) 0) (min (t-st) p.n)::slp u v (st+p.n) r:=eN_ rfl (by omega) hx
    have e3:slp u t st (p::r)=Be p (max (u-st) 0) (min (t-st) p.n)::slp u t (st+p.n) r:=eN_ rfl rfl hx
    rw[e1,e3]
    have hc:=p9_ he (x:=max (u-st) 0) (y:=min (t-st) p.n) (by omega) hx (by omega)
    have hh:=gf_ p (max (u-st) 0) (min (t-st) p.n)
    obtain⟨k1,k2⟩:=pL_ ha hc (by omega) hB h0
    exact Du huv hvt r (st+p.n) _ B k1 hr (by rw[k2];omega) hB h0
   ·have e1:slp u v st (p::r)=slp u v (st+p.n) r:=fo_ (by omega)
    have e3:slp u t st (p::r)=slp u t (st+p.n) r:=fo_ (by omega)
    rw[e1,e3]
    exact Du huv hvt r (st+p.n) acc B ha hr (by omega) hB h0
  ·by_cases hV:v<=st
   ·rw[kU_ (p::r) st hV (fun q hq=>av_ (hp q hq)),ZM,Eg (p::r) st (u:=u) (v:=v) (by omega) hV (fun q hq=>av_ (hp q hq))]
   ·by_cases h1:u=v
    ·subst h1;rw[g8_ (YB _) (p::r)];rfl
    ·by_cases h2:v=t
     ·subst h2;rw[g8_ (u:=v) (YB _) (p::r),Yy]
     ·have e1:slp u v st (p::r)=[Be p (max (u-st) 0) (v-st)]:=by
       rw[eN_ (x:=max (u-st) 0) (y:=v-st) rfl (by omega) (by omega),kU_ r _ (by omega) hf]
      have e2:slp v t st (p::r)=Be p (v-st) (min (t-st) p.n)::slp v t (st+p.n) r:=eN_ (by omega) rfl (by omega)
      have e3:slp u t st (p::r)=Be p (max (u-st) 0) (min (t-st) p.n)::slp v t (st+p.n) r:=by
       rw[eN_ (x:=max (u-st) 0) (y:=min (t-st) p.n) rfl rfl (by omega),Eg r _ (u:=u) (v:=v) (by omega) (by omega) hf]
      rw[e1,e2,e3]
      obtain⟨g1,g2⟩:=GG he (x:=max (u-st) 0) (v:=v-st) (y:=min (t-st) p.n) (by omega) (by omega) (by omega) (by omega)
      have n1:=gf_ p (max (u-st) 0) (v-st)
      have n2:=gf_ p (v-st) (min (t-st) p.n)
      have:=Gj (a:=acc) (p9_ he (x:=max (u-st) 0) (y:=v-st) (by omega) (by omega) (by omega)) (by omega) (p9_ he (x:=v-st) (y:=min (t-st) p.n) (by omega) (by omega) (by omega)) (by omega) (fun x hx=>⟨hb.1 x hx,by have:=Da hb.1 x hx;omega⟩) g1
      rw[<-g2] at this
      have e4:Ak acc (Be p (max (u-st) 0) (min (t-st) p.n)::slp v t (st+p.n) r)=Ak (Ak acc [Be p (max (u-st) 0) (min (t-st) p.n)]) (slp v t (st+p.n) r):=rfl
      rw[e4,this];rfl
theorem FJ {l:List Pt}(h:Ac l=true){u v t:Int}(h1:u<=v)(h2:v<=t):Ak (slp u v 0 l) (slp v t 0 l)=slp u t 0 l:=by
 obtain⟨_,a1,a2⟩:=ae_ h
 have e:=b2_ [] (slp u v 0 l) (slp v t 0 l)
 rw[fD_ (b8_ h u v)] at e
 rw[e,Du h1 h2 l 0 [] 100 rfl a1 (by simp[Af];omega) (by omega) (by omega),fD_ (b8_ h u t)]
theorem Eu {l:List Pt}(h:Ac l=true){u v t:Int}(h1:u<=v)(h2:v<=t)(e:List Ex):catO e (slp u t 0 l)=(catO e (slp u v 0 l)).bind (fun x=>(catO e (slp v t 0 l)).map (x++·)):=by
 obtain⟨_,a1,a2⟩:=ae_ (eJ_ h u v)
 obtain⟨_,b1,b2⟩:=ae_ (eJ_ h v t)
 have:=az_ _ a1
 have:=az_ _ b1
 rw[<-FJ h h1 h2,DQ e _ _ 200 (f4_ _ none 100 200 (b8_ h u v) (by omega) (by omega)) b1 (by omega) (by omega) (by omega),Bt]
theorem Eo {l:List Pt}{e:List Ex}{x:ByteArray}{u t:Int}(hx:Aj l e=some x)(h0:0<=u)(h1:u<=t)(h2:t<=Af l):Aj (slp u t 0 l) e=some (x.extract u.toNat t.toNat):=by
 obtain⟨h,he⟩:=fl_ hx
 obtain⟨_,a1,_⟩:=ae_ h
 rw[Cf h he] at hx
 have hl:slp 0 (Af l) 0 l=l:=g9_ l 0 (by omega) (by omega) a1
 rw[<-hl,Eu h (u:=0) (v:=t) (t:=Af l) (by omega) h2 e,Eu h (u:=0) (v:=u) (t:=t) h0 h1 e] at hx
 cases c1:catO e (slp 0 u 0 l) with
 |none=>simp[c1] at hx
 |some x1=>
  cases c2:catO e (slp u t 0 l) with
  |none=>simp[c1,c2] at hx
  |some y=>
   cases c3:catO e (slp t (Af l) 0 l) with
   |none=>simp[c1,c2,c3] at hx
   |some z=>
    simp only[c1,c2,c3,YO,Option.map_some,Zo] at hx
    subst hx
    have r1:=(Cp (l:=slp 0 u 0 l) (e:=e) (s:=x1) (by rw[Cf (eJ_ h 0 u) he,c1])).1
    have r2:=(Cp (l:=slp u t 0 l) (e:=e) (s:=y) (by rw[Cf (eJ_ h u t) he,c2])).1
    rw[mZ_ (by omega) l 0 a1] at r1 r2
    have r1':x1.size=u.toNat:=by omega
    have r2':y.size=t.toNat-u.toNat:=by omega
    have q1:x1.data.toList.length=u.toNat:=by rw[<-r1'];simp
    have q2:y.data.toList.length=t.toNat-u.toNat:=by rw[<-r2'];simp
    rw[Cf (eJ_ h u t) he,c2]
    congr 1
    refine CZ ?_
    rw[Co,Dp,Dp,ZC,List.drop_left' q1,List.take_left' q2]
end
section
open Go.RowKit Go.BigFrame Tryz
theorem DZ (b:Nat)(a:Option Addr)(cap:Nat)(fr tz:Int)(w:World) :
  Calls prog 129 #[.pointer (some ⟨b,0,none⟩),.slice a 0 cap,.int .i64 fr,.int .i64 tz] w fun e w'=>e=.returned (.tuple #[])∧w'=w:=by
 go_enter func129,ntmps129
 go_wp2_with fail
 go_loopw [15] (fun ix wr=>ix=.int .i64 0∧wr=w) (fun _ _=>0)
 case atStart=>exact⟨rfl,rfl⟩
 case round=>
  obtain⟨rfl,rfl⟩:=hrel
  go_wp2
  go_returns
  exact⟨rfl,rfl⟩
theorem EY (a:Option Addr)(cap:Nat)(fr tz:Int)(w:World)(h:AM w a 0 []) :
  Calls prog 76 #[.slice a 0 cap,.int .i64 fr,.int .i64 tz] w fun e w'=>CY w.heap.size e w' (AY [] fr tz)∧Below w.heap.size w w':=by
 have he:Ac []=true:=rfl
 have hs:Cb []=0:=rfl
 by_cases hr:0<=fr∧fr<=0∧fr<=tz∧tz<=0
 ·have hf:AY [] fr tz=some []:=by unfold AY;rw[if_pos ⟨he,hr.1,hr.2.1,hr.2.2.1,hr.2.2.2⟩];rfl
  rw[hf]
  clear hf
  obtain⟨r1,r2,r3,r4⟩:=hr
  go_enter func76,ntmps76
  go_wp2_with fail
  refine (as_ a 0 cap [] _ h (by omega)).mono ?_
  rintro e w1 ⟨rfl,hb⟩
  rw[he]
  go_wp2_with fail
  refine (bo_ a 0 cap [] _ (h.below hb) (by omega)).mono ?_
  rintro e w2 ⟨rfl,ha⟩
  rw[hs]
  replace ha:=Aa hb ha
  have hk:=gZ_ w2
  have hj:Below w.heap.size w (w2.alloc (.cells #[.int .i64 0,.int .i64 0,.int .i64 0,.int .i64 0,.int .i64 0,.int .i64 0,.int .i64 0,.int .i64 0,.int .i64 0,.int .i64 0,.int .i64 0,.int .i64 0,.int .i64 0,.int .i64 0,.int .i64 0,.int .i64 0,.int .i64 0,.int .i64 0,.int .i64 0,.int .i64 0,.int .i64 0,.int .i64 0,.int .i64 0,.int .i64 0,.int .i64 0,.int .i64 0,.int .i64 0,.int .i64 0,.int .i64 0,.int .i64 0,.int .i64 0,.int .i64 0,.int .i64 0,.int .i64 0,.int .i64 0,.int .i64 0,.int .i64 0,.int .i64 0,.int .i64 0,.int .i64 0,.int .i64 0,.int .i64 0,.int .i64 0,.int .i64 0,.int .i64 0,.int .i64 0,.int .i64 0,.int .i64 0,.int .i64 0,.int .i64 0,.bool false] 218)):=Aa ha ((Yg _ _).alloc (Zd _) _)
  go_wp2_with fail
  refine (DZ w2.heap.size a cap fr tz _).mono ?_
  rintro e w3 ⟨rfl,rfl⟩
  go_wp2_with fail
  refine (cb_ w.heap.size _ _ _ hk hj.size).mono ?_
  rintro e w4 ⟨hh,hc⟩
  replace hc:=Aa hj hc
  obtain⟨a',n',cap',rfl,hg⟩:=hh
  go_wp2
  go_returns
  exact⟨⟨a',n',cap',rfl,hg⟩,hc⟩
 ·have hf:AY [] fr tz=none:=by unfold AY;rw[if_neg (fun h=>hr h.2)]
  rw[hf]
  clear hf
  go_enter func76,ntmps76
  go_wp2_with fail
  refine (as_ a 0 cap [] _ h (by omega)).mono ?_
  rintro e w1 ⟨rfl,hb⟩
  rw[he]
  go_wp2_with fail
  refine (bo_ a 0 cap [] _ (h.below hb) (by omega)).mono ?_
  rintro e w2 ⟨rfl,ha⟩
  rw[hs]
  replace ha:=Aa hb ha
  go_wp2
  all_goals go_returns
  all_goals exact⟨rfl,ha⟩
theorem EZ (a:Option Addr)(n cap:Nat)(l:List Pt)(fr tz:Int)(w:World)(h:AM w a n l)(hn:n<=4194304) :
  Calls prog 76 #[.slice a n cap,.int .i64 fr,.int .i64 tz] w fun e w'=>CY w.heap.size e w' (AY l fr tz)∧Below w.heap.size w w':=by
 by_cases h0:n=0
 ·subst h0
  obtain rfl:l=[]:=Zt h.len
  exact EY a cap fr tz w h
 ·refine hp_ a n cap l fr tz w h hn (fun ad ha=>?_)
  obtain⟨b,o,p,e,_,c0,_⟩:=bi_ h (k:=0) (by omega)
  rw[e] at ha
  obtain rfl:=Zi ha
  exact Yk w _ c0
theorem ER {p:Po}{vol file:ByteArray}{ps:List Pt}(h:BV p vol file=some ps):Ai p=true∧Ar p.vs vol file=some ps:=by
 unfold BV at h
 split at h
 ·rename_i hh;exact⟨hh,h⟩
 ·cases h
theorem EW (B:Nat)(_hB0:0<B)(v:Value)(p:Po)(vol file:ByteArray)(fr tz:Int)(w:World)(h:AF B w v p)(hd:AB p)(hvol:vol.size<=1048576) :
  Calls prog 28 #[v,.string vol,.string file,.int .i64 fr,.int .i64 tz] w fun e w'=>e=.returned (.tuple #[.string (Dj p vol file fr tz).1,.bool (Dj p vol file fr tz).2])∧Below w.heap.size w w':=by
 obtain⟨ea,en,ec,va,vn,vc,ra,rn,rc,la,ln,lc,rfl,hb⟩:=h
 have h:AF B w (.agg #[.int .i64 p.size,.int .i64 p.next,.slice ea en ec,.slice va vn vc,.slice ra rn rc,.slice la ln lc]) p:=⟨ea,en,ec,va,vn,vc,ra,rn,rc,la,ln,lc,rfl,hb⟩
 have h1:=hb.1.1
 have z1:=hd.1
 have z2:=hd.2.1
 rw[h1.len] at z1
 clear hb
 have C:=(Blk.new w #[.int .i64 p.size,.int .i64 p.next,.slice ea en ec,.slice va vn vc,.slice ra rn rc,.slice la ln lc] 28)
 have hh:Below w.heap.size w (w.alloc (.cells #[.int .i64 p.size,.int .i64 p.next,.slice ea en ec,.slice va vn vc,.slice ra rn rc,.slice la ln lc] 28)):=by go_grown
 have hR:Hid (Dj p vol file fr tz=(match BV p vol file with
  |none=>(⟨#[]⟩,false)
  |some ps=>if 0<=fr∧fr<=Af ps∧fr<=tz∧tz<=Af ps then (((Aj ps p.ex).getD ⟨#[]⟩).extract fr.toNat tz.toNat,true) else (⟨#[]⟩,false))):=rfl
 generalize Dj p vol file fr tz=R at *
 go_enter func28,ntmps28
 go_wp2_with fail
 generalize w.alloc (.cells #[.int .i64 p.size,.int .i64 p.next,.slice ea en ec,.slice va vn vc,.slice ra rn rc,.slice la ln lc] 28)=W0 at *
 refine (CC B _ p vol file _ (h.below hh) hd hvol).mono ?_
 rintro e w1 ⟨ha,hc⟩
 have C1:=C.below hc
 replace hc:=Aa hh hc
 clear C hh
 cases hf:BV p vol file with
 |none=>
  rw[hf] at ha hR
  replace ha:e=.returned (.tuple #[.slice none 0 0,.bool false]):=ha
  replace hR:Hid (R=(⟨#[]⟩,false)):=hR
  subst ha
  clear hf
  go_wp2
  go_returns
  exact⟨by rw[hR.out];rfl,hc⟩
 |some ps=>
  rw[hf] at ha hR
  obtain⟨hl,hn⟩:=ER hf
  obtain⟨ho,hk⟩:=bb_ hl hn
  obtain⟨s,hs⟩:=Option.isSome_iff_exists.1 hk
  replace hR:Hid (R=if 0<=fr∧fr<=Af ps∧fr<=tz∧tz<=Af ps then (s.extract fr.toNat tz.toNat,true) else (⟨#[]⟩,false)):=by show _=_;rw[hR.out];dsimp only;rw[hs];rfl
  obtain⟨pa,pn,pc,rfl,hj,hH,hm⟩:=ha
  rw[hj.len] at hm
  clear hf hl hn hk
  go_wp2_with fail
  refine (EZ pa pn pc ps fr tz _ hj hm).mono ?_
  rintro e w2 ⟨ha,he⟩
  have C2:=C1.below he
  replace he:=Aa hc he
  clear C1 hc
  by_cases hr:0<=fr∧fr<=Af ps∧fr<=tz∧tz<=Af ps
  ·rw[if_pos hr] at hR
   rw[EI ho hr.1 hr.2.2.1 hr.2.2.2] at ha
   obtain⟨a3,n3,cap3,rfl,R3⟩:=ha
   have hq:=Eo hs hr.1 hr.2.2.1 hr.2.2.2
   have hp:n3<=4194304:=by
    rw[<-R3.sl.len]
    have:=(ae_ (eJ_ ho fr tz)).1
    omega
   have d2:=C2.cell 2
   simp only[Yp,Yo,Yt] at d2
   go_wp2_with fail
   refine (fO_ a3 n3 cap3 _ ea en ec p.ex _ R3.sl (h1.below he) z2 hp z1).mono ?_
   rintro e w3 ⟨ha,hg⟩
   rw[hq] at ha
   replace ha:e=.returned (.tuple #[.string (s.extract fr.toNat tz.toNat),.bool true]):=ha
   subst ha
   replace hg:=Aa he hg
   go_wp2
   go_returns
   exact⟨by rw[hR.out];rfl,hg⟩
  ·rw[if_neg hr] at hR
   have ht:AY ps fr tz=none:=by unfold AY;rw[if_neg (fun h=>hr h.2)]
   rw[ht] at ha
   replace ha:e=.returned (.tuple #[.slice none 0 0,.bool false]):=ha
   subst ha
   go_wp2
   go_returns
   exact⟨by rw[hR.out];rfl,he⟩
theorem Hi (x:ByteArray):[Value.string x].length=1:=rfl
theorem Hj:∀ (l:List ByteArray),∀ u∈l.flatMap scs,u.oneCell'=true:=by
 intro l u hu
 obtain⟨x,_,hx⟩:=ZL.1 hu
 simp at hx
 subst hx;rfl
theorem Hl (w:World)(x:ByteArray)(t:TypeId)(b:Nat)(hb:b=w.heap.size):AE scs 1 (w.alloc (.cells #[.string x] t)) (some ⟨b,0,none⟩) 1 [x]:=by
 subst hb
 refine ⟨rfl,fun i y hy=>⟨w.heap.size,0,rfl,fun j v hv=>?_⟩⟩
 obtain rfl:i=0:=by have:=(Zb.1 hy).1;simp at this;exact this
 simp at hy
 subst hy
 obtain rfl:j=0:=by have:=(Zb.1 hv).1;simp at this;exact this
 simp at hv
 subst hv
 simp
theorem H6:(prog.info? 9).map (fun i=>(i.zero,i.size,i.bytes))=some (some (.string .empty),1,16):=by kernel_rfl
theorem FH {l:List It}{i:Nat}{x:It}(h:l[i]?=some x):(l.take (i+1)).map (·.nm)=(l.take i).map (·.nm)++[x.nm]:=by
 rw[bx_ h,List.map_append];rfl
theorem GV {p:Po}(h:Ai p=true){i:Nat}{x:Vo}(hx:p.vs[i]?=some x):x.its.length<=5:=by
 have:=(g2_ (bL_ h).1 (bL_ h).2.1).2 x (Zc hx)
 exact this.1
theorem EE (B:Nat)(v:Value)(p:Po)(vol:ByteArray)(w:World)(h:AF B w v p)(hd:AB p)(hvol:vol.size<=1048576) :
  Calls prog 27 #[v,.string vol] w fun e w'=>(∃ a n cap,e=.returned (.tuple #[.slice a n cap,.bool (Ci p vol).isSome])∧n<=5∧Ad scs 1 9 w' w.heap.size a n cap ((Ci p vol).getD []))∧Below w.heap.size w w':=by
 obtain⟨ea,en,ec,va,vn,vc,ra,rn,rc,la,ln,lc,rfl⟩:=h.cells
 obtain⟨i0,hp,ht,hu,hv⟩:=info_parts H6
 have C:=(Blk.new w #[.int .i64 p.size,.int .i64 p.next,.slice ea en ec,.slice va vn vc,.slice ra rn rc,.slice la ln lc] 28)
 have he:Below w.heap.size w (w.alloc (.cells #[.int .i64 p.size,.int .i64 p.next,.slice ea en ec,.slice va vn vc,.slice ra rn rc,.slice la ln lc] 28)):=by go_grown
 have hR:Hid (Ci p vol=if Ai p=true then (volI p.vs vol).bind fun i=>p.vs[i]?.map fun v=>v.its.map (·.nm) else none):=rfl
 generalize Ci p vol=R at *
 go_enter func27,ntmps27
 go_wp2_with fail
 generalize w.alloc (.cells #[.int .i64 p.size,.int .i64 p.next,.slice ea en ec,.slice va vn vc,.slice ra rn rc,.slice la ln lc] 28)=W0 at *
 refine (Cl B _ p vol _ (h.below he) hd hvol).mono ?_
 rintro e w1 ⟨hg,hb⟩
 replace hb:=Aa he hb
 clear C he
 rcases hg with⟨rfl,ha⟩ | ⟨i,x,b,o,rfl,hf,hj,hx,hV⟩
 ·have hl:R=none:=by
   rw[hR.out]
   rcases ha with ha | ha
   ·rw[ha];rfl
   ·split
    ·rw[ha];rfl
    ·rfl
  subst hl
  clear ha hR
  go_wp2
  go_returns
  exact⟨⟨none,0,0,rfl,by omega,aB_⟩,hb⟩
 ·have hm:R=some (x.its.map (·.nm)):=by
   rw[hR.out,if_pos hf,hj,YO,hx];rfl
  have h5:=GV hf hx
  subst hm
  clear hf hj hx hR
  obtain⟨_,_,qa,qn,qc,e3,hP,hH⟩:=hV
  have hc:Hid (x.its.length=qn):=hP.len
  rw[hc.out] at h5
  have hr:=hb.size
  go_wp2_with fail
  go_loopw [7,20] (fun out ix wr=>∃ (k:Nat) (a3:Option Addr) (n3 cap3:Nat),k<=qn∧ix=.int .i64 k∧out=.slice a3 n3 cap3∧n3=k∧Ad scs 1 9 wr w1.heap.size a3 n3 cap3 ((x.its.take k).map (·.nm))∧w1.heap.size<=wr.heap.size∧Below w1.heap.size w1 wr) (fun _ ix _=>qn-(intOf ix).toNat)
  case atStart=>exact⟨0,none,0,0,Zg _,rfl,rfl,rfl,aB_,Zd _,Yg _ _⟩
  case round=>
   obtain⟨k,a3,n3,cap3,hk,rfl,rfl,rfl,R3,hA,hB⟩:=hrel
   by_cases hlt:n3<qn
   ·obtain⟨ib,io,y,pa,pn,pc,rfl,hy,g0,g1,_,_,_,_⟩:=bO_ (hP.below hB) hlt
    have hq:=FH hy
    have hw:(n3:Int)<qn:=by omega
    have hz:(0:Int)<=n3:=by omega
    clear hy
    go_wp2_with (at_builtin;refine ag_ rfl (fun K hK=>ay_ _ _ 69 rfl w1.heap.size 9 i0 (.string .empty) 16 underlying69 hp ht hu hv rfl (by decide) Hi Hj a3 n3 cap3 _ rfl ((R3.alloc _).alloc _) _ 1 1 [y.nm] rfl (Hl _ y.nm _ _ (by simp)) (fun ad h=>(by cases h;rfl)) (fun h=>(by cases h)) (n3+1) rfl (by unfold maxLen;omega) (by omega) (by simp;omega) (fun a4 cap4 w4 R4 ho=>hK _ _ ?_)))
    rw[<-hq] at R4
    have hh:Below w1.heap.size w1 w4:=Yi (by go_grown) ho (by simp;omega) (aG_ fun ad hn=>by have:=(R3.block ad hn).1;omega)
    have hs:w1.heap.size<=w4.heap.size:=hh.size
    go_roundw
    case rel=>exact⟨n3+1,a4,n3+1,cap4,by omega,by go_num,rfl,rfl,R4,hs,hh⟩
    case measure=>simp[intOf];omega
   ·obtain rfl:n3=qn:=by omega
    rw[Zk (Zm hc.out)] at R3
    go_wp2
    go_returns
    exact⟨⟨a3,n3,cap3,rfl,h5,R3.mono hr⟩,Aa hb hB⟩
end
end Go.Proofs.YtdmeabghpchckaaGreatDoor
