/- What files are asked for: of the program. -/
import Derived.Test.YtkodenjhajafpaaGreatDoorU38
import Derived.Test.YtkodenjhajafpaaGreatDoorU40
set_option maxHeartbeats 20000000
set_option maxRecDepth 100000
namespace Go.Proofs.YtkodenjhajafpaaGreatDoor
section
open Go.RowKit Go.BigFrame Tryz
open Go.Maps (Keyed)
def H8 (B:Nat)(e:Ending)(w':World)(p:Po)(vol:ByteArray):Prop:=
 (e=.returned (.pointer none)∧(Aj p=false∨volI p.vs vol=none))∨∃ i x b o,e=.returned (.pointer (some ⟨b,o,none⟩))∧Aj p=true∧volI p.vs vol=some i∧p.vs[i]?=some x∧FE B w' b o x
theorem Cs (B:Nat)(v:Value)(p:Po)(vol:ByteArray)(w:World)(h:AF B w v p)(hd:AB p)(hvol:vol.size<=1048576) :
  Calls prog 36 #[v,.string vol] w fun e w'=>H8 B e w' p vol∧Below w.heap.size w w':=by
 have hs:∀ u:World,(zeroValue 75).run prog u=.ok (.pointer none) u:=fun u=>by kernel_rfl
 obtain⟨ea,en,ec,va,vn,vc,ra,rn,rc,la,ln,lc,rfl,ha⟩:=h
 have h:AF B w (.agg #[.int .i64 p.size,.int .i64 p.next,.slice ea en ec,.slice va vn vc,.slice ra rn rc,.slice la ln lc]) p:=⟨ea,en,ec,va,vn,vc,ra,rn,rc,la,ln,lc,rfl,ha⟩
 have h2:=ha.2.1.1
 have z3:=hd.2.2.1
 have z4:=hd.2.2.2.1
 rw[h2.len] at z3
 clear ha
 obtain⟨pb,po,hp⟩:∃ pb po,0<vn->va=some ⟨pb,po,none⟩:=by
  by_cases h0:0<vn
  ·obtain⟨b,o,_,_,_,_,hv,_⟩:=b5_ h2 h0
   exact⟨b,o,fun _=>hv⟩
  ·exact⟨0,0,fun h=>absurd h h0⟩
 have C:=(Blk.new w #[.int .i64 p.size,.int .i64 p.next,.slice ea en ec,.slice va vn vc,.slice ra rn rc,.slice la ln lc] 28)
 have hh:Below w.heap.size w (w.alloc (.cells #[.int .i64 p.size,.int .i64 p.next,.slice ea en ec,.slice va vn vc,.slice ra rn rc,.slice la ln lc] 28)):=by go_grown
 go_enter func36,ntmps36
 go_wp2_with fail
 generalize w.alloc (.cells #[.int .i64 p.size,.int .i64 p.next,.slice ea en ec,.slice va vn vc,.slice ra rn rc,.slice la ln lc] 28)=W0 at *
 refine (ch_ B _ p _ (h.below hh) hd).mono ?_
 rintro e w1 ⟨rfl,hc⟩
 have C1:=C.below hc
 replace hc:=Aa hh hc
 clear C hh
 obtain⟨d0,d1,d2,d3,d4,d5⟩:w1.cell? ⟨w.heap.size,0,none⟩=some (.int .i64 p.size)∧w1.cell? ⟨w.heap.size,1,none⟩=some (.int .i64 p.next)∧w1.cell? ⟨w.heap.size,2,none⟩=some (.slice ea en ec)∧w1.cell? ⟨w.heap.size,3,none⟩=some (.slice va vn vc)∧w1.cell? ⟨w.heap.size,4,none⟩=some (.slice ra rn rc)∧w1.cell? ⟨w.heap.size,5,none⟩=some (.slice la ln lc):=⟨C1.cell 0,C1.cell 1,C1.cell 2,C1.cell 3,C1.cell 4,C1.cell 5⟩
 have hn:∀ pk,Aj p=pk->Hid (Aj p=pk):=fun _ h=>h
 cases hf:Aj p
 ·have hb:=hn _ hf
  clear hf
  go_wp2
  go_returns
  exact⟨.inl ⟨rfl,.inl hb.out⟩,hc⟩
 ·have hb:=hn _ hf
  have hnd:=(bL_ hf).2.2.2.2
  clear hf
  go_wp2_with fail
  refine (bC_ B p.size p.next ea en ec va vn vc ra rn rc la ln lc p.vs pb po hp _ (h2.below hc) z3 z4).mono ?_
  rintro e w2 ⟨⟨mb,D,rfl,ht,hO,hV⟩,he⟩
  replace he:=Aa hc he
  rcases oB_ hO keyed9 underlying116 (hs w2) (HP (s:=vol) (by unfold maxLen;omega)) with⟨hl,hk⟩ | ⟨val,y,hl,hj,hg,ho⟩
  ·rw[hV.has] at hk
   have hm:=nz_ hk
   clear hk
   go_wp2
   go_returns
   exact⟨.inl ⟨rfl,.inr hm⟩,he⟩
  ·obtain⟨o,rfl,hy⟩:=eu_ hj
   obtain⟨i,x,hi,rfl,rfl⟩:=hP_ hV hnd hg hj ho
   have hm:=pH_ hnd hi
   have hq:i<vn:=by rw[<-h2.len];exact (Zb.1 hi).1
   obtain⟨b',o',x',qa,qn,qc,hr,hx,e0,e1,e2,e3,hP,hH,_⟩:=b5_ (h2.below he) hq
   obtain⟨rfl,rfl⟩:b'=pb∧o'=po:=by have:=hp (by omega);rw[hr] at this;simpa using this
   obtain rfl:x=x':=by rw[hi] at hx;exact Zi hx
   clear ho hg hj hx
   go_wp2
   go_returns
   exact⟨.inr ⟨i,x,b',o'+i*4,rfl,hb.out,hm,hi,⟨e0,e1,qa,qn,qc,e3,hP,hH⟩⟩,he⟩
theorem EL (B b o:Nat)(x:Vo)(file:ByteArray)(w:World)(h:FE B w b o x)(m2:x.its.length<=4194304)(m3:Gl x.its) :
  Calls prog 78 #[.pointer (some ⟨b,o,none⟩),.string file] w fun e w'=>EV B e w' ((itI x.its file).bind fun k=>x.its[k]?.map (·.ps))∧Below w.heap.size w w':=by
 obtain⟨_,_,qa,qn,qc,e3,hP,hH⟩:=h
 have hb:Hid (x.its.length=qn):=hP.len
 rw[hb.out] at m2
 have hR:Hid (((itI x.its file).bind fun k=>x.its[k]?.map (·.ps))=(((itI (x.its.drop 0) file).map (·+0)).bind fun k=>x.its[k]?.map (·.ps))):=by show _=_;simp
 generalize ((itI x.its file).bind fun k=>x.its[k]?.map (·.ps))=R at *
 go_enter func78,ntmps78
 go_wp2_with fail
 go_loopw [13] (fun ix wr=>∃ (k:Nat),k<=qn∧ix=.int .i64 k∧Hid (R=(((itI (x.its.drop k) file).map (·+k)).bind fun k=>x.its[k]?.map (·.ps)))∧Below w.heap.size w wr) (fun ix _=>qn-(intOf ix).toNat)
 case atStart=>exact⟨0,Zg _,rfl,hR,Yg _ _⟩
 case round=>
  clear hR
  obtain⟨k,hk,rfl,hI,hB⟩:=hrel
  by_cases hlt:k<qn
  ·obtain⟨ib,io,y,pa,pn,pc,rfl,hy,g0,g1,hf,he,_,_⟩:=bO_ (hP.below hB) hlt
   obtain⟨_,m5⟩:=m3 y (Zc hy)
   have ha:Hid (R=((if (y.nm.toList==file.toList)=true then some k else (itI (x.its.drop (k+1)) file).map (·+(k+1))).bind fun k=>x.its[k]?.map (·.ps))):=by show _=_;rw[hI.out,ku_ hy]
   have hh:(k:Int)<qn:=by omega
   have hj:(0:Int)<=k:=by omega
   have hc:Below wr.heap.size wr (wr.alloc (.cells #[.string y.nm,.slice pa pn pc] 81)):=by go_grown
   have X:=(Blk.new wr #[.string y.nm,.slice pa pn pc] 81)
   clear hI
   cases hs:(y.nm.toList==file.toList)
   ·rw[hs] at ha
    simp only[Zj,if_false] at ha
    have hg:¬ y.nm.toList=file.toList:=by simpa using hs
    clear hy
    go_wp2
    go_roundw
    case rel=>exact⟨k+1,by omega,by go_num,ha,Aa hB hc⟩
    case measure=>simp[intOf];omega
   ·rw[hs] at ha
    simp only[if_true,YO,hy,Option.map_some] at ha
    have hg:y.nm.toList=file.toList:=by simpa using hs
    clear hy
    go_wp2
    go_returns
    exact⟨by rw[ha.out];exact⟨pa,pn,pc,rfl,hf.below hc,he,m5⟩,Aa hB hc⟩
  ·obtain rfl:k=qn:=by omega
   go_wp2
   go_returns
   exact⟨by rw[hI.out,Ze (Zm hb.out)];rfl,hB⟩
theorem CJ (B:Nat)(v:Value)(p:Po)(vol file:ByteArray)(w:World)(h:AF B w v p)(hd:AB p)(hvol:vol.size<=1048576) :
  Calls prog 32 #[v,.string vol,.string file] w fun e w'=>EV B e w' (BU p vol file)∧Below w.heap.size w w':=by
 obtain⟨ea,en,ec,va,vn,vc,ra,rn,rc,la,ln,lc,rfl,hb⟩:=h
 have h:AF B w (.agg #[.int .i64 p.size,.int .i64 p.next,.slice ea en ec,.slice va vn vc,.slice ra rn rc,.slice la ln lc]) p:=⟨ea,en,ec,va,vn,vc,ra,rn,rc,la,ln,lc,rfl,hb⟩
 clear hb
 have z4:=hd.2.2.2.1
 have C:=(Blk.new w #[.int .i64 p.size,.int .i64 p.next,.slice ea en ec,.slice va vn vc,.slice ra rn rc,.slice la ln lc] 28)
 have hg:Below w.heap.size w (w.alloc (.cells #[.int .i64 p.size,.int .i64 p.next,.slice ea en ec,.slice va vn vc,.slice ra rn rc,.slice la ln lc] 28)):=by go_grown
 have hR:Hid (BU p vol file=if Aj p=true then Aq p.vs vol file else none):=rfl
 generalize BU p vol file=R at *
 go_enter func32,ntmps32
 go_wp2_with fail
 generalize w.alloc (.cells #[.int .i64 p.size,.int .i64 p.next,.slice ea en ec,.slice va vn vc,.slice ra rn rc,.slice la ln lc] 28)=W0 at *
 refine (Cs B _ p vol _ (h.below hg) hd hvol).mono ?_
 rintro e w1 ⟨ha,he⟩
 replace he:=Aa hg he
 clear C hg
 rcases ha with⟨rfl,hc⟩ | ⟨i,x,b,o,rfl,hh,hj,hx,hV⟩
 ·have hl:Hid (R=none):=by
   show _=_
   rw[hR.out]
   rcases hc with hc | hc
   ·rw[hc];rfl
   ·split
    ·unfold Aq;rw[hc];rfl
    ·rfl
  clear hc
  go_wp2
  go_returns
  exact⟨by rw[hl.out];rfl,he⟩
 ·have hm:Hid (R=(itI x.its file).bind fun k=>x.its[k]?.map (·.ps)):=by
   show _=_
   rw[hR.out,if_pos hh]
   unfold Aq
   rw[hj,YO,hx,YO]
  obtain⟨m1,m2,m3⟩:=z4 x (Zc hx)
  clear hh hj hx
  go_wp2_with fail
  refine (EL B b o x file _ hV m2 m3).mono ?_
  rintro e w2 ⟨ha,hf⟩
  replace hf:=Aa he hf
  rw[<-hm.out] at ha
  cases R with
  |none=>
   replace ha:e=.returned (.tuple #[.slice none 0 0,.bool false]):=ha
   subst ha
   go_wp2
   go_returns
   exact⟨rfl,hf⟩
  |some ps=>
   obtain⟨pa,pn,pc,rfl,hk,hH,hn⟩:=ha
   go_wp2
   go_returns
   exact⟨⟨pa,pn,pc,rfl,hk,hH,hn⟩,hf⟩
theorem Fa (B:Nat)(v:Value)(p:Po)(vol file:ByteArray)(w:World)(h:AF B w v p)(hd:AB p)(hvol:vol.size<=1048576) :
  Calls prog 11 #[v,.string vol,.string file] w fun e w'=>e=.returned (.tuple #[.int .i64 (Cm p vol file).1,.bool (Cm p vol file).2])∧Below w.heap.size w w':=by
 obtain⟨ea,en,ec,va,vn,vc,ra,rn,rc,la,ln,lc,rfl,hb⟩:=h
 have h:AF B w (.agg #[.int .i64 p.size,.int .i64 p.next,.slice ea en ec,.slice va vn vc,.slice ra rn rc,.slice la ln lc]) p:=⟨ea,en,ec,va,vn,vc,ra,rn,rc,la,ln,lc,rfl,hb⟩
 clear hb
 have C:=(Blk.new w #[.int .i64 p.size,.int .i64 p.next,.slice ea en ec,.slice va vn vc,.slice ra rn rc,.slice la ln lc] 28)
 have hg:Below w.heap.size w (w.alloc (.cells #[.int .i64 p.size,.int .i64 p.next,.slice ea en ec,.slice va vn vc,.slice ra rn rc,.slice la ln lc] 28)):=by go_grown
 have hR:Hid (Cm p vol file=(match BU p vol file with | none=>(0,false) | some ps=>(Cc ps,true))):=by
  show _=_
  unfold Cm BU
  split<;>rfl
 generalize Cm p vol file=R at *
 go_enter func11,ntmps11
 go_wp2_with fail
 generalize w.alloc (.cells #[.int .i64 p.size,.int .i64 p.next,.slice ea en ec,.slice va vn vc,.slice ra rn rc,.slice la ln lc] 28)=W0 at *
 refine (CJ B _ p vol file _ (h.below hg) hd hvol).mono ?_
 rintro e w1 ⟨ha,hc⟩
 replace hc:=Aa hg hc
 clear C hg
 cases he:BU p vol file with
 |none=>
  rw[he] at ha hR
  replace ha:e=.returned (.tuple #[.slice none 0 0,.bool false]):=ha
  replace hR:Hid (R=(0,false)):=hR
  subst ha
  clear he
  go_wp2
  go_returns
  exact⟨by rw[hR.out];rfl,hc⟩
 |some ps=>
  rw[he] at ha hR
  replace hR:Hid (R=(Cc ps,true)):=hR
  obtain⟨pa,pn,pc,rfl,hh,hH,hj⟩:=ha
  rw[hh.len] at hj
  clear he
  go_wp2_with fail
  refine (bo_ pa pn pc ps _ hh hj).mono ?_
  rintro e w2 ⟨rfl,hf⟩
  replace hf:=Aa hc hf
  go_wp2
  go_returns
  exact⟨by rw[hR.out];rfl,hf⟩
end
section
open Go.RowKit Go.BigFrame Tryz
theorem Ed (b:Nat)(a:Option Addr)(cap:Nat)(fr tz:Int)(w:World) :
  Calls prog 80 #[.pointer (some ⟨b,0,none⟩),.slice a 0 cap,.int .i64 fr,.int .i64 tz] w fun e w'=>e=.returned (.tuple #[])∧w'=w:=by
 go_enter func80,ntmps80
 go_wp2_with fail
 go_loopw [15] (fun ix wr=>ix=.int .i64 0∧wr=w) (fun _ _=>0)
 case atStart=>exact⟨rfl,rfl⟩
 case round=>
  obtain⟨rfl,rfl⟩:=hrel
  go_wp2
  go_returns
  exact⟨rfl,rfl⟩
theorem Fb (a:Option Addr)(cap:Nat)(fr tz:Int)(w:World)(h:AM w a 0 []) :
  Calls prog 34 #[.slice a 0 cap,.int .i64 fr,.int .i64 tz] w fun e w'=>Df w.heap.size e w' (AZ [] fr tz)∧Below w.heap.size w w':=by
 have he:Ac []=true:=rfl
 have hs:Cc []=0:=rfl
 by_cases hr:0<=fr∧fr<=0∧fr<=tz∧tz<=0
 ·have hf:AZ [] fr tz=some []:=by unfold AZ;rw[if_pos ⟨he,hr.1,hr.2.1,hr.2.2.1,hr.2.2.2⟩];rfl
  rw[hf]
  clear hf
  obtain⟨r1,r2,r3,r4⟩:=hr
  go_enter func34,ntmps34
  go_wp2_with fail
  refine (as_ a 0 cap [] _ h (by omega)).mono ?_
  rintro e w1 ⟨rfl,hb⟩
  rw[he]
  go_wp2_with fail
  refine (bo_ a 0 cap [] _ (h.below hb) (by omega)).mono ?_
  rintro e w2 ⟨rfl,ha⟩
  rw[hs]
  replace ha:=Aa hb ha
  have hk:=gZ_ w2
  have hj:Below w.heap.size w (w2.alloc (.cells #[.int .i64 0,.int .i64 0,.int .i64 0,.int .i64 0,.int .i64 0,.int .i64 0,.int .i64 0,.int .i64 0,.int .i64 0,.int .i64 0,.int .i64 0,.int .i64 0,.int .i64 0,.int .i64 0,.int .i64 0,.int .i64 0,.int .i64 0,.int .i64 0,.int .i64 0,.int .i64 0,.int .i64 0,.int .i64 0,.int .i64 0,.int .i64 0,.int .i64 0,.int .i64 0,.int .i64 0,.int .i64 0,.int .i64 0,.int .i64 0,.int .i64 0,.int .i64 0,.int .i64 0,.int .i64 0,.int .i64 0,.int .i64 0,.int .i64 0,.int .i64 0,.int .i64 0,.int .i64 0,.int .i64 0,.int .i64 0,.int .i64 0,.int .i64 0,.int .i64 0,.int .i64 0,.int .i64 0,.int .i64 0,.int .i64 0,.int .i64 0,.bool false] 146)):=Aa ha ((Yg _ _).alloc (Zd _) _)
  go_wp2_with fail
  refine (Ed w2.heap.size a cap fr tz _).mono ?_
  rintro e w3 ⟨rfl,rfl⟩
  go_wp2_with fail
  refine (cb_ w.heap.size _ _ _ hk hj.size).mono ?_
  rintro e w4 ⟨hh,hc⟩
  replace hc:=Aa hj hc
  obtain⟨a',n',cap',rfl,hg⟩:=hh
  go_wp2
  go_returns
  exact⟨⟨a',n',cap',rfl,hg⟩,hc⟩
 ·have hf:AZ [] fr tz=none:=by unfold AZ;rw[if_neg (fun h=>hr h.2)]
  rw[hf]
  clear hf
  go_enter func34,ntmps34
  go_wp2_with fail
  refine (as_ a 0 cap [] _ h (by omega)).mono ?_
  rintro e w1 ⟨rfl,hb⟩
  rw[he]
  go_wp2_with fail
  refine (bo_ a 0 cap [] _ (h.below hb) (by omega)).mono ?_
  rintro e w2 ⟨rfl,ha⟩
  rw[hs]
  replace ha:=Aa hb ha
  go_wp2
  all_goals go_returns
  all_goals exact⟨rfl,ha⟩
theorem Fc (a:Option Addr)(n cap:Nat)(l:List Pt)(fr tz:Int)(w:World)(h:AM w a n l)(hn:n<=4194304) :
  Calls prog 34 #[.slice a n cap,.int .i64 fr,.int .i64 tz] w fun e w'=>Df w.heap.size e w' (AZ l fr tz)∧Below w.heap.size w w':=by
 by_cases h0:n=0
 ·subst h0
  obtain rfl:l=[]:=Zt h.len
  exact Fb a cap fr tz w h
 ·refine hp_ a n cap l fr tz w h hn (fun ad ha=>?_)
  obtain⟨b,o,p,e,_,c0,_⟩:=bi_ h (k:=0) (by omega)
  rw[e] at ha
  obtain rfl:=Zi ha
  exact Yk w _ c0
theorem EX {p:Po}{vol file:ByteArray}{ps:List Pt}(h:BU p vol file=some ps):Aj p=true∧Aq p.vs vol file=some ps:=by
 unfold BU at h
 split at h
 ·rename_i hh;exact⟨hh,h⟩
 ·cases h
theorem E7 (B:Nat)(_hB0:0<B)(v:Value)(p:Po)(vol file:ByteArray)(fr tz:Int)(w:World)(h:AF B w v p)(hd:AB p)(hvol:vol.size<=1048576) :
  Calls prog 12 #[v,.string vol,.string file,.int .i64 fr,.int .i64 tz] w fun e w'=>e=.returned (.tuple #[.string (Cj p vol file fr tz).1,.bool (Cj p vol file fr tz).2])∧Below w.heap.size w w':=by
 obtain⟨ea,en,ec,va,vn,vc,ra,rn,rc,la,ln,lc,rfl,hb⟩:=h
 have h:AF B w (.agg #[.int .i64 p.size,.int .i64 p.next,.slice ea en ec,.slice va vn vc,.slice ra rn rc,.slice la ln lc]) p:=⟨ea,en,ec,va,vn,vc,ra,rn,rc,la,ln,lc,rfl,hb⟩
 have h1:=hb.1.1
 have z1:=hd.1
 have z2:=hd.2.1
 rw[h1.len] at z1
 clear hb
 have C:=(Blk.new w #[.int .i64 p.size,.int .i64 p.next,.slice ea en ec,.slice va vn vc,.slice ra rn rc,.slice la ln lc] 28)
 have hh:Below w.heap.size w (w.alloc (.cells #[.int .i64 p.size,.int .i64 p.next,.slice ea en ec,.slice va vn vc,.slice ra rn rc,.slice la ln lc] 28)):=by go_grown
 have hR:Hid (Cj p vol file fr tz=(match BU p vol file with
  |none=>(⟨#[]⟩,false)
  |some ps=>if 0<=fr∧fr<=Ae ps∧fr<=tz∧tz<=Ae ps then (((Ai ps p.ex).getD ⟨#[]⟩).extract fr.toNat tz.toNat,true) else (⟨#[]⟩,false))):=rfl
 generalize Cj p vol file fr tz=R at *
 go_enter func12,ntmps12
 go_wp2_with fail
 generalize w.alloc (.cells #[.int .i64 p.size,.int .i64 p.next,.slice ea en ec,.slice va vn vc,.slice ra rn rc,.slice la ln lc] 28)=W0 at *
 refine (CJ B _ p vol file _ (h.below hh) hd hvol).mono ?_
 rintro e w1 ⟨ha,hc⟩
 have C1:=C.below hc
 replace hc:=Aa hh hc
 clear C hh
 cases hf:BU p vol file with
 |none=>
  rw[hf] at ha hR
  replace ha:e=.returned (.tuple #[.slice none 0 0,.bool false]):=ha
  replace hR:Hid (R=(⟨#[]⟩,false)):=hR
  subst ha
  clear hf
  go_wp2
  go_returns
  exact⟨by rw[hR.out];rfl,hc⟩
 |some ps=>
  rw[hf] at ha hR
  obtain⟨hl,hn⟩:=EX hf
  obtain⟨ho,hk⟩:=bb_ hl hn
  obtain⟨s,hs⟩:=Option.isSome_iff_exists.1 hk
  replace hR:Hid (R=if 0<=fr∧fr<=Ae ps∧fr<=tz∧tz<=Ae ps then (s.extract fr.toNat tz.toNat,true) else (⟨#[]⟩,false)):=by show _=_;rw[hR.out];dsimp only;rw[hs];rfl
  obtain⟨pa,pn,pc,rfl,hj,hH,hm⟩:=ha
  rw[hj.len] at hm
  clear hf hl hn hk
  go_wp2_with fail
  refine (Fc pa pn pc ps fr tz _ hj hm).mono ?_
  rintro e w2 ⟨ha,he⟩
  have C2:=C1.below he
  replace he:=Aa hc he
  clear C1 hc
  by_cases hr:0<=fr∧fr<=Ae ps∧fr<=tz∧tz<=Ae ps
  ·rw[if_pos hr] at hR
   rw[EO ho hr.1 hr.2.2.1 hr.2.2.2] at ha
   obtain⟨a3,n3,cap3,rfl,R3⟩:=ha
   have hq:=BW hs hr.1 hr.2.2.1 hr.2.2.2
   have hp:n3<=4194304:=by
    rw[<-R3.sl.len]
    have:=(ae_ (eJ_ ho fr tz)).1
    omega
   have d2:=C2.cell 2
   simp only[Yp,Yo,Yt] at d2
   go_wp2_with fail
   refine (fO_ a3 n3 cap3 _ ea en ec p.ex _ R3.sl (h1.below he) z2 hp z1).mono ?_
   rintro e w3 ⟨ha,hg⟩
   rw[hq] at ha
   replace ha:e=.returned (.tuple #[.string (s.extract fr.toNat tz.toNat),.bool true]):=ha
   subst ha
   replace hg:=Aa he hg
   go_wp2
   go_returns
   exact⟨by rw[hR.out];rfl,hg⟩
  ·rw[if_neg hr] at hR
   have ht:AZ ps fr tz=none:=by unfold AZ;rw[if_neg (fun h=>hr h.2)]
   rw[ht] at ha
   replace ha:e=.returned (.tuple #[.slice none 0 0,.bool false]):=ha
   subst ha
   go_wp2
   go_returns
   exact⟨by rw[hR.out];rfl,he⟩
theorem Hp (x:ByteArray):[Value.string x].length=1:=rfl
theorem Hq:∀ (l:List ByteArray),∀ u∈l.flatMap scs,u.oneCell'=true:=by
 intro l u hu
 obtain⟨x,_,hx⟩:=ZL.1 hu
 simp at hx
 subst hx;rfl
theorem Hs (w:World)(x:ByteArray)(t:TypeId)(b:Nat)(hb:b=w.heap.size):AE scs 1 (w.alloc (.cells #[.string x] t)) (some ⟨b,0,none⟩) 1 [x]:=by
 subst hb
 refine ⟨rfl,fun i y hy=>⟨w.heap.size,0,rfl,fun j v hv=>?_⟩⟩
 obtain rfl:i=0:=by have:=(Zb.1 hy).1;simp at this;exact this
 simp at hy
 subst hy
 obtain rfl:j=0:=by have:=(Zb.1 hv).1;simp at this;exact this
 simp at hv
 subst hv
 simp
theorem If:(prog.info? 9).map (fun i=>(i.zero,i.size,i.bytes))=some (some (.string .empty),1,16):=by kernel_rfl
theorem FO {l:List It}{i:Nat}{x:It}(h:l[i]?=some x):(l.take (i+1)).map (·.nm)=(l.take i).map (·.nm)++[x.nm]:=by
 rw[bx_ h,List.map_append];rfl
theorem G1 {p:Po}(h:Aj p=true){i:Nat}{x:Vo}(hx:p.vs[i]?=some x):x.its.length<=5:=by
 have:=(g2_ (bL_ h).1 (bL_ h).2.1).2 x (Zc hx)
 exact this.1
theorem EK (B:Nat)(v:Value)(p:Po)(vol:ByteArray)(w:World)(h:AF B w v p)(hd:AB p)(hvol:vol.size<=1048576) :
  Calls prog 13 #[v,.string vol] w fun e w'=>(∃ a n cap,e=.returned (.tuple #[.slice a n cap,.bool (Cp p vol).isSome])∧n<=5∧Ad scs 1 9 w' w.heap.size a n cap ((Cp p vol).getD []))∧Below w.heap.size w w':=by
 obtain⟨ea,en,ec,va,vn,vc,ra,rn,rc,la,ln,lc,rfl⟩:=h.cells
 obtain⟨i0,hp,ht,hu,hv⟩:=info_parts If
 have C:=(Blk.new w #[.int .i64 p.size,.int .i64 p.next,.slice ea en ec,.slice va vn vc,.slice ra rn rc,.slice la ln lc] 28)
 have he:Below w.heap.size w (w.alloc (.cells #[.int .i64 p.size,.int .i64 p.next,.slice ea en ec,.slice va vn vc,.slice ra rn rc,.slice la ln lc] 28)):=by go_grown
 have hR:Hid (Cp p vol=if Aj p=true then (volI p.vs vol).bind fun i=>p.vs[i]?.map fun v=>v.its.map (·.nm) else none):=rfl
 generalize Cp p vol=R at *
 go_enter func13,ntmps13
 go_wp2_with fail
 generalize w.alloc (.cells #[.int .i64 p.size,.int .i64 p.next,.slice ea en ec,.slice va vn vc,.slice ra rn rc,.slice la ln lc] 28)=W0 at *
 refine (Cs B _ p vol _ (h.below he) hd hvol).mono ?_
 rintro e w1 ⟨hg,hb⟩
 replace hb:=Aa he hb
 clear C he
 rcases hg with⟨rfl,ha⟩ | ⟨i,x,b,o,rfl,hf,hj,hx,hV⟩
 ·have hl:R=none:=by
   rw[hR.out]
   rcases ha with ha | ha
   ·rw[ha];rfl
   ·split
    ·rw[ha];rfl
    ·rfl
  subst hl
  clear ha hR
  go_wp2
  go_returns
  exact⟨⟨none,0,0,rfl,by omega,aB_⟩,hb⟩
 ·have hm:R=some (x.its.map (·.nm)):=by
   rw[hR.out,if_pos hf,hj,YO,hx];rfl
  have h5:=G1 hf hx
  subst hm
  clear hf hj hx hR
  obtain⟨_,_,qa,qn,qc,e3,hP,hH⟩:=hV
  have hc:Hid (x.its.length=qn):=hP.len
  rw[hc.out] at h5
  have hr:=hb.size
  go_wp2_with fail
  go_loopw [7,20] (fun out ix wr=>∃ (k:Nat) (a3:Option Addr) (n3 cap3:Nat),k<=qn∧ix=.int .i64 k∧out=.slice a3 n3 cap3∧n3=k∧Ad scs 1 9 wr w1.heap.size a3 n3 cap3 ((x.its.take k).map (·.nm))∧w1.heap.size<=wr.heap.size∧Below w1.heap.size w1 wr) (fun _ ix _=>qn-(intOf ix).toNat)
  case atStart=>exact⟨0,none,0,0,Zg _,rfl,rfl,rfl,aB_,Zd _,Yg _ _⟩
  case round=>
   obtain⟨k,a3,n3,cap3,hk,rfl,rfl,rfl,R3,hA,hB⟩:=hrel
   by_cases hlt:n3<qn
   ·obtain⟨ib,io,y,pa,pn,pc,rfl,hy,g0,g1,_,_,_,_⟩:=bO_ (hP.below hB) hlt
    have hq:=FO hy
    have hw:(n3:Int)<qn:=by omega
    have hz:(0:Int)<=n3:=by omega
    clear hy
    go_wp2_with (at_builtin;refine ag_ rfl (fun K hK=>ay_ _ _ 39 rfl w1.heap.size 9 i0 (.string .empty) 16 underlying39 hp ht hu hv rfl (by decide) Hp Hq a3 n3 cap3 _ rfl ((R3.alloc _).alloc _) _ 1 1 [y.nm] rfl (Hs _ y.nm _ _ (by simp)) (fun ad h=>(by cases h;rfl)) (fun h=>(by cases h)) (n3+1) rfl (by unfold maxLen;omega) (by omega) (by simp;omega) (fun a4 cap4 w4 R4 ho=>hK _ _ ?_)))
    rw[<-hq] at R4
    have hh:Below w1.heap.size w1 w4:=Yi (by go_grown) ho (by simp;omega) (aG_ fun ad hn=>by have:=(R3.block ad hn).1;omega)
    have hs:w1.heap.size<=w4.heap.size:=hh.size
    go_roundw
    case rel=>exact⟨n3+1,a4,n3+1,cap4,by omega,by go_num,rfl,rfl,R4,hs,hh⟩
    case measure=>simp[intOf];omega
   ·obtain rfl:n3=qn:=by omega
    rw[Zk (Zm hc.out)] at R3
    go_wp2
    go_returns
    exact⟨⟨a3,n3,cap3,rfl,h5,R3.mono hr⟩,Aa hb hB⟩
end
end Go.Proofs.YtkodenjhajafpaaGreatDoor
