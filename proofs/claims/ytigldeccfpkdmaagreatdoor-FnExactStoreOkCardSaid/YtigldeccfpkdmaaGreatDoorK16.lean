/- A line adds one row at most, of texts that are pieces of it; a pool in the making is a pool. itemsOk and volsOk of the program. volsOk of the program. A contract of the library, laid at this program. A map that the call itself has made, added to at a key by '+=' or '++': the entry, and the store into it, in whatever order with the look-up. The tally: a map from owners to counts. The tally: what it holds; counts added to it. -/
import Derived.Test.YtigldeccfpkdmaaGreatDoorK12
import Derived.Test.YtigldeccfpkdmaaGreatDoorK15
import Derived.Test.YtigldeccfpkdmaaGreatDoorProg
import Derived.Test.YtigldeccfpkdmaaGreatDoorK13
import Derived.Test.YtigldeccfpkdmaaGreatDoorK14
import Derived.Shelf.SlSortCmp.NoneTotal
import Derived.Maps.RangeWalk
import Derived.Maps.Views
import Derived.WideKeyEntry
import Derived.DeepKeys4
import Derived.Test.YtigldeccfpkdmaaGreatDoorK04
import Derived.Test.YtigldeccfpkdmaaGreatDoorK00
import Derived.Test.YtigldeccfpkdmaaGreatDoorK07
import Derived.Test.YtigldeccfpkdmaaGreatDoorK05
namespace Go.Proofs.YtigldeccfpkdmaaGreatDoor
open Go Go.RowKit Go.BigFrame
set_option maxHeartbeats 20000000
set_option maxRecDepth 100000
theorem b9_ {α:Type} {f:α->α}:∀ {l:List α} {y:α},y∈modL f l->y∈l∨∃ x∈l,y=f x
 |[],y,h=>by simp [modL] at h
 |[a],y,h=>by
  simp [modL] at h
  exact .inr ⟨a,by simp,h⟩
 |a::b::l,y,h=>by
  rw [modL] at h
  rcases List.mem_cons.1 h with rfl | h
  ·exact .inl (by simp)
  ·rcases b9_ (l:=b::l) h with h | ⟨x,hx,e⟩
   ·exact .inl (List.mem_cons_of_mem _ h)
   ·exact .inr ⟨x,List.mem_cons_of_mem _ hx,e⟩
theorem d6_ {α:Type} (f:α->α):∀ (l:List α),(modL f l).length=l.length
 |[]=>rfl
 |[a]=>rfl
 |a::b::l=>by rw [modL];simp [d6_ f (b::l)]
/-- Texts of at most S bytes. -/
structure DimS (S:Nat) (p:Po):Prop where
 ex:∀ e∈p.ex,e.d.size<=S
 vs:∀ v∈p.vs,v.nm.size<=S∧∀ x∈v.its,x.nm.size<=S
 rf:∀ c∈p.rf,c.o.f.size<=S
 lt:∀ c∈p.lt,c.o.f.size<=S
theorem bD_ (l:By):(bA l).size=l.length:=by rw [Lib.size_eq,af_]
theorem ns_ (l:By) (i:Nat):(wordQ (wdsA l) i).length<=l.length:=by
 unfold wordQ
 cases h:(wdsA l)[i]? with
 |none=>simp
 |some x=>exact bW_ x (List.mem_of_getElem? h)
theorem lt_ (l:By):(behQ l).length<=l.length:=by
 have:=jd_ (bA l)
 rw [bD_,af_,bD_] at this
 exact this
theorem DimM.line {K:Nat} {p:Po} (h:DimM K p) (l:By):DimM (K+1) (lineF p l):=by
 have h0:DimM (K+1) p:=⟨Nat.le_succ_of_le h.ex,Nat.le_succ_of_le h.vs,fun v hv=>⟨Nat.le_succ_of_le (h.its v hv).1,fun x hx=>Nat.le_succ_of_le ((h.its v hv).2 x hx)⟩,Nat.le_succ_of_le h.rf,Nat.le_succ_of_le h.lt⟩
 unfold lineF lineG
 split
 ·exact ⟨h0.ex,h0.vs,h0.its,h0.rf,h0.lt⟩
 split
 ·exact ⟨by simpa using h.ex,h0.vs,h0.its,h0.rf,h0.lt⟩
 split
 ·refine ⟨h0.ex,by simpa using h.vs,fun v hv=>?_,h0.rf,h0.lt⟩
  rcases List.mem_append.1 hv with hv | hv
  ·exact h0.its v hv
  ·rw [List.mem_singleton.1 hv,volQ]
   exact ⟨by simp,fun x hx=>by simp at hx⟩
 split
 ·refine ⟨h0.ex,by simpa [d6_] using h0.vs,fun v hv=>?_,h0.rf,h0.lt⟩
  rcases b9_ hv with hv | ⟨u,hu,rfl⟩
  ·exact h0.its v hv
  ·refine ⟨by simpa using (h.its u hu).1,fun x hx=>?_⟩
   rcases List.mem_append.1 hx with hx | hx
   ·exact (h0.its u hu).2 x hx
   ·rw [List.mem_singleton.1 hx];simp
 split
 ·refine ⟨h0.ex,by simpa [d6_] using h0.vs,fun v hv=>?_,h0.rf,h0.lt⟩
  rcases b9_ hv with hv | ⟨u,hu,rfl⟩
  ·exact h0.its v hv
  ·refine ⟨by simpa [d6_] using (h0.its u hu).1,fun x hx=>?_⟩
   rcases b9_ hx with hx | ⟨y,hy,rfl⟩
   ·exact (h0.its u hu).2 x hx
   ·simpa using (h.its u hu).2 y hy
 split
 ·exact ⟨h0.ex,h0.vs,h0.its,by simpa using h.rf,h0.lt⟩
 split
 ·exact ⟨h0.ex,h0.vs,h0.its,h0.rf,by simpa using h.lt⟩
 exact h0
theorem DimS.line {S:Nat} {p:Po} (h:DimS S p) (l:By) (hl:l.length<=S):DimS S (lineF p l):=by
 have hw:∀ i,(bA (wordQ (wdsA l) i)).size<=S:=fun i=>by rw [bD_];exact Nat.le_trans (ns_ l i) hl
 have hb:(bA (behQ (behQ l))).size<=S:=by rw [bD_];exact Nat.le_trans (lt_ _) (Nat.le_trans (lt_ l) hl)
 unfold lineF lineG
 split
 ·exact ⟨h.ex,h.vs,h.rf,h.lt⟩
 split
 ·refine ⟨fun e he=>?_,h.vs,h.rf,h.lt⟩
  rcases List.mem_append.1 he with he | he
  ·exact h.ex e he
  ·rw [List.mem_singleton.1 he];exact hb
 split
 ·refine ⟨h.ex,fun v hv=>?_,h.rf,h.lt⟩
  rcases List.mem_append.1 hv with hv | hv
  ·exact h.vs v hv
  ·rw [List.mem_singleton.1 hv,volQ]
   exact ⟨hw 2,fun x hx=>by simp at hx⟩
 split
 ·refine ⟨h.ex,fun v hv=>?_,h.rf,h.lt⟩
  rcases b9_ hv with hv | ⟨u,hu,rfl⟩
  ·exact h.vs v hv
  ·refine ⟨(h.vs u hu).1,fun x hx=>?_⟩
   rcases List.mem_append.1 hx with hx | hx
   ·exact (h.vs u hu).2 x hx
   ·rw [List.mem_singleton.1 hx];exact hw 1
 split
 ·refine ⟨h.ex,fun v hv=>?_,h.rf,h.lt⟩
  rcases b9_ hv with hv | ⟨u,hu,rfl⟩
  ·exact h.vs v hv
  ·refine ⟨(h.vs u hu).1,fun x hx=>?_⟩
   rcases b9_ hx with hx | ⟨y,hy,rfl⟩
   ·exact (h.vs u hu).2 x hx
   ·exact (h.vs u hu).2 y hy
 split
 ·refine ⟨h.ex,h.vs,fun c hc=>?_,h.lt⟩
  rcases List.mem_append.1 hc with hc | hc
  ·exact h.rf c hc
  ·rw [List.mem_singleton.1 hc,ctQ];exact hw 3
 split
 ·refine ⟨h.ex,h.vs,h.rf,fun c hc=>?_⟩
  rcases List.mem_append.1 hc with hc | hc
  ·exact h.lt c hc
  ·rw [List.mem_singleton.1 hc,ctQ];exact hw 3
 exact h
theorem hi_:DimM 0 emptyP∧DimS 60000 emptyP:=
 ⟨⟨by simp [emptyP],by simp [emptyP],fun v hv=>by simp [emptyP] at hv,by simp [emptyP],by simp [emptyP]⟩,⟨fun v hv=>by simp [emptyP] at hv,fun v hv=>by simp [emptyP] at hv,fun v hv=>by simp [emptyP] at hv,fun v hv=>by simp [emptyP] at hv⟩⟩
theorem DimM.dimP {K:Nat} {p:Po} (h:DimM K p) (hK:K<=60000) (hs:DimS 60000 p):DimP p:=
 ⟨by have:=h.ex;omega,fun e he=>by have:=hs.ex e he;omega,by have:=h.vs;omega,
  fun v hv=>⟨by have:=(hs.vs v hv).1;omega,by have:=(h.its v hv).1;omega,fun x hx=>⟨by have:=(hs.vs v hv).2 x hx;omega,by have:=(h.its v hv).2 x hx;omega⟩⟩,
  by have:=h.rf;omega,fun c hc=>by have:=hs.rf c hc;omega,by have:=h.lt;omega,fun c hc=>by have:=hs.lt c hc;omega⟩
theorem ResAt.hd {α:Type} {cs:α->List Value} {sz:Nat} {t:TypeId} {w:World} {B n cap:Nat} {a:Option Addr} {l:List α} (h:ResAt cs sz t w B a n cap l):Hd B a n cap:=by
 rcases h.own with ⟨rfl,rfl,rfl⟩ | ⟨b,rfl,hB,h1,h2,_⟩
 ·exact ⟨by omega,by omega,fun _=>⟨fun _=>rfl,fun ad e=>by cases e⟩⟩
 ·exact ⟨h1,by unfold maxLen at h2;omega,fun _=>⟨(fun e=>by cases e),fun ad e=>by cases e;rfl⟩⟩
theorem ResAt.sf {α:Type} {cs:α->List Value} {sz:Nat} {t:TypeId} {w:World} {B n cap:Nat} {a:Option Addr} {l:List α} (h:ResAt cs sz t w B a n cap l):Sf B w a:=by
 rcases h.own with ⟨rfl,rfl,rfl⟩ | ⟨b,rfl,hB,h1,h2,c,hc,_⟩
 ·exact fun _ ad e=>by cases e
 ·exact dM_ hc hB
theorem Al2.itsAt {w:World} {B n cap:Nat} {a:Option Addr} {l:List IR} {m:List It} (h:ResAt IR.cs 2 tI w B a n cap l) (hA:Al2 (ItR w B) l m):ItsAt B w a n m:=by
 refine ⟨by rw [<-hA.len,h.sl.len],fun i x hx=>?_⟩
 obtain ⟨r,hr,hq⟩:=hA.at hx
 obtain ⟨b,o,ha,hc⟩:=h.sl.cell i r hr
 have h0:=hc 0 _ rfl
 have h1:=hc 1 _ rfl
 have hs:=h.sf
 refine ⟨b,o,r.a,r.n,r.c,ha,by rw [<-hq.nm];simpa using h0,by simpa using h1,hq.ps.sl,hq.ps.hd,?_,fun ad e=>(hq.ps.block ad e).1,hq.ps.sf,hs⟩
 exact (h.block _ ha).1
theorem PoolM.at {w:World} {B:Nat} {v:Value} {p:Po} (h:PoolM B w v p):PoolAt B w v p:=by
 obtain ⟨ea,en,ec,va,vn,vc,ra,rn,rc,la,ln,lc,vr,e,h1,h2,h3,h4,_,h6,_,_⟩:=h.out
 refine ⟨ea,en,ec,va,vn,vc,ra,rn,rc,la,ln,lc,e,⟨h1.sl,h1.hd,h1.sf⟩,⟨⟨by rw [<-h6.len,h2.sl.len],fun i x hx=>?_⟩,h2.hd⟩,⟨h3.sl,h3.hd,h3.sf⟩,h4.sl,h4.hd,h4.sf⟩
 obtain ⟨r,hr,hq⟩:=h6.at hx
 obtain ⟨b,o,ha,hc⟩:=h2.sl.cell i r hr
 have c0:=hc 0 _ rfl
 have c1:=hc 1 _ rfl
 have c2:=hc 2 _ rfl
 have c3:=hc 3 _ rfl
 exact ⟨b,o,r.a,r.n,r.c,ha,by rw [<-hq.id];simpa using c0,by rw [<-hq.nm];simpa using c1,by rw [<-hq.fx];simpa using c2,by simpa using c3,hq.its.itsAt hq.rows,hq.rows.hd,(h2.block _ ha).1,h2.sf⟩
end Go.Proofs.YtigldeccfpkdmaaGreatDoor
namespace Go.Proofs.YtigldeccfpkdmaaGreatDoor
open Go.RowKit Go.BigFrame
set_option maxHeartbeats 20000000
set_option maxRecDepth 100000
theorem h1_ (B:Nat) (its:List It) (pa:Option Addr) (pn pc:Nat) (ea:Option Addr) (en ec:Nat) (e:List Ex) (w:World) (h:ItsAt B w pa pn its) (he:ExsAt w ea en e) (hstr:Strs e) (hen:en<=4194304) (hpn:pn<=4194304) (hI:StrI its) :
  Calls Tryz.prog 165 #[.slice pa pn pc,.slice ea en ec] w fun x w'=>x=.returned (.bool (itemsB its e))∧Below w.heap.size w w':=by
 have hlen:Hid (its.length=pn):=h.len
 have hR:Hid (itemsB its e=(decide (its.length<=5)&&igo e none its)):=rfl
 generalize itemsB its e=R at *
 by_cases h5:pn<=5
 ·rw [hlen.out,decide_eq_true h5,Bool.true_and] at hR
  go_enter Tryz.func165,Tryz.ntmps165
  go_wp2_with fail
  go_loopw [14] (fun ix wr=>∃ (k:Nat),k<=pn∧ix=.int .i64 k∧Hid (R=igo e (prevI its k) (its.drop k))∧Below w.heap.size w wr) (fun ix _=>pn-(intOf ix).toNat)
  case atStart=>exact ⟨0,Nat.zero_le _,rfl,hR,Below.refl _ _⟩
  case round=>
   obtain ⟨k,hk,rfl,hv,hB⟩:=hrel
   by_cases hlt:k<pn
   ·obtain ⟨b,o,x,qa,qn,qc,rfl,hx,c0,c1,hP,_,_,_⟩:=bt_ (h.below hB) hlt
    have hst:Hid (R=(nameB x.nm&&(match prevI its k with | none=>true | some p=>bl p.nm.toList x.nm.toList)&&(contentO x.ps e).isSome&&igo e (prevI its (k+1)) (its.drop (k+1)))):=by
     show _=_
     rw [hv.out,aj_ hx,fP_,hx]
     rfl
    obtain ⟨m1,m2⟩:=hI x (List.mem_of_getElem? hx)
    have hqn:x.ps.length=qn:=hP.len
    rw [hqn] at m2
    have hk1:(k:Int)<pn:=by omega
    have hk2:(0:Int)<=k:=by omega
    have hprev:0<k->∃ y,prevI its k=some y∧wr.cell? ⟨b,o+(k-1)*2,none⟩=some (.string y.nm):=fun h0=>by
     obtain ⟨b',o',y,_,_,_,hbo,hy,d0,_⟩:=bt_ (h.below hB) (show k-1<pn by omega)
     obtain ⟨rfl,rfl⟩:b=b'∧o=o':=by simpa using hbo
     exact ⟨y,by unfold prevI;rw [if_neg (by omega)];exact hy,d0⟩
    have hend:∀ u:World,Below wr.heap.size wr u->Below w.heap.size w u:=fun u hu=>chain hB hu
    clear hx hv hqn
    have hname:=fun u:World=>ce_ x.nm u m1
    have hW0:Below wr.heap.size wr (wr.alloc (.cells #[.string x.nm,.slice qa qn qc] 139)):=by go_grown
    have X:=Blk.new wr #[.string x.nm,.slice qa qn qc] 139
    have X1:(wr.alloc (.cells #[.string x.nm,.slice qa qn qc] 139)).cell? ⟨wr.heap.size,1,none⟩=some (.slice qa qn qc):=X.cell 1
    have x0:∀ g:Grw (wr.alloc (.cells #[.string x.nm,.slice qa qn qc] 139)),g.w.cell? ⟨wr.heap.size,0,none⟩=some (.string x.nm):=gcell (X.cell 0)
    have hne:=aq_ (wr.alloc (.cells #[.string x.nm,.slice qa qn qc] 139))
    cases hnx:nameB x.nm
    ·rw [hnx] at hst
     go_wp2_with fail
     refine aa_ (by kernel_rfl) (by kernel_rfl) ?_
     repeat (go_big_quiet_step (first | (go_at_call 164;have qq:=hname;rw [hnx] at qq;exact ah_ (qq _))))
     refine wpQuiet_nil ?_
     intro w2 hx
     have hB2:=chain hW0 (ae_ hx)
     clear hx
     go_wp2
     go_returns
     exact ⟨by rw [hst.out];simp,hend _ hB2⟩
    ·rw [hnx,Bool.true_and] at hst
     have hfin:∀ w2:World,Below (wr.alloc (.cells #[.string x.nm,.slice qa qn qc] 139)).heap.size (wr.alloc (.cells #[.string x.nm,.slice qa qn qc] 139)) w2->Below wr.heap.size wr w2∧w2.cell? ⟨wr.heap.size,1,none⟩=some (.slice qa qn qc):=fun w2 h2=>⟨chain hW0 h2,bcell h2 X1⟩
     by_cases hk0:0<k
     ·obtain ⟨y,hy,d0⟩:=hprev hk0
      have y0:=gcell (bcell hW0 d0)
      rw [hy] at hst
      have hk0':decide ((0:Int)<(k:Int))=true:=decide_eq_true (by omega)
      have hk9:((k:Int)-1).toNat=k-1:=by omega
      cases hbl:bl y.nm.toList x.nm.toList
      ·simp only [hbl,Bool.false_and] at hst
       go_wp2_with fail
       refine aa_ (by kernel_rfl) (by kernel_rfl) ?_
       repeat (go_big_quiet_step (first | (go_at_call 164;have qq:=hname;rw [hnx] at qq;exact ah_ (qq _))))
       refine wpQuiet_nil ?_
       intro w2 hx
       obtain ⟨hB2,x1'⟩:=hfin _ (ae_ hx)
       clear hx
       go_wp2
       go_returns
       exact ⟨by rw [hst.out];rfl,hend _ hB2⟩
      ·simp only [hbl,Bool.true_and] at hst
       go_wp2_with fail
       refine aa_ (by kernel_rfl) (by kernel_rfl) ?_
       repeat (go_big_quiet_step (first | (go_at_call 164;have qq:=hname;rw [hnx] at qq;exact ah_ (qq _))))
       refine wpQuiet_nil ?_
       intro w2 hx
       obtain ⟨hB2,x1'⟩:=hfin _ (ae_ hx)
       clear hx
       go_wp2_with fail
       refine (d5_ qa qn qc x.ps ea en ec e _ (hP.below hB2) (he.below (hend _ hB2)) hstr m2 hen).mono ?_
       rintro e1 w3 ⟨hret,hB3⟩
       replace hB3:=chain hB2 hB3
       cases hcg:contentO x.ps e with
       |none=>
        rw [hcg] at hret hst
        replace hret:e1=.returned (.tuple #[.string ⟨#[]⟩,.bool false]):=hret
        subst hret
        clear hcg
        go_wp2
        go_returns
        exact ⟨by rw [hst.out];rfl,hend _ hB3⟩
       |some s=>
        rw [hcg] at hret hst
        replace hret:e1=.returned (.tuple #[.string s,.bool true]):=hret
        subst hret
        clear hcg
        go_wp2
        go_roundw
        case rel=>exact ⟨k+1,by omega,by go_num,by show _=_;rw [hst.out];rfl,hend _ hB3⟩
        case measure=>simp [intOf];omega
     ·have hpv:prevI its k=none:=by unfold prevI;rw [if_pos (by omega)]
      have hk0':decide ((0:Int)<(k:Int))=false:=decide_eq_false (by omega)
      rw [hpv] at hst
      simp only [Bool.true_and] at hst
      go_wp2_with fail
      refine aa_ (by kernel_rfl) (by kernel_rfl) ?_
      repeat (go_big_quiet_step (first | (go_at_call 164;have qq:=hname;rw [hnx] at qq;exact ah_ (qq _))))
      refine wpQuiet_nil ?_
      intro w2 hx
      obtain ⟨hB2,x1'⟩:=hfin _ (ae_ hx)
      clear hx
      go_wp2_with fail
      refine (d5_ qa qn qc x.ps ea en ec e _ (hP.below hB2) (he.below (hend _ hB2)) hstr m2 hen).mono ?_
      rintro e1 w3 ⟨hret,hB3⟩
      replace hB3:=chain hB2 hB3
      cases hcg:contentO x.ps e with
      |none=>
       rw [hcg] at hret hst
       replace hret:e1=.returned (.tuple #[.string ⟨#[]⟩,.bool false]):=hret
       subst hret
       clear hcg
       go_wp2
       go_returns
       exact ⟨by rw [hst.out];rfl,hend _ hB3⟩
      |some s=>
       rw [hcg] at hret hst
       replace hret:e1=.returned (.tuple #[.string s,.bool true]):=hret
       subst hret
       clear hcg
       go_wp2
       go_roundw
       case rel=>exact ⟨k+1,by omega,by go_num,by show _=_;rw [hst.out];rfl,hend _ hB3⟩
       case measure=>simp [intOf];omega
   ·obtain rfl:k=pn:=by omega
    go_wp2
    go_returns
    exact ⟨by rw [hv.out,List.drop_of_length_le (Nat.le_of_eq hlen.out)];rfl,hB⟩
 ·rw [hlen.out,decide_eq_false h5,Bool.false_and] at hR
  go_enter Tryz.func165,Tryz.ntmps165
  go_wp2
  go_returns
  exact ⟨by rw [hR.out];rfl,Below.refl _ _⟩
theorem jo_ (B:Nat) (size next:Int) (ea:Option Addr) (en ec:Nat) (va:Option Addr) (vn vc:Nat) (ra:Option Addr) (rn rc:Nat) (la:Option Addr) (ln lc:Nat) (ex:List Ex) (vs:List Vo) (w:World) (h1:ExsAt w ea en ex) (h2:VsAt B w va vn vs) (z1:en<=4194304) (z2:Strs ex) (z3:vn<=4194304) (z4:StrV vs) :
  Calls Tryz.prog 100 #[.agg #[.int .i64 size,.int .i64 next,.slice ea en ec,.slice va vn vc,.slice ra rn rc,.slice la ln lc]] w fun x w'=>x=.returned (.bool (volsB next vs ex))∧Below w.heap.size w w':=by
 have hlen:Hid (vs.length=vn):=h2.len
 have hR:Hid (volsB next vs ex=(decide (vs.length<=6)&&vgo next ex 0 vs)):=rfl
 generalize volsB next vs ex=R at *
 by_cases h6:vn<=6
 ·rw [hlen.out,decide_eq_true h6,Bool.true_and] at hR
  go_enter Tryz.func100,Tryz.ntmps100
  have C:=Blk.new w #[.int .i64 size,.int .i64 next,.slice ea en ec,.slice va vn vc,.slice ra rn rc,.slice la ln lc] 26
  go_wp2_with fail
  have hB1:Below w.heap.size w (w.alloc (.cells #[.int .i64 size,.int .i64 next,.slice ea en ec,.slice va vn vc,.slice ra rn rc,.slice la ln lc] 26)):=by go_grown
  generalize w.alloc (.cells #[.int .i64 size,.int .i64 next,.slice ea en ec,.slice va vn vc,.slice ra rn rc,.slice la ln lc] 26)=W0 at *
  go_loopw [3,13] (fun lx ix wr=>∃ (k:Nat) (last:Int),k<=vn∧ix=.int .i64 k∧lx=.int .i64 last∧Hid (R=vgo next ex last (vs.drop k))∧Blk wr w.heap.size #[.int .i64 size,.int .i64 next,.slice ea en ec,.slice va vn vc,.slice ra rn rc,.slice la ln lc] 26∧Below w.heap.size w wr) (fun _ ix _=>vn-(intOf ix).toNat)
  case atStart=>exact ⟨0,0,Nat.zero_le _,rfl,rfl,hR,C,hB1⟩
  case round=>
   clear hR C hB1
   obtain ⟨k,last,hk,rfl,rfl,hI,C,hB⟩:=hrel
   have d1:=C.cell 1
   have d2:=C.cell 2
   simp only [lgA,lgB,lgC] at d1 d2
   by_cases hlt:k<vn
   ·obtain ⟨b,o,x,qa,qn,qc,rfl,hx,e0,e1,e2,e3,hP,_,_⟩:=cg_ (h2.below hB) hlt
    have hst:Hid (R=(decide (last<x.id)&&decide (x.id<next)&&nameB x.nm&&itemsB x.its ex&&vgo next ex x.id (vs.drop (k+1)))):=by
     show _=_
     rw [hI.out,aj_ hx];rfl
    obtain ⟨m1,m2,m3⟩:=z4 x (List.mem_of_getElem? hx)
    rw [hP.len] at m2
    have hk1:(k:Int)<vn:=by omega
    have hk2:(0:Int)<=k:=by omega
    clear hx hI
    have hW0:Below wr.heap.size wr (wr.alloc (.cells #[.int .i64 x.id,.string x.nm,.bool x.fx,.slice qa qn qc] 128)):=by go_grown
    have X:=Blk.new wr #[.int .i64 x.id,.string x.nm,.bool x.fx,.slice qa qn qc] 128
    have d1':=bcell hW0 d1
    have d2':=bcell hW0 d2
    clear d1 d2
    by_cases hid:last<x.id
    ·by_cases hnb:x.id<next
     ·rw [decide_eq_true hid,decide_eq_true hnb,Bool.true_and,Bool.true_and] at hst
      cases hnx:nameB x.nm
      ·rw [hnx] at hst
       go_wp2_with fail
       refine (ce_ x.nm _ m1).mono ?_
       rintro e w2 ⟨rfl,rfl⟩
       rw [hnx]
       go_wp2
       go_returns
       exact ⟨by rw [hst.out];rfl,chain hB hW0⟩
      ·rw [hnx,Bool.true_and] at hst
       go_wp2_with fail
       refine (ce_ x.nm _ m1).mono ?_
       rintro e w2 ⟨rfl,rfl⟩
       rw [hnx]
       go_wp2_with fail
       refine (h1_ B x.its qa qn qc ea en ec ex _ (hP.below hW0) ((h1.below hB).below hW0) z2 z1 m2 m3).mono ?_
       rintro e w2 ⟨rfl,hB2⟩
       have X2:=(X.below hB2).cell 0
       simp only [List.getElem?_toArray,List.getElem?_cons_zero] at X2
       replace hB2:=chain hW0 hB2
       have C2:=C.below hB2
       replace hB2:=chain hB hB2
       cases hik:itemsB x.its ex
       ·rw [hik] at hst
        go_wp2
        go_returns
        exact ⟨by rw [hst.out];rfl,hB2⟩
       ·rw [hik,Bool.true_and] at hst
        go_wp2
        go_roundw
        case rel=>exact ⟨k+1,x.id,by omega,by go_num,rfl,hst,C2,hB2⟩
        case measure=>simp [intOf];omega
     ·rw [decide_eq_false hnb] at hst
      simp only [Bool.and_false,Bool.false_and] at hst
      go_wp2
      go_returns
      exact ⟨by rw [hst.out];rfl,chain hB hW0⟩
    ·rw [decide_eq_false hid] at hst
     simp only [Bool.false_and] at hst
     go_wp2
     go_returns
     exact ⟨by rw [hst.out];rfl,chain hB hW0⟩
   ·obtain rfl:k=vn:=by omega
    go_wp2
    go_returns
    exact ⟨by rw [hI.out,List.drop_of_length_le (Nat.le_of_eq hlen.out)];rfl,hB⟩
 ·rw [hlen.out,decide_eq_false h6,Bool.false_and] at hR
  go_enter Tryz.func100,Tryz.ntmps100
  go_wp2
  go_returns
  exact ⟨by rw [hR.out];rfl,by go_grown⟩
end Go.Proofs.YtigldeccfpkdmaaGreatDoor
namespace Go.Proofs.YtigldeccfpkdmaaGreatDoor
open Go.Shelf Go.RowKit Go.Lib Go.Sort
set_option maxHeartbeats 20000000
set_option maxRecDepth 100000
def hj_:Go.Shelf.Ren:=⟨fun | 6=>206 | 15=>237 | 14=>236 | 28=>269 | 29=>247 | 20=>261 | 21=>262 | 22=>263 | 23=>264 | 24=>265 | 25=>266 | 26=>267 | 27=>268 | 46=>278 | 47=>279 | 48=>280 | 49=>281 | 50=>282 | 57=>283 | n=>n,fun | 22=>24 | 24=>134 | 25=>263 | 3=>3 | 39=>172 | 0=>0 | 53=>98 | 55=>274 | 4=>4 | 46=>312 | 45=>311 | 50=>316 | 5=>5 | 9=>9 | 66=>330 | 70=>334 | 76=>338 | 77=>339 | n=>n,fun | n=>n⟩
theorem sortC:SlLaysF0.n6 Tryz.prog hj_ where
 mixed:=by kernel_rfl
 f6:=⟨Tryz.f206.name,by decide +kernel,Tryz.func206.trans (congrArg some (by kernel_rfl))⟩
 f14:=⟨Tryz.f236.name,by decide +kernel,Tryz.func236.trans (congrArg some (by kernel_rfl))⟩
 f15:=Tryz.func237.trans (congrArg some (by kernel_rfl))
 f20:=⟨Tryz.f261.name,by decide +kernel,Tryz.func261.trans (congrArg some (by kernel_rfl))⟩
 f21:=⟨Tryz.f262.name,by decide +kernel,Tryz.func262.trans (congrArg some (by kernel_rfl))⟩
 f22:=⟨Tryz.f263.name,by decide +kernel,Tryz.func263.trans (congrArg some (by kernel_rfl))⟩
 f23:=⟨Tryz.f264.name,by decide +kernel,Tryz.func264.trans (congrArg some (by kernel_rfl))⟩
 f24:=⟨Tryz.f265.name,by decide +kernel,Tryz.func265.trans (congrArg some (by kernel_rfl))⟩
 f25:=⟨Tryz.f266.name,by decide +kernel,Tryz.func266.trans (congrArg some (by kernel_rfl))⟩
 f26:=⟨Tryz.f267.name,by decide +kernel,Tryz.func267.trans (congrArg some (by kernel_rfl))⟩
 f27:=⟨Tryz.f268.name,by decide +kernel,Tryz.func268.trans (congrArg some (by kernel_rfl))⟩
 f28:=Tryz.func269.trans (congrArg some (by kernel_rfl))
 f29:=Tryz.func247.trans (congrArg some (by kernel_rfl))
 f46:=⟨Tryz.f278.name,by decide +kernel,Tryz.func278.trans (congrArg some (by kernel_rfl))⟩
 f47:=Tryz.func279.trans (congrArg some (by kernel_rfl))
 f48:=Tryz.func280.trans (congrArg some (by kernel_rfl))
 f49:=⟨Tryz.f281.name,by decide +kernel,Tryz.func281.trans (congrArg some (by kernel_rfl))⟩
 f50:=⟨Tryz.f282.name,by decide +kernel,Tryz.func282.trans (congrArg some (by kernel_rfl))⟩
 f57:=⟨Tryz.f283.name,by decide +kernel,Tryz.func283.trans (congrArg some (by kernel_rfl))⟩
 t0:=Tryz.underlying0
 a0:=Tryz.isAgg0
 z0:=Tryz.sizeOf0
 v0:=Tryz.zeroValue0
 t3:=Tryz.underlying3
 a3:=Tryz.isAgg3
 z3:=Tryz.sizeOf3
 v3:=Tryz.zeroValue3
 t4:=Tryz.underlying4
 a4:=Tryz.isAgg4
 z4:=Tryz.sizeOf4
 v4:=Tryz.zeroValue4
 t5:=Tryz.underlying5
 a5:=Tryz.isAgg5
 z5:=Tryz.sizeOf5
 v5:=Tryz.zeroValue5
 t9:=Tryz.underlying9
 a9:=Tryz.isAgg9
 z9:=Tryz.sizeOf9
 v9:=Tryz.zeroValue9
 t22:=Tryz.underlying24
 a22:=Tryz.isAgg24
 z22:=Tryz.sizeOf24
 v22:=Tryz.zeroValue24
 t25:=Tryz.underlying263
 a25:=Tryz.isAgg263
 z25:=Tryz.sizeOf263
 v25:=Tryz.zeroValue263
 t39:=Tryz.underlying172
 a39:=Tryz.isAgg172
 z39:=Tryz.sizeOf172
 v39:=Tryz.zeroValue172
 t45:=Tryz.underlying311
 a45:=Tryz.isAgg311
 z45:=Tryz.sizeOf311
 v45:=Tryz.zeroValue311
 t46:=Tryz.underlying312
 a46:=Tryz.isAgg312
 z46:=Tryz.sizeOf312
 v46:=Tryz.zeroValue312
 t50:=Tryz.underlying316
 a50:=Tryz.isAgg316
 z50:=Tryz.sizeOf316
 v50:=Tryz.zeroValue316
 t53:=Tryz.underlying98
 a53:=Tryz.isAgg98
 z53:=Tryz.sizeOf98
 v53:=Tryz.zeroValue98
 t55:=Tryz.underlying274
 a55:=Tryz.isAgg274
 z55:=Tryz.sizeOf274
 v55:=Tryz.zeroValue274
 t66:=Tryz.underlying330
 a66:=Tryz.isAgg330
 z66:=Tryz.sizeOf330
 v66:=Tryz.zeroValue330
 t70:=Tryz.underlying334
 a70:=Tryz.isAgg334
 z70:=Tryz.sizeOf334
 v70:=Tryz.zeroValue334
 t76:=Tryz.underlying338
 a76:=Tryz.isAgg338
 z76:=Tryz.sizeOf338
 v76:=Tryz.zeroValue338
 t77:=Tryz.underlying339
 a77:=Tryz.isAgg339
 z77:=Tryz.sizeOf339
 v77:=Tryz.zeroValue339
end Go.Proofs.YtigldeccfpkdmaaGreatDoor
namespace Go.Proofs.YtigldeccfpkdmaaGreatDoor
open Go.ChangeMaps Go.MapKept Go.WideElems
open Go.Maps (Keyed)
set_option maxHeartbeats 20000000
set_option maxRecDepth 100000
/-- The entry at a key, made where there is none: as if what is there had been stored there. -/
theorem h2_ {H:Type} {P:Program} {w:World} {t k e:TypeId} {R:Value->Option (DataW H×List MemPlace)} {b:Nat} {es:Array MapEntry} {clock:Nat} (K:WideMaps.KeyLaw P k) (ht:P.underlying t=some (.map k e)) {z:Value} (hz:∀ u:World,(zeroValue e).run P u=.ok z u) (hb:w.heap[b]?=some (.map es clock)) (F:Fit P k R es clock)
  {key:Value} {kl:Lit} (hkey:keyOf P k key=some kl) :
  ∃ (v0:Value) (st:Value) (w1:World),(Instr.mapEntry t (.map (some b)) key).run P w=.ok (.tuple #[v0,st]) w1∧(Instr.mapUpdate t (.map (some b)) key v0).run P w=.ok () w1∧(Instr.lookup t (.map (some b)) key false).run P w=.ok v0 w:=by
 rcases K.find w hkey es.toList F.keys with ⟨h1,h2⟩ | ⟨j,e0,h1,h2,h3⟩
 ·refine ⟨z,goInt clock,setBlock w b (.map (es.push ⟨key,z,clock⟩) (clock+1)),?_,?_,?_⟩
  ·simp [Instr.mapEntry,run_underlying ht,MapKept.run_getObj_map hb,K.check w false hkey,h1,hz,MapKept.run_setObj_map _ hb,Result.andThen,setBlock]
  ·simp [Instr.mapUpdate,run_underlying ht,MapKept.run_getObj_map hb,K.check w false hkey,h1,MapKept.run_setObj_map _ hb,Result.andThen,setBlock]
  ·simp [Instr.lookup,run_underlying ht,MapKept.run_getObj_map hb,K.check w _ hkey,h1,hz,Result.andThen]
 ·have hj:es[j]?=some e0:=by simpa using h2
  have hsame:es.modify j (fun e=>{e with key:=key})=es:=by
   apply Array.ext'
   rw [Array.toList_modify,modify_eq_set _ _ _ _ h2]
   have:({e0 with key:=key}:MapEntry)=e0:=by rw [<-h3]
   rw [this]
   exact set_self _ _ _ h2
  have hsame2:es.modify j (fun e'=>{e' with key:=key,val:=e0.val})=es:=by
   apply Array.ext'
   rw [Array.toList_modify,modify_eq_set _ _ _ _ h2]
   have:({e0 with key:=key,val:=e0.val}:MapEntry)=e0:=by rw [<-h3]
   rw [this]
   exact set_self _ _ _ h2
  refine ⟨e0.val,goInt e0.born,setBlock w b (.map es clock),?_,?_,?_⟩
  ·simp [Instr.mapEntry,run_underlying ht,MapKept.run_getObj_map hb,K.check w false hkey,h1,hj,h3,K.stays w hkey,hsame,MapKept.run_setObj_map _ hb,Result.andThen,setBlock]
  ·simp [Instr.mapUpdate,run_underlying ht,MapKept.run_getObj_map hb,K.check w false hkey,h1,hj,h3,K.stays w hkey,hsame2,MapKept.run_setObj_map _ hb,Result.andThen,setBlock]
  ·simp [Instr.lookup,run_underlying ht,MapKept.run_getObj_map hb,K.check w _ hkey,h1,Result.andThen]
theorem fi_ {α:Type} {P:Program} {m:Sem α} {w:World} {x y:α} {u v:World} (h:m.run P w=.ok x u) (h':m.run P w=.ok y v):x=y∧u=v:=by
 rw [h] at h'
 cases h'
 exact ⟨rfl,rfl⟩
theorem c5_ (w:World) (b:Nat) (x y:Obj):setBlock (setBlock w b x) b y=setBlock w b y:=by
 simp [setBlock]
/-- 'm[k] += x' at elements of an integer kind: what the look-up, the entry and the store come to. -/
theorem mr_ {H:Type} {P:Program} {w:World} {t k e:TypeId} {q:IntKind} {b n:Nat} {D:DataW H} (h:w.ownsMap P k (plainElem P e) b n D) (K:WideMaps.KeyLaw P k) (ht:P.underlying t=some (.map k e)) (he:P.underlying e=some (.int q)) (hz:∀ u:World,(zeroValue e).run P u=.ok (.int q 0) u) (hn:n+1<maxLen)
  {key:Value} {kl:Lit} (hkey:keyOf P k key=some kl) :
  ∃ (c:Int) (st:Nat) (w1:World),(Instr.lookup t (.map (some b)) key false).run P w=.ok (.int q c) w∧D.atKey kl (.lit (.int q 0))=.lit (.int q c)∧(Lit.int q c).wf=true∧
   (Instr.mapEntry t (.map (some b)) key).run P w=.ok (.tuple #[.int q c,.int .i64 st]) w1∧(Instr.lookup t (.map (some b)) key false).run P w1=.ok (.int q c) w1∧w.grownBy w1 (some b)∧w1.heap.size=w.heap.size∧
   ∀ x:Int,(Lit.int q x).wf=true->∃ w3,(Instr.entryStore t (.map (some b)) (.int .i64 st) (.int q x)).run P w1=.ok () w3∧w3.ownsMap P k (plainElem P e) b (n+1) (D.put kl (.lit (.int q x)))∧w.grownBy w3 (some b)∧w3.heap.size=w.heap.size:=by
 have K':=Keyed.of_law K
 have h0:=h
 obtain ⟨es,clock,hb,F,hs,hD⟩:=h
 obtain ⟨c,hl,hat,hwc⟩:=h0.lookup_int K' ht he (hz w) hkey
 obtain ⟨v0,st',w1',hE',hU',hL'⟩:=h2_ K ht hz hb F hkey
 obtain ⟨v1,st,es1,clock1,hE,_,hS⟩:=entry_then_store K ht hz hb F hkey
 obtain ⟨rfl,_⟩:=fi_ hL' hl
 obtain ⟨e1,rfl⟩:=fi_ hE' hE
 obtain ⟨rfl,rfl⟩:Value.int q c=v1∧st'=goInt st:=by simpa using e1
 obtain ⟨u1,hu1,own1,g1⟩:=h0.update K' ht (by omega) hkey (plainElem_int he hwc)
 obtain ⟨_,rfl⟩:=fi_ hU' hu1
 obtain ⟨c',hl1,hat1,_⟩:=own1.lookup_int K' ht he (hz _) hkey
 have hcc:c'=c:=by
  rw [Maps.atKey_put_same h0.isMap (K'.key hkey)] at hat1
  injection hat1 with e2
  injection e2 with _ e3
  exact e3.symm
 subst hcc
 refine ⟨c',st,_,hl,hat,hwc,hE,hl1,g1,by simp [setBlock],fun x hx=>?_⟩
 obtain ⟨es',clock',hst,hup⟩:=hS (setBlock w b (.map es1 clock1)) (.int q x) (heap_setBlock_same hb _)
 obtain ⟨u2,hu2,own2,g2⟩:=h0.update K' ht (by omega) hkey (plainElem_int he hx)
 obtain ⟨_,rfl⟩:=fi_ hup hu2
 refine ⟨_,hst,?_,?_,?_⟩
 ·rw [c5_];exact own2
 ·rw [c5_];exact g2
 ·simp [setBlock]
end Go.Proofs.YtigldeccfpkdmaaGreatDoor
namespace Go.Proofs.YtigldeccfpkdmaaGreatDoor
open Go.RowKit Go.BigFrame
open Go.Maps (Keyed)
set_option maxHeartbeats 20000000
set_option maxRecDepth 100000
/-- What an owner must be to be a key: its numbers fit, its text is no longer than a text can be. -/
structure WfO (o:Ow):Prop where
 a:(Lit.int .i64 o.a).wf=true
 v:(Lit.int .i64 o.v).wf=true
 f:o.f.size<=maxLen
theorem rowO:(132:TypeId)<Tryz.prog.types.size:=of_decide_eq_true (by kernel_rfl)
theorem wideO:(match Tryz.prog.underlying 132 with | some (.array _ _) | some (.struct _)=>true | _=>false)=true:=by kernel_rfl
theorem lawO:WideMaps.KeyLaw Tryz.prog 132:=deep_law_laid laidOut (m:=3) (by omega) rowO (by kernel_rfl) wideO
theorem keyedO:Keyed Tryz.prog 132:=Keyed.of_law lawO
def vO (o:Ow):Value:=.agg #[.int .i64 o.a,.int .i64 o.v,.string o.f]
def klO (o:Ow):Lit:=.string (keyBytes [.int .i64 o.a,.int .i64 o.v,.string o.f.data.toList])
theorem keyO {o:Ow} (h:WfO o):keyOf Tryz.prog 132 (vO o)=some (klO o):=by
 obtain ⟨a,v,f⟩:=o
 obtain ⟨h1,h2,h3⟩:=h
 have hk:Tryz.prog.keyType 132=true:=by kernel_rfl
 have hc:Tryz.prog.cellsOf 132=3:=by kernel_rfl
 have hc2:Tryz.prog.cellsOf 2=1:=by kernel_rfl
 have hc9:Tryz.prog.cellsOf 9=1:=by kernel_rfl
 obtain ⟨d,hd⟩:=Nat.exists_eq_succ_of_ne_zero (Nat.ne_of_gt (Nat.zero_lt_of_lt rowO))
 unfold keyOf vO klO
 rw [hd]
 have k2:∀ x:Int,(Lit.int .i64 x).wf=true->Tryz.prog.keyLits d.succ 2 [.int .i64 x]=some [.int .i64 x]:=fun x hx=>by
  unfold Program.keyLits;simp only [Tryz.underlying2];rw [if_pos ⟨trivial,hx⟩]
 have k9:Tryz.prog.keyLits d.succ 9 [.string f]=some [.string f.data.toList]:=by
  unfold Program.keyLits;simp only [Tryz.underlying9];rw [if_pos h3]
 have e1:=k2 a h1
 have e2:=k2 v h2
 clear k2 hd
 generalize d.succ=D at *
 simp only [Tryz.underlying132,hk,Value.formed,hc,Value.cells]
 rw [if_pos (by rfl)]
 unfold Program.keyLits
 simp only [Tryz.underlying132,hc]
 rw [if_pos (by exact ⟨rfl,by decide +kernel⟩)]
 simp [hc2,hc9,e1,e2,k9]
theorem lu_ {o o':Ow} (h:WfO o) (h':WfO o') (e:klO o=klO o'):o=o':=by
 have h1:=keyO h
 have h2:=keyO h'
 rw [<-e] at h2
 have:=lawO.inj h1 h2
 simp [vO] at this
 obtain ⟨a,v,f⟩:=o
 obtain ⟨a',v',f'⟩:=o'
 simp at this
 simp [this]
/-- Block b is a tally, of at most n owners, that holds f o of each owner o. -/
def TlAt (w:World) (b n:Nat) (f:Ow->Int):Prop:=
 ∃ D:DataW Unit,w.ownsMap Tryz.prog 132 (plainElem Tryz.prog 2) b n D∧∀ o,WfO o->D.atKey (klO o) (.lit (.int .i64 0))=.lit (.int .i64 (f o))
theorem zero2 (w:World):(zeroValue 2).run Tryz.prog w=.ok (.int .i64 0) w:=by kernel_rfl
theorem TlAt.lt {w:World} {b n:Nat} {f:Ow->Int} (h:TlAt w b n f):b<w.heap.size:=by
 obtain ⟨D,h,_⟩:=h;exact h.lt
theorem TlAt.mono {w:World} {b n n':Nat} {f:Ow->Int} (h:TlAt w b n f) (hn:n<=n'):TlAt w b n' f:=by
 obtain ⟨D,h,h2⟩:=h;exact ⟨D,h.mono hn,h2⟩
theorem TlAt.kept {w w':World} {b n:Nat} {f:Ow->Int} {row:Option Nat} (h:TlAt w b n f) (hg:w.grownBy w' row) (hne:some b≠row):TlAt w' b n f:=by
 obtain ⟨D,h,h2⟩:=h;exact ⟨D,h.kept hg hne,h2⟩
theorem TlAt.apart {w:World} {b n:Nat} {f:Ow->Int} (h:TlAt w b n f) {bb o:Nat} {v:Value} (hc:w.cell? ⟨bb,o,none⟩=some v):bb≠b:=by
 obtain ⟨D,⟨es,clock,hb,_⟩,_⟩:=h
 rintro rfl
 simp [World.cell?,hb] at hc
theorem TlAt.made (w:World):TlAt (w.alloc (.map #[] 0)) w.heap.size 0 (fun _=>0):=
 ⟨_,World.ownsMap_made _ _ _ _,fun _ _=>rfl⟩
theorem TlAt.congr {w:World} {b n:Nat} {f g:Ow->Int} (h:TlAt w b n f) (e:∀ o,f o=g o):TlAt w b n g:=by
 obtain ⟨D,h,h2⟩:=h
 exact ⟨D,h,fun o ho=>by rw [h2 o ho,e]⟩
theorem TlAt.entry {w:World} {b n:Nat} {f:Ow->Int} (h:TlAt w b n f) (hn:n+1<maxLen) {o:Ow} (ho:WfO o) :
  ∃ (st:Nat) (w1:World),(Instr.lookup 226 (.map (some b)) (.agg #[.int .i64 o.a,.int .i64 o.v,.string o.f]) false).run Tryz.prog w=.ok (.int .i64 (f o)) w∧
   (Instr.mapEntry 226 (.map (some b)) (.agg #[.int .i64 o.a,.int .i64 o.v,.string o.f])).run Tryz.prog w=.ok (.tuple #[.int .i64 (f o),.int .i64 st]) w1∧(Instr.lookup 226 (.map (some b)) (.agg #[.int .i64 o.a,.int .i64 o.v,.string o.f]) false).run Tryz.prog w1=.ok (.int .i64 (f o)) w1∧w.grownBy w1 (some b)∧
   ∀ x:Int,(Lit.int .i64 x).wf=true->∃ w3,(Instr.entryStore 226 (.map (some b)) (.int .i64 st) (.int .i64 x)).run Tryz.prog w1=.ok () w3∧TlAt w3 b (n+1) (fun o'=>if owEq o o'=true then x else f o')∧w.grownBy w3 (some b):=by
 obtain ⟨D,hown,hv⟩:=h
 obtain ⟨c,st,w1,h1,h2,_,h4,h5,h6,_,h7⟩:=mr_ hown lawO Tryz.underlying226 Tryz.underlying2 zero2 hn (keyO ho)
 have hc:c=f o:=by
  rw [hv o ho] at h2
  injection h2 with e2
  injection e2 with _ e3
  exact e3.symm
 subst hc
 refine ⟨st,w1,h1,h4,h5,h6,fun x hx=>?_⟩
 obtain ⟨w3,g1,g2,g3,_⟩:=h7 x hx
 refine ⟨w3,g1,⟨_,g2,fun o' ho'=>?_⟩,g3⟩
 by_cases e:o=o'
 ·subst e
  rw [Maps.atKey_put_same hown.isMap (keyedO.key (keyO ho))]
  dsimp only
  rw [if_pos (aU_ o)]
 ·rw [Maps.atKey_put_other (fun e2=>e (lu_ ho ho' e2.symm)),hv o' ho']
  dsimp only
  rw [if_neg (fun e2=>e (aC_.1 e2))]
end Go.Proofs.YtigldeccfpkdmaaGreatDoor
