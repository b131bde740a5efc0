/- found of the program: what is found by going through all volumes, in whatever order. slices.Equal at counts, and addrsOk of the program. PoolOk of the program. -/
import Derived.Test.YtigldeccfpkdmaaGreatDoorK17
import Derived.Test.YtigldeccfpkdmaaGreatDoorK18
import Derived.Test.YtigldeccfpkdmaaGreatDoorProg
import Derived.Test.YtigldeccfpkdmaaGreatDoorK14
import Derived.Test.YtigldeccfpkdmaaGreatDoorK15
import Derived.Test.YtigldeccfpkdmaaGreatDoorK16
namespace Go.Proofs.YtigldeccfpkdmaaGreatDoor
open Go.RowKit Go.BigFrame
open Go.Maps (Keyed)
set_option maxHeartbeats 20000000
set_option maxRecDepth 100000
/-- Volumes whose owners can be keys. -/
def WfV (l:List Vo):Prop:=∀ v∈l,(Lit.int .i64 v.id).wf=true∧∀ x∈v.its,x.nm.size<=maxLen∧∀ p∈x.ps,(Lit.int .i64 p.a).wf=true
theorem nB_ {l:List Vo} (h:WfV l):WfC (allCs l):=by
 intro c hc
 obtain ⟨v,hv,hc⟩:=List.mem_flatMap.1 hc
 obtain ⟨x,hx,hc⟩:=List.mem_flatMap.1 hc
 obtain ⟨p,hp,rfl⟩:=List.mem_map.1 hc
 obtain ⟨h1,h2⟩:=h v hv
 obtain ⟨h3,h4⟩:=h2 x hx
 exact ⟨h4 p (List.mem_filter.1 hp).1,h1,h3⟩
theorem nC_ (l:List Vo):NoZero (allCs l):=fun c hc=>by rw [lz_ l c hc];decide
theorem pc_ {s t:ByteArray} (h:s.data.toList=t.data.toList):s=t:=by
 cases s;cases t;simp at h;rw [h]
theorem jv_ {v:Value} {kl:Lit} (h:keyOf Tryz.prog 9 v=some kl):∃ s:ByteArray,v=.string s∧kl=.string s.data.toList:=by
 cases v<;>simp [keyOf,Tryz.underlying9,mapKey] at h
 exact ⟨_,rfl,h.2.symm⟩
/-- Which volume a key of the map is, and where it lies. -/
theorem nD_ {D:DataW Unit} {po pb:Nat} {vs:List Vo} (hV:VMap D po vs) (hn:(vs.map (·.nm.toList)).Nodup) {s:ByteArray} {o:Nat} {y:DataW Unit×List MemPlace} (hh:Maps.has D (.string s.data.toList)=true) (hR:ptrElem pb (.pointer (some ⟨pb,o,none⟩))=some y) (hat:∀ zd,D.atKey (.string s.data.toList) zd=y.1):∃ i v,vs[i]?=some v∧v.nm=s∧o=po+i*4:=by
 rw [hV.has] at hh
 obtain ⟨v,hv,e⟩:=List.any_eq_true.1 hh
 obtain ⟨i,hi,rfl⟩:=List.getElem_of_mem hv
 have e':vs[i].nm=s:=pc_ (by simpa using e)
 refine ⟨i,vs[i],by simp [hi],e',?_⟩
 have h1:=hV.val hn i vs[i] (by simp [hi]) .nil
 unfold keyV at h1
 rw [e',hat] at h1
 rw [fZ_] at hR
 obtain rfl:=Option.some.inj hR
 injection h1 with h2
 injection h2 with _ h3
 omega
theorem kD_ (B b pb po:Nat) (D:DataW Unit) (va:Option Addr) (vn:Nat) (vs:List Vo) (hpb:0<vn->va=some ⟨pb,po,none⟩) (w:World) (hO:w.ownsMap Tryz.prog 9 (ptrElem pb) b vn D) (hV:VMap D po vs) (hnd:(vs.map (·.nm.toList)).Nodup) (h2:VsAt B w va vn vs) (ht:TinyV vs) (hw:WfV vs) :
  Calls Tryz.prog 104 #[.map (some b)] w fun e w'=>(∃ a n cap,e=.returned (.slice a n cap)∧n<=480∧ResAt Ct.cs 4 134 w' w.heap.size a n cap (walkL vs))∧Below w.heap.size w w':=by
 have hmm:=@run_makeMap Tryz.prog
 have hlen:Hid (vs.length=vn):=h2.len
 have hbw:=hO.lt
 have hsz:Maps.size D<=vn:=hO.size_le
 obtain ⟨t6,tv⟩:=ht
 rw [hlen.out] at t6
 have hT0:=TlAt.made w
 have hO1:(w.alloc (.map #[] 0)).ownsMap Tryz.prog 9 (ptrElem pb) b vn D:=hO.alloc _
 have hB0:Below w.heap.size w (w.alloc (.map #[] 0)):=(Below.refl _ _).alloc (Nat.le_refl _) _
 have hs0:(w.alloc (.map #[] 0)).heap.size=w.heap.size+1:=by simp
 have hbd:∀ left o,0<=tot o (allCs (doneV left vs))∧tot o (allCs (doneV left vs))<=480:=fun left o=>by
  have h1:=fY_ (lz_ (doneV left vs)) o
  have h2:=hn_ (l:=doneV left vs) (fun v hv=>by have:=tv v (List.mem_filter.1 hv).1;exact ⟨this.1,fun x hx=>(this.2 x hx).1⟩)
  have h3:(doneV left vs).length<=vs.length:=List.length_filter_le _ _
  have h4:=hlen.out
  omega
 go_enter Tryz.func104,Tryz.ntmps104
 go_wp2_with (first
  |(at_range;refine wpList_range_own _ rfl _ 148 rfl 9 223 keyed9 Tryz.underlying148 _ b vn D rfl hO1 ?_;intro w0 hrg0 hg0 hs1)
  |go_in)
 rw [hs0] at hrg0 hs1 ⊢
 go_frame
 have T0:TlAt w0 w.heap.size 0 (fun _=>0):=hT0.kept hg0 (by simp)
 have hB1:Below w.heap.size w w0:=hB0.grown hg0 (by omega) (fun j hj=>by cases hj)
 clear hT0 hO1 hB0 hs0 hg0 hO
 go_loopw [11] (fun _ wr=>∃ (left:Lit->Bool) (cnt m:Nat),m+80*cnt<=80*vn∧(∀ kl,left kl=true->Maps.has D kl=true)∧wr.ranges Tryz.prog 9 (ptrElem pb) b (w.heap.size+1) vn D left cnt∧TlAt wr w.heap.size m (fun o=>tot o (allCs (doneV left vs)))∧w.heap.size+2<=wr.heap.size∧Below w.heap.size w wr)
  (fun _ wr=>wr.rangeLeft b (w.heap.size+1))
 case atStart=>
  refine ⟨_,_,0,by omega,fun _ h=>h,hrg0,T0.congr (fun o=>?_),by omega,hB1⟩
  rw [kC_ (fun v hv=>by unfold keyV;rw [hV.has];exact List.any_eq_true.2 ⟨v,hv,by simp⟩)];rfl
 case round=>
  clear hrg0 T0 hB1 hs1
  obtain ⟨left,cnt,m,hmc,hsub,hrg,T,hws,hB⟩:=hrel
  go_wp2_with (first
   |(at_next;refine wpList_next_ranges _ rfl _ rfl 9 keyed9 (ptrElem pb) Value.string (fun o:Nat=>Value.pointer (some ⟨pb,o,none⟩)) (fun key kl hk=>(by obtain ⟨s,hs,_⟩:=jv_ hk;exact ⟨s,hs⟩)) (fun v y h=>(by obtain ⟨o,ho,_⟩:=ju_ h;exact ⟨o,ho⟩)) b (w.heap.size+1) vn D left cnt rfl hrg ?_ ?_)
   |go_in)
  ·intro hc0 hl0
   rw [my_ hl0] at T
   go_wp2_with fail
   refine (fU_ w.heap.size m _ wr T (by omega)).mono ?_
   rintro e w4 ⟨⟨a2,n2,cap2,R,rfl,hn2,R4,q1,q2,q3,q4⟩,hB4⟩
   have hR:R=walkL vs:=lx_ q1 q2 q3 (fun o ho=>by rw [q4 o ho];simp [tot]) List.Pairwise.nil (fun c hc=>by simp at hc) (nC_ vs) (fun c hc=>by simp at hc) (nB_ hw)
   subst hR
   have hB5:=chain hB hB4
   go_wp2
   go_returns
   exact ⟨⟨a2,n2,cap2,rfl,by omega,R4.mono hB.size⟩,hB5⟩
  ·intro s o kl y yp w1 cnt1 hkey hlk hRv hat hrg1 hlt hg1 hs1 hen
   obtain rfl:kl=.string s.data.toList:=by
    obtain ⟨s',e,e2⟩:=jv_ hkey
    injection e with e
    rw [e,e2]
   obtain ⟨i,v,hi,rfl,rfl⟩:=nD_ hV hnd (hsub _ hlk) hRv hat
   have hiv:i<vn:=by rw [<-hlen.out];exact (List.getElem?_eq_some_iff.1 hi).1
   have hvm:=List.mem_of_getElem? hi
   obtain ⟨t1,t2⟩:=tv v hvm
   obtain ⟨u1,u2⟩:=hw v hvm
   obtain ⟨F,hFe⟩:∃ F:Ow->Int,∀ o,F o=tot o (allCs (doneV left vs)):=⟨_,fun _=>rfl⟩
   have hdone:∀ o,F o+tot o (itsCs v v.its)=tot o (allCs (doneV (fun z=>left z&&!z.sameKey (.string v.nm.data.toList)) vs)):=fun o=>by rw [hFe];exact (hm_ (left:=left) (v:=v) hlk hnd hvm o).symm
   have hF:∀ o,0<=F o∧F o<=480:=fun o=>by rw [hFe];exact hbd left o
   have T1:TlAt w1 w.heap.size m F:=(T.kept hg1 (by simp)).congr (fun o=>(hFe o).symm)
   have hB1:Below w.heap.size w w1:=hB.grown hg1 hB.size (fun j hj=>by cases hj;omega)
   obtain ⟨b',o',x,qa,qn,qc,hvo,hx,e0,e1,e2,e3,hP,_,_⟩:=cg_ h2 hiv
   obtain ⟨rfl,rfl⟩:b'=pb∧o'=po:=by have:=hpb (by omega);rw [hvo] at this;simpa using this
   obtain rfl:v=x:=by rw [hi] at hx;exact Option.some.inj hx
   have hPl:Hid (v.its.length=qn):=hP.len
   rw [hPl.out] at t1
   have hsub1:∀ kl,(left kl&&!kl.sameKey (.string v.nm.data.toList))=true->Maps.has D kl=true:=fun kl h=>hsub kl (by simp at h;exact h.1)
   have hlt':wr.rangeLeft b (w.heap.size+1)=cnt:=hrg.left_eq
   have e3':=bcell hB1 e3
   obtain ⟨wi,hwi⟩:∃ x,x=wr:=⟨_,rfl⟩
   subst hwi
   have hs2:w.heap.size+2<=w1.heap.size:=by omega
   clear hkey hRv hat hg1 T hB hrg hx hi e1 e2 e3 hFe hs1 hws hvm
   go_wp2_with fail
   go_loopw [20] (fun ix wq=>∃ (k:Nat),k<=qn∧ix=.int .i64 k∧TlAt wq w.heap.size (m+16*k) (fun o=>F o+tot o (itsCs v (v.its.take k)))∧wq.ranges Tryz.prog 9 (ptrElem b') b (w.heap.size+1) vn D (fun z=>left z&&!z.sameKey (.string v.nm.data.toList)) cnt1∧w.heap.size+2<=wq.heap.size∧Below w.heap.size w wq) (fun ix _=>qn-(intOf ix).toNat)
   case atStart=>exact ⟨0,Nat.zero_le _,rfl,T1.congr (fun o=>by simp [itsCs,tot]),hrg1,hs2,hB1⟩
   case round=>
    clear T1 hrg1 hB1 hs2 e3' hen
    obtain ⟨k,hk,rfl,T2,hrg2,hs2,hB2⟩:=hrel
    by_cases hlk2:k<qn
    ·obtain ⟨ib,io,x,pa,pn,pc,rfl,hx,c0,c1,hPt,_,_,_⟩:=bt_ (hP.below hB2) hlk2
     have f0:=bcell hB2 e0
     obtain ⟨s1,_⟩:=t2 x (List.mem_of_getElem? hx)
     obtain ⟨s2,s3⟩:=u2 x (List.mem_of_getElem? hx)
     rw [hPt.len] at s1
     have hk1:(k:Int)<qn:=by omega
     have hk2:(0:Int)<=k:=by omega
     have hit:Hid (itsCs v (v.its.take (k+1))=itsCs v (v.its.take k)++partCs v.id x.nm x.ps):=fN_ hx
     have hbk:∀ o,0<=tot o (itsCs v (v.its.take k))∧tot o (itsCs v (v.its.take k))<=1000:=fun o=>by
      have h1:=fY_ (ly_ v (v.its.take k)) o
      have h2:=ev_ (v:=v) (l:=v.its.take k) (fun y hy=>(t2 y (List.mem_of_mem_take hy)).1)
      have h3:(v.its.take k).length<=5:=by rw [List.length_take];omega
      omega
     clear hx
     have X:=Blk.new wr #[.string x.nm,.slice pa pn pc] 139
     have gW:wr.grownBy (wr.alloc (.cells #[.string x.nm,.slice pa pn pc] 139)) (some w.heap.size):=World.grownBy_alloc wr _ (some w.heap.size)
     have T3:TlAt (wr.alloc (.cells #[.string x.nm,.slice pa pn pc] 139)) w.heap.size (m+16*k) (fun o=>F o+tot o (itsCs v (v.its.take k))):=T2.kept (World.grownBy_alloc wr _ none) (by simp)
     have f1:=acell (.cells #[.string x.nm,.slice pa pn pc] 139) f0
     have hP3:PtsAt (wr.alloc (.cells #[.string x.nm,.slice pa pn pc] 139)) pa pn x.ps:=hPt.below (by go_grown)
     clear T2 f0 hPt
     go_wp2_with fail
     have x0:=X.cell 0
     have x1:=X.cell 1
     simp only [lgA,lgB,lgC] at x0 x1
     generalize wr.alloc (.cells #[.string x.nm,.slice pa pn pc] 139)=W at *
     have y0:W.drew.cell? ⟨wr.heap.size,0,none⟩=some (.string x.nm):=x0
     have y1:W.drew.cell? ⟨wr.heap.size,1,none⟩=some (.slice pa pn pc):=x1
     have y2:W.drew.cell? ⟨b',o'+i*4,none⟩=some (.int .i64 v.id):=f1
     refine b3_ 6 (by kernel_rfl) (by kernel_rfl) ?_
     simp only [List.take_succ_cons,List.take_zero,List.drop_succ_cons,List.drop_zero]
     repeat still_step
     refine wpStill_nil ?_
     go_wp2_with fail
     refine (gC_ w.heap.size (m+16*k) _ v.id x.nm pa pn pc x.ps W.drew T3 hP3.drew u1 s2 s3 (by omega) (by omega) (fun o=>by have h1:=hF o;have h2:=hbk o;omega)).mono ?_
     rintro e w3 ⟨rfl,T4,g4⟩
     have g5:wr.grownBy w3 (some w.heap.size):=(gW.andThen (⟨rfl,rfl,rfl,Nat.le_refl _,fun _ _ _=>rfl⟩:W.grownBy W.drew (some w.heap.size)) (fun j hj=>by cases hj;exact .inr rfl)).andThen g4 (fun j hj=>by cases hj;exact .inr rfl)
     have hrg3:=hrg2.kept g5 (by simp only [ne_eq,Option.some.injEq];omega) (by simp)
     have hB3:Below w.heap.size w w3:=hB2.grown g5 hB2.size (fun j hj=>by cases hj;exact Nat.le_refl _)
     have hs3:w.heap.size+2<=w3.heap.size:=Nat.le_trans hs2 g5.size
     have T5:TlAt w3 w.heap.size (m+16*(k+1)) (fun o=>F o+tot o (itsCs v (v.its.take (k+1)))):=(T4.mono (by omega)).congr (fun o=>by rw [hit.out,aX_];omega)
     go_wp2
     go_roundw
     case rel=>exact ⟨k+1,by omega,by go_num,T5,hrg3,hs3,hB3⟩
     case measure=>simp [intOf];omega
    ·obtain rfl:k=qn:=by omega
     rw [List.take_of_length_le (Nat.le_of_eq hPl.out)] at T2
     go_wp2
     go_roundw
     case rel=>exact ⟨_,cnt1,m+16*k,by omega,hsub1,hrg2,T2.congr hdone,hs2,hB2⟩
     case measure=>rw [hrg2.left_eq,hlt'];exact hlt
end Go.Proofs.YtigldeccfpkdmaaGreatDoor
namespace Go.Proofs.YtigldeccfpkdmaaGreatDoor
open Go.RowKit Go.BigFrame
set_option maxHeartbeats 20000000
set_option maxRecDepth 100000
theorem h4_ (a:Option Addr) (n cap:Nat) (l:List Ct) (a':Option Addr) (n' cap':Nat) (m:List Ct) (w:World) (h:CtsAt w a n l) (h':CtsAt w a' n' m) (hn:n<=4194304) (hn':n'<=4194304) :
  Calls Tryz.prog 103 #[.slice a n cap,.slice a' n' cap'] w fun e w'=>e=.returned (.bool (eqCts l m))∧Below w.heap.size w w':=by
 have hlen:Hid (l.length=n):=h.len
 have hlen':Hid (m.length=n'):=h'.len
 by_cases hne:n=n'
 ·subst hne
  have hbn:((n:Int) != (n:Int))=false:=by simp
  go_enter Tryz.func103,Tryz.ntmps103
  go_wp2_with fail
  go_loopw [13] (fun ix wr=>∃ (k:Nat),k<=n∧ix=.int .i64 k∧Hid (eqCts l m=eqCts (l.drop k) (m.drop k))∧Below w.heap.size w wr) (fun ix _=>n-(intOf ix).toNat)
  case atStart=>exact ⟨0,Nat.zero_le _,rfl,rfl,Below.refl _ _⟩
  case round=>
   obtain ⟨k,hk,rfl,hI,hB⟩:=hrel
   by_cases hlt:k<n
   ·obtain ⟨b,o,p,rfl,hp,c0,c1,c2,c3⟩:=az_ (h.below hB) hlt
    obtain ⟨b',o',q,rfl,hq,d0,d1,d2,d3⟩:=az_ (h'.below hB) hlt
    have hd:Hid (l.drop k=p::l.drop (k+1)):=aj_ hp
    have hd':Hid (m.drop k=q::m.drop (k+1)):=aj_ hq
    clear hp hq
    have hk1:(k:Int)<n:=by omega
    have hk2:(0:Int)<=k:=by omega
    have hneq:=neqCG p q
    cases hpq:eqCt p q
    all_goals rw [hpq] at hneq
    ·go_wp2_with fail
     go_quiet (fail)
     have hB2:=below_drewN hB nq
     go_wp2
     go_returns
     go_light
     refine ⟨ab_ ?_,hB2⟩
     rw [hI.out,hd.out,hd'.out];simp only [eqCts,hpq,Bool.false_and]
    ·go_wp2_with fail
     go_quiet (fail)
     have hB2:=below_drewN hB nq
     go_wp2
     go_roundw
     case rel=>exact ⟨k+1,by omega,by go_num,by show _=_;rw [hI.out,hd.out,hd'.out];simp only [eqCts,hpq,Bool.true_and],hB2⟩
     case measure=>simp [intOf];omega
   ·obtain rfl:k=n:=by omega
    go_wp2
    go_returns
    go_light
    refine ⟨ab_ ?_,hB⟩
    rw [hI.out,List.drop_of_length_le (Nat.le_of_eq hlen.out),List.drop_of_length_le (Nat.le_of_eq hlen'.out)];rfl
 ·have hbn:((n:Int) != (n':Int))=true:=by simp;omega
  go_enter Tryz.func103,Tryz.ntmps103
  go_wp2
  go_returns
  go_light
  refine ⟨ab_ ?_,Below.refl _ _⟩
  rw [eq_ (by rw [hlen.out,hlen'.out];exact hne)]
theorem h5_ (size next:Int) (ea:Option Addr) (en ec:Nat) (va:Option Addr) (vn vc:Nat) (ra:Option Addr) (rn rc:Nat) (la:Option Addr) (ln lc:Nat) (ex:List Ex) (rf lt:List Ct) (w:World) (h1:ExsAt w ea en ex) (h3:CtsAt w ra rn rf) (h4:CtsAt w la ln lt) (z1:en<=4194304) (z3:rn<=200) (z4:ln<=200) (hx:∀ x∈ex,(Lit.int .i64 x.a).wf=true) (hc3:∀ c∈rf,(Lit.int .i64 c.o.a).wf=true) (hc4:∀ c∈lt,(Lit.int .i64 c.o.a).wf=true) (hnd:(ex.map (·.a)).Nodup) :
  Calls Tryz.prog 105 #[.agg #[.int .i64 size,.int .i64 next,.slice ea en ec,.slice va vn vc,.slice ra rn rc,.slice la ln lc]] w fun e w'=>e=.returned (.bool (addrB ex (rf++lt)))∧Below w.heap.size w w':=by
 have hmm:=@run_makeMap Tryz.prog
 have n1:Hid (ex.length=en):=h1.len
 have n3:Hid (rf.length=rn):=h3.len
 have n4:Hid (lt.length=ln):=h4.len
 have hR0:Hid (∀ K:List Lit,K.Nodup->(∀ k∈K,∃ c∈rf++lt,k=.int .i64 c.o.a)->(∀ c∈rf++lt,Lit.int .i64 c.o.a∈K)->(ex.all (fun x=>(rf++lt).any (fun c=>c.o.a==x.a))&&decide (K.length=ex.length))=addrB ex (rf++lt)):=fun K h1 h2 h3=>mv_ hnd h1 h2 h3
 have hF0:Hid (ex.all (fun x=>(rf++lt).any (fun c=>c.o.a==x.a))=false->addrB ex (rf++lt)=false):=fun h=>by unfold addrB;rw [h];rfl
 generalize addrB ex (rf++lt)=R at *
 go_enter Tryz.func105,Tryz.ntmps105
 have C:=(Blk.new w #[.int .i64 size,.int .i64 next,.slice ea en ec,.slice va vn vc,.slice ra rn rc,.slice la ln lc] 26)
 have hB1:Below w.heap.size w (w.alloc (.cells #[.int .i64 size,.int .i64 next,.slice ea en ec,.slice va vn vc,.slice ra rn rc,.slice la ln lc] 26)):=by go_grown
 have hs1:(w.alloc (.cells #[.int .i64 size,.int .i64 next,.slice ea en ec,.slice va vn vc,.slice ra rn rc,.slice la ln lc] 26)).heap.size=w.heap.size+1:=by simp
 go_wp2_with fail
 generalize w.alloc (.cells #[.int .i64 size,.int .i64 next,.slice ea en ec,.slice va vn vc,.slice ra rn rc,.slice la ln lc] 26)=W0 at *
 have hM:=AdAt.made W0
 have C1:=C.alloc (.map #[] 0)
 have hB2:Below w.heap.size w (W0.alloc (.map #[] 0)):=hB1.alloc (by omega) _
 clear C hB1
 rw [hs1] at hM
 generalize W0.alloc (.map #[] 0)=W1 at *
 clear hs1
 go_loopw [14] (fun ix wr=>∃ (k:Nat),k<=rn∧ix=.int .i64 k∧AdAt wr (w.heap.size+1) k (rf.take k)∧Blk wr w.heap.size #[.int .i64 size,.int .i64 next,.slice ea en ec,.slice va vn vc,.slice ra rn rc,.slice la ln lc] 26∧Below w.heap.size w wr) (fun ix _=>rn-(intOf ix).toNat)
 case atStart=>exact ⟨0,Nat.zero_le _,rfl,hM,C1,hB2⟩
 case round=>
  clear hM C1 hB2
  obtain ⟨k,hk,rfl,A,C,hB⟩:=hrel
  by_cases hlt:k<rn
  ·obtain ⟨b,o,p,rfl,hp,c0,c1,c2,c3⟩:=az_ (h3.below hB) hlt
   have hwp:=hc3 p (List.mem_of_getElem? hp)
   have hk1:(k:Int)<rn:=by omega
   have hk2:(0:Int)<=k:=by omega
   have hlk:(rf.take k).length<=200:=by rw [List.length_take];omega
   have htk:Hid (rf.take k++[p]=rf.take (k+1)):=(aO_ hp).symm
   have hcb:=fj_ p.o.a (rf.take k)
   have gW:wr.grownBy (wr.alloc (.cells #[.int .i64 p.o.a,.int .i64 p.o.v,.string p.o.f,.int .i64 p.n] 134)) (some (w.heap.size+1)):=World.grownBy_alloc wr _ _
   have A1:AdAt (wr.alloc (.cells #[.int .i64 p.o.a,.int .i64 p.o.v,.string p.o.f,.int .i64 p.n] 134)) (w.heap.size+1) k (rf.take k):=A.kept (World.grownBy_alloc wr _ none) (by simp)
   have z0:(wr.alloc (.cells #[.int .i64 p.o.a,.int .i64 p.o.v,.string p.o.f,.int .i64 p.n] 134)).cell? ⟨wr.heap.size,0,none⟩=some (.int .i64 p.o.a):=by simp
   have r1:=A1.look hwp
   obtain ⟨w3,r2,A2,g2⟩:=A1.bump (by unfold maxLen;omega) (by omega) hwp
   have g3:wr.grownBy w3 (some (w.heap.size+1)):=gW.andThen g2 (fun j hj=>by cases hj;exact .inr rfl)
   have hB3:Below w.heap.size w w3:=hB.grown g3 hB.size (fun j hj=>by cases hj;omega)
   have C3:Blk w3 w.heap.size #[.int .i64 size,.int .i64 next,.slice ea en ec,.slice va vn vc,.slice (some ⟨b,o,none⟩) rn rc,.slice la ln lc] 26:=(g3.block _ C.lt (by simp only [ne_eq,Option.some.injEq];omega)).trans C
   rw [htk.out] at A2
   clear hp A A1 htk
   generalize cntZ p.o.a (rf.take k)=Z at *
   obtain ⟨hZ1,hZ2⟩:=hcb
   go_wp2
   go_roundw
   case rel=>exact ⟨k+1,by omega,by go_num,A2,C3,hB3⟩
   case measure=>simp [intOf];omega
  ·obtain rfl:k=rn:=by omega
   rw [List.take_of_length_le (Nat.le_of_eq n3.out)] at A
   have d5:=C.cell 5
   simp only [lgA,lgB,lgC] at d5
   obtain ⟨wi,hwi⟩:∃ x,x=wr:=⟨_,rfl⟩
   subst hwi
   go_wp2_with fail
   go_loopw [28] (fun ix wr=>∃ (j:Nat),j<=ln∧ix=.int .i64 j∧AdAt wr (w.heap.size+1) (k+j) (rf++lt.take j)∧Blk wr w.heap.size #[.int .i64 size,.int .i64 next,.slice ea en ec,.slice va vn vc,.slice ra k rc,.slice la ln lc] 26∧Below w.heap.size w wr) (fun ix _=>ln-(intOf ix).toNat)
   case atStart=>exact ⟨0,Nat.zero_le _,rfl,by simpa using A,C,hB⟩
   case round=>
    clear A C hB d5
    obtain ⟨j,hj,rfl,A,C,hB⟩:=hrel
    by_cases hlt2:j<ln
    ·obtain ⟨b,o,p,rfl,hp,c0,c1,c2,c3⟩:=az_ (h4.below hB) hlt2
     have hwp:=hc4 p (List.mem_of_getElem? hp)
     have hk1:(j:Int)<ln:=by omega
     have hk2:(0:Int)<=j:=by omega
     have hlk:(rf++lt.take j).length<=400:=by rw [List.length_append,List.length_take,n3.out];omega
     have htk:Hid (rf++lt.take j++[p]=rf++lt.take (j+1)):=by show _=_;rw [aO_ hp,List.append_assoc]
     have hcb:=fj_ p.o.a (rf++lt.take j)
     have gW:wr.grownBy (wr.alloc (.cells #[.int .i64 p.o.a,.int .i64 p.o.v,.string p.o.f,.int .i64 p.n] 134)) (some (w.heap.size+1)):=World.grownBy_alloc wr _ _
     have A1:AdAt (wr.alloc (.cells #[.int .i64 p.o.a,.int .i64 p.o.v,.string p.o.f,.int .i64 p.n] 134)) (w.heap.size+1) (k+j) (rf++lt.take j):=A.kept (World.grownBy_alloc wr _ none) (by simp)
     have z0:(wr.alloc (.cells #[.int .i64 p.o.a,.int .i64 p.o.v,.string p.o.f,.int .i64 p.n] 134)).cell? ⟨wr.heap.size,0,none⟩=some (.int .i64 p.o.a):=by simp
     have r1:=A1.look hwp
     obtain ⟨w3,r2,A2,g2⟩:=A1.bump (by unfold maxLen;omega) (by omega) hwp
     have g3:wr.grownBy w3 (some (w.heap.size+1)):=gW.andThen g2 (fun j hj=>by cases hj;exact .inr rfl)
     have hB3:Below w.heap.size w w3:=hB.grown g3 hB.size (fun j hj=>by cases hj;omega)
     have C3:Blk w3 w.heap.size #[.int .i64 size,.int .i64 next,.slice ea en ec,.slice va vn vc,.slice ra k rc,.slice (some ⟨b,o,none⟩) ln lc] 26:=(g3.block _ C.lt (by simp only [ne_eq,Option.some.injEq];omega)).trans C
     rw [htk.out] at A2
     clear hp A A1 htk
     generalize cntZ p.o.a (rf++lt.take j)=Z at *
     obtain ⟨hZ1,hZ2⟩:=hcb
     go_wp2
     go_roundw
     case rel=>exact ⟨j+1,by omega,by go_num,A2,C3,hB3⟩
     case measure=>simp [intOf];omega
    ·obtain rfl:j=ln:=by omega
     rw [List.take_of_length_le (Nat.le_of_eq n4.out)] at A
     have d2:=C.cell 2
     simp only [lgA,lgB,lgC] at d2
     obtain ⟨wj,hwj⟩:∃ x,x=wr:=⟨_,rfl⟩
     subst hwj
     go_wp2_with fail
     go_loopw [42] (fun ix wr=>∃ (i:Nat),i<=en∧ix=.int .i64 i∧Hid (ex.all (fun x=>(rf++lt).any (fun c=>c.o.a==x.a))=(ex.drop i).all (fun x=>(rf++lt).any (fun c=>c.o.a==x.a)))∧AdAt wr (w.heap.size+1) (k+j) (rf++lt)∧Blk wr w.heap.size #[.int .i64 size,.int .i64 next,.slice ea en ec,.slice va vn vc,.slice ra k rc,.slice la j lc] 26∧Below w.heap.size w wr) (fun ix _=>en-(intOf ix).toNat)
     case atStart=>exact ⟨0,Nat.zero_le _,rfl,rfl,A,C,hB⟩
     case round=>
      clear A C hB d2
      obtain ⟨i,hi,rfl,hI,A,C,hB⟩:=hrel
      by_cases hlt3:i<en
      ·obtain ⟨b,o,x,rfl,hxi,c0,c1⟩:=bp_ (h1.below hB) hlt3
       have hwx:=hx x (List.mem_of_getElem? hxi)
       have hd:Hid (ex.drop i=x::ex.drop (i+1)):=aj_ hxi
       have hk1:(i:Int)<en:=by omega
       have hk2:(0:Int)<=i:=by omega
       clear hxi
       have A1:AdAt (wr.alloc (.cells #[.int .i64 x.a,.string x.d] 136)) (w.heap.size+1) (k+j) (rf++lt):=A.kept (World.grownBy_alloc wr _ none) (by simp)
       have z0:(wr.alloc (.cells #[.int .i64 x.a,.string x.d] 136)).cell? ⟨wr.heap.size,0,none⟩=some (.int .i64 x.a):=by simp
       have C3:=C.alloc (.cells #[.int .i64 x.a,.string x.d] 136)
       have hB3:Below w.heap.size w (wr.alloc (.cells #[.int .i64 x.a,.string x.d] 136)):=hB.alloc hB.size _
       have r1:=A1.look hwx
       have hz:=mw_ x.a (rf++lt)
       have hcb:=fj_ x.a (rf++lt)
       generalize cntZ x.a (rf++lt)=Z at *
       cases hany:(rf++lt).any (fun c=>c.o.a==x.a)
       ·rw [hany] at hz
        replace hz:(Z==0)=true:=hz
        have hf:R=false:=hF0.out (by rw [hI.out,hd.out,List.all_cons,hany];rfl)
        clear hany
        go_wp2
        go_returns
        exact ⟨by rw [hf];rfl,hB3⟩
       ·rw [hany] at hz
        replace hz:(Z==0)=false:=hz
        have hI2:Hid (ex.all (fun x=>(rf++lt).any (fun c=>c.o.a==x.a))=(ex.drop (i+1)).all (fun x=>(rf++lt).any (fun c=>c.o.a==x.a))):=by show _=_;rw [hI.out,hd.out,List.all_cons,hany];rfl
        clear hany
        go_wp2
        go_roundw
        case rel=>exact ⟨i+1,by omega,by go_num,hI2,A1,C3,hB3⟩
        case measure=>simp [intOf];omega
      ·obtain rfl:i=en:=by omega
       have hall:ex.all (fun x=>(rf++lt).any (fun c=>c.o.a==x.a))=true:=by rw [hI.out,List.drop_of_length_le (Nat.le_of_eq n1.out)];rfl
       obtain ⟨K,hK,hKn,k1,k2,k3⟩:=A.len 3
       have hfin:=hR0.out K k1 k2 k3
       rw [hall,Bool.true_and,n1.out] at hfin
       have d2:=C.cell 2
       simp only [lgA,lgB,lgC] at d2
       have hfin':Hid (((K.length:Int)==(i:Int))=R):=by
        show _=_
        rw [<-hfin,Bool.eq_iff_iff]
        simp only [beq_iff_eq,decide_eq_true_eq]
        omega
       clear hfin hall hI
       go_wp2
       go_returns
       exact ⟨by rw [<-hfin'.out];rfl,hB⟩
theorem mz_ {P:Program} {k:TypeId} {R:Value->Option (DataW Unit×List MemPlace)} {w w':World} {b n:Nat} {D:DataW Unit} (h:w.ownsMap P k R b n D) (hb:Below w.heap.size w w'):w'.ownsMap P k R b n D:=by
 have hlt:=h.lt
 obtain ⟨es,clock,h1,r⟩:=h
 exact ⟨es,clock,(hb.block b hlt).trans h1,r⟩
theorem hp_ {size:Int}:∀ {l:List Ex} {next:Int},0<=next->size<=400->xgo size next l=true->∀ x∈l,0<=x.a∧x.a<=400
 |[],_,_,_,_,_,hx=>by simp at hx
 |e::r,next,h0,hs,h,x,hx=>by
  simp only [xgo,Bool.and_eq_true,decide_eq_true_eq] at h
  obtain ⟨⟨⟨h1,h2⟩,h3⟩,h4⟩:=h
  have hd:1<=e.d.size:=by
   simp only [dataOkB,Bool.and_eq_true,decide_eq_true_eq] at h1
   exact h1.1.1
  rcases List.mem_cons.1 hx with rfl | hx
  ·omega
  ·exact hp_ (by omega) hs h4 x hx
theorem nE_ {size:Int} {l:List Ex} (h:spaceOkB size l=true):∀ x∈l,(Lit.int .i64 x.a).wf=true:=fun x hx=>by
 simp only [spaceOkB,Bool.and_eq_true,decide_eq_true_eq] at h
 have:=hp_ (by omega) h.1.1.2 h.2 x hx
 exact WalkArith.wf_i64 (by omega)
theorem nF_ {ps:List Pt} {e:List Ex} (h:(contentO ps e).isSome=true):∀ p∈ps,(Lit.int .i64 p.a).wf=true:=fun p hp=>by
 have hk:partsOkB ps=true:=by
  unfold contentO at h
  split at h
  ·rename_i hh;exact hh.1
  ·cases h
 obtain ⟨_,q2,_⟩:=dP_ hk
 have:=q2 p hp
 unfold partOkB at this
 split at this
 ·rename_i h0
  have:p.a=0:=by simpa using h0
  exact WalkArith.wf_i64 (by omega)
 ·simp only [Bool.and_eq_true,decide_eq_true_eq] at this
  exact WalkArith.wf_i64 (by omega)
theorem kE_ {s:ByteArray} (h:nameB s=true):s.size<=maxLen:=by
 simp only [nameB,Bool.and_eq_true,decide_eq_true_eq] at h
 unfold maxLen
 omega
theorem jw_ {e:List Ex}:∀ {l:List It} {q:Option It},igo e q l=true->∀ x∈l,nameB x.nm=true
 |[],_,_,x,hx=>by simp at hx
 |y::r,q,h,x,hx=>by
  simp only [igo,Bool.and_eq_true] at h
  rcases List.mem_cons.1 hx with rfl | hx
  ·exact h.1.1.1
  ·exact jw_ h.2 x hx
theorem pd_ {next:Int} {e:List Ex} {l:List Vo} (hn:next<=1000000000) (h:vgo next e 0 l=true):WfV l:=by
 intro v hv
 obtain ⟨h1,h2,h3,h4⟩:=fR_ h v hv
 refine ⟨WalkArith.wf_i64 (by omega),fun x hx=>?_⟩
 simp only [itemsB,Bool.and_eq_true] at h1
 exact ⟨kE_ (jw_ h1.2 x hx),nF_ (fQ_ h1.2 x hx)⟩
theorem cj_ (B:Nat) (v:Value) (p:Po) (w:World) (h:PoolAt B w v p) (hd:DimP p) :
  Calls Tryz.prog 41 #[v] w fun e w'=>e=.returned (.bool (poolB p))∧Below w.heap.size w w':=by
 obtain ⟨ea,en,ec,va,vn,vc,ra,rn,rc,la,ln,lc,rfl,⟨h1,k1⟩,⟨h2,k2⟩,⟨h3,k3⟩,h4,k4⟩:=h
 obtain ⟨z1,z2,z3,z4,z5,z6,z7,z8⟩:=hd
 rw [h1.len] at z1
 rw [h2.len] at z3
 rw [h3.len] at z5
 rw [h4.len] at z7
 have n2:Hid (p.vs.length=vn):=h2.len
 have n3:Hid (p.rf.length=rn):=h3.len
 have n4:Hid (p.lt.length=ln):=h4.len
 obtain ⟨size,next,ex,vs,rf,lt⟩:=p
 simp only at h1 h2 h3 h4 z2 z4 z6 z8 n2 n3 n4
 obtain ⟨pb,po,hpb⟩:∃ pb po,0<vn->va=some ⟨pb,po,none⟩:=by
  by_cases h0:0<vn
  ·obtain ⟨b,o,_,_,_,_,hv,_⟩:=cg_ h2 h0
   exact ⟨b,o,fun _=>hv⟩
  ·exact ⟨0,0,fun h=>absurd h h0⟩
 have hR:Hid (poolB ⟨size,next,ex,vs,rf,lt⟩=(spaceOkB size ex&&decide (1<=next)&&decide (next<=1000000000)&&volsB next vs ex&&namesB vs&&(match flushedO rf lt with | none=>false | some s=>eqCts s (walkL vs))&&addrB ex (rf++lt))):=rfl
 generalize poolB ⟨size,next,ex,vs,rf,lt⟩=R at *
 have C:=(Blk.new w #[.int .i64 size,.int .i64 next,.slice ea en ec,.slice va vn vc,.slice ra rn rc,.slice la ln lc] 26)
 have hB0:Below w.heap.size w (w.alloc (.cells #[.int .i64 size,.int .i64 next,.slice ea en ec,.slice va vn vc,.slice ra rn rc,.slice la ln lc] 26)):=by go_grown
 cases hok:spaceOkB size ex
 ·rw [hok] at hR
  simp only [Bool.false_and] at hR
  go_enter Tryz.func41,Tryz.ntmps41
  go_wp2_with fail
  generalize w.alloc (.cells #[.int .i64 size,.int .i64 next,.slice ea en ec,.slice va vn vc,.slice ra rn rc,.slice la ln lc] 26)=W0 at *
  refine (bP_ size ea en ec ex _ (h1.below hB0) z2 z1).mono ?_
  rintro e w1 ⟨rfl,hB1⟩
  rw [hok]
  go_wp2
  go_returns
  exact ⟨by rw [hR.out];rfl,chain hB0 hB1⟩
 ·rw [hok,Bool.true_and] at hR
  go_enter Tryz.func41,Tryz.ntmps41
  go_wp2_with fail
  generalize w.alloc (.cells #[.int .i64 size,.int .i64 next,.slice ea en ec,.slice va vn vc,.slice ra rn rc,.slice la ln lc] 26)=W0 at *
  refine (bP_ size ea en ec ex _ (h1.below hB0) z2 z1).mono ?_
  rintro e w1 ⟨rfl,hB1⟩
  rw [hok]
  have C1:=C.below hB1
  replace hB1:=chain hB0 hB1
  clear C hB0
  have d0:=C1.cell 0
  have d1:=C1.cell 1
  have d2:=C1.cell 2
  have d3:=C1.cell 3
  have d4:=C1.cell 4
  have d5:=C1.cell 5
  simp only [lgA,lgB,lgC] at d0 d1 d2 d3 d4 d5
  by_cases hn1:1<=next
  ·rw [decide_eq_true hn1,Bool.true_and] at hR
   by_cases hn2:next<=1000000000
   ·rw [decide_eq_true hn2,Bool.true_and] at hR
    have hvgo:Hid (volsB next vs ex=true->vs.length<=6∧vgo next ex 0 vs=true):=fun h=>by simpa [volsB] using h
    go_wp2_with fail
    refine (jo_ B size next ea en ec va vn vc ra rn rc la ln lc ex vs _ (h1.below hB1) (h2.below hB1) z1 z2 z3 z4).mono ?_
    rintro e w2 ⟨rfl,hB2⟩
    have C2:=C1.below hB2
    replace hB2:=chain hB1 hB2
    clear d0 d1 d2 d3 d4 d5 C1 hB1
    have d0:=C2.cell 0
    have d1:=C2.cell 1
    have d2:=C2.cell 2
    have d3:=C2.cell 3
    have d4:=C2.cell 4
    have d5:=C2.cell 5
    simp only [lgA,lgB,lgC] at d0 d1 d2 d3 d4 d5
    cases hvk:volsB next vs ex
    ·rw [hvk] at hR
     simp only [Bool.false_and] at hR
     clear hvk
     go_wp2
     go_returns
     exact ⟨by rw [hR.out];rfl,hB2⟩
    ·obtain ⟨h6,hvg⟩:=hvgo.out hvk
     rw [hvk,Bool.true_and] at hR
     have hty:=lr_ h6 hvg
     have hwv:=pd_ hn2 hvg
     clear hvk hvgo
     go_wp2_with fail
     refine (f0_ B size next ea en ec va vn vc ra rn rc la ln lc vs pb po hpb _ (h2.below hB2) z3 z4).mono ?_
     rintro e w3 ⟨⟨mb,D,rfl,hmb,hO,hV⟩,hB3⟩
     have C3:=C2.below hB3
     replace hB3:=chain hB2 hB3
     clear d0 d1 d2 d3 d4 d5 C2 hB2
     have d3:=C3.cell 3
     have d4:=C3.cell 4
     have d5:=C3.cell 5
     simp only [lgA,lgB,lgC] at d3 d4 d5
     have hln:=hO.len Tryz.underlying148 3
     have hfu:=hV.full
     have hsz:=hV.size
     rw [n2.out] at hfu hsz
     have hnb:Hid (namesB vs=decide (Maps.size D=vn)):=by show _=_;unfold namesB;rw [decide_eq_decide];exact hfu.symm
     rw [hnb.out] at hR
     by_cases hse:Maps.size D=vn
     ·rw [decide_eq_true hse,Bool.true_and] at hR
      have hnd:=hfu.1 hse
      rw [hse] at hln
      have hbn:((vn:Int) != (vn:Int))=false:=by simp
      clear hfu hsz hnb hse
      go_wp2_with fail
      refine (h3_ ra rn rc rf la ln lc lt _ (h3.below hB3) (h4.below hB3) z6 z8 z5 z7).mono ?_
      rintro e w4 ⟨hret,hB4⟩
      have C4:=C3.below hB4
      replace hO:=mz_ hO hB4
      replace hB4:=chain hB3 hB4
      clear d3 d4 d5 C3 hB3 hln
      cases hfl:flushedO rf lt with
      |none=>
       rw [hfl] at hret hR
       replace hret:e=.returned (.tuple #[.slice none 0 0,.bool false]):=hret
       subst hret
       clear hfl
       go_wp2
       go_returns
       exact ⟨by rw [hR.out];rfl,hB4⟩
      |some sm=>
       rw [hfl] at hret hR
       replace hR:Hid (R=(eqCts sm (walkL vs)&&addrB ex (rf++lt))):=hR
       obtain ⟨a4,n4',cap4,rfl,hn4,R4⟩:=hret
       have hrl:refsOkB rf=true∧lateOkB lt=true:=by
        unfold flushedO at hfl
        split at hfl
        ·rename_i hh;exact hh
        ·cases hfl
       clear hfl
       go_wp2_with fail
       refine (kD_ B mb pb po D va vn vs hpb _ hO hV hnd (h2.below hB4) hty hwv).mono ?_
       rintro e w5 ⟨⟨a5,n5,cap5,rfl,hn5,R5⟩,hB5⟩
       replace R4:=R4.below hB5
       have C5:=C4.below hB5
       replace hB5:=chain hB4 hB5
       clear C4 hB4 hO
       go_wp2_with fail
       refine (h4_ a4 n4' cap4 sm a5 n5 cap5 (walkL vs) _ R4.sl R5.sl (by omega) (by omega)).mono ?_
       rintro e w6 ⟨rfl,hB6⟩
       have C6:=C5.below hB6
       replace hB6:=chain hB5 hB6
       clear R4 R5 C5 hB5
       have d0:=C6.cell 0
       have d1:=C6.cell 1
       have d2:=C6.cell 2
       have d3:=C6.cell 3
       have d4:=C6.cell 4
       have d5:=C6.cell 5
       simp only [lgA,lgB,lgC] at d0 d1 d2 d3 d4 d5
       cases hM:eqCts sm (walkL vs)
       ·rw [hM] at hR
        simp only [Bool.false_and] at hR
        clear hM
        go_wp2
        go_returns
        exact ⟨by rw [hR.out];rfl,hB6⟩
       ·rw [hM,Bool.true_and] at hR
        have hrw:=(lw_ hrl.1).1
        have hlw:=(lv_ hrl.2).1
        have hr2:=(b4_ hrl.1).1
        have hl2:=(dL_ hrl.2).1
        rw [n3.out] at hr2
        rw [n4.out] at hl2
        clear hM
        go_wp2_with fail
        refine (h5_ size next ea en ec va vn vc ra rn rc la ln lc ex rf lt _ (h1.below hB6) (h3.below hB6) (h4.below hB6) z1 hr2 hl2 (nE_ hok) (fun c hc=>(hrw c hc).a) (fun c hc=>(hlw c hc).a) (jt_ hok)).mono ?_
        rintro e w7 ⟨rfl,hB7⟩
        go_wp2
        go_returns
        exact ⟨by rw [hR.out];rfl,chain hB6 hB7⟩
     ·rw [decide_eq_false hse] at hR
      simp only [Bool.false_and] at hR
      have hbn:((Maps.size D:Int) != (vn:Int))=true:=by simp;omega
      go_wp2
      go_returns
      exact ⟨by rw [hR.out];rfl,hB3⟩
   ·rw [decide_eq_false hn2] at hR
    simp only [Bool.false_and] at hR
    go_wp2
    go_returns
    exact ⟨by rw [hR.out];rfl,hB1⟩
  ·rw [decide_eq_false hn1] at hR
   simp only [Bool.false_and] at hR
   go_wp2
   go_returns
   exact ⟨by rw [hR.out];rfl,hB1⟩
end Go.Proofs.YtigldeccfpkdmaaGreatDoor
