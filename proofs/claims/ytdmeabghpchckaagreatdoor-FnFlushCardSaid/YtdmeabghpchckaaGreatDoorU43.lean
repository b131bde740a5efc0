/- What is drawn: numbers and texts. -/
import Derived.Deep.DeepCutAuto
import Derived.Laws.EntriesVeiled
import Derived.Stop.Asserts
import Derived.Stop.LaidTwo
import Derived.Test.YtdmeabghpchckaaGreatDoorU18
set_option maxHeartbeats 20000000
set_option maxRecDepth 100000
namespace Go.Proofs.YtdmeabghpchckaaGreatDoor
section
open Go.RowKit Go.BigFrame Tryz
def GU (s n:Int):Value:=.agg #[.int .i64 s,.int .i64 n,.slice none 0 0,.slice none 0 0,.slice none 0 0,.slice none 0 0]
def GP (size:Int):Bool:=decide (1<=size)&&decide (size<=400)
theorem EJ (size:Int)(w:World) :
  Calls prog 43 #[.int .i64 size] w fun e w'=>e=.returned (.tuple #[if GP size=true then GU size 1 else GU 0 0,.bool (GP size)])∧Below w.heap.size w w':=by
 cases hn:GP size
 all_goals
  have ha:(decide (1<=size)&&decide (size<=400))=_:=hn
  go_enter func43,ntmps43
  go_wp2_with fail
  refine (ai_ _ _ _ _).mono ?_
  rintro e w1 ⟨rfl,rfl⟩
  rw[ha]
  go_wp2
  go_returns
  go_light
  exact⟨rfl,by go_grown⟩
end
section
open Go Go.RowKit Go.BigFrame Tryz
theorem Al.lowB {B k:Nat}{w w':World}{v:Value}{p:Po}(h:Al B w v p)(hg:w.grownBy w' (some k))(hk:k<B):Al B w' v p:=by
 obtain⟨ea,en,ec,va,vn,vc,ra,rn,rc,la,ln,lc,rows,hv,h1,⟨h2,h3⟩,h4,h5,h6⟩:=h
 have lo:∀ {α:Type} {cs:α->List Value} {sz:Nat} {t:TypeId} {a:Option Addr} {n cap:Nat} {l:List α},Ad cs sz t w B a n cap l->Ad cs sz t w' B a n cap l:=fun R=>R.grown hg (fun ad ha=>by have:=(R.block ad ha).1;omega)
 refine ⟨ea,en,ec,va,vn,vc,ra,rn,rc,la,ln,lc,rows,hv,lo h1,⟨lo h2,⟨h3.len,fun i r y e1 e2=>?_⟩⟩,lo h4,lo h5,h6⟩
 obtain⟨q1,q2,q3,rs,R,T⟩:=h3.at' i r y e1 e2
 exact⟨q1,q2,q3,rs,lo R,T.len,fun i r y e1 e2=>⟨(T.at' i r y e1 e2).nm,lo (T.at' i r y e1 e2).ps⟩⟩
theorem Gn (B:Nat)(w:World)(s n:Int):Al B w (.agg #[.int .i64 s,.int .i64 n,.slice none 0 0,.slice none 0 0,.slice none 0 0,.slice none 0 0]) ⟨s,n,[],[],[],[]⟩:=⟨_,_,_,_,_,_,_,_,_,_,_,_,[],rfl,aB_,⟨aB_,Ax.nil _ _⟩,aB_,aB_,fun x y h=>by cases h⟩
theorem ED (p:Po)(o:Opr):(Bz p o).2.ex.length<=60:=by
 unfold Bz
 split
 ·rename_i hp
  have ha:p.ex.length<=60:=(cu_ (aQ_ hp).1).2.2.1
  unfold opS
  split
  ·split
   ·exact Zl (Yc _ _) ha
   ·split
    ·split
     ·rename_i hq
      exact (cu_ (aQ_ hq).1).2.2.1
     ·exact ha
    ·exact ha
  ·exact ha
 ·exact Zg _
def Fv (p:Po):Prop:=AB p∧p.ex.length<=60
theorem Hb (s n:Int):AB ⟨s,n,[],[],[],[]⟩:=⟨Zg _,(fun e he=>by cases he),Zg _,(fun e he=>by cases he),Zg _,(fun e he=>by cases he),Zg _,(fun e he=>by cases he)⟩
theorem Al.ref0 {B:Nat}{w:World}{p:Po}{ea va la:Option Addr}{en ec vn vc rn rc ln lc b:Nat}{x:Int}(h:Al B w (.agg #[.int .i64 p.size,.int .i64 p.next,.slice ea en ec,.slice va vn vc,.slice (some ⟨b,0,none⟩) rn rc,.slice la ln lc]) p)(h0:0<rn)(hd:AB p) :
  ∃ q:Po,q.ex=p.ex∧AB q∧Al B (w.setCell ⟨b,3,none⟩ (.int .i64 x)) (.agg #[.int .i64 p.size,.int .i64 p.next,.slice ea en ec,.slice va vn vc,.slice (some ⟨b,0,none⟩) rn rc,.slice la ln lc]) q:=by
 obtain⟨_,_,_,_,_,_,_,_,_,_,_,_,rows,hv,h1,⟨h2,h3⟩,h4,h5,h6⟩:=h
 simp only[Value.agg.injEq,Array.mk.injEq,List.cons.injEq,Value.slice.injEq,and_true,true_and] at hv
 obtain⟨⟨rfl,rfl,rfl⟩,⟨rfl,rfl,rfl⟩,⟨rfl,rfl,rfl⟩,⟨rfl,rfl,rfl⟩⟩:=hv
 have hk:=h4.sl.len
 obtain⟨c,hc⟩:∃ c,p.rf[0]?=some c:=⟨_,ZI (by omega)⟩
 have R4:=h4.set1 aS_ hc (j:=3) (v:=.int .i64 x) (x':=⟨c.o,x⟩) (by omega) rfl
 simp only[Nat.zero_mul,Zq] at R4
 obtain⟨cs,hb⟩:=h4.blkAt
 have hg:=BW w b 3 (.int .i64 x)
 have hn:0<rc:=by
  rcases h4.own with⟨h0,_⟩ | ⟨_,_,_,h0,_⟩
  ·cases h0
  ·omega
 have hm:∀ ad,la=some ad->some ad.block≠some b:=fun ad ha e=>by
  injection e with e
  by_cases hl:0<lc
  ·exact h6 _ _ rfl ha hn hl (by simp only;omega)
  ·rcases h5.own with⟨q0,_⟩ | ⟨b',q1,_,_,_,c',he,hf,_⟩
   ·rw[q0] at ha;cases ha
   ·rw[q1] at ha;cases ha
    simp only at e
    subst e
    rcases h4.own with⟨q0,_⟩ | ⟨b2,q2,_,_,_,c2,hj,hh,_⟩
    ·cases q0
    ·cases q2
     have:c2=c':=by
      unfold Blk at hj he
      rw[hj] at he
      injection he with e1
      injection e1
     rw[this,hf] at hh
     omega
 obtain⟨z1,z2,z3,z4,z5,z6,z7,z8⟩:=hd
 refine ⟨{p with rf:=p.rf.set 0 ⟨c.o,x⟩},rfl,⟨z1,z2,z3,z4,by simpa using z5,?_,z7,z8⟩,_,_,_,_,_,_,_,_,_,_,_,_,rows,rfl,h1.ty hg (aa_ hb) (by decide),⟨h2.ty hg (aa_ hb) (by decide),h3.ty hg (aa_ hb) (by decide) (by decide)⟩,R4,h5.off hg hm,h6⟩
 intro d hd
 rcases List.mem_or_eq_of_mem_set hd with hd | rfl
 ·exact z6 d hd
 ·exact z6 c (Zc hc)
theorem Im {P:Program}{Q:Exit->Act->World->Prop}{md:Region.Mode}{S:World->Prop}{l:List Oper}{i j:Nat}{o o':Oper}{fuel:Nat}{listed:Array Bool}{a:Act}{w:World}(hr:Region.ready md l.toArray listed=[i,j])(hi:l[i]?=some o)(hj:l[j]?=some o')
  (h:∀ K':Act->World->Prop,Shut (∀ a w,S w->(S w->wpAnyH P md l.toArray Q S fuel (listed.setIfInBounds i true) a w)->K' a w)->if Region.wanted o (yielded l.toArray a.tmps)=true then Oper.wp P o a w K' Q else K' (a.put o.dst undef) w)
  (h':∀ K':Act->World->Prop,Shut (∀ a w,S w->(S w->wpAnyH P md l.toArray Q S fuel (listed.setIfInBounds j true) a w)->K' a w)->if Region.wanted o' (yielded l.toArray a.tmps)=true then Oper.wp P o' a w K' Q else K' (a.put o'.dst undef) w) :
  wpAnyH P md l.toArray Q S (fuel+1) listed a w:=
 wpAnyH_ready hr (by simp) (AllReadyH.cons (by simpa using hi) h (AllReadyH.cons (by simpa using hj) h' AllReadyH.nil))
end
end Go.Proofs.YtdmeabghpchckaaGreatDoor
