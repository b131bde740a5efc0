/- weighing. -/
import Derived.ChangeSame
import Derived.ChangeVars
import Derived.JoinedOf
import Derived.LaidLaws
import Derived.LaidHandle
import Derived.Stop.Joined
import Derived.SevenTiedAt
import Derived.Test.YtbbhcnjhohidnaaGreatDoorU37
set_option maxHeartbeats 20000000
set_option maxRecDepth 100000
namespace Go.Proofs.YtbbhcnjhohidnaaGreatDoor
section
open Go Go.ChangeShapes Go.WideShapes Go.RowKit Go.BigFrame _root_.Go.Proofs.Tryz
variable{H:Type}{a_errAfter a_errBytes a_errFile a_errFixed a_errOp a_errParts a_errRoom a_errThere a_errVolume ep:Addr}{W W':World}
theorem Ten.read (enc:TypeId×Value->H)(h:Ten W ep a_errOp a_errVolume a_errFile a_errBytes a_errThere a_errFixed a_errRoom a_errParts a_errAfter)(hb:Below W.heap.size W W')(sp:Nat->Bool):DataW.TrodVars enc prog W' sp ((FW ep a_errOp a_errVolume a_errFile a_errBytes a_errThere a_errFixed a_errRoom a_errParts a_errAfter).map (·.1)) ((FW ep a_errOp a_errVolume a_errFile a_errBytes a_errThere a_errFixed a_errRoom a_errParts a_errAfter).map (fun x=>tok enc (.iface 315 (.pointer (some x.2.2))))) ((FW ep a_errOp a_errVolume a_errFile a_errBytes a_errThere a_errFixed a_errRoom a_errParts a_errAfter).map (fun x=>.cell x.2.1 0)):=by
 refine il_ enc sp _ (fun x hx=>?_);simp only[FW,Zn,List.not_mem_nil,or_false] at hx;rcases hx with rfl | rfl | rfl | rfl | rfl | rfl | rfl | rfl | rfl | rfl
 ·exact⟨ih_,mt_,bw_ h.errOp.v0 hb⟩
 ·exact⟨lr_,pd_,bw_ h.errOp.v1 hb⟩
 ·exact⟨gS_,lw_,bw_ h.errAfter.v1 hb⟩
 ·exact⟨gb_,jM_,bw_ h.errVolume.v1 hb⟩
 ·exact⟨gQ_,lu_,bw_ h.errFixed.v1 hb⟩
 ·exact⟨gP_,lt_,bw_ h.errThere.v1 hb⟩
 ·exact⟨ij_,mv_,bw_ h.errRoom.v1 hb⟩
 ·exact⟨gR_,lv_,bw_ h.errParts.v1 hb⟩
 ·exact⟨ii_,mu_,bw_ h.errFile.v1 hb⟩
 ·exact⟨gO_,ls_,bw_ h.errBytes.v1 hb⟩
noncomputable def Ch:Nat:=(World.holding prog default ⟨#[],#[],[]⟩).heap.size
noncomputable def DH (os:Os):World:=
 let w0:=World.holding prog os ⟨#[.cells #[.string {data:=#[116,104,101,32,112,111,111,108,32,105,115,32,110,111,116,32,114,105,103,104,116]}] 335,.cells #[.string {data:=#[116,104,101,32,111,112,32,105,115,32,110,111,116,32,114,105,103,104,116]}] 335,.cells #[.string {data:=#[116,104,101,114,101,32,105,115,32,110,111,32,115,117,99,104,32,118,111,108,117,109,101]}] 335,.cells #[.string {data:=#[116,104,101,114,101,32,105,115,32,110,111,32,115,117,99,104,32,102,105,108,101]}] 335,.cells #[.string {data:=#[116,104,101,32,102,105,108,101,32,104,97,115,32,102,101,119,101,114,32,98,121,116,101,115]}] 335,.cells #[.string {data:=#[116,104,101,114,101,32,105,115,32,115,117,99,104,32,97,32,118,111,108,117,109,101]}] 335,.cells #[.string {data:=#[116,104,101,32,118,111,108,117,109,101,32,105,115,32,102,105,120,101,100]}] 335,.cells #[.string {data:=#[116,104,101,114,101,32,105,115,32,110,111,32,114,111,111,109,32,102,111,114,32,116,104,101,32,100,97,116,97]}] 335,.cells #[.string {data:=#[116,104,101,32,102,105,108,101,32,119,111,117,108,100,32,104,97,118,101,32,116,111,111,32,109,97,110,121,32,112,97,114,116,115,32,111,114,32,98,121,116,101,115]}] 335,.cells #[.string {data:=#[116,104,101,32,112,111,111,108,32,119,111,117,108,100,32,110,111,116,32,98,101,32,114,105,103,104,116]}] 335],#[],[]⟩
 {w0 with heap:=((((((((((w0.heap.modify 0 fun
   |.cells _ t frozen=>.cells #[.iface 315 (.pointer (some ⟨Ch+0,0,none⟩))] t frozen
   |o=>o).modify 1 fun
   |.cells _ t frozen=>.cells #[.iface 315 (.pointer (some ⟨Ch+1,0,none⟩))] t frozen
   |o=>o).modify 4 fun
   |.cells _ t frozen=>.cells #[.iface 315 (.pointer (some ⟨Ch+2,0,none⟩))] t frozen
   |o=>o).modify 8 fun
   |.cells _ t frozen=>.cells #[.iface 315 (.pointer (some ⟨Ch+3,0,none⟩))] t frozen
   |o=>o).modify 9 fun
   |.cells _ t frozen=>.cells #[.iface 315 (.pointer (some ⟨Ch+4,0,none⟩))] t frozen
   |o=>o).modify 6 fun
   |.cells _ t frozen=>.cells #[.iface 315 (.pointer (some ⟨Ch+5,0,none⟩))] t frozen
   |o=>o).modify 5 fun
   |.cells _ t frozen=>.cells #[.iface 315 (.pointer (some ⟨Ch+6,0,none⟩))] t frozen
   |o=>o).modify 7 fun
   |.cells _ t frozen=>.cells #[.iface 315 (.pointer (some ⟨Ch+7,0,none⟩))] t frozen
   |o=>o).modify 10 fun
   |.cells _ t frozen=>.cells #[.iface 315 (.pointer (some ⟨Ch+8,0,none⟩))] t frozen
   |o=>o).modify 2 fun
   |.cells _ t frozen=>.cells #[.iface 315 (.pointer (some ⟨Ch+9,0,none⟩))] t frozen
   |o=>o).modify 3 fun
   |.cells _ t frozen=>.cells #[.iface 220 (.agg #[.pointer (some ⟨11,64,none⟩)])] t frozen
   |o=>o}
theorem iB_ (os:Os)(args:Array Value):laidMetH prog CU ((DH os).forCall (fun _ _=>0) ⟨#[],args,[]⟩).memory:=
 laidMetH_of_parts (laidMet_of_run (ps:=[.cell 0 0,.cell (Ch+0) 0,.cell 1 0,.cell (Ch+1) 0,.cell 4 0,.cell (Ch+2) 0,.cell 8 0,.cell (Ch+3) 0,.cell 9 0,.cell (Ch+4) 0,.cell 6 0,.cell (Ch+5) 0,.cell 5 0,.cell (Ch+6) 0,.cell 7 0,.cell (Ch+7) 0,.cell 10 0,.cell (Ch+8) 0,.cell 2 0,.cell (Ch+9) 0]) 8 (by kernel_rfl) (by kernel_rfl) (by kernel_rfl)) (by kernel_rfl)
end
section
open Go Go.RowKit Go.BigFrame _root_.Go.Proofs.Tryz
theorem Ac.re {α β:Type} {cs:α->List Value} {cs':β->List Value} {sz:Nat} {t:TypeId} {w:World} {B n cap:Nat} {a:Option Addr} {l:List α} {m:List β} (h:Ac cs sz t w B a n cap l) (e:l.map cs=m.map cs'):Ac cs' sz t w B a n cap m:=by
 have hl:l.length=m.length:=by simpa using congrArg List.length e
 have hf:l.flatMap cs=m.flatMap cs':=by rw [List.flatMap_def,List.flatMap_def,e]
 refine ⟨⟨hl▸h.sl.len,fun i y hy=>?_⟩,?_⟩
 ·have h1:(l.map cs)[i]?=some (cs' y):=by rw [e];simp [hy]
  rw [List.getElem?_map] at h1
  obtain ⟨x,hx,ha⟩:=ZW.1 h1
  rw [<-ha]
  exact h.sl.cell i x hx
 ·rw [<-hf]
  exact h.own
def iq (r:IR):IQ:=⟨r.nm,r.pa,r.pn,r.pc⟩
theorem GF {B:Nat} {w:World}:∀ (rs:List IR) (l:List It),Ay B w rs l->Al2 (ItR w B) (rs.map iq) l
 |[],[],_=>.nil
 |[],_::_,h=>by have:=h.len;simp at this
 |_::_,[],h=>by have:=h.len;simp at this
 |r::rs,y::l,h=>.cons ⟨(h.at' 0 r y rfl rfl).nm,(h.at' 0 r y rfl rfl).ps⟩ (GF rs l ⟨by have:=h.len;simpa using this,fun i r y h1 h2=>h.at' (i+1) r y h1 h2⟩)
theorem Gw {B:Nat} {w:World}:∀ (rows:List VR) (l:List Vo),Av B w rows l->∃ vr:List VQ,rows.map vrs=vr.map VQ.cs∧Al2 (VoR w B) vr l∧DI vr=rows.filterMap (fun r=>AC r.pa)∧Da vr=rows.flatMap (pbk w)
 |[],[],_=>⟨[],rfl,.nil,rfl,rfl⟩
 |[],_::_,h=>by have:=h.len;simp at this
 |_::_,[],h=>by have:=h.len;simp at this
 |r::rows,y::l,h=>by
  obtain ⟨vr,e,al,e1,e2⟩:=Gw rows l ⟨by have:=h.len;simpa using this,fun i r y h1 h2=>h.at' (i+1) r y h1 h2⟩
  obtain ⟨i1,i2,i3,rs,R,T⟩:=h.at' 0 r y rfl rfl
  refine ⟨⟨r.id,r.nm,r.fx,r.pa,r.pn,r.pc,rs.map iq⟩::vr,by rw [YD,YD,e];rfl,.cons ⟨i1,i2,i3,R.re (by rw [List.map_map];rfl),GF rs _ T⟩ al,?_,?_⟩
  ·unfold DI at e1 ⊢
   simp only [List.filterMap_cons,e1]
  ·unfold Da at e2 ⊢
   rw [ZF,ZF,e2,cv_ R.sl]
   congr 1
   rw [List.filterMap_map]
   rfl
theorem DU:∀ (rows:List VR),Cn rows->(rows.filterMap fun r=>AC r.pa).Nodup
 |[],_=>List.nodup_nil
 |r::rows,h=>by
  have ih:=DU rows (fun i j a b x y hc h1 h2=>h (i+1) (j+1) a b x y (by omega) h1 h2)
  cases e:r.pa with
  |none=>
   rw [List.filterMap_cons_none (by rw [e];rfl)]
   exact ih
  |some x=>
   rw [List.filterMap_cons_some (b:=x.block) (by rw [e];rfl)]
   refine List.nodup_cons.2 ⟨fun hm=>?_,ih⟩
   obtain ⟨s,hs,hb⟩:=YQ.1 hm
   obtain ⟨y,hy,ha⟩:=ZW.1 hb
   obtain ⟨j,hj,rfl⟩:=YS hs
   exact h 0 (j+1) r rows[j] x y (by omega) rfl (by simp [hj]) e hy ha.symm
theorem Bw.k {B:Nat} {w:World} {v:Value} {p:Po} (h:Bw B w v p):Gx B w v p:=by
 obtain ⟨rows,ea,en,ec,va,vn,vc,ra,rn,rc,la,ln,lc,hv,h1,⟨h2,h3⟩,h4,h5,h6,h7,h8⟩:=h
 obtain ⟨vr,e,al,e1,e2⟩:=Gw rows p.vs h3
 exact ⟨ea,en,ec,va,vn,vc,ra,rn,rc,la,ln,lc,vr,hv,h1,h2.re e,h4,h5,h6,al,e1▸DU rows h7,e2▸h8⟩
theorem Bw.same {B:Nat} {w w':World} {v:Value} {p:Po} (h:Bw B w v p) (he:∀ b,B<=b->b<w.heap.size->w'.heap[b]?=w.heap[b]?):Bw B w' v p:=by
 obtain ⟨rows,ea,en,ec,va,vn,vc,ra,rn,rc,la,ln,lc,hv,h1,⟨h2,h3⟩,h4,h5,h6,h7,h8⟩:=h
 have g:∀ {α:Type} {cs:α->List Value} {sz:Nat} {t:TypeId} {n cap:Nat} {a:Option Addr} {l:List α},Ac cs sz t w B a n cap l->Ac cs sz t w' B a n cap l:=fun h=>h.same fun ad e=>he _ (h.block ad e).1 (h.block ad e).2
 have V:∀ r y,Bc B w r y->Bc B w' r y:=fun r y ⟨a1,a2,a3,rs,R,T⟩=>⟨a1,a2,a3,rs,g R,T.len,fun i r y q1 q2=>⟨(T.at' i r y q1 q2).nm,g (T.at' i r y q1 q2).ps⟩⟩
 refine ⟨rows,ea,en,ec,va,vn,vc,ra,rn,rc,la,ln,lc,hv,g h1,⟨g h2,h3.len,fun i r y q1 q2=>V r y (h3.at' i r y q1 q2)⟩,g h4,g h5,h6,h7,?_⟩
 have hp:rows.flatMap (pbk w')=rows.flatMap (pbk w):=by
  rw [List.flatMap_def,List.flatMap_def]
  congr 1
  refine List.map_congr_left fun r hr=>?_
  obtain ⟨y,V⟩:=h3.of_mem hr
  exact fP_ V fun rs R=>(g R).sl
 unfold NP at h8 ⊢
 rw [hp]
 exact h8
theorem EP {size:Int}:∀ {l:List Ex} {next:Int},xgo size next l=true->∀ x∈l,x.d.size<=20
 |[],_,_,x,hx=>by cases hx
 |e::r,next,h,x,hx=>by
  simp only [xgo,Aq,Zf,ZU] at h
  rcases Zn.1 hx with rfl | hx
  ·omega
  ·exact EP h.2 x hx
theorem D9 {d:ByteArray} (h:nameB d=true):d.size<=8:=by
 simp only [nameB,Zf,ZU] at h
 omega
theorem Es {o:Ow} (h:AK o=true):o.f.size<=8:=by
 simp only [AK,Zf] at h
 exact D9 h.2
theorem EL {α:Type} (f:α->Nat) (m:Nat):∀ (l:List α),(∀ x∈l,f x<=m)->(l.map f).sum<=l.length*m
 |[],_=>by simp
 |x::r,h=>by
  have h1:=h x (by simp)
  have h2:=EL f m r (fun y hy=>h y (by simp [hy]))
  simp only [YD,List.sum_cons,Zw,Yd]
  omega
theorem EG {p:Po} (hp:Aj p=true) (hd:Ax p):Gb p:=by
 have hc:=ib_ hp hd
 obtain ⟨a1,_,_,a4,a5⟩:=aQ_ hp
 obtain ⟨_,_,b3,b4⟩:=cu_ a1
 have hv:∀ v∈p.vs,v.nm.size<=8∧v.its.length<=6∧∀ x∈v.its,x.nm.size<=8∧x.ps.length<=16:=fun v hv=>by
  obtain ⟨_,_,g3,g4,g5⟩:=hc.g v hv
  exact ⟨D9 g3,g4,fun x hx=>⟨D9 (g5 x hx).1,(ae_ (g5 x hx).2).1⟩⟩
 have ha:=hc.vn
 have r1:=hc.rl
 have l1:=hc.ll
 have hR:∀ c∈p.rf,c.o.f.size<=8:=fun c h=>by
  simp only [AH,Zf] at a4
  have:=g1_ a4.2 c h
  simp only [Cp,Zf] at this
  exact Es this.1.1
 have hL:∀ c∈p.lt,c.o.f.size<=8:=fun c h=>by
  simp only [AU,Zf,List.all_eq_true] at a5
  have:=a5.2 c h
  simp only [BN,Zf] at this
  exact Es this.1.1.1
 refine ⟨⟨⟨by omega,fun x hx=>by have:=EP b4 x hx;omega⟩,⟨by omega,fun v h=>⟨by have:=(hv v h).1;omega,by have:=(hv v h).2.1;omega,fun x hx=>by have:=(hv v h).2.2 x hx;omega⟩⟩,⟨by omega,fun c h=>by have:=hR c h;omega⟩,by omega,fun c h=>by have:=hL c h;omega⟩,by omega,by omega,fun v h=>⟨by have:=(hv v h).2.1;omega,fun x hx=>by have:=((hv v h).2.2 x hx).2;omega⟩,?_,by omega,by omega⟩
 have h1:∀ v∈p.vs,3+(v.its.map fun x=>1+3*x.ps.length).sum<=300:=fun v h=>by
  have h2:=EL (fun x:It=>1+3*x.ps.length) 49 v.its (fun x hx=>by have:=((hv v h).2.2 x hx).2;omega)
  have h3:=(hv v h).2.1
  have h4:v.its.length*49<=6*49:=ZS _ h3
  omega
 have h5:=EL (fun v:Vo=>3+(v.its.map fun x=>1+3*x.ps.length).sum) 300 p.vs h1
 have h6:p.vs.length*300<=7*300:=ZS _ ha
 unfold nVs
 omega
theorem EW:Gb ⟨0,0,[],[],[],[]⟩:=by
 refine ⟨⟨⟨by simp,by simp⟩,⟨by simp,by simp⟩,⟨by simp,by simp⟩,by simp,by simp⟩,by simp,by simp,by simp,by simp [nVs],by simp,by simp⟩
def Cz (x:Nat->Value) (D:List Nat) (a:Act):Act:=D.foldl (fun b k=>b.put (some k) (x k)) a
def FU (D:List Nat) (a0:Act) (Φ:(Nat->Value)->World->Prop):Exit->Act->World->Prop:=fun e a u=>e=.normal∧∃ x,a=Cz x D a0∧Φ x u
theorem Dw {P:Program} {l:List Oper} {Q:Exit->Act->World->Prop} {id:Nat} {a0:Act} {w:World} (S:World->Prop) (n:Nat) (D:List Nat) (Φ:(Nat->Value)->World->Prop) (hSB:∀ u,Below w.heap.size w u->S u)
  (h1:(∀ u,Below w.heap.size w u->S u)->∀ u,Below w.heap.size w u->S u->wpAnyH P .any l.toArray (FU D a0 Φ) S n (Array.replicate n false) a0 u) (h2:∀ x u,Φ x u->Q .normal (Cz x D a0) u) (hm:P.follows .mixedOrders=true:=by kernel_rfl) (hn:l.toArray.size=n:=by rfl):(Code.region id l.toArray true).wp P Q a0 w:=by
 subst hn
 refine Code.wp_mono ?_ (wp_region_held (S:=S) hm (h1 hSB _ ((Yg _ _).drew) (hSB _ ((Yg _ _).drew))))
 rintro e a u ⟨rfl,x,rfl,hx⟩
 exact h2 x u hx
theorem Gp {D:List Nat} {a0 a:Act} {Φ:(Nat->Value)->World->Prop} {u:World} (hΦ:Φ (fun k=>a.eval (.tmp k)) u) (hA:a=Cz (fun k=>a.eval (.tmp k)) D a0:=by simp only [Cz,YE,List.foldl_nil,Act.put,Act.eval,lsA,lsB,lsC,Array.getD_eq_getD_getElem?,lgA,lgB,lgC,Yw]):FU D a0 Φ .normal a u:=⟨rfl,_,hA,hΦ⟩
theorem tkc {P:Program} {D:List Nat} {a0:Act} {Φ:(Nat->Value)->World->Prop} {md:Region.Mode} {S:World->Prop} {l:List Oper} (i:Nat) {oi:Oper} {v:Value} {fuel:Nat} {listed li:Array Bool} {a b:Act} {w:World} (h:wpAnyH P md l.toArray (FU D a0 Φ) S fuel li b w) (hi:l[i]?=some oi:=by rfl)
  (hB:(Region.noSelect l.toArray&&Region.free md l.toArray listed i&&(Region.ready md l.toArray listed).contains i)=true:=by kernel_rfl) (hw:Region.wanted oi (yielded l.toArray a.tmps)=true:=by rfl)
  (hy:∀ w,S w->(execOp a.eval oi).run P w=.ok (.value v) w:=by (intro u hu;(try dsimp only at hu);go_simp<;>with_reducible rfl)) (hS:S w:=by first | assumption | trivial)
  (hl:listed.setIfInBounds i true=li:=by (try simp only [lsA,lsB,lsC]);rfl) (ha:a.put oi.dst v=b:=by (try simp only [Act.put,lsA,lsB,lsC]);rfl):wpAnyH P md l.toArray (FU D a0 Φ) S (fuel+1) listed a w:=by
 subst hl ha
 simp only [Zf] at hB
 exact GJ hi hB.1.1 hB.1.2 hB.2 (fun c _ w h=>by cases h.1) (.inl ⟨hw,hy⟩) hS h
theorem HE {P:Program} {Q:Exit->Act->World->Prop} {md:Region.Mode} {S:World->Prop} {l:List Oper} (i j:Nat) {o o':Oper} {fuel:Nat} {listed:Array Bool} {a:Act} {w:World}
  (h:∀ K':Act->World->Prop,Shut (∀ a w,S w->(S w->wpAnyH P md l.toArray Q S fuel (listed.setIfInBounds i true) a w)->K' a w)->if Region.wanted o (yielded l.toArray a.tmps)=true then Oper.wp P o a w K' Q else K' (a.put o.dst undef) w)
  (h':∀ K':Act->World->Prop,Shut (∀ a w,S w->(S w->wpAnyH P md l.toArray Q S fuel (listed.setIfInBounds j true) a w)->K' a w)->if Region.wanted o' (yielded l.toArray a.tmps)=true then Oper.wp P o' a w K' Q else K' (a.put o'.dst undef) w)
  (hr:Region.ready md l.toArray listed=[i,j]:=by kernel_rfl) (hi:l[i]?=some o:=by rfl) (hj:l[j]?=some o':=by rfl) :
  wpAnyH P md l.toArray Q S (fuel+1) listed a w:=
 wpAnyH_ready hr (by simp) (AllReadyH.cons (by simpa using hi) h (AllReadyH.cons (by simpa using hj) h' AllReadyH.nil))
theorem EZ {P:Program} {Q:Exit->Act->World->Prop} {md:Region.Mode} {S:World->Prop} {l:List Oper} (i:Nat) {o:Oper} {fuel:Nat} {listed:Array Bool} {a:Act} {w:World}
  (h:∀ K':Act->World->Prop,Shut (∀ a w,S w->(S w->wpAnyH P md l.toArray Q S fuel (listed.setIfInBounds i true) a w)->K' a w)->if Region.wanted o (yielded l.toArray a.tmps)=true then Oper.wp P o a w K' Q else K' (a.put o.dst undef) w)
  (hr:Region.ready md l.toArray listed=[i]:=by kernel_rfl) (hi:l[i]?=some o:=by rfl):wpAnyH P md l.toArray Q S (fuel+1) listed a w:=A7 hr hi h
theorem al6 {W u:World} (hU:Below W.heap.size W u):∃ ab U,ab=u.heap.size∧U=u.alloc (.cells #[.int .i64 0,.int .i64 0,.slice none 0 0,.slice none 0 0,.slice none 0 0,.slice none 0 0] 35)∧Blk U ab #[.int .i64 0,.int .i64 0,.slice none 0 0,.slice none 0 0,.slice none 0 0,.slice none 0 0] 35∧Below u.heap.size u U∧Below W.heap.size W U∧Hid (W.heap.size<=ab):=
 ⟨_,_,rfl,rfl,Blk.new _ _ _,(Yg _ _).alloc (Zd _) _,Aa hU ((Yg _ _).alloc (Zd _) _),hU.size⟩
def PhQ (xa xc:Nat) (c:Int) (q:Po) (W:World) (R:World->Value->Prop) (x:Nat->Value) (u:World):Prop:=∃ ab a b d e f g i j k l m n,x xa=.pointer (some ⟨ab,0,none⟩)∧x xc=.int .i64 c∧Blk u ab #[.int .i64 q.size,.int .i64 q.next,.slice a b d,.slice e f g,.slice i j k,.slice l m n] 35∧R u (.agg #[.int .i64 q.size,.int .i64 q.next,.slice a b d,.slice e f g,.slice i j k,.slice l m n])∧Below W.heap.size W u∧W.heap.size<=ab
theorem GE {D:List Nat} {a0 A:Act} {xa xc:Nat} {z:Int} {q:Po} {W u:World} {R:World->Value->Prop} {ab:Nat} {a e i l:Option Addr} {b d f g j k m n:Nat} (E:Blk u ab #[.int .i64 q.size,.int .i64 q.next,.slice a b d,.slice e f g,.slice i j k,.slice l m n] 35) (r:R u (.agg #[.int .i64 q.size,.int .i64 q.next,.slice a b d,.slice e f g,.slice i j k,.slice l m n])) (hU:Below W.heap.size W u) (h:Hid (W.heap.size<=ab))
  (h1:A.eval (.tmp xa)=.pointer (some ⟨ab,0,none⟩):=by simp only [Act.eval,Array.getD_eq_getD_getElem?,lgA,lgB,lgC,Yw]) (h2:A.eval (.tmp xc)=.int .i64 z:=by simp only [Act.eval,Array.getD_eq_getD_getElem?,lgA,lgB,lgC,Yw])
  (hA:A=Cz (fun k=>A.eval (.tmp k)) D a0:=by simp only [Cz,YE,List.foldl_nil,Act.put,Act.eval,lsA,lsB,lsC,Array.getD_eq_getD_getElem?,lgA,lgB,lgC,Yw]):FU D a0 (PhQ xa xc z q W R) .normal A u:=⟨rfl,_,hA,ab,a,b,d,e,f,g,i,j,k,l,m,n,h1,h2,E,r,hU,h.out⟩
theorem Ai.put {B:Nat} {w w':World} {v:Value} {p:Po} {b:Nat} {c:Array Value} (h:Ai B w v p) (hg:w.grownBy w' (some b)) (hb:Blk w b c 35):Ai 0 w' v p:=(h.tyP hg (aa_ hb)).mono (Zg _)
theorem Bw.put {B B':Nat} {w w':World} {v:Value} {p:Po} {b:Nat} {c:Array Value} (h:Bw B w v p) (hB:B'<=B) (hg:w.grownBy w' (some b)) (hb:Blk w b c 35):Bw B' w' v p:=by
 obtain ⟨rows,h⟩:=h
 exact ⟨rows,(h.tyP hg (aa_ hb)).mono hB⟩
theorem Blk.lo {B k:Nat} {w w':World} {c:Array Value} {t:TypeId} (h:Blk w k c t) (hb:Below B w w') (hk:k<B):Blk w' k c t:=by
 unfold Blk
 rw [hb.block _ hk]
 exact h
theorem Fr.belowOf {w w1 w2:World} {B0 T n:Nat} (hF:Fr B0 T w1 w2) (h:Below n w w1) (hn:n<=B0) (hs:n<=w1.heap.size):Below n w w2:=
 ⟨by rw [hF.os,h.os],by rw [hF.tape,h.tape],by rw [hF.output,h.output],Zl h.size hF.size,fun k hk=>by rw [hF.blk k (by omega) (.inl (by omega)),h.block k hk]⟩
theorem EU (o:Opr) (w:World) :
  Calls prog 9 #[.agg #[.int .i64 o.k,.string o.vol,.string o.file,.string o.to,.string o.into,.int .i64 o.at',.int .i64 o.fr,.int .i64 o.ln,.string o.data]] w fun e w'=>e=.returned (.agg #[.int .i64 o.k,.string o.vol,.string o.file,.string o.to,.string o.into,.int .i64 o.at',.int .i64 o.fr,.int .i64 o.ln,.string o.data])∧Below w.heap.size w w':=by
 go_enter func9,ntmps9
 go_wp2
 go_returns
 go_light
 exact ⟨rfl,by go_grown⟩
end
section
open Go Go.ChangeShapes Go.WideShapes Go.ChangeAt Go.RowKit Go.Deep Go.Joins Go.BigFrame _root_.Go.Proofs.Tryz
theorem Bz {P:Program} {x y:String×DataW Unit} {r:List (String×DataW Unit)} {w:World} (h:laidMet P (x::y::r) w):laidMet P (x::r) w:=by
 obtain ⟨ps,hv,hnd,ha⟩:=h
 obtain ⟨n,d⟩:=x
 obtain ⟨m,d2⟩:=y
 obtain ⟨g,t,cs,fuel,p,q,a1,a2,a3,a4,⟨g2,t2,cs2,fuel2,p2,q2,_,_,_,_,b5,rfl⟩,rfl⟩:=hv
 have hs:(MemPlace.row ⟨g,0,none⟩ cs.size++p++q2).Sublist (MemPlace.row ⟨g,0,none⟩ cs.size++p++(MemPlace.row ⟨g2,0,none⟩ cs2.size++p2++q2)):=(List.Sublist.refl _).append (List.sublist_append_right _ _)
 exact ⟨_,⟨g,t,cs,fuel,p,q2,a1,a2,a3,a4,b5,rfl⟩,hnd.sublist hs,fun b off hm=>ha b off (hs.subset hm)⟩
theorem Hu:ownKnob prog.godebug=none:=by kernel_rfl
theorem GH:"*"++"errors.errorString"="*errors.errorString":=by decide
theorem Hx (u:TypeId) (h:prog.typeName? 3 u=some "*errors.errorString"):u=315:=
 typeName_ptr_named (nm:="errors.errorString") (by rw [GH];kernel_rfl) (by kernel_rfl) (by decide) u (by rw [GH];exact h)
theorem GR:prog.cellsOf 335=1:=by kernel_rfl
theorem Gs:prog.cellsOf 9=1:=by kernel_rfl
theorem Cj {W:World} {n0 n1:String} {text0 text1:List UInt8} {r:List (String×DataW Unit)} {g0 g1:Nat} (h:laidMet prog ((n0,.iface "*errors.errorString" (.ptr (.agg [.lit (.string text0)])))::(n1,.iface "*errors.errorString" (.ptr (.agg [.lit (.string text1)])))::r) W) (hg0:prog.globalNamed n0=some g0) (ht0:(prog.globals[g0]?).map (·.type)=some 64) (hg1:prog.globalNamed n1=some g1) (ht1:(prog.globals[g1]?).map (·.type)=some 64):∃ a0 a1,Two W n0 n1 a0 a1:=by
 obtain ⟨a0,a1,s0,s1,c0,c1,t0,t1,he,hf,hg,hj,hl,hh,hk,hm,hc,ha,hb⟩:=laid_sentinels2 h hg0 ht0 hg1 ht1 underlying64 Hx underlying315 underlying335 rfl rfl underlying9 GR Gs
 exact ⟨a0,a1,he,hf,hc,⟨c0,t0,ha⟩,⟨c1,t1,hb⟩⟩
theorem GM {W:World} (h:laidMetH prog CU W):∃ ep a_errOp a_errVolume a_errFile a_errBytes a_errThere a_errFixed a_errRoom a_errParts a_errAfter,Ten W ep a_errOp a_errVolume a_errFile a_errBytes a_errThere a_errFixed a_errRoom a_errParts a_errAfter:=by
 have h':laidMet prog Ef W∧handlesMet prog [("errors.errorType",Rows.laid_errors_errorType)] W:=h
 have q1:=h'.1
 unfold Ef at q1
 obtain ⟨e0,a_errOp,ha⟩:=Cj q1 ih_ mt_ lr_ pd_
 replace q1:=Bz q1
 obtain ⟨e1,a_errVolume,hb⟩:=Cj q1 ih_ mt_ gb_ jM_
 replace q1:=Bz q1
 obtain ⟨e2,a_errFile,hj⟩:=Cj q1 ih_ mt_ ii_ mu_
 replace q1:=Bz q1
 obtain ⟨e3,a_errBytes,he⟩:=Cj q1 ih_ mt_ gO_ ls_
 replace q1:=Bz q1
 obtain ⟨e4,a_errThere,hh⟩:=Cj q1 ih_ mt_ gP_ lt_
 replace q1:=Bz q1
 obtain ⟨e5,a_errFixed,hf⟩:=Cj q1 ih_ mt_ gQ_ lu_
 replace q1:=Bz q1
 obtain ⟨e6,a_errRoom,hk⟩:=Cj q1 ih_ mt_ ij_ mv_
 replace q1:=Bz q1
 obtain ⟨e7,a_errParts,hg⟩:=Cj q1 ih_ mt_ gR_ lv_
 replace q1:=Bz q1
 obtain ⟨e8,a_errAfter,hc⟩:=Cj q1 ih_ mt_ gS_ lw_
 obtain rfl:=ha.same hb
 obtain rfl:=ha.same hj
 obtain rfl:=ha.same he
 obtain rfl:=ha.same hh
 obtain rfl:=ha.same hf
 obtain rfl:=ha.same hk
 obtain rfl:=ha.same hg
 obtain rfl:=ha.same hc
 exact ⟨_,a_errOp,a_errVolume,a_errFile,a_errBytes,a_errThere,a_errFixed,a_errRoom,a_errParts,a_errAfter,ha,hb,hj,he,hh,hf,hk,hg,hc⟩
theorem Eu:laidOutB prog=true:=by kernel_rfl
end
section
open Go Go.RowKit Go.BigFrame _root_.Go.Proofs.Tryz
def opC (p:Opr):List Value:=[.int .i64 p.k,.string p.vol,.string p.file,.string p.to,.string p.into,.int .i64 p.at',.int .i64 p.fr,.int .i64 p.ln,.string p.data]
theorem Dx {w:World} {a:Option Addr} {n:Nat} {l:List Opr} (h:As opC 9 w a n l) {k:Nat} (hk:k<n):∃ b o p,a=some ⟨b,o,none⟩∧l[k]?=some p∧w.cell? ⟨b,o+k*9,none⟩=some (.int .i64 p.k)∧w.cell? ⟨b,o+k*9+1,none⟩=some (.string p.vol)∧w.cell? ⟨b,o+k*9+2,none⟩=some (.string p.file)∧w.cell? ⟨b,o+k*9+3,none⟩=some (.string p.to)∧w.cell? ⟨b,o+k*9+4,none⟩=some (.string p.into)∧w.cell? ⟨b,o+k*9+5,none⟩=some (.int .i64 p.at')∧w.cell? ⟨b,o+k*9+6,none⟩=some (.int .i64 p.fr)∧w.cell? ⟨b,o+k*9+7,none⟩=some (.int .i64 p.ln)∧w.cell? ⟨b,o+k*9+8,none⟩=some (.string p.data):=by
 have hl:k<l.length:=by rw [h.len];exact hk
 obtain ⟨b,o,ha,hc⟩:=h.cell k l[k] (by simp [hl])
 exact ⟨b,o,l[k],ha,by simp [hl],hc 0 _ rfl,hc 1 _ rfl,hc 2 _ rfl,hc 3 _ rfl,hc 4 _ rfl,hc 5 _ rfl,hc 6 _ rfl,hc 7 _ rfl,hc 8 _ rfl⟩
theorem Hi (o:Opr) (r:Int) (w:World) (hs:Bu o) (h0:0<=r) (h1:r<=1048576) :
  Calls prog 6 #[.agg #[.int .i64 o.k,.string o.vol,.string o.file,.string o.to,.string o.into,.int .i64 o.at',.int .i64 o.fr,.int .i64 o.ln,.string o.data],.int .i64 r] w fun e w'=>(∃ r:Int,e=.returned (.int .i64 r)∧r<=1048576)∧Below w.heap.size w w':=by
 have hv:=hs.vol
 have hf:=hs.file
 have ht:=hs.to
 have hi:=hs.into
 have hd:=hs.data
 clear hs
 go_enter func6,ntmps6
 go_wp2
 all_goals go_returns
 all_goals go_light
 all_goals exact ⟨⟨_,rfl,by omega⟩,by go_grown⟩
theorem G9 (a:Option Addr) (n cap:Nat) (l:List Opr) (L:Int) (w:World) (h:As opC 9 w a n l) (hstr:∀ o∈l,Bu o) (hn:n<=9223372036854775807) (hL0:0<=L) (hL:L<=1048576) :
  Calls prog 14 #[.slice a n cap,.int .i64 L] w fun e w'=>(∃ r:Int,e=.returned (.int .i64 r)∧(r=-1∨(0<=r∧n<=1048576)))∧Below w.heap.size w w':=by
 by_cases hb:L-(n:Int)<0
 ·go_enter func14,ntmps14
  go_wp2
  go_returns
  go_light
  exact ⟨⟨_,rfl,.inl rfl⟩,Yg _ _⟩
 ·go_enter func14,ntmps14
  go_wp2_with fail
  go_loopw [1,5] (fun lf ix wr=>∃ (k:Nat) (r:Int),k<=n∧ix=.int .i64 k∧lf=.int .i64 r∧0<=r∧r<=1048576∧Below w.heap.size w wr) (fun _ ix _=>n-(intOf ix).toNat)
  case atStart=>exact ⟨0,_,Zg _,rfl,rfl,by omega,by omega,Yg _ _⟩
  case round=>
   obtain ⟨k,r,hk,rfl,rfl,hc,he,hB⟩:=hrel
   by_cases hlt:k<n
   ·obtain ⟨b,o,p,rfl,hp,c0,c1,c2,c3,c4,c5,c6,c7,c8⟩:=Dx (h.below hB) hlt
    have hf:=hstr p (Zc hp)
    clear hp
    go_wp2_with fail
    refine (Hi p r _ hf hc he).mono ?_
    rintro e w1 ⟨⟨r2,rfl,hg⟩,ha⟩
    by_cases hs:r2<0
    ·go_wp2
     go_returns
     go_light
     exact ⟨⟨_,rfl,.inl rfl⟩,Aa hB ha⟩
    ·go_wp2
     go_roundw
     case rel=>exact ⟨k+1,r2,by omega,by go_num,rfl,by omega,by omega,Aa hB ha⟩
     case measure=>simp [intOf];omega
   ·obtain rfl:k=n:=by omega
    go_wp2
    go_returns
    go_light
    exact ⟨⟨_,rfl,.inr ⟨hc,by omega⟩⟩,hB⟩
theorem Hn (o:Opr) (w:World):Calls prog 46 #[.agg #[.int .i64 o.k,.string o.vol,.string o.file,.string o.to,.string o.into,.int .i64 o.at',.int .i64 o.fr,.int .i64 o.ln,.string o.data],.agg #[.int .i64 o.k,.string o.vol,.string o.file,.string o.to,.string o.into,.int .i64 o.at',.int .i64 o.fr,.int .i64 o.ln,.string o.data]] w fun e w'=>e=.returned (.bool true)∧Below w.heap.size w w':=by
 go_enter func46,ntmps46
 go_wp2
 all_goals go_returns
 all_goals go_light
 all_goals refine ⟨ac_ ?_,by go_grown⟩
 all_goals simp_all
theorem Hk (a:Option Addr) (n cap:Nat) (a':Option Addr) (cap':Nat) (l:List Opr) (w:World) (h:As opC 9 w a n l) (h':As opC 9 w a' n l) (hn:n<=4194304) :
  Calls prog 19 #[.slice a n cap,.slice a' n cap'] w fun e w'=>e=.returned (.bool true)∧Below w.heap.size w w':=by
 have hb:((n:Int) != (n:Int))=false:=by simp
 go_enter func19,ntmps19
 go_wp2_with fail
 go_loopw [5] (fun ix wr=>∃ (k:Nat),k<=n∧ix=.int .i64 k∧Below w.heap.size w wr) (fun ix _=>n-(intOf ix).toNat)
 case atStart=>exact ⟨0,Zg _,rfl,Yg _ _⟩
 case round=>
  obtain ⟨k,hk,rfl,hB⟩:=hrel
  by_cases hlt:k<n
  ·obtain ⟨b,o,p,rfl,hp,c0,c1,c2,c3,c4,c5,c6,c7,c8⟩:=Dx (h.below hB) hlt
   obtain ⟨b',o',q,rfl,hq,d0,d1,d2,d3,d4,d5,d6,d7,d8⟩:=Dx (h'.below hB) hlt
   obtain rfl:=Zi (hp.symm.trans hq)
   clear hp hq
   have hc:(k:Int)<n:=by omega
   have he:(0:Int)<=k:=by omega
   go_wp2_with fail
   have g0:=Ad c0
   have j0:=Ad d0
   have g1:=Ad c1
   have j1:=Ad d1
   have g2:=Ad c2
   have j2:=Ad d2
   have g3:=Ad c3
   have j3:=Ad d3
   have g4:=Ad c4
   have j4:=Ad d4
   have g5:=Ad c5
   have j5:=Ad d5
   have g6:=Ad c6
   have j6:=Ad d6
   have g7:=Ad c7
   have j7:=Ad d7
   have g8:=Ad c8
   have j8:=Ad d8
   have hf:=aA_ wr
   refine ab_ (by kernel_rfl) (by kernel_rfl) ?_
   repeat (go_big_quiet_step (first | (go_at_call 46;exact an_ (Hn p _))))
   refine wpQuiet_nil ?_
   intro w2 hx
   have ha:=ah_ hx
   clear hx
   go_wp2
   go_roundw
   case rel=>exact ⟨k+1,by omega,by go_num,Aa hB ha⟩
   case measure=>simp [intOf];omega
  ·obtain rfl:k=n:=by omega
   go_wp2
   go_returns
   go_light
   exact ⟨rfl,hB⟩
theorem EM (a:Option Addr) (n cap:Nat) (l:List Opr) (w:World) (h:As opC 9 w a n l) (hn:n<=1048576) :
  Calls prog 16 #[.slice a n cap] w fun e w'=>e=.returned (.slice (some ⟨w.heap.size,0,none⟩) n n)∧Bk opC 9 39 w' w.heap.size n l∧Below w.heap.size w w':=by
 have he:Hid (l.length=n):=h.len
 have hc:(prog.info? 39).map (fun i=>(i.zero,i.size,i.bytes))=some (some (.agg #[.int .i64 0,.string .empty,.string .empty,.string .empty,.string .empty,.int .i64 0,.int .i64 0,.int .i64 0,.string .empty]),9,112):=by kernel_rfl
 obtain ⟨i0,hi,hl,ho,hr⟩:=info_parts hc
 have ht:∀ u:World,(Instr.makeSlice 49 (.int .i64 (n:Int)) (.int .i64 (n:Int))).run prog u =
   .ok (.slice (some ⟨u.heap.size,0,none⟩) n n) (u.alloc (.cells (madeCells #[.int .i64 0,.string .empty,.string .empty,.string .empty,.string .empty,.int .i64 0,.int .i64 0,.int .i64 0,.string .empty] (n*9)) 39)):=fun u=>by
  have hm:=run_make (P:=prog) u 49 39 i0 (.agg #[.int .i64 0,.string .empty,.string .empty,.string .empty,.string .empty,.int .i64 0,.int .i64 0,.int .i64 0,.string .empty]) underlying49 hi hl .i64 .i64 (n:Int) (n:Int) (by omega) (YB _) (by rw [hr];omega) (by omega)
  simpa [ho,Value.cells] using hm
 clear hc hi hl ho hr
 go_enter func16,ntmps16
 go_wp2_with fail
 go_loopw [4] (fun ix wr=>∃ (k:Nat) (c:Array Value),k<=n∧ix=.int .i64 k∧Blk wr w.heap.size c 39∧Hid (c.size=n*9)∧Hid (∀ i p,i<k->l[i]?=some p->∀ j v,(opC p)[j]?=some v->c[i*9+j]?=some v)∧Below w.heap.size w wr) (fun ix _=>n-(intOf ix).toNat)
 case atStart=>exact ⟨0,_,Zg _,rfl,Blk.new _ _ _,size_madeCells _ _,fun i p hi=>by omega,(Yg _ _).alloc (Zd _) _⟩
 case round=>
  obtain ⟨k,c,hk,rfl,hf,hb,hh,hB⟩:=hrel
  by_cases hlt:k<n
  ·obtain ⟨b,o,p,rfl,hp,c0,c1,c2,c3,c4,c5,c6,c7,c8⟩:=Dx (h.below hB) hlt
   have hu:Hid (l[k]?=some p):=hp
   clear hp ht
   go_wp2_with fail
   refine (EU p _).mono ?_
   rintro e w1 ⟨rfl,hg⟩
   have ha:=hf.below hg
   have hw:=hB.size
   have f0:=ha.frozen (k*9)
   obtain ⟨v0,y0⟩:=ha.has (i:=k*9) (by rw [hb.out];omega)
   have f1:=ha.frozen (k*9+1)
   obtain ⟨v1,y1⟩:=ha.has (i:=k*9+1) (by rw [hb.out];omega)
   have f2:=ha.frozen (k*9+2)
   obtain ⟨v2,y2⟩:=ha.has (i:=k*9+2) (by rw [hb.out];omega)
   have f3:=ha.frozen (k*9+3)
   obtain ⟨v3,y3⟩:=ha.has (i:=k*9+3) (by rw [hb.out];omega)
   have f4:=ha.frozen (k*9+4)
   obtain ⟨v4,y4⟩:=ha.has (i:=k*9+4) (by rw [hb.out];omega)
   have f5:=ha.frozen (k*9+5)
   obtain ⟨v5,y5⟩:=ha.has (i:=k*9+5) (by rw [hb.out];omega)
   have f6:=ha.frozen (k*9+6)
   obtain ⟨v6,y6⟩:=ha.has (i:=k*9+6) (by rw [hb.out];omega)
   have f7:=ha.frozen (k*9+7)
   obtain ⟨v7,y7⟩:=ha.has (i:=k*9+7) (by rw [hb.out];omega)
   have f8:=ha.frozen (k*9+8)
   obtain ⟨v8,y8⟩:=ha.has (i:=k*9+8) (by rw [hb.out];omega)
   go_wp2
   go_roundw
   case rel=>
    refine ⟨k+1,_,by omega,by go_num,((((((((ha.set _ _).set _ _).set _ _).set _ _).set _ _).set _ _).set _ _).set _ _).set _ _,by show _=_;simp [hb.out],?_,?_⟩
    ·intro i q hi hq
     have hs:=hb.out
     by_cases hik:i=k
     ·subst hik
      obtain rfl:p=q:=by rw [hu.out] at hq;exact Zi hq
      intro j v hv
      match j,hv with
      |0,hv=>obtain rfl:=Zi hv;(simp [Yn];omega)
      |1,hv=>obtain rfl:=Zi hv;(simp [Yn];omega)
      |2,hv=>obtain rfl:=Zi hv;(simp [Yn];omega)
      |3,hv=>obtain rfl:=Zi hv;(simp [Yn];omega)
      |4,hv=>obtain rfl:=Zi hv;(simp [Yn];omega)
      |5,hv=>obtain rfl:=Zi hv;(simp [Yn];omega)
      |6,hv=>obtain rfl:=Zi hv;(simp [Yn];omega)
      |7,hv=>obtain rfl:=Zi hv;(simp [Yn];omega)
      |8,hv=>obtain rfl:=Zi hv;(simp [Yn];omega)
      |j+9,hv=>simp [opC] at hv
     ·intro j v hv
      have hj:j<9:=by have:=(Zb.1 hv).1;exact this
      have:=hh.out i q (by omega) hq j v hv
      rw [Za (by omega),Za (by omega),Za (by omega),Za (by omega),Za (by omega),Za (by omega),Za (by omega),Za (by omega),Za (by omega)]
      exact this
    ·exact (((((((((Aa hB hg).setCell (by simp) _).setCell (by simp) _).setCell (by simp) _).setCell (by simp) _).setCell (by simp) _).setCell (by simp) _).setCell (by simp) _).setCell (by simp) _).setCell (by simp) _
   case measure=>simp [intOf];omega
  ·obtain rfl:k=n:=by omega
   go_wp2
   go_returns
   go_light
   refine ⟨rfl,⟨he.out,c,hf,Zm hb.out.symm,?_⟩,hB⟩
   intro i x hx
   have hi:i<k:=by have:=(Zb.1 hx).1;rw [he.out] at this;exact this
   exact hh.out i x hi hx
theorem FV (B:Nat) (hB0:0<B) (a:Option Addr) (n cap:Nat) (l:List Opr) (kz:Int) (w0 w1:World) (h:As opC 9 w0 a n l) (sf:Sf B w0 a) (hK:Kp B w0 w1) (hn:n<=4194304) (h1:1<=kz) (h2:kz<=4500000000000000000) :
  Calls prog 20 #[.slice a n cap,.int .i64 kz] w1 fun e w'=>(∃ k':Int,e=.returned (.int .i64 k')∧kz<=k'∧k'<=kz+9*n)∧Kp B w0 w'∧Fr B w0.heap.size w1 w':=by
 go_enter func20,ntmps20
 go_wp2_with fail
 go_loopw [1,5] (fun kk ix wr=>∃ (i:Nat) (k:Int),i<=n∧ix=.int .i64 i∧kk=.int .i64 k∧kz<=k∧k<=kz+9*i∧Kp B w0 wr∧Fr B w0.heap.size w1 wr) (fun _ ix _=>n-(intOf ix).toNat)
 case atStart=>exact ⟨0,kz,Zg _,rfl,rfl,by omega,by omega,hK,Fr.refl _ _ _⟩
 case round=>
  obtain ⟨i,k,hi,rfl,rfl,hm,ho,K,F⟩:=hrel
  by_cases hlt:i<n
  ·obtain ⟨b,o,p,rfl,hp,c0,c1,c2,c3,c4,c5,c6,c7,c8⟩:=Dx h hlt
   obtain ⟨⟨c,t,hb⟩,ha,hc,f0,v0,y0,_⟩:=K.at hB0 sf c0
   have hk:(i:Int)<n:=by omega
   have hl:(0:Int)<=i:=by omega
   have K1:=(K.set hb c0 (x:=.int .i64 k) ⟨_,rfl⟩)
   have F1:=(F.set (j:=o+i*9) (x:=.int .i64 k) ha hc)
   clear hp K F
   go_wp2_with fail
   generalize wr.setCell ⟨b,o+i*9,none⟩ (.int .i64 k)=U1 at *
   refine (b3_ (k+1) _ (by omega) (by omega)).mono ?_
   rintro e w2 ⟨⟨s1,rfl⟩,he⟩
   replace K1:=K1.below he
   replace F1:=F1.below he
   obtain ⟨_,_,_,f1,v1,y1,_⟩:=K1.at hB0 sf c1
   have K2:=(K1.set hb c1 (x:=.string s1) ⟨_,rfl⟩)
   have F2:=(F1.set (j:=o+i*9+1) (x:=.string s1) ha hc)
   clear K1 F1 he
   go_wp2_with fail
   generalize w2.setCell ⟨b,o+i*9+1,none⟩ (.string s1)=U2 at *
   have K1:=K2
   have F1:=F2
   clear K2 F2 f1 y1
   refine (b3_ (k+1+1) _ (by omega) (by omega)).mono ?_
   rintro e w3 ⟨⟨s2,rfl⟩,hf⟩
   replace K1:=K1.below hf
   replace F1:=F1.below hf
   obtain ⟨_,_,_,f2,v2,y2,_⟩:=K1.at hB0 sf c2
   have K2:=(K1.set hb c2 (x:=.string s2) ⟨_,rfl⟩)
   have F2:=(F1.set (j:=o+i*9+2) (x:=.string s2) ha hc)
   clear K1 F1 hf
   go_wp2_with fail
   generalize w3.setCell ⟨b,o+i*9+2,none⟩ (.string s2)=U3 at *
   have K1:=K2
   have F1:=F2
   clear K2 F2 f2 y2
   refine (b3_ (k+1+1+1) _ (by omega) (by omega)).mono ?_
   rintro e w4 ⟨⟨s3,rfl⟩,hg⟩
   replace K1:=K1.below hg
   replace F1:=F1.below hg
   obtain ⟨_,_,_,f3,v3,y3,_⟩:=K1.at hB0 sf c3
   have K2:=(K1.set hb c3 (x:=.string s3) ⟨_,rfl⟩)
   have F2:=(F1.set (j:=o+i*9+3) (x:=.string s3) ha hc)
   clear K1 F1 hg
   go_wp2_with fail
   generalize w4.setCell ⟨b,o+i*9+3,none⟩ (.string s3)=U4 at *
   have K1:=K2
   have F1:=F2
   clear K2 F2 f3 y3
   refine (b3_ (k+1+1+1+1) _ (by omega) (by omega)).mono ?_
   rintro e w5 ⟨⟨s4,rfl⟩,hh⟩
   replace K1:=K1.below hh
   replace F1:=F1.below hh
   obtain ⟨_,_,_,f4,v4,y4,_⟩:=K1.at hB0 sf c4
   obtain ⟨_,_,_,f5,v5,y5,_⟩:=K1.at hB0 sf c5
   obtain ⟨_,_,_,f6,v6,y6,_⟩:=K1.at hB0 sf c6
   obtain ⟨_,_,_,f7,v7,y7,_⟩:=K1.at hB0 sf c7
   have K2:=((((K1.set hb c4 (x:=.string s4) ⟨_,rfl⟩).set hb c5 (x:=.int .i64 (k+1+1+1+1+1)) ⟨_,rfl⟩).set hb c6 (x:=.int .i64 (k+1+1+1+1+1+1)) ⟨_,rfl⟩).set hb c7 (x:=.int .i64 (k+1+1+1+1+1+1+1)) ⟨_,rfl⟩)
   have F2:=((((F1.set (j:=o+i*9+4) (x:=.string s4) ha hc).set (j:=o+i*9+5) (x:=.int .i64 (k+1+1+1+1+1)) ha hc).set (j:=o+i*9+6) (x:=.int .i64 (k+1+1+1+1+1+1)) ha hc).set (j:=o+i*9+7) (x:=.int .i64 (k+1+1+1+1+1+1+1)) ha hc)
   clear K1 F1 hh
   go_wp2_with fail
   generalize (((w5.setCell ⟨b,o+i*9+4,none⟩ (.string s4)).setCell ⟨b,o+i*9+5,none⟩ (.int .i64 (k+1+1+1+1+1))).setCell ⟨b,o+i*9+6,none⟩ (.int .i64 (k+1+1+1+1+1+1))).setCell ⟨b,o+i*9+7,none⟩ (.int .i64 (k+1+1+1+1+1+1+1))=U5 at *
   have K1:=K2
   have F1:=F2
   clear K2 F2 f4 y4 f5 y5 f6 y6 f7 y7
   refine (b3_ (k+1+1+1+1+1+1+1+1) _ (by omega) (by omega)).mono ?_
   rintro e w8 ⟨⟨s8,rfl⟩,hj⟩
   replace K1:=K1.below hj
   replace F1:=F1.below hj
   obtain ⟨_,_,_,f8,v8,y8,_⟩:=K1.at hB0 sf c8
   have K2:=(K1.set hb c8 (x:=.string s8) ⟨_,rfl⟩)
   have F2:=(F1.set (j:=o+i*9+8) (x:=.string s8) ha hc)
   clear K1 F1
   go_wp2
   go_roundw
   case rel=>exact ⟨i+1,k+1+1+1+1+1+1+1+1+1,by omega,by go_num,by go_num,by omega,by omega,K2,F2⟩
   case measure=>simp [intOf];omega
  ·obtain rfl:i=n:=by omega
   go_wp2
   go_returns
   exact ⟨⟨k,rfl,by omega,by omega⟩,K,F⟩
abbrev iC:Int->List Value:=fun x=>[Value.int .i64 x]
theorem FR {w:World} {a:Option Addr} {n:Nat} {l:List Int} (h:As iC 1 w a n l) {k:Nat} (hk:k<n):∃ b o p,a=some ⟨b,o,none⟩∧l[k]?=some p∧w.cell? ⟨b,o+k,none⟩=some (.int .i64 p):=by
 have hl:k<l.length:=by rw [h.len];exact hk
 obtain ⟨b,o,ha,hc⟩:=h.cell k l[k] (by simp [hl])
 have:=hc 0 _ rfl
 exact ⟨b,o,l[k],ha,by simp [hl],by simpa using this⟩
theorem EA (a:Option Addr) (n cap:Nat) (a':Option Addr) (cap':Nat) (l:List Int) (w:World) (h:As iC 1 w a n l) (h':As iC 1 w a' n l) (hn:n<=4194304) :
  Calls prog 18 #[.slice a n cap,.slice a' n cap'] w fun e w'=>e=.returned (.bool true)∧Below w.heap.size w w':=by
 have ha:((n:Int) != (n:Int))=false:=by simp
 go_enter func18,ntmps18
 go_wp2_with fail
 go_loopw [5] (fun ix wr=>∃ (k:Nat),k<=n∧ix=.int .i64 k∧Below w.heap.size w wr) (fun ix _=>n-(intOf ix).toNat)
 case atStart=>exact ⟨0,Zg _,rfl,Yg _ _⟩
 case round=>
  obtain ⟨k,hk,rfl,hB⟩:=hrel
  by_cases hlt:k<n
  ·obtain ⟨b,o,p,rfl,hp,c0⟩:=FR (h.below hB) hlt
   obtain ⟨b',o',q,rfl,hq,d0⟩:=FR (h'.below hB) hlt
   obtain rfl:=Zi (hp.symm.trans hq)
   clear hp hq
   have hb:(k:Int)<n:=by omega
   have hc:(0:Int)<=k:=by omega
   have he:(p != p)=false:=by simp
   go_wp2_with fail
   go_quiet (fail)
   go_wp2
   go_roundw
   case rel=>exact ⟨k+1,by omega,by go_num,Aa hB (AZ _ _)⟩
   case measure=>simp [intOf];omega
  ·obtain rfl:k=n:=by omega
   go_wp2
   go_returns
   go_light
   exact ⟨rfl,hB⟩
def MkN (w:World) (a:Option Addr) (n k0:Nat):Prop:=∀ j,j<n->∃ b,a=some ⟨b,0,none⟩∧w.cell? ⟨b,j,none⟩=some (.int .i64 ((k0+j:Nat):Int))
theorem MkN.below {w w':World} {a:Option Addr} {n k0:Nat} (h:MkN w a n k0) (hb:Below w.heap.size w w'):MkN w' a n k0:=fun j hj=>by
 obtain ⟨b,ha,c0⟩:=h j hj
 exact ⟨b,ha,Ab hb c0⟩
theorem Fz (B:Nat) (a:Option Addr) (n cap k0:Nat) (l:List Int) (w:World) (h:Ac iC 1 2 w B a n cap l) (hn:n<=4194304) (hk0:k0<=50000000) :
  Calls prog 21 #[.slice a n cap,.int .i64 ((k0:Nat):Int)] w fun e w'=>e=.returned (.int .i64 ((k0+n:Nat):Int))∧MkN w' a n k0∧Chg (AC a).toList w w':=by
 rcases h.own with ⟨rfl,rfl,rfl⟩ | ⟨b,rfl,_,ho,_,c,hc,hp,_⟩
 ·go_enter func21,ntmps21
  go_wp2_with fail
  go_rounds 1
  go_returns
  exact ⟨rfl,fun j hj=>(by omega),Chg.refl _ _⟩
 ·go_enter func21,ntmps21
  go_wp2_with fail
  go_loopw [1,5] (fun kk ix wr=>∃ (k:Nat) (d:Array Value),k<=n∧ix=.int .i64 k∧kk=.int .i64 ((k0+k:Nat):Int)∧Blk wr b d 2∧Hid (d.size=cap)∧Hid (∀ j,j<k->d[j]?=some (.int .i64 ((k0+j:Nat):Int)))∧Chg [b] w wr) (fun _ ix _=>n-(intOf ix).toNat)
  case atStart=>exact ⟨0,c,Zg _,rfl,rfl,hc,by show _=_;omega,fun j hj=>by omega,Chg.refl _ _⟩
  case round=>
   obtain ⟨k,d,hk,rfl,rfl,hd,hb,hf,hC⟩:=hrel
   by_cases hlt:k<n
   ·have f0:=hd.frozen k
    obtain ⟨v0,y0⟩:=hd.has (i:=k) (by rw [hb.out];omega)
    have hl:(k:Int)<n:=by omega
    have hm:(0:Int)<=k:=by omega
    obtain ⟨KK,ha⟩:∃ KK:Int,KK=((k0+k:Nat):Int):=⟨_,rfl⟩
    have he:Hid (KK=((k0+k:Nat):Int)):=ha
    rw [<-ha]
    have hg:0<=KK:=by omega
    have hh:KK<=70000000:=by omega
    clear ha
    go_wp2
    go_roundw
    case rel=>
     refine ⟨k+1,_,by omega,by go_num,by have:=he.out;go_num,hd.set k (.int .i64 KK),by show _=_;simp [hb.out],?_,?_⟩
     ·intro j hj
      by_cases e:j=k
      ·subst e
       rw [Zh (by rw [hb.out];omega),he.out]
      ·rw [Za (by omega)]
       exact hf.out j (by omega)
     ·exact ⟨hC.os,hC.tape,hC.output,by simpa using hC.size,fun i hi hn=>by rw [Below.heap_setCell _ _ _ _ (by show i≠b;simpa using hn)];exact hC.block i hi hn⟩
    case measure=>simp [intOf];omega
   ·obtain rfl:k=n:=by omega
    go_wp2
    go_returns
    refine ⟨rfl,fun j hj=>⟨b,rfl,?_⟩,hC.mono (by simp [AC])⟩
    rw [hd.cell]
    exact hf.out j hj
theorem Ev (a:Option Addr) (n cap k0:Nat) (w:World) (h:MkN w a n k0) (hn:n<=4194304) (hk0:k0<=50000000) :
  Calls prog 22 #[.slice a n cap,.int .i64 ((k0:Nat):Int)] w fun e w'=>e=.returned (.int .i64 ((k0+n:Nat):Int))∧Below w.heap.size w w':=by
 go_enter func22,ntmps22
 go_wp2_with fail
 go_loopw [1,5] (fun kk ix wr=>∃ (k:Nat),k<=n∧ix=.int .i64 k∧kk=.int .i64 ((k0+k:Nat):Int)∧Below w.heap.size w wr) (fun _ ix _=>n-(intOf ix).toNat)
 case atStart=>exact ⟨0,Zg _,rfl,rfl,Yg _ _⟩
 case round=>
  obtain ⟨k,hk,rfl,rfl,hB⟩:=hrel
  by_cases hlt:k<n
  ·obtain ⟨b,rfl,c0⟩:=h k hlt
   have hf:(k:Int)<n:=by omega
   have hg:(0:Int)<=k:=by omega
   obtain ⟨KK,ha⟩:∃ KK:Int,KK=((k0+k:Nat):Int):=⟨_,rfl⟩
   have hb:Hid (KK=((k0+k:Nat):Int)):=ha
   rw [<-ha] at c0 ⊢
   have hc:0<=KK:=by omega
   have he:KK<=70000000:=by omega
   have e0:(KK != KK)=false:=by simp
   clear ha
   replace c0:=Ab hB c0
   go_wp2
   go_roundw
   case rel=>exact ⟨k+1,by omega,by go_num,by have:=hb.out;go_num,hB⟩
   case measure=>simp [intOf];omega
  ·obtain rfl:k=n:=by omega
   go_wp2
   go_returns
   exact ⟨rfl,hB⟩
end
end Go.Proofs.YtbbhcnjhohidnaaGreatDoor
