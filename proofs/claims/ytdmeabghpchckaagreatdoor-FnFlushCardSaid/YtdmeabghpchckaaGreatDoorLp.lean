/- The room of a space, owners, and counts held against counts: of the program -/
import Derived.RangeFuncFrom
import Derived.Laws.StructEq
import Derived.Test.YtdmeabghpchckaaGreatDoorV46
set_option maxHeartbeats 20000000
set_option maxRecDepth 100000
namespace Go.Proofs.YtdmeabghpchckaaGreatDoor
section
open Go.RowKit Go.Shelf _root_.Go.Proofs.Tryz
attribute [local go_sem] YJ
def sumG:List (Int×Int)->Int
 |[]=>0
 |x::r=>x.2+sumG r
def sumW (l:List (Int×Int)):Int:=l.foldl (fun s x=>wrap64 (s+x.2)) 0
theorem sumW_snoc (l:List (Int×Int))(x:Int×Int):sumW (l++[x])=wrap64 (sumW l+x.2):=by simp[sumW]
theorem foldW:∀ (l:List (Int×Int)) (s:Int),(∀ x∈l,0<=x.2)->0<=s->s+sumG l<=1000->l.foldl (fun s x=>wrap64 (s+x.2)) s=s+sumG l
 |[],s,_,_,_=>by simp[sumG]
 |x::r,s,h,h0,h1=>by
  have hx:=h x (by simp)
  have hr:∀ y∈r,0<=y.2:=fun y hy=>h y (by simp[hy])
  have ha:∀ (r:List (Int×Int)),(∀ y∈r,0<=y.2)->0<=sumG r:=by
   intro r
   induction r with
   |nil=>intro _;simp[sumG]
   |cons y t ih=>intro hy;have:=ih (fun z hz=>hy z (by simp[hz]));have:=hy y (by simp);simp only[sumG];omega
  have h2:=ha r hr
  simp only[sumG] at h1
  rw[YE,show wrap64 (s+x.2)=s+x.2 by unfold wrap64;omega,foldW r (s+x.2) hr (by omega) (by omega)]
  simp only[sumG];omega
theorem ggo_facts {size:Int}:∀ {L:List Ex} {next:Int},xgo size next L=true->next<=size+1->(∀ x∈ggo size next L,1<=x.2)∧sumG (ggo size next L)=size+1-next-EL L
 |[],next,_,hn=>by
  rw[ggo]
  split
  ·simp[sumG,EL];omega
  ·simp[sumG,EL];omega
 |e::r,next,h,hn=>by
  simp only[xgo,Zf,ZU] at h
  obtain⟨⟨⟨h1,h2⟩,h3⟩,h4⟩:=h
  obtain⟨q1,q2⟩:=ggo_facts h4 (by omega)
  rw[ggo]
  split
  ·refine ⟨fun x hx=>?_,?_⟩
   ·rcases Zs.1 hx with hx | hx
    ·simp at hx;subst hx;simp;omega
    ·exact q1 x hx
   ·simp only[List.singleton_append,sumG,q2,EL];omega
  ·refine ⟨fun x hx=>q1 x (by simpa using hx),?_⟩
   simp only[ZM,q2,EL];omega
theorem sumD_nonneg:∀ l:List Ex,0<=EL l
 |[]=>by simp[EL]
 |e::r=>by have:=sumD_nonneg r;simp only[EL];omega
def roomV (size:Int)(l:List Ex):Int:=if Ao size l=true then size-EL l else -1
theorem sumW_room {size:Int}{l:List Ex}(h:Ao size l=true):sumW (ggo size 1 l)=size-EL l:=by
 obtain⟨h1,h2,_,h4⟩:=cu_ h
 obtain⟨q1,q2⟩:=ggo_facts h4 (by omega)
 have:=sumD_nonneg l
 unfold sumW
 rw[foldW _ 0 (fun x hx=>by have:=q1 x hx;omega) (by omega) (by omega),q2];omega
theorem impl_RoomOf_in (size:Int)(a:Option Addr)(n cap:Nat)(l:List Ex)(w:World)(h:Bb w a n l)(hstr:BP l)(hn:n<=4194304)(hl:∀ ad,0<n->a=some ad->ad.block<w.heap.size) :
  CallsIn Fence.wide 5 prog 14 #[.int .i64 size,.slice a n cap] w fun e W'=>e=.returned (.int .i64 (roomV size l))∧Below w.heap.size w W':=by
 refine callsIn_of_wp_marks func14 rfl trivial ?_ rfl
 simp only[ntmps14,YI,Zw,YK,Nat.reduceAdd,Nat.reduceSub,Array.replicate_succ,Array.replicate_zero,List.push_toArray,List.append_toArray,ZM,YF]
 have f41:Fence.wide.fn 33:=trivial
 have f114:Fence.wide.fn 34:=trivial
 cases ha:Ao size l
 ·have hf:roomV size l=-1:=by simp[roomV,ha]
  rw[hf]
  gi_wp2_with (gi_at_call 33;refine (callsIn_wide.2 (a8_ size a n cap l _ h hstr hn)).mono ?_;rintro e w1 ⟨rfl,he⟩;rw[ha])
  exact⟨_,results_tmp rfl _ _ _,rfl,he⟩
 ·have hf:roomV size l=sumW (ggo size 1 l):=by rw[sumW_room ha];simp[roomV,ha]
  rw[hf]
  gi_wp2_with (first | (gi_at_call 33;refine (callsIn_wide.2 (a8_ size a n cap l _ h hstr hn)).mono ?_;rintro e w1 ⟨rfl,he⟩;rw[ha]) | (gi_at_call 34;refine (pg_ _ size a n cap _).mono ?_;rintro e w2 ⟨rfl,rfl⟩))
  obtain⟨hk,hm,hq,hp⟩:=cu_ ha
  have hj:=h.len
  have hz:=he.size
  have hg:Below w.heap.size w (((w1.alloc (.cells #[.int .i64 0] 2)).alloc (.cells #[.int .i64 size] 2)).alloc (.cells #[.slice a n cap] 24)):=((he.alloc hz _).alloc (by simp;omega) _).alloc (by simp;omega) _
  have bR:Boxed (((w1.alloc (.cells #[.int .i64 0] 2)).alloc (.cells #[.int .i64 size] 2)).alloc (.cells #[.slice a n cap] 24)) w1.heap.size 2 (.int .i64 0):=((Boxed.new w1 2 _).alloc _).alloc _
  have bS:Boxed (((w1.alloc (.cells #[.int .i64 0] 2)).alloc (.cells #[.int .i64 size] 2)).alloc (.cells #[.slice a n cap] 24)) (w1.heap.size+1) 2 (.int .i64 size):=by
   have:=(Boxed.new (w1.alloc (.cells #[.int .i64 0] 2)) 2 (.int .i64 size)).alloc (.cells #[.slice a n cap] 24)
   simpa using this
  have bL:Boxed (((w1.alloc (.cells #[.int .i64 0] 2)).alloc (.cells #[.int .i64 size] 2)).alloc (.cells #[.slice a n cap] 24)) (w1.heap.size+1+1) 24 (.slice a n cap):=by
   have:=Boxed.new ((w1.alloc (.cells #[.int .i64 0] 2)).alloc (.cells #[.int .i64 size] 2)) 24 (.slice a n cap)
   simpa using this
  have ho:(((w1.alloc (.cells #[.int .i64 0] 2)).alloc (.cells #[.int .i64 size] 2)).alloc (.cells #[.slice a n cap] 24)).heap.size=w1.heap.size+1+1+1:=by simp
  generalize ((w1.alloc (.cells #[.int .i64 0] 2)).alloc (.cells #[.int .i64 size] 2)).alloc (.cells #[.slice a n cap] 24)=W0 at *
  refine wpIn_rangeFunc_ownF rfl (by omega) (gf:=85) (lb:=#[.pointer (some ⟨w1.heap.size+1+1,0,none⟩),.pointer (some ⟨w1.heap.size+1,0,none⟩)]) rfl trivial (enters_of func85 (by kernel_rfl) rfl)
   (lz_ (5-1) (by omega) (w1.heap.size+1+1) (w1.heap.size+1) w.heap.size size a n cap l W0 (by omega) bL.cell bS.cell ⟨h.below hg,hl⟩ hp hk hm (by omega)) KpG.t (KpG.b (by omega) (by omega)) (Yg _ _) (fun _=>rfl)
   (fun pre W=>Boxed W w1.heap.size 2 (.int .i64 (sumW pre))∧Below w.heap.size w W)
   (fun _ _ _=>False)
   (OwnFrom.and (Own.from (boxed_own _ _ _) _) (ownFrom_below (Zd _) (by omega)))
   (fun _ _ _ _ _ hs _ _=>hs)
   ⟨bR,hg⟩
   (fun x=>{tmps:=#[.int .i64 size,.slice a n cap,undef,undef,.int .i64 0,.pointer (some ⟨w1.heap.size,0,none⟩),undef,.int .i64 x.2,.int .i64 size,.slice a n cap,.bool true,.bool false,.int .i64 size,.slice a n cap,.func (.func 85) #[] #[.pointer (some ⟨w1.heap.size+1+1,0,none⟩),.pointer (some ⟨w1.heap.size+1,0,none⟩)],.int .i64 x.1,.int .i64 x.2,undef,undef,undef,undef],defers:=[]}) ?assign ?body ?done ?stop
  case assign=>
   intro l x W K hK
   gi_wp2
   exact hK
  case body=>
   rintro l pre x W ⟨hc,hB⟩ _
   have c0:=hc.cell
   have f0:=hc.frozen
   gi_wp2
   refine ⟨KeepsOthers.setCell _ _ _,⟨(Yg w.heap.size W).setCell (p:=⟨w1.heap.size,0,none⟩) hz _,fun b c hb=>?_,fun v hv=>?_⟩,by rw[sumW_snoc];exact hc.set _,hB.setCell (p:=⟨w1.heap.size,0,none⟩) hz _⟩
   ·have hh:b≠w1.heap.size:=fun e=>by subst e;unfold Blk at hb;rw[show W.heap[w1.heap.size]?=_ from hc] at hb;cases hb
    exact hb.grown (grownBy_setCell' W w1.heap.size _) hh
   ·exact (grownBy_setCell' W w1.heap.size _).cell hv (by simp)
  case done=>
   rintro D ys W hD rfl ⟨hc,hB⟩ hK
   have c0:=hc.cell
   gi_wp2
   refine ⟨by simp,.inl ⟨_,_,rfl,run_takeDeferred hK,?_⟩⟩
   exact⟨_,results_tmp rfl _ _ _,rfl,hB.trans (belowK_b (w:=w) (Zd _) W D _ _ (by omega) hK rfl rfl)⟩
  case stop=>
   rintro D c pre W _ _ h _
   exact h.elim
theorem impl_RoomOf (size:Int)(a:Option Addr)(n cap:Nat)(l:List Ex)(w:World)(h:Bb w a n l)(hstr:BP l)(hn:n<=4194304)(hl:∀ ad,0<n->a=some ad->ad.block<w.heap.size) :
  Calls prog 14 #[.int .i64 size,.slice a n cap] w fun e W'=>e=.returned (.int .i64 (roomV size l))∧Below w.heap.size w W':=
 callsIn_wide.1 (impl_RoomOf_in size a n cap l w h hstr hn hl)
end
end Go.Proofs.YtdmeabghpchckaaGreatDoor
namespace Go.Proofs.YtdmeabghpchckaaGreatDoor
section
open Go.RowKit _root_.Go.Proofs.Tryz
end
section
open Go.RowKit Go.BigFrame _root_.Go.Proofs.Tryz
def ownersL (p:Po)(addr:Int):List Ct:=if Ai p=true then (AQ p.rf p.lt).filter (fun c=>c.o.a==addr) else []
theorem filter_take {l:List Ct}{i:Nat}{c:Ct}{f:Ct->Bool}(h:l[i]?=some c):(l.take (i+1)).filter f=(l.take i).filter f++(if f c=true then [c] else []):=by
 rw[bx_ h,YR]
 congr 1
 cases hf:f c<;>simp[hf]
theorem impl_OwnersOf (B:Nat)(v:Value)(p:Po)(addr:Int)(w:World)(h:AF B w v p)(hd:AB p) :
  Calls prog 12 #[v,.int .i64 addr] w fun e w'=>(∃ a n cap,e=.returned (.slice a n cap)∧n<=480∧Ad Ct.cs 4 46 w' w.heap.size a n cap (ownersL p addr))∧Below w.heap.size w w':=by
 obtain⟨ea,en,ec,va,vn,vc,ra,rn,rc,la,ln,lc,rfl,ha⟩:=h
 have h:AF B w (.agg #[.int .i64 p.size,.int .i64 p.next,.slice ea en ec,.slice va vn vc,.slice ra rn rc,.slice la ln lc]) p:=⟨ea,en,ec,va,vn,vc,ra,rn,rc,la,ln,lc,rfl,ha⟩
 have h3:=ha.2.2.1.1
 have h4:=ha.2.2.2.1
 obtain⟨z1,z2,z3,z4,z5,z6,z7,z8⟩:=id hd
 rw[h3.len] at z5
 rw[h4.len] at z7
 clear ha z1 z2 z3 z4
 obtain⟨i0,hq,hs,ht,hu⟩:=info_parts Dg
 have C:=(Blk.new w #[.int .i64 p.size,.int .i64 p.next,.slice ea en ec,.slice va vn vc,.slice ra rn rc,.slice la ln lc] 28)
 have hl:Below w.heap.size w (w.alloc (.cells #[.int .i64 p.size,.int .i64 p.next,.slice ea en ec,.slice va vn vc,.slice ra rn rc,.slice la ln lc] 28)):=by go_grown
 have hT:Hid (Ai p=true->ownersL p addr=(AQ p.rf p.lt).filter (fun c=>c.o.a==addr)):=fun e=>by simp[ownersL,e]
 have hF:Hid (Ai p=false->ownersL p addr=[]):=fun e=>by simp[ownersL,e]
 have hm:=fun e:Ai p=true=>dv_ e
 generalize ownersL p addr=R at *
 go_enter func12,ntmps12
 go_wp2_with fail
 generalize w.alloc (.cells #[.int .i64 p.size,.int .i64 p.next,.slice ea en ec,.slice va vn vc,.slice ra rn rc,.slice la ln lc] 28)=W0 at *
 refine (ch_ B _ p _ (h.below hl) hd).mono ?_
 rintro e w1 ⟨rfl,hb⟩
 have C1:=C.below hb
 replace hb:=Aa hl hb
 clear C hl
 cases hh:Ai p
 ·have hR:=hF.out hh
  subst hR
  clear hh hT hF hm
  go_wp2
  go_returns
  exact⟨⟨none,0,0,rfl,by omega,aB_⟩,hb⟩
 ·have hR:=hT.out hh
  subst hR
  obtain⟨q1,_,_⟩:=hm hh
  clear hh hT hF hm
  obtain⟨d0,d1,d2,d3,d4,d5⟩:=C1.six
  go_wp2_with fail
  refine (fX_ ra rn rc p.rf la ln lc p.lt _ (h3.below hb) (h4.below hb) z6 z8 z5 z7).mono ?_
  rintro e w2 ⟨hj,hk⟩
  rw[q1] at hj
  obtain⟨a2,n2,cap2,rfl,hy,R2⟩:=hj
  have R2b:=R2.block
  have hA:=hb.size
  have hC:=hk.size
  replace hk:=Aa hb hk
  have ho:Hid ((AQ p.rf p.lt).length=n2):=R2.sl.len
  clear d0 d1 d2 d3 d4 d5 C1 hb q1
  generalize hL:AQ p.rf p.lt=L at *
  replace hL:Hid (AQ p.rf p.lt=L):=hL
  go_wp2_with fail
  go_loopw [7,23] (fun out ix wr=>∃ (i:Nat) (a3:Option Addr) (n3 cap3:Nat),i<=n2∧ix=.int .i64 i∧out=.slice a3 n3 cap3∧n3<=i∧Ad Ct.cs 4 46 wr w2.heap.size a3 n3 cap3 ((L.take i).filter (fun c=>c.o.a==addr))∧A4 wr a2 n2 L∧w2.heap.size<=wr.heap.size∧Below w.heap.size w wr) (fun _ ix _=>n2-(intOf ix).toNat)
  case atStart=>exact⟨0,none,0,0,Zg _,rfl,rfl,Zd _,aB_,R2.sl,Zd _,hk⟩
  case round=>
   obtain⟨i,a3,n3,cap3,hi,rfl,rfl,hz,R3,S,hD,hB⟩:=hrel
   by_cases hlt:i<n2
   ·obtain⟨b,o,c,rfl,hc,c0,c1,c2,c3⟩:=aN_ S hlt
    have hf:=filter_take (f:=fun c=>c.o.a==addr) hc
    have hw:(i:Int)<n2:=by omega
    have hx:(0:Int)<=i:=by omega
    have hv:=(R2b _ rfl).2
    clear hc
    cases he:(c.o.a==addr)
    ·rw[he] at hf
     simp only[Zj,if_false,Yy] at hf
     have R4:=R3.alloc (.cells #[.int .i64 c.o.a,.int .i64 c.o.v,.string c.o.f,.int .i64 c.n] 46)
     have S4:=S.alloc (.cells #[.int .i64 c.o.a,.int .i64 c.o.v,.string c.o.f,.int .i64 c.n] 46)
     rw[<-hf] at R4
     clear hf
     go_wp2
     go_roundw
     case rel=>exact⟨i+1,a3,n3,cap3,by omega,by go_num,rfl,by omega,R4,S4,by simp;omega,hB.alloc hB.size _⟩
     case measure=>simp[intOf];omega
    ·rw[he] at hf
     simp only[if_true] at hf
     go_wp2_with (at_builtin;refine ag_ rfl (fun K hK=>ay_ _ _ 26 rfl w2.heap.size 46 i0 (.agg #[.int .i64 0,.int .i64 0,.string .empty,.int .i64 0]) 40 underlying26 hq hs ht hu rfl (by decide) aS_ a9_ a3 n3 cap3 _ rfl ((R3.alloc _).alloc _) _ 1 1 [c] rfl (cl_ _ c _ _ (by simp)) (fun ad h=>(by cases h;rfl)) (fun h=>(by cases h)) (n3+1) rfl (by unfold maxLen;omega) (by omega) (by simp;omega) (fun a4 cap4 w4 R4 hn=>hK _ _ ?_)))
     rw[<-hf] at R4
     have hp:Below w.heap.size w w4:=Yi (by go_grown) hn (by have:=hB.size;simp;omega) (aG_ fun ad hg=>by have:=(R3.block ad hg).1;omega)
     have S4:A4 w4 (some ⟨b,o,none⟩) n2 L:=kb_ ((S.alloc (.cells #[.int .i64 c.o.a,.int .i64 c.o.v,.string c.o.f,.int .i64 c.n] 46)).alloc (.cells #[.int .i64 c.o.a,.int .i64 c.o.v,.string c.o.f,.int .i64 c.n] 46)) hn (fun ad hg=>by cases hg;exact ej_ fun ad hg=>by have:=(R3.block ad hg).1;omega)
     have hr:w2.heap.size<=w4.heap.size:=Zl (by simp;omega) hn.size
     go_roundw
     case rel=>exact⟨i+1,a4,n3+1,cap4,by omega,by go_num,rfl,by omega,R4,S4,hr,hp⟩
     case measure=>simp[intOf];omega
   ·obtain rfl:i=n2:=by omega
    rw[Zk (Zm ho.out)] at R3
    go_wp2
    go_returns
    exact⟨⟨a3,n3,cap3,rfl,by omega,by rw[hL.out];exact R3.mono (by omega)⟩,hB⟩
theorem eqO_in (o:Ow)(w:World):(Op.equalIn 9999 44 (.agg #[.int .i64 o.a,.int .i64 o.v,.string o.f]) (.agg #[.int .i64 o.a,.int .i64 o.v,.string o.f])).run prog w=.ok true w:=by
 have u2:=underlying2
 have u9:=underlying9
 have a2:=isAgg2
 have a9:=isAgg9
 have z2:=sizeOf2
 have z9:=sizeOf9
 have hS:prog.underlying 44=some (.struct (prog.fieldsOf 44)):=by kernel_rfl
 have hp:prog.stoodInHeld 44=false:=by kernel_rfl
 rw[show (9999:Nat)=9998+1 from rfl,run_equalIn_agg w 9998 44 _ _ hS hp]
 simp only[Program.fieldsOf,underlying44]
 clear hS hp
 go_simp
theorem neqC (p:Ct)(w:World):(binOp .neq 46 (.agg #[.int .i64 p.o.a,.int .i64 p.o.v,.string p.o.f,.int .i64 p.n]) (.agg #[.int .i64 p.o.a,.int .i64 p.o.v,.string p.o.f,.int .i64 p.n])).run prog w=.ok (.bool false) w:=by
 have he:=eqO_in p.o
 have u2:=underlying2
 have a2:=isAgg2
 have z2:=sizeOf2
 have hz:=sizeOf44
 have ha:=isAgg44
 have hS:prog.underlying 46=some (.struct (prog.fieldsOf 46)):=by kernel_rfl
 have hp:prog.stoodInHeld 46=false:=by kernel_rfl
 rw[run_neq_struct,show (10000:Nat)=9999+1 from rfl,run_equalIn_agg w 9999 46 _ _ hS hp]
 simp only[Program.fieldsOf,underlying46]
 clear hS hp
 go_simp
theorem laws_sameCounts (a:Option Addr)(n cap:Nat)(l:List Ct)(a':Option Addr)(n' cap':Nat)(w:World)(h:A4 w a n l)(h':A4 w a' n' l)(hn:n<=4194304) :
  Calls prog 13 #[.slice a n cap,.slice a' n' cap'] w fun e w'=>e=.returned (.bool true)∧Below w.heap.size w w':=by
 obtain rfl:n=n':=by rw[<-h.len,<-h'.len]
 have hb:((n:Int) != (n:Int))=false:=by simp
 go_enter func13,ntmps13
 go_wp2_with fail
 go_loopw [5] (fun ix wr=>∃ (k:Nat),k<=n∧ix=.int .i64 k∧Below w.heap.size w wr) (fun ix _=>n-(intOf ix).toNat)
 case atStart=>exact⟨0,Zg _,rfl,Yg _ _⟩
 case round=>
  obtain⟨k,hk,rfl,hB⟩:=hrel
  by_cases hlt:k<n
  ·obtain⟨b,o,p,rfl,hp,c0,c1,c2,c3⟩:=aN_ (h.below hB) hlt
   obtain⟨b',o',q,rfl,hq,d0,d1,d2,d3⟩:=aN_ (h'.below hB) hlt
   rw[hp] at hq
   obtain rfl:=Zi hq
   have hc:(k:Int)<n:=by omega
   have he:(0:Int)<=k:=by omega
   have hf:=neqC p
   clear hp hq
   go_wp2_with fail
   go_quiet (fail)
   have ha:=below_drewN hB nq
   go_wp2
   go_roundw
   case rel=>exact⟨k+1,by omega,by go_num,ha⟩
   case measure=>simp[intOf];omega
  ·obtain rfl:k=n:=by omega
   go_wp2
   go_returns
   exact⟨rfl,hB⟩
end
end Go.Proofs.YtdmeabghpchckaaGreatDoor
