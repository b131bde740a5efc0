/- The room of a space: of the program. -/
import Derived.RangeFuncFrom
import Derived.Test.YtdmeabghpchckaaGreatDoorU39
import Derived.Test.YtdmeabghpchckaaGreatDoorU46
set_option maxHeartbeats 20000000
set_option maxRecDepth 100000
namespace Go.Proofs.YtdmeabghpchckaaGreatDoor
section
open Go.RowKit Go.Shelf _root_.Go.Proofs.Tryz
attribute [local go_sem] YJ
def sumG:List (Int×Int)->Int
 |[]=>0
 |x::r=>x.2+sumG r
def sumW (l:List (Int×Int)):Int:=l.foldl (fun s x=>wrap64 (s+x.2)) 0
theorem sumW_snoc (l:List (Int×Int))(x:Int×Int):sumW (l++[x])=wrap64 (sumW l+x.2):=by simp[sumW]
theorem foldW:∀ (l:List (Int×Int)) (s:Int),(∀ x∈l,0<=x.2)->0<=s->s+sumG l<=1000->l.foldl (fun s x=>wrap64 (s+x.2)) s=s+sumG l
 |[],s,_,_,_=>by simp[sumG]
 |x::r,s,h,h0,h1=>by
  have hx:=h x (by simp)
  have hr:∀ y∈r,0<=y.2:=fun y hy=>h y (by simp[hy])
  have ha:∀ (r:List (Int×Int)),(∀ y∈r,0<=y.2)->0<=sumG r:=by
   intro r
   induction r with
   |nil=>intro _;simp[sumG]
   |cons y t ih=>intro hy;have:=ih (fun z hz=>hy z (by simp[hz]));have:=hy y (by simp);simp only[sumG];omega
  have h2:=ha r hr
  simp only[sumG] at h1
  rw[YE,show wrap64 (s+x.2)=s+x.2 by unfold wrap64;omega,foldW r (s+x.2) hr (by omega) (by omega)]
  simp only[sumG];omega
theorem ggo_facts {size:Int}:∀ {L:List Ex} {next:Int},xgo size next L=true->next<=size+1->(∀ x∈ggo size next L,1<=x.2)∧sumG (ggo size next L)=size+1-next-EL L
 |[],next,_,hn=>by
  rw[ggo]
  split
  ·simp[sumG,EL];omega
  ·simp[sumG,EL];omega
 |e::r,next,h,hn=>by
  simp only[xgo,Zf,ZU] at h
  obtain⟨⟨⟨h1,h2⟩,h3⟩,h4⟩:=h
  obtain⟨q1,q2⟩:=ggo_facts h4 (by omega)
  rw[ggo]
  split
  ·refine ⟨fun x hx=>?_,?_⟩
   ·rcases Zs.1 hx with hx | hx
    ·simp at hx;subst hx;simp;omega
    ·exact q1 x hx
   ·simp only[List.singleton_append,sumG,q2,EL];omega
  ·refine ⟨fun x hx=>q1 x (by simpa using hx),?_⟩
   simp only[ZM,q2,EL];omega
theorem sumD_nonneg:∀ l:List Ex,0<=EL l
 |[]=>by simp[EL]
 |e::r=>by have:=sumD_nonneg r;simp only[EL];omega
def roomV (size:Int)(l:List Ex):Int:=if Ao size l=true then size-EL l else -1
theorem sumW_room {size:Int}{l:List Ex}(h:Ao size l=true):sumW (ggo size 1 l)=size-EL l:=by
 obtain⟨h1,h2,_,h4⟩:=cu_ h
 obtain⟨q1,q2⟩:=ggo_facts h4 (by omega)
 have:=sumD_nonneg l
 unfold sumW
 rw[foldW _ 0 (fun x hx=>by have:=q1 x hx;omega) (by omega) (by omega),q2];omega
theorem impl_RoomOf_in (size:Int)(a:Option Addr)(n cap:Nat)(l:List Ex)(w:World)(h:Bb w a n l)(hstr:BP l)(hn:n<=4194304)(hl:∀ ad,0<n->a=some ad->ad.block<w.heap.size) :
  CallsIn Fence.wide 5 prog 14 #[.int .i64 size,.slice a n cap] w fun e W'=>e=.returned (.int .i64 (roomV size l))∧Below w.heap.size w W':=by
 refine callsIn_of_wp_marks func14 rfl trivial ?_ rfl
 simp only[ntmps14,YI,Zw,YK,Nat.reduceAdd,Nat.reduceSub,Array.replicate_succ,Array.replicate_zero,List.push_toArray,List.append_toArray,ZM,YF]
 have f41:Fence.wide.fn 33:=trivial
 have f114:Fence.wide.fn 34:=trivial
 cases ha:Ao size l
 ·have hf:roomV size l=-1:=by simp[roomV,ha]
  rw[hf]
  gi_wp2_with (gi_at_call 33;refine (callsIn_wide.2 (a8_ size a n cap l _ h hstr hn)).mono ?_;rintro e w1 ⟨rfl,he⟩;rw[ha])
  exact⟨_,results_tmp rfl _ _ _,rfl,he⟩
 ·have hf:roomV size l=sumW (ggo size 1 l):=by rw[sumW_room ha];simp[roomV,ha]
  rw[hf]
  gi_wp2_with (first | (gi_at_call 33;refine (callsIn_wide.2 (a8_ size a n cap l _ h hstr hn)).mono ?_;rintro e w1 ⟨rfl,he⟩;rw[ha]) | (gi_at_call 34;refine (pg_ _ size a n cap _).mono ?_;rintro e w2 ⟨rfl,rfl⟩))
  obtain⟨hk,hm,hq,hp⟩:=cu_ ha
  have hj:=h.len
  have hz:=he.size
  have hg:Below w.heap.size w (((w1.alloc (.cells #[.int .i64 0] 2)).alloc (.cells #[.int .i64 size] 2)).alloc (.cells #[.slice a n cap] 24)):=((he.alloc hz _).alloc (by simp;omega) _).alloc (by simp;omega) _
  have bR:Boxed (((w1.alloc (.cells #[.int .i64 0] 2)).alloc (.cells #[.int .i64 size] 2)).alloc (.cells #[.slice a n cap] 24)) w1.heap.size 2 (.int .i64 0):=((Boxed.new w1 2 _).alloc _).alloc _
  have bS:Boxed (((w1.alloc (.cells #[.int .i64 0] 2)).alloc (.cells #[.int .i64 size] 2)).alloc (.cells #[.slice a n cap] 24)) (w1.heap.size+1) 2 (.int .i64 size):=by
   have:=(Boxed.new (w1.alloc (.cells #[.int .i64 0] 2)) 2 (.int .i64 size)).alloc (.cells #[.slice a n cap] 24)
   simpa using this
  have bL:Boxed (((w1.alloc (.cells #[.int .i64 0] 2)).alloc (.cells #[.int .i64 size] 2)).alloc (.cells #[.slice a n cap] 24)) (w1.heap.size+1+1) 24 (.slice a n cap):=by
   have:=Boxed.new ((w1.alloc (.cells #[.int .i64 0] 2)).alloc (.cells #[.int .i64 size] 2)) 24 (.slice a n cap)
   simpa using this
  have ho:(((w1.alloc (.cells #[.int .i64 0] 2)).alloc (.cells #[.int .i64 size] 2)).alloc (.cells #[.slice a n cap] 24)).heap.size=w1.heap.size+1+1+1:=by simp
  generalize ((w1.alloc (.cells #[.int .i64 0] 2)).alloc (.cells #[.int .i64 size] 2)).alloc (.cells #[.slice a n cap] 24)=W0 at *
  refine wpIn_rangeFunc_ownF rfl (by omega) (gf:=85) (lb:=#[.pointer (some ⟨w1.heap.size+1+1,0,none⟩),.pointer (some ⟨w1.heap.size+1,0,none⟩)]) rfl trivial (enters_of func85 (by kernel_rfl) rfl)
   (lz_ (5-1) (by omega) (w1.heap.size+1+1) (w1.heap.size+1) w.heap.size size a n cap l W0 (by omega) bL.cell bS.cell ⟨h.below hg,hl⟩ hp hk hm (by omega)) KpG.t (KpG.b (by omega) (by omega)) (Yg _ _) (fun _=>rfl)
   (fun pre W=>Boxed W w1.heap.size 2 (.int .i64 (sumW pre))∧Below w.heap.size w W)
   (fun _ _ _=>False)
   (OwnFrom.and (Own.from (boxed_own _ _ _) _) (ownFrom_below (Zd _) (by omega)))
   (fun _ _ _ _ _ hs _ _=>hs)
   ⟨bR,hg⟩
   (fun x=>{tmps:=#[.int .i64 size,.slice a n cap,undef,undef,.int .i64 0,.pointer (some ⟨w1.heap.size,0,none⟩),undef,.int .i64 x.2,.int .i64 size,.slice a n cap,.bool true,.bool false,.int .i64 size,.slice a n cap,.func (.func 85) #[] #[.pointer (some ⟨w1.heap.size+1+1,0,none⟩),.pointer (some ⟨w1.heap.size+1,0,none⟩)],.int .i64 x.1,.int .i64 x.2,undef,undef,undef,undef],defers:=[]}) ?assign ?body ?done ?stop
  case assign=>
   intro l x W K hK
   gi_wp2
   exact hK
  case body=>
   rintro l pre x W ⟨hc,hB⟩ _
   have c0:=hc.cell
   have f0:=hc.frozen
   gi_wp2
   refine ⟨KeepsOthers.setCell _ _ _,⟨(Yg w.heap.size W).setCell (p:=⟨w1.heap.size,0,none⟩) hz _,fun b c hb=>?_,fun v hv=>?_⟩,by rw[sumW_snoc];exact hc.set _,hB.setCell (p:=⟨w1.heap.size,0,none⟩) hz _⟩
   ·have hh:b≠w1.heap.size:=fun e=>by subst e;unfold Blk at hb;rw[show W.heap[w1.heap.size]?=_ from hc] at hb;cases hb
    exact hb.grown (grownBy_setCell' W w1.heap.size _) hh
   ·exact (grownBy_setCell' W w1.heap.size _).cell hv (by simp)
  case done=>
   rintro D ys W hD rfl ⟨hc,hB⟩ hK
   have c0:=hc.cell
   gi_wp2
   refine ⟨by simp,.inl ⟨_,_,rfl,run_takeDeferred hK,?_⟩⟩
   exact⟨_,results_tmp rfl _ _ _,rfl,hB.trans (belowK_b (w:=w) (Zd _) W D _ _ (by omega) hK rfl rfl)⟩
  case stop=>
   rintro D c pre W _ _ h _
   exact h.elim
theorem impl_RoomOf (size:Int)(a:Option Addr)(n cap:Nat)(l:List Ex)(w:World)(h:Bb w a n l)(hstr:BP l)(hn:n<=4194304)(hl:∀ ad,0<n->a=some ad->ad.block<w.heap.size) :
  Calls prog 14 #[.int .i64 size,.slice a n cap] w fun e W'=>e=.returned (.int .i64 (roomV size l))∧Below w.heap.size w W':=
 callsIn_wide.1 (impl_RoomOf_in size a n cap l w h hstr hn hl)
end
end Go.Proofs.YtdmeabghpchckaaGreatDoor
