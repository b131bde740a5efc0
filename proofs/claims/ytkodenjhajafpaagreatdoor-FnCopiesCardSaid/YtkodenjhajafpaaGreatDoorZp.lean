/- The room of a space; what stands behind a copy and a snapshot. -/
import Derived.RangeFuncFrom
import Derived.Test.YtkodenjhajafpaaGreatDoorU39
import Derived.Test.YtkodenjhajafpaaGreatDoorU48
set_option maxHeartbeats 20000000
set_option maxRecDepth 100000
namespace Go.Proofs.YtkodenjhajafpaaGreatDoor
section
open Go.RowKit Go.Shelf _root_.Go.Proofs.Tryz
attribute [local go_sem] YJ
def sumG:List (Int×Int)->Int
 |[]=>0
 |x::r=>x.2+sumG r
def sumW (l:List (Int×Int)):Int:=l.foldl (fun s x=>wrap64 (s+x.2)) 0
theorem sumW_snoc (l:List (Int×Int))(x:Int×Int):sumW (l++[x])=wrap64 (sumW l+x.2):=by simp[sumW]
theorem foldW:∀ (l:List (Int×Int)) (s:Int),(∀ x∈l,0<=x.2)->0<=s->s+sumG l<=1000->l.foldl (fun s x=>wrap64 (s+x.2)) s=s+sumG l
 |[],s,_,_,_=>by simp[sumG]
 |x::r,s,h,h0,h1=>by
  have hx:=h x (by simp)
  have hr:∀ y∈r,0<=y.2:=fun y hy=>h y (by simp[hy])
  have ha:∀ (r:List (Int×Int)),(∀ y∈r,0<=y.2)->0<=sumG r:=by
   intro r
   induction r with
   |nil=>intro _;simp[sumG]
   |cons y t ih=>intro hy;have:=ih (fun z hz=>hy z (by simp[hz]));have:=hy y (by simp);simp only[sumG];omega
  have h2:=ha r hr
  simp only[sumG] at h1
  rw[YE,show wrap64 (s+x.2)=s+x.2 by unfold wrap64;omega,foldW r (s+x.2) hr (by omega) (by omega)]
  simp only[sumG];omega
theorem ggo_facts {size:Int}:∀ {L:List Ex} {next:Int},xgo size next L=true->next<=size+1->(∀ x∈ggo size next L,1<=x.2)∧sumG (ggo size next L)=size+1-next-ER L
 |[],next,_,hn=>by
  rw[ggo]
  split
  ·simp[sumG,ER];omega
  ·simp[sumG,ER];omega
 |e::r,next,h,hn=>by
  simp only[xgo,Zf,ZU] at h
  obtain⟨⟨⟨h1,h2⟩,h3⟩,h4⟩:=h
  obtain⟨q1,q2⟩:=ggo_facts h4 (by omega)
  rw[ggo]
  split
  ·refine ⟨fun x hx=>?_,?_⟩
   ·rcases Zs.1 hx with hx | hx
    ·simp at hx;subst hx;simp;omega
    ·exact q1 x hx
   ·simp only[List.singleton_append,sumG,q2,ER];omega
  ·refine ⟨fun x hx=>q1 x (by simpa using hx),?_⟩
   simp only[ZM,q2,ER];omega
theorem sumD_nonneg:∀ l:List Ex,0<=ER l
 |[]=>by simp[ER]
 |e::r=>by have:=sumD_nonneg r;simp only[ER];omega
def roomV (size:Int)(l:List Ex):Int:=if Ap size l=true then size-ER l else -1
theorem sumW_room {size:Int}{l:List Ex}(h:Ap size l=true):sumW (ggo size 1 l)=size-ER l:=by
 obtain⟨h1,h2,_,h4⟩:=cu_ h
 obtain⟨q1,q2⟩:=ggo_facts h4 (by omega)
 have:=sumD_nonneg l
 unfold sumW
 rw[foldW _ 0 (fun x hx=>by have:=q1 x hx;omega) (by omega) (by omega),q2];omega
theorem impl_RoomOf_in (size:Int)(a:Option Addr)(n cap:Nat)(l:List Ex)(w:World)(h:Bg w a n l)(hstr:BT l)(hn:n<=4194304)(hl:∀ ad,0<n->a=some ad->ad.block<w.heap.size) :
  CallsIn Fence.wide 5 prog 14 #[.int .i64 size,.slice a n cap] w fun e W'=>e=.returned (.int .i64 (roomV size l))∧Below w.heap.size w W':=by
 refine callsIn_of_wp_marks func14 rfl trivial ?_ rfl
 simp only[ntmps14,YI,Zw,YK,Nat.reduceAdd,Nat.reduceSub,Array.replicate_succ,Array.replicate_zero,List.push_toArray,List.append_toArray,ZM,YF]
 have f41:Fence.wide.fn 37:=trivial
 have f114:Fence.wide.fn 38:=trivial
 cases ha:Ap size l
 ·have hf:roomV size l=-1:=by simp[roomV,ha]
  rw[hf]
  gi_wp2_with (gi_at_call 37;refine (callsIn_wide.2 (a8_ size a n cap l _ h hstr hn)).mono ?_;rintro e w1 ⟨rfl,he⟩;rw[ha])
  exact⟨_,results_tmp rfl _ _ _,rfl,he⟩
 ·have hf:roomV size l=sumW (ggo size 1 l):=by rw[sumW_room ha];simp[roomV,ha]
  rw[hf]
  gi_wp2_with (first | (gi_at_call 37;refine (callsIn_wide.2 (a8_ size a n cap l _ h hstr hn)).mono ?_;rintro e w1 ⟨rfl,he⟩;rw[ha]) | (gi_at_call 38;refine (pg_ _ size a n cap _).mono ?_;rintro e w2 ⟨rfl,rfl⟩))
  obtain⟨hk,hm,hq,hp⟩:=cu_ ha
  have hj:=h.len
  have hz:=he.size
  have hg:Below w.heap.size w (((w1.alloc (.cells #[.int .i64 0] 2)).alloc (.cells #[.int .i64 size] 2)).alloc (.cells #[.slice a n cap] 24)):=((he.alloc hz _).alloc (by simp;omega) _).alloc (by simp;omega) _
  have bR:Boxed (((w1.alloc (.cells #[.int .i64 0] 2)).alloc (.cells #[.int .i64 size] 2)).alloc (.cells #[.slice a n cap] 24)) w1.heap.size 2 (.int .i64 0):=((Boxed.new w1 2 _).alloc _).alloc _
  have bS:Boxed (((w1.alloc (.cells #[.int .i64 0] 2)).alloc (.cells #[.int .i64 size] 2)).alloc (.cells #[.slice a n cap] 24)) (w1.heap.size+1) 2 (.int .i64 size):=by
   have:=(Boxed.new (w1.alloc (.cells #[.int .i64 0] 2)) 2 (.int .i64 size)).alloc (.cells #[.slice a n cap] 24)
   simpa using this
  have bL:Boxed (((w1.alloc (.cells #[.int .i64 0] 2)).alloc (.cells #[.int .i64 size] 2)).alloc (.cells #[.slice a n cap] 24)) (w1.heap.size+1+1) 24 (.slice a n cap):=by
   have:=Boxed.new ((w1.alloc (.cells #[.int .i64 0] 2)).alloc (.cells #[.int .i64 size] 2)) 24 (.slice a n cap)
   simpa using this
  have ho:(((w1.alloc (.cells #[.int .i64 0] 2)).alloc (.cells #[.int .i64 size] 2)).alloc (.cells #[.slice a n cap] 24)).heap.size=w1.heap.size+1+1+1:=by simp
  generalize ((w1.alloc (.cells #[.int .i64 0] 2)).alloc (.cells #[.int .i64 size] 2)).alloc (.cells #[.slice a n cap] 24)=W0 at *
  refine wpIn_rangeFunc_ownF rfl (by omega) (gf:=84) (lb:=#[.pointer (some ⟨w1.heap.size+1+1,0,none⟩),.pointer (some ⟨w1.heap.size+1,0,none⟩)]) rfl trivial (enters_of func84 (by kernel_rfl) rfl)
   (lz_ (5-1) (by omega) (w1.heap.size+1+1) (w1.heap.size+1) w.heap.size size a n cap l W0 (by omega) bL.cell bS.cell ⟨h.below hg,hl⟩ hp hk hm (by omega)) KpG.t (KpG.b (by omega) (by omega)) (Yg _ _) (fun _=>rfl)
   (fun pre W=>Boxed W w1.heap.size 2 (.int .i64 (sumW pre))∧Below w.heap.size w W)
   (fun _ _ _=>False)
   (OwnFrom.and (Own.from (boxed_own _ _ _) _) (ownFrom_below (Zd _) (by omega)))
   (fun _ _ _ _ _ hs _ _=>hs)
   ⟨bR,hg⟩
   (fun x=>{tmps:=#[.int .i64 size,.slice a n cap,undef,undef,.int .i64 0,.pointer (some ⟨w1.heap.size,0,none⟩),undef,.int .i64 x.2,.int .i64 size,.slice a n cap,.bool true,.bool false,.int .i64 size,.slice a n cap,.func (.func 84) #[] #[.pointer (some ⟨w1.heap.size+1+1,0,none⟩),.pointer (some ⟨w1.heap.size+1,0,none⟩)],.int .i64 x.1,.int .i64 x.2,undef,undef,undef,undef],defers:=[]}) ?assign ?body ?done ?stop
  case assign=>
   intro l x W K hK
   gi_wp2
   exact hK
  case body=>
   rintro l pre x W ⟨hc,hB⟩ _
   have c0:=hc.cell
   have f0:=hc.frozen
   gi_wp2
   refine ⟨KeepsOthers.setCell _ _ _,⟨(Yg w.heap.size W).setCell (p:=⟨w1.heap.size,0,none⟩) hz _,fun b c hb=>?_,fun v hv=>?_⟩,by rw[sumW_snoc];exact hc.set _,hB.setCell (p:=⟨w1.heap.size,0,none⟩) hz _⟩
   ·have hh:b≠w1.heap.size:=fun e=>by subst e;unfold Blk at hb;rw[show W.heap[w1.heap.size]?=_ from hc] at hb;cases hb
    exact hb.grown (grownBy_setCell' W w1.heap.size _) hh
   ·exact (grownBy_setCell' W w1.heap.size _).cell hv (by simp)
  case done=>
   rintro D ys W hD rfl ⟨hc,hB⟩ hK
   have c0:=hc.cell
   gi_wp2
   refine ⟨by simp,.inl ⟨_,_,rfl,run_takeDeferred hK,?_⟩⟩
   exact⟨_,results_tmp rfl _ _ _,rfl,hB.trans (belowK_b (w:=w) (Zd _) W D _ _ (by omega) hK rfl rfl)⟩
  case stop=>
   rintro D c pre W _ _ h _
   exact h.elim
theorem impl_RoomOf (size:Int)(a:Option Addr)(n cap:Nat)(l:List Ex)(w:World)(h:Bg w a n l)(hstr:BT l)(hn:n<=4194304)(hl:∀ ad,0<n->a=some ad->ad.block<w.heap.size) :
  Calls prog 14 #[.int .i64 size,.slice a n cap] w fun e W'=>e=.returned (.int .i64 (roomV size l))∧Below w.heap.size w W':=
 callsIn_wide.1 (impl_RoomOf_in size a n cap l w h hstr hn hl)
end
end Go.Proofs.YtkodenjhajafpaaGreatDoor
namespace Go.Proofs.YtkodenjhajafpaaGreatDoor
open Go Go.RowKit Go.BigFrame _root_.Go.Proofs.Tryz
theorem op_size (p:Po)(o:Opr):(opS p o).2.size=p.size:=by
 have hf:(Ao p o).2.size=p.size:=by
  unfold Ao;dsimp only
  split
  ·rfl
  ·split
   ·rfl
   ·split
    ·rfl
    ·split<;>rfl
 have hv:(Ay p o).2.size=p.size:=by
  unfold Ay
  split
  ·split<;>rfl
  ·split
   ·rfl
   ·split
    ·rfl
    ·split
     ·split<;>rfl
     ·split
      ·rfl
      ·split
       ·split<;>rfl
       ·split
        ·split
         ·rfl
         ·split<;>rfl
        ·rfl
 have ht:(BI p o).2.size=p.size:=by
  unfold BI;split
  ·exact hf
  ·exact hv
 unfold opS
 split
 ·split
  ·rfl
  ·split
   ·split
    ·exact ht
    ·rfl
   ·rfl
 ·rfl
theorem seenF_two {p n:Po}{a b:ByteArray}(h:∀ f,DK n a f=DK p b f):∀ (l:List ByteArray) (acc:ByteArray),BK n a l acc=BK p b l acc
 |[],_=>rfl
 |x::r,acc=>by rw[BK,BK,h,seenF_two h r]
theorem seen_two {p n:Po}{v u:Vo}{k j:Nat}(hp:Aj p=true)(hn:Aj n=true)(hv:p.vs[k]?=some v)(hu:n.vs[j]?=some u)(hits:u.its=v.its)(hex:n.ex=p.ex):Dd n u.nm=Dd p v.nm:=by
 have i1:=pH_ (bL_ hp).2.2.2.2 hv
 have i2:=pH_ (bL_ hn).2.2.2.2 hu
 have q2:∀ f,Aq n.vs u.nm f=Aq p.vs v.nm f:=fun f=>by
  unfold Aq;rw[i1,i2];dsimp only[Option.bind];rw[hu,hv];dsimp only;rw[hits]
 have ha:∀ f,DK n u.nm f=DK p v.nm f:=fun f=>by
  unfold DK Cj Cm BU
  rw[if_pos hp,if_pos hn,if_pos hp,if_pos hn,q2,hex]
 unfold Dd Cp
 rw[if_pos hp,if_pos hn,i1,i2]
 dsimp only[Option.bind]
 rw[hv,hu]
 dsimp only[Option.map]
 rw[hits]
 exact seenF_two ha _ _
/-- A snapshot has what its volume has, and nothing else is turned. -/
theorem snap_after {p:Po}{o:Opr}(hp:Aj p=true)(hk:o.k=6)(h0:(opS p o).1=0):opB o=true∧(opS p o).2.ex=p.ex∧Dd (opS p o).2 o.to=Dd p o.vol∧Dd (opS p o).2 o.vol=Dd p o.vol∧Dd p o.to=⟨#[110,111,110,101]⟩:=by
 have he:¬ o.k=9:=by omega
 have ht:BI p o=Ay p o:=by unfold BI;rw[if_neg (by omega)]
 have ho:opB o=true:=by
  cases h:opB o with
  |true=>rfl
  |false=>unfold opS at h0;rw[h] at h0;simp at h0
 have e1:opS p o=if (Ay p o).1=0 then (if Aj (AX p (Ay p o).2)=true then (0,AX p (Ay p o).2) else (5,p)) else ((Ay p o).1,p):=by
  unfold opS;rw[if_pos ho,if_neg he,ht]
 have hf:(Ay p o).1=0:=by
  apply Classical.byContradiction;intro h
  rw[e1,if_neg h] at h0;exact h h0
 have hb:Aj (AX p (Ay p o).2)=true:=by
  apply Classical.byContradiction;intro h
  rw[e1,if_pos hf,if_neg h] at h0;simp at h0
 have e2:(opS p o).2=AX p (Ay p o).2:=by rw[e1,if_pos hf,if_pos hb]
 rw[e2]
 clear e1 e2 h0
 have e3:Ay p o=match volI p.vs o.vol with
   |none=>(3,p)
   |some i=>match p.vs[i]? with
    |none=>(3,p)
    |some v=>(match volI p.vs o.to with | some _=>(4,p) | none=>(0,{p with vs:=p.vs++[⟨p.next,o.to,false,v.its⟩],next:=p.next+1})):=by
  unfold Ay
  rw[if_neg (by omega)]
  cases volI p.vs o.vol with
  |none=>rfl
  |some i=>
   dsimp only
   cases p.vs[i]? with
   |none=>rfl
   |some v=>dsimp only;rw[if_neg (by omega),if_pos hk];cases volI p.vs o.to<;>rfl
 cases hi:volI p.vs o.vol with
 |none=>rw[e3,hi] at hf;simp at hf
 |some i=>
  cases hv:p.vs[i]? with
  |none=>rw[e3,hi] at hf;dsimp only at hf;rw[hv] at hf;simp at hf
  |some v=>
   rw[hi] at e3;dsimp only at e3;rw[hv] at e3;dsimp only at e3
   cases ha:volI p.vs o.to with
   |some j=>rw[e3,ha] at hf;simp at hf
   |none=>
    rw[ha] at e3;dsimp only at e3
    rw[e3] at hb ⊢
    have hg:=(Zb.1 hv).1
    have hc:v.nm=o.vol:=jV_ (DC hi hv)
    have hu:(AX p {p with vs:=p.vs++[⟨p.next,o.to,false,v.its⟩],next:=p.next+1}).vs[p.vs.length]?=some ⟨p.next,o.to,false,v.its⟩:=by
     show (p.vs++[_])[p.vs.length]?=_
     simp
    have hw:(AX p {p with vs:=p.vs++[⟨p.next,o.to,false,v.its⟩],next:=p.next+1}).vs[i]?=some v:=by
     show (p.vs++[_])[i]?=_
     rw[ZD hg];exact hv
    refine ⟨ho,rfl,?_,?_,?_⟩
    ·have:=seen_two hp hb hv hu rfl rfl
     rw[hc] at this;exact this
    ·have:=seen_two hp hb hv hw rfl rfl
     rw[hc] at this;exact this
    ·unfold Dd Cp
     rw[if_pos hp,ha]
     rfl
/-- What is copied stands where it was copied. -/
theorem copy_after {p:Po}{o:Opr}(hp:Aj p=true)(hk:o.k=5)(h0:(opS p o).1=0):∃ y:ByteArray,opB o=true∧(opS p o).2.ex=p.ex∧0<=o.fr∧o.fr<=100∧0<=o.at'∧o.at'<=100∧1<=o.ln∧o.ln<=100∧Cj p o.vol o.file o.fr (o.fr+o.ln)=(y,true)∧Cj (opS p o).2 o.to o.into o.at' (o.at'+o.ln)=(y,true):=by
 obtain⟨f1,f2,f3,f4,f5⟩:=Ea hp (by omega) h0
 rw[if_pos hk,if_pos hk] at f5
 have ha:((0<=o.at'∧o.at'<=100)∧(0<=o.fr∧o.fr<=100))∧1<=o.ln∧o.ln<=100:=by
  unfold opB at f2
  rw[if_neg (by omega),if_neg (by omega),if_neg (by omega),if_neg (by omega),if_neg (by omega),if_pos hk] at f2
  simp only[inB,Zf,ZU] at f2
  exact⟨⟨f2.1.1.1.2,f2.1.1.2⟩,f2.1.2⟩
 rw[oW_ hk] at f1 f4 f5
 cases hq:Aq p.vs o.vol o.file with
 |none=>rw[hq] at f1;simp at f1
 |some src=>
  rw[hq] at f1 f4 f5;dsimp only at f1 f4 f5
  by_cases hl:o.fr+o.ln > Ae src
  ·rw[if_pos hl] at f1;simp at f1
  rw[if_neg hl] at f4 f5
  dsimp only at f4 f5
  obtain⟨x,x1,x2,x3,x4,x5⟩:=Ds hp hq
  have he:=BW (u:=o.fr) (t:=o.fr+o.ln) x1 ha.1.2.1 (by omega) (by omega)
  have hc:=(fl_ he).1
  have hb:Ak [] (slp o.fr (o.fr+o.ln) 0 src)=slp o.fr (o.fr+o.ln) 0 src:=by
   simp only[Ac,Zf] at hc
   exact fD_ hc.2
  rw[hb] at f5
  obtain⟨z,z1,z2,z3,z4,z5⟩:=Ds f3 f5
  rw[f4] at z1
  obtain⟨t,ht⟩:∃ t,Ai ((Aq p.vs o.to o.into).getD []) p.ex=some t:=by
   cases hg:Aq p.vs o.to o.into with
   |none=>exact⟨⟨#[]⟩,by dsimp only[Option.getD];rw[Bb rfl (fl_ x1).2];rfl⟩
   |some q=>obtain⟨t,t1,_⟩:=Ds hp hg;exact⟨t,t1⟩
  have hf:BJ ((Aq p.vs o.to o.into).getD []) o.at' (slp o.fr (o.fr+o.ln) 0 src)=some (AH ((Aq p.vs o.to o.into).getD []) o.at' (slp o.fr (o.fr+o.ln) 0 src)):=by
   rw[mj_ (fl_ ht).1 hc ha.1.1.1 ha.1.1.2,if_pos (fl_ z1).1]
  have hz:=EI hf ht he z1
  have hy:(x.extract o.fr.toNat (o.fr+o.ln).toNat).size=o.ln.toNat:=by rw[ByteArray.size_extract];omega
  refine ⟨x.extract o.fr.toNat (o.fr+o.ln).toNat,f2,f4,ha.1.2.1,ha.1.2.2,ha.1.1.1,ha.1.1.2,ha.2.1,ha.2.2,?_,?_⟩
  ·unfold Cj BU
   rw[if_pos hp,hq]
   dsimp only
   rw[if_pos ⟨ha.1.2.1,by omega,by omega,by omega⟩,x1]
   rfl
  ·have hh:o.at'.toNat+o.ln.toNat<=z.size:=by
    rw[hz]
    simp only[ByteArray.size_append,ByteArray.size_extract,ca_,hy]
    omega
   unfold Cj BU
   rw[if_pos f3,f5]
   dsimp only
   rw[if_pos ⟨ha.1.1.1,by omega,by omega,by omega⟩,f4,z1]
   dsimp only[Option.getD]
   refine Prod.ext ?_ rfl
   show z.extract _ _=_
   have e1:(o.at'+o.ln).toNat=o.at'.toNat+o.ln.toNat:=by omega
   rw[e1,hz]
   generalize x.extract o.fr.toNat (o.fr+o.ln).toNat=y at *
   have hA:((t++zs (o.at'.toNat-t.size)).extract 0 o.at'.toNat).size=o.at'.toNat:=by
    simp only[ByteArray.size_extract,ByteArray.size_append,ca_];omega
   generalize (t++zs (o.at'.toNat-t.size)).extract 0 o.at'.toNat=A at *
   generalize (t++zs (o.at'.toNat-t.size)).extract (min (t++zs (o.at'.toNat-t.size)).size (o.at'.toNat+y.size)) (t++zs (o.at'.toNat-t.size)).size=C at *
   have lA:A.data.toList.length=o.at'.toNat:=by rw[<-hA];exact Array.length_toList
   have lY:y.data.toList.length=o.ln.toNat:=by rw[<-hy];exact Array.length_toList
   apply BV
   rw[Bw,B5,B5,ZC,<-lA,List.drop_left,Nat.add_sub_cancel_left,<-lY,List.take_left]
end Go.Proofs.YtkodenjhajafpaaGreatDoor
