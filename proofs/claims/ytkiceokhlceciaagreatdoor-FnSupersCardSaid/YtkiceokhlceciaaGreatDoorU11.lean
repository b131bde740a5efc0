/- Appends at the program's own types, in few words. -/
import Derived.Lib.SmallJoins
import Derived.Lib.SliceRun
import Derived.Test.YtkiceokhlceciaaGreatDoorU03
set_option maxHeartbeats 20000000
set_option maxRecDepth 100000
namespace Go.Proofs.YtkiceokhlceciaaGreatDoor
section
open Go Go.RowKit Go.BigFrame Tryz
variable{α:Type}{a:Act}{b j n sz:Nat}{o:Oper}{x:Value}{u w:World}{l:List α}{cs:α->List Value}
theorem AX.take {a:Option Addr}(h:AX cs sz w a n l)(hj:j<=n):AX cs sz w a j (l.take j):=
 ⟨by rw[Zz,h.len];omega,fun i x hx=>by
  rw[List.getElem?_take] at hx;split at hx
  ·exact h.cell i x hx
  ·cases hx⟩
theorem AX.drop {o:Nat}(h:AX cs sz w (some ⟨b,o,none⟩) n l)(j:Nat):AX cs sz w (some ⟨b,o+j*sz,none⟩) (n-j) (l.drop j):=
 ⟨by rw[List.length_drop,h.len],fun i x hx=>by
  rw[List.getElem?_drop] at hx;obtain⟨b',o',he,hc⟩:=h.cell _ _ hx;simp at he;obtain⟨rfl,rfl⟩:=he;refine⟨b,_,rfl,fun u v hv=>?_⟩
  have:=hc u v hv
  rw[Yd] at this;rw[<-this];congr 2;omega⟩
end
section
open Go Go.RowKit
variable{P:Program}{Q:Exit->Act->World->Prop}{md:Region.Mode}
variable{S:World->Prop}
theorem Mj {l:List Oper}{i:Nat}{oi:Oper}{v:Value}{fuel:Nat}{listed:Array Bool}{a:Act}{w:World}(hi:l[i]?=some oi)
  (hs:Region.noSelect l.toArray=true)(hf:Region.free md l.toArray listed i=true)(hr:(Region.ready md l.toArray listed).contains i=true)
  (hQ:∀ c a w,Q (.panic c) (a.put oi.dst v) w->Q (.panic c) a w)(hy:YieldsIf P l.toArray S oi v a)(hS:S w)
  (h:wpAnyH P md l.toArray Q S fuel (listed.setIfInBounds i true) (a.put oi.dst v) w):wpAnyH P md l.toArray Q S (fuel+1) listed a w:=
 wpAnyH_take (by simpa using hi) hs hf hr hQ hy hS h
theorem tk {l:List Oper}(i:Nat){oi:Oper}{v:Value}{fuel:Nat}{listed li:Array Bool}{a b:Act}{w:World}(h:wpAnyH P md l.toArray Q S fuel li b w)(hi:l[i]?=some oi:=by rfl)
  (hB:(Region.noSelect l.toArray&&Region.free md l.toArray listed i&&(Region.ready md l.toArray listed).contains i)=true:=by kernel_rfl)(hw:Region.wanted oi (yielded l.toArray a.tmps)=true:=by rfl)
  (hy:∀ w,S w->(execOp a.eval oi).run P w=.ok (.value v) w:=by (intro u hu;(try dsimp only at hu);go_simp<;>with_reducible rfl))(hQ:∀ c a w,Q (.panic c) (a.put oi.dst v) w->Q (.panic c) a w:=by exact fun _ _ _ h=>h)(hS:S w:=by first | assumption | trivial)
  (hl:listed.setIfInBounds i true=li:=by (try simp only[Yj,Yq,Yr]);rfl)(ha:a.put oi.dst v=b:=by (try simp only[Act.put,lsA,lsB,lsC]);rfl):wpAnyH P md l.toArray Q S (fuel+1) listed a w:=by
 subst hl ha;simp only[Zf] at hB;exact Mj hi hB.1.1 hB.1.2 hB.2 hQ (.inl ⟨hw,hy⟩) hS h
end
section
open Go Go.RowKit Go.BigFrame Tryz
variable{α:Type}{a:Act}{B b n sz:Nat}{t:TypeId}{x:Value}{u u':World}{l:List α}{cs:α->List Value}
def JP (B:Nat)(t:TypeId)(u:World)(x:Value):Prop:=∃ b,x=.slice (some ⟨b,0,none⟩) 0 0∧Blk u b #[] t∧B<=b
def JQ (cs:α->List Value)(sz:Nat)(t:TypeId)(B n:Nat)(l:List α)(u:World)(x:Value):Prop:=∃ a cap,x=.slice a n cap∧Ad cs sz t u B a n cap l∧a≠none
def Ll (B:Nat)(t:TypeId)(c:Array Value)(u:World)(x:Value):Prop:=∃ b,x=.pointer (some ⟨b,0,none⟩)∧Blk u b c t∧B<=b
theorem JP.below (h:JP B t u x)(hb:Below u.heap.size u u'):JP B t u' x:=by
 obtain⟨b,h1,h2,h3⟩:=h;exact⟨b,h1,h2.below hb,h3⟩
theorem JQ.below (h:JQ cs sz t B n l u x)(hb:Below u.heap.size u u'):JQ cs sz t B n l u' x:=by
 obtain⟨a,cap,h1,h2,h3⟩:=h;exact⟨a,cap,h1,h2.below hb,h3⟩
theorem Ll.below {c:Array Value}(h:Ll B t c u x)(hb:Below u.heap.size u u'):Ll B t c u' x:=by
 obtain⟨b,h1,h2,h3⟩:=h;exact⟨b,h1,h2.below hb,h3⟩
end
section
open Go Go.RowKit
variable{P:Program}{ops:Array Oper}{Q:Exit->Act->World->Prop}{md:Region.Mode}
def C8 (P:Program)(ops:Array Oper)(n:Nat)(Q:Exit->Act->World->Prop):Exit->Act->World->Prop
 |.normal,a,w=>wpOp P ops Q n (Q .normal) a w
 |e,a,w=>Q e a w
theorem nm_ {n:Nat}(h:LetsOut (C8 P ops n Q)):LetsOut Q:=by
 obtain⟨a,w,h⟩:=h;exact⟨a,w,h⟩
theorem nn_ {n i:Nat}{K:Act->World->Prop}{a:Act}{w:World}(h:wpOp P ops (C8 P ops n Q) i K a w):wpOp P ops Q i K a w:=by
 unfold wpOp at *;split
 ·rename_i h0;simp only[h0] at h;exact h
 ·rename_i o h0;simp only[h0] at h;split
  ·rename_i hw;rw[if_pos hw] at h;rcases h with h | ⟨h1,h2⟩
   ·left;unfold Oper.wp at *;generalize (execOp a.eval o).run P w=r at *
    cases r with
    |ok nx w'=>
     cases nx<;>simp only[Oper.upon] at h ⊢<;>try exact h
    |halt x w'=>
     cases x<;>simp only[Oper.upon] at h ⊢
     exact h
   ·exact .inr ⟨h1,nm_ h2⟩
  ·rename_i hw;rw[if_neg hw] at h;exact h
def unl (n:Nat)(listed:Array Bool):Nat:=(List.range n).countP (fun i=>listed.getD i true==false)
def Mv (ops:Array Oper):Bool:=(List.range ops.size).all fun j=>match ops[j]? with | some o=>o.after.all fun e=>decide (e.on<j) | none=>true
theorem fR_ (h:Mv ops=true){j:Nat}{o:Oper}(hj:ops[j]?=some o):∀ e∈o.after,e.on<j:=by
 intro e he;have h1:=List.all_eq_true.1 h j (List.mem_range.2 (ZG.1 hj).1);simp only[hj] at h1
 have:=Array.all_eq_true_iff_forall_mem.1 h1 e he
 simpa using this
theorem pq_ {n:Nat}{listed:Array Bool}(h:0<unl n listed):∃ i,i<n∧listed.getD i true=false:=by
 obtain⟨i,hi,h1⟩:=List.countP_pos_iff.1 h;exact⟨i,List.mem_range.1 hi,by simpa using h1⟩
theorem kq_ {n:Nat}{listed:Array Bool}(h:unl n listed=0):∀ i,i<n->listed.getD i true=true:=by
 intro i hi
 have:=List.countP_eq_zero.1 h i (List.mem_range.2 hi)
 simpa using this
theorem gj_ {listed:Array Bool}{i:Nat}(hi:i<listed.size)(hf:listed.getD i true=false):∀ (l:List Nat),l.Nodup->i∈l->l.countP (fun k=>(listed.setIfInBounds i true).getD k true==false)+1=l.countP (fun k=>listed.getD k true==false)
 |[],_,h=>by cases h
 |x::r,hn,h=>by
  rw[List.countP_cons,List.countP_cons];by_cases hx:x=i
  ·subst hx
   have hr:∀ k∈r,((listed.setIfInBounds x true).getD k true==false)=(listed.getD k true==false):=fun k hk=>by
    rw[getD_set_ne true (fun e=>by subst e;exact (List.nodup_cons.1 hn).1 hk)]
   rw[List.countP_congr (fun k hk=>by rw[hr k hk])];have h1:(listed.setIfInBounds x true).getD x true=true:=by simp[hi]
   simp only[h1,hf];simp
  ·have ih:=gj_ hi hf r (List.nodup_cons.1 hn).2 (by rcases Zn.1 h with e | e;exact absurd e.symm hx;exact e);rw[getD_set_ne true (Ne.symm hx)];omega
theorem no_ {n:Nat}{listed:Array Bool}(h:0<unl n listed):∃ i,i<n∧listed.getD i true=false∧∀ k,k<i->listed.getD k true=true:=by
 obtain⟨i,hi,hf⟩:=pq_ h
 induction i using Nat.strongRecOn with
 |_ i ih=>
  by_cases hk:∃ k,k<i∧listed.getD k true=false
  ·obtain⟨k,h1,h2⟩:=hk;exact ih k h1 (by omega) h2
  ·refine⟨i,hi,hf,fun k ha=>?_⟩
   cases hb:listed.getD k true with
   |true=>rfl
   |false=>exact absurd ⟨k,ha,hb⟩ hk
theorem hD_ {listed:Array Bool}{i:Nat}(hi:i<listed.size)(h:listed.getD i true=true):listed.getD i false=true:=by
 simp[hi] at h ⊢;exact h
theorem lH_ {n:Nat}(hn:ops.size=n+1)(hs:Region.sinkB md ops n=true)(hd:Mv ops=true):
  ∀ (fuel:Nat) (listed:Array Bool) (a:Act) (w:World),HeadInv md ops n listed->unl n listed=fuel->
   wpAny P md ops (C8 P ops n Q) fuel (listed.setIfInBounds n true) a w->wpAny P md ops Q (fuel+1) listed a w:=by
 have hc:Region.chainB md ops n=true:=by
  refine List.all_eq_true.2 fun t ht=>?_
  have:=List.mem_range.1 ht
  simp;left;omega
 intro fuel
 induction fuel with
 |zero=>
  intro listed a w inv hu h;have ha:=kq_ hu;have hm:=inv.size;obtain⟨h1,h2⟩:=h
  have hl:∀ i∈Region.ready md ops listed,i=n:=fun i hi=>by
   obtain⟨q1,o,q2,_⟩:=mem_ready.1 hi
   have:=(ZG.1 q2).1
   rcases Nat.lt_or_ge i n with q | q
   ·rw[ha i q] at q1;cases q1
   ·omega
  have hb:n∈Region.ready md ops listed:=by
   have hf:n<ops.size:=by omega
   have ho:ops[n]?=some ops[n]:=by simp[hf]
   exact mem_ready.2 ⟨inv.tail n (Zd _) hf,_,ho,fun e he _=>hD_ (by have:=fR_ hd ho e he;omega) (ha _ (fR_ hd ho e he))⟩
  refine⟨fun h0=>(by rw[h0] at hb;cases hb),fun i hi=>?_⟩;obtain rfl:=hl i hi;exact wpOp_mono (fun a' w' hq=>⟨h1,hq⟩) h2
 |succ fuel ih=>
  intro listed a w inv hu h;have hm:=inv.size;obtain⟨i0,hj,hg,hk⟩:=no_ (n:=n) (listed:=listed) (by omega)
  have hb:i0∈Region.ready md ops listed:=by
   have hf:i0<ops.size:=by omega
   have ho:ops[i0]?=some ops[i0]:=by simp[hf]
   exact mem_ready.2 ⟨hg,_,ho,fun e he _=>hD_ (by have:=fR_ hd ho e he;omega) (hk _ (fR_ hd ho e he))⟩
  refine⟨fun h0=>(by rw[h0] at hb;cases hb),fun i hi=>?_⟩;obtain⟨q1,o,q2,_⟩:=mem_ready.1 hi;have hf:=(ZG.1 q2).1
  have hh:i<n:=by
   rcases Nat.lt_or_ge i n with q | q
   ·exact q
   ·exact absurd hi (tail_waits hs hc (by omega) inv _ i0 rfl hj hg i q)
  have h2:=h.2 i (ready_mono hi (by omega));refine nn_ (n:=n) (wpOp_mono (fun a' w' hq=>?_) h2);refine ih _ a' w' (inv.set hi hh) ?_ ?_
  ·have:=gj_ (listed:=listed) (i:=i) (by omega) q1 (List.range n) List.nodup_range (List.mem_range.2 hh)
   unfold unl at *;omega
  ·rw[Array.setIfInBounds_comm _ _ (by omega)];exact hq
theorem ar_ {S:World->Prop}{id:Nat}{a:Act}{w:World}(n:Nat)(hm:P.follows .mixedOrders=true)(hB:(decide (ops.size=n+1)&&Region.sinkB .any ops n&&Mv ops)=true)
  (h:wpAnyH P .any ops (C8 P ops n Q) S n ((Array.replicate ops.size false).setIfInBounds n true) a w.drew):(Code.region id ops true).wp P Q a w:=by
 simp only[Zf,ZU] at hB;refine wp_region_any hm ?_
 have hx:=lH_ (P:=P) (Q:=Q) hB.1.1 hB.1.2 hB.2 n (Array.replicate ops.size false) a w.drew ⟨by simp,fun j oj _ hl=>(by rw[getD_replicate_false] at hl;cases hl),fun t _ ht=>(by simp[ht])⟩ (by
  unfold unl;rw[List.countP_eq_length.2 (fun k hk=>by have:=List.mem_range.1 hk;have:k<ops.size:=(by omega);simp[this])];simp) (wpAny_of_held _ _ _ _ h)
 rw[hB.1.1] at hx ⊢;rw[<-hB.1.1];rw[<-hB.1.1] at hx;exact hx
end
section
open Go Go.RowKit
variable{P:Program}{Q:Exit->Act->World->Prop}{md:Region.Mode}
variable{S:World->Prop}
theorem lastL {l:List Oper}{n:Nat}{o:Oper}{a:Act}{w:World}(hi:l[n]?=some o)(h:wpList P l.toArray Q [o] a w):C8 P l.toArray n Q .normal a w:=by
 have ha:l.toArray[n]?=some o:=by simpa using hi
 show wpOp P l.toArray Q n (Q .normal) a w;unfold wpOp;simp only[ha];exact h
theorem Aq {l:List Oper}{i:Nat}{o:Oper}{fuel:Nat}{listed:Array Bool}{a:Act}{w:World}(hr:Region.ready md l.toArray listed=[i])(hi:l[i]?=some o)
  (h:∀ K':Act->World->Prop,Shut (∀ a w,S w->(S w->wpAnyH P md l.toArray Q S fuel (listed.setIfInBounds i true) a w)->K' a w)->if Region.wanted o (yielded l.toArray a.tmps)=true then Oper.wp P o a w K' Q else K' (a.put o.dst undef) w):
  wpAnyH P md l.toArray Q S (fuel+1) listed a w:=
 wpAnyH_ready hr (by simp) (AllReadyH.cons (by simpa using hi) h AllReadyH.nil)
end
section
open Go Go.RowKit Go.BigFrame Tryz
variable{α:Type}{B b cap i n sz:Nat}{t:TypeId}{v:Value}{w:World}{l:List α}{cs:α->List Value}
theorem Ad.cellAt {j:Nat}{x:α}(h:Ad cs sz t w B (some ⟨b,0,none⟩) n cap l)(hi:l[i]?=some x)(hj:(cs x)[j]?=some v):w.cell? ⟨b,i*sz+j,none⟩=some v:=by
 obtain⟨b',o',e,hc⟩:=h.sl.cell i x hi
 cases e
 have:=hc j v hj
 rwa [Zq] at this
end
section
open Go Go.RowKit Go.BigFrame Tryz
variable{α:Type}{a:Act}{K:Act->World->Prop}{ops:Array Oper}{Q:Exit->Act->World->Prop}{j k:Nat}{o:Oper}{P:Program}{md:Region.Mode}{x:Value}{u u' w:World}{S:World->Prop}{l:List α}
theorem lI_ (I:Array Bool->Act->World->Prop)
  (hstep:∀ listed a u i,I listed a u->i∈Region.ready md ops listed->wpOp P ops Q i (fun a' u'=>S u'∧I (listed.setIfInBounds i true) a' u') a u)
  (hdone:∀ listed a u,I listed a u->Region.ready md ops listed=[]->Q .normal a u)(hsz:∀ listed a u,I listed a u->listed.size=ops.size):
  ∀ (fuel:Nat) (listed:Array Bool) (a:Act) (u:World),unl ops.size listed<=fuel->I listed a u->wpAnyH P md ops Q S fuel listed a u:=by
 have ha:∀ (listed:Array Bool) i,i∈Region.ready md ops listed->i<ops.size∧listed.getD i true=false:=fun listed i hi=>by
  obtain⟨h1,o,h2,_⟩:=mem_ready.1 hi;exact⟨(ZG.1 h2).1,h1⟩
 intro fuel
 induction fuel with
 |zero=>
  intro listed a u hu hI
  have hr:Region.ready md ops listed=[]:=by
   cases hl:Region.ready md ops listed with
   |nil=>rfl
   |cons i r=>
    obtain⟨h1,h2⟩:=ha listed i (by rw[hl];simp);rw[kq_ (by omega) i h1] at h2
    cases h2
  exact⟨hr,hdone listed a u hI hr⟩
 |succ fuel ih=>
  intro listed a u hu hI;refine⟨fun hr=>hdone listed a u hI hr,fun i hi=>?_⟩;obtain⟨h1,h2⟩:=ha listed i hi;refine wpOp_mono (fun a' u' hq=>⟨hq.1,ih _ a' u' ?_ hq.2⟩) (hstep listed a u i hI hi)
  have:=gj_ (listed:=listed) (i:=i) (by rw[hsz listed a u hI];exact h1) h2 (List.range ops.size) List.nodup_range (List.mem_range.2 h1)
  unfold unl at *;omega
theorem cL_ {l:List Oper}{i:Nat}(hi:l[i]?=some o)(hg:o.guard=none)(h:∀ K':Act->World->Prop,Shut (∀ a w,K a w->K' a w)->o.wp P a w K' Q):wpOp P l.toArray Q i K a w:=by
 have ha:l.toArray[i]?=some o:=by simpa using hi
 unfold wpOp;simp only[ha];rw[if_pos (by simp[Region.wanted,hg])];exact .inl (h K (fun _ _ h=>h))
theorem kr_ {L0:Array Bool}{a0:Act}{u0:World}{fuel:Nat}(F:Act->Prop)(I:Act->Array Bool->Act->World->Prop)
  (hF:F a0)(hstep:∀ a0,F a0->∀ listed a u i,I a0 listed a u->i∈Region.ready md ops listed->wpOp P ops Q i (fun a' u'=>S u'∧I a0 (listed.setIfInBounds i true) a' u') a u)
  (hdone:∀ listed a u,I a0 listed a u->Region.ready md ops listed=[]->Q .normal a u)(hsz:∀ listed a u,I a0 listed a u->listed.size=ops.size)
  (hu:unl ops.size L0<=fuel)(hI:I a0 L0 a0 u0):wpAnyH P md ops Q S fuel L0 a0 u0:=lI_ (I a0) (hstep a0 hF) hdone hsz fuel L0 a0 u0 hu hI
theorem ce_ (a:Act)(k:Nat)(x y:Value):(a.put (some k) x).put (some k) y=a.put (some k) y:=by simp[Act.put]
theorem ax_ (h:k≠j)(a:Act)(x y:Value):(a.put (some k) x).put (some j) y=(a.put (some j) y).put (some k) x:=by
 simp only[Act.put];rw[Array.setIfInBounds_comm _ _ h]
theorem dd_ (a:Act)(k:Nat)(x:Value):(a.put (some k) x).tmps.size=a.tmps.size:=by simp[Act.put]
theorem cp_ (h:k<a.tmps.size):(a.put (some k) x).eval (.tmp k)=x:=by simp[Act.put,Act.eval,h]
theorem aj_ (h:k≠j)(a:Act)(x:Value):(a.put (some k) x).eval (.tmp j)=a.eval (.tmp j):=by simp[Act.put,Act.eval,Za h]
theorem bX_ {l:List Oper}{L:Array Bool}(hr:Region.ready md l.toArray L=[])(ho:l[k]?=some o)(hd:∀ e∈o.after,Region.binds md e=true->L.getD e.on false=true):L.getD k true=true:=by
 cases h:L.getD k true with
 |true=>rfl
 |false=>
  have hq:l.toArray[k]?=some o:=by simpa using ho
  have:=(mem_ready (md:=md)).2 ⟨h,o,hq,hd⟩
  rw[hr] at this
  cases this
end
section
open Go Go.RowKit Go.BigFrame Tryz
variable{file vol:ByteArray}{k:Nat}
structure Opr where
 k:Int
 vol:ByteArray
 file:ByteArray
 to:ByteArray
 into:ByteArray
 at':Int
 fr:Int
 ln:Int
 data:ByteArray
structure Ds (o:Opr):Prop where
 vol:o.vol.size<=9223372036854775807
 file:o.file.size<=9223372036854775807
 to:o.to.size<=9223372036854775807
 into:o.into.size<=9223372036854775807
 data:o.data.size<=9223372036854775807
end
end Go.Proofs.YtkiceokhlceciaaGreatDoor
