/- Appends at the program's own types, in few words. -/
import Derived.Lib.SliceRun
import Derived.Test.YteejlahappbalaaGreatDoorU05
set_option maxHeartbeats 20000000
set_option maxRecDepth 100000
namespace Go.Proofs.YteejlahappbalaaGreatDoor
section
open Go Go.RowKit Go.BigFrame Tryz
variable{α:Type}{a:Act}{b j n sz:Nat}{o:Oper}{x:Value}{u w:World}{l:List α}{cs:α->List Value}
theorem AH.take {a:Option Addr}(h:AH cs sz w a n l)(hj:j<=n):AH cs sz w a j (l.take j):=
 ⟨by rw[Zz,h.len];omega,fun i x hx=>by
  rw[List.getElem?_take] at hx;split at hx
  ·exact h.cell i x hx
  ·cases hx⟩
theorem AH.drop {o:Nat}(h:AH cs sz w (some ⟨b,o,none⟩) n l)(j:Nat):AH cs sz w (some ⟨b,o+j*sz,none⟩) (n-j) (l.drop j):=
 ⟨by rw[List.length_drop,h.len],fun i x hx=>by
  rw[List.getElem?_drop] at hx;obtain⟨b',o',he,hc⟩:=h.cell _ _ hx;simp at he;obtain⟨rfl,rfl⟩:=he;refine⟨b,_,rfl,fun u v hv=>?_⟩
  have:=hc u v hv
  rw[Yd] at this;rw[<-this];congr 2;omega⟩
end
section
open Go Go.RowKit Go.BigFrame Tryz
variable{file vol:ByteArray}{k:Nat}
structure Opr where
 k:Int
 vol:ByteArray
 file:ByteArray
 to:ByteArray
 into:ByteArray
 at':Int
 fr:Int
 ln:Int
 data:ByteArray
end
section
open Go Go.RowKit Go.BigFrame Tryz
variable{s:ByteArray}{n:Nat}{t:TypeId}{v:Value}{w w':World}
def Gq (v:Value):Prop:=∃ s n ea en ec va vn vc ra rn rc la ln lc,v=.agg #[.int .i64 s,.int .i64 n,.slice ea en ec,.slice va vn vc,.slice ra rn rc,.slice la ln lc]
def FrV (w w':World):Prop:=∀ k c t,Blk w k c t->t≠115->Blk w' k c t
end
section
open Go Go.RowKit
variable{P:Program}{Q:Exit->Act->World->Prop}{md:Region.Mode}
variable{S:World->Prop}
theorem rL{p:Prop}(h:p:=by simpa using hi):p:=h
theorem NX {l:List Oper}{i:Nat}{oi:Oper}{v:Value}{fuel:Nat}{listed:Array Bool}{a:Act}{w:World}(hi:l[i]?=some oi)
  (hs:Region.noSelect l.toArray=true)(hf:Region.free md l.toArray listed i=true)(hr:(Region.ready md l.toArray listed).contains i=true)
  (hQ:∀ c a w,Q (.panic c) (a.put oi.dst v) w->Q (.panic c) a w)(hy:YieldsIf P l.toArray S oi v a)(hS:S w)
  (h:wpAnyH P md l.toArray Q S fuel (listed.setIfInBounds i true) (a.put oi.dst v) w):wpAnyH P md l.toArray Q S (fuel+1) listed a w:=
 wpAnyH_take rL hs hf hr hQ hy hS h
theorem tk {l:List Oper}(i:Nat){oi:Oper}{v:Value}{fuel:Nat}{listed li:Array Bool}{a b:Act}{w:World}(h:wpAnyH P md l.toArray Q S fuel li b w)(hi:l[i]?=some oi:=by rfl)
  (hB:(Region.noSelect l.toArray&&Region.free md l.toArray listed i&&(Region.ready md l.toArray listed).contains i)=true:=by kernel_rfl)(hw:Region.wanted oi (yielded l.toArray a.tmps)=true:=by rfl)
  (hy:∀ w,S w->(execOp a.eval oi).run P w=.ok (.value v) w:=by (intro u hu;(try dsimp only at hu);go_simp<;>with_reducible rfl))(hQ:∀ c a w,Q (.panic c) (a.put oi.dst v) w->Q (.panic c) a w:=by exact fun _ _ _ h=>h)(hS:S w:=by first | assumption | trivial)
  (hl:listed.setIfInBounds i true=li:=by (try simp only[Yj,Yq,Yr]);rfl)(ha:a.put oi.dst v=b:=by (try simp only[Act.put,lsA,lsB,lsC]);rfl):wpAnyH P md l.toArray Q S (fuel+1) listed a w:=by
 subst hl ha;simp only[Zf] at hB;exact NX hi hB.1.1 hB.1.2 hB.2 hQ (.inl ⟨hw,hy⟩) hS h
end
section
open Go Go.RowKit Go.BigFrame Tryz
variable{α:Type}{a:Act}{B b n sz:Nat}{t:TypeId}{x:Value}{u u':World}{l:List α}{cs:α->List Value}
def Of (B:Nat)(t:TypeId)(u:World)(x:Value):Prop:=∃ b,x=.slice (some ⟨b,0,none⟩) 0 0∧Blk u b #[] t∧B<=b
def Og (cs:α->List Value)(sz:Nat)(t:TypeId)(B n:Nat)(l:List α)(u:World)(x:Value):Prop:=∃ a cap,x=.slice a n cap∧Ac cs sz t u B a n cap l∧a≠none
def RF (B:Nat)(t:TypeId)(c:Array Value)(u:World)(x:Value):Prop:=∃ b,x=.pointer (some ⟨b,0,none⟩)∧Blk u b c t∧B<=b
theorem Of.below (h:Of B t u x)(hb:Below u.heap.size u u'):Of B t u' x:=by
 obtain⟨b,h1,h2,h3⟩:=h;exact⟨b,h1,h2.below hb,h3⟩
theorem Og.below (h:Og cs sz t B n l u x)(hb:Below u.heap.size u u'):Og cs sz t B n l u' x:=by
 obtain⟨a,cap,h1,h2,h3⟩:=h;exact⟨a,cap,h1,h2.below hb,h3⟩
theorem RF.below {c:Array Value}(h:RF B t c u x)(hb:Below u.heap.size u u'):RF B t c u' x:=by
 obtain⟨b,h1,h2,h3⟩:=h;exact⟨b,h1,h2.below hb,h3⟩
end
section
open Go Go.RowKit
variable{P:Program}{ops:Array Oper}{Q:Exit->Act->World->Prop}{md:Region.Mode}
def Fq (P:Program)(ops:Array Oper)(n:Nat)(Q:Exit->Act->World->Prop):Exit->Act->World->Prop
 |.normal,a,w=>wpOp P ops Q n (Q .normal) a w
 |e,a,w=>Q e a w
theorem nm_ {n:Nat}(h:LetsOut (Fq P ops n Q)):LetsOut Q:=by
 obtain⟨a,w,h⟩:=h;exact⟨a,w,h⟩
theorem nn_ {n i:Nat}{K:Act->World->Prop}{a:Act}{w:World}(h:wpOp P ops (Fq P ops n Q) i K a w):wpOp P ops Q i K a w:=by
 unfold wpOp at *;split
 ·rename_i h0;simp only[h0] at h;exact h
 ·rename_i o h0;simp only[h0] at h;split
  ·rename_i hw;rw[if_pos hw] at h;rcases h with h | ⟨h1,h2⟩
   ·left;unfold Oper.wp at *;generalize (execOp a.eval o).run P w=r at *
    cases r with
    |ok nx w'=>
     cases nx<;>simp only[Oper.upon] at h ⊢<;>try exact h
    |halt x w'=>
     cases x<;>simp only[Oper.upon] at h ⊢;exact h
   ·exact .inr ⟨h1,nm_ h2⟩
  ·rename_i hw;rw[if_neg hw] at h;exact h
def unl (n:Nat)(listed:Array Bool):Nat:=(List.range n).countP (fun i=>listed.getD i true==false)
def Si (ops:Array Oper):Bool:=(List.range ops.size).all fun j=>match ops[j]? with | some o=>o.after.all fun e=>decide (e.on<j) | none=>true
theorem fR_ (h:Si ops=true){j:Nat}{o:Oper}(hj:ops[j]?=some o):∀ e∈o.after,e.on<j:=by
 intro e he;have h1:=List.all_eq_true.1 h j (List.mem_range.2 (ZG.1 hj).1);simp only[hj] at h1;have:=Array.all_eq_true_iff_forall_mem.1 h1 e he;simpa using this
theorem pq_ {n:Nat}{listed:Array Bool}(h:0<unl n listed):∃ i,i<n∧listed.getD i true=false:=by
 obtain⟨i,hi,h1⟩:=List.countP_pos_iff.1 h;exact⟨i,List.mem_range.1 hi,rR⟩
theorem kq_ {n:Nat}{listed:Array Bool}(h:unl n listed=0):∀ i,i<n->listed.getD i true=true:=by
 intro i hi;have:=List.countP_eq_zero.1 h i (List.mem_range.2 hi);simpa using this
theorem gj_ {listed:Array Bool}{i:Nat}(hi:i<listed.size)(hf:listed.getD i true=false):∀ (l:List Nat),l.Nodup->i∈l->l.countP (fun k=>(listed.setIfInBounds i true).getD k true==false)+1=l.countP (fun k=>listed.getD k true==false)
 |[],_,h=>by cases h
 |x::r,hn,h=>by
  rw[List.countP_cons,List.countP_cons];by_cases hx:x=i
  ·subst hx
   have hr:∀ k∈r,((listed.setIfInBounds x true).getD k true==false)=(listed.getD k true==false):=fun k hk=>by
    rw[getD_set_ne true (fun e=>by subst e;exact (List.nodup_cons.1 hn).1 hk)]
   rw[List.countP_congr (fun k hk=>by rw[hr k hk])];have h1:(listed.setIfInBounds x true).getD x true=true:=oK
   simp only[h1,hf];simp
  ·have ih:=gj_ hi hf r (List.nodup_cons.1 hn).2 (by rcases Zn.1 h with e | e;exact absurd e.symm hx;exact e);rw[getD_set_ne true (Ne.symm hx)];omega
theorem no_ {n:Nat}{listed:Array Bool}(h:0<unl n listed):∃ i,i<n∧listed.getD i true=false∧∀ k,k<i->listed.getD k true=true:=by
 obtain⟨i,hi,hf⟩:=pq_ h
 induction i using Nat.strongRecOn with
 |_ i ih=>
  by_cases hk:∃ k,k<i∧listed.getD k true=false
  ·obtain⟨k,h1,h2⟩:=hk;exact ih k h1 sH h2
  ·refine⟨i,hi,hf,fun k ha=>?_⟩
   cases hb:listed.getD k true with
   |true=>rfl
   |false=>exact absurd ⟨k,ha,hb⟩ hk
theorem hD_ {listed:Array Bool}{i:Nat}(hi:i<listed.size)(h:listed.getD i true=true):listed.getD i false=true:=by
 simp[hi] at h ⊢;exact h
theorem lH_ {n:Nat}(hn:ops.size=n+1)(hs:Region.sinkB md ops n=true)(hd:Si ops=true):
  ∀ (fuel:Nat) (listed:Array Bool) (a:Act) (w:World),HeadInv md ops n listed->unl n listed=fuel->
   wpAny P md ops (Fq P ops n Q) fuel (listed.setIfInBounds n true) a w->wpAny P md ops Q (fuel+1) listed a w:=by
 have hc:Region.chainB md ops n=true:=by
  refine List.all_eq_true.2 fun t ht=>?_;have:=List.mem_range.1 ht;simp;left;omega
 intro fuel
 induction fuel with
 |zero=>
  intro listed a w inv hu h;have ha:=kq_ hu;have hm:=inv.size;obtain⟨h1,h2⟩:=h;have hl:∀ i∈Region.ready md ops listed,i=n:=fun i hi=>by
   obtain⟨q1,o,q2,_⟩:=mem_ready.1 hi;have:=(ZG.1 q2).1;rcases Nat.lt_or_ge i n with q | q
   ·rw[ha i q] at q1;cases q1
   ·omega
  have hb:n∈Region.ready md ops listed:=by
   have hf:n<ops.size:=sH;have ho:ops[n]?=some ops[n]:=by simp[hf]
   exact mem_ready.2 ⟨inv.tail n (Zd _) hf,_,ho,fun e he _=>hD_ (by have:=fR_ hd ho e he;omega) (ha _ (fR_ hd ho e he))⟩
  refine⟨fun h0=>(by rw[h0] at hb;cases hb),fun i hi=>?_⟩;obtain rfl:=hl i hi;exact wpOp_mono (fun a' w' hq=>⟨h1,hq⟩) h2
 |succ fuel ih=>
  intro listed a w inv hu h;have hm:=inv.size;obtain⟨i0,hj,hg,hk⟩:=no_ (n:=n) (listed:=listed) sH;have hb:i0∈Region.ready md ops listed:=by
   have hf:i0<ops.size:=sH;have ho:ops[i0]?=some ops[i0]:=by simp[hf]
   exact mem_ready.2 ⟨hg,_,ho,fun e he _=>hD_ (by have:=fR_ hd ho e he;omega) (hk _ (fR_ hd ho e he))⟩
  refine⟨fun h0=>(by rw[h0] at hb;cases hb),fun i hi=>?_⟩;obtain⟨q1,o,q2,_⟩:=mem_ready.1 hi;have hf:=(ZG.1 q2).1;have hh:i<n:=by
   rcases Nat.lt_or_ge i n with q | q
   ·exact q
   ·exact absurd hi (tail_waits hs hc sH inv _ i0 rfl hj hg i q)
  have h2:=h.2 i (ready_mono hi sH);refine nn_ (n:=n) (wpOp_mono (fun a' w' hq=>?_) h2);refine ih _ a' w' (inv.set hi hh) ?_ ?_
  ·have:=gj_ (listed:=listed) (i:=i) sH q1 (List.range n) List.nodup_range (List.mem_range.2 hh);unfold unl at *;omega
  ·rw[Array.setIfInBounds_comm _ _ sH];exact hq
theorem ar_ {S:World->Prop}{id:Nat}{a:Act}{w:World}(n:Nat)(hm:P.follows .mixedOrders=true)(hB:(decide (ops.size=n+1)&&Region.sinkB .any ops n&&Si ops)=true)
  (h:wpAnyH P .any ops (Fq P ops n Q) S n ((Array.replicate ops.size false).setIfInBounds n true) a w.drew):(Code.region id ops true).wp P Q a w:=by
 simp only[Zf,ZU] at hB;refine wp_region_any hm ?_
 have hx:=lH_ (P:=P) (Q:=Q) hB.1.1 hB.1.2 hB.2 n (Array.replicate ops.size false) a w.drew ⟨sK,fun j oj _ hl=>(by rw[getD_replicate_false] at hl;cases hl),fun t _ ht=>(by simp[ht])⟩ (by
  unfold unl;rw[List.countP_eq_length.2 (fun k hk=>by have:=List.mem_range.1 hk;have:k<ops.size:=sH;simp[this])];simp) (wpAny_of_held _ _ _ _ h)
 rw[hB.1.1] at hx ⊢;rw[<-hB.1.1];rw[<-hB.1.1] at hx;exact hx
end
section
open Go Go.RowKit
variable{P:Program}{Q:Exit->Act->World->Prop}{md:Region.Mode}
variable{S:World->Prop}
theorem lastL {l:List Oper}{n:Nat}{o:Oper}{a:Act}{w:World}(hi:l[n]?=some o)(h:wpList P l.toArray Q [o] a w):Fq P l.toArray n Q .normal a w:=by
 have ha:l.toArray[n]?=some o:=rL;show wpOp P l.toArray Q n (Q .normal) a w;unfold wpOp;simp only[ha];exact h
theorem Ag {l:List Oper}{i:Nat}{o:Oper}{fuel:Nat}{listed:Array Bool}{a:Act}{w:World}(hr:Region.ready md l.toArray listed=[i])(hi:l[i]?=some o)
  (h:∀ K':Act->World->Prop,Shut (∀ a w,S w->(S w->wpAnyH P md l.toArray Q S fuel (listed.setIfInBounds i true) a w)->K' a w)->if Region.wanted o (yielded l.toArray a.tmps)=true then Oper.wp P o a w K' Q else K' (a.put o.dst undef) w):
  wpAnyH P md l.toArray Q S (fuel+1) listed a w:=
 wpAnyH_ready hr sK (AllReadyH.cons rL h AllReadyH.nil)
end
section
open Go Go.RowKit Go.BigFrame Tryz
variable{α:Type}{B b cap i n sz:Nat}{t:TypeId}{v:Value}{w:World}{l:List α}{cs:α->List Value}
theorem Ac.cellAt {j:Nat}{x:α}(h:Ac cs sz t w B (some ⟨b,0,none⟩) n cap l)(hi:l[i]?=some x)(hj:(cs x)[j]?=some v):w.cell? ⟨b,i*sz+j,none⟩=some v:=by
 obtain⟨b',o',e,hc⟩:=h.sl.cell i x hi
 cases e;have:=hc j v hj
 rwa [Zq] at this
end
section
open Go Go.RowKit Go.BigFrame Tryz
theorem dh{p:Prop}(h:p:=by simp[h]):p:=h
end
section
open Go Go.RowKit Go.BigFrame Tryz
variable{α:Type}{t:TypeId}{v:Value}{w:World}{cs:α->List Value}
theorem me{p:Prop}(h:p:=by
 have jT:tmps[p]?.getD undef=.pointer (some ⟨g,0,none⟩):=by simpa using hp
 have jS:tmps[q]?.getD undef=v:=by simpa using hq
 simp[results,h,jT,jS,asAddr,run_loadVar_row w g t ty cs fr d hg hu hd hi]):p:=h
end
section
open Go Go.RowKit Go.BigFrame Tryz
variable{α:Type}{a:Act}{K:Act->World->Prop}{ops:Array Oper}{Q:Exit->Act->World->Prop}{o:Oper}{P:Program}{md:Region.Mode}{u u' w:World}{S:World->Prop}{l:List α}
theorem lI_ (I:Array Bool->Act->World->Prop)
  (hstep:∀ listed a u i,I listed a u->i∈Region.ready md ops listed->wpOp P ops Q i (fun a' u'=>S u'∧I (listed.setIfInBounds i true) a' u') a u)
  (hdone:∀ listed a u,I listed a u->Region.ready md ops listed=[]->Q .normal a u)(hsz:∀ listed a u,I listed a u->listed.size=ops.size):
  ∀ (fuel:Nat) (listed:Array Bool) (a:Act) (u:World),unl ops.size listed<=fuel->I listed a u->wpAnyH P md ops Q S fuel listed a u:=by
 have ha:∀ (listed:Array Bool) i,i∈Region.ready md ops listed->i<ops.size∧listed.getD i true=false:=fun listed i hi=>by
  obtain⟨h1,o,h2,_⟩:=mem_ready.1 hi;exact⟨(ZG.1 h2).1,h1⟩
 intro fuel
 induction fuel with
 |zero=>
  intro listed a u hu hI;have hr:Region.ready md ops listed=[]:=by
   cases hl:Region.ready md ops listed with
   |nil=>rfl
   |cons i r=>
    obtain⟨h1,h2⟩:=ha listed i (by rw[hl];simp);rw[kq_ sH i h1] at h2
    cases h2
  exact⟨hr,hdone listed a u hI hr⟩
 |succ fuel ih=>
  intro listed a u hu hI;refine⟨fun hr=>hdone listed a u hI hr,fun i hi=>?_⟩;obtain⟨h1,h2⟩:=ha listed i hi;refine wpOp_mono (fun a' u' hq=>⟨hq.1,ih _ a' u' ?_ hq.2⟩) (hstep listed a u i hI hi);have:=gj_ (listed:=listed) (i:=i) (by rw[hsz listed a u hI];exact h1) h2 (List.range ops.size) List.nodup_range (List.mem_range.2 h1);unfold unl at *;omega
theorem cL_ {l:List Oper}{i:Nat}(hi:l[i]?=some o)(hg:o.guard=none)(h:∀ K':Act->World->Prop,Shut (∀ a w,K a w->K' a w)->o.wp P a w K' Q):wpOp P l.toArray Q i K a w:=by
 have ha:l.toArray[i]?=some o:=rL;unfold wpOp;simp only[ha];rw[if_pos (by simp[Region.wanted,hg])];exact .inl (h K (fun _ _ h=>h))
end
section
open Go Go.RowKit Go.BigFrame Tryz
theorem pP{p:Prop}(h:p:=by go_wp2;go_returns;exact⟨rG,qe⟩):p:=h
end
section
open Go Go.RowKit Go.BigFrame Tryz
variable{α:Type}{a:Act}{ops:Array Oper}{Q:Exit->Act->World->Prop}{b j k:Nat}{o:Oper}{P:Program}{md:Region.Mode}{x:Value}{u u' w:World}{S:World->Prop}{l:List α}
theorem ro{p:Prop}(h:p:=by have:=qt.size;omega):p:=h
theorem kr_ {L0:Array Bool}{a0:Act}{u0:World}{fuel:Nat}(F:Act->Prop)(I:Act->Array Bool->Act->World->Prop)
  (hF:F a0)(hstep:∀ a0,F a0->∀ listed a u i,I a0 listed a u->i∈Region.ready md ops listed->wpOp P ops Q i (fun a' u'=>S u'∧I a0 (listed.setIfInBounds i true) a' u') a u)
  (hdone:∀ listed a u,I a0 listed a u->Region.ready md ops listed=[]->Q .normal a u)(hsz:∀ listed a u,I a0 listed a u->listed.size=ops.size)
  (hu:unl ops.size L0<=fuel)(hI:I a0 L0 a0 u0):wpAnyH P md ops Q S fuel L0 a0 u0:=lI_ (I a0) (hstep a0 hF) hdone hsz fuel L0 a0 u0 hu hI
theorem ce_ (a:Act)(k:Nat)(x y:Value):(a.put (some k) x).put (some k) y=a.put (some k) y:=by simp[Act.put]
theorem ax_ (h:k≠j)(a:Act)(x y:Value):(a.put (some k) x).put (some j) y=(a.put (some j) y).put (some k) x:=by
 simp only[Act.put];rw[Array.setIfInBounds_comm _ _ h]
theorem dd_ (a:Act)(k:Nat)(x:Value):(a.put (some k) x).tmps.size=a.tmps.size:=by simp[Act.put]
theorem cp_ (h:k<a.tmps.size):(a.put (some k) x).eval (.tmp k)=x:=by simp[Act.put,Act.eval,h]
theorem aj_ (h:k≠j)(a:Act)(x:Value):(a.put (some k) x).eval (.tmp j)=a.eval (.tmp j):=by simp[Act.put,Act.eval,Za h]
theorem sU{p:Prop}(h:p:=by first | omega | (simp only[dd_];omega)):p:=h
theorem bX_ {l:List Oper}{L:Array Bool}(hr:Region.ready md l.toArray L=[])(ho:l[k]?=some o)(hd:∀ e∈o.after,Region.binds md e=true->L.getD e.on false=true):L.getD k true=true:=by
 cases h:L.getD k true with
 |true=>rfl
 |false=>
  have hq:l.toArray[k]?=some o:=by simpa using ho
  have:=(mem_ready (md:=md)).2 ⟨h,o,hq,hd⟩;rw[hr] at this
  cases this
theorem fm{p:Prop}(h:p:=by rw[h.len];omega):p:=h
theorem sF{p:Prop}(h:p:=by
 obtain⟨rfl,rfl⟩:b=b'∧o=o':=rE
 exact Yk w _ f0):p:=h
end
section
open Go Go.RowKit Go.BigFrame Tryz
theorem dI{p:Prop}(h:p:=by show _=_;simp):p:=h
end
section
open Go Go.RowKit
variable{x:It}
theorem pG{p:Prop}(h:p:=by
 obtain⟨a,d⟩:=st
 cases d<;>cases bl y.nm.toList x.nm.toList<;>cases (y.nm.toList==x.nm.toList)<;>simp<;>omega):p:=h
theorem pK{p:Prop}(h:p:=by
 split
 ·rename_i hd;rw[if_pos hd] at h;simp at h;omega
 ·rename_i hd;rw[if_neg hd] at h;simp at h ⊢;omega):p:=h
end
section
open Go Go.RowKit Go.BigFrame Tryz
variable{file vol:ByteArray}
structure EM (o:Opr):Prop where
 vol:o.vol.size<=9223372036854775807
 file:o.file.size<=9223372036854775807
 to:o.to.size<=9223372036854775807
 into:o.into.size<=9223372036854775807
 data:o.data.size<=9223372036854775807
end
section
open Go Go.RowKit Go.BigFrame Tryz
variable{α:Type}{a:Act}{K:Act->World->Prop}{Q:Exit->Act->World->Prop}{B b j:Nat}{o:Oper}{P:Program}{t:TypeId}{x:Value}{u w:World}{l:List α}{cs:α->List Value}
theorem m7{p:Prop}(h:p:=by unfold Oper.wp;simp[execOp,ho,resolve,invoke,builtin,hs,hx,jd,Result.andThen];exact h _ 0 w hd (Yg _ _) sK (fun h=>absurd h sH)):p:=h
theorem eQ_ {size:Nat}
  (s x:Operand)(t:TypeId)(ho:o.op=.call {callee:=.builtin .append,args:=#[s,x],argTypes:=#[t,t]})
  (B:Nat)(e:TypeId)(i:TypeInfo)(z:Value)(bytes:Nat)(ht:P.underlying t=some (.slice e))(hi:P.info? e=some i)(hz:i.zero=some z)(hsize:i.size=size)(hby:i.bytes=bytes)(hzs:z.cells.size=size)(hpos:0<size)
  (hsz:∀ y,(cs y).length=size)(hone:∀ (l:List α),∀ u∈l.flatMap cs,u.oneCell'=true)
  (b:Nat)(hs:a.eval s=.slice (some ⟨b,0,none⟩) 0 0)(hb:Blk w b #[] e)(hBb:B<=b)
  (sa:Option Addr)(sn scap:Nat)(ls:List α)(hx:a.eval x=.slice sa sn scap)(hsrc:AH cs size w sa sn ls)(hspot:∀ ad,sa=some ad->ad.spot=none)(hnone:sa=none->scap=0)
  (h63:sn<=maxLen)(hbytes:sn*bytes<=140737488355328)(hbase:B<=w.heap.size)
  (h:∀ a' cap' w',Ac cs size e w' B a' sn cap' ls->Below w.heap.size w w'->a'≠none->(0<cap'->∀ ad,a'=some ad->w.heap.size<=ad.block)->K (a.put o.dst (.slice a' sn cap')) w'):o.wp P a w K Q:=by
 have hd:Ac cs size e w B (some ⟨b,0,none⟩) 0 0 ([]:List α):=aw_ hb hBb;have he:=hd.row hsz;have hc:sn=0->ls=[]:=fun h0=>Zt (by rw[hsrc.len];exact h0)
 cases sa with
 |none=>
  have h0:sn=0:=by
   exact mm
  obtain rfl:=hc h0;obtain rfl:=h0;obtain rfl:=hnone rfl;have jd:=run_append_owned_none (P:=P) w B t o.type e i size ht hi (.slice (some ⟨b,0,none⟩) 0 0) 0 _ he;exact m7
 |some ad=>
  obtain⟨sb,off,spot⟩:=ad;have:=hspot _ rfl;simp only at this;subst this;have hk:(ls.flatMap cs).length=sn*size:=oh;by_cases hm:0<sn
  ·obtain⟨v',w',hr,ha,hg,hp⟩:=run_append_own (P:=P) w B t o.type e i z size bytes ht hi hz hsize hby hzs hpos (.slice (some ⟨b,0,none⟩) 0 0) 0 [] (by simpa using he) ⟨sb,off,none⟩ sn scap (ls.flatMap cs) hk (AH.src hsz hsrc) (hone ls) sH (by rw[Zq];exact hbytes) hbase;subst hsize;subst hby;have hl:=run_append_grow (P:=P) w t o.type e i z ht hi hz ⟨b,0,none⟩ 0 0 [] sK (fun j v hv=>by simp at hv) ⟨sb,off,none⟩ sn scap (ls.flatMap cs) hk (AH.src hsz hsrc) sH (by simp only[maxLen] at h63;omega) (growslice_fits sH (by rw[Zq];exact hbytes));rw[hr] at hl;rw[ZM,Zq] at ha;obtain⟨a',cap',rfl,hf⟩:=bz_ hsz hsrc.len ha;injection hl with e1 e2;injection e1 with e3 e4 e5;have hn:Below w.heap.size w w':=by rw[e2];exact ((Yg _ _).drew).alloc (Zd _) _
   unfold Oper.wp;simp[execOp,ho,resolve,invoke,builtin,hs,hx,hr,Result.andThen];refine h a' cap' w' hf hn (by rw[e3];simp) (fun _ ad hh=>?_);rw[e3] at hh
   cases hh;exact Zd _
  ·obtain rfl:sn=0:=sH;obtain rfl:=hc rfl;subst hsize;have jd:=run_append_room_cells (P:=P) (w:=w) t o.type e i ht hi b 0 0 0 ⟨sb,off,none⟩ 0 scap [] sK (fun j u hu=>by simp at hu) (fun u hu=>by simp at hu) sH (fun j hj=>by simp at hj) (fun j hj=>by simp at hj);exact m7
end
section
open Go Go.RowKit Go.BigFrame Tryz
variable{α:Type}{t:TypeId}{v:Value}{w w':World}{cs:α->List Value}
theorem ad_ {P:Program}{fn:Func}{p q:Tmp}{ty:TypeId}(h:fn.results=#[.cell p ty,.tmp q])(tmps:Array Value)(w:World)(g:Nat)(t:TypeId)(cs:Array Value)(fr:Nat×Nat)(d:TypeDesc)(v:Value)
  (hp:tmps.getD p undef=.pointer (some ⟨g,0,none⟩))(hg:w.heap[g]?=some (.cells cs t fr))
  (hu:P.underlying ty=some d)(hd:(match d with | .struct _ | .array _ _=>true | _=>false)=true)(hi:(P.info? ty).map (·.size)=some cs.size)(hq:tmps.getD q undef=v):
  (results fn tmps).run P w=.ok (.tuple #[.agg cs,v]) w:=by
 exact me
theorem FrV.of (h:Below w.heap.size w w'):FrV w w':=fun _ _ _ hb _=>hb.below h
end
section
open Go Go.RowKit Go.BigFrame Tryz
theorem Qk:(prog.info? 125).map (fun i=>(i.zero,i.size,i.bytes))=some (some (.agg #[.string .empty,.slice none 0 0]),2,40):=by kernel_rfl
theorem Up:(prog.info? 115).map (fun i=>(i.zero,i.size,i.bytes))=some (some (.agg #[.int .i64 0,.string .empty,.bool false,.slice none 0 0]),4,56):=by kernel_rfl
theorem po_ {α:Type}{cs:α->List Value}{size:Nat}{P:Program}{o:Oper}{a:Act}{w:World}{K:Act->World->Prop}{Q:Exit->Act->World->Prop}
  (s x:Operand)(t:TypeId)(ho:o.op=.call {callee:=.builtin .append,args:=#[s,x],argTypes:=#[t,t]})
  (B:Nat)(e:TypeId)(i:TypeInfo)(z:Value)(bytes:Nat)(ht:P.underlying t=some (.slice e))(hi:P.info? e=some i)(hz:i.zero=some z)(hsize:i.size=size)(hby:i.bytes=bytes)(hzs:z.cells.size=size)(hpos:0<size)
  (hsz:∀ y,(cs y).length=size)(hone:∀ (l:List α),∀ u∈l.flatMap cs,u.oneCell'=true)
  (da:Option Addr)(dn dcap:Nat)(ld:List α)(hs:a.eval s=.slice da dn dcap)(hd:Ac cs size e w B da dn dcap ld)
  (sa:Option Addr)(sn scap:Nat)(ls:List α)(hx:a.eval x=.slice sa sn scap)(hsrc:AH cs size w sa sn ls)(hspot:∀ ad,sa=some ad->ad.spot=none)(hnone:sa=none->scap=0)
  (tot:Nat)(htot:dn+sn=tot)(h63:tot<=maxLen)(hbytes:tot*bytes<=140737488355328)(hbase:B<=w.heap.size)
  (h:∀ a' cap' w',Ac cs size e w' B a' tot cap' (ld++ls)->w.grownBy w' (Value.ownBlock (.slice da dn dcap))->(da≠none->a'≠none)->K (a.put o.dst (.slice a' tot cap')) w'):o.wp P a w K Q:=by
 subst htot;have hf:=hd.row hsz;have hh:(ld++ls).length=dn+sn:=oN
 cases sa with
 |none=>
  have h0:sn=0:=by
   exact mm
  obtain rfl:=h0;obtain rfl:=hnone rfl;have hm:ls=[]:=Zt hsrc.len;subst hm;have hj:=run_append_owned_none (P:=P) w B t o.type e i size ht hi (.slice da dn dcap) dn (ld.flatMap cs) hf;unfold Oper.wp;simp[execOp,ho,resolve,invoke,builtin,hs,hx,hj,Result.andThen];exact h da dcap w (by simpa using hd) (Yh _ _) (fun h=>h)
 |some ad=>
  obtain⟨b,off,spot⟩:=ad;have:=hspot _ rfl;simp only at this;subst this;refine wp_append_own w s x t ho B e i z size bytes ht hi hz hsize hby hzs hpos (.slice da dn dcap) dn (ld.flatMap cs) hs hf ⟨b,off,none⟩ sn scap (ls.flatMap cs) hx oh (AH.src hsz hsrc) (hone ls) h63 hbytes hbase ?_;intro v' w' ha hg hc;rw[<-ZQ] at ha;obtain⟨a',cap',rfl,he⟩:=bz_ hsz hh ha;refine h a' cap' w' he hg (fun hl hk=>?_);subst hk;have hz:dn+sn=0∧cap'=0:=by
   rcases he.own with⟨_,h1,h2⟩ | ⟨b,e,_⟩
   ·exact⟨h1,h2⟩
   ·cases e
  rw[hz.1,hz.2] at hc;have:=(hc.1 rfl).1;injection this with e1;exact hl e1
end
section
open Go Go.RowKit Go.BigFrame Tryz
variable{o:Oper}{a:Act}{w:World}{K:Act->World->Prop}{Q:Exit->Act->World->Prop}
theorem g4_ (s x:Operand)(ho:o.op=.call {callee:=.builtin .append,args:=#[s,x],argTypes:=#[113,113]})
  (B:Nat)(da:Option Addr)(dn dcap:Nat)(ld:List IR)(hs:a.eval s=.slice da dn dcap)(hd:Ac irs 2 125 w B da dn dcap ld)
  (sa:Option Addr)(sn scap:Nat)(ls:List IR)(hx:a.eval x=.slice sa sn scap)(hsrc:AH irs 2 w sa sn ls)(hspot:∀ ad,sa=some ad->ad.spot=none)(hnone:sa=none->scap=0)
  (tot:Nat)(htot:dn+sn=tot)(h63:tot<=9000000)(hbase:B<=w.heap.size)
  (h:∀ a' cap' w',Ac irs 2 125 w' B a' tot cap' (ld++ls)->w.grownBy w' (Value.ownBlock (.slice da dn dcap))->K (a.put o.dst (.slice a' tot cap')) w'):o.wp prog a w K Q:=by
 obtain⟨i0,hi,ha,hb,hc⟩:=info_parts Qk;exact ay_ s x _ ho B _ i0 _ 40 underlying113 hi ha hb hc rfl sJ aI_ eP_ da dn dcap ld hs hd sa sn scap ls hx hsrc hspot hnone tot htot sO sH hbase h
theorem dC_ (s x:Operand)(ho:o.op=.call {callee:=.builtin .append,args:=#[s,x],argTypes:=#[30,30]})
  (B:Nat)(da:Option Addr)(dn dcap:Nat)(ld:List VR)(hs:a.eval s=.slice da dn dcap)(hd:Ac vrs 4 115 w B da dn dcap ld)
  (sa:Option Addr)(sn scap:Nat)(ls:List VR)(hx:a.eval x=.slice sa sn scap)(hsrc:AH vrs 4 w sa sn ls)(hspot:∀ ad,sa=some ad->ad.spot=none)(hnone:sa=none->scap=0)
  (tot:Nat)(htot:dn+sn=tot)(h63:tot<=9000000)(hbase:B<=w.heap.size)
  (h:∀ a' cap' w',Ac vrs 4 115 w' B a' tot cap' (ld++ls)->w.grownBy w' (Value.ownBlock (.slice da dn dcap))->K (a.put o.dst (.slice a' tot cap')) w'):o.wp prog a w K Q:=by
 obtain⟨i0,hi,ha,hb,hc⟩:=info_parts Up;exact ay_ s x _ ho B _ i0 _ 56 underlying30 hi ha hb hc rfl sJ a2_ pm_ da dn dcap ld hs hd sa sn scap ls hx hsrc hspot hnone tot htot sO sH hbase h
theorem mF_ (s x:Operand)(ho:o.op=.call {callee:=.builtin .append,args:=#[s,x],argTypes:=#[123,123]})
  (B:Nat)(da:Option Addr)(dn dcap:Nat)(ld:List Pt)(hs:a.eval s=.slice da dn dcap)(hd:Ac Pt.cs 3 156 w B da dn dcap ld)
  (sa:Option Addr)(sn scap:Nat)(ls:List Pt)(hx:a.eval x=.slice sa sn scap)(hsrc:BH w sa sn ls)(hspot:∀ ad,sa=some ad->ad.spot=none)(hnone:sa=none->scap=0)
  (tot:Nat)(htot:dn+sn=tot)(h63:tot<=9000000)(hbase:B<=w.heap.size)
  (h:∀ a' cap' w',Ac Pt.cs 3 156 w' B a' tot cap' (ld++ls)->w.grownBy w' (Value.ownBlock (.slice da dn dcap))->K (a.put o.dst (.slice a' tot cap')) w'):o.wp prog a w K Q:=by
 obtain⟨i0,hi,ha,hb,hc⟩:=info_parts Ql;exact ay_ s x _ ho B _ i0 _ 24 underlying123 hi ha hb hc rfl sJ bF_ cI_ da dn dcap ld hs hd sa sn scap ls hx hsrc hspot hnone tot htot sO sH hbase h
theorem mG_ (s x:Operand)(ho:o.op=.call {callee:=.builtin .append,args:=#[s,x],argTypes:=#[29,29]})
  (B:Nat)(da:Option Addr)(dn dcap:Nat)(ld:List Ex)(hs:a.eval s=.slice da dn dcap)(hd:Ac Ex.cs 2 111 w B da dn dcap ld)
  (sa:Option Addr)(sn scap:Nat)(ls:List Ex)(hx:a.eval x=.slice sa sn scap)(hsrc:Cg w sa sn ls)(hspot:∀ ad,sa=some ad->ad.spot=none)(hnone:sa=none->scap=0)
  (tot:Nat)(htot:dn+sn=tot)(h63:tot<=9000000)(hbase:B<=w.heap.size)
  (h:∀ a' cap' w',Ac Ex.cs 2 111 w' B a' tot cap' (ld++ls)->w.grownBy w' (Value.ownBlock (.slice da dn dcap))->(da≠none->a'≠none)->K (a.put o.dst (.slice a' tot cap')) w'):o.wp prog a w K Q:=by
 obtain⟨i0,hi,ha,hb,hc⟩:=info_parts Qi;exact po_ s x _ ho B _ i0 _ 24 underlying29 hi ha hb hc rfl sJ aK_ aU_ da dn dcap ld hs hd sa sn scap ls hx hsrc hspot hnone tot htot sO sH hbase h
end
section
open Go Go.RowKit Go.BigFrame Tryz
theorem jo_ {α:Type}{cs:α->List Value}{sz:Nat}{w:World}{b:Nat}{c:Array Value}{t:TypeId}(x:α)(h:Blk w b c t)(hc:c.toList=cs x):AH cs sz w (some ⟨b,0,none⟩) 1 [x]:=by
 refine⟨rfl,fun i y hy=>⟨b,0,rfl,fun j v hv=>?_⟩⟩;have hi:i=0:=rl;subst hi;simp at hy;subst hy;rw[h.cell];simp only[Nat.zero_mul,Zq];rw[<-hc] at hv;simpa using hv
theorem cd_ (w:World)(r:IR)(t:TypeId)(b:Nat)(hb:b=w.heap.size):AH irs 2 (w.alloc (.cells #[.string r.nm,.slice r.pa r.pn r.pc] t)) (some ⟨b,0,none⟩) 1 [r]:=jo_ r (Blk.new' w _ t b hb) rfl
theorem fQ_ (w:World)(r:VR)(t:TypeId)(b:Nat)(hb:b=w.heap.size):AH vrs 4 (w.alloc (.cells #[.int .i64 r.id,.string r.nm,.bool r.fx,.slice r.pa r.pn r.pc] t)) (some ⟨b,0,none⟩) 1 [r]:=jo_ r (Blk.new' w _ t b hb) rfl
theorem UB {w:World}{b:Nat}{c0 c1 c2 c3:Value}{t:TypeId}(h:Blk w b #[c0,c1,c2,c3] t)(v0 v1 v2 v3:Value):
  Blk ((((w.setCell ⟨b,0,none⟩ v0).setCell ⟨b,1,none⟩ v1).setCell ⟨b,2,none⟩ v2).setCell ⟨b,3,none⟩ v3) b #[v0,v1,v2,v3] t∧w.grownBy ((((w.setCell ⟨b,0,none⟩ v0).setCell ⟨b,1,none⟩ v1).setCell ⟨b,2,none⟩ v2).setCell ⟨b,3,none⟩ v3) (some b):=
 ⟨by simpa using (((h.set 0 v0).set 1 v1).set 2 v2).set 3 v3,af_ (af_ (af_ (CE w b 0 v0) 1 v1) 2 v2) 3 v3⟩
theorem IS {w:World}{b:Nat}{c0 c1 c2 c3 c4 c5:Value}{t:TypeId}(h:Blk w b #[c0,c1,c2,c3,c4,c5] t)(v0 v1 v2 v3 v4 v5:Value):
  ∃ W,W=((((((w.setCell ⟨b,0,none⟩ v0).setCell ⟨b,1,none⟩ v1).setCell ⟨b,2,none⟩ v2).setCell ⟨b,3,none⟩ v3).setCell ⟨b,4,none⟩ v4).setCell ⟨b,5,none⟩ v5)∧Blk W b #[v0,v1,v2,v3,v4,v5] t∧w.grownBy W (some b):=
 ⟨_,rfl,by simpa using (((((h.set 0 v0).set 1 v1).set 2 v2).set 3 v3).set 4 v4).set 5 v5,af_ (af_ (af_ (af_ (af_ (CE w b 0 v0) 1 v1) 2 v2) 3 v3) 4 v4) 5 v5⟩
theorem Blk.four {w:World}{b:Nat}{c0 c1 c2 c3:Value}{t:TypeId}(h:Blk w b #[c0,c1,c2,c3] t):w.cell? ⟨b,0,none⟩=some c0∧w.cell? ⟨b,1,none⟩=some c1∧w.cell? ⟨b,2,none⟩=some c2∧w.cell? ⟨b,3,none⟩=some c3:=⟨h.cell 0,h.cell 1,h.cell 2,h.cell 3⟩
theorem Blk.six' {w:World}{b:Nat}{c0 c1 c2 c3 c4 c5:Value}{t:TypeId}(h:Blk w b #[c0,c1,c2,c3,c4,c5] t):w.cell? ⟨b,0,none⟩=some c0∧w.cell? ⟨b,1,none⟩=some c1∧w.cell? ⟨b,2,none⟩=some c2∧w.cell? ⟨b,3,none⟩=some c3∧w.cell? ⟨b,4,none⟩=some c4∧w.cell? ⟨b,5,none⟩=some c5:=⟨h.cell 0,h.cell 1,h.cell 2,h.cell 3,h.cell 4,h.cell 5⟩
end
section
open Go Go.RowKit Go.BigFrame Tryz
variable{a:Act}{K:Act->World->Prop}{b j k n:Nat}{o:Oper}{x:Value}{u w:World}{S:World->Prop}
theorem eq_ (B0:Nat)(hB0:0<B0)(id:Int)(nm:ByteArray)(fx:Bool)(its:List It)(qa:Option Addr)(qn qc:Nat)(w:World)(h:BT B0 w qa qn its)(hn:qn<=4194304)(hps:∀ x∈its,x.ps.length<=4194304):
  Calls prog 206 #[.agg #[.int .i64 id,.string nm,.bool fx,.slice qa qn qc]] w fun e w'=>(∃ pa pc rows,e=.returned (.agg #[.int .i64 id,.string nm,.bool fx,.slice pa qn pc])∧Ac irs 2 125 w' w.heap.size pa qn pc rows∧AV w.heap.size w' rows its)∧Below w.heap.size w w':=by
 have hj:Hid (its.length=qn):=h.len;go_enter func206,ntmps206;go_wp2_with fail;go_loopw [4] (fun ix wr=>∃ (k:Nat) (a2:Option Addr) (cap2:Nat) (rows:List IR),k<=qn∧ix=.int .i64 k∧Blk wr w.heap.size #[.int .i64 id,.string nm,.bool fx,.slice qa qn qc] 115∧Blk wr (w.heap.size+1) #[.int .i64 0,.string ⟨#[]⟩,.bool false,.slice none 0 0] 115∧Blk wr (w.heap.size+2) #[.int .i64 id,.string nm,.bool fx,.slice a2 k cap2] 115∧Ac irs 2 125 wr (w.heap.size+3) a2 k cap2 rows∧AV (w.heap.size+3) wr rows (its.take k)∧w.heap.size+3<=wr.heap.size∧Below w.heap.size w wr) (fun ix _=>qn-(intOf ix).toNat)
 case atStart=>exact⟨0,none,0,[],Zg _,rfl,((Blk.new w _ _).alloc _).alloc _,(Blk.new' _ _ _ _ sK).alloc _,Blk.new' _ _ _ _ sK,aB_,by simpa using AV.nil _ _,sK,sM⟩
 case round=>
  obtain⟨k,a2,cap2,rows,hk,rfl,K1,K2,K3,R2,T2,hA,hB⟩:=hrel;have z3:wr.cell? ⟨w.heap.size,3,none⟩=some (.slice qa qn qc):=K1.cell 3;have y3:wr.cell? ⟨w.heap.size+2,3,none⟩=some (.slice a2 k cap2):=K3.cell 3;by_cases hlt:k<qn
  ·obtain⟨b,o,x,pa,pn,pc,rfl,hx,d0,d1,hP,hh,_,_⟩:=bO_ (h.below hB) hlt;have hy:pn<=4194304:=by have:=hps x (Zc hx);rw[hP.len] at this;exact this
   have hv:(k:Int)<qn:=sH;have hw:(0:Int)<=k:=sH;have hq:∀ ad,pa=some ad->ad.spot=none:=(hh.2.2 hB0).2;have hr:pa=none->pc=0:=(hh.2.2 hB0).1;have ho:b<w.heap.size:=by
    obtain⟨b',o',_,_,_,_,qW,_,f0,_⟩:=bO_ h hlt;exact sF
   have hm:b<w.heap.size+3:=sH;have hu:¬ w.heap.size+1+1=b:=sH;have hD:w.heap.size<w.heap.size+3:=sH;have hs:Hid (its.take (k+1)=its.take k++[x]):=bx_ hx;clear hx;have za:=fun ob=>Aj (w:=wr) ob z3;have ya:=fun ob=>Aj (w:=wr) ob y3;have da:=fun ob=>Aj (w:=wr) ob d0;have de:=fun ob=>Aj (w:=wr) ob d1;go_wp2_with fail;have ht:(fun u=>u.cell? ⟨w.heap.size,3,none⟩=some (.slice (some ⟨b,o,none⟩) qn qc)∧u.cell? ⟨w.heap.size+1+1,3,none⟩=some (.slice a2 k cap2)∧u.cell? ⟨b,o+k*2,none⟩=some (.string x.nm)∧u.cell? ⟨b,o+k*2+1,none⟩=some (.slice pa pn pc)) wr.drew:=⟨z3,y3,d0,d1⟩;refine ar_ (S:=(fun u=>u.cell? ⟨w.heap.size,3,none⟩=some (.slice (some ⟨b,o,none⟩) qn qc)∧u.cell? ⟨w.heap.size+1+1,3,none⟩=some (.slice a2 k cap2)∧u.cell? ⟨b,o+k*2,none⟩=some (.string x.nm)∧u.cell? ⟨b,o+k*2+1,none⟩=some (.slice pa pn pc))) 20 sI sI ?_;refine tk 0 ?_;refine tk 1 ?_;refine tk 2 ?_;refine tk 3 ?_;refine tk 4 ?_;refine tk 5 ?_;refine tk 6 ?_;refine tk 7 ?_;refine tk 9 ?_;refine tk 10 ?_;refine tk 11 ?_;refine tk 12 ?_;refine tk 13 ?_;refine tk 14 ?_;refine Ag (i:=8) sI rfl (fun K hK=>?_);go_simp;refine hK.out _ _ ⟨za _,ya _,da _,de _⟩ (fun hHeld=>?_);clear hK K;(try simp only[Act.put,lsA,lsB,lsC]);refine Ag (i:=15) sI rfl (fun K hK=>?_);refine aJ_ rfl (mF_ _ _ rfl wr.heap.size _ 0 0 [] rfl (aw_ (Blk.new' _ _ _ _ sK) sK) pa pn pc x.ps rfl (hP.below sM) hq hr pn (Zq _) sH sK ?_);intro a3 cap3 w3 R3 hp;have ha:Below wr.heap.size wr w3:=Yi sM hp sK (fun j e=>by simp[Value.ownBlock] at e;omega);have hz:=ha.size;refine hK.out _ _ ⟨Ab ha z3,Ab ha y3,Ab ha d0,Ab ha d1⟩ (fun hHeld=>?_);clear hK K;(try simp only[Act.put,lsA,lsB,lsC]);refine tk 16 ?_;refine Ag (i:=17) sI rfl (fun K hK=>?_);go_simp;refine hK.out _ _ ⟨Aj _ (Ab ha z3),Aj _ (Ab ha y3),Aj _ (Ab ha d0),Aj _ (Ab ha d1)⟩ (fun hHeld=>?_);clear hK K;(try simp only[Act.put,lsA,lsB,lsC]);refine Ag (i:=18) sI rfl (fun K hK=>?_);have qt:Below wr.heap.size wr (w3.alloc (.cells #[.string x.nm,.slice a3 pn cap3] 125)):=Aa ha sM;refine aJ_ rfl (g4_ _ _ rfl (w.heap.size+3) a2 k cap2 rows rfl (R2.below qt) _ 1 1 [(⟨x.nm,a3,pn,cap3⟩:IR)] rfl (cd_ _ (⟨x.nm,a3,pn,cap3⟩:IR) _ _ sK) (fun ad h=>sV) (fun h=>sY) (k+1) rfl sH ro ?_);intro a4 cap4 w4 R4 hc;have hb:∀ j,Value.ownBlock (.slice a2 k cap2)=some j->w.heap.size+3<=j:=aG_ fun ad he=>(R2.block ad he).1;have L1:=(K1.below qt).offB hc hb sH;have L3:=(K3.below qt).offB hc hb sH;have L2:=(K2.below qt).offB hc hb sH;have e0:=hc.cell (a:=⟨b,o+k*2,none⟩) (Ab qt d0) (at_ (fun ad he=>(R2.block ad he).1) hm);have e1:=hc.cell (a:=⟨b,o+k*2+1,none⟩) (Ab qt d1) (at_ (fun ad he=>(R2.block ad he).1) hm);refine hK.out _ _ ⟨L1.cell 3,L3.cell 3,e0,e1⟩ (fun hHeld=>?_);clear hK K;(try simp only[Act.put,lsA,lsB,lsC]);refine tk 19 ?_;refine wpAnyH_done sI ?_ _;refine lastL rfl ?_;have y4:w4.cell? ⟨w.heap.size+1+1,3,none⟩=some (.slice a2 k cap2):=L3.cell 3;have f4:w4.frozen? ⟨w.heap.size+1+1,3,none⟩=false:=L3.frozen 3;go_wp2;go_roundw
   case rel=>
    have hg:=CE w4 (w.heap.size+1+1) 3 (.slice a4 (k+1) cap4);have hC:=hB.size;refine⟨k+1,a4,cap4,rows++[⟨x.nm,a3,pn,cap3⟩],sH,sQ,L1.other _ _ rK,L2.other _ _ rK,by simpa using L3.set 3 (.slice a4 (k+1) cap4),R4.ty hg (aa_ L3) sJ,?_,?_,?_⟩
    ·rw[hs.out];have hl:=(((R3.alloc (.cells #[.string x.nm,.slice a3 pn cap3] 125)).ty hc (R2.below qt).rowTy sJ).mono (show w.heap.size+3<=wr.heap.size by omega));rw[ZM] at hl;exact (((T2.below qt).ty hc (R2.below qt).rowTy sJ).snoc ⟨rfl,hl⟩).ty hg (aa_ L3) sJ
    ·have h4:=L3.lt;have:=hg.size;omega
    ·exact Below.setCell (Yi (Aa hB qt) hc ro (fun j e=>by have:=hb j e;omega)) (by simp only;omega) _
   case measure=>simp[intOf];omega
  ·obtain rfl:k=qn:=sH;obtain⟨y0,y1,y2,_⟩:=K3.four;obtain⟨x0,x1,x2,x3⟩:=K2.four;have f0:=K2.frozen 0;have f1:=K2.frozen 1;have f2:=K2.frozen 2;have f3:=K2.frozen 3;obtain⟨W0,hf⟩:=UB K2 (.int .i64 id) (.string nm) (.bool fx) (.slice a2 k cap2);have R0:=R2.ty hf (aa_ K2) sJ;have T0:=T2.ty hf (aa_ K2) sJ;have B1:=hB.grown hf hB.size (fun j e=>by cases e;omega);go_wp2;generalize (((wr.setCell ⟨w.heap.size+1,0,none⟩ (.int .i64 id)).setCell ⟨w.heap.size+1,1,none⟩ (.string nm)).setCell ⟨w.heap.size+1,2,none⟩ (.bool fx)).setCell ⟨w.heap.size+1,3,none⟩ (.slice a2 k cap2)=W8 at *;refine YW (results_cell_row rfl _ W8 (w.heap.size+1) _ _ _ _ rfl W0 underlying115 rfl sI) rfl ?_;rw[Zk (Zm hj.out)] at T0;exact⟨⟨a2,cap2,rows,rfl,R0.mono sH,T0.mono sH⟩,B1⟩
def Bg (a:Act)(x9 x12 x13 x16 x17 x20 x21 x3:Value):Act:=((((((((a.put (some 9) x9).put (some 12) x12).put (some 13) x13).put (some 16) x16).put (some 17) x17).put (some 20) x20).put (some 21) x21).put (some 3) x3)
theorem pW_ (a:Act)(x9 x12 x13 x16 x17 x20 x21 x3 v:Value):(Bg a x9 x12 x13 x16 x17 x20 x21 x3).put (some 9) v=Bg a v x12 x13 x16 x17 x20 x21 x3:=by
 unfold Bg;rw[ax_ (show (3:Nat)≠9 by decide),ax_ (show (21:Nat)≠9 by decide),ax_ (show (20:Nat)≠9 by decide),ax_ (show (17:Nat)≠9 by decide),ax_ (show (16:Nat)≠9 by decide),ax_ (show (13:Nat)≠9 by decide),ax_ (show (12:Nat)≠9 by decide),ce_]
theorem pr_ (h:a.tmps.size=41)(x9 x12 x13 x16 x17 x20 x21 x3:Value):(Bg a x9 x12 x13 x16 x17 x20 x21 x3).eval (.tmp 9)=x9:=by
 unfold Bg;rw[aj_ (show (3:Nat)≠9 by decide),aj_ (show (21:Nat)≠9 by decide),aj_ (show (20:Nat)≠9 by decide),aj_ (show (17:Nat)≠9 by decide),aj_ (show (16:Nat)≠9 by decide),aj_ (show (13:Nat)≠9 by decide),aj_ (show (12:Nat)≠9 by decide),cp_ sU]
theorem ps_ (a:Act)(x9 x12 x13 x16 x17 x20 x21 x3 v:Value):(Bg a x9 x12 x13 x16 x17 x20 x21 x3).put (some 12) v=Bg a x9 v x13 x16 x17 x20 x21 x3:=by
 unfold Bg;rw[ax_ (show (3:Nat)≠12 by decide),ax_ (show (21:Nat)≠12 by decide),ax_ (show (20:Nat)≠12 by decide),ax_ (show (17:Nat)≠12 by decide),ax_ (show (16:Nat)≠12 by decide),ax_ (show (13:Nat)≠12 by decide),ce_]
theorem od_ (h:a.tmps.size=41)(x9 x12 x13 x16 x17 x20 x21 x3:Value):(Bg a x9 x12 x13 x16 x17 x20 x21 x3).eval (.tmp 12)=x12:=by
 unfold Bg;rw[aj_ (show (3:Nat)≠12 by decide),aj_ (show (21:Nat)≠12 by decide),aj_ (show (20:Nat)≠12 by decide),aj_ (show (17:Nat)≠12 by decide),aj_ (show (16:Nat)≠12 by decide),aj_ (show (13:Nat)≠12 by decide),cp_ sU]
theorem pt_ (a:Act)(x9 x12 x13 x16 x17 x20 x21 x3 v:Value):(Bg a x9 x12 x13 x16 x17 x20 x21 x3).put (some 13) v=Bg a x9 x12 v x16 x17 x20 x21 x3:=by
 unfold Bg;rw[ax_ (show (3:Nat)≠13 by decide),ax_ (show (21:Nat)≠13 by decide),ax_ (show (20:Nat)≠13 by decide),ax_ (show (17:Nat)≠13 by decide),ax_ (show (16:Nat)≠13 by decide),ce_]
theorem oe_ (h:a.tmps.size=41)(x9 x12 x13 x16 x17 x20 x21 x3:Value):(Bg a x9 x12 x13 x16 x17 x20 x21 x3).eval (.tmp 13)=x13:=by
 unfold Bg;rw[aj_ (show (3:Nat)≠13 by decide),aj_ (show (21:Nat)≠13 by decide),aj_ (show (20:Nat)≠13 by decide),aj_ (show (17:Nat)≠13 by decide),aj_ (show (16:Nat)≠13 by decide),cp_ sU]
theorem pu_ (a:Act)(x9 x12 x13 x16 x17 x20 x21 x3 v:Value):(Bg a x9 x12 x13 x16 x17 x20 x21 x3).put (some 16) v=Bg a x9 x12 x13 v x17 x20 x21 x3:=by
 unfold Bg;rw[ax_ (show (3:Nat)≠16 by decide),ax_ (show (21:Nat)≠16 by decide),ax_ (show (20:Nat)≠16 by decide),ax_ (show (17:Nat)≠16 by decide),ce_]
theorem of_ (h:a.tmps.size=41)(x9 x12 x13 x16 x17 x20 x21 x3:Value):(Bg a x9 x12 x13 x16 x17 x20 x21 x3).eval (.tmp 16)=x16:=by
 unfold Bg;rw[aj_ (show (3:Nat)≠16 by decide),aj_ (show (21:Nat)≠16 by decide),aj_ (show (20:Nat)≠16 by decide),aj_ (show (17:Nat)≠16 by decide),cp_ sU]
theorem pv_ (a:Act)(x9 x12 x13 x16 x17 x20 x21 x3 v:Value):(Bg a x9 x12 x13 x16 x17 x20 x21 x3).put (some 17) v=Bg a x9 x12 x13 x16 v x20 x21 x3:=by
 unfold Bg;rw[ax_ (show (3:Nat)≠17 by decide),ax_ (show (21:Nat)≠17 by decide),ax_ (show (20:Nat)≠17 by decide),ce_]
theorem og_ (h:a.tmps.size=41)(x9 x12 x13 x16 x17 x20 x21 x3:Value):(Bg a x9 x12 x13 x16 x17 x20 x21 x3).eval (.tmp 17)=x17:=by
 unfold Bg;rw[aj_ (show (3:Nat)≠17 by decide),aj_ (show (21:Nat)≠17 by decide),aj_ (show (20:Nat)≠17 by decide),cp_ sU]
theorem pw_ (a:Act)(x9 x12 x13 x16 x17 x20 x21 x3 v:Value):(Bg a x9 x12 x13 x16 x17 x20 x21 x3).put (some 20) v=Bg a x9 x12 x13 x16 x17 v x21 x3:=by
 unfold Bg;rw[ax_ (show (3:Nat)≠20 by decide),ax_ (show (21:Nat)≠20 by decide),ce_]
theorem oh_ (h:a.tmps.size=41)(x9 x12 x13 x16 x17 x20 x21 x3:Value):(Bg a x9 x12 x13 x16 x17 x20 x21 x3).eval (.tmp 20)=x20:=by
 unfold Bg;rw[aj_ (show (3:Nat)≠20 by decide),aj_ (show (21:Nat)≠20 by decide),cp_ sU]
theorem px_ (a:Act)(x9 x12 x13 x16 x17 x20 x21 x3 v:Value):(Bg a x9 x12 x13 x16 x17 x20 x21 x3).put (some 21) v=Bg a x9 x12 x13 x16 x17 x20 v x3:=by
 unfold Bg;rw[ax_ (show (3:Nat)≠21 by decide),ce_]
theorem pX_ (a:Act)(x9 x12 x13 x16 x17 x20 x21 x3 v:Value):(Bg a x9 x12 x13 x16 x17 x20 x21 x3).put (some 3) v=Bg a x9 x12 x13 x16 x17 x20 x21 v:=by
 unfold Bg;rw[ce_]
theorem py_ (a:Act)(x9 x12 x13 x16 x17 x20 x21 x3:Value):(Bg a x9 x12 x13 x16 x17 x20 x21 x3).eval (.tmp 6)=a.eval (.tmp 6):=by
 unfold Bg;rw[aj_ (show (3:Nat)≠6 by decide),aj_ (show (21:Nat)≠6 by decide),aj_ (show (20:Nat)≠6 by decide),aj_ (show (17:Nat)≠6 by decide),aj_ (show (16:Nat)≠6 by decide),aj_ (show (13:Nat)≠6 by decide),aj_ (show (12:Nat)≠6 by decide),aj_ (show (9:Nat)≠6 by decide)]
theorem pz_ (a:Act)(x9 x12 x13 x16 x17 x20 x21 x3:Value):(Bg a x9 x12 x13 x16 x17 x20 x21 x3).eval (.tmp 8)=a.eval (.tmp 8):=by
 unfold Bg;rw[aj_ (show (3:Nat)≠8 by decide),aj_ (show (21:Nat)≠8 by decide),aj_ (show (20:Nat)≠8 by decide),aj_ (show (17:Nat)≠8 by decide),aj_ (show (16:Nat)≠8 by decide),aj_ (show (13:Nat)≠8 by decide),aj_ (show (12:Nat)≠8 by decide),aj_ (show (9:Nat)≠8 by decide)]
theorem oi_ (a:Act)(x9 x12 x13 x16 x17 x20 x21 x3:Value):(Bg a x9 x12 x13 x16 x17 x20 x21 x3).eval (.tmp 11)=a.eval (.tmp 11):=by
 unfold Bg;rw[aj_ (show (3:Nat)≠11 by decide),aj_ (show (21:Nat)≠11 by decide),aj_ (show (20:Nat)≠11 by decide),aj_ (show (17:Nat)≠11 by decide),aj_ (show (16:Nat)≠11 by decide),aj_ (show (13:Nat)≠11 by decide),aj_ (show (12:Nat)≠11 by decide),aj_ (show (9:Nat)≠11 by decide)]
theorem oj_ (a:Act)(x9 x12 x13 x16 x17 x20 x21 x3:Value):(Bg a x9 x12 x13 x16 x17 x20 x21 x3).eval (.tmp 15)=a.eval (.tmp 15):=by
 unfold Bg;rw[aj_ (show (3:Nat)≠15 by decide),aj_ (show (21:Nat)≠15 by decide),aj_ (show (20:Nat)≠15 by decide),aj_ (show (17:Nat)≠15 by decide),aj_ (show (16:Nat)≠15 by decide),aj_ (show (13:Nat)≠15 by decide),aj_ (show (12:Nat)≠15 by decide),aj_ (show (9:Nat)≠15 by decide)]
theorem ok_ (a:Act)(x9 x12 x13 x16 x17 x20 x21 x3:Value):(Bg a x9 x12 x13 x16 x17 x20 x21 x3).eval (.tmp 19)=a.eval (.tmp 19):=by
 unfold Bg;rw[aj_ (show (3:Nat)≠19 by decide),aj_ (show (21:Nat)≠19 by decide),aj_ (show (20:Nat)≠19 by decide),aj_ (show (17:Nat)≠19 by decide),aj_ (show (16:Nat)≠19 by decide),aj_ (show (13:Nat)≠19 by decide),aj_ (show (12:Nat)≠19 by decide),aj_ (show (9:Nat)≠19 by decide)]
def UI (x y:Value):Prop:=∀ a n cap a' n' cap',x=.slice a n cap->y=.slice a' n' cap'->∀ p q,a=some p->a'=some q->0<cap->0<cap'->p.block≠q.block
end
section
open Go Go.RowKit
def AE (p:Po):Po:={p with rf:=A4 p.rf p.lt,lt:=[],ex:=p.ex.filter (fun e=>(A4 p.rf p.lt).any (fun c=>c.o.a==e.a))}
end
section
open Go Go.RowKit Go.BigFrame Tryz
variable{α:Type}{B b cap n sz:Nat}{t:TypeId}{w:World}{l:List α}{cs:α->List Value}
theorem Ac.addr {a:Option Addr}(h:Ac cs sz t w B a n cap l)(hn:0<n):∃ b,a=some ⟨b,0,none⟩∧B<=b∧n<=cap∧cap<=9223372036854775807:=by
 rcases h.own with⟨_,h0,_⟩ | ⟨b,h1,h2,h3,h4,_⟩
 ·omega
 ·exact⟨b,h1,h2,h3,by unfold maxLen at h4;omega⟩
end
section
open Go Go.RowKit Go.BigFrame Tryz
theorem b1_ {o:Oper}{a:Act}{w:World}{K:Act->World->Prop}{Q:Exit->Act->World->Prop}(s x:Operand)(ho:o.op=.call {callee:=.builtin .append,args:=#[s,x],argTypes:=#[113,113]})
  (B:Nat)(da:Option Addr)(dn dcap:Nat)(ld:List IR)(hs:a.eval s=.slice da dn dcap)(hd:Ac irs 2 125 w B da dn dcap ld)
  (b off:Nat)(r:IR)(hx:a.eval x=.slice (some ⟨b,off,none⟩) 1 1)(hsrc:AH irs 2 w (some ⟨b,off,none⟩) 1 [r])(h63:dn<=9000000)(hbase:B<=w.heap.size)
  (h:∀ a' cap' w',Ac irs 2 125 w' B a' (dn+1) cap' (ld++[r])->w.grownBy w' (Value.ownBlock (.slice da dn dcap))->(∀ ad',a'=some ad'->(∃ ad,da=some ad∧ad.block=ad'.block)∨w.heap.size<=ad'.block)->K (a.put o.dst (.slice a' (dn+1) cap')) w'):o.wp prog a w K Q:=by
 obtain⟨i0,hi,ha,hb,hc⟩:=info_parts Qk;exact ph_ s x _ ho B _ i0 _ 40 underlying113 hi ha hb hc rfl sJ aI_ eP_ da dn dcap ld hs hd b off [r] hx hsrc sO sH hbase h
end
section
open Go Go.RowKit Go.BigFrame Tryz
variable{α:Type}{a:Act}{b j k n:Nat}{o:Oper}{x:Value}{w:World}{l:List α}{cs:α->List Value}
def Dr (l:List Pt)(at':Int)(m:List Pt):List Pt:=
 Aw (Aw (if Ar l<at' then BG (Aw [] (slp 0 (min at' (Ar l)) 0 l)) ⟨0,0,at'-Ar l⟩ else Aw [] (slp 0 (min at' (Ar l)) 0 l)) m) (Aw [] (slp (min (Ar l) (at'+Ar m)) (Ar l) 0 l))
theorem lM{p:Prop}(h:p:=by
 go_wp2_with fail;refine (bS_ a3 n3 cap3 _ a' n' cap' m _ R3.sl sH R3.arg (h'.below qk) sH).mono ?_;rintro e w4 ⟨⟨a4,n4,cap4,rfl,jO,R4⟩,ku⟩;have qt:=Aa qk ku;go_wp2_with fail;refine (aZ_ a' n' cap' m _ (h'.below qt) sH jj.out).mono ?_;rintro e w5 ⟨rfl,rfl⟩;go_wp2_with fail;refine (ba_ a n cap l (Ar l) (Ar l) _ (h.below qt) kV kX sH sH sH sH).mono ?_;rintro e w6 ⟨⟨a6,n6,cap6,rfl,jP,R6⟩,zR⟩;have R6b:=R4.below zR;have zq:=Aa qt zR;go_wp2_with fail
 refine (bS_ a4 n4 cap4 _ a6 n6 cap6 _ _ R6b.sl sH R6b.arg R6.sl sH).mono ?_;rintro e w7 ⟨⟨a7,n7,cap7,rfl,kP,R7⟩,kv⟩;have zD:=Aa zq kv;go_wp2;go_returns;exact⟨⟨a7,n7,cap7,rfl,sH,by rw[jk.out];exact R7.mono zq.size⟩,zD⟩):p:=h
theorem cM_ (a:Option Addr)(n cap:Nat)(l:List Pt)(at':Int)(a':Option Addr)(n' cap':Nat)(m:List Pt)(w:World)(h:BH w a n l)(h':BH w a' n' m)(hok:Ae l=true)(hok':Ae m=true)(h0:0<=at')(h1:at'<=100):
  Calls prog 210 #[.slice a n cap,.int .i64 at',.slice a' n' cap'] w fun e w'=>(∃ a1 n1 cap1,e=.returned (.slice a1 n1 cap1)∧n1<=1000∧Ac Pt.cs 3 156 w' w.heap.size a1 n1 cap1 (Dr l at' m))∧Below w.heap.size w w':=by
 have kV:n<=16:=by rw[<-h.len];exact (ae_ hok).1
 have he:n'<=16:=by rw[<-h'.len];exact (ae_ hok').1
 have hs:Hid (∀ k,0<=Ar (l.take k)∧Ar (l.take k)<=100):=i8_ hok;have jj:Hid (∀ k,0<=Ar (m.take k)∧Ar (m.take k)<=100):=i8_ hok';have hc:=(ae_ hok).2.2;have hm:=az_ l (ae_ hok).2.1;have hb:=(ae_ hok').2.2;have hj:=az_ m (ae_ hok').2.1;have kX:=hq_ hok;by_cases hgt:Ar l<at'
 ·have jk:Hid (Dr l at' m=Aw (Aw (BG (Aw [] (slp 0 (Ar l) 0 l)) ⟨0,0,at'-Ar l⟩) m) (Aw [] (slp (Ar l) (Ar l) 0 l))):=by
   show _=_;simp only[Dr,hgt,if_true];rw[Int.min_eq_right sH,Int.min_eq_left sH]
  have hg:¬ at'+Ar m<Ar l:=sH;go_enter func210,ntmps210;go_wp2_with fail;refine (aZ_ a n cap l _ h sH hs.out).mono ?_;rintro e w1 ⟨rfl,rfl⟩;go_wp2_with fail;refine (ba_ a n cap l 0 (Ar l) _ h kV kX sH sH sH sH).mono ?_;rintro e w2 ⟨⟨a2,n2,cap2,rfl,hl,R2⟩,hf⟩;go_wp2_with fail;refine (bg_ a2 n2 cap2 _ ⟨0,0,at'-Ar l⟩ _ R2.sl sH R2.arg).mono ?_;rintro e w3 ⟨⟨a3,n3,cap3,rfl,R3⟩,ha⟩;have hk:=bZ_ R3.sl.len R2.sl.len;have qk:=Aa hf ha;exact lM
 ·by_cases hm2:at'+Ar m<Ar l
  ·have jk:Hid (Dr l at' m=Aw (Aw (Aw [] (slp 0 at' 0 l)) m) (Aw [] (slp (at'+Ar m) (Ar l) 0 l))):=by
    show _=_;simp only[Dr,hgt,if_false];rw[Int.min_eq_left sH,Int.min_eq_right sH]
   go_enter func210,ntmps210;go_wp2_with fail;refine (aZ_ a n cap l _ h sH hs.out).mono ?_;rintro e w1 ⟨rfl,rfl⟩;go_wp2_with fail;refine (ba_ a n cap l 0 at' _ h kV kX sH sH sH sH).mono ?_;rintro e w2 ⟨⟨a3,n3,cap3,rfl,hh,R3⟩,qk⟩;go_wp2_with fail;refine (bS_ a3 n3 cap3 _ a' n' cap' m _ R3.sl sH R3.arg (h'.below qk) sH).mono ?_;rintro e w4 ⟨⟨a4,n4,cap4,rfl,jO,R4⟩,ku⟩;have qt:=Aa qk ku;go_wp2_with fail;refine (aZ_ a' n' cap' m _ (h'.below qt) sH jj.out).mono ?_;rintro e w5 ⟨rfl,rfl⟩;go_wp2_with fail;refine (ba_ a n cap l (at'+Ar m) (Ar l) _ (h.below qt) kV kX sH sH sH sH).mono ?_;rintro e w6 ⟨⟨a6,n6,cap6,rfl,jP,R6⟩,zR⟩;have R6b:=R4.below zR;have zq:=Aa qt zR;go_wp2_with fail;refine (bS_ a4 n4 cap4 _ a6 n6 cap6 _ _ R6b.sl sH R6b.arg R6.sl sH).mono ?_;rintro e w7 ⟨⟨a7,n7,cap7,rfl,kP,R7⟩,kv⟩;have zD:=Aa zq kv;go_wp2;go_returns;exact⟨⟨a7,n7,cap7,rfl,sH,by rw[jk.out];exact R7.mono zq.size⟩,zD⟩
  ·have jk:Hid (Dr l at' m=Aw (Aw (Aw [] (slp 0 at' 0 l)) m) (Aw [] (slp (Ar l) (Ar l) 0 l))):=by
    show _=_;simp only[Dr,hgt,if_false];rw[Int.min_eq_left sH,Int.min_eq_left sH]
   go_enter func210,ntmps210;go_wp2_with fail;refine (aZ_ a n cap l _ h sH hs.out).mono ?_;rintro e w1 ⟨rfl,rfl⟩;go_wp2_with fail;refine (ba_ a n cap l 0 at' _ h kV kX sH sH sH sH).mono ?_;rintro e w2 ⟨⟨a3,n3,cap3,rfl,hh,R3⟩,qk⟩;exact lM
theorem bl_ {d:ByteArray}(h:At d=true):1<=d.size:=by simp[At] at h;omega
theorem fe_ {size:Int}:∀ {l:List Ex} {next addr:Int},xgo size next l=true->addr<next->Fd addr l=l
 |[],_,_,_,_=>rfl
 |e::r,next,addr,h,ha=>by
  simp only[xgo,Zf,ZU] at h;obtain⟨⟨⟨h1,h2⟩,h3⟩,h4⟩:=h;have hr:=fe_ h4 (show addr<e.a+e.d.size by omega);have hb:(e.a==addr)=false:=ZV.2 sH;simp only[Fd,ZH,hb,Bool.not_false,if_true] at hr ⊢;rw[hr]
def K9 (addr:Int):List Ex->Nat
 |[]=>0
 |e::r=>if e.a<addr then K9 addr r+1 else 0
def TQ (l:List Ex)(x:Ex):List Ex:=l.take (K9 x.a l)++[x]++l.drop (K9 x.a l)
theorem iM_ {o:Nat}{l:List Ex}(h:Cg w (some ⟨b,o,none⟩) n l)(j cap:Nat)(hj:j<=n)(hc:n<=cap):
  Cg w (if cap=j then some ⟨b,o,none⟩ else some ⟨b,o+j*2,none⟩) (n-j) (l.drop j):=by
 split
 ·rw[Ze fm];exact⟨sN,fun i x hx=>by simp at hx⟩
 ·exact h.drop j
end
section
open Go Go.RowKit
variable{m size:Int}
def Eo (size:Int)(l:List Ex)(d:ByteArray):Option (List Ex×Int):=
 if Af size l=true∧At d=true∧l.length≠60 then ((ggo size 1 l).find? (fun x=>decide ((d.size:Int)<=x.2))).map (fun x=>(TQ l ⟨x.1,d⟩,x.1)) else none
def DH (size m:Int):Nat->Int->List Ex->Option (Nat×Int)
 |k,next,[]=>if m<=size+1-next then some (k,next) else none
 |k,next,e::r=>if m<=e.a-next then some (k,next) else DH size m (k+1) (e.a+e.d.size) r
theorem iN_ (hm:1<=m):∀ {L:List Ex} {next:Int} (k:Nat),xgo size next L=true->
  ((ggo size next L).find? (fun x=>decide (m<=x.2))).map (·.1)=(DH size m k next L).map (·.2)
 |[],next,k,_=>by
  rw[ggo,DH];by_cases h:m<=size+1-next
  ·rw[if_pos (show next<=size by omega),if_pos h];simp[h]
  ·rw[if_neg h];split
   ·simp[h]
   ·rfl
 |e::r,next,k,hx=>by
  simp only[xgo,Zf,ZU] at hx;obtain⟨⟨⟨h1,h2⟩,h3⟩,h4⟩:=hx;have ih:=iN_ hm (k+1) h4;rw[ggo,DH];by_cases h:m<=e.a-next
  ·rw[if_pos (show next<e.a by omega),if_pos h];simp[h]
  ·rw[if_neg h,<-ih];split
   ·simp[h]
   ·simp
theorem ol_:∀ {L:List Ex} {next:Int},xgo size next L=true->∀ addr,addr<=next->K9 addr L=0
 |[],_,_,_,_=>rfl
 |e::r,next,hx,addr,ha=>by
  simp only[xgo,Zf,ZU] at hx;rw[K9,if_neg sH]
theorem ks_ (hm:1<=m):∀ {L:List Ex} {next:Int} (k:Nat),xgo size next L=true->∀ j nx,DH size m k next L=some (j,nx)->next<=nx∧j=k+K9 nx L
 |[],next,k,_,j,nx,h=>by
  rw[DH] at h;split at h
  ·cases h;exact⟨YB _,rfl⟩
  ·cases h
 |e::r,next,k,hx,j,nx,h=>by
  have ha:=hx;simp only[xgo,Zf,ZU] at hx;obtain⟨⟨⟨h1,h2⟩,h3⟩,h4⟩:=hx;rw[DH] at h;split at h
  ·cases h;exact⟨YB _,by rw[ol_ ha _ (YB _)];rfl⟩
  ·obtain⟨q1,q2⟩:=ks_ hm (k+1) h4 j nx h;have hp:=bl_ h1;refine⟨sH,?_⟩;rw[K9,if_pos sH];omega
def BX (size:Int)(l:List Ex)(d:ByteArray):Option (List Ex×Int):=
 if Af size l=true∧At d=true∧l.length≠60 then (DH size d.size 0 1 l).map (fun x=>(l.take x.1++[⟨x.2,d⟩]++l.drop x.1,x.2)) else none
theorem hE_ (size:Int)(l:List Ex)(d:ByteArray):BX size l d=Eo size l d:=by
 unfold BX Eo;by_cases h:Af size l=true∧At d=true∧l.length≠60
 ·rw[if_pos h,if_pos h];obtain⟨h1,h2,h3⟩:=h;obtain⟨_,_,_,hx⟩:=cu_ h1;have hd:=bl_ h2;have e1:=iN_ (m:=d.size) sH 0 hx
  cases hp:DH size d.size 0 1 l with
  |none=>
   rw[hp] at e1
   cases hf:(ggo size 1 l).find? (fun x=>decide ((d.size:Int)<=x.2)) with
   |none=>rfl
   |some y=>rw[hf] at e1;cases e1
  |some x=>
   obtain⟨j,nx⟩:=x;obtain⟨q1,q2⟩:=ks_ sH 0 hx j nx hp;rw[hp] at e1
   cases hf:(ggo size 1 l).find? (fun x=>decide ((d.size:Int)<=x.2)) with
   |none=>rw[hf] at e1;cases e1
   |some y=>
    rw[hf] at e1;simp at e1;simp only[Option.map_some,TQ];rw[e1,show K9 nx l=j by omega]
 ·rw[if_neg h,if_neg h]
end
section
open Go Go.RowKit Go.BigFrame Tryz
variable{size:Int}{l:List Ex}
def UH (B:Nat)(e:Ending)(w':World):Option (List Ex×Int)->Prop
 |none=>e=.returned (.tuple #[.slice none 0 0,.int .i64 0,.bool false])
 |some (L,x)=>∃ a n cap,e=.returned (.tuple #[.slice a n cap,.int .i64 x,.bool true])∧Ac Ex.cs 2 111 w' B a n cap L
theorem qp_ (k:Nat)(hk:k<=l.length):(gl size 1 l)[k]?=some ((match l[k]? with | some e=>e.a | none=>size+1)-(glA size l k).2):=by
 rw[lB_ k hk,Zv (by rw[jd_ k hk];omega),jd_ k hk,Nat.sub_self];by_cases h:k<l.length
 ·have hp:l[k]?=some l[k]:=dh;rw[al_ hp,hp,gl];rfl
 ·rw[Ze sH,show l[k]?=none by simp;omega,gl];rfl
theorem pA_ {m:Int}(k:Nat)(hk:k<l.length+1):DH size m k (glA size l k).2 (l.drop k)=(if m<=(match l[k]? with | some e=>e.a | none=>size+1)-(glA size l k).2 then some (k,(glA size l k).2) else (if k<l.length then DH size m (k+1) (glA size l (k+1)).2 (l.drop (k+1)) else none)):=by
 by_cases h:k<l.length
 ·have hp:l[k]?=some l[k]:=dh;rw[al_ hp,hp,DH,if_pos h,da_ hp]
 ·rw[Ze sH,show l[k]?=none by simp;omega,DH,if_neg h]
theorem mt{p:Prop}(h:p:=by
 go_enter func209,ntmps209;go_wp2_with fail;refine (aT_ size _ n cap l _ h hstr hn).mono ?_;rintro e w1 ⟨rfl,rfl⟩;rw[hok];go_wp2_with fail
 refine (a7_ d _ hd).mono ?_;rintro e w1 ⟨rfl,rfl⟩;rw[zU];go_wp2;go_returns;exact⟨rfl,Yg _ _⟩):p:=h
theorem mS{p:Prop}(h:p:=by
 rw[hf];go_enter func209,ntmps209;go_wp2_with fail
 refine (aT_ size _ n cap l _ h hstr hn).mono ?_;rintro e w1 ⟨rfl,rfl⟩;rw[hok];go_wp2;go_returns;exact⟨rfl,Yg _ _⟩):p:=h
theorem od{p:Prop}(h:p:=by first | (cases h;rfl) | (split at h<;>cases h<;>rfl)):p:=h
theorem oJ{p:Prop}(h:p:=by first | cases h | (split at h<;>cases h)):p:=h
theorem oO{p:Prop}(h:p:=by have:=qe.size;simp;omega):p:=h
theorem gK_ (size:Int)(b o n cap:Nat)(l:List Ex)(d:ByteArray)(w:World)(h:Cg w (some ⟨b,o,none⟩) n l)(hstr:Strs l)(hn:n<=4194304)(hcap:n<=cap)(hd:d.size<=9223372036854775807):
  Calls prog 209 #[.int .i64 size,.slice (some ⟨b,o,none⟩) n cap,.string d] w fun e w'=>UH w.heap.size e w' (Eo size l d)∧Below w.heap.size w w':=by
 have qg:Hid (l.length=n):=h.len;rw[<-hE_];have hr:d.toList=[]↔d.size=0:=by
  constructor
  ·intro e;have:d=ByteArray.mk #[]:=jV_ (by rw[e,Zu]);rw[this];rfl
  ·intro e;rw[show d=ByteArray.mk #[] from ByteArray.ext (Array.eq_empty_of_size_eq_zero e),Zu]
 cases hok:Af size l
 ·have hf:BX size l d=none:=by simp[BX,hok]
  exact mS
 ·obtain⟨h5,hS,h0,hT⟩:=cu_ hok;rw[qg.out] at h0;by_cases hz:d.size=0
  ·have hM:d.toList=[]:=hr.2 hz;have h6:d.toList.isEmpty=true:=by rw[hM];rfl
   have hf:BX size l d=none:=by simp[BX,At,hz]
   exact mS
  ·have hM:¬ d.toList=[]:=fun e=>hz (hr.1 e);have h6:d.toList.isEmpty=false:=by cases hh:d.toList.isEmpty;rfl;exact absurd (List.isEmpty_iff.1 hh) hM
   cases zU:(plainB d&&decide (d.size<=20))
   ·have hf:BX size l d=none:=by
     have:At d=false:=by rw[dz_,zU];simp
     simp[BX,this]
    rw[hf];exact mt
   ·have hX:At d=true:=by rw[dz_,zU];simp;omega
    by_cases h60:n=60
    ·have hD:((n:Int)==60)=true:=by simp[h60]
     have hf:BX size l d=none:=by simp[BX,qg.out,h60]
     rw[hf];clear h60;exact mt
    ·have hD:((n:Int)==60)=false:=ZV.2 sH;have hW:d.size<=20:=by simp at zU;exact zU.2
     have hf:Hid (BX size l d=(DH size d.size 0 1 l).map (fun x=>(l.take x.1++[⟨x.2,d⟩]++l.drop x.1,x.2))):=by show _=_;unfold BX;rw[if_pos ⟨hok,hX,by rw[qg.out];exact h60⟩]
     have hJ:=n3_ (size:=size) (L:=l) (next:=1);rw[qg.out] at hJ;generalize hR:BX size l d=R at *;clear hR;obtain⟨i0,hi,hl,hm,ho⟩:=info_parts Qi;go_enter func209,ntmps209;go_wp2_with fail;refine (aT_ size _ n cap l _ h hstr hn).mono ?_;rintro e w1 ⟨rfl,rfl⟩;rw[hok];go_wp2_with fail;refine (a7_ d _ hd).mono ?_;rintro e w1 ⟨rfl,rfl⟩;rw[zU];go_wp2_with fail;refine (j4_ size _ n cap l _ h sH h5 hS hT).mono ?_;rintro e w2 ⟨⟨ag,ng,capg,rfl,Rg⟩,hN⟩;have hQ:=Rg.sl.len;rw[hJ] at hQ;have h1:ng<=n+1:=sH;have h2:n+1<=ng:=sH;clear hQ hJ;have hG:=Rg.sl;go_wp2_with fail;go_loopw [10,11] (fun nx ix wr=>∃ (k:Nat),k<=ng∧ix=.int .i64 k∧(k<ng->nx=.int .i64 (glA size l k).2∧Hid (DH size d.size 0 1 l=DH size d.size k (glA size l k).2 (l.drop k)))∧(k=ng->(∃ y:Int,nx=.int .i64 y)∧Hid (DH size d.size 0 1 l=none))∧Below w2.heap.size w2 wr) (fun _ ix _=>ng-(intOf ix).toNat)
     case atStart=>exact⟨0,Zg _,rfl,fun _=>⟨rfl,by show _=_;simp[glA]⟩,fun e=>by omega,Yg _ _⟩
     case round=>
      obtain⟨k,hk,rfl,hL,he,hB⟩:=hrel;by_cases hlt:k<ng
      ·obtain⟨rfl,hI⟩:=hL hlt;clear hL he;have hP:k<=l.length:=ox;obtain⟨bg,og,x,hV,hx,c0⟩:=nW_ (hG.below hB) hlt;have hC:x=(match l[k]? with | some e=>e.a | none=>size+1)-(glA size l k).2:=by
        have:=qp_ (size:=size) (l:=l) k hP;rw[this] at hx;exact (Zi hx).symm
       have hb:=pA_ (size:=size) (m:=d.size) (l:=l) k sH;rw[<-hC] at hb;obtain⟨q1,q2,q3⟩:=lC_ (l:=l) hS k hP hT;subst hV;have hq:=Aa hN hB;have hA:=hq.size;have h7:(k:Int)<ng:=sH;have h8:(0:Int)<=k:=sH;have hE:∀ u,Below w1.heap.size w1 u->Cg u (some ⟨b,o,none⟩) k (l.take k):=fun u hu=>(h.below hu).take sH;have hU:∀ u,Below w1.heap.size w1 u->Cg u (if cap=k then some ⟨b,o,none⟩ else some ⟨b,o+k*2,none⟩) (n-k) (l.drop k):=fun u hu=>iM_ (h.below hu) k cap sH hcap;by_cases hfit:(d.size:Int)<=x
       ·rw[if_pos hfit] at hb;have ht:Hid (R=some ([]++l.take k++[⟨(glA size l k).2,d⟩]++l.drop k,(glA size l k).2)):=by show _=_;rw[hf.out,hI.out,hb];simp
        clear hb hI hf q3 hx hC;generalize (glA size l k).2=nk at *;by_cases hkn:k=n
        ·subst hkn;have hO:∀ (u:World) (q:Option Addr),Cg u q 0 (l.drop k):=fun u q=>by rw[Ze (Zm qg.out)];exact⟨rfl,fun i x hx=>by simp at hx⟩
         go_wp2_with (first | (at_builtin;refine ag_ rfl (fun K hK=>ay_ _ _ 29 rfl w1.heap.size 111 i0 (.agg #[.int .i64 0,.string .empty]) 24 underlying29 hi hl hm ho rfl sJ aK_ aU_ _ 0 0 [] rfl (aw_ (Blk.new' _ _ _ _ sK) sH) (some ⟨b,o,none⟩) k cap (l.take k) rfl (hE _ (hq.alloc hA _)) (fun ad h=>sV) (fun h=>sY) k (Zq _) sO sH sN (fun a1 cap1 u1 hv hF=>hK _ _ ?_));have qe:Below w1.heap.size w1 u1:=Yi (hq.alloc hA _) hF sN (fun k e=>by simp[Value.ownBlock] at e;omega)) | (at_builtin;refine ag_ rfl (fun K hK=>ay_ _ _ 29 rfl w1.heap.size 111 i0 (.agg #[.int .i64 0,.string .empty]) 24 underlying29 hi hl hm ho rfl sJ aK_ aU_ a1 k cap1 ([]++l.take k) rfl (hv.alloc _) _ 1 1 [(⟨nk,d⟩:Ex)] rfl (c9_ _ ⟨nk,d⟩ _ _ sK) (fun ad h=>sV) (fun h=>sY) (k+1) rfl sO sH oO (fun a2 cap2 u2 hg hH=>hK _ _ ?_));have ha:Below w1.heap.size w1 u2:=Yi (qe.alloc qe.size _) hH oO (aG_ fun ad hc=>(hv.block ad hc).1)) | (at_builtin;refine ag_ rfl (fun K hK=>ay_ _ _ 29 rfl w1.heap.size 111 i0 (.agg #[.int .i64 0,.string .empty]) 24 underlying29 hi hl hm ho rfl sJ aK_ aU_ a2 (k+1) cap2 ([]++l.take k++[(⟨nk,d⟩:Ex)]) rfl hg (if cap=k then some ⟨b,o,none⟩ else some ⟨b,o+k*2,none⟩) 0 (cap-k) (l.drop k) rfl (hO _ _) (fun ad h=>od) (fun h=>oJ) (k+1) sH sO sH ha.size (fun a3 cap3 u3 hy hs=>hK _ _ ?_));have hw:Below w1.heap.size w1 u3:=Yi ha hs ha.size (aG_ fun ad hc=>(hg.block ad hc).1)) | (at_builtin;refine ag_ rfl (fun K hK=>ay_ _ _ 29 rfl w1.heap.size 111 i0 (.agg #[.int .i64 0,.string .empty]) 24 underlying29 hi hl hm ho rfl sJ aK_ aU_ a2 (k+1) cap2 ([]++l.take k++[(⟨nk,d⟩:Ex)]) rfl hg (if cap=k then some ⟨b,o,none⟩ else some ⟨b,o+k*2,none⟩) (k-k) (cap-k) (l.drop k) rfl (by rw[Nat.sub_self];exact hO _ _) (fun ad h=>od) (fun h=>oJ) (k+1) sH sO sH ha.size (fun a3 cap3 u3 hy hs=>hK _ _ ?_));have hw:Below w1.heap.size w1 u3:=Yi ha hs ha.size (aG_ fun ad hc=>(hg.block ad hc).1)));(all_goals go_returns);all_goals (rw[ht.out];exact⟨⟨a3,k+1,cap3,rfl,hy⟩,hw⟩)
        ·have hZ:k<n:=sH;go_wp2_with (first | (at_builtin;refine ag_ rfl (fun K hK=>ay_ _ _ 29 rfl w1.heap.size 111 i0 (.agg #[.int .i64 0,.string .empty]) 24 underlying29 hi hl hm ho rfl sJ aK_ aU_ _ 0 0 [] rfl (aw_ (Blk.new' _ _ _ _ sK) sH) (some ⟨b,o,none⟩) k cap (l.take k) rfl (hE _ (hq.alloc hA _)) (fun ad h=>sV) (fun h=>sY) k (Zq _) sO sH sN (fun a1 cap1 u1 hv hF=>hK _ _ ?_));have qe:Below w1.heap.size w1 u1:=Yi (hq.alloc hA _) hF sN (fun k e=>by simp[Value.ownBlock] at e;omega)) | (at_builtin;refine ag_ rfl (fun K hK=>ay_ _ _ 29 rfl w1.heap.size 111 i0 (.agg #[.int .i64 0,.string .empty]) 24 underlying29 hi hl hm ho rfl sJ aK_ aU_ a1 k cap1 ([]++l.take k) rfl (hv.alloc _) _ 1 1 [(⟨nk,d⟩:Ex)] rfl (c9_ _ ⟨nk,d⟩ _ _ sK) (fun ad h=>sV) (fun h=>sY) (k+1) rfl sO sH oO (fun a2 cap2 u2 hg hH=>hK _ _ ?_));have ha:Below w1.heap.size w1 u2:=Yi (qe.alloc qe.size _) hH oO (aG_ fun ad hc=>(hv.block ad hc).1)) | (at_builtin;refine ag_ rfl (fun K hK=>ay_ _ _ 29 rfl w1.heap.size 111 i0 (.agg #[.int .i64 0,.string .empty]) 24 underlying29 hi hl hm ho rfl sJ aK_ aU_ a2 (k+1) cap2 ([]++l.take k++[(⟨nk,d⟩:Ex)]) rfl hg (some ⟨b,o+k*2,none⟩) (n-k) (cap-k) (l.drop k) rfl ((h.below ha).drop k) (fun ad h=>od) (fun h=>oJ) (n+1) sH sO sH ha.size (fun a3 cap3 u3 hy hs=>hK _ _ ?_));have hw:Below w1.heap.size w1 u3:=Yi ha hs ha.size (aG_ fun ad hc=>(hg.block ad hc).1)));(all_goals go_returns);all_goals (rw[ht.out];exact⟨⟨a3,n+1,cap3,rfl,hy⟩,hw⟩)
       ·rw[if_neg hfit] at hb;clear hE hU hx;by_cases hkn:k<n
        ·rw[if_pos (by rw[qg.out];exact hkn)] at hb;obtain⟨b',o',p,qW,hp,d0,d1⟩:=be_ (h.below hq) hkn;obtain⟨rfl,rfl⟩:b=b'∧o=o':=rE;have hY:Hid ((glA size l (k+1)).2=p.a+p.d.size):=by show _=_;rw[da_ hp]
         have hj:Hid (DH size d.size 0 1 l=DH size d.size (k+1) (glA size l (k+1)).2 (l.drop (k+1))):=by show _=_;rw[hI.out,hb]
         rw[al_ hp] at q3;simp only[xgo,Zf,ZU] at q3;have h3:p.d.size<=20:=by have:=q3.1.1.1;simp[At] at this;omega
         have qa:p.a<=400:=by have:=q3.1.2;have:=bl_ q3.1.1.1;omega
         have h4:1<=p.a:=by have:=q3.1.1.2;omega
         clear hp qW q3 hb hI hC;generalize (glA size l k).2=nk at *;have h9:(k:Int)<n:=sH;go_wp2_with fail;go_quiet (fail);go_wp2;go_roundw
         case rel=>exact⟨k+1,sH,sQ,fun _=>⟨by rw[hY.out],hj⟩,fun e=>by omega,Aa hB (Bj _ _)⟩
         case measure=>simp[intOf];omega
        ·rw[if_neg (by rw[qg.out];exact hkn)] at hb;have hj:Hid (DH size d.size 0 1 l=none):=by show _=_;rw[hI.out,hb]
         clear q3 hb hI hC;generalize (glA size l k).2=nk at *;go_wp2;go_roundw
         case rel=>exact⟨k+1,sH,sQ,fun e=>by omega,fun _=>⟨⟨_,rfl⟩,hj⟩,hB⟩
         case measure=>simp[intOf];omega
      ·obtain⟨⟨y,rfl⟩,hI⟩:=he sH;obtain rfl:k=ng:=sH;clear hL he;go_wp2;go_returns;rw[hf.out,hI.out];exact⟨rfl,Aa hN hB⟩
end
section
open Go Go.RowKit Go.BigFrame Tryz
variable{file s vol:ByteArray}{ps:List Pt}{vs:List Vo}{i k:Nat}
def zB (d:ByteArray):Bool:=d.toList==(⟨#[]⟩:ByteArray).toList
def inB (n lo hi:Int):Bool:=decide (lo<=n)&&decide (n<=hi)
def opB (o:Opr):Bool:=
 if o.k=1∨o.k=7∨o.k=8 then nameB o.vol&&(zB o.file&&zB o.to&&zB o.into&&o.at'==0&&o.fr==0&&o.ln==0&&zB o.data)
 else if o.k=2 then nameB o.vol&&nameB o.file&&inB o.at' 0 100&&At o.data&&(zB o.to&&zB o.into&&o.fr==0&&o.ln==0)
 else if o.k=3 then nameB o.vol&&nameB o.file&&inB o.ln 0 100&&(zB o.to&&zB o.into&&o.at'==0&&o.fr==0&&zB o.data)
 else if o.k=4 then nameB o.vol&&nameB o.file&&(zB o.to&&zB o.into&&o.at'==0&&o.fr==0&&o.ln==0&&zB o.data)
 else if o.k=10 then nameB o.vol&&nameB o.file&&inB o.at' 0 100&&inB o.ln 1 100&&(zB o.to&&zB o.into&&o.fr==0&&zB o.data)
 else if o.k=5 then nameB o.vol&&nameB o.file&&nameB o.to&&nameB o.into&&inB o.at' 0 100&&inB o.fr 0 100&&inB o.ln 1 100&&zB o.data
 else if o.k=6 then nameB o.vol&&nameB o.to&&(zB o.file&&zB o.into&&o.at'==0&&o.fr==0&&o.ln==0&&zB o.data)
 else if o.k=9 then zB o.vol&&zB o.file&&zB o.to&&zB o.into&&o.at'==0&&o.fr==0&&o.ln==0&&zB o.data
 else false
def CQ (vs:List Vo)(s:ByteArray):Option Nat:=vs.findIdx? (fun v=>v.nm.toList==s.toList)
def itI (l:List It)(s:ByteArray):Option Nat:=l.findIdx? (fun x=>x.nm.toList==s.toList)
def Gj:Option Nat->Int
 |none=>-1
 |some i=>i
def BK (vs:List Vo)(vol file:ByteArray):Option (List Pt):=
 (CQ vs vol).bind fun i=>vs[i]?.bind fun v=>(itI v.its file).bind fun k=>v.its[k]?.map (·.ps)
theorem sd{p:Prop}(h:p:=by
 rw[al_ h,List.findIdx?_cons];split
 ·simp
 ·rw[Option.map_map];congr 1;funext i;simp;omega):p:=h
end
end Go.Proofs.YteejlahappbalaaGreatDoor
