/- Ops as plain data: when one is right; names and lengths. -/
import Derived.Lib.SliceRun
import Derived.Test.YtdmeabghpchckaaGreatDoorU07
set_option maxHeartbeats 20000000
set_option maxRecDepth 100000
namespace Go.Proofs.YtdmeabghpchckaaGreatDoor
section
open Go Go.RowKit Go.BigFrame Tryz
variable{file vol:ByteArray}{k:Nat}
abbrev Fx:=AE (fun x:ByteArray=>[Value.string x]) 1
structure Opr where
 k:Int
 vol:ByteArray
 file:ByteArray
 to:ByteArray
 into:ByteArray
 at':Int
 fr:Int
 ln:Int
 data:ByteArray
end
section
open Go Go.RowKit Go.BigFrame Tryz
variable{α:Type}{a:Act}{B b j n sz:Nat}{o:Oper}{t:TypeId}{x:Value}{u u' w:World}{l:List α}{cs:α->List Value}
def F9 (B:Nat)(t:TypeId)(u:World)(x:Value):Prop:=∃ b,x=.slice (some ⟨b,0,none⟩) 0 0∧Blk u b #[] t∧B<=b
def Gc (cs:α->List Value)(sz:Nat)(t:TypeId)(B n:Nat)(l:List α)(u:World)(x:Value):Prop:=∃ a cap,x=.slice a n cap∧Ad cs sz t u B a n cap l∧a≠none
def GZ (B:Nat)(t:TypeId)(c:Array Value)(u:World)(x:Value):Prop:=∃ b,x=.pointer (some ⟨b,0,none⟩)∧Blk u b c t∧B<=b
theorem F9.below (h:F9 B t u x)(hb:Below u.heap.size u u'):F9 B t u' x:=by
 obtain⟨b,h1,h2,h3⟩:=h;exact⟨b,h1,h2.below hb,h3⟩
theorem Gc.below (h:Gc cs sz t B n l u x)(hb:Below u.heap.size u u'):Gc cs sz t B n l u' x:=by
 obtain⟨a,cap,h1,h2,h3⟩:=h;exact⟨a,cap,h1,h2.below hb,h3⟩
theorem GZ.below {c:Array Value}(h:GZ B t c u x)(hb:Below u.heap.size u u'):GZ B t c u' x:=by
 obtain⟨b,h1,h2,h3⟩:=h;exact⟨b,h1,h2.below hb,h3⟩
theorem AE.take {a:Option Addr}(h:AE cs sz w a n l)(hj:j<=n):AE cs sz w a j (l.take j):=
 ⟨by rw[Zz,h.len];omega,fun i x hx=>by
  rw[List.getElem?_take] at hx;split at hx
  ·exact h.cell i x hx
  ·cases hx⟩
theorem AE.drop {o:Nat}(h:AE cs sz w (some ⟨b,o,none⟩) n l)(j:Nat):AE cs sz w (some ⟨b,o+j*sz,none⟩) (n-j) (l.drop j):=
 ⟨by rw[List.length_drop,h.len],fun i x hx=>by
  rw[List.getElem?_drop] at hx;obtain⟨b',o',he,hc⟩:=h.cell _ _ hx;simp at he;obtain⟨rfl,rfl⟩:=he;refine⟨b,_,rfl,fun u v hv=>?_⟩
  have:=hc u v hv
  rw[Yd] at this;rw[<-this];congr 2;omega⟩
end
section
open Go Go.RowKit Go.BigFrame Tryz
variable{file s vol:ByteArray}{ps:List Pt}{vs:List Vo}{i k:Nat}
def volI (vs:List Vo)(s:ByteArray):Option Nat:=vs.findIdx? (fun v=>v.nm.toList==s.toList)
def itI (l:List It)(s:ByteArray):Option Nat:=l.findIdx? (fun x=>x.nm.toList==s.toList)
def Ar (vs:List Vo)(vol file:ByteArray):Option (List Pt):=
 (volI vs vol).bind fun i=>vs[i]?.bind fun v=>(itI v.its file).bind fun k=>v.its[k]?.map (·.ps)
end
section
open Go Go.RowKit
variable{P:Program}{ops:Array Oper}{Q:Exit->Act->World->Prop}{md:Region.Mode}
def EM (P:Program)(ops:Array Oper)(n:Nat)(Q:Exit->Act->World->Prop):Exit->Act->World->Prop
 |.normal,a,w=>wpOp P ops Q n (Q .normal) a w
 |e,a,w=>Q e a w
theorem nm_ {n:Nat}(h:LetsOut (EM P ops n Q)):LetsOut Q:=by
 obtain⟨a,w,h⟩:=h;exact⟨a,w,h⟩
theorem nn_ {n i:Nat}{K:Act->World->Prop}{a:Act}{w:World}(h:wpOp P ops (EM P ops n Q) i K a w):wpOp P ops Q i K a w:=by
 unfold wpOp at *;split
 ·rename_i h0;simp only[h0] at h;exact h
 ·rename_i o h0;simp only[h0] at h;split
  ·rename_i hw;rw[if_pos hw] at h;rcases h with h | ⟨h1,h2⟩
   ·left;unfold Oper.wp at *;generalize (execOp a.eval o).run P w=r at *
    cases r with
    |ok nx w'=>
     cases nx<;>simp only[Oper.upon] at h ⊢<;>try exact h
    |halt x w'=>
     cases x<;>simp only[Oper.upon] at h ⊢
     exact h
   ·exact .inr ⟨h1,nm_ h2⟩
  ·rename_i hw;rw[if_neg hw] at h;exact h
def unl (n:Nat)(listed:Array Bool):Nat:=(List.range n).countP (fun i=>listed.getD i true==false)
def HF (ops:Array Oper):Bool:=(List.range ops.size).all fun j=>match ops[j]? with | some o=>o.after.all fun e=>decide (e.on<j) | none=>true
theorem fR_ (h:HF ops=true){j:Nat}{o:Oper}(hj:ops[j]?=some o):∀ e∈o.after,e.on<j:=by
 intro e he;have h1:=List.all_eq_true.1 h j (List.mem_range.2 (ZG.1 hj).1);simp only[hj] at h1
 have:=Array.all_eq_true_iff_forall_mem.1 h1 e he
 simpa using this
theorem pq_ {n:Nat}{listed:Array Bool}(h:0<unl n listed):∃ i,i<n∧listed.getD i true=false:=by
 obtain⟨i,hi,h1⟩:=List.countP_pos_iff.1 h;exact⟨i,List.mem_range.1 hi,by simpa using h1⟩
theorem kq_ {n:Nat}{listed:Array Bool}(h:unl n listed=0):∀ i,i<n->listed.getD i true=true:=by
 intro i hi
 have:=List.countP_eq_zero.1 h i (List.mem_range.2 hi)
 simpa using this
theorem gj_ {listed:Array Bool}{i:Nat}(hi:i<listed.size)(hf:listed.getD i true=false):∀ (l:List Nat),l.Nodup->i∈l->l.countP (fun k=>(listed.setIfInBounds i true).getD k true==false)+1=l.countP (fun k=>listed.getD k true==false)
 |[],_,h=>by cases h
 |x::r,hn,h=>by
  rw[List.countP_cons,List.countP_cons];by_cases hx:x=i
  ·subst hx
   have hr:∀ k∈r,((listed.setIfInBounds x true).getD k true==false)=(listed.getD k true==false):=fun k hk=>by
    rw[getD_set_ne true (fun e=>by subst e;exact (List.nodup_cons.1 hn).1 hk)]
   rw[List.countP_congr (fun k hk=>by rw[hr k hk])];have h1:(listed.setIfInBounds x true).getD x true=true:=by simp[hi]
   simp only[h1,hf];simp
  ·have ih:=gj_ hi hf r (List.nodup_cons.1 hn).2 (by rcases Zn.1 h with e | e;exact absurd e.symm hx;exact e);rw[getD_set_ne true (Ne.symm hx)];omega
theorem no_ {n:Nat}{listed:Array Bool}(h:0<unl n listed):∃ i,i<n∧listed.getD i true=false∧∀ k,k<i->listed.getD k true=true:=by
 obtain⟨i,hi,hf⟩:=pq_ h
 induction i using Nat.strongRecOn with
 |_ i ih=>
  by_cases hk:∃ k,k<i∧listed.getD k true=false
  ·obtain⟨k,h1,h2⟩:=hk;exact ih k h1 (by omega) h2
  ·refine⟨i,hi,hf,fun k ha=>?_⟩
   cases hb:listed.getD k true with
   |true=>rfl
   |false=>exact absurd ⟨k,ha,hb⟩ hk
theorem hD_ {listed:Array Bool}{i:Nat}(hi:i<listed.size)(h:listed.getD i true=true):listed.getD i false=true:=by
 simp[hi] at h ⊢;exact h
theorem lH_ {n:Nat}(hn:ops.size=n+1)(hs:Region.sinkB md ops n=true)(hd:HF ops=true):
  ∀ (fuel:Nat) (listed:Array Bool) (a:Act) (w:World),HeadInv md ops n listed->unl n listed=fuel->
   wpAny P md ops (EM P ops n Q) fuel (listed.setIfInBounds n true) a w->wpAny P md ops Q (fuel+1) listed a w:=by
 have hc:Region.chainB md ops n=true:=by
  refine List.all_eq_true.2 fun t ht=>?_
  have:=List.mem_range.1 ht
  simp;left;omega
 intro fuel
 induction fuel with
 |zero=>
  intro listed a w inv hu h;have ha:=kq_ hu;have hm:=inv.size;obtain⟨h1,h2⟩:=h
  have hl:∀ i∈Region.ready md ops listed,i=n:=fun i hi=>by
   obtain⟨q1,o,q2,_⟩:=mem_ready.1 hi
   have:=(ZG.1 q2).1
   rcases Nat.lt_or_ge i n with q | q
   ·rw[ha i q] at q1;cases q1
   ·omega
  have hb:n∈Region.ready md ops listed:=by
   have hf:n<ops.size:=by omega
   have ho:ops[n]?=some ops[n]:=by simp[hf]
   exact mem_ready.2 ⟨inv.tail n (Zd _) hf,_,ho,fun e he _=>hD_ (by have:=fR_ hd ho e he;omega) (ha _ (fR_ hd ho e he))⟩
  refine⟨fun h0=>(by rw[h0] at hb;cases hb),fun i hi=>?_⟩;obtain rfl:=hl i hi;exact wpOp_mono (fun a' w' hq=>⟨h1,hq⟩) h2
 |succ fuel ih=>
  intro listed a w inv hu h;have hm:=inv.size;obtain⟨i0,hj,hg,hk⟩:=no_ (n:=n) (listed:=listed) (by omega)
  have hb:i0∈Region.ready md ops listed:=by
   have hf:i0<ops.size:=by omega
   have ho:ops[i0]?=some ops[i0]:=by simp[hf]
   exact mem_ready.2 ⟨hg,_,ho,fun e he _=>hD_ (by have:=fR_ hd ho e he;omega) (hk _ (fR_ hd ho e he))⟩
  refine⟨fun h0=>(by rw[h0] at hb;cases hb),fun i hi=>?_⟩;obtain⟨q1,o,q2,_⟩:=mem_ready.1 hi;have hf:=(ZG.1 q2).1
  have hh:i<n:=by
   rcases Nat.lt_or_ge i n with q | q
   ·exact q
   ·exact absurd hi (tail_waits hs hc (by omega) inv _ i0 rfl hj hg i q)
  have h2:=h.2 i (ready_mono hi (by omega));refine nn_ (n:=n) (wpOp_mono (fun a' w' hq=>?_) h2);refine ih _ a' w' (inv.set hi hh) ?_ ?_
  ·have:=gj_ (listed:=listed) (i:=i) (by omega) q1 (List.range n) List.nodup_range (List.mem_range.2 hh)
   unfold unl at *;omega
  ·rw[Array.setIfInBounds_comm _ _ (by omega)];exact hq
theorem ar_ {S:World->Prop}{id:Nat}{a:Act}{w:World}(n:Nat)(hm:P.follows .mixedOrders=true)(hB:(decide (ops.size=n+1)&&Region.sinkB .any ops n&&HF ops)=true)
  (h:wpAnyH P .any ops (EM P ops n Q) S n ((Array.replicate ops.size false).setIfInBounds n true) a w.drew):(Code.region id ops true).wp P Q a w:=by
 simp only[Zf,ZU] at hB;refine wp_region_any hm ?_
 have hx:=lH_ (P:=P) (Q:=Q) hB.1.1 hB.1.2 hB.2 n (Array.replicate ops.size false) a w.drew ⟨by simp,fun j oj _ hl=>(by rw[getD_replicate_false] at hl;cases hl),fun t _ ht=>(by simp[ht])⟩ (by
  unfold unl;rw[List.countP_eq_length.2 (fun k hk=>by have:=List.mem_range.1 hk;have:k<ops.size:=(by omega);simp[this])];simp) (wpAny_of_held _ _ _ _ h)
 rw[hB.1.1] at hx ⊢;rw[<-hB.1.1];rw[<-hB.1.1] at hx;exact hx
end
section
open Go Go.RowKit
variable{P:Program}{Q:Exit->Act->World->Prop}{md:Region.Mode}
variable{S:World->Prop}
theorem Ic {l:List Oper}{i:Nat}{oi:Oper}{v:Value}{fuel:Nat}{listed:Array Bool}{a:Act}{w:World}(hi:l[i]?=some oi)
  (hs:Region.noSelect l.toArray=true)(hf:Region.free md l.toArray listed i=true)(hr:(Region.ready md l.toArray listed).contains i=true)
  (hQ:∀ c a w,Q (.panic c) (a.put oi.dst v) w->Q (.panic c) a w)(hy:YieldsIf P l.toArray S oi v a)(hS:S w)
  (h:wpAnyH P md l.toArray Q S fuel (listed.setIfInBounds i true) (a.put oi.dst v) w):wpAnyH P md l.toArray Q S (fuel+1) listed a w:=
 wpAnyH_take (by simpa using hi) hs hf hr hQ hy hS h
theorem tk {l:List Oper}(i:Nat){oi:Oper}{v:Value}{fuel:Nat}{listed li:Array Bool}{a b:Act}{w:World}(h:wpAnyH P md l.toArray Q S fuel li b w)(hi:l[i]?=some oi:=by rfl)
  (hB:(Region.noSelect l.toArray&&Region.free md l.toArray listed i&&(Region.ready md l.toArray listed).contains i)=true:=by kernel_rfl)(hw:Region.wanted oi (yielded l.toArray a.tmps)=true:=by rfl)
  (hy:∀ w,S w->(execOp a.eval oi).run P w=.ok (.value v) w:=by (intro u hu;(try dsimp only at hu);go_simp<;>with_reducible rfl))(hQ:∀ c a w,Q (.panic c) (a.put oi.dst v) w->Q (.panic c) a w:=by exact fun _ _ _ h=>h)(hS:S w:=by first | assumption | trivial)
  (hl:listed.setIfInBounds i true=li:=by (try simp only[Yj,Yq,Yr]);rfl)(ha:a.put oi.dst v=b:=by (try simp only[Act.put,lsA,lsB,lsC]);rfl):wpAnyH P md l.toArray Q S (fuel+1) listed a w:=by
 subst hl ha;simp only[Zf] at hB;exact Ic hi hB.1.1 hB.1.2 hB.2 hQ (.inl ⟨hw,hy⟩) hS h
theorem BI {l:List Oper}{n:Nat}{o:Oper}{a:Act}{w:World}(hi:l[n]?=some o)(h:wpList P l.toArray Q [o] a w):EM P l.toArray n Q .normal a w:=by
 have ha:l.toArray[n]?=some o:=by simpa using hi
 show wpOp P l.toArray Q n (Q .normal) a w;unfold wpOp;simp only[ha];exact h
end
section
open Go Go.RowKit Go.BigFrame Tryz
variable{file s vol:ByteArray}{ps:List Pt}{vs:List Vo}{i k:Nat}
structure BA (o:Opr):Prop where
 vol:o.vol.size<=9223372036854775807
 file:o.file.size<=9223372036854775807
 to:o.to.size<=9223372036854775807
 into:o.into.size<=9223372036854775807
 data:o.data.size<=9223372036854775807
theorem ku_ {vs:List It}{x:It}(h:vs[k]?=some x):(itI (vs.drop k) s).map (·+k)=if (x.nm.toList==s.toList)=true then some k else (itI (vs.drop (k+1)) s).map (·+(k+1)):=by
 unfold itI;rw[al_ h,List.findIdx?_cons];split
 ·simp
 ·rw[Option.map_map];congr 1;funext i;simp;omega
theorem lQ_ (h:Ar vs vol file=some ps):∃ v∈vs,∃ x∈v.its,x.ps=ps:=by
 unfold Ar at h;simp only[Option.bind_eq_some_iff,ZW] at h;obtain⟨i,_,v,hv,k,_,x,hx,rfl⟩:=h;exact⟨v,Zc hv,x,Zc hx,rfl⟩
theorem bb_ {p:Po}(hp:Ai p=true)(h:Ar p.vs vol file=some ps):Ac ps=true∧(Aj ps p.ex).isSome=true:=by
 obtain⟨v,hv,x,hx,rfl⟩:=lQ_ h;obtain⟨_,h2,_⟩:=bL_ hp;obtain⟨h3,_⟩:=b0_ h2 v hv;simp only[itemsB,Zf] at h3;have h4:=db_ h3.2 x hx;refine⟨?_,h4⟩;unfold Aj at h4;split at h4
 ·rename_i hh;exact hh.1
 ·cases h4
end
section
open Go Go.RowKit Go.BigFrame Tryz
variable{α:Type}{a:Act}{x:Value}{l:List α}
def AH (l:List Pt)(at':Int)(m:List Pt):List Pt:=
 Ak (Ak (if Af l<at' then AI (Ak [] (slp 0 (min at' (Af l)) 0 l)) ⟨0,0,at'-Af l⟩ else Ak [] (slp 0 (min at' (Af l)) 0 l)) m) (Ak [] (slp (min (Af l) (at'+Af m)) (Af l) 0 l))
theorem bl_ {d:ByteArray}(h:As d=true):1<=d.size:=by simp[As] at h;omega
def Cy (addr:Int):List Ex->Nat
 |[]=>0
 |e::r=>if e.a<addr then Cy addr r+1 else 0
def Cs (l:List Ex)(x:Ex):List Ex:=l.take (Cy x.a l)++[x]++l.drop (Cy x.a l)
end
section
open Go Go.RowKit
variable{size:Int}
def AV (size:Int)(l:List Ex)(d:ByteArray):Option (List Ex×Int):=
 if Ao size l=true∧As d=true∧l.length≠60 then ((ggo size 1 l).find? (fun x=>decide ((d.size:Int)<=x.2))).map (fun x=>(Cs l ⟨x.1,d⟩,x.1)) else none
end
section
open Go Go.RowKit Go.BigFrame Tryz
variable{file vol:ByteArray}{k:Nat}
def zB (d:ByteArray):Bool:=d.toList==(⟨#[]⟩:ByteArray).toList
def inB (n lo hi:Int):Bool:=decide (lo<=n)&&decide (n<=hi)
def opB (o:Opr):Bool:=
 if o.k=1∨o.k=7∨o.k=8 then nameB o.vol&&(zB o.file&&zB o.to&&zB o.into&&o.at'==0&&o.fr==0&&o.ln==0&&zB o.data)
 else if o.k=2 then nameB o.vol&&nameB o.file&&inB o.at' 0 100&&As o.data&&(zB o.to&&zB o.into&&o.fr==0&&o.ln==0)
 else if o.k=3 then nameB o.vol&&nameB o.file&&inB o.ln 0 100&&(zB o.to&&zB o.into&&o.at'==0&&o.fr==0&&zB o.data)
 else if o.k=4 then nameB o.vol&&nameB o.file&&(zB o.to&&zB o.into&&o.at'==0&&o.fr==0&&o.ln==0&&zB o.data)
 else if o.k=10 then nameB o.vol&&nameB o.file&&inB o.at' 0 100&&inB o.ln 1 100&&(zB o.to&&zB o.into&&o.fr==0&&zB o.data)
 else if o.k=5 then nameB o.vol&&nameB o.file&&nameB o.to&&nameB o.into&&inB o.at' 0 100&&inB o.fr 0 100&&inB o.ln 1 100&&zB o.data
 else if o.k=6 then nameB o.vol&&nameB o.to&&(zB o.file&&zB o.into&&o.at'==0&&o.fr==0&&o.ln==0&&zB o.data)
 else if o.k=9 then zB o.vol&&zB o.file&&zB o.to&&zB o.into&&o.at'==0&&o.fr==0&&o.ln==0&&zB o.data
 else false
end
section
open Go Go.RowKit
variable{x:It}{l:List It}
def Bh (x:It)(st:List It×Bool)(y:It):List It×Bool:=
 ((if (!st.2&&!(bl y.nm.toList x.nm.toList))=true then st.1++[x] else st.1)++(if (y.nm.toList==x.nm.toList)=true then [] else [y]),st.2||!(bl y.nm.toList x.nm.toList))
def DH (x:It)(st:List It×Bool):List It:=if st.2=true then st.1 else st.1++[x]
def A9 (x:It)(l:List It):List It:=DH x (l.foldl (Bh x) ([],false))
def Ah (p:Po)(o:Opr):Int×List Ex×List Pt:=
 let name:=if o.k=5 then o.to else o.vol;let file:=if o.k=5 then o.into else o.file;let was:=Ar p.vs name file;let ps:=was.getD []
 if o.k=2 then
  match AV p.size p.ex o.data with
  |none=>(5,p.ex,[])
  |some (l,a)=>(0,l,AH ps o.at' [⟨a,0,o.data.size⟩])
 else if o.k=5 then
  match Ar p.vs o.vol o.file with
  |none=>(3,p.ex,[])
  |some src=>if o.fr+o.ln > Af src then (3,p.ex,[]) else (0,p.ex,AH ps o.at' (Ak [] (slp o.fr (o.fr+o.ln) 0 src)))
 else
  match was with
  |none=>(3,p.ex,[])
  |some q=>if o.k=10 then (0,p.ex,AH q o.at' [⟨0,0,o.ln⟩]) else if o.ln > Af q then (0,p.ex,AH q (Af q) [⟨0,0,o.ln-Af q⟩]) else (0,p.ex,Ak [] (slp 0 o.ln 0 q))
def Ap (p:Po)(o:Opr):Int×Po:=
 let name:=if o.k=5 then o.to else o.vol;let file:=if o.k=5 then o.into else o.file
 match volI p.vs name with
 |none=>(3,p)
 |some i=>match p.vs[i]? with
  |none=>(3,p)
  |some v=>if v.fx=true then (6,p) else
   let r:=Ah p o
   if r.1=0 then (0,{p with ex:=r.2.1,vs:=p.vs.set i {v with its:=A9 ⟨file,r.2.2⟩ v.its}}) else (r.1,p)
def Ay (p:Po)(o:Opr):Int×Po:=
 match volI p.vs o.vol with
 |none=>if o.k=1 then (0,{p with vs:=p.vs++[⟨p.next,o.vol,false,[]⟩],next:=p.next+1}) else (3,p)
 |some i=>match p.vs[i]? with
  |none=>(3,p)
  |some v=>
   if o.k=1 then (4,p)
   else if o.k=6 then (match volI p.vs o.to with | some _=>(4,p) | none=>(0,{p with vs:=p.vs++[⟨p.next,o.to,false,v.its⟩],next:=p.next+1}))
   else if o.k=7 then (0,{p with vs:=p.vs.take i++p.vs.drop (i+1)})
   else if o.k=8 then (if v.fx=true then (6,p) else (0,{p with vs:=p.vs.set i {v with fx:=true}}))
   else if o.k=4 then (if v.fx=true then (6,p) else match itI v.its o.file with | none=>(3,p) | some k=>(0,{p with vs:=p.vs.set i {v with its:=v.its.take k++v.its.drop (k+1)}}))
   else (0,p)
def flushS (p:Po):Po:={p with rf:=AQ p.rf p.lt,lt:=[],ex:=p.ex.filter (fun e=>(AQ p.rf p.lt).any (fun c=>c.o.a==e.a))}
def Cn (l:List Ct):List Ct:=l.map (fun c=>⟨c.o,-c.n⟩)
def BQ (p:Po)(o:Opr):Int×Po:=if o.k=2∨o.k=3∨o.k=5∨o.k=10 then Ap p o else Ay p o
def A6 (p q:Po):Po:={q with lt:=q.lt++AQ (AA q.vs) (Cn (AA p.vs))}
def opS (p:Po)(o:Opr):Int×Po:=
 if opB o=true then
  if o.k=9 then (0,flushS p)
  else if (BQ p o).1=0 then (if Ai (A6 p (BQ p o).2)=true then (0,A6 p (BQ p o).2) else (5,p)) else ((BQ p o).1,p)
 else (2,p)
def Bz (p:Po)(o:Opr):Int×Po:=if Ai p=true then opS p o else (1,⟨0,0,[],[],[],[]⟩)
end
section
open Go Go.RowKit Go.BigFrame Tryz
variable{α:Type}{a:Act}{K:Act->World->Prop}{ops:Array Oper}{Q:Exit->Act->World->Prop}{j k:Nat}{o:Oper}{P:Program}{md:Region.Mode}{x:Value}{u u' w:World}{S:World->Prop}{l:List α}
theorem lI_ (I:Array Bool->Act->World->Prop)
  (hstep:∀ listed a u i,I listed a u->i∈Region.ready md ops listed->wpOp P ops Q i (fun a' u'=>S u'∧I (listed.setIfInBounds i true) a' u') a u)
  (hdone:∀ listed a u,I listed a u->Region.ready md ops listed=[]->Q .normal a u)(hsz:∀ listed a u,I listed a u->listed.size=ops.size):
  ∀ (fuel:Nat) (listed:Array Bool) (a:Act) (u:World),unl ops.size listed<=fuel->I listed a u->wpAnyH P md ops Q S fuel listed a u:=by
 have ha:∀ (listed:Array Bool) i,i∈Region.ready md ops listed->i<ops.size∧listed.getD i true=false:=fun listed i hi=>by
  obtain⟨h1,o,h2,_⟩:=mem_ready.1 hi;exact⟨(ZG.1 h2).1,h1⟩
 intro fuel
 induction fuel with
 |zero=>
  intro listed a u hu hI
  have hr:Region.ready md ops listed=[]:=by
   cases hl:Region.ready md ops listed with
   |nil=>rfl
   |cons i r=>
    obtain⟨h1,h2⟩:=ha listed i (by rw[hl];simp);rw[kq_ (by omega) i h1] at h2
    cases h2
  exact⟨hr,hdone listed a u hI hr⟩
 |succ fuel ih=>
  intro listed a u hu hI;refine⟨fun hr=>hdone listed a u hI hr,fun i hi=>?_⟩;obtain⟨h1,h2⟩:=ha listed i hi;refine wpOp_mono (fun a' u' hq=>⟨hq.1,ih _ a' u' ?_ hq.2⟩) (hstep listed a u i hI hi)
  have:=gj_ (listed:=listed) (i:=i) (by rw[hsz listed a u hI];exact h1) h2 (List.range ops.size) List.nodup_range (List.mem_range.2 h1)
  unfold unl at *;omega
theorem cL_ {l:List Oper}{i:Nat}(hi:l[i]?=some o)(hg:o.guard=none)(h:∀ K':Act->World->Prop,Shut (∀ a w,K a w->K' a w)->o.wp P a w K' Q):wpOp P l.toArray Q i K a w:=by
 have ha:l.toArray[i]?=some o:=by simpa using hi
 unfold wpOp;simp only[ha];rw[if_pos (by simp[Region.wanted,hg])];exact .inl (h K (fun _ _ h=>h))
theorem kr_ {L0:Array Bool}{a0:Act}{u0:World}{fuel:Nat}(F:Act->Prop)(I:Act->Array Bool->Act->World->Prop)
  (hF:F a0)(hstep:∀ a0,F a0->∀ listed a u i,I a0 listed a u->i∈Region.ready md ops listed->wpOp P ops Q i (fun a' u'=>S u'∧I a0 (listed.setIfInBounds i true) a' u') a u)
  (hdone:∀ listed a u,I a0 listed a u->Region.ready md ops listed=[]->Q .normal a u)(hsz:∀ listed a u,I a0 listed a u->listed.size=ops.size)
  (hu:unl ops.size L0<=fuel)(hI:I a0 L0 a0 u0):wpAnyH P md ops Q S fuel L0 a0 u0:=lI_ (I a0) (hstep a0 hF) hdone hsz fuel L0 a0 u0 hu hI
theorem ce_ (a:Act)(k:Nat)(x y:Value):(a.put (some k) x).put (some k) y=a.put (some k) y:=by simp[Act.put]
theorem ax_ (h:k≠j)(a:Act)(x y:Value):(a.put (some k) x).put (some j) y=(a.put (some j) y).put (some k) x:=by
 simp only[Act.put];rw[Array.setIfInBounds_comm _ _ h]
theorem dd_ (a:Act)(k:Nat)(x:Value):(a.put (some k) x).tmps.size=a.tmps.size:=by simp[Act.put]
theorem cp_ (h:k<a.tmps.size):(a.put (some k) x).eval (.tmp k)=x:=by simp[Act.put,Act.eval,h]
theorem aj_ (h:k≠j)(a:Act)(x:Value):(a.put (some k) x).eval (.tmp j)=a.eval (.tmp j):=by simp[Act.put,Act.eval,Za h]
theorem bX_ {l:List Oper}{L:Array Bool}(hr:Region.ready md l.toArray L=[])(ho:l[k]?=some o)(hd:∀ e∈o.after,Region.binds md e=true->L.getD e.on false=true):L.getD k true=true:=by
 cases h:L.getD k true with
 |true=>rfl
 |false=>
  have hq:l.toArray[k]?=some o:=by simpa using ho
  have:=(mem_ready (md:=md)).2 ⟨h,o,hq,hd⟩
  rw[hr] at this
  cases this
end
section
open Go Go.RowKit Go.BigFrame Tryz
variable{ps:List Pt}
def EO (B:Nat)(e:Ending)(w':World):Option (List Pt)->Prop
 |none=>e=.returned (.tuple #[.slice none 0 0,.bool false])
 |some ps=>∃ pa pn pc,e=.returned (.tuple #[.slice pa pn pc,.bool true])∧AM w' pa pn ps∧Hd B pa pn pc∧ps.length<=4194304
end
section
open Go Go.RowKit Go.BigFrame Tryz
variable{α:Type}{a:Act}{l:List α}
theorem fe_ {size:Int}:∀ {l:List Ex} {next addr:Int},xgo size next l=true->addr<next->Cr addr l=l
 |[],_,_,_,_=>rfl
 |e::r,next,addr,h,ha=>by
  simp only[xgo,Zf,ZU] at h;obtain⟨⟨⟨h1,h2⟩,h3⟩,h4⟩:=h;have hr:=fe_ h4 (show addr<e.a+e.d.size by omega);have hb:(e.a==addr)=false:=ZV.2 (by omega);simp only[Cr,ZH,hb,Bool.not_false,if_true] at hr ⊢;rw[hr]
end
section
open Go Go.RowKit
variable{m size:Int}
def B5 (size m:Int):Nat->Int->List Ex->Option (Nat×Int)
 |k,next,[]=>if m<=size+1-next then some (k,next) else none
 |k,next,e::r=>if m<=e.a-next then some (k,next) else B5 size m (k+1) (e.a+e.d.size) r
theorem iN_ (hm:1<=m):∀ {L:List Ex} {next:Int} (k:Nat),xgo size next L=true->
  ((ggo size next L).find? (fun x=>decide (m<=x.2))).map (·.1)=(B5 size m k next L).map (·.2)
 |[],next,k,_=>by
  rw[ggo,B5];by_cases h:m<=size+1-next
  ·rw[if_pos (show next<=size by omega),if_pos h];simp[h]
  ·rw[if_neg h];split
   ·simp[h]
   ·rfl
 |e::r,next,k,hx=>by
  simp only[xgo,Zf,ZU] at hx;obtain⟨⟨⟨h1,h2⟩,h3⟩,h4⟩:=hx;have ih:=iN_ hm (k+1) h4;rw[ggo,B5];by_cases h:m<=e.a-next
  ·rw[if_pos (show next<e.a by omega),if_pos h];simp[h]
  ·rw[if_neg h,<-ih];split
   ·simp[h]
   ·simp
theorem ol_:∀ {L:List Ex} {next:Int},xgo size next L=true->∀ addr,addr<=next->Cy addr L=0
 |[],_,_,_,_=>rfl
 |e::r,next,hx,addr,ha=>by
  simp only[xgo,Zf,ZU] at hx;rw[Cy,if_neg (by omega)]
theorem ks_ (hm:1<=m):∀ {L:List Ex} {next:Int} (k:Nat),xgo size next L=true->∀ j nx,B5 size m k next L=some (j,nx)->next<=nx∧j=k+Cy nx L
 |[],next,k,_,j,nx,h=>by
  rw[B5] at h;split at h
  ·cases h;exact⟨YB _,rfl⟩
  ·cases h
 |e::r,next,k,hx,j,nx,h=>by
  have ha:=hx;simp only[xgo,Zf,ZU] at hx;obtain⟨⟨⟨h1,h2⟩,h3⟩,h4⟩:=hx;rw[B5] at h;split at h
  ·cases h;exact⟨YB _,by rw[ol_ ha _ (YB _)];rfl⟩
  ·obtain⟨q1,q2⟩:=ks_ hm (k+1) h4 j nx h;have hp:=bl_ h1;refine⟨by omega,?_⟩;rw[Cy,if_pos (by omega)];omega
def Bq (size:Int)(l:List Ex)(d:ByteArray):Option (List Ex×Int):=
 if Ao size l=true∧As d=true∧l.length≠60 then (B5 size d.size 0 1 l).map (fun x=>(l.take x.1++[⟨x.2,d⟩]++l.drop x.1,x.2)) else none
theorem hE_ (size:Int)(l:List Ex)(d:ByteArray):Bq size l d=AV size l d:=by
 unfold Bq AV;by_cases h:Ao size l=true∧As d=true∧l.length≠60
 ·rw[if_pos h,if_pos h];obtain⟨h1,h2,h3⟩:=h;obtain⟨_,_,_,hx⟩:=cu_ h1;have hd:=bl_ h2;have e1:=iN_ (m:=d.size) (by omega) 0 hx
  cases hp:B5 size d.size 0 1 l with
  |none=>
   rw[hp] at e1
   cases hf:(ggo size 1 l).find? (fun x=>decide ((d.size:Int)<=x.2)) with
   |none=>rfl
   |some y=>rw[hf] at e1;cases e1
  |some x=>
   obtain⟨j,nx⟩:=x;obtain⟨q1,q2⟩:=ks_ (by omega) 0 hx j nx hp;rw[hp] at e1
   cases hf:(ggo size 1 l).find? (fun x=>decide ((d.size:Int)<=x.2)) with
   |none=>rw[hf] at e1;cases e1
   |some y=>
    rw[hf] at e1;simp at e1;simp only[Option.map_some,Cs];rw[e1,show Cy nx l=j by omega]
 ·rw[if_neg h,if_neg h]
end
end Go.Proofs.YtdmeabghpchckaaGreatDoor
