/- What is laid on a file's parts, put into its volume. -/
import Derived.Test.YtahenegmbmnmjaaGreatDoorU13
set_option maxHeartbeats 20000000
set_option maxRecDepth 100000
namespace Go.Proofs.YtahenegmbmnmjaaGreatDoor
section
open Go Go.RowKit Go.BigFrame Tryz
open Go.Sort (SWO PermIn SortedIn grow alloc_eq_grow grow_grow)
theorem fW_ (p q:Ow)(w:World):
  Calls prog 184 #[.agg #[.int .i64 p.a,.int .i64 p.v,.string p.f],.agg #[.int .i64 q.a,.int .i64 q.v,.string q.f]] w fun e w'=>e=.returned (.int .i64 (CZ p q))∧∃ n os,w'=grow (w.drewN n) os:=by
 have ha:Hid (CZ p q=or3 (DB p.a q.a) (DB p.v q.v) (Fc p.f q.f)):=rfl;generalize CZ p q=R at *;obtain⟨a,v,f⟩:=p;obtain⟨b,u,g⟩:=q;simp only at ha;go_enter func184,ntmps184
 go_wp2_with fail
 have x0:((w.alloc (.cells #[.int .i64 a,.int .i64 v,.string f] 78)).alloc (.cells #[.int .i64 b,.int .i64 u,.string g] 78)).cell? ⟨w.heap.size,0,none⟩=some (.int .i64 a):=Ah _ (by simp);have x1:((w.alloc (.cells #[.int .i64 a,.int .i64 v,.string f] 78)).alloc (.cells #[.int .i64 b,.int .i64 u,.string g] 78)).cell? ⟨w.heap.size,1,none⟩=some (.int .i64 v):=Ah _ (by simp);have x2:((w.alloc (.cells #[.int .i64 a,.int .i64 v,.string f] 78)).alloc (.cells #[.int .i64 b,.int .i64 u,.string g] 78)).cell? ⟨w.heap.size,2,none⟩=some (.string f):=Ah _ (by simp);have y0:((w.alloc (.cells #[.int .i64 a,.int .i64 v,.string f] 78)).alloc (.cells #[.int .i64 b,.int .i64 u,.string g] 78)).cell? ⟨w.heap.size+1,0,none⟩=some (.int .i64 b):=by simp
 have y1:((w.alloc (.cells #[.int .i64 a,.int .i64 v,.string f] 78)).alloc (.cells #[.int .i64 b,.int .i64 u,.string g] 78)).cell? ⟨w.heap.size+1,1,none⟩=some (.int .i64 u):=by simp
 have y2:((w.alloc (.cells #[.int .i64 a,.int .i64 v,.string f] 78)).alloc (.cells #[.int .i64 b,.int .i64 u,.string g] 78)).cell? ⟨w.heap.size+1,2,none⟩=some (.string g):=by simp
 have hb:Hid (∀ o,(((w.alloc (.cells #[.int .i64 a,.int .i64 v,.string f] 78)).alloc (.cells #[.int .i64 b,.int .i64 u,.string g] 78)).alloc o).drew=grow (w.drewN 1) #[.cells #[.int .i64 a,.int .i64 v,.string f] 78,.cells #[.int .i64 b,.int .i64 u,.string g] 78,o]):=fun o=>by
  simp only[World.alloc,World.drew,World.drewN,grow];rw[Ie]
 generalize (w.alloc (.cells #[.int .i64 a,.int .i64 v,.string f] 78)).alloc (.cells #[.int .i64 b,.int .i64 u,.string g] 78)=W0 at *
 go_region_held3 (fun u'=>u'.cell? ⟨w.heap.size,0,none⟩=some (.int .i64 a)∧u'.cell? ⟨w.heap.size,1,none⟩=some (.int .i64 v)∧u'.cell? ⟨w.heap.size,2,none⟩=some (.string f)∧u'.cell? ⟨w.heap.size+1,0,none⟩=some (.int .i64 b)∧u'.cell? ⟨w.heap.size+1,1,none⟩=some (.int .i64 u)∧u'.cell? ⟨w.heap.size+1,2,none⟩=some (.string g)) (go_keep)
  (first | (go_at_call 222;refine (dZ_ _ _ _).mono ?_;rintro e w2 ⟨rfl,rfl⟩) | (go_at_call 223;refine (d0_ _ _ _).mono ?_;rintro e w2 ⟨rfl,rfl⟩) | (go_at_call 221;refine (mx_ (DB a b) (DB v u) (Fc f g) W0.heap.size 3 _ (Gv W0 _ _ _ _).1 (Gv W0 _ _ _ _).2.1 (Gv W0 _ _ _ _).2.2).mono ?_;rintro e w2 ⟨rfl,rfl⟩))
 go_wp2;go_returns;go_light;exact⟨a4_ ha.out.symm,1,_,hb.out _⟩
theorem lR_ (x y:Ct)(w:World):
  Calls prog 183 #[.agg #[.int .i64 x.o.a,.int .i64 x.o.v,.string x.o.f,.int .i64 x.n],.agg #[.int .i64 y.o.a,.int .i64 y.o.v,.string y.o.f,.int .i64 y.n]] w fun e w'=>e=.returned (.int .i64 (CZ x.o y.o))∧∃ n os,w'=grow (w.drewN n) os:=by
 obtain⟨⟨a,v,f⟩,n⟩:=x;obtain⟨⟨b,u,g⟩,m⟩:=y;go_enter func183,ntmps183
 go_wp2_with fail
 refine (fW_ ⟨a,v,f⟩ ⟨b,u,g⟩ _).mono ?_;rintro e w1 ⟨rfl,n1,os,rfl⟩;go_wp2;go_returns;go_light;refine⟨rfl,n1,#[.cells #[.int .i64 a,.int .i64 v,.string f,.int .i64 n] 80,.cells #[.int .i64 b,.int .i64 u,.string g,.int .i64 m] 80]++os,?_⟩;simp only[World.alloc,World.drewN,grow];rw[Id]
theorem or_:SWO (Go.Proofs.ltOf (fun x y:Ct=>CZ x.o y.o)):=by
 have e:∀ x y:Ct,Go.Proofs.ltOf (fun x y:Ct=>CZ x.o y.o) x y=Bc x.o y.o:=fun x y=>i6_ x.o y.o;refine⟨fun x=>?_,fun x y z=>?_,fun x y z=>?_⟩
 ·rw[e];exact gD_ _
 ·rw[e,e,e];exact b7_
 ·rw[e,e,e];intro h1 h2;by_cases h3:y.o=z.o
  ·rw[<-h3];exact h1
  ·by_cases h4:x.o=y.o
   ·rw[h4];exact h2
   ·exact ly_ (b7_ (ct_ h2 h3) (ct_ h1 h4))
end
section
open Go Go.RowKit Go.BigFrame
open Go.Sort (SWO PermIn SortedIn grow putRow mapBlock onCells putCells putRowK flatK HoldsK)
open Go.Proofs (sortWorldK)
variable{α:Type}{c:Array Value}{l:List Ct}{b n:Nat}{w:World}
theorem p1_ [Inhabited α]{enc:α->List Value}{k:Nat}{t:TypeId}(h:Blk w b c t)(n off:Nat)(d:Array α)(os:Array Obj):
  Blk (sortWorldK enc k w b off n d os) b (putCells id off (flatK enc k d) c) t:=by
 have hb:=h.lt;unfold Blk at *;simp only[sortWorldK,putRowK,putRow,mapBlock,grow,Go.Sort.ahead];rw[Array.getElem?_append_left (by simpa using hb),Array.getElem?_modify,if_pos rfl,h];rfl
theorem os_ [Inhabited α](enc:α->List Value)(k:Nat)(w:World)(b off n:Nat)(d:Array α)(os:Array Obj):
  w.grownBy (sortWorldK enc k w b off n d os) (some b):=by
 refine⟨rfl,rfl,rfl,by simp[sortWorldK,putRowK,putRow,mapBlock,grow,Go.Sort.ahead],fun i hi ha=>?_⟩;simp only[sortWorldK,putRowK,putRow,mapBlock,grow,Go.Sort.ahead];rw[Array.getElem?_append_left (by simpa using hi),Array.getElem?_modify,if_neg (fun e=>ha (by rw[e]))]
theorem iQ_ {i j:Nat}{x:Ct}{v:Value}[Inhabited Ct](h:l[i]?=some x)(hj:x.cs[j]?=some v):i*4+j<l.length*4∧(flatK Ct.cs 4 l.toArray)[i*4+j]! = v:=by
 obtain⟨hi,rfl⟩:=Zb.1 h;have hb:j<4:=by have:=(Zb.1 hj).1;simpa[Ct.cs] using this
 have ha:i*4+j<l.length*4:=by omega
 refine⟨ha,?_⟩;rw[Go.Sort.get_flatK _ _ _ _ (by simpa using ha)];rw[show (i*4+j) / 4=i by omega,show (i*4+j) % 4=j by omega];have e1:l.toArray[i]! = l[i]:=by simp[hi]
 rw[e1]
 have:=(Zb.1 hj)
 obtain⟨h1,h2⟩:=this;simp[h1,h2]
theorem hI_ {t:Nat}(ht:t<l.length*4):∃ x v,l[t / 4]?=some x∧x.cs[t % 4]?=some v:=by
 have h1:t / 4<l.length:=by omega
 have h2:t % 4<(l[t / 4]).cs.length:=by simp[Ct.cs];omega
 exact⟨l[t / 4],(l[t / 4]).cs[t % 4],by simp[h1],by simp⟩
theorem ns_ [Inhabited Ct](hb:Blk w b c 80)(hsl:A5 w (some ⟨b,0,none⟩) n l):HoldsK Ct.cs 4 w b 0 l.toArray:=by
 intro t ht;have he:t<l.length*4:=by simpa using ht
 obtain⟨x,v,h1,h2⟩:=hI_ he;obtain⟨_,h3⟩:=iQ_ h1 h2;rw[show t / 4*4+t % 4=t by omega] at h3;rw[h3];obtain⟨b',o',ha,hc⟩:=hsl.cell _ _ h1;obtain⟨rfl,rfl⟩:b=b'∧0=o':=by simpa using ha
 refine⟨?_,by rw[Zq];exact hb.frozen _⟩
 have:=hc _ _ h2
 rw[Zq,show t / 4*4+t % 4=t by omega] at this;rw[Zq];exact this
theorem lS_ {B cap:Nat}{l':List Ct}[Inhabited Ct](R:Ae Ct.cs 4 80 w B (some ⟨b,0,none⟩) n cap l)(hl:l'.length=n)(m:Nat)(os:Array Obj):
  Ae Ct.cs 4 80 (sortWorldK Ct.cs 4 w b 0 m l'.toArray os) B (some ⟨b,0,none⟩) n cap l':=by
 rcases R.own with⟨h,_⟩ | ⟨b',hb,hB,h1,h2,c,hc,hs,_⟩
 ·cases h
 ·obtain rfl:b=b':=by simpa using hb
  have hk:=p1_ (enc:=Ct.cs) (k:=4) hc m 0 l'.toArray os
  have ha:∀ i x,l'[i]?=some x->∀ j v,x.cs[j]?=some v->(putCells id 0 (flatK Ct.cs 4 l'.toArray) c)[i*4+j]?=some v:=by
   intro i x hx j v hv;obtain⟨f1,f2⟩:=iQ_ hx hv
   have f3:i*4+j<c.size:=by rw[hs];have:l'.length*4<=cap*4:=by omega
                            omega
   unfold putCells;simp only[Array.getElem?_mapIdx,Array.getElem?_eq_getElem f3,Option.map_some];rw[if_pos ⟨Zg _,by simpa using f1⟩,Nat.sub_zero,f2];rfl
  refine⟨⟨hl,fun i x hx=>⟨b,0,rfl,fun j v hv=>by rw[hk.cell,Zq];exact ha i x hx j v hv⟩⟩,.inr ⟨b,rfl,hB,h1,h2,_,hk,by simp[putCells,hs],?_⟩⟩;apply List.ext_getElem?;intro t;by_cases ht:t<n*4
  ·rw[Ya ht];obtain⟨x,v,g1,g2⟩:=hI_ (l:=l') (t:=t) (by rw[hl];exact ht);have e1:=ha _ _ g1 _ _ g2;have e2:=i5_ aS_ l' g1 g2;rw[show t / 4*4+t % 4=t by omega] at e1 e2;rw[e2,<-e1];simp
  ·rw[List.getElem?_eq_none (by simp;omega),List.getElem?_eq_none (by rw[aY_ aS_,hl];omega)]
end
section
open Go Go.RowKit Go.BigFrame Tryz
open Go.Sort (SWO PermIn SortedIn grow HoldsK)
open Go.Proofs (sortWorldK)
def Ea (l:List Ct):Prop:=l.Pairwise (fun x y=>Bc y.o x.o=false)
theorem nt_ {l:List Ct}[Inhabited Ct]{d':Array Ct}(hp:PermIn 0 l.toArray.size l.toArray d')(hs:SortedIn (Go.Proofs.ltOf (fun x y:Ct=>CZ x.o y.o)) 0 l.toArray.size d'):d'.toList.Perm l∧Ea d'.toList:=by
 obtain⟨hc,_,ha⟩:=hp;have e1:d'.extract 0 l.toArray.size=d':=by rw[<-hc];exact Array.extract_size
 rw[e1,Array.extract_size] at ha;refine⟨ha,?_⟩;unfold Ea;rw[Yb];intro i j hi hj hf;have hb:j<d'.size:=by simpa using hj
 have:=hs i j (Zg _) hf (by rw[<-hc];exact hb)
 have e:∀ x y:Ct,Go.Proofs.ltOf (fun x y:Ct=>CZ x.o y.o) x y=Bc x.o y.o:=fun x y=>i6_ x.o y.o;rw[e] at this;have he:i<d'.size:=by omega
 simpa[he,hb] using this
theorem lT_ (b n:Nat)(w:World)[Inhabited Ct]:Go.Proofs.CmpLays prog 183 #[] Ct.cs 4 (fun x y=>CZ x.o y.o) b 0 n w:=
 fun _ _ _ _ x y=>lR_ x y _
theorem Il (w:World):(isAgg 80).run prog w=.ok true w:=Tryz.isAgg80 w
theorem If (w:World):(Go.sizeOf 80).run prog w=.ok 4 w:=Tryz.sizeOf80 w
theorem ot_ (B:Nat)(a:Option Addr)(n cap:Nat)(l:List Ct)(w:World)(R:Ae Ct.cs 4 80 w B a n cap l)(hn:n<=4194304):
  Calls prog 182 #[.slice a n cap,.func (.func 183) #[] #[]] w fun e w'=>e=.returned (.tuple #[])∧∃ l',l'.Perm l∧Ea l'∧Ae Ct.cs 4 80 w' B a n cap l'∧w.grownBy w' (HT a):=by
 by_cases h0:n=0
 ·subst h0;have hl:l=[]:=Zt R.sl.len;subst hl;refine (Go.Proofs.AnyF.slices_SortFunc_none (P:=prog) (ρ:=iP_) HD a cap _ w).mono ?_;rintro e w' ⟨rfl,rfl⟩;exact⟨rfl,[],List.Perm.refl _,YT,R,Yh _ _⟩
 ·rcases R.own with⟨_,h,_⟩ | ⟨b,rfl,hB,h1,h2,c,hc,_⟩
  ·exact absurd h h0
  ·have he:Inhabited Ct:=⟨⟨⟨0,0,.empty⟩,0⟩⟩;have ha:=R.sl.len;have eg:∀ args w,(callFunc 183 args).run prog w=.ok (.enter 183 args) w:=enters_of func183 (by kernel_rfl) rfl;have hb:=Go.Proofs.AnyQ.slices_SortFunc HD 4 Il If Ct.cs (fun _=>rfl) (fun x v hv=>a9_ [x] v (by simpa using hv)) (fun x y=>CZ x.o y.o) or_ 183 #[] b 0 cap l.toArray w eg (lT_ b l.toArray.size w) (ns_ hc R.sl) hc.lt (by simp;omega);rw[show l.toArray.size=n by simpa using ha] at hb;refine Calls.mono hb ?_;rintro e w' ⟨rfl,d',m,os,hp,hs,rfl⟩;rw[<-show l.toArray.size=n by simpa using ha] at hp hs;obtain⟨h3,h4⟩:=nt_ hp hs;refine⟨rfl,d'.toList,h3,h4,?_,os_ _ _ _ _ _ _ _ _⟩
   have:=lS_ (l':=d'.toList) R (by rw[h3.length_eq];exact ha) m os
   simpa using this
end
section
open Go Go.RowKit Go.BigFrame Tryz
open Go.Maps (Keyed)
variable{out:List Ct}{d:Nat}{o:Ow}{v x:Value}
theorem iR_ {L:List Lit}(h:prog.keyLits d.succ 2 [x]=some L):∃ n,x=.int .i64 n∧(Lit.int .i64 n).wf=true:=by
 unfold Program.keyLits at h;simp only[underlying2] at h
 cases x<;>simp at h
 obtain⟨⟨rfl,h2⟩,_⟩:=h;exact⟨_,rfl,h2⟩
theorem nu_ {L:List Lit}(h:prog.keyLits d.succ 9 [x]=some L):∃ s,x=.string s∧s.size<=maxLen:=by
 unfold Program.keyLits at h;simp only[underlying9] at h
 cases x<;>simp at h
 exact⟨_,rfl,h.1⟩
theorem kD_ {kl:Lit}(h:keyOf prog 78 v=some kl):∃ o,v=vO o∧WfO o:=by
 obtain⟨xs,L,rfl,h1,_⟩:=keyOf_top HG h;clear h;have hc:prog.cellsOf 78=3:=by kernel_rfl
 have ha:prog.cellsOf 2=1:=by kernel_rfl
 have hb:prog.cellsOf 9=1:=by kernel_rfl
 obtain⟨d,hd⟩:=Nat.exists_eq_succ_of_ne_zero (Nat.ne_of_gt (Nat.zero_lt_of_lt HU));rw[hd] at h1;clear hd;unfold Program.keyLits at h1;simp only[underlying78,hc] at h1;split at h1
 ·rename_i hl;obtain⟨hl,_⟩:=hl;obtain⟨xs⟩:=xs;simp only at hl h1
  match xs,hl with
  |[x0,x1,x2],_=>
   simp[ha,hb,Option.bind_eq_some_iff] at h1;obtain⟨L0,e0,L1,⟨M1,e1,M2,⟨M3,e2,_⟩,_⟩,_⟩:=h1;obtain⟨n0,rfl,w0⟩:=iR_ e0;obtain⟨n1,rfl,w1⟩:=iR_ e1;obtain⟨s,rfl,w2⟩:=nu_ e2;exact⟨⟨n0,n1,s⟩,rfl,⟨w0,w1,w2⟩⟩
 ·cases h1
structure Col (f:Ow->Int)(left:Lit->Bool)(out:List Ct):Prop where
 wf:∀ c∈out,WfO c.o∧left (klO c.o)=false
 nz:Bj out
 ne:out.Pairwise (fun x y=>x.o≠y.o)
 sum:∀ o,WfO o->left (klO o)=false->tot o out=f o
theorem bB_:∀ {l:List Ct},(∀ c∈l,c.o≠o)->tot o l=0
 |[],_=>rfl
 |c::r,h=>by
  have h1:Bz c.o o=false:=by
   cases e:Bz c.o o
   ·rfl
   ·exact absurd (aM_.1 e) (h c (by simp))
  simp only[tot,h1,Zj,if_false];rw[bB_ (fun x hx=>h x (by simp[hx]))];rfl
theorem pF_ (o:Ow):WideAt.IsKeyLit (klO o):=trivial
theorem F3 {left:Lit->Bool}{o':Ow}(h:WfO o)(h':WfO o'):(left (klO o')&&!(klO o').sameKey (klO o))=(left (klO o')&&!Bz o o'):=by
 by_cases e:o=o'
 ·subst e;rw[WideAt.sameKey_self (pF_ o),a3_]
 ·have h1:(klO o').sameKey (klO o)=false:=by
   cases hs:(klO o').sameKey (klO o)
   ·rfl
   ·exact absurd (mO_ h h' (WideAt.sameKey_eq hs).symm) e
  have h2:Bz o o'=false:=by
   cases hs:Bz o o'
   ·rfl
   ·exact absurd (aM_.1 hs) e
  rw[h1,h2]
theorem Col.skip {f:Ow->Int}{left:Lit->Bool}(h:Col f left out)(ho:WfO o)(hl:left (klO o)=true)(hf:f o=0):Col f (fun z=>left z&&!z.sameKey (klO o)) out:=by
 refine⟨fun c hc=>⟨(h.wf c hc).1,by simp[(h.wf c hc).2]⟩,h.nz,h.ne,fun o' hb ha=>?_⟩;rw[F3 ho hb] at ha;by_cases e:o=o'
 ·subst e;rw[hf];exact bB_ (fun c hc e=>by have:=(h.wf c hc).2;rw[e,hl] at this;cases this)
 ·have h2:Bz o o'=false:=by
   cases hs:Bz o o'
   ·rfl
   ·exact absurd (aM_.1 hs) e
  rw[h2] at ha;exact h.sum o' hb (by simpa using ha)
theorem Col.take {f:Ow->Int}{left:Lit->Bool}(h:Col f left out)(ho:WfO o)(hl:left (klO o)=true)(hf:f o≠0):Col f (fun z=>left z&&!z.sameKey (klO o)) (out++[⟨o,f o⟩]):=by
 have ha:∀ c∈out,c.o≠o:=fun c hc e=>by have:=(h.wf c hc).2;rw[e,hl] at this;cases this
 refine⟨fun c hc=>?_,fun c hc=>?_,?_,fun o' he hb=>?_⟩
 ·rcases Zs.1 hc with hc | hc
  ·exact⟨(h.wf c hc).1,by simp[(h.wf c hc).2]⟩
  ·simp at hc;subst hc;refine⟨ho,?_⟩;rw[F3 ho ho,a3_];simp
 ·rcases Zs.1 hc with hc | hc
  ·exact h.nz c hc
  ·simp at hc;subst hc;exact hf
 ·rw[List.pairwise_append];refine⟨h.ne,by simp,fun x hx y hy=>?_⟩;simp at hy;subst hy;exact ha x hx
 ·rw[F3 ho he] at hb;rw[bn_];by_cases e:o=o'
  ·subst e;rw[bB_ ha];simp[tot,a3_]
  ·have h2:Bz o o'=false:=by
    cases hs:Bz o o'
    ·rfl
    ·exact absurd (aM_.1 hs) e
   rw[h2] at hb;rw[h.sum o' he (by simpa using hb)];simp[tot,h2]
theorem ou_ {l m:List Ct}(h:l.Perm m):∀ o,tot o l=tot o m:=fun o=>by
 induction h with
 |nil=>rfl
 |cons x _ ih=>simp only[tot,ih]
 |swap x y l=>simp only[tot];omega
 |trans _ _ ih1 ih2=>rw[ih1,ih2]
theorem pG_ {f:Ow->Int}{left:Lit->Bool}{l':List Ct}(h:Col f left out)(hl:∀ kl,left kl=false)(hp:l'.Perm out)(hs:Ea l'):Bu l'∧Bj l'∧WfC l'∧(∀ o,WfO o->tot o l'=f o):=by
 have hf:WfC l':=fun c hc=>(h.wf c (hp.mem_iff.1 hc)).1;have he:l'.Pairwise (fun x y=>x.o≠y.o):=(hp.pairwise_iff (fun {a b} (h:a.o≠b.o)=>h.symm)).2 h.ne;have ha:=ou_ hp;refine⟨?_,fun c hc=>h.nz c (hp.mem_iff.1 hc),hf,fun o ho=>by rw[ha,h.sum o ho (hl _)]⟩;unfold Bu;rw[Yb];intro i j hi hj hb;exact ct_ ((Yb.1 hs) i j hi hj hb) (fun e=>(Yb.1 he) i j hi hj hb e.symm)
theorem ov_ {y:DataW Unit×List MemPlace}(h:plainElem prog 2 v=some y):∃ c:Int,v=.int .i64 c:=by
 obtain⟨c,rfl,_⟩:=plainElem_int_inv underlying2 h;exact⟨c,rfl⟩
theorem ow_ (w:World)(o:Ow)(n:Int)(t:TypeId)(b:Nat)(hb:b=w.heap.size):A5 (w.alloc (.cells #[.int .i64 o.a,.int .i64 o.v,.string o.f,.int .i64 n] t)) (some ⟨b,0,none⟩) 1 [⟨o,n⟩]:=cl_ w ⟨o,n⟩ t b hb
theorem dG_ (b m:Nat)(f:Ow->Int)(w:World)(hT:A0 w b m f)(hm:m<=1000000):
  Calls prog 121 #[.map (some b)] w fun e w'=>(∃ a n cap l,e=.returned (.slice a n cap)∧n<=m∧Ae Ct.cs 4 80 w' w.heap.size a n cap l∧Bu l∧Bj l∧WfC l∧∀ o,WfO o->tot o l=f o)∧Below w.heap.size w w':=by
 have hS:=hT.lt;obtain⟨D,hh,hv⟩:=hT;have hW:=hh.size_le;obtain⟨i0,hi,hP,hQ,hR⟩:=info_parts Dr;go_enter func121,ntmps121
 go_wp2_with (first
  |(at_range;refine wpList_range_own _ rfl _ 166 rfl 78 2 FV underlying166 _ b m D rfl hh ?_;intro w0 hw hI hV)
  |go_in)
 go_frame
 go_loopw [3] (fun out wr=>∃ (left:Lit->Bool) (cnt:Nat) (a2:Option Addr) (n2 cap2:Nat) (lk:List Ct),out=.slice a2 n2 cap2∧n2+cnt<=m∧wr.ranges prog 78 (plainElem prog 2) b w.heap.size m D left cnt∧Ae Ct.cs 4 80 wr (w.heap.size+1) a2 n2 cap2 lk∧Col f left lk∧w.heap.size+1<=wr.heap.size∧Below w.heap.size w wr)
  (fun _ wr=>wr.rangeLeft b w.heap.size)
 case atStart=>
  refine⟨_,_,none,0,0,[],rfl,by omega,hw,aB_,⟨by simp,fun c hc=>by simp at hc,YT,fun o ho hl=>?_⟩,by omega,(Yg _ _).grown hI (Zd _) (fun j hj=>by cases hj)⟩
  have:=hv o ho
  rw[Maps.atKey_of_not_has hl] at this;injection this with e2;injection e2 with _ e3
 case round=>
  obtain⟨left,cnt,a2,n2,cap2,lk,rfl,hU,hu,R2,hC,hX,hB⟩:=hrel
  go_wp2_with (first
   |(at_next;refine wpList_next_ranges _ rfl _ rfl 78 FV (plainElem prog 2) vO (Value.int .i64) (fun key kl hk=>(by obtain⟨o,ho,_⟩:=kD_ hk;exact⟨o,ho⟩)) (fun v y h=>ov_ h) b w.heap.size m D left cnt rfl hu ?_ ?_)
   |go_in)
  ·intro he hL
   go_wp2_with fail
   refine (ot_ (w.heap.size+1) a2 n2 cap2 lk wr R2 (by omega)).mono ?_;rintro e w4 ⟨rfl,l',hp,hs,R4,hJ⟩;obtain⟨q1,q2,q3,q4⟩:=pG_ hC hL hp hs;have hF:=jc_ hB hJ (pl_ (fun ad hb=>by have:=(R2.block ad hb).1;omega));go_wp2;go_returns;exact⟨⟨a2,n2,cap2,l',rfl,by omega,R4.mono (by omega),q1,q2,q3,q4⟩,hF⟩
  ·intro o c kl y yp w1 cnt1 hf hA hy hz hn hD hr hM hH
   have hg:WfO o:=by
    obtain⟨o',e,hg⟩:=kD_ hf;obtain⟨a,v,f⟩:=o;obtain⟨a',v',f'⟩:=o';simp[vO] at e;obtain⟨rfl,rfl,rfl⟩:=e;exact hg
   obtain rfl:klO o=kl:=by
    have:=GX hg
    rw[hf] at this;exact (Zi this).symm
   have hc:f o=c:=by
    have h1:=hv o hg;obtain⟨c',e,ey,_⟩:=plainElem_int_inv underlying2 hy;obtain⟨rfl,_⟩:=Prod.mk.inj ey;obtain rfl:c=c':=by simpa using e
    rw[hz] at h1;injection h1 with e2;injection e2 with _ e3;exact e3.symm
   have R3:Ae Ct.cs 4 80 w1 (w.heap.size+1) a2 n2 cap2 lk:=R2.grown hr (fun ad hb=>by have:=(R2.block ad hb).1;omega);have hx:Below w.heap.size w w1:=hB.grown hr hB.size (fun j hj=>by cases hj;exact Zd _);have hN:w.heap.size+1<=w1.heap.size:=by omega
   clear hf hy hz hr R2 hB hM;unfold vO at hH ⊢;by_cases he:c=0
   ·have hG:(c != 0)=false:=by simp[he]
    have hq:=hC.skip hg hA (by rw[hc,he]);clear he;go_wp2;have ha:=hn.kept (Yl w1 (.cells #[.int .i64 o.a,.int .i64 o.v,.string o.f] 78) none) (by simp) (by simp);go_roundw
    case rel=>exact⟨_,cnt1,a2,n2,cap2,lk,rfl,by omega,ha,R3.alloc _,hq,by simp;omega,hx.alloc hx.size _⟩
    case measure=>rw[ha.left_eq,hu.left_eq];exact hD
   ·have hG:(c != 0)=true:=by simp[he]
    have hq:=hC.take hg hA (by rw[hc];exact he);rw[hc] at hq;clear he
    go_wp2_with (at_builtin;refine ag_ rfl (fun K hK=>ay_ _ _ 33 rfl (w.heap.size+1) 80 i0 (.agg #[.int .i64 0,.int .i64 0,.string .empty,.int .i64 0]) 40 underlying33 hi hP hQ hR rfl (by decide) aS_ a9_ a2 n2 cap2 lk rfl ((R3.alloc _).alloc _) _ 1 1 [⟨o,c⟩] rfl (ow_ _ o c _ _ (by simp)) (fun ad h=>(by cases h;rfl)) (fun h=>(by cases h)) (n2+1) rfl (by unfold maxLen;omega) (by omega) (by simp;omega) (fun a3 cap3 w3 R4 ht=>hK _ _ ?_)))
    have ha:=((hn.kept (Yl w1 (.cells #[.int .i64 o.a,.int .i64 o.v,.string o.f] 78) none) (by simp) (by simp)).kept (Yl _ (.cells #[.int .i64 o.a,.int .i64 o.v,.string o.f,.int .i64 c] 80) none) (by simp) (by simp)).kept ht (ej_ fun ad hb=>by have:=(R3.block ad hb).1;omega) (ej_ fun ad hb=>by have:=(R3.block ad hb).1;omega);have hE:Below w.heap.size w w3:=Yi (by go_grown) ht (by simp;omega) (aG_ fun ad hb=>by have:=(R3.block ad hb).1;omega);have hO:w.heap.size+1<=w3.heap.size:=Zl (by simp;omega) ht.size;go_roundw
    case rel=>exact⟨_,cnt1,a3,n2+1,cap3,_,rfl,by omega,ha,R4,hq,hO,hE⟩
    case measure=>rw[ha.left_eq,hu.left_eq];exact hD
end
section
open Go Go.RowKit Go.BigFrame Tryz
variable{l:List Ct}
theorem kE_ {o:Ow}(h:AY o=true):WfO o:=by
 simp only[AY,nameB,Zf,ZU] at h;obtain⟨⟨⟨⟨h1,h2⟩,h3⟩,h4⟩,⟨⟨_,h5⟩,_⟩⟩:=h;exact⟨Yz (by omega),Yz (by omega),by unfold maxLen;omega⟩
theorem mP_ (h:A4 l=true):WfC l∧Bj l:=by
 simp only[A4,Zf,ZU,List.all_eq_true] at h;refine⟨fun c hc=>?_,fun c hc=>?_⟩
 ·have:=h.2 c hc
  simp only[BU,Zf] at this;exact kE_ this.1.1.1
 ·have:=h.2 c hc
  simp only[BU,Zf,Bool.not_eq_true',ZV] at this;exact this.2
theorem jt_ (h:AO l=true):WfC l∧Bj l:=by
 simp only[AO,Zf,ZU] at h;refine⟨fun c hc=>?_,fun c hc=>?_⟩
 ·have:=g1_ h.2 c hc
  simp only[CM,Zf] at this;exact kE_ this.1.1
 ·have:=g1_ h.2 c hc
  simp only[CM,Zf,ZU] at this;omega
theorem hJ_:∀ {l:List Ct} {q:Option Ct},rgo q l=true->Bu l∧∀ p,q=some p->∀ x∈l,Bc p.o x.o=true
 |[],_,_=>⟨YT,by simp⟩
 |c::r,q,h=>by
  have h2:rgo (some c) r=true:=by
   cases q<;>simp only[rgo,Zf] at h<;>exact h.2
  obtain⟨i1,i2⟩:=hJ_ h2;refine⟨Ye.2 ⟨i2 c rfl,i1⟩,fun p hp x hx=>?_⟩;subst hp;simp only[rgo,Zf] at h;rcases Zn.1 hx with rfl | hx
  ·exact h.1.2
  ·exact b7_ h.1.2 (i2 c rfl x hx)
theorem kF_ (h:AO l=true):Bu l:=by
 simp only[AO,Zf,ZU] at h;exact (hJ_ h.2).1
theorem g6_ {R more:List Ct}(h1:Bu R)(h2:Bj R)(h3:WfC R)(h4:∀ o,WfO o->tot o R=tot o l+tot o more)(hl:Bu l)(zl:Bj l)(zm:Bj more)(wl:WfC l)(wm:WfC more):R=AR l more:=by
 obtain⟨s1,s2,s3⟩:=eL_ hl zl zm;refine cS_ h1 s1 h2 s2 (fun o=>?_);rw[s3];by_cases ho:WfO o
 ·exact h4 o ho
 ·rw[bB_ (o:=o) (l:=R) (fun c hc e=>ho (by rw[<-e];exact h3 c hc)),bB_ (o:=o) (l:=l) (fun c hc e=>ho (by rw[<-e];exact wl c hc)),bB_ (o:=o) (l:=more) (fun c hc e=>ho (by rw[<-e];exact wm c hc))];rfl
def F5 (B:Nat)(e:Ending)(w':World):Option (List Ct)->Prop
 |none=>e=.returned (.tuple #[.slice none 0 0,.bool false])
 |some L=>∃ a n cap,e=.returned (.tuple #[.slice a n cap,.bool true])∧n<=200∧Ae Ct.cs 4 80 w' B a n cap L
theorem fX_ (a:Option Addr)(n cap:Nat)(l:List Ct)(a':Option Addr)(n' cap':Nat)(more:List Ct)(w:World)(h:A5 w a n l)(h':A5 w a' n' more)(hstr:By l)(hstr':By more)(hn:n<=4194304)(hn':n'<=4194304):
  Calls prog 88 #[.slice a n cap,.slice a' n' cap'] w fun e w'=>F5 w.heap.size e w' (Aq l more)∧Below w.heap.size w w':=by
 have hq:Hid (l.length=n):=h.len;have hj:Hid (more.length=n'):=h'.len;have hS:=@run_makeMap prog
 cases he:AO l
 ·have hf:Aq l more=none:=by simp[Aq,he]
  rw[hf];go_enter func88,ntmps88
  go_wp2_with fail
  refine (cK_ a n cap l _ h hstr hn).mono ?_;rintro e w1 ⟨rfl,hc⟩;rw[he];go_wp2;go_returns;go_light;exact⟨rfl,hc⟩
 ·cases ha:A4 more
  ·have hf:Aq l more=none:=by simp[Aq,ha]
   rw[hf];go_enter func88,ntmps88
   go_wp2_with fail
   refine (cK_ a n cap l _ h hstr hn).mono ?_;rintro e w1 ⟨rfl,hc⟩;rw[he]
   go_wp2_with fail
   refine (gG_ a' n' cap' more _ (h'.below hc) hstr' hn').mono ?_;rintro e w2 ⟨rfl,hg⟩;rw[ha];have hp:=Aa hc hg;go_wp2;go_returns;go_light;exact⟨rfl,hp⟩
  ·obtain⟨hl,hb⟩:=a0_ he;obtain⟨hJ,hG⟩:=br_ ha;obtain⟨hy,hM⟩:=jt_ he;obtain⟨hm,hr⟩:=mP_ ha;have hs:=kF_ he;have hP:n<=200:=by rw[<-hq.out];exact hl
   have hK:n'<=200:=by rw[<-hj.out];exact hJ
   have hN:=ht_ hstr hstr';have hO:=eR_ (M:=1000) (by omega) (l:=l) (fun x hx=>by have:=hb x hx;omega);have hQ:(l.length:Int)<=200:=by omega
   have hh:∀ b3,AO (AR l more)=b3->∀ F,Aq l more=F->(F=if b3=true then some (AR l more) else none)->Calls prog 88 #[.slice a n cap,.slice a' n' cap'] w fun e w'=>F5 w.heap.size e w' F∧Below w.heap.size w w':=by
    intro b3 hk F _ hF;go_enter func88,ntmps88
    go_wp2_with fail
    refine (cK_ a n cap l _ h hstr hn).mono ?_;rintro e w1 ⟨rfl,hc⟩;rw[he]
    go_wp2_with fail
    refine (gG_ a' n' cap' more _ (h'.below hc) hstr' hn').mono ?_;rintro e w2 ⟨rfl,hg⟩;rw[ha];replace hc:=Aa hc hg;clear hg
    go_wp2_with fail
    have ht:=hc.size;have hC:=A0.made w2;have h1:A5 (w2.alloc (.map #[] 0)) a n l:=(h.below hc).alloc _;have hg:Below w.heap.size w (w2.alloc (.map #[] 0)):=hc.alloc ht _;refine (dF_ w2.heap.size 0 (fun _=>0) a n cap l _ hC h1 hy (by omega) (by omega) (fun x hx=>by have:=hb x hx;omega) (fun _=>by omega)).mono ?_;rintro e w3 ⟨rfl,hD,hH⟩;have hp:=ao_ hg hH ht;have hz:A5 w3 a' n' more:=h'.below hp
    go_wp2_with fail
    refine (dF_ w2.heap.size (0+n) _ a' n' cap' more _ hD hz hm (by omega) (by omega) (fun x hx=>by have:=hG x hx;omega) (fun o=>by have:=hO o;omega)).mono ?_;rintro e w4 ⟨rfl,hE,hI⟩;have hu:=ao_ hp hI ht
    go_wp2_with fail
    refine (dG_ w2.heap.size (0+n+n') _ w4 hE (by omega)).mono ?_;rintro e w5 ⟨⟨a2,n2,cap2,R,rfl,hT,R4,q1,q2,q3,q4⟩,hA⟩;have hB:=Aa hu hA;have hR:R=AR l more:=g6_ q1 q2 q3 (fun o ho=>by rw[q4 o ho];omega) hs hM hr hy hm;subst hR;replace R4:=R4.mono hu.size
    go_wp2_with fail
    refine (cK_ a2 n2 cap2 (AR l more) _ R4.sl hN (by omega)).mono ?_;rintro e w7 ⟨rfl,hv⟩;rw[hk];have hw:=Aa hB hv;replace R4:=R4.below hv
    cases b3
    ·rw[if_neg (by simp)] at hF;subst hF;go_wp2;go_returns;go_light;exact⟨rfl,hw⟩
    ·rw[if_pos rfl] at hF;subst hF;have hL:n2<=200:=by rw[<-R4.sl.len];exact (a0_ hk).1
     go_wp2;go_returns;go_light;exact⟨⟨a2,n2,cap2,rfl,hL,R4⟩,hw⟩
   exact hh _ rfl _ rfl (by simp[Aq,he,ha])
end
section
open Go Go.RowKit Go.BigFrame
open Go.Maps (Keyed)
variable{α:Type}{l:List Vo}{v:Vo}
theorem eS_:∀ {l m:List α},l.Nodup->(∀ x∈l,x∈m)->l.length<=m.length
 |[],_,_,_=>Zg _
 |x::r,m,hn,hs=>by
  obtain⟨s,t,rfl⟩:=List.append_of_mem (hs x (by simp));obtain⟨h1,h2⟩:=List.nodup_cons.1 hn
  have:=eS_ (l:=r) (m:=s++t) h2 (fun y hy=>by
   have h3:=hs y (by simp[hy]);have h4:y≠x:=fun e=>h1 (e▸hy);simpa[h4] using h3)
  simp at this ⊢;omega
theorem kG_:∀ {l:List Ex} {size next:Int},xgo size next l=true->(∀ x∈l,next<=x.a)∧(l.map (·.a)).Nodup
 |[],_,_,_=>⟨by simp,by simp⟩
 |x::r,size,next,h=>by
  simp only[xgo,Zf,ZU] at h;obtain⟨⟨⟨h1,h2⟩,h3⟩,h4⟩:=h;obtain⟨i1,i2⟩:=kG_ h4
  have hd:1<=x.d.size:=by
   simp only[As,Zf,ZU] at h1;exact h1.1.1
  refine⟨fun y hy=>?_,?_⟩
  ·rcases Zn.1 hy with rfl | hy
   ·exact h2
   ·have:=i1 y hy;omega
  ·rw[YD,List.nodup_cons];refine⟨fun hm=>?_,i2⟩;obtain⟨y,hy,e⟩:=ZT.1 hm
   have:=i1 y hy
   omega
theorem kH_ {size:Int}{l:List Ex}(h:Ao size l=true):(l.map (·.a)).Nodup:=by
 simp only[Ao,Zf] at h;exact (kG_ h.2).2
theorem nv_ {E:List Ex}{L:List Ct}{K:List Lit}(hn:(E.map (·.a)).Nodup)(hK:K.Nodup)(h1:∀ k∈K,∃ c∈L,k=.int .i64 c.o.a)(h2:∀ c∈L,Lit.int .i64 c.o.a∈K):
  (E.all (fun x=>L.any (fun c=>c.o.a==x.a))&&decide (K.length=E.length))=Ck E L:=by
 unfold Ck
 cases ha:E.all (fun x=>L.any (fun c=>c.o.a==x.a))
 ·rfl
 ·simp only[Zp];rw[List.all_eq_true] at ha
  have hb:∀ k∈E.map (fun x=>Lit.int .i64 x.a),k∈K:=by
   intro k hk;obtain⟨x,hx,rfl⟩:=ZT.1 hk;obtain⟨c,hc,e⟩:=ZN.1 (ha x hx);have e':c.o.a=x.a:=by simpa using e
   rw[<-e'];exact h2 c hc
  have hf:(E.map (fun x=>Lit.int .i64 x.a)).Nodup:=by
   unfold List.Nodup at hn ⊢;rw[List.pairwise_map] at hn ⊢;exact hn.imp (fun {p q} h e=>h (by injection e))
  rw[YH];simp only[ZU,List.all_eq_true,ZN,beq_iff_eq];constructor
  ·intro hg c hc;refine Classical.byContradiction fun hh=>?_
   have h3:(Lit.int .i64 c.o.a::E.map (fun x=>Lit.int .i64 x.a)).Nodup:=List.nodup_cons.2 ⟨fun hm=>hh (by
    obtain⟨x,hx,e⟩:=ZT.1 hm;injection e with _ e;exact⟨x,hx,e⟩),hf⟩
   have h4:=eS_ h3 (m:=K) (fun k hk=>by
    rcases Zn.1 hk with rfl | hk
    ·exact h2 c hc
    ·exact hb k hk)
   simp at h4;omega
  ·intro he;have a1:=eS_ hf hb
   have a2:=eS_ hK (m:=E.map (fun x=>Lit.int .i64 x.a)) (fun k hk=>by
    obtain⟨c,hc,rfl⟩:=h1 k hk;obtain⟨x,hx,e⟩:=he c hc;exact ZT.2 ⟨x,hx,by rw[e]⟩)
   simp at a1 a2;omega
def Cp (x:Int)(L:List Ct):Int:=((L.countP (fun c=>c.o.a==x):Nat):Int)
theorem fY_ (x:Int)(L:List Ct):0<=Cp x L∧Cp x L<=L.length:=by
 have:=List.countP_le_length (p:=fun c:Ct=>c.o.a==x) (l:=L)
 unfold Cp;omega
theorem nw_ (x:Int)(L:List Ct):(Cp x L==0)=!(L.any (fun c=>c.o.a==x)):=by
 rw[YH];unfold Cp;rw[beq_iff_eq,Bool.not_eq_true',List.any_eq_false];have h:=List.countP_eq_zero (p:=fun c:Ct=>c.o.a==x) (l:=L);constructor
 ·intro e;exact h.1 (by omega)
 ·intro e;have:=h.2 e;omega
theorem nx_ (x:Int)(L:List Ct)(c:Ct):Cp x (L++[c])=Cp x L+(if c.o.a=x then 1 else 0):=by
 unfold Cp;rw[List.countP_append,List.countP_cons,List.countP_nil];by_cases h:c.o.a=x<;>simp[h]
def BP (v:Vo):Lit:=.string v.nm.data.toList
def Bk (left:Lit->Bool)(l:List Vo):List Vo:=l.filter (fun v=>!left (BP v))
theorem hK_ (s t:List UInt8):(Lit.string s).sameKey (Lit.string t)=decide (s=t):=by
 by_cases h:s=t
 ·subst h;rw[WideAt.sameKey_self (show WideAt.IsKeyLit (Lit.string s) from trivial)];simp
 ·have:(Lit.string s).sameKey (Lit.string t)=false:=by
   cases e:(Lit.string s).sameKey (Lit.string t)
   ·rfl
   ·have:=WideAt.sameKey_eq e;injection this with e2;exact absurd e2 h
  rw[this];simp[h]
theorem gL_ {left:Lit->Bool}:∀ {l:List Vo},(∀ y∈l,y.nm.toList≠v.nm.toList)->Bk (fun z=>left z&&!z.sameKey (BP v)) l=Bk left l
 |[],_=>rfl
 |y::r,h=>by
  have h1:(BP y).sameKey (BP v)=false:=by
   unfold BP;rw[hK_]
   have:=h y (by simp)
   rw[Zu,Zu] at this;simpa using this
  have ih:=gL_ (left:=left) (l:=r) (fun z hz=>h z (by simp[hz]));unfold Bk at ih ⊢;rw[ZH,ZH,ih];simp only[h1,Bool.not_false,Bool.and_true]
theorem cx_ (v:Vo)(l:List Vo):A8 (v::l)=Et v++A8 l:=rfl
theorem gn_ {left:Lit->Bool}(hl:left (BP v)=true):∀ {l:List Vo},(l.map (·.nm.toList)).Nodup->v∈l->∀ o,tot o (A8 (Bk (fun z=>left z&&!z.sameKey (BP v)) l))=tot o (A8 (Bk left l))+tot o (Et v)
 |[],_,hv,_=>by simp at hv
 |x::r,hn,hv,o=>by
  rw[YD,List.nodup_cons] at hn;obtain⟨h1,h2⟩:=hn;by_cases e:x=v
  ·subst e;have h3:∀ y∈r,y.nm.toList≠x.nm.toList:=fun y hy e=>h1 (by rw[<-e];exact ZT.2 ⟨y,hy,rfl⟩);have ih:=gL_ (left:=left) h3;have h4:(BP x).sameKey (BP x)=true:=by unfold BP;rw[hK_];simp
   unfold Bk at ih ⊢;rw[ZH,ZH,ih];simp only[h4,hl,Bool.not_true,Bool.and_false,Bool.not_false,if_true,Zj,if_false,cx_];rw[bn_];omega
  ·have hb:v∈r:=by
    rcases Zn.1 hv with h | h
    ·exact absurd h.symm e
    ·exact h
   have ha:x.nm.toList≠v.nm.toList:=fun e=>h1 (by rw[e];exact ZT.2 ⟨v,hb,rfl⟩)
   have h4:(BP x).sameKey (BP v)=false:=by
    unfold BP;rw[hK_];rw[Zu,Zu] at ha;simpa using ha
   have ih:=gn_ hl h2 hb o;unfold Bk at ih ⊢;rw[ZH,ZH];simp only[h4,Bool.not_false,Bool.and_true] at ih ⊢;split
   ·rw[cx_,cx_,bn_,bn_,ih];omega
   ·exact ih
theorem hL_ {left:Lit->Bool}(h:∀ v∈l,left (BP v)=true):Bk left l=[]:=by
 unfold Bk;rw[List.filter_eq_nil_iff];intro v hv;simp[h v hv]
theorem iS_ {left:Lit->Bool}(h:∀ k,left k=false):Bk left l=l:=by
 unfold Bk;rw[YA];intro v _;simp[h]
theorem fw_ (id:Int)(nm:ByteArray)(ps:List Pt):(AT id nm ps).length<=ps.length:=by
 unfold AT;rw[List.length_map];exact Yc _ _
theorem go_:∀ {l:List It},(∀ x∈l,x.ps.length<=16)->(A3 v l).length<=16*l.length
 |[],_=>by simp[A3]
 |x::r,h=>by
  have ih:=go_ (l:=r) (fun y hy=>h y (by simp[hy]));have h1:=h x (by simp);have h2:=fw_ v.id x.nm x.ps;unfold A3 at ih ⊢;rw[ZF,ZE,Zw];omega
theorem iT_:∀ {l:List Vo},(∀ v∈l,v.its.length<=5∧∀ x∈v.its,x.ps.length<=16)->(A8 l).length<=80*l.length
 |[],_=>by simp[A8]
 |v::r,h=>by
  have ih:=iT_ (l:=r) (fun y hy=>h y (by simp[hy]));obtain⟨h1,h2⟩:=h v (by simp);have h3:=go_ (v:=v) h2;rw[cx_,ZE,Zw,show Et v=A3 v v.its from rfl];omega
theorem iU_ (id:Int)(nm:ByteArray)(ps:List Pt):∀ c∈AT id nm ps,c.n=1:=by
 intro c hc;obtain⟨p,_,rfl⟩:=ZT.1 hc;rfl
theorem ju_ (v:Vo)(l:List It):∀ c∈A3 v l,c.n=1:=by
 intro c hc;obtain⟨x,_,hx⟩:=ZL.1 hc;exact iU_ _ _ _ c hx
theorem fZ_ (l:List Vo):∀ c∈A8 l,c.n=1:=by
 intro c hc;obtain⟨v,_,hv⟩:=ZL.1 hc;exact ju_ v v.its c hv
theorem cy_ {l:List Ct}(h:∀ c∈l,c.n=1)(o:Ow):0<=tot o l∧tot o l<=l.length:=by
 induction l with
 |nil=>simp[tot]
 |cons c r ih=>
  have h1:=ih (fun x hx=>h x (by simp[hx]));have h2:=h c (by simp);simp only[tot,Zw];split<;>omega
end
section
open Go Go.RowKit Go.BigFrame Tryz
open Go.ChangeMaps Go.MapKept Go.WideElems
open Go.Maps (Keyed)
variable{x:Int}{L:List Ct}{b n:Nat}{v:Value}{w:World}
theorem ox_ {H:Type}{P:Program}{k:TypeId}{R:Value->Option (DataW H×List MemPlace)}{D:DataW H}(h:w.ownsMap P k R b n D):∃ es,D=.map es∧∀ p∈es,Maps.KeysOf P k p.1:=by
 obtain⟨es,clock,_,F,_,rfl⟩:=h;exact⟨_,rfl,fun p hp=>Maps.fit_keys F p (mem_sorted.1 hp)⟩
theorem Ek:Keyed prog 2:=Maps.int_keyed underlying2
theorem keyed9:Keyed prog 9:=Maps.string_keyed underlying9
theorem Hn (h:(Lit.int .i64 x).wf=true):keyOf prog 2 (.int .i64 x)=some (.int .i64 x):=Maps.keyOf_int_mk underlying2 h
theorem HQ {s:ByteArray}(h:s.size<=maxLen):keyOf prog 9 (.string s)=some (.string s.data.toList):=by
 simp[keyOf,underlying9,mapKey,h]
def BF (w:World)(b n:Nat)(L:List Ct):Prop:=
 ∃ D:DataW Unit,w.ownsMap prog 2 (plainElem prog 2) b n D∧(∀ x,(Lit.int .i64 x).wf=true->D.atKey (.int .i64 x) (.lit (.int .i64 0))=.lit (.int .i64 (Cp x L)))∧∀ x:Int,Maps.has D (.int .i64 x)=L.any (fun c=>c.o.a==x)
theorem BF.made (w:World):BF (w.alloc (.map #[] 0)) w.heap.size 0 []:=⟨_,World.ownsMap_made _ _ _ _,fun _ _=>rfl,fun _=>rfl⟩
theorem BF.lt (h:BF w b n L):b<w.heap.size:=by
 obtain⟨D,h,_⟩:=h;exact h.lt
theorem BF.kept {w':World}{row:Option Nat}(h:BF w b n L)(hg:w.grownBy w' row)(hne:some b≠row):BF w' b n L:=by
 obtain⟨D,h,h2⟩:=h;exact⟨D,h.kept hg hne,h2⟩
theorem BF.apart (h:BF w b n L){bb o:Nat}(hc:w.cell? ⟨bb,o,none⟩=some v):bb≠b:=by
 obtain⟨D,⟨es,clock,hb,_⟩,_⟩:=h;rintro rfl;simp[World.cell?,hb] at hc
theorem oy_ (x y:Int):(Lit.int .i64 x).sameKey (Lit.int .i64 y)=decide (x=y):=by
 by_cases h:x=y
 ·subst h;rw[WideAt.sameKey_self (show WideAt.IsKeyLit (Lit.int .i64 x) from trivial)];simp
 ·have:(Lit.int .i64 x).sameKey (Lit.int .i64 y)=false:=Maps.sameKey_ne (fun e=>h (by injection e))
  rw[this];simp[h]
theorem BF.look (h:BF w b n L)(hx:(Lit.int .i64 x).wf=true):(Instr.lookup 212 (.map (some b)) (.int .i64 x) false).run prog w=.ok (.int .i64 (Cp x L)) w:=by
 obtain⟨D,ha,hv,hh⟩:=h;obtain⟨c,hl,hb,_⟩:=ha.lookup_int Ek underlying212 underlying2 (HH w) (Hn hx);rw[hv x hx] at hb;injection hb with e2;injection e2 with _ e3;rw[e3];exact hl
theorem BF.bump (h:BF w b n L)(hn:n<maxLen)(hL:L.length<=1000000){c:Ct}(ha:(Lit.int .i64 c.o.a).wf=true):
  ∃ w3:World,(Instr.mapUpdate 212 (.map (some b)) (.int .i64 c.o.a) (.int .i64 (Cp c.o.a L+1))).run prog w=.ok () w3∧BF w3 b (n+1) (L++[c])∧w.grownBy w3 (some b):=by
 obtain⟨D,hb,hv,hh⟩:=h;have hc:=fY_ c.o.a L;obtain⟨w3,g1,g2,g3⟩:=hb.update Ek underlying212 hn (Hn ha) (plainElem_int underlying2 (show (Lit.int .i64 (Cp c.o.a L+1)).wf=true from Yz (by omega)));refine⟨w3,g1,⟨_,g2,fun x hx=>?_,fun x=>?_⟩,g3⟩
 ·rw[nx_];by_cases e:c.o.a=x
  ·subst e;rw[Maps.atKey_put_same hb.isMap (Ek.key (Hn ha)),if_pos rfl]
  ·rw[Maps.atKey_put_other (fun e2=>e (by injection e2 with _ e2;exact e2.symm)),hv x hx,if_neg e,Int.add_zero]
 ·rw[List.any_append];by_cases e:c.o.a=x
  ·subst e;rw[Maps.has_put_same hb.isMap (Ek.key (Hn ha))];simp
  ·rw[Maps.has_put_other (fun e2=>e (by injection e2 with _ e2;exact e2.symm)),hh x];simp[e]
theorem BF.len (h:BF w b n L)(ty:TypeId):∃ K:List Lit,(Builtin.len_ #[212] ty #[.map (some b)]).run prog w=.ok (.int .i64 K.length) w∧K.length<=n∧K.Nodup∧(∀ k∈K,∃ c∈L,k=.int .i64 c.o.a)∧∀ c∈L,Lit.int .i64 c.o.a∈K:=by
 obtain⟨D,ha,hv,hh⟩:=h;have h1:=ha.len underlying212 ty;have h2:=ha.size_le;obtain⟨es,rfl,hp⟩:=ha.tidy Ek;obtain⟨es',he,hk⟩:=ox_ ha;obtain rfl:es=es':=by injection he
 refine⟨es.map (·.1),by simpa[Maps.size] using h1,by simpa[Maps.size] using h2,?_,fun k hf=>?_,fun c hc=>?_⟩
 ·unfold List.Nodup;rw[List.pairwise_map];exact hp
 ·obtain⟨p,hb,rfl⟩:=ZT.1 hf;obtain⟨v,hg⟩:=hk p hb;obtain⟨x,_,e,_⟩:=Maps.keyOf_int_inv underlying2 hg;have h3:=hh x;rw[Maps.has_eq] at h3;have h4:es.any (fun q=>q.1.sameKey (.int .i64 x))=true:=ZN.2 ⟨p,hb,by rw[e,oy_];simp⟩;rw[h4] at h3;obtain⟨c,hc,e2⟩:=ZN.1 h3.symm;exact⟨c,hc,by rw[e];simp at e2;rw[e2]⟩
 ·have h3:=hh c.o.a;rw[show L.any (fun c'=>c'.o.a==c.o.a)=true from ZN.2 ⟨c,hc,by simp⟩,Maps.has_eq] at h3;obtain⟨p,hb,e⟩:=ZN.1 h3;exact ZT.2 ⟨p,hb,WideAt.sameKey_eq e⟩
def A6 (pb:Nat)(v:Value):Option (DataW Unit×List MemPlace):=
 match v with
 |.pointer (some ⟨b,o,none⟩)=>if b=pb then some (.lit (.int .i64 o),[]) else none
 |_=>none
theorem hM_ (pb o:Nat):A6 pb (.pointer (some ⟨pb,o,none⟩))=some (.lit (.int .i64 o),[]):=by simp[A6]
theorem eu_ {pb:Nat}{y:DataW Unit×List MemPlace}(h:A6 pb v=some y):∃ o:Nat,v=.pointer (some ⟨pb,o,none⟩)∧y=(.lit (.int .i64 o),[]):=by
 unfold A6 at h;split at h
 ·split at h
  ·subst_vars
   exact⟨_,rfl,(Zi h).symm⟩
  ·cases h
 ·cases h
structure DT (D:DataW Unit)(po:Nat)(l:List Vo):Prop where
 has:∀ s:List UInt8,Maps.has D (.string s)=l.any (fun v=>v.nm.data.toList==s)
 size:Maps.size D<=l.length
 full:Maps.size D=l.length↔(l.map (·.nm.toList)).Nodup
 val:(l.map (·.nm.toList)).Nodup->∀ i v,l[i]?=some v->∀ z,D.atKey (BP v) z=.lit (.int .i64 ((po+i*4:Nat):Int))
theorem DT.nil (po:Nat):DT (.map []) po []:=⟨fun _=>rfl,Zd _,by simp[Maps.size],fun _ i v h=>by simp at h⟩
theorem DT.put {D:DataW Unit}{po:Nat}{l:List Vo}(hT:Maps.Tidy D)(h:DT D po l)(v:Vo):DT (D.put (BP v) (.lit (.int .i64 ((po+l.length*4:Nat):Int)))) po (l++[v]):=by
 have hk:WideAt.IsKeyLit (BP v):=trivial
 have hc:Maps.has D (BP v)=true↔v.nm.toList∈l.map (·.nm.toList):=by
  unfold BP;rw[h.has,ZN,ZT];constructor
  ·rintro⟨u,hu,e⟩;exact⟨u,hu,by rw[Zu,Zu];simpa using e⟩
  ·rintro⟨u,hu,e⟩;rw[Zu,Zu] at e;exact⟨u,hu,by simpa using e⟩
 have hnd:((l++[v]).map (·.nm.toList)).Nodup↔(l.map (·.nm.toList)).Nodup∧¬ v.nm.toList∈l.map (·.nm.toList):=by
  rw[List.map_append,Yf];constructor
  ·rintro⟨h1,_,h3⟩;exact⟨h1,fun hm=>h3 _ hm _ (by simp) rfl⟩
  ·rintro⟨h1,h2⟩;exact⟨h1,by simp,fun a ha b hb e=>by simp at hb;subst hb;subst e;exact h2 ha⟩
 have hs:=h.size;refine⟨fun s=>?_,?_,?_,fun hn i u hu z=>?_⟩
 ·rw[List.any_append];by_cases e:v.nm.data.toList=s
  ·subst e;rw[show (Lit.string v.nm.data.toList)=BP v from rfl,Maps.has_put_same hT.isMap hk];simp
  ·rw[Maps.has_put_other (fun e2=>e (by unfold BP at e2;injection e2 with e2;exact e2.symm)),h.has];simp[e]
 ·rw[Maps.size_put hT,ZE];split<;>simp<;>omega
 ·rw[Maps.size_put hT,ZE,hnd,<-hc,<-h.full]
  cases hh:Maps.has D (BP v)<;>simp<;>omega
 ·obtain⟨h1,h2⟩:=hnd.1 hn;by_cases hi:i<l.length
  ·rw[ZD hi] at hu
   have hf:BP u≠BP v:=fun e=>h2 (by
    unfold BP at e;injection e with e;exact ZT.2 ⟨u,Zc hu,by rw[Zu,Zu,e]⟩)
   rw[Maps.atKey_put_other hf];exact h.val h1 i u hu z
  ·rw[Zv (by omega)] at hu
   have he:i=l.length:=by
    have:=(Zb.1 hu).1
    simp at this;omega
   subst he;simp at hu;subst hu;rw[Maps.atKey_put_same hT.isMap hk]
end
section
open Go Go.RowKit Go.BigFrame Tryz
open Go.Maps (Keyed)
theorem p2_ {w:World}{b n pb:Nat}{D:DataW Unit}(h:w.ownsMap prog 9 (A6 pb) b n D)(hn:n<maxLen){s:ByteArray}(hs:s.size<=maxLen)(o:Nat):
  ∃ w',(Instr.mapUpdate 131 (.map (some b)) (.string s) (.pointer (some ⟨pb,o,none⟩))).run prog w=.ok () w'∧w'.ownsMap prog 9 (A6 pb) b (n+1) (D.put (.string s.data.toList) (.lit (.int .i64 (o:Int))))∧w.grownBy w' (some b):=
 h.update keyed9 underlying131 hn (HQ hs) (hM_ pb o)
end
end Go.Proofs.YtahenegmbmnmjaaGreatDoor
