/- Counts added to a tally. Counts sorted by their owners: what told's closure says, and what slices.SortFunc leaves. An answer of counts behind slices.SortFunc: the same counts, in order, in the same row. slices.SortFunc at an answer of counts. What a tally tells: every owner whose count is not nought, in order. told of the program. Merged and Flushed of the program. -/
import Derived.Test.YtigldeccfpkdmaaGreatDoorK16
namespace Go.Proofs.YtigldeccfpkdmaaGreatDoor
open Go.RowKit Go.BigFrame
set_option maxHeartbeats 20000000
set_option maxRecDepth 100000
theorem gB_ {l:List Ct} {k:Nat} {p:Ct} (h:l[k]?=some p) (o:Ow):tot o (l.take (k+1))=tot o (l.take k)+(if owEq p.o o=true then p.n else 0):=by
 rw [List.take_add_one,h,aX_]
 simp [tot]
theorem eu_ {M:Int} (hM:0<=M):∀ {l:List Ct},(∀ x∈l,-M<=x.n∧x.n<=M)->∀ o,-(M*l.length)<=tot o l∧tot o l<=M*l.length
 |[],_,_=>by simp [tot]
 |c::r,h,o=>by
  have h1:=eu_ hM (l:=r) (fun x hx=>h x (by simp [hx])) o
  have h2:=h c (by simp)
  simp only [tot,List.length_cons]
  rw [show ((r.length+1:Nat):Int)=r.length+1 by omega,Int.mul_add,Int.mul_one]
  split<;>omega
def WfC (l:List Ct):Prop:=∀ c∈l,WfO c.o
theorem d7_ (b m:Nat) (f:Ow->Int) (a:Option Addr) (n cap:Nat) (l:List Ct) (w:World) (hT:TlAt w b m f) (h:CtsAt w a n l) (hw:WfC l) (hn:n<=1000000) (hm:m<=1000000) (hb:∀ x∈l,-1000000<=x.n∧x.n<=1000000) (hf:∀ o,-1000000000000<=f o∧f o<=1000000000000) :
  Calls Tryz.prog 168 #[.map (some b),.slice a n cap] w fun e w'=>e=.returned (.tuple #[])∧TlAt w' b (m+n) (fun o=>f o+tot o l)∧w.grownBy w' (some b):=by
 have hlen:Hid (l.length=n):=h.len
 go_enter Tryz.func168,Tryz.ntmps168
 go_wp2_with fail
 go_loopw [8] (fun ix wr=>∃ (k:Nat),k<=n∧ix=.int .i64 k∧TlAt wr b (m+k) (fun o=>f o+tot o (l.take k))∧w.grownBy wr (some b)) (fun ix _=>n-(intOf ix).toNat)
 case atStart=>exact ⟨0,Nat.zero_le _,rfl,hT.congr (fun o=>by simp [tot]),⟨rfl,rfl,rfl,Nat.le_refl _,fun _ _ _=>rfl⟩⟩
 case round=>
  obtain ⟨k,hk,rfl,T2,hG⟩:=hrel
  by_cases hlt:k<n
  ·obtain ⟨bb,oo,p,rfl,hp,c0,c1,c2,c3⟩:=az_ h hlt
   have hbb:=hT.apart c0
   have d0:=hG.cell c0 (by simpa using hbb)
   have d1:=hG.cell c1 (by simpa using hbb)
   have d2:=hG.cell c2 (by simpa using hbb)
   have d3:=hG.cell c3 (by simpa using hbb)
   have hwp:=hw p (List.mem_of_getElem? hp)
   have hbp:=hb p (List.mem_of_getElem? hp)
   have hst:=gB_ hp
   have htk:=eu_ (M:=1000000) (by omega) (l:=l.take k) (fun x hx=>hb x (List.mem_of_mem_take hx))
   clear c0 c1 c2 c3
   go_wp2_with fail
   have z0:(wr.alloc (.cells #[.int .i64 p.o.a,.int .i64 p.o.v,.string p.o.f,.int .i64 p.n] 134)).cell? ⟨wr.heap.size,0,none⟩=some (.int .i64 p.o.a):=by simp
   have z1:(wr.alloc (.cells #[.int .i64 p.o.a,.int .i64 p.o.v,.string p.o.f,.int .i64 p.n] 134)).cell? ⟨wr.heap.size,1,none⟩=some (.int .i64 p.o.v):=by simp
   have z2:(wr.alloc (.cells #[.int .i64 p.o.a,.int .i64 p.o.v,.string p.o.f,.int .i64 p.n] 134)).cell? ⟨wr.heap.size,2,none⟩=some (.string p.o.f):=by simp
   have z3:(wr.alloc (.cells #[.int .i64 p.o.a,.int .i64 p.o.v,.string p.o.f,.int .i64 p.n] 134)).cell? ⟨wr.heap.size,3,none⟩=some (.int .i64 p.n):=by simp
   have hgW:w.grownBy (wr.alloc (.cells #[.int .i64 p.o.a,.int .i64 p.o.v,.string p.o.f,.int .i64 p.n] 134)) (some b):=hG.andThen (World.grownBy_alloc wr _ (some b)) (fun j hj=>by cases hj;exact .inr rfl)
   have T3:TlAt (wr.alloc (.cells #[.int .i64 p.o.a,.int .i64 p.o.v,.string p.o.f,.int .i64 p.n] 134)) b (m+k) (fun o=>f o+tot o (l.take k)):=T2.kept (World.grownBy_alloc wr _ none) (by simp)
   generalize wr.alloc (.cells #[.int .i64 p.o.a,.int .i64 p.o.v,.string p.o.f,.int .i64 p.n] 134)=W at *
   have T4:TlAt W.drew b (m+k) (fun o=>f o+tot o (l.take k)):=T3
   obtain ⟨st,w1,e1,e2,e3,g1,e4⟩:=T4.entry (by unfold maxLen;omega) hwp
   have hlk:((l.take k).length:Int)<=n:=by simp;omega
   have hC:-3000000000000<=f p.o+tot p.o (l.take k)∧f p.o+tot p.o (l.take k)<=3000000000000:=by
    have h1:=hf p.o
    have h2:=htk p.o
    omega
   obtain ⟨w3,e5,T5,g3⟩:=e4 (f p.o+tot p.o (l.take k)+p.n) (WalkArith.wf_i64 (by omega))
   clear e4 T4 T3 T2 d0 d1 d2 d3 htk
   have hT5:TlAt w3 b (m+(k+1)) (fun o=>f o+tot o (l.take (k+1))):=T5.congr (fun o=>by
    rw [hst o]
    split
    ·rename_i hh;rw [aC_.1 hh];omega
    ·omega)
   clear T5 hst
   generalize f p.o+tot p.o (l.take k)=C at *
   obtain ⟨hC1,hC2⟩:=hC
   obtain ⟨hp1,hp2⟩:=hbp
   have hgF:w.grownBy w3 (some b):=(hgW.andThen (row':=some b) (⟨rfl,rfl,rfl,Nat.le_refl _,fun _ _ _=>rfl⟩:W.grownBy W.drew (some b)) (fun j hj=>by cases hj;exact .inr rfl)).andThen (row':=some b) g3 (fun j hj=>by cases hj;exact .inr rfl)
   go_region
   go_wp2
   go_roundw
   case rel=>exact ⟨k+1,by omega,by go_num,hT5,hgF⟩
   case measure=>simp [intOf];omega
  ·obtain rfl:k=n:=by omega
   go_wp2
   go_returns
   refine ⟨rfl,?_,hG⟩
   rw [List.take_of_length_le (by rw [hlen.out];exact Nat.le_refl _)] at T2
   exact T2
end Go.Proofs.YtigldeccfpkdmaaGreatDoor
namespace Go.Proofs.YtigldeccfpkdmaaGreatDoor
open Go.RowKit Go.BigFrame
open Go.Sort (SWO PermIn SortedIn grow alloc_eq_grow grow_grow)
set_option maxHeartbeats 20000000
set_option maxRecDepth 100000
theorem push3 {α:Type} (h:Array α) (a b c:α):((h.push a).push b).push c=h++#[a,b,c]:=Array.ext' (by simp)
theorem push2 {α:Type} (h os:Array α) (a b:α):(h.push a).push b++os=h++(#[a,b]++os):=Array.ext' (by simp)
theorem d8_ (p q:Ow) (w:World) :
  Calls Tryz.prog 208 #[.agg #[.int .i64 p.a,.int .i64 p.v,.string p.f],.agg #[.int .i64 q.a,.int .i64 q.v,.string q.f]] w fun e w'=>e=.returned (.int .i64 (ordO p q))∧∃ n os,w'=grow (w.drewN n) os:=by
 have hfin:Hid (ordO p q=or3 (cmpI p.a q.a) (cmpI p.v q.v) (cmpS p.f q.f)):=rfl
 generalize ordO p q=R at *
 obtain ⟨a,v,f⟩:=p
 obtain ⟨b,u,g⟩:=q
 simp only at hfin
 go_enter Tryz.func208,Tryz.ntmps208
 go_wp2_with fail
 have x0:((w.alloc (.cells #[.int .i64 a,.int .i64 v,.string f] 132)).alloc (.cells #[.int .i64 b,.int .i64 u,.string g] 132)).cell? ⟨w.heap.size,0,none⟩=some (.int .i64 a):=acell _ (by simp)
 have x1:((w.alloc (.cells #[.int .i64 a,.int .i64 v,.string f] 132)).alloc (.cells #[.int .i64 b,.int .i64 u,.string g] 132)).cell? ⟨w.heap.size,1,none⟩=some (.int .i64 v):=acell _ (by simp)
 have x2:((w.alloc (.cells #[.int .i64 a,.int .i64 v,.string f] 132)).alloc (.cells #[.int .i64 b,.int .i64 u,.string g] 132)).cell? ⟨w.heap.size,2,none⟩=some (.string f):=acell _ (by simp)
 have y0:((w.alloc (.cells #[.int .i64 a,.int .i64 v,.string f] 132)).alloc (.cells #[.int .i64 b,.int .i64 u,.string g] 132)).cell? ⟨w.heap.size+1,0,none⟩=some (.int .i64 b):=by simp
 have y1:((w.alloc (.cells #[.int .i64 a,.int .i64 v,.string f] 132)).alloc (.cells #[.int .i64 b,.int .i64 u,.string g] 132)).cell? ⟨w.heap.size+1,1,none⟩=some (.int .i64 u):=by simp
 have y2:((w.alloc (.cells #[.int .i64 a,.int .i64 v,.string f] 132)).alloc (.cells #[.int .i64 b,.int .i64 u,.string g] 132)).cell? ⟨w.heap.size+1,2,none⟩=some (.string g):=by simp
 have hW0:Hid (∀ o,(((w.alloc (.cells #[.int .i64 a,.int .i64 v,.string f] 132)).alloc (.cells #[.int .i64 b,.int .i64 u,.string g] 132)).alloc o).drew=grow (w.drewN 1) #[.cells #[.int .i64 a,.int .i64 v,.string f] 132,.cells #[.int .i64 b,.int .i64 u,.string g] 132,o]):=fun o=>by
  simp only [World.alloc,World.drew,World.drewN,grow]
  rw [push3]
 generalize (w.alloc (.cells #[.int .i64 a,.int .i64 v,.string f] 132)).alloc (.cells #[.int .i64 b,.int .i64 u,.string g] 132)=W0 at *
 go_region_held3 (fun u'=>u'.cell? ⟨w.heap.size,0,none⟩=some (.int .i64 a)∧u'.cell? ⟨w.heap.size,1,none⟩=some (.int .i64 v)∧u'.cell? ⟨w.heap.size,2,none⟩=some (.string f)∧u'.cell? ⟨w.heap.size+1,0,none⟩=some (.int .i64 b)∧u'.cell? ⟨w.heap.size+1,1,none⟩=some (.int .i64 u)∧u'.cell? ⟨w.heap.size+1,2,none⟩=some (.string g)) (go_keep)
  (first | (go_at_call 239;refine (cS_ _ _ _).mono ?_;rintro e w2 ⟨rfl,rfl⟩) | (go_at_call 240;refine (cT_ _ _ _).mono ?_;rintro e w2 ⟨rfl,rfl⟩) | (go_at_call 238;refine (lb_ (cmpI a b) (cmpI v u) (cmpS f g) W0.heap.size 3 _ (new3 W0 _ _ _ _).1 (new3 W0 _ _ _ _).2.1 (new3 W0 _ _ _ _).2.2).mono ?_;rintro e w2 ⟨rfl,rfl⟩))
 go_wp2
 go_returns
 go_light
 exact ⟨aA_ hfin.out.symm,1,_,hW0.out _⟩
theorem kz_ (x y:Ct) (w:World) :
  Calls Tryz.prog 207 #[.agg #[.int .i64 x.o.a,.int .i64 x.o.v,.string x.o.f,.int .i64 x.n],.agg #[.int .i64 y.o.a,.int .i64 y.o.v,.string y.o.f,.int .i64 y.n]] w fun e w'=>e=.returned (.int .i64 (ordO x.o y.o))∧∃ n os,w'=grow (w.drewN n) os:=by
 obtain ⟨⟨a,v,f⟩,n⟩:=x
 obtain ⟨⟨b,u,g⟩,m⟩:=y
 go_enter Tryz.func207,Tryz.ntmps207
 go_wp2_with fail
 refine (d8_ ⟨a,v,f⟩ ⟨b,u,g⟩ _).mono ?_
 rintro e w1 ⟨rfl,n1,os,rfl⟩
 go_wp2
 go_returns
 go_light
 refine ⟨rfl,n1,#[.cells #[.int .i64 a,.int .i64 v,.string f,.int .i64 n] 134,.cells #[.int .i64 b,.int .i64 u,.string g,.int .i64 m] 134]++os,?_⟩
 simp only [World.alloc,World.drewN,grow]
 rw [push2]
theorem nt_:SWO (Go.Proofs.ltOf (fun x y:Ct=>ordO x.o y.o)):=by
 have e:∀ x y:Ct,Go.Proofs.ltOf (fun x y:Ct=>ordO x.o y.o) x y=owLt x.o y.o:=fun x y=>hL_ x.o y.o
 refine ⟨fun x=>?_,fun x y z=>?_,fun x y z=>?_⟩
 ·rw [e];exact eR_ _
 ·rw [e,e,e];exact bs_
 ·rw [e,e,e]
  intro h1 h2
  by_cases h3:y.o=z.o
  ·rw [<-h3];exact h1
  ·by_cases h4:x.o=y.o
   ·rw [h4];exact h2
   ·exact kn_ (bs_ (b1_ h2 h3) (b1_ h1 h4))
end Go.Proofs.YtigldeccfpkdmaaGreatDoor
namespace Go.Proofs.YtigldeccfpkdmaaGreatDoor
open Go.RowKit Go.BigFrame
open Go.Sort (SWO PermIn SortedIn grow putRow mapBlock onCells putCells putRowK flatK HoldsK)
open Go.Proofs (sortWorldK)
set_option maxHeartbeats 20000000
set_option maxRecDepth 100000
theorem pa_ {α:Type} [Inhabited α] {enc:α->List Value} {k:Nat} {w:World} {b:Nat} {c:Array Value} {t:TypeId} (h:Blk w b c t) (n off:Nat) (d:Array α) (os:Array Obj) :
  Blk (sortWorldK enc k w b off n d os) b (putCells id off (flatK enc k d) c) t:=by
 have hb:=h.lt
 unfold Blk at *
 simp only [sortWorldK,putRowK,putRow,mapBlock,grow,Go.Sort.ahead]
 rw [Array.getElem?_append_left (by simpa using hb),Array.getElem?_modify,if_pos rfl,h]
 rfl
theorem nu_ {α:Type} [Inhabited α] (enc:α->List Value) (k:Nat) (w:World) (b off n:Nat) (d:Array α) (os:Array Obj) :
  w.grownBy (sortWorldK enc k w b off n d os) (some b):=by
 refine ⟨rfl,rfl,rfl,by simp [sortWorldK,putRowK,putRow,mapBlock,grow,Go.Sort.ahead],fun i hi hne=>?_⟩
 simp only [sortWorldK,putRowK,putRow,mapBlock,grow,Go.Sort.ahead]
 rw [Array.getElem?_append_left (by simpa using hi),Array.getElem?_modify,if_neg (fun e=>hne (by rw [e]))]
/-- The cells of the row, one by one. -/
theorem hk_ {l:List Ct} {i j:Nat} {x:Ct} {v:Value} [Inhabited Ct] (h:l[i]?=some x) (hj:x.cs[j]?=some v):i*4+j<l.length*4∧(flatK Ct.cs 4 l.toArray)[i*4+j]! = v:=by
 obtain ⟨hi,rfl⟩:=List.getElem?_eq_some_iff.1 h
 have hj4:j<4:=by have:=(List.getElem?_eq_some_iff.1 hj).1;simpa [Ct.cs] using this
 have hlt:i*4+j<l.length*4:=by omega
 refine ⟨hlt,?_⟩
 rw [Go.Sort.get_flatK _ _ _ _ (by simpa using hlt)]
 rw [show (i*4+j) / 4=i by omega,show (i*4+j) % 4=j by omega]
 have e1:l.toArray[i]! = l[i]:=by simp [hi]
 rw [e1]
 have:=(List.getElem?_eq_some_iff.1 hj)
 obtain ⟨h1,h2⟩:=this
 simp [h1,h2]
theorem fT_ {l:List Ct} {t:Nat} (ht:t<l.length*4):∃ x v,l[t / 4]?=some x∧x.cs[t % 4]?=some v:=by
 have h1:t / 4<l.length:=by omega
 have h2:t % 4<(l[t / 4]).cs.length:=by simp [Ct.cs];omega
 exact ⟨l[t / 4],(l[t / 4]).cs[t % 4],by simp [h1],by simp⟩
theorem ms_ {w:World} {b n:Nat} {l:List Ct} {c:Array Value} [Inhabited Ct] (hb:Blk w b c 134) (hsl:CtsAt w (some ⟨b,0,none⟩) n l):HoldsK Ct.cs 4 w b 0 l.toArray:=by
 intro t ht
 have ht':t<l.length*4:=by simpa using ht
 obtain ⟨x,v,h1,h2⟩:=fT_ ht'
 obtain ⟨_,h3⟩:=hk_ h1 h2
 rw [show t / 4*4+t % 4=t by omega] at h3
 rw [h3]
 obtain ⟨b',o',ha,hc⟩:=hsl.cell _ _ h1
 obtain ⟨rfl,rfl⟩:b=b'∧0=o':=by simpa using ha
 refine ⟨?_,by rw [Nat.zero_add];exact hb.frozen _⟩
 have:=hc _ _ h2
 rw [Nat.zero_add,show t / 4*4+t % 4=t by omega] at this
 rw [Nat.zero_add];exact this
theorem kA_ {w:World} {B b n cap:Nat} {l l':List Ct} [Inhabited Ct] (R:ResAt Ct.cs 4 134 w B (some ⟨b,0,none⟩) n cap l) (hl:l'.length=n) (m:Nat) (os:Array Obj) :
  ResAt Ct.cs 4 134 (sortWorldK Ct.cs 4 w b 0 m l'.toArray os) B (some ⟨b,0,none⟩) n cap l':=by
 rcases R.own with ⟨h,_⟩ | ⟨b',hb',hB,h1,h2,c,hc,hs,_⟩
 ·cases h
 ·obtain rfl:b=b':=by simpa using hb'
  have hk:=pa_ (enc:=Ct.cs) (k:=4) hc m 0 l'.toArray os
  have hcell:∀ i x,l'[i]?=some x->∀ j v,x.cs[j]?=some v->(putCells id 0 (flatK Ct.cs 4 l'.toArray) c)[i*4+j]?=some v:=by
   intro i x hx j v hv
   obtain ⟨f1,f2⟩:=hk_ hx hv
   have f3:i*4+j<c.size:=by rw [hs];have:l'.length*4<=cap*4:=by omega
                            omega
   unfold putCells
   simp only [Array.getElem?_mapIdx,Array.getElem?_eq_getElem f3,Option.map_some]
   rw [if_pos ⟨Nat.zero_le _,by simpa using f1⟩,Nat.sub_zero,f2];rfl
  refine ⟨⟨hl,fun i x hx=>⟨b,0,rfl,fun j v hv=>by rw [hk.cell,Nat.zero_add];exact hcell i x hx j v hv⟩⟩,.inr ⟨b,rfl,hB,h1,h2,_,hk,by simp [putCells,hs],?_⟩⟩
  apply List.ext_getElem?
  intro t
  by_cases ht:t<n*4
  ·rw [List.getElem?_take_of_lt ht]
   obtain ⟨x,v,g1,g2⟩:=fT_ (l:=l') (t:=t) (by rw [hl];exact ht)
   have e1:=hcell _ _ g1 _ _ g2
   have e2:=hN_ a7_ l' g1 g2
   rw [show t / 4*4+t % 4=t by omega] at e1 e2
   rw [e2,<-e1];simp
  ·rw [List.getElem?_eq_none (by simp;omega),List.getElem?_eq_none (by rw [aT_ a7_,hl];omega)]
end Go.Proofs.YtigldeccfpkdmaaGreatDoor
namespace Go.Proofs.YtigldeccfpkdmaaGreatDoor
open Go.RowKit Go.BigFrame
open Go.Sort (SWO PermIn SortedIn grow HoldsK)
open Go.Proofs (sortWorldK)
set_option maxHeartbeats 20000000
set_option maxRecDepth 100000
/-- What is behind the sort: the same counts, none behind one that is behind it. -/
def SortedC (l:List Ct):Prop:=l.Pairwise (fun x y=>owLt y.o x.o=false)
theorem mt_ {l:List Ct} [Inhabited Ct] {d':Array Ct} (hp:PermIn 0 l.toArray.size l.toArray d') (hs:SortedIn (Go.Proofs.ltOf (fun x y:Ct=>ordO x.o y.o)) 0 l.toArray.size d'):d'.toList.Perm l∧SortedC d'.toList:=by
 obtain ⟨hsz,_,hperm⟩:=hp
 have e1:d'.extract 0 l.toArray.size=d':=by rw [<-hsz];exact Array.extract_size
 rw [e1,Array.extract_size] at hperm
 refine ⟨hperm,?_⟩
 unfold SortedC
 rw [List.pairwise_iff_getElem]
 intro i j hi hj hij
 have hj':j<d'.size:=by simpa using hj
 have:=hs i j (Nat.zero_le _) hij (by rw [<-hsz];exact hj')
 have e:∀ x y:Ct,Go.Proofs.ltOf (fun x y:Ct=>ordO x.o y.o) x y=owLt x.o y.o:=fun x y=>hL_ x.o y.o
 rw [e] at this
 have hi':i<d'.size:=by omega
 simpa [hi',hj'] using this
theorem kB_ (b n:Nat) (w:World) [Inhabited Ct]:Go.Proofs.CmpLays Tryz.prog 207 #[] Ct.cs 4 (fun x y=>ordO x.o y.o) b 0 n w:=
 fun _ _ _ _ x y=>kz_ x y _
theorem aggC (w:World):(isAgg 134).run Tryz.prog w=.ok true w:=Tryz.isAgg134 w
theorem sizeC (w:World):(Go.sizeOf 134).run Tryz.prog w=.ok 4 w:=Tryz.sizeOf134 w
theorem nv_ (B:Nat) (a:Option Addr) (n cap:Nat) (l:List Ct) (w:World) (R:ResAt Ct.cs 4 134 w B a n cap l) (hn:n<=4194304) :
  Calls Tryz.prog 206 #[.slice a n cap,.func (.func 207) #[] #[]] w fun e w'=>e=.returned (.tuple #[])∧∃ l',l'.Perm l∧SortedC l'∧ResAt Ct.cs 4 134 w' B a n cap l'∧w.grownBy w' (rowB a):=by
 by_cases h0:n=0
 ·subst h0
  have hl:l=[]:=List.eq_nil_of_length_eq_zero R.sl.len
  subst hl
  refine (Go.Proofs.AnyF.slices_SortFunc_none (P:=Tryz.prog) (ρ:=hj_) sortC a cap _ w).mono ?_
  rintro e w' ⟨rfl,rfl⟩
  exact ⟨rfl,[],List.Perm.refl _,List.Pairwise.nil,R,World.grownBy.refl _ _⟩
 ·rcases R.own with ⟨_,h,_⟩ | ⟨b,rfl,hB,h1,h2,c,hc,_⟩
  ·exact absurd h h0
  ·have hinh:Inhabited Ct:=⟨⟨⟨0,0,.empty⟩,0⟩⟩
   have hlen:=R.sl.len
   have eg:∀ args w,(callFunc 207 args).run Tryz.prog w=.ok (.enter 207 args) w:=enters_of Tryz.func207 (by kernel_rfl) rfl
   have hcon:=Go.Proofs.AnyQ.slices_SortFunc sortC 4 aggC sizeC Ct.cs (fun _=>rfl) (fun x v hv=>bf_ [x] v (by simpa using hv)) (fun x y=>ordO x.o y.o) nt_ 207 #[] b 0 cap l.toArray w eg (kB_ b l.toArray.size w) (ms_ hc R.sl) hc.lt (by simp;omega)
   rw [show l.toArray.size=n by simpa using hlen] at hcon
   refine Calls.mono hcon ?_
   rintro e w' ⟨rfl,d',m,os,hp,hs,rfl⟩
   rw [<-show l.toArray.size=n by simpa using hlen] at hp hs
   obtain ⟨h3,h4⟩:=mt_ hp hs
   refine ⟨rfl,d'.toList,h3,h4,?_,nu_ _ _ _ _ _ _ _ _⟩
   have:=kA_ (l':=d'.toList) R (by rw [h3.length_eq];exact hlen) m os
   simpa using this
end Go.Proofs.YtigldeccfpkdmaaGreatDoor
namespace Go.Proofs.YtigldeccfpkdmaaGreatDoor
open Go.RowKit Go.BigFrame
open Go.Maps (Keyed)
set_option maxHeartbeats 20000000
set_option maxRecDepth 100000
theorem hl_ {d:Nat} {x:Value} {L:List Lit} (h:Tryz.prog.keyLits d.succ 2 [x]=some L):∃ n,x=.int .i64 n∧(Lit.int .i64 n).wf=true:=by
 unfold Program.keyLits at h
 simp only [Tryz.underlying2] at h
 cases x<;>simp at h
 obtain ⟨⟨rfl,h2⟩,_⟩:=h
 exact ⟨_,rfl,h2⟩
theorem mu_ {d:Nat} {x:Value} {L:List Lit} (h:Tryz.prog.keyLits d.succ 9 [x]=some L):∃ s,x=.string s∧s.size<=maxLen:=by
 unfold Program.keyLits at h
 simp only [Tryz.underlying9] at h
 cases x<;>simp at h
 exact ⟨_,rfl,h.1⟩
theorem jp_ {v:Value} {kl:Lit} (h:keyOf Tryz.prog 132 v=some kl):∃ o,v=vO o∧WfO o:=by
 obtain ⟨xs,L,rfl,h1,_⟩:=keyOf_top wideO h
 clear h
 have hc:Tryz.prog.cellsOf 132=3:=by kernel_rfl
 have hc2:Tryz.prog.cellsOf 2=1:=by kernel_rfl
 have hc9:Tryz.prog.cellsOf 9=1:=by kernel_rfl
 obtain ⟨d,hd⟩:=Nat.exists_eq_succ_of_ne_zero (Nat.ne_of_gt (Nat.zero_lt_of_lt rowO))
 rw [hd] at h1
 clear hd
 unfold Program.keyLits at h1
 simp only [Tryz.underlying132,hc] at h1
 split at h1
 ·rename_i hl
  obtain ⟨hl,_⟩:=hl
  obtain ⟨xs⟩:=xs
  simp only at hl h1
  match xs,hl with
  |[x0,x1,x2],_=>
   simp [hc2,hc9,Option.bind_eq_some_iff] at h1
   obtain ⟨L0,e0,L1,⟨M1,e1,M2,⟨M3,e2,_⟩,_⟩,_⟩:=h1
   obtain ⟨n0,rfl,w0⟩:=hl_ e0
   obtain ⟨n1,rfl,w1⟩:=hl_ e1
   obtain ⟨s,rfl,w2⟩:=mu_ e2
   exact ⟨⟨n0,n1,s⟩,rfl,⟨w0,w1,w2⟩⟩
 ·cases h1
/-- What has been collected of a tally that is gone through: left says which owners are still to come. -/
structure Col (f:Ow->Int) (left:Lit->Bool) (out:List Ct):Prop where
 wf:∀ c∈out,WfO c.o∧left (klO c.o)=false
 nz:NoZero out
 ne:out.Pairwise (fun x y=>x.o≠y.o)
 sum:∀ o,WfO o->left (klO o)=false->tot o out=f o
theorem bw_ {o:Ow}:∀ {l:List Ct},(∀ c∈l,c.o≠o)->tot o l=0
 |[],_=>rfl
 |c::r,h=>by
  have h1:owEq c.o o=false:=by
   cases e:owEq c.o o
   ·rfl
   ·exact absurd (aC_.1 e) (h c (by simp))
  simp only [tot,h1,Bool.false_eq_true,if_false]
  rw [bw_ (fun x hx=>h x (by simp [hx]))];rfl
theorem oy_ (o:Ow):WideAt.IsKeyLit (klO o):=trivial
theorem strike {left:Lit->Bool} {o o':Ow} (h:WfO o) (h':WfO o'):(left (klO o')&&!(klO o').sameKey (klO o))=(left (klO o')&&!owEq o o'):=by
 by_cases e:o=o'
 ·subst e;rw [WideAt.sameKey_self (oy_ o),aU_]
 ·have h1:(klO o').sameKey (klO o)=false:=by
   cases hs:(klO o').sameKey (klO o)
   ·rfl
   ·exact absurd (lu_ h h' (WideAt.sameKey_eq hs).symm) e
  have h2:owEq o o'=false:=by
   cases hs:owEq o o'
   ·rfl
   ·exact absurd (aC_.1 hs) e
  rw [h1,h2]
theorem Col.skip {f:Ow->Int} {left:Lit->Bool} {out:List Ct} (h:Col f left out) {o:Ow} (ho:WfO o) (hl:left (klO o)=true) (hf:f o=0):Col f (fun z=>left z&&!z.sameKey (klO o)) out:=by
 refine ⟨fun c hc=>⟨(h.wf c hc).1,by simp [(h.wf c hc).2]⟩,h.nz,h.ne,fun o' ho' hl'=>?_⟩
 rw [strike ho ho'] at hl'
 by_cases e:o=o'
 ·subst e
  rw [hf]
  exact bw_ (fun c hc e=>by have:=(h.wf c hc).2;rw [e,hl] at this;cases this)
 ·have h2:owEq o o'=false:=by
   cases hs:owEq o o'
   ·rfl
   ·exact absurd (aC_.1 hs) e
  rw [h2] at hl'
  exact h.sum o' ho' (by simpa using hl')
theorem Col.take {f:Ow->Int} {left:Lit->Bool} {out:List Ct} (h:Col f left out) {o:Ow} (ho:WfO o) (hl:left (klO o)=true) (hf:f o≠0):Col f (fun z=>left z&&!z.sameKey (klO o)) (out++[⟨o,f o⟩]):=by
 have habs:∀ c∈out,c.o≠o:=fun c hc e=>by have:=(h.wf c hc).2;rw [e,hl] at this;cases this
 refine ⟨fun c hc=>?_,fun c hc=>?_,?_,fun o' ho' hl'=>?_⟩
 ·rcases List.mem_append.1 hc with hc | hc
  ·exact ⟨(h.wf c hc).1,by simp [(h.wf c hc).2]⟩
  ·simp at hc;subst hc
   refine ⟨ho,?_⟩
   rw [strike ho ho,aU_];simp
 ·rcases List.mem_append.1 hc with hc | hc
  ·exact h.nz c hc
  ·simp at hc;subst hc;exact hf
 ·rw [List.pairwise_append]
  refine ⟨h.ne,by simp,fun x hx y hy=>?_⟩
  simp at hy;subst hy;exact habs x hx
 ·rw [strike ho ho'] at hl'
  rw [aX_]
  by_cases e:o=o'
  ·subst e
   rw [bw_ habs]
   simp [tot,aU_]
  ·have h2:owEq o o'=false:=by
    cases hs:owEq o o'
    ·rfl
    ·exact absurd (aC_.1 hs) e
   rw [h2] at hl'
   rw [h.sum o' ho' (by simpa using hl')]
   simp [tot,h2]
theorem nw_ {l m:List Ct} (h:l.Perm m):∀ o,tot o l=tot o m:=fun o=>by
 induction h with
 |nil=>rfl
 |cons x _ ih=>simp only [tot,ih]
 |swap x y l=>simp only [tot];omega
 |trans _ _ ih1 ih2=>rw [ih1,ih2]
/-- All of it: with no owner left to come, sorted, it is in order, has no nought, and adds up to what the tally holds. -/
theorem oz_ {f:Ow->Int} {left:Lit->Bool} {out l':List Ct} (h:Col f left out) (hl:∀ kl,left kl=false) (hp:l'.Perm out) (hs:SortedC l'):Rising l'∧NoZero l'∧WfC l'∧(∀ o,WfO o->tot o l'=f o):=by
 have hwf:WfC l':=fun c hc=>(h.wf c (hp.mem_iff.1 hc)).1
 have hne:l'.Pairwise (fun x y=>x.o≠y.o):=(hp.pairwise_iff (fun {a b} (h:a.o≠b.o)=>h.symm)).2 h.ne
 have htot:=nw_ hp
 refine ⟨?_,fun c hc=>h.nz c (hp.mem_iff.1 hc),hwf,fun o ho=>by rw [htot,h.sum o ho (hl _)]⟩
 unfold Rising
 rw [List.pairwise_iff_getElem]
 intro i j hi hj hij
 exact b1_ ((List.pairwise_iff_getElem.1 hs) i j hi hj hij) (fun e=>(List.pairwise_iff_getElem.1 hne) i j hi hj hij e.symm)
theorem nx_ {v:Value} {y:DataW Unit×List MemPlace} (h:plainElem Tryz.prog 2 v=some y):∃ c:Int,v=.int .i64 c:=by
 obtain ⟨c,rfl,_⟩:=plainElem_int_inv Tryz.underlying2 h
 exact ⟨c,rfl⟩
theorem ny_ (w:World) (o:Ow) (n:Int) (t:TypeId) (b:Nat) (hb:b=w.heap.size):CtsAt (w.alloc (.cells #[.int .i64 o.a,.int .i64 o.v,.string o.f,.int .i64 n] t)) (some ⟨b,0,none⟩) 1 [⟨o,n⟩]:=bR_ w ⟨o,n⟩ t b hb
theorem fU_ (b m:Nat) (f:Ow->Int) (w:World) (hT:TlAt w b m f) (hm:m<=1000000) :
  Calls Tryz.prog 169 #[.map (some b)] w fun e w'=>(∃ a n cap l,e=.returned (.slice a n cap)∧n<=m∧ResAt Ct.cs 4 134 w' w.heap.size a n cap l∧Rising l∧NoZero l∧WfC l∧∀ o,WfO o->tot o l=f o)∧Below w.heap.size w w':=by
 have hbl:=hT.lt
 obtain ⟨D,hown,hv⟩:=hT
 have hsz:=hown.size_le
 obtain ⟨i0,hi,hz0,hz1,hz2⟩:=info_parts infoC
 go_enter Tryz.func169,Tryz.ntmps169
 go_wp2_with (first
  |(at_range;refine wpList_range_own _ rfl _ 226 rfl 132 2 keyedO Tryz.underlying226 _ b m D rfl hown ?_;intro w0 hrg0 hg0 hs0)
  |go_in)
 go_frame
 go_loopw [3] (fun out wr=>∃ (left:Lit->Bool) (cnt:Nat) (a2:Option Addr) (n2 cap2:Nat) (lk:List Ct),out=.slice a2 n2 cap2∧n2+cnt<=m∧wr.ranges Tryz.prog 132 (plainElem Tryz.prog 2) b w.heap.size m D left cnt∧ResAt Ct.cs 4 134 wr (w.heap.size+1) a2 n2 cap2 lk∧Col f left lk∧w.heap.size+1<=wr.heap.size∧Below w.heap.size w wr)
  (fun _ wr=>wr.rangeLeft b w.heap.size)
 case atStart=>
  refine ⟨_,_,none,0,0,[],rfl,by omega,hrg0,aL_,⟨by simp,fun c hc=>by simp at hc,List.Pairwise.nil,fun o ho hl=>?_⟩,by omega,(Below.refl _ _).grown hg0 (Nat.le_refl _) (fun j hj=>by cases hj)⟩
  have:=hv o ho
  rw [Maps.atKey_of_not_has hl] at this
  injection this with e2
  injection e2 with _ e3
 case round=>
  obtain ⟨left,cnt,a2,n2,cap2,lk,rfl,hnc,hrg,R2,hC,hws,hB⟩:=hrel
  go_wp2_with (first
   |(at_next;refine wpList_next_ranges _ rfl _ rfl 132 keyedO (plainElem Tryz.prog 2) vO (Value.int .i64) (fun key kl hk=>(by obtain ⟨o,ho,_⟩:=jp_ hk;exact ⟨o,ho⟩)) (fun v y h=>nx_ h) b w.heap.size m D left cnt rfl hrg ?_ ?_)
   |go_in)
  ·intro hc0 hl0
   go_wp2_with fail
   refine (nv_ (w.heap.size+1) a2 n2 cap2 lk wr R2 (by omega)).mono ?_
   rintro e w4 ⟨rfl,l',hp,hs,R4,hg4⟩
   obtain ⟨q1,q2,q3,q4⟩:=oz_ hC hl0 hp hs
   have hB4:=hQ_ hB hg4 (ol_ (fun ad had=>by have:=(R2.block ad had).1;omega))
   go_wp2
   go_returns
   exact ⟨⟨a2,n2,cap2,l',rfl,by omega,R4.mono (by omega),q1,q2,q3,q4⟩,hB4⟩
  ·intro o c kl y yp w1 cnt1 hkey hlk hRv hat hrg1 hlt hg1 hs1 hen
   have hwo:WfO o:=by
    obtain ⟨o',e,hwo⟩:=jp_ hkey
    obtain ⟨a,v,f⟩:=o
    obtain ⟨a',v',f'⟩:=o'
    simp [vO] at e
    obtain ⟨rfl,rfl,rfl⟩:=e
    exact hwo
   obtain rfl:klO o=kl:=by
    have:=keyO hwo
    rw [hkey] at this
    exact (Option.some.inj this).symm
   have hc:f o=c:=by
    have h1:=hv o hwo
    obtain ⟨c',e,ey,_⟩:=plainElem_int_inv Tryz.underlying2 hRv
    obtain ⟨rfl,_⟩:=Prod.mk.inj ey
    obtain rfl:c=c':=by simpa using e
    rw [hat] at h1
    injection h1 with e2
    injection e2 with _ e3
    exact e3.symm
   have R3:ResAt Ct.cs 4 134 w1 (w.heap.size+1) a2 n2 cap2 lk:=R2.grown hg1 (fun ad had=>by have:=(R2.block ad had).1;omega)
   have hB1:Below w.heap.size w w1:=hB.grown hg1 hB.size (fun j hj=>by cases hj;exact Nat.le_refl _)
   have hs1':w.heap.size+1<=w1.heap.size:=by omega
   clear hkey hRv hat hg1 R2 hB hs1
   unfold vO at hen ⊢
   by_cases hc0:c=0
   ·have hcb:(c != 0)=false:=by simp [hc0]
    have hC':=hC.skip hwo hlk (by rw [hc,hc0])
    clear hc0
    go_wp2
    have hrg2:=hrg1.kept (World.grownBy_alloc w1 (.cells #[.int .i64 o.a,.int .i64 o.v,.string o.f] 132) none) (by simp) (by simp)
    go_roundw
    case rel=>exact ⟨_,cnt1,a2,n2,cap2,lk,rfl,by omega,hrg2,R3.alloc _,hC',by simp;omega,hB1.alloc hB1.size _⟩
    case measure=>rw [hrg2.left_eq,hrg.left_eq];exact hlt
   ·have hcb:(c != 0)=true:=by simp [hc0]
    have hC':=hC.take hwo hlk (by rw [hc];exact hc0)
    rw [hc] at hC'
    clear hc0
    go_wp2_with (at_builtin;refine al_ rfl (fun K hK=>be_ _ _ 24 rfl (w.heap.size+1) 134 i0 (.agg #[.int .i64 0,.int .i64 0,.string .empty,.int .i64 0]) 40 Tryz.underlying24 hi hz0 hz1 hz2 rfl (by decide) a7_ bf_ a2 n2 cap2 lk rfl ((R3.alloc _).alloc _) _ 1 1 [⟨o,c⟩] rfl (ny_ _ o c _ _ (by simp)) (fun ad h=>(by cases h;rfl)) (fun h=>(by cases h)) (n2+1) rfl (by unfold maxLen;omega) (by omega) (by simp;omega) (fun a3 cap3 w3 R4 hg3=>hK _ _ ?_)))
    have hrg2:=((hrg1.kept (World.grownBy_alloc w1 (.cells #[.int .i64 o.a,.int .i64 o.v,.string o.f] 132) none) (by simp) (by simp)).kept (World.grownBy_alloc _ (.cells #[.int .i64 o.a,.int .i64 o.v,.string o.f,.int .i64 c] 134) none) (by simp) (by simp)).kept hg3 (m9_ fun ad had=>by have:=(R3.block ad had).1;omega) (m9_ fun ad had=>by have:=(R3.block ad had).1;omega)
    have hB3:Below w.heap.size w w3:=Below.grown (by go_grown) hg3 (by simp;omega) (aI_ fun ad had=>by have:=(R3.block ad had).1;omega)
    have hs3:w.heap.size+1<=w3.heap.size:=Nat.le_trans (by simp;omega) hg3.size
    go_roundw
    case rel=>exact ⟨_,cnt1,a3,n2+1,cap3,_,rfl,by omega,hrg2,R4,hC',hs3,hB3⟩
    case measure=>rw [hrg2.left_eq,hrg.left_eq];exact hlt
end Go.Proofs.YtigldeccfpkdmaaGreatDoor
namespace Go.Proofs.YtigldeccfpkdmaaGreatDoor
open Go.RowKit Go.BigFrame
set_option maxHeartbeats 20000000
set_option maxRecDepth 100000
theorem jq_ {o:Ow} (h:ownerOkB o=true):WfO o:=by
 simp only [ownerOkB,nameB,Bool.and_eq_true,decide_eq_true_eq] at h
 obtain ⟨⟨⟨⟨h1,h2⟩,h3⟩,h4⟩,⟨⟨_,h5⟩,_⟩⟩:=h
 exact ⟨WalkArith.wf_i64 (by omega),WalkArith.wf_i64 (by omega),by unfold maxLen;omega⟩
theorem lv_ {l:List Ct} (h:lateOkB l=true):WfC l∧NoZero l:=by
 simp only [lateOkB,Bool.and_eq_true,decide_eq_true_eq,List.all_eq_true] at h
 refine ⟨fun c hc=>?_,fun c hc=>?_⟩
 ·have:=h.2 c hc
  simp only [lateB,Bool.and_eq_true] at this
  exact jq_ this.1.1.1
 ·have:=h.2 c hc
  simp only [lateB,Bool.and_eq_true,Bool.not_eq_true',beq_eq_false_iff_ne] at this
  exact this.2
theorem lw_ {l:List Ct} (h:refsOkB l=true):WfC l∧NoZero l:=by
 simp only [refsOkB,Bool.and_eq_true,decide_eq_true_eq] at h
 refine ⟨fun c hc=>?_,fun c hc=>?_⟩
 ·have:=dl_ h.2 c hc
  simp only [refB,Bool.and_eq_true] at this
  exact jq_ this.1.1
 ·have:=dl_ h.2 c hc
  simp only [refB,Bool.and_eq_true,decide_eq_true_eq] at this
  omega
theorem fV_:∀ {l:List Ct} {q:Option Ct},rgo q l=true->Rising l∧∀ p,q=some p->∀ x∈l,owLt p.o x.o=true
 |[],_,_=>⟨List.Pairwise.nil,by simp⟩
 |c::r,q,h=>by
  have h2:rgo (some c) r=true:=by
   cases q<;>simp only [rgo,Bool.and_eq_true] at h<;>exact h.2
  obtain ⟨i1,i2⟩:=fV_ h2
  refine ⟨List.pairwise_cons.2 ⟨i2 c rfl,i1⟩,fun p hp x hx=>?_⟩
  subst hp
  simp only [rgo,Bool.and_eq_true] at h
  rcases List.mem_cons.1 hx with rfl | hx
  ·exact h.1.2
  ·exact bs_ h.1.2 (i2 c rfl x hx)
theorem jr_ {l:List Ct} (h:refsOkB l=true):Rising l:=by
 simp only [refsOkB,Bool.and_eq_true,decide_eq_true_eq] at h
 exact (fV_ h.2).1
theorem lx_ {R l more:List Ct} (h1:Rising R) (h2:NoZero R) (h3:WfC R) (h4:∀ o,WfO o->tot o R=tot o l+tot o more) (hl:Rising l) (zl:NoZero l) (zm:NoZero more) (wl:WfC l) (wm:WfC more):R=sumC l more:=by
 obtain ⟨s1,s2,s3⟩:=g6_ hl zl zm
 refine dB_ h1 s1 h2 s2 (fun o=>?_)
 rw [s3]
 by_cases ho:WfO o
 ·exact h4 o ho
 ·rw [bw_ (o:=o) (l:=R) (fun c hc e=>ho (by rw [<-e];exact h3 c hc)),bw_ (o:=o) (l:=l) (fun c hc e=>ho (by rw [<-e];exact wl c hc)),bw_ (o:=o) (l:=more) (fun c hc e=>ho (by rw [<-e];exact wm c hc))];rfl
def RetCtsN (B:Nat) (e:Ending) (w':World):Option (List Ct)->Prop
 |none=>e=.returned (.tuple #[.slice none 0 0,.bool false])
 |some L=>∃ a n cap,e=.returned (.tuple #[.slice a n cap,.bool true])∧n<=200∧ResAt Ct.cs 4 134 w' B a n cap L
theorem h3_ (a:Option Addr) (n cap:Nat) (l:List Ct) (a':Option Addr) (n' cap':Nat) (more:List Ct) (w:World) (h:CtsAt w a n l) (h':CtsAt w a' n' more) (hstr:StrC l) (hstr':StrC more) (hn:n<=4194304) (hn':n'<=4194304) :
  Calls Tryz.prog 102 #[.slice a n cap,.slice a' n' cap'] w fun e w'=>RetCtsN w.heap.size e w' (flushedO l more)∧Below w.heap.size w w':=by
 have hlen:Hid (l.length=n):=h.len
 have hlen':Hid (more.length=n'):=h'.len
 have hmm:=@run_makeMap Tryz.prog
 cases hok:refsOkB l
 ·have hf:flushedO l more=none:=by simp [flushedO,hok]
  rw [hf]
  go_enter Tryz.func102,Tryz.ntmps102
  go_wp2_with fail
  refine (cf_ a n cap l _ h hstr hn).mono ?_
  rintro e w1 ⟨rfl,hB1⟩
  rw [hok]
  go_wp2
  go_returns
  go_light
  exact ⟨rfl,hB1⟩
 ·cases hok':lateOkB more
  ·have hf:flushedO l more=none:=by simp [flushedO,hok']
   rw [hf]
   go_enter Tryz.func102,Tryz.ntmps102
   go_wp2_with fail
   refine (cf_ a n cap l _ h hstr hn).mono ?_
   rintro e w1 ⟨rfl,hB1⟩
   rw [hok]
   go_wp2_with fail
   refine (eU_ a' n' cap' more _ (h'.below hB1) hstr' hn').mono ?_
   rintro e w2 ⟨rfl,hB2⟩
   rw [hok']
   have hB3:=chain hB1 hB2
   go_wp2
   go_returns
   go_light
   exact ⟨rfl,hB3⟩
  ·obtain ⟨hl,hb⟩:=b4_ hok
   obtain ⟨hl2,hb2⟩:=dL_ hok'
   obtain ⟨hwf,hnz⟩:=lw_ hok
   obtain ⟨hwf',hnz'⟩:=lv_ hok'
   have hris:=jr_ hok
   have hl':n<=200:=by rw [<-hlen.out];exact hl
   have hl2':n'<=200:=by rw [<-hlen'.out];exact hl2
   have hss:=fI_ hstr hstr'
   have htb:=eu_ (M:=1000) (by omega) (l:=l) (fun x hx=>by have:=hb x hx;omega)
   have hll:(l.length:Int)<=200:=by omega
   have hbody:∀ b3,refsOkB (sumC l more)=b3->∀ F,flushedO l more=F->(F=if b3=true then some (sumC l more) else none)->Calls Tryz.prog 102 #[.slice a n cap,.slice a' n' cap'] w fun e w'=>RetCtsN w.heap.size e w' F∧Below w.heap.size w w':=by
    intro b3 hok3 F _ hF
    go_enter Tryz.func102,Tryz.ntmps102
    go_wp2_with fail
    refine (cf_ a n cap l _ h hstr hn).mono ?_
    rintro e w1 ⟨rfl,hB1⟩
    rw [hok]
    go_wp2_with fail
    refine (eU_ a' n' cap' more _ (h'.below hB1) hstr' hn').mono ?_
    rintro e w2 ⟨rfl,hB2⟩
    rw [hok']
    replace hB1:=chain hB1 hB2
    clear hB2
    go_wp2_with fail
    have hs1:=hB1.size
    have hT0:=TlAt.made w2
    have h1:CtsAt (w2.alloc (.map #[] 0)) a n l:=(h.below hB1).alloc _
    have hB2:Below w.heap.size w (w2.alloc (.map #[] 0)):=hB1.alloc hs1 _
    refine (d7_ w2.heap.size 0 (fun _=>0) a n cap l _ hT0 h1 hwf (by omega) (by omega) (fun x hx=>by have:=hb x hx;omega) (fun _=>by omega)).mono ?_
    rintro e w3 ⟨rfl,hT3,hg3⟩
    have hB3:=am_ hB2 hg3 hs1
    have h3':CtsAt w3 a' n' more:=h'.below hB3
    go_wp2_with fail
    refine (d7_ w2.heap.size (0+n) _ a' n' cap' more _ hT3 h3' hwf' (by omega) (by omega) (fun x hx=>by have:=hb2 x hx;omega) (fun o=>by have:=htb o;omega)).mono ?_
    rintro e w4 ⟨rfl,hT4,hg4⟩
    have hB4:=am_ hB3 hg4 hs1
    go_wp2_with fail
    refine (fU_ w2.heap.size (0+n+n') _ w4 hT4 (by omega)).mono ?_
    rintro e w5 ⟨⟨a2,n2,cap2,R,rfl,hn2,R4,q1,q2,q3,q4⟩,hB5⟩
    have hB6:=chain hB4 hB5
    have hR:R=sumC l more:=lx_ q1 q2 q3 (fun o ho=>by rw [q4 o ho];omega) hris hnz hnz' hwf hwf'
    subst hR
    replace R4:=R4.mono hB4.size
    go_wp2_with fail
    refine (cf_ a2 n2 cap2 (sumC l more) _ R4.sl hss (by omega)).mono ?_
    rintro e w7 ⟨rfl,hB7⟩
    rw [hok3]
    have hB8:=chain hB6 hB7
    replace R4:=R4.below hB7
    cases b3
    ·rw [if_neg (by simp)] at hF
     subst hF
     go_wp2
     go_returns
     go_light
     exact ⟨rfl,hB8⟩
    ·rw [if_pos rfl] at hF
     subst hF
     have hn3:n2<=200:=by rw [<-R4.sl.len];exact (b4_ hok3).1
     go_wp2
     go_returns
     go_light
     exact ⟨⟨a2,n2,cap2,rfl,hn3,R4⟩,hB8⟩
   exact hbody _ rfl _ rfl (by simp [flushedO,hok,hok'])
end Go.Proofs.YtigldeccfpkdmaaGreatDoor
