/- Plain facts for PoolOk of the program: sets of addresses; volumes by their names. Maps of the program's pools: addresses counted by a map, volumes by their names. volumesOf of the program: the volumes by their names. addParts of the program: the parts of a file, counted. -/
import Derived.Maps.OwnSet
import Derived.Test.YtigldeccfpkdmaaGreatDoorK17
import Derived.Test.YtigldeccfpkdmaaGreatDoorK14
import Derived.Test.YtigldeccfpkdmaaGreatDoorProg
import Derived.Test.YtigldeccfpkdmaaGreatDoorK08
import Derived.Test.YtigldeccfpkdmaaGreatDoorK16
import Derived.Test.YtigldeccfpkdmaaGreatDoorK13
namespace Go.Proofs.YtigldeccfpkdmaaGreatDoor
open Go.RowKit Go.BigFrame
open Go.Maps (Keyed)
set_option maxHeartbeats 20000000
set_option maxRecDepth 100000
theorem dq_ {α:Type}:∀ {l m:List α},l.Nodup->(∀ x∈l,x∈m)->l.length<=m.length
 |[],_,_,_=>Nat.zero_le _
 |x::r,m,hn,hs=>by
  obtain ⟨s,t,rfl⟩:=List.append_of_mem (hs x (by simp))
  obtain ⟨h1,h2⟩:=List.nodup_cons.1 hn
  have:=dq_ (l:=r) (m:=s++t) h2 (fun y hy=>by
   have h3:=hs y (by simp [hy])
   have h4:y≠x:=fun e=>h1 (e▸hy)
   simpa [h4] using h3)
  simp at this ⊢
  omega
theorem js_:∀ {l:List Ex} {size next:Int},xgo size next l=true->(∀ x∈l,next<=x.a)∧(l.map (·.a)).Nodup
 |[],_,_,_=>⟨by simp,by simp⟩
 |x::r,size,next,h=>by
  simp only [xgo,Bool.and_eq_true,decide_eq_true_eq] at h
  obtain ⟨⟨⟨h1,h2⟩,h3⟩,h4⟩:=h
  obtain ⟨i1,i2⟩:=js_ h4
  have hd:1<=x.d.size:=by
   simp only [dataOkB,Bool.and_eq_true,decide_eq_true_eq] at h1
   exact h1.1.1
  refine ⟨fun y hy=>?_,?_⟩
  ·rcases List.mem_cons.1 hy with rfl | hy
   ·exact h2
   ·have:=i1 y hy;omega
  ·rw [List.map_cons,List.nodup_cons]
   refine ⟨fun hm=>?_,i2⟩
   obtain ⟨y,hy,e⟩:=List.mem_map.1 hm
   have:=i1 y hy
   omega
theorem jt_ {size:Int} {l:List Ex} (h:spaceOkB size l=true):(l.map (·.a)).Nodup:=by
 simp only [spaceOkB,Bool.and_eq_true] at h
 exact (js_ h.2).2
/-- Extents that are all named, and as many as there are names: just those. -/
theorem mv_ {E:List Ex} {L:List Ct} {K:List Lit} (hn:(E.map (·.a)).Nodup) (hK:K.Nodup) (h1:∀ k∈K,∃ c∈L,k=.int .i64 c.o.a) (h2:∀ c∈L,Lit.int .i64 c.o.a∈K) :
  (E.all (fun x=>L.any (fun c=>c.o.a==x.a))&&decide (K.length=E.length))=addrB E L:=by
 unfold addrB
 cases ha:E.all (fun x=>L.any (fun c=>c.o.a==x.a))
 ·rfl
 ·simp only [Bool.true_and]
  rw [List.all_eq_true] at ha
  have hsub:∀ k∈E.map (fun x=>Lit.int .i64 x.a),k∈K:=by
   intro k hk
   obtain ⟨x,hx,rfl⟩:=List.mem_map.1 hk
   obtain ⟨c,hc,e⟩:=List.any_eq_true.1 (ha x hx)
   have e':c.o.a=x.a:=by simpa using e
   rw [<-e']
   exact h2 c hc
  have hnl:(E.map (fun x=>Lit.int .i64 x.a)).Nodup:=by
   unfold List.Nodup at hn ⊢
   rw [List.pairwise_map] at hn ⊢
   exact hn.imp (fun {p q} h e=>h (by injection e))
  rw [Bool.eq_iff_iff]
  simp only [decide_eq_true_eq,List.all_eq_true,List.any_eq_true,beq_iff_eq]
  constructor
  ·intro hlen c hc
   refine Classical.byContradiction fun hno=>?_
   have h3:(Lit.int .i64 c.o.a::E.map (fun x=>Lit.int .i64 x.a)).Nodup:=List.nodup_cons.2 ⟨fun hm=>hno (by
    obtain ⟨x,hx,e⟩:=List.mem_map.1 hm
    injection e with _ e
    exact ⟨x,hx,e⟩),hnl⟩
   have h4:=dq_ h3 (m:=K) (fun k hk=>by
    rcases List.mem_cons.1 hk with rfl | hk
    ·exact h2 c hc
    ·exact hsub k hk)
   simp at h4
   omega
  ·intro hall
   have a1:=dq_ hnl hsub
   have a2:=dq_ hK (m:=E.map (fun x=>Lit.int .i64 x.a)) (fun k hk=>by
    obtain ⟨c,hc,rfl⟩:=h1 k hk
    obtain ⟨x,hx,e⟩:=hall c hc
    exact List.mem_map.2 ⟨x,hx,by rw [e]⟩)
   simp at a1 a2
   omega
/-- How often an address is named. -/
def cntZ (x:Int) (L:List Ct):Int:=((L.countP (fun c=>c.o.a==x):Nat):Int)
theorem fj_ (x:Int) (L:List Ct):0<=cntZ x L∧cntZ x L<=L.length:=by
 have:=List.countP_le_length (p:=fun c:Ct=>c.o.a==x) (l:=L)
 unfold cntZ
 omega
theorem mw_ (x:Int) (L:List Ct):(cntZ x L==0)=!(L.any (fun c=>c.o.a==x)):=by
 rw [Bool.eq_iff_iff]
 unfold cntZ
 rw [beq_iff_eq,Bool.not_eq_true',List.any_eq_false]
 have h:=List.countP_eq_zero (p:=fun c:Ct=>c.o.a==x) (l:=L)
 constructor
 ·intro e;exact h.1 (by omega)
 ·intro e;have:=h.2 e;omega
theorem mx_ (x:Int) (L:List Ct) (c:Ct):cntZ x (L++[c])=cntZ x L+(if c.o.a=x then 1 else 0):=by
 unfold cntZ
 rw [List.countP_append,List.countP_cons,List.countP_nil]
 by_cases h:c.o.a=x<;>simp [h]
def keyV (v:Vo):Lit:=.string v.nm.data.toList
/-- The volumes that are not left to come. -/
def doneV (left:Lit->Bool) (l:List Vo):List Vo:=l.filter (fun v=>!left (keyV v))
theorem fW_ (s t:List UInt8):(Lit.string s).sameKey (Lit.string t)=decide (s=t):=by
 by_cases h:s=t
 ·subst h;rw [WideAt.sameKey_self (show WideAt.IsKeyLit (Lit.string s) from trivial)];simp
 ·have:(Lit.string s).sameKey (Lit.string t)=false:=by
   cases e:(Lit.string s).sameKey (Lit.string t)
   ·rfl
   ·have:=WideAt.sameKey_eq e;injection this with e2;exact absurd e2 h
  rw [this];simp [h]
theorem eY_ {left:Lit->Bool} {v:Vo}:∀ {l:List Vo},(∀ y∈l,y.nm.toList≠v.nm.toList)->doneV (fun z=>left z&&!z.sameKey (keyV v)) l=doneV left l
 |[],_=>rfl
 |y::r,h=>by
  have h1:(keyV y).sameKey (keyV v)=false:=by
   unfold keyV
   rw [fW_]
   have:=h y (by simp)
   rw [ByteArray.toList_eq,ByteArray.toList_eq] at this
   simpa using this
  have ih:=eY_ (left:=left) (v:=v) (l:=r) (fun z hz=>h z (by simp [hz]))
  unfold doneV at ih ⊢
  rw [List.filter_cons,List.filter_cons,ih]
  simp only [h1,Bool.not_false,Bool.and_true]
theorem cM_ (v:Vo) (l:List Vo):allCs (v::l)=volCs v++allCs l:=rfl
theorem hm_ {left:Lit->Bool} {v:Vo} (hl:left (keyV v)=true):∀ {l:List Vo},(l.map (·.nm.toList)).Nodup->v∈l->∀ o,tot o (allCs (doneV (fun z=>left z&&!z.sameKey (keyV v)) l))=tot o (allCs (doneV left l))+tot o (volCs v)
 |[],_,hv,_=>by simp at hv
 |x::r,hn,hv,o=>by
  rw [List.map_cons,List.nodup_cons] at hn
  obtain ⟨h1,h2⟩:=hn
  by_cases e:x=v
  ·subst e
   have h3:∀ y∈r,y.nm.toList≠x.nm.toList:=fun y hy e=>h1 (by rw [<-e];exact List.mem_map.2 ⟨y,hy,rfl⟩)
   have ih:=eY_ (left:=left) h3
   have h4:(keyV x).sameKey (keyV x)=true:=by unfold keyV;rw [fW_];simp
   unfold doneV at ih ⊢
   rw [List.filter_cons,List.filter_cons,ih]
   simp only [h4,hl,Bool.not_true,Bool.and_false,Bool.not_false,if_true,Bool.false_eq_true,if_false,cM_]
   rw [aX_]
   omega
  ·have hv':v∈r:=by
    rcases List.mem_cons.1 hv with h | h
    ·exact absurd h.symm e
    ·exact h
   have hne:x.nm.toList≠v.nm.toList:=fun e=>h1 (by rw [e];exact List.mem_map.2 ⟨v,hv',rfl⟩)
   have h4:(keyV x).sameKey (keyV v)=false:=by
    unfold keyV;rw [fW_]
    rw [ByteArray.toList_eq,ByteArray.toList_eq] at hne
    simpa using hne
   have ih:=hm_ hl h2 hv' o
   unfold doneV at ih ⊢
   rw [List.filter_cons,List.filter_cons]
   simp only [h4,Bool.not_false,Bool.and_true] at ih ⊢
   split
   ·rw [cM_,cM_,aX_,aX_,ih];omega
   ·exact ih
theorem kC_ {left:Lit->Bool} {l:List Vo} (h:∀ v∈l,left (keyV v)=true):doneV left l=[]:=by
 unfold doneV
 rw [List.filter_eq_nil_iff]
 intro v hv
 simp [h v hv]
theorem my_ {left:Lit->Bool} {l:List Vo} (h:∀ k,left k=false):doneV left l=l:=by
 unfold doneV
 rw [List.filter_eq_self]
 intro v _
 simp [h]
theorem fX_ (id:Int) (nm:ByteArray) (ps:List Pt):(partCs id nm ps).length<=ps.length:=by
 unfold partCs
 rw [List.length_map]
 exact List.length_filter_le _ _
theorem ev_ {v:Vo}:∀ {l:List It},(∀ x∈l,x.ps.length<=16)->(itsCs v l).length<=16*l.length
 |[],_=>by simp [itsCs]
 |x::r,h=>by
  have ih:=ev_ (v:=v) (l:=r) (fun y hy=>h y (by simp [hy]))
  have h1:=h x (by simp)
  have h2:=fX_ v.id x.nm x.ps
  unfold itsCs at ih ⊢
  rw [List.flatMap_cons,List.length_append,List.length_cons]
  omega
theorem hn_:∀ {l:List Vo},(∀ v∈l,v.its.length<=5∧∀ x∈v.its,x.ps.length<=16)->(allCs l).length<=80*l.length
 |[],_=>by simp [allCs]
 |v::r,h=>by
  have ih:=hn_ (l:=r) (fun y hy=>h y (by simp [hy]))
  obtain ⟨h1,h2⟩:=h v (by simp)
  have h3:=ev_ (v:=v) h2
  rw [cM_,List.length_append,List.length_cons,show volCs v=itsCs v v.its from rfl]
  omega
theorem ho_ (id:Int) (nm:ByteArray) (ps:List Pt):∀ c∈partCs id nm ps,c.n=1:=by
 intro c hc
 obtain ⟨p,_,rfl⟩:=List.mem_map.1 hc
 rfl
theorem ly_ (v:Vo) (l:List It):∀ c∈itsCs v l,c.n=1:=by
 intro c hc
 obtain ⟨x,_,hx⟩:=List.mem_flatMap.1 hc
 exact ho_ _ _ _ c hx
theorem lz_ (l:List Vo):∀ c∈allCs l,c.n=1:=by
 intro c hc
 obtain ⟨v,_,hv⟩:=List.mem_flatMap.1 hc
 exact ly_ v v.its c hv
theorem fY_ {l:List Ct} (h:∀ c∈l,c.n=1) (o:Ow):0<=tot o l∧tot o l<=l.length:=by
 induction l with
 |nil=>simp [tot]
 |cons c r ih=>
  have h1:=ih (fun x hx=>h x (by simp [hx]))
  have h2:=h c (by simp)
  simp only [tot,List.length_cons]
  split<;>omega
end Go.Proofs.YtigldeccfpkdmaaGreatDoor
namespace Go.Proofs.YtigldeccfpkdmaaGreatDoor
open Go.RowKit Go.BigFrame
open Go.ChangeMaps Go.MapKept Go.WideElems
open Go.Maps (Keyed)
set_option maxHeartbeats 20000000
set_option maxRecDepth 100000
theorem nz_ {H:Type} {P:Program} {w:World} {k:TypeId} {R:Value->Option (DataW H×List MemPlace)} {b n:Nat} {D:DataW H} (h:w.ownsMap P k R b n D):∃ es,D=.map es∧∀ p∈es,Maps.KeysOf P k p.1:=by
 obtain ⟨es,clock,_,F,_,rfl⟩:=h
 exact ⟨_,rfl,fun p hp=>Maps.fit_keys F p (mem_sorted.1 hp)⟩
theorem keyed2:Keyed Tryz.prog 2:=Maps.int_keyed Tryz.underlying2
theorem keyed9:Keyed Tryz.prog 9:=Maps.string_keyed Tryz.underlying9
theorem key2 {x:Int} (h:(Lit.int .i64 x).wf=true):keyOf Tryz.prog 2 (.int .i64 x)=some (.int .i64 x):=Maps.keyOf_int_mk Tryz.underlying2 h
theorem key9 {s:ByteArray} (h:s.size<=maxLen):keyOf Tryz.prog 9 (.string s)=some (.string s.data.toList):=by
 simp [keyOf,Tryz.underlying9,mapKey,h]
/-- Block b is a map that counts these addresses. -/
def AdAt (w:World) (b n:Nat) (L:List Ct):Prop:=
 ∃ D:DataW Unit,w.ownsMap Tryz.prog 2 (plainElem Tryz.prog 2) b n D∧(∀ x,(Lit.int .i64 x).wf=true->D.atKey (.int .i64 x) (.lit (.int .i64 0))=.lit (.int .i64 (cntZ x L)))∧∀ x:Int,Maps.has D (.int .i64 x)=L.any (fun c=>c.o.a==x)
theorem AdAt.made (w:World):AdAt (w.alloc (.map #[] 0)) w.heap.size 0 []:=⟨_,World.ownsMap_made _ _ _ _,fun _ _=>rfl,fun _=>rfl⟩
theorem AdAt.lt {w:World} {b n:Nat} {L:List Ct} (h:AdAt w b n L):b<w.heap.size:=by
 obtain ⟨D,h,_⟩:=h;exact h.lt
theorem AdAt.kept {w w':World} {b n:Nat} {L:List Ct} {row:Option Nat} (h:AdAt w b n L) (hg:w.grownBy w' row) (hne:some b≠row):AdAt w' b n L:=by
 obtain ⟨D,h,h2⟩:=h;exact ⟨D,h.kept hg hne,h2⟩
theorem AdAt.apart {w:World} {b n:Nat} {L:List Ct} (h:AdAt w b n L) {bb o:Nat} {v:Value} (hc:w.cell? ⟨bb,o,none⟩=some v):bb≠b:=by
 obtain ⟨D,⟨es,clock,hb,_⟩,_⟩:=h
 rintro rfl
 simp [World.cell?,hb] at hc
theorem nA_ (x y:Int):(Lit.int .i64 x).sameKey (Lit.int .i64 y)=decide (x=y):=by
 by_cases h:x=y
 ·subst h;rw [WideAt.sameKey_self (show WideAt.IsKeyLit (Lit.int .i64 x) from trivial)];simp
 ·have:(Lit.int .i64 x).sameKey (Lit.int .i64 y)=false:=Maps.sameKey_ne (fun e=>h (by injection e))
  rw [this];simp [h]
theorem AdAt.look {w:World} {b n:Nat} {L:List Ct} (h:AdAt w b n L) {x:Int} (hx:(Lit.int .i64 x).wf=true):(Instr.lookup 230 (.map (some b)) (.int .i64 x) false).run Tryz.prog w=.ok (.int .i64 (cntZ x L)) w:=by
 obtain ⟨D,hown,hv,hh⟩:=h
 obtain ⟨c,hl,hat,_⟩:=hown.lookup_int keyed2 Tryz.underlying230 Tryz.underlying2 (zero2 w) (key2 hx)
 rw [hv x hx] at hat
 injection hat with e2
 injection e2 with _ e3
 rw [e3];exact hl
theorem AdAt.bump {w:World} {b n:Nat} {L:List Ct} (h:AdAt w b n L) (hn:n<maxLen) (hL:L.length<=1000000) {c:Ct} (ha:(Lit.int .i64 c.o.a).wf=true) :
  ∃ w3:World,(Instr.mapUpdate 230 (.map (some b)) (.int .i64 c.o.a) (.int .i64 (cntZ c.o.a L+1))).run Tryz.prog w=.ok () w3∧AdAt w3 b (n+1) (L++[c])∧w.grownBy w3 (some b):=by
 obtain ⟨D,hown,hv,hh⟩:=h
 have hbd:=fj_ c.o.a L
 obtain ⟨w3,g1,g2,g3⟩:=hown.update keyed2 Tryz.underlying230 hn (key2 ha) (plainElem_int Tryz.underlying2 (show (Lit.int .i64 (cntZ c.o.a L+1)).wf=true from WalkArith.wf_i64 (by omega)))
 refine ⟨w3,g1,⟨_,g2,fun x hx=>?_,fun x=>?_⟩,g3⟩
 ·rw [mx_]
  by_cases e:c.o.a=x
  ·subst e
   rw [Maps.atKey_put_same hown.isMap (keyed2.key (key2 ha)),if_pos rfl]
  ·rw [Maps.atKey_put_other (fun e2=>e (by injection e2 with _ e2;exact e2.symm)),hv x hx,if_neg e,Int.add_zero]
 ·rw [List.any_append]
  by_cases e:c.o.a=x
  ·subst e
   rw [Maps.has_put_same hown.isMap (keyed2.key (key2 ha))]
   simp
  ·rw [Maps.has_put_other (fun e2=>e (by injection e2 with _ e2;exact e2.symm)),hh x]
   simp [e]
theorem AdAt.len {w:World} {b n:Nat} {L:List Ct} (h:AdAt w b n L) (ty:TypeId):∃ K:List Lit,(Builtin.len_ #[230] ty #[.map (some b)]).run Tryz.prog w=.ok (.int .i64 K.length) w∧K.length<=n∧K.Nodup∧(∀ k∈K,∃ c∈L,k=.int .i64 c.o.a)∧∀ c∈L,Lit.int .i64 c.o.a∈K:=by
 obtain ⟨D,hown,hv,hh⟩:=h
 have h1:=hown.len Tryz.underlying230 ty
 have h2:=hown.size_le
 obtain ⟨es,rfl,hp⟩:=hown.tidy keyed2
 obtain ⟨es',he,hk⟩:=nz_ hown
 obtain rfl:es=es':=by injection he
 refine ⟨es.map (·.1),by simpa [Maps.size] using h1,by simpa [Maps.size] using h2,?_,fun k hk'=>?_,fun c hc=>?_⟩
 ·unfold List.Nodup;rw [List.pairwise_map];exact hp
 ·obtain ⟨p,hp',rfl⟩:=List.mem_map.1 hk'
  obtain ⟨v,hkv⟩:=hk p hp'
  obtain ⟨x,_,e,_⟩:=Maps.keyOf_int_inv Tryz.underlying2 hkv
  have h3:=hh x
  rw [Maps.has_eq] at h3
  have h4:es.any (fun q=>q.1.sameKey (.int .i64 x))=true:=List.any_eq_true.2 ⟨p,hp',by rw [e,nA_];simp⟩
  rw [h4] at h3
  obtain ⟨c,hc,e2⟩:=List.any_eq_true.1 h3.symm
  exact ⟨c,hc,by rw [e];simp at e2;rw [e2]⟩
 ·have h3:=hh c.o.a
  rw [show L.any (fun c'=>c'.o.a==c.o.a)=true from List.any_eq_true.2 ⟨c,hc,by simp⟩,Maps.has_eq] at h3
  obtain ⟨p,hp',e⟩:=List.any_eq_true.1 h3
  exact List.mem_map.2 ⟨p,hp',WideAt.sameKey_eq e⟩
/-- How a pointer into block pb reads: where it points. -/
def ptrElem (pb:Nat) (v:Value):Option (DataW Unit×List MemPlace):=
 match v with
 |.pointer (some ⟨b,o,none⟩)=>if b=pb then some (.lit (.int .i64 o),[]) else none
 |_=>none
theorem fZ_ (pb o:Nat):ptrElem pb (.pointer (some ⟨pb,o,none⟩))=some (.lit (.int .i64 o),[]):=by simp [ptrElem]
theorem ju_ {pb:Nat} {v:Value} {y:DataW Unit×List MemPlace} (h:ptrElem pb v=some y):∃ o:Nat,v=.pointer (some ⟨pb,o,none⟩)∧y=(.lit (.int .i64 o),[]):=by
 unfold ptrElem at h
 split at h
 ·split at h
  ·subst_vars
   exact ⟨_,rfl,(Option.some.inj h).symm⟩
  ·cases h
 ·cases h
/-- What the map of these volumes holds: each by its name, the place of the last one of that name. -/
structure VMap (D:DataW Unit) (po:Nat) (l:List Vo):Prop where
 has:∀ s:List UInt8,Maps.has D (.string s)=l.any (fun v=>v.nm.data.toList==s)
 size:Maps.size D<=l.length
 full:Maps.size D=l.length↔(l.map (·.nm.toList)).Nodup
 val:(l.map (·.nm.toList)).Nodup->∀ i v,l[i]?=some v->∀ z,D.atKey (keyV v) z=.lit (.int .i64 ((po+i*4:Nat):Int))
theorem VMap.nil (po:Nat):VMap (.map []) po []:=⟨fun _=>rfl,Nat.le_refl _,by simp [Maps.size],fun _ i v h=>by simp at h⟩
theorem VMap.put {D:DataW Unit} {po:Nat} {l:List Vo} (hT:Maps.Tidy D) (h:VMap D po l) (v:Vo):VMap (D.put (keyV v) (.lit (.int .i64 ((po+l.length*4:Nat):Int)))) po (l++[v]):=by
 have hk:WideAt.IsKeyLit (keyV v):=trivial
 have hany:Maps.has D (keyV v)=true↔v.nm.toList∈l.map (·.nm.toList):=by
  unfold keyV
  rw [h.has,List.any_eq_true,List.mem_map]
  constructor
  ·rintro ⟨u,hu,e⟩;exact ⟨u,hu,by rw [ByteArray.toList_eq,ByteArray.toList_eq];simpa using e⟩
  ·rintro ⟨u,hu,e⟩;rw [ByteArray.toList_eq,ByteArray.toList_eq] at e;exact ⟨u,hu,by simpa using e⟩
 have hnd:((l++[v]).map (·.nm.toList)).Nodup↔(l.map (·.nm.toList)).Nodup∧¬ v.nm.toList∈l.map (·.nm.toList):=by
  rw [List.map_append,List.nodup_append]
  constructor
  ·rintro ⟨h1,_,h3⟩;exact ⟨h1,fun hm=>h3 _ hm _ (by simp) rfl⟩
  ·rintro ⟨h1,h2⟩;exact ⟨h1,by simp,fun a ha b hb e=>by simp at hb;subst hb;subst e;exact h2 ha⟩
 have hs:=h.size
 refine ⟨fun s=>?_,?_,?_,fun hn i u hu z=>?_⟩
 ·rw [List.any_append]
  by_cases e:v.nm.data.toList=s
  ·subst e
   rw [show (Lit.string v.nm.data.toList)=keyV v from rfl,Maps.has_put_same hT.isMap hk]
   simp
  ·rw [Maps.has_put_other (fun e2=>e (by unfold keyV at e2;injection e2 with e2;exact e2.symm)),h.has]
   simp [e]
 ·rw [Maps.size_put hT,List.length_append]
  split<;>simp<;>omega
 ·rw [Maps.size_put hT,List.length_append,hnd,<-hany,<-h.full]
  cases hh:Maps.has D (keyV v)<;>simp<;>omega
 ·obtain ⟨h1,h2⟩:=hnd.1 hn
  by_cases hi:i<l.length
  ·rw [List.getElem?_append_left hi] at hu
   have hne:keyV u≠keyV v:=fun e=>h2 (by
    unfold keyV at e
    injection e with e
    exact List.mem_map.2 ⟨u,List.mem_of_getElem? hu,by rw [ByteArray.toList_eq,ByteArray.toList_eq,e]⟩)
   rw [Maps.atKey_put_other hne]
   exact h.val h1 i u hu z
  ·rw [List.getElem?_append_right (by omega)] at hu
   have hi0:i=l.length:=by
    have:=(List.getElem?_eq_some_iff.1 hu).1
    simp at this
    omega
   subst hi0
   simp at hu
   subst hu
   rw [Maps.atKey_put_same hT.isMap hk]
end Go.Proofs.YtigldeccfpkdmaaGreatDoor
namespace Go.Proofs.YtigldeccfpkdmaaGreatDoor
open Go.RowKit Go.BigFrame
open Go.Maps (Keyed)
set_option maxHeartbeats 20000000
set_option maxRecDepth 100000
theorem pb_ {w:World} {b n pb:Nat} {D:DataW Unit} (h:w.ownsMap Tryz.prog 9 (ptrElem pb) b n D) (hn:n<maxLen) {s:ByteArray} (hs:s.size<=maxLen) (o:Nat) :
  ∃ w',(Instr.mapUpdate 148 (.map (some b)) (.string s) (.pointer (some ⟨pb,o,none⟩))).run Tryz.prog w=.ok () w'∧w'.ownsMap Tryz.prog 9 (ptrElem pb) b (n+1) (D.put (.string s.data.toList) (.lit (.int .i64 (o:Int))))∧w.grownBy w' (some b):=
 h.update keyed9 Tryz.underlying148 hn (key9 hs) (fZ_ pb o)
theorem f0_ (B:Nat) (size next:Int) (ea:Option Addr) (en ec:Nat) (va:Option Addr) (vn vc:Nat) (ra:Option Addr) (rn rc:Nat) (la:Option Addr) (ln lc:Nat) (vs:List Vo) (pb po:Nat) (hpb:0<vn->va=some ⟨pb,po,none⟩) (w:World) (h2:VsAt B w va vn vs) (z3:vn<=4194304) (z4:StrV vs) :
  Calls Tryz.prog 101 #[.agg #[.int .i64 size,.int .i64 next,.slice ea en ec,.slice va vn vc,.slice ra rn rc,.slice la ln lc]] w fun x w'=>(∃ b D,x=.returned (.map (some b))∧w.heap.size<=b∧w'.ownsMap Tryz.prog 9 (ptrElem pb) b vn D∧VMap D po vs)∧Below w.heap.size w w':=by
 have hlen:Hid (vs.length=vn):=h2.len
 have hmm:=@run_makeMap Tryz.prog
 go_enter Tryz.func101,Tryz.ntmps101
 have C:=(Blk.new w #[.int .i64 size,.int .i64 next,.slice ea en ec,.slice va vn vc,.slice ra rn rc,.slice la ln lc] 26)
 have hB1:Below w.heap.size w (w.alloc (.cells #[.int .i64 size,.int .i64 next,.slice ea en ec,.slice va vn vc,.slice ra rn rc,.slice la ln lc] 26)):=by go_grown
 have hs1:(w.alloc (.cells #[.int .i64 size,.int .i64 next,.slice ea en ec,.slice va vn vc,.slice ra rn rc,.slice la ln lc] 26)).heap.size=w.heap.size+1:=by simp
 go_wp2_with fail
 generalize w.alloc (.cells #[.int .i64 size,.int .i64 next,.slice ea en ec,.slice va vn vc,.slice ra rn rc,.slice la ln lc] 26)=W0 at *
 have hM:=World.ownsMap_made W0 Tryz.prog 9 (ptrElem pb)
 have C1:=C.alloc (.map #[] 0)
 have hB2:Below w.heap.size w (W0.alloc (.map #[] 0)):=hB1.alloc (by omega) _
 clear C hB1
 generalize W0.alloc (.map #[] 0)=W1 at *
 have hz:W0.heap.size=w.heap.size+1:=hs1
 clear hs1
 rw [hz] at hM
 go_loopw [9] (fun ix wr=>∃ (k:Nat) (D:DataW Unit),k<=vn∧ix=.int .i64 k∧wr.ownsMap Tryz.prog 9 (ptrElem pb) (w.heap.size+1) k D∧VMap D po (vs.take k)∧Blk wr w.heap.size #[.int .i64 size,.int .i64 next,.slice ea en ec,.slice va vn vc,.slice ra rn rc,.slice la ln lc] 26∧Below w.heap.size w wr) (fun ix _=>vn-(intOf ix).toNat)
 case atStart=>exact ⟨0,_,Nat.zero_le _,rfl,hM,VMap.nil po,C1,hB2⟩
 case round=>
  clear hM C1 hB2
  obtain ⟨k,D,hk,rfl,hO,hV,C,hB⟩:=hrel
  have d3:wr.drew.cell? ⟨w.heap.size,3,none⟩=some (.slice va vn vc):=C.cell 3
  by_cases hlt:k<vn
  ·obtain ⟨b,o,x,qa,qn,qc,rfl,hx,e0,e1,e2,e3,hP,_,_⟩:=cg_ (h2.below hB) hlt
   obtain ⟨rfl,rfl⟩:b=pb∧o=po:=by have:=hpb (by omega);simpa using this
   have e1':wr.drew.cell? ⟨b,o+k*4+1,none⟩=some (.string x.nm):=e1
   have hk1:(k:Int)<vn:=by omega
   have hk2:(0:Int)<=k:=by omega
   obtain ⟨m1,_,_⟩:=z4 x (List.mem_of_getElem? hx)
   have hlk:(vs.take k).length=k:=by rw [List.length_take,hlen.out];omega
   obtain ⟨w3,r3,O3,g3⟩:=pb_ (w:=wr.drew) hO (by unfold maxLen;omega) m1 (o+k*4)
   have hV3:=hV.put (hO.tidy keyed9) x
   rw [hlk,<-aO_ hx] at hV3
   have hg3:wr.grownBy w3 (some (w.heap.size+1)):=(⟨rfl,rfl,rfl,Nat.le_refl _,fun _ _ _=>rfl⟩:wr.grownBy wr.drew (some (w.heap.size+1))).andThen g3 (fun j hj=>by cases hj;exact .inr rfl)
   have hB3:Below w.heap.size w w3:=hB.grown hg3 hB.size (fun j hj=>by cases hj;omega)
   have C3:Blk w3 w.heap.size #[.int .i64 size,.int .i64 next,.slice ea en ec,.slice (some ⟨b,o,none⟩) vn vc,.slice ra rn rc,.slice la ln lc] 26:=(hg3.block _ C.lt (by simp only [ne_eq,Option.some.injEq];omega)).trans C
   clear hx hpb
   go_wp2_with fail
   refine b3_ 11 (by kernel_rfl) (by kernel_rfl) ?_
   simp only [List.take_succ_cons,List.take_zero,List.drop_succ_cons,List.drop_zero]
   repeat still_step
   refine wpStill_nil ?_
   go_wp2
   go_roundw
   case rel=>exact ⟨k+1,_,by omega,by go_num,O3,hV3,C3,hB3⟩
   case measure=>simp [intOf];omega
  ·obtain rfl:k=vn:=by omega
   go_wp2
   go_returns
   rw [List.take_of_length_le (Nat.le_of_eq hlen.out)] at hV
   exact ⟨⟨w.heap.size+1,D,rfl,by omega,hO,hV⟩,hB⟩
end Go.Proofs.YtigldeccfpkdmaaGreatDoor
namespace Go.Proofs.YtigldeccfpkdmaaGreatDoor
open Go.RowKit Go.BigFrame
set_option maxHeartbeats 20000000
set_option maxRecDepth 100000
theorem gC_ (b m:Nat) (f:Ow->Int) (id:Int) (nm:ByteArray) (pa:Option Addr) (pn pc:Nat) (ps:List Pt) (w:World) (hT:TlAt w b m f) (h:PtsAt w pa pn ps) (hid:(Lit.int .i64 id).wf=true) (hnm:nm.size<=maxLen) (hps:∀ p∈ps,(Lit.int .i64 p.a).wf=true) (hn:pn<=1000000) (hm:m<=1000000) (hf:∀ o,-1000000000000<=f o∧f o<=1000000000000) :
  Calls Tryz.prog 170 #[.map (some b),.int .i64 id,.agg #[.string nm,.slice pa pn pc]] w fun e w'=>e=.returned (.tuple #[])∧TlAt w' b (m+pn) (fun o=>f o+tot o (partCs id nm ps))∧w.grownBy w' (some b):=by
 have hlen:Hid (ps.length=pn):=h.len
 go_enter Tryz.func170,Tryz.ntmps170
 have C:=(Blk.new w #[.string nm,.slice pa pn pc] 139)
 have hG0:w.grownBy (w.alloc (.cells #[.string nm,.slice pa pn pc] 139)) (some b):=World.grownBy_alloc w _ (some b)
 have T0:TlAt (w.alloc (.cells #[.string nm,.slice pa pn pc] 139)) b m f:=hT.kept (World.grownBy_alloc w _ none) (by simp)
 have hbl:=hT.lt
 go_wp2_with fail
 generalize w.alloc (.cells #[.string nm,.slice pa pn pc] 139)=W0 at *
 go_loopw [11] (fun ix wr=>∃ (k:Nat),k<=pn∧ix=.int .i64 k∧TlAt wr b (m+k) (fun o=>f o+tot o (partCs id nm (ps.take k)))∧Blk wr w.heap.size #[.string nm,.slice pa pn pc] 139∧w.grownBy wr (some b)) (fun ix _=>pn-(intOf ix).toNat)
 case atStart=>exact ⟨0,Nat.zero_le _,rfl,T0.congr (fun o=>by simp [partCs,tot]),C,hG0⟩
 case round=>
  clear C hG0 T0
  obtain ⟨k,hk,rfl,T2,C,hG⟩:=hrel
  by_cases hlt:k<pn
  ·obtain ⟨bb,oo,p,rfl,hp,c0,c1,c2⟩:=bc_ h hlt
   have hbb:=hT.apart c0
   have d0:=hG.cell c0 (by simpa using hbb)
   have d1:=hG.cell c1 (by simpa using hbb)
   have d2:=hG.cell c2 (by simpa using hbb)
   have hwp:=hps p (List.mem_of_getElem? hp)
   have hpt:Hid (partCs id nm (ps.take (k+1))=partCs id nm (ps.take k)++(if p.a==0 then [] else [⟨⟨p.a,id,nm⟩,1⟩])):=eX_ hp
   have hpl:=fX_ id nm (ps.take k)
   have hpt1:=fY_ (ho_ id nm (ps.take k))
   have hlk:(ps.take k).length<=pn:=by rw [List.length_take];omega
   have hk1:(k:Int)<pn:=by omega
   have hk2:(0:Int)<=k:=by omega
   clear c0 c1 c2 hp
   have hgW:w.grownBy (wr.alloc (.cells #[.int .i64 p.a,.int .i64 p.f,.int .i64 p.n] 141)) (some b):=hG.andThen (World.grownBy_alloc wr _ (some b)) (fun j hj=>by cases hj;exact .inr rfl)
   have T3:TlAt (wr.alloc (.cells #[.int .i64 p.a,.int .i64 p.f,.int .i64 p.n] 141)) b (m+k) (fun o=>f o+tot o (partCs id nm (ps.take k))):=T2.kept (World.grownBy_alloc wr _ none) (by simp)
   have z0:(wr.alloc (.cells #[.int .i64 p.a,.int .i64 p.f,.int .i64 p.n] 141)).cell? ⟨wr.heap.size,0,none⟩=some (.int .i64 p.a):=by simp
   have C3:=C.alloc (.cells #[.int .i64 p.a,.int .i64 p.f,.int .i64 p.n] 141)
   clear T2 C
   cases hz:(p.a==0)
   ·have hne:(p.a != 0)=true:=by simp [bne,hz]
    rw [hz] at hpt
    simp only [Bool.false_eq_true,if_false] at hpt
    go_wp2_with fail
    generalize wr.alloc (.cells #[.int .i64 p.a,.int .i64 p.f,.int .i64 p.n] 141)=W at *
    have T4:TlAt W.drew b (m+k) (fun o=>f o+tot o (partCs id nm (ps.take k))):=T3
    have q0:W.drew.cell? ⟨wr.heap.size,0,none⟩=some (.int .i64 p.a):=z0
    have q1:W.drew.cell? ⟨w.heap.size,0,none⟩=some (.string nm):=C3.cell 0
    have hwo:WfO ⟨p.a,id,nm⟩:=⟨hwp,hid,hnm⟩
    obtain ⟨st,w1,e1,e2,e3,g1,e4⟩:=T4.entry (by unfold maxLen;omega) hwo
    have hC:-3000000000000<=f ⟨p.a,id,nm⟩+tot ⟨p.a,id,nm⟩ (partCs id nm (ps.take k))∧f ⟨p.a,id,nm⟩+tot ⟨p.a,id,nm⟩ (partCs id nm (ps.take k))<=3000000000000:=by
     have h1:=hf ⟨p.a,id,nm⟩
     have h2:=hpt1 ⟨p.a,id,nm⟩
     omega
    obtain ⟨w3,e5,T5,g3⟩:=e4 (f ⟨p.a,id,nm⟩+tot ⟨p.a,id,nm⟩ (partCs id nm (ps.take k))+1) (WalkArith.wf_i64 (by omega))
    have hT5:TlAt w3 b (m+(k+1)) (fun o=>f o+tot o (partCs id nm (ps.take (k+1)))):=T5.congr (fun o=>by
     rw [hpt.out,aX_]
     simp only [tot]
     split
     ·rename_i hh;rw [aC_.1 hh];omega
     ·omega)
    have hgF:w.grownBy w3 (some b):=(hgW.andThen (row':=some b) (⟨rfl,rfl,rfl,Nat.le_refl _,fun _ _ _=>rfl⟩:W.grownBy W.drew (some b)) (fun j hj=>by cases hj;exact .inr rfl)).andThen (row':=some b) g3 (fun j hj=>by cases hj;exact .inr rfl)
    have C5:Blk w3 w.heap.size #[.string nm,.slice (some ⟨bb,oo,none⟩) pn pc] 139:=(g3.block _ C3.lt (by simp only [ne_eq,Option.some.injEq];omega)).trans C3
    clear e4 T4 T3 T5 C3 d0 d1 d2 hpt hpt1 hgW
    generalize f ⟨p.a,id,nm⟩+tot ⟨p.a,id,nm⟩ (partCs id nm (ps.take k))=Z at *
    obtain ⟨hC1,hC2⟩:=hC
    go_region
    go_wp2
    go_roundw
    case rel=>exact ⟨k+1,by omega,by go_num,hT5,C5,hgF⟩
    case measure=>simp [intOf];omega
   ·have hne:(p.a != 0)=false:=by simp [bne,hz]
    rw [hz] at hpt
    simp only [if_true,List.append_nil] at hpt
    have T4:TlAt (wr.alloc (.cells #[.int .i64 p.a,.int .i64 p.f,.int .i64 p.n] 141)) b (m+(k+1)) (fun o=>f o+tot o (partCs id nm (ps.take (k+1)))):=(T3.mono (by omega)).congr (fun o=>by rw [hpt.out])
    go_wp2
    go_roundw
    case rel=>exact ⟨k+1,by omega,by go_num,T4,C3,hgW⟩
    case measure=>simp [intOf];omega
  ·obtain rfl:k=pn:=by omega
   go_wp2
   go_returns
   refine ⟨rfl,?_,hG⟩
   rw [List.take_of_length_le (by rw [hlen.out];exact Nat.le_refl _)] at T2
   exact T2
end Go.Proofs.YtigldeccfpkdmaaGreatDoor
