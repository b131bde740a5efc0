/- What the program reads, written again, is the text: plain. A pool read line by line, as the model reads it: plain. An append that tells where the new list lies; what the elements' types are. What is written into boxes of pools leaves a pool in the making as it is. A list of the last volume, or of its last item, grows: what else is as it was. -/
import Derived.Test.YtigldeccfpkdmaaGreatDoorK11
import Derived.Test.YtigldeccfpkdmaaGreatDoorK05
import Derived.Test.YtigldeccfpkdmaaGreatDoorK10
namespace Go.Proofs.YtigldeccfpkdmaaGreatDoor
open Go
set_option maxHeartbeats 20000000
set_option maxRecDepth 100000
theorem et_ {wd l:By} {k:Nat} {x:By} {r:List By} (h:ahP wd l=true) (hw:(32:UInt8)∉wd) (e:wdsN (k+1) l=x::r):l=joW (wd::r):=by
 obtain ⟨s,_,h2⟩:=o5_ k h hw
 have h3:=k6_ (k+1) l
 rw [e] at h2
 obtain ⟨rfl,rfl⟩:=List.cons.inj h2
 rw [<-h3,e]
theorem px_ {l:By} {e:Ex} (h:ahP exK l=true) (he:exP l=some e):l=exLn e:=by
 unfold exP at he
 split at he
 ·next a d hc=>
  cases h1:numP a with
  |none=>rw [h1] at he;cases he
  |some n=>
   rw [h1] at he
   obtain rfl:=Option.some.inj he
   rw [et_ h (by decide) hc,(aG_ h1).1,exLn,af_]
 ·cases he
theorem py_ {l:By} {e:Pt} (h:ahP partK l=true) (he:ptP l=some e):l=ptLn e:=by
 unfold ptP at he
 split at he
 ·next a f n hc=>
  cases h1:numP a with
  |none=>rw [h1] at he;cases he
  |some a'=>
   cases h2:numP f with
   |none=>rw [h1,h2] at he;cases he
   |some f'=>
    cases h3:numP n with
    |none=>rw [h1,h2,h3] at he;cases he
    |some n'=>
     rw [h1,h2,h3] at he
     obtain rfl:=Option.some.inj he
     rw [et_ h (by decide) hc,(aG_ h1).1,(aG_ h2).1,(aG_ h3).1,ptLn]
 ·cases he
theorem ot_ {l:By} {e:ByteArray} (h:ahP fileK l=true) (he:fileP l=some e):l=joW [fileK,e.data.toList]:=by
 unfold fileP at he
 split at he
 ·next a hc=>
  obtain rfl:=Option.some.inj he
  rw [et_ h (by decide) hc,af_]
 ·cases he
theorem ou_ {s:By} {b:Bool} (h:flagP s=some b):s=flagL b:=by
 unfold flagP at h
 split at h
 ·next e=>obtain rfl:=Option.some.inj h;exact e
 ·split at h
  ·next e=>obtain rfl:=Option.some.inj h;exact e
  ·cases h
theorem pz_ {l:By} {e:Int×ByteArray×Bool} (h:ahP volK l=true) (he:voP l=some e):l=joW [volK,Lib.itoa e.1,e.2.1.data.toList,flagL e.2.2]:=by
 unfold voP at he
 split at he
 ·next i nm f hc=>
  cases h1:numP i with
  |none=>rw [h1] at he;cases he
  |some a'=>
   cases h2:flagP f with
   |none=>rw [h1,h2] at he;cases he
   |some f'=>
    rw [h1,h2] at he
    obtain rfl:=Option.some.inj he
    rw [et_ h (by decide) hc,(aG_ h1).1,ou_ h2,af_]
 ·cases he
theorem o1_ {wd l:By} {c:Ct} (hw:(32:UInt8)∉wd) (h:ahP wd l=true) (he:ctP l=some c):l=ctLn wd c:=by
 unfold ctP at he
 split at he
 ·next a v f n hc=>
  cases h1:numP a with
  |none=>rw [h1] at he;cases he
  |some a'=>
   cases h2:numP v with
   |none=>rw [h1,h2] at he;cases he
   |some v'=>
    cases h3:numP n with
    |none=>rw [h1,h2,h3] at he;cases he
    |some n'=>
     rw [h1,h2,h3] at he
     obtain rfl:=Option.some.inj he
     rw [et_ h hw hc,(aG_ h1).1,(aG_ h2).1,(aG_ h3).1,ctLn,af_]
 ·cases he
theorem pA_ {l:By} {e:Int×Int} (h:ahP poolK l=true) (he:hdP l=some e):l=joW [poolK,Lib.itoa e.1,Lib.itoa e.2]:=by
 unfold hdP at he
 split at he
 ·next a b hc=>
  cases h1:numP a with
  |none=>rw [h1] at he;cases he
  |some a'=>
   cases h2:numP b with
   |none=>rw [h1,h2] at he;cases he
   |some b'=>
    rw [h1,h2] at he
    obtain rfl:=Option.some.inj he
    rw [et_ h (by decide) hc,(aG_ h1).1,(aG_ h2).1]
 ·cases he
theorem i7_:∀ {k:Nat} {ls:List By} {xs:List It} {r:List By},itemsP k ls=some (xs,r)->ls=xs.flatMap itLn++r∧r.length<=ls.length
 |0,ls,xs,r,h=>by obtain ⟨rfl,rfl⟩:=Prod.mk.inj (Option.some.inj h);exact ⟨rfl,Nat.le_refl _⟩
 |k+1,[],xs,r,h=>by obtain ⟨rfl,rfl⟩:=Prod.mk.inj (Option.some.inj h);exact ⟨rfl,Nat.le_refl _⟩
 |k+1,l::ls,xs,r,h=>by
  unfold itemsP at h
  split at h
  ·next ha=>
   cases hf:fileP l with
   |none=>rw [hf] at h;cases h
   |some nm=>
    rw [hf,Option.bind_some] at h
    cases hm:manyP partK ptP ls with
    |none=>rw [hm] at h;cases h
    |some q=>
     rw [hm,Option.bind_some] at h
     cases hi:itemsP k q.2 with
     |none=>rw [hi] at h;cases h
     |some s=>
      rw [hi] at h
      obtain ⟨rfl,rfl⟩:=Prod.mk.inj (Option.some.inj h)
      obtain ⟨h1,h2⟩:=d2_ (g:=ptLn) (fun l x=>py_) (xs:=q.1) (r:=q.2) hm
      obtain ⟨h3,h4⟩:=i7_ (xs:=s.1) (r:=s.2) hi
      refine ⟨?_,by simp;omega⟩
      rw [List.flatMap_cons,itLn,List.append_assoc,<-h3,List.cons_append,<-h1,<-ot_ ha hf]
  ·obtain ⟨rfl,rfl⟩:=Prod.mk.inj (Option.some.inj h);exact ⟨rfl,Nat.le_refl _⟩
theorem lk_:∀ {k:Nat} {ls:List By} {xs:List Vo} {r:List By},volsP k ls=some (xs,r)->ls=xs.flatMap voLn++r
 |0,ls,xs,r,h=>by obtain ⟨rfl,rfl⟩:=Prod.mk.inj (Option.some.inj h);rfl
 |k+1,[],xs,r,h=>by obtain ⟨rfl,rfl⟩:=Prod.mk.inj (Option.some.inj h);rfl
 |k+1,l::ls,xs,r,h=>by
  unfold volsP at h
  split at h
  ·next ha=>
   cases hf:voP l with
   |none=>rw [hf] at h;cases h
   |some e=>
    rw [hf,Option.bind_some] at h
    cases hm:itemsP ls.length ls with
    |none=>rw [hm] at h;cases h
    |some q=>
     rw [hm,Option.bind_some] at h
     cases hi:volsP k q.2 with
     |none=>rw [hi] at h;cases h
     |some s=>
      rw [hi] at h
      obtain ⟨rfl,rfl⟩:=Prod.mk.inj (Option.some.inj h)
      have h1:=(i7_ (xs:=q.1) (r:=q.2) hm).1
      have h3:=lk_ (xs:=s.1) (r:=s.2) hi
      rw [List.flatMap_cons,voLn,List.append_assoc,<-h3,List.cons_append,<-h1,<-pz_ ha hf]
  ·obtain ⟨rfl,rfl⟩:=Prod.mk.inj (Option.some.inj h);rfl
theorem ov_ {ls:List By} {p:Po} (h:poolP ls=some (p,[])):ls=poLn p:=by
 cases ls with
 |nil=>cases h
 |cons l r=>
  rw [poolP] at h
  split at h
  ·next ha=>
   cases h0:hdP l with
   |none=>rw [h0] at h;cases h
   |some e=>
    rw [h0,Option.bind_some] at h
    cases h1:manyP exK exP r with
    |none=>rw [h1] at h;cases h
    |some a=>
     rw [h1,Option.bind_some] at h
     cases h2:volsP a.2.length a.2 with
     |none=>rw [h2] at h;cases h
     |some b=>
      rw [h2,Option.bind_some] at h
      cases h3:manyP refK ctP b.2 with
      |none=>rw [h3] at h;cases h
      |some c=>
       rw [h3,Option.bind_some] at h
       cases h4:manyP lateK ctP c.2 with
       |none=>rw [h4] at h;cases h
       |some d=>
        rw [h4] at h
        obtain ⟨rfl,hd⟩:=Prod.mk.inj (Option.some.inj h)
        have e1:=(d2_ (g:=exLn) (fun l x=>px_) (xs:=a.1) (r:=a.2) h1).1
        have e2:=lk_ (xs:=b.1) (r:=b.2) h2
        have e3:=(d2_ (g:=ctLn refK) (fun l x=>o1_ (by decide)) (xs:=c.1) (r:=c.2) h3).1
        have e4:=(d2_ (g:=ctLn lateK) (fun l x=>o1_ (by decide)) (xs:=d.1) (r:=d.2) h4).1
        rw [hd,List.append_nil] at e4
        rw [e1,e2,e3,e4,pA_ ha h0]
        simp [poLn]
  ·cases h
/-- What the program reads of a text. -/
def readI (s:By):Option Po:=(lnsB s.length s).bind fun ls=>match poolP ls with
 |some (p,[])=>some p
 |_=>none
theorem hV_ {s:By} {p:Po} (h:readI s=some p):s=textW p:=by
 unfold readI at h
 cases h1:lnsB s.length s with
 |none=>rw [h1] at h;cases h
 |some ls=>
  rw [h1,Option.bind_some] at h
  split at h
  ·next q hq=>
   obtain rfl:=Option.some.inj h
   rw [cJ_,<-ov_ hq]
   exact (en_ h1).1
  ·cases h
theorem nk_ {c:UInt8} (hc:c≠32):∀ {ws:List By},(∀ w∈ws,c∉w)->c∉joW ws
 |[],_=>by simp [joW]
 |[a],h=>h a (by simp)
 |a::b::l,h=>by
  have:=nk_ hc (ws:=b::l) (fun w hw=>h w (by simp [List.mem_cons.1 hw]))
  have h2:=h a (by simp)
  rw [joW]
  simp [this,h2,hc]
theorem ks_ {p:Po} (h:NiceP p):∀ l∈poLn p,(10:UInt8)∉l:=by
 obtain ⟨ph,pe,pv,pc⟩:=h
 intro l hl
 unfold poLn at hl
 simp only [List.mem_append,List.mem_cons,List.mem_map,List.mem_flatMap] at hl
 have hk:∀ {ws:List By},(∀ w∈ws,(10:UInt8)∉w)->(10:UInt8)∉joW ws:=fun h=>nk_ (by decide) h
 have hct:∀ (wd:By) (c:Ct),(10:UInt8)∉wd->c∈p.rf++p.lt->(10:UInt8)∉ctLn wd c:=fun wd c hw hc=>by
  have:=(pc c hc).2.2
  refine hk ?_
  simp [hw,dZ_,this]
 rcases hl with (((rfl | ⟨e,he,rfl⟩) | ⟨v,hv,hl⟩) | ⟨c,hc,rfl⟩) | ⟨c,hc,rfl⟩
 ·refine hk ?_
  simp [dZ_];decide
 ·have:=(pe e he).2
  refine hk ?_
  simp [dZ_,this];decide
 ·obtain ⟨_,⟨_,hn⟩,hi⟩:=pv v hv
  unfold voLn at hl
  simp only [List.mem_cons,List.mem_flatMap] at hl
  rcases hl with rfl | ⟨x,hx,hl⟩
  ·refine hk ?_
   have:(10:UInt8)∉flagL v.fx:=by cases v.fx<;>decide
   simp [dZ_,hn,this];decide
  ·obtain ⟨⟨_,hx2⟩,_⟩:=hi x hx
   unfold itLn at hl
   simp only [List.mem_cons,List.mem_map] at hl
   rcases hl with rfl | ⟨t,ht,rfl⟩
   ·refine hk ?_
    simp [hx2];decide
   ·refine hk ?_
    simp [dZ_];decide
 ·exact hct _ _ (by decide) (by simp [hc])
 ·exact hct _ _ (by decide) (by simp [hc])
theorem i8_ {p:Po} (h:NiceP p):lnsB (textW p).length (textW p)=some (poLn p):=by
 rw [cJ_]
 exact iJ_ (ks_ h) (Nat.le_refl _)
theorem fd_ {p:Po} (h:NiceP p):readI (textW p)=some p:=by
 unfold readI
 rw [i8_ h,Option.bind_some,os_ h]
def numQ (w:List By) (i:Nat):Int:=match w[i]? with
 |none=>-1
 |some x=>(numP x).getD (-1)
def wordQ (w:List By) (i:Nat):By:=w[i]?.getD []
def behQ (l:By):By:=match cutB 32 l with
 |none=>[]
 |some q=>q.2
def modL {α:Type} (f:α->α):List α->List α
 |[]=>[]
 |[x]=>[f x]
 |x::y::l=>x::modL f (y::l)
theorem bv_ {α:Type} (f:α->α):∀ (a:List α) (x:α),modL f (a++[x])=a++[f x]
 |[],x=>rfl
 |[y],x=>rfl
 |y::z::a,x=>by
  show y::modL f (z::a++[x])=_
  rw [bv_ f (z::a) x];rfl
def ctQ (w:List By):Ct:=⟨⟨numQ w 1,numQ w 2,bA (wordQ w 3)⟩,(numP (wordQ w 4)).getD 0⟩
def volQ (w:List By):Vo:=⟨numQ w 1,bA (wordQ w 2),wordQ w 3==[49],[]⟩
/-- A pool with what a line says. -/
def lineG (p:Po) (k:By) (w:List By) (l:By):Po:=
 if k=poolK then {p with size:=numQ w 1,next:=numQ w 2}
 else if k=exK then {p with ex:=p.ex++[⟨numQ w 1,bA (behQ (behQ l))⟩]}
 else if k=volK then {p with vs:=p.vs++[volQ w]}
 else if k=fileK then {p with vs:=modL (fun v=>{v with its:=v.its++[⟨bA (wordQ w 1),[]⟩]}) p.vs}
 else if k=partK then {p with vs:=modL (fun v=>{v with its:=modL (fun x=>{x with ps:=x.ps++[⟨numQ w 1,numQ w 2,numQ w 3⟩]}) v.its}) p.vs}
 else if k=refK then {p with rf:=p.rf++[ctQ w]}
 else if k=lateK then {p with lt:=p.lt++[ctQ w]}
 else p
def lineF (p:Po) (l:By):Po:=lineG p (wordQ (wdsA l) 0) (wdsA l) l
theorem b6_ (p:Po) {l k:By} {r:List By} (h:wdsA l=k::r):lineF p l=lineG p k (k::r) l:=by
 unfold lineF
 rw [h]
 rfl
theorem i9_:∀ {ws:List By} {k:Nat},ws≠[]->(∀ w∈ws,(32:UInt8)∉w)->ws.length<=k+1->wdsN k (joW ws)=ws
 |[],_,h,_,_=>absurd rfl h
 |[a],0,_,_,_=>rfl
 |[a],k+1,_,h,_=>by
  show wdsN (k+1) a=_
  rw [wdsN,em_ (h a (by simp))]
 |a::b::l,0,_,_,hk=>by simp at hk
 |a::b::l,k+1,_,h,hk=>by
  show wdsN (k+1) (a++32::joW (b::l))=_
  rw [wdsN,bd_ _ (h a (by simp))]
  simp only
  rw [i9_ (by simp) (fun w hw=>h w (by simp [List.mem_cons.1 hw])) (by simpa using hk)]
theorem ll_:∀ (ws:List By),ws.length<=(joW ws).length+1
 |[]=>by simp
 |[a]=>by simp
 |a::b::l=>by
  have:=ll_ (b::l)
  simp [joW] at this ⊢;omega
theorem dn_ {ws:List By} (h:ws≠[]) (h2:∀ w∈ws,(32:UInt8)∉w):wdsA (joW ws)=ws:=i9_ h h2 (ll_ ws)
theorem ow_ {a b d:By} (ha:(32:UInt8)∉a) (hb:(32:UInt8)∉b):∃ r,wdsA (joW [a,b,d])=a::b::r:=by
 unfold wdsA
 obtain ⟨k,hk⟩:∃ k,(joW [a,b,d]).length=k+2:=⟨(joW [a,b,d]).length-2,by simp [joW];omega⟩
 rw [hk]
 show ∃ r,wdsN (k+2) (a++32::(b++32::d))=_
 rw [wdsN,bd_ _ ha]
 simp only
 rw [wdsN,bd_ _ hb]
 exact ⟨_,rfl⟩
theorem nl_ {a:By} {b:By} {l:List By} (h:(32:UInt8)∉a):behQ (joW (a::b::l))=joW (b::l):=by
 show behQ (a++32::joW (b::l))=_
 unfold behQ
 rw [bd_ _ h]
theorem bT_ {w:List By} {i:Nat} {n:Int} (h:w[i]?=some (Lib.itoa n)) (hn:Ten n):numQ w i=n:=by
 unfold numQ
 rw [h]
 simp [aF_ hn]
theorem nm_ (p:Po) {a b:Int} (h:Ten a∧Ten b):lineF p (joW [poolK,Lib.itoa a,Lib.itoa b])={p with size:=a,next:=b}:=by
 rw [b6_ p (dn_ (by simp) (by simp [aV_];decide)),lineG,if_pos rfl,bT_ rfl h.1,bT_ rfl h.2]
theorem nn_ (p:Po) {e:Ex} (h:Ten e.a):lineF p (exLn e)={p with ex:=p.ex++[e]}:=by
 obtain ⟨r,hr⟩:=ow_ (a:=exK) (b:=Lib.itoa e.a) (d:=e.d.data.toList) (by decide) (aV_ _)
 unfold exLn
 rw [b6_ p hr,lineG,if_neg (by decide),if_pos rfl,bT_ rfl h,nl_ (by decide),nl_ (aV_ _)]
 simp [joW,bB_]
theorem ml_ (p:Po) {v:Vo} (h:Ten v.id) (h2:(32:UInt8)∉v.nm.data.toList):lineF p (joW [volK,Lib.itoa v.id,v.nm.data.toList,flagL v.fx])={p with vs:=p.vs++[{v with its:=[]}]}:=by
 have hf:(32:UInt8)∉flagL v.fx:=by cases v.fx<;>decide
 rw [b6_ p (dn_ (by simp) (by simp [aV_,h2,hf];decide)),lineG,if_neg (by decide),if_neg (by decide),if_pos rfl,volQ,bT_ rfl h]
 have e:(wordQ [volK,Lib.itoa v.id,v.nm.data.toList,flagL v.fx] 3==[49])=v.fx:=by
  show (flagL v.fx==[49])=_
  cases v.fx<;>rfl
 rw [e]
 simp [wordQ,bB_]
theorem kt_ (p:Po) {nm:ByteArray} (h2:(32:UInt8)∉nm.data.toList):lineF p (joW [fileK,nm.data.toList])={p with vs:=modL (fun v=>{v with its:=v.its++[⟨nm,[]⟩]}) p.vs}:=by
 rw [b6_ p (dn_ (by simp) (by simp [h2];decide)),lineG,if_neg (by decide),if_neg (by decide),if_neg (by decide),if_pos rfl]
 simp [wordQ,bB_]
theorem ku_ (p:Po) {t:Pt} (h:Ten t.a∧Ten t.f∧Ten t.n):lineF p (ptLn t)={p with vs:=modL (fun v=>{v with its:=modL (fun x=>{x with ps:=x.ps++[t]}) v.its}) p.vs}:=by
 unfold ptLn
 rw [b6_ p (dn_ (by simp) (by simp [aV_];decide)),lineG,if_neg (by decide),if_neg (by decide),if_neg (by decide),if_neg (by decide),if_pos rfl,bT_ rfl h.1,bT_ rfl h.2.1,bT_ rfl h.2.2]
theorem no_ {wd:By} {c:Ct} (h:Ten c.o.a∧Ten c.o.v∧Ten c.n):ctQ [wd,Lib.itoa c.o.a,Lib.itoa c.o.v,c.o.f.data.toList,Lib.itoa c.n]=c:=by
 unfold ctQ
 rw [bT_ rfl h.1,bT_ rfl h.2.1]
 simp [wordQ,bB_,aF_ h.2.2]
theorem mm_ (p:Po) {c:Ct} (h:Ten c.o.a∧Ten c.o.v∧Ten c.n) (h2:(32:UInt8)∉c.o.f.data.toList):lineF p (ctLn refK c)={p with rf:=p.rf++[c]}:=by
 unfold ctLn
 rw [b6_ p (dn_ (by simp) (by simp [aV_,h2];decide)),lineG,if_neg (by decide),if_neg (by decide),if_neg (by decide),if_neg (by decide),if_neg (by decide),if_pos rfl,no_ h]
theorem kv_ (p:Po) {c:Ct} (h:Ten c.o.a∧Ten c.o.v∧Ten c.n) (h2:(32:UInt8)∉c.o.f.data.toList):lineF p (ctLn lateK c)={p with lt:=p.lt++[c]}:=by
 unfold ctLn
 rw [b6_ p (dn_ (by simp) (by simp [aV_,h2];decide)),lineG,if_neg (by decide),if_neg (by decide),if_neg (by decide),if_neg (by decide),if_neg (by decide),if_neg (by decide),if_pos rfl,no_ h]
theorem lm_:∀ {l:List Ex} (p:Po),(∀ e∈l,Ten e.a)->(l.map exLn).foldl lineF p={p with ex:=p.ex++l}
 |[],p,_=>by simp
 |e::l,p,h=>by
  rw [List.map_cons,List.foldl_cons,nn_ p (h e (by simp)),lm_ _ (fun x hx=>h x (by simp [hx]))]
  simp
theorem ja_:∀ {l:List Ct} (p:Po),(∀ c∈l,(Ten c.o.a∧Ten c.o.v∧Ten c.n)∧(32:UInt8)∉c.o.f.data.toList)->(l.map (ctLn refK)).foldl lineF p={p with rf:=p.rf++l}
 |[],p,_=>by simp
 |e::l,p,h=>by
  rw [List.map_cons,List.foldl_cons,mm_ p (h e (by simp)).1 (h e (by simp)).2,ja_ _ (fun x hx=>h x (by simp [hx]))]
  simp
theorem hc_:∀ {l:List Ct} (p:Po),(∀ c∈l,(Ten c.o.a∧Ten c.o.v∧Ten c.n)∧(32:UInt8)∉c.o.f.data.toList)->(l.map (ctLn lateK)).foldl lineF p={p with lt:=p.lt++l}
 |[],p,_=>by simp
 |e::l,p,h=>by
  rw [List.map_cons,List.foldl_cons,kv_ p (h e (by simp)).1 (h e (by simp)).2,hc_ _ (fun x hx=>h x (by simp [hx]))]
  simp
theorem hd_:∀ {l:List Pt} (p:Po) (vs:List Vo) (v:Vo) (xs:List It) (x:It),(∀ t∈l,Ten t.a∧Ten t.f∧Ten t.n)->(l.map ptLn).foldl lineF {p with vs:=vs++[{v with its:=xs++[x]}]}={p with vs:=vs++[{v with its:=xs++[{x with ps:=x.ps++l}]}]}
 |[],p,vs,v,xs,x,_=>by simp
 |t::l,p,vs,v,xs,x,h=>by
  rw [List.map_cons,List.foldl_cons,ku_ _ (h t (by simp))]
  simp only [bv_]
  rw [hd_ p vs v xs {x with ps:=x.ps++[t]} (fun x hx=>h x (by simp [hx]))]
  simp
theorem he_:∀ {l:List It} (p:Po) (vs:List Vo) (v:Vo) (xs:List It),(∀ x∈l,(32:UInt8)∉x.nm.data.toList∧∀ t∈x.ps,Ten t.a∧Ten t.f∧Ten t.n)->(l.flatMap itLn).foldl lineF {p with vs:=vs++[{v with its:=xs}]}={p with vs:=vs++[{v with its:=xs++l}]}
 |[],p,vs,v,xs,_=>by simp
 |x::l,p,vs,v,xs,h=>by
  obtain ⟨h1,h2⟩:=h x (by simp)
  rw [List.flatMap_cons,List.foldl_append,itLn,List.foldl_cons,kt_ _ h1]
  simp only [bv_]
  rw [hd_ p vs v xs ⟨x.nm,[]⟩ h2]
  simp only [List.nil_append]
  rw [he_ p vs v (xs++[x]) (fun y hy=>h y (by simp [hy]))]
  simp
theorem jb_:∀ {l:List Vo} (p:Po) (vs:List Vo),(∀ v∈l,Ten v.id∧(32:UInt8)∉v.nm.data.toList∧∀ x∈v.its,(32:UInt8)∉x.nm.data.toList∧∀ t∈x.ps,Ten t.a∧Ten t.f∧Ten t.n)->(l.flatMap voLn).foldl lineF {p with vs:=vs}={p with vs:=vs++l}
 |[],p,vs,_=>by simp
 |v::l,p,vs,h=>by
  obtain ⟨h1,h2,h3⟩:=h v (by simp)
  rw [List.flatMap_cons,List.foldl_append,voLn,List.foldl_cons,ml_ _ h1 h2]
  simp only
  rw [he_ p vs v [] h3]
  simp only [List.nil_append]
  rw [jb_ p (vs++[v]) (fun y hy=>h y (by simp [hy]))]
  simp
def emptyP:Po:=⟨0,0,[],[],[],[]⟩
theorem mn_ {p:Po} (h:NiceP p):(poLn p).foldl lineF emptyP=p:=by
 obtain ⟨ph,pe,pv,pc⟩:=h
 have e:poLn p=joW [poolK,Lib.itoa p.size,Lib.itoa p.next]::(p.ex.map exLn++(p.vs.flatMap voLn++(p.rf.map (ctLn refK)++p.lt.map (ctLn lateK)))):=by simp [poLn]
 rw [e,List.foldl_cons,nm_ _ ph,List.foldl_append,lm_ _ (fun x hx=>(pe x hx).1),List.foldl_append]
 simp only [emptyP,List.nil_append]
 have hv:=jb_ (l:=p.vs) ⟨p.size,p.next,p.ex,[],[],[]⟩ [] (fun v hv=>⟨(pv v hv).1,(pv v hv).2.1.1,fun x hx=>⟨((pv v hv).2.2 x hx).1.1,((pv v hv).2.2 x hx).2⟩⟩)
 simp only [List.nil_append] at hv
 rw [hv,List.foldl_append,ja_ _ (fun c hc=>⟨(pc c (by simp [hc])).1,(pc c (by simp [hc])).2.1⟩),hc_ _ (fun c hc=>⟨(pc c (by simp [hc])).1,(pc c (by simp [hc])).2.1⟩)]
 simp
/-- What the model makes of a text. -/
def readM (s:By):Option Po:=(lnsB s.length s).map fun ls=>ls.foldl lineF emptyP
theorem ln_ {p:Po} (h:NiceP p):readM (textW p)=some p:=by
 unfold readM
 rw [i8_ h]
 simp [mn_ h]
end Go.Proofs.YtigldeccfpkdmaaGreatDoor
namespace Go.Proofs.YtigldeccfpkdmaaGreatDoor
open Go Go.RowKit Go.BigFrame
set_option maxHeartbeats 20000000
set_option maxRecDepth 100000
theorem kw_ {P:Program} {w w':World} {v v':Value} (base:Nat) (t ty e:TypeId) (i:TypeInfo) (z:Value) (size bytes:Nat) (ht:P.underlying t=some (.slice e)) (hi:P.info? e=some i) (hz:i.zero=some z)
  (hsize:i.size=size) (hby:i.bytes=bytes) (n:Nat) (xs:List Value) (hown:w.ownsRow base e size v n xs)
  (a:Addr) (m c:Nat) (news:List Value) (hl:news.length=m*size) (hnews:∀ j u,news[j]?=some u->w.cell? (a.add j)=some u) (h1:∀ u∈news,u.oneCell'=true)
  (h63:n+m<=maxLen) (hbytes:(n+m)*bytes<=140737488355328) (hr:(Builtin.append_ #[t,t] ty #[v,.slice (some a) m c]).run P w=.ok v' w') (hnil:v'=.slice none 0 0↔v=.slice none 0 0∧m=0) :
  ∀ g,v'.ownBlock=some g->v.ownBlock=some g∨w.heap.size<=g:=by
 by_cases hm:0<m
 ·exact mb_ base t ty e i z size bytes ht hi hz hsize hby n xs hown a m c news hm hl hnews h1 h63 hbytes hr
 ·obtain rfl:m=0:=by omega
  subst hsize
  intro g' hg'
  rcases hown.2 with ⟨rfl,rfl⟩ | ⟨g,cap,cur,rfl,hbg,hg,hnc,hcm,hcs,htake⟩
  ·rw [hnil.2 ⟨rfl,rfl⟩] at hg'
   simp [Value.ownBlock] at hg'
  ·have hfit:n*i.size+news.length<=cur.size:=by rw [hl,hcs,<-Nat.add_mul];exact Nat.mul_le_mul_right _ (by omega)
   have hr2:=run_append_room (P:=P) w t ty e i ht hi g n cap cur hg a 0 c news hl hnews h1 (by omega) hfit
   rw [hr] at hr2
   cases hr2
   left
   simpa [Value.ownBlock] using hg'
theorem bh_ {α:Type} {cs:α->List Value} {size:Nat} {P:Program} {o:Oper} {a:Act} {w:World} {K:Act->World->Prop} {Q:Exit->Act->World->Prop}
  (s x:Operand) (t:TypeId) (ho:o.op=.call {callee:=.builtin .append,args:=#[s,x],argTypes:=#[t,t]})
  (B:Nat) (e:TypeId) (i:TypeInfo) (z:Value) (bytes:Nat) (ht:P.underlying t=some (.slice e)) (hi:P.info? e=some i) (hz:i.zero=some z) (hsize:i.size=size) (hby:i.bytes=bytes) (hzs:z.cells.size=size) (hpos:0<size)
  (hsz:∀ y,(cs y).length=size) (hone:∀ (l:List α),∀ u∈l.flatMap cs,u.oneCell'=true)
  (da:Option Addr) (dn dcap:Nat) (ld:List α) (hs:a.eval s=.slice da dn dcap) (hd:ResAt cs size e w B da dn dcap ld)
  (sa:Option Addr) (sn scap:Nat) (ls:List α) (hx:a.eval x=.slice sa sn scap) (hsrc:SlAt cs size w sa sn ls) (hspot:∀ ad,sa=some ad->ad.spot=none) (hnone:sa=none->scap=0)
  (tot:Nat) (htot:dn+sn=tot) (h63:tot<=maxLen) (hbytes:tot*bytes<=140737488355328) (hbase:B<=w.heap.size)
  (h:∀ a' cap' w',ResAt cs size e w' B a' tot cap' (ld++ls)->w.grownBy w' (Value.ownBlock (.slice da dn dcap))->(∀ ad',a'=some ad'->(∃ ad,da=some ad∧ad.block=ad'.block)∨w.heap.size<=ad'.block)->K (a.put o.dst (.slice a' tot cap')) w'):o.wp P a w K Q:=by
 subst htot
 have hrow:=hd.row hsz
 have hlen:(ld++ls).length=dn+sn:=by rw [List.length_append,hd.sl.len,hsrc.len]
 cases sa with
 |none=>
  have h0:sn=0:=by
   cases ls with
   |nil=>rw [<-hsrc.len];rfl
   |cons y r=>obtain ⟨b,o',hb,_⟩:=hsrc.cell 0 y rfl;cases hb
  obtain rfl:=h0
  obtain rfl:=hnone rfl
  have hl0:ls=[]:=List.eq_nil_of_length_eq_zero hsrc.len
  subst hl0
  have hrun:=run_append_owned_none (P:=P) w B t o.type e i size ht hi (.slice da dn dcap) dn (ld.flatMap cs) hrow
  unfold Oper.wp
  simp [execOp,ho,resolve,invoke,builtin,hs,hx,hrun,Result.andThen]
  exact h da dcap w (by simpa using hd) (World.grownBy.refl _ _) (fun ad' had'=>.inl ⟨ad',had',rfl⟩)
 |some ad=>
  obtain ⟨b,off,spot⟩:=ad
  have:=hspot _ rfl
  simp only at this
  subst this
  have hnl:(ls.flatMap cs).length=sn*size:=by rw [aT_ hsz,hsrc.len]
  obtain ⟨v',w',hr,hrow',hg,hnil⟩:=run_append_own (P:=P) w B t o.type e i z size bytes ht hi hz hsize hby hzs hpos (.slice da dn dcap) dn (ld.flatMap cs) hrow ⟨b,off,none⟩ sn scap (ls.flatMap cs) hnl (SlAt.src hsz hsrc) (hone ls) h63 hbytes hbase
  have hfr:=kw_ (P:=P) B t o.type e i z size bytes ht hi hz hsize hby dn (ld.flatMap cs) hrow ⟨b,off,none⟩ sn scap (ls.flatMap cs) hnl (SlAt.src hsz hsrc) (hone ls) h63 hbytes hr hnil
  rw [<-List.flatMap_append] at hrow'
  obtain ⟨a',cap',rfl,hres⟩:=cH_ hsz hlen hrow'
  unfold Oper.wp
  simp [execOp,ho,resolve,invoke,builtin,hs,hx,hr,Result.andThen]
  refine h a' cap' w' hres hg (fun ad' had'=>?_)
  subst had'
  rcases hfr ad'.block (by simp [Value.ownBlock]) with h1 | h1
  ·cases da with
   |none=>simp [Value.ownBlock] at h1
   |some ad=>exact .inl ⟨ad,rfl,by simpa [Value.ownBlock] using h1⟩
  ·exact .inr h1
theorem infMI:(Tryz.prog.info? tI).map (fun i=>(i.zero,i.size,i.bytes))=some (some (.agg #[.string .empty,.slice none 0 0]),2,40):=by kernel_rfl
theorem infMV:(Tryz.prog.info? tV).map (fun i=>(i.zero,i.size,i.bytes))=some (some (.agg #[.int .i64 0,.string .empty,.bool false,.slice none 0 0]),4,56):=by kernel_rfl
theorem infMP:(Tryz.prog.info? tP).map (fun i=>(i.zero,i.size,i.bytes))=some (some (.agg #[.int .i64 0,.int .i64 0,.int .i64 0]),3,24):=by kernel_rfl
theorem infME:(Tryz.prog.info? tE).map (fun i=>(i.zero,i.size,i.bytes))=some (some (.agg #[.int .i64 0,.string .empty]),2,24):=by kernel_rfl
theorem infMC:(Tryz.prog.info? tC).map (fun i=>(i.zero,i.size,i.bytes))=some (some (.agg #[.int .i64 0,.int .i64 0,.string .empty,.int .i64 0]),4,40):=by kernel_rfl
theorem b7_ (ws:List By) (i:Nat):idxN (ws.map bA) i=numQ ws i:=by
 unfold idxN numQ
 rw [List.getElem?_map]
 cases ws[i]? with
 |none=>rfl
 |some x=>simp [af_]
theorem b8_ (ws:List By) (i:Nat):idxW (ws.map bA) i=bA (wordQ ws i):=by
 unfold idxW wordQ
 rw [List.getElem?_map]
 cases ws[i]? with
 |none=>rfl
 |some x=>rfl
/-- Lists of at most K rows. -/
structure DimM (K:Nat) (p:Po):Prop where
 ex:p.ex.length<=K
 vs:p.vs.length<=K
 its:∀ v∈p.vs,v.its.length<=K∧∀ x∈v.its,x.ps.length<=K
 rf:p.rf.length<=K
 lt:p.lt.length<=K
def put6 (w:World) (b:Nat) (x0 x1 x2 x3 x4 x5:Value):World:=(((((w.setCell ⟨b,0,none⟩ x0).setCell ⟨b,1,none⟩ x1).setCell ⟨b,2,none⟩ x2).setCell ⟨b,3,none⟩ x3).setCell ⟨b,4,none⟩ x4).setCell ⟨b,5,none⟩ x5
theorem PoolM.box {B:Nat} {w w':World} {b:Nat} {c:Array Value} {v:Value} {p:Po} (h:PoolM B w v p) (hg:w.grownBy w' (some b)) (hb:Blk w b c 26):PoolM B w' v p:=by
 have hr:=ap_ hb
 obtain ⟨ea,en,ec,va,vn,vc,ra,rn,rc,la,ln,lc,vr,e,h1,h2,h3,h4,h5,h6,h7,h8⟩:=h.out
 exact ⟨ea,en,ec,va,vn,vc,ra,rn,rc,la,ln,lc,vr,e,h1.ty hg hr (by decide),h2.ty hg hr (by decide),h3.ty hg hr (by decide),h4.ty hg hr (by decide),h5,h6.imp fun _ _ _ h=>h.ty hg hr (by decide) (by decide),h7,h8⟩
theorem an_ {B:Nat} {w0 w:World} {b:Nat} {c0 c1 c2 c3 c4 c5 x0 x1 x2 x3 x4 x5:Value} {p:Po} (h:Blk w b #[c0,c1,c2,c3,c4,c5] 26) (hB:Below B w0 w) (hb:B<=b) (hM:PoolM B w (.agg #[x0,x1,x2,x3,x4,x5]) p) :
  Blk (put6 w b x0 x1 x2 x3 x4 x5) b #[x0,x1,x2,x3,x4,x5] 26∧PoolM B (put6 w b x0 x1 x2 x3 x4 x5) (.agg #[x0,x1,x2,x3,x4,x5]) p∧Below B w0 (put6 w b x0 x1 x2 x3 x4 x5):=by
 have hg:w.grownBy (put6 w b x0 x1 x2 x3 x4 x5) (some b):=ac_ (ac_ (ac_ (ac_ (ac_ (ac_ (World.grownBy.refl _ _) _ _) _ _) _ _) _ _) _ _) _ _
 refine ⟨?_,hM.box hg h,hB.grown hg (by have:=h.lt;omega) (fun k e=>by cases e;exact hb)⟩
 have:=(((((h.set 0 x0).set 1 x1).set 2 x2).set 3 x3).set 4 x4).set 5 x5
 unfold put6
 simpa using this
theorem cv_ {B:Nat} {w0 w:World} {b:Nat} {c:Array Value} {v:Value} {p:Po} (h:Blk w b c 26) (hB:Below B w0 w) (hb:B<=b) (hM:PoolM B w v p) (i:Nat) (x:Value) :
  Blk (w.setCell ⟨b,i,none⟩ x) b (c.setIfInBounds i x) 26∧PoolM B (w.setCell ⟨b,i,none⟩ x) v p∧Below B w0 (w.setCell ⟨b,i,none⟩ x)∧w.grownBy (w.setCell ⟨b,i,none⟩ x) (some b):=by
 have hg:w.grownBy (w.setCell ⟨b,i,none⟩ x) (some b):=ac_ (World.grownBy.refl _ _) _ _
 exact ⟨h.set i x,hM.box hg h,hB.grown hg (by have:=h.lt;omega) (fun k e=>by cases e;exact hb),hg⟩
/-- A pool with other numbers. -/
theorem PoolM.nums {B:Nat} {w:World} {p:Po} {a b a' b':Int} {x2 x3 x4 x5:Value} (h:PoolM B w (.agg #[.int .i64 a,.int .i64 b,x2,x3,x4,x5]) p):PoolM B w (.agg #[.int .i64 a',.int .i64 b',x2,x3,x4,x5]) {p with size:=a',next:=b'}:=by
 obtain ⟨ea,en,ec,va,vn,vc,ra,rn,rc,la,ln,lc,vr,e,h1,h2,h3,h4,h5,h6,h7,h8⟩:=h.out
 cases e
 exact ⟨ea,en,ec,va,vn,vc,ra,rn,rc,la,ln,lc,vr,rfl,h1,h2,h3,h4,h5,h6,h7,h8⟩
theorem do_ (c:Ct):c.cs.length=4:=rfl
theorem hW_:∀ (l:List Ct),∀ u∈l.flatMap Ct.cs,u.oneCell'=true:=by
 intro l u hu
 obtain ⟨x,_,hx⟩:=List.mem_flatMap.1 hu
 simp [Ct.cs] at hx
 rcases hx with rfl | rfl | rfl | rfl<;>rfl
theorem bi_ {α:Type} {cs:α->List Value} {sz:Nat} (_hsz:∀ y,(cs y).length=sz) (w:World) (x:α) (t:TypeId) (b:Nat) (hb:b=w.heap.size):SlAt cs sz (w.alloc (.cells (cs x).toArray t)) (some ⟨b,0,none⟩) 1 [x]:=by
 subst hb
 refine ⟨rfl,fun i y hy=>⟨w.heap.size,0,rfl,fun j v hv=>?_⟩⟩
 obtain rfl:i=0:=by have:=(List.getElem?_eq_some_iff.1 hy).1;simp at this;exact this
 simp at hy
 subst hy
 simp [hv]
theorem cbx {w:World} {b:Nat} {c0 c1 c2 c3:Value} {t:TypeId} (h:Blk w b #[c0,c1,c2,c3] t):w.cell? ⟨b,0,none⟩=some c0∧w.cell? ⟨b,1,none⟩=some c1∧w.cell? ⟨b,2,none⟩=some c2∧w.cell? ⟨b,3,none⟩=some c3:=⟨h.cell 0,h.cell 1,h.cell 2,h.cell 3⟩
theorem lo_ {a:Option Addr} {n c b:Nat} (h:∀ ad,a=some ad->ad.block≠b):some b≠Value.ownBlock (.slice a n c):=by
 cases a with
 |none=>simp [Value.ownBlock]
 |some ad=>have:=h ad rfl;simp [Value.ownBlock];omega
theorem bj_ {a:Option Addr} {n c B:Nat} (h:∀ ad,a=some ad->B<=ad.block):∀ k,Value.ownBlock (.slice a n c)=some k->B<=k:=by
 intro k hk
 cases a with
 |none=>simp [Value.ownBlock] at hk
 |some ad=>have:=h ad rfl;simp [Value.ownBlock] at hk;omega
theorem d3_ (c:VR):c.cs.length=4:=rfl
theorem d4_ (c:IR):c.cs.length=2:=rfl
theorem mo_ (vr:List VR) (i:Int) (t:ByteArray) (b:Bool):vblk (vr++[⟨i,t,b,none,0,0,[]⟩])=vblk vr:=by
 unfold vblk
 simp [blkO]
theorem np_ (vr:List VR) (i:Int) (t:ByteArray) (b:Bool):pblk (vr++[⟨i,t,b,none,0,0,[]⟩])=pblk vr:=by
 unfold pblk
 simp
theorem Al2.lastL {α β:Type} {R:α->β->Prop} {x:α}:∀ {l:List α} {m:List β},Al2 R (l++[x]) m->∃ m' y,m=m'++[y]∧Al2 R l m'∧R x y
 |[],_,h=>by
  cases h with
  |cons hr ht=>cases ht;exact ⟨[],_,rfl,.nil,hr⟩
 |z::l,_,h=>by
  cases h with
  |cons hr ht=>
   obtain ⟨m',y,rfl,h1,h2⟩:=Al2.lastL ht
   exact ⟨_::m',y,rfl,.cons hr h1,h2⟩
theorem fe_ (c:Ex):c.cs.length=2:=rfl
theorem lp_:∀ (l:List Ex),∀ u∈l.flatMap Ex.cs,u.oneCell'=true:=by
 intro l u hu
 obtain ⟨x,_,hx⟩:=List.mem_flatMap.1 hu
 simp [Ex.cs] at hx
 rcases hx with rfl | rfl<;>rfl
theorem jc_ (s:ByteArray):∃ x y,cutV 32 s=.tuple #[x,.string (bA (behQ s.data.toList)),y]:=by
 unfold cutV behQ
 cases cutB 32 s.data.toList with
 |none=>exact ⟨_,_,rfl⟩
 |some q=>exact ⟨_,_,rfl⟩
theorem jd_ (s:ByteArray):(bA (behQ s.data.toList)).size<=s.size:=by
 rw [Lib.size_eq,af_,Lib.size_eq s]
 unfold behQ
 cases hc:cutB 32 s.data.toList with
 |none=>simp
 |some q=>
  obtain ⟨h1,_⟩:=ay_ (a:=q.1) (b:=q.2) hc
  rw [h1];simp;omega
/-- A goal kept from the walk. -/
structure HeldM (P:Prop):Prop where
 out:P
theorem cw_ (l:List VR) (r:VR):vblk (l++[r])=vblk l++(blkO r.a).toList:=by
 unfold vblk
 rw [List.filterMap_append]
 cases h:blkO r.a<;>simp [h]
theorem cx_ (l:List VR) (r:VR):pblk (l++[r])=pblk l++r.irs.filterMap fun x=>blkO x.a:=by
 unfold pblk
 rw [List.flatMap_append]
 simp
theorem c3_ (l:List IR) (r:IR):(l++[r]).filterMap (fun x=>blkO x.a)=l.filterMap (fun x=>blkO x.a)++(blkO r.a).toList:=by
 rw [List.filterMap_append]
 cases h:blkO r.a<;>simp [h]
theorem dp_ {l:List Nat} {o o':Option Nat} {H:Nat} (h:(l++o.toList).Nodup) (hlt:∀ b∈l,b<H) (hf:∀ b,o'=some b->o=some b∨H<=b):(l++o'.toList).Nodup:=by
 have h1:=(List.nodup_append.1 h)
 cases o' with
 |none=>simpa using h1.1
 |some b=>
  rw [Option.toList,List.nodup_append]
  refine ⟨h1.1,by simp,fun x hx y hy=>?_⟩
  simp at hy
  subst hy
  rcases hf y rfl with rfl | hb
  ·exact h1.2.2 x hx y (by simp)
  ·have:=hlt x hx
   omega
theorem cL_ {l:List Nat} {o:Option Nat} {b:Nat} (h:(l++o.toList).Nodup) (hb:b∈l):o≠some b:=fun e=>by
 subst e
 exact (List.nodup_append.1 h).2.2 b hb b (by simp) rfl
theorem fM_ {l:List VR} {r:VR} {ad:Addr} (hr:r∈l) (ha:r.a=some ad):ad.block∈vblk l:=by
 unfold vblk
 exact List.mem_filterMap.2 ⟨r,hr,by simp [blkO,ha]⟩
theorem je_ {l:List VR} {r:VR} {x:IR} {ad:Addr} (hr:r∈l) (hx:x∈r.irs) (ha:x.a=some ad):ad.block∈pblk l:=by
 unfold pblk
 exact List.mem_flatMap.2 ⟨r,hr,List.mem_filterMap.2 ⟨x,hx,by simp [blkO,ha]⟩⟩
theorem ff_ {a:Option Addr} {n c b:Nat} (h:blkO a≠some b):some b≠Value.ownBlock (.slice a n c):=by
 cases a with
 |none=>simp [Value.ownBlock]
 |some ad=>simp [blkO] at h;simp [Value.ownBlock];omega
theorem VoR.offI {w w':World} {B:Nat} {row:Option Nat} {r:VR} {v:Vo} (h:VoR w B r v) (hg:w.grownBy w' row) (hr:RowTy w row tI) (hne:∀ ad,r.a=some ad->some ad.block≠row):VoR w' B r v:=
 ⟨h.id,h.nm,h.fx,h.rows.off hg hne,h.its.imp fun _ _ _ h=>h.ty hg hr (by decide)⟩
theorem VoR.offP {w w':World} {B:Nat} {row:Option Nat} {r:VR} {v:Vo} (h:VoR w B r v) (hg:w.grownBy w' row) (hr:RowTy w row tP) (hne:∀ x∈r.irs,∀ ad,x.a=some ad->some ad.block≠row):VoR w' B r v:=
 ⟨h.id,h.nm,h.fx,h.rows.ty hg hr (by decide),h.its.imp fun x hx _ h=>⟨h.nm,h.ps.off hg (hne x hx)⟩⟩
theorem hX_ {w:World} {B:Nat}:∀ {l:List VR} {m:List Vo},Al2 (VoR w B) l m->∀ b∈vblk l,b<w.heap.size
 |_,_,.nil,b,hb=>by simp [vblk] at hb
 |r::l,_,.cons hr ht,b,hb=>by
  unfold vblk at hb
  obtain ⟨x,hx,e⟩:=List.mem_filterMap.1 hb
  rcases List.mem_cons.1 hx with rfl | hx
  ·cases ha:x.a with
   |none=>rw [ha] at e;cases e
   |some ad=>
    rw [ha] at e
    obtain rfl:=Option.some.inj e
    exact (hr.rows.block ad ha).2
  ·exact hX_ ht b (List.mem_filterMap.2 ⟨x,hx,e⟩)
theorem fg_ {w:World} {B:Nat}:∀ {l:List IR} {m:List It},Al2 (ItR w B) l m->∀ b∈l.filterMap (fun x=>blkO x.a),b<w.heap.size
 |_,_,.nil,b,hb=>by simp at hb
 |r::l,_,.cons hr ht,b,hb=>by
  obtain ⟨x,hx,e⟩:=List.mem_filterMap.1 hb
  rcases List.mem_cons.1 hx with rfl | hx
  ·cases ha:x.a with
   |none=>rw [ha] at e;cases e
   |some ad=>
    rw [ha] at e
    obtain rfl:=Option.some.inj e
    exact (hr.ps.block ad ha).2
  ·exact fg_ ht b (List.mem_filterMap.2 ⟨x,hx,e⟩)
theorem hY_ {w:World} {B:Nat}:∀ {l:List VR} {m:List Vo},Al2 (VoR w B) l m->∀ b∈pblk l,b<w.heap.size
 |_,_,.nil,b,hb=>by simp [pblk] at hb
 |r::l,_,.cons hr ht,b,hb=>by
  unfold pblk at hb
  obtain ⟨x,hx,e⟩:=List.mem_flatMap.1 hb
  rcases List.mem_cons.1 hx with rfl | hx
  ·exact fg_ hr.its b e
  ·exact hY_ ht b (List.mem_flatMap.2 ⟨x,hx,e⟩)
theorem jf_ {α:Type} (l:List α) (x y:α):(l++[x]).set l.length y=l++[y]:=by simp
theorem Blk.sixM {w:World} {b:Nat} {c0 c1 c2 c3 c4 c5:Value} {t:TypeId} (h:Blk w b #[c0,c1,c2,c3,c4,c5] t):w.cell? ⟨b,0,none⟩=some c0∧w.cell? ⟨b,1,none⟩=some c1∧w.cell? ⟨b,2,none⟩=some c2∧w.cell? ⟨b,3,none⟩=some c3∧w.cell? ⟨b,4,none⟩=some c4∧w.cell? ⟨b,5,none⟩=some c5:=⟨h.cell 0,h.cell 1,h.cell 2,h.cell 3,h.cell 4,h.cell 5⟩
theorem fh_ (c:Pt):c.cs.length=3:=rfl
/-- What a row does not show does not matter. -/
theorem nq_ {w:World} {B n c:Nat} {a:Option Addr} {l:List VR} {r r':VR} (h:ResAt VR.cs 4 tV w B a n c (l++[r])) (he:r'.cs=r.cs):ResAt VR.cs 4 tV w B a n c (l++[r']):=by
 refine ⟨⟨by have:=h.sl.len;simpa using this,fun i x hx=>?_⟩,?_⟩
 ·rcases Nat.lt_or_ge i l.length with hi | hi
  ·rw [List.getElem?_append_left hi] at hx
   exact h.sl.cell i x (by rw [List.getElem?_append_left hi];exact hx)
  ·rw [List.getElem?_append_right hi] at hx
   have h0:i-l.length=0:=by have:=(List.getElem?_eq_some_iff.1 hx).1;simp at this;omega
   rw [h0] at hx
   obtain rfl:r'=x:=by simpa using hx
   rw [he]
   exact h.sl.cell i r (by rw [List.getElem?_append_right hi,h0];rfl)
 ·rcases h.own with h0 | ⟨b,ha,hB,h1,h2,k,hk,h3,h4⟩
  ·exact .inl h0
  ·refine .inr ⟨b,ha,hB,h1,h2,k,hk,h3,?_⟩
   rw [h4]
   simp [he]
end Go.Proofs.YtigldeccfpkdmaaGreatDoor
