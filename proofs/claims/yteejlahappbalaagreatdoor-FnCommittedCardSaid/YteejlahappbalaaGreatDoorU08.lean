/- A copy of items. -/
import Derived.Lib.Overlaps
import Derived.Laws.CopyOwn
import Derived.Test.YteejlahappbalaaGreatDoorU06
set_option maxHeartbeats 20000000
set_option maxRecDepth 100000
namespace Go.Proofs.YteejlahappbalaaGreatDoor
section
open Go Go.RowKit Go.BigFrame Tryz
theorem EL.low {B k:Nat}{w w':World}{r:IR}{y:It}(h:EL B w r y)(hg:w.grownBy w' (some k))(hk:k<B):EL B w' r y:=⟨h.nm,h.ps.grown hg (fun ad e=>by have:=(h.ps.block ad e).1;omega)⟩
theorem Et.low {B k:Nat}{w w':World}{r:VR}{y:Vo}(h:Et B w r y)(hg:w.grownBy w' (some k))(hk:k<B):Et B w' r y:=by
 obtain⟨e1,e2,e3,rs,R,T⟩:=h;exact⟨e1,e2,e3,rs,R.grown hg (fun ad e=>by have:=(R.block ad e).1;omega),T.len,fun i r y h1 h2=>(T.at' i r y h1 h2).low hg hk⟩
theorem Bc.low {B k:Nat}{w w':World}{rows:List VR}{l:List Vo}(h:Bc B w rows l)(hg:w.grownBy w' (some k))(hk:k<B):Bc B w' rows l:=⟨h.len,fun i r y h1 h2=>(h.at' i r y h1 h2).low hg hk⟩
theorem d5_ {α:Type}(q:α->Bool)(l:List α):l.take (l.takeWhile q).length=l.takeWhile q∧l.drop (l.takeWhile q).length=l.dropWhile q:=by
 have h:=List.takeWhile_append_dropWhile (p:=q) (l:=l);constructor
 ·conv=>lhs;arg 2;rw[<-h]
  exact List.take_left
 ·conv=>lhs;arg 2;rw[<-h]
  exact List.drop_left
theorem aC_ {P:Program}{ops:Array Oper}{Q:Exit->Act->World->Prop}{S:World->Prop}{id:Nat}{a:Act}{w:World}(n:Nat)(hm:P.follows .mixedOrders=true)(hn:ops.size=n)
  (h:wpAnyH P .any ops Q S n (Array.replicate n false) a w.drew):(Code.region id ops true).wp P Q a w:=by
 subst hn;exact wp_region_held hm h
theorem dg{p:Prop}(h:p:=by rw[Zz];omega):p:=h
theorem Blk.row {w:World}{b:Nat}{c c':Array Value}{t:TypeId}(h:Blk w b c t):Blk (w.setRow b c') b c' t:=setRow_heap w b c c' t _ h
theorem dH{p:Prop}(h:p:=by simp[e]):p:=h
end
section
open Go Go.RowKit Go.BigFrame Tryz
variable{α:Type}{cs:α->List Value}{sz:Nat}
theorem op_ (_hsz:∀ y,(cs y).length=sz){t:TypeId}{w:World}{b:Nat}{x:α}(h:Blk w b (cs x).toArray t):AH cs sz w (some ⟨b,0,none⟩) 1 [x]:=by
 refine⟨rfl,fun i y hy=>⟨b,0,rfl,fun j v hv=>?_⟩⟩;have hi:i=0:=rl;subst hi;simp at hy;subst hy;rw[h.cell];simpa using hv
theorem Ac.le {t:TypeId}{w:World}{B n cap:Nat}{a:Option Addr}{l:List α}(h:Ac cs sz t w B a n cap l):n<=cap:=by
 rcases h.own with⟨_,rfl,rfl⟩ | ⟨_,_,_,h1,_⟩
 ·exact Zd _
 ·exact h1
end
section
open Go Go.RowKit Go.BigFrame Tryz
theorem fv_ (w:World)(b:Nat)(c:Array Value):w.grownBy (w.setRow b c) (some b):=⟨rfl,rfl,rfl,sK,fun k _ hk=>setRow_other w b k _ (fun e=>hk dH)⟩
theorem cq_ {α:Type}{cs:α->List Value}{sz:Nat}(hsz:∀ x,(cs x).length=sz):∀ (l:List α) (p:Nat),(l.flatMap cs).take (p*sz)=(l.take p).flatMap cs
 |[],p=>by simp
 |x::r,0=>by simp
 |x::r,p+1=>by
  rw[ZF,ZP,ZF,Yd,Nat.one_mul,Nat.add_comm,<-hsz x,List.take_append,Zk sH];congr 1;rw[Nat.add_sub_cancel_left,hsz x];exact cq_ hsz r p
theorem fg_ {P:Program}(w:World)(dT sT ty elem:TypeId)(size g o dLen dCap:Nat)(a:Addr)(sLen sCap:Nat)(cur:List Value)(t:TypeId)(cs:List Value)
  (hu:P.underlying dT=some (.slice elem))(hs:(P.info? elem).map (·.size)=some size)
  (hg:Blk w g cur.toArray t)(hn:cs.length=Nat.min sLen dLen*size)
  (hsrc:∀ j v,cs[j]?=some v->w.cell? (a.add j)=some v)(hfit:o+cs.length<=cur.length)(h1:∀ v∈cs,v.oneCell'=true):
  (Builtin.copy_ #[dT,sT] ty #[.slice (some ⟨g,o,none⟩) dLen dCap,.slice (some a) sLen sCap]).run P w =
   .ok (goInt (Nat.min sLen dLen:Nat)) (w.setRow g (splice cur o cs).toArray):=by
 have hl:=run_loadCells_list (P:=P) w a cs hsrc;have ha:=run_storeCells_at P g o t cs 0 cur.toArray w hg (by simpa using hfit) h1
 cases hq:P.info? elem with
 |none=>simp[hq] at hs
 |some i=>
  have hi:i.size=size:=by simpa[hq] using hs
  simp[Builtin.copy_,YY hu,Builtin.lenOf,Builtin.firstCells,sizeOf,typeInfo,hq,hi,<-hn,hl,ha,splice]
theorem ky_ {P:Program}{o:Oper}{a:Act}{w:World}{K:Act->World->Prop}{Q:Exit->Act->World->Prop}(d s:Operand)(dT sT elem:TypeId)(size:Nat)
  (ho:o.op=.call {callee:=.builtin .copy,args:=#[d,s],argTypes:=#[dT,sT]})(hu:P.underlying dT=some (.slice elem))(hs:(P.info? elem).map (·.size)=some size)
  (g off dLen dCap:Nat)(ad:Addr)(sLen sCap:Nat)(hd:a.eval d=.slice (some ⟨g,off,none⟩) dLen dCap)(hx:a.eval s=.slice (some ad) sLen sCap)
  (cur:List Value)(t:TypeId)(hg:Blk w g cur.toArray t)(cs:List Value)(m:Nat)(hm:Nat.min sLen dLen=m)(hn:cs.length=m*size)
  (hsrc:∀ j v,cs[j]?=some v->w.cell? (ad.add j)=some v)(hfit:off+cs.length<=cur.length)(h1:∀ v∈cs,v.oneCell'=true)
  (h:∀ w',Blk w' g (splice cur off cs).toArray t->w.grownBy w' (some g)->w'.heap.size=w.heap.size->K (a.put o.dst (goInt m)) w'):o.wp P a w K Q:=by
 subst hm;have hr:=fg_ (P:=P) w dT sT o.type elem size g off dLen dCap ad sLen sCap cur t cs hu hs hg hn hsrc hfit h1;unfold Oper.wp execOp;simp only[ho,resolve,invoke,builtin,Sem.run_bind,Sem.run_pure,Result.andThen_ok,List.map_toArray,YD,List.map_nil,hd,hx,hr];exact h _ hg.row (fv_ _ _ _) sK
theorem mJ_ {P:Program}(w:World)(dT sT elem:TypeId)(size g o dLen dCap:Nat)(a:Addr)(sLen sCap:Nat)(cur:List Value)(t:TypeId)(cs:List Value)(m:Nat)
  (hu:P.underlying dT=some (.slice elem))(hs:(P.info? elem).map (·.size)=some size)
  (hg:Blk w g cur.toArray t)(hm:Nat.min sLen dLen=m)(hn:cs.length=m*size)
  (hsrc:∀ j v,cs[j]?=some v->w.cell? (a.add j)=some v)(hfit:o+cs.length<=cur.length)(h1:∀ v∈cs,v.oneCell'=true):
  ∃ W2,(∀ ty,(Builtin.copy_ #[dT,sT] ty #[.slice (some ⟨g,o,none⟩) dLen dCap,.slice (some a) sLen sCap]).run P w=.ok (goInt m) W2)∧Blk W2 g (splice cur o cs).toArray t∧w.grownBy W2 (some g)∧W2.heap.size=w.heap.size:=by
 subst hm;exact⟨_,fun ty=>fg_ (P:=P) w dT sT ty elem size g o dLen dCap a sLen sCap cur t cs hu hs hg hn hsrc hfit h1,hg.row,fv_ _ _ _,sK⟩
theorem fU_ {P:Program}(w:World){ops:Array Oper}{rest:List Oper}{o:Oper}{a:Act}{Q:Exit->Act->World->Prop}(hgd:o.guard=none)(d s:Operand)(t t':TypeId)
  (ho:o.op=.call {callee:=.builtin .copy,args:=#[d,s],argTypes:=#[t,t']})(v u:Value)(hd:a.eval d=v)(hs:a.eval s=u){v':Value}{w':World}
  (hr:(Builtin.copy_ #[t,t'] o.type #[v,u]).run P w=.ok v' w')(h:wpList P ops Q rest (a.put o.dst v') w'):wpList P ops Q (o::rest) a w:=by
 refine wpList_plain hgd fun _ hK=>?_;unfold Oper.wp execOp;simp only[ho,resolve,invoke,builtin,Sem.run_bind,Sem.run_pure,Result.andThen_ok,List.map_toArray,YD,List.map_nil,hd,hs,hr];exact hK _ _ h
theorem dE_ {α:Type}(L:List α)(o:Nat)(cs:List α)(h:o+cs.length<=L.length):(splice L o cs).length=L.length:=length_splice L o cs h
theorem es_ {α:Type}(L:List α)(o:Nat)(cs:List α)(h:o+cs.length<=L.length):(splice L o cs).take o=L.take o∧(splice L o cs).take (o+cs.length)=L.take o++cs∧(splice L o cs).drop (o+cs.length)=L.drop (o+cs.length):=by
 have hl:(L.take o).length=o:=dg;unfold splice;refine⟨?_,?_,?_⟩
 ·rw[List.take_append_of_le_length sH,Zk sH]
 ·rw[List.take_append,Zk sH,hl,Nat.add_sub_cancel_left,List.take_left]
 ·rw[List.drop_append,Ze sH,hl,Nat.add_sub_cancel_left,ZM,List.drop_left]
end
section
open Go Go.RowKit Go.BigFrame Tryz
variable{α:Type}{cs:α->List Value}{sz:Nat}
theorem kz_ (rows:List α)(x:α)(i:Nat):(rows.take i++[x]++rows.drop i).flatMap cs=(rows.take i).flatMap cs++cs x++(rows.drop i).flatMap cs:=by simp
theorem mK_ {rows:List α}{x:α}{i n:Nat}(hl:rows.length=n)(hi:i<=n):(rows.take i++[x]++rows.drop i).length=n+1:=by simp;omega
theorem qq_ (hsz:∀ y,(cs y).length=sz){L:List Value}{rows:List α}{x:α}{i n cap:Nat}(hl:rows.length=n)(hi:i<=n)(hc:L.length=cap*sz)(hcap:n+1<=cap)(ht:L.take (i*sz)=(rows.take i).flatMap cs):
  i*sz+(cs x).length<=L.length∧(splice L (i*sz) (cs x)).length=cap*sz∧(i+1)*sz+((rows.drop i).flatMap cs).length<=(splice L (i*sz) (cs x)).length∧((rows.drop i).flatMap cs).length=(n-i)*sz∧
  (splice (splice L (i*sz) (cs x)) ((i+1)*sz) ((rows.drop i).flatMap cs)).length=cap*sz∧(splice (splice L (i*sz) (cs x)) ((i+1)*sz) ((rows.drop i).flatMap cs)).take ((n+1)*sz)=(rows.take i++[x]++rows.drop i).flatMap cs:=by
 have h1:(n+1)*sz<=cap*sz:=ZS _ hcap;have h2:(i+1)*sz<=(n+1)*sz:=ZS _ sH;have h3:(i+1)*sz=i*sz+sz:=by rw[Yd,Nat.one_mul]
 have hX:((rows.drop i).flatMap cs).length=(n-i)*sz:=by rw[aY_ hsz,List.length_drop,hl]
 have h4:(i+1)*sz+(n-i)*sz=(n+1)*sz:=by rw[<-Yd];congr 1;omega
 have a1:i*sz+(cs x).length<=L.length:=by rw[hsz];omega
 have l1:=dE_ L (i*sz) (cs x) a1;have t1:=es_ L (i*sz) (cs x) a1;have a2:(i+1)*sz+((rows.drop i).flatMap cs).length<=(splice L (i*sz) (cs x)).length:=by rw[hX,l1];omega
 have l2:=dE_ _ _ _ a2;have t2:=es_ _ _ _ a2;refine⟨a1,l1.trans hc,a2,hX,l2.trans (l1.trans hc),?_⟩;rw[hX,h4] at t2;have t1':=t1.2.1;rw[show i*sz+(cs x).length=(i+1)*sz by rw[hsz];omega] at t1';rw[t2.2.1,t1',ht,kz_]
theorem qr_ (hsz:∀ y,(cs y).length=sz){L:List Value}{rows:List α}{x:α}{i n cap:Nat}(hl:rows.length=n)(hi:i<=n)(hc:L.length=cap*sz)(hcap:n+1<=cap)(ht:L.take (n*sz)=rows.flatMap cs):
  (i+1)*sz+((rows.drop i).flatMap cs).length<=L.length∧(splice L ((i+1)*sz) ((rows.drop i).flatMap cs)).length=cap*sz∧i*sz+(cs x).length<=(splice L ((i+1)*sz) ((rows.drop i).flatMap cs)).length∧((rows.drop i).flatMap cs).length=(n-i)*sz∧
  (splice (splice L ((i+1)*sz) ((rows.drop i).flatMap cs)) (i*sz) (cs x)).length=cap*sz∧(splice (splice L ((i+1)*sz) ((rows.drop i).flatMap cs)) (i*sz) (cs x)).take ((n+1)*sz)=(rows.take i++[x]++rows.drop i).flatMap cs:=by
 have h1:(n+1)*sz<=cap*sz:=ZS _ hcap;have h2:(i+1)*sz<=(n+1)*sz:=ZS _ sH;have h3:(i+1)*sz=i*sz+sz:=by rw[Yd,Nat.one_mul]
 have hX:((rows.drop i).flatMap cs).length=(n-i)*sz:=by rw[aY_ hsz,List.length_drop,hl]
 have h4:(i+1)*sz+(n-i)*sz=(n+1)*sz:=by rw[<-Yd];congr 1;omega
 have a1:(i+1)*sz+((rows.drop i).flatMap cs).length<=L.length:=by rw[hX];omega
 have l1:=dE_ _ _ _ a1;have t1:=es_ _ _ _ a1;have a2:i*sz+(cs x).length<=(splice L ((i+1)*sz) ((rows.drop i).flatMap cs)).length:=by rw[hsz,l1];omega
 have l2:=dE_ _ _ _ a2;refine⟨a1,l1.trans hc,a2,hX,l2.trans (l1.trans hc),?_⟩;have e0:L.take (i*sz)=(rows.take i).flatMap cs:=by
  have:L.take (i*sz)=(L.take (n*sz)).take (i*sz):=by rw[List.take_take,ZZ (ZS _ hi)]
  rw[this,ht,cq_ hsz]
 generalize hXX:(rows.drop i).flatMap cs=X at *;have e1:(splice L ((i+1)*sz) X).take (i*sz)=(rows.take i).flatMap cs:=by
  have:(splice L ((i+1)*sz) X).take (i*sz)=((splice L ((i+1)*sz) X).take ((i+1)*sz)).take (i*sz):=by rw[List.take_take,ZZ sH]
  rw[this,t1.1,List.take_take,ZZ sH,e0]
 have e2:(splice L ((i+1)*sz) X).drop ((i+1)*sz)=X++L.drop ((i+1)*sz+X.length):=by
  unfold splice;rw[List.drop_append,Ze dg,Zz,ZZ sH,Nat.sub_self];simp
 generalize splice L ((i+1)*sz) X=M at *;show (M.take (i*sz)++(cs x++M.drop (i*sz+(cs x).length))).take ((n+1)*sz)=_;rw[hsz,<-h3,e1,e2,kz_,hXX,<-ZC,<-ZC];have ha:((rows.take i).flatMap cs++cs x++X).length=(n+1)*sz:=by
  rw[ZE,ZE,aY_ hsz,Zz,hl,ZZ hi,hsz,hX];omega
 rw[<-ha,List.take_left]
theorem gl_ (hsz:∀ y,(cs y).length=sz):∀ (rows:List α) (i j:Nat),(rows.flatMap cs)[i*sz+j]?=((rows.drop i).flatMap cs)[j]?
 |[],i,j=>by simp
 |y::r,0,j=>by simp
 |y::r,i+1,j=>by
  rw[ZR,<-gl_ hsz r i j,ZF,Zv (by rw[hsz,Yd];omega),hsz,Yd];congr 1;omega
theorem Ac.empt {t:TypeId}{w:World}{B n cap:Nat}{l:List α}(h:Ac cs sz t w B none n cap l):n=0∧cap=0:=by
 rcases h.own with⟨_,h1,h2⟩ | ⟨_,h0,_⟩
 ·exact⟨h1,h2⟩
 ·cases h0
end
section
open Go Go.RowKit Go.BigFrame Tryz
theorem Hd.args {B:Nat}{a:Option Addr}{n cap:Nat}(h:Hd B a n cap)(hB:0<B):(∀ ad,a=some ad->ad.spot=none)∧(a=none->n=0∧cap=0):=by
 obtain⟨h1,h2,h3⟩:=h;obtain⟨h4,h5⟩:=h3 hB;exact⟨h5,fun e=>by have:=h4 e;omega⟩
end
end Go.Proofs.YteejlahappbalaaGreatDoor
