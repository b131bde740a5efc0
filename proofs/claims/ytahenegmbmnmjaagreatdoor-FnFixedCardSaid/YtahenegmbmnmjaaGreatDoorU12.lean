/- A copy of items. -/
import Derived.Shelf.SlSortCmp.NoneTotal
import Derived.Maps.RangeWalk
import Derived.WideKeyEntry
import Derived.Test.YtahenegmbmnmjaaGreatDoorU11
set_option maxHeartbeats 20000000
set_option maxRecDepth 100000
namespace Go.Proofs.YtahenegmbmnmjaaGreatDoor
section
open Go Go.RowKit Go.BigFrame Tryz
theorem fv_ (w:World)(b:Nat)(c:Array Value):w.grownBy (w.setRow b c) (some b):=⟨rfl,rfl,rfl,by simp,fun k _ hk=>setRow_other w b k _ (fun e=>hk (by simp[e]))⟩
theorem cq_ {α:Type}{cs:α->List Value}{sz:Nat}(hsz:∀ x,(cs x).length=sz):∀ (l:List α) (p:Nat),(l.flatMap cs).take (p*sz)=(l.take p).flatMap cs
 |[],p=>by simp
 |x::r,0=>by simp
 |x::r,p+1=>by
  rw[ZF,ZP,ZF,Yd,Nat.one_mul,Nat.add_comm,<-hsz x,List.take_append,Zk (by omega)];congr 1;rw[Nat.add_sub_cancel_left,hsz x];exact cq_ hsz r p
theorem bM_ {α:Type}{cs:α->List Value}{sz:Nat}(hsz:∀ x,(cs x).length=sz){t:TypeId}{w:World}{B b n cap:Nat}{l:List α}{c:Array Value}(hb:Blk w b c t)(hB:B<=b)(hl:l.length=n)(hn:n<=cap)(hm:cap<=maxLen)(hc:c.size=cap*sz)(ht:c.toList.take (n*sz)=l.flatMap cs):Ae cs sz t w B (some ⟨b,0,none⟩) n cap l:=by
 refine⟨⟨hl,fun i x hx=>⟨b,0,rfl,fun j v hv=>?_⟩⟩,.inr ⟨b,rfl,hB,hn,hm,c,hb,hc,ht⟩⟩;have h:=i5_ hsz l hx hv;rw[<-ht] at h;rw[List.getElem?_take] at h;split at h
 ·rw[Zq,hb.cell,<-Array.getElem?_toList];exact h
 ·cases h
theorem fg_ {P:Program}(w:World)(dT sT ty elem:TypeId)(size g o dLen dCap:Nat)(a:Addr)(sLen sCap:Nat)(cur:List Value)(t:TypeId)(cs:List Value)
  (hu:P.underlying dT=some (.slice elem))(hs:(P.info? elem).map (·.size)=some size)
  (hg:Blk w g cur.toArray t)(hn:cs.length=Nat.min sLen dLen*size)
  (hsrc:∀ j v,cs[j]?=some v->w.cell? (a.add j)=some v)(hfit:o+cs.length<=cur.length)(h1:∀ v∈cs,v.oneCell'=true):
  (Builtin.copy_ #[dT,sT] ty #[.slice (some ⟨g,o,none⟩) dLen dCap,.slice (some a) sLen sCap]).run P w =
   .ok (goInt (Nat.min sLen dLen:Nat)) (w.setRow g (splice cur o cs).toArray):=by
 have hl:=run_loadCells_list (P:=P) w a cs hsrc;have ha:=run_storeCells_at P g o t cs 0 cur.toArray w hg (by simpa using hfit) h1
 cases hq:P.info? elem with
 |none=>simp[hq] at hs
 |some i=>
  have hi:i.size=size:=by simpa[hq] using hs
  simp[Builtin.copy_,YY hu,Builtin.lenOf,Builtin.firstCells,sizeOf,typeInfo,hq,hi,<-hn,hl,ha,splice]
theorem ky_ {P:Program}{o:Oper}{a:Act}{w:World}{K:Act->World->Prop}{Q:Exit->Act->World->Prop}(d s:Operand)(dT sT elem:TypeId)(size:Nat)
  (ho:o.op=.call {callee:=.builtin .copy,args:=#[d,s],argTypes:=#[dT,sT]})(hu:P.underlying dT=some (.slice elem))(hs:(P.info? elem).map (·.size)=some size)
  (g off dLen dCap:Nat)(ad:Addr)(sLen sCap:Nat)(hd:a.eval d=.slice (some ⟨g,off,none⟩) dLen dCap)(hx:a.eval s=.slice (some ad) sLen sCap)
  (cur:List Value)(t:TypeId)(hg:Blk w g cur.toArray t)(cs:List Value)(m:Nat)(hm:Nat.min sLen dLen=m)(hn:cs.length=m*size)
  (hsrc:∀ j v,cs[j]?=some v->w.cell? (ad.add j)=some v)(hfit:off+cs.length<=cur.length)(h1:∀ v∈cs,v.oneCell'=true)
  (h:∀ w',Blk w' g (splice cur off cs).toArray t->w.grownBy w' (some g)->w'.heap.size=w.heap.size->K (a.put o.dst (goInt m)) w'):o.wp P a w K Q:=by
 subst hm;have hr:=fg_ (P:=P) w dT sT o.type elem size g off dLen dCap ad sLen sCap cur t cs hu hs hg hn hsrc hfit h1;unfold Oper.wp execOp;simp only[ho,resolve,invoke,builtin,Sem.run_bind,Sem.run_pure,Result.andThen_ok,List.map_toArray,YD,List.map_nil,hd,hx,hr];exact h _ hg.row (fv_ _ _ _) (by simp)
theorem mJ_ {P:Program}(w:World)(dT sT elem:TypeId)(size g o dLen dCap:Nat)(a:Addr)(sLen sCap:Nat)(cur:List Value)(t:TypeId)(cs:List Value)(m:Nat)
  (hu:P.underlying dT=some (.slice elem))(hs:(P.info? elem).map (·.size)=some size)
  (hg:Blk w g cur.toArray t)(hm:Nat.min sLen dLen=m)(hn:cs.length=m*size)
  (hsrc:∀ j v,cs[j]?=some v->w.cell? (a.add j)=some v)(hfit:o+cs.length<=cur.length)(h1:∀ v∈cs,v.oneCell'=true):
  ∃ W2,(∀ ty,(Builtin.copy_ #[dT,sT] ty #[.slice (some ⟨g,o,none⟩) dLen dCap,.slice (some a) sLen sCap]).run P w=.ok (goInt m) W2)∧Blk W2 g (splice cur o cs).toArray t∧w.grownBy W2 (some g)∧W2.heap.size=w.heap.size:=by
 subst hm;exact⟨_,fun ty=>fg_ (P:=P) w dT sT ty elem size g o dLen dCap a sLen sCap cur t cs hu hs hg hn hsrc hfit h1,hg.row,fv_ _ _ _,by simp⟩
theorem fU_ {P:Program}(w:World){ops:Array Oper}{rest:List Oper}{o:Oper}{a:Act}{Q:Exit->Act->World->Prop}(hgd:o.guard=none)(d s:Operand)(t t':TypeId)
  (ho:o.op=.call {callee:=.builtin .copy,args:=#[d,s],argTypes:=#[t,t']})(v u:Value)(hd:a.eval d=v)(hs:a.eval s=u){v':Value}{w':World}
  (hr:(Builtin.copy_ #[t,t'] o.type #[v,u]).run P w=.ok v' w')(h:wpList P ops Q rest (a.put o.dst v') w'):wpList P ops Q (o::rest) a w:=by
 refine wpList_plain hgd fun _ hK=>?_;unfold Oper.wp execOp;simp only[ho,resolve,invoke,builtin,Sem.run_bind,Sem.run_pure,Result.andThen_ok,List.map_toArray,YD,List.map_nil,hd,hs,hr];exact hK _ _ h
theorem dE_ {α:Type}(L:List α)(o:Nat)(cs:List α)(h:o+cs.length<=L.length):(splice L o cs).length=L.length:=length_splice L o cs h
theorem es_ {α:Type}(L:List α)(o:Nat)(cs:List α)(h:o+cs.length<=L.length):(splice L o cs).take o=L.take o∧(splice L o cs).take (o+cs.length)=L.take o++cs∧(splice L o cs).drop (o+cs.length)=L.drop (o+cs.length):=by
 have hl:(L.take o).length=o:=by rw[Zz];omega
 unfold splice;refine⟨?_,?_,?_⟩
 ·rw[List.take_append_of_le_length (by omega),Zk (by omega)]
 ·rw[List.take_append,Zk (by omega),hl,Nat.add_sub_cancel_left,List.take_left]
 ·rw[List.drop_append,Ze (by omega),hl,Nat.add_sub_cancel_left,ZM,List.drop_left]
end
section
open Go Go.RowKit Go.BigFrame Tryz
variable{α:Type}{cs:α->List Value}{sz:Nat}
theorem kz_ (rows:List α)(x:α)(i:Nat):(rows.take i++[x]++rows.drop i).flatMap cs=(rows.take i).flatMap cs++cs x++(rows.drop i).flatMap cs:=by simp
theorem mK_ {rows:List α}{x:α}{i n:Nat}(hl:rows.length=n)(hi:i<=n):(rows.take i++[x]++rows.drop i).length=n+1:=by simp;omega
theorem qq_ (hsz:∀ y,(cs y).length=sz){L:List Value}{rows:List α}{x:α}{i n cap:Nat}(hl:rows.length=n)(hi:i<=n)(hc:L.length=cap*sz)(hcap:n+1<=cap)(ht:L.take (i*sz)=(rows.take i).flatMap cs):
  i*sz+(cs x).length<=L.length∧(splice L (i*sz) (cs x)).length=cap*sz∧(i+1)*sz+((rows.drop i).flatMap cs).length<=(splice L (i*sz) (cs x)).length∧((rows.drop i).flatMap cs).length=(n-i)*sz∧
  (splice (splice L (i*sz) (cs x)) ((i+1)*sz) ((rows.drop i).flatMap cs)).length=cap*sz∧(splice (splice L (i*sz) (cs x)) ((i+1)*sz) ((rows.drop i).flatMap cs)).take ((n+1)*sz)=(rows.take i++[x]++rows.drop i).flatMap cs:=by
 have h1:(n+1)*sz<=cap*sz:=ZS _ hcap;have h2:(i+1)*sz<=(n+1)*sz:=ZS _ (by omega);have h3:(i+1)*sz=i*sz+sz:=by rw[Yd,Nat.one_mul]
 have hX:((rows.drop i).flatMap cs).length=(n-i)*sz:=by rw[aY_ hsz,List.length_drop,hl]
 have h4:(i+1)*sz+(n-i)*sz=(n+1)*sz:=by rw[<-Yd];congr 1;omega
 have a1:i*sz+(cs x).length<=L.length:=by rw[hsz];omega
 have l1:=dE_ L (i*sz) (cs x) a1;have t1:=es_ L (i*sz) (cs x) a1;have a2:(i+1)*sz+((rows.drop i).flatMap cs).length<=(splice L (i*sz) (cs x)).length:=by rw[hX,l1];omega
 have l2:=dE_ _ _ _ a2;have t2:=es_ _ _ _ a2;refine⟨a1,l1.trans hc,a2,hX,l2.trans (l1.trans hc),?_⟩;rw[hX,h4] at t2;have t1':=t1.2.1;rw[show i*sz+(cs x).length=(i+1)*sz by rw[hsz];omega] at t1';rw[t2.2.1,t1',ht,kz_]
theorem qr_ (hsz:∀ y,(cs y).length=sz){L:List Value}{rows:List α}{x:α}{i n cap:Nat}(hl:rows.length=n)(hi:i<=n)(hc:L.length=cap*sz)(hcap:n+1<=cap)(ht:L.take (n*sz)=rows.flatMap cs):
  (i+1)*sz+((rows.drop i).flatMap cs).length<=L.length∧(splice L ((i+1)*sz) ((rows.drop i).flatMap cs)).length=cap*sz∧i*sz+(cs x).length<=(splice L ((i+1)*sz) ((rows.drop i).flatMap cs)).length∧((rows.drop i).flatMap cs).length=(n-i)*sz∧
  (splice (splice L ((i+1)*sz) ((rows.drop i).flatMap cs)) (i*sz) (cs x)).length=cap*sz∧(splice (splice L ((i+1)*sz) ((rows.drop i).flatMap cs)) (i*sz) (cs x)).take ((n+1)*sz)=(rows.take i++[x]++rows.drop i).flatMap cs:=by
 have h1:(n+1)*sz<=cap*sz:=ZS _ hcap;have h2:(i+1)*sz<=(n+1)*sz:=ZS _ (by omega);have h3:(i+1)*sz=i*sz+sz:=by rw[Yd,Nat.one_mul]
 have hX:((rows.drop i).flatMap cs).length=(n-i)*sz:=by rw[aY_ hsz,List.length_drop,hl]
 have h4:(i+1)*sz+(n-i)*sz=(n+1)*sz:=by rw[<-Yd];congr 1;omega
 have a1:(i+1)*sz+((rows.drop i).flatMap cs).length<=L.length:=by rw[hX];omega
 have l1:=dE_ _ _ _ a1;have t1:=es_ _ _ _ a1;have a2:i*sz+(cs x).length<=(splice L ((i+1)*sz) ((rows.drop i).flatMap cs)).length:=by rw[hsz,l1];omega
 have l2:=dE_ _ _ _ a2;refine⟨a1,l1.trans hc,a2,hX,l2.trans (l1.trans hc),?_⟩
 have e0:L.take (i*sz)=(rows.take i).flatMap cs:=by
  have:L.take (i*sz)=(L.take (n*sz)).take (i*sz):=by rw[List.take_take,ZZ (ZS _ hi)]
  rw[this,ht,cq_ hsz]
 generalize hXX:(rows.drop i).flatMap cs=X at *
 have e1:(splice L ((i+1)*sz) X).take (i*sz)=(rows.take i).flatMap cs:=by
  have:(splice L ((i+1)*sz) X).take (i*sz)=((splice L ((i+1)*sz) X).take ((i+1)*sz)).take (i*sz):=by rw[List.take_take,ZZ (by omega)]
  rw[this,t1.1,List.take_take,ZZ (by omega),e0]
 have e2:(splice L ((i+1)*sz) X).drop ((i+1)*sz)=X++L.drop ((i+1)*sz+X.length):=by
  unfold splice;rw[List.drop_append,Ze (by rw[Zz];omega),Zz,ZZ (by omega),Nat.sub_self];simp
 generalize splice L ((i+1)*sz) X=M at *;show (M.take (i*sz)++(cs x++M.drop (i*sz+(cs x).length))).take ((n+1)*sz)=_;rw[hsz,<-h3,e1,e2,kz_,hXX,<-ZC,<-ZC]
 have ha:((rows.take i).flatMap cs++cs x++X).length=(n+1)*sz:=by
  rw[ZE,ZE,aY_ hsz,Zz,hl,ZZ hi,hsz,hX];omega
 rw[<-ha,List.take_left]
theorem gl_ (hsz:∀ y,(cs y).length=sz):∀ (rows:List α) (i j:Nat),(rows.flatMap cs)[i*sz+j]?=((rows.drop i).flatMap cs)[j]?
 |[],i,j=>by simp
 |y::r,0,j=>by simp
 |y::r,i+1,j=>by
  rw[ZR,<-gl_ hsz r i j,ZF,Zv (by rw[hsz,Yd];omega),hsz,Yd];congr 1;omega
theorem op_ (_hsz:∀ y,(cs y).length=sz){t:TypeId}{w:World}{b:Nat}{x:α}(h:Blk w b (cs x).toArray t):AF cs sz w (some ⟨b,0,none⟩) 1 [x]:=by
 refine⟨rfl,fun i y hy=>⟨b,0,rfl,fun j v hv=>?_⟩⟩;have hi:i=0:=by have:=(Zb.1 hy).1;simp at this;exact this
 subst hi;simp at hy;subst hy;rw[h.cell];simpa using hv
theorem Ae.le {t:TypeId}{w:World}{B n cap:Nat}{a:Option Addr}{l:List α}(h:Ae cs sz t w B a n cap l):n<=cap:=by
 rcases h.own with⟨_,rfl,rfl⟩ | ⟨_,_,_,h1,_⟩
 ·exact Zd _
 ·exact h1
theorem Ae.empt {t:TypeId}{w:World}{B n cap:Nat}{l:List α}(h:Ae cs sz t w B none n cap l):n=0∧cap=0:=by
 rcases h.own with⟨_,h1,h2⟩ | ⟨_,h0,_⟩
 ·exact⟨h1,h2⟩
 ·cases h0
end
section
open Go Go.RowKit Go.BigFrame Tryz
theorem kA_:∃ i0,prog.info? 125=some i0∧i0.zero=some (.agg #[.string .empty,.slice none 0 0])∧i0.size=2∧i0.bytes=40:=by
 have h:=FU
 cases hh:prog.info? 125 with
 |none=>rw[hh] at h;cases h
 |some i0=>rw[hh] at h;simp at h;exact⟨i0,rfl,h.1,h.2.1,h.2.2⟩
theorem fV_:(prog.info? 125).map (·.size)=some 2:=by
 obtain⟨i0,h,_,h2,_⟩:=kA_;rw[h];simp[h2]
theorem hG_ (B:Nat)(a:Option Addr)(n cap vb:Nat)(rows:List IR)(x:IR)(w:World)(R:Ae irs 2 125 w B a n cap rows)(hv:Blk w vb (irs x).toArray 125)(hn:n<=4194304)(hBw:B<=w.heap.size):
  Calls prog 230 #[.slice a n cap,.int .i64 n,.slice (some ⟨vb,0,none⟩) 1 1] w fun e w'=>(∃ a' cap',e=.returned (.slice a' (n+1) cap')∧Ae irs 2 125 w' B a' (n+1) cap' (rows++[x])∧(∀ ad',a'=some ad'->(∃ ad,a=some ad∧ad.block=ad'.block)∨w.heap.size<=ad'.block))∧w.grownBy w' (Value.ownBlock (.slice a n cap)):=by
 have hS:=op_ aI_ hv;have hc:n<=cap:=R.le;have he:¬ ((1:Int)=0):=by omega
 cases a with
 |none=>
  obtain⟨rfl,rfl⟩:=R.empt;go_enter func230,ntmps230
  go_wp2_with (at_builtin;refine ag_ rfl (fun K hK=>b1_ _ _ rfl B none 0 0 rows rfl R vb 0 x rfl hS (by omega) hBw (fun a3 c3 w3 R3 hb ha=>hK _ _ ?_)))
  go_returns;exact⟨⟨a3,c3,rfl,R3,ha⟩,hb⟩
 |some ad=>
  obtain⟨b,rfl⟩:∃ b,ad=⟨b,0,none⟩:=by
   rcases R.own with⟨h0,_⟩ | ⟨b,h0,_⟩
   ·cases h0
   ·cases h0;exact⟨b,rfl⟩
  go_enter func230,ntmps230
  go_wp2_with (at_builtin;refine ag_ rfl (fun K hK=>b1_ _ _ rfl B (some ⟨b,0,none⟩) n cap rows rfl R vb 0 x rfl hS (by omega) hBw (fun a3 c3 w3 R3 hb ha=>hK _ _ ?_)))
  all_goals (go_returns;exact⟨⟨a3,c3,rfl,R3,(by simpa using ha)⟩,hb⟩)
theorem gV_ (B b n cap i vb:Nat)(rows:List IR)(x:IR)(w:World)(R:Ae irs 2 125 w B (some ⟨b,0,none⟩) n cap rows)(hv:Blk w vb (irs x).toArray 125)(hn:n<=4194304)(hBw:B<=w.heap.size)(hi:i<n)(hcap:cap=n):
  Calls prog 230 #[.slice (some ⟨b,0,none⟩) n cap,.int .i64 i,.slice (some ⟨vb,0,none⟩) 1 1] w fun e w'=>(∃ a' cap',e=.returned (.slice a' (n+1) cap')∧Ae irs 2 125 w' B a' (n+1) cap' (rows.take i++[x]++rows.drop i)∧(∀ ad',a'=some ad'->(∃ ad,(some ⟨b,0,none⟩:Option Addr)=some ad∧ad.block=ad'.block)∨w.heap.size<=ad'.block))∧w.grownBy w' (Value.ownBlock (.slice (some ⟨b,0,none⟩) n cap)):=by
 subst hcap;have ha:=R.sl.len;have hS:=op_ aI_ hv;have hL:=(R.block _ rfl).2;have hO:=hv.lt;obtain⟨i0,hA,hD,hE,ho⟩:=kA_;have hB:(cap:Int)+1-(i:Int)=((cap+1-i:Nat):Int):=by omega
 have hl:i+(cap+1-i)=cap+1:=by omega
 have hP:((.agg #[.string .empty,.slice none 0 0]):Value).cells.size=2:=rfl;have hg:((rows.take i).flatMap irs).length=i*2:=by rw[aY_ aI_,Zz,ha,ZZ (by omega)]
 have hc:(Builtin.firstCells i0.size i (.slice (some ⟨b,0,none⟩) i cap)).run prog w.drew=.ok ((rows.take i).flatMap irs).toArray w.drew:=by
  rw[hE];refine run_firstCells_some w.drew 2 i ⟨b,0,none⟩ i cap _ hg (fun j v hj=>?_)
  have:=AF.src aI_ R.sl j v (by
   rw[<-cq_ aI_,List.getElem?_take] at hj;split at hj
   ·exact hj
   ·cases hj)
  exact this
 have hm:∀ ty,(Builtin.append_ #[60,3] ty #[.slice (some ⟨b,0,none⟩) i cap,.int .i64 ((cap:Int)+1-(i:Int))]).run prog w =
   .ok (.slice (some ⟨w.heap.size,0,none⟩) (cap+1) (grownCap w (cap+1) cap 125)) (w.drew.alloc (.cells (((rows.take i).flatMap irs).toArray++Builtin.zeroCells ((.agg #[.string .empty,.slice none 0 0]):Value).cells (cap+1-i)++Builtin.zeroCells ((.agg #[.string .empty,.slice none 0 0]):Value).cells (grownCap w (cap+1) cap 125-(cap+1))) 125)):=fun ty=>by
  have h:=Lib.run_append_grow_zeros w 60 3 ty 125 i0 _ .i64 .i64 underlying60 underlying3 hA hD (some ⟨b,0,none⟩) i cap ((rows.take i).flatMap irs) hc (cap+1-i) (by omega) (by omega) (by omega) (by omega) (by rw[ho];omega) (by rw[ho,hl];exact growslice_fits (by omega) (by omega));rw[hl] at h;rw[hB];exact h
 have hr:cap+1<=grownCap w (cap+1) cap 125:=grownCap_ge w _ _ _;have hq:grownCap w (cap+1) cap 125<=maxLen:=grownCap_le_maxLen w (cap+1) cap 125 (by unfold maxLen;omega);generalize grownCap w (cap+1) cap 125=G at *
 obtain⟨ROW,ht,hu,hs⟩:∃ ROW:List Value,ROW.length=G*2∧ROW.take (i*2)=(rows.take i).flatMap irs∧(((rows.take i).flatMap irs).toArray++Builtin.zeroCells ((.agg #[.string .empty,.slice none 0 0]):Value).cells (cap+1-i)++Builtin.zeroCells ((.agg #[.string .empty,.slice none 0 0]):Value).cells (G-(cap+1)))=ROW.toArray:=by
  refine⟨((rows.take i).flatMap irs)++(Builtin.zeroCells ((.agg #[.string .empty,.slice none 0 0]):Value).cells (cap+1-i)).toList++(Builtin.zeroCells ((.agg #[.string .empty,.slice none 0 0]):Value).cells (G-(cap+1))).toList,?_,?_,?_⟩
  ·simp only[ZE,Array.length_toList,size_zeroCells,hP,hg];omega
  ·rw[ZC,<-hg,List.take_left]
  ·apply Array.toList_inj.1;simp
 rw[hs] at hm;have hC:=qq_ (cs:=irs) (x:=x) aI_ ha (Nat.le_of_lt hi) ht hr hu;replace hC:Hid _:=hC;have D1:Blk (w.drew.alloc (.cells ROW.toArray 125)) w.heap.size ROW.toArray 125:=Blk.new w.drew _ _;have hh:Below w.heap.size w (w.drew.alloc (.cells ROW.toArray 125)):=((Yg _ _).drew).alloc (Zd _) _;have hZ:¬ ((1:Int)=0):=by omega
 have h0:¬ ((i:Int)=(cap:Int)):=by omega
 have h1:(cap:Int)<(cap:Int)+1:=by omega
 have hQ:¬ (G=i):=by omega
 have hH:¬ (G=i+1):=by omega
 have hU:¬ (cap=i):=by omega
 have hX:IntKind.i64.wrap ((i:Int)+1)=(i:Int)+1:=by rw[Ys];omega
 have hR:(0:Int)<=(i:Int)+1:=by omega
 have hV:i<=cap:=by omega
 have hW:((i:Int)+1).toNat=i+1:=by omega
 have hT:(i:Int)<=(cap:Int):=by omega
 have hG:G<=9223372036854775807:=by unfold maxLen at hq;omega
 have hJ:=R.sl;have he:∀ v∈irs x,v.oneCell'=true:=fun v hv=>eP_ [x] v (by simpa using hv);have hf:∀ v∈(rows.drop i).flatMap irs,v.oneCell'=true:=eP_ _;have hw:Hid (B<=w.heap.size∧rows.length=cap):=⟨hBw,ha⟩;clear hB hl hc R hg hA hD hE ho hs hu ha ht;generalize hW1:w.drew.alloc (.cells ROW.toArray 125)=W1 at *;clear hW1;obtain⟨w2,hx,D2,hy,hM⟩:=mJ_ (P:=prog) W1 60 60 125 2 w.heap.size (i*2) (cap+1-i) (G-i) ⟨vb,0,none⟩ 1 1 ROW 125 (irs x) 1 underlying60 fV_ D1 (by simp only[Nat.min_def];split<;>omega) (by rw[aI_,Nat.one_mul]) (fun j v hj=>by rw[Addr.add_lit];exact Ab hh ((hv.cell _).trans (by simpa using hj))) hC.out.1 he;go_enter func230,ntmps230
 go_wp2_with (first
  |(at_builtin;refine Lib.wpList_append_run _ rfl _ _ _ _ rfl _ _ rfl rfl _ _ (hm _) ?_)
  |(at_builtin;refine fU_ _ rfl _ _ 60 60 rfl _ _ rfl rfl (hx _) ?_))
 clear hx;have hp:=ao_ hh hy (Zd _);have hY:=D2.lt;clear hm hh hy hM;have hI:(fun _=>True) w2.drew:=trivial;refine aC_ (S:=(fun _=>True)) 9 (by kernel_rfl) rfl ?_;refine tk 0 ?_;refine tk 1 ?_;refine tk 2 ?_;refine tk 3 ?_;refine tk 4 ?_;refine tk 5 ?_;refine tk 6 ?_;refine tk 7 ?_;refine AX (i:=8) (by kernel_rfl) rfl (fun K hK=>?_);refine aJ_ rfl (ky_ _ _ 60 60 125 2 rfl underlying60 fV_ w.heap.size ((i+1)*2) (cap-i) (G-(i+1)) ⟨b,i*2,none⟩ (cap-i) (cap-i) rfl rfl _ 125 D2.drew ((rows.drop i).flatMap irs) (cap-i) (by simp only[Nat.min_def];split<;>omega) hC.out.2.2.2.1 (fun j v hj=>?src) hC.out.2.2.1 hf (fun w3 D3 hz hN=>?_))
 case src=>
  have:=AF.src aI_ hJ (i*2+j) v (by rw[<-hj];exact gl_ aI_ rows i j)
  rw[Addr.add_lit] at this ⊢;rw[Zq] at this;exact Ab hp.drew this
 dsimp only;refine hK.out _ _ trivial (fun hHeld=>?_);clear hK K
 try simp only[Act.put,lsA,lsB,lsC]
 refine wpAnyH_done (by kernel_rfl) ?_ _;have hb:Below w.heap.size w w3:=ao_ (Aa hp (Yg _ _).drew) hz (Zd _);have R3:=bM_ (l:=rows.take i++[x]++rows.drop i) (n:=cap+1) (cap:=G) aI_ D3 hw.out.1 (mK_ hw.out.2 (Nat.le_of_lt hi)) hr hq (by rw[YI];exact hC.out.2.2.2.2.1) hC.out.2.2.2.2.2;clear D3 D2 hz hN hI hHeld;have hF:w.grownBy w3 (Value.ownBlock (.slice (some ⟨b,0,none⟩) cap cap)):=⟨hb.os,hb.tape,hb.output,hb.size,fun k hk _=>hb.block k hk⟩;go_wp2;go_returns;exact⟨⟨_,G,rfl,R3,fun ad e=>by cases e;exact .inr (Zd _)⟩,hF⟩
theorem gW_ (B b n cap i vb:Nat)(rows:List IR)(x:IR)(w:World)(R:Ae irs 2 125 w B (some ⟨b,0,none⟩) n cap rows)(hv:Blk w vb (irs x).toArray 125)(hvb:vb≠b)(hn:n<=4194304)(hi:i<n)(hcap:n+1<=cap):
  Calls prog 230 #[.slice (some ⟨b,0,none⟩) n cap,.int .i64 i,.slice (some ⟨vb,0,none⟩) 1 1] w fun e w'=>(∃ a' cap',e=.returned (.slice a' (n+1) cap')∧Ae irs 2 125 w' B a' (n+1) cap' (rows.take i++[x]++rows.drop i)∧(∀ ad',a'=some ad'->(∃ ad,(some ⟨b,0,none⟩:Option Addr)=some ad∧ad.block=ad'.block)∨w.heap.size<=ad'.block))∧w.grownBy w' (Value.ownBlock (.slice (some ⟨b,0,none⟩) n cap)):=by
 have he:=R.sl.len;rcases R.own with⟨h0,_⟩ | ⟨b',ha,ho,_,hm,c,hb,hc,ht⟩
 ·cases h0
 cases ha
 obtain⟨L,rfl⟩:∃ L:List Value,c=L.toArray:=⟨c.toList,by simp⟩;have hC:=qr_ (cs:=irs) (x:=x) (L:=L) aI_ he (Nat.le_of_lt hi) (by simpa using hc) hcap (by simpa using ht);replace hC:Hid _:=hC
 have hs:∀ lb cb,(callFunc 247 #[.slice (some ⟨vb,0,none⟩) 1 1,.slice (some ⟨b,(i+1)*2,none⟩) lb cb]).run prog w=.ok (.value (.bool false)) w:=fun lb cb=>by
  rw[YX func247 (by kernel_rfl) (by kernel_rfl) (by kernel_rfl) (e:=Extern.SlicesOverlaps.overlaps #[60,60] #[4]) (by kernel_rfl),
   Lib.run_overlaps_apart w 60 4 125 underlying60 2 Tryz.sizeOf125 ⟨vb,0,none⟩ ⟨b,(i+1)*2,none⟩ 1 1 lb cb hvb 125 125 (irs x).toArray.size L.toArray.size (by unfold Blk at hv;simp[World.shape?,hv]) (by unfold Blk at hb;simp[World.shape?,hb]) (by rw[hc];omega) (hv.frozen _) (hv.frozen _)]
  rfl
 have hL:¬ ((1:Int)=0):=by omega
 have hM:¬ ((i:Int)=(n:Int)):=by omega
 have hN:¬ (cap:Int)<(n:Int)+1:=by omega
 have hG:¬ (cap=i):=by omega
 have hy:¬ (cap=i+1):=by omega
 have hJ:IntKind.i64.wrap ((i:Int)+1)=(i:Int)+1:=by rw[Ys];omega
 have hD:(0:Int)<=(i:Int)+1:=by omega
 have hH:i<=n:=by omega
 have hI:((i:Int)+1).toNat=i+1:=by omega
 have hE:(i:Int)<=(n:Int):=by omega
 have hF:(i:Int)<=(n:Int)+1:=by omega
 have hl:cap<=9223372036854775807:=by unfold maxLen at hm;omega
 have hx:=R.sl;have hg:∀ v∈irs x,v.oneCell'=true:=fun v hv=>eP_ [x] v (by simpa using hv);have hh:∀ v∈(rows.drop i).flatMap irs,v.oneCell'=true:=eP_ _;have hk:Hid (B<=b∧rows.length=n∧n+1<=cap∧cap<=maxLen):=⟨ho,he,hcap,hm⟩;clear R he ht hc ho hm;go_enter func230,ntmps230
 go_wp2_with (simp only[hs])
 clear hs;have hw:(fun _=>True) w.drew:=trivial;refine aC_ (S:=(fun _=>True)) 9 (by kernel_rfl) rfl ?_;refine tk 0 ?_;refine tk 1 ?_;refine tk 2 ?_;refine tk 3 ?_;refine tk 4 ?_;refine tk 5 ?_;refine tk 6 ?_;refine tk 7 ?_;refine AX (i:=8) (by kernel_rfl) rfl (fun K hK=>?_);refine aJ_ rfl (ky_ _ _ 60 60 125 2 rfl underlying60 fV_ b ((i+1)*2) (n-i) (cap-(i+1)) ⟨b,i*2,none⟩ (n+1-i) (cap-i) rfl rfl L 125 hb.drew ((rows.drop i).flatMap irs) (n-i) (by simp only[Nat.min_def];split<;>omega) hC.out.2.2.2.1 (fun j v hj=>?src) hC.out.1 hh (fun w2 D2 hq hz=>?_))
 case src=>
  have:=AF.src aI_ hx (i*2+j) v (by rw[<-hj];exact gl_ aI_ rows i j)
  rw[Addr.add_lit] at this ⊢;rw[Zq] at this;exact this
 dsimp only;refine hK.out _ _ trivial (fun hHeld=>?_);clear hK K
 try simp only[Act.put,lsA,lsB,lsC]
 refine wpAnyH_done (by kernel_rfl) ?_ _;have hf:w.grownBy w2 (some b):=aV_ (au_ (Yh _ _) (Yg _ _).drew) hq;have hB:=hv.grown hf hvb;clear hq hz hw hHeld;obtain⟨w3,hp,D3,hr,hA⟩:=mJ_ (P:=prog) w2 60 60 125 2 b (i*2) (n+1-i) (cap-i) ⟨vb,0,none⟩ 1 1 _ 125 (irs x) 1 underlying60 fV_ D2 (by simp only[Nat.min_def];split<;>omega) (by rw[aI_,Nat.one_mul]) (fun j v hj=>by rw[Addr.add_lit];exact (hB.cell _).trans (by simpa using hj)) hC.out.2.2.1 hg
 go_wp2_with (at_builtin;refine fU_ _ rfl _ _ 60 60 rfl _ _ rfl rfl (hp _) ?_)
 clear hp;have hu:w.grownBy w3 (some b):=aV_ hf hr;have R3:=bM_ (l:=rows.take i++[x]++rows.drop i) (n:=n+1) (cap:=cap) aI_ D3 hk.out.1 (mK_ hk.out.2.1 (Nat.le_of_lt hi)) hk.out.2.2.1 hk.out.2.2.2 (by rw[YI];exact hC.out.2.2.2.2.1) hC.out.2.2.2.2.2;clear D3 D2 hr hA;go_returns;exact⟨⟨_,cap,rfl,R3,fun ad e=>by cases e;exact .inl ⟨_,rfl,rfl⟩⟩,hu⟩
theorem hH_ (B:Nat)(a:Option Addr)(n cap i vb:Nat)(rows:List IR)(x:IR)(w:World)(R:Ae irs 2 125 w B a n cap rows)(hv:Blk w vb (irs x).toArray 125)(hvb:∀ ad,a=some ad->vb≠ad.block)(hn:n<=4194304)(hBw:B<=w.heap.size)(hi:i<=n):
  Calls prog 230 #[.slice a n cap,.int .i64 i,.slice (some ⟨vb,0,none⟩) 1 1] w fun e w'=>(∃ a' cap',e=.returned (.slice a' (n+1) cap')∧Ae irs 2 125 w' B a' (n+1) cap' (rows.take i++[x]++rows.drop i)∧(∀ ad',a'=some ad'->(∃ ad,a=some ad∧ad.block=ad'.block)∨w.heap.size<=ad'.block))∧w.grownBy w' (Value.ownBlock (.slice a n cap)):=by
 by_cases hin:i=n
 ·subst hin;have hl:=R.sl.len
  have:=hG_ B a i cap vb rows x w R hv hn hBw
  rw[Zk (by omega),Ze (by omega),Yy];exact this
 ·rcases R.own with⟨_,h0,_⟩ | ⟨b,rfl,_,ha,_⟩
  ·omega
  ·by_cases hc:cap=n
   ·exact gV_ B b n cap i vb rows x w R hv hn hBw (by omega) hc
   ·exact gW_ B b n cap i vb rows x w R hv (hvb _ rfl) hn (by omega) (by omega)
structure FrL (bs:List Nat)(w w':World):Prop where
 os:w'.os=w.os
 tape:w'.tape=w.tape
 output:w'.output=w.output
 size:w.heap.size<=w'.heap.size
 block:∀ k,k<w.heap.size->k∉bs->w'.heap[k]?=w.heap[k]?
theorem FrL.of_grown {bs:List Nat}{w w':World}{row:Option Nat}(h:w.grownBy w' row)(hr:∀ k,row=some k->k∈bs∨w.heap.size<=k):FrL bs w w':=
 ⟨h.os,h.tape,h.output,h.size,fun k hk hn=>h.block k hk (fun e=>(hr k e.symm).elim (fun h1=>hn h1) (fun h1=>absurd hk (by omega)))⟩
theorem FrL.of_below {bs:List Nat}{w w':World}(h:Below w.heap.size w w'):FrL bs w w':=⟨h.os,h.tape,h.output,h.size,fun k hk _=>h.block k hk⟩
theorem FrL.trans {bs:List Nat}{w w1 w2:World}(h:FrL bs w w1)(h':FrL bs w1 w2):FrL bs w w2:=
 ⟨h'.os.trans h.os,h'.tape.trans h.tape,h'.output.trans h.output,Zl h.size h'.size,fun k hk hn=>(h'.block k (Zy hk h.size) hn).trans (h.block k hk hn)⟩
theorem FrL.new {bs cs:List Nat}{w w1 w2:World}(h:FrL bs w w1)(h':FrL cs w1 w2)(hc:∀ k∈cs,k∈bs∨w.heap.size<=k):FrL bs w w2:=
 ⟨h'.os.trans h.os,h'.tape.trans h.tape,h'.output.trans h.output,Zl h.size h'.size,fun k hk hn=>(h'.block k (Zy hk h.size) (fun hm=>(hc k hm).elim (fun h1=>hn h1) (fun h1=>absurd hk (by omega)))).trans (h.block k hk hn)⟩
theorem FrL.mono {bs cs:List Nat}{w w':World}(h:FrL bs w w')(hs:∀ k∈bs,k∈cs):FrL cs w w':=⟨h.os,h.tape,h.output,h.size,fun k hk hn=>h.block k hk (fun hm=>hn (hs k hm))⟩
theorem FrL.below {bs:List Nat}{w0 w w':World}(h:Below w0.heap.size w0 w)(h':FrL bs w w')(hb:∀ k∈bs,w0.heap.size<=k):Below w0.heap.size w0 w':=
 ⟨h'.os.trans h.os,h'.tape.trans h.tape,h'.output.trans h.output,Zl h.size h'.size,fun k hk=>(h'.block k (Zy hk h.size) (fun hm=>by have:=hb k hm;omega)).trans (h.block k hk)⟩
theorem Blk.frl {bs:List Nat}{w w':World}{b:Nat}{c:Array Value}{t:TypeId}(h:Blk w b c t)(hf:FrL bs w w')(hb:b∉bs):Blk w' b c t:=(hf.block b h.lt hb).trans h
theorem AF.frl {α:Type}{cs:α->List Value}{sz:Nat}{w w':World}{a:Option Addr}{n:Nat}{l:List α}{bs:List Nat}(h:AF cs sz w a n l)(hf:FrL bs w w')(hb:∀ ad,a=some ad->ad.block∉bs)(hlt:∀ ad,a=some ad->ad.block<w.heap.size):AF cs sz w' a n l:=
 ⟨h.len,fun i x hx=>by
  obtain⟨b,o,ha,hc⟩:=h.cell i x hx;refine⟨b,o,ha,fun j v hv=>?_⟩;have h1:=hc j v hv;have h2:w'.heap[b]?=w.heap[b]?:=hf.block b (hlt _ ha) (hb _ ha);simp only[World.cell?] at h1 ⊢;rw[h2];exact h1⟩
theorem Ae.frl {α:Type}{cs:α->List Value}{sz:Nat}{t:TypeId}{w w':World}{B n cap:Nat}{a:Option Addr}{l:List α}{bs:List Nat}(h:Ae cs sz t w B a n cap l)(hf:FrL bs w w')(hb:∀ ad,a=some ad->ad.block∉bs):Ae cs sz t w' B a n cap l:=by
 refine⟨h.sl.frl hf hb (fun ad e=>(h.block ad e).2),?_⟩;rcases h.own with h0 | ⟨b,h1,h2,h3,h4,c,h5,h6⟩
 ·exact .inl h0
 ·exact .inr ⟨b,h1,h2,h3,h4,c,h5.frl hf (hb _ h1),h6⟩
def AU:Option Addr->List Nat
 |none=>[]
 |some x=>[x.block]
theorem aO_ {a:Option Addr}{k:Nat}:k∈AU a↔∃ x,a=some x∧x.block=k:=by
 cases a with
 |none=>simp[AU]
 |some x=>simp[AU,eq_comm]
theorem gm_ {a:Option Addr}{n cap k:Nat}(h:Value.ownBlock (.slice a n cap)=some k):k∈AU a:=by
 cases a with
 |none=>simp[Value.ownBlock] at h
 |some x=>simp[Value.ownBlock] at h;simp[AU,h]
theorem Hu (x:It):∀ (L acc:List It),DW x (L.foldl (Bi x) (acc,true))=acc++L.filter (fun y=>!(y.nm.toList==x.nm.toList))
 |[],acc=>by simp[DW]
 |y::r,acc=>by
  rw[YE]
  cases he:(y.nm.toList==x.nm.toList)
  ·have:Bi x (acc,true) y=(acc++[y],true):=by simp only[Bi,he];rfl
   rw[this,Hu x r,ZH,he];simp
  ·have:Bi x (acc,true) y=(acc,true):=by simp only[Bi,he];simp
   rw[this,Hu x r,ZH,he];simp
theorem HW (x:It):∀ (L acc:List It),DW x (L.foldl (Bi x) (acc,false))=acc++L.takeWhile (fun y=>bl y.nm.toList x.nm.toList)++[x]++(L.dropWhile (fun y=>bl y.nm.toList x.nm.toList)).filter (fun y=>!(y.nm.toList==x.nm.toList))
 |[],acc=>by simp[DW]
 |y::r,acc=>by
  rw[YE]
  cases hb:bl y.nm.toList x.nm.toList
  ·cases he:(y.nm.toList==x.nm.toList)
   ·have:Bi x (acc,false) y=(acc++[x]++[y],true):=by simp only[Bi,he,hb];rfl
    rw[this,Hu x r,List.takeWhile_cons,List.dropWhile_cons,hb];simp[he]
   ·have:Bi x (acc,false) y=(acc++[x],true):=by simp only[Bi,he,hb];simp
    rw[this,Hu x r,List.takeWhile_cons,List.dropWhile_cons,hb];simp[he]
  ·have he:(y.nm.toList==x.nm.toList)=false:=by
    cases h:(y.nm.toList==x.nm.toList)
    ·rfl
    ·have h2:y.nm.toList=x.nm.toList:=by simpa using h
     rw[h2,cn_] at hb;cases hb
   have:Bi x (acc,false) y=(acc++[y],false):=by simp only[Bi,he,hb];rfl
   rw[this,HW x r,List.takeWhile_cons,List.dropWhile_cons,hb];simp
theorem d5_ {α:Type}(q:α->Bool)(l:List α):l.take (l.takeWhile q).length=l.takeWhile q∧l.drop (l.takeWhile q).length=l.dropWhile q:=by
 have h:=List.takeWhile_append_dropWhile (p:=q) (l:=l);constructor
 ·conv=>lhs;arg 2;rw[<-h]
  exact List.take_left
 ·conv=>lhs;arg 2;rw[<-h]
  exact List.drop_left
def plI (l:List It)(nm:ByteArray):Nat:=(l.takeWhile (fun y=>bl y.nm.toList nm.toList)).length
theorem mL_ {α:Type}(q:α->Bool):∀ (l:List α) (k:Nat) (y:α),l[k]?=some y->k<=(l.takeWhile q).length->(q y=true->k+1<=(l.takeWhile q).length)∧(q y=false->k=(l.takeWhile q).length)
 |[],k,y,h,_=>by simp at h
 |x::t,0,y,h,_=>by
  simp at h;subst h;rw[List.takeWhile_cons];exact⟨fun hq=>by rw[if_pos hq];simp,fun hq=>by rw[if_neg (by simp[hq])];rfl⟩
 |x::t,k+1,y,h,hk=>by
  rw[List.takeWhile_cons] at hk ⊢;by_cases hq:q x=true
  ·rw[if_pos hq] at hk ⊢;have ih:=mL_ q t k y (by simpa using h) (by simpa using hk);simp only[Zw];exact⟨fun e=>by have:=ih.1 e;omega,fun e=>by have:=ih.2 e;omega⟩
  ·rw[if_neg hq] at hk;simp at hk
theorem oq_ {l:List It}{nm:ByteArray}{k:Nat}{y:It}(h:l[k]?=some y)(hk:k<=plI l nm):(bl y.nm.toList nm.toList=true->k+1<=plI l nm)∧(bl y.nm.toList nm.toList=false->k=plI l nm):=mL_ _ l k y h hk
theorem p0_ (l:List It)(nm:ByteArray):plI l nm<=l.length:=(List.takeWhile_prefix _).length_le
def E6 (l:List It):Prop:=l.Pairwise (fun a b=>bl a.nm.toList b.nm.toList=true)
theorem mM_ {l:List It}{x:It}(hr:E6 l)(hn:∀ y,l[plI l x.nm]?=some y->¬ y.nm.toList=x.nm.toList):Ba x l=l.take (plI l x.nm)++[x]++l.drop (plI l x.nm):=by
 unfold Ba;rw[HW,ZM];obtain⟨e1,e2⟩:=d5_ (fun y=>bl y.nm.toList x.nm.toList) l;show _=l.take (l.takeWhile _).length++[x]++l.drop (l.takeWhile _).length;rw[e1,e2];congr 1;rw[YA];intro z hz
 cases hd:l.dropWhile (fun y=>bl y.nm.toList x.nm.toList) with
 |nil=>rw[hd] at hz;cases hz
 |cons d t=>
  have ha:bl d.nm.toList x.nm.toList=false:=by
   have:=List.head_dropWhile_not (p:=fun y:It=>bl y.nm.toList x.nm.toList) (l:=l) (by rw[hd];simp)
   simpa[hd] using this
  have hb:l[plI l x.nm]?=some d:=by
   have:(l.drop (plI l x.nm))[0]?=some d:=by show (l.drop (l.takeWhile _).length)[0]?=_;rw[e2,hd];rfl
   simpa using this
  rw[hd] at hz;have hp:(d::t).Pairwise (fun a b:It=>bl a.nm.toList b.nm.toList=true):=by rw[<-hd];exact hr.sublist (List.dropWhile_sublist _)
  rcases Zn.1 hz with rfl | hz
  ·have:=hn z hb;simpa using this
  ·have h1:=(Ye.1 hp).1 z hz
   cases he:(z.nm.toList==x.nm.toList)
   ·rfl
   ·rw[beq_iff_eq] at he;rw[he,ha] at h1
    cases h1
theorem pD_ {l:List It}{x y:It}(hr:E6 l)(hy:l[plI l x.nm]?=some y)(he:y.nm.toList=x.nm.toList):Ba x l=l.set (plI l x.nm) x:=by
 unfold Ba;rw[HW,ZM];obtain⟨e1,e2⟩:=d5_ (fun y=>bl y.nm.toList x.nm.toList) l;have ha:=(Zb.1 hy).1;rw[List.set_eq_take_append_cons_drop,if_pos ha]
 have hd:l.dropWhile (fun y=>bl y.nm.toList x.nm.toList)=y::l.drop (plI l x.nm+1):=by
  rw[<-e2];show l.drop (plI l x.nm)=_;rw[List.drop_eq_getElem_cons ha];congr 1;simpa[ZI ha] using hy
 have hp:(y::l.drop (plI l x.nm+1)).Pairwise (fun a b:It=>bl a.nm.toList b.nm.toList=true):=by rw[<-hd];exact hr.sublist (List.dropWhile_sublist _)
 rw[hd,<-e1,ZH,if_neg (by simp[he])];show l.take (plI l x.nm)++[x]++_=_;rw[YA.2]
 ·simp
 ·intro z hz;have h1:=(Ye.1 hp).1 z hz
  cases hq:(z.nm.toList==x.nm.toList)
  ·rfl
  ·rw[beq_iff_eq] at hq;rw[hq,he,cn_] at h1
   cases h1
end
section
open Go Go.RowKit Go.BigFrame Tryz
variable{α:Type}{r:IR}{y:It}{rows:List IR}{l:List It}{B k:Nat}{w:World}{x:α}
def BL (c:Int)(a:Addr):Value:=.iface 99 (.agg #[.int .i64 c,.iface 348 (.pointer (some a))])
def BD (w:World)(g:Nat)(a:Addr):Prop:=w.cell? ⟨g,0,none⟩=some (.iface 348 (.pointer (some a)))
theorem Bd.parts {r:VR}{y:Vo}(h:Bd B w r y):∃ rowsI,Ae irs 2 125 w B r.pa r.pn r.pc rowsI∧AE B w rowsI y.its:=h.its
theorem AE.set (k:Nat)(h:AE B w rows l)(h':BY B w r y):AE B w (rows.set k r) (l.set k y):=⟨by simp[h.len],mB_ h.at' h'⟩
theorem AE.ins (hk:k<=rows.length)(h:AE B w rows l)(h':BY B w r y):AE B w (rows.take k++[r]++rows.drop k) (l.take k++[y]++l.drop k):=by
 have hl:=h.len;refine⟨by simp[hl],fun i q z h1 h2=>?_⟩;have e1:(rows.take k).length=k:=by simp;omega
 have e2:(l.take k).length=k:=by simp;omega
 rw[ZC] at h1 h2;by_cases hi:i<k
 ·rw[ZD (by omega),Ya hi] at h1 h2;exact h.at' i q z h1 h2
 ·rw[Zv (by omega)] at h1 h2;rw[e1] at h1;rw[e2] at h2;by_cases hik:i=k
  ·subst hik;rw[Nat.sub_self] at h1 h2;simp at h1 h2;subst h1 h2;exact h'
  ·obtain⟨j,hj⟩:∃ j,i-k=j+1:=⟨i-k-1,by omega⟩;rw[hj] at h1 h2;simp only[List.singleton_append,Yt,List.getElem?_drop] at h1 h2;exact h.at' (k+j) q z h1 h2
theorem pE_ {a b:ByteArray}(h:a.toList=b.toList):a=b:=by
 rw[Zu,Zu] at h;exact ByteArray.ext (Array.toList_inj.1 h)
theorem kB_ {l:List α}{i:Nat}(h:l[i]?=some x):l.set i x=l:=by
 apply List.ext_getElem?;intro j;by_cases hj:i=j
 ·subst hj;rw[Zx (Zb.1 h).1,h]
 ·rw[ZJ hj]
theorem mN_ {l:List α}{x':α}(hk:k<=l.length):(l.take k++[x]++l.drop k).set k x'=l.take k++[x']++l.drop k:=by
 have e1:(l.take k).length=k:=by simp;omega
 rw[ZC,List.set_append_right _ _ (by omega),e1,Nat.sub_self];simp
theorem AE.tyR {w':World}{row:Option Nat}{t':TypeId}(h:AE B w rows l)(hg:w.grownBy w' row)(hr:BA w row t')(ht:(201:TypeId)≠t'):AE B w' rows l:=
 ⟨h.len,fun i r y h1 h2=>⟨(h.at' i r y h1 h2).nm,(h.at' i r y h1 h2).ps.ty hg hr ht⟩⟩
def FJ (w:World)(r:VR)(w':World)(r':VR):Prop:=(∀ ad,r'.pa=some ad->ad.block∈AU r.pa∨w.heap.size<=ad.block)∧∀ rs,AF irs 2 w r.pa r.pn rs->DO w.heap.size (bkI rs) (pbk w' r')
end
end Go.Proofs.YtahenegmbmnmjaaGreatDoor
