/- Counts added up: a list in order with no nought is told by its sums. -/
import Derived.Test.YtahenegmbmnmjaaGreatDoorU01
set_option maxHeartbeats 20000000
set_option maxRecDepth 100000
namespace Go.Proofs.YtahenegmbmnmjaaGreatDoor
section
open Go Go.RowKit
variable{α:Type}{P:Program}{w:World}
theorem ph_ {cs:α->List Value}{size:Nat}{o:Oper}{a:Act}{K:Act->World->Prop}{Q:Exit->Act->World->Prop}
  (s x:Operand)(t:TypeId)(ho:o.op=.call {callee:=.builtin .append,args:=#[s,x],argTypes:=#[t,t]})
  (B:Nat)(e:TypeId)(i:TypeInfo)(z:Value)(bytes:Nat)(ht:P.underlying t=some (.slice e))(hi:P.info? e=some i)(hz:i.zero=some z)(hsize:i.size=size)(hby:i.bytes=bytes)(hzs:z.cells.size=size)(hpos:0<size)
  (hsz:∀ y,(cs y).length=size)(hone:∀ (l:List α),∀ u∈l.flatMap cs,u.oneCell'=true)
  (da:Option Addr)(dn dcap:Nat)(ld:List α)(hs:a.eval s=.slice da dn dcap)(hd:Ae cs size e w B da dn dcap ld)
  (b off:Nat)(ls:List α)(hx:a.eval x=.slice (some ⟨b,off,none⟩) 1 1)(hsrc:AF cs size w (some ⟨b,off,none⟩) 1 ls)
  (h63:dn+1<=maxLen)(hbytes:(dn+1)*bytes<=140737488355328)(hbase:B<=w.heap.size)
  (h:∀ a' cap' w',Ae cs size e w' B a' (dn+1) cap' (ld++ls)->w.grownBy w' (Value.ownBlock (.slice da dn dcap))->(∀ ad',a'=some ad'->(∃ ad,da=some ad∧ad.block=ad'.block)∨w.heap.size<=ad'.block)->K (a.put o.dst (.slice a' (dn+1) cap')) w'):o.wp P a w K Q:=by
 have hb:=hd.row hsz;have he:(ld++ls).length=dn+1:=by rw[ZE,hd.sl.len,hsrc.len]
 have hh:(ls.flatMap cs).length=1*size:=by rw[aY_ hsz,hsrc.len]
 obtain⟨v',w',hr,ha,hg,_⟩:=run_append_own (P:=P) w B t o.type e i z size bytes ht hi hz hsize hby hzs hpos (.slice da dn dcap) dn (ld.flatMap cs) hb ⟨b,off,none⟩ 1 1 (ls.flatMap cs) hh (AF.src hsz hsrc) (hone ls) h63 hbytes hbase;have hj:=iD_ (P:=P) B t o.type e i z size bytes ht hi hz hsize hby dn (ld.flatMap cs) hb ⟨b,off,none⟩ 1 1 (ls.flatMap cs) (by omega) hh (AF.src hsz hsrc) (hone ls) h63 hbytes hr;rw[<-ZQ] at ha;obtain⟨a',cap',rfl,hf⟩:=bz_ hsz he ha;unfold Oper.wp;simp[execOp,ho,resolve,invoke,builtin,hs,hx,hr,Result.andThen];refine h a' cap' w' hf hg (fun ad' hc=>?_);subst hc;rcases hj ad'.block (by simp[Value.ownBlock]) with h1 | h1
 ·cases da with
  |none=>simp[Value.ownBlock] at h1
  |some ad=>exact .inl ⟨ad,rfl,by simpa[Value.ownBlock] using h1⟩
 ·exact .inr h1
end
section
open Go Go.RowKit Go.BigFrame Tryz
variable{fr st to x y:Int}{l r:List Pt}{b:Nat}{p q:Pt}{w:World}
theorem i7_ (a:Option Addr)(n cap:Nat)(l:List Pt)(w:World)(h:AN w a n l)(hn:n<=4194304):
  Calls prog 153 #[.slice a n cap] w fun e w'=>e=.returned (.bool (Ac l))∧Below w.heap.size w w':=by
 have hc:=h.len;by_cases h16:n<=16
 ·have hf:Hid (Ac l=sgo none 0 l):=by show _=_;rw[pe_ l none 0 (by omega) (by omega)];simp[Ac,hc,h16]
  have hg:Hid (l.length=n):=hc;clear hc;go_enter func153,ntmps153
  go_wp2_with fail
  go_loopw [2,3,4] (fun r s ix wr=>∃ (k:Nat) (lf:Int),k<=n∧ix=.int .i64 k∧s=.int .i64 lf∧0<=lf∧lf<=100*k∧Hid (sgo none 0 l=sgo (ahead l k) lf (l.drop k))∧Below w.heap.size w wr) (fun _ _ ix _=>n-(intOf ix).toNat)
  case atStart=>exact⟨0,0,Zg _,rfl,rfl,by omega,by omega,rfl,Yg _ _⟩
  case round=>
   obtain⟨k,lf,hk,rfl,rfl,ho,hr,hI,hB⟩:=hrel;by_cases hlt:k<n
   ·obtain⟨b,o,p,rfl,hp,c0,c1,c2⟩:=bi_ (h.below hB) hlt;have hd:Hid (l.drop k=p::l.drop (k+1)):=al_ hp;have hq:Hid (l[k]?=some p):=hp;clear hp;have hs:(k:Int)<n:=by omega
    have ht:(0:Int)<=k:=by omega
    cases hb:(Ag p&&decide (p.n<=100))
    ·go_wp2_with fail
     have g0:=Ad c0;have g1:=Ad c1;have g2:=Ad c2;have hl:=aA_ wr;refine ab_ (by kernel_rfl) (by kernel_rfl) ?_
     repeat (go_big_quiet_step (first | (go_at_call 203;have qq:=cR_ p;rw[hb] at qq;exact an_ (qq _))))
     refine wpQuiet_nil ?_;intro w2 hx;have he:=ah_ hx;clear hx;go_wp2;go_returns;go_light;refine⟨ac_ ?_,Aa hB he⟩;rw[hf.out,hI.out,hd.out];cases ahead l k<;>simp only[sgo,hb,Zr]
    ·have hu:1<=p.n∧p.n<=100:=by simp at hb;exact⟨av_ hb.1,hb.2⟩
     rcases k with _ | j
     ·simp only[Nat.zero_mul,Nat.add_zero] at c0 c1 c2
      go_wp2_with fail
      have g0:=Ad c0;have g1:=Ad c1;have g2:=Ad c2;have hl:=aA_ wr;refine ab_ (by kernel_rfl) (by kernel_rfl) ?_
      repeat (go_big_quiet_step (first | (go_at_call 203;have qq:=cR_ p;rw[hb] at qq;exact an_ (qq _))))
      refine wpQuiet_nil ?_;intro w2 hx;have he:=ah_ hx;have d2:=Ab he c2;clear hx;go_wp2;go_roundw
      case rel=>exact⟨1,lf+p.n,by omega,by go_num,by go_num,by omega,by omega,by show _=_;rw[hI.out,hd.out,hh_,b6_,hq.out];simp only[sgo,hb,Zp],Aa hB he⟩
      case measure=>simp[intOf];omega
     ·obtain⟨b',o',q,hj,hm,d0,d1,d2⟩:=bi_ (h.below hB) (k:=j) (by omega);obtain⟨rfl,rfl⟩:b=b'∧o=o':=by simpa using hj
      have ha:Hid (ahead l (j+1)=some q):=by show _=_;rw[b6_];exact hm
      clear hm hj
      cases hh:Ax q p
      all_goals
       go_wp2_with fail
       have g0:=Ad c0;have g1:=Ad c1;have g2:=Ad c2;have g3:=Ad d0;have g4:=Ad d1;have g5:=Ad d2;have hl:=aA_ wr;refine ab_ (by kernel_rfl) (by kernel_rfl) ?_
       repeat (go_big_quiet_step (first | (go_at_call 203;have qq:=cR_ p;rw[hb] at qq;exact an_ (qq _)) | (go_at_call 204;have qq:=gC_ q p;rw[hh] at qq;exact an_ (qq _))))
       refine wpQuiet_nil ?_;intro w2 hx;have he:=ah_ hx;have e2:=Ab he c2;clear hx;go_wp2
      ·go_roundw
       case rel=>exact⟨j+2,lf+p.n,by omega,by go_num,by go_num,by omega,by omega,by show _=_;rw[hI.out,hd.out,ha.out,b6_,hq.out];simp only[sgo,hb,hh,Zp,Bool.not_false],Aa hB he⟩
       case measure=>simp[intOf];omega
      ·go_returns;go_light;refine⟨ac_ ?_,Aa hB he⟩;rw[hf.out,hI.out,hd.out,ha.out];simp only[sgo,hb,hh,Zp,Bool.not_true,Zr]
   ·obtain rfl:k=n:=by omega
    go_wp2;go_returns;go_light;refine⟨ac_ ?_,hB⟩;rw[hf.out,hI.out,Ze (Zm hg.out)];cases ahead l k<;>rfl
 ·go_enter func153,ntmps153;go_wp2;go_returns;go_light;refine⟨ac_ ?_,Yg _ _⟩;simp[Ac,hc];omega
theorem aZ_ (a:Option Addr)(n cap:Nat)(l:List Pt)(w:World)(h:AN w a n l)(hn:n<=4194304)(hs:∀ k,0<=Af (l.take k)∧Af (l.take k)<=100):
  Calls prog 166 #[.slice a n cap] w fun e w'=>e=.returned (.int .i64 (Af l))∧w'=w:=by
 have ha:Hid (l.length=n):=h.len;go_enter func166,ntmps166
 go_wp2_with fail
 go_loop [3,4] (fun s ix=>∃ (k:Nat),k<=n∧ix=.int .i64 k∧s=.int .i64 (Af (l.take k))) (fun _ ix=>n-(intOf ix).toNat)
 case atStart=>exact⟨0,Zg _,rfl,rfl⟩
 case round=>
  obtain⟨k,hk,rfl,rfl⟩:=hrel;have he:=hs k;have hb:=hs (k+1);by_cases hlt:k<n
  ·obtain⟨b,o,p,rfl,hp,c0,c1,c2⟩:=bi_ h hlt;have hc:Hid (Af (l.take (k+1))=Af (l.take k)+p.n):=gc_ hp;have hf:0<=Af (l.take k)+p.n∧Af (l.take k)+p.n<=100:=by rw[<-hc.out];exact hb
   clear hp hb;generalize Af (l.take k)=s at *;go_wp2;go_round
   case rel=>exact⟨k+1,by omega,by go_num,by rw[hc.out]⟩
   case measure=>simp[intOf];omega
  ·obtain rfl:k=n:=by omega
   go_wp2;go_returns;go_light;refine⟨a4_ ?_,rfl⟩;rw[Zk (Zm ha.out)]
theorem i8_ (h:Ac l=true):∀ k,0<=Af (l.take k)∧Af (l.take k)<=100:=by
 intro k;obtain⟨_,h1,h2⟩:=ae_ h
 have:=a6_ h1 k
 omega
def Ch (l:List Pt):Int:=if Ac l=true then Af l else -1
theorem bo_ (a:Option Addr)(n cap:Nat)(l:List Pt)(w:World)(h:AN w a n l)(hn:n<=4194304):
  Calls prog 79 #[.slice a n cap] w fun e w'=>e=.returned (.int .i64 (Ch l))∧Below w.heap.size w w':=by
 cases hb:Ac l
 ·have hf:Hid (Ch l=-1):=by show _=_;simp[Ch,hb]
  go_enter func79,ntmps79
  go_wp2_with fail
  refine (as_ a n cap l _ h hn).mono ?_;rintro e w1 ⟨rfl,hc⟩;rw[hb];go_wp2;go_returns;go_light;exact⟨a4_ hf.out.symm,hc⟩
 ·have hf:Hid (Ch l=Af l):=by show _=_;simp[Ch,hb]
  have hs:Hid (∀ k,0<=Af (l.take k)∧Af (l.take k)<=100):=i8_ hb;have ha:Hid (l.length=n):=h.len;go_enter func79,ntmps79
  go_wp2_with fail
  refine (as_ a n cap l _ h hn).mono ?_;rintro e w1 ⟨rfl,hc⟩;rw[hb]
  go_wp2_with fail
  go_loopw [3,11] (fun s ix wr=>∃ (k:Nat),k<=n∧ix=.int .i64 k∧s=.int .i64 (Af (l.take k))∧Below w.heap.size w wr) (fun _ ix _=>n-(intOf ix).toNat)
  case atStart=>exact⟨0,Zg _,rfl,rfl,hc⟩
  case round=>
   obtain⟨k,hk,rfl,rfl,hB⟩:=hrel;have hh:=hs.out k;have he:=hs.out (k+1);by_cases hlt:k<n
   ·obtain⟨b,o,p,rfl,hp,c0,c1,c2⟩:=bi_ (h.below hB) hlt;have hg:Hid (Af (l.take (k+1))=Af (l.take k)+p.n):=gc_ hp;have hj:0<=Af (l.take k)+p.n∧Af (l.take k)+p.n<=100:=by rw[<-hg.out];exact he
    clear hp he;generalize Af (l.take k)=s at *;go_wp2;go_roundw
    case rel=>exact⟨k+1,by omega,by go_num,by rw[hg.out],by have:=hB.size;go_grown⟩
    case measure=>simp[intOf];omega
   ·obtain rfl:k=n:=by omega
    go_wp2;go_returns;go_light;refine⟨a4_ ?_,hB⟩;rw[Zk (Zm ha.out),hf.out]
theorem aE_ {P:Program}{id:Nat}{Q:Exit->Act->World->Prop}{a:Act}{l:List Oper}(n:Nat)(hm:P.follows .mixedOrders=true)(hB:Region.lexTailB .any l.toArray n=true)
  (h:wpStill P l.toArray w.drew (fun a'=>wpList P l.toArray Q (l.drop n) a' w.drew) (l.take n) a):(Code.region id l.toArray true).wp P Q a w:=
 wp_region_still_tail n hm hB h
structure RSt where
 L:List Pt
 s:Int
 ov:Bool
structure BJ (w:World)(b:Nat)(r:RSt):Prop where
 le:r.L.length<=16
 blk:∃ c:Array Value,Blk w b c 204∧c.size=51∧(∀ i p,r.L[i]?=some p->c[i*3]?=some (.int .i64 p.a)∧c[i*3+1]?=some (.int .i64 p.f)∧c[i*3+2]?=some (.int .i64 p.n))∧
  c[48]?=some (.int .i64 r.L.length)∧c[49]?=some (.int .i64 r.s)∧c[50]?=some (.bool r.ov)
def BE (r:RSt)(p:Pt):RSt:=
 if 100<r.s+p.n then ⟨r.L,r.s+p.n,true⟩ else
 match r.L.getLast? with
 |none=>⟨[p],r.s+p.n,r.ov⟩
 |some q=>if Ax q p then ⟨r.L.dropLast++[⟨q.a,q.f,q.n+p.n⟩],r.s+p.n,r.ov⟩ else
  if r.L.length<16 then ⟨r.L++[p],r.s+p.n,r.ov⟩ else ⟨r.L,r.s+p.n,true⟩
theorem hm_ {r:RSt}(hA:r.s+p.n<=100)(hl:r.L.getLast?=some q)(hg:Ax q p=true):BE r p=⟨r.L.dropLast++[⟨q.a,q.f,q.n+p.n⟩],r.s+p.n,r.ov⟩:=by
 have:¬ 100<r.s+p.n:=by omega
 simp[BE,this,hl,hg]
theorem j0_ {r:RSt}(hA:r.s+p.n<=100)(hl:r.L.getLast?=some q)(hg:Ax q p=false)(hf:r.L.length<16):BE r p=⟨r.L++[p],r.s+p.n,r.ov⟩:=by
 have:¬ 100<r.s+p.n:=by omega
 simp[BE,this,hl,hg,hf]
theorem iE_ {r:RSt}(hA:r.s+p.n<=100)(hl:r.L.getLast?=some q)(hg:Ax q p=false)(hf:¬ r.L.length<16):BE r p=⟨r.L,r.s+p.n,true⟩:=by
 have:¬ 100<r.s+p.n:=by omega
 simp[BE,this,hl,hg,hf]
def DQ (r:RSt):Prop:=0<=r.s∧∀ q∈r.L,1<=q.n∧q.n<=r.s
theorem hn_ (b:Nat)(r:RSt)(p:Pt)(w:World)(h:BJ w b r)(hi:DQ r)(hs:r.s<=1000000)(hp1:1<=p.n)(hp2:p.n<=1000000):
  Calls prog 196 #[.pointer (some ⟨b,0,none⟩),.agg #[.int .i64 p.a,.int .i64 p.f,.int .i64 p.n]] w fun e w'=>e=.returned (.tuple #[])∧BJ w' b (BE r p)∧w.grownBy w' (some b):=by
 obtain⟨hv,c,hb,hm,ho,e48,e49,e50⟩:=h;obtain⟨hK,hD⟩:=hi;have hH:=hb.lt;have c48:=hb.cell 48;have c49:=hb.cell 49;have c50:=hb.cell 50;rw[e48] at c48;rw[e49] at c49;rw[e50] at c50;have f106:=hb.frozen 48;have f107:=hb.frozen 49;have f108:=hb.frozen 50;by_cases hA:100<r.s+p.n
 ·have hr:Hid (BE r p=⟨r.L,r.s+p.n,true⟩):=by show _=_;simp[BE,hA]
  go_enter func196,ntmps196
  go_wp2_with fail
  refine aE_ 9 (by kernel_rfl) (by kernel_rfl) ?_;simp only[ZP,Yx,ZR,YC]
  repeat still_step
  refine wpStill_nil ?_;go_wp2;go_returns;go_light;refine⟨rfl,?_,?_⟩
  ·rw[hr.out];refine⟨hv,_,(((hb.set 49 _).set 50 _).alloc _).drew,by simp[hm],?_,?_,?_,?_⟩
   ·intro i q hq;have hw:i<r.L.length:=(Zb.1 hq).1;obtain⟨r0,r1,r2⟩:=ho i q hq;refine⟨?_,?_,?_⟩
    all_goals (rw[Za (by omega),Za (by omega)];assumption)
   ·rw[Za (by omega),Za (by omega)];exact e48
   ·rw[Za (by omega),Zh (by omega)]
   ·rw[Zh (by simp[hm])]
  ·exact au_ (af_ (af_ (Yh _ _) _ _) _ _) (((Yg _ _).alloc (Zd _) _).drew)
 ·have hP:IntKind.i64.wrap (r.s+p.n)=r.s+p.n:=by rw[Ys];omega
  have he:Blk ((w.setCell ⟨b,49,none⟩ (.int .i64 (r.s+p.n))).alloc (.cells #[.int .i64 p.a,.int .i64 p.f,.int .i64 p.n] 201)).drew b (c.setIfInBounds 49 (.int .i64 (r.s+p.n))) 204:=((hb.set 49 _).alloc _).drew;have hh:w.grownBy ((w.setCell ⟨b,49,none⟩ (.int .i64 (r.s+p.n))).alloc (.cells #[.int .i64 p.a,.int .i64 p.f,.int .i64 p.n] 201)).drew (some b):=au_ (af_ (Yh _ _) _ _) (((Yg _ _).alloc (Zd _) _).drew);have k48:(c.setIfInBounds 49 (.int .i64 (r.s+p.n)))[48]?=some (.int .i64 r.L.length):=by rw[Za (by omega)];exact e48
  have k49:(c.setIfInBounds 49 (.int .i64 (r.s+p.n)))[49]?=some (.int .i64 (r.s+p.n)):=by rw[Zh (by omega)]
  have k50:(c.setIfInBounds 49 (.int .i64 (r.s+p.n)))[50]?=some (.bool r.ov):=by rw[Za (by omega)];exact e50
  have kp:∀ i q,r.L[i]?=some q->(c.setIfInBounds 49 (.int .i64 (r.s+p.n)))[i*3]?=some (.int .i64 q.a)∧(c.setIfInBounds 49 (.int .i64 (r.s+p.n)))[i*3+1]?=some (.int .i64 q.f)∧(c.setIfInBounds 49 (.int .i64 (r.s+p.n)))[i*3+2]?=some (.int .i64 q.n):=by
   intro i q hq;have hw:i<r.L.length:=(Zb.1 hq).1;obtain⟨r0,r1,r2⟩:=ho i q hq;refine⟨?_,?_,?_⟩
   all_goals (rw[Za (by omega)];assumption)
  have ks:(c.setIfInBounds 49 (.int .i64 (r.s+p.n))).size=51:=by simp[hm]
  have x0:((w.setCell ⟨b,49,none⟩ (.int .i64 (r.s+p.n))).alloc (.cells #[.int .i64 p.a,.int .i64 p.f,.int .i64 p.n] 201)).drew.cell? ⟨w.heap.size,0,none⟩=some (.int .i64 p.a):=by simp[go_sem]
  have x1:((w.setCell ⟨b,49,none⟩ (.int .i64 (r.s+p.n))).alloc (.cells #[.int .i64 p.a,.int .i64 p.f,.int .i64 p.n] 201)).drew.cell? ⟨w.heap.size,1,none⟩=some (.int .i64 p.f):=by simp[go_sem]
  have x2:((w.setCell ⟨b,49,none⟩ (.int .i64 (r.s+p.n))).alloc (.cells #[.int .i64 p.a,.int .i64 p.f,.int .i64 p.n] 201)).drew.cell? ⟨w.heap.size,2,none⟩=some (.int .i64 p.n):=by simp[go_sem]
  have hy:w.heap.size<((w.setCell ⟨b,49,none⟩ (.int .i64 (r.s+p.n))).alloc (.cells #[.int .i64 p.a,.int .i64 p.f,.int .i64 p.n] 201)).drew.heap.size:=by simp
  go_enter func196,ntmps196
  go_wp2_with fail
  refine aE_ 9 (by kernel_rfl) (by kernel_rfl) ?_;simp only[ZP,Yx,ZR,YC]
  repeat still_step
  refine wpStill_nil ?_
  go_wp2_with fail
  generalize hW5:((w.setCell ⟨b,49,none⟩ (.int .i64 (r.s+p.n))).alloc (.cells #[.int .i64 p.a,.int .i64 p.f,.int .i64 p.n] 201)).drew=W5 at he hh x0 x1 x2 hy ⊢;generalize hc5:c.setIfInBounds 49 (.int .i64 (r.s+p.n))=c5 at he k48 k49 k50 kp ks;clear hW5 hc5 c48 c49 c50 f106 f107 f108 e48 e49 e50 ho hm hb;have c48:=(he.cell 48).trans k48;rcases List.eq_nil_or_concat r.L with hL | ⟨L',q,hL⟩
  ·have hr:Hid (BE r p=⟨[p],r.s+p.n,r.ov⟩):=by show _=_;simp[BE,hA,hL]
   rw[hL] at c48 k48;simp at c48 k48
   -- the row is empty: the part is its first
   go_quiet (fail)
   have ha:=he.below (AK W5 nq);have hk:=au_ hh (AK W5 nq);have c48':=(ha.cell 48).trans k48;have f106:=ha.frozen 48;obtain⟨v0,y0⟩:=ha.has (i:=0) (by omega);obtain⟨v1,y1⟩:=ha.has (i:=1) (by omega);obtain⟨v2,y2⟩:=ha.has (i:=2) (by omega);have f0:=ha.frozen 0;have f1:=ha.frozen 1;have f2:=ha.frozen 2;replace x0:=Ab (AK W5 nq) x0;replace x1:=Ab (AK W5 nq) x1;replace x2:=Ab (AK W5 nq) x2;generalize W5.drewN nq=W6 at *;clear c48 he hh
   go_wp2_with fail
   refine aE_ 9 (by kernel_rfl) (by kernel_rfl) ?_;simp only[ZP,Yx,ZR,YC]
   repeat still_step
   refine wpStill_nil ?_;go_wp2;go_returns;go_light;refine⟨rfl,?_,?_⟩
   ·rw[hr.out];refine⟨by simp,_,((((ha.set 0 _).set 1 _).set 2 _).set 48 _).drew,by simp[ks],?_,?_,?_,?_⟩
    ·intro i x hx
     have:i=0:=by have:=(Zb.1 hx).1;simp at this;exact this
     subst this;simp at hx;subst hx;refine⟨?_,?_,?_⟩
     all_goals (simp[ks])
    ·simp[ks]
    ·simp[k49]
    ·simp[k50]
   ·exact au_ (af_ (af_ (af_ (af_ hk _ _) _ _) _ _) _ _) ((Yg _ _).drew)
  ·-- there is a last part
   have hg:r.L.length=L'.length+1:=by rw[hL];simp
   have hq:r.L[L'.length]?=some q:=by rw[hL];simp
   have hc:r.L.getLast?=some q:=by rw[hL];simp
   have hp:r.L.dropLast=L':=by rw[hL];simp
   have hF:L'.length<16:=by omega
   obtain⟨q0,q1,q2⟩:=kp _ q hq;have hM:=hD q (Zc hq);rw[hg] at c48 k48;generalize hj:L'.length=j at *;have d0:=(he.cell (j*3)).trans q0;have d1:=(he.cell (j*3+1)).trans q1;have d2:=(he.cell (j*3+2)).trans q2;have c48i:W5.cell? ⟨b,48,none⟩=some (.int .i64 ((j:Int)+1)):=by rw[c48];simp
   have hz:IntKind.i64.wrap ((j:Int)+1-1)=(j:Int):=by rw[Ys];omega
   have ht:(0:Int)<(j:Int)+1:=by omega
   have hl:(j:Int)<16:=by omega
   have hu:(0:Int)<=(j:Int):=by omega
   clear c48;have hB:=Ad c48i;have g0:=Ad d0;have g1:=Ad d1;have g2:=Ad d2;have g3:=Ad x0;have g4:=Ad x1;have g5:=Ad x2;have hG:=aA_ W5
   cases hn:Ax q p
   all_goals
    refine ab_ (by kernel_rfl) (by kernel_rfl) ?_
    repeat (go_big_quiet_step (first | (go_at_call 195;have qq:=gB_ q p;rw[hn] at qq;exact an_ (qq _))))
    refine wpQuiet_nil ?_;intro W6 hx;have hf:=ah_ hx;clear hx hB g0 g1 g2 g3 g4 g5 hG;have ha:=he.below hf;have hk:=au_ hh hf;have c48':=Ab hf c48i;have f106:=ha.frozen 48;replace x0:=Ab hf x0;replace x1:=Ab hf x1;replace x2:=Ab hf x2;clear he hh hf hy
   ·by_cases hfull:j+1<16
    ·have hr:Hid (BE r p=⟨r.L++[p],r.s+p.n,r.ov⟩):=j0_ (by omega) hc hn (by omega);obtain⟨v0,y0⟩:=ha.has (i:=(j+1)*3) (by omega);obtain⟨v1,y1⟩:=ha.has (i:=(j+1)*3+1) (by omega);obtain⟨v2,y2⟩:=ha.has (i:=(j+1)*3+2) (by omega);have f0:=ha.frozen ((j+1)*3);have f1:=ha.frozen ((j+1)*3+1);have f2:=ha.frozen ((j+1)*3+2);have n0:¬ (48=(j+1)*3):=by omega
     have n1:¬ (48=(j+1)*3+1):=by omega
     have n2:¬ (48=(j+1)*3+2):=by omega
     have hC:(j:Int)+1<16:=by omega
     have hI:(0:Int)<=(j:Int)+1:=by omega
     have hJ:((j:Int)+1).toNat=j+1:=by omega
     clear d0 d1 d2 hz ht hl hu
     go_wp2_with fail
     refine aE_ 9 (by kernel_rfl) (by kernel_rfl) ?_;simp only[ZP,Yx,ZR,YC]
     repeat still_step
     refine wpStill_nil ?_;go_wp2;go_returns;go_light;refine⟨rfl,?_,?_⟩
     ·rw[hr.out];refine⟨by simp;omega,_,((((ha.set ((j+1)*3) _).set ((j+1)*3+1) _).set ((j+1)*3+2) _).set 48 _).drew,by simp[ks],?_,?_,?_,?_⟩
      ·intro i x hx;have hE:i<j+2:=by have:=(Zb.1 hx).1;simp[hg] at this;omega
       by_cases hie:i=j+1
       ·subst hie;rw[Zv (by omega),hg] at hx;simp at hx;subst hx;refine⟨?_,?_,?_⟩
        ·rw[Za (by omega),Za (by omega),Za (by omega),Zh (by omega)]
        ·rw[Za (by omega),Za (by omega),Zh (by simp;omega)]
        ·rw[Za (by omega),Zh (by simp;omega)]
       ·rw[ZD (by omega)] at hx;obtain⟨r0,r1,r2⟩:=kp i x hx;refine⟨?_,?_,?_⟩
        all_goals (rw[Za (by omega),Za (by omega),Za (by omega),Za (by omega)];assumption)
      ·rw[Zh (by simp;omega)];simp[hg]
      ·rw[Za (by omega),Za (by omega),Za (by omega),Za (by omega)];exact k49
      ·rw[Za (by omega),Za (by omega),Za (by omega),Za (by omega)];exact k50
     ·exact au_ (af_ (af_ (af_ (af_ hk _ _) _ _) _ _) _ _) ((Yg _ _).drew)
    ·have hr:Hid (BE r p=⟨r.L,r.s+p.n,true⟩):=iE_ (by omega) hc hn (by omega);have f108:=ha.frozen 50;have c50:=(ha.cell 50).trans k50;have hC:¬ (j:Int)+1<16:=by omega
     clear d0 d1 d2 hz ht hl hu;go_wp2;go_returns;go_light;refine⟨rfl,?_,?_⟩
     ·rw[hr.out];refine⟨hv,_,ha.set 50 _,by simp[ks],?_,?_,?_,?_⟩
      ·intro i x hx;have hw:i<r.L.length:=(Zb.1 hx).1;obtain⟨r0,r1,r2⟩:=kp i x hx;refine⟨?_,?_,?_⟩
       all_goals (rw[Za (by omega)];assumption)
      ·rw[Za (by omega),k48,hg]
      ·rw[Za (by omega)];exact k49
      ·rw[Zh (by omega)]
     ·exact af_ hk _ _
   ·have hr:Hid (BE r p=⟨r.L.dropLast++[⟨q.a,q.f,q.n+p.n⟩],r.s+p.n,r.ov⟩):=hm_ (by omega) hc hn;have f2:=ha.frozen (j*3+2);have z2:=(ha.cell (j*3+2)).trans q2;have hN:IntKind.i64.wrap (q.n+p.n)=q.n+p.n:=by rw[Ys];omega
    have hO:IntKind.i64.wrap (j:Int)=(j:Int):=by rw[Ys];omega
    clear d0 d1 d2
    go_wp2_with fail
    refine aE_ 18 (by kernel_rfl) (by kernel_rfl) ?_;simp only[ZP,Yx,ZR,YC]
    repeat still_step
    refine wpStill_nil ?_;go_wp2;go_returns;go_light;refine⟨rfl,?_,?_⟩
    ·rw[hr.out];refine⟨by simp[hg];omega,_,(ha.set (j*3+2) _).drew,by simp[ks],?_,?_,?_,?_⟩
     ·intro i x hx;have hE:i<j+1:=by have:=(Zb.1 hx).1;simp[hg] at this;omega
      rw[hp] at hx;by_cases hie:i=j
      ·subst hie;rw[Zv (by omega),hj] at hx;simp at hx;subst hx;refine⟨?_,?_,?_⟩
       ·rw[Za (by omega)];exact q0
       ·rw[Za (by omega)];exact q1
       ·rw[Zh (by omega)]
      ·rw[ZD (by omega)] at hx;obtain⟨r0,r1,r2⟩:=kp i x (by rw[hL,List.concat_eq_append,ZD (by omega)];exact hx);refine⟨?_,?_,?_⟩
       all_goals (rw[Za (by omega)];assumption)
     ·rw[Za (by omega),k48];simp[hp,hj]
     ·rw[Za (by omega)];exact k49
     ·rw[Za (by omega)];exact k50
    ·exact au_ (af_ hk _ _) ((Yg _ _).drew)
def Bn (r:RSt)(l:List Pt):RSt:=l.foldl BE r
theorem fn_ (r:RSt)(p:Pt):(BE r p).s=r.s+p.n:=by
 unfold BE;split
 ·rfl
 ·split
  ·rfl
  ·split
   ·rfl
   ·split<;>rfl
theorem fJ_ {r:RSt}(h:DQ r)(hp:1<=p.n):DQ (BE r p):=by
 obtain⟨h0,h1⟩:=h;have ha:∀ q∈r.L,1<=q.n∧q.n<=r.s+p.n:=fun q hq=>by have:=h1 q hq;omega
 refine⟨by rw[fn_];omega,?_⟩;rw[fn_];unfold BE;split
 ·exact ha
 ·split
  ·rename_i hl;intro q hq;simp at hq;subst hq;omega
  ·rename_i q0 hl;have hb:=h1 q0 (List.mem_of_getLast? hl);split
   ·intro q hq;simp only[Zs,YP] at hq;rcases hq with hq | rfl
    ·exact ha q (List.dropLast_subset _ hq)
    ·show 1<=q0.n+p.n∧q0.n+p.n<=r.s+p.n;omega
   ·split
    ·intro q hq;simp only[Zs,YP] at hq;rcases hq with hq | rfl
     ·exact ha q hq
     ·omega
    ·exact ha
theorem pi_ {r:RSt}{k:Nat}(h:l[k]?=some p):Bn r (l.take (k+1))=BE (Bn r (l.take k)) p:=by
 unfold Bn;rw[bx_ h,List.foldl_append];rfl
theorem BJ.below {w':World}{r:RSt}(h:BJ w b r)(hb:Below w.heap.size w w'):BJ w' b r:=by
 obtain⟨ha,c,hc,q⟩:=h;exact⟨ha,c,hc.below hb,q⟩
theorem BJ.lt {r:RSt}(h:BJ w b r):b<w.heap.size:=by
 obtain⟨_,c,hc,_⟩:=h;exact hc.lt
theorem el_ (b:Nat)(r:RSt)(a:Option Addr)(n cap:Nat)(l:List Pt)(w:World)(hR:BJ w b r)(hi:DQ r)(hs:r.s<=900000)(h:AN w a n l)(hne:∀ ad,a=some ad->ad.block≠b)(hn:n<=16)(hl:∀ p∈l,1<=p.n∧p.n<=100):
  Calls prog 246 #[.pointer (some ⟨b,0,none⟩),.slice a n cap] w fun e w'=>e=.returned (.tuple #[])∧BJ w' b (Bn r l)∧DQ (Bn r l)∧(Bn r l).s<=r.s+1600∧w.grownBy w' (some b):=by
 have he:Hid (l.length=n):=h.len;go_enter func246,ntmps246
 go_wp2_with fail
 go_loopw [8] (fun ix wr=>∃ (k:Nat),k<=n∧ix=.int .i64 k∧BJ wr b (Bn r (l.take k))∧DQ (Bn r (l.take k))∧(Bn r (l.take k)).s<=r.s+100*k∧w.grownBy wr (some b)) (fun ix _=>n-(intOf ix).toNat)
 case atStart=>exact⟨0,Zg _,rfl,hR,hi,by simp[Bn],Yh _ _⟩
 case round=>
  obtain⟨k,hk,rfl,hb,ha,hr,hg⟩:=hrel;by_cases hlt:k<n
  ·obtain⟨b',o,p,rfl,hp,c0,c1,c2⟩:=bi_ (h.grown hg hne) hlt;have hf:Hid (Bn r (l.take (k+1))=BE (Bn r (l.take k)) p):=pi_ hp;have hj:=hl p (Zc hp);have hh:=fn_ (Bn r (l.take k)) p;have hc:=fJ_ ha hj.1;clear hp;generalize Bn r (l.take k)=r1 at *
   go_wp2_with fail
   refine (hn_ b r1 p _ (hb.below ((Yg _ _).alloc (Zd _) _)) ha (by omega) hj.1 (by omega)).mono ?_;rintro e w1 ⟨rfl,hm,ho⟩;have hq:=aV_ (au_ hg ((Yg _ _).alloc (Zd _) _)) ho;go_wp2;go_roundw
   case rel=>exact⟨k+1,by omega,by go_num,by rw[hf.out];exact hm,by rw[hf.out];exact hc,by rw[hf.out,hh];omega,hq⟩
   case measure=>simp[intOf];omega
  ·obtain rfl:k=n:=by omega
   go_wp2;go_returns;go_light;rw[Zk (Zm he.out)] at hb ha hr;exact⟨rfl,hb,ha,by omega,hg⟩
def Be (p:Pt)(x y:Int):Pt:=if p.a==0 then ⟨0,0,y-x⟩ else ⟨p.a,p.f+x,y-x⟩
theorem j1_ (p:Pt)(x y:Int)(w:World)(hf:-1000<=p.f)(hf':p.f<=1000)(hx0:0<=x)(hx1:x<=1000)(hy0:0<=y)(hy1:y<=1000):
  Calls prog 197 #[.agg #[.int .i64 p.a,.int .i64 p.f,.int .i64 p.n],.int .i64 x,.int .i64 y] w fun e w'=>e=.returned (.agg #[.int .i64 (Be p x y).a,.int .i64 (Be p x y).f,.int .i64 (Be p x y).n])∧Below w.heap.size w w':=by
 obtain⟨a,f,n⟩:=p;simp only at hf hf'
 cases ha:(a==0)
 ·have hc:Hid (Be ⟨a,f,n⟩ x y=⟨a,f+x,y-x⟩):=by show _=_;simp[Be,ha]
  go_enter func197,ntmps197;go_wp2;go_returns;go_light;refine⟨?_,by go_grown⟩;rw[hc.out]
 ·have hc:Hid (Be ⟨a,f,n⟩ x y=⟨0,0,y-x⟩):=by show _=_;simp[Be,ha]
  go_enter func197,ntmps197;go_wp2;go_returns;go_light;refine⟨?_,by go_grown⟩;rw[hc.out]
def slp (fr to:Int):Int->List Pt->List Pt
 |_,[]=>[]
 |st,p::r=>if max (fr-st) 0<min (to-st) p.n then Be p (max (fr-st) 0) (min (to-st) p.n)::slp fr to (st+p.n) r else slp fr to (st+p.n) r
theorem gf_ (p:Pt)(x y:Int):(Be p x y).n=y-x:=by unfold Be;split<;>rfl
theorem eN_ (hx:max (fr-st) 0=x)(hy:min (to-st) p.n=y)(h:x<y):slp fr to st (p::r)=Be p x y::slp fr to (st+p.n) r:=by
 subst hx hy;simp only[slp,h,if_true]
theorem n0_ {rk:RSt}(hx:max (fr-st) 0=x)(hy:min (to-st) p.n=y)(h:x<y):Bn rk (slp fr to st (p::r))=Bn (BE rk (Be p x y)) (slp fr to (st+p.n) r):=by
 rw[eN_ hx hy h];rfl
theorem fo_ (h:¬ max (fr-st) 0<min (to-st) p.n):slp fr to st (p::r)=slp fr to (st+p.n) r:=by
 simp only[slp,h,if_false]
theorem bf_ (b:Nat)(r:RSt)(a:Option Addr)(n cap:Nat)(l:List Pt)(fr to:Int)(w:World)(hR:BJ w b r)(hi:DQ r)(hs:r.s<=900000)(h:AN w a n l)(hne:∀ ad,a=some ad->ad.block≠b)(hn:n<=16)(hl:∀ p∈l,1<=p.n∧p.n<=100∧0<=p.f∧p.f<=100)(hf0:0<=fr)(hf1:fr<=10000)(ht0:0<=to)(ht1:to<=10000):
  Calls prog 143 #[.pointer (some ⟨b,0,none⟩),.slice a n cap,.int .i64 fr,.int .i64 to] w fun e w'=>e=.returned (.tuple #[])∧BJ w' b (Bn r (slp fr to 0 l))∧DQ (Bn r (slp fr to 0 l))∧(Bn r (slp fr to 0 l)).s<=r.s+1600∧w.grownBy w' (some b):=by
 have he:Hid (l.length=n):=h.len;go_enter func143,ntmps143
 go_wp2_with fail
 go_loopw [8,15] (fun s ix wr=>∃ (k:Nat) (st:Int) (rk:RSt),k<=n∧ix=.int .i64 k∧s=.int .i64 st∧0<=st∧st<=100*k∧BJ wr b rk∧DQ rk∧rk.s<=r.s+100*k∧Hid (Bn r (slp fr to 0 l)=Bn rk (slp fr to st (l.drop k)))∧w.grownBy wr (some b)) (fun _ ix _=>n-(intOf ix).toNat)
 case atStart=>exact⟨0,0,r,Zg _,rfl,rfl,by omega,by omega,hR,hi,by omega,rfl,Yh _ _⟩
 case round=>
  obtain⟨k,st,rk,hk,rfl,rfl,hw,ho,hb,hc,hz,hI,hg⟩:=hrel;by_cases hlt:k<n
  ·obtain⟨b',o,p,rfl,hp,c0,c1,c2⟩:=bi_ (h.grown hg hne) hlt;have hd:Hid (l.drop k=p::l.drop (k+1)):=al_ hp;obtain⟨hr,ht,hu,hv⟩:=hl p (Zc hp);clear hp;have hq:=hb.lt;by_cases hxy:max (fr-st) 0<min (to-st) p.n
   ·by_cases hx:fr-st<0
    all_goals by_cases hy:p.n<to-st
    all_goals
     go_wp2_with fail
     refine (j1_ p _ _ _ (by omega) (by omega) (by omega) (by omega) (by omega) (by omega)).mono ?_;rintro e w1 ⟨rfl,hf⟩;obtain⟨x0,x1,x2,ha,ho⟩:=Dp hf;clear hf
     go_wp2_with fail
     refine (hn_ b rk (Be p _ _) _ (hb.below ha) hc (by omega) (by rw[gf_];omega) (by rw[gf_];omega)).mono ?_;rintro e w2 ⟨rfl,hj,hh⟩;have z2:=hh.cell x2 (by simp;omega);have hm:=aV_ (au_ hg ha) hh;clear x0 x1 x2 ha c0 c1 c2;go_wp2;go_roundw
     case rel=>exact⟨k+1,st+p.n,_,by omega,by go_num,by go_num,by omega,by omega,hj,fJ_ hc (by rw[gf_];omega),by rw[fn_,gf_];omega,by show _=_;rw[hI.out,hd.out];exact n0_ (by omega) (by omega) (by omega),hm⟩
     case measure=>simp[intOf];omega
   ·by_cases hx:fr-st<0
    all_goals by_cases hy:p.n<to-st
    all_goals try (exfalso;omega)
    all_goals
     go_wp2;go_roundw
     case rel=>exact⟨k+1,st+p.n,rk,by omega,by go_num,by go_num,by omega,by omega,hb.below ((Yg _ _).alloc (Zd _) _),hc,by omega,by show _=_;rw[hI.out,hd.out,fo_ hxy],au_ hg ((Yg _ _).alloc (Zd _) _)⟩
     case measure=>simp[intOf];omega
  ·obtain rfl:k=n:=by omega
   go_wp2;go_returns;go_light;rw[Ze (Zm he.out)] at hI;rw[hI.out];exact⟨rfl,hb,hc,by show rk.s<=_;omega,hg⟩
theorem F6:(prog.info? 201).map (fun i=>(i.zero,i.size,i.bytes))=some (some (.agg #[.int .i64 0,.int .i64 0,.int .i64 0]),3,24):=by kernel_rfl
theorem ho_ (b:Nat)(r:RSt)(w:World)(hR:BJ w b r)(hov:r.ov=true):
  Calls prog 144 #[.pointer (some ⟨b,0,none⟩)] w fun e w'=>e=.returned (.tuple #[.slice none 0 0,.bool false])∧w'=w:=by
 obtain⟨he,c,ha,hc,hb,e48,e49,e50⟩:=hR;have c50:=(ha.cell 50).trans e50;rw[hov] at c50;go_enter func144,ntmps144;go_wp2;go_returns;exact⟨rfl,rfl⟩
theorem BJ.sl {r:RSt}(h:BJ w b r):AN w (some ⟨b,0,none⟩) r.L.length r.L:=by
 obtain⟨he,c,ha,hc,hb,_⟩:=h;refine⟨rfl,fun i x hx=>⟨b,0,rfl,fun j v hv=>?_⟩⟩;obtain⟨r0,r1,r2⟩:=hb i x hx;rw[ha.cell,Zq]
 match j,hv with
 |0,hv=>obtain rfl:=Zi hv;exact r0
 |1,hv=>obtain rfl:=Zi hv;exact r1
 |2,hv=>obtain rfl:=Zi hv;exact r2
 |j+3,hv=>simp[Pt.cs] at hv
theorem nb_ (b:Nat)(r:RSt)(w:World)(hR:BJ w b r)(hov:r.ov=false):
  Calls prog 144 #[.pointer (some ⟨b,0,none⟩)] w fun e w'=>∃ a cap,e=.returned (.tuple #[.slice a r.L.length cap,.bool true])∧Ae Pt.cs 3 201 w' w.heap.size a r.L.length cap r.L∧Below w.heap.size w w':=by
 have he:=hR.sl;obtain⟨ho,c,ha,hl,hk,e48,e49,e50⟩:=hR;have c50:=(ha.cell 50).trans e50;have c48:=(ha.cell 48).trans e48;rw[hov] at c50;obtain⟨i0,hi,hf,hh,hj⟩:=info_parts F6;have hp:(r.L.length:Int)<=16:=by omega
 have hm:(0:Int)<=r.L.length:=by omega
 generalize hn:r.L.length=n at *;go_enter func144,ntmps144
 go_wp2_with fail
 refine aE_ 8 (by kernel_rfl) (by kernel_rfl) ?_;simp only[ZP,Yx,ZR,YC]
 repeat still_step
 refine wpStill_nil ?_;refine wpList_append_own _ rfl _ _ 116 rfl w.heap.size 201 i0 (.agg #[.int .i64 0,.int .i64 0,.int .i64 0]) 3 24 underlying116 hi hf hh hj rfl (by decide) (.slice none 0 0) 0 [] rfl (World.ownsRow_nil _ _ _ _) ⟨b,0,none⟩ n 16 (r.L.flatMap Pt.cs) rfl (by rw[aY_ bF_,hn]) (AF.src bF_ he.drew) (cI_ _) (by unfold maxLen;omega) (by omega) (by simp) ?_;intro v' w1 hb hg _;simp only[Zq,ZM] at hb;obtain⟨a,cap,rfl,hc⟩:=bz_ bF_ hn hb;have hB:Below w.heap.size w w1:=((Yg _ _).drew).grown hg (by simp) (fun k e=>by simp[Value.ownBlock] at e);go_wp2;go_returns;exact⟨a,cap,rfl,hc,hB⟩
def BM (l:List Pt):RSt:=Bn ⟨[],0,false⟩ l
theorem ci_ (h:Ac l=true):∀ p∈l,1<=p.n∧p.n<=100∧0<=p.f∧p.f<=100:=by
 intro p hp;obtain⟨_,h1,h2⟩:=ae_ h;have hk:=h1 p hp;have ha:=av_ hk
 have h3:p.n<=Af l:=by
  obtain⟨i,hi⟩:=List.mem_iff_getElem?.1 hp;have e:=gc_ hi;have b1:=a6_ h1 i;have b2:=a6_ h1 (i+1);omega
 unfold Ag at hk;split at hk<;>simp at hk<;>omega
theorem gZ_ (w:World):BJ (w.alloc (.cells #[.int .i64 0,.int .i64 0,.int .i64 0,.int .i64 0,.int .i64 0,.int .i64 0,.int .i64 0,.int .i64 0,.int .i64 0,.int .i64 0,.int .i64 0,.int .i64 0,.int .i64 0,.int .i64 0,.int .i64 0,.int .i64 0,.int .i64 0,.int .i64 0,.int .i64 0,.int .i64 0,.int .i64 0,.int .i64 0,.int .i64 0,.int .i64 0,.int .i64 0,.int .i64 0,.int .i64 0,.int .i64 0,.int .i64 0,.int .i64 0,.int .i64 0,.int .i64 0,.int .i64 0,.int .i64 0,.int .i64 0,.int .i64 0,.int .i64 0,.int .i64 0,.int .i64 0,.int .i64 0,.int .i64 0,.int .i64 0,.int .i64 0,.int .i64 0,.int .i64 0,.int .i64 0,.int .i64 0,.int .i64 0,.int .i64 0,.int .i64 0,.bool false] 204)) w.heap.size ⟨[],0,false⟩:=
 ⟨Zg _,_,Blk.new _ _ _,rfl,fun i p hp=>by simp at hp,rfl,rfl,rfl⟩
theorem fK_:DQ ⟨[],0,false⟩:=⟨YB _,fun q hq=>by simp at hq⟩
def Da (r:RSt):Option (List Pt):=if r.ov then none else some r.L
def Df (B:Nat)(e:Ending)(w':World):Option (List Pt)->Prop
 |none=>e=.returned (.tuple #[.slice none 0 0,.bool false])
 |some L=>∃ a n cap,e=.returned (.tuple #[.slice a n cap,.bool true])∧Ae Pt.cs 3 201 w' B a n cap L
theorem cb_ (B b:Nat)(r:RSt)(w:World)(hR:BJ w b r)(hB:B<=w.heap.size):
  Calls prog 144 #[.pointer (some ⟨b,0,none⟩)] w fun e w'=>Df B e w' (Da r)∧Below w.heap.size w w':=by
 cases ha:r.ov
 ·refine (nb_ b r w hR ha).mono ?_;rintro e w' ⟨a,cap,rfl,hc,hb⟩;exact⟨by simp only[Da,ha];exact⟨a,_,cap,rfl,hc.mono hB⟩,hb⟩
 ·refine (ho_ b r w hR ha).mono ?_;rintro e w' ⟨rfl,rfl⟩;exact⟨by simp only[Da,ha];rfl,Yg _ _⟩
def AZ (l:List Pt)(fr to:Int):Option (List Pt):=
 if Ac l=true∧0<=fr∧fr<=Af l∧fr<=to∧to<=Af l then Da (BM (slp fr to 0 l)) else none
theorem hp_ (a:Option Addr)(n cap:Nat)(l:List Pt)(fr to:Int)(w:World)(h:AN w a n l)(hn:n<=4194304)(hb:∀ ad,a=some ad->ad.block<w.heap.size):
  Calls prog 80 #[.slice a n cap,.int .i64 fr,.int .i64 to] w fun e w'=>Df w.heap.size e w' (AZ l fr to)∧Below w.heap.size w w':=by
 cases ha:Ac l
 ·have hf:AZ l fr to=none:=by simp[AZ,ha]
  rw[hf];go_enter func80,ntmps80
  go_wp2_with fail
  refine (as_ a n cap l _ h hn).mono ?_;rintro e w1 ⟨rfl,hg⟩;rw[ha];go_wp2;go_returns;exact⟨rfl,hg⟩
 ·have hs:Hid (Ch l=Af l):=by show _=_;simp[Ch,ha]
  have hm:=(ae_ ha).2.2;have hu:=az_ l (ae_ ha).2.1;have ho:n<=16:=by rw[<-h.len];exact (ae_ ha).1
  by_cases hr:0<=fr∧fr<=Af l∧fr<=to∧to<=Af l
  ·have hf:AZ l fr to=Da (BM (slp fr to 0 l)):=by simp[AZ,ha,hr]
   rw[hf];clear hf;generalize hoo':Da (BM (slp fr to 0 l))=oo;have hl:Hid (Da (BM (slp fr to 0 l))=oo):=hoo';clear hoo';obtain⟨r1,r2,r3,r4⟩:=hr;go_enter func80,ntmps80
   go_wp2_with fail
   refine (as_ a n cap l _ h hn).mono ?_;rintro e w1 ⟨rfl,hg⟩;rw[ha]
   go_wp2_with fail
   refine (bo_ a n cap l _ (h.below hg) hn).mono ?_;rintro e w2 ⟨rfl,hc⟩;rw[hs.out];replace hc:=Aa hg hc
   go_wp2_with fail
   refine (bf_ w2.heap.size _ a n cap l fr to _ (gZ_ w2) fK_ (by show (0:Int)<=_;omega) ((h.below hc).alloc _) (fun ad hq=>by have:=hb ad hq;have:=hc.size;omega) ho (ci_ ha) (by omega) (by omega) (by omega) (by omega)).mono ?_;rintro e w3 ⟨rfl,hp,_,_,ht⟩;have hk:Below w.heap.size w w3:=ao_ (Aa hc ((Yg _ _).alloc (Zd _) _)) ht hc.size
   go_wp2_with fail
   refine (cb_ w.heap.size _ _ _ hp hk.size).mono ?_;rintro e w4 ⟨he,hh⟩;replace hh:=Aa hk hh;change Df _ _ _ (Da (BM (slp fr to 0 l))) at he;rw[hl.out] at he;clear hl
   cases oo with
   |none=>
    obtain rfl:=he;go_wp2;go_returns;exact⟨rfl,hh⟩
   |some L=>
    obtain⟨a',n',cap',rfl,hj⟩:=he;go_wp2;go_returns;exact⟨⟨a',n',cap',rfl,hj⟩,hh⟩
  ·have hf:AZ l fr to=none:=by simp only[AZ,ha,true_and];rw[if_neg hr]
   rw[hf];clear hf;go_enter func80,ntmps80
   go_wp2_with fail
   refine (as_ a n cap l _ h hn).mono ?_;rintro e w1 ⟨rfl,hg⟩;rw[ha]
   go_wp2_with fail
   refine (bo_ a n cap l _ (h.below hg) hn).mono ?_;rintro e w2 ⟨rfl,hc⟩;rw[hs.out];replace hc:=Aa hg hc;go_wp2
   all_goals go_returns
   all_goals exact⟨rfl,hc⟩
end
section
open Go Go.RowKit Go.BigFrame Tryz
variable{l:List Ct}{n:Nat}{p:Pt}
theorem HS {l:List Pt}(h:Ac l=true):∀ p∈l,1<=p.n∧p.n<=100:=fun p hp=>⟨(ci_ h p hp).1,(ci_ h p hp).2.1⟩
def Bq (l:List Pt)(at':Int)(m:List Pt):List Pt:=
 slp 0 (min at' (Af l)) 0 l++(if Af l<at' then [⟨0,0,at'-Af l⟩] else [])++m++slp (min (at'+Af m) (Af l)) (Af l) 0 l
def BQ (l:List Pt)(at':Int)(m:List Pt):Option (List Pt):=if Ac l=true∧0<=at'∧at'<=100∧Ac m=true then Da (BM (Bq l at' m)) else none
end
end Go.Proofs.YtahenegmbmnmjaaGreatDoor
