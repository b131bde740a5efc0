/- Counts added up: a list in order with no nought is told by its sums. -/
import Derived.Test.YtkiceokhlceciaaGreatDoorU02
import Derived.Test.YtkiceokhlceciaaGreatDoorU04
set_option maxHeartbeats 20000000
set_option maxRecDepth 100000
namespace Go.Proofs.YtkiceokhlceciaaGreatDoor
section
open Go.RowKit Go.Shelf Tryz
attribute [local go_sem] YJ
def ggo (size:Int):Int->List Ex->List (Int×Int)
 |next,[]=>if next<=size then [(next,size+1-next)] else []
 |next,e::r=>(if next<e.a then [(next,e.a-next)] else [])++ggo size (e.a+e.d.size) r
end
section
open Go.RowKit Go.Shelf Tryz
attribute [local go_sem] YJ
attribute [local go_sem] YJ
def HD:List Ex->Int
 |[]=>0
 |e::r=>e.d.size+HD r
end
section
open Go.RowKit Go.Shelf Tryz
attribute [local go_sem] YJ
attribute [local go_sem] YJ
attribute [local go_sem] YJ
theorem MS:(prog.info? 2).map (fun i=>(i.zero,i.size,i.bytes))=some (some (.int .i64 0),1,8):=by kernel_rfl
end
section
open Go Go.RowKit
variable{α:Type}{P:Program}{w:World}
theorem ph_ {cs:α->List Value}{size:Nat}{o:Oper}{a:Act}{K:Act->World->Prop}{Q:Exit->Act->World->Prop}
  (s x:Operand)(t:TypeId)(ho:o.op=.call {callee:=.builtin .append,args:=#[s,x],argTypes:=#[t,t]})
  (B:Nat)(e:TypeId)(i:TypeInfo)(z:Value)(bytes:Nat)(ht:P.underlying t=some (.slice e))(hi:P.info? e=some i)(hz:i.zero=some z)(hsize:i.size=size)(hby:i.bytes=bytes)(hzs:z.cells.size=size)(hpos:0<size)
  (hsz:∀ y,(cs y).length=size)(hone:∀ (l:List α),∀ u∈l.flatMap cs,u.oneCell'=true)
  (da:Option Addr)(dn dcap:Nat)(ld:List α)(hs:a.eval s=.slice da dn dcap)(hd:Ad cs size e w B da dn dcap ld)
  (b off:Nat)(ls:List α)(hx:a.eval x=.slice (some ⟨b,off,none⟩) 1 1)(hsrc:AX cs size w (some ⟨b,off,none⟩) 1 ls)
  (h63:dn+1<=maxLen)(hbytes:(dn+1)*bytes<=140737488355328)(hbase:B<=w.heap.size)
  (h:∀ a' cap' w',Ad cs size e w' B a' (dn+1) cap' (ld++ls)->w.grownBy w' (Value.ownBlock (.slice da dn dcap))->(∀ ad',a'=some ad'->(∃ ad,da=some ad∧ad.block=ad'.block)∨w.heap.size<=ad'.block)->K (a.put o.dst (.slice a' (dn+1) cap')) w'):o.wp P a w K Q:=by
 have hb:=hd.row hsz;have he:(ld++ls).length=dn+1:=by rw[ZE,hd.sl.len,hsrc.len]
 have hh:(ls.flatMap cs).length=1*size:=by rw[aY_ hsz,hsrc.len]
 obtain⟨v',w',hr,ha,hg,_⟩:=run_append_own (P:=P) w B t o.type e i z size bytes ht hi hz hsize hby hzs hpos (.slice da dn dcap) dn (ld.flatMap cs) hb ⟨b,off,none⟩ 1 1 (ls.flatMap cs) hh (AX.src hsz hsrc) (hone ls) h63 hbytes hbase;have hj:=iD_ (P:=P) B t o.type e i z size bytes ht hi hz hsize hby dn (ld.flatMap cs) hb ⟨b,off,none⟩ 1 1 (ls.flatMap cs) (by omega) hh (AX.src hsz hsrc) (hone ls) h63 hbytes hr;rw[<-ZQ] at ha;obtain⟨a',cap',rfl,hf⟩:=bz_ hsz he ha;unfold Oper.wp;simp[execOp,ho,resolve,invoke,builtin,hs,hx,hr,Result.andThen];refine h a' cap' w' hf hg (fun ad' hc=>?_);subst hc;rcases hj ad'.block (by simp[Value.ownBlock]) with h1 | h1
 ·cases da with
  |none=>simp[Value.ownBlock] at h1
  |some ad=>exact .inl ⟨ad,rfl,by simpa[Value.ownBlock] using h1⟩
 ·exact .inr h1
end
section
open Go Go.RowKit Go.BigFrame Tryz
variable{fr st to x y:Int}{l r:List Pt}{b:Nat}{p:Pt}{w:World}
theorem aZ_ (a:Option Addr)(n cap:Nat)(l:List Pt)(w:World)(h:BI w a n l)(hn:n<=4194304)(hs:∀ k,0<=Aj (l.take k)∧Aj (l.take k)<=100):
  Calls prog 108 #[.slice a n cap] w fun e w'=>e=.returned (.int .i64 (Aj l))∧w'=w:=by
 have ha:Hid (l.length=n):=h.len;go_enter func108,ntmps108
 go_wp2_with fail
 go_loop [3,4] (fun s ix=>∃ (k:Nat),k<=n∧ix=.int .i64 k∧s=.int .i64 (Aj (l.take k))) (fun _ ix=>n-(intOf ix).toNat)
 case atStart=>exact⟨0,Zg _,rfl,rfl⟩
 case round=>
  obtain⟨k,hk,rfl,rfl⟩:=hrel;have he:=hs k;have hb:=hs (k+1);by_cases hlt:k<n
  ·obtain⟨b,o,p,rfl,hp,c0,c1,c2⟩:=bi_ h hlt;have hc:Hid (Aj (l.take (k+1))=Aj (l.take k)+p.n):=gc_ hp;have hf:0<=Aj (l.take k)+p.n∧Aj (l.take k)+p.n<=100:=by rw[<-hc.out];exact hb
   clear hp hb;generalize Aj (l.take k)=s at *;go_wp2;go_round
   case rel=>exact⟨k+1,by omega,by go_num,by rw[hc.out]⟩
   case measure=>simp[intOf];omega
  ·obtain rfl:k=n:=by omega
   go_wp2;go_returns;go_light;refine⟨a4_ ?_,rfl⟩;rw[Zk (Zm ha.out)]
theorem i8_ (h:Ae l=true):∀ k,0<=Aj (l.take k)∧Aj (l.take k)<=100:=by
 intro k;obtain⟨_,h1,h2⟩:=ae_ h
 have:=a6_ h1 k
 omega
def Ed (p:Pt)(x y:Int):Pt:=if p.a==0 then ⟨0,0,y-x⟩ else ⟨p.a,p.f+x,y-x⟩
def slp (fr to:Int):Int->List Pt->List Pt
 |_,[]=>[]
 |st,p::r=>if max (fr-st) 0<min (to-st) p.n then Ed p (max (fr-st) 0) (min (to-st) p.n)::slp fr to (st+p.n) r else slp fr to (st+p.n) r
theorem gf_ (p:Pt)(x y:Int):(Ed p x y).n=y-x:=by unfold Ed;split<;>rfl
theorem eN_ (hx:max (fr-st) 0=x)(hy:min (to-st) p.n=y)(h:x<y):slp fr to st (p::r)=Ed p x y::slp fr to (st+p.n) r:=by
 subst hx hy;simp only[slp,h,if_true]
theorem fo_ (h:¬ max (fr-st) 0<min (to-st) p.n):slp fr to st (p::r)=slp fr to (st+p.n) r:=by
 simp only[slp,h,if_false]
theorem KL:(prog.info? 124).map (fun i=>(i.zero,i.size,i.bytes))=some (some (.agg #[.int .i64 0,.int .i64 0,.int .i64 0]),3,24):=by kernel_rfl
theorem ci_ (h:Ae l=true):∀ p∈l,1<=p.n∧p.n<=100∧0<=p.f∧p.f<=100:=by
 intro p hp;obtain⟨_,h1,h2⟩:=ae_ h;have hk:=h1 p hp;have ha:=av_ hk
 have h3:p.n<=Aj l:=by
  obtain⟨i,hi⟩:=List.mem_iff_getElem?.1 hp;have e:=gc_ hi;have b1:=a6_ h1 i;have b2:=a6_ h1 (i+1);omega
 unfold Ao at hk;split at hk<;>simp at hk<;>omega
end
section
open Go Go.RowKit Go.BigFrame Tryz
variable{α:Type}{c:Ct}{fr size st to x y z:Int}{l:List Ct}{lk r:List Pt}{B cap k n:Nat}{a:Option Addr}{p:Pt}{w:World}
def BE (l:List Pt)(p:Pt):List Pt:=
 match l.getLast? with
 |none=>[p]
 |some q=>if Be q p then l.dropLast++[⟨q.a,q.f,wrap64 (q.n+p.n)⟩] else l++[p]
structure Kj (a:Option Addr)(cap:Nat):Prop where
 spot:∀ ad,a=some ad->ad.spot=none
 nil:a=none->cap=0
theorem Ad.arg {cs:α->List Value}{sz:Nat}{t:TypeId}{l:List α}(h:Ad cs sz t w B a n cap l):Kj a cap:=by
 rcases h.own with⟨rfl,_,rfl⟩ | ⟨b,rfl,_⟩
 ·exact⟨fun ad h=>(by cases h),fun _=>rfl⟩
 ·exact⟨fun ad h=>(by cases h;rfl),fun h=>(by cases h)⟩
theorem bg_ (a:Option Addr)(n cap:Nat)(l:List Pt)(p:Pt)(w:World)(h:BI w a n l)(hn:n<=4194304)(ha:Kj a cap):
  Calls prog 145 #[.slice a n cap,.agg #[.int .i64 p.a,.int .i64 p.f,.int .i64 p.n]] w fun e w'=>(∃ a' n' cap',e=.returned (.slice a' n' cap')∧Ad Pt.cs 3 124 w' w.heap.size a' n' cap' (BE l p))∧Below w.heap.size w w':=by
 have hw:=h.len;obtain⟨i0,hi,hm,ho,hp⟩:=info_parts KL;have x0:(w.alloc (.cells #[.int .i64 p.a,.int .i64 p.f,.int .i64 p.n] 124)).cell? ⟨w.heap.size,0,none⟩=some (.int .i64 p.a):=by simp
 have x1:(w.alloc (.cells #[.int .i64 p.a,.int .i64 p.f,.int .i64 p.n] 124)).cell? ⟨w.heap.size,1,none⟩=some (.int .i64 p.f):=by simp
 have x2:(w.alloc (.cells #[.int .i64 p.a,.int .i64 p.f,.int .i64 p.n] 124)).cell? ⟨w.heap.size,2,none⟩=some (.int .i64 p.n):=by simp
 have hk:Below w.heap.size w (w.alloc (.cells #[.int .i64 p.a,.int .i64 p.f,.int .i64 p.n] 124)):=(Yg _ _).alloc (Zd _) _;rcases List.eq_nil_or_concat l with hL | ⟨L',q,hL⟩
 ·have hr:Hid (BE l p=[]++l++[p]):=by show _=_;rw[hL];rfl
  obtain rfl:n=0:=by rw[<-hw,hL];rfl
  go_enter func145,ntmps145
  go_wp2_with fail
  go_quiet (fail)
  replace x0:=Ab (Bi _ nq) x0;replace x1:=Ab (Bi _ nq) x1;replace x2:=Ab (Bi _ nq) x2;have hl:=Aa hk (Bi _ nq);clear hk;generalize (w.alloc (.cells #[.int .i64 p.a,.int .i64 p.f,.int .i64 p.n] 124)).drewN nq=W6 at *;have h6:=h.below hl;have hN:=hl.size
  go_wp2_with fail
  have hy:w.heap.size<W6.heap.size:=Yk W6 ⟨w.heap.size,0,none⟩ x0
  go_region_held3 (fun u=>u.cell? ⟨w.heap.size,0,none⟩=some (.int .i64 p.a)∧u.cell? ⟨w.heap.size,1,none⟩=some (.int .i64 p.f)∧u.cell? ⟨w.heap.size,2,none⟩=some (.int .i64 p.n)) (go_keep) (first | (refine aJ_ rfl (ay_ _ _ 120 rfl (w.heap.size+1) 124 i0 (.agg #[.int .i64 0,.int .i64 0,.int .i64 0]) 24 underlying120 hi hm ho hp rfl (by decide) bF_ cI_ _ 0 0 [] rfl (aw_ (by first | exact (Blk.new' _ _ _ _ (by simp)).drew | exact ((Blk.new' _ _ _ _ (by simp)).alloc _).drew) (by first | omega | (simp;omega))) a 0 cap l rfl (h6.below (by go_grown)) ha.spot ha.nil 0 (Zq _) (by unfold maxLen;omega) (by omega) (by first | omega | (simp;omega)) ?_);intro a1 cap1 w1 hc hb;have z0:=hb.cell (a:=⟨w.heap.size,0,none⟩) (by first | exact Al _ x0 | exact Al _ (Al _ x0)) (by simp[Value.ownBlock];omega);have z1:=hb.cell (a:=⟨w.heap.size,1,none⟩) (by first | exact Al _ x1 | exact Al _ (Al _ x1)) (by simp[Value.ownBlock];omega);have z2:=hb.cell (a:=⟨w.heap.size,2,none⟩) (by first | exact Al _ x2 | exact Al _ (Al _ x2)) (by simp[Value.ownBlock];omega)) | (refine aJ_ rfl (ay_ _ _ 120 rfl (w.heap.size+1) 124 i0 (.agg #[.int .i64 0,.int .i64 0,.int .i64 0]) 24 underlying120 hi hm ho hp rfl (by decide) bF_ cI_ a1 0 cap1 ([]++l) rfl (by first | exact hc | exact hc.alloc _) _ 1 1 [p] rfl (by first | exact ck_ _ p _ _ (by simp) | (refine AX.grown (r:=W6.heap.size) (ck_ _ p _ _ (by simp)).drew hb ?_;intro ad h;cases h;first | (simp;done) | (simp;omega) | omega) | (refine AX.grown (r:=W6.heap.size+1) ((ck_ _ p _ _ (by simp)).alloc _).drew hb ?_;intro ad h;cases h;first | (simp;done) | (simp;omega) | omega)) (fun ad h=>(by cases h;rfl)) (fun h=>(by cases h)) (0+1) rfl (by unfold maxLen;omega) (by omega) (by have:=hb.size;simp at this;first | omega | (simp;omega)) ?_);intro a2 cap2 w2 hz hf;have y0:=hf.cell (a:=⟨w.heap.size,0,none⟩) (by first | exact z0 | exact Al _ z0) (ej_ fun ad h=>(hc.block ad h).1);have y1:=hf.cell (a:=⟨w.heap.size,1,none⟩) (by first | exact z1 | exact Al _ z1) (ej_ fun ad h=>(hc.block ad h).1);have y2:=hf.cell (a:=⟨w.heap.size,2,none⟩) (by first | exact z2 | exact Al _ z2) (ej_ fun ad h=>(hc.block ad h).1)))
  all_goals
   have he:Below w.heap.size w w1:=Yi (by go_grown) hb (by first | omega | (simp;omega)) (fun k e=>by simp[Value.ownBlock] at e;omega);have ht:Below w.heap.size w w2:=Yi (by first | exact he | exact he.alloc he.size _) hf (by have:=he.size;first | omega | (simp;omega)) (aG_ fun ad h=>by have:=(hc.block ad h).1;omega);have hA:Ad Pt.cs 3 124 w2 w.heap.size a2 (0+1) cap2 (BE l p):=by rw[hr.out];exact hz.mono (by omega)
   go_wp2;go_returns;exact⟨⟨a2,_,cap2,rfl,hA⟩,ht⟩
 ·-- there is a last part
  have hP:l.length=L'.length+1:=by rw[hL];simp
  have hq:l[L'.length]?=some q:=by rw[hL];simp
  have hh:l.getLast?=some q:=by rw[hL];simp
  have hE:l.dropLast=L':=by rw[hL];simp
  obtain⟨j,rfl⟩:∃ j,n=j+1:=⟨L'.length,by omega⟩;have hs:L'.length=j:=by omega
  rw[hs] at hq;obtain⟨b,o,q',rfl,hj,d0,d1,d2⟩:=bi_ (h.below hk) (k:=j) (by omega);obtain rfl:q=q':=by rw[hq] at hj;exact Zi hj
  have hT:wrap64 ((j:Int)+1-1)=(j:Int):=by unfold wrap64;omega
  have hR:(0:Int)<=(j:Int):=by omega
  have hS:(j:Int)<(j:Int)+1:=by omega
  have g0:=Ac d0;have g1:=Ac d1;have g2:=Ac d2;have g3:=Ac x0;have g4:=Ac x1;have g5:=Ac x2;have hM:=aA_ (w.alloc (.cells #[.int .i64 p.a,.int .i64 p.f,.int .i64 p.n] 124))
  cases hu:Be q p
  all_goals
   go_enter func145,ntmps145
   go_wp2_with fail
   refine ab_ (by kernel_rfl) (by kernel_rfl) ?_
   repeat (go_big_quiet_step (first | (go_at_call 141;have qq:=gC_ q p;rw[hu] at qq;exact an_ (qq _))))
   refine wpQuiet_nil ?_;intro W6 hx;have hg:=ah_ hx;clear hx g0 g1 g2 g3 g4 g5 hM;replace x0:=Ab hg x0;replace x1:=Ab hg x1;replace x2:=Ab hg x2;replace d0:=Ab hg d0;replace d1:=Ab hg d1;replace d2:=Ab hg d2;have hl:=Aa hk hg;clear hk hg;have h6:=h.below hl;have hN:=hl.size;have hy:w.heap.size<W6.heap.size:=Yk W6 ⟨w.heap.size,0,none⟩ x0
  ·have hr:Hid (BE l p=[]++l++[p]):=by show _=_;simp[BE,hh,hu]
   go_wp2_with fail
   go_region_held3 (fun u=>u.cell? ⟨w.heap.size,0,none⟩=some (.int .i64 p.a)∧u.cell? ⟨w.heap.size,1,none⟩=some (.int .i64 p.f)∧u.cell? ⟨w.heap.size,2,none⟩=some (.int .i64 p.n)) (go_keep) (first | (refine aJ_ rfl (ay_ _ _ 120 rfl (w.heap.size+1) 124 i0 (.agg #[.int .i64 0,.int .i64 0,.int .i64 0]) 24 underlying120 hi hm ho hp rfl (by decide) bF_ cI_ _ 0 0 [] rfl (aw_ (by first | exact (Blk.new' _ _ _ _ (by simp)).drew | exact ((Blk.new' _ _ _ _ (by simp)).alloc _).drew) (by first | omega | (simp;omega))) (some ⟨b,o,none⟩) (j+1) cap l rfl (h6.below (by go_grown)) ha.spot ha.nil (j+1) (Zq _) (by unfold maxLen;omega) (by omega) (by first | omega | (simp;omega)) ?_);intro a1 cap1 w1 hc hb;have z0:=hb.cell (a:=⟨w.heap.size,0,none⟩) (by first | exact Al _ x0 | exact Al _ (Al _ x0)) (by simp[Value.ownBlock];omega);have z1:=hb.cell (a:=⟨w.heap.size,1,none⟩) (by first | exact Al _ x1 | exact Al _ (Al _ x1)) (by simp[Value.ownBlock];omega);have z2:=hb.cell (a:=⟨w.heap.size,2,none⟩) (by first | exact Al _ x2 | exact Al _ (Al _ x2)) (by simp[Value.ownBlock];omega)) | (refine aJ_ rfl (ay_ _ _ 120 rfl (w.heap.size+1) 124 i0 (.agg #[.int .i64 0,.int .i64 0,.int .i64 0]) 24 underlying120 hi hm ho hp rfl (by decide) bF_ cI_ a1 (j+1) cap1 ([]++l) rfl (by first | exact hc | exact hc.alloc _) _ 1 1 [p] rfl (by first | exact ck_ _ p _ _ (by simp) | (refine AX.grown (r:=W6.heap.size) (ck_ _ p _ _ (by simp)).drew hb ?_;intro ad h;cases h;first | (simp;done) | (simp;omega) | omega) | (refine AX.grown (r:=W6.heap.size+1) ((ck_ _ p _ _ (by simp)).alloc _).drew hb ?_;intro ad h;cases h;first | (simp;done) | (simp;omega) | omega)) (fun ad h=>(by cases h;rfl)) (fun h=>(by cases h)) (j+1+1) rfl (by unfold maxLen;omega) (by omega) (by have:=hb.size;simp at this;first | omega | (simp;omega)) ?_);intro a2 cap2 w2 hz hf;have y0:=hf.cell (a:=⟨w.heap.size,0,none⟩) (by first | exact z0 | exact Al _ z0) (ej_ fun ad h=>(hc.block ad h).1);have y1:=hf.cell (a:=⟨w.heap.size,1,none⟩) (by first | exact z1 | exact Al _ z1) (ej_ fun ad h=>(hc.block ad h).1);have y2:=hf.cell (a:=⟨w.heap.size,2,none⟩) (by first | exact z2 | exact Al _ z2) (ej_ fun ad h=>(hc.block ad h).1)))
   all_goals
    have he:Below w.heap.size w w1:=Yi (by go_grown) hb (by first | omega | (simp;omega)) (fun k e=>by simp[Value.ownBlock] at e;omega);have ht:Below w.heap.size w w2:=Yi (by first | exact he | exact he.alloc he.size _) hf (by have:=he.size;first | omega | (simp;omega)) (aG_ fun ad h=>by have:=(hc.block ad h).1;omega);have hA:Ad Pt.cs 3 124 w2 w.heap.size a2 (j+1+1) cap2 (BE l p):=by rw[hr.out];exact hz.mono (by omega)
    go_wp2;go_returns;exact⟨⟨a2,_,cap2,rfl,hA⟩,ht⟩
  ·have hr:Hid (BE l p=l.dropLast++[⟨q.a,q.f,wrap64 (q.n+p.n)⟩]):=by show _=_;simp[BE,hh,hu]
   go_wp2_with (at_builtin;refine ag_ rfl (fun K hK=>ay_ _ _ 120 rfl (w.heap.size+1) 124 i0 (.agg #[.int .i64 0,.int .i64 0,.int .i64 0]) 24 underlying120 hi hm ho hp rfl (by decide) bF_ cI_ _ 0 0 [] rfl (aw_ (Blk.new' _ _ _ _ (by simp)) (by omega)) (some ⟨b,o,none⟩) (j+1) cap l rfl (h6.below (by go_grown)) ha.spot ha.nil (j+1) (Zq _) (by unfold maxLen;omega) (by omega) (by simp;omega) (fun a1 cap1 w1 hc hb=>hK _ _ ?_)))
   have he:Below w.heap.size w w1:=Yi (by go_grown) hb (by simp;omega) (fun k e=>by simp[Value.ownBlock] at e;omega);rcases hc.own with⟨_,h0,_⟩ | ⟨g,rfl,hQ,hG,hH,c,hD,hI,hJ⟩
   ·exact absurd h0 (by omega)
   have z2:=hb.cell (a:=⟨w.heap.size,2,none⟩) (Al _ x2) (by simp[Value.ownBlock];omega);obtain⟨b',o',q',hC,hj,e0,e1,e2⟩:=bi_ hc.sl (k:=j) (by omega);obtain⟨rfl,rfl⟩:g=b'∧0=o':=by simpa using hC
   obtain rfl:q=q':=by simp only[ZM] at hj;rw[hq] at hj;exact Zi hj
   simp only[Zq] at e0 e1 e2;have f2:=hD.frozen (j*3+2);clear hC;refine aE_ 12 (by kernel_rfl) (by kernel_rfl) ?_;simp only[ZP,Yx,ZR,YC]
   repeat still_step
   refine wpStill_nil ?_;go_wp2;go_returns;go_light;refine⟨⟨some ⟨g,0,none⟩,j+1,cap1,rfl,?_⟩,((he.setCell (by show w.heap.size<=g;omega) _).drew)⟩;rw[hr.out,hE];have hF:(L'.flatMap Pt.cs).length=j*3:=by rw[aY_ bF_,hs]
   have hO:(c.setIfInBounds (j*3+2) (.int .i64 (wrap64 (q.n+p.n)))).toList.take ((j+1)*3)=(L'++[(⟨q.a,q.f,wrap64 (q.n+p.n)⟩:Pt)]).flatMap Pt.cs:=by
    rw[Array.toList_setIfInBounds,List.take_set,hJ,hL,ZM,List.concat_eq_append,ZQ,ZQ,List.set_append_right _ _ (by omega),hF];simp[Pt.cs]
   obtain⟨a2,cap2,hv,hB⟩:=bz_ (w:=(w1.setCell ⟨g,j*3+2,none⟩ (.int .i64 (wrap64 (q.n+p.n)))).drew) (B:=w.heap.size) (t:=124) (n:=j+1) (v:=.slice (some ⟨g,0,none⟩) (j+1) cap1) (l:=L'++[(⟨q.a,q.f,wrap64 (q.n+p.n)⟩:Pt)]) bF_ (by simp[hs])
    ⟨by rw[aY_ bF_];simp[hs],.inr ⟨g,cap1,_,rfl,by omega,(hD.set _ _).drew,hG,hH,by simp[hI],hO⟩⟩
   cases hv
   exact hB
def At (l m:List Pt):List Pt:=m.foldl BE l
theorem fL_ (l:List Pt)(p:Pt):(BE l p).length<=l.length+1:=by
 unfold BE;split
 ·simp
 ·split
  ·simp only[ZE,List.length_dropLast,Zw,YK];omega
  ·simp
theorem n1_ {l m:List Pt}(h:m[k]?=some p):At l (m.take (k+1))=BE (At l (m.take k)) p:=by
 unfold At;rw[bx_ h,List.foldl_append];rfl
theorem bS_ (a:Option Addr)(n cap:Nat)(l:List Pt)(a':Option Addr)(n' cap':Nat)(m:List Pt)(w:World)(h:BI w a n l)(hn:n<=1100000)(ha:Kj a cap)(h':BI w a' n' m)(hn':n'<=1100000):
  Calls prog 146 #[.slice a n cap,.slice a' n' cap'] w fun e w'=>(∃ a1 n1 cap1,e=.returned (.slice a1 n1 cap1)∧n1<=n+n'∧Ad Pt.cs 3 124 w' w.heap.size a1 n1 cap1 (At l m))∧Below w.heap.size w w':=by
 have hb:Hid (m.length=n'):=h'.len;obtain⟨i0,hi,hh,hj,hl⟩:=info_parts KL;go_enter func146,ntmps146
 go_wp2_with (at_builtin;refine ag_ rfl (fun K hK=>ay_ _ _ 120 rfl w.heap.size 124 i0 (.agg #[.int .i64 0,.int .i64 0,.int .i64 0]) 24 underlying120 hi hh hj hl rfl (by decide) bF_ cI_ _ 0 0 [] rfl (aw_ (Blk.new' _ _ _ _ (by simp)) (by omega)) a n cap l rfl (h.below (by go_grown)) ha.spot ha.nil n (Zq _) (by unfold maxLen;omega) (by omega) (by simp) (fun a1 cap1 w1 hf he=>hK _ _ ?_)))
 have hq:Below w.heap.size w w1:=Yi (by go_grown) he (by simp) (fun k e=>by simp[Value.ownBlock] at e;omega);simp only[ZM] at hf;clear he hi hh hj hl
 go_loopw [5,6] (fun out ix wr=>∃ (k:Nat) (a2:Option Addr) (n2 cap2:Nat),k<=n'∧ix=.int .i64 k∧out=.slice a2 n2 cap2∧n2<=n+k∧Ad Pt.cs 3 124 wr w.heap.size a2 n2 cap2 (At l (m.take k))∧Below w.heap.size w wr) (fun _ ix _=>n'-(intOf ix).toNat)
 case atStart=>exact⟨0,a1,n,cap1,Zg _,rfl,rfl,by omega,hf,hq⟩
 case round=>
  obtain⟨k,a2,n2,cap2,hk,rfl,rfl,hr,hc,hB⟩:=hrel;by_cases hlt:k<n'
  ·obtain⟨b,o,p,rfl,hp,c0,c1,c2⟩:=bi_ (h'.below hB) hlt;have hs:Hid (At l (m.take (k+1))=BE (At l (m.take k)) p):=n1_ hp;clear hp;generalize At l (m.take k)=lk at *;have ho:=fL_ lk p;rw[hc.sl.len] at ho
   go_wp2_with fail
   refine (bg_ a2 n2 cap2 lk p _ hc.sl (by omega) hc.arg).mono ?_;rintro e w3 ⟨⟨a3,n3,cap3,rfl,hg⟩,hm⟩;have ht:=hg.sl.len;go_wp2;go_roundw
   case rel=>exact⟨k+1,a3,n3,cap3,by omega,by go_num,rfl,by omega,by rw[hs.out];exact hg.mono hB.size,Aa hB hm⟩
   case measure=>simp[intOf];omega
  ·obtain rfl:k=n':=by omega
   go_wp2;go_returns;go_light;rw[Zk (Zm hb.out)] at hc;exact⟨⟨a2,n2,cap2,rfl,hr,hc⟩,hB⟩
def L7 (l:List Pt):Prop:=∀ p∈l,(1<=p.n∧p.n<=100∧0<=p.f∧p.f<=100)∧((p.a=0∧p.f=0)∨0<p.a)
theorem n2_ (h:p.a=0)(hf:p.f=0):Ed p x y=⟨p.a,p.f,y-x⟩:=by simp[Ed,h,hf]
theorem pk_ (h:0<p.a):Ed p x y=⟨p.a,p.f+x,y-x⟩:=by
 have:(p.a==0)=false:=ZV.2 (by omega)
 simp[Ed,this]
theorem j2_ (hx:max (fr-st) 0=x)(hy:min (to-st) p.n=y)(h:x<y):At lk (slp fr to st (p::r))=At (BE lk (Ed p x y)) (slp fr to (st+p.n) r):=by
 rw[eN_ hx hy h];rfl
theorem fM_ (h:max (fr-st) 0<min (to-st) p.n)(ha:p.a=0∧p.f=0)(hz:min (to-st) p.n-max (fr-st) 0=z):At lk (slp fr to st (p::r))=At (BE lk ⟨p.a,p.f,z⟩) (slp fr to (st+p.n) r):=by
 rw[j2_ rfl rfl h,n2_ ha.1 ha.2,hz]
theorem g0_ {f:Int}(h:max (fr-st) 0<min (to-st) p.n)(ha:0<p.a)(hf:p.f+max (fr-st) 0=f)(hz:min (to-st) p.n-max (fr-st) 0=z):At lk (slp fr to st (p::r))=At (BE lk ⟨p.a,f,z⟩) (slp fr to (st+p.n) r):=by
 rw[j2_ rfl rfl h,pk_ ha,hz,hf]
theorem bZ_ {l:List Pt}{m:Nat}(h1:(BE l p).length=n)(h2:l.length=m):n<=m+1:=by
 have:=fL_ l p;omega
theorem ba_ (a:Option Addr)(n cap:Nat)(l:List Pt)(fr to:Int)(w:World)(h:BI w a n l)(hn:n<=16)(hl:L7 l)(hf0:0<=fr)(hf1:fr<=10000)(ht0:0<=to)(ht1:to<=10000):
  Calls prog 109 #[.slice a n cap,.int .i64 fr,.int .i64 to] w fun e w'=>(∃ a1 n1 cap1,e=.returned (.slice a1 n1 cap1)∧n1<=n∧Ad Pt.cs 3 124 w' w.heap.size a1 n1 cap1 (At [] (slp fr to 0 l)))∧Below w.heap.size w w':=by
 have hm:Hid (l.length=n):=h.len;go_enter func109,ntmps109
 go_wp2_with fail
 go_loopw [7,8,9] (fun out s ix wr=>∃ (k:Nat) (st:Int) (a2:Option Addr) (n2 cap2:Nat) (lk:List Pt),k<=n∧ix=.int .i64 k∧s=.int .i64 st∧0<=st∧st<=100*k∧out=.slice a2 n2 cap2∧n2<=k∧Ad Pt.cs 3 124 wr w.heap.size a2 n2 cap2 lk∧Hid (At [] (slp fr to 0 l)=At lk (slp fr to st (l.drop k)))∧Below w.heap.size w wr) (fun _ _ ix _=>n-(intOf ix).toNat)
 case atStart=>exact⟨0,0,_,0,0,[],Zg _,rfl,rfl,by omega,by omega,rfl,by omega,aw_ (Blk.new _ _ _) (Zd _),rfl,(Yg _ _).alloc (Zd _) _⟩
 case round=>
  obtain⟨k,st,a2,n2,cap2,lk,hk,rfl,rfl,hw,hz,rfl,hq,hc,hI,hB⟩:=hrel;by_cases hlt:k<n
  ·obtain⟨b,o,p,rfl,hp,c0,c1,c2⟩:=bi_ (h.below hB) hlt;have hd:Hid (l.drop k=p::l.drop (k+1)):=al_ hp;obtain⟨⟨hs,ht,hu,hv⟩,hg⟩:=hl p (Zc hp);clear hp;have hA:=hB.size;by_cases hxy:max (fr-st) 0<min (to-st) p.n
   ·rcases hg with⟨hg,ho⟩ | hg
    ·have hr:¬ 0<p.a:=by omega
     have hj:Hid (p.a=0∧p.f=0):=⟨hg,ho⟩;clear hg ho;by_cases hx:fr<st
     ·by_cases hy:st+p.n<to
      ·go_wp2_with fail
       refine (bg_ a2 n2 cap2 lk ⟨p.a,p.f,(st+p.n)-st⟩ _ (hc.sl.alloc _) (by omega) hc.arg).mono ?_;rintro e w3 ⟨⟨a3,n3,cap3,rfl,he⟩,hf⟩;have hh:=bZ_ he.sl.len hc.sl.len;obtain⟨_,_,_,ha,_⟩:=Fp hf;have y2:=Ab ha c2;have hb:Hid (At lk (slp fr to st (p::l.drop (k+1)))=At (BE lk ⟨p.a,p.f,(st+p.n)-st⟩) (slp fr to (st+p.n) (l.drop (k+1)))):=fM_ hxy hj.out (by omega);clear hxy;go_wp2;go_roundw
       case rel=>exact⟨k+1,st+p.n,a3,n3,cap3,_,by omega,by go_num,by go_num,by omega,by omega,rfl,by omega,he.mono (by simp;omega),by show _=_;rw[hI.out,hd.out];exact hb.out,Aa hB ha⟩
       case measure=>simp[intOf];omega
      ·go_wp2_with fail
       refine (bg_ a2 n2 cap2 lk ⟨p.a,p.f,to-st⟩ _ (hc.sl.alloc _) (by omega) hc.arg).mono ?_;rintro e w3 ⟨⟨a3,n3,cap3,rfl,he⟩,hf⟩;have hh:=bZ_ he.sl.len hc.sl.len;obtain⟨_,_,_,ha,_⟩:=Fp hf;have y2:=Ab ha c2;have hb:Hid (At lk (slp fr to st (p::l.drop (k+1)))=At (BE lk ⟨p.a,p.f,to-st⟩) (slp fr to (st+p.n) (l.drop (k+1)))):=fM_ hxy hj.out (by omega);clear hxy;go_wp2;go_roundw
       case rel=>exact⟨k+1,st+p.n,a3,n3,cap3,_,by omega,by go_num,by go_num,by omega,by omega,rfl,by omega,he.mono (by simp;omega),by show _=_;rw[hI.out,hd.out];exact hb.out,Aa hB ha⟩
       case measure=>simp[intOf];omega
     ·by_cases hy:st+p.n<to
      ·go_wp2_with fail
       refine (bg_ a2 n2 cap2 lk ⟨p.a,p.f,(st+p.n)-fr⟩ _ (hc.sl.alloc _) (by omega) hc.arg).mono ?_;rintro e w3 ⟨⟨a3,n3,cap3,rfl,he⟩,hf⟩;have hh:=bZ_ he.sl.len hc.sl.len;obtain⟨_,_,_,ha,_⟩:=Fp hf;have y2:=Ab ha c2;have hb:Hid (At lk (slp fr to st (p::l.drop (k+1)))=At (BE lk ⟨p.a,p.f,(st+p.n)-fr⟩) (slp fr to (st+p.n) (l.drop (k+1)))):=fM_ hxy hj.out (by omega);clear hxy;go_wp2;go_roundw
       case rel=>exact⟨k+1,st+p.n,a3,n3,cap3,_,by omega,by go_num,by go_num,by omega,by omega,rfl,by omega,he.mono (by simp;omega),by show _=_;rw[hI.out,hd.out];exact hb.out,Aa hB ha⟩
       case measure=>simp[intOf];omega
      ·go_wp2_with fail
       refine (bg_ a2 n2 cap2 lk ⟨p.a,p.f,to-fr⟩ _ (hc.sl.alloc _) (by omega) hc.arg).mono ?_;rintro e w3 ⟨⟨a3,n3,cap3,rfl,he⟩,hf⟩;have hh:=bZ_ he.sl.len hc.sl.len;obtain⟨_,_,_,ha,_⟩:=Fp hf;have y2:=Ab ha c2;have hb:Hid (At lk (slp fr to st (p::l.drop (k+1)))=At (BE lk ⟨p.a,p.f,to-fr⟩) (slp fr to (st+p.n) (l.drop (k+1)))):=fM_ hxy hj.out (by omega);clear hxy;go_wp2;go_roundw
       case rel=>exact⟨k+1,st+p.n,a3,n3,cap3,_,by omega,by go_num,by go_num,by omega,by omega,rfl,by omega,he.mono (by simp;omega),by show _=_;rw[hI.out,hd.out];exact hb.out,Aa hB ha⟩
       case measure=>simp[intOf];omega
    ·by_cases hx:fr<st
     ·by_cases hy:st+p.n<to
      ·go_wp2_with fail
       refine (bg_ a2 n2 cap2 lk ⟨p.a,p.f,(st+p.n)-st⟩ _ (hc.sl.alloc _) (by omega) hc.arg).mono ?_;rintro e w3 ⟨⟨a3,n3,cap3,rfl,he⟩,hf⟩;have hh:=bZ_ he.sl.len hc.sl.len;obtain⟨_,_,_,ha,_⟩:=Fp hf;have y2:=Ab ha c2;have hb:Hid (At lk (slp fr to st (p::l.drop (k+1)))=At (BE lk ⟨p.a,p.f,(st+p.n)-st⟩) (slp fr to (st+p.n) (l.drop (k+1)))):=g0_ hxy hg (by omega) (by omega);clear hxy;go_wp2;go_roundw
       case rel=>exact⟨k+1,st+p.n,a3,n3,cap3,_,by omega,by go_num,by go_num,by omega,by omega,rfl,by omega,he.mono (by simp;omega),by show _=_;rw[hI.out,hd.out];exact hb.out,Aa hB ha⟩
       case measure=>simp[intOf];omega
      ·go_wp2_with fail
       refine (bg_ a2 n2 cap2 lk ⟨p.a,p.f,to-st⟩ _ (hc.sl.alloc _) (by omega) hc.arg).mono ?_;rintro e w3 ⟨⟨a3,n3,cap3,rfl,he⟩,hf⟩;have hh:=bZ_ he.sl.len hc.sl.len;obtain⟨_,_,_,ha,_⟩:=Fp hf;have y2:=Ab ha c2;have hb:Hid (At lk (slp fr to st (p::l.drop (k+1)))=At (BE lk ⟨p.a,p.f,to-st⟩) (slp fr to (st+p.n) (l.drop (k+1)))):=g0_ hxy hg (by omega) (by omega);clear hxy;go_wp2;go_roundw
       case rel=>exact⟨k+1,st+p.n,a3,n3,cap3,_,by omega,by go_num,by go_num,by omega,by omega,rfl,by omega,he.mono (by simp;omega),by show _=_;rw[hI.out,hd.out];exact hb.out,Aa hB ha⟩
       case measure=>simp[intOf];omega
     ·by_cases hy:st+p.n<to
      ·go_wp2_with fail
       refine (bg_ a2 n2 cap2 lk ⟨p.a,p.f+fr-st,(st+p.n)-fr⟩ _ (hc.sl.alloc _) (by omega) hc.arg).mono ?_;rintro e w3 ⟨⟨a3,n3,cap3,rfl,he⟩,hf⟩;have hh:=bZ_ he.sl.len hc.sl.len;obtain⟨_,_,_,ha,_⟩:=Fp hf;have y2:=Ab ha c2;have hb:Hid (At lk (slp fr to st (p::l.drop (k+1)))=At (BE lk ⟨p.a,p.f+fr-st,(st+p.n)-fr⟩) (slp fr to (st+p.n) (l.drop (k+1)))):=g0_ hxy hg (by omega) (by omega);clear hxy;go_wp2;go_roundw
       case rel=>exact⟨k+1,st+p.n,a3,n3,cap3,_,by omega,by go_num,by go_num,by omega,by omega,rfl,by omega,he.mono (by simp;omega),by show _=_;rw[hI.out,hd.out];exact hb.out,Aa hB ha⟩
       case measure=>simp[intOf];omega
      ·go_wp2_with fail
       refine (bg_ a2 n2 cap2 lk ⟨p.a,p.f+fr-st,to-fr⟩ _ (hc.sl.alloc _) (by omega) hc.arg).mono ?_;rintro e w3 ⟨⟨a3,n3,cap3,rfl,he⟩,hf⟩;have hh:=bZ_ he.sl.len hc.sl.len;obtain⟨_,_,_,ha,_⟩:=Fp hf;have y2:=Ab ha c2;have hb:Hid (At lk (slp fr to st (p::l.drop (k+1)))=At (BE lk ⟨p.a,p.f+fr-st,to-fr⟩) (slp fr to (st+p.n) (l.drop (k+1)))):=g0_ hxy hg (by omega) (by omega);clear hxy;go_wp2;go_roundw
       case rel=>exact⟨k+1,st+p.n,a3,n3,cap3,_,by omega,by go_num,by go_num,by omega,by omega,rfl,by omega,he.mono (by simp;omega),by show _=_;rw[hI.out,hd.out];exact hb.out,Aa hB ha⟩
       case measure=>simp[intOf];omega
   ·by_cases hx:fr<st
    all_goals by_cases hy:st+p.n<to
    all_goals try (exfalso;omega)
    all_goals
     go_wp2;go_roundw
     case rel=>exact⟨k+1,st+p.n,a2,n2,cap2,lk,by omega,by go_num,by go_num,by omega,by omega,rfl,by omega,hc,by show _=_;rw[hI.out,hd.out,fo_ hxy],hB⟩
     case measure=>simp[intOf];omega
  ·obtain rfl:k=n:=by omega
   go_wp2;go_returns;go_light;rw[Ze (Zm hm.out)] at hI;rw[hI.out];exact⟨⟨a2,n2,cap2,rfl,hq,hc⟩,hB⟩
theorem hq_ {l:List Pt}(h:Ae l=true):L7 l:=by
 intro p hp;refine⟨ci_ h p hp,?_⟩;have hk:=(ae_ h).2.1 p hp;unfold Ao at hk;split at hk
 ·rename_i ha;simp at ha hk;exact .inl ⟨ha,hk.1⟩
 ·simp at hk;exact .inr (by omega)
theorem my_:∀ (l:List Int),∀ u∈l.flatMap ics,u.oneCell'=true:=by
 intro l u hu;obtain⟨x,_,hx⟩:=ZL.1 hu;simp at hx;subst hx;rfl
theorem j3_ (w:World)(x:Int)(t:TypeId)(b:Nat)(hb:b=w.heap.size):AX ics 1 (w.alloc (.cells #[.int .i64 x] t)) (some ⟨b,0,none⟩) 1 [x]:=by
 subst hb;refine⟨rfl,fun i y hy=>⟨w.heap.size,0,rfl,fun j v hv=>?_⟩⟩;have hi:i=0:=by have:=(Zb.1 hy).1;simp at this;exact this
 subst hi;simp at hy;subst hy
 match j,hv with
 |0,hv=>obtain rfl:=Zi hv;simp
 |j+1,hv=>simp at hv
def gl (size:Int):Int->List Ex->List Int
 |next,[]=>[size+1-next]
 |next,e::r=>(e.a-next)::gl size (e.a+e.d.size) r
def glA (size:Int)(l:List Ex):Nat->List Int×Int
 |0=>([],1)
 |k+1=>match l[k]? with
  |none=>glA size l k
  |some e=>((glA size l k).1++[e.a-(glA size l k).2],e.a+e.d.size)
theorem da_ {l:List Ex}{p:Ex}(h:l[k]?=some p):glA size l (k+1)=((glA size l k).1++[p.a-(glA size l k).2],p.a+p.d.size):=by simp[glA,h]
theorem lB_ {l:List Ex}:∀ k,k<=l.length->gl size 1 l=(glA size l k).1++gl size (glA size l k).2 (l.drop k)
 |0,_=>by simp[glA]
 |k+1,h=>by
  have hk:l[k]?=some l[k]:=by simp[show k<l.length by omega]
  rw[lB_ k (by omega),al_ hk,da_ hk];simp[gl]
theorem jd_ {l:List Ex}:∀ k,k<=l.length->(glA size l k).1.length=k
 |0,_=>rfl
 |k+1,h=>by
  have hk:l[k]?=some l[k]:=by simp[show k<l.length by omega]
  rw[da_ hk];simp[jd_ (l:=l) k (by omega)]
theorem lC_ {l:List Ex}(hs:size<=400):∀ k,k<=l.length->xgo size 1 l=true->1<=(glA size l k).2∧(glA size l k).2<=421∧xgo size (glA size l k).2 (l.drop k)=true
 |0,_,h=>⟨by simp[glA],by simp[glA],by simpa[glA] using h⟩
 |k+1,hk',h=>by
  have hk:l[k]?=some l[k]:=by simp[show k<l.length by omega]
  obtain⟨q1,q2,q3⟩:=lC_ hs k (by omega) h;rw[al_ hk] at q3;simp only[xgo,Zf,ZU] at q3;obtain⟨⟨⟨h1,h2⟩,h3⟩,h4⟩:=q3;have ha:l[k].d.size<=20:=by simp[Aw] at h1;omega
  rw[da_ hk];exact⟨by simp;omega,by simp;omega,h4⟩
theorem j4_ (size:Int)(a:Option Addr)(n cap:Nat)(l:List Ex)(w:World)(h:BZ w a n l)(hn:n<=60)(hs1:1<=size)(hs2:size<=400)(hx:xgo size 1 l=true):
  Calls prog 144 #[.int .i64 size,.slice a n cap] w fun e w'=>(∃ a' n' cap',e=.returned (.slice a' n' cap')∧Ad ics 1 2 w' w.heap.size a' n' cap' (gl size 1 l))∧Below w.heap.size w w':=by
 have hb:Hid (l.length=n):=h.len;obtain⟨i0,hi,hj,hl,hm⟩:=info_parts MS;go_enter func144,ntmps144
 go_wp2_with fail
 go_loopw [5,6,7] (fun out nx ix wr=>∃ (k:Nat) (a2:Option Addr) (n2 cap2:Nat),k<=n∧ix=.int .i64 k∧nx=.int .i64 (glA size l k).2∧out=.slice a2 n2 cap2∧n2=k∧Ad ics 1 2 wr w.heap.size a2 n2 cap2 (glA size l k).1∧Below w.heap.size w wr) (fun _ _ ix _=>n-(intOf ix).toNat)
 case atStart=>exact⟨0,_,0,0,Zg _,rfl,rfl,rfl,rfl,aw_ (Blk.new _ _ _) (Zd _),by go_grown⟩
 case round=>
  obtain⟨k,a2,n2,cap2,hk,rfl,rfl,rfl,rfl,R2,hB⟩:=hrel;have hh:=hB.size;obtain⟨q1,q2,q3⟩:=lC_ (k:=n2) hs2 (by rw[hb.out];exact hk) hx;by_cases hlt:n2<n
  ·obtain⟨b,o,p,rfl,hp,c0,c1⟩:=be_ (h.below hB) hlt;have he:Hid (glA size l (n2+1)=((glA size l n2).1++[p.a-(glA size l n2).2],p.a+p.d.size)):=da_ hp;rw[al_ hp] at q3;simp only[xgo,Zf,ZU] at q3;obtain⟨⟨⟨h1,h2⟩,h3⟩,_⟩:=q3;have hr:p.d.size<=20:=by simp[Aw] at h1;omega
   have hu:b<wr.heap.size:=Yk wr _ c0
   have hg:b<w.heap.size:=by
    obtain⟨b',o',p',hq,_,d0,_⟩:=be_ h hlt;obtain⟨rfl,rfl⟩:b=b'∧o=o':=by simpa using hq
    exact Yk w _ d0
   clear hp h1;generalize glA size l n2=G at *;obtain⟨gk,nk⟩:=G;simp only at *;have hs:(n2:Int)<n:=by omega
   have ht:(0:Int)<=n2:=by omega
   go_wp2_with (at_builtin;refine ag_ rfl (fun K hK=>ay_ _ _ 69 rfl w.heap.size 2 i0 (.int .i64 0) 8 underlying69 hi hj hl hm rfl (by decide) mw_ my_ a2 n2 cap2 gk rfl (R2.alloc _) _ 1 1 [p.a-nk] rfl (j3_ _ _ _ _ (by simp)) (fun ad h=>(by cases h;rfl)) (fun h=>(by cases h)) (n2+1) rfl (by unfold maxLen;omega) (by omega) (by simp;omega) (fun a3 cap3 w3 R3 hc=>hK _ _ ?_)))
   have hf:Below w.heap.size w w3:=Yi (hB.alloc hh _) hc (by simp;omega) (aG_ fun ad ha=>(R2.block ad ha).1);have d0:=hc.cell (Al (.cells #[.int .i64 (p.a-nk)] 2) c0) (at_ (fun ad ha=>(R2.block ad ha).1) hg);have d1:=hc.cell (Al (.cells #[.int .i64 (p.a-nk)] 2) c1) (at_ (fun ad ha=>(R2.block ad ha).1) hg);clear c0 c1 hK
   go_wp2_with fail
   go_quiet (fail)
   have R4:=R3.below (Bi w3 nq);have ho:=Aa hf (Bi w3 nq);go_wp2;go_roundw
   case rel=>exact⟨n2+1,a3,n2+1,cap3,by omega,by go_num,by rw[he.out],rfl,rfl,by rw[he.out];exact R4,ho⟩
   case measure=>simp[intOf];omega
  ·obtain rfl:n2=n:=by omega
   have he:Hid (gl size 1 l=(glA size l n2).1++[size+1-(glA size l n2).2]):=by
    show _=_;rw[lB_ n2 (by rw[hb.out];omega),Ze (Zm hb.out),gl]
   clear q3;generalize glA size l n2=G at *;obtain⟨gk,nk⟩:=G;simp only at *
   go_wp2_with (at_builtin;refine ag_ rfl (fun K hK=>ay_ _ _ 69 rfl w.heap.size 2 i0 (.int .i64 0) 8 underlying69 hi hj hl hm rfl (by decide) mw_ my_ a2 n2 cap2 gk rfl (R2.alloc _) _ 1 1 [size+1-nk] rfl (j3_ _ _ _ _ (by simp)) (fun ad h=>(by cases h;rfl)) (fun h=>(by cases h)) (n2+1) rfl (by unfold maxLen;omega) (by omega) (by simp;omega) (fun a3 cap3 w3 R3 hc=>hK _ _ ?_)))
   have hf:Below w.heap.size w w3:=Yi (hB.alloc hh _) hc (by simp;omega) (aG_ fun ad ha=>(R2.block ad ha).1);go_returns;exact⟨⟨a3,n2+1,cap3,rfl,by rw[he.out];exact R3⟩,hf⟩
theorem n3_:∀ {L:List Ex} {next:Int},(gl size next L).length=L.length+1
 |[],_=>rfl
 |e::r,next=>by simp[gl,n3_ (L:=r)]
end
section
open Go Go.RowKit Go.BigFrame Tryz
variable{c:Array Value}{t:TypeId}{w:World}
theorem Blk.other {b:Nat}(h:Blk w b c t)(p:Addr)(v:Value)(hp:b≠p.block):Blk (w.setCell p v) b c t:=by
 unfold Blk at *;rw[Below.heap_setCell _ _ _ _ (by simpa using hp)];exact h
end
section
open Go Go.RowKit Go.BigFrame Tryz
variable{c0 c1 c2:Array Value}{t0 t1 t2:TypeId}{w w1:World}
theorem bx3 (hb:Below (((w.alloc (.cells c0 t0)).alloc (.cells c1 t1)).alloc (.cells c2 t2)).heap.size (((w.alloc (.cells c0 t0)).alloc (.cells c1 t1)).alloc (.cells c2 t2)) w1):
  Blk w1 w.heap.size c0 t0∧Blk w1 (w.heap.size+1) c1 t1∧Blk w1 (w.heap.size+2) c2 t2∧Below w.heap.size w w1∧w.heap.size+3<=w1.heap.size:=
 ⟨(((Blk.new w _ _).alloc _).alloc _).below hb,((Blk.new' _ _ _ _ (by simp)).alloc _).below hb,(Blk.new' _ _ _ _ (by simp)).below hb,Aa (by go_grown) hb,by have:=hb.size;simp at this;omega⟩
end
end Go.Proofs.YtkiceokhlceciaaGreatDoor
