/- Counts added up: a list in order with no nought is told by its sums. -/
import Derived.Test.YtbbhcnjhohidnaaGreatDoorU01
set_option maxHeartbeats 20000000
set_option maxRecDepth 100000
namespace Go.Proofs.YtbbhcnjhohidnaaGreatDoor
section
open Go.RowKit Go.Shelf Tryz
variable{l:List Ex}{Bs n₀:Nat}{w:World}
attribute [local go_sem] YJ
theorem nZ_ (n:Nat)(hn:1<=n)(l Bl Bs n₀ N:Nat)(size:Int)(a:Option Addr)(nn cap:Nat)(L:List Ex)(J Jx:List (Int×Int)->World->Prop)(W:World)(hJ:AbidesFrom W.heap.size J)
  (hY:∀ pre x W1,J pre W1->pre.length<N->YieldAt Fence.wide (n-1) prog l #[.int .i64 x.1,.int .i64 x.2] W1 fun e W'=>
   (e=.returned (.bool true)∧J (pre++[x]) W'∧KpG n₀ Bs 103 W1 W')∨(e=.returned (.bool false)∧Jx (pre++[x]) W'))
  (hBl:W.cell? ⟨Bl,0,none⟩=some (.slice a nn cap))(hBs:W.cell? ⟨Bs,0,none⟩=some (.int .i64 size))(hL:FZ n₀ W a nn L)(hx:xgo size 1 L=true)(hs1:1<=size)(hs2:size<=400)(hnn:nn<=60)(hN:61<=N)(hn0:n₀<=W.heap.size)(h0:J [] W):
  CallsIn Fence.wide n prog 199 #[.func (.yield l) #[] #[],.pointer (some ⟨Bl,0,none⟩),.pointer (some ⟨Bs,0,none⟩)] W fun e W'=>(∃ v,e=.returned v)∧
   ((∃ ys,ys=ggo size 1 L∧J ys W')∨(∃ pre,pre <+: ggo size 1 L∧Jx pre W')):=by
 have hm:Hid (L.length=nn):=hL.1.len;refine callsIn_of_wp func199 rfl trivial ?_ rfl;simp only[ntmps199,YI,Zw,YK,Nat.reduceAdd,Nat.reduceSub,Array.replicate_succ,Array.replicate_zero,List.push_toArray,List.append_toArray,ZM,YF]
 gi_wp2
 gi_loopw [4,9] (fun nx ix wr=>∃ (k:Nat) (next:Int) (pre:List (Int×Int)),k<=nn∧ix=.int .i64 k∧nx=.int .i64 next∧1<=next∧next<=421∧pre.length<=k∧Hid (ggo size 1 L=pre++ggo size next (L.drop k))∧Hid (xgo size next (L.drop k)=true)∧J pre wr∧Below n₀ W wr∧wr.cell? ⟨Bs,0,none⟩=some (.int .i64 size))
  (fun _ ix _=>nn-(intOf ix).toNat)
 case atStart=>exact⟨0,1,[],Zg _,rfl,rfl,by omega,by omega,Zd _,by show _=_;simp,hx,h0,Yg _ _,hBs⟩
 case round=>
  obtain⟨k,next,pre,hk,rfl,rfl,hA,hC,hz,hI,hX,hf,hB,hc⟩:=hrel;by_cases hlt:k<nn
  ·obtain⟨b,o,p,rfl,hp,c0,c1⟩:=pf_ hL hB hlt;have hd:Hid (L.drop k=p::L.drop (k+1)):=al_ hp;clear hp;have hg:=hX.out;rw[hd.out] at hg;simp only[xgo,Zf,ZU] at hg;obtain⟨⟨⟨hl,ht⟩,hu⟩,hr⟩:=hg;have hj:1<=p.d.size∧p.d.size<=20:=by simp[Aq] at hl;exact hl.1
   obtain⟨hv,hw⟩:=hj;have hs:Hid (xgo size (p.a+p.d.size) (L.drop (k+1))=true):=hr;clear hr hX hl;have hq:J pre (wr.alloc (.cells #[.int .i64 p.a,.string p.d] 103)):=hJ pre wr _ none hf (Yl wr _ none) (fun r e=>by cases e);by_cases hgt:next<p.a
   ·obtain⟨fn,tmps,assign,body,hy,hR⟩:=hY pre (next,p.a-next) _ hq (by omega);have ha:Hid (ggo size 1 L=(pre++[(next,p.a-next)])++ggo size (p.a+p.d.size) (L.drop (k+1))):=by show _=_;rw[hI.out,hd.out,ggo,if_pos hgt];simp
    dsimp only at hy
    gi_wp2
    refine hR.mono ?_;rintro e W3 (⟨rfl,hJ3,hK3⟩ | ⟨rfl,hJx3⟩)
    ·have hh:=hK3.2.1 _ _ (Blk.new wr #[.int .i64 p.a,.string p.d] 103);have e0:W3.cell? ⟨wr.heap.size,0,none⟩=some (.int .i64 p.a):=hh.cell 0;have e1:W3.cell? ⟨wr.heap.size,1,none⟩=some (.string p.d):=hh.cell 1;have he:Below n₀ W W3:=(hB.alloc (Zl hn0 hB.size) _).trans hK3.1;have ho:=hK3.2.2 _ (Ah _ hc);clear hK3 hh hy hR
     gi_wp2
     go_roundw
     case rel=>exact⟨k+1,p.a+p.d.size,pre++[(next,p.a-next)],by omega,by go_num,by go_num,by omega,by omega,by simp;omega,ha,hs,hJ3,he,ho⟩
     case measure=>simp[intOf];omega
    ·clear hy hR
     gi_wp2
     refine YW (results_none rfl _ _ _) rfl ?_;exact⟨⟨_,rfl⟩,.inr ⟨_,⟨_,ha.out.symm⟩,hJx3⟩⟩
   ·have ha:Hid (ggo size 1 L=pre++ggo size (p.a+p.d.size) (L.drop (k+1))):=by show _=_;rw[hI.out,hd.out,ggo,if_neg hgt];simp
    have he:Below n₀ W (wr.alloc (.cells #[.int .i64 p.a,.string p.d] 103)):=hB.alloc (Zl hn0 hB.size) _;have ho:(wr.alloc (.cells #[.int .i64 p.a,.string p.d] 103)).cell? ⟨Bs,0,none⟩=some (.int .i64 size):=Ah _ hc
    gi_wp2
    refine⟨fun _ h=>(by cases h),?_⟩
    gi_wp2
    go_roundw
    case rel=>exact⟨k+1,p.a+p.d.size,pre,by omega,by go_num,by go_num,by omega,by omega,by omega,ha,hs,hq,he,ho⟩
    case measure=>simp[intOf];omega
  ·obtain rfl:k=nn:=by omega
   have ha:=hI.out;rw[Ze (Zm hm.out)] at ha;by_cases hle:next<=size
   ·have hb:Hid (ggo size 1 L=pre++[(next,size+1-next)]):=by show _=_;rw[ha,ggo,if_pos hle]
    obtain⟨fn,tmps,assign,body,hy,hR⟩:=hY pre (next,size+1-next) wr hf (by omega);clear ha hI hX;dsimp only at hy
    gi_wp2
    refine hR.mono ?_;rintro e W3 (⟨rfl,hJ3,hK3⟩ | ⟨rfl,hJx3⟩)
    ·gi_wp2
     go_end0;exact⟨⟨_,rfl⟩,.inl ⟨_,hb.out.symm,hJ3⟩⟩
    ·gi_wp2
     go_end0;exact⟨⟨_,rfl⟩,.inr ⟨_,⟨[],by rw[hb.out];simp⟩,hJx3⟩⟩
   ·have hb:Hid (ggo size 1 L=pre):=by show _=_;rw[ha,ggo,if_neg hle];simp
    clear ha hI hX
    gi_wp2
    go_end0;exact⟨⟨_,rfl⟩,.inl (by rw[hb.out];exact hf)⟩
theorem pg_ (n:Nat)(size:Int)(a:Option Addr)(nn cap:Nat)(w:World):
  CallsIn Fence.wide n prog 176 #[.int .i64 size,.slice a nn cap] w fun e w'=>e=.returned (.func (.func 199) #[] #[.pointer (some ⟨w.heap.size+1,0,none⟩),.pointer (some ⟨w.heap.size,0,none⟩)])∧w'=(w.alloc (.cells #[.int .i64 size] 2)).alloc (.cells #[.slice a nn cap] 31):=by
 refine callsIn_of_wp func176 rfl trivial ?_ rfl;simp only[ntmps176,YI,Zw,YK,Nat.reduceAdd,Nat.reduceSub,Array.replicate_succ,Array.replicate_zero,List.push_toArray,List.append_toArray,ZM,YF]
 gi_wp2
 go_ret;exact⟨rfl,rfl⟩
theorem lz_ (n:Nat)(hn:1<=n)(Bl Bs n₀:Nat)(size:Int)(a:Option Addr)(nn cap:Nat)(L:List Ex)(w:World)(hn₀:n₀<=w.heap.size)
  (cl:w.cell? ⟨Bl,0,none⟩=some (.slice a nn cap))(cs:w.cell? ⟨Bs,0,none⟩=some (.int .i64 size))(hL:FZ n₀ w a nn L)(hx:xgo size 1 L=true)(hs1:1<=size)(hs2:size<=400)(hnn:nn<=60):
  SeqStopsK Fence.wide n prog 199 #[.pointer (some ⟨Bl,0,none⟩),.pointer (some ⟨Bs,0,none⟩)] (fun x:Int×Int=>#[Value.int .i64 x.1,Value.int .i64 x.2]) (KpG n₀ Bs 103) (fun ys=>ys=ggo size 1 L) (fun pre=>pre <+: ggo size 1 L) 61 w:=fun l J Jx W hW hJ _ hY h0=>by
 have hb:FZ n₀ W a nn L:=⟨⟨hL.1.len,fun i x hx=>by
  obtain⟨b,o,ha,hc⟩:=hL.1.cell i x hx;exact⟨b,o,ha,fun j v hv=>Ab hW (hc j v hv)⟩⟩,hL.2⟩
 exact nZ_ n hn l Bl Bs n₀ 61 size a nn cap L J Jx W hJ hY (Ab hW cl) (Ab hW cs) hb hx hs1 hs2 hnn (Zd _) (Zl hn₀ hW.size) h0
end
section
open Go.RowKit Go.Shelf Tryz
variable{l:List Ex}
attribute [local go_sem] YJ
attribute [local go_sem] YJ
def D8:List Ex->Int
 |[]=>0
 |e::r=>e.d.size+D8 r
theorem cu_ {size:Int}(h:Ak size l=true):1<=size∧size<=400∧l.length<=60∧xgo size 1 l=true:=by
 simp only[Ak,Zf,ZU] at h;exact⟨h.1.1.1,h.1.1.2,h.1.2,h.2⟩
end
section
open Go.RowKit Go.Shelf Tryz
attribute [local go_sem] YJ
attribute [local go_sem] YJ
attribute [local go_sem] YJ
abbrev ics:Int->List Value:=fun x=>[Value.int .i64 x]
theorem Hh:(prog.info? 2).map (fun i=>(i.zero,i.size,i.bytes))=some (some (.int .i64 0),1,8):=by kernel_rfl
end
section
open Go Go.RowKit
variable{α:Type}{P:Program}{w:World}
theorem iD_ {w':World}{v v':Value}(base:Nat)(t ty e:TypeId)(i:TypeInfo)(z:Value)(size bytes:Nat)(ht:P.underlying t=some (.slice e))(hi:P.info? e=some i)(hz:i.zero=some z)
  (hsize:i.size=size)(hby:i.bytes=bytes)(n:Nat)(xs:List Value)(hc:w.ownsRow base e size v n xs)
  (a:Addr)(m c:Nat)(news:List Value)(hm:0<m)(hl:news.length=m*size)(hnews:∀ j u,news[j]?=some u->w.cell? (a.add j)=some u)(h1:∀ u∈news,u.oneCell'=true)
  (h63:n+m<=maxLen)(hbytes:(n+m)*bytes<=140737488355328)(hr:(Builtin.append_ #[t,t] ty #[v,.slice (some a) m c]).run P w=.ok v' w'):
  ∀ g,v'.ownBlock=some g->v.ownBlock=some g∨w.heap.size<=g:=by
 subst hsize;subst hby;have hj:n+m<=9223372036854775807:=by simp only[maxLen] at h63;omega
 intro g' hh;rcases hc.2 with⟨rfl,rfl⟩ | ⟨g,cap,cur,rfl,ho,hg,hq,hp,hn,hk⟩
 ·have ha:=run_append_nil (P:=P) w t ty e i z ht hi hz a m c news hl hnews (by omega) (by omega) (by have hb:=hbytes;simp only[Zq] at hb;omega);rw[hr] at ha
  cases ha
  right;simp[Value.ownBlock] at hh;omega
 ·by_cases hroom:n+m<=cap
  ·have hf:n*i.size+news.length<=cur.size:=by rw[hl,hn,<-Yd];exact ZS _ hroom
   have ha:=run_append_room (P:=P) w t ty e i ht hi g n cap cur hg a m c news hl hnews h1 hroom hf;rw[hr] at ha
   cases ha
   left;simpa[Value.ownBlock] using hh
  ·have he:∀ j u,xs[j]?=some u->w.cell? ((⟨g,0,none⟩:Addr).add j)=some u:=hc.cells (g:=g) rfl;have ha:=run_append_grow (P:=P) w t ty e i z ht hi hz ⟨g,0,none⟩ n cap xs hc.1 he a m c news hl hnews (by omega) (by omega) (growslice_fits (by omega) hbytes);rw[hr] at ha
   cases ha
   right;simp[Value.ownBlock] at hh;omega
theorem ph_ {cs:α->List Value}{size:Nat}{o:Oper}{a:Act}{K:Act->World->Prop}{Q:Exit->Act->World->Prop}
  (s x:Operand)(t:TypeId)(ho:o.op=.call {callee:=.builtin .append,args:=#[s,x],argTypes:=#[t,t]})
  (B:Nat)(e:TypeId)(i:TypeInfo)(z:Value)(bytes:Nat)(ht:P.underlying t=some (.slice e))(hi:P.info? e=some i)(hz:i.zero=some z)(hsize:i.size=size)(hby:i.bytes=bytes)(hzs:z.cells.size=size)(hpos:0<size)
  (hsz:∀ y,(cs y).length=size)(hone:∀ (l:List α),∀ u∈l.flatMap cs,u.oneCell'=true)
  (da:Option Addr)(dn dcap:Nat)(ld:List α)(hs:a.eval s=.slice da dn dcap)(hd:Ac cs size e w B da dn dcap ld)
  (b off:Nat)(ls:List α)(hx:a.eval x=.slice (some ⟨b,off,none⟩) 1 1)(hsrc:As cs size w (some ⟨b,off,none⟩) 1 ls)
  (h63:dn+1<=maxLen)(hbytes:(dn+1)*bytes<=140737488355328)(hbase:B<=w.heap.size)
  (h:∀ a' cap' w',Ac cs size e w' B a' (dn+1) cap' (ld++ls)->w.grownBy w' (Value.ownBlock (.slice da dn dcap))->(∀ ad',a'=some ad'->(∃ ad,da=some ad∧ad.block=ad'.block)∨w.heap.size<=ad'.block)->K (a.put o.dst (.slice a' (dn+1) cap')) w'):o.wp P a w K Q:=by
 have hb:=hd.row hsz;have he:(ld++ls).length=dn+1:=by rw[ZE,hd.sl.len,hsrc.len]
 have hh:(ls.flatMap cs).length=1*size:=by rw[aY_ hsz,hsrc.len]
 obtain⟨v',w',hr,ha,hg,_⟩:=run_append_own (P:=P) w B t o.type e i z size bytes ht hi hz hsize hby hzs hpos (.slice da dn dcap) dn (ld.flatMap cs) hb ⟨b,off,none⟩ 1 1 (ls.flatMap cs) hh (As.src hsz hsrc) (hone ls) h63 hbytes hbase;have hj:=iD_ (P:=P) B t o.type e i z size bytes ht hi hz hsize hby dn (ld.flatMap cs) hb ⟨b,off,none⟩ 1 1 (ls.flatMap cs) (by omega) hh (As.src hsz hsrc) (hone ls) h63 hbytes hr;rw[<-ZQ] at ha;obtain⟨a',cap',rfl,hf⟩:=bz_ hsz he ha;unfold Oper.wp;simp[execOp,ho,resolve,invoke,builtin,hs,hx,hr,Result.andThen];refine h a' cap' w' hf hg (fun ad' hc=>?_);subst hc;rcases hj ad'.block (by simp[Value.ownBlock]) with h1 | h1
 ·cases da with
  |none=>simp[Value.ownBlock] at h1
  |some ad=>exact .inl ⟨ad,rfl,by simpa[Value.ownBlock] using h1⟩
 ·exact .inr h1
end
section
open Go Go.RowKit Go.BigFrame Tryz
variable{fr st to x y:Int}{l r:List Pt}{b:Nat}{p q:Pt}{w:World}
theorem i7_ (a:Option Addr)(n cap:Nat)(l:List Pt)(w:World)(h:AE w a n l)(hn:n<=4194304):
  Calls prog 101 #[.slice a n cap] w fun e w'=>e=.returned (.bool (Ae l))∧Below w.heap.size w w':=by
 have hc:=h.len;by_cases h16:n<=16
 ·have hf:Hid (Ae l=sgo none 0 l):=by show _=_;rw[pe_ l none 0 (by omega) (by omega)];simp[Ae,hc,h16]
  have hg:Hid (l.length=n):=hc;clear hc;go_enter func101,ntmps101
  go_wp2_with fail
  go_loopw [2,3,4] (fun r s ix wr=>∃ (k:Nat) (lf:Int),k<=n∧ix=.int .i64 k∧s=.int .i64 lf∧0<=lf∧lf<=100*k∧Hid (sgo none 0 l=sgo (ahead l k) lf (l.drop k))∧Below w.heap.size w wr) (fun _ _ ix _=>n-(intOf ix).toNat)
  case atStart=>exact⟨0,0,Zg _,rfl,rfl,by omega,by omega,rfl,Yg _ _⟩
  case round=>
   obtain⟨k,lf,hk,rfl,rfl,ho,hr,hI,hB⟩:=hrel;by_cases hlt:k<n
   ·obtain⟨b,o,p,rfl,hp,c0,c1,c2⟩:=bi_ (h.below hB) hlt;have hd:Hid (l.drop k=p::l.drop (k+1)):=al_ hp;have hq:Hid (l[k]?=some p):=hp;clear hp;have hs:(k:Int)<n:=by omega
    have ht:(0:Int)<=k:=by omega
    cases hb:(Ao p&&decide (p.n<=100))
    ·go_wp2_with fail
     have g0:=Ad c0;have g1:=Ad c1;have g2:=Ad c2;have hl:=aA_ wr;refine ab_ (by kernel_rfl) (by kernel_rfl) ?_
     repeat (go_big_quiet_step (first | (go_at_call 146;have qq:=cR_ p;rw[hb] at qq;exact an_ (qq _))))
     refine wpQuiet_nil ?_;intro w2 hx;have he:=ah_ hx;clear hx;go_wp2;go_returns;go_light;refine⟨ac_ ?_,Aa hB he⟩;rw[hf.out,hI.out,hd.out];cases ahead l k<;>simp only[sgo,hb,Zr]
    ·have hu:1<=p.n∧p.n<=100:=by simp at hb;exact⟨av_ hb.1,hb.2⟩
     rcases k with _ | j
     ·simp only[Nat.zero_mul,Nat.add_zero] at c0 c1 c2
      go_wp2_with fail
      have g0:=Ad c0;have g1:=Ad c1;have g2:=Ad c2;have hl:=aA_ wr;refine ab_ (by kernel_rfl) (by kernel_rfl) ?_
      repeat (go_big_quiet_step (first | (go_at_call 146;have qq:=cR_ p;rw[hb] at qq;exact an_ (qq _))))
      refine wpQuiet_nil ?_;intro w2 hx;have he:=ah_ hx;have d2:=Ab he c2;clear hx;go_wp2;go_roundw
      case rel=>exact⟨1,lf+p.n,by omega,by go_num,by go_num,by omega,by omega,by show _=_;rw[hI.out,hd.out,hh_,b6_,hq.out];simp only[sgo,hb,Zp],Aa hB he⟩
      case measure=>simp[intOf];omega
     ·obtain⟨b',o',q,hj,hm,d0,d1,d2⟩:=bi_ (h.below hB) (k:=j) (by omega);obtain⟨rfl,rfl⟩:b=b'∧o=o':=by simpa using hj
      have ha:Hid (ahead l (j+1)=some q):=by show _=_;rw[b6_];exact hm
      clear hm hj
      cases hh:AN q p
      all_goals
       go_wp2_with fail
       have g0:=Ad c0;have g1:=Ad c1;have g2:=Ad c2;have g3:=Ad d0;have g4:=Ad d1;have g5:=Ad d2;have hl:=aA_ wr;refine ab_ (by kernel_rfl) (by kernel_rfl) ?_
       repeat (go_big_quiet_step (first | (go_at_call 146;have qq:=cR_ p;rw[hb] at qq;exact an_ (qq _)) | (go_at_call 147;have qq:=gC_ q p;rw[hh] at qq;exact an_ (qq _))))
       refine wpQuiet_nil ?_;intro w2 hx;have he:=ah_ hx;have e2:=Ab he c2;clear hx;go_wp2
      ·go_roundw
       case rel=>exact⟨j+2,lf+p.n,by omega,by go_num,by go_num,by omega,by omega,by show _=_;rw[hI.out,hd.out,ha.out,b6_,hq.out];simp only[sgo,hb,hh,Zp,Bool.not_false],Aa hB he⟩
       case measure=>simp[intOf];omega
      ·go_returns;go_light;refine⟨ac_ ?_,Aa hB he⟩;rw[hf.out,hI.out,hd.out,ha.out];simp only[sgo,hb,hh,Zp,Bool.not_true,Zr]
   ·obtain rfl:k=n:=by omega
    go_wp2;go_returns;go_light;refine⟨ac_ ?_,hB⟩;rw[hf.out,hI.out,Ze (Zm hg.out)];cases ahead l k<;>rfl
 ·go_enter func101,ntmps101;go_wp2;go_returns;go_light;refine⟨ac_ ?_,Yg _ _⟩;simp[Ae,hc];omega
theorem aZ_ (a:Option Addr)(n cap:Nat)(l:List Pt)(w:World)(h:AE w a n l)(hn:n<=4194304)(hs:∀ k,0<=Af (l.take k)∧Af (l.take k)<=100):
  Calls prog 110 #[.slice a n cap] w fun e w'=>e=.returned (.int .i64 (Af l))∧w'=w:=by
 have ha:Hid (l.length=n):=h.len;go_enter func110,ntmps110
 go_wp2_with fail
 go_loop [3,4] (fun s ix=>∃ (k:Nat),k<=n∧ix=.int .i64 k∧s=.int .i64 (Af (l.take k))) (fun _ ix=>n-(intOf ix).toNat)
 case atStart=>exact⟨0,Zg _,rfl,rfl⟩
 case round=>
  obtain⟨k,hk,rfl,rfl⟩:=hrel;have he:=hs k;have hb:=hs (k+1);by_cases hlt:k<n
  ·obtain⟨b,o,p,rfl,hp,c0,c1,c2⟩:=bi_ h hlt;have hc:Hid (Af (l.take (k+1))=Af (l.take k)+p.n):=gc_ hp;have hf:0<=Af (l.take k)+p.n∧Af (l.take k)+p.n<=100:=by rw[<-hc.out];exact hb
   clear hp hb;generalize Af (l.take k)=s at *;go_wp2;go_round
   case rel=>exact⟨k+1,by omega,by go_num,by rw[hc.out]⟩
   case measure=>simp[intOf];omega
  ·obtain rfl:k=n:=by omega
   go_wp2;go_returns;go_light;refine⟨a4_ ?_,rfl⟩;rw[Zk (Zm ha.out)]
theorem i8_ (h:Ae l=true):∀ k,0<=Af (l.take k)∧Af (l.take k)<=100:=by
 intro k;obtain⟨_,h1,h2⟩:=ae_ h
 have:=a6_ h1 k
 omega
def Ck (l:List Pt):Int:=if Ae l=true then Af l else -1
theorem bo_ (a:Option Addr)(n cap:Nat)(l:List Pt)(w:World)(h:AE w a n l)(hn:n<=4194304):
  Calls prog 161 #[.slice a n cap] w fun e w'=>e=.returned (.int .i64 (Ck l))∧Below w.heap.size w w':=by
 cases hb:Ae l
 ·have hf:Hid (Ck l=-1):=by show _=_;simp[Ck,hb]
  go_enter func161,ntmps161
  go_wp2_with fail
  refine (as_ a n cap l _ h hn).mono ?_;rintro e w1 ⟨rfl,hc⟩;rw[hb];go_wp2;go_returns;go_light;exact⟨a4_ hf.out.symm,hc⟩
 ·have hf:Hid (Ck l=Af l):=by show _=_;simp[Ck,hb]
  have hs:Hid (∀ k,0<=Af (l.take k)∧Af (l.take k)<=100):=i8_ hb;have ha:Hid (l.length=n):=h.len;go_enter func161,ntmps161
  go_wp2_with fail
  refine (as_ a n cap l _ h hn).mono ?_;rintro e w1 ⟨rfl,hc⟩;rw[hb]
  go_wp2_with fail
  go_loopw [3,11] (fun s ix wr=>∃ (k:Nat),k<=n∧ix=.int .i64 k∧s=.int .i64 (Af (l.take k))∧Below w.heap.size w wr) (fun _ ix _=>n-(intOf ix).toNat)
  case atStart=>exact⟨0,Zg _,rfl,rfl,hc⟩
  case round=>
   obtain⟨k,hk,rfl,rfl,hB⟩:=hrel;have hh:=hs.out k;have he:=hs.out (k+1);by_cases hlt:k<n
   ·obtain⟨b,o,p,rfl,hp,c0,c1,c2⟩:=bi_ (h.below hB) hlt;have hg:Hid (Af (l.take (k+1))=Af (l.take k)+p.n):=gc_ hp;have hj:0<=Af (l.take k)+p.n∧Af (l.take k)+p.n<=100:=by rw[<-hg.out];exact he
    clear hp he;generalize Af (l.take k)=s at *;go_wp2;go_roundw
    case rel=>exact⟨k+1,by omega,by go_num,by rw[hg.out],by have:=hB.size;go_grown⟩
    case measure=>simp[intOf];omega
   ·obtain rfl:k=n:=by omega
    go_wp2;go_returns;go_light;refine⟨a4_ ?_,hB⟩;rw[Zk (Zm ha.out),hf.out]
theorem i9_ (a:Option Addr)(n cap:Nat)(l:List Pt)(w:World)(h:AE w a n l)(hn:n<=4194304):
  Calls prog 174 #[.slice a n cap] w fun e w'=>e=.returned (.slice (some ⟨w.heap.size,0,none⟩) n n)∧Bk Pt.cs 3 162 w' w.heap.size n l∧Below w.heap.size w w':=by
 have hb:Hid (l.length=n):=h.len;have ha:(prog.info? 162).map (fun i=>(i.zero,i.size,i.bytes))=some (some (.agg #[.int .i64 0,.int .i64 0,.int .i64 0]),3,24):=by kernel_rfl
 obtain⟨i0,hi,hj,hl,ho⟩:=info_parts ha
 have hs:∀ u:World,(Instr.makeSlice 154 (.int .i64 (n:Int)) (.int .i64 (n:Int))).run prog u =
   .ok (.slice (some ⟨u.heap.size,0,none⟩) n n) (u.alloc (.cells (madeCells #[.int .i64 0,.int .i64 0,.int .i64 0] (n*3)) 162)):=fun u=>by
  have hm:=run_make (P:=prog) u 154 162 i0 (.agg #[.int .i64 0,.int .i64 0,.int .i64 0]) underlying154 hi hj .i64 .i64 (n:Int) (n:Int) (by omega) (YB _) (by rw[ho];omega) (by omega);simpa[hl,Value.cells] using hm
 clear ha hi hj hl ho;go_enter func174,ntmps174
 go_wp2_with fail
 go_loopw [4] (fun ix wr=>∃ (k:Nat) (c:Array Value),k<=n∧ix=.int .i64 k∧Blk wr w.heap.size c 162∧Hid (c.size=n*3)∧Hid (∀ i p,i<k->l[i]?=some p->c[i*3]?=some (.int .i64 p.a)∧c[i*3+1]?=some (.int .i64 p.f)∧c[i*3+2]?=some (.int .i64 p.n))∧Below w.heap.size w wr) (fun ix _=>n-(intOf ix).toNat)
 case atStart=>exact⟨0,_,Zg _,rfl,Blk.new _ _ _,size_madeCells _ _,fun i p hi=>by omega,(Yg _ _).alloc (Zd _) _⟩
 case round=>
  obtain⟨k,c,hk,rfl,hf,he,hh,hB⟩:=hrel;by_cases hlt:k<n
  ·obtain⟨b,o,p,rfl,hp,c0,c1,c2⟩:=bi_ (h.below hB) hlt;have ht:Hid (l[k]?=some p):=hp;clear hp hs
   go_wp2_with fail
   refine (jP_ p _).mono ?_;rintro e w1 ⟨rfl,hg⟩;have hc:=hf.below hg;have f0:=hc.frozen (k*3);have f1:=hc.frozen (k*3+1);have f2:=hc.frozen (k*3+2);have hu:=hB.size;obtain⟨v0,y0⟩:=hc.has (i:=k*3) (by rw[he.out];omega);obtain⟨v1,y1⟩:=hc.has (i:=k*3+1) (by rw[he.out];omega);obtain⟨v2,y2⟩:=hc.has (i:=k*3+2) (by rw[he.out];omega);go_wp2;go_roundw
   case rel=>
    refine⟨k+1,_,by omega,by go_num,((hc.set _ _).set _ _).set _ _,by show _=_;simp[he.out],?_,?_⟩
    ·intro i q hi hq;have hr:=he.out;by_cases hik:i=k
     ·subst hik;obtain rfl:p=q:=by rw[ht.out] at hq;exact Zi hq
      refine⟨?_,?_,?_⟩
      all_goals (simp[Yn];omega)
     ·obtain⟨r0,r1,r2⟩:=hh.out i q (by omega) hq;refine⟨?_,?_,?_⟩
      all_goals (rw[Za (by omega),Za (by omega),Za (by omega)];assumption)
    ·exact (((Aa hB hg).setCell (by simp) _).setCell (by simp) _).setCell (by simp) _
   case measure=>simp[intOf];omega
  ·obtain rfl:k=n:=by omega
   go_wp2;go_returns;go_light;refine⟨rfl,⟨hb.out,c,hf,Zm he.out.symm,?_⟩,hB⟩;intro i x hx j v hv;have hi:i<k:=by have:=(Zb.1 hx).1;rw[hb.out] at this;exact this
   obtain⟨r0,r1,r2⟩:=hh.out i x hi hx
   match j,hv with
   |0,hv=>obtain rfl:=Zi hv;exact r0
   |1,hv=>obtain rfl:=Zi hv;exact r1
   |2,hv=>obtain rfl:=Zi hv;exact r2
   |j+3,hv=>simp[Pt.cs] at hv
def Ce:List Pt->List Pt->Bool
 |[],[]=>true
 |p::r,q::s=>DV p q&&Ce r s
 |_,_=>false
theorem m8_ (p q:Pt):DV p q=true↔p=q:=by
 cases p;cases q;simp[DV,and_assoc]
theorem m9_ (l:List Pt):∀ m,Ce l m=true↔l=m:=by
 induction l with
 |nil=>intro m;cases m<;>simp[Ce]
 |cons p r ih=>intro m;cases m<;>simp[Ce,m8_,ih]
theorem lA_ (l:List Pt):Ce l l=true:=(m9_ l l).2 rfl
theorem na_:∀ {m:List Pt},l.length≠m.length->Ce l m=false:=by
 induction l with
 |nil=>intro m h;cases m<;>simp[Ce] at *
 |cons p r ih=>intro m h;cases m<;>simp[Ce] at *;exact fun _=>ih h
theorem ja_ (a:Option Addr)(n cap:Nat)(l:List Pt)(a':Option Addr)(n' cap':Nat)(m:List Pt)(w:World)(h:AE w a n l)(h':AE w a' n' m)(hn:n<=4194304)(hn':n'<=4194304):
  Calls prog 196 #[.slice a n cap,.slice a' n' cap'] w fun e w'=>e=.returned (.bool (Ce l m))∧Below w.heap.size w w':=by
 have hb:Hid (l.length=n):=h.len;have ha:Hid (m.length=n'):=h'.len;by_cases hc:n=n'
 ·subst hc;have hh:((n:Int) != (n:Int))=false:=by simp
  go_enter func196,ntmps196
  go_wp2_with fail
  go_loopw [5] (fun ix wr=>∃ (k:Nat),k<=n∧ix=.int .i64 k∧Hid (Ce l m=Ce (l.drop k) (m.drop k))∧Below w.heap.size w wr) (fun ix _=>n-(intOf ix).toNat)
  case atStart=>exact⟨0,Zg _,rfl,rfl,Yg _ _⟩
  case round=>
   obtain⟨k,hk,rfl,hI,hB⟩:=hrel;by_cases hlt:k<n
   ·obtain⟨b,o,p,rfl,hp,c0,c1,c2⟩:=bi_ (h.below hB) hlt;obtain⟨b',o',q,rfl,hq,d0,d1,d2⟩:=bi_ (h'.below hB) hlt;have hd:Hid (l.drop k=p::l.drop (k+1)):=al_ hp;have hg:Hid (m.drop k=q::m.drop (k+1)):=al_ hq;clear hp hq;have hj:(k:Int)<n:=by omega
    have hl:(0:Int)<=k:=by omega
    cases he:DV p q
    all_goals
     go_wp2_with fail
     have g0:=Ad c0;have g1:=Ad c1;have g2:=Ad c2;have g3:=Ad d0;have g4:=Ad d1;have g5:=Ad d2;have hc:=aA_ wr;refine ab_ (by kernel_rfl) (by kernel_rfl) ?_
     repeat (go_big_quiet_step (first | (go_at_call 212;have qq:=jQ_ p q;rw[he] at qq;exact an_ (qq _))))
     refine wpQuiet_nil ?_;intro w2 hx;have hf:=ah_ hx;clear hx;go_wp2
    ·go_returns;go_light;refine⟨ac_ ?_,Aa hB hf⟩;rw[hI.out,hd.out,hg.out];simp only[Ce,he,Zr]
    ·go_roundw
     case rel=>exact⟨k+1,by omega,by go_num,by show _=_;rw[hI.out,hd.out,hg.out];simp only[Ce,he,Zp],Aa hB hf⟩
     case measure=>simp[intOf];omega
   ·obtain rfl:k=n:=by omega
    go_wp2;go_returns;go_light;refine⟨ac_ ?_,hB⟩;rw[hI.out,Ze (Zm hb.out),Ze (Zm ha.out)];rfl
 ·have hh:((n:Int) != (n':Int))=true:=by simp;omega
  go_enter func196,ntmps196;go_wp2;go_returns;go_light;refine⟨ac_ ?_,Yg _ _⟩;rw[na_ (by rw[hb.out,ha.out];exact hc)]
theorem aE_ {P:Program}{id:Nat}{Q:Exit->Act->World->Prop}{a:Act}{l:List Oper}(n:Nat)(hm:P.follows .mixedOrders=true)(hB:Region.lexTailB .any l.toArray n=true)
  (h:wpStill P l.toArray w.drew (fun a'=>wpList P l.toArray Q (l.drop n) a' w.drew) (l.take n) a):(Code.region id l.toArray true).wp P Q a w:=
 wp_region_still_tail n hm hB h
structure RSt where
 L:List Pt
 s:Int
 ov:Bool
structure BG (w:World)(b:Nat)(r:RSt):Prop where
 le:r.L.length<=16
 blk:∃ c:Array Value,Blk w b c 278∧c.size=51∧(∀ i p,r.L[i]?=some p->c[i*3]?=some (.int .i64 p.a)∧c[i*3+1]?=some (.int .i64 p.f)∧c[i*3+2]?=some (.int .i64 p.n))∧
  c[48]?=some (.int .i64 r.L.length)∧c[49]?=some (.int .i64 r.s)∧c[50]?=some (.bool r.ov)
def BA (r:RSt)(p:Pt):RSt:=
 if 100<r.s+p.n then ⟨r.L,r.s+p.n,true⟩ else
 match r.L.getLast? with
 |none=>⟨[p],r.s+p.n,r.ov⟩
 |some q=>if AN q p then ⟨r.L.dropLast++[⟨q.a,q.f,q.n+p.n⟩],r.s+p.n,r.ov⟩ else
  if r.L.length<16 then ⟨r.L++[p],r.s+p.n,r.ov⟩ else ⟨r.L,r.s+p.n,true⟩
theorem hm_ {r:RSt}(hA:r.s+p.n<=100)(hl:r.L.getLast?=some q)(hg:AN q p=true):BA r p=⟨r.L.dropLast++[⟨q.a,q.f,q.n+p.n⟩],r.s+p.n,r.ov⟩:=by
 have:¬ 100<r.s+p.n:=by omega
 simp[BA,this,hl,hg]
theorem j0_ {r:RSt}(hA:r.s+p.n<=100)(hl:r.L.getLast?=some q)(hg:AN q p=false)(hf:r.L.length<16):BA r p=⟨r.L++[p],r.s+p.n,r.ov⟩:=by
 have:¬ 100<r.s+p.n:=by omega
 simp[BA,this,hl,hg,hf]
theorem iE_ {r:RSt}(hA:r.s+p.n<=100)(hl:r.L.getLast?=some q)(hg:AN q p=false)(hf:¬ r.L.length<16):BA r p=⟨r.L,r.s+p.n,true⟩:=by
 have:¬ 100<r.s+p.n:=by omega
 simp[BA,this,hl,hg,hf]
def Dh (r:RSt):Prop:=0<=r.s∧∀ q∈r.L,1<=q.n∧q.n<=r.s
theorem hn_ (b:Nat)(r:RSt)(p:Pt)(w:World)(h:BG w b r)(hi:Dh r)(hs:r.s<=1000000)(hp1:1<=p.n)(hp2:p.n<=1000000):
  Calls prog 200 #[.pointer (some ⟨b,0,none⟩),.agg #[.int .i64 p.a,.int .i64 p.f,.int .i64 p.n]] w fun e w'=>e=.returned (.tuple #[])∧BG w' b (BA r p)∧w.grownBy w' (some b):=by
 obtain⟨hv,c,hb,hm,ho,e48,e49,e50⟩:=h;obtain⟨hK,hD⟩:=hi;have hH:=hb.lt;have c48:=hb.cell 48;have c49:=hb.cell 49;have c50:=hb.cell 50;rw[e48] at c48;rw[e49] at c49;rw[e50] at c50;have f48:=hb.frozen 48;have f49:=hb.frozen 49;have f50:=hb.frozen 50;by_cases hA:100<r.s+p.n
 ·have hr:Hid (BA r p=⟨r.L,r.s+p.n,true⟩):=by show _=_;simp[BA,hA]
  go_enter func200,ntmps200
  go_wp2_with fail
  refine aE_ 9 (by kernel_rfl) (by kernel_rfl) ?_;simp only[ZP,Yx,ZR,YC]
  repeat still_step
  refine wpStill_nil ?_;go_wp2;go_returns;go_light;refine⟨rfl,?_,?_⟩
  ·rw[hr.out];refine⟨hv,_,(((hb.set 49 _).set 50 _).alloc _).drew,by simp[hm],?_,?_,?_,?_⟩
   ·intro i q hq;have hw:i<r.L.length:=(Zb.1 hq).1;obtain⟨r0,r1,r2⟩:=ho i q hq;refine⟨?_,?_,?_⟩
    all_goals (rw[Za (by omega),Za (by omega)];assumption)
   ·rw[Za (by omega),Za (by omega)];exact e48
   ·rw[Za (by omega),Zh (by omega)]
   ·rw[Zh (by simp[hm])]
  ·exact au_ (af_ (af_ (Yh _ _) _ _) _ _) (((Yg _ _).alloc (Zd _) _).drew)
 ·have hP:IntKind.i64.wrap (r.s+p.n)=r.s+p.n:=by rw[Ys];omega
  have he:Blk ((w.setCell ⟨b,49,none⟩ (.int .i64 (r.s+p.n))).alloc (.cells #[.int .i64 p.a,.int .i64 p.f,.int .i64 p.n] 162)).drew b (c.setIfInBounds 49 (.int .i64 (r.s+p.n))) 278:=((hb.set 49 _).alloc _).drew;have hh:w.grownBy ((w.setCell ⟨b,49,none⟩ (.int .i64 (r.s+p.n))).alloc (.cells #[.int .i64 p.a,.int .i64 p.f,.int .i64 p.n] 162)).drew (some b):=au_ (af_ (Yh _ _) _ _) (((Yg _ _).alloc (Zd _) _).drew);have k48:(c.setIfInBounds 49 (.int .i64 (r.s+p.n)))[48]?=some (.int .i64 r.L.length):=by rw[Za (by omega)];exact e48
  have k49:(c.setIfInBounds 49 (.int .i64 (r.s+p.n)))[49]?=some (.int .i64 (r.s+p.n)):=by rw[Zh (by omega)]
  have k50:(c.setIfInBounds 49 (.int .i64 (r.s+p.n)))[50]?=some (.bool r.ov):=by rw[Za (by omega)];exact e50
  have kp:∀ i q,r.L[i]?=some q->(c.setIfInBounds 49 (.int .i64 (r.s+p.n)))[i*3]?=some (.int .i64 q.a)∧(c.setIfInBounds 49 (.int .i64 (r.s+p.n)))[i*3+1]?=some (.int .i64 q.f)∧(c.setIfInBounds 49 (.int .i64 (r.s+p.n)))[i*3+2]?=some (.int .i64 q.n):=by
   intro i q hq;have hw:i<r.L.length:=(Zb.1 hq).1;obtain⟨r0,r1,r2⟩:=ho i q hq;refine⟨?_,?_,?_⟩
   all_goals (rw[Za (by omega)];assumption)
  have ks:(c.setIfInBounds 49 (.int .i64 (r.s+p.n))).size=51:=by simp[hm]
  have x0:((w.setCell ⟨b,49,none⟩ (.int .i64 (r.s+p.n))).alloc (.cells #[.int .i64 p.a,.int .i64 p.f,.int .i64 p.n] 162)).drew.cell? ⟨w.heap.size,0,none⟩=some (.int .i64 p.a):=by simp[go_sem]
  have x1:((w.setCell ⟨b,49,none⟩ (.int .i64 (r.s+p.n))).alloc (.cells #[.int .i64 p.a,.int .i64 p.f,.int .i64 p.n] 162)).drew.cell? ⟨w.heap.size,1,none⟩=some (.int .i64 p.f):=by simp[go_sem]
  have x2:((w.setCell ⟨b,49,none⟩ (.int .i64 (r.s+p.n))).alloc (.cells #[.int .i64 p.a,.int .i64 p.f,.int .i64 p.n] 162)).drew.cell? ⟨w.heap.size,2,none⟩=some (.int .i64 p.n):=by simp[go_sem]
  have hy:w.heap.size<((w.setCell ⟨b,49,none⟩ (.int .i64 (r.s+p.n))).alloc (.cells #[.int .i64 p.a,.int .i64 p.f,.int .i64 p.n] 162)).drew.heap.size:=by simp
  go_enter func200,ntmps200
  go_wp2_with fail
  refine aE_ 9 (by kernel_rfl) (by kernel_rfl) ?_;simp only[ZP,Yx,ZR,YC]
  repeat still_step
  refine wpStill_nil ?_
  go_wp2_with fail
  generalize hW5:((w.setCell ⟨b,49,none⟩ (.int .i64 (r.s+p.n))).alloc (.cells #[.int .i64 p.a,.int .i64 p.f,.int .i64 p.n] 162)).drew=W5 at he hh x0 x1 x2 hy ⊢;generalize hc5:c.setIfInBounds 49 (.int .i64 (r.s+p.n))=c5 at he k48 k49 k50 kp ks;clear hW5 hc5 c48 c49 c50 f48 f49 f50 e48 e49 e50 ho hm hb;have c48:=(he.cell 48).trans k48;rcases List.eq_nil_or_concat r.L with hL | ⟨L',q,hL⟩
  ·have hr:Hid (BA r p=⟨[p],r.s+p.n,r.ov⟩):=by show _=_;simp[BA,hA,hL]
   rw[hL] at c48 k48;simp at c48 k48
   -- the row is empty: the part is its first
   go_quiet (fail)
   have ha:=he.below (AZ W5 nq);have hk:=au_ hh (AZ W5 nq);have c48':=(ha.cell 48).trans k48;have f48:=ha.frozen 48;obtain⟨v0,y0⟩:=ha.has (i:=0) (by omega);obtain⟨v1,y1⟩:=ha.has (i:=1) (by omega);obtain⟨v2,y2⟩:=ha.has (i:=2) (by omega);have f0:=ha.frozen 0;have f1:=ha.frozen 1;have f2:=ha.frozen 2;replace x0:=Ab (AZ W5 nq) x0;replace x1:=Ab (AZ W5 nq) x1;replace x2:=Ab (AZ W5 nq) x2;generalize W5.drewN nq=W6 at *;clear c48 he hh
   go_wp2_with fail
   refine aE_ 9 (by kernel_rfl) (by kernel_rfl) ?_;simp only[ZP,Yx,ZR,YC]
   repeat still_step
   refine wpStill_nil ?_;go_wp2;go_returns;go_light;refine⟨rfl,?_,?_⟩
   ·rw[hr.out];refine⟨by simp,_,((((ha.set 0 _).set 1 _).set 2 _).set 48 _).drew,by simp[ks],?_,?_,?_,?_⟩
    ·intro i x hx
     have:i=0:=by have:=(Zb.1 hx).1;simp at this;exact this
     subst this;simp at hx;subst hx;refine⟨?_,?_,?_⟩
     all_goals (simp[ks])
    ·simp[ks]
    ·simp[k49]
    ·simp[k50]
   ·exact au_ (af_ (af_ (af_ (af_ hk _ _) _ _) _ _) _ _) ((Yg _ _).drew)
  ·-- there is a last part
   have hg:r.L.length=L'.length+1:=by rw[hL];simp
   have hq:r.L[L'.length]?=some q:=by rw[hL];simp
   have hc:r.L.getLast?=some q:=by rw[hL];simp
   have hp:r.L.dropLast=L':=by rw[hL];simp
   have hF:L'.length<16:=by omega
   obtain⟨q0,q1,q2⟩:=kp _ q hq;have hM:=hD q (Zc hq);rw[hg] at c48 k48;generalize hj:L'.length=j at *;have d0:=(he.cell (j*3)).trans q0;have d1:=(he.cell (j*3+1)).trans q1;have d2:=(he.cell (j*3+2)).trans q2;have c48i:W5.cell? ⟨b,48,none⟩=some (.int .i64 ((j:Int)+1)):=by rw[c48];simp
   have hz:IntKind.i64.wrap ((j:Int)+1-1)=(j:Int):=by rw[Ys];omega
   have ht:(0:Int)<(j:Int)+1:=by omega
   have hl:(j:Int)<16:=by omega
   have hu:(0:Int)<=(j:Int):=by omega
   clear c48;have hB:=Ad c48i;have g0:=Ad d0;have g1:=Ad d1;have g2:=Ad d2;have g3:=Ad x0;have g4:=Ad x1;have g5:=Ad x2;have hG:=aA_ W5
   cases hn:AN q p
   all_goals
    refine ab_ (by kernel_rfl) (by kernel_rfl) ?_
    repeat (go_big_quiet_step (first | (go_at_call 205;have qq:=gB_ q p;rw[hn] at qq;exact an_ (qq _))))
    refine wpQuiet_nil ?_;intro W6 hx;have hf:=ah_ hx;clear hx hB g0 g1 g2 g3 g4 g5 hG;have ha:=he.below hf;have hk:=au_ hh hf;have c48':=Ab hf c48i;have f48:=ha.frozen 48;replace x0:=Ab hf x0;replace x1:=Ab hf x1;replace x2:=Ab hf x2;clear he hh hf hy
   ·by_cases hfull:j+1<16
    ·have hr:Hid (BA r p=⟨r.L++[p],r.s+p.n,r.ov⟩):=j0_ (by omega) hc hn (by omega);obtain⟨v0,y0⟩:=ha.has (i:=(j+1)*3) (by omega);obtain⟨v1,y1⟩:=ha.has (i:=(j+1)*3+1) (by omega);obtain⟨v2,y2⟩:=ha.has (i:=(j+1)*3+2) (by omega);have f0:=ha.frozen ((j+1)*3);have f1:=ha.frozen ((j+1)*3+1);have f2:=ha.frozen ((j+1)*3+2);have n0:¬ (48=(j+1)*3):=by omega
     have n1:¬ (48=(j+1)*3+1):=by omega
     have n2:¬ (48=(j+1)*3+2):=by omega
     have hC:(j:Int)+1<16:=by omega
     have hI:(0:Int)<=(j:Int)+1:=by omega
     have hJ:((j:Int)+1).toNat=j+1:=by omega
     clear d0 d1 d2 hz ht hl hu
     go_wp2_with fail
     refine aE_ 9 (by kernel_rfl) (by kernel_rfl) ?_;simp only[ZP,Yx,ZR,YC]
     repeat still_step
     refine wpStill_nil ?_;go_wp2;go_returns;go_light;refine⟨rfl,?_,?_⟩
     ·rw[hr.out];refine⟨by simp;omega,_,((((ha.set ((j+1)*3) _).set ((j+1)*3+1) _).set ((j+1)*3+2) _).set 48 _).drew,by simp[ks],?_,?_,?_,?_⟩
      ·intro i x hx;have hE:i<j+2:=by have:=(Zb.1 hx).1;simp[hg] at this;omega
       by_cases hie:i=j+1
       ·subst hie;rw[Zv (by omega),hg] at hx;simp at hx;subst hx;refine⟨?_,?_,?_⟩
        ·rw[Za (by omega),Za (by omega),Za (by omega),Zh (by omega)]
        ·rw[Za (by omega),Za (by omega),Zh (by simp;omega)]
        ·rw[Za (by omega),Zh (by simp;omega)]
       ·rw[ZD (by omega)] at hx;obtain⟨r0,r1,r2⟩:=kp i x hx;refine⟨?_,?_,?_⟩
        all_goals (rw[Za (by omega),Za (by omega),Za (by omega),Za (by omega)];assumption)
      ·rw[Zh (by simp;omega)];simp[hg]
      ·rw[Za (by omega),Za (by omega),Za (by omega),Za (by omega)];exact k49
      ·rw[Za (by omega),Za (by omega),Za (by omega),Za (by omega)];exact k50
     ·exact au_ (af_ (af_ (af_ (af_ hk _ _) _ _) _ _) _ _) ((Yg _ _).drew)
    ·have hr:Hid (BA r p=⟨r.L,r.s+p.n,true⟩):=iE_ (by omega) hc hn (by omega);have f50:=ha.frozen 50;have c50:=(ha.cell 50).trans k50;have hC:¬ (j:Int)+1<16:=by omega
     clear d0 d1 d2 hz ht hl hu;go_wp2;go_returns;go_light;refine⟨rfl,?_,?_⟩
     ·rw[hr.out];refine⟨hv,_,ha.set 50 _,by simp[ks],?_,?_,?_,?_⟩
      ·intro i x hx;have hw:i<r.L.length:=(Zb.1 hx).1;obtain⟨r0,r1,r2⟩:=kp i x hx;refine⟨?_,?_,?_⟩
       all_goals (rw[Za (by omega)];assumption)
      ·rw[Za (by omega),k48,hg]
      ·rw[Za (by omega)];exact k49
      ·rw[Zh (by omega)]
     ·exact af_ hk _ _
   ·have hr:Hid (BA r p=⟨r.L.dropLast++[⟨q.a,q.f,q.n+p.n⟩],r.s+p.n,r.ov⟩):=hm_ (by omega) hc hn;have f2:=ha.frozen (j*3+2);have z2:=(ha.cell (j*3+2)).trans q2;have hN:IntKind.i64.wrap (q.n+p.n)=q.n+p.n:=by rw[Ys];omega
    have hO:IntKind.i64.wrap (j:Int)=(j:Int):=by rw[Ys];omega
    clear d0 d1 d2
    go_wp2_with fail
    refine aE_ 18 (by kernel_rfl) (by kernel_rfl) ?_;simp only[ZP,Yx,ZR,YC]
    repeat still_step
    refine wpStill_nil ?_;go_wp2;go_returns;go_light;refine⟨rfl,?_,?_⟩
    ·rw[hr.out];refine⟨by simp[hg];omega,_,(ha.set (j*3+2) _).drew,by simp[ks],?_,?_,?_,?_⟩
     ·intro i x hx;have hE:i<j+1:=by have:=(Zb.1 hx).1;simp[hg] at this;omega
      rw[hp] at hx;by_cases hie:i=j
      ·subst hie;rw[Zv (by omega),hj] at hx;simp at hx;subst hx;refine⟨?_,?_,?_⟩
       ·rw[Za (by omega)];exact q0
       ·rw[Za (by omega)];exact q1
       ·rw[Zh (by omega)]
      ·rw[ZD (by omega)] at hx;obtain⟨r0,r1,r2⟩:=kp i x (by rw[hL,List.concat_eq_append,ZD (by omega)];exact hx);refine⟨?_,?_,?_⟩
       all_goals (rw[Za (by omega)];assumption)
     ·rw[Za (by omega),k48];simp[hp,hj]
     ·rw[Za (by omega)];exact k49
     ·rw[Za (by omega)];exact k50
    ·exact au_ (af_ hk _ _) ((Yg _ _).drew)
def Bn (r:RSt)(l:List Pt):RSt:=l.foldl BA r
theorem fn_ (r:RSt)(p:Pt):(BA r p).s=r.s+p.n:=by
 unfold BA;split
 ·rfl
 ·split
  ·rfl
  ·split
   ·rfl
   ·split<;>rfl
theorem fJ_ {r:RSt}(h:Dh r)(hp:1<=p.n):Dh (BA r p):=by
 obtain⟨h0,h1⟩:=h;have ha:∀ q∈r.L,1<=q.n∧q.n<=r.s+p.n:=fun q hq=>by have:=h1 q hq;omega
 refine⟨by rw[fn_];omega,?_⟩;rw[fn_];unfold BA;split
 ·exact ha
 ·split
  ·rename_i hl;intro q hq;simp at hq;subst hq;omega
  ·rename_i q0 hl;have hb:=h1 q0 (List.mem_of_getLast? hl);split
   ·intro q hq;simp only[Zs,YP] at hq;rcases hq with hq | rfl
    ·exact ha q (List.dropLast_subset _ hq)
    ·show 1<=q0.n+p.n∧q0.n+p.n<=r.s+p.n;omega
   ·split
    ·intro q hq;simp only[Zs,YP] at hq;rcases hq with hq | rfl
     ·exact ha q hq
     ·omega
    ·exact ha
theorem pi_ {r:RSt}{k:Nat}(h:l[k]?=some p):Bn r (l.take (k+1))=BA (Bn r (l.take k)) p:=by
 unfold Bn;rw[bx_ h,List.foldl_append];rfl
theorem BG.below {w':World}{r:RSt}(h:BG w b r)(hb:Below w.heap.size w w'):BG w' b r:=by
 obtain⟨ha,c,hc,q⟩:=h;exact⟨ha,c,hc.below hb,q⟩
theorem BG.lt {r:RSt}(h:BG w b r):b<w.heap.size:=by
 obtain⟨_,c,hc,_⟩:=h;exact hc.lt
theorem el_ (b:Nat)(r:RSt)(a:Option Addr)(n cap:Nat)(l:List Pt)(w:World)(hR:BG w b r)(hi:Dh r)(hs:r.s<=900000)(h:AE w a n l)(hne:∀ ad,a=some ad->ad.block≠b)(hn:n<=16)(hl:∀ p∈l,1<=p.n∧p.n<=100):
  Calls prog 201 #[.pointer (some ⟨b,0,none⟩),.slice a n cap] w fun e w'=>e=.returned (.tuple #[])∧BG w' b (Bn r l)∧Dh (Bn r l)∧(Bn r l).s<=r.s+1600∧w.grownBy w' (some b):=by
 have he:Hid (l.length=n):=h.len;go_enter func201,ntmps201
 go_wp2_with fail
 go_loopw [8] (fun ix wr=>∃ (k:Nat),k<=n∧ix=.int .i64 k∧BG wr b (Bn r (l.take k))∧Dh (Bn r (l.take k))∧(Bn r (l.take k)).s<=r.s+100*k∧w.grownBy wr (some b)) (fun ix _=>n-(intOf ix).toNat)
 case atStart=>exact⟨0,Zg _,rfl,hR,hi,by simp[Bn],Yh _ _⟩
 case round=>
  obtain⟨k,hk,rfl,hb,ha,hr,hg⟩:=hrel;by_cases hlt:k<n
  ·obtain⟨b',o,p,rfl,hp,c0,c1,c2⟩:=bi_ (h.grown hg hne) hlt;have hf:Hid (Bn r (l.take (k+1))=BA (Bn r (l.take k)) p):=pi_ hp;have hj:=hl p (Zc hp);have hh:=fn_ (Bn r (l.take k)) p;have hc:=fJ_ ha hj.1;clear hp;generalize Bn r (l.take k)=r1 at *
   go_wp2_with fail
   refine (hn_ b r1 p _ (hb.below ((Yg _ _).alloc (Zd _) _)) ha (by omega) hj.1 (by omega)).mono ?_;rintro e w1 ⟨rfl,hm,ho⟩;have hq:=aV_ (au_ hg ((Yg _ _).alloc (Zd _) _)) ho;go_wp2;go_roundw
   case rel=>exact⟨k+1,by omega,by go_num,by rw[hf.out];exact hm,by rw[hf.out];exact hc,by rw[hf.out,hh];omega,hq⟩
   case measure=>simp[intOf];omega
  ·obtain rfl:k=n:=by omega
   go_wp2;go_returns;go_light;rw[Zk (Zm he.out)] at hb ha hr;exact⟨rfl,hb,ha,by omega,hg⟩
def BF (p:Pt)(x y:Int):Pt:=if p.a==0 then ⟨0,0,y-x⟩ else ⟨p.a,p.f+x,y-x⟩
theorem j1_ (p:Pt)(x y:Int)(w:World)(hf:-1000<=p.f)(hf':p.f<=1000)(hx0:0<=x)(hx1:x<=1000)(hy0:0<=y)(hy1:y<=1000):
  Calls prog 206 #[.agg #[.int .i64 p.a,.int .i64 p.f,.int .i64 p.n],.int .i64 x,.int .i64 y] w fun e w'=>e=.returned (.agg #[.int .i64 (BF p x y).a,.int .i64 (BF p x y).f,.int .i64 (BF p x y).n])∧Below w.heap.size w w':=by
 obtain⟨a,f,n⟩:=p;simp only at hf hf'
 cases ha:(a==0)
 ·have hc:Hid (BF ⟨a,f,n⟩ x y=⟨a,f+x,y-x⟩):=by show _=_;simp[BF,ha]
  go_enter func206,ntmps206;go_wp2;go_returns;go_light;refine⟨?_,by go_grown⟩;rw[hc.out]
 ·have hc:Hid (BF ⟨a,f,n⟩ x y=⟨0,0,y-x⟩):=by show _=_;simp[BF,ha]
  go_enter func206,ntmps206;go_wp2;go_returns;go_light;refine⟨?_,by go_grown⟩;rw[hc.out]
def slp (fr to:Int):Int->List Pt->List Pt
 |_,[]=>[]
 |st,p::r=>if max (fr-st) 0<min (to-st) p.n then BF p (max (fr-st) 0) (min (to-st) p.n)::slp fr to (st+p.n) r else slp fr to (st+p.n) r
theorem gf_ (p:Pt)(x y:Int):(BF p x y).n=y-x:=by unfold BF;split<;>rfl
theorem eN_ (hx:max (fr-st) 0=x)(hy:min (to-st) p.n=y)(h:x<y):slp fr to st (p::r)=BF p x y::slp fr to (st+p.n) r:=by
 subst hx hy;simp only[slp,h,if_true]
theorem n0_ {rk:RSt}(hx:max (fr-st) 0=x)(hy:min (to-st) p.n=y)(h:x<y):Bn rk (slp fr to st (p::r))=Bn (BA rk (BF p x y)) (slp fr to (st+p.n) r):=by
 rw[eN_ hx hy h];rfl
theorem fo_ (h:¬ max (fr-st) 0<min (to-st) p.n):slp fr to st (p::r)=slp fr to (st+p.n) r:=by
 simp only[slp,h,if_false]
end
end Go.Proofs.YtbbhcnjhohidnaaGreatDoor
