/- Plain functions over lists, and what it says that a slice in memory holds a list: the ground of this seat's proofs. -/
import Derived.RangeFuncNested
import Derived.RangeFuncBound
import Derived.Shelf.RegionOpen
import Derived.OwnWalkIn
import Derived.LoopNIn
import Derived.LoopIn
import Derived.Maps.AppendAt
import Derived.StillTailTactics
import Derived.Test.YtbbhcnjhohidnaaGreatDoorU00
set_option maxHeartbeats 20000000
set_option maxRecDepth 100000
namespace Go.Proofs.YtbbhcnjhohidnaaGreatDoor
section
open Go Go.RowKit Go.BigFrame Tryz
variable{l:List Ex}
theorem m7_:∀ {m:List Ex},l.length≠m.length->Cw l m=false:=by
 induction l with
 |nil=>intro m h;cases m<;>simp[Cw] at *
 |cons p r ih=>intro m h;cases m<;>simp[Cw] at *;exact fun _=>ih h
theorem hj_ (a:Option Addr)(n cap:Nat)(l:List Ex)(a':Option Addr)(n' cap':Nat)(m:List Ex)(w:World)(h:A3 w a n l)(h':A3 w a' n' m)(hn:n<=4194304)(hn':n'<=4194304):
  Calls prog 35 #[.slice a n cap,.slice a' n' cap'] w fun e w'=>e=.returned (.bool (Cw l m))∧Below w.heap.size w w':=by
 have hb:Hid (l.length=n):=h.len;have ha:Hid (m.length=n'):=h'.len;by_cases hc:n=n'
 ·subst hc;have hh:((n:Int) != (n:Int))=false:=by simp
  go_enter func35,ntmps35
  go_wp2_with fail
  go_loopw [5] (fun ix wr=>∃ (k:Nat),k<=n∧ix=.int .i64 k∧Hid (Cw l m=Cw (l.drop k) (m.drop k))∧Below w.heap.size w wr) (fun ix _=>n-(intOf ix).toNat)
  case atStart=>exact⟨0,Zg _,rfl,rfl,Yg _ _⟩
  case round=>
   obtain⟨k,hk,rfl,hI,hB⟩:=hrel;by_cases hlt:k<n
   ·obtain⟨b,o,p,rfl,hp,c0,c1⟩:=be_ (h.below hB) hlt;obtain⟨b',o',q,rfl,hq,d0,d1⟩:=be_ (h'.below hB) hlt;have hd:Hid (l.drop k=p::l.drop (k+1)):=al_ hp;have hg:Hid (m.drop k=q::m.drop (k+1)):=al_ hq;clear hp hq;have hj:(k:Int)<n:=by omega
    have hl:(0:Int)<=k:=by omega
    cases he:Ek p q
    all_goals
     go_wp2_with fail
     have g0:=Ad c0;have g1:=Ad c1;have g3:=Ad d0;have g4:=Ad d1;have hc:=aA_ wr;refine ab_ (by kernel_rfl) (by kernel_rfl) ?_
     repeat (go_big_quiet_step (first | (go_at_call 86;have qq:=in_ p q;rw[he] at qq;exact an_ (qq _))))
     refine wpQuiet_nil ?_;intro w2 hx;have hf:=ah_ hx;clear hx;go_wp2
    ·go_returns;go_light;refine⟨ac_ ?_,Aa hB hf⟩;rw[hI.out,hd.out,hg.out];simp only[Cw,he,Zr]
    ·go_roundw
     case rel=>exact⟨k+1,by omega,by go_num,by show _=_;rw[hI.out,hd.out,hg.out];simp only[Cw,he,Zp],Aa hB hf⟩
     case measure=>simp[intOf];omega
   ·obtain rfl:k=n:=by omega
    go_wp2;go_returns;go_light;refine⟨ac_ ?_,hB⟩;rw[hI.out,Ze (Zm hb.out),Ze (Zm ha.out)];rfl
 ·have hh:((n:Int) != (n':Int))=true:=by simp;omega
  go_enter func35,ntmps35;go_wp2;go_returns;go_light;refine⟨ac_ ?_,Yg _ _⟩;rw[m7_ (by rw[hb.out,ha.out];exact hc)]
theorem hk_ (a:Option Addr)(n cap:Nat)(l:List Ex)(w:World)(h:A3 w a n l)(hn:n<=4194304):
  Calls prog 28 #[.slice a n cap] w fun e w'=>e=.returned (.slice (some ⟨w.heap.size,0,none⟩) n n)∧Bk Ex.cs 2 103 w' w.heap.size n l∧Below w.heap.size w w':=by
 have hb:Hid (l.length=n):=h.len;have ha:(prog.info? 103).map (fun i=>(i.zero,i.size,i.bytes))=some (some (.agg #[.int .i64 0,.string .empty]),2,24):=by kernel_rfl
 obtain⟨i0,hi,hj,hl,ho⟩:=info_parts ha
 have hs:∀ u:World,(Instr.makeSlice 31 (.int .i64 (n:Int)) (.int .i64 (n:Int))).run prog u =
   .ok (.slice (some ⟨u.heap.size,0,none⟩) n n) (u.alloc (.cells (madeCells #[.int .i64 0,.string .empty] (n*2)) 103)):=fun u=>by
  have hm:=run_make (P:=prog) u 31 103 i0 (.agg #[.int .i64 0,.string .empty]) underlying31 hi hj .i64 .i64 (n:Int) (n:Int) (by omega) (YB _) (by rw[ho];omega) (by omega);simpa[hl,Value.cells] using hm
 clear ha hi hj hl ho;go_enter func28,ntmps28
 go_wp2_with fail
 go_loopw [4] (fun ix wr=>∃ (k:Nat) (c:Array Value),k<=n∧ix=.int .i64 k∧Blk wr w.heap.size c 103∧Hid (c.size=n*2)∧Hid (∀ i p,i<k->l[i]?=some p->c[i*2]?=some (.int .i64 p.a)∧c[i*2+1]?=some (.string p.d))∧Below w.heap.size w wr) (fun ix _=>n-(intOf ix).toNat)
 case atStart=>exact⟨0,_,Zg _,rfl,Blk.new _ _ _,size_madeCells _ _,fun i p hi=>by omega,(Yg _ _).alloc (Zd _) _⟩
 case round=>
  obtain⟨k,c,hk,rfl,he,hf,hh,hB⟩:=hrel;by_cases hlt:k<n
  ·obtain⟨b,o,p,rfl,hp,c0,c1⟩:=be_ (h.below hB) hlt;have ht:Hid (l[k]?=some p):=hp;clear hp hs
   go_wp2_with fail
   refine (im_ p _).mono ?_;rintro e w1 ⟨rfl,hg⟩;have hc:=he.below hg;have f0:=hc.frozen (k*2);have f1:=hc.frozen (k*2+1);have hu:=hB.size;obtain⟨v0,y0⟩:=hc.has (i:=k*2) (by rw[hf.out];omega);obtain⟨v1,y1⟩:=hc.has (i:=k*2+1) (by rw[hf.out];omega);go_wp2;go_roundw
   case rel=>
    refine⟨k+1,_,by omega,by go_num,(hc.set _ _).set _ _,by show _=_;simp[hf.out],?_,?_⟩
    ·intro i q hi hq;have hr:=hf.out;by_cases hik:i=k
     ·subst hik;obtain rfl:p=q:=by rw[ht.out] at hq;exact Zi hq
      refine⟨?_,?_⟩
      all_goals (simp[Yn];omega)
     ·obtain⟨r0,r1⟩:=hh.out i q (by omega) hq;refine⟨?_,?_⟩
      all_goals (rw[Za (by omega),Za (by omega)];assumption)
    ·exact ((Aa hB hg).setCell (by simp) _).setCell (by simp) _
   case measure=>simp[intOf];omega
  ·obtain rfl:k=n:=by omega
   go_wp2;go_returns;go_light;refine⟨rfl,⟨hb.out,c,he,Zm hf.out.symm,?_⟩,hB⟩;intro i x hx j v hv;have hi:i<k:=by have:=(Zb.1 hx).1;rw[hb.out] at this;exact this
   obtain⟨r0,r1⟩:=hh.out i x hi hx
   match j,hv with
   |0,hv=>obtain rfl:=Zi hv;exact r0
   |1,hv=>obtain rfl:=Zi hv;exact r1
   |j+2,hv=>simp[Ex.cs] at hv
end
section
open Go Go.RowKit
variable{α:Type}{K:Act->World->Prop}{ops:Array Oper}{Q:Exit->Act->World->Prop}{B b cap n sz:Nat}{o:Oper}{a:Option Addr}{P:Program}{t:TypeId}{w w':World}{l:List α}{cs:α->List Value}
theorem aY_ (hsz:∀ x,(cs x).length=sz)(l:List α):(l.flatMap cs).length=l.length*sz:=by
 induction l with
 |nil=>simp
 |cons x r ih=>simp[ih,hsz,Yd];omega
theorem i5_ (hsz:∀ x,(cs x).length=sz)(l:List α):∀ {i j:Nat} {x:α} {v:Value},l[i]?=some x->(cs x)[j]?=some v->(l.flatMap cs)[i*sz+j]?=some v:=by
 induction l with
 |nil=>intro i j x v h;simp at h
 |cons y r ih=>
  intro i j x v hx hv;have hj:j<sz:=by have:=(Zb.1 hv).1;rw[hsz] at this;exact this
  rw[ZF]
  cases i with
  |zero=>
   simp at hx;subst hx;rw[Nat.zero_mul,Zq,ZD (by rw[hsz];exact hj)];exact hv
  |succ i=>
   simp at hx;rw[Zv (by rw[hsz,Yd];omega),hsz];have e:(i+1)*sz+j-sz=i*sz+j:=by rw[Yd];omega
   rw[e];exact ih hx hv
theorem nY_ (hsz:∀ x,(cs x).length=sz)(l:List α):∀ {t:Nat} {v:Value},(l.flatMap cs)[t]?=some v->∃ i x j,l[i]?=some x∧(cs x)[j]?=some v∧t=i*sz+j:=by
 induction l with
 |nil=>intro t v h;simp at h
 |cons y r ih=>
  intro t v h;rw[ZF] at h;by_cases ht:t<sz
  ·rw[ZD (by rw[hsz];exact ht)] at h;exact⟨0,y,t,rfl,h,by omega⟩
  ·rw[Zv (by rw[hsz];omega),hsz] at h;obtain⟨i,x,j,h1,h2,h3⟩:=ih h;exact⟨i+1,x,j,by simpa using h1,h2,by rw[Yd];omega⟩
theorem As.src (hsz:∀ x,(cs x).length=sz){o:Nat}(h:As cs sz w (some ⟨b,o,none⟩) n l):
  ∀ j u,(l.flatMap cs)[j]?=some u->w.cell? ((⟨b,o,none⟩:Addr).add j)=some u:=by
 intro t u hu;obtain⟨i,x,j,h1,h2,rfl⟩:=nY_ hsz l hu;obtain⟨b',o',ha,hc⟩:=h.cell i x h1;obtain⟨rfl,rfl⟩:b=b'∧o=o':=by simpa using ha
 rw[Addr.add_lit,<-Nat.add_assoc];exact hc j u h2
structure Ac {α:Type}(cs:α->List Value)(sz:Nat)(t:TypeId)(w:World)(B:Nat)(a:Option Addr)(n cap:Nat)(l:List α):Prop where
 sl:As cs sz w a n l
 own:(a=none∧n=0∧cap=0)∨∃ b,a=some ⟨b,0,none⟩∧B<=b∧n<=cap∧cap<=maxLen∧∃ c,Blk w b c t∧c.size=cap*sz∧c.toList.take (n*sz)=l.flatMap cs
theorem Ac.below (h:Ac cs sz t w B a n cap l)(hb:Below w.heap.size w w'):Ac cs sz t w' B a n cap l:=by
 refine⟨h.sl.below hb,?_⟩;rcases h.own with h0 | ⟨b,ha,hB,h1,h2,c,hc,q⟩
 ·exact .inl h0
 ·exact .inr ⟨b,ha,hB,h1,h2,c,hc.below hb,q⟩
theorem Ac.mono {B':Nat}(h:Ac cs sz t w B a n cap l)(hb:B'<=B):Ac cs sz t w B' a n cap l:=by
 refine⟨h.sl,?_⟩;rcases h.own with h0 | ⟨b,ha,hB,q⟩
 ·exact .inl h0
 ·exact .inr ⟨b,ha,by omega,q⟩
theorem Ac.row (hsz:∀ x,(cs x).length=sz)(h:Ac cs sz t w B a n cap l):w.ownsRow B t sz (.slice a n cap) n (l.flatMap cs):=by
 refine⟨by rw[aY_ hsz,h.sl.len],?_⟩;rcases h.own with⟨rfl,rfl,rfl⟩ | ⟨b,rfl,hB,h1,h2,c,hc,hs,ht⟩
 ·exact .inl ⟨rfl,rfl⟩
 ·exact .inr ⟨b,cap,c,rfl,hB,hc,h1,h2,hs,ht⟩
theorem bz_ (hsz:∀ x,(cs x).length=sz){v:Value}(hn:l.length=n)(h:w.ownsRow B t sz v n (l.flatMap cs)):
  ∃ a cap,v=.slice a n cap∧Ac cs sz t w B a n cap l:=by
 obtain⟨_,h⟩:=h;rcases h with⟨rfl,rfl⟩ | ⟨g,cap,cur,rfl,hB,hh,h1,h2,hs,ht⟩
 ·exact⟨none,0,rfl,⟨hn,fun i x hx=>by rw[Zt hn] at hx;simp at hx⟩,.inl ⟨rfl,rfl,rfl⟩⟩
 ·refine⟨some ⟨g,0,none⟩,cap,rfl,⟨hn,fun i x hx=>⟨g,0,rfl,fun j u hu=>?_⟩⟩,.inr ⟨g,rfl,hB,h1,h2,cur,hh,hs,ht⟩⟩;have hb:Blk w g cur t:=hh;rw[hb.cell,Zq];have hf:=i5_ hsz l hx hu;rw[<-ht] at hf
  have ha:i*sz+j<n*sz:=by
   have:=(Zb.1 hf).1
   simp at this;omega
  rw[Ya ha] at hf;simpa using hf
theorem Ac.block (h:Ac cs sz t w B a n cap l):∀ ad,a=some ad->B<=ad.block∧ad.block<w.heap.size:=by
 intro ad ha;rcases h.own with⟨rfl,_⟩ | ⟨b,rfl,hB,_,_,c,hc,_⟩
 ·cases ha
 ·cases ha
  exact⟨hB,hc.lt⟩
theorem bF_ (p:Pt):p.cs.length=3:=rfl
theorem aK_ (p:Ex):p.cs.length=2:=rfl
theorem mw_ (x:Int):[Value.int .i64 x].length=1:=rfl
theorem cI_ (l:List Pt):∀ u∈l.flatMap Pt.cs,u.oneCell'=true:=by
 intro u hu;obtain⟨p,_,hp⟩:=ZL.1 hu;simp[Pt.cs] at hp;rcases hp with rfl | rfl | rfl<;>rfl
theorem aU_ (l:List Ex):∀ u∈l.flatMap Ex.cs,u.oneCell'=true:=by
 intro u hu;obtain⟨p,_,hp⟩:=ZL.1 hu;simp[Ex.cs] at hp;rcases hp with rfl | rfl<;>rfl
theorem ay_ {size:Nat}{a:Act}
  (s x:Operand)(t:TypeId)(ho:o.op=.call {callee:=.builtin .append,args:=#[s,x],argTypes:=#[t,t]})
  (B:Nat)(e:TypeId)(i:TypeInfo)(z:Value)(bytes:Nat)(ht:P.underlying t=some (.slice e))(hi:P.info? e=some i)(hz:i.zero=some z)(hsize:i.size=size)(hby:i.bytes=bytes)(hzs:z.cells.size=size)(hpos:0<size)
  (hsz:∀ y,(cs y).length=size)(hone:∀ (l:List α),∀ u∈l.flatMap cs,u.oneCell'=true)
  (da:Option Addr)(dn dcap:Nat)(ld:List α)(hs:a.eval s=.slice da dn dcap)(hd:Ac cs size e w B da dn dcap ld)
  (sa:Option Addr)(sn scap:Nat)(ls:List α)(hx:a.eval x=.slice sa sn scap)(hsrc:As cs size w sa sn ls)(hspot:∀ ad,sa=some ad->ad.spot=none)(hnone:sa=none->scap=0)
  (tot:Nat)(htot:dn+sn=tot)(h63:tot<=maxLen)(hbytes:tot*bytes<=140737488355328)(hbase:B<=w.heap.size)
  (h:∀ a' cap' w',Ac cs size e w' B a' tot cap' (ld++ls)->w.grownBy w' (Value.ownBlock (.slice da dn dcap))->K (a.put o.dst (.slice a' tot cap')) w'):o.wp P a w K Q:=by
 subst htot;have hc:=hd.row hsz;have he:(ld++ls).length=dn+sn:=by rw[ZE,hd.sl.len,hsrc.len]
 cases sa with
 |none=>
  have h0:sn=0:=by
   cases ls with
   |nil=>rw[<-hsrc.len];rfl
   |cons y r=>obtain⟨b,o',hb,_⟩:=hsrc.cell 0 y rfl;cases hb
  obtain rfl:=h0;obtain rfl:=hnone rfl;have hj:ls=[]:=Zt hsrc.len;subst hj;have hh:=run_append_owned_none (P:=P) w B t o.type e i size ht hi (.slice da dn dcap) dn (ld.flatMap cs) hc;unfold Oper.wp;simp[execOp,ho,resolve,invoke,builtin,hs,hx,hh,Result.andThen];exact h da dcap w (by simpa using hd) (Yh _ _)
 |some ad=>
  obtain⟨b,off,spot⟩:=ad
  have:=hspot _ rfl
  simp only at this;subst this;refine wp_append_own w s x t ho B e i z size bytes ht hi hz hsize hby hzs hpos (.slice da dn dcap) dn (ld.flatMap cs) hs hc ⟨b,off,none⟩ sn scap (ls.flatMap cs) hx (by rw[aY_ hsz,hsrc.len]) (As.src hsz hsrc) (hone ls) h63 hbytes hbase ?_;intro v' w' ha hg _;rw[<-ZQ] at ha;obtain⟨a',cap',rfl,hf⟩:=bz_ hsz he ha;exact h a' cap' w' hf hg
theorem aJ_ {a:Act}{E:Prop}(hg:o.guard=none)(h:o.wp P a w K Q):
  if Region.wanted o (yielded ops a.tmps)=true then Oper.wp P o a w K Q else E:=by
 have hw:Region.wanted o (yielded ops a.tmps)=true:=by simp[Region.wanted,hg]
 rw[if_pos hw];exact h
theorem ag_ {rest:List Oper}{a:Act}(hg:o.guard=none)
  (h:∀ K:Act->World->Prop,(∀ a w,wpList P ops Q rest a w->K a w)->o.wp P a w K Q):wpList P ops Q (o::rest) a w:=wpList_plain hg h
theorem aw_ (hb:Blk w b #[] t)(hB:B<=b):Ac cs sz t w B (some ⟨b,0,none⟩) 0 0 ([]:List α):=
 ⟨⟨rfl,fun i x hx=>by simp at hx⟩,.inr ⟨b,rfl,hB,Zd _,Zg _,#[],hb,by simp,by simp⟩⟩
theorem aB_:Ac cs sz t w B none 0 0 ([]:List α):=
 ⟨⟨rfl,fun i x hx=>by simp at hx⟩,.inl ⟨rfl,rfl,rfl⟩⟩
theorem Ac.grown {r:Nat}(h:Ac cs sz t w B a n cap l)(hg:w.grownBy w' (some r))(hr:∀ ad,a=some ad->ad.block≠r):Ac cs sz t w' B a n cap l:=by
 refine⟨h.sl.grown hg hr,?_⟩;rcases h.own with h0 | ⟨b,ha,hB,h1,h2,c,hc,q⟩
 ·exact .inl h0
 ·exact .inr ⟨b,ha,hB,h1,h2,c,hc.grown hg (hr _ ha),q⟩
theorem Ac.alloc (h:Ac cs sz t w B a n cap l)(o:Obj):Ac cs sz t (w.alloc o) B a n cap l:=h.below ((Yg _ _).alloc (Zd _) _)
theorem pV_ {p:Pt}(h0:w.cell? ⟨b,0,none⟩=some (.int .i64 p.a))(h1:w.cell? ⟨b,1,none⟩=some (.int .i64 p.f))(h2:w.cell? ⟨b,2,none⟩=some (.int .i64 p.n)):AE w (some ⟨b,0,none⟩) 1 [p]:=by
 refine⟨rfl,fun i x hx=>⟨b,0,rfl,fun j v hv=>?_⟩⟩;have hi:i=0:=by have:=(Zb.1 hx).1;simp at this;exact this
 subst hi;simp at hx;subst hx
 match j,hv with
 |0,hv=>obtain rfl:=Zi hv;exact h0
 |1,hv=>obtain rfl:=Zi hv;exact h1
 |2,hv=>obtain rfl:=Zi hv;exact h2
 |j+3,hv=>simp[Pt.cs] at hv
theorem ej_ {x:Nat}(h:∀ ad,a=some ad->x<ad.block):some x≠Value.ownBlock (.slice a n cap):=by
 cases a with
 |none=>simp[Value.ownBlock]
 |some ad=>have:=h ad rfl;simp[Value.ownBlock];omega
theorem aG_ (h:∀ ad,a=some ad->B<=ad.block):∀ k,Value.ownBlock (.slice a n cap)=some k->B<=k:=by
 intro k hk
 cases a with
 |none=>simp[Value.ownBlock] at hk
 |some ad=>have:=h ad rfl;simp[Value.ownBlock] at hk;omega
theorem Blk.new' (w:World)(c:Array Value)(t:TypeId)(b:Nat)(hb:b=w.heap.size):Blk (w.alloc (.cells c t)) b c t:=by subst hb;exact Blk.new _ _ _
theorem ck_ (w:World)(p:Pt)(t:TypeId)(b:Nat)(hb:b=w.heap.size):AE (w.alloc (.cells #[.int .i64 p.a,.int .i64 p.f,.int .i64 p.n] t)) (some ⟨b,0,none⟩) 1 [p]:=by subst hb;exact pV_ (by simp) (by simp) (by simp)
end
section
open Go Go.RowKit Go.BigFrame Tryz
def atG (addr:Int):Nat->List Ex->Int
 |_,[]=>-1
 |k,e::r=>if e.a==addr then (k:Int) else atG addr (k+1) r
theorem iC_ (a:Option Addr)(n cap:Nat)(l:List Ex)(addr:Int)(w:World)(h:A3 w a n l)(hn:n<=4194304):
  Calls prog 58 #[.slice a n cap,.int .i64 addr] w fun e w'=>e=.returned (.int .i64 (atG addr 0 l))∧w'=w:=by
 have ha:Hid (l.length=n):=h.len;go_enter func58,ntmps58
 go_wp2_with fail
 go_loop [5] (fun ix=>∃ (k:Nat),k<=n∧ix=.int .i64 k∧Hid (atG addr 0 l=atG addr k (l.drop k))) (fun ix=>n-(intOf ix).toNat)
 case atStart=>exact⟨0,Zg _,rfl,rfl⟩
 case round=>
  obtain⟨k,hk,rfl,hI⟩:=hrel;by_cases hlt:k<n
  ·obtain⟨b,o,p,rfl,hp,c0,c1⟩:=be_ h hlt;have hd:Hid (l.drop k=p::l.drop (k+1)):=al_ hp;clear hp
   cases he:(p.a==addr)
   ·go_wp2;go_round
    case rel=>exact⟨k+1,by omega,by go_num,by show _=_;rw[hI.out,hd.out];simp only[atG,he,Zj,if_false]⟩
    case measure=>simp[intOf];omega
   ·go_wp2;go_returns;go_light;refine⟨a4_ ?_,rfl⟩;rw[hI.out,hd.out];simp only[atG,he,if_true]
  ·obtain rfl:k=n:=by omega
   go_wp2;go_returns;go_light;refine⟨a4_ ?_,rfl⟩;rw[hI.out,Ze (Zm ha.out)];rfl
theorem El:(prog.info? 103).map (fun i=>(i.zero,i.size,i.bytes))=some (some (.agg #[.int .i64 0,.string .empty]),2,24):=by kernel_rfl
theorem c9_ (w:World)(p:Ex)(t:TypeId)(b:Nat)(hb:b=w.heap.size):A3 (w.alloc (.cells #[.int .i64 p.a,.string p.d] t)) (some ⟨b,0,none⟩) 1 [p]:=by
 subst hb;refine⟨rfl,fun i x hx=>⟨w.heap.size,0,rfl,fun j v hv=>?_⟩⟩;have hi:i=0:=by have:=(Zb.1 hx).1;simp at this;exact this
 subst hi;simp at hx;subst hx
 match j,hv with
 |0,hv=>obtain rfl:=Zi hv;simp
 |1,hv=>obtain rfl:=Zi hv;simp
 |j+2,hv=>simp[Ex.cs] at hv
def Cm (addr:Int)(l:List Ex):List Ex:=l.filter (fun e=>!(e.a==addr))
def ER (size:Int)(l:List Ex)(addr:Int):Option (List Ex):=if Ak size l=true∧(Cm addr l).length≠l.length then some (Cm addr l) else none
def AO (addr:Int):List Ex->ByteArray
 |[]=>⟨#[]⟩
 |e::r=>if e.a==addr then e.d else AO addr r
def pieceO (e:List Ex)(p:Pt):Option ByteArray:=
 if p.a==0 then some (zs p.n.toNat) else if ((AO p.a e).size:Int)<p.f+p.n then none else some ((AO p.a e).extract p.f.toNat (p.f+p.n).toNat)
def cgo (e:List Ex):ByteArray->List Pt->Option ByteArray
 |acc,[]=>some acc
 |acc,p::r=>match pieceO e p with
  |none=>none
  |some d=>cgo e (acc++d) r
def Ar (l:List Pt)(e:List Ex):Option ByteArray:=if Ae l=true∧Ak 400 e=true then cgo e ⟨#[]⟩ l else none
theorem jR_:∀ {l:List Pt} {q:Option Pt} {left:Int},pgo q left l=true->left<=100->∀ p∈l,Ao p=true∧p.n<=100
 |[],_,_,_,_=>by simp
 |p::r,q,left,h,hl=>by
  have h2:Ao p=true∧p.n<=left∧pgo (some p) (left-p.n) r=true:=by
   cases q
   ·simp only[pgo,Zf,ZU] at h;exact⟨h.1.1,h.1.2,h.2⟩
   ·simp only[pgo,Zf,ZU] at h;exact⟨h.1.1.1,h.1.1.2,h.2⟩
  intro x hx;rcases Zn.1 hx with rfl | hx
  ·exact⟨h2.1,by omega⟩
  ·exact jR_ h2.2.2 (by have:=av_ h2.1;omega) x hx
theorem gd_ {l:List Pt}(h:Ae l=true):l.length<=16∧∀ p∈l,1<=p.n∧p.n<=100∧(p.a≠0->0<=p.f∧p.f<20):=by
 simp only[Ae,Zf,ZU] at h;refine⟨h.1,fun p hp=>?_⟩;obtain⟨h1,h2⟩:=jR_ h.2 (by omega) p hp;refine⟨av_ h1,h2,fun ha=>?_⟩;have hb:(p.a==0)=false:=by simpa using ha
 simp only[Ao,hb,Zj,if_false,Zf,ZU] at h1;omega
theorem ek_ {addr:Int}:∀ {e:List Ex},BE e->(AO addr e).size<=9223372036854775807
 |[],_=>by simp[AO,ByteArray.size]
 |x::r,h=>by
  unfold AO;split
  ·exact h x (by simp)
  ·exact ek_ (fun y hy=>h y (by simp[hy]))
theorem jS_ (a:Option Addr)(n cap:Nat)(l:List Ex)(addr:Int)(w:World)(h:A3 w a n l)(hn:n<=4194304):
  Calls prog 197 #[.slice a n cap,.int .i64 addr] w fun e w'=>e=.returned (.string (AO addr l))∧Below w.heap.size w w':=by
 have hb:Hid (l.length=n):=h.len;have ha:Hid (AO addr l=AO addr (l.drop 0)):=rfl;generalize AO addr l=R at *;go_enter func197,ntmps197
 go_wp2_with fail
 go_loopw [9] (fun ix wr=>∃ (k:Nat),k<=n∧ix=.int .i64 k∧Hid (R=AO addr (l.drop k))∧Below w.heap.size w wr) (fun ix _=>n-(intOf ix).toNat)
 case atStart=>exact⟨0,Zg _,rfl,ha,Yg _ _⟩
 case round=>
  obtain⟨k,hk,rfl,hI,hB⟩:=hrel;have hc:=hB.size;by_cases hlt:k<n
  ·obtain⟨b,o,p,rfl,hp,c0,c1⟩:=be_ (h.below hB) hlt;have hd:Hid (l.drop k=p::l.drop (k+1)):=al_ hp
   cases he:(p.a==addr)
   ·go_wp2;go_roundw
    case rel=>exact⟨k+1,by omega,by go_num,by show _=_;rw[hI.out,hd.out];simp[AO,he],by go_grown⟩
    case measure=>simp[intOf];omega
   ·go_wp2;go_returns;go_light;refine⟨?_,by go_grown⟩;rw[hI.out,hd.out];simp[AO,he]
  ·obtain rfl:k=n:=by omega
   go_wp2;go_returns;go_light;refine⟨?_,hB⟩;rw[hI.out,Ze (by rw[hb.out];exact Zd _)];rfl
end
section
open Go Go.RowKit
structure Ow where
 a:Int
 v:Int
 f:ByteArray
end
section
open Go Go.RowKit
variable{a b:Ow}
structure Ct where
 o:Ow
 n:Int
def Ow.vs (o:Ow):Array Value:=#[.int .i64 o.a,.int .i64 o.v,.string o.f]
def Ct.cs (c:Ct):List Value:=[.int .i64 c.o.a,.int .i64 c.o.v,.string c.o.f,.int .i64 c.n]
abbrev AM:=As Ct.cs 4
theorem aN_ {w:World}{a:Option Addr}{n:Nat}{l:List Ct}(h:AM w a n l){k:Nat}(hk:k<n):
  ∃ b o p,a=some ⟨b,o,none⟩∧l[k]?=some p∧w.cell? ⟨b,o+k*4,none⟩=some (.int .i64 p.o.a)∧w.cell? ⟨b,o+k*4+1,none⟩=some (.int .i64 p.o.v)∧w.cell? ⟨b,o+k*4+2,none⟩=some (.string p.o.f)∧w.cell? ⟨b,o+k*4+3,none⟩=some (.int .i64 p.n):=by
 have hl:k<l.length:=by rw[h.len];exact hk
 have hx:l[k]?=some l[k]:=by simp[hl]
 obtain⟨b,o,ha,hc⟩:=h.cell k _ hx;exact⟨b,o,l[k],ha,hx,hc 0 _ rfl,hc 1 _ rfl,hc 2 _ rfl,hc 3 _ rfl⟩
abbrev bl:=Op.bytesLess
theorem cn_:∀ x:List UInt8,bl x x=false
 |[]=>rfl
 |a::x=>by simp[bl,Op.bytesLess];exact cn_ x
theorem jT_:∀ {x y:List UInt8},bl x y=false->x≠y->bl y x=true
 |[],[],_,h=>absurd rfl h
 |[],b::y,h,_=>by simp[bl,Op.bytesLess] at h
 |a::x,[],_,_=>rfl
 |a::x,b::y,h,hne=>by
  simp only[bl,Op.bytesLess,Bool.or_eq_false_iff,Bool.and_eq_false_iff,YU] at h;obtain⟨h1,h2⟩:=h;simp only[bl,Op.bytesLess,Bool.or_eq_true,Zf,ZU,beq_iff_eq];by_cases hab:a=b
  ·subst hab;right;refine⟨rfl,jT_ (h2.resolve_left (by simp)) (fun e=>hne (by rw[e]))⟩
  ·left;have ha:b.toNat<=a.toNat:=by simpa[UInt8.lt_iff_toNat_lt] using h1
   have:a.toNat≠b.toNat:=fun e=>hab (UInt8.toNat_inj.1 e)
   rw[UInt8.lt_iff_toNat_lt];omega
theorem jU_:∀ {x y:List UInt8},bl x y=true->bl y x=false
 |[],[],h=>by simp[bl,Op.bytesLess] at h
 |[],b::y,_=>rfl
 |a::x,[],h=>by simp[bl,Op.bytesLess] at h
 |a::x,b::y,h=>by
  simp only[bl,Op.bytesLess,Bool.or_eq_true,Zf,ZU,beq_iff_eq] at h;simp only[bl,Op.bytesLess,Bool.or_eq_false_iff,Bool.and_eq_false_iff,YU,ZV];rcases h with h | ⟨rfl,h⟩
  ·have h':=UInt8.lt_iff_toNat_lt.1 h;refine⟨fun k=>by have:=UInt8.lt_iff_toNat_lt.1 k;omega,.inl fun e=>by subst e;omega⟩
  ·exact⟨fun k=>by have:=UInt8.lt_iff_toNat_lt.1 k;omega,.inr (jU_ h)⟩
theorem hl_:∀ {x y z:List UInt8},bl x y=true->bl y z=true->bl x z=true
 |[],[],_,h,_=>by simp[bl,Op.bytesLess] at h
 |[],b::y,[],_,h=>by simp[bl,Op.bytesLess] at h
 |[],b::y,c::z,_,_=>rfl
 |a::x,[],_,h,_=>by simp[bl,Op.bytesLess] at h
 |a::x,b::y,[],_,h=>by simp[bl,Op.bytesLess] at h
 |a::x,b::y,c::z,h1,h2=>by
  simp only[bl,Op.bytesLess,Bool.or_eq_true,Zf,ZU,beq_iff_eq,UInt8.lt_iff_toNat_lt] at *;rcases h1 with h1 | ⟨rfl,h1⟩
  ·rcases h2 with h2 | ⟨rfl,h2⟩
   ·left;omega
   ·left;exact h1
  ·rcases h2 with h2 | ⟨rfl,h2⟩
   ·left;exact h2
   ·right;exact⟨rfl,hl_ h1 h2⟩
theorem jV_ {x y:ByteArray}(h:x.toList=y.toList):x=y:=by
 rw[Zu,Zu] at h
 cases x;cases y
 congr 1;exact Array.toList_inj.1 h
def Bo (a b:Ow):Bool:=a.a==b.a&&a.v==b.v&&a.f.toList==b.f.toList
theorem aM_:Bo a b=true↔a=b:=by
 constructor
 ·intro h;simp[Bo] at h;obtain⟨⟨h1,h2⟩,h3⟩:=h
  cases a;cases b
  simp at *;exact⟨h1,h2,jV_ h3⟩
 ·rintro rfl;simp[Bo]
def Bd (a b:Ow):Bool:=if a.a≠b.a then decide (a.a<b.a) else if a.v≠b.v then decide (a.v<b.v) else bl a.f.toList b.f.toList
theorem gD_ (a:Ow):Bd a a=false:=by simp[Bd,cn_]
theorem ct_ (h:Bd a b=false)(hne:a≠b):Bd b a=true:=by
 by_cases h1:a.a=b.a
 ·by_cases h2:a.v=b.v
  ·have h3:a.f.toList≠b.f.toList:=fun e=>hne (aM_.1 (by simp[Bo,h1,h2,e]));simp only[Bd,h1,h2,ne_eq,not_true,if_false] at h ⊢;exact jT_ h h3
  ·simp only[Bd,h1,ne_eq,not_true,if_false,h2,not_false_eq_true,if_true,YU] at h;simp only[Bd,h1,ne_eq,not_true,if_false,if_pos (Ne.symm h2),ZU];omega
 ·simp only[Bd,ne_eq,h1,not_false_eq_true,if_true,YU] at h;simp only[Bd,ne_eq,if_pos (Ne.symm h1),ZU];omega
theorem ly_ (h:Bd a b=true):Bd b a=false:=by
 by_cases h1:a.a=b.a
 ·by_cases h2:a.v=b.v
  ·simp only[Bd,h1,h2,ne_eq,not_true,if_false] at h ⊢;exact jU_ h
  ·simp only[Bd,h1,ne_eq,not_true,if_false,h2,not_false_eq_true,if_true,ZU] at h;simp only[Bd,h1,ne_eq,not_true,if_false,if_pos (Ne.symm h2),YU];omega
 ·simp only[Bd,ne_eq,h1,not_false_eq_true,if_true,ZU] at h;simp only[Bd,ne_eq,if_pos (Ne.symm h1),YU];omega
theorem jW_:Bd a b=true↔a.a<b.a∨(a.a=b.a∧(a.v<b.v∨(a.v=b.v∧bl a.f.toList b.f.toList=true))):=by
 unfold Bd;split
 ·rename_i h;simp;omega
 ·rename_i h;split
  ·rename_i k;simp;omega
  ·rename_i k;simp at h k;constructor
   ·intro e;exact .inr ⟨h,.inr ⟨k,e⟩⟩
   ·rintro (e | ⟨_,e | ⟨_,e⟩⟩)
    ·omega
    ·omega
    ·exact e
theorem b7_ {c:Ow}(h:Bd a b=true)(k:Bd b c=true):Bd a c=true:=by
 rw[jW_] at *;rcases h with h | ⟨h1,h | ⟨h2,h⟩⟩<;>rcases k with k | ⟨k1,k | ⟨k2,k⟩⟩
 case inr.inr.inr.inr=>exact .inr ⟨by omega,.inr ⟨by omega,hl_ h k⟩⟩
 case inl.inl=>exact .inl (by omega)
 case inl.inr.inl=>exact .inl (by omega)
 case inl.inr.inr=>exact .inl (by omega)
 case inr.inl.inl=>exact .inl (by omega)
 case inr.inr.inl=>exact .inl (by omega)
 case inr.inl.inr.inl=>exact .inr ⟨by omega,.inl (by omega)⟩
 case inr.inl.inr.inr=>exact .inr ⟨by omega,.inl (by omega)⟩
 case inr.inr.inr.inl=>exact .inr ⟨by omega,.inl (by omega)⟩
def CY (x y:Int):Int:=if x<y then -1 else if y<x then 1 else 0
def Eo (x y:ByteArray):Int:=if bl x.toList y.toList=true then -1 else if x.toList=y.toList then 0 else 1
def or3 (x y z:Int):Int:=if x≠0 then x else if y≠0 then y else z
def CF (a b:Ow):Int:=or3 (CY a.a b.a) (CY a.v b.v) (Eo a.f b.f)
theorem i6_ (a b:Ow):decide (CF a b<0)=Bd a b:=by
 rw[YH,jW_,ZU];unfold CF or3 CY Eo;rcases Int.lt_trichotomy a.a b.a with h | h | h
 ·rw[if_pos h,if_pos (by decide)];constructor
  ·intro _;exact .inl h
  ·intro _;decide
 ·rw[h,if_neg (Int.lt_irrefl _),if_neg (Int.lt_irrefl _),if_neg (by decide)];rcases Int.lt_trichotomy a.v b.v with k | k | k
  ·rw[if_pos k,if_pos (by decide)];constructor
   ·intro _;exact .inr ⟨rfl,.inl k⟩
   ·intro _;decide
  ·rw[k,if_neg (Int.lt_irrefl _),if_neg (Int.lt_irrefl _),if_neg (by decide)]
   cases h5:bl a.f.toList b.f.toList
   ·constructor
    ·intro e;rw[if_neg (by decide)] at e;split at e<;>omega
    ·rintro (e | ⟨_,e | ⟨_,e⟩⟩)
     ·omega
     ·omega
     ·cases e
   ·constructor
    ·intro _;exact .inr ⟨rfl,.inr ⟨rfl,rfl⟩⟩
    ·intro _;rw[if_pos rfl];decide
  ·rw[if_neg (show ¬ a.v<b.v by omega),if_pos k,if_pos (by decide)];constructor
   ·intro e;omega
   ·rintro (e | ⟨_,e | ⟨_,e⟩⟩)<;>omega
 ·rw[if_neg (show ¬ a.a<b.a by omega),if_pos h,if_pos (by decide)];constructor
  ·intro e;omega
  ·rintro (e | ⟨e,_⟩)<;>omega
end
section
open Go Go.RowKit
variable{c:Ct}{a b:Ow}
def Bm:List Ct->Ct->List Ct
 |[],c=>[c]
 |x::r,c=>if Bd x.o c.o=true then x::Bm r c else if Bo x.o c.o=true then (if x.n+c.n≠0 then ⟨c.o,x.n+c.n⟩::r else r) else c::x::r
def AQ (l more:List Ct):List Ct:=more.foldl Bm l
def tot (o:Ow):List Ct->Int
 |[]=>0
 |c::r=>(if Bo c.o o=true then c.n else 0)+tot o r
def By (l:List Ct):Prop:=l.Pairwise (fun x y=>Bd x.o y.o=true)
def Bj (l:List Ct):Prop:=∀ c∈l,c.n≠0
theorem a3_ (o:Ow):Bo o o=true:=aM_.2 rfl
theorem dA_ (h:Bd a b=true):Bo a b=false:=by
 cases e:Bo a b
 ·rfl
 ·rw[aM_.1 e,gD_] at h;cases h
theorem ge_ (h:Bo a b=false):Bo b a=false:=by
 cases e:Bo b a
 ·rfl
 ·rw[aM_.1 e,a3_] at h;cases h
theorem cc_ {o:Ow}:∀ {l:List Ct},(∀ c∈l,Bd o c.o=true)->tot o l=0
 |[],_=>rfl
 |c::r,h=>by
  have h1:=ge_ (dA_ (h c (by simp)));simp only[tot,h1,Zj,if_false];rw[cc_ (fun x hx=>h x (by simp[hx]))];rfl
theorem bn_ (o:Ow):∀ (l m:List Ct),tot o (l++m)=tot o l+tot o m
 |[],m=>by simp[tot]
 |c::r,m=>by simp only[YF,tot,bn_ o r m];omega
theorem jX_ (o:Ow)(c:Ct):∀ l:List Ct,tot o (Bm l c)=tot o l+(if Bo c.o o=true then c.n else 0)
 |[]=>by simp[Bm,tot]
 |x::r=>by
  unfold Bm;split
  ·simp only[tot,jX_ o c r];omega
  ·split
   ·rename_i h1 h2;have e:=aM_.1 h2;split
    ·simp only[tot,e];split<;>omega
    ·simp only[tot,e];split<;>omega
   ·simp only[tot];omega
theorem jY_ {z:Ow}(hc:Bd z c.o=true):∀ {l:List Ct},(∀ x∈l,Bd z x.o=true)->∀ x∈Bm l c,Bd z x.o=true
 |[],_=>by intro x hx;simp[Bm] at hx;subst hx;exact hc
 |y::r,h=>by
  have hy:=h y (by simp);have hr:∀ x∈r,Bd z x.o=true:=fun x hx=>h x (by simp[hx]);unfold Bm;split
  ·intro x hx;rcases Zn.1 hx with rfl | hx
   ·exact hy
   ·exact jY_ hc hr x hx
  ·split
   ·split
    ·intro x hx;rcases Zn.1 hx with rfl | hx
     ·exact hc
     ·exact hr x hx
    ·exact hr
   ·intro x hx;rcases Zn.1 hx with rfl | hx
    ·exact hc
    ·exact h x hx
theorem gE_ (c:Ct):∀ {l:List Ct},By l->By (Bm l c)
 |[],_=>by simp[Bm,By]
 |y::r,h=>by
  obtain⟨h1,h2⟩:=Ye.1 h;unfold Bm;split
  ·rename_i k;exact Ye.2 ⟨jY_ k h1,gE_ c h2⟩
  ·rename_i k;split
   ·rename_i e;have e:=aM_.1 e;split
    ·exact Ye.2 ⟨fun x hx=>by simp only[<-e];exact h1 x hx,h2⟩
    ·exact h2
   ·rename_i e;have ha:Bd c.o y.o=true:=ct_ (by simpa using k) (fun e'=>e (aM_.2 e'));refine Ye.2 ⟨fun x hx=>?_,h⟩;rcases Zn.1 hx with rfl | hx
    ·exact ha
    ·exact b7_ ha (h1 x hx)
theorem gF_ (hc:c.n≠0):∀ {l:List Ct},Bj l->Bj (Bm l c)
 |[],_=>by intro x hx;simp[Bm] at hx;subst hx;exact hc
 |y::r,h=>by
  have hy:=h y (by simp);have hr:Bj r:=fun x hx=>h x (by simp[hx]);unfold Bm;split
  ·intro x hx;rcases Zn.1 hx with rfl | hx
   ·exact hy
   ·exact gF_ hc hr x hx
  ·split
   ·split
    ·rename_i k;intro x hx;rcases Zn.1 hx with rfl | hx
     ·exact k
     ·exact hr x hx
    ·exact hr
   ·intro x hx;rcases Zn.1 hx with rfl | hx
    ·exact hc
    ·exact h x hx
theorem cS_:∀ {l m:List Ct},By l->By m->Bj l->Bj m->(∀ o,tot o l=tot o m)->l=m
 |[],[],_,_,_,_,_=>rfl
 |[],y::s,_,hm,_,zm,h=>by
  have:=h y.o
  have hs:=cc_ (Ye.1 hm).1;simp only[tot,a3_,if_true,hs] at this
  exact absurd (by omega) (zm y (by simp))
 |x::r,[],hl,_,zl,_,h=>by
  have:=h x.o
  have hr:=cc_ (Ye.1 hl).1;simp only[tot,a3_,if_true,hr] at this
  exact absurd (by omega) (zl x (by simp))
 |x::r,y::s,hl,hm,zl,zm,h=>by
  obtain⟨hf,hh⟩:=Ye.1 hl;obtain⟨hg,hj⟩:=Ye.1 hm;have hr:=cc_ hf;have hs:=cc_ hg
  cases hb:Bd x.o y.o
  ·cases he:Bd y.o x.o
   ·have e:x.o=y.o:=by
     cases e:Bo x.o y.o
     ·have:=ct_ hb (fun e'=>by rw[aM_.2 e'] at e;cases e)
      rw[he] at this;cases this
     ·exact aM_.1 e
    have h1:=h x.o;rw[<-e] at hs;simp only[tot,<-e,a3_,if_true,hr,hs] at h1;have exy:x=y:=by cases x;cases y;simp at e h1 ⊢;exact⟨e,h1⟩
    subst exy
    have:r=s:=cS_ hh hj (fun c hc=>zl c (by simp[hc])) (fun c hc=>zm c (by simp[hc])) (fun o=>by have:=h o;simp only[tot] at this;omega)
    rw[this]
   ·have h1:=h y.o;have hz:tot y.o r=0:=cc_ (fun c hc=>b7_ he (hf c hc));have ha:=ge_ (dA_ he);simp only[tot,a3_,if_true,hs,ha,Zj,if_false,hz] at h1
    exact absurd (by omega) (zm y (by simp))
  ·have h1:=h x.o;have hz:tot x.o s=0:=cc_ (fun c hc=>b7_ hb (hg c hc));have ha:=ge_ (dA_ hb);simp only[tot,a3_,if_true,hr,ha,Zj,if_false,hz] at h1
   exact absurd (by omega) (zl x (by simp))
theorem eL_:∀ {more l:List Ct},By l->Bj l->Bj more->By (AQ l more)∧Bj (AQ l more)∧∀ o,tot o (AQ l more)=tot o l+tot o more
 |[],l,hl,zl,_=>⟨hl,zl,fun o=>by simp[AQ,tot]⟩
 |c::r,l,hl,zl,zm=>by
  obtain⟨h1,h2,h3⟩:=eL_ (more:=r) (gE_ c hl) (gF_ (zm c (by simp)) zl) (fun x hx=>zm x (by simp[hx]));refine⟨h1,h2,fun o=>?_⟩
  have:=h3 o
  rw[jX_] at this;simp only[AQ,YE,tot] at this ⊢;omega
def AP (c:Ct)(s:List Ct×Bool)(x:Ct):List Ct×Bool:=
 if s.2=true then (s.1++[x],true) else if Bd x.o c.o=true then (s.1++[x],false) else
 if Bo x.o c.o=true then (if x.n+c.n≠0 then (s.1++[⟨c.o,x.n+c.n⟩],true) else (s.1,true)) else (s.1++[c]++[x],true)
def B3 (c:Ct)(s:List Ct×Bool):List Ct:=if s.2=true then s.1 else s.1++[c]
theorem fI_ (c:Ct):∀ (l out:List Ct),l.foldl (AP c) (out,true)=(out++l,true)
 |[],out=>by simp
 |x::r,out=>by
  rw[YE,show AP c (out,true) x=(out++[x],true) by simp[AP],fI_ c r];simp
theorem jZ_ (c:Ct):∀ (l out:List Ct),B3 c (l.foldl (AP c) (out,false))=out++Bm l c
 |[],out=>by simp[B3,Bm]
 |x::r,out=>by
  rw[YE];unfold Bm;by_cases h1:Bd x.o c.o=true
  ·rw[show AP c (out,false) x=(out++[x],false) by simp[AP,h1],jZ_ c r,if_pos h1];simp
  ·by_cases h2:Bo x.o c.o=true
   ·by_cases h3:x.n+c.n≠0
    ·rw[show AP c (out,false) x=(out++[⟨c.o,x.n+c.n⟩],true) by simp[AP,h1,h2,h3],fI_,if_neg h1,if_pos h2,if_pos h3];simp[B3]
    ·rw[show AP c (out,false) x=(out,true) by simp[AP,h1,h2,h3],fI_,if_neg h1,if_pos h2,if_neg h3];simp[B3]
   ·rw[show AP c (out,false) x=(out++[c]++[x],true) by simp[AP,h1,h2],fI_,if_neg h1,if_neg h2];simp[B3]
theorem aS_ (p:Ct):p.cs.length=4:=rfl
theorem a9_ (l:List Ct):∀ u∈l.flatMap Ct.cs,u.oneCell'=true:=by
 intro u hu;obtain⟨p,_,hp⟩:=ZL.1 hu;simp[Ct.cs] at hp;rcases hp with rfl | rfl | rfl | rfl<;>rfl
theorem eM_ {w:World}{b:Nat}{p:Ct}(h0:w.cell? ⟨b,0,none⟩=some (.int .i64 p.o.a))(h1:w.cell? ⟨b,1,none⟩=some (.int .i64 p.o.v))(h2:w.cell? ⟨b,2,none⟩=some (.string p.o.f))(h3:w.cell? ⟨b,3,none⟩=some (.int .i64 p.n)):AM w (some ⟨b,0,none⟩) 1 [p]:=by
 refine⟨rfl,fun i x hx=>⟨b,0,rfl,fun j v hv=>?_⟩⟩;have hi:i=0:=by have:=(Zb.1 hx).1;simp at this;exact this
 subst hi;simp at hx;subst hx
 match j,hv with
 |0,hv=>obtain rfl:=Zi hv;exact h0
 |1,hv=>obtain rfl:=Zi hv;exact h1
 |2,hv=>obtain rfl:=Zi hv;exact h2
 |3,hv=>obtain rfl:=Zi hv;exact h3
 |j+4,hv=>simp[Ct.cs] at hv
theorem cl_ (w:World)(p:Ct)(t:TypeId)(b:Nat)(hb:b=w.heap.size):AM (w.alloc (.cells #[.int .i64 p.o.a,.int .i64 p.o.v,.string p.o.f,.int .i64 p.n] t)) (some ⟨b,0,none⟩) 1 [p]:=by
 subst hb;exact eM_ (by simp) (by simp) (by simp) (by simp)
theorem CK:(Tryz.prog.info? 107).map (fun i=>(i.zero,i.size,i.bytes))=some (some (.agg #[.int .i64 0,.int .i64 0,.string .empty,.int .i64 0]),4,40):=by kernel_rfl
end
section
open Go Go.RowKit Go.BigFrame Tryz
theorem fc_ (x:Int)(w:World):
  Calls prog 194 #[.int .i64 x] w fun e w'=>e=.returned (.bool false)∧w'=w:=by
 have hx:(x != x)=false:=by simp
 go_enter func194,ntmps194;go_wp2;go_returns;go_light;exact⟨by simp,rfl⟩
theorem fd_ (x:ByteArray)(w:World):
  Calls prog 195 #[.string x] w fun e w'=>e=.returned (.bool false)∧w'=w:=by
 go_enter func195,ntmps195;go_wp2;go_returns;go_light;exact⟨by simp,rfl⟩
theorem dZ_ (x y:Int)(w:World):
  Calls prog 167 #[.int .i64 x,.int .i64 y] w fun e w'=>e=.returned (.int .i64 (CY x y))∧w'=w:=by
 go_enter func167,ntmps167
 go_wp2_with fail
 refine (fc_ _ _).mono ?_;rintro e w1 ⟨rfl,rfl⟩
 go_wp2_with fail
 refine (fc_ _ _).mono ?_;rintro e w1 ⟨rfl,rfl⟩;go_wp2
 all_goals go_returns
 all_goals go_light
 all_goals refine⟨a4_ ?_,rfl⟩
 all_goals simp[CY]
 all_goals omega
theorem d0_ (x y:ByteArray)(w:World):
  Calls prog 168 #[.string x,.string y] w fun e w'=>e=.returned (.int .i64 (Eo x y))∧w'=w:=by
 go_enter func168,ntmps168
 go_wp2_with fail
 refine (fd_ _ _).mono ?_;rintro e w1 ⟨rfl,rfl⟩
 go_wp2_with fail
 refine (fd_ _ _).mono ?_;rintro e w1 ⟨rfl,rfl⟩;go_wp2
 all_goals go_returns
 all_goals go_light
 all_goals refine⟨a4_ ?_,rfl⟩
 all_goals simp_all [Eo,bl]
theorem mx_ (x y z:Int)(b:Nat)(cap:Nat)(w:World)(h0:w.cell? ⟨b,0,none⟩=some (.int .i64 x))(h1:w.cell? ⟨b,1,none⟩=some (.int .i64 y))(h2:w.cell? ⟨b,2,none⟩=some (.int .i64 z)):
  Calls prog 166 #[.slice (some ⟨b,0,none⟩) 3 cap] w fun e w'=>e=.returned (.int .i64 (or3 x y z))∧w'=w:=by
 by_cases hx:x=0
 ·have ha:(x != 0)=false:=by simp[hx]
  by_cases hy:y=0
  ·have hb:(y != 0)=false:=by simp[hy]
   by_cases hz:z=0
   ·have hc:(z != 0)=false:=by simp[hz]
    have hf:Hid (or3 x y z=0):=by show _=_;simp[or3,hx,hy,hz]
    clear hx hy hz;go_enter func166,ntmps166
    go_wp2_with fail
    go_rounds 4
    go_returns;go_light;exact⟨a4_ hf.out.symm,rfl⟩
   ·have hc:(z != 0)=true:=by simp[hz]
    have hf:Hid (or3 x y z=z):=by show _=_;simp[or3,hx,hy]
    clear hx hy hz;go_enter func166,ntmps166
    go_wp2_with fail
    go_rounds 3
    go_returns;go_light;exact⟨a4_ hf.out.symm,rfl⟩
  ·have hb:(y != 0)=true:=by simp[hy]
   have hf:Hid (or3 x y z=y):=by show _=_;simp[or3,hx,hy]
   clear hx hy;go_enter func166,ntmps166
   go_wp2_with fail
   go_rounds 2
   go_returns;go_light;exact⟨a4_ hf.out.symm,rfl⟩
 ·have ha:(x != 0)=true:=by simp[hx]
  have hf:Hid (or3 x y z=x):=by show _=_;simp[or3,hx]
  clear hx;go_enter func166,ntmps166
  go_wp2_with fail
  go_rounds 1
  go_returns;go_light;exact⟨a4_ hf.out.symm,rfl⟩
theorem Fd (w:World)(x y z:Value)(t:TypeId):(w.alloc (.cells #[x,y,z] t)).drew.cell? ⟨w.heap.size,0,none⟩=some x∧(w.alloc (.cells #[x,y,z] t)).drew.cell? ⟨w.heap.size,1,none⟩=some y∧(w.alloc (.cells #[x,y,z] t)).drew.cell? ⟨w.heap.size,2,none⟩=some z:=
 ⟨Yv _ _ _ 0,Yv _ _ _ 1,Yv _ _ _ 2⟩
theorem gT_ (p q:Ow)(w:World):
  Calls prog 132 #[.agg #[.int .i64 p.a,.int .i64 p.v,.string p.f],.agg #[.int .i64 q.a,.int .i64 q.v,.string q.f]] w fun e w'=>e=.returned (.int .i64 (CF p q))∧Below w.heap.size w w':=by
 have ha:Hid (CF p q=or3 (CY p.a q.a) (CY p.v q.v) (Eo p.f q.f)):=rfl;generalize CF p q=R at *;obtain⟨a,v,f⟩:=p;obtain⟨b,u,g⟩:=q;simp only at ha;go_enter func132,ntmps132
 go_wp2_with fail
 have x0:((w.alloc (.cells #[.int .i64 a,.int .i64 v,.string f] 105)).alloc (.cells #[.int .i64 b,.int .i64 u,.string g] 105)).cell? ⟨w.heap.size,0,none⟩=some (.int .i64 a):=Ah _ (by simp);have x1:((w.alloc (.cells #[.int .i64 a,.int .i64 v,.string f] 105)).alloc (.cells #[.int .i64 b,.int .i64 u,.string g] 105)).cell? ⟨w.heap.size,1,none⟩=some (.int .i64 v):=Ah _ (by simp);have x2:((w.alloc (.cells #[.int .i64 a,.int .i64 v,.string f] 105)).alloc (.cells #[.int .i64 b,.int .i64 u,.string g] 105)).cell? ⟨w.heap.size,2,none⟩=some (.string f):=Ah _ (by simp);have y0:((w.alloc (.cells #[.int .i64 a,.int .i64 v,.string f] 105)).alloc (.cells #[.int .i64 b,.int .i64 u,.string g] 105)).cell? ⟨w.heap.size+1,0,none⟩=some (.int .i64 b):=by simp
 have y1:((w.alloc (.cells #[.int .i64 a,.int .i64 v,.string f] 105)).alloc (.cells #[.int .i64 b,.int .i64 u,.string g] 105)).cell? ⟨w.heap.size+1,1,none⟩=some (.int .i64 u):=by simp
 have y2:((w.alloc (.cells #[.int .i64 a,.int .i64 v,.string f] 105)).alloc (.cells #[.int .i64 b,.int .i64 u,.string g] 105)).cell? ⟨w.heap.size+1,2,none⟩=some (.string g):=by simp
 have hb:Below w.heap.size w ((w.alloc (.cells #[.int .i64 a,.int .i64 v,.string f] 105)).alloc (.cells #[.int .i64 b,.int .i64 u,.string g] 105)):=by go_grown
 generalize (w.alloc (.cells #[.int .i64 a,.int .i64 v,.string f] 105)).alloc (.cells #[.int .i64 b,.int .i64 u,.string g] 105)=W0 at *
 go_region_held3 (fun u'=>u'.cell? ⟨w.heap.size,0,none⟩=some (.int .i64 a)∧u'.cell? ⟨w.heap.size,1,none⟩=some (.int .i64 v)∧u'.cell? ⟨w.heap.size,2,none⟩=some (.string f)∧u'.cell? ⟨w.heap.size+1,0,none⟩=some (.int .i64 b)∧u'.cell? ⟨w.heap.size+1,1,none⟩=some (.int .i64 u)∧u'.cell? ⟨w.heap.size+1,2,none⟩=some (.string g)) (go_keep)
  (first | (go_at_call 167;refine (dZ_ _ _ _).mono ?_;rintro e w2 ⟨rfl,rfl⟩) | (go_at_call 168;refine (d0_ _ _ _).mono ?_;rintro e w2 ⟨rfl,rfl⟩) | (go_at_call 166;refine (mx_ (CY a b) (CY v u) (Eo f g) W0.heap.size 3 _ (Fd W0 _ _ _ _).1 (Fd W0 _ _ _ _).2.1 (Fd W0 _ _ _ _).2.2).mono ?_;rintro e w2 ⟨rfl,rfl⟩))
 go_wp2;go_returns;go_light;exact⟨a4_ ha.out.symm,(hb.alloc hb.size _).drew⟩
theorem gU_ (p q:Ow)(w:World):
  Calls prog 172 #[.agg #[.int .i64 p.a,.int .i64 p.v,.string p.f],.agg #[.int .i64 q.a,.int .i64 q.v,.string q.f]] w fun e w'=>e=.returned (.bool (Bd p q))∧Below w.heap.size w w':=by
 have ha:Hid (Bd p q=decide (CF p q<0)):=(i6_ p q).symm;obtain⟨a,v,f⟩:=p;obtain⟨b,u,g⟩:=q;go_enter func172,ntmps172
 go_wp2_with fail
 refine (gT_ ⟨a,v,f⟩ ⟨b,u,g⟩ _).mono ?_;rintro e w1 ⟨rfl,hb⟩;have hc:Below w.heap.size w w1:=Aa (by go_grown) hb;go_wp2;go_returns;go_light;exact⟨ac_ ha.out.symm,hc⟩
theorem aF_ (p q:Ow)(w:World):
  Calls prog 149 #[.agg #[.int .i64 p.a,.int .i64 p.v,.string p.f],.agg #[.int .i64 q.a,.int .i64 q.v,.string q.f]] w fun e w'=>e=.returned (.bool (Bd p q))∧Below w.heap.size w w':=by
 obtain⟨a,v,f⟩:=p;obtain⟨b,u,g⟩:=q;go_enter func149,ntmps149;go_wp2
 all_goals go_returns
 all_goals go_light
 all_goals refine⟨?_,by go_grown⟩
 all_goals simp_all [Bd]
end
section
open Go.RowKit Go.Shelf Tryz
variable{l:List Ex}{Bs n₀:Nat}{w:World}
attribute [local go_sem] YJ
def ggo (size:Int):Int->List Ex->List (Int×Int)
 |next,[]=>if next<=size then [(next,size+1-next)] else []
 |next,e::r=>(if next<e.a then [(next,e.a-next)] else [])++ggo size (e.a+e.d.size) r
def KpG (n₀ Bs:Nat)(t:TypeId)(A B:World):Prop:=Below n₀ A B∧(∀ b c,Blk A b c t->Blk B b c t)∧(∀ v,A.cell? ⟨Bs,0,none⟩=some v->B.cell? ⟨Bs,0,none⟩=some v)
theorem KpG.t {t:TypeId}{A B C:World}(h:KpG n₀ Bs t A B)(k:KpG n₀ Bs t B C):KpG n₀ Bs t A C:=
 ⟨h.1.trans k.1,fun b c hb=>k.2.1 b c (h.2.1 b c hb),fun v hv=>k.2.2 v (h.2.2 v hv)⟩
theorem KpG.b {t:TypeId}(hn:n₀<=w.heap.size)(hs:Bs<w.heap.size)(W:World)(l:Nat)(o o':Obj)(hl:w.heap.size<=l)(h:W.heap[l]?=some o)(hc:o.isCells=false)(hw:o.isWalk=false):KpG n₀ Bs t W (W.putObj l o'):=by
 refine⟨belowK_b hn W l o o' hl h hc hw,fun b c hb=>?_,fun v hv=>?_⟩
 ·have ha:b≠l:=fun e=>by subst e;unfold Blk at hb;rw[h] at hb;cases hb;cases hc
  exact Blk.grown hb (grownBy_putObj' W l o') ha
 ·exact (grownBy_putObj' W l o').cell hv (by simp;omega)
def FZ (n₀:Nat)(w:World)(a:Option Addr)(n:Nat)(l:List Ex):Prop:=A3 w a n l∧∀ ad,0<n->a=some ad->ad.block<n₀
theorem pf_ {w':World}{a:Option Addr}{n:Nat}(h:FZ n₀ w a n l)(hb:Below n₀ w w'){k:Nat}(hk:k<n):
  ∃ b o p,a=some ⟨b,o,none⟩∧l[k]?=some p∧w'.cell? ⟨b,o+k*2,none⟩=some (.int .i64 p.a)∧w'.cell? ⟨b,o+k*2+1,none⟩=some (.string p.d):=by
 obtain⟨b,o,p,ha,hp,c0,c1⟩:=be_ h.1 hk;have hc:b<n₀:=h.2 _ (by omega) ha;exact⟨b,o,p,ha,hp,(hb.cell (p:=⟨b,o+k*2,none⟩) hc).trans c0,(hb.cell (p:=⟨b,o+k*2+1,none⟩) hc).trans c1⟩
end
end Go.Proofs.YtbbhcnjhohidnaaGreatDoor
