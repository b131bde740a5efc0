/- What is done to one file's parts: holes and ends. -/
import Derived.Test.YtdmeabghpchckaaGreatDoorU24
set_option maxHeartbeats 20000000
set_option maxRecDepth 100000
namespace Go.Proofs.YtdmeabghpchckaaGreatDoor
section
open Go Go.RowKit Go.BigFrame Tryz
variable{l:List Pt}{i:Nat}{w w':World}
theorem gq_ (b o n cap:Nat)(l:List Ex)(x:Ex)(w:World)(h:Bb w (some ⟨b,o,none⟩) n l)(hn:n<=60)(hcap:n<=cap)(hc2:cap<=9223372036854775807):
  Calls prog 160 #[.slice (some ⟨b,o,none⟩) n cap,.agg #[.int .i64 x.a,.string x.d]] w fun e w'=>(∃ a' n' cap',e=.returned (.slice a' n' cap')∧Ad Ex.cs 2 42 w' w.heap.size a' n' cap' (Cs l x))∧Below w.heap.size w w':=by
 have hs:Hid (l.length=n):=h.len;have hO:=mH_ x.a l;obtain⟨i0,hi,hj,hl,hm⟩:=info_parts E5;obtain⟨xa,xd⟩:=x;simp only at *;go_enter func160,ntmps160
 go_wp2_with fail
 have x0:(w.alloc (.cells #[.int .i64 xa,.string xd] 42)).cell? ⟨w.heap.size,0,none⟩=some (.int .i64 xa):=by simp
 have x1:(w.alloc (.cells #[.int .i64 xa,.string xd] 42)).cell? ⟨w.heap.size,1,none⟩=some (.string xd):=by simp
 have hH:Below w.heap.size w (w.alloc (.cells #[.int .i64 xa,.string xd] 42)):=(Yg _ _).alloc (Zd _) _;have hQ:(w.alloc (.cells #[.int .i64 xa,.string xd] 42)).heap.size=w.heap.size+1:=by simp
 generalize w.alloc (.cells #[.int .i64 xa,.string xd] 42)=W0 at *
 go_loopw [6] (fun ix wr=>∃ (k:Nat),k<=n∧ix=.int .i64 k∧Hid (Cy xa l=k+Cy xa (l.drop k))∧Below W0.heap.size W0 wr) (fun ix _=>n-(intOf ix).toNat)
 case atStart=>exact⟨0,Zg _,rfl,by show _=_;simp,Yg _ _⟩
 case round=>
  obtain⟨k,hk,rfl,hI,hB⟩:=hrel;have hy:=Aa hH hB;have e0:=Ab hB x0;have e1:=Ab hB x1;by_cases hg:k<n∧∃ p,l[k]?=some p∧p.a<xa
  ·obtain⟨hg,p',hD,hG⟩:=hg;obtain⟨b',o',p,ho,hp,c0,c1⟩:=be_ (h.below hy) hg;obtain⟨rfl,rfl⟩:b=b'∧o=o':=by simpa using ho
   obtain rfl:p=p':=by rw[hp] at hD;exact Zi hD
   have hM:Hid (Cy xa l=k+1+Cy xa (l.drop (k+1))):=by
    show _=_;rw[hI.out,al_ hp,Cy,if_pos hG];omega
   clear hp hD ho;have hJ:(k:Int)<n:=by omega
   have hL:(0:Int)<=k:=by omega
   go_wp2_with fail
   go_quiet (fail)
   go_wp2;go_roundw
   case rel=>exact⟨k+1,by omega,by go_num,hM,Aa hB (AJ _ _)⟩
   case measure=>simp[intOf];omega
  ·have hA:Hid (Cy xa l=k):=by
    show _=_;rw[hI.out];by_cases hkn:k<n
    ·obtain⟨_,_,p,_,hp,_,_⟩:=be_ h hkn;rw[al_ hp,Cy,if_neg (fun e=>hg ⟨hkn,_,hp,e⟩)];rfl
    ·rw[Ze (by rw[hs.out];omega)];rfl
   have hq:Hid (Cs l ⟨xa,xd⟩=[]++l.take k++[⟨xa,xd⟩]++l.drop k):=by show _=_;unfold Cs;simp only;rw[hA.out];simp
   have hE:∀ u,Below w.heap.size w u->Bb u (some ⟨b,o,none⟩) k (l.take k):=fun u hu=>(h.below hu).take hk;have hN:∀ u,Below w.heap.size w u->Bb u (if cap=k then some ⟨b,o,none⟩ else some ⟨b,o+k*2,none⟩) (n-k) (l.drop k):=fun u hu=>iM_ (h.below hu) k cap hk hcap;have hL:(0:Int)<=k:=by omega
   by_cases hkn:k<n
   ·obtain⟨b',o',p,ho,hp,c0,c1⟩:=be_ (h.below hy) hkn;obtain⟨rfl,rfl⟩:b=b'∧o=o':=by simpa using ho
    have hG:¬ p.a<xa:=fun e=>hg ⟨hkn,_,hp,e⟩;clear hp ho hg;have hJ:(k:Int)<n:=by omega
    go_wp2_with fail
    go_quiet (fail)
    have he:=Aa hy (AJ wr nq);replace e0:=Ab (AJ wr nq) e0;replace e1:=Ab (AJ wr nq) e1;have hv:=he.size;have hP:w.heap.size<(wr.drewN nq).heap.size:=Yk _ ⟨w.heap.size,0,none⟩ e0;generalize wr.drewN nq=wq at *
    go_wp2_with (first | (at_builtin;refine ag_ rfl (fun K hK=>ay_ _ _ 24 rfl w.heap.size 42 i0 (.agg #[.int .i64 0,.string .empty]) 24 underlying24 hi hj hl hm rfl (by decide) aK_ aU_ none 0 0 [] rfl aB_ (some ⟨b,o,none⟩) k cap (l.take k) rfl (hE _ he) (fun ad h=>(by cases h;rfl)) (fun h=>(by cases h)) k (Zq _) (by unfold maxLen;omega) (by omega) hv (fun a1 cap1 w1 ht hf=>hK _ _ ?_));have hb:Below w.heap.size w w1:=Yi he hf hv (fun k e=>by simp[Value.ownBlock] at e);have q0:=hf.cell e0 (by simp[Value.ownBlock]);have q1:=hf.cell e1 (by simp[Value.ownBlock])) | (at_builtin;refine ag_ rfl (fun K hK=>ay_ _ _ 24 rfl w.heap.size 42 i0 (.agg #[.int .i64 0,.string .empty]) 24 underlying24 hi hj hl hm rfl (by decide) aK_ aU_ a1 k cap1 ([]++l.take k) rfl (ht.alloc _) _ 1 1 [(⟨xa,xd⟩:Ex)] rfl (c9_ _ ⟨xa,xd⟩ _ _ (by simp)) (fun ad h=>(by cases h;rfl)) (fun h=>(by cases h)) (k+1) rfl (by unfold maxLen;omega) (by omega) (by have:=hb.size;simp;omega) (fun a2 cap2 w2 hh hC=>hK _ _ ?_));have ha:Below w.heap.size w w2:=Yi (hb.alloc hb.size _) hC (by have:=hb.size;simp;omega) (aG_ fun ad hc=>(ht.block ad hc).1)) | (at_builtin;refine ag_ rfl (fun K hK=>ay_ _ _ 24 rfl w.heap.size 42 i0 (.agg #[.int .i64 0,.string .empty]) 24 underlying24 hi hj hl hm rfl (by decide) aK_ aU_ a2 (k+1) cap2 ([]++l.take k++[(⟨xa,xd⟩:Ex)]) rfl hh (some ⟨b,o+k*2,none⟩) (n-k) (cap-k) (l.drop k) rfl ((h.below ha).drop k) (fun ad h=>(by cases h;rfl)) (fun h=>(by cases h)) (n+1) (by omega) (by unfold maxLen;omega) (by omega) ha.size (fun a3 cap3 w3 hz hr=>hK _ _ ?_));have hw:Below w.heap.size w w3:=Yi ha hr ha.size (aG_ fun ad hc=>(hh.block ad hc).1)))
    all_goals go_returns
    all_goals exact⟨⟨a3,n+1,cap3,rfl,by rw[hq.out];exact hz⟩,hw⟩
   ·obtain rfl:k=n:=by omega
    clear hg
    go_wp2_with fail
    go_quiet (fail)
    have he:=Aa hy (AJ wr nq);replace e0:=Ab (AJ wr nq) e0;replace e1:=Ab (AJ wr nq) e1;have hv:=he.size;generalize wr.drewN nq=wq at *;have hF:∀ (u:World) (q:Option Addr),Bb u q 0 (l.drop k):=fun u q=>by rw[Ze (Zm hs.out)];exact⟨rfl,fun i x hx=>by simp at hx⟩
    go_wp2_with (first | (at_builtin;refine ag_ rfl (fun K hK=>ay_ _ _ 24 rfl w.heap.size 42 i0 (.agg #[.int .i64 0,.string .empty]) 24 underlying24 hi hj hl hm rfl (by decide) aK_ aU_ none 0 0 [] rfl aB_ (some ⟨b,o,none⟩) k cap (l.take k) rfl (hE _ he) (fun ad h=>(by cases h;rfl)) (fun h=>(by cases h)) k (Zq _) (by unfold maxLen;omega) (by omega) hv (fun a1 cap1 w1 ht hf=>hK _ _ ?_));have hb:Below w.heap.size w w1:=Yi he hf hv (fun k e=>by simp[Value.ownBlock] at e);have q0:=hf.cell e0 (by simp[Value.ownBlock]);have q1:=hf.cell e1 (by simp[Value.ownBlock])) | (at_builtin;refine ag_ rfl (fun K hK=>ay_ _ _ 24 rfl w.heap.size 42 i0 (.agg #[.int .i64 0,.string .empty]) 24 underlying24 hi hj hl hm rfl (by decide) aK_ aU_ a1 k cap1 ([]++l.take k) rfl (ht.alloc _) _ 1 1 [(⟨xa,xd⟩:Ex)] rfl (c9_ _ ⟨xa,xd⟩ _ _ (by simp)) (fun ad h=>(by cases h;rfl)) (fun h=>(by cases h)) (k+1) rfl (by unfold maxLen;omega) (by omega) (by have:=hb.size;simp;omega) (fun a2 cap2 w2 hh hC=>hK _ _ ?_));have ha:Below w.heap.size w w2:=Yi (hb.alloc hb.size _) hC (by have:=hb.size;simp;omega) (aG_ fun ad hc=>(ht.block ad hc).1)) | (at_builtin;refine ag_ rfl (fun K hK=>ay_ _ _ 24 rfl w.heap.size 42 i0 (.agg #[.int .i64 0,.string .empty]) 24 underlying24 hi hj hl hm rfl (by decide) aK_ aU_ a2 (k+1) cap2 ([]++l.take k++[(⟨xa,xd⟩:Ex)]) rfl hh (if cap=k then some ⟨b,o,none⟩ else some ⟨b,o+k*2,none⟩) 0 (cap-k) (l.drop k) rfl (hF _ _) (fun ad h=>(by split at h<;>cases h<;>rfl)) (fun h=>(by split at h<;>cases h)) (k+1) (by omega) (by unfold maxLen;omega) (by omega) ha.size (fun a3 cap3 w3 hz hr=>hK _ _ ?_));have hw:Below w.heap.size w w3:=Yi ha hr ha.size (aG_ fun ad hc=>(hh.block ad hc).1)) | (at_builtin;refine ag_ rfl (fun K hK=>ay_ _ _ 24 rfl w.heap.size 42 i0 (.agg #[.int .i64 0,.string .empty]) 24 underlying24 hi hj hl hm rfl (by decide) aK_ aU_ a2 (k+1) cap2 ([]++l.take k++[(⟨xa,xd⟩:Ex)]) rfl hh (if cap=k then some ⟨b,o,none⟩ else some ⟨b,o+k*2,none⟩) (k-k) (cap-k) (l.drop k) rfl (by rw[Nat.sub_self];exact hF _ _) (fun ad h=>(by split at h<;>cases h<;>rfl)) (fun h=>(by split at h<;>cases h)) (k+1) (by omega) (by unfold maxLen;omega) (by omega) ha.size (fun a3 cap3 w3 hz hr=>hK _ _ ?_));have hw:Below w.heap.size w w3:=Yi ha hr ha.size (aG_ fun ad hc=>(hh.block ad hc).1)))
    all_goals go_returns
    all_goals exact⟨⟨a3,k+1,cap3,rfl,by rw[hq.out];exact hz⟩,hw⟩
theorem gr_ (x:Ex)(w:World):
  Calls prog 160 #[.slice none 0 0,.agg #[.int .i64 x.a,.string x.d]] w fun e w'=>(∃ a' n' cap',e=.returned (.slice a' n' cap')∧Ad Ex.cs 2 42 w' w.heap.size a' n' cap' (Cs [] x))∧Below w.heap.size w w':=by
 obtain⟨i0,hi,hg,hh,hj⟩:=info_parts E5;obtain⟨xa,xd⟩:=x;simp only at *;have he:Hid (Cs [] ⟨xa,xd⟩=[]++[]++[⟨xa,xd⟩]++[]):=by show _=_;rfl
 have hS:∀ u:World,Bb u none 0 []:=fun u=>⟨rfl,fun i x hx=>by simp at hx⟩;go_enter func160,ntmps160
 go_wp2_with fail
 have x0:(w.alloc (.cells #[.int .i64 xa,.string xd] 42)).cell? ⟨w.heap.size,0,none⟩=some (.int .i64 xa):=by simp
 have x1:(w.alloc (.cells #[.int .i64 xa,.string xd] 42)).cell? ⟨w.heap.size,1,none⟩=some (.string xd):=by simp
 have ho:Below w.heap.size w (w.alloc (.cells #[.int .i64 xa,.string xd] 42)):=(Yg _ _).alloc (Zd _) _;generalize w.alloc (.cells #[.int .i64 xa,.string xd] 42)=W0 at *
 go_loopw [6] (fun ix wr=>ix=.int .i64 0∧Below W0.heap.size W0 wr) (fun _ _=>0)
 case atStart=>exact⟨rfl,Yg _ _⟩
 case round=>
  obtain⟨rfl,hB⟩:=hrel;have hq:=Aa ho hB;have e0:=Ab hB x0;have e1:=Ab hB x1
  go_wp2_with fail
  go_quiet (fail)
  have hk:=Aa hq (AJ wr nq);replace e0:=Ab (AJ wr nq) e0;replace e1:=Ab (AJ wr nq) e1;have hn:=hk.size;generalize wr.drewN nq=wq at *
  go_wp2_with (first | (at_builtin;refine ag_ rfl (fun K hK=>ay_ _ _ 24 rfl w.heap.size 42 i0 (.agg #[.int .i64 0,.string .empty]) 24 underlying24 hi hg hh hj rfl (by decide) aK_ aU_ none 0 0 [] rfl aB_ none 0 0 [] rfl (hS _) (fun ad h=>(by cases h)) (fun h=>rfl) 0 (Zq _) (by unfold maxLen;omega) (by omega) hn (fun a1 cap1 w1 hl hf=>hK _ _ ?_));have ha:Below w.heap.size w w1:=Yi hk hf hn (fun k e=>by simp[Value.ownBlock] at e);have q0:=hf.cell e0 (by simp[Value.ownBlock]);have q1:=hf.cell e1 (by simp[Value.ownBlock])) | (at_builtin;refine ag_ rfl (fun K hK=>ay_ _ _ 24 rfl w.heap.size 42 i0 (.agg #[.int .i64 0,.string .empty]) 24 underlying24 hi hg hh hj rfl (by decide) aK_ aU_ a1 0 cap1 ([]++[]) rfl (hl.alloc _) _ 1 1 [(⟨xa,xd⟩:Ex)] rfl (c9_ _ ⟨xa,xd⟩ _ _ (by simp)) (fun ad h=>(by cases h;rfl)) (fun h=>(by cases h)) 1 rfl (by unfold maxLen;omega) (by omega) (by have:=ha.size;simp;omega) (fun a2 cap2 w2 hm hr=>hK _ _ ?_));have hb:Below w.heap.size w w2:=Yi (ha.alloc ha.size _) hr (by have:=ha.size;simp;omega) (aG_ fun ad hc=>(hl.block ad hc).1)) | (at_builtin;refine ag_ rfl (fun K hK=>ay_ _ _ 24 rfl w.heap.size 42 i0 (.agg #[.int .i64 0,.string .empty]) 24 underlying24 hi hg hh hj rfl (by decide) aK_ aU_ a2 1 cap2 ([]++[]++[(⟨xa,xd⟩:Ex)]) rfl hm none 0 0 [] rfl (hS _) (fun ad h=>(by cases h)) (fun h=>rfl) 1 (by omega) (by unfold maxLen;omega) (by omega) hb.size (fun a3 cap3 w3 ht hs=>hK _ _ ?_));have hp:Below w.heap.size w w3:=Yi hb hs hb.size (aG_ fun ad hc=>(hm.block ad hc).1)))
  all_goals go_returns
  all_goals exact⟨⟨a3,1,cap3,rfl,by rw[he.out];exact ht⟩,hp⟩
theorem gs_ (a:Option Addr)(n cap:Nat)(l:List Ex)(x:Ex)(w:World)(h:Bb w a n l)(hn:n<=60)(hcap:n<=cap)(hc2:cap<=9223372036854775807)(hA:(a=none∧n=0∧cap=0)∨∃ b o,a=some ⟨b,o,none⟩):
  Calls prog 160 #[.slice a n cap,.agg #[.int .i64 x.a,.string x.d]] w fun e w'=>(∃ a' n' cap',e=.returned (.slice a' n' cap')∧Ad Ex.cs 2 42 w' w.heap.size a' n' cap' (Cs l x))∧Below w.heap.size w w':=by
 rcases hA with⟨rfl,rfl,rfl⟩ | ⟨b,o,rfl⟩
 ·obtain rfl:=Zt h.len;exact gr_ x w
 ·exact gq_ b o n cap l x w h hn hcap hc2
end
section
open Go.RowKit Go.Shelf Tryz
variable{α:Type}{b:Nat}{row:Option Nat}{t:TypeId}{v:Value}{A B:World}
attribute [local go_sem] YJ
theorem kK_ (h:Below A.heap.size A B):KeepsOthers A B:=
 KeepsOthers.of_grownBy (row:=none) ⟨h.os,h.tape,h.output,h.size,fun k hk _=>h.block k hk⟩ (fun j o e _=>by cases e)
theorem mR_ {B:Nat}{a:Option Addr}{n cap:Nat}{l:List Ex}{X Y:World}(h:Ad Ex.cs 2 t X B a n cap l)(hg:X.grownBy Y row)(hr:∀ r,row=some r->∃ o:Obj,X.heap[r]?=some o∧o.isCells=false):Ad Ex.cs 2 t Y B a n cap l:=by
 have hf:∀ b c,Blk X b c t->some b≠row:=fun b c hb e=>by
  obtain⟨o,ho,hc⟩:=hr b e.symm;rw[show X.heap[b]?=_ from hb] at ho;cases ho;cases hc
 rcases h.own with⟨rfl,rfl,rfl⟩ | ⟨b,rfl,hB,h1,h2,c,hc,q⟩
 ·exact⟨⟨h.sl.len,fun i x hx=>by obtain⟨b,o,ha,_⟩:=h.sl.cell i x hx;cases ha⟩,.inl ⟨rfl,rfl,rfl⟩⟩
 ·have hb:=hf b c hc;refine⟨⟨h.sl.len,fun i x hx=>?_⟩,.inr ⟨b,rfl,hB,h1,h2,c,?_,q⟩⟩
  ·obtain⟨b',o',ha,he⟩:=h.sl.cell i x hx
   cases ha
   exact⟨b,0,rfl,fun j v hv=>hg.cell (he j v hv) hb⟩
  ·show Y.heap[b]?=_;rw[hg.block b hc.lt hb];exact hc
theorem Boxed.belowB (h:Boxed A b t v)(hb:Below A.heap.size A B):Boxed B b t v:=(hb.block b h.lt).trans h
theorem aL_ (h:Boxed A b t v)(hg:A.grownBy B row)(hr:∀ r,row=some r->∃ o:Obj,A.heap[r]?=some o∧o.isCells=false):Boxed B b t v:=
 h.kept hg (fun e'=>by obtain⟨o,ho,hc⟩:=hr _ e'.symm;rw[show A.heap[b]?=_ from h] at ho;cases ho;cases hc)
def Gv (m:Int)(pre:List (Int×Int)):Prop:=∀ y∈pre,decide (m<=y.2)=false
def Got (W:World)(B:Nat)(l:List Ex)(d:ByteArray)(pre:List (Int×Int)):Prop:=
 ∃ pre' x a' n' cap',pre=pre'++[x]∧Gv d.size pre'∧decide ((d.size:Int)<=x.2)=true∧Boxed W (B+1+1) 24 (.slice a' n' cap')∧Ad Ex.cs 2 42 W B a' n' cap' (Cs l ⟨x.1,d⟩)∧Boxed W (B+1+1+1) 2 (.int .i64 x.1)∧Boxed W (B+1+1+1+1) 4 (.bool true)
theorem oG_ {f:α->Bool}{pre l:List α}{x:α}(h:pre++[x] <+: l)(hn:∀ y∈pre,f y=false)(hx:f x=true):l.find? f=some x:=by
 obtain⟨t,rfl⟩:=h;rw[ZC,List.find?_append,List.find?_eq_none.2 (fun y hy=>by simp[hn y hy])];simp[hx]
theorem G7 {w w1:World}{v0 v1 v2 v3 v4:Value}{t0 t1 t2 t3 t4:TypeId}(hb:Below (((((w.alloc (.cells #[v0] t0)).alloc (.cells #[v1] t1)).alloc (.cells #[v2] t2)).alloc (.cells #[v3] t3)).alloc (.cells #[v4] t4)).heap.size (((((w.alloc (.cells #[v0] t0)).alloc (.cells #[v1] t1)).alloc (.cells #[v2] t2)).alloc (.cells #[v3] t3)).alloc (.cells #[v4] t4)) w1):
  Boxed w1 w.heap.size t0 v0∧Boxed w1 (w.heap.size+1) t1 v1∧Boxed w1 (w.heap.size+1+1) t2 v2∧Boxed w1 (w.heap.size+1+1+1) t3 v3∧Boxed w1 (w.heap.size+1+1+1+1) t4 v4∧Below w.heap.size w w1:=by
 have e0:=((((Boxed.new w t0 v0).alloc (.cells #[v1] t1)).alloc (.cells #[v2] t2)).alloc (.cells #[v3] t3)).alloc (.cells #[v4] t4);have e1:=(((Boxed.new (w.alloc (.cells #[v0] t0)) t1 v1).alloc (.cells #[v2] t2)).alloc (.cells #[v3] t3)).alloc (.cells #[v4] t4);have e2:=((Boxed.new ((w.alloc (.cells #[v0] t0)).alloc (.cells #[v1] t1)) t2 v2).alloc (.cells #[v3] t3)).alloc (.cells #[v4] t4);have e3:=(Boxed.new (((w.alloc (.cells #[v0] t0)).alloc (.cells #[v1] t1)).alloc (.cells #[v2] t2)) t3 v3).alloc (.cells #[v4] t4);have e4:=Boxed.new ((((w.alloc (.cells #[v0] t0)).alloc (.cells #[v1] t1)).alloc (.cells #[v2] t2)).alloc (.cells #[v3] t3)) t4 v4;simp only[YN] at e1 e2 e3 e4;exact⟨Boxed.belowB e0 hb,Boxed.belowB e1 hb,Boxed.belowB e2 hb,Boxed.belowB e3 hb,Boxed.belowB e4 hb,Aa (by go_grown) hb⟩
end
section
open Go.RowKit Go.Shelf Tryz
variable{b:Nat}{row:Option Nat}{t:TypeId}{A B:World}
attribute [local go_sem] YJ
attribute [local go_sem] YJ
theorem gX_ (size:Int)(a:Option Addr)(n cap:Nat)(l:List Ex)(d:ByteArray)(w:World)(h:Bb w a n l)(hstr:BP l)(hn:n<=4194304)(hcap:n<=cap)(hc2:cap<=9223372036854775807)(hd:d.size<=9223372036854775807)(hA:(a=none∧n=0∧cap=0)∨∃ b o,a=some ⟨b,o,none⟩)(hbw:∀ ad,0<n->a=some ad->ad.block<w.heap.size):
  CallsIn Fence.wide 6 prog 141 #[.int .i64 size,.slice a n cap,.string d] w fun e w'=>Gw w.heap.size e w' (AV size l d)∧Below w.heap.size w w':=by
 have f41:Fence.wide.fn 33:=trivial;have f125:Fence.wide.fn 84:=trivial;have f114:Fence.wide.fn 34:=trivial;have ho:Hid (l.length=n):=h.len;by_cases hgo:Ao size l=true∧As d=true∧n≠60
 ·obtain⟨hm,hp,hx⟩:=hgo;have hE:((n:Int)==60)=false:=ZV.2 (by omega);have hf:AV size l d=((ggo size 1 l).find? (fun x=>decide ((d.size:Int)<=x.2))).map (fun x=>(Cs l ⟨x.1,d⟩,x.1)):=by unfold AV;rw[if_pos ⟨hm,hp,by rw[ho.out];exact hx⟩]
  rw[hf];obtain⟨hN,hO,hL,hR⟩:=cu_ hm;rw[ho.out] at hL;refine callsIn_of_wp_marks func141 rfl trivial ?_ rfl;simp only[ntmps141,YI,Zw,YK,Nat.reduceAdd,Nat.reduceSub,Array.replicate_succ,Array.replicate_zero,List.push_toArray,List.append_toArray,ZM,YF]
  gi_wp2_with (first | (gi_at_call 33;refine (callsIn_wide.2 (a8_ size _ n cap l _ (h.below (by go_grown)) hstr hn)).mono ?_;rintro e w1 ⟨rfl,he⟩;rw[hm];obtain⟨k0,k1,k2,k3,k4,hb⟩:=G7 he;clear he;have c0:=k0.cell;have c1:=k1.cell) | (gi_at_call 84;refine (callsIn_wide.2 (by_ d _ hd)).mono ?_;rintro e w2 ⟨rfl,rfl⟩;rw[hp]) | (gi_at_call 34;refine (pg_ _ size _ n cap _).mono ?_;rintro e w2 ⟨rfl,rfl⟩))
  have hz:=hb.size;have hP:w.heap.size+1+1+1+1<w2.heap.size:=k4.lt;have hJ:Below w.heap.size w ((w2.alloc (.cells #[.int .i64 size] 2)).alloc (.cells #[.slice a n cap] 24)):=(hb.alloc hz _).alloc (by simp;omega) _;have j0:=(k0.alloc (.cells #[.int .i64 size] 2)).alloc (.cells #[.slice a n cap] 24);have j1:=(k1.alloc (.cells #[.int .i64 size] 2)).alloc (.cells #[.slice a n cap] 24);have j2:=(k2.alloc (.cells #[.int .i64 size] 2)).alloc (.cells #[.slice a n cap] 24);have j3:=(k3.alloc (.cells #[.int .i64 size] 2)).alloc (.cells #[.slice a n cap] 24);have j4:=(k4.alloc (.cells #[.int .i64 size] 2)).alloc (.cells #[.slice a n cap] 24);have bS:=(Boxed.new w2 2 (.int .i64 size)).alloc (.cells #[.slice a n cap] 24)
  have bL:Boxed ((w2.alloc (.cells #[.int .i64 size] 2)).alloc (.cells #[.slice a n cap] 24)) (w2.heap.size+1) 24 (.slice a n cap):=by
   have:=Boxed.new (w2.alloc (.cells #[.int .i64 size] 2)) 24 (.slice a n cap)
   simpa using this
  have hQ:((w2.alloc (.cells #[.int .i64 size] 2)).alloc (.cells #[.slice a n cap] 24)).heap.size=w2.heap.size+1+1:=by simp
  clear k0 k1 k2 k3 k4 c0 c1;generalize (w2.alloc (.cells #[.int .i64 size] 2)).alloc (.cells #[.slice a n cap] 24)=W0 at *
  refine wpIn_rangeFunc_ownF rfl (by omega) (gf:=85) (lb:=#[.pointer (some ⟨w2.heap.size+1,0,none⟩),.pointer (some ⟨w2.heap.size,0,none⟩)]) rfl trivial (enters_of func85 (by kernel_rfl) rfl)
   (lz_ (6-1) (by omega) (w2.heap.size+1) w2.heap.size w.heap.size size a n cap l W0 (by omega) bL.cell bS.cell ⟨h.below hJ,hbw⟩ hR hN hO (by omega)) KpG.t (KpG.b (by omega) (by omega)) (Yg _ _) (fun _=>rfl)
   (fun pre W=>(Gv d.size pre∧Boxed W w.heap.size 24 (.slice a n cap)∧Boxed W (w.heap.size+1) 9 (.string d)∧Boxed W (w.heap.size+1+1) 24 (.slice none 0 0)∧Boxed W (w.heap.size+1+1+1) 2 (.int .i64 0)∧Boxed W (w.heap.size+1+1+1+1) 4 (.bool false))∧Below w.heap.size w W)
   (fun c pre W=>(c=.ret∧Got W w.heap.size l d pre)∧Below w.heap.size w W)
   (OwnFrom.and (fun s A B row hs hg hr=>⟨hs.1,aL_ hs.2.1 hg (fun r e=>(hr r e).2),aL_ hs.2.2.1 hg (fun r e=>(hr r e).2),aL_ hs.2.2.2.1 hg (fun r e=>(hr r e).2),aL_ hs.2.2.2.2.1 hg (fun r e=>(hr r e).2),aL_ hs.2.2.2.2.2 hg (fun r e=>(hr r e).2)⟩) (ownFrom_below (Zd _) (by omega)))
   (fun c=>OwnFrom.and (fun s A B row hs hg hr=>by
    obtain⟨hc,pre',x,a',n',cap',e1,e2,e3,g1,g2,g3,g4⟩:=hs;exact⟨hc,pre',x,a',n',cap',e1,e2,e3,aL_ g1 hg (fun r e=>(hr r e).2),mR_ g2 hg (fun r e=>(hr r e).2),aL_ g3 hg (fun r e=>(hr r e).2),aL_ g4 hg (fun r e=>(hr r e).2)⟩) (ownFrom_below (Zd _) (by omega)))
   ⟨⟨fun y hy=>by simp at hy,j0,j1,j2,j3,j4⟩,hJ⟩
   (fun x=>{tmps:=#[.int .i64 size,.slice a n cap,.string d,undef,.pointer (some ⟨w.heap.size,0,none⟩),.pointer (some ⟨w.heap.size+1,0,none⟩),.pointer (some ⟨w.heap.size+1+1,0,none⟩),.pointer (some ⟨w.heap.size+1+1+1,0,none⟩),.pointer (some ⟨w.heap.size+1+1+1+1,0,none⟩),.int .i64 x.1,.int .i64 x.2,.int .i64 size,.slice a n cap,.bool true,.bool false,.bool false,.string d,.bool true,.bool false,.bool false,.bool false,.slice a n cap,.int .i64 n,.bool false,.bool false,.int .i64 size,.slice a n cap,.func (.func 85) #[] #[.pointer (some ⟨w2.heap.size+1,0,none⟩),.pointer (some ⟨w2.heap.size,0,none⟩)],.int .i64 x.1,.int .i64 x.2,undef,undef,undef,undef,undef,undef,undef,undef,undef,undef],defers:=[]}) ?assign ?body ?done ?stop
  case assign=>
   intro l x W K hK
   gi_wp2
   exact hK
  case body=>
   rintro lp pre x W ⟨⟨hC,p0,p1,p2,p3,p4⟩,hB⟩ hS;have c0:=p0.cell;have c1:=p1.cell;have fw:Fence.wide.fn 160:=trivial;by_cases hfit:(d.size:Int)<=x.2
   ·gi_wp2_with (gi_at_call 160;refine (CallsIn.inRound lp (callsIn_wide.2 (gs_ a n cap l ⟨x.1,d⟩ W (h.below hB) (by omega) hcap hc2 hA))).mono ?_;rintro e w3 ⟨⟨a',n',cap',rfl,hv⟩,hq⟩;have p2':=Boxed.belowB p2 hq;have p3':=Boxed.belowB p3 hq;have p4':=Boxed.belowB p4 hq;have c2:=p2'.cell;have f2:=p2'.frozen;have c3:=p3'.cell;have f3:=p3'.frozen;have c4:=p4'.cell;have f4:=p4'.frozen)
    have m2:=p2.lt;have m3:=p3.lt;have m4:=p4.lt;have q2:=((p2'.set (.slice a' n' cap')).other (B':=w.heap.size+1+1+1) (by omega) (.int .i64 x.1)).other (B':=w.heap.size+1+1+1+1) (by omega) (.bool true);have q3:=((p3'.other (B':=w.heap.size+1+1) (by omega) (.slice a' n' cap')).set (.int .i64 x.1)).other (B':=w.heap.size+1+1+1+1) (by omega) (.bool true);have q4:=((p4'.other (B':=w.heap.size+1+1) (by omega) (.slice a' n' cap')).other (B':=w.heap.size+1+1+1) (by omega) (.int .i64 x.1)).set (.bool true);have hG:=hv.block;have hw:=((hv.grown (grownBy_setCell' w3 (w.heap.size+1+1) (.slice a' n' cap')) (fun ad ht=>by have:=(hG ad ht).1;omega)).grown (grownBy_setCell' _ (w.heap.size+1+1+1) (.int .i64 x.1)) (fun ad ht=>by have:=(hG ad ht).1;omega)).grown (grownBy_setCell' _ (w.heap.size+1+1+1+1) (.bool true)) (fun ad ht=>by have:=(hG ad ht).1;omega);have hh:=(((Aa hB hq).setCell (p:=⟨w.heap.size+1+1,0,none⟩) (by simp;omega) (.slice a' n' cap')).setCell (p:=⟨w.heap.size+1+1+1,0,none⟩) (by simp;omega) (.int .i64 x.1)).setCell (p:=⟨w.heap.size+1+1+1+1,0,none⟩) (by simp;omega) (.bool true);exact⟨(((kK_ hq).trans (KeepsOthers.setCell _ _ _)).trans (KeepsOthers.setCell _ _ _)).trans (KeepsOthers.setCell _ _ _),⟨rfl,pre,x,a',n',cap',rfl,hC,by simpa using hfit,q2,hw.mono (by omega),q3,q4⟩,hh⟩
   ·have hH:Gv d.size (pre++[x]):=fun y hy=>by
     rcases Zs.1 hy with hy | hy
     ·exact hC y hy
     ·simp at hy;subst hy;simpa using hfit
    gi_wp2
    exact⟨KeepsOthers.refl _,KpG.refl _ _ _ _,⟨hH,p0,p1,p2,p3,p4⟩,hB⟩
  case done=>
   rintro D ys W hD rfl ⟨⟨hC,p0,p1,p2,p3,p4⟩,hB⟩ hK;have c2:=p2.cell;have f2:=p2.frozen;have c3:=p3.cell;have f3:=p3.frozen;have c4:=p4.cell;have f4:=p4.frozen;have q2:=((p2.set (.slice none 0 0)).other (B':=w.heap.size+1+1+1) (by omega) (.int .i64 0)).other (B':=w.heap.size+1+1+1+1) (by omega) (.bool false);have q3:=((p3.other (B':=w.heap.size+1+1) (by omega) (.slice none 0 0)).set (.int .i64 0)).other (B':=w.heap.size+1+1+1+1) (by omega) (.bool false);have q4:=((p4.other (B':=w.heap.size+1+1) (by omega) (.slice none 0 0)).other (B':=w.heap.size+1+1+1) (by omega) (.int .i64 0)).set (.bool false);have hh:=((hB.setCell (p:=⟨w.heap.size+1+1,0,none⟩) (by simp;omega) (.slice none 0 0)).setCell (p:=⟨w.heap.size+1+1+1,0,none⟩) (by simp;omega) (.int .i64 0)).setCell (p:=⟨w.heap.size+1+1+1+1,0,none⟩) (by simp;omega) (.bool false);have hF:=(((KeepsOthers.setCell W ⟨w.heap.size+1+1,0,none⟩ (.slice none 0 0)).trans (KeepsOthers.setCell _ ⟨w.heap.size+1+1+1,0,none⟩ (.int .i64 0))).trans (KeepsOthers.setCell _ ⟨w.heap.size+1+1+1+1,0,none⟩ (.bool false))).same D _ hK rfl
   gi_wp2
   generalize ((W.setCell ⟨w.heap.size+1+1,0,none⟩ (.slice none 0 0)).setCell ⟨w.heap.size+1+1+1,0,none⟩ (.int .i64 0)).setCell ⟨w.heap.size+1+1+1+1,0,none⟩ (.bool false)=W4 at *;refine⟨by simp,.inl ⟨_,_,rfl,run_takeDeferred hF,?_⟩⟩;have ha:∀ r,some D=some r->∃ o:Obj,W4.heap[r]?=some o∧o.isCells=false:=fun r e=>by cases e;exact⟨_,hF,rfl⟩
   have hj:=(aL_ q2 (grownBy_putObj' W4 D (.deferred none)) ha).cell;have hk:=(aL_ q3 (grownBy_putObj' W4 D (.deferred none)) ha).cell;have hl:=(aL_ q4 (grownBy_putObj' W4 D (.deferred none)) ha).cell;refine⟨.tuple #[.slice none 0 0,.int .i64 0,.bool false],?_,?_,hh.trans (belowK_b (w:=w) (Zd _) W4 D _ _ (by omega) hF rfl rfl)⟩
   ·simp[results,Tryz.f141,go_sem,hj,hk,hl]
   ·rw[List.find?_eq_none.2 (fun y hy=>by rw[hC y hy];simp)];rfl
  case stop=>
   rintro D c pre W hD hI ⟨⟨rfl,pre',x,a',n',cap',rfl,e2,e3,g1,g2,g3,g4⟩,hB⟩ hK
   gi_wp2
   refine⟨by simp,.inl ⟨_,_,rfl,run_takeDeferred hK,?_⟩⟩;have ha:∀ r,some D=some r->∃ o:Obj,W.heap[r]?=some o∧o.isCells=false:=fun r e=>by cases e;exact⟨_,hK,rfl⟩
   have hj:=(aL_ g1 (grownBy_putObj' W D (.deferred none)) ha).cell;have hk:=(aL_ g3 (grownBy_putObj' W D (.deferred none)) ha).cell;have hl:=(aL_ g4 (grownBy_putObj' W D (.deferred none)) ha).cell;have hM:=mR_ g2 (grownBy_putObj' W D (.deferred none)) ha;refine⟨.tuple #[.slice a' n' cap',.int .i64 x.1,.bool true],?_,?_,hB.trans (belowK_b (w:=w) (Zd _) W D _ _ (by omega) hK rfl rfl)⟩
   ·simp[results,Tryz.f141,go_sem,hj,hk,hl]
   ·rw[oG_ hI e2 e3];exact⟨a',n',cap',rfl,hM⟩
 ·have hf:AV size l d=none:=by
   unfold AV;rw[if_neg (fun e=>hgo ⟨e.1,e.2.1,by rw[<-ho.out];exact e.2.2⟩)]
  rw[hf]
  have hu:Ao size l=false∨(Ao size l=true∧As d=false)∨(Ao size l=true∧As d=true∧n=60):=by
   cases h1:Ao size l
   ·exact .inl rfl
   ·cases h2:As d
    ·exact .inr (.inl ⟨rfl,rfl⟩)
    ·exact .inr (.inr ⟨rfl,rfl,Classical.byContradiction fun e=>hgo ⟨h1,h2,e⟩⟩)
  clear hgo hf;rcases hu with hm | ⟨hm,hp⟩ | ⟨hm,hp,hx⟩
  ·skip
   refine callsIn_of_wp_marks func141 rfl trivial ?_ rfl;simp only[ntmps141,YI,Zw,YK,Nat.reduceAdd,Nat.reduceSub,Array.replicate_succ,Array.replicate_zero,List.push_toArray,List.append_toArray,ZM,YF]
   gi_wp2_with (gi_at_call 33;refine (callsIn_wide.2 (a8_ size _ n cap l _ (h.below (by go_grown)) hstr hn)).mono ?_;rintro e w1 ⟨rfl,he⟩;rw[hm];obtain⟨k0,k1,k2,k3,k4,hb⟩:=G7 he;clear he;have c0:=k0.cell;have c1:=k1.cell;have c2:=k2.cell;have f2:=k2.frozen;have c3:=k3.cell;have f3:=k3.frozen;have c4:=k4.cell;have f4:=k4.frozen)
   have hz:=hb.size;have q2:=((k2.set (.slice none 0 0)).other (B':=w.heap.size+1+1+1) (by omega) (.int .i64 0)).other (B':=w.heap.size+1+1+1+1) (by omega) (.bool false);have q3:=((k3.other (B':=w.heap.size+1+1) (by omega) (.slice none 0 0)).set (.int .i64 0)).other (B':=w.heap.size+1+1+1+1) (by omega) (.bool false);have q4:=((k4.other (B':=w.heap.size+1+1) (by omega) (.slice none 0 0)).other (B':=w.heap.size+1+1+1) (by omega) (.int .i64 0)).set (.bool false);have hh:=((hb.setCell (p:=⟨w.heap.size+1+1,0,none⟩) (by simp;omega) (.slice none 0 0)).setCell (p:=⟨w.heap.size+1+1+1,0,none⟩) (by simp;omega) (.int .i64 0)).setCell (p:=⟨w.heap.size+1+1+1+1,0,none⟩) (by simp;omega) (.bool false);generalize ((w1.setCell ⟨w.heap.size+1+1,0,none⟩ (.slice none 0 0)).setCell ⟨w.heap.size+1+1+1,0,none⟩ (.int .i64 0)).setCell ⟨w.heap.size+1+1+1+1,0,none⟩ (.bool false)=W4 at *;have hj:=q2.cell;have hk:=q3.cell;have hl:=q4.cell;exact⟨.tuple #[.slice none 0 0,.int .i64 0,.bool false],by simp[results,Tryz.f141,go_sem,hj,hk,hl],rfl,hh⟩
  ·skip
   refine callsIn_of_wp_marks func141 rfl trivial ?_ rfl;simp only[ntmps141,YI,Zw,YK,Nat.reduceAdd,Nat.reduceSub,Array.replicate_succ,Array.replicate_zero,List.push_toArray,List.append_toArray,ZM,YF]
   gi_wp2_with (first | (gi_at_call 33;refine (callsIn_wide.2 (a8_ size _ n cap l _ (h.below (by go_grown)) hstr hn)).mono ?_;rintro e w1 ⟨rfl,he⟩;rw[hm];obtain⟨k0,k1,k2,k3,k4,hb⟩:=G7 he;clear he;have c0:=k0.cell;have c1:=k1.cell;have c2:=k2.cell;have f2:=k2.frozen;have c3:=k3.cell;have f3:=k3.frozen;have c4:=k4.cell;have f4:=k4.frozen) | (gi_at_call 84;refine (callsIn_wide.2 (by_ d _ hd)).mono ?_;rintro e w2 ⟨rfl,rfl⟩;rw[hp]))
   have hz:=hb.size;have q2:=((k2.set (.slice none 0 0)).other (B':=w.heap.size+1+1+1) (by omega) (.int .i64 0)).other (B':=w.heap.size+1+1+1+1) (by omega) (.bool false);have q3:=((k3.other (B':=w.heap.size+1+1) (by omega) (.slice none 0 0)).set (.int .i64 0)).other (B':=w.heap.size+1+1+1+1) (by omega) (.bool false);have q4:=((k4.other (B':=w.heap.size+1+1) (by omega) (.slice none 0 0)).other (B':=w.heap.size+1+1+1) (by omega) (.int .i64 0)).set (.bool false);have hh:=((hb.setCell (p:=⟨w.heap.size+1+1,0,none⟩) (by simp;omega) (.slice none 0 0)).setCell (p:=⟨w.heap.size+1+1+1,0,none⟩) (by simp;omega) (.int .i64 0)).setCell (p:=⟨w.heap.size+1+1+1+1,0,none⟩) (by simp;omega) (.bool false);generalize ((w2.setCell ⟨w.heap.size+1+1,0,none⟩ (.slice none 0 0)).setCell ⟨w.heap.size+1+1+1,0,none⟩ (.int .i64 0)).setCell ⟨w.heap.size+1+1+1+1,0,none⟩ (.bool false)=W4 at *;have hj:=q2.cell;have hk:=q3.cell;have hl:=q4.cell;exact⟨.tuple #[.slice none 0 0,.int .i64 0,.bool false],by simp[results,Tryz.f141,go_sem,hj,hk,hl],rfl,hh⟩
  ·have hE:((n:Int)==60)=true:=by simp[hx]
   clear hx;refine callsIn_of_wp_marks func141 rfl trivial ?_ rfl;simp only[ntmps141,YI,Zw,YK,Nat.reduceAdd,Nat.reduceSub,Array.replicate_succ,Array.replicate_zero,List.push_toArray,List.append_toArray,ZM,YF]
   gi_wp2_with (first | (gi_at_call 33;refine (callsIn_wide.2 (a8_ size _ n cap l _ (h.below (by go_grown)) hstr hn)).mono ?_;rintro e w1 ⟨rfl,he⟩;rw[hm];obtain⟨k0,k1,k2,k3,k4,hb⟩:=G7 he;clear he;have c0:=k0.cell;have c1:=k1.cell;have c2:=k2.cell;have f2:=k2.frozen;have c3:=k3.cell;have f3:=k3.frozen;have c4:=k4.cell;have f4:=k4.frozen) | (gi_at_call 84;refine (callsIn_wide.2 (by_ d _ hd)).mono ?_;rintro e w2 ⟨rfl,rfl⟩;rw[hp]))
   have hz:=hb.size;have q2:=((k2.set (.slice none 0 0)).other (B':=w.heap.size+1+1+1) (by omega) (.int .i64 0)).other (B':=w.heap.size+1+1+1+1) (by omega) (.bool false);have q3:=((k3.other (B':=w.heap.size+1+1) (by omega) (.slice none 0 0)).set (.int .i64 0)).other (B':=w.heap.size+1+1+1+1) (by omega) (.bool false);have q4:=((k4.other (B':=w.heap.size+1+1) (by omega) (.slice none 0 0)).other (B':=w.heap.size+1+1+1) (by omega) (.int .i64 0)).set (.bool false);have hh:=((hb.setCell (p:=⟨w.heap.size+1+1,0,none⟩) (by simp;omega) (.slice none 0 0)).setCell (p:=⟨w.heap.size+1+1+1,0,none⟩) (by simp;omega) (.int .i64 0)).setCell (p:=⟨w.heap.size+1+1+1+1,0,none⟩) (by simp;omega) (.bool false);generalize ((w2.setCell ⟨w.heap.size+1+1,0,none⟩ (.slice none 0 0)).setCell ⟨w.heap.size+1+1+1,0,none⟩ (.int .i64 0)).setCell ⟨w.heap.size+1+1+1+1,0,none⟩ (.bool false)=W4 at *;have hj:=q2.cell;have hk:=q3.cell;have hl:=q4.cell;exact⟨.tuple #[.slice none 0 0,.int .i64 0,.bool false],by simp[results,Tryz.f141,go_sem,hj,hk,hl],rfl,hh⟩
theorem jy_ (size:Int)(a:Option Addr)(n cap:Nat)(l:List Ex)(d:ByteArray)(w:World)(h:Bb w a n l)(hstr:BP l)(hn:n<=4194304)(hcap:n<=cap)(hc2:cap<=9223372036854775807)(hd:d.size<=9223372036854775807)(hA:(a=none∧n=0∧cap=0)∨∃ b o,a=some ⟨b,o,none⟩)(hbw:∀ ad,0<n->a=some ad->ad.block<w.heap.size):
  Calls prog 141 #[.int .i64 size,.slice a n cap,.string d] w fun e w'=>Gw w.heap.size e w' (AV size l d)∧Below w.heap.size w w':=
 callsIn_wide.1 (gX_ size a n cap l d w h hstr hn hcap hc2 hd hA hbw)
end
section
open Go Go.RowKit Go.BigFrame
variable{α:Type}{rows:List VR}{B b cap i n vb vc vn:Nat}{a:Option Addr}{t:TypeId}{r:VR}{y:Vo}{w w':World}
theorem oH_ {cs:α->List Value}{sz:Nat}{l:List α}(h:Ad cs sz t w B a n cap l):((a=none∧n=0∧cap=0)∨∃ b o,a=some ⟨b,o,none⟩)∧n<=cap∧cap<=9223372036854775807:=by
 rcases h.own with⟨rfl,rfl,rfl⟩ | ⟨b,rfl,_,h3,h4,_⟩
 ·exact⟨.inl ⟨rfl,rfl,rfl⟩,Zd _,by omega⟩
 ·exact⟨.inr ⟨b,0,rfl⟩,h3,by unfold maxLen at h4;omega⟩
def H0 (S:Addr->Prop)(B pb vb vn vc i:Nat)(size next:Int)(vv rv lv:Value)(rows:List VR)(r:VR)(y:Vo)(w:World)(e:Ending)(w':World):Int⊕(List Ex×List It)->Prop
 |.inl c=>(∃ a,S a∧e=.returned (BJ c a))∧FrL (pb::vb::AT r.pa) w w'
 |.inr (L,its)=>e=.returned .nilIface∧∃ ea' en' ec' r',Blk w' pb #[.int .i64 size,.int .i64 next,.slice ea' en' ec',vv,rv,lv] 28∧Ad Ex.cs 2 42 w' B ea' en' ec' L∧Ad vrs 4 38 w' B (some ⟨vb,0,none⟩) vn vc (rows.set i r')∧Bd B w' r' {y with its:=its}∧FrL (pb::vb::AT r.pa) w w'∧Fw w r w' r'
def Cd (size:Int)(ex:List Ex)(y:Vo)(file:ByteArray)(at':Int)(d:ByteArray):Int⊕(List Ex×List It):=match AV size ex d with
 |none=>.inl 5
 |some (L,x)=>match Bu y file ((AO y file).getD []) at' [⟨x,0,d.size⟩] with | .inl c=>.inl c | .inr its=>.inr (L,its)
theorem bD_ {c c':Array Value}{t':TypeId}(h:Blk w b c t)(h':Blk w b c' t')(hn:t≠t'):False:=by
 unfold Blk at h h';rw[h] at h';injection h' with q;injection q with _ q2;exact hn q2
theorem qs_ {L:List Ex}{ad:Addr}(F:Foc B vb vn vc i rows r y w)(R:Ad Ex.cs 2 42 w B a n cap L)(e:a=some ad)(hm:ad.block∈vb::AT r.pa):False:=by
 rcases R.own with⟨q0,_⟩ | ⟨b1,q0,_,_,_,c1,h1,_⟩
 ·rw[q0] at e;cases e
 rw[q0] at e
 cases e
 rcases Zn.1 hm with h | h
 ·obtain⟨cv,he⟩:=F.rv.blkAt;simp only at h;rw[h] at h1;exact bD_ h1 he (by decide)
 ·obtain⟨xx,ha,hc⟩:=aO_.1 h;obtain⟨rs,RI,_⟩:=F.v.its;rcases RI.own with⟨q1,_⟩ | ⟨bb,q1,_,_,_,cc,hb,_⟩
  ·rw[q1] at ha;cases ha
  ·rw[q1] at ha
   cases ha
   simp only at hc;rw[hc] at hb;exact bD_ h1 hb (by decide)
theorem lW_ (S:Addr->Prop)(B:Nat)(h0:0<B)(pb vb vn vc i:Nat)(size next:Int)(ea:Option Addr)(en ec:Nat)(vv rv lv:Value)(ex:List Ex)(rows:List VR)(r:VR)(y:Vo)(vol file:ByteArray)(at':Int)(d:ByteArray)(w:World)(hBw:B<=w.heap.size)(hglob:11<=pb)(P:Blk w pb #[.int .i64 size,.int .i64 next,.slice ea en ec,vv,rv,lv] 28)(RE:Ad Ex.cs 2 42 w B ea en ec ex)(hex:BP ex)(hel:ex.length<=4194304)(hd:d.size<=1000000)(F:Foc B vb vn vc i rows r y w)(hS:BO S w):
  Calls Tryz.prog 98 #[.pointer (some ⟨pb,0,none⟩),.pointer (some ⟨vb,i*4,none⟩),.agg #[.string vol,.string file,.int .i64 at',.string d]] w fun e w'=>H0 S B pb vb vn vc i size next vv rv lv rows r y w e w' (Cd size ex y file at' d):=by
 have hR:Hid (Cd size ex y file at' d=match AV size ex d with | none=>.inl 5 | some (L,x)=>match Bu y file ((AO y file).getD []) at' [⟨x,0,d.size⟩] with | .inl c=>.inl c | .inr its=>.inr (L,its)):=rfl;generalize Cd size ex y file at' d=R at *;have hO:en<=4194304:=by rw[<-RE.sl.len];exact hel
 obtain⟨rs0,hh,_⟩:=F.v.its;have hy:∀ rs,AE irs 2 w r.pa r.pn rs->rs=rs0:=fun rs h=>co_ h hh.sl;obtain⟨W0,ho⟩:∃ W,W=w.alloc (.cells #[.string vol,.string file,.int .i64 at',.string d] 170):=⟨_,rfl⟩;have hz:Below w.heap.size w W0:=by rw[ho];exact (Yg _ _).alloc (Zd _) _
 have Xb:Blk W0 w.heap.size #[.string vol,.string file,.int .i64 at',.string d] 170:=by rw[ho];exact Blk.new _ _ _
 go_enter Tryz.func98,Tryz.ntmps98
 go_wp2_with fail
 rw[<-ho];clear ho;have hW:Below W0.heap.size W0 W0.drew:=(Yg _ _).drew;have hC:=Aa hz hW;replace F:=F.below hC;replace hh:=hh.below hC;replace hS:=hS.below hC;replace P:=P.below hC;replace RE:=RE.below hC;replace Xb:=Xb.below hW;have h8:=hC.size;obtain⟨p0,p1,p2,p3,p4,p5⟩:=P.six';have xd:W0.drew.cell? ⟨w.heap.size,3,none⟩=some (.string d):=Xb.cell 3;clear hz;have hZ:(fun u=>u.cell? ⟨pb,0,none⟩=some (.int .i64 size)∧u.cell? ⟨pb,2,none⟩=some (.slice ea en ec)∧u.cell? ⟨w.heap.size,3,none⟩=some (.string d)) W0.drew:=⟨p0,p2,xd⟩;refine aC_ (S:=(fun u=>u.cell? ⟨pb,0,none⟩=some (.int .i64 size)∧u.cell? ⟨pb,2,none⟩=some (.slice ea en ec)∧u.cell? ⟨w.heap.size,3,none⟩=some (.string d))) 18 (by kernel_rfl) rfl ?_;generalize W0.drew=u0 at *;refine tk 0 ?_;refine tk 1 ?_;refine tk 2 ?_;refine tk 3 ?_;refine tk 4 ?_;refine tk 5 ?_;refine tk 6 ?_;refine tk 7 ?_;refine tk 8 ?_;refine tk 9 ?_;refine AW (i:=10) (by kernel_rfl) rfl (fun K hK=>?_);go_simp;obtain⟨hH,hI,hJ⟩:=oH_ RE;refine (jy_ size ea en ec ex d u0 RE.sl hex hO hI hJ (by omega) hH (fun ad _ e=>(RE.block ad e).2)).mono ?_;rintro e u1 ⟨hq,hg⟩;have hB:=Aa hC hg;replace F:=F.below hg;replace hh:=hh.below hg;replace hS:=hS.below hg;replace P:=P.below hg;replace Xb:=Xb.below hg;clear p0 p1 p2 p3 p4 p5 xd;obtain⟨p0,p1,p2,p3,p4,p5⟩:=P.six';obtain⟨x0,x1,x2,x3⟩:=Xb.four;have h5:=hg.size
 cases hj:AV size ex d with
 |none=>
  rw[hj] at hq;obtain rfl:=hq;dsimp only;refine hK.out _ _ ⟨p0,p2,x3⟩ (fun hHeld=>?_);clear hK K
  try simp only[Act.put,lsA,lsB,lsC]
  refine tk 11 ?_;refine tk 12 ?_;refine tk 13 ?_;refine tk 14 ?_;refine tk 15 ?_;refine tk 16 ?_;refine tk 17 ?_;refine wpAnyH_done (by kernel_rfl) ?_ _;obtain⟨er,hT,hX⟩:=hS.room;have g:u1.cell? ⟨7,0,none⟩=_:=hT;go_wp2;go_returns;rw[hR.out,hj];exact⟨⟨er,hX,rfl⟩,FrL.of_below hB⟩
 |some Lx=>
  obtain⟨L,x⟩:=Lx;rw[hj] at hq;obtain⟨ea',en',ec',rfl,RL⟩:=hq;dsimp only;refine hK.out _ _ ⟨p0,p2,x3⟩ (fun hHeld=>?_);clear hK K
  try simp only[Act.put,lsA,lsB,lsC]
  refine tk 11 ?_;refine tk 12 ?_;refine tk 13 ?_;refine tk 14 ?_;refine tk 15 ?_;refine tk 16 ?_;refine tk 17 ?_;refine wpAnyH_done (by kernel_rfl) ?_ _;have f2:=P.frozen 2
  go_wp2_with fail
  have hc:u1.grownBy (u1.setCell ⟨pb,2,none⟩ (.slice ea' en' ec')) (some pb):=af_ (Yh _ _) _ _;have P2:=P.set 2 (.slice ea' en' ec');simp only[Yj,Yq,Yr] at P2;have F2:=F.tyP hc (aa_ P);have hs:=hh.ty hc (aa_ P) (by decide);have hn:=(RL.ty hc (aa_ P) (by decide)).mono (show B<=u0.heap.size by omega);have X2:=Xb.ty hc (aa_ P) (by decide);have ht:=(FrL.of_below (bs:=pb::vb::AT r.pa) hB).new (FrL.of_grown (bs:=[pb]) hc (fun k e=>.inl (by cases e;simp))) (fun k hk=>.inl (by simp at hk;subst hk;simp));have hu:BO S (u1.setCell ⟨pb,2,none⟩ (.slice ea' en' ec')):=hS.grown hc hglob;have h6:u1.heap.size<=(u1.setCell ⟨pb,2,none⟩ (.slice ea' en' ec')).heap.size:=hc.size;generalize u1.setCell ⟨pb,2,none⟩ (.slice ea' en' ec')=w2 at *;clear p0 p1 p2 p3 p4 p5 x0 x1 x2 x3 f2 hc;refine (bv_ B vb (i*4) h0 y file w2 (F2.v.at F2.rv F2.hi) (by have:=F2.len;omega) F2.str).mono ?_;rintro e w3 ⟨ha,hb⟩;replace P2:=P2.below hb;replace F2:=F2.below hb;replace hs:=hs.below hb;replace hn:=hn.below hb;replace X2:=X2.below hb;replace hu:=hu.below hb;replace ht:=ht.new (FrL.of_below (bs:=[]) hb) (fun k hk=>by simp at hk);have h7:=hb.size;change CW B e w3 (AO y file) at ha
  obtain⟨pa,pn,pc,bk,rfl,hN,hM,hL⟩:∃ pa pn pc bk,e=.returned (.tuple #[.slice pa pn pc,.bool bk])∧AM w3 pa pn ((AO y file).getD [])∧pn<=4194304∧∀ ad,pa=some ad->ad.block<w3.heap.size:=by
   cases hf:AO y file with
   |none=>rw[hf] at ha;exact⟨none,0,0,false,ha,(aB_ (t:=146) (B:=0)).sl,by omega,fun ad e=>by cases e⟩
   |some l=>
    rw[hf] at ha;obtain⟨pa,pn,pc,he,h1,h2,h3,h4⟩:=ha;exact⟨pa,pn,pc,true,he,h1,by rw[<-h1.len];exact h3,h4⟩
  clear ha hb;obtain⟨x0,x1,x2,x3⟩:=X2.four;obtain⟨ep,hP,hV⟩:=hu.parts
  go_wp2_with fail
  have hA:Below w3.heap.size w3 (w3.alloc (.cells #[.int .i64 x,.int .i64 0,.int .i64 (d.size:Int)] 146)):=(Yg _ _).alloc (Zd _) _;have hQ:AM (w3.alloc (.cells #[.int .i64 x,.int .i64 0,.int .i64 (d.size:Int)] 146)) (some ⟨w3.heap.size,0,none⟩) 1 [⟨x,0,d.size⟩]:=jo_ (⟨x,0,d.size⟩:Pt) (Blk.new w3 #[.int .i64 x,.int .i64 0,.int .i64 (d.size:Int)] 146) rfl;refine (Di B vb vn vc i rows r y file pa pn pc ((AO y file).getD []) at' (some ⟨w3.heap.size,0,none⟩) 1 1 [⟨x,0,d.size⟩] ep _ (by have:=hA.size;omega) (F2.below hA) (hN.below hA) hM (fun ad e=>Zy (hL ad e) hA.size) hQ (by omega) (fun ad e=>by cases e;simp) (hP.below hA)).mono ?_;rintro e w4 hx;have hD:=ht.new (FrL.of_below (bs:=[]) hA) (fun k hk=>by simp at hk)
  have hY:¬ pb=vb:=by
   obtain⟨cv,hv⟩:=F2.rv.blkAt;intro e;rw[e] at P2;unfold Blk at P2 hv;rw[P2] at hv;injection hv with q;injection q with _ q2
   exact absurd q2 (by decide)
  rcases hx with⟨hl,rfl,hG⟩ | ⟨ps,hl,rfl,r',h1,h2,h3,h4⟩
  ·unfold BJ;go_wp2;go_returns;rw[hR.out,hj];have hw:Bu y file ((AO y file).getD []) at' [⟨x,0,d.size⟩]=.inl 5:=by unfold Bu;rw[hl]
   simp only[hw];exact⟨⟨ep,hV,rfl⟩,hD.new (FrL.of_below (bs:=[]) hG) (fun k hk=>by simp at hk)⟩
  ·have P4:=(P2.below hA).frl h3 (by
    intro hm;rcases Zn.1 hm with h | h
    ·exact hY h
    ·obtain⟨xx,hr,hE⟩:=aO_.1 h;obtain⟨rs,RI,_⟩:=F2.v.its;rcases RI.own with⟨q0,_⟩ | ⟨bb,q0,_,_,_,cc,hp,_⟩
     ·rw[q0] at hr;cases hr
     ·rw[q0] at hr
      cases hr
      simp only at hE;rw[hE] at hp;unfold Blk at P2 hp;rw[P2] at hp;injection hp with q;injection q with _ q2
      exact absurd q2 (by decide))
   have hF:=(hn.below hA).frl h3 (fun ad e hm=>qs_ F2 hn e hm);go_wp2;go_returns;rw[hR.out,hj];have hw:Bu y file ((AO y file).getD []) at' [⟨x,0,d.size⟩]=.inr (A9 ⟨file,ps⟩ y.its):=by unfold Bu;rw[hl]
   simp only[hw];exact⟨rfl,ea',en',ec',r',P4,hF,h1,h2,hD.new h3 (fun k hk=>.inl (ZY _ hk)),⟨fun ad e=>(h4.1 ad e).imp id (fun q=>by have:=hA.size;omega),fun rs hU=>by rw[hy rs hU];exact (h4.2 rs0 (hs.below hA).sl).mono (by have:=hA.size;omega)⟩⟩
end
section
open Go Go.RowKit Go.BigFrame Tryz
variable{α:Type}{rows:List VR}{vs:List Vo}{B b ec en i lc rc rn vb vc vn:Nat}{ea la ra:Option Addr}{y:Vo}{w w':World}{l:List α}{x:α}
def BS (vb:Nat):Option Nat->Value
 |none=>.pointer none
 |some i=>.pointer (some ⟨vb,i*4,none⟩)
theorem kL_ {D:DataW Unit}(hO:w.ownsMap prog 9 (A5 vb) b vn D)(hV:DC D 0 vs)(hnd:(vs.map (·.nm.toList)).Nodup)(s:ByteArray)(hs:s.size<=1048576):(Instr.lookup 75 (.map (some b)) (.string s) false).run prog w=.ok (BS vb (volI vs s)) w:=by
 have hg:∀ u:World,(zeroValue 89).run prog u=.ok (.pointer none) u:=fun u=>by kernel_rfl
 rcases oB_ hO keyed9 underlying75 (hg w) (HI (s:=s) (by unfold maxLen;omega)) with⟨ha,he⟩ | ⟨val,y,ha,hc,hb,hf⟩
 ·rw[hV.has] at he;rw[ha,nz_ he];rfl
 ·obtain⟨o,rfl,hy⟩:=eu_ hc;obtain⟨i,x,hi,rfl,rfl⟩:=hP_ hV hnd hb hc hf;rw[ha,pH_ hnd hi];simp only[BS,Zq]
theorem iW_ (B:Nat)(size next:Int)(ea:Option Addr)(en ec:Nat)(va:Option Addr)(vn vc:Nat)(ra:Option Addr)(rn rc:Nat)(la:Option Addr)(ln lc:Nat)(vb:Nat)(rows:List VR)(vs:List Vo)(hva:0<vn->va=some ⟨vb,0,none⟩)(w:World)(RV:Ad vrs 4 38 w B va vn vc rows)(T:Ax B w rows vs)(hvn:vn<=4194304)(hst:DB vs)(hnd:(vs.map (·.nm.toList)).Nodup):
  Calls prog 31 #[.agg #[.int .i64 size,.int .i64 next,.slice ea en ec,.slice va vn vc,.slice ra rn rc,.slice la ln lc]] w fun x w'=>(∃ b,x=.returned (.map (some b))∧∀ s:ByteArray,s.size<=1048576->(Instr.lookup 75 (.map (some b)) (.string s) false).run prog w'=.ok (BS vb (volI vs s)) w')∧Below w.heap.size w w':=by
 refine (bC_ B size next ea en ec va vn vc ra rn rc la ln lc vs vb 0 hva w (B6.vs RV T.rows) hvn hst).mono ?_;rintro e w' ⟨⟨b,D,rfl,_,hO,hV⟩,hB⟩;exact⟨⟨b,rfl,fun s hs=>kL_ hO hV hnd s hs⟩,hB⟩
def Cz (vs:List Vo)(y:Vo)(into:ByteArray)(at':Int)(sv sf:ByteArray)(fr tz:Int):Int⊕List It:=match (volI vs sv).bind (fun j=>vs[j]?) with
 |none=>.inl 3
 |some u=>match AO u sf with
  |none=>.inl 3
  |some l=>match AY l fr tz with
   |none=>.inl 3
   |some q=>Bu y into ((AO y into).getD []) at' q
end
end Go.Proofs.YtdmeabghpchckaaGreatDoor
