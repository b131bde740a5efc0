/- Counts added up: a list in order with no nought is told by its sums. -/
import Derived.Test.YtdmeabghpchckaaGreatDoorU05
set_option maxHeartbeats 20000000
set_option maxRecDepth 100000
namespace Go.Proofs.YtdmeabghpchckaaGreatDoor
section
open Go.RowKit Go.Shelf Tryz
variable{l:List Ex}{Bs n₀:Nat}{w:World}
attribute [local go_sem] YJ
theorem KpG.t {t:TypeId}{A B C:World}(h:KpG n₀ Bs t A B)(k:KpG n₀ Bs t B C):KpG n₀ Bs t A C:=
 ⟨h.1.trans k.1,fun b c hb=>k.2.1 b c (h.2.1 b c hb),fun v hv=>k.2.2 v (h.2.2 v hv)⟩
theorem KpG.b {t:TypeId}(hn:n₀<=w.heap.size)(hs:Bs<w.heap.size)(W:World)(l:Nat)(o o':Obj)(hl:w.heap.size<=l)(h:W.heap[l]?=some o)(hc:o.isCells=false)(hw:o.isWalk=false):KpG n₀ Bs t W (W.putObj l o'):=by
 refine⟨belowK_b hn W l o o' hl h hc hw,fun b c hb=>?_,fun v hv=>?_⟩
 ·have ha:b≠l:=fun e=>by subst e;unfold Blk at hb;rw[h] at hb;cases hb;cases hc
  exact Blk.grown hb (grownBy_putObj' W l o') ha
 ·exact (grownBy_putObj' W l o').cell hv (by simp;omega)
def G0 (n₀:Nat)(w:World)(a:Option Addr)(n:Nat)(l:List Ex):Prop:=Bb w a n l∧∀ ad,0<n->a=some ad->ad.block<n₀
theorem pf_ {w':World}{a:Option Addr}{n:Nat}(h:G0 n₀ w a n l)(hb:Below n₀ w w'){k:Nat}(hk:k<n):
  ∃ b o p,a=some ⟨b,o,none⟩∧l[k]?=some p∧w'.cell? ⟨b,o+k*2,none⟩=some (.int .i64 p.a)∧w'.cell? ⟨b,o+k*2+1,none⟩=some (.string p.d):=by
 obtain⟨b,o,p,ha,hp,c0,c1⟩:=be_ h.1 hk;have hc:b<n₀:=h.2 _ (by omega) ha;exact⟨b,o,p,ha,hp,(hb.cell (p:=⟨b,o+k*2,none⟩) hc).trans c0,(hb.cell (p:=⟨b,o+k*2+1,none⟩) hc).trans c1⟩
theorem nZ_ (n:Nat)(hn:1<=n)(l Bl Bs n₀ N:Nat)(size:Int)(a:Option Addr)(nn cap:Nat)(L:List Ex)(J Jx:List (Int×Int)->World->Prop)(W:World)(hJ:AbidesFrom W.heap.size J)
  (hY:∀ pre x W1,J pre W1->pre.length<N->YieldAt Fence.wide (n-1) prog l #[.int .i64 x.1,.int .i64 x.2] W1 fun e W'=>
   (e=.returned (.bool true)∧J (pre++[x]) W'∧KpG n₀ Bs 42 W1 W')∨(e=.returned (.bool false)∧Jx (pre++[x]) W'))
  (hBl:W.cell? ⟨Bl,0,none⟩=some (.slice a nn cap))(hBs:W.cell? ⟨Bs,0,none⟩=some (.int .i64 size))(hL:G0 n₀ W a nn L)(hx:xgo size 1 L=true)(hs1:1<=size)(hs2:size<=400)(hnn:nn<=60)(hN:61<=N)(hn0:n₀<=W.heap.size)(h0:J [] W):
  CallsIn Fence.wide n prog 85 #[.func (.yield l) #[] #[],.pointer (some ⟨Bl,0,none⟩),.pointer (some ⟨Bs,0,none⟩)] W fun e W'=>(∃ v,e=.returned v)∧
   ((∃ ys,ys=ggo size 1 L∧J ys W')∨(∃ pre,pre <+: ggo size 1 L∧Jx pre W')):=by
 have hm:Hid (L.length=nn):=hL.1.len;refine callsIn_of_wp func85 rfl trivial ?_ rfl;simp only[ntmps85,YI,Zw,YK,Nat.reduceAdd,Nat.reduceSub,Array.replicate_succ,Array.replicate_zero,List.push_toArray,List.append_toArray,ZM,YF]
 gi_wp2
 gi_loopw [4,9] (fun nx ix wr=>∃ (k:Nat) (next:Int) (pre:List (Int×Int)),k<=nn∧ix=.int .i64 k∧nx=.int .i64 next∧1<=next∧next<=421∧pre.length<=k∧Hid (ggo size 1 L=pre++ggo size next (L.drop k))∧Hid (xgo size next (L.drop k)=true)∧J pre wr∧Below n₀ W wr∧wr.cell? ⟨Bs,0,none⟩=some (.int .i64 size))
  (fun _ ix _=>nn-(intOf ix).toNat)
 case atStart=>exact⟨0,1,[],Zg _,rfl,rfl,by omega,by omega,Zd _,by show _=_;simp,hx,h0,Yg _ _,hBs⟩
 case round=>
  obtain⟨k,next,pre,hk,rfl,rfl,hA,hC,hz,hI,hX,hf,hB,hc⟩:=hrel;by_cases hlt:k<nn
  ·obtain⟨b,o,p,rfl,hp,c0,c1⟩:=pf_ hL hB hlt;have hd:Hid (L.drop k=p::L.drop (k+1)):=al_ hp;clear hp;have hg:=hX.out;rw[hd.out] at hg;simp only[xgo,Zf,ZU] at hg;obtain⟨⟨⟨hl,ht⟩,hu⟩,hr⟩:=hg;have hj:1<=p.d.size∧p.d.size<=20:=by simp[As] at hl;exact hl.1
   obtain⟨hv,hw⟩:=hj;have hs:Hid (xgo size (p.a+p.d.size) (L.drop (k+1))=true):=hr;clear hr hX hl;have hq:J pre (wr.alloc (.cells #[.int .i64 p.a,.string p.d] 42)):=hJ pre wr _ none hf (Yl wr _ none) (fun r e=>by cases e);by_cases hgt:next<p.a
   ·obtain⟨fn,tmps,assign,body,hy,hR⟩:=hY pre (next,p.a-next) _ hq (by omega);have ha:Hid (ggo size 1 L=(pre++[(next,p.a-next)])++ggo size (p.a+p.d.size) (L.drop (k+1))):=by show _=_;rw[hI.out,hd.out,ggo,if_pos hgt];simp
    dsimp only at hy
    gi_wp2
    refine hR.mono ?_;rintro e W3 (⟨rfl,hJ3,hK3⟩ | ⟨rfl,hJx3⟩)
    ·have hh:=hK3.2.1 _ _ (Blk.new wr #[.int .i64 p.a,.string p.d] 42);have e0:W3.cell? ⟨wr.heap.size,0,none⟩=some (.int .i64 p.a):=hh.cell 0;have e1:W3.cell? ⟨wr.heap.size,1,none⟩=some (.string p.d):=hh.cell 1;have he:Below n₀ W W3:=(hB.alloc (Zl hn0 hB.size) _).trans hK3.1;have ho:=hK3.2.2 _ (Am _ hc);clear hK3 hh hy hR
     gi_wp2
     go_roundw
     case rel=>exact⟨k+1,p.a+p.d.size,pre++[(next,p.a-next)],by omega,by go_num,by go_num,by omega,by omega,by simp;omega,ha,hs,hJ3,he,ho⟩
     case measure=>simp[intOf];omega
    ·clear hy hR
     gi_wp2
     refine YW (results_none rfl _ _ _) rfl ?_;exact⟨⟨_,rfl⟩,.inr ⟨_,⟨_,ha.out.symm⟩,hJx3⟩⟩
   ·have ha:Hid (ggo size 1 L=pre++ggo size (p.a+p.d.size) (L.drop (k+1))):=by show _=_;rw[hI.out,hd.out,ggo,if_neg hgt];simp
    have he:Below n₀ W (wr.alloc (.cells #[.int .i64 p.a,.string p.d] 42)):=hB.alloc (Zl hn0 hB.size) _;have ho:(wr.alloc (.cells #[.int .i64 p.a,.string p.d] 42)).cell? ⟨Bs,0,none⟩=some (.int .i64 size):=Am _ hc
    gi_wp2
    refine⟨fun _ h=>(by cases h),?_⟩
    gi_wp2
    go_roundw
    case rel=>exact⟨k+1,p.a+p.d.size,pre,by omega,by go_num,by go_num,by omega,by omega,by omega,ha,hs,hq,he,ho⟩
    case measure=>simp[intOf];omega
  ·obtain rfl:k=nn:=by omega
   have ha:=hI.out;rw[Ze (Zm hm.out)] at ha;by_cases hle:next<=size
   ·have hb:Hid (ggo size 1 L=pre++[(next,size+1-next)]):=by show _=_;rw[ha,ggo,if_pos hle]
    obtain⟨fn,tmps,assign,body,hy,hR⟩:=hY pre (next,size+1-next) wr hf (by omega);clear ha hI hX;dsimp only at hy
    gi_wp2
    refine hR.mono ?_;rintro e W3 (⟨rfl,hJ3,hK3⟩ | ⟨rfl,hJx3⟩)
    ·gi_wp2
     go_end0;exact⟨⟨_,rfl⟩,.inl ⟨_,hb.out.symm,hJ3⟩⟩
    ·gi_wp2
     go_end0;exact⟨⟨_,rfl⟩,.inr ⟨_,⟨[],by rw[hb.out];simp⟩,hJx3⟩⟩
   ·have hb:Hid (ggo size 1 L=pre):=by show _=_;rw[ha,ggo,if_neg hle];simp
    clear ha hI hX
    gi_wp2
    go_end0;exact⟨⟨_,rfl⟩,.inl (by rw[hb.out];exact hf)⟩
theorem pg_ (n:Nat)(size:Int)(a:Option Addr)(nn cap:Nat)(w:World):
  CallsIn Fence.wide n prog 34 #[.int .i64 size,.slice a nn cap] w fun e w'=>e=.returned (.func (.func 85) #[] #[.pointer (some ⟨w.heap.size+1,0,none⟩),.pointer (some ⟨w.heap.size,0,none⟩)])∧w'=(w.alloc (.cells #[.int .i64 size] 2)).alloc (.cells #[.slice a nn cap] 24):=by
 refine callsIn_of_wp func34 rfl trivial ?_ rfl;simp only[ntmps34,YI,Zw,YK,Nat.reduceAdd,Nat.reduceSub,Array.replicate_succ,Array.replicate_zero,List.push_toArray,List.append_toArray,ZM,YF]
 gi_wp2
 go_ret;exact⟨rfl,rfl⟩
theorem lz_ (n:Nat)(hn:1<=n)(Bl Bs n₀:Nat)(size:Int)(a:Option Addr)(nn cap:Nat)(L:List Ex)(w:World)(hn₀:n₀<=w.heap.size)
  (cl:w.cell? ⟨Bl,0,none⟩=some (.slice a nn cap))(cs:w.cell? ⟨Bs,0,none⟩=some (.int .i64 size))(hL:G0 n₀ w a nn L)(hx:xgo size 1 L=true)(hs1:1<=size)(hs2:size<=400)(hnn:nn<=60):
  SeqStopsK Fence.wide n prog 85 #[.pointer (some ⟨Bl,0,none⟩),.pointer (some ⟨Bs,0,none⟩)] (fun x:Int×Int=>#[Value.int .i64 x.1,Value.int .i64 x.2]) (KpG n₀ Bs 42) (fun ys=>ys=ggo size 1 L) (fun pre=>pre <+: ggo size 1 L) 61 w:=fun l J Jx W hW hJ _ hY h0=>by
 have hb:G0 n₀ W a nn L:=⟨⟨hL.1.len,fun i x hx=>by
  obtain⟨b,o,ha,hc⟩:=hL.1.cell i x hx;exact⟨b,o,ha,fun j v hv=>Ab hW (hc j v hv)⟩⟩,hL.2⟩
 exact nZ_ n hn l Bl Bs n₀ 61 size a nn cap L J Jx W hJ hY (Ab hW cl) (Ab hW cs) hb hx hs1 hs2 hnn (Zd _) (Zl hn₀ hW.size) h0
end
section
open Go Go.RowKit Go.BigFrame Tryz
variable{l r:List Pt}{b:Nat}{p:Pt}{w:World}
theorem pi_ {r:RSt}{k:Nat}(h:l[k]?=some p):Bm r (l.take (k+1))=BD (Bm r (l.take k)) p:=by
 unfold Bm;rw[bx_ h,List.foldl_append];rfl
theorem el_ (b:Nat)(r:RSt)(a:Option Addr)(n cap:Nat)(l:List Pt)(w:World)(hR:BH w b r)(hi:Dz r)(hs:r.s<=900000)(h:AM w a n l)(hne:∀ ad,a=some ad->ad.block≠b)(hn:n<=16)(hl:∀ p∈l,1<=p.n∧p.n<=100):
  Calls prog 176 #[.pointer (some ⟨b,0,none⟩),.slice a n cap] w fun e w'=>e=.returned (.tuple #[])∧BH w' b (Bm r l)∧Dz (Bm r l)∧(Bm r l).s<=r.s+1600∧w.grownBy w' (some b):=by
 have he:Hid (l.length=n):=h.len;go_enter func176,ntmps176
 go_wp2_with fail
 go_loopw [8] (fun ix wr=>∃ (k:Nat),k<=n∧ix=.int .i64 k∧BH wr b (Bm r (l.take k))∧Dz (Bm r (l.take k))∧(Bm r (l.take k)).s<=r.s+100*k∧w.grownBy wr (some b)) (fun ix _=>n-(intOf ix).toNat)
 case atStart=>exact⟨0,Zg _,rfl,hR,hi,by simp[Bm],Yh _ _⟩
 case round=>
  obtain⟨k,hk,rfl,hb,ha,hr,hg⟩:=hrel;by_cases hlt:k<n
  ·obtain⟨b',o,p,rfl,hp,c0,c1,c2⟩:=bi_ (h.grown hg hne) hlt;have hf:Hid (Bm r (l.take (k+1))=BD (Bm r (l.take k)) p):=pi_ hp;have hj:=hl p (Zc hp);have hh:=fn_ (Bm r (l.take k)) p;have hc:=fJ_ ha hj.1;clear hp;generalize Bm r (l.take k)=r1 at *
   go_wp2_with fail
   refine (hn_ b r1 p _ (hb.below ((Yg _ _).alloc (Zd _) _)) ha (by omega) hj.1 (by omega)).mono ?_;rintro e w1 ⟨rfl,hm,ho⟩;have hq:=aV_ (au_ hg ((Yg _ _).alloc (Zd _) _)) ho;go_wp2;go_roundw
   case rel=>exact⟨k+1,by omega,by go_num,by rw[hf.out];exact hm,by rw[hf.out];exact hc,by rw[hf.out,hh];omega,hq⟩
   case measure=>simp[intOf];omega
  ·obtain rfl:k=n:=by omega
   go_wp2;go_returns;go_light;rw[Zk (Zm he.out)] at hb ha hr;exact⟨rfl,hb,ha,by omega,hg⟩
end
section
open Go Go.RowKit Go.BigFrame Tryz
variable{size:Int}{l:List Ct}{cap n:Nat}{a:Option Addr}{p:Pt}{w:World}
theorem HK {l:List Pt}(h:Ac l=true):∀ p∈l,1<=p.n∧p.n<=100:=fun p hp=>⟨(ci_ h p hp).1,(ci_ h p hp).2.1⟩
def Bp (l:List Pt)(at':Int)(m:List Pt):List Pt:=
 slp 0 (min at' (Af l)) 0 l++(if Af l<at' then [⟨0,0,at'-Af l⟩] else [])++m++slp (min (at'+Af m) (Af l)) (Af l) 0 l
def BN (l:List Pt)(at':Int)(m:List Pt):Option (List Pt):=if Ac l=true∧0<=at'∧at'<=100∧Ac m=true then CS (BK (Bp l at' m)) else none
theorem jb_ (a:Option Addr)(n cap:Nat)(l:List Pt)(at':Int)(a':Option Addr)(n' cap':Nat)(m:List Pt)(w:World)(h:AM w a n l)(hn:n<=4194304)(hb:∀ ad,a=some ad->ad.block<w.heap.size)(h':AM w a' n' m)(hn':n'<=4194304)(hb':∀ ad,a'=some ad->ad.block<w.heap.size)(hok:Ac l=true)(hok':Ac m=true)(h0:0<=at')(h1:at'<=100):
  Calls prog 161 #[.slice a n cap,.int .i64 at',.slice a' n' cap'] w fun e w'=>CY w.heap.size e w' (BN l at' m)∧Below w.heap.size w w':=by
 have hu:n<=16:=by rw[<-h.len];exact (ae_ hok).1
 have hr:n'<=16:=by rw[<-h'.len];exact (ae_ hok').1
 have hs:Hid (Cb l=Af l):=by show _=_;simp[Cb,hok]
 have hJ:Hid (Cb m=Af m):=by show _=_;simp[Cb,hok']
 have hN:=(ae_ hok).2.2;have hV:=az_ l (ae_ hok).2.1;have hK:=(ae_ hok').2.2;have hS:=az_ m (ae_ hok').2.1;have hf:BN l at' m=CS (BK (Bp l at' m)):=by simp[BN,hok,hok',h0,h1]
 rw[hf];clear hf;generalize hoo':CS (BK (Bp l at' m))=oo;have hw:Hid (CS (BK (Bp l at' m))=oo):=hoo';clear hoo';by_cases hgt:Af l<at'
 ·have hG:Hid (Bp l at' m=slp 0 (Af l) 0 l++[⟨0,0,at'-Af l⟩]++m++slp (min (at'+Af m) (Af l)) (Af l) 0 l):=by
   show _=_;simp only[Bp,hgt,if_true];rw[Int.min_eq_right (by omega)]
  have hU:¬ at'<Af l:=by omega
  have hI:Hid (min (at'+Af m) (Af l)=Af l):=Int.min_eq_right (by omega);go_enter func161,ntmps161
  go_wp2_with fail
  refine (as_ a n cap l _ h hn).mono ?_;rintro e w1 ⟨rfl,hm⟩;rw[hok]
  go_wp2_with fail
  refine (as_ a' n' cap' m _ (h'.below hm) hn').mono ?_;rintro e w2 ⟨rfl,hk⟩;rw[hok'];replace hk:=Aa hm hk
  go_wp2_with fail
  refine (bo_ a n cap l _ (h.below hk) hn).mono ?_;rintro e w3 ⟨rfl,ha⟩;rw[hs.out];replace ha:=Aa hk ha
  go_wp2_with fail
  refine (bf_ w3.heap.size _ a n cap l 0 (Af l) _ (gZ_ w3) fK_ (by show (0:Int)<=_;omega) ((h.below ha).alloc _) (fun ad hh=>by have:=hb ad hh;have:=ha.size;omega) hu (ci_ hok) (by omega) (by omega) (by omega) (by omega)).mono ?_;rintro e w4 ⟨rfl,hy,hv,hH,hC⟩;have ht:Below w.heap.size w w4:=ao_ (Aa ha ((Yg _ _).alloc (Zd _) _)) hC ha.size;simp only[Int.zero_add] at hH
  go_wp2_with fail
  refine (hn_ w3.heap.size _ ⟨0,0,at'-Af l⟩ _ hy hv (by omega) (by show (1:Int)<=at'-Af l;omega) (by show at'-Af l<=(1000000:Int);omega)).mono ?_;rintro e w5 ⟨rfl,hO,hP⟩;have hL:Below w.heap.size w w5:=ao_ ht hP ha.size;have hR:=fJ_ hv (p:=⟨0,0,at'-Af l⟩) (by show (1:Int)<=at'-Af l;omega);have hT:=fn_ (Bm ⟨[],0,false⟩ (slp 0 (Af l) 0 l)) ⟨0,0,at'-Af l⟩;simp only at hT
  go_wp2_with fail
  refine (el_ w3.heap.size _ a' n' cap' m _ hO hR (by omega) (h'.below hL) (fun ad hh=>by have:=hb' ad hh;have:=ha.size;omega) hr (HK hok')).mono ?_;rintro e w6 ⟨rfl,hz,hF,hM,hD⟩;have ho:Below w.heap.size w w6:=ao_ hL hD ha.size
  go_wp2_with fail
  refine (bo_ a' n' cap' m _ (h'.below ho) hn').mono ?_;rintro e w7 ⟨rfl,he⟩;rw[hJ.out];have hA:=hz.below he;have hp:=Aa ho he;have hQ:Af l<at'+Af m:=by omega
  go_wp2_with fail
  refine (bf_ w3.heap.size _ a n cap l (Af l) (Af l) _ hA hF (by omega) (h.below hp) (fun ad hh=>by have:=hb ad hh;have:=ha.size;omega) hu (ci_ hok) (by omega) (by omega) (by omega) (by omega)).mono ?_;rintro e w8 ⟨rfl,hB,_,_,hE⟩;have hg:Below w.heap.size w w8:=ao_ hp hE ha.size
  go_wp2_with fail
  refine (cb_ w.heap.size _ _ _ hB hg.size).mono ?_;rintro e w9 ⟨hc,hx⟩;have hq:=Aa hg hx
  have hj:Hid (Bm (Bm (BD (Bm ⟨[],0,false⟩ (slp 0 (Af l) 0 l)) ⟨0,0,at'-Af l⟩) m) (slp (Af l) (Af l) 0 l)=BK (Bp l at' m)):=by
   show _=_;rw[hG.out,hI.out];simp[BK,Bm,List.foldl_append]
  rw[hj.out,hw.out] at hc;clear hw hj
  cases oo with
  |none=>
   obtain rfl:=hc;go_wp2;go_returns;exact⟨rfl,hq⟩
  |some L=>
   obtain⟨a',n',cap',rfl,hl⟩:=hc;go_wp2;go_returns;exact⟨⟨a',n',cap',rfl,hl⟩,hq⟩
 ·by_cases hm2:Af l<at'+Af m
  ·have hG:Hid (Bp l at' m=slp 0 at' 0 l++m++slp (Af l) (Af l) 0 l):=by
    show _=_;simp only[Bp,hgt,if_false];rw[Int.min_eq_left (by omega),Int.min_eq_right (by omega)];simp
   go_enter func161,ntmps161
   go_wp2_with fail
   refine (as_ a n cap l _ h hn).mono ?_;rintro e w1 ⟨rfl,hm⟩;rw[hok]
   go_wp2_with fail
   refine (as_ a' n' cap' m _ (h'.below hm) hn').mono ?_;rintro e w2 ⟨rfl,hk⟩;rw[hok'];replace hk:=Aa hm hk
   go_wp2_with fail
   refine (bo_ a n cap l _ (h.below hk) hn).mono ?_;rintro e w3 ⟨rfl,ha⟩;rw[hs.out];replace ha:=Aa hk ha
   go_wp2_with fail
   refine (bf_ w3.heap.size _ a n cap l 0 at' _ (gZ_ w3) fK_ (by show (0:Int)<=_;omega) ((h.below ha).alloc _) (fun ad hh=>by have:=hb ad hh;have:=ha.size;omega) hu (ci_ hok) (by omega) (by omega) (by omega) (by omega)).mono ?_;rintro e w4 ⟨rfl,hy,hv,hH,hC⟩;have ht:Below w.heap.size w w4:=ao_ (Aa ha ((Yg _ _).alloc (Zd _) _)) hC ha.size;simp only[Int.zero_add] at hH
   go_wp2_with fail
   refine (el_ w3.heap.size _ a' n' cap' m _ hy hv (by omega) (h'.below ht) (fun ad hh=>by have:=hb' ad hh;have:=ha.size;omega) hr (HK hok')).mono ?_;rintro e w6 ⟨rfl,hz,hF,hM,hD⟩;have ho:Below w.heap.size w w6:=ao_ ht hD ha.size
   go_wp2_with fail
   refine (bo_ a' n' cap' m _ (h'.below ho) hn').mono ?_;rintro e w7 ⟨rfl,he⟩;rw[hJ.out];have hA:=hz.below he;have hp:=Aa ho he
   go_wp2_with fail
   refine (bf_ w3.heap.size _ a n cap l (Af l) (Af l) _ hA hF (by omega) (h.below hp) (fun ad hh=>by have:=hb ad hh;have:=ha.size;omega) hu (ci_ hok) (by omega) (by omega) (by omega) (by omega)).mono ?_;rintro e w8 ⟨rfl,hB,_,_,hE⟩;have hg:Below w.heap.size w w8:=ao_ hp hE ha.size
   go_wp2_with fail
   refine (cb_ w.heap.size _ _ _ hB hg.size).mono ?_;rintro e w9 ⟨hc,hx⟩;have hq:=Aa hg hx
   have hj:Hid (Bm (Bm (Bm ⟨[],0,false⟩ (slp 0 at' 0 l)) m) (slp (Af l) (Af l) 0 l)=BK (Bp l at' m)):=by
    show _=_;rw[hG.out];simp[BK,Bm,List.foldl_append]
   rw[hj.out,hw.out] at hc;clear hw hj
   cases oo with
   |none=>
    obtain rfl:=hc;go_wp2;go_returns;exact⟨rfl,hq⟩
   |some L=>
    obtain⟨a',n',cap',rfl,hl⟩:=hc;go_wp2;go_returns;exact⟨⟨a',n',cap',rfl,hl⟩,hq⟩
  ·have hG:Hid (Bp l at' m=slp 0 at' 0 l++m++slp (at'+Af m) (Af l) 0 l):=by
    show _=_;simp only[Bp,hgt,if_false];rw[Int.min_eq_left (by omega),Int.min_eq_left (by omega)];simp
   go_enter func161,ntmps161
   go_wp2_with fail
   refine (as_ a n cap l _ h hn).mono ?_;rintro e w1 ⟨rfl,hm⟩;rw[hok]
   go_wp2_with fail
   refine (as_ a' n' cap' m _ (h'.below hm) hn').mono ?_;rintro e w2 ⟨rfl,hk⟩;rw[hok'];replace hk:=Aa hm hk
   go_wp2_with fail
   refine (bo_ a n cap l _ (h.below hk) hn).mono ?_;rintro e w3 ⟨rfl,ha⟩;rw[hs.out];replace ha:=Aa hk ha
   go_wp2_with fail
   refine (bf_ w3.heap.size _ a n cap l 0 at' _ (gZ_ w3) fK_ (by show (0:Int)<=_;omega) ((h.below ha).alloc _) (fun ad hh=>by have:=hb ad hh;have:=ha.size;omega) hu (ci_ hok) (by omega) (by omega) (by omega) (by omega)).mono ?_;rintro e w4 ⟨rfl,hy,hv,hH,hC⟩;have ht:Below w.heap.size w w4:=ao_ (Aa ha ((Yg _ _).alloc (Zd _) _)) hC ha.size;simp only[Int.zero_add] at hH
   go_wp2_with fail
   refine (el_ w3.heap.size _ a' n' cap' m _ hy hv (by omega) (h'.below ht) (fun ad hh=>by have:=hb' ad hh;have:=ha.size;omega) hr (HK hok')).mono ?_;rintro e w6 ⟨rfl,hz,hF,hM,hD⟩;have ho:Below w.heap.size w w6:=ao_ ht hD ha.size
   go_wp2_with fail
   refine (bo_ a' n' cap' m _ (h'.below ho) hn').mono ?_;rintro e w7 ⟨rfl,he⟩;rw[hJ.out];have hA:=hz.below he;have hp:=Aa ho he
   go_wp2_with fail
   refine (bf_ w3.heap.size _ a n cap l (at'+Af m) (Af l) _ hA hF (by omega) (h.below hp) (fun ad hh=>by have:=hb ad hh;have:=ha.size;omega) hu (ci_ hok) (by omega) (by omega) (by omega) (by omega)).mono ?_;rintro e w8 ⟨rfl,hB,_,_,hE⟩;have hg:Below w.heap.size w w8:=ao_ hp hE ha.size
   go_wp2_with fail
   refine (cb_ w.heap.size _ _ _ hB hg.size).mono ?_;rintro e w9 ⟨hc,hx⟩;have hq:=Aa hg hx
   have hj:Hid (Bm (Bm (Bm ⟨[],0,false⟩ (slp 0 at' 0 l)) m) (slp (at'+Af m) (Af l) 0 l)=BK (Bp l at' m)):=by
    show _=_;rw[hG.out];simp[BK,Bm,List.foldl_append]
   rw[hj.out,hw.out] at hc;clear hw hj
   cases oo with
   |none=>
    obtain rfl:=hc;go_wp2;go_returns;exact⟨rfl,hq⟩
   |some L=>
    obtain⟨a',n',cap',rfl,hl⟩:=hc;go_wp2;go_returns;exact⟨⟨a',n',cap',rfl,hl⟩,hq⟩
theorem nc_ (a:Option Addr)(n cap:Nat)(l:List Pt)(at':Int)(a':Option Addr)(n' cap':Nat)(m:List Pt)(w:World)(h:AM w a n l)(hn:n<=4194304)(hb:∀ ad,a=some ad->ad.block<w.heap.size)(h':AM w a' n' m)(hn':n'<=4194304)(hb':∀ ad,a'=some ad->ad.block<w.heap.size):
  Calls prog 161 #[.slice a n cap,.int .i64 at',.slice a' n' cap'] w fun e w'=>CY w.heap.size e w' (BN l at' m)∧Below w.heap.size w w':=by
 by_cases hall:Ac l=true∧0<=at'∧at'<=100∧Ac m=true
 ·exact jb_ a n cap l at' a' n' cap' m w h hn hb h' hn' hb' hall.1 hall.2.2.2 hall.2.1 hall.2.2.1
 ·have hf:BN l at' m=none:=by simp only[BN];rw[if_neg hall]
  rw[hf];clear hf
  cases he:Ac l
  ·go_enter func161,ntmps161
   go_wp2_with fail
   refine (as_ a n cap l _ h hn).mono ?_;rintro e w1 ⟨rfl,ha⟩;rw[he];go_wp2;go_returns;exact⟨rfl,ha⟩
  ·by_cases hat:0<=at'∧at'<=100
   ·have hg:Ac m=false:=by cases hm:Ac m<;>simp_all
    clear hall;obtain⟨h0,h1⟩:=hat;go_enter func161,ntmps161
    go_wp2_with fail
    refine (as_ a n cap l _ h hn).mono ?_;rintro e w1 ⟨rfl,ha⟩;rw[he]
    go_wp2_with fail
    refine (as_ a' n' cap' m _ (h'.below ha) hn').mono ?_;rintro e w2 ⟨rfl,hc⟩;rw[hg];replace hc:=Aa ha hc;go_wp2;go_returns;exact⟨rfl,hc⟩
   ·clear hall;go_enter func161,ntmps161
    go_wp2_with fail
    refine (as_ a n cap l _ h hn).mono ?_;rintro e w1 ⟨rfl,ha⟩;rw[he]
    go_wp2_with fail
    all_goals first | (exfalso;omega) | skip
    all_goals go_returns
    all_goals exact⟨rfl,ha⟩
end
end Go.Proofs.YtdmeabghpchckaaGreatDoor
