/- Counts added up: a list in order with no nought is told by its sums. -/
import Derived.Test.YtbbhcnjhohidnaaGreatDoorU02
set_option maxHeartbeats 20000000
set_option maxRecDepth 100000
namespace Go.Proofs.YtbbhcnjhohidnaaGreatDoor
section
open Go Go.RowKit Go.BigFrame Tryz
variable{fr st to x:Int}{l r:List Pt}{b:Nat}{p q:Pt}{w:World}
theorem bf_ (b:Nat)(r:RSt)(a:Option Addr)(n cap:Nat)(l:List Pt)(fr to:Int)(w:World)(hR:BG w b r)(hi:Dh r)(hs:r.s<=900000)(h:AE w a n l)(hne:∀ ad,a=some ad->ad.block≠b)(hn:n<=16)(hl:∀ p∈l,1<=p.n∧p.n<=100∧0<=p.f∧p.f<=100)(hf0:0<=fr)(hf1:fr<=10000)(ht0:0<=to)(ht1:to<=10000):
  Calls prog 181 #[.pointer (some ⟨b,0,none⟩),.slice a n cap,.int .i64 fr,.int .i64 to] w fun e w'=>e=.returned (.tuple #[])∧BG w' b (Bn r (slp fr to 0 l))∧Dh (Bn r (slp fr to 0 l))∧(Bn r (slp fr to 0 l)).s<=r.s+1600∧w.grownBy w' (some b):=by
 have he:Hid (l.length=n):=h.len;go_enter func181,ntmps181
 go_wp2_with fail
 go_loopw [8,15] (fun s ix wr=>∃ (k:Nat) (st:Int) (rk:RSt),k<=n∧ix=.int .i64 k∧s=.int .i64 st∧0<=st∧st<=100*k∧BG wr b rk∧Dh rk∧rk.s<=r.s+100*k∧Hid (Bn r (slp fr to 0 l)=Bn rk (slp fr to st (l.drop k)))∧w.grownBy wr (some b)) (fun _ ix _=>n-(intOf ix).toNat)
 case atStart=>exact⟨0,0,r,Zg _,rfl,rfl,by omega,by omega,hR,hi,by omega,rfl,Yh _ _⟩
 case round=>
  obtain⟨k,st,rk,hk,rfl,rfl,hw,ho,hb,hc,hz,hI,hg⟩:=hrel;by_cases hlt:k<n
  ·obtain⟨b',o,p,rfl,hp,c0,c1,c2⟩:=bi_ (h.grown hg hne) hlt;have hd:Hid (l.drop k=p::l.drop (k+1)):=al_ hp;obtain⟨hr,ht,hu,hv⟩:=hl p (Zc hp);clear hp;have hq:=hb.lt;by_cases hxy:max (fr-st) 0<min (to-st) p.n
   ·by_cases hx:fr-st<0
    all_goals by_cases hy:p.n<to-st
    all_goals
     go_wp2_with fail
     refine (j1_ p _ _ _ (by omega) (by omega) (by omega) (by omega) (by omega) (by omega)).mono ?_;rintro e w1 ⟨rfl,hf⟩;obtain⟨x0,x1,x2,ha,ho⟩:=CS hf;clear hf
     go_wp2_with fail
     refine (hn_ b rk (BF p _ _) _ (hb.below ha) hc (by omega) (by rw[gf_];omega) (by rw[gf_];omega)).mono ?_;rintro e w2 ⟨rfl,hj,hh⟩;have z2:=hh.cell x2 (by simp;omega);have hm:=aV_ (au_ hg ha) hh;clear x0 x1 x2 ha c0 c1 c2;go_wp2;go_roundw
     case rel=>exact⟨k+1,st+p.n,_,by omega,by go_num,by go_num,by omega,by omega,hj,fJ_ hc (by rw[gf_];omega),by rw[fn_,gf_];omega,by show _=_;rw[hI.out,hd.out];exact n0_ (by omega) (by omega) (by omega),hm⟩
     case measure=>simp[intOf];omega
   ·by_cases hx:fr-st<0
    all_goals by_cases hy:p.n<to-st
    all_goals try (exfalso;omega)
    all_goals
     go_wp2;go_roundw
     case rel=>exact⟨k+1,st+p.n,rk,by omega,by go_num,by go_num,by omega,by omega,hb.below ((Yg _ _).alloc (Zd _) _),hc,by omega,by show _=_;rw[hI.out,hd.out,fo_ hxy],au_ hg ((Yg _ _).alloc (Zd _) _)⟩
     case measure=>simp[intOf];omega
  ·obtain rfl:k=n:=by omega
   go_wp2;go_returns;go_light;rw[Ze (Zm he.out)] at hI;rw[hI.out];exact⟨rfl,hb,hc,by show rk.s<=_;omega,hg⟩
theorem EN:(prog.info? 162).map (fun i=>(i.zero,i.size,i.bytes))=some (some (.agg #[.int .i64 0,.int .i64 0,.int .i64 0]),3,24):=by kernel_rfl
theorem ho_ (b:Nat)(r:RSt)(w:World)(hR:BG w b r)(hov:r.ov=true):
  Calls prog 182 #[.pointer (some ⟨b,0,none⟩)] w fun e w'=>e=.returned (.tuple #[.slice none 0 0,.bool false])∧w'=w:=by
 obtain⟨he,c,ha,hc,hb,e48,e49,e50⟩:=hR;have c50:=(ha.cell 50).trans e50;rw[hov] at c50;go_enter func182,ntmps182;go_wp2;go_returns;exact⟨rfl,rfl⟩
theorem BG.sl {r:RSt}(h:BG w b r):AE w (some ⟨b,0,none⟩) r.L.length r.L:=by
 obtain⟨he,c,ha,hc,hb,_⟩:=h;refine⟨rfl,fun i x hx=>⟨b,0,rfl,fun j v hv=>?_⟩⟩;obtain⟨r0,r1,r2⟩:=hb i x hx;rw[ha.cell,Zq]
 match j,hv with
 |0,hv=>obtain rfl:=Zi hv;exact r0
 |1,hv=>obtain rfl:=Zi hv;exact r1
 |2,hv=>obtain rfl:=Zi hv;exact r2
 |j+3,hv=>simp[Pt.cs] at hv
theorem nb_ (b:Nat)(r:RSt)(w:World)(hR:BG w b r)(hov:r.ov=false):
  Calls prog 182 #[.pointer (some ⟨b,0,none⟩)] w fun e w'=>∃ a cap,e=.returned (.tuple #[.slice a r.L.length cap,.bool true])∧Ac Pt.cs 3 162 w' w.heap.size a r.L.length cap r.L∧Below w.heap.size w w':=by
 have he:=hR.sl;obtain⟨ho,c,ha,hl,hk,e48,e49,e50⟩:=hR;have c50:=(ha.cell 50).trans e50;have c48:=(ha.cell 48).trans e48;rw[hov] at c50;obtain⟨i0,hi,hf,hh,hj⟩:=info_parts EN;have hp:(r.L.length:Int)<=16:=by omega
 have hm:(0:Int)<=r.L.length:=by omega
 generalize hn:r.L.length=n at *;go_enter func182,ntmps182
 go_wp2_with fail
 refine aE_ 8 (by kernel_rfl) (by kernel_rfl) ?_;simp only[ZP,Yx,ZR,YC]
 repeat still_step
 refine wpStill_nil ?_;refine wpList_append_own _ rfl _ _ 154 rfl w.heap.size 162 i0 (.agg #[.int .i64 0,.int .i64 0,.int .i64 0]) 3 24 underlying154 hi hf hh hj rfl (by decide) (.slice none 0 0) 0 [] rfl (World.ownsRow_nil _ _ _ _) ⟨b,0,none⟩ n 16 (r.L.flatMap Pt.cs) rfl (by rw[aY_ bF_,hn]) (As.src bF_ he.drew) (cI_ _) (by unfold maxLen;omega) (by omega) (by simp) ?_;intro v' w1 hb hg _;simp only[Zq,ZM] at hb;obtain⟨a,cap,rfl,hc⟩:=bz_ bF_ hn hb;have hB:Below w.heap.size w w1:=((Yg _ _).drew).grown hg (by simp) (fun k e=>by simp[Value.ownBlock] at e);go_wp2;go_returns;exact⟨a,cap,rfl,hc,hB⟩
def BI (l:List Pt):RSt:=Bn ⟨[],0,false⟩ l
theorem ci_ (h:Ae l=true):∀ p∈l,1<=p.n∧p.n<=100∧0<=p.f∧p.f<=100:=by
 intro p hp;obtain⟨_,h1,h2⟩:=ae_ h;have hk:=h1 p hp;have ha:=av_ hk
 have h3:p.n<=Af l:=by
  obtain⟨i,hi⟩:=List.mem_iff_getElem?.1 hp;have e:=gc_ hi;have b1:=a6_ h1 i;have b2:=a6_ h1 (i+1);omega
 unfold Ao at hk;split at hk<;>simp at hk<;>omega
theorem gZ_ (w:World):BG (w.alloc (.cells #[.int .i64 0,.int .i64 0,.int .i64 0,.int .i64 0,.int .i64 0,.int .i64 0,.int .i64 0,.int .i64 0,.int .i64 0,.int .i64 0,.int .i64 0,.int .i64 0,.int .i64 0,.int .i64 0,.int .i64 0,.int .i64 0,.int .i64 0,.int .i64 0,.int .i64 0,.int .i64 0,.int .i64 0,.int .i64 0,.int .i64 0,.int .i64 0,.int .i64 0,.int .i64 0,.int .i64 0,.int .i64 0,.int .i64 0,.int .i64 0,.int .i64 0,.int .i64 0,.int .i64 0,.int .i64 0,.int .i64 0,.int .i64 0,.int .i64 0,.int .i64 0,.int .i64 0,.int .i64 0,.int .i64 0,.int .i64 0,.int .i64 0,.int .i64 0,.int .i64 0,.int .i64 0,.int .i64 0,.int .i64 0,.int .i64 0,.int .i64 0,.bool false] 278)) w.heap.size ⟨[],0,false⟩:=
 ⟨Zg _,_,Blk.new _ _ _,rfl,fun i p hp=>by simp at hp,rfl,rfl,rfl⟩
theorem fK_:Dh ⟨[],0,false⟩:=⟨YB _,fun q hq=>by simp at hq⟩
def CD (r:RSt):Option (List Pt):=if r.ov then none else some r.L
def DO (B:Nat)(e:Ending)(w':World):Option (List Pt)->Prop
 |none=>e=.returned (.tuple #[.slice none 0 0,.bool false])
 |some L=>∃ a n cap,e=.returned (.tuple #[.slice a n cap,.bool true])∧Ac Pt.cs 3 162 w' B a n cap L
theorem cb_ (B b:Nat)(r:RSt)(w:World)(hR:BG w b r)(hB:B<=w.heap.size):
  Calls prog 182 #[.pointer (some ⟨b,0,none⟩)] w fun e w'=>DO B e w' (CD r)∧Below w.heap.size w w':=by
 cases ha:r.ov
 ·refine (nb_ b r w hR ha).mono ?_;rintro e w' ⟨a,cap,rfl,hc,hb⟩;exact⟨by simp only[CD,ha];exact⟨a,_,cap,rfl,hc.mono hB⟩,hb⟩
 ·refine (ho_ b r w hR ha).mono ?_;rintro e w' ⟨rfl,rfl⟩;exact⟨by simp only[CD,ha];rfl,Yg _ _⟩
def Bg (l:List Pt)(fr to:Int):Option (List Pt):=
 if Ae l=true∧0<=fr∧fr<=Af l∧fr<=to∧to<=Af l then CD (BI (slp fr to 0 l)) else none
theorem hp_ (a:Option Addr)(n cap:Nat)(l:List Pt)(fr to:Int)(w:World)(h:AE w a n l)(hn:n<=4194304)(hb:∀ ad,a=some ad->ad.block<w.heap.size):
  Calls prog 160 #[.slice a n cap,.int .i64 fr,.int .i64 to] w fun e w'=>DO w.heap.size e w' (Bg l fr to)∧Below w.heap.size w w':=by
 cases ha:Ae l
 ·have hf:Bg l fr to=none:=by simp[Bg,ha]
  rw[hf];go_enter func160,ntmps160
  go_wp2_with fail
  refine (as_ a n cap l _ h hn).mono ?_;rintro e w1 ⟨rfl,hg⟩;rw[ha];go_wp2;go_returns;exact⟨rfl,hg⟩
 ·have hs:Hid (Ck l=Af l):=by show _=_;simp[Ck,ha]
  have hm:=(ae_ ha).2.2;have hu:=az_ l (ae_ ha).2.1;have ho:n<=16:=by rw[<-h.len];exact (ae_ ha).1
  by_cases hr:0<=fr∧fr<=Af l∧fr<=to∧to<=Af l
  ·have hf:Bg l fr to=CD (BI (slp fr to 0 l)):=by simp[Bg,ha,hr]
   rw[hf];clear hf;generalize hoo':CD (BI (slp fr to 0 l))=oo;have hl:Hid (CD (BI (slp fr to 0 l))=oo):=hoo';clear hoo';obtain⟨r1,r2,r3,r4⟩:=hr;go_enter func160,ntmps160
   go_wp2_with fail
   refine (as_ a n cap l _ h hn).mono ?_;rintro e w1 ⟨rfl,hg⟩;rw[ha]
   go_wp2_with fail
   refine (bo_ a n cap l _ (h.below hg) hn).mono ?_;rintro e w2 ⟨rfl,hc⟩;rw[hs.out];replace hc:=Aa hg hc
   go_wp2_with fail
   refine (bf_ w2.heap.size _ a n cap l fr to _ (gZ_ w2) fK_ (by show (0:Int)<=_;omega) ((h.below hc).alloc _) (fun ad hq=>by have:=hb ad hq;have:=hc.size;omega) ho (ci_ ha) (by omega) (by omega) (by omega) (by omega)).mono ?_;rintro e w3 ⟨rfl,hp,_,_,ht⟩;have hk:Below w.heap.size w w3:=ao_ (Aa hc ((Yg _ _).alloc (Zd _) _)) ht hc.size
   go_wp2_with fail
   refine (cb_ w.heap.size _ _ _ hp hk.size).mono ?_;rintro e w4 ⟨he,hh⟩;replace hh:=Aa hk hh;change DO _ _ _ (CD (BI (slp fr to 0 l))) at he;rw[hl.out] at he;clear hl
   cases oo with
   |none=>
    obtain rfl:=he;go_wp2;go_returns;exact⟨rfl,hh⟩
   |some L=>
    obtain⟨a',n',cap',rfl,hj⟩:=he;go_wp2;go_returns;exact⟨⟨a',n',cap',rfl,hj⟩,hh⟩
  ·have hf:Bg l fr to=none:=by simp only[Bg,ha,true_and];rw[if_neg hr]
   rw[hf];clear hf;go_enter func160,ntmps160
   go_wp2_with fail
   refine (as_ a n cap l _ h hn).mono ?_;rintro e w1 ⟨rfl,hg⟩;rw[ha]
   go_wp2_with fail
   refine (bo_ a n cap l _ (h.below hg) hn).mono ?_;rintro e w2 ⟨rfl,hc⟩;rw[hs.out];replace hc:=Aa hg hc;go_wp2
   all_goals go_returns
   all_goals exact⟨rfl,hc⟩
end
section
open Go Go.RowKit Go.BigFrame Tryz
variable{α:Type}{c:Ct}{fr size st to x y z:Int}{l:List Ct}{lk r:List Pt}{B cap k n:Nat}{a:Option Addr}{p:Pt}{w:World}
theorem GO {l:List Pt}(h:Ae l=true):∀ p∈l,1<=p.n∧p.n<=100:=fun p hp=>⟨(ci_ h p hp).1,(ci_ h p hp).2.1⟩
def Br (l:List Pt)(at':Int)(m:List Pt):List Pt:=
 slp 0 (min at' (Af l)) 0 l++(if Af l<at' then [⟨0,0,at'-Af l⟩] else [])++m++slp (min (at'+Af m) (Af l)) (Af l) 0 l
def BM (l:List Pt)(at':Int)(m:List Pt):Option (List Pt):=if Ae l=true∧0<=at'∧at'<=100∧Ae m=true then CD (BI (Br l at' m)) else none
theorem jb_ (a:Option Addr)(n cap:Nat)(l:List Pt)(at':Int)(a':Option Addr)(n' cap':Nat)(m:List Pt)(w:World)(h:AE w a n l)(hn:n<=4194304)(hb:∀ ad,a=some ad->ad.block<w.heap.size)(h':AE w a' n' m)(hn':n'<=4194304)(hb':∀ ad,a'=some ad->ad.block<w.heap.size)(hok:Ae l=true)(hok':Ae m=true)(h0:0<=at')(h1:at'<=100):
  Calls prog 178 #[.slice a n cap,.int .i64 at',.slice a' n' cap'] w fun e w'=>DO w.heap.size e w' (BM l at' m)∧Below w.heap.size w w':=by
 have hu:n<=16:=by rw[<-h.len];exact (ae_ hok).1
 have hr:n'<=16:=by rw[<-h'.len];exact (ae_ hok').1
 have hs:Hid (Ck l=Af l):=by show _=_;simp[Ck,hok]
 have hJ:Hid (Ck m=Af m):=by show _=_;simp[Ck,hok']
 have hN:=(ae_ hok).2.2;have hV:=az_ l (ae_ hok).2.1;have hK:=(ae_ hok').2.2;have hS:=az_ m (ae_ hok').2.1;have hf:BM l at' m=CD (BI (Br l at' m)):=by simp[BM,hok,hok',h0,h1]
 rw[hf];clear hf;generalize hoo':CD (BI (Br l at' m))=oo;have hw:Hid (CD (BI (Br l at' m))=oo):=hoo';clear hoo';by_cases hgt:Af l<at'
 ·have hG:Hid (Br l at' m=slp 0 (Af l) 0 l++[⟨0,0,at'-Af l⟩]++m++slp (min (at'+Af m) (Af l)) (Af l) 0 l):=by
   show _=_;simp only[Br,hgt,if_true];rw[Int.min_eq_right (by omega)]
  have hU:¬ at'<Af l:=by omega
  have hI:Hid (min (at'+Af m) (Af l)=Af l):=Int.min_eq_right (by omega);go_enter func178,ntmps178
  go_wp2_with fail
  refine (as_ a n cap l _ h hn).mono ?_;rintro e w1 ⟨rfl,hm⟩;rw[hok]
  go_wp2_with fail
  refine (as_ a' n' cap' m _ (h'.below hm) hn').mono ?_;rintro e w2 ⟨rfl,hk⟩;rw[hok'];replace hk:=Aa hm hk
  go_wp2_with fail
  refine (bo_ a n cap l _ (h.below hk) hn).mono ?_;rintro e w3 ⟨rfl,ha⟩;rw[hs.out];replace ha:=Aa hk ha
  go_wp2_with fail
  refine (bf_ w3.heap.size _ a n cap l 0 (Af l) _ (gZ_ w3) fK_ (by show (0:Int)<=_;omega) ((h.below ha).alloc _) (fun ad hh=>by have:=hb ad hh;have:=ha.size;omega) hu (ci_ hok) (by omega) (by omega) (by omega) (by omega)).mono ?_;rintro e w4 ⟨rfl,hy,hv,hH,hC⟩;have ht:Below w.heap.size w w4:=ao_ (Aa ha ((Yg _ _).alloc (Zd _) _)) hC ha.size;simp only[Int.zero_add] at hH
  go_wp2_with fail
  refine (hn_ w3.heap.size _ ⟨0,0,at'-Af l⟩ _ hy hv (by omega) (by show (1:Int)<=at'-Af l;omega) (by show at'-Af l<=(1000000:Int);omega)).mono ?_;rintro e w5 ⟨rfl,hO,hP⟩;have hL:Below w.heap.size w w5:=ao_ ht hP ha.size;have hR:=fJ_ hv (p:=⟨0,0,at'-Af l⟩) (by show (1:Int)<=at'-Af l;omega);have hT:=fn_ (Bn ⟨[],0,false⟩ (slp 0 (Af l) 0 l)) ⟨0,0,at'-Af l⟩;simp only at hT
  go_wp2_with fail
  refine (el_ w3.heap.size _ a' n' cap' m _ hO hR (by omega) (h'.below hL) (fun ad hh=>by have:=hb' ad hh;have:=ha.size;omega) hr (GO hok')).mono ?_;rintro e w6 ⟨rfl,hz,hF,hM,hD⟩;have ho:Below w.heap.size w w6:=ao_ hL hD ha.size
  go_wp2_with fail
  refine (bo_ a' n' cap' m _ (h'.below ho) hn').mono ?_;rintro e w7 ⟨rfl,he⟩;rw[hJ.out];have hA:=hz.below he;have hp:=Aa ho he;have hQ:Af l<at'+Af m:=by omega
  go_wp2_with fail
  refine (bf_ w3.heap.size _ a n cap l (Af l) (Af l) _ hA hF (by omega) (h.below hp) (fun ad hh=>by have:=hb ad hh;have:=ha.size;omega) hu (ci_ hok) (by omega) (by omega) (by omega) (by omega)).mono ?_;rintro e w8 ⟨rfl,hB,_,_,hE⟩;have hg:Below w.heap.size w w8:=ao_ hp hE ha.size
  go_wp2_with fail
  refine (cb_ w.heap.size _ _ _ hB hg.size).mono ?_;rintro e w9 ⟨hc,hx⟩;have hq:=Aa hg hx
  have hj:Hid (Bn (Bn (BA (Bn ⟨[],0,false⟩ (slp 0 (Af l) 0 l)) ⟨0,0,at'-Af l⟩) m) (slp (Af l) (Af l) 0 l)=BI (Br l at' m)):=by
   show _=_;rw[hG.out,hI.out];simp[BI,Bn,List.foldl_append]
  rw[hj.out,hw.out] at hc;clear hw hj
  cases oo with
  |none=>
   obtain rfl:=hc;go_wp2;go_returns;exact⟨rfl,hq⟩
  |some L=>
   obtain⟨a',n',cap',rfl,hl⟩:=hc;go_wp2;go_returns;exact⟨⟨a',n',cap',rfl,hl⟩,hq⟩
 ·by_cases hm2:Af l<at'+Af m
  ·have hG:Hid (Br l at' m=slp 0 at' 0 l++m++slp (Af l) (Af l) 0 l):=by
    show _=_;simp only[Br,hgt,if_false];rw[Int.min_eq_left (by omega),Int.min_eq_right (by omega)];simp
   go_enter func178,ntmps178
   go_wp2_with fail
   refine (as_ a n cap l _ h hn).mono ?_;rintro e w1 ⟨rfl,hm⟩;rw[hok]
   go_wp2_with fail
   refine (as_ a' n' cap' m _ (h'.below hm) hn').mono ?_;rintro e w2 ⟨rfl,hk⟩;rw[hok'];replace hk:=Aa hm hk
   go_wp2_with fail
   refine (bo_ a n cap l _ (h.below hk) hn).mono ?_;rintro e w3 ⟨rfl,ha⟩;rw[hs.out];replace ha:=Aa hk ha
   go_wp2_with fail
   refine (bf_ w3.heap.size _ a n cap l 0 at' _ (gZ_ w3) fK_ (by show (0:Int)<=_;omega) ((h.below ha).alloc _) (fun ad hh=>by have:=hb ad hh;have:=ha.size;omega) hu (ci_ hok) (by omega) (by omega) (by omega) (by omega)).mono ?_;rintro e w4 ⟨rfl,hy,hv,hH,hC⟩;have ht:Below w.heap.size w w4:=ao_ (Aa ha ((Yg _ _).alloc (Zd _) _)) hC ha.size;simp only[Int.zero_add] at hH
   go_wp2_with fail
   refine (el_ w3.heap.size _ a' n' cap' m _ hy hv (by omega) (h'.below ht) (fun ad hh=>by have:=hb' ad hh;have:=ha.size;omega) hr (GO hok')).mono ?_;rintro e w6 ⟨rfl,hz,hF,hM,hD⟩;have ho:Below w.heap.size w w6:=ao_ ht hD ha.size
   go_wp2_with fail
   refine (bo_ a' n' cap' m _ (h'.below ho) hn').mono ?_;rintro e w7 ⟨rfl,he⟩;rw[hJ.out];have hA:=hz.below he;have hp:=Aa ho he
   go_wp2_with fail
   refine (bf_ w3.heap.size _ a n cap l (Af l) (Af l) _ hA hF (by omega) (h.below hp) (fun ad hh=>by have:=hb ad hh;have:=ha.size;omega) hu (ci_ hok) (by omega) (by omega) (by omega) (by omega)).mono ?_;rintro e w8 ⟨rfl,hB,_,_,hE⟩;have hg:Below w.heap.size w w8:=ao_ hp hE ha.size
   go_wp2_with fail
   refine (cb_ w.heap.size _ _ _ hB hg.size).mono ?_;rintro e w9 ⟨hc,hx⟩;have hq:=Aa hg hx
   have hj:Hid (Bn (Bn (Bn ⟨[],0,false⟩ (slp 0 at' 0 l)) m) (slp (Af l) (Af l) 0 l)=BI (Br l at' m)):=by
    show _=_;rw[hG.out];simp[BI,Bn,List.foldl_append]
   rw[hj.out,hw.out] at hc;clear hw hj
   cases oo with
   |none=>
    obtain rfl:=hc;go_wp2;go_returns;exact⟨rfl,hq⟩
   |some L=>
    obtain⟨a',n',cap',rfl,hl⟩:=hc;go_wp2;go_returns;exact⟨⟨a',n',cap',rfl,hl⟩,hq⟩
  ·have hG:Hid (Br l at' m=slp 0 at' 0 l++m++slp (at'+Af m) (Af l) 0 l):=by
    show _=_;simp only[Br,hgt,if_false];rw[Int.min_eq_left (by omega),Int.min_eq_left (by omega)];simp
   go_enter func178,ntmps178
   go_wp2_with fail
   refine (as_ a n cap l _ h hn).mono ?_;rintro e w1 ⟨rfl,hm⟩;rw[hok]
   go_wp2_with fail
   refine (as_ a' n' cap' m _ (h'.below hm) hn').mono ?_;rintro e w2 ⟨rfl,hk⟩;rw[hok'];replace hk:=Aa hm hk
   go_wp2_with fail
   refine (bo_ a n cap l _ (h.below hk) hn).mono ?_;rintro e w3 ⟨rfl,ha⟩;rw[hs.out];replace ha:=Aa hk ha
   go_wp2_with fail
   refine (bf_ w3.heap.size _ a n cap l 0 at' _ (gZ_ w3) fK_ (by show (0:Int)<=_;omega) ((h.below ha).alloc _) (fun ad hh=>by have:=hb ad hh;have:=ha.size;omega) hu (ci_ hok) (by omega) (by omega) (by omega) (by omega)).mono ?_;rintro e w4 ⟨rfl,hy,hv,hH,hC⟩;have ht:Below w.heap.size w w4:=ao_ (Aa ha ((Yg _ _).alloc (Zd _) _)) hC ha.size;simp only[Int.zero_add] at hH
   go_wp2_with fail
   refine (el_ w3.heap.size _ a' n' cap' m _ hy hv (by omega) (h'.below ht) (fun ad hh=>by have:=hb' ad hh;have:=ha.size;omega) hr (GO hok')).mono ?_;rintro e w6 ⟨rfl,hz,hF,hM,hD⟩;have ho:Below w.heap.size w w6:=ao_ ht hD ha.size
   go_wp2_with fail
   refine (bo_ a' n' cap' m _ (h'.below ho) hn').mono ?_;rintro e w7 ⟨rfl,he⟩;rw[hJ.out];have hA:=hz.below he;have hp:=Aa ho he
   go_wp2_with fail
   refine (bf_ w3.heap.size _ a n cap l (at'+Af m) (Af l) _ hA hF (by omega) (h.below hp) (fun ad hh=>by have:=hb ad hh;have:=ha.size;omega) hu (ci_ hok) (by omega) (by omega) (by omega) (by omega)).mono ?_;rintro e w8 ⟨rfl,hB,_,_,hE⟩;have hg:Below w.heap.size w w8:=ao_ hp hE ha.size
   go_wp2_with fail
   refine (cb_ w.heap.size _ _ _ hB hg.size).mono ?_;rintro e w9 ⟨hc,hx⟩;have hq:=Aa hg hx
   have hj:Hid (Bn (Bn (Bn ⟨[],0,false⟩ (slp 0 at' 0 l)) m) (slp (at'+Af m) (Af l) 0 l)=BI (Br l at' m)):=by
    show _=_;rw[hG.out];simp[BI,Bn,List.foldl_append]
   rw[hj.out,hw.out] at hc;clear hw hj
   cases oo with
   |none=>
    obtain rfl:=hc;go_wp2;go_returns;exact⟨rfl,hq⟩
   |some L=>
    obtain⟨a',n',cap',rfl,hl⟩:=hc;go_wp2;go_returns;exact⟨⟨a',n',cap',rfl,hl⟩,hq⟩
theorem nc_ (a:Option Addr)(n cap:Nat)(l:List Pt)(at':Int)(a':Option Addr)(n' cap':Nat)(m:List Pt)(w:World)(h:AE w a n l)(hn:n<=4194304)(hb:∀ ad,a=some ad->ad.block<w.heap.size)(h':AE w a' n' m)(hn':n'<=4194304)(hb':∀ ad,a'=some ad->ad.block<w.heap.size):
  Calls prog 178 #[.slice a n cap,.int .i64 at',.slice a' n' cap'] w fun e w'=>DO w.heap.size e w' (BM l at' m)∧Below w.heap.size w w':=by
 by_cases hall:Ae l=true∧0<=at'∧at'<=100∧Ae m=true
 ·exact jb_ a n cap l at' a' n' cap' m w h hn hb h' hn' hb' hall.1 hall.2.2.2 hall.2.1 hall.2.2.1
 ·have hf:BM l at' m=none:=by simp only[BM];rw[if_neg hall]
  rw[hf];clear hf
  cases he:Ae l
  ·go_enter func178,ntmps178
   go_wp2_with fail
   refine (as_ a n cap l _ h hn).mono ?_;rintro e w1 ⟨rfl,ha⟩;rw[he];go_wp2;go_returns;exact⟨rfl,ha⟩
  ·by_cases hat:0<=at'∧at'<=100
   ·have hg:Ae m=false:=by cases hm:Ae m<;>simp_all
    clear hall;obtain⟨h0,h1⟩:=hat;go_enter func178,ntmps178
    go_wp2_with fail
    refine (as_ a n cap l _ h hn).mono ?_;rintro e w1 ⟨rfl,ha⟩;rw[he]
    go_wp2_with fail
    refine (as_ a' n' cap' m _ (h'.below ha) hn').mono ?_;rintro e w2 ⟨rfl,hc⟩;rw[hg];replace hc:=Aa ha hc;go_wp2;go_returns;exact⟨rfl,hc⟩
   ·clear hall;go_enter func178,ntmps178
    go_wp2_with fail
    refine (as_ a n cap l _ h hn).mono ?_;rintro e w1 ⟨rfl,ha⟩;rw[he]
    go_wp2_with fail
    all_goals first | (exfalso;omega) | skip
    all_goals go_returns
    all_goals exact⟨rfl,ha⟩
def AX (l:List Pt)(p:Pt):List Pt:=
 match l.getLast? with
 |none=>[p]
 |some q=>if AN q p then l.dropLast++[⟨q.a,q.f,wrap64 (q.n+p.n)⟩] else l++[p]
structure Ei (a:Option Addr)(cap:Nat):Prop where
 spot:∀ ad,a=some ad->ad.spot=none
 nil:a=none->cap=0
theorem Ac.arg {cs:α->List Value}{sz:Nat}{t:TypeId}{l:List α}(h:Ac cs sz t w B a n cap l):Ei a cap:=by
 rcases h.own with⟨rfl,_,rfl⟩ | ⟨b,rfl,_⟩
 ·exact⟨fun ad h=>(by cases h),fun _=>rfl⟩
 ·exact⟨fun ad h=>(by cases h;rfl),fun h=>(by cases h)⟩
theorem pj_ (b cap:Nat):Ei (some ⟨b,0,none⟩) cap:=⟨fun ad h=>(by cases h;rfl),fun h=>(by cases h)⟩
theorem bg_ (a:Option Addr)(n cap:Nat)(l:List Pt)(p:Pt)(w:World)(h:AE w a n l)(hn:n<=4194304)(ha:Ei a cap):
  Calls prog 151 #[.slice a n cap,.agg #[.int .i64 p.a,.int .i64 p.f,.int .i64 p.n]] w fun e w'=>(∃ a' n' cap',e=.returned (.slice a' n' cap')∧Ac Pt.cs 3 162 w' w.heap.size a' n' cap' (AX l p))∧Below w.heap.size w w':=by
 have hw:=h.len;obtain⟨i0,hi,hm,ho,hp⟩:=info_parts EN;have x0:(w.alloc (.cells #[.int .i64 p.a,.int .i64 p.f,.int .i64 p.n] 162)).cell? ⟨w.heap.size,0,none⟩=some (.int .i64 p.a):=by simp
 have x1:(w.alloc (.cells #[.int .i64 p.a,.int .i64 p.f,.int .i64 p.n] 162)).cell? ⟨w.heap.size,1,none⟩=some (.int .i64 p.f):=by simp
 have x2:(w.alloc (.cells #[.int .i64 p.a,.int .i64 p.f,.int .i64 p.n] 162)).cell? ⟨w.heap.size,2,none⟩=some (.int .i64 p.n):=by simp
 have hk:Below w.heap.size w (w.alloc (.cells #[.int .i64 p.a,.int .i64 p.f,.int .i64 p.n] 162)):=(Yg _ _).alloc (Zd _) _;rcases List.eq_nil_or_concat l with hL | ⟨L',q,hL⟩
 ·have hr:Hid (AX l p=[]++l++[p]):=by show _=_;rw[hL];rfl
  obtain rfl:n=0:=by rw[<-hw,hL];rfl
  go_enter func151,ntmps151
  go_wp2_with fail
  go_quiet (fail)
  replace x0:=Ab (AZ _ nq) x0;replace x1:=Ab (AZ _ nq) x1;replace x2:=Ab (AZ _ nq) x2;have hl:=Aa hk (AZ _ nq);clear hk;generalize (w.alloc (.cells #[.int .i64 p.a,.int .i64 p.f,.int .i64 p.n] 162)).drewN nq=W6 at *;have h6:=h.below hl;have hN:=hl.size
  go_wp2_with fail
  have hy:w.heap.size<W6.heap.size:=Yk W6 ⟨w.heap.size,0,none⟩ x0
  go_region_held3 (fun u=>u.cell? ⟨w.heap.size,0,none⟩=some (.int .i64 p.a)∧u.cell? ⟨w.heap.size,1,none⟩=some (.int .i64 p.f)∧u.cell? ⟨w.heap.size,2,none⟩=some (.int .i64 p.n)) (go_keep) (first | (refine aJ_ rfl (ay_ _ _ 154 rfl (w.heap.size+1) 162 i0 (.agg #[.int .i64 0,.int .i64 0,.int .i64 0]) 24 underlying154 hi hm ho hp rfl (by decide) bF_ cI_ _ 0 0 [] rfl (aw_ (by first | exact (Blk.new' _ _ _ _ (by simp)).drew | exact ((Blk.new' _ _ _ _ (by simp)).alloc _).drew) (by first | omega | (simp;omega))) a 0 cap l rfl (h6.below (by go_grown)) ha.spot ha.nil 0 (Zq _) (by unfold maxLen;omega) (by omega) (by first | omega | (simp;omega)) ?_);intro a1 cap1 w1 hc hb;have z0:=hb.cell (a:=⟨w.heap.size,0,none⟩) (by first | exact Ah _ x0 | exact Ah _ (Ah _ x0)) (by simp[Value.ownBlock];omega);have z1:=hb.cell (a:=⟨w.heap.size,1,none⟩) (by first | exact Ah _ x1 | exact Ah _ (Ah _ x1)) (by simp[Value.ownBlock];omega);have z2:=hb.cell (a:=⟨w.heap.size,2,none⟩) (by first | exact Ah _ x2 | exact Ah _ (Ah _ x2)) (by simp[Value.ownBlock];omega)) | (refine aJ_ rfl (ay_ _ _ 154 rfl (w.heap.size+1) 162 i0 (.agg #[.int .i64 0,.int .i64 0,.int .i64 0]) 24 underlying154 hi hm ho hp rfl (by decide) bF_ cI_ a1 0 cap1 ([]++l) rfl (by first | exact hc | exact hc.alloc _) _ 1 1 [p] rfl (by first | exact ck_ _ p _ _ (by simp) | (refine As.grown (r:=W6.heap.size) (ck_ _ p _ _ (by simp)).drew hb ?_;intro ad h;cases h;first | (simp;done) | (simp;omega) | omega) | (refine As.grown (r:=W6.heap.size+1) ((ck_ _ p _ _ (by simp)).alloc _).drew hb ?_;intro ad h;cases h;first | (simp;done) | (simp;omega) | omega)) (fun ad h=>(by cases h;rfl)) (fun h=>(by cases h)) (0+1) rfl (by unfold maxLen;omega) (by omega) (by have:=hb.size;simp at this;first | omega | (simp;omega)) ?_);intro a2 cap2 w2 hz hf;have y0:=hf.cell (a:=⟨w.heap.size,0,none⟩) (by first | exact z0 | exact Ah _ z0) (ej_ fun ad h=>(hc.block ad h).1);have y1:=hf.cell (a:=⟨w.heap.size,1,none⟩) (by first | exact z1 | exact Ah _ z1) (ej_ fun ad h=>(hc.block ad h).1);have y2:=hf.cell (a:=⟨w.heap.size,2,none⟩) (by first | exact z2 | exact Ah _ z2) (ej_ fun ad h=>(hc.block ad h).1)))
  all_goals
   have he:Below w.heap.size w w1:=Yi (by go_grown) hb (by first | omega | (simp;omega)) (fun k e=>by simp[Value.ownBlock] at e;omega);have ht:Below w.heap.size w w2:=Yi (by first | exact he | exact he.alloc he.size _) hf (by have:=he.size;first | omega | (simp;omega)) (aG_ fun ad h=>by have:=(hc.block ad h).1;omega);have hA:Ac Pt.cs 3 162 w2 w.heap.size a2 (0+1) cap2 (AX l p):=by rw[hr.out];exact hz.mono (by omega)
   go_wp2;go_returns;exact⟨⟨a2,_,cap2,rfl,hA⟩,ht⟩
 ·-- there is a last part
  have hP:l.length=L'.length+1:=by rw[hL];simp
  have hq:l[L'.length]?=some q:=by rw[hL];simp
  have hh:l.getLast?=some q:=by rw[hL];simp
  have hE:l.dropLast=L':=by rw[hL];simp
  obtain⟨j,rfl⟩:∃ j,n=j+1:=⟨L'.length,by omega⟩;have hs:L'.length=j:=by omega
  rw[hs] at hq;obtain⟨b,o,q',rfl,hj,d0,d1,d2⟩:=bi_ (h.below hk) (k:=j) (by omega);obtain rfl:q=q':=by rw[hq] at hj;exact Zi hj
  have hT:wrap64 ((j:Int)+1-1)=(j:Int):=by unfold wrap64;omega
  have hR:(0:Int)<=(j:Int):=by omega
  have hS:(j:Int)<(j:Int)+1:=by omega
  have g0:=Ad d0;have g1:=Ad d1;have g2:=Ad d2;have g3:=Ad x0;have g4:=Ad x1;have g5:=Ad x2;have hM:=aA_ (w.alloc (.cells #[.int .i64 p.a,.int .i64 p.f,.int .i64 p.n] 162))
  cases hu:AN q p
  all_goals
   go_enter func151,ntmps151
   go_wp2_with fail
   refine ab_ (by kernel_rfl) (by kernel_rfl) ?_
   repeat (go_big_quiet_step (first | (go_at_call 147;have qq:=gC_ q p;rw[hu] at qq;exact an_ (qq _))))
   refine wpQuiet_nil ?_;intro W6 hx;have hg:=ah_ hx;clear hx g0 g1 g2 g3 g4 g5 hM;replace x0:=Ab hg x0;replace x1:=Ab hg x1;replace x2:=Ab hg x2;replace d0:=Ab hg d0;replace d1:=Ab hg d1;replace d2:=Ab hg d2;have hl:=Aa hk hg;clear hk hg;have h6:=h.below hl;have hN:=hl.size;have hy:w.heap.size<W6.heap.size:=Yk W6 ⟨w.heap.size,0,none⟩ x0
  ·have hr:Hid (AX l p=[]++l++[p]):=by show _=_;simp[AX,hh,hu]
   go_wp2_with fail
   go_region_held3 (fun u=>u.cell? ⟨w.heap.size,0,none⟩=some (.int .i64 p.a)∧u.cell? ⟨w.heap.size,1,none⟩=some (.int .i64 p.f)∧u.cell? ⟨w.heap.size,2,none⟩=some (.int .i64 p.n)) (go_keep) (first | (refine aJ_ rfl (ay_ _ _ 154 rfl (w.heap.size+1) 162 i0 (.agg #[.int .i64 0,.int .i64 0,.int .i64 0]) 24 underlying154 hi hm ho hp rfl (by decide) bF_ cI_ _ 0 0 [] rfl (aw_ (by first | exact (Blk.new' _ _ _ _ (by simp)).drew | exact ((Blk.new' _ _ _ _ (by simp)).alloc _).drew) (by first | omega | (simp;omega))) (some ⟨b,o,none⟩) (j+1) cap l rfl (h6.below (by go_grown)) ha.spot ha.nil (j+1) (Zq _) (by unfold maxLen;omega) (by omega) (by first | omega | (simp;omega)) ?_);intro a1 cap1 w1 hc hb;have z0:=hb.cell (a:=⟨w.heap.size,0,none⟩) (by first | exact Ah _ x0 | exact Ah _ (Ah _ x0)) (by simp[Value.ownBlock];omega);have z1:=hb.cell (a:=⟨w.heap.size,1,none⟩) (by first | exact Ah _ x1 | exact Ah _ (Ah _ x1)) (by simp[Value.ownBlock];omega);have z2:=hb.cell (a:=⟨w.heap.size,2,none⟩) (by first | exact Ah _ x2 | exact Ah _ (Ah _ x2)) (by simp[Value.ownBlock];omega)) | (refine aJ_ rfl (ay_ _ _ 154 rfl (w.heap.size+1) 162 i0 (.agg #[.int .i64 0,.int .i64 0,.int .i64 0]) 24 underlying154 hi hm ho hp rfl (by decide) bF_ cI_ a1 (j+1) cap1 ([]++l) rfl (by first | exact hc | exact hc.alloc _) _ 1 1 [p] rfl (by first | exact ck_ _ p _ _ (by simp) | (refine As.grown (r:=W6.heap.size) (ck_ _ p _ _ (by simp)).drew hb ?_;intro ad h;cases h;first | (simp;done) | (simp;omega) | omega) | (refine As.grown (r:=W6.heap.size+1) ((ck_ _ p _ _ (by simp)).alloc _).drew hb ?_;intro ad h;cases h;first | (simp;done) | (simp;omega) | omega)) (fun ad h=>(by cases h;rfl)) (fun h=>(by cases h)) (j+1+1) rfl (by unfold maxLen;omega) (by omega) (by have:=hb.size;simp at this;first | omega | (simp;omega)) ?_);intro a2 cap2 w2 hz hf;have y0:=hf.cell (a:=⟨w.heap.size,0,none⟩) (by first | exact z0 | exact Ah _ z0) (ej_ fun ad h=>(hc.block ad h).1);have y1:=hf.cell (a:=⟨w.heap.size,1,none⟩) (by first | exact z1 | exact Ah _ z1) (ej_ fun ad h=>(hc.block ad h).1);have y2:=hf.cell (a:=⟨w.heap.size,2,none⟩) (by first | exact z2 | exact Ah _ z2) (ej_ fun ad h=>(hc.block ad h).1)))
   all_goals
    have he:Below w.heap.size w w1:=Yi (by go_grown) hb (by first | omega | (simp;omega)) (fun k e=>by simp[Value.ownBlock] at e;omega);have ht:Below w.heap.size w w2:=Yi (by first | exact he | exact he.alloc he.size _) hf (by have:=he.size;first | omega | (simp;omega)) (aG_ fun ad h=>by have:=(hc.block ad h).1;omega);have hA:Ac Pt.cs 3 162 w2 w.heap.size a2 (j+1+1) cap2 (AX l p):=by rw[hr.out];exact hz.mono (by omega)
    go_wp2;go_returns;exact⟨⟨a2,_,cap2,rfl,hA⟩,ht⟩
  ·have hr:Hid (AX l p=l.dropLast++[⟨q.a,q.f,wrap64 (q.n+p.n)⟩]):=by show _=_;simp[AX,hh,hu]
   go_wp2_with (at_builtin;refine ag_ rfl (fun K hK=>ay_ _ _ 154 rfl (w.heap.size+1) 162 i0 (.agg #[.int .i64 0,.int .i64 0,.int .i64 0]) 24 underlying154 hi hm ho hp rfl (by decide) bF_ cI_ _ 0 0 [] rfl (aw_ (Blk.new' _ _ _ _ (by simp)) (by omega)) (some ⟨b,o,none⟩) (j+1) cap l rfl (h6.below (by go_grown)) ha.spot ha.nil (j+1) (Zq _) (by unfold maxLen;omega) (by omega) (by simp;omega) (fun a1 cap1 w1 hc hb=>hK _ _ ?_)))
   have he:Below w.heap.size w w1:=Yi (by go_grown) hb (by simp;omega) (fun k e=>by simp[Value.ownBlock] at e;omega);rcases hc.own with⟨_,h0,_⟩ | ⟨g,rfl,hQ,hG,hH,c,hD,hI,hJ⟩
   ·exact absurd h0 (by omega)
   have z2:=hb.cell (a:=⟨w.heap.size,2,none⟩) (Ah _ x2) (by simp[Value.ownBlock];omega);obtain⟨b',o',q',hC,hj,e0,e1,e2⟩:=bi_ hc.sl (k:=j) (by omega);obtain⟨rfl,rfl⟩:g=b'∧0=o':=by simpa using hC
   obtain rfl:q=q':=by simp only[ZM] at hj;rw[hq] at hj;exact Zi hj
   simp only[Zq] at e0 e1 e2;have f2:=hD.frozen (j*3+2);clear hC;refine aE_ 12 (by kernel_rfl) (by kernel_rfl) ?_;simp only[ZP,Yx,ZR,YC]
   repeat still_step
   refine wpStill_nil ?_;go_wp2;go_returns;go_light;refine⟨⟨some ⟨g,0,none⟩,j+1,cap1,rfl,?_⟩,((he.setCell (by show w.heap.size<=g;omega) _).drew)⟩;rw[hr.out,hE];have hF:(L'.flatMap Pt.cs).length=j*3:=by rw[aY_ bF_,hs]
   have hO:(c.setIfInBounds (j*3+2) (.int .i64 (wrap64 (q.n+p.n)))).toList.take ((j+1)*3)=(L'++[(⟨q.a,q.f,wrap64 (q.n+p.n)⟩:Pt)]).flatMap Pt.cs:=by
    rw[Array.toList_setIfInBounds,List.take_set,hJ,hL,ZM,List.concat_eq_append,ZQ,ZQ,List.set_append_right _ _ (by omega),hF];simp[Pt.cs]
   obtain⟨a2,cap2,hv,hB⟩:=bz_ (w:=(w1.setCell ⟨g,j*3+2,none⟩ (.int .i64 (wrap64 (q.n+p.n)))).drew) (B:=w.heap.size) (t:=162) (n:=j+1) (v:=.slice (some ⟨g,0,none⟩) (j+1) cap1) (l:=L'++[(⟨q.a,q.f,wrap64 (q.n+p.n)⟩:Pt)]) bF_ (by simp[hs])
    ⟨by rw[aY_ bF_];simp[hs],.inr ⟨g,cap1,_,rfl,by omega,(hD.set _ _).drew,hG,hH,by simp[hI],hO⟩⟩
   cases hv
   exact hB
def Al (l m:List Pt):List Pt:=m.foldl AX l
theorem fL_ (l:List Pt)(p:Pt):(AX l p).length<=l.length+1:=by
 unfold AX;split
 ·simp
 ·split
  ·simp only[ZE,List.length_dropLast,Zw,YK];omega
  ·simp
theorem n1_ {l m:List Pt}(h:m[k]?=some p):Al l (m.take (k+1))=AX (Al l (m.take k)) p:=by
 unfold Al;rw[bx_ h,List.foldl_append];rfl
theorem bS_ (a:Option Addr)(n cap:Nat)(l:List Pt)(a':Option Addr)(n' cap':Nat)(m:List Pt)(w:World)(h:AE w a n l)(hn:n<=1100000)(ha:Ei a cap)(h':AE w a' n' m)(hn':n'<=1100000):
  Calls prog 152 #[.slice a n cap,.slice a' n' cap'] w fun e w'=>(∃ a1 n1 cap1,e=.returned (.slice a1 n1 cap1)∧n1<=n+n'∧Ac Pt.cs 3 162 w' w.heap.size a1 n1 cap1 (Al l m))∧Below w.heap.size w w':=by
 have hb:Hid (m.length=n'):=h'.len;obtain⟨i0,hi,hh,hj,hl⟩:=info_parts EN;go_enter func152,ntmps152
 go_wp2_with (at_builtin;refine ag_ rfl (fun K hK=>ay_ _ _ 154 rfl w.heap.size 162 i0 (.agg #[.int .i64 0,.int .i64 0,.int .i64 0]) 24 underlying154 hi hh hj hl rfl (by decide) bF_ cI_ _ 0 0 [] rfl (aw_ (Blk.new' _ _ _ _ (by simp)) (by omega)) a n cap l rfl (h.below (by go_grown)) ha.spot ha.nil n (Zq _) (by unfold maxLen;omega) (by omega) (by simp) (fun a1 cap1 w1 hf he=>hK _ _ ?_)))
 have hq:Below w.heap.size w w1:=Yi (by go_grown) he (by simp) (fun k e=>by simp[Value.ownBlock] at e;omega);simp only[ZM] at hf;clear he hi hh hj hl
 go_loopw [5,6] (fun out ix wr=>∃ (k:Nat) (a2:Option Addr) (n2 cap2:Nat),k<=n'∧ix=.int .i64 k∧out=.slice a2 n2 cap2∧n2<=n+k∧Ac Pt.cs 3 162 wr w.heap.size a2 n2 cap2 (Al l (m.take k))∧Below w.heap.size w wr) (fun _ ix _=>n'-(intOf ix).toNat)
 case atStart=>exact⟨0,a1,n,cap1,Zg _,rfl,rfl,by omega,hf,hq⟩
 case round=>
  obtain⟨k,a2,n2,cap2,hk,rfl,rfl,hr,hc,hB⟩:=hrel;by_cases hlt:k<n'
  ·obtain⟨b,o,p,rfl,hp,c0,c1,c2⟩:=bi_ (h'.below hB) hlt;have hs:Hid (Al l (m.take (k+1))=AX (Al l (m.take k)) p):=n1_ hp;clear hp;generalize Al l (m.take k)=lk at *;have ho:=fL_ lk p;rw[hc.sl.len] at ho
   go_wp2_with fail
   refine (bg_ a2 n2 cap2 lk p _ hc.sl (by omega) hc.arg).mono ?_;rintro e w3 ⟨⟨a3,n3,cap3,rfl,hg⟩,hm⟩;have ht:=hg.sl.len;go_wp2;go_roundw
   case rel=>exact⟨k+1,a3,n3,cap3,by omega,by go_num,rfl,by omega,by rw[hs.out];exact hg.mono hB.size,Aa hB hm⟩
   case measure=>simp[intOf];omega
  ·obtain rfl:k=n':=by omega
   go_wp2;go_returns;go_light;rw[Zk (Zm hb.out)] at hc;exact⟨⟨a2,n2,cap2,rfl,hr,hc⟩,hB⟩
def GC (l:List Pt):Prop:=∀ p∈l,(1<=p.n∧p.n<=100∧0<=p.f∧p.f<=100)∧((p.a=0∧p.f=0)∨0<p.a)
theorem n2_ (h:p.a=0)(hf:p.f=0):BF p x y=⟨p.a,p.f,y-x⟩:=by simp[BF,h,hf]
theorem pk_ (h:0<p.a):BF p x y=⟨p.a,p.f+x,y-x⟩:=by
 have:(p.a==0)=false:=ZV.2 (by omega)
 simp[BF,this]
theorem j2_ (hx:max (fr-st) 0=x)(hy:min (to-st) p.n=y)(h:x<y):Al lk (slp fr to st (p::r))=Al (AX lk (BF p x y)) (slp fr to (st+p.n) r):=by
 rw[eN_ hx hy h];rfl
theorem fM_ (h:max (fr-st) 0<min (to-st) p.n)(ha:p.a=0∧p.f=0)(hz:min (to-st) p.n-max (fr-st) 0=z):Al lk (slp fr to st (p::r))=Al (AX lk ⟨p.a,p.f,z⟩) (slp fr to (st+p.n) r):=by
 rw[j2_ rfl rfl h,n2_ ha.1 ha.2,hz]
theorem g0_ {f:Int}(h:max (fr-st) 0<min (to-st) p.n)(ha:0<p.a)(hf:p.f+max (fr-st) 0=f)(hz:min (to-st) p.n-max (fr-st) 0=z):Al lk (slp fr to st (p::r))=Al (AX lk ⟨p.a,f,z⟩) (slp fr to (st+p.n) r):=by
 rw[j2_ rfl rfl h,pk_ ha,hz,hf]
theorem bZ_ {l:List Pt}{m:Nat}(h1:(AX l p).length=n)(h2:l.length=m):n<=m+1:=by
 have:=fL_ l p;omega
end
end Go.Proofs.YtbbhcnjhohidnaaGreatDoor
