/- All of a list of ops, by the program. -/
import Derived.Test.YtkodenjhajafpaaGreatDoorU48
set_option maxHeartbeats 20000000
set_option maxRecDepth 100000
namespace Go.Proofs.YtkodenjhajafpaaGreatDoor
open Go Go.RowKit Go.BigFrame _root_.Go.Proofs.Tryz
def opC (p:Opr):List Value:=[.int .i64 p.k,.string p.vol,.string p.file,.string p.to,.string p.into,.int .i64 p.at',.int .i64 p.fr,.int .i64 p.ln,.string p.data]
theorem op_at {w:World}{a:Option Addr}{n:Nat}{l:List Opr}(h:AE opC 9 w a n l){k:Nat}(hk:k<n):∃ b o p,a=some ⟨b,o,none⟩∧l[k]?=some p∧w.cell? ⟨b,o+k*9,none⟩=some (.int .i64 p.k)∧w.cell? ⟨b,o+k*9+1,none⟩=some (.string p.vol)∧w.cell? ⟨b,o+k*9+2,none⟩=some (.string p.file)∧w.cell? ⟨b,o+k*9+3,none⟩=some (.string p.to)∧w.cell? ⟨b,o+k*9+4,none⟩=some (.string p.into)∧w.cell? ⟨b,o+k*9+5,none⟩=some (.int .i64 p.at')∧w.cell? ⟨b,o+k*9+6,none⟩=some (.int .i64 p.fr)∧w.cell? ⟨b,o+k*9+7,none⟩=some (.int .i64 p.ln)∧w.cell? ⟨b,o+k*9+8,none⟩=some (.string p.data):=by
 have hl:k<l.length:=by rw[h.len];exact hk
 obtain⟨b,o,ha,hc⟩:=h.cell k l[k] (by simp[hl])
 exact⟨b,o,l[k],ha,by simp[hl],hc 0 _ rfl,hc 1 _ rfl,hc 2 _ rfl,hc 3 _ rfl,hc 4 _ rfl,hc 5 _ rfl,hc 6 _ rfl,hc 7 _ rfl,hc 8 _ rfl⟩
abbrev iC:Int->List Value:=fun x=>[Value.int .i64 x]
theorem int_at {w:World}{a:Option Addr}{n:Nat}{l:List Int}(h:AE iC 1 w a n l){k:Nat}(hk:k<n):∃ b o p,a=some ⟨b,o,none⟩∧l[k]?=some p∧w.cell? ⟨b,o+k,none⟩=some (.int .i64 p):=by
 have hl:k<l.length:=by rw[h.len];exact hk
 obtain⟨b,o,ha,hc⟩:=h.cell k l[k] (by simp[hl])
 have:=hc 0 _ rfl
 exact⟨b,o,l[k],ha,by simp[hl],by simpa using this⟩
def stepA (x:Po×List Int)(o:Opr):Po×List Int:=((opS x.1 o).2,x.2++[(opS x.1 o).1])
def goA (p:Po)(l:List Opr):Po×List Int:=l.foldl stepA (p,[])
def allS (p:Po)(l:List Opr):Po×List Int:=if Aj p=true∧l.length<=100 then goA p l else (⟨0,0,[],[],[],[]⟩,[])
theorem op_right {p:Po}{o:Opr}(hp:Aj p=true):Aj (opS p o).2=true:=by
 unfold opS
 split
 ·split
  ·exact le_ hp
  ·split
   ·split
    ·assumption
    ·exact hp
   ·exact hp
 ·exact hp
theorem goA_snoc (p:Po)(l:List Opr)(o:Opr):goA p (l++[o])=stepA (goA p l) o:=by simp[goA]
theorem goA_take {p:Po}{l:List Opr}{k:Nat}{o:Opr}(h:l[k]?=some o):goA p (l.take (k+1))=stepA (goA p (l.take k)) o:=by
 rw[ZK,h]
 exact goA_snoc _ _ _
theorem goA_rightX:∀ (l:List Opr) (x:Po×List Int),Aj x.1=true->Aj (l.foldl stepA x).1=true
 |[],_,h=>h
 |o::l,x,h=>goA_rightX l (stepA x o) (op_right h)
theorem goA_right {p:Po}(hp:Aj p=true)(l:List Opr):Aj (goA p l).1=true:=goA_rightX l (p,[]) hp
theorem AB.u {p:Po}(h:AB p):H5 p:=by
 obtain⟨h1,_,h3,h4,h5,_,h7,_⟩:=h
 exact⟨h1,h3,h5,h7,fun v hv=>⟨(h4 v hv).2.1,fun y hy=>((h4 v hv).2.2 y hy).2⟩⟩
theorem Di.put {B B':Nat}{w w':World}{v:Value}{p:Po}{b:Nat}{c:Array Value}(h:Di B w v p)(hB:B'<=B)(hg:w.grownBy w' (some b))(hb:Blk w b c 28):Di B' w' v p:=by
 obtain⟨rows,h⟩:=h
 exact⟨rows,(h.tyP hg (aa_ hb)).mono hB⟩
theorem Di.tyI {B:Nat}{w w':World}{v:Value}{p:Po}{row:Option Nat}(h:Di B w v p)(hg:w.grownBy w' row)(hr:BC w row 2):Di B w' v p:=by
 obtain⟨rows,ea,en,ec,va,vn,vc,ra,rn,rc,la,ln,lc,hv,h1,⟨h2,h3⟩,h4,h5,h6,h7,h8⟩:=h
 exact⟨rows,ea,en,ec,va,vn,vc,ra,rn,rc,la,ln,lc,hv,h1.ty hg hr (by decide),⟨h2.ty hg hr (by decide),h3.ty hg hr (by decide) (by decide)⟩,h4.ty hg hr (by decide),h5.ty hg hr (by decide),h6,h7,kp_ h3 h8 hg hr (by decide)⟩
theorem Ad.own_ge {α:Type}{cs:α->List Value}{sz:Nat}{t:TypeId}{w:World}{B:Nat}{a:Option Addr}{n cap m k:Nat}{l:List α}(h:Ad cs sz t w B a n cap l)(j:Nat)(e:Value.ownBlock (.slice a m k)=some j):B<=j:=by
 obtain⟨x,hx,rfl⟩:=aO_.1 (gm_ e)
 exact (h.block x hx).1
theorem dim0:AB ⟨0,0,[],[],[],[]⟩:=⟨by simp,fun e h=>(by cases h),by simp,fun e h=>(by cases h),by simp,fun e h=>(by cases h),by simp,fun e h=>(by cases h)⟩
theorem impl_DoneAll (S:Addr->Prop)(ep:Addr)(B0:Nat)(hB0:0<B0)(v:Value)(p:Po)(a:Option Addr)(n cap:Nat)(l:List Opr)(w:World)(h:AF B0 w v p)(hd:AB p)(hl:AE opC 9 w a n l)(hstr:∀ o∈l,BE o)(hn:n<=4194304)(hE:Gf S ep w)(hgl:11<=w.heap.size) :
  Calls prog 17 #[v,.slice a n cap] w fun e w'=>(∃ v' a' n' cap',e=.returned (.tuple #[v',.slice a' n' cap'])∧Di w.heap.size w' v' (allS p l).1∧Ad iC 1 2 w' w.heap.size a' n' cap' (allS p l).2∧AB (allS p l).1)∧Below w.heap.size w w':=by
 have hQ:=h
 obtain⟨ea,en,ec,va,vn,vc,ra,rn,rc,la,ln,lc,rfl,_⟩:=h
 obtain⟨R,hR⟩:∃ R,Hid (allS p l=R):=⟨_,rfl⟩
 rw[hR.out]
 have he:Hid (l.length=n):=hl.len
 obtain⟨W0,hj⟩:∃ W,W=(w.alloc (.cells #[.int .i64 p.size,.int .i64 p.next,.slice ea en ec,.slice va vn vc,.slice ra rn rc,.slice la ln lc] 28)).alloc (.cells #[.int .i64 0,.int .i64 0,.slice none 0 0,.slice none 0 0,.slice none 0 0,.slice none 0 0] 28):=⟨_,rfl⟩
 have hF:Below w.heap.size w W0:=by rw[hj];go_grown
 have D:Blk W0 (w.heap.size+1) #[.int .i64 0,.int .i64 0,.slice none 0 0,.slice none 0 0,.slice none 0 0,.slice none 0 0] 28:=by rw[hj];exact Blk.new' _ _ _ _ (by simp)
 have C:Blk W0 w.heap.size #[.int .i64 p.size,.int .i64 p.next,.slice ea en ec,.slice va vn vc,.slice ra rn rc,.slice la ln lc] 28:=by rw[hj];exact (Blk.new w _ _).alloc _
 go_enter func17,ntmps17
 go_wp2_with fail
 rw[<-hj]
 clear hj
 refine (ch_ B0 _ p _ (hQ.below hF) hd).mono ?_
 rintro e w1 ⟨rfl,hw⟩
 replace C:=C.below hw
 replace D:=D.below hw
 have hB:=Aa hF hw
 clear hw hF
 have qb:=D.lt
 by_cases hgo:Aj p=true∧n<=100
 ·obtain⟨hp,hZ⟩:=hgo
  have hb:Hid (R=goA p l):=by show _=_;rw[<-hR.out,allS,if_pos ⟨hp,by rw[he.out];exact hZ⟩]
  clear hR
  rw[hp]
  have h0:¬ (100:Int)<(n:Int):=by omega
  obtain⟨d0,d1,d2,d3,d4,d5⟩:=C.six
  go_wp2_with fail
  refine (ff_ B0 hB0 _ p w1 (hQ.below hB) hd.u).mono ?_
  rintro e w2 ⟨⟨v2,rows2,rfl,U2⟩,hx⟩
  obtain⟨ea2,en2,ec2,va2,vn2,vc2,ra2,rn2,rc2,la2,ln2,lc2,rfl⟩:=U2.t.at'.cells
  have hs:Below w2.heap.size w2 (w2.alloc (.cells #[.int .i64 p.size,.int .i64 p.next,.slice ea2 en2 ec2,.slice va2 vn2 vc2,.slice ra2 rn2 rc2,.slice la2 ln2 lc2] 28)):=(Yg _ _).alloc (Zd _) _
  obtain⟨xb,hC⟩:∃ b,b=w2.heap.size:=⟨_,rfl⟩
  have X:Blk (w2.alloc (.cells #[.int .i64 p.size,.int .i64 p.next,.slice ea2 en2 ec2,.slice va2 vn2 vc2,.slice ra2 rn2 rc2,.slice la2 ln2 lc2] 28)) xb #[.int .i64 p.size,.int .i64 p.next,.slice ea2 en2 ec2,.slice va2 vn2 vc2,.slice ra2 rn2 rc2,.slice la2 ln2 lc2] 28:=Blk.new' _ _ _ _ hC
  have h5:Hid (w.heap.size+1<xb):=by show _<_;rw[hC];have:=hx.size;omega
  have P0:Di w.heap.size (w2.alloc (.cells #[.int .i64 p.size,.int .i64 p.next,.slice ea2 en2 ec2,.slice va2 vn2 vc2,.slice ra2 rn2 rc2,.slice la2 ln2 lc2] 28)) (.agg #[.int .i64 p.size,.int .i64 p.next,.slice ea2 en2 ec2,.slice va2 vn2 vc2,.slice ra2 rn2 rc2,.slice la2 ln2 lc2]) p:=⟨rows2,(U2.mono hB.size).below hs⟩
  replace D:=(D.below hx).below hs
  replace hB:=Aa (Aa hB hx) hs
  clear d0 d1 d2 d3 d4 d5 hx hs U2 C
  go_wp2_with fail
  rw[<-hC]
  clear hC
  generalize w2.alloc (.cells #[.int .i64 p.size,.int .i64 p.next,.slice ea2 en2 ec2,.slice va2 vn2 vc2,.slice ra2 rn2 rc2,.slice la2 ln2 lc2] 28)=W2 at *
  go_loopw [7,25] (fun cs ix wr=>∃ (k:Nat) (q:Po) (ea3:Option Addr) (en3 ec3:Nat) (va3:Option Addr) (vn3 vc3:Nat) (ra3:Option Addr) (rn3 rc3:Nat) (la3:Option Addr) (ln3 lc3:Nat) (ca:Option Addr) (cc:Nat) (cl:List Int),k<=n∧ix=.int .i64 k∧cs=.slice ca k cc∧Hid (goA p (l.take k)=(q,cl))∧Blk wr xb #[.int .i64 q.size,.int .i64 q.next,.slice ea3 en3 ec3,.slice va3 vn3 vc3,.slice ra3 rn3 rc3,.slice la3 ln3 lc3] 28∧Di w.heap.size wr (.agg #[.int .i64 q.size,.int .i64 q.next,.slice ea3 en3 ec3,.slice va3 vn3 vc3,.slice ra3 rn3 rc3,.slice la3 ln3 lc3]) q∧AB q∧Ad iC 1 2 wr w.heap.size ca k cc cl∧Blk wr (w.heap.size+1) #[.int .i64 0,.int .i64 0,.slice none 0 0,.slice none 0 0,.slice none 0 0,.slice none 0 0] 28∧Below w.heap.size w wr) (fun _ ix _=>n-(intOf ix).toNat)
  case atStart=>exact⟨0,p,ea2,en2,ec2,va2,vn2,vc2,ra2,rn2,rc2,la2,ln2,lc2,none,0,[],Zg _,rfl,rfl,rfl,X,P0,hd,aB_,D,hB⟩
  case round=>
   clear X P0 D hB
   obtain⟨k,q,ea3,en3,ec3,va3,vn3,vc3,ra3,rn3,rc3,la3,ln3,lc3,ca,cc,cl,hk,rfl,rfl,hI,X,P,hV,RC,D,hB⟩:=hrel
   by_cases hlt:k<n
   ·obtain⟨b,o,p1,rfl,hJ,c0,c1,c2,c3,c4,c5,c6,c7,c8⟩:=op_at (hl.below hB) hlt
    have h2:=hstr p1 (Zc hJ)
    have hq:=goA_right hp (l.take k)
    rw[hI.out] at hq
    have hT:Hid (goA p (l.take (k+1))=((opS q p1).2,cl++[(opS q p1).1])):=by show _=_;rw[goA_take hJ,hI.out];rfl
    have hU:BD q p1=opS q p1:=by simp only[BD];rw[if_pos hq]
    have hz:=fun (B0:Nat) (v:Value) (u:World) (hv:AF B0 u v q) (hB:0<B0) (hE:Gf S ep u) (hg:11<=u.heap.size)=>nV_ S ep B0 hB v q p1 u hv hV h2 hE hg
    simp only[hU] at hz
    obtain⟨⟨c1',q1⟩,hS⟩:∃ R,Hid (opS q p1=R):=⟨_,rfl⟩
    simp only[hS.out] at hz hT
    clear hJ hq hU hS
    have qc:(k:Int)<n:=by omega
    have qd:(0:Int)<=k:=by omega
    have hA:Below wr.heap.size wr (wr.alloc (.cells #[.int .i64 p1.k,.string p1.vol,.string p1.file,.string p1.to,.string p1.into,.int .i64 p1.at',.int .i64 p1.fr,.int .i64 p1.ln,.string p1.data] 30)):=(Yg _ _).alloc (Zd _) _
    obtain⟨d0,d1,d2,d3,d4,d5⟩:=(X.below hA).six
    go_wp2_with fail
    refine (hz w.heap.size _ _ (P.t.at'.below hA) (by omega) (hE.below (Aa hB hA)) (Zl hgl (Aa hB hA).size)).mono ?_
    rintro e w3 ⟨⟨v3,cz,rfl,rfl,P3,hY⟩,hN⟩
    obtain⟨ea4,en4,ec4,va4,vn4,vc4,ra4,rn4,rc4,la4,ln4,lc4,rfl⟩:=P3.t.at'.cells
    have hG:=Aa hA hN
    have hH:Below w3.heap.size w3 (w3.alloc (.cells #[.int .i64 q1.size,.int .i64 q1.next,.slice ea4 en4 ec4,.slice va4 vn4 vc4,.slice ra4 rn4 rc4,.slice la4 ln4 lc4] 28)):=(Yg _ _).alloc (Zd _) _
    have hu:=Aa hG hH
    have h3:=hG.size
    have h4:=hB.size
    replace P3:=(P3.below hH).mono (Zl h4 hA.size)
    have T4:=Blk.new w3 #[.int .i64 q1.size,.int .i64 q1.next,.slice ea4 en4 ec4,.slice va4 vn4 vc4,.slice ra4 rn4 rc4,.slice la4 ln4 lc4] 28
    have X4:=X.below hu
    have hM:=RC.below hu
    have D4:=D.below hu
    have hO:=Aa hB hu
    have h7:=X.lt
    clear hN hG d0 d1 d2 d3 d4 d5 c0 c1 c2 c3 c4 c5 c6 c7 c8 hz hA hH P
    obtain⟨t0,t1,t2,t3,t4,t5⟩:=T4.six
    obtain⟨x0,x1,x2,x3,x4,x5⟩:=X4.six
    obtain⟨f0,f1,f2,f3,f4,f5⟩:=fz6 X4
    go_upto_region 10 with fail
    obtain⟨U,ha,X5,ho⟩:=AU X4 (.int .i64 q1.size) (.int .i64 q1.next) (.slice ea4 en4 ec4) (.slice va4 vn4 vc4) (.slice ra4 rn4 rc4) (.slice la4 ln4 lc4)
    have h6:=h5.out
    have hP:=ao_ hO ho (by omega)
    have P5:=P3.put (Zd _) ho X4
    have hD:=hM.ty ho (aa_ X4) (by decide)
    have D5:=D4.grown ho (by simp only[ne_eq];omega)
    rw[<-ha]
    clear ha ho X4 hM D4 T4 hO P3 t0 t1 t2 t3 t4 t5 x0 x1 x2 x3 x4 x5 f0 f1 f2 f3 f4 f5 X RC D hB
    have hr:(prog.info? 2).map (fun i=>(i.zero,i.size,i.bytes))=some (some (.int .i64 0),1,8):=by kernel_rfl
    obtain⟨i0,hi,h8,h9,qa⟩:=info_parts hr
    have qe:=hP.size
    go_wp2_with (at_builtin;refine ag_ rfl (fun K hK=>ay_ _ _ 47 rfl w.heap.size 2 i0 (.int .i64 0) 8 underlying47 hi h8 h9 qa rfl (by decide) mw_ my_ ca k cc cl rfl (hD.alloc _) _ 1 1 [cz] rfl (j3_ _ _ _ _ (by simp)) (fun ad h=>(by cases h;rfl)) (fun h=>(by cases h)) (k+1) rfl (by unfold maxLen;omega) (by omega) (by simp;omega) (fun a3 cap3 w6 R6 hy=>hK _ _ ?_)))
    have hf:Below U.heap.size U (U.alloc (.cells #[.int .i64 cz] 2)):=(Yg _ _).alloc (Zd _) _
    have hL:=(hD.below hf).rowTy (m:=k) (k:=cc)
    have X6:=(X5.below hf).ty hy hL (by decide)
    have D6:=(D5.below hf).ty hy hL (by decide)
    have P6:=(P5.below hf).tyI hy hL
    have hX:=jc_ (Aa hP hf) hy (fun j e=>hD.own_ge j e)
    go_roundw
    case rel=>exact⟨k+1,q1,ea4,en4,ec4,va4,vn4,vc4,ra4,rn4,rc4,la4,ln4,lc4,a3,cap3,_,by omega,by go_num,rfl,hT,X6,P6,hY,R6,D6,hX⟩
    case measure=>simp[intOf];omega
   ·obtain rfl:k=n:=by omega
    have ht:l.take k=l:=Zk (by rw[he.out];exact Zd _)
    rw[ht,<-hb.out] at hI
    obtain⟨d0,d1,d2,d3,d4,d5⟩:=X.six
    obtain⟨x0,x1,x2,x3,x4,x5⟩:=D.six
    obtain⟨f0,f1,f2,f3,f4,f5⟩:=fz6 D
    go_wp2
    obtain⟨W8,ha,E8,hc⟩:=AU D (.int .i64 q.size) (.int .i64 q.next) (.slice ea3 en3 ec3) (.slice va3 vn3 vc3) (.slice ra3 rn3 rc3) (.slice la3 ln3 lc3)
    have hh:=ao_ hB hc (by omega)
    have P8:=P.put (Zd _) hc D
    have hW:=RC.ty hc (aa_ D) (by decide)
    rw[<-ha]
    clear ha
    refine YW (ad_ rfl _ W8 (w.heap.size+1) _ _ _ _ _ rfl E8 underlying28 rfl (by kernel_rfl) rfl) rfl ?_
    rw[hI.out]
    exact⟨⟨_,ca,k,cc,rfl,P8,hW,hV⟩,hh⟩
 ·have hb:Hid (R=(⟨0,0,[],[],[],[]⟩,[])):=by show _=_;rw[<-hR.out,allS,if_neg (by rw[he.out];exact hgo)]
  clear hR
  obtain⟨x0,x1,x2,x3,x4,x5⟩:=D.six
  obtain⟨f0,f1,f2,f3,f4,f5⟩:=fz6 D
  have hm:∀ u:World,Di w.heap.size u (.agg #[.int .i64 0,.int .i64 0,.slice none 0 0,.slice none 0 0,.slice none 0 0,.slice none 0 0]) R.1:=fun u=>by
   rw[hb.out]
   exact⟨[],none,0,0,none,0,0,none,0,0,none,0,0,rfl,aB_,⟨aB_,rfl,fun i r y h=>by simp at h⟩,aB_,aB_,(fun x y h=>(by cases h)),(fun i j r s x y _ h=>(by simp at h)),List.nodup_nil⟩
  cases h1:Aj p
  ·go_wp2
   obtain⟨W8,ha,E8,hc⟩:=AU D (.int .i64 0) (.int .i64 0) (.slice none 0 0) (.slice none 0 0) (.slice none 0 0) (.slice none 0 0)
   have hh:=ao_ hB hc (by omega)
   rw[<-ha]
   clear ha
   refine YW (ad_ rfl _ W8 (w.heap.size+1) _ _ _ _ _ rfl E8 underlying28 rfl (by kernel_rfl) rfl) rfl ?_
   exact⟨⟨_,none,0,0,rfl,hm W8,by rw[hb.out];exact aB_,by rw[hb.out];exact dim0⟩,hh⟩
  ·have h0:(100:Int)<(n:Int):=by simp[h1] at hgo;omega
   go_wp2
   obtain⟨W8,ha,E8,hc⟩:=AU D (.int .i64 0) (.int .i64 0) (.slice none 0 0) (.slice none 0 0) (.slice none 0 0) (.slice none 0 0)
   have hh:=ao_ hB hc (by omega)
   rw[<-ha]
   clear ha
   refine YW (ad_ rfl _ W8 (w.heap.size+1) _ _ _ _ _ rfl E8 underlying28 rfl (by kernel_rfl) rfl) rfl ?_
   exact⟨⟨_,none,0,0,rfl,hm W8,by rw[hb.out];exact aB_,by rw[hb.out];exact dim0⟩,hh⟩
end Go.Proofs.YtkodenjhajafpaaGreatDoor
