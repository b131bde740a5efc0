/- All of a list of ops, by the model. -/
import Derived.Test.YtkodenjhajafpaaGreatDoorDp
set_option maxHeartbeats 20000000
set_option maxRecDepth 100000
namespace Go.Proofs.YtkodenjhajafpaaGreatDoor
open Go Go.RowKit Go.BigFrame _root_.Go.Proofs.Tryz
def putAll (x:Nat->Value)(D:List Nat)(a:Act):Act:=D.foldl (fun b k=>b.put (some k) (x k)) a
def CutQ (D:List Nat)(a0:Act)(Φ:(Nat->Value)->World->Prop):Exit->Act->World->Prop:=fun e a u=>e=.normal∧∃ x,a=putAll x D a0∧Φ x u
theorem region_cut {P:Program}{l:List Oper}{Q:Exit->Act->World->Prop}{id:Nat}{a0:Act}{w:World}(S:World->Prop)(n:Nat)(D:List Nat)(Φ:(Nat->Value)->World->Prop)(hSB:∀ u,Below w.heap.size w u->S u)
  (h1:(∀ u,Below w.heap.size w u->S u)->∀ u,Below w.heap.size w u->S u->wpAnyH P .any l.toArray (CutQ D a0 Φ) S n (Array.replicate n false) a0 u) (h2:∀ x u,Φ x u->Q .normal (putAll x D a0) u) (hm:P.follows .mixedOrders=true:=by kernel_rfl) (hn:l.toArray.size=n:=by rfl):(Code.region id l.toArray true).wp P Q a0 w:=by
 subst hn
 refine Code.wp_mono ?_ (wp_region_held (S:=S) hm (h1 hSB _ ((Yg _ _).drew) (hSB _ ((Yg _ _).drew))))
 rintro e a u ⟨rfl,x,rfl,hx⟩
 exact h2 x u hx
theorem tkc {P:Program}{D:List Nat}{a0:Act}{Φ:(Nat->Value)->World->Prop}{md:Region.Mode}{S:World->Prop}{l:List Oper}(i:Nat){oi:Oper}{v:Value}{fuel:Nat}{listed li:Array Bool}{a b:Act}{w:World}(h:wpAnyH P md l.toArray (CutQ D a0 Φ) S fuel li b w)(hi:l[i]?=some oi:=by rfl)
  (hB:(Region.noSelect l.toArray&&Region.free md l.toArray listed i&&(Region.ready md l.toArray listed).contains i)=true:=by kernel_rfl) (hw:Region.wanted oi (yielded l.toArray a.tmps)=true:=by rfl)
  (hy:∀ w,S w->(execOp a.eval oi).run P w=.ok (.value v) w:=by (intro u hu;(try dsimp only at hu);go_simp<;>with_reducible rfl)) (hS:S w:=by first | assumption | trivial)
  (hl:listed.setIfInBounds i true=li:=by (try simp only[lsA,lsB,lsC]);rfl) (ha:a.put oi.dst v=b:=by (try simp only[Act.put,lsA,lsB,lsC]);rfl):wpAnyH P md l.toArray (CutQ D a0 Φ) S (fuel+1) listed a w:=by
 subst hl ha
 simp only[Zf] at hB
 exact Il hi hB.1.1 hB.1.2 hB.2 (fun c _ w h=>by cases h.1) (.inl ⟨hw,hy⟩) hS h
theorem twoC {P:Program}{Q:Exit->Act->World->Prop}{md:Region.Mode}{S:World->Prop}{l:List Oper}(i j:Nat){o o':Oper}{fuel:Nat}{listed:Array Bool}{a:Act}{w:World}
  (h:∀ K':Act->World->Prop,Shut (∀ a w,S w->(S w->wpAnyH P md l.toArray Q S fuel (listed.setIfInBounds i true) a w)->K' a w)->if Region.wanted o (yielded l.toArray a.tmps)=true then Oper.wp P o a w K' Q else K' (a.put o.dst undef) w)
  (h':∀ K':Act->World->Prop,Shut (∀ a w,S w->(S w->wpAnyH P md l.toArray Q S fuel (listed.setIfInBounds j true) a w)->K' a w)->if Region.wanted o' (yielded l.toArray a.tmps)=true then Oper.wp P o' a w K' Q else K' (a.put o'.dst undef) w)
  (hr:Region.ready md l.toArray listed=[i,j]:=by kernel_rfl) (hi:l[i]?=some o:=by rfl) (hj:l[j]?=some o':=by rfl) :
  wpAnyH P md l.toArray Q S (fuel+1) listed a w:=
 wpAnyH_ready hr (by simp) (AllReadyH.cons (by simpa using hi) h (AllReadyH.cons (by simpa using hj) h' AllReadyH.nil))
theorem oneC {P:Program}{Q:Exit->Act->World->Prop}{md:Region.Mode}{S:World->Prop}{l:List Oper}(i:Nat){o:Oper}{fuel:Nat}{listed:Array Bool}{a:Act}{w:World}
  (h:∀ K':Act->World->Prop,Shut (∀ a w,S w->(S w->wpAnyH P md l.toArray Q S fuel (listed.setIfInBounds i true) a w)->K' a w)->if Region.wanted o (yielded l.toArray a.tmps)=true then Oper.wp P o a w K' Q else K' (a.put o.dst undef) w)
  (hr:Region.ready md l.toArray listed=[i]:=by kernel_rfl) (hi:l[i]?=some o:=by rfl):wpAnyH P md l.toArray Q S (fuel+1) listed a w:=AW hr hi h
/-- A pool's cells, laid anew. -/
theorem al6 {W u:World}(hU:Below W.heap.size W u):∃ ab U,ab=u.heap.size∧U=u.alloc (.cells #[.int .i64 0,.int .i64 0,.slice none 0 0,.slice none 0 0,.slice none 0 0,.slice none 0 0] 28)∧Blk U ab #[.int .i64 0,.int .i64 0,.slice none 0 0,.slice none 0 0,.slice none 0 0,.slice none 0 0] 28∧Below u.heap.size u U∧Below W.heap.size W U∧Hid (W.heap.size<=ab):=
 ⟨_,_,rfl,rfl,Blk.new _ _ _,(Yg _ _).alloc (Zd _) _,Aa hU ((Yg _ _).alloc (Zd _) _),hU.size⟩
/-- What is left where a pool and a code have been answered and the pool is stored. -/
def PhQ (xa xc:Nat)(c:Int)(q:Po)(W:World)(R:World->Value->Prop)(x:Nat->Value)(u:World):Prop:=∃ ab a b d e f g i j k l m n,x xa=.pointer (some ⟨ab,0,none⟩)∧x xc=.int .i64 c∧Blk u ab #[.int .i64 q.size,.int .i64 q.next,.slice a b d,.slice e f g,.slice i j k,.slice l m n] 28∧R u (.agg #[.int .i64 q.size,.int .i64 q.next,.slice a b d,.slice e f g,.slice i j k,.slice l m n])∧Below W.heap.size W u∧W.heap.size<=ab
theorem leafP {D:List Nat}{a0 A:Act}{xa xc:Nat}{z:Int}{q:Po}{W u:World}{R:World->Value->Prop}{ab:Nat}{a e i l:Option Addr}{b d f g j k m n:Nat}(E:Blk u ab #[.int .i64 q.size,.int .i64 q.next,.slice a b d,.slice e f g,.slice i j k,.slice l m n] 28)(r:R u (.agg #[.int .i64 q.size,.int .i64 q.next,.slice a b d,.slice e f g,.slice i j k,.slice l m n]))(hU:Below W.heap.size W u)(h:Hid (W.heap.size<=ab))
  (h1:A.eval (.tmp xa)=.pointer (some ⟨ab,0,none⟩):=by simp only[Act.eval,Array.getD_eq_getD_getElem?,lgA,lgB,lgC,Yw]) (h2:A.eval (.tmp xc)=.int .i64 z:=by simp only[Act.eval,Array.getD_eq_getD_getElem?,lgA,lgB,lgC,Yw])
  (hA:A=putAll (fun k=>A.eval (.tmp k)) D a0:=by simp only[putAll,YE,List.foldl_nil,Act.put,Act.eval,lsA,lsB,lsC,Array.getD_eq_getD_getElem?,lgA,lgB,lgC,Yw]):CutQ D a0 (PhQ xa xc z q W R) .normal A u:=⟨rfl,_,hA,ab,a,b,d,e,f,g,i,j,k,l,m,n,h1,h2,E,r,hU,h.out⟩
theorem Al.put {B:Nat}{w w':World}{v:Value}{p:Po}{b:Nat}{c:Array Value}(h:Al B w v p)(hg:w.grownBy w' (some b))(hb:Blk w b c 28):Al 0 w' v p:=(h.tyP hg (aa_ hb)).mono (Zg _)
theorem Al.tyI {B:Nat}{w w':World}{v:Value}{p:Po}{row:Option Nat}(h:Al B w v p)(hg:w.grownBy w' row)(hr:BC w row 2):Al B w' v p:=by
 obtain⟨ea,en,ec,va,vn,vc,ra,rn,rc,la,ln,lc,rows,hv,h1,⟨h2,h3⟩,h4,h5,h6⟩:=h
 exact⟨ea,en,ec,va,vn,vc,ra,rn,rc,la,ln,lc,rows,hv,h1.ty hg hr (by decide),⟨h2.ty hg hr (by decide),h3.ty hg hr (by decide) (by decide)⟩,h4.ty hg hr (by decide),h5.ty hg hr (by decide),h6⟩
theorem spec_DoneAll (B0:Nat)(hB0:0<B0)(v:Value)(p:Po)(a:Option Addr)(n cap:Nat)(l:List Opr)(w:World)(h:AF B0 w v p)(hd:AB p)(hl:AE opC 9 w a n l)(hstr:∀ o∈l,BE o)(hn:n<=4194304)(hw0:0<w.heap.size) :
  Calls prog 18 #[v,.slice a n cap] w fun e w'=>(∃ v' a' n' cap',e=.returned (.tuple #[v',.slice a' n' cap'])∧Al w.heap.size w' v' (allS p l).1∧Ad iC 1 2 w' w.heap.size a' n' cap' (allS p l).2∧AB (allS p l).1)∧Below w.heap.size w w':=by
 have h0:=h
 obtain⟨ea,en,ec,va,vn,vc,ra,rn,rc,la,ln,lc,rfl,_⟩:=h
 obtain⟨R,hR⟩:∃ R,Hid (allS p l=R):=⟨_,rfl⟩
 rw[hR.out]
 have hg:Hid (l.length=n):=hl.len
 obtain⟨W0,hx⟩:∃ W,W=(w.alloc (.cells #[.int .i64 p.size,.int .i64 p.next,.slice ea en ec,.slice va vn vc,.slice ra rn rc,.slice la ln lc] 28)).alloc (.cells #[.int .i64 0,.int .i64 0,.slice none 0 0,.slice none 0 0,.slice none 0 0,.slice none 0 0] 28):=⟨_,rfl⟩
 have hQ:Below w.heap.size w W0:=by rw[hx];go_grown
 have D:Blk W0 (w.heap.size+1) #[.int .i64 0,.int .i64 0,.slice none 0 0,.slice none 0 0,.slice none 0 0,.slice none 0 0] 28:=by rw[hx];exact Blk.new' _ _ _ _ (by simp)
 have C:Blk W0 w.heap.size #[.int .i64 p.size,.int .i64 p.next,.slice ea en ec,.slice va vn vc,.slice ra rn rc,.slice la ln lc] 28:=by rw[hx];exact (Blk.new w _ _).alloc _
 go_enter func18,ntmps18
 go_wp2_with fail
 rw[<-hx]
 clear hx
 refine (ep_ B0 hB0 _ p _ (h0.below hQ) hd).mono ?_
 rintro e w1 ⟨rfl,hH⟩
 replace C:=C.below hH
 replace D:=D.below hH
 have hB:=Aa hQ hH
 clear hH hQ
 have qk:=D.lt
 by_cases hgo:Aj p=true∧n<=100
 ·obtain⟨hp,h8⟩:=hgo
  have hc:Hid (R=goA p l):=by show _=_;rw[<-hR.out,allS,if_pos ⟨hp,by rw[hg.out];exact h8⟩]
  clear hR
  rw[hp]
  have h9:¬ (100:Int)<(n:Int):=by omega
  obtain⟨d0,d1,d2,d3,d4,d5⟩:=C.six
  go_wp2_with fail
  refine (aW_ B0 hB0 _ p w1 (h0.below hB) hd).mono ?_
  rintro e w2 ⟨⟨v2,rfl,U2,_⟩,hJ⟩
  obtain⟨ea2,en2,ec2,va2,vn2,vc2,ra2,rn2,rc2,la2,ln2,lc2,rfl⟩:=U2.at'.cells
  have hG:Below w2.heap.size w2 (w2.alloc (.cells #[.int .i64 p.size,.int .i64 p.next,.slice ea2 en2 ec2,.slice va2 vn2 vc2,.slice ra2 rn2 rc2,.slice la2 ln2 lc2] 28)):=(Yg _ _).alloc (Zd _) _
  obtain⟨xb,hF⟩:∃ b,b=w2.heap.size:=⟨_,rfl⟩
  have X:Blk (w2.alloc (.cells #[.int .i64 p.size,.int .i64 p.next,.slice ea2 en2 ec2,.slice va2 vn2 vc2,.slice ra2 rn2 rc2,.slice la2 ln2 lc2] 28)) xb #[.int .i64 p.size,.int .i64 p.next,.slice ea2 en2 ec2,.slice va2 vn2 vc2,.slice ra2 rn2 rc2,.slice la2 ln2 lc2] 28:=Blk.new' _ _ _ _ hF
  have qd:Hid (w.heap.size+1<xb):=by show _<_;rw[hF];have:=hJ.size;omega
  have P0:Al w.heap.size (w2.alloc (.cells #[.int .i64 p.size,.int .i64 p.next,.slice ea2 en2 ec2,.slice va2 vn2 vc2,.slice ra2 rn2 rc2,.slice la2 ln2 lc2] 28)) (.agg #[.int .i64 p.size,.int .i64 p.next,.slice ea2 en2 ec2,.slice va2 vn2 vc2,.slice ra2 rn2 rc2,.slice la2 ln2 lc2]) p:=(U2.mono hB.size).below hG
  replace D:=(D.below hJ).below hG
  replace hB:=Aa (Aa hB hJ) hG
  have qb:(w2.alloc (.cells #[.int .i64 p.size,.int .i64 p.next,.slice ea2 en2 ec2,.slice va2 vn2 vc2,.slice ra2 rn2 rc2,.slice la2 ln2 lc2] 28)).heap.size=w2.heap.size+1:=by simp
  clear d0 d1 d2 d3 d4 d5 hJ hG U2 C
  go_wp2_with fail
  rw[<-hF]
  have h5:Hid (xb=w2.heap.size):=hF
  clear hF
  generalize w2.alloc (.cells #[.int .i64 p.size,.int .i64 p.next,.slice ea2 en2 ec2,.slice va2 vn2 vc2,.slice ra2 rn2 rc2,.slice la2 ln2 lc2] 28)=W2 at *
  have hj:Below W2.heap.size W2 (W2.alloc (.cells #[] 2)):=(Yg _ _).alloc (Zd _) _
  have E0:Blk (W2.alloc (.cells #[] 2)) (xb+1) #[] 2:=Blk.new' _ _ _ _ (by have:=h5.out;omega)
  have hW:Ad iC 1 2 (W2.alloc (.cells #[] 2)) w.heap.size (some ⟨xb+1,0,none⟩) 0 0 []:=aw_ E0 (by have:=hB.size;have:=h5.out;omega)
  replace X:=X.below hj
  replace P0:=P0.below hj
  replace D:=D.below hj
  replace hB:=Aa hB hj
  generalize W2.alloc (.cells #[] 2)=W3 at *
  clear hj E0 qb
  go_loopw [7,8] (fun cs ix wr=>∃ (k:Nat) (q:Po) (ea3:Option Addr) (en3 ec3:Nat) (va3:Option Addr) (vn3 vc3:Nat) (ra3:Option Addr) (rn3 rc3:Nat) (la3:Option Addr) (ln3 lc3:Nat) (ca:Option Addr) (cc:Nat) (cl:List Int),k<=n∧ix=.int .i64 k∧cs=.slice ca k cc∧Hid (goA p (l.take k)=(q,cl))∧Blk wr xb #[.int .i64 q.size,.int .i64 q.next,.slice ea3 en3 ec3,.slice va3 vn3 vc3,.slice ra3 rn3 rc3,.slice la3 ln3 lc3] 28∧Al w.heap.size wr (.agg #[.int .i64 q.size,.int .i64 q.next,.slice ea3 en3 ec3,.slice va3 vn3 vc3,.slice ra3 rn3 rc3,.slice la3 ln3 lc3]) q∧AB q∧Ad iC 1 2 wr w.heap.size ca k cc cl∧Blk wr (w.heap.size+1) #[.int .i64 0,.int .i64 0,.slice none 0 0,.slice none 0 0,.slice none 0 0,.slice none 0 0] 28∧Below w.heap.size w wr) (fun _ ix _=>n-(intOf ix).toNat)
  case atStart=>exact⟨0,p,ea2,en2,ec2,va2,vn2,vc2,ra2,rn2,rc2,la2,ln2,lc2,_,0,[],Zg _,rfl,rfl,rfl,X,P0,hd,hW,D,hB⟩
  case round=>
   clear X P0 D hB hW
   obtain⟨k,q,ea3,en3,ec3,va3,vn3,vc3,ra3,rn3,rc3,la3,ln3,lc3,ca,cc,cl,hk,rfl,rfl,hI,X,P,h3,RC,D,hB⟩:=hrel
   by_cases hlt:k<n
   ·obtain⟨b,o,p1,rfl,hU,c0,c1,c2,c3,c4,c5,c6,c7,c8⟩:=op_at (hl.below hB) hlt
    have qc:=hstr p1 (Zc hU)
    have hq:=goA_right hp (l.take k)
    rw[hI.out] at hq
    have hT:Hid (goA p (l.take (k+1))=((opS q p1).2,cl++[(opS q p1).1])):=by show _=_;rw[goA_take hU,hI.out];rfl
    have hO:=fun (B0:Nat) (v:Value) (u:World) (hv:AF B0 u v q) (hB:0<B0)=>k6_ B0 hB v q p1 u hv h3 hq qc
    obtain⟨⟨c1',q1⟩,h1⟩:∃ R,Hid (opS q p1=R):=⟨_,rfl⟩
    simp only[h1.out] at hO hT
    clear hU hq h1
    have qm:(k:Int)<n:=by omega
    have qn:(0:Int)<=k:=by omega
    obtain⟨d0,d1,d2,d3,d4,d5⟩:=X.six
    have qq:=hB.size
    have qf:=X.lt
    go_wp2_with fail
    refine region_cut (fun u=>u.cell? ⟨xb,0,none⟩=some (.int .i64 q.size)∧u.cell? ⟨xb,1,none⟩=some (.int .i64 q.next)∧u.cell? ⟨xb,2,none⟩=some (.slice ea3 en3 ec3)∧u.cell? ⟨xb,3,none⟩=some (.slice va3 vn3 vc3)∧u.cell? ⟨xb,4,none⟩=some (.slice ra3 rn3 rc3)∧u.cell? ⟨xb,5,none⟩=some (.slice la3 ln3 lc3)∧u.cell? ⟨b,o+k*9,none⟩=some (.int .i64 p1.k)∧u.cell? ⟨b,o+k*9+1,none⟩=some (.string p1.vol)∧u.cell? ⟨b,o+k*9+2,none⟩=some (.string p1.file)∧u.cell? ⟨b,o+k*9+3,none⟩=some (.string p1.to)∧u.cell? ⟨b,o+k*9+4,none⟩=some (.string p1.into)∧u.cell? ⟨b,o+k*9+5,none⟩=some (.int .i64 p1.at')∧u.cell? ⟨b,o+k*9+6,none⟩=some (.int .i64 p1.fr)∧u.cell? ⟨b,o+k*9+7,none⟩=some (.int .i64 p1.ln)∧u.cell? ⟨b,o+k*9+8,none⟩=some (.string p1.data)) 12 [30,31,32,33,34,35,29,36,37,9,10] (PhQ 9 10 c1' q1 wr fun u v=>Al w.heap.size u v q1∧AB q1) (fun u hu=>⟨Ab hu d0,Ab hu d1,Ab hu d2,Ab hu d3,Ab hu d4,Ab hu d5,Ab hu c0,Ab hu c1,Ab hu c2,Ab hu c3,Ab hu c4,Ab hu c5,Ab hu c6,Ab hu c7,Ab hu c8⟩) ?walk9 ?rest9
    case walk9=>
     intro hh u0 hL ql
     refine tkc 0 ?_
     refine tkc 1 ?_
     refine tkc 2 ?_
     refine tkc 3 ?_
     refine tkc 4 ?_
     refine twoC 5 9 (fun K hK=>?_) (fun K hK=>?_)
     ·skip
      go_simp
      refine (hO w.heap.size _ u0 ((P.at').below hL) (by omega)).mono ?_
      rintro e u1 ⟨⟨v3,cz,rfl,rfl,R3,hz⟩,h2⟩
      obtain⟨a,b1,d,e,f,g,i,j,k',l',m,n',rfl⟩:=R3.at'.cells
      have he:=Aa hL h2
      have qj:=hL.size
      dsimp only
      refine hK.out _ _ (hh u1 he) (fun hHeld=>?_)
      clear hK K
      try simp only[Act.put,lsA,lsB,lsC]
      refine tkc 6 ?_
      refine tkc 7 ?_
      refine tkc 8 ?_
      refine oneC 9 fun K hK=>?_
      go_simp
      obtain⟨ab,u2,ha,hu,na,hM,hs,hy⟩:=al6 he
      rw[<-hu,<-ha]
      clear hu ha
      replace R3:=R3.below hM
      refine hK.out _ _ (hh _ hs) (fun hHeld=>?_)
      clear hK K
      try simp only[Act.put,lsA,lsB,lsC]
      obtain⟨t0,t1,t2,t3,t4,t5⟩:=na.six
      obtain⟨f0,f1,f2,f3,f4,f5⟩:=fz6 na
      refine oneC 10 fun K hK=>?_
      go_simp
      obtain⟨u9,hS,E9,hD⟩:=AU na (.int .i64 q1.size) (.int .i64 q1.next) (.slice a b1 d) (.slice e f g) (.slice i j k') (.slice l' m n')
      rw[<-hS]
      have hw:=ao_ hs hD hy.out
      have R9:Al w.heap.size u9 _ q1∧AB q1:=⟨(R3.tyP hD (aa_ na)).mono (by omega),hz⟩
      refine hK.out _ _ (hh _ hw) (fun hHeld=>?_)
      clear hK K
      try simp only[Act.put,lsA,lsB,lsC]
      refine tkc 11 ?_
      refine wpAnyH_done (by kernel_rfl) ?_ _
      exact leafP E9 R9 hw hy
     ·skip
      go_simp
      obtain⟨ab,u1,ha,hu,na,h2,he,hy⟩:=al6 hL
      rw[<-hu,<-ha]
      clear hu ha
      refine hK.out _ _ (hh _ he) (fun hHeld=>?_)
      clear hK K
      try simp only[Act.put,lsA,lsB,lsC]
      refine oneC 5 fun K hK=>?_
      go_simp
      refine (hO w.heap.size _ u1 ((P.at').below he) (by omega)).mono ?_
      rintro e u2 ⟨⟨v3,cz,rfl,rfl,R3,hz⟩,hM⟩
      obtain⟨a,b1,d,e,f,g,i,j,k',l',m,n',rfl⟩:=R3.at'.cells
      have hs:=Aa he hM
      have qj:=he.size
      replace na:=na.below hM
      dsimp only
      refine hK.out _ _ (hh u2 hs) (fun hHeld=>?_)
      clear hK K
      try simp only[Act.put,lsA,lsB,lsC]
      refine tkc 6 ?_
      refine tkc 7 ?_
      refine tkc 8 ?_
      obtain⟨t0,t1,t2,t3,t4,t5⟩:=na.six
      obtain⟨f0,f1,f2,f3,f4,f5⟩:=fz6 na
      refine oneC 10 fun K hK=>?_
      go_simp
      obtain⟨u9,hS,E9,hD⟩:=AU na (.int .i64 q1.size) (.int .i64 q1.next) (.slice a b1 d) (.slice e f g) (.slice i j k') (.slice l' m n')
      rw[<-hS]
      have hw:=ao_ hs hD hy.out
      have R9:Al w.heap.size u9 _ q1∧AB q1:=⟨(R3.tyP hD (aa_ na)).mono (by omega),hz⟩
      refine hK.out _ _ (hh _ hw) (fun hHeld=>?_)
      clear hK K
      try simp only[Act.put,lsA,lsB,lsC]
      refine tkc 11 ?_
      refine wpAnyH_done (by kernel_rfl) ?_ _
      exact leafP E9 R9 hw hy
    clear d0 d1 d2 d3 d4 d5 c0 c1 c2 c3 c4 c5 c6 c7 c8 hO P
    rintro x w3 ⟨tb,ea4,en4,ec4,va4,vn4,vc4,ra4,rn4,rc4,la4,ln4,lc4,e6,e7,T4,⟨P3,hz⟩,hm,h4⟩
    simp only[putAll,YE,List.foldl_nil,e6,e7]
    try simp only[Act.put,lsA,lsB,lsC]
    clear e6 e7
    have qo:Hid (wr.heap.size<=tb):=h4
    clear h4
    have X4:=X.below hm
    have hX:=RC.below hm
    have D4:=D.below hm
    have hY:=Aa hB hm
    clear hm
    obtain⟨t0,t1,t2,t3,t4,t5⟩:=T4.six
    obtain⟨x0,x1,x2,x3,x4,x5⟩:=X4.six
    obtain⟨f0,f1,f2,f3,f4,f5⟩:=fz6 X4
    go_upto_region 10 with fail
    obtain⟨U,hb,X5,hC⟩:=AU X4 (.int .i64 q1.size) (.int .i64 q1.next) (.slice ea4 en4 ec4) (.slice va4 vn4 vc4) (.slice ra4 rn4 rc4) (.slice la4 ln4 lc4)
    have qe:=qd.out
    have hZ:=ao_ hY hC (by omega)
    have P5:=(P3.tyP hC (aa_ X4))
    have hP:=hX.ty hC (aa_ X4) (by decide)
    have D5:=D4.grown hC (by simp only[ne_eq];omega)
    rw[<-hb]
    clear hb hC X4 hX D4 T4 hY P3 t0 t1 t2 t3 t4 t5 x0 x1 x2 x3 x4 x5 f0 f1 f2 f3 f4 f5 X RC D hB
    have hE:(prog.info? 2).map (fun i=>(i.zero,i.size,i.bytes))=some (some (.int .i64 0),1,8):=by kernel_rfl
    obtain⟨i0,hi,qg,qh,qi⟩:=info_parts hE
    have qp:=hZ.size
    go_wp2_with (at_builtin;refine ag_ rfl (fun K hK=>ay_ _ _ 47 rfl w.heap.size 2 i0 (.int .i64 0) 8 underlying47 hi qg qh qi rfl (by decide) mw_ my_ ca k cc cl rfl (hP.alloc _) _ 1 1 [c1'] rfl (j3_ _ _ _ _ (by simp)) (fun ad h=>(by cases h;rfl)) (fun h=>(by cases h)) (k+1) rfl (by unfold maxLen;omega) (by omega) (by simp;omega) (fun a3 cap3 w6 R6 hN=>hK _ _ ?_)))
    have ho:Below U.heap.size U (U.alloc (.cells #[.int .i64 c1'] 2)):=(Yg _ _).alloc (Zd _) _
    have hV:=(hP.below ho).rowTy (m:=k) (k:=cc)
    have X6:=(X5.below ho).ty hN hV (by decide)
    have D6:=(D5.below ho).ty hN hV (by decide)
    have P6:=(P5.below ho).tyI hN hV
    have h7:=jc_ (Aa hZ ho) hN (fun j e=>hP.own_ge j e)
    go_roundw
    case rel=>exact⟨k+1,q1,ea4,en4,ec4,va4,vn4,vc4,ra4,rn4,rc4,la4,ln4,lc4,a3,cap3,_,by omega,by go_num,rfl,hT,X6,P6,hz,R6,D6,h7⟩
    case measure=>simp[intOf];omega
   ·obtain rfl:k=n:=by omega
    have ht:l.take k=l:=Zk (by rw[hg.out];exact Zd _)
    rw[ht,<-hc.out] at hI
    obtain⟨d0,d1,d2,d3,d4,d5⟩:=X.six
    obtain⟨x0,x1,x2,x3,x4,x5⟩:=D.six
    obtain⟨f0,f1,f2,f3,f4,f5⟩:=fz6 D
    go_wp2
    obtain⟨W8,hb,E8,hf⟩:=AU D (.int .i64 q.size) (.int .i64 q.next) (.slice ea3 en3 ec3) (.slice va3 vn3 vc3) (.slice ra3 rn3 rc3) (.slice la3 ln3 lc3)
    have hr:=ao_ hB hf (by omega)
    have P8:=P.tyP hf (aa_ D)
    have h6:=RC.ty hf (aa_ D) (by decide)
    rw[<-hb]
    clear hb
    refine YW (ad_ rfl _ W8 (w.heap.size+1) _ _ _ _ _ rfl E8 underlying28 rfl (by kernel_rfl) rfl) rfl ?_
    rw[hI.out]
    exact⟨⟨_,ca,k,cc,rfl,P8,h6,h3⟩,hr⟩
 ·have hc:Hid (R=(⟨0,0,[],[],[],[]⟩,[])):=by show _=_;rw[<-hR.out,allS,if_neg (by rw[hg.out];exact hgo)]
  clear hR
  obtain⟨x0,x1,x2,x3,x4,x5⟩:=D.six
  obtain⟨f0,f1,f2,f3,f4,f5⟩:=fz6 D
  have hA:∀ u:World,Al w.heap.size u (.agg #[.int .i64 0,.int .i64 0,.slice none 0 0,.slice none 0 0,.slice none 0 0,.slice none 0 0]) R.1:=fun u=>by
   rw[hc.out]
   exact⟨none,0,0,none,0,0,none,0,0,none,0,0,[],rfl,aB_,⟨aB_,rfl,fun i r y h=>by simp at h⟩,aB_,aB_,(fun x y h=>(by cases h))⟩
  cases qa:Aj p
  ·go_wp2
   obtain⟨W8,hb,E8,hf⟩:=AU D (.int .i64 0) (.int .i64 0) (.slice none 0 0) (.slice none 0 0) (.slice none 0 0) (.slice none 0 0)
   have hr:=ao_ hB hf (by omega)
   rw[<-hb]
   clear hb
   refine YW (ad_ rfl _ W8 (w.heap.size+1) _ _ _ _ _ rfl E8 underlying28 rfl (by kernel_rfl) rfl) rfl ?_
   exact⟨⟨_,none,0,0,rfl,hA W8,by rw[hc.out];exact aB_,by rw[hc.out];exact dim0⟩,hr⟩
  ·have h9:(100:Int)<(n:Int):=by simp[qa] at hgo;omega
   go_wp2
   obtain⟨W8,hb,E8,hf⟩:=AU D (.int .i64 0) (.int .i64 0) (.slice none 0 0) (.slice none 0 0) (.slice none 0 0) (.slice none 0 0)
   have hr:=ao_ hB hf (by omega)
   rw[<-hb]
   clear hb
   refine YW (ad_ rfl _ W8 (w.heap.size+1) _ _ _ _ _ rfl E8 underlying28 rfl (by kernel_rfl) rfl) rfl ?_
   exact⟨⟨_,none,0,0,rfl,hA W8,by rw[hc.out];exact aB_,by rw[hc.out];exact dim0⟩,hr⟩
end Go.Proofs.YtkodenjhajafpaaGreatDoor
