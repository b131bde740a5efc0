/- All of a list of ops, by both: the law's walk. -/
import Derived.Test.YtbbhcnjhohidnaaGreatDoorU39
set_option maxHeartbeats 20000000
set_option maxRecDepth 100000
namespace Go.Proofs.YtbbhcnjhohidnaaGreatDoor
section
open Go Go.RowKit Go.BigFrame _root_.Go.Proofs.Tryz
theorem Ez (S:Addr->Prop) (ep:Addr) (v:Value) (p:Po) (aa:Option Addr) (n cap:Nat) (l:List Opr) (w:World) (h:AA 0 w v p) (hb:Gc p) (hl:As opC 9 w aa n l) (hstr:∀ o∈l,Bu o) (hn63:n<=9223372036854775807) (hE:DT S ep w) (hgl:11<=w.heap.size) :
  Calls prog 4 #[v,.slice aa n cap] w fun e w'=>e=.returned (.bool true)∧Below w.heap.size w w':=by
 obtain ⟨ea,en,ec,va,vn,vc,ra,rn,rc,la,ln,lc,rfl⟩:=h.cells
 obtain ⟨W0,hO⟩:∃ W0,W0=w.alloc (.cells #[.int .i64 p.size,.int .i64 p.next,.slice ea en ec,.slice va vn vc,.slice ra rn rc,.slice la ln lc] 26):=⟨_,rfl⟩
 have C:Blk W0 w.heap.size #[.int .i64 p.size,.int .i64 p.next,.slice ea en ec,.slice va vn vc,.slice ra rn rc,.slice la ln lc] 26:=by rw [hO];exact Blk.new w _ _
 have hV:Below w.heap.size w W0:=by rw [hO];go_grown
 go_enter func4,ntmps4
 go_wp2_with fail
 rw [<-hO]
 clear hO
 refine (ka_ 0 _ p _ (h.below hV) hb).mono ?_
 rintro e w0 ⟨⟨r,rfl,hr⟩,hB⟩
 replace C:=C.below hB
 replace hB:=Aa hV hB
 clear hV
 rcases hr with rfl | ⟨r0,r1,hs⟩
 ·go_wp2
  go_returns
  exact ⟨rfl,hB⟩
 have hd:=hs.dim
 go_wp2_with fail
 refine (G9 aa n cap l r w0 (hl.below hB) hstr hn63 r0 r1).mono ?_
 rintro e w1 ⟨⟨r2,rfl,qr⟩,hW⟩
 replace C:=C.below hW
 replace hB:=Aa hB hW
 clear hW
 rcases qr with rfl | ⟨qO,hn⟩
 ·go_wp2
  go_returns
  exact ⟨rfl,hB⟩
 have hj:=fun (B0:Nat) (v:Value) (a:Option Addr) (cap:Nat) (u:World) (hv:AA B0 u v p) (hl:As opC 9 u a n l) (hB:0<B0) (hu:0<u.heap.size)=>Ea B0 hB v p a n cap l u hv hd hl hstr (by omega) hu
 have hf:=fun (B0:Nat) (v:Value) (a:Option Addr) (cap:Nat) (u:World) (hv:AA B0 u v p) (hl:As opC 9 u a n l) (hB:0<B0) (hE:DT S ep u) (hg:11<=u.heap.size)=>D0 S ep B0 hB v p a n cap l u hv hd hl hstr (by omega) hE hg
 have hy:=FJ p l
 have h6:=Fu p l (by rw [hl.len];exact hn)
 obtain ⟨⟨q,ks⟩,hR⟩:∃ R,Hid (Co p l=R):=⟨_,rfl⟩
 simp only [hR.out] at hj hf hy h6
 clear hR
 obtain ⟨d0,d1,d2,d3,d4,d5⟩:=C.six
 have qp:Hid (w.heap.size<w1.heap.size):=C.lt
 go_wp2_with fail
 refine (kj_ 0 _ p _ (h.below hB) hs).mono ?_
 rintro e w2 ⟨⟨v2,rfl,P2⟩,hL⟩
 have qQ:=hL.size
 replace C:=C.below hL
 replace hB:=Aa hB hL
 clear hL d0 d1 d2 d3 d4 d5
 go_wp2_with fail
 refine (EM aa n cap l w2 (hl.below hB) hn).mono ?_
 rintro e w3 ⟨rfl,O2,hI⟩
 replace P2:=P2.below hI
 replace C:=C.below hI
 replace hB:=Aa hB hI
 have qR:=hI.size
 clear hI
 go_wp2_with fail
 refine (hj _ _ _ _ w3 P2 O2.sl (by omega) (by have:=hB.size;omega)).mono ?_
 rintro e w4 ⟨⟨v4,a4,n4,k4,rfl,R4,L4,DQ⟩,hM⟩
 obtain ⟨ea4,en4,ec4,va4,vn4,vc4,ra4,rn4,rc4,la4,ln4,lc4,rfl⟩:=R4.at'.cells
 replace hy:=hy DQ
 have qS:=hM.size
 replace C:=C.below hM
 replace hB:=Aa hB hM
 clear hM P2 O2 hj DQ
 have qc:Hid (n4=ks.length):=L4.sl.len.symm
 have hH:Below w4.heap.size w4 (w4.alloc (.cells #[.int .i64 q.size,.int .i64 q.next,.slice ea4 en4 ec4,.slice va4 vn4 vc4,.slice ra4 rn4 rc4,.slice la4 ln4 lc4] 35)):=(Yg _ _).alloc (Zd _) _
 obtain ⟨ab,hP⟩:∃ b,b=w4.heap.size:=⟨_,rfl⟩
 have A:Blk (w4.alloc (.cells #[.int .i64 q.size,.int .i64 q.next,.slice ea4 en4 ec4,.slice va4 vn4 vc4,.slice ra4 rn4 rc4,.slice la4 ln4 lc4] 35)) ab #[.int .i64 q.size,.int .i64 q.next,.slice ea4 en4 ec4,.slice va4 vn4 vc4,.slice ra4 rn4 rc4,.slice la4 ln4 lc4] 35:=Blk.new' _ _ _ _ hP
 have qe:Hid ((w4.alloc (.cells #[.int .i64 q.size,.int .i64 q.next,.slice ea4 en4 ec4,.slice va4 vn4 vc4,.slice ra4 rn4 rc4,.slice la4 ln4 lc4] 35)).heap.size=w4.heap.size+1∧ab=w4.heap.size):=⟨by simp,hP⟩
 replace C:=C.below hH
 replace R4:=R4.below hH
 replace L4:=L4.below hH
 have hh:=Aa hB hH
 obtain ⟨d0,d1,d2,d3,d4,d5⟩:=C.six
 go_wp2_with fail
 rw [<-hP]
 clear hP
 generalize w4.alloc (.cells #[.int .i64 q.size,.int .i64 q.next,.slice ea4 en4 ec4,.slice va4 vn4 vc4,.slice ra4 rn4 rc4,.slice la4 ln4 lc4] 35)=W4 at *
 replace hB:=hh
 clear hh hH
 have Z:=Yg W4.heap.size W4
 refine (kj_ 0 _ p _ (h.below hB) hs).mono ?_
 rintro e w5 ⟨⟨v5,rfl,hG⟩,hF⟩
 obtain ⟨ea5,en5,ec5,va5,vn5,vc5,ra5,rn5,rc5,la5,ln5,lc5,rfl⟩:=hG.cells
 have qt:=hF.size
 replace C:=C.below hF
 replace A:=A.below hF
 replace Z:=Aa Z hF
 replace hB:=Aa hB hF
 clear hF d0 d1 d2 d3 d4 d5
 have hD:Below w5.heap.size w5 (w5.alloc (.cells #[.int .i64 p.size,.int .i64 p.next,.slice ea5 en5 ec5,.slice va5 vn5 vc5,.slice ra5 rn5 rc5,.slice la5 ln5 lc5] 35)):=(Yg _ _).alloc (Zd _) _
 obtain ⟨xb,hU⟩:∃ b,b=w5.heap.size:=⟨_,rfl⟩
 have X:Blk (w5.alloc (.cells #[.int .i64 p.size,.int .i64 p.next,.slice ea5 en5 ec5,.slice va5 vn5 vc5,.slice ra5 rn5 rc5,.slice la5 ln5 lc5] 35)) xb #[.int .i64 p.size,.int .i64 p.next,.slice ea5 en5 ec5,.slice va5 vn5 vc5,.slice ra5 rn5 rc5,.slice la5 ln5 lc5] 35:=Blk.new' _ _ _ _ hU
 have qf:Hid ((w5.alloc (.cells #[.int .i64 p.size,.int .i64 p.next,.slice ea5 en5 ec5,.slice va5 vn5 vc5,.slice ra5 rn5 rc5,.slice la5 ln5 lc5] 35)).heap.size=w5.heap.size+1∧xb=w5.heap.size):=⟨by simp,hU⟩
 replace C:=C.below hD
 replace A:=A.below hD
 have Z':=Aa Z hD
 have hh:=Aa hB hD
 go_wp2_with fail
 rw [<-hU]
 clear hU
 generalize w5.alloc (.cells #[.int .i64 p.size,.int .i64 p.next,.slice ea5 en5 ec5,.slice va5 vn5 vc5,.slice ra5 rn5 rc5,.slice la5 ln5 lc5] 35)=W5 at *
 replace Z:=Z'
 replace hB:=hh
 clear Z' hh
 have E5:=hD
 clear hD
 refine (EM aa n cap l W5 (hl.below hB) hn).mono ?_
 rintro e w6 ⟨rfl,O6,hx⟩
 have qu:=hx.size
 replace C:=C.below hx
 replace A:=A.below hx
 replace X:=X.below hx
 replace Z:=Aa Z hx
 replace hB:=Aa hB hx
 replace E5:=Aa E5 hx
 have V6:=Yg w6.heap.size w6
 obtain ⟨x0,x1,x2,x3,x4,x5⟩:=X.six
 clear hx
 go_wp2_with fail
 refine (hf _ _ _ _ w6 (hG.below E5) O6.sl (by omega) (hE.below hB) (Zl hgl hB.size)).mono ?_
 rintro e w7 ⟨⟨v7,a7,n7,k7,rfl,M,L7,_⟩,hq⟩
 obtain ⟨ea7,en7,ec7,va7,vn7,vc7,ra7,rn7,rc7,la7,ln7,lc7,rfl⟩:=M.t.at'.cells
 have qd:Hid (n7=ks.length):=L7.sl.len.symm
 have qv:=hq.size
 replace C:=C.below hq
 replace A:=A.below hq
 replace X:=X.below hq
 replace Z:=Aa Z hq
 replace hB:=Aa hB hq
 replace E5:=Aa E5 hq
 replace V6:=Aa V6 hq
 clear hq x0 x1 x2 x3 x4 x5
 have ho:Below w7.heap.size w7 (w7.alloc (.cells #[.int .i64 q.size,.int .i64 q.next,.slice ea7 en7 ec7,.slice va7 vn7 vc7,.slice ra7 rn7 rc7,.slice la7 ln7 lc7] 35)):=(Yg _ _).alloc (Zd _) _
 obtain ⟨gb,hQ⟩:∃ b,b=w7.heap.size:=⟨_,rfl⟩
 have G:Blk (w7.alloc (.cells #[.int .i64 q.size,.int .i64 q.next,.slice ea7 en7 ec7,.slice va7 vn7 vc7,.slice ra7 rn7 rc7,.slice la7 ln7 lc7] 35)) gb #[.int .i64 q.size,.int .i64 q.next,.slice ea7 en7 ec7,.slice va7 vn7 vc7,.slice ra7 rn7 rc7,.slice la7 ln7 lc7] 35:=Blk.new' _ _ _ _ hQ
 have h3:Hid ((w7.alloc (.cells #[.int .i64 q.size,.int .i64 q.next,.slice ea7 en7 ec7,.slice va7 vn7 vc7,.slice ra7 rn7 rc7,.slice la7 ln7 lc7] 35)).heap.size=w7.heap.size+1∧gb=w7.heap.size):=⟨by simp,hQ⟩
 replace C:=C.below ho
 replace A:=A.below ho
 replace X:=X.below ho
 replace M:=M.below ho
 replace L7:=L7.below ho
 have Z':=Aa Z ho
 have hh:=Aa hB ho
 have E5':=Aa E5 ho
 have h5:=Aa V6 ho
 obtain ⟨x0,x1,x2,x3,x4,x5⟩:=A.six
 obtain ⟨y0,y1,y2,y3,y4,y5⟩:=G.six
 go_wp2_with fail
 rw [<-hQ]
 clear hQ
 generalize w7.alloc (.cells #[.int .i64 q.size,.int .i64 q.next,.slice ea7 en7 ec7,.slice va7 vn7 vc7,.slice ra7 rn7 rc7,.slice la7 ln7 lc7] 35)=W7 at *
 replace Z:=Z'
 replace hB:=hh
 replace E5:=E5'
 replace V6:=h5
 clear Z' hh E5' h5 ho
 refine (kk_ 0 0 _ _ q W7 (M.t.at'.mono (Zg _)) ((R4.below Z).at'.mono (Zg _)) hy.small).mono ?_
 rintro e w8 ⟨rfl,hb⟩
 replace C:=C.below hb
 replace A:=A.below hb
 replace X:=X.below hb
 replace M:=M.below hb
 replace L7:=L7.below hb
 replace G:=G.below hb
 replace Z:=Aa Z hb
 replace hB:=Aa hB hb
 replace E5:=Aa E5 hb
 replace V6:=Aa V6 hb
 clear hb x0 x1 x2 x3 x4 x5 y0 y1 y2 y3 y4 y5
 obtain ⟨nk,hS⟩:∃ m,m=ks.length:=⟨_,rfl⟩
 obtain rfl:n4=nk:=by rw [qc.out,hS]
 obtain rfl:n7=n4:=by rw [qd.out,hS]
 rw [<-hS] at h6
 clear hS qc qd
 go_wp2_with fail
 refine (EA a7 n7 k7 a4 k4 ks w8 L7.sl (L4.below Z).sl (by omega)).mono ?_
 rintro e w9 ⟨rfl,hb⟩
 replace C:=C.below hb
 replace A:=A.below hb
 replace X:=X.below hb
 replace M:=M.below hb
 replace L7:=L7.below hb
 replace G:=G.below hb
 replace Z:=Aa Z hb
 replace hB:=Aa hB hb
 replace E5:=Aa E5 hb
 replace V6:=Aa V6 hb
 clear hb
 obtain ⟨x0,x1,x2,x3,x4,x5⟩:=X.six
 obtain ⟨d0,d1,d2,d3,d4,d5⟩:=C.six
 have P9:=hG.below E5
 go_wp2_with fail
 refine Dw (fun u=>u.cell? ⟨xb,0,none⟩=some (.int .i64 p.size)∧u.cell? ⟨xb,1,none⟩=some (.int .i64 p.next)∧u.cell? ⟨xb,2,none⟩=some (.slice ea5 en5 ec5)∧u.cell? ⟨xb,3,none⟩=some (.slice va5 vn5 vc5)∧u.cell? ⟨xb,4,none⟩=some (.slice ra5 rn5 rc5)∧u.cell? ⟨xb,5,none⟩=some (.slice la5 ln5 lc5)∧u.cell? ⟨w.heap.size,0,none⟩=some (.int .i64 p.size)∧u.cell? ⟨w.heap.size,1,none⟩=some (.int .i64 p.next)∧u.cell? ⟨w.heap.size,2,none⟩=some (.slice ea en ec)∧u.cell? ⟨w.heap.size,3,none⟩=some (.slice va vn vc)∧u.cell? ⟨w.heap.size,4,none⟩=some (.slice ra rn rc)∧u.cell? ⟨w.heap.size,5,none⟩=some (.slice la ln lc)) 5 [55,56,57,58,59] (fun x u=>x 59=.bool false∧Below w9.heap.size w9 u) (fun u hu=>⟨Ab hu x0,Ab hu x1,Ab hu x2,Ab hu x3,Ab hu x4,Ab hu x5,Ab hu d0,Ab hu d1,Ab hu d2,Ab hu d3,Ab hu d4,Ab hu d5⟩) ?walk13 ?rest13
 case walk13=>
  intro h7 u0 h8 qI
  refine tkc 0 ?_
  refine tkc 1 ?_
  refine EZ 2 fun K hK=>?_
  go_simp
  refine (kj_ 0 _ p _ (h.below (Aa hB h8)) hs).mono ?_
  rintro e u1 ⟨⟨v2,rfl,P2⟩,qk⟩
  have hX:=Aa h8 qk
  obtain ⟨ea8,en8,ec8,va8,vn8,vc8,ra8,rn8,rc8,la8,ln8,lc8,rfl⟩:=P2.cells
  dsimp only
  refine hK.out _ _ (h7 u1 hX) (fun hHeld=>?_)
  clear hK K
  try simp only [Act.put,lsA,lsB,lsC]
  refine EZ 3 fun K hK=>?_
  go_simp
  refine (kk_ _ _ _ _ p _ (P9.below hX) P2 hs).mono ?_
  rintro e u2 ⟨rfl,ql⟩
  have h9:=Aa hX ql
  dsimp only
  refine hK.out _ _ (h7 u2 h9) (fun hHeld=>?_)
  clear hK K
  try simp only [Act.put,lsA,lsB,lsC]
  refine tkc 4 ?_
  refine wpAnyH_done (by kernel_rfl) ?_ _
  refine Gp ⟨?_,h9⟩
  simp only [Act.eval,Array.getD_eq_getD_getElem?,lgA,lgB,lgC,Yw]
 clear x0 x1 x2 x3 x4 x5 d0 d1 d2 d3 d4 d5 P9
 rintro x qx ⟨e6,hb⟩
 simp only [Cz,YE,List.foldl_nil,e6]
 try simp only [Act.put,lsA,lsB,lsC]
 clear e6
 replace C:=C.below hb
 replace A:=A.below hb
 replace X:=X.below hb
 replace M:=M.below hb
 replace L7:=L7.below hb
 replace G:=G.below hb
 replace Z:=Aa Z hb
 replace hB:=Aa hB hb
 replace E5:=Aa E5 hb
 replace V6:=Aa V6 hb
 clear hb
 go_wp2_with fail
 refine (EM aa n cap l qx (hl.below hB) hn).mono ?_
 rintro e qy ⟨rfl,h4,hb⟩
 replace C:=C.below hb
 replace A:=A.below hb
 replace X:=X.below hb
 replace M:=M.below hb
 replace L7:=L7.below hb
 replace G:=G.below hb
 replace Z:=Aa Z hb
 replace hB:=Aa hB hb
 replace E5:=Aa E5 hb
 replace V6:=Aa V6 hb
 clear hb
 go_wp2_with fail
 refine (Hk _ n n _ n l qy (O6.below V6).sl h4.sl (by omega)).mono ?_
 rintro e qg ⟨rfl,hb⟩
 replace C:=C.below hb
 replace A:=A.below hb
 replace X:=X.below hb
 replace M:=M.below hb
 replace L7:=L7.below hb
 replace G:=G.below hb
 replace Z:=Aa Z hb
 replace hB:=Aa hB hb
 replace E5:=Aa E5 hb
 replace V6:=Aa V6 hb
 clear hb h4
 obtain ⟨x0,x1,x2,x3,x4,x5⟩:=X.six
 go_wp2_with fail
 refine (HA (W4.heap.size+1) (Nat.succ_pos _) _ p w5 qg hG hs (Kp.of_below E5)).mono ?_
 rintro e qh ⟨⟨k9,rfl,qo,hY⟩,_,F9⟩
 have he:Hid (W4.heap.size=w4.heap.size+1∧ab=w4.heap.size∧W5.heap.size=w5.heap.size+1∧xb=w5.heap.size∧W7.heap.size=w7.heap.size+1∧gb=w7.heap.size∧W4.heap.size<=w5.heap.size∧W5.heap.size<=w6.heap.size∧w6.heap.size<=w7.heap.size∧w.heap.size<w4.heap.size∧W7.heap.size<=qg.heap.size):=⟨qe.out.1,qe.out.2,qf.out.1,qf.out.2,h3.out.1,h3.out.2,qt,qu,qv,by have:=qp.out;omega,by have:=G.lt;have:=h3.out;omega⟩
 have qw:=F9.size
 replace C:=F9.blkAt C (.inl (by have:=he.out;omega))
 replace A:=F9.blkAt A (.inl (by have:=he.out;omega))
 replace G:=F9.blkAt G (.inr (by have:=he.out;omega))
 replace M:=M.same (fun b h1 h2=>F9.blk b h2 (.inr (by have:=he.out;omega)))
 replace L7:=L7.same (fun ad e=>F9.blk _ (L7.block ad e).2 (.inr (by have:=(L7.block ad e).1;have:=he.out;omega)))
 replace Z:=F9.belowOf Z (by omega) Z.size
 replace hB:=F9.belowOf hB (by have:=he.out;omega) hB.size
 have K9:Kp W5.heap.size w6 qh:=⟨Zl V6.size qw,fun b c t hb hk=>⟨c,F9.blkAt (hk.below V6) (.inr (by have:=he.out;omega)),fun i v hv=>⟨v,hv,Dc.refl v⟩⟩⟩
 clear F9 X E5 V6 hG x0 x1 x2 x3 x4 x5
 go_wp2_with fail
 refine (FV W5.heap.size (by have:=he.out;omega) _ n n l k9 w6 qh O6.sl (O6.sf (Zd _)) K9 (by omega) qo hY).mono ?_
 rintro e qz ⟨⟨k8,rfl,qM,_⟩,_,F8⟩
 have qT:=F8.size
 replace C:=F8.blkAt C (.inl (by have:=he.out;omega))
 replace A:=F8.blkAt A (.inl (by have:=he.out;omega))
 replace G:=F8.blkAt G (.inr (by have:=he.out;omega))
 replace M:=M.same (fun b h1 h2=>F8.blk b h2 (.inr h1))
 replace L7:=L7.same (fun ad e=>F8.blk _ (L7.block ad e).2 (.inr (L7.block ad e).1))
 replace Z:=F8.belowOf Z (by have:=he.out;omega) Z.size
 replace hB:=F8.belowOf hB (by have:=he.out;omega) hB.size
 clear F8 K9 O6
 have qJ:¬ k8<0:=by omega
 obtain ⟨x0,x1,x2,x3,x4,x5⟩:=A.six
 obtain ⟨y0,y1,y2,y3,y4,y5⟩:=G.six
 go_wp2_with fail
 refine (kk_ 0 0 _ _ q qz (M.t.at'.mono (Zg _)) ((R4.below Z).at'.mono (Zg _)) hy.small).mono ?_
 rintro e qA ⟨rfl,hb⟩
 replace C:=C.below hb
 replace A:=A.below hb
 replace M:=M.below hb
 replace L7:=L7.below hb
 replace G:=G.below hb
 replace Z:=Aa Z hb
 replace hB:=Aa hB hb
 clear hb x0 x1 x2 x3 x4 x5 y0 y1 y2 y3 y4 y5
 go_wp2_with fail
 refine (EA a7 n7 k7 a4 k4 ks qA L7.sl (L4.below Z).sl (by omega)).mono ?_
 rintro e qi ⟨rfl,hb⟩
 replace C:=C.below hb
 replace A:=A.below hb
 replace M:=M.below hb
 replace L7:=L7.below hb
 replace G:=G.below hb
 replace Z:=Aa Z hb
 replace hB:=Aa hB hb
 clear hb
 have hA:Hid (w6.heap.size<=qi.heap.size):=by show _<=_;have:=he.out;have:=G.lt;omega
 obtain ⟨y0,y1,y2,y3,y4,y5⟩:=G.six
 have qm:=HD w6.heap.size _ q qi M.k hy hA.out
 go_wp2_with fail
 refine qm.mono ?_
 rintro e qB ⟨k,rfl,hk,L,CL,qa,hJ,qb⟩
 clear qm y0 y1 y2 y3 y4 y5 M
 have h0:∀ b∈(AC a7).toList,b∉L:=fun b hb hm=>by
  rcases L7.own with ⟨e0,_⟩ | ⟨b7,e0,_,_,_,c7,qn,_⟩
  ·rw [e0] at hb
   simp [AC] at hb
  ·rw [e0] at hb
   simp [AC] at hb
   subst hb
   exact hJ _ _ _ qn (by decide) (by decide) (by decide) (by decide) (by decide) hm
 replace C:=CL.blk C (hJ _ _ _ C (by decide) (by decide) (by decide) (by decide) (by decide))
 replace A:=CL.blk A (hJ _ _ _ A (by decide) (by decide) (by decide) (by decide) (by decide))
 replace G:=CL.blk G (hJ _ _ _ G (by decide) (by decide) (by decide) (by decide) (by decide))
 replace L7:=L7.chg CL (fun ad e hm=>h0 ad.block (by rw [e];simp [AC]) hm)
 have ht:=he_ CL qa hA.out
 replace Z:=Z.trans (ht.mono (by have:=he.out;omega))
 replace hB:=hB.trans (ht.mono (by have:=he.out;omega))
 have qs:=ht.size
 clear ht CL qa hJ
 go_wp2_with fail
 refine (Fz w6.heap.size a7 n7 k7 k ks qB L7 (by omega) (by omega)).mono ?_
 rintro e qj ⟨rfl,NK,hC⟩
 obtain ⟨KM,hN⟩:∃ KM:Int,Hid (KM=((k+n7:Nat):Int)):=⟨_,rfl⟩
 rw [<-hN.out]
 have qL:¬ KM<0:=by have:=hN.out;omega
 have qN:(KM != KM)=false:=by simp
 have MK:=qb _ qj h0 hC
 have hc:=Ee L7 C (by decide)
 have ha:=Ee L7 A (by decide)
 have hg:=Ee L7 G (by decide)
 replace C:=hC.blk C hc
 replace A:=hC.blk A ha
 replace G:=hC.blk G hg
 have hz:=he_ hC (hf_ L7) (by have:=hA.out;omega)
 replace Z:=Z.trans (hz.mono (by have:=he.out;omega))
 replace hB:=hB.trans (hz.mono (by have:=he.out;omega))
 clear hz hC qb h0 hc ha hg L7
 have qK:¬ ((k:Nat):Int)<0:=by omega
 obtain ⟨y0,y1,y2,y3,y4,y5⟩:=G.six
 go_wp2_with fail
 refine (ig_ _ k qj MK).mono ?_
 rintro e qC ⟨rfl,hb⟩
 replace C:=C.below hb
 replace A:=A.below hb
 replace G:=G.below hb
 replace MK:=MK.below hb
 replace NK:=NK.below hb
 replace Z:=Aa Z hb
 replace hB:=Aa hB hb
 clear hb y0 y1 y2 y3 y4 y5
 go_wp2_with fail
 refine (Ev a7 n7 k7 k qC NK (by omega) (by omega)).mono ?_
 rintro e qU ⟨rfl,hb⟩
 replace C:=C.below hb
 replace A:=A.below hb
 replace G:=G.below hb
 replace MK:=MK.below hb
 replace NK:=NK.below hb
 replace Z:=Aa Z hb
 replace hB:=Aa hB hb
 clear hb
 rw [<-hN.out]
 obtain ⟨d0,d1,d2,d3,d4,d5⟩:=C.six
 go_wp2_with fail
 refine (kj_ 0 _ p _ (h.below hB) hs).mono ?_
 rintro e qD ⟨⟨v9,rfl,P9⟩,hb⟩
 replace C:=C.below hb
 replace A:=A.below hb
 replace G:=G.below hb
 replace MK:=MK.below hb
 replace NK:=NK.below hb
 replace Z:=Aa Z hb
 replace hB:=Aa hB hb
 clear hb d0 d1 d2 d3 d4 d5
 go_wp2_with fail
 refine (EM aa n cap l qD (hl.below hB) hn).mono ?_
 rintro e qE ⟨rfl,O9,hb⟩
 replace P9:=P9.below hb
 replace C:=C.below hb
 replace A:=A.below hb
 replace G:=G.below hb
 replace MK:=MK.below hb
 replace NK:=NK.below hb
 replace Z:=Aa Z hb
 replace hB:=Aa hB hb
 clear hb
 go_wp2_with fail
 refine (hf _ _ _ _ qE P9 O9.sl (by omega) (hE.below hB) (Zl hgl hB.size)).mono ?_
 rintro e hw ⟨⟨v9,a9,n9,k9,rfl,M9,L9,_⟩,hb⟩
 obtain ⟨ea9,en9,ec9,va9,vn9,vc9,ra9,rn9,rc9,la9,ln9,lc9,rfl⟩:=M9.t.at'.cells
 have qq:Hid (n9=ks.length):=L9.sl.len.symm
 replace C:=C.below hb
 replace A:=A.below hb
 replace G:=G.below hb
 replace MK:=MK.below hb
 replace NK:=NK.below hb
 replace Z:=Aa Z hb
 replace hB:=Aa hB hb
 clear hb P9 O9 hf
 have hp:Below hw.heap.size hw (hw.alloc (.cells #[.int .i64 q.size,.int .i64 q.next,.slice ea9 en9 ec9,.slice va9 vn9 vc9,.slice ra9 rn9 rc9,.slice la9 ln9 lc9] 35)):=(Yg _ _).alloc (Zd _) _
 obtain ⟨tb,hT⟩:∃ b,b=hw.heap.size:=⟨_,rfl⟩
 have T:Blk (hw.alloc (.cells #[.int .i64 q.size,.int .i64 q.next,.slice ea9 en9 ec9,.slice va9 vn9 vc9,.slice ra9 rn9 rc9,.slice la9 ln9 lc9] 35)) tb #[.int .i64 q.size,.int .i64 q.next,.slice ea9 en9 ec9,.slice va9 vn9 vc9,.slice ra9 rn9 rc9,.slice la9 ln9 lc9] 35:=Blk.new' _ _ _ _ hT
 have qP:Hid ((hw.alloc (.cells #[.int .i64 q.size,.int .i64 q.next,.slice ea9 en9 ec9,.slice va9 vn9 vc9,.slice ra9 rn9 rc9,.slice la9 ln9 lc9] 35)).heap.size=hw.heap.size+1∧tb=hw.heap.size):=⟨by simp,hT⟩
 replace A:=A.below hp
 replace G:=G.below hp
 replace MK:=MK.below hp
 replace NK:=NK.below hp
 replace M9:=M9.below hp
 replace L9:=L9.below hp
 have Z':=Aa Z hp
 have hh:=Aa hB hp
 obtain ⟨x0,x1,x2,x3,x4,x5⟩:=A.six
 obtain ⟨y0,y1,y2,y3,y4,y5⟩:=T.six
 clear C
 go_wp2_with fail
 rw [<-hT]
 clear hT
 generalize hw.alloc (.cells #[.int .i64 q.size,.int .i64 q.next,.slice ea9 en9 ec9,.slice va9 vn9 vc9,.slice ra9 rn9 rc9,.slice la9 ln9 lc9] 35)=W9 at *
 replace Z:=Z'
 replace hB:=hh
 clear Z' hh hp
 refine (kk_ 0 0 _ _ q W9 (M9.t.at'.mono (Zg _)) ((R4.below Z).at'.mono (Zg _)) hy.small).mono ?_
 rintro e qF ⟨rfl,hb⟩
 replace G:=G.below hb
 replace MK:=MK.below hb
 replace NK:=NK.below hb
 replace L9:=L9.below hb
 replace Z:=Aa Z hb
 replace hB:=Aa hB hb
 clear hb x0 x1 x2 x3 x4 x5 y0 y1 y2 y3 y4 y5 T M9 A
 have hZ:Hid (n7=ks.length):=L4.sl.len.symm
 obtain rfl:n9=n7:=by rw [qq.out,hZ.out]
 go_wp2_with fail
 refine (EA a9 n9 k9 a4 k4 ks qF L9.sl (L4.below Z).sl (by omega)).mono ?_
 rintro e qG ⟨rfl,hb⟩
 replace G:=G.below hb
 replace MK:=MK.below hb
 replace NK:=NK.below hb
 replace Z:=Aa Z hb
 replace hB:=Aa hB hb
 clear hb L9
 obtain ⟨y0,y1,y2,y3,y4,y5⟩:=G.six
 go_wp2_with fail
 refine (ig_ _ k qG MK).mono ?_
 rintro e qH ⟨rfl,hb⟩
 replace NK:=NK.below hb
 replace hB:=Aa hB hb
 clear hb y0 y1 y2 y3 y4 y5 MK
 go_wp2_with fail
 refine (Ev a7 n9 k7 k qH NK (by omega) (by omega)).mono ?_
 rintro e qV ⟨rfl,hb⟩
 replace hB:=Aa hB hb
 rw [<-hN.out]
 go_wp2
 go_returns
 exact ⟨rfl,hB⟩
end
section
open Go Go.ChangeShapes Go.WideShapes Go.ChangeAt Go.RowKit Go.Deep Go.Joins Go.BigFrame _root_.Go.Proofs.Tryz
theorem FQ {W:World} {r:Reach} {b0:Nat} {v:Value} (hv:Value.okWide prog W r b0 44 v):∃ a n cap,v=.slice a n cap:=okWide_slice underlying44 hv
theorem Fl {H:Type} {enc:TypeId×Value->H} {w:World} {spare:Nat->Bool} {held:Bool} {a:Option Addr} {n cap:Nat} {d:DataW H} {p:List MemPlace}
  (h:DataW.Trod enc prog w 0 spare held 44 (.slice a n cap) d p):n<=maxLen∧∃ l:List Opr,As opC 9 w a n l∧∀ o∈l,Bu o:=by
 have hc:prog.cellsOf 28=9:=by kernel_rfl
 have ha:prog.cellsOf 2=1:=by kernel_rfl
 have hb:prog.cellsOf 9=1:=by kernel_rfl
 obtain ⟨fuel,hf⟩:=h
 rcases open_slice underlying44 hf with ⟨hh,_⟩ | ⟨ad,len,cap',m,n',D,Pl,hh,_,hl,hm,hr,_,hp⟩
 ·simp [Value.cells] at hh
  obtain ⟨rfl,rfl,rfl⟩:=hh
  exact ⟨Zg _,[],⟨rfl,fun i x hx=>by simp at hx⟩,by simp⟩
 ·simp [Value.cells] at hh
  obtain ⟨rfl,rfl,rfl⟩:=hh
  have hs:n<=m:=by rw [hr];split<;>omega
  refine ⟨Zl hl hm,?_⟩
  have hn:∀ i,i<n->∃ q:Opr,Bu q∧∀ j v,(opC q)[j]?=some v->w.cell? (ad.add (i*9+j))=some v:=by
   intro i hi
   obtain ⟨cs',h1,h2⟩:=hp i (by omega)
   rw [hc] at h1
   obtain ⟨_,hk,hg⟩:=World.cells?_some h1
   obtain ⟨ys,m',_,_,_,hy,hx⟩:=DataW.trod_struct underlying28 h2
   have len9:ys.length=9:=hy
   match cs',hk with
   |[x0,x1,x2,x3,x4,x5,x6,x7,x8],_=>
    have q0:DataW.trod enc prog w 0 spare held m' 2 [x0]=some (ys[0]'(by omega)):=by
     have:=hx 0 _ rfl
     rw [ZI (by omega)] at this
     simpa [Value.cells,ha,hb] using this
    have q1:DataW.trod enc prog w 0 spare held m' 9 [x1]=some (ys[1]'(by omega)):=by
     have:=hx 1 _ rfl
     rw [ZI (by omega)] at this
     simpa [Value.cells,ha,hb] using this
    have q2:DataW.trod enc prog w 0 spare held m' 9 [x2]=some (ys[2]'(by omega)):=by
     have:=hx 2 _ rfl
     rw [ZI (by omega)] at this
     simpa [Value.cells,ha,hb] using this
    have q3:DataW.trod enc prog w 0 spare held m' 9 [x3]=some (ys[3]'(by omega)):=by
     have:=hx 3 _ rfl
     rw [ZI (by omega)] at this
     simpa [Value.cells,ha,hb] using this
    have q4:DataW.trod enc prog w 0 spare held m' 9 [x4]=some (ys[4]'(by omega)):=by
     have:=hx 4 _ rfl
     rw [ZI (by omega)] at this
     simpa [Value.cells,ha,hb] using this
    have q5:DataW.trod enc prog w 0 spare held m' 2 [x5]=some (ys[5]'(by omega)):=by
     have:=hx 5 _ rfl
     rw [ZI (by omega)] at this
     simpa [Value.cells,ha,hb] using this
    have q6:DataW.trod enc prog w 0 spare held m' 2 [x6]=some (ys[6]'(by omega)):=by
     have:=hx 6 _ rfl
     rw [ZI (by omega)] at this
     simpa [Value.cells,ha,hb] using this
    have q7:DataW.trod enc prog w 0 spare held m' 2 [x7]=some (ys[7]'(by omega)):=by
     have:=hx 7 _ rfl
     rw [ZI (by omega)] at this
     simpa [Value.cells,ha,hb] using this
    have q8:DataW.trod enc prog w 0 spare held m' 9 [x8]=some (ys[8]'(by omega)):=by
     have:=hx 8 _ rfl
     rw [ZI (by omega)] at this
     simpa [Value.cells,ha,hb] using this
    obtain ⟨z0,e0,_,s0⟩:=DataW.trod_int underlying2 q0
    obtain ⟨z1,e1,_,s1⟩:=DataW.trod_string underlying9 q1
    obtain ⟨z2,e2,_,s2⟩:=DataW.trod_string underlying9 q2
    obtain ⟨z3,e3,_,s3⟩:=DataW.trod_string underlying9 q3
    obtain ⟨z4,e4,_,s4⟩:=DataW.trod_string underlying9 q4
    obtain ⟨z5,e5,_,s5⟩:=DataW.trod_int underlying2 q5
    obtain ⟨z6,e6,_,s6⟩:=DataW.trod_int underlying2 q6
    obtain ⟨z7,e7,_,s7⟩:=DataW.trod_int underlying2 q7
    obtain ⟨z8,e8,_,s8⟩:=DataW.trod_string underlying9 q8
    simp at e0 e1 e2 e3 e4 e5 e6 e7 e8
    subst e0 e1 e2 e3 e4 e5 e6 e7 e8
    unfold maxLen at s1 s2 s3 s4 s8
    refine ⟨⟨z0,z1,z2,z3,z4,z5,z6,z7,z8⟩,⟨by dsimp only;omega,by dsimp only;omega,by dsimp only;omega,by dsimp only;omega,by dsimp only;omega⟩,fun j v hv=>?_⟩
    have hj:j<9:=by have:=(Zb.1 hv).1;simpa [opC] using this
    have:=hg j hj
    rw [Addr.add_add] at this
    rw [this];exact hv
  have hq:Inhabited Opr:=⟨⟨0,.empty,.empty,.empty,.empty,0,0,0,.empty⟩⟩
  obtain ⟨L,hL⟩:=choose_lt (α:=Opr) (p:=fun i q=>Bu q∧∀ j v,(opC q)[j]?=some v->w.cell? (ad.add (i*9+j))=some v) hn
  refine ⟨(List.range n).map L,⟨by simp,fun i x hx=>?_⟩,?_⟩
  ·have hi:i<n:=by have:=(Zb.1 hx).1;simpa using this
   simp [hi] at hx
   subst hx
   have ho:=(hL 0 (by omega)).2 0 _ rfl
   obtain ⟨b,o,rfl⟩:=Ci ho rfl
   exact ⟨b,o,rfl,fun j v hv=>by have:=(hL i hi).2 j v hv;rw [Addr.add_lit] at this;rw [Nat.add_assoc];exact this⟩
  ·intro e he
   obtain ⟨i,hi,rfl⟩:=ZT.1 he
   exact (hL i (by simpa using hi)).1
end
end Go.Proofs.YtbbhcnjhohidnaaGreatDoor
