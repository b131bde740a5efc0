/- What is drawn for the law over lists of ops: a pool and some ops. -/
import Derived.Test.YtkodenjhajafpaaGreatDoorDq
import Derived.Test.YtkodenjhajafpaaGreatDoorDr
set_option maxHeartbeats 20000000
set_option maxRecDepth 100000
namespace Go.Proofs.YtkodenjhajafpaaGreatDoor
open Go Go.RowKit Go.BigFrame _root_.Go.Proofs.Tryz
theorem opC_len (y:Opr):(opC y).length=9:=rfl
theorem opC_one (l:List Opr):∀ u∈l.flatMap opC,u.oneCell'=true:=by
 intro u hu
 obtain⟨p,_,hp⟩:=ZL.1 hu
 simp[opC] at hp
 rcases hp with rfl | rfl | rfl | rfl | rfl | rfl | rfl | rfl | rfl<;>rfl
theorem sl_newO (w:World)(o:Opr)(t:TypeId)(b:Nat)(hb:b=w.heap.size):AE opC 9 (w.alloc (.cells #[.int .i64 o.k,.string o.vol,.string o.file,.string o.to,.string o.into,.int .i64 o.at',.int .i64 o.fr,.int .i64 o.ln,.string o.data] t)) (some ⟨b,0,none⟩) 1 [o]:=jo_ o (Blk.new' w _ t b hb) rfl
theorem Rd.grownO {w w':World}{B:Nat}{row:Option Nat}(h:Rd w B)(hg:w.grownBy w' row)(hr:∀ k,row=some k->B<k):Rd w' B:=by
 cases row with
 |some r=>exact h.grown hg (hr r rfl)
 |none=>exact h.grown (r:=B+1) (hg.but (some (B+1))) (by omega)
theorem spec_DrawDoneAll (a:Option Addr)(n cap:Nat)(w:World)(h:Co w a n)(hn:n<=1048576) :
  Calls prog 16 #[.slice a n cap] w fun e w'=>(∃ (v:Value) (p:Po) (oa:Option Addr) (on oc:Nat) (l:List Opr),e=.returned (.tuple #[v,.slice oa on oc])∧(∃ ob,Hid (oa=some ⟨ob,0,none⟩))∧Al (w.heap.size+1) w' v p∧FB p∧Ad opC 9 30 w' (w.heap.size+1) oa on oc l∧on<=10∧∀ o∈l,BE o)∧Below w.heap.size w w':=by
 go_enter func16,ntmps16
 go_wp2_with fail
 have hu:Below w.heap.size w (w.alloc (.cells #[.int .i64 0,.int .i64 0,.slice none 0 0,.slice none 0 0,.slice none 0 0,.slice none 0 0] 28)):=by go_grown
 have D0:=Blk.new w #[.int .i64 0,.int .i64 0,.slice none 0 0,.slice none 0 0,.slice none 0 0,.slice none 0 0] 28
 have hI:(w.alloc (.cells #[.int .i64 0,.int .i64 0,.slice none 0 0,.slice none 0 0,.slice none 0 0,.slice none 0 0] 28)).heap.size=w.heap.size+1:=by simp
 have h0:=h.below hu
 generalize w.alloc (.cells #[.int .i64 0,.int .i64 0,.slice none 0 0,.slice none 0 0,.slice none 0 0,.slice none 0 0] 28)=w0 at *
 refine (FA a n cap w0 h0 hn).mono ?_
 rintro e w1 ⟨rfl,hq,hv⟩
 rw[hI] at hq ⊢
 have D1:=D0.below hv
 have hB:=Aa hu hv
 have hW:=hq.lt
 clear D0 hv hu h0 hI w0
 go_wp2_with fail
 refine (Gz (w.heap.size+1) 6 (by omega) (by omega) _ hq).mono ?_
 rintro e w2 ⟨⟨v,p,rfl,PT,hd⟩,hF,hr⟩
 have ha:=PT.mono (show w.heap.size+2<=w1.heap.size by omega)
 obtain⟨ea,en,ec,va,vn,vc,ra,rn,rc,la,ln,lc,rows,rfl,_⟩:=PT
 have D2:=D1.grown hr (by omega)
 have hD:=ao_ hB hr (by omega)
 have hX:=hr.size
 clear D1 hB hr hq
 have hh:Below w2.heap.size w2 (w2.alloc (.cells #[.int .i64 p.size,.int .i64 p.next,.slice ea en ec,.slice va vn vc,.slice ra rn rc,.slice la ln lc] 28)):=(Yg _ _).alloc (Zd _) _
 have P3:=Blk.new w2 #[.int .i64 p.size,.int .i64 p.next,.slice ea en ec,.slice va vn vc,.slice ra rn rc,.slice la ln lc] 28
 have ht:(w2.alloc (.cells #[.int .i64 p.size,.int .i64 p.next,.slice ea en ec,.slice va vn vc,.slice ra rn rc,.slice la ln lc] 28)).heap.size=w2.heap.size+1:=by simp
 go_wp2_with fail
 have R3:=hF.below hh
 have D3:=D2.below hh
 have hp:=Aa hD hh
 replace ha:=ha.below hh
 obtain⟨pb,hz⟩:∃ pb,pb=w2.heap.size:=⟨_,rfl⟩
 rw[<-hz] at P3 ht
 rw[<-hz]
 generalize w2.alloc (.cells #[.int .i64 p.size,.int .i64 p.next,.slice ea en ec,.slice va vn vc,.slice ra rn rc,.slice la ln lc] 28)=w3 at *
 have hQ:w.heap.size+2<=pb:=by omega
 clear hh D2 hD hF hz
 obtain⟨w4,hs⟩:∃ u,u=w3.alloc (.cells #[] 30):=⟨_,rfl⟩
 have hb:Below w3.heap.size w3 w4:=by rw[hs];exact (Yg _ _).alloc (Zd _) _
 have E4:Blk w4 w3.heap.size #[] 30:=by rw[hs];exact Blk.new _ _ _
 rw[<-hs]
 have hR:w.heap.size+2<=pb+1:=by omega
 rw[ht] at E4
 replace R3:=R3.below hb
 replace D3:=D3.below hb
 replace P3:=P3.below hb
 replace hp:=Aa hp hb
 replace ha:=ha.below hb
 clear hb hs
 refine (Au (w.heap.size+1) 10 _ R3 (by omega) (by omega)).mono ?_
 rintro e w5 ⟨⟨x,rfl,hx⟩,R5,hf⟩
 have D5:=D3.grown hf (by omega)
 have P5:=P3.grown hf (by omega)
 have hE:=ao_ hp hf (by omega)
 have na:=E4.grown hf (by omega)
 replace ha:=ha.lowB hf (by omega)
 clear D3 P3 hp hf R3 E4
 go_wp2_with fail
 go_loopw [6,7] (fun out ix wr=>∃ (k m:Nat) (a2:Option Addr) (n2 cap2:Nat) (lk:List Opr),ix=.int .i64 k∧k+m=x∧out=.slice a2 n2 cap2∧n2<=m∧(∃ ob,Hid (a2=some ⟨ob,0,none⟩))∧(∀ o∈lk,BE o)∧Ad opC 9 30 wr (w.heap.size+2) a2 n2 cap2 lk∧Rd wr (w.heap.size+1)∧Blk wr w.heap.size #[.int .i64 0,.int .i64 0,.slice none 0 0,.slice none 0 0,.slice none 0 0,.slice none 0 0] 28∧Blk wr pb #[.int .i64 p.size,.int .i64 p.next,.slice ea en ec,.slice va vn vc,.slice ra rn rc,.slice la ln lc] 28∧Al (w.heap.size+2) wr (.agg #[.int .i64 p.size,.int .i64 p.next,.slice ea en ec,.slice va vn vc,.slice ra rn rc,.slice la ln lc]) p∧Below w.heap.size w wr) (fun _ ix _=>(intOf ix).toNat)
 case atStart=>exact⟨x,0,_,0,0,[],rfl,by omega,rfl,Zd _,⟨_,rfl⟩,(fun c hc=>by cases hc),aw_ na hR,R5,D5,P5,ha,hE⟩
 case round=>
  clear R5 D5 P5 ha hE na
  obtain⟨k,m,a2,n2,cap2,lk,rfl,hU,rfl,hV,hP,hH,RO,R,D,P,PT,hC⟩:=hrel
  by_cases hk:0<k
  ·go_wp2_with fail
   refine (EQ (w.heap.size+1) _ R).mono ?_
   rintro e w6 ⟨⟨o,rfl,ho⟩,R6,hg⟩
   have hm:=RO.grown hg (fun ad hO=>by have:=(RO.block ad hO).1;omega)
   have D6:=D.grown hg (by omega)
   have P6:=P.grown hg (by omega)
   have hN:=ao_ hC hg (by omega)
   have T6:=PT.lowB hg (by omega)
   clear RO R D P PT hC hg
   have hl:(prog.info? 30).map (fun i=>(i.zero,i.size,i.bytes))=some (some (.agg #[.int .i64 0,.string .empty,.string .empty,.string .empty,.string .empty,.int .i64 0,.int .i64 0,.int .i64 0,.string .empty]),9,112):=by kernel_rfl
   obtain⟨i0,hi,hS,hT,ht⟩:=info_parts hl
   have hY:=P6.lt
   go_wp2_with (at_builtin;refine ag_ rfl (fun K hK=>ay_ _ _ 44 rfl (w.heap.size+2) 30 i0 (.agg #[.int .i64 0,.string .empty,.string .empty,.string .empty,.string .empty,.int .i64 0,.int .i64 0,.int .i64 0,.string .empty]) 112 underlying44 hi hS hT ht rfl (by decide) opC_len opC_one a2 n2 cap2 lk rfl (hm.alloc _) _ 1 1 [o] rfl (sl_newO _ _ _ _ (by simp)) (fun ad h=>(by cases h;rfl)) (fun h=>(by cases h)) (n2+1) rfl (by unfold maxLen;omega) (by omega) (by simp;omega) (fun a3 cap3 w7 R7 hj=>hK _ _ ?_)))
   have he:Below w6.heap.size w6 (w6.alloc (.cells #[.int .i64 o.k,.string o.vol,.string o.file,.string o.to,.string o.into,.int .i64 o.at',.int .i64 o.fr,.int .i64 o.ln,.string o.data] 30)):=(Yg _ _).alloc (Zd _) _
   have hA:=(hm.below he).rowTy (m:=n2) (k:=cap2)
   have P7:=(P6.below he).ty hj hA (by decide)
   have D7:=(D6.below he).ty hj hA (by decide)
   have T7:=(T6.below he).tyO hj hA
   have hJ:=(R6.below he).grownO hj (fun j e=>by have:=hm.own_ge j e;omega)
   have hL:=jc_ (Aa hN he) hj (fun j e=>by have:=hm.own_ge j e;omega)
   go_wp2
   go_roundw
   case rel=>exact⟨k-1,m+1,a3,n2+1,cap3,lk++[o],by show Value.int IntKind.i64 _=Value.int IntKind.i64 _;congr 1;omega,by omega,rfl,by omega,(by rcases R7.own with⟨_,e,_⟩ | ⟨b,e,_⟩;exact absurd e (by omega);exact⟨b,e⟩),(fun y hy=>by rcases Zs.1 hy with hy | hy;exact hH y hy;rcases YP.1 hy with rfl;exact ho),R7,hJ,D7,P7,T7,hL⟩
   case measure=>simp[intOf];omega
  ·obtain rfl:k=0:=by omega
   obtain⟨d0,d1,d2,d3,d4,d5⟩:=Es P
   obtain⟨x0,x1,x2,x3,x4,x5⟩:=Es D
   obtain⟨f0,f1,f2,f3,f4,f5⟩:=fz6 D
   go_wp2
   obtain⟨W8,hG,E8,hw⟩:=AU D (.int .i64 p.size) (.int .i64 p.next) (.slice ea en ec) (.slice va vn vc) (.slice ra rn rc) (.slice la ln lc)
   have hM:=ao_ hC hw (Zd _)
   have T8:=PT.tyP hw (aa_ D)
   have R8:=RO.ty hw (aa_ D) (by decide)
   rw[<-hG]
   clear hG
   refine YW (ad_ rfl _ W8 w.heap.size _ _ _ _ _ rfl E8 underlying28 rfl (by kernel_rfl) rfl) rfl ?_
   exact⟨⟨_,p,a2,n2,cap2,lk,rfl,hP,T8.mono (by omega),hd,R8.mono (by omega),by omega,hH⟩,hM⟩
end Go.Proofs.YtkodenjhajafpaaGreatDoor
namespace Go.Proofs.YtkodenjhajafpaaGreatDoor
open Go Go.RowKit Go.BigFrame _root_.Go.Proofs.Tryz
theorem AF.vsO {B:Nat}{w:World}{p:Po}{ea va ra la:Option Addr}{en ec vn vc rn rc ln lc:Nat}(h:AF B w (.agg #[.int .i64 p.size,.int .i64 p.next,.slice ea en ec,.slice va vn vc,.slice ra rn rc,.slice la ln lc]) p):Bc B w va vn p.vs:=by
 obtain⟨_,_,_,_,_,_,_,_,_,_,_,_,hv,_,⟨h2,_⟩,_⟩:=h
 simp only[Value.agg.injEq,Array.mk.injEq,List.cons.injEq,Value.slice.injEq,and_true,true_and] at hv
 obtain⟨_,⟨rfl,rfl,_⟩,_,_⟩:=hv
 exact h2
theorem laws_samePool (B B':Nat)(hB0:0<B)(hB1:0<B')(v v':Value)(p:Po)(w:World)(h:AF B w v p)(h':AF B' w v' p)(hd:AB p) :
  Calls prog 20 #[v,v'] w fun e w'=>e=.returned (.bool true)∧Below w.heap.size w w':=by
 obtain⟨ea,en,ec,va,vn,vc,ra,rn,rc,la,ln,lc,rfl⟩:=h.cells
 obtain⟨ea1,en1,ec1,va1,vn1,vc1,ra1,rn1,rc1,la1,ln1,lc1,rfl⟩:=h'.cells
 obtain rfl:vn=vn1:=h.vsO.len.symm.trans h'.vsO.len
 have hc:vn<=9223372036854775807:=by rw[<-h.vsO.len];exact Zl hd.2.2.1 (by decide)
 obtain⟨T,hT⟩:∃ T,Hid (textO p=T):=⟨_,rfl⟩
 go_enter func20,ntmps20
 go_wp2_with fail
 have hW:Below w.heap.size w ((w.alloc (.cells #[.int .i64 p.size,.int .i64 p.next,.slice ea en ec,.slice va vn vc,.slice ra rn rc,.slice la ln lc] 28)).alloc (.cells #[.int .i64 p.size,.int .i64 p.next,.slice ea1 en1 ec1,.slice va1 vn vc1,.slice ra1 rn1 rc1,.slice la1 ln1 lc1] 28)):=by go_grown
 have C:=(Blk.new w #[.int .i64 p.size,.int .i64 p.next,.slice ea en ec,.slice va vn vc,.slice ra rn rc,.slice la ln lc] 28).alloc (.cells #[.int .i64 p.size,.int .i64 p.next,.slice ea1 en1 ec1,.slice va1 vn vc1,.slice ra1 rn1 rc1,.slice la1 ln1 lc1] 28)
 have D:Blk ((w.alloc (.cells #[.int .i64 p.size,.int .i64 p.next,.slice ea en ec,.slice va vn vc,.slice ra rn rc,.slice la ln lc] 28)).alloc (.cells #[.int .i64 p.size,.int .i64 p.next,.slice ea1 en1 ec1,.slice va1 vn vc1,.slice ra1 rn1 rc1,.slice la1 ln1 lc1] 28)) (w.heap.size+1) #[.int .i64 p.size,.int .i64 p.next,.slice ea1 en1 ec1,.slice va1 vn vc1,.slice ra1 rn1 rc1,.slice la1 ln1 lc1] 28:=Blk.new' _ _ _ _ (by simp)
 replace h:=h.below hW
 replace h':=h'.below hW
 generalize (w.alloc (.cells #[.int .i64 p.size,.int .i64 p.next,.slice ea en ec,.slice va vn vc,.slice ra rn rc,.slice la ln lc] 28)).alloc (.cells #[.int .i64 p.size,.int .i64 p.next,.slice ea1 en1 ec1,.slice va1 vn vc1,.slice ra1 rn1 rc1,.slice la1 ln1 lc1] 28)=w1 at *
 have kA:∀ u,Below w1.heap.size w1 u->Calls prog 42 #[.agg #[.int .i64 p.size,.int .i64 p.next,.slice ea en ec,.slice va vn vc,.slice ra rn rc,.slice la ln lc]] u fun e w'=>e=.returned (.string T)∧Below u.heap.size u w':=fun u hu=>by
  have:=spec_PoolText B hB0 _ p u (h.below hu) hd (fun hp=>numO_of hp)
  rw[hT.out] at this;exact this
 have kB:∀ u,Below w1.heap.size w1 u->Calls prog 42 #[.agg #[.int .i64 p.size,.int .i64 p.next,.slice ea1 en1 ec1,.slice va1 vn vc1,.slice ra1 rn1 rc1,.slice la1 ln1 lc1]] u fun e w'=>e=.returned (.string T)∧Below u.heap.size u w':=fun u hu=>by
  have:=spec_PoolText B' hB1 _ p u (h'.below hu) hd (fun hp=>numO_of hp)
  rw[hT.out] at this;exact this
 obtain⟨z0,z1,z2,z3,z4,z5⟩:=Es C
 obtain⟨y0,y1,y2,y3,y4,y5⟩:=Es D
 have g0:=Af z0
 have g1:=Af z1
 have g2:=Af z2
 have g3:=Af z3
 have g4:=Af z4
 have g5:=Af z5
 have m0:=Af y0
 have m1:=Af y1
 have m2:=Af y2
 have m3:=Af y3
 have m4:=Af y4
 have m5:=Af y5
 have he:=aA_ w1
 refine ab_ (by kernel_rfl) (by kernel_rfl) ?_
 iterate 24 (go_big_quiet_step (first | (go_at_call 42;exact an_ (kA _ (Grw.h _)))))
 repeat (go_big_quiet_step (first | (go_at_call 42;exact an_ (kB _ (Grw.h _)))))
 refine wpQuiet_nil ?_
 intro w8 ha
 have hb:=Aa hW (ah_ ha)
 clear ha g0 g1 g2 g3 g4 g5 m0 m1 m2 m3 m4 m5 he kA kB z0 z1 z2 z3 z4 z5 y0 y1 y2 y3 y4 y5
 go_wp2
 go_returns
 exact⟨rfl,hb⟩
end Go.Proofs.YtkodenjhajafpaaGreatDoor
