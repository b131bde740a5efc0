/- samePool: two pools whose content is the same. -/
import Derived.Test.YtkkjdbfalpjhfaaGreatDoorV49p
set_option maxHeartbeats 20000000
set_option maxRecDepth 100000
namespace Go.Proofs.YtkkjdbfalpjhfaaGreatDoor
open Go Go.RowKit Go.BigFrame _root_.Go.Proofs.Tryz
theorem A0.vsO {B:Nat}{w:World}{p:Po}{ea va ra la:Option Addr}{en ec vn vc rn rc ln lc:Nat}(h:A0 B w (.agg #[.int .i64 p.size,.int .i64 p.next,.slice ea en ec,.slice va vn vc,.slice ra rn rc,.slice la ln lc]) p):Bk B w va vn p.vs:=by
 obtain⟨_,_,_,_,_,_,_,_,_,_,_,_,hv,_,⟨h2,_⟩,_⟩:=h
 simp only[Value.agg.injEq,Array.mk.injEq,List.cons.injEq,Value.slice.injEq,and_true,true_and] at hv
 obtain⟨_,⟨rfl,rfl,_⟩,_,_⟩:=hv
 exact h2
theorem laws_samePool (B B':Nat)(hB0:0<B)(hB1:0<B')(v v':Value)(p:Po)(w:World)(h:A0 B w v p)(h':A0 B' w v' p)(hd:AJ p) :
  Calls prog 10 #[v,v'] w fun e w'=>e=.returned (.bool true)∧Below w.heap.size w w':=by
 obtain⟨ea,en,ec,va,vn,vc,ra,rn,rc,la,ln,lc,rfl⟩:=h.cells
 obtain⟨ea1,en1,ec1,va1,vn1,vc1,ra1,rn1,rc1,la1,ln1,lc1,rfl⟩:=h'.cells
 obtain rfl:vn=vn1:=h.vsO.len.symm.trans h'.vsO.len
 have hc:vn<=9223372036854775807:=by rw[<-h.vsO.len];exact Zl hd.2.2.1 (by decide)
 obtain⟨T,hT⟩:∃ T,Hid (BW p=T):=⟨_,rfl⟩
 go_enter func10,ntmps10
 go_wp2_with fail
 have hW:Below w.heap.size w ((w.alloc (.cells #[.int .i64 p.size,.int .i64 p.next,.slice ea en ec,.slice va vn vc,.slice ra rn rc,.slice la ln lc] 28)).alloc (.cells #[.int .i64 p.size,.int .i64 p.next,.slice ea1 en1 ec1,.slice va1 vn vc1,.slice ra1 rn1 rc1,.slice la1 ln1 lc1] 28)):=by go_grown
 have C:=(Blk.new w #[.int .i64 p.size,.int .i64 p.next,.slice ea en ec,.slice va vn vc,.slice ra rn rc,.slice la ln lc] 28).alloc (.cells #[.int .i64 p.size,.int .i64 p.next,.slice ea1 en1 ec1,.slice va1 vn vc1,.slice ra1 rn1 rc1,.slice la1 ln1 lc1] 28)
 have D:Blk ((w.alloc (.cells #[.int .i64 p.size,.int .i64 p.next,.slice ea en ec,.slice va vn vc,.slice ra rn rc,.slice la ln lc] 28)).alloc (.cells #[.int .i64 p.size,.int .i64 p.next,.slice ea1 en1 ec1,.slice va1 vn vc1,.slice ra1 rn1 rc1,.slice la1 ln1 lc1] 28)) (w.heap.size+1) #[.int .i64 p.size,.int .i64 p.next,.slice ea1 en1 ec1,.slice va1 vn vc1,.slice ra1 rn1 rc1,.slice la1 ln1 lc1] 28:=Blk.new' _ _ _ _ (by simp)
 replace h:=h.below hW
 replace h':=h'.below hW
 generalize (w.alloc (.cells #[.int .i64 p.size,.int .i64 p.next,.slice ea en ec,.slice va vn vc,.slice ra rn rc,.slice la ln lc] 28)).alloc (.cells #[.int .i64 p.size,.int .i64 p.next,.slice ea1 en1 ec1,.slice va1 vn vc1,.slice ra1 rn1 rc1,.slice la1 ln1 lc1] 28)=w1 at *
 have kA:∀ u,Below w1.heap.size w1 u->Calls prog 8 #[.agg #[.int .i64 p.size,.int .i64 p.next,.slice ea en ec,.slice va vn vc,.slice ra rn rc,.slice la ln lc]] u fun e w'=>e=.returned (.string T)∧Below u.heap.size u w':=fun u hu=>by
  have:=Et B hB0 _ p u (h.below hu) hd (fun hp=>Ix hp)
  rw[hT.out] at this;exact this
 have kB:∀ u,Below w1.heap.size w1 u->Calls prog 8 #[.agg #[.int .i64 p.size,.int .i64 p.next,.slice ea1 en1 ec1,.slice va1 vn vc1,.slice ra1 rn1 rc1,.slice la1 ln1 lc1]] u fun e w'=>e=.returned (.string T)∧Below u.heap.size u w':=fun u hu=>by
  have:=Et B' hB1 _ p u (h'.below hu) hd (fun hp=>Ix hp)
  rw[hT.out] at this;exact this
 obtain⟨z0,z1,z2,z3,z4,z5⟩:=six6T C
 obtain⟨y0,y1,y2,y3,y4,y5⟩:=six6T D
 have g0:=Ac z0
 have g1:=Ac z1
 have g2:=Ac z2
 have g3:=Ac z3
 have g4:=Ac z4
 have g5:=Ac z5
 have m0:=Ac y0
 have m1:=Ac y1
 have m2:=Ac y2
 have m3:=Ac y3
 have m4:=Ac y4
 have m5:=Ac y5
 have he:=aA_ w1
 refine ab_ (by kernel_rfl) (by kernel_rfl) ?_
 iterate 24 (go_big_quiet_step (first | (go_at_call 8;exact an_ (kA _ (Grw.h _)))))
 repeat (go_big_quiet_step (first | (go_at_call 8;exact an_ (kB _ (Grw.h _)))))
 refine wpQuiet_nil ?_
 intro w8 ha
 have hb:=Aa hW (ah_ ha)
 clear ha g0 g1 g2 g3 g4 g5 m0 m1 m2 m3 m4 m5 he kA kB z0 z1 z2 z3 z4 z5 y0 y1 y2 y3 y4 y5
 go_wp2
 go_returns
 exact⟨rfl,hb⟩
end Go.Proofs.YtkkjdbfalpjhfaaGreatDoor
