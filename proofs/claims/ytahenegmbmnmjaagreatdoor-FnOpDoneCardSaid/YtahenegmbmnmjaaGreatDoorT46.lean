/- Ground. -/
import Derived.Test.YtahenegmbmnmjaaGreatDoorT44
import Derived.Test.YtahenegmbmnmjaaGreatDoorT45
set_option maxHeartbeats 20000000
set_option maxRecDepth 100000
namespace Go.Proofs.YtahenegmbmnmjaaGreatDoor
open Go Go.RowKit Go.BigFrame _root_.Go.Proofs.Tryz
theorem done_rightO {p:Po}{o:Opr}{R:Int×Po}(hR:Br p o=R)(hc:R.1≠1):Ai p=true∧opS p o=R:=by
 unfold Br at hR
 split at hR
 ·rename_i hp;exact⟨hp,hR⟩
 ·rw[<-hR] at hc;exact absurd rfl hc
theorem op_refusedO {p:Po}{o:Opr}(h:(opS p o).1≠0):(opS p o).2=p:=by
 revert h
 unfold opS
 split
 ·split
  ·intro h;exact absurd rfl h
  ·split
   ·split
    ·intro h;exact absurd rfl h
    ·intro _;rfl
   ·intro _;rfl
 ·intro _;rfl
theorem tried_next {p:Po}{o:Opr}:p.next<=(BT p o).2.next:=by
 unfold BT
 split
 ·unfold Ap
  dsimp only
  split
  ·exact YB _
  ·split
   ·exact YB _
   ·split
    ·exact YB _
    ·split<;>exact YB _
 ·unfold Az
  split
  ·split
   ·show p.next<=p.next+1;omega
   ·exact YB _
  ·split
   ·exact YB _
   ·split
    ·exact YB _
    ·split
     ·split
      ·exact YB _
      ·show p.next<=p.next+1;omega
     ·split
      ·exact YB _
      ·split
       ·split<;>exact YB _
       ·split
        ·split
         ·exact YB _
         ·split<;>exact YB _
        ·exact YB _
theorem op_did {p:Po}{o:Opr}(hp:Ai p=true)(h:(opS p o).1=0):Ai (opS p o).2=true∧opB o=true∧p.next<=(opS p o).2.next:=by
 revert h
 unfold opS
 split
 ·rename_i ho
  split
  ·intro _;exact⟨le_ hp,ho,YB _⟩
  ·split
   ·split
    ·rename_i hb
     intro _
     exact⟨hb,ho,tried_next⟩
    ·intro h;simp at h
   ·rename_i ht
    intro h;exact absurd h ht
 ·intro h;simp at h
theorem done_did {p q:Po}{o:Opr}{R:Int×Po}(hR:Br p o=R)(hc:R.1=0)(hq:R.2=q):Ai q=true∧opB o=true∧p.next<=q.next:=by
 obtain⟨hp,ho⟩:=done_rightO hR (by omega)
 have h1:=op_did hp (by rw[ho];exact hc)
 rw[ho,hq] at h1
 exact h1
theorem done_kept {p q:Po}{o:Opr}{R:Int×Po}(hR:Br p o=R)(hc:R.1≠0)(h1:R.1≠1)(hq:R.2=q):q=p:=by
 have ho:=(done_rightO hR h1).2
 have:=op_refusedO (p:=p) (o:=o) (by rw[ho];exact hc)
 rw[ho,hq] at this
 exact this
theorem AG.vsO {B:Nat}{w:World}{p:Po}{ea va ra la:Option Addr}{en ec vn vc rn rc ln lc:Nat}(h:AG B w (.agg #[.int .i64 p.size,.int .i64 p.next,.slice ea en ec,.slice va vn vc,.slice ra rn rc,.slice la ln lc]) p):Bb B w va vn p.vs:=by
 obtain⟨_,_,_,_,_,_,_,_,_,_,_,_,hv,_,⟨h2,_⟩,_⟩:=h
 simp only[Value.agg.injEq,Array.mk.injEq,List.cons.injEq,Value.slice.injEq,and_true,true_and] at hv
 obtain⟨_,⟨rfl,rfl,_⟩,_,_⟩:=hv
 exact h2
theorem laws_samePool (B B':Nat)(hB0:0<B)(hB1:0<B')(v v':Value)(p:Po)(w:World)(h:AG B w v p)(h':AG B' w v' p)(hd:AC p) :
  Calls prog 40 #[v,v'] w fun e w'=>e=.returned (.bool true)∧Below w.heap.size w w':=by
 obtain⟨ea,en,ec,va,vn,vc,ra,rn,rc,la,ln,lc,rfl⟩:=h.cells
 obtain⟨ea1,en1,ec1,va1,vn1,vc1,ra1,rn1,rc1,la1,ln1,lc1,rfl⟩:=h'.cells
 obtain rfl:vn=vn1:=h.vsO.len.symm.trans h'.vsO.len
 have hc:vn<=9223372036854775807:=by rw[<-h.vsO.len];exact Zl hd.2.2.1 (by decide)
 obtain⟨T,hT⟩:∃ T,Hid (textO p=T):=⟨_,rfl⟩
 go_enter func40,ntmps40
 go_wp2_with fail
 have hW:Below w.heap.size w ((w.alloc (.cells #[.int .i64 p.size,.int .i64 p.next,.slice ea en ec,.slice va vn vc,.slice ra rn rc,.slice la ln lc] 35)).alloc (.cells #[.int .i64 p.size,.int .i64 p.next,.slice ea1 en1 ec1,.slice va1 vn vc1,.slice ra1 rn1 rc1,.slice la1 ln1 lc1] 35)):=by go_grown
 have C:=(Blk.new w #[.int .i64 p.size,.int .i64 p.next,.slice ea en ec,.slice va vn vc,.slice ra rn rc,.slice la ln lc] 35).alloc (.cells #[.int .i64 p.size,.int .i64 p.next,.slice ea1 en1 ec1,.slice va1 vn vc1,.slice ra1 rn1 rc1,.slice la1 ln1 lc1] 35)
 have D:Blk ((w.alloc (.cells #[.int .i64 p.size,.int .i64 p.next,.slice ea en ec,.slice va vn vc,.slice ra rn rc,.slice la ln lc] 35)).alloc (.cells #[.int .i64 p.size,.int .i64 p.next,.slice ea1 en1 ec1,.slice va1 vn vc1,.slice ra1 rn1 rc1,.slice la1 ln1 lc1] 35)) (w.heap.size+1) #[.int .i64 p.size,.int .i64 p.next,.slice ea1 en1 ec1,.slice va1 vn vc1,.slice ra1 rn1 rc1,.slice la1 ln1 lc1] 35:=Blk.new' _ _ _ _ (by simp)
 replace h:=h.below hW
 replace h':=h'.below hW
 generalize (w.alloc (.cells #[.int .i64 p.size,.int .i64 p.next,.slice ea en ec,.slice va vn vc,.slice ra rn rc,.slice la ln lc] 35)).alloc (.cells #[.int .i64 p.size,.int .i64 p.next,.slice ea1 en1 ec1,.slice va1 vn vc1,.slice ra1 rn1 rc1,.slice la1 ln1 lc1] 35)=w1 at *
 have kA:∀ u,Below w1.heap.size w1 u->Calls prog 85 #[.agg #[.int .i64 p.size,.int .i64 p.next,.slice ea en ec,.slice va vn vc,.slice ra rn rc,.slice la ln lc]] u fun e w'=>e=.returned (.string T)∧Below u.heap.size u w':=fun u hu=>by
  have:=spec_PoolText B hB0 _ p u (h.below hu) hd (fun hp=>numO_of hp)
  rw[hT.out] at this;exact this
 have kB:∀ u,Below w1.heap.size w1 u->Calls prog 85 #[.agg #[.int .i64 p.size,.int .i64 p.next,.slice ea1 en1 ec1,.slice va1 vn vc1,.slice ra1 rn1 rc1,.slice la1 ln1 lc1]] u fun e w'=>e=.returned (.string T)∧Below u.heap.size u w':=fun u hu=>by
  have:=spec_PoolText B' hB1 _ p u (h'.below hu) hd (fun hp=>numO_of hp)
  rw[hT.out] at this;exact this
 obtain⟨z0,z1,z2,z3,z4,z5⟩:=BH C
 obtain⟨y0,y1,y2,y3,y4,y5⟩:=BH D
 have g0:=Ad z0
 have g1:=Ad z1
 have g2:=Ad z2
 have g3:=Ad z3
 have g4:=Ad z4
 have g5:=Ad z5
 have m0:=Ad y0
 have m1:=Ad y1
 have m2:=Ad y2
 have m3:=Ad y3
 have m4:=Ad y4
 have m5:=Ad y5
 have he:=aA_ w1
 refine ab_ (by kernel_rfl) (by kernel_rfl) ?_
 iterate 24 (go_big_quiet_step (first | (go_at_call 85;exact an_ (kA _ (Grw.h _)))))
 repeat (go_big_quiet_step (first | (go_at_call 85;exact an_ (kB _ (Grw.h _)))))
 refine wpQuiet_nil ?_
 intro w8 ha
 have hb:=Aa hW (ah_ ha)
 clear ha g0 g1 g2 g3 g4 g5 m0 m1 m2 m3 m4 m5 he kA kB z0 z1 z2 z3 z4 z5 y0 y1 y2 y3 y4 y5
 go_wp2
 go_returns
 exact⟨rfl,hb⟩
end Go.Proofs.YtahenegmbmnmjaaGreatDoor
