/- samePool; what is drawn; what a flush leaves -/
import Derived.Test.YtdmeabghpchckaaGreatDoorLp
import Derived.Test.YtdmeabghpchckaaGreatDoorLr
set_option maxHeartbeats 20000000
set_option maxRecDepth 100000
namespace Go.Proofs.YtdmeabghpchckaaGreatDoor
open Go Go.RowKit Go.BigFrame _root_.Go.Proofs.Tryz
theorem AF.vsO {B:Nat}{w:World}{p:Po}{ea va ra la:Option Addr}{en ec vn vc rn rc ln lc:Nat}(h:AF B w (.agg #[.int .i64 p.size,.int .i64 p.next,.slice ea en ec,.slice va vn vc,.slice ra rn rc,.slice la ln lc]) p):Ba B w va vn p.vs:=by
 obtain⟨_,_,_,_,_,_,_,_,_,_,_,_,hv,_,⟨h2,_⟩,_⟩:=h
 simp only[Value.agg.injEq,Array.mk.injEq,List.cons.injEq,Value.slice.injEq,and_true,true_and] at hv
 obtain⟨_,⟨rfl,rfl,_⟩,_,_⟩:=hv
 exact h2
theorem laws_samePool (B B':Nat)(hB0:0<B)(hB1:0<B')(v v':Value)(p:Po)(w:World)(h:AF B w v p)(h':AF B' w v' p)(hd:AB p) :
  Calls prog 9 #[v,v'] w fun e w'=>e=.returned (.bool true)∧Below w.heap.size w w':=by
 obtain⟨ea,en,ec,va,vn,vc,ra,rn,rc,la,ln,lc,rfl⟩:=h.cells
 obtain⟨ea1,en1,ec1,va1,vn1,vc1,ra1,rn1,rc1,la1,ln1,lc1,rfl⟩:=h'.cells
 obtain rfl:vn=vn1:=h.vsO.len.symm.trans h'.vsO.len
 have hc:vn<=9223372036854775807:=by rw[<-h.vsO.len];exact Zl hd.2.2.1 (by decide)
 obtain⟨T,hT⟩:∃ T,Hid (textO p=T):=⟨_,rfl⟩
 go_enter func9,ntmps9
 go_wp2_with fail
 have hW:Below w.heap.size w ((w.alloc (.cells #[.int .i64 p.size,.int .i64 p.next,.slice ea en ec,.slice va vn vc,.slice ra rn rc,.slice la ln lc] 28)).alloc (.cells #[.int .i64 p.size,.int .i64 p.next,.slice ea1 en1 ec1,.slice va1 vn vc1,.slice ra1 rn1 rc1,.slice la1 ln1 lc1] 28)):=by go_grown
 have C:=(Blk.new w #[.int .i64 p.size,.int .i64 p.next,.slice ea en ec,.slice va vn vc,.slice ra rn rc,.slice la ln lc] 28).alloc (.cells #[.int .i64 p.size,.int .i64 p.next,.slice ea1 en1 ec1,.slice va1 vn vc1,.slice ra1 rn1 rc1,.slice la1 ln1 lc1] 28)
 have D:Blk ((w.alloc (.cells #[.int .i64 p.size,.int .i64 p.next,.slice ea en ec,.slice va vn vc,.slice ra rn rc,.slice la ln lc] 28)).alloc (.cells #[.int .i64 p.size,.int .i64 p.next,.slice ea1 en1 ec1,.slice va1 vn vc1,.slice ra1 rn1 rc1,.slice la1 ln1 lc1] 28)) (w.heap.size+1) #[.int .i64 p.size,.int .i64 p.next,.slice ea1 en1 ec1,.slice va1 vn vc1,.slice ra1 rn1 rc1,.slice la1 ln1 lc1] 28:=Blk.new' _ _ _ _ (by simp)
 replace h:=h.below hW
 replace h':=h'.below hW
 generalize (w.alloc (.cells #[.int .i64 p.size,.int .i64 p.next,.slice ea en ec,.slice va vn vc,.slice ra rn rc,.slice la ln lc] 28)).alloc (.cells #[.int .i64 p.size,.int .i64 p.next,.slice ea1 en1 ec1,.slice va1 vn vc1,.slice ra1 rn1 rc1,.slice la1 ln1 lc1] 28)=w1 at *
 have kA:∀ u,Below w1.heap.size w1 u->Calls prog 26 #[.agg #[.int .i64 p.size,.int .i64 p.next,.slice ea en ec,.slice va vn vc,.slice ra rn rc,.slice la ln lc]] u fun e w'=>e=.returned (.string T)∧Below u.heap.size u w':=fun u hu=>by
  have:=spec_PoolText B hB0 _ p u (h.below hu) hd (fun hp=>numO_of hp)
  rw[hT.out] at this;exact this
 have kB:∀ u,Below w1.heap.size w1 u->Calls prog 26 #[.agg #[.int .i64 p.size,.int .i64 p.next,.slice ea1 en1 ec1,.slice va1 vn vc1,.slice ra1 rn1 rc1,.slice la1 ln1 lc1]] u fun e w'=>e=.returned (.string T)∧Below u.heap.size u w':=fun u hu=>by
  have:=spec_PoolText B' hB1 _ p u (h'.below hu) hd (fun hp=>numO_of hp)
  rw[hT.out] at this;exact this
 obtain⟨z0,z1,z2,z3,z4,z5⟩:=En C
 obtain⟨y0,y1,y2,y3,y4,y5⟩:=En D
 have g0:=Ae z0
 have g1:=Ae z1
 have g2:=Ae z2
 have g3:=Ae z3
 have g4:=Ae z4
 have g5:=Ae z5
 have m0:=Ae y0
 have m1:=Ae y1
 have m2:=Ae y2
 have m3:=Ae y3
 have m4:=Ae y4
 have m5:=Ae y5
 have he:=aA_ w1
 refine ab_ (by kernel_rfl) (by kernel_rfl) ?_
 iterate 24 (go_big_quiet_step (first | (go_at_call 26;exact an_ (kA _ (Grw.h _)))))
 repeat (go_big_quiet_step (first | (go_at_call 26;exact an_ (kB _ (Grw.h _)))))
 refine wpQuiet_nil ?_
 intro w8 ha
 have hb:=Aa hW (ah_ ha)
 clear ha g0 g1 g2 g3 g4 g5 m0 m1 m2 m3 m4 m5 he kA kB z0 z1 z2 z3 z4 z5 y0 y1 y2 y3 y4 y5
 go_wp2
 go_returns
 exact⟨rfl,hb⟩
end Go.Proofs.YtdmeabghpchckaaGreatDoor
namespace Go.Proofs.YtdmeabghpchckaaGreatDoor
open Go Go.RowKit Go.BigFrame _root_.Go.Proofs.Tryz
theorem spec_DrawPoolOk (a:Option Addr)(n cap:Nat)(w:World)(h:Ch w a n)(hn:n<=1048576) :
  Calls prog 6 #[.slice a n cap] w fun e w'=>(∃ v p,e=.returned v∧Al (w.heap.size+1) w' v p∧Fv p)∧Below w.heap.size w w':=by
 go_enter func6,ntmps6
 go_wp2_with fail
 have hc:Below w.heap.size w (w.alloc (.cells #[.int .i64 0,.int .i64 0,.slice none 0 0,.slice none 0 0,.slice none 0 0,.slice none 0 0] 28)):=by go_grown
 have D0:=Blk.new w #[.int .i64 0,.int .i64 0,.slice none 0 0,.slice none 0 0,.slice none 0 0,.slice none 0 0] 28
 have hj:(w.alloc (.cells #[.int .i64 0,.int .i64 0,.slice none 0 0,.slice none 0 0,.slice none 0 0,.slice none 0 0] 28)).heap.size=w.heap.size+1:=by simp
 have h0:=h.below hc
 generalize w.alloc (.cells #[.int .i64 0,.int .i64 0,.slice none 0 0,.slice none 0 0,.slice none 0 0,.slice none 0 0] 28)=w0 at *
 refine (Fu a n cap w0 h0 hn).mono ?_
 rintro e w1 ⟨rfl,ha,he⟩
 rw[hj] at ha ⊢
 have D1:=D0.below he
 have hf:=Aa hc he
 have hp:=ha.lt
 clear D0 he hc h0 hj w0
 go_wp2_with fail
 refine (Gs (w.heap.size+1) 14 (by omega) (by omega) _ ha).mono ?_
 rintro e w2 ⟨⟨v,p,rfl,PT,hd⟩,ho,hb⟩
 have hk:=PT.mono (show w.heap.size+2<=w1.heap.size by omega)
 obtain⟨ea,en,ec,va,vn,vc,ra,rn,rc,la,ln,lc,rows,rfl,_⟩:=PT
 have D2:=D1.grown hb (by omega)
 have hl:=ao_ hf hb (by omega)
 have hq:=hb.size
 clear D1 hf hb ha
 obtain⟨x0,x1,x2,x3,x4,x5⟩:=D2.six'
 have f0:=D2.frozen 0
 have f1:=D2.frozen 1
 have f2:=D2.frozen 2
 have f3:=D2.frozen 3
 have f4:=D2.frozen 4
 have f5:=D2.frozen 5
 go_wp2
 obtain⟨W8,hg,W0,hh⟩:=AU D2 (.int .i64 p.size) (.int .i64 p.next) (.slice ea en ec) (.slice va vn vc) (.slice ra rn rc) (.slice la ln lc)
 have PF:=(hk.tyP hh (aa_ D2)).mono (show w.heap.size+1<=w.heap.size+2 by omega)
 have hm:=ao_ hl hh (Zd _)
 rw[<-hg]
 clear hg
 refine YW (results_cell_row rfl _ W8 w.heap.size _ _ _ _ rfl W0 underlying28 rfl (by kernel_rfl)) rfl ?_
 exact⟨⟨_,p,rfl,PF,hd⟩,hm⟩
end Go.Proofs.YtdmeabghpchckaaGreatDoor
namespace Go.Proofs.YtdmeabghpchckaaGreatDoor
open Go Go.RowKit Go.BigFrame _root_.Go.Proofs.Tryz
theorem flush_doneF {p:Po}(hp:Ai p=true):Bz p ⟨9,⟨#[]⟩,⟨#[]⟩,⟨#[]⟩,⟨#[]⟩,0,0,0,⟨#[]⟩⟩=(0,flushS p):=by
 unfold Bz
 rw[if_pos hp]
 unfold opS
 rw[if_pos (by simp[opB,zB]),if_pos rfl]
theorem flush_wrong {p:Po}{o:Opr}(hp:Ai p=false):(Bz p o).1=1:=by
 unfold Bz
 rw[hp];rfl
theorem flush_seen {p:Po}(hp:Ai p=true){k:Nat}{x:Vo}(hx:p.vs[k]?=some x):CV (flushS p) x.nm=CV p x.nm:=
 Gp hp (le_ hp) hx ⟨k,x,hx,rfl,rfl,fun _ hy=>iy_ hp (Zc hx) hy⟩
theorem flush_rf {p:Po}(hp:Ai p=true):(flushS p).rf=AA p.vs:=nS_ hp
theorem flush_twice {p:Po}:flushS (flushS p)=flushS p:=by
 have h1:AQ (AQ p.rf p.lt) []=AQ p.rf p.lt:=rfl
 unfold flushS
 dsimp only
 rw[h1,List.filter_filter]
 simp only[Bool.and_self]
theorem owners_some {p:Po}(hp:Ai p=true){a:Int}(h:∃ c∈AA p.vs,c.o.a=a):(ownersL (flushS p) a).length≠0:=by
 unfold ownersL
 rw[if_pos (le_ hp)]
 have h1:AQ (flushS p).rf (flushS p).lt=AA p.vs:=nS_ (le_ hp)
 rw[h1]
 obtain⟨c,hc,ha⟩:=h
 intro h0
 have:=Zt h0
 have h2:c∈(AA p.vs).filter (fun c=>c.o.a==a):=YG.2 ⟨hc,by simpa using ha⟩
 rw[this] at h2;cases h2
theorem flush_ex {p:Po}(hp:Ai p=true){e:Ex}(he:e∈(flushS p).ex):∃ c∈AA p.vs,c.o.a=e.a:=by
 have h1:e∈p.ex.filter (fun e=>(AQ p.rf p.lt).any (fun c=>c.o.a==e.a)):=he
 have h2:=(YG.1 h1).2
 rw[nS_ hp] at h2
 obtain⟨c,hc,ha⟩:=ZN.1 h2
 exact⟨c,hc,by simpa using ha⟩
theorem sum_filter (f:Ex->Bool):∀ l:List Ex,EL (l.filter f)<=EL l
 |[]=>YB _
 |e::r=>by
  have ih:=sum_filter f r
  rw[ZH]
  split
  ·simp only[EL];omega
  ·simp only[EL];omega
theorem flush_room {p:Po}(hp:Ai p=true):roomV p.size p.ex<=roomV (flushS p).size (flushS p).ex:=by
 have h1:=(bL_ hp).2.2.2.1
 have h2:=(bL_ (le_ hp)).2.2.2.1
 have h3:(flushS p).size=p.size:=rfl
 rw[h3] at h2 ⊢
 unfold roomV
 rw[if_pos h1,if_pos h2]
 have:=sum_filter (fun e=>(AQ p.rf p.lt).any (fun c=>c.o.a==e.a)) p.ex
 have h4:(flushS p).ex=p.ex.filter (fun e=>(AQ p.rf p.lt).any (fun c=>c.o.a==e.a)):=rfl
 rw[h4]
 omega
theorem walked_is {p:Po}(hp:Ai p=true):Cg p=AA p.vs:=by unfold Cg;rw[if_pos hp]
end Go.Proofs.YtdmeabghpchckaaGreatDoor
