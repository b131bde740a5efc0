/- Ground. -/
import Derived.ChangeSame
import Derived.ChangeVars
import Derived.JoinedOf
import Derived.LaidLaws
import Derived.LaidHandle
import Derived.Stop.Joined
import Derived.SevenTiedAt
import Derived.Test.YtahenegmbmnmjaaGreatDoorU38
import Derived.Test.YtahenegmbmnmjaaGreatDoorT43
set_option maxHeartbeats 20000000
set_option maxRecDepth 100000
namespace Go.Proofs.YtahenegmbmnmjaaGreatDoor
section
open Go Go.RowKit Go.BigFrame _root_.Go.Proofs.Tryz
theorem CN {P:Program}{fn:Func}{p q:Tmp}{ty ty':TypeId}(h:fn.results=#[.cell p ty,.cell q ty'])(tmps:Array Value)(w:World)(g:Nat)(t:TypeId)(cs:Array Value)(g':Nat)(t':TypeId)(cs':Array Value)(d d':TypeDesc)
  (hp:tmps.getD p undef=.pointer (some ⟨g,0,none⟩)) (hq:tmps.getD q undef=.pointer (some ⟨g',0,none⟩)) (hg:Blk w g cs t) (hg':Blk w g' cs' t')
  (hu:P.underlying ty=some d) (hu':P.underlying ty'=some d') (hd:(match d with | .struct _ | .array _ _=>true | _=>false)=true) (hd':(match d' with | .struct _ | .array _ _=>true | _=>false)=true) (hi:(P.info? ty).map (·.size)=some cs.size) (hi':(P.info? ty').map (·.size)=some cs'.size) :
  (results fn tmps).run P w=.ok (.tuple #[.agg cs,.agg cs']) w:=by
 have ha:tmps[p]?.getD undef=.pointer (some ⟨g,0,none⟩):=by simpa using hp
 have hb:tmps[q]?.getD undef=.pointer (some ⟨g',0,none⟩):=by simpa using hq
 simp[results,h,ha,hb,asAddr,run_loadVar_row w g t ty cs _ d hg hu hd hi,run_loadVar_row w g' t' ty' cs' _ d' hg' hu' hd' hi']
theorem Am.tyO {B:Nat}{w w':World}{v:Value}{p:Po}{row:Option Nat}(h:Am B w v p)(hg:w.grownBy w' row)(hr:BA w row 39):Am B w' v p:=by
 obtain⟨ea,en,ec,va,vn,vc,ra,rn,rc,la,ln,lc,rows,hv,h1,⟨h2,h3⟩,h4,h5,h6⟩:=h
 exact⟨ea,en,ec,va,vn,vc,ra,rn,rc,la,ln,lc,rows,hv,h1.ty hg hr (by decide),⟨h2.ty hg hr (by decide),h3.ty hg hr (by decide) (by decide)⟩,h4.ty hg hr (by decide),h5.ty hg hr (by decide),h6⟩
theorem BH {w:World}{b:Nat}{c0 c1 c2 c3 c4 c5:Value}{t:TypeId}(h:Blk w b #[c0,c1,c2,c3,c4,c5] t):w.cell? ⟨b,0,none⟩=some c0∧w.cell? ⟨b,1,none⟩=some c1∧w.cell? ⟨b,2,none⟩=some c2∧w.cell? ⟨b,3,none⟩=some c3∧w.cell? ⟨b,4,none⟩=some c4∧w.cell? ⟨b,5,none⟩=some c5:=⟨h.cell 0,h.cell 1,h.cell 2,h.cell 3,h.cell 4,h.cell 5⟩
theorem Dd (a:Option Addr)(n cap:Nat)(w:World)(h:BX w a n)(hn:n<=1048576) :
  Calls prog 33 #[.slice a n cap] w fun e w'=>(∃ (v:Value) (p:Po) (o:Opr),e=.returned (.tuple #[v,.agg #[.int .i64 o.k,.string o.vol,.string o.file,.string o.to,.string o.into,.int .i64 o.at',.int .i64 o.fr,.int .i64 o.ln,.string o.data]])∧Am (w.heap.size+1) w' v p∧FI p∧BC o)∧Below w.heap.size w w':=by
 go_enter func33,ntmps33
 go_wp2_with fail
 have hr:Below w.heap.size w ((w.alloc (.cells #[.int .i64 0,.int .i64 0,.slice none 0 0,.slice none 0 0,.slice none 0 0,.slice none 0 0] 35)).alloc (.cells #[.int .i64 0,.string ⟨#[]⟩,.string ⟨#[]⟩,.string ⟨#[]⟩,.string ⟨#[]⟩,.int .i64 0,.int .i64 0,.int .i64 0,.string ⟨#[]⟩] 39)):=by go_grown
 have D0:=(Blk.new w #[.int .i64 0,.int .i64 0,.slice none 0 0,.slice none 0 0,.slice none 0 0,.slice none 0 0] 35).alloc (.cells #[.int .i64 0,.string ⟨#[]⟩,.string ⟨#[]⟩,.string ⟨#[]⟩,.string ⟨#[]⟩,.int .i64 0,.int .i64 0,.int .i64 0,.string ⟨#[]⟩] 39)
 have O0:Blk ((w.alloc (.cells #[.int .i64 0,.int .i64 0,.slice none 0 0,.slice none 0 0,.slice none 0 0,.slice none 0 0] 35)).alloc (.cells #[.int .i64 0,.string ⟨#[]⟩,.string ⟨#[]⟩,.string ⟨#[]⟩,.string ⟨#[]⟩,.int .i64 0,.int .i64 0,.int .i64 0,.string ⟨#[]⟩] 39)) (w.heap.size+1) #[.int .i64 0,.string ⟨#[]⟩,.string ⟨#[]⟩,.string ⟨#[]⟩,.string ⟨#[]⟩,.int .i64 0,.int .i64 0,.int .i64 0,.string ⟨#[]⟩] 39:=Blk.new' _ _ _ _ (by simp)
 have hD:((w.alloc (.cells #[.int .i64 0,.int .i64 0,.slice none 0 0,.slice none 0 0,.slice none 0 0,.slice none 0 0] 35)).alloc (.cells #[.int .i64 0,.string ⟨#[]⟩,.string ⟨#[]⟩,.string ⟨#[]⟩,.string ⟨#[]⟩,.int .i64 0,.int .i64 0,.int .i64 0,.string ⟨#[]⟩] 39)).heap.size=w.heap.size+2:=by simp
 have h0:=h.below hr
 generalize (w.alloc (.cells #[.int .i64 0,.int .i64 0,.slice none 0 0,.slice none 0 0,.slice none 0 0,.slice none 0 0] 35)).alloc (.cells #[.int .i64 0,.string ⟨#[]⟩,.string ⟨#[]⟩,.string ⟨#[]⟩,.string ⟨#[]⟩,.int .i64 0,.int .i64 0,.int .i64 0,.string ⟨#[]⟩] 39)=w0 at *
 refine (FH a n cap w0 h0 hn).mono ?_
 rintro e w1 ⟨rfl,hq,hp⟩
 rw[hD] at hq ⊢
 have D1:=D0.below hp
 have O1:=O0.below hp
 have hv:=Aa hr hp
 have hJ:=hq.lt
 clear D0 O0 hp hr h0 hD w0
 go_wp2_with fail
 refine (GC (w.heap.size+2) 14 (by omega) (by omega) _ hq).mono ?_
 rintro e w2 ⟨⟨v,p,rfl,PT,hd⟩,hA,ho⟩
 have ha:=PT.mono (show w.heap.size+3<=w1.heap.size by omega)
 obtain⟨ea,en,ec,va,vn,vc,ra,rn,rc,la,ln,lc,rows,rfl,_⟩:=PT
 have D2:=D1.grown ho (by omega)
 have O2:=O1.grown ho (by omega)
 have hw:=ao_ hv ho (by omega)
 have hL:=ho.size
 clear D1 O1 hv ho hq
 have hk:Below w2.heap.size w2 (w2.alloc (.cells #[.int .i64 p.size,.int .i64 p.next,.slice ea en ec,.slice va vn vc,.slice ra rn rc,.slice la ln lc] 35)):=(Yg _ _).alloc (Zd _) _
 have P3:=Blk.new w2 #[.int .i64 p.size,.int .i64 p.next,.slice ea en ec,.slice va vn vc,.slice ra rn rc,.slice la ln lc] 35
 have hE:(w2.alloc (.cells #[.int .i64 p.size,.int .i64 p.next,.slice ea en ec,.slice va vn vc,.slice ra rn rc,.slice la ln lc] 35)).heap.size=w2.heap.size+1:=by simp
 go_wp2_with fail
 have R3:=hA.below hk
 have D3:=D2.below hk
 have O3:=O2.below hk
 have hx:=Aa hw hk
 replace ha:=ha.below hk
 obtain⟨pb,hs⟩:∃ pb,pb=w2.heap.size:=⟨_,rfl⟩
 rw[<-hs] at P3 hE
 generalize w2.alloc (.cells #[.int .i64 p.size,.int .i64 p.next,.slice ea en ec,.slice va vn vc,.slice ra rn rc,.slice la ln lc] 35)=w3 at *
 rw[<-hs]
 have hG:w.heap.size+3<=pb:=by omega
 clear hk D2 O2 hw hA hs
 refine (EV (w.heap.size+2) _ R3).mono ?_
 rintro e w4 ⟨⟨o,rfl,hf⟩,R4,hh⟩
 have D4:=D3.grown hh (by omega)
 have O4:=O3.grown hh (by omega)
 have P4:=P3.grown hh (by omega)
 have hy:=ao_ hx hh (by omega)
 replace ha:=ha.lowB hh (by omega)
 have hI:pb+1<=w4.heap.size:=by have:=hh.size;omega
 clear D3 O3 P3 hx hh R3 hE
 have hg:Below w4.heap.size w4 (w4.alloc (.cells #[.int .i64 o.k,.string o.vol,.string o.file,.string o.to,.string o.into,.int .i64 o.at',.int .i64 o.fr,.int .i64 o.ln,.string o.data] 39)):=(Yg _ _).alloc (Zd _) _
 have Q5:=Blk.new w4 #[.int .i64 o.k,.string o.vol,.string o.file,.string o.to,.string o.into,.int .i64 o.at',.int .i64 o.fr,.int .i64 o.ln,.string o.data] 39
 go_wp2_with fail
 have R5:=R4.below hg
 have D5:=D4.below hg
 have O5:=O4.below hg
 have P5:=P4.below hg
 have hz:=Aa hy hg
 replace ha:=ha.below hg
 obtain⟨qb,ht⟩:∃ qb,qb=w4.heap.size:=⟨_,rfl⟩
 rw[<-ht] at Q5
 generalize w4.alloc (.cells #[.int .i64 o.k,.string o.vol,.string o.file,.string o.to,.string o.into,.int .i64 o.at',.int .i64 o.fr,.int .i64 o.ln,.string o.data] 39)=w5 at *
 rw[<-ht]
 have hH:pb+1<=qb:=by omega
 clear hg D4 O4 P4 hy R4 ht hI
 refine (CV (w.heap.size+2) 24 _ R5 (by omega) (by omega)).mono ?_
 rintro e w6 ⟨⟨bx,rfl⟩,R6,hj⟩
 have D:=D5.grown hj (by omega)
 have O:=O5.grown hj (by omega)
 have P:=P5.grown hj (by omega)
 have Q:=Q5.grown hj (by omega)
 have hC:=ao_ hz hj (by omega)
 replace ha:=ha.lowB hj (by omega)
 clear D5 O5 P5 Q5 hz hj R5
 cases bx
 ·obtain⟨kv,hB⟩:∃ kv,kv=o.k:=⟨_,rfl⟩
  rw[<-hB] at Q
  go_wp2_with fail
  generalize w6=w7 at *
  clear hB
  have hW:Below w7.heap.size w7 w7.drew:=(Yg _ _).drew
  replace D:=D.below hW
  replace O:=O.below hW
  replace P:=P.below hW
  replace Q:=Q.below hW
  replace hC:=Aa hC hW
  replace ha:=ha.below hW
  clear hW
  have hF:(fun u=>(u.cell? ⟨pb,0,none⟩=some (.int .i64 p.size)∧u.cell? ⟨pb,1,none⟩=some (.int .i64 p.next)∧u.cell? ⟨pb,2,none⟩=some (.slice ea en ec)∧u.cell? ⟨pb,3,none⟩=some (.slice va vn vc)∧u.cell? ⟨pb,4,none⟩=some (.slice ra rn rc)∧u.cell? ⟨pb,5,none⟩=some (.slice la ln lc))∧u.cell? ⟨qb,0,none⟩=some (.int .i64 kv)∧u.cell? ⟨qb,1,none⟩=some (.string o.vol)∧u.cell? ⟨qb,2,none⟩=some (.string o.file)∧u.cell? ⟨qb,3,none⟩=some (.string o.to)∧u.cell? ⟨qb,4,none⟩=some (.string o.into)∧u.cell? ⟨qb,5,none⟩=some (.int .i64 o.at')∧u.cell? ⟨qb,6,none⟩=some (.int .i64 o.fr)∧u.cell? ⟨qb,7,none⟩=some (.int .i64 o.ln)∧u.cell? ⟨qb,8,none⟩=some (.string o.data)) w7.drew:=⟨BH P,ce9 Q⟩
  refine aC_ (S:=(fun u=>(u.cell? ⟨pb,0,none⟩=some (.int .i64 p.size)∧u.cell? ⟨pb,1,none⟩=some (.int .i64 p.next)∧u.cell? ⟨pb,2,none⟩=some (.slice ea en ec)∧u.cell? ⟨pb,3,none⟩=some (.slice va vn vc)∧u.cell? ⟨pb,4,none⟩=some (.slice ra rn rc)∧u.cell? ⟨pb,5,none⟩=some (.slice la ln lc))∧u.cell? ⟨qb,0,none⟩=some (.int .i64 kv)∧u.cell? ⟨qb,1,none⟩=some (.string o.vol)∧u.cell? ⟨qb,2,none⟩=some (.string o.file)∧u.cell? ⟨qb,3,none⟩=some (.string o.to)∧u.cell? ⟨qb,4,none⟩=some (.string o.into)∧u.cell? ⟨qb,5,none⟩=some (.int .i64 o.at')∧u.cell? ⟨qb,6,none⟩=some (.int .i64 o.fr)∧u.cell? ⟨qb,7,none⟩=some (.int .i64 o.ln)∧u.cell? ⟨qb,8,none⟩=some (.string o.data))) 4 (by kernel_rfl) rfl ?_
  generalize w7.drew=u0 at *
  refine tk 0 ?_
  refine tk 1 ?_
  obtain⟨y0,y1,y2,y3,y4,y5⟩:=BH D
  obtain⟨e0,e1,e2,e3,e4,e5⟩:=fz6 D
  refine AX (i:=2) (by kernel_rfl) rfl (fun K hK=>?_)
  go_simp
  obtain⟨W8,hm,D8,hc⟩:=AV D (.int .i64 p.size) (.int .i64 p.next) (.slice ea en ec) (.slice va vn vc) (.slice ra rn rc) (.slice la ln lc)
  rw[<-hm]
  clear hm
  have P8:=P.grown hc (by omega)
  have Q8:=Q.grown hc (by omega)
  have O8:=O.grown hc (by omega)
  have T8:=ha.tyP hc (aa_ D)
  have C8:=ao_ hC hc (Zd _)
  refine hK.out _ _ ⟨BH P8,ce9 Q8⟩ (fun hHeld=>?_)
  clear hK K
  try simp only[Act.put,Yj,Yq,Yr]
  clear y0 y1 y2 y3 y4 y5 e0 e1 e2 e3 e4 e5 hc
  obtain⟨y0,y1,y2,y3,y4,y5,y6,y7,y8⟩:=ce9 O8
  have e0:=O8.frozen 0
  have e1:=O8.frozen 1
  have e2:=O8.frozen 2
  have e3:=O8.frozen 3
  have e4:=O8.frozen 4
  have e5:=O8.frozen 5
  have e6:=O8.frozen 6
  have e7:=O8.frozen 7
  have e8:=O8.frozen 8
  refine AX (i:=3) (by kernel_rfl) rfl (fun K hK=>?_)
  go_simp
  obtain⟨O9,he⟩:=Db O8 (.int .i64 kv) (.string o.vol) (.string o.file) (.string o.to) (.string o.into) (.int .i64 o.at') (.int .i64 o.fr) (.int .i64 o.ln) (.string o.data)
  have D9:=D8.grown he (by omega)
  have P9:=P8.grown he (by omega)
  have Q9:=Q8.grown he (by omega)
  have T9:=T8.tyO he (aa_ O8)
  have C9:=ao_ C8 he (by omega)
  refine hK.out _ _ ⟨BH P9,ce9 Q9⟩ (fun hHeld=>?_)
  clear hK K
  try simp only[Act.put,Yj,Yq,Yr]
  clear y0 y1 y2 y3 y4 y5 y6 y7 y8 e0 e1 e2 e3 e4 e5 e6 e7 e8
  generalize (((((((((W8.setCell ⟨w.heap.size+1,0,none⟩ (.int .i64 kv)).setCell ⟨w.heap.size+1,1,none⟩ (.string o.vol)).setCell ⟨w.heap.size+1,2,none⟩ (.string o.file)).setCell ⟨w.heap.size+1,3,none⟩ (.string o.to)).setCell ⟨w.heap.size+1,4,none⟩ (.string o.into)).setCell ⟨w.heap.size+1,5,none⟩ (.int .i64 o.at')).setCell ⟨w.heap.size+1,6,none⟩ (.int .i64 o.fr)).setCell ⟨w.heap.size+1,7,none⟩ (.int .i64 o.ln)).setCell ⟨w.heap.size+1,8,none⟩ (.string o.data))=W9 at *
  refine wpAnyH_done (by kernel_rfl) ?_ _
  go_wp2
  refine YW (CN rfl _ W9 w.heap.size _ _ (w.heap.size+1) _ _ _ _ rfl rfl D9 O9 underlying35 underlying39 rfl rfl (by kernel_rfl) (by kernel_rfl)) rfl ?_
  exact⟨⟨_,p,⟨kv,o.vol,o.file,o.to,o.into,o.at',o.fr,o.ln,o.data⟩,rfl,T9.mono (by omega),hd,⟨hf.vol,hf.file,hf.to,hf.into,hf.data⟩⟩,C9⟩
 ·go_wp2_with fail
  refine (CO (w.heap.size+2) 1 10 _ R6 (by omega) (by omega) (by omega)).mono ?_
  rintro e hu ⟨⟨kv,rfl,_,_⟩,R6b,hb⟩
  replace D:=D.grown hb (by omega)
  replace O:=O.grown hb (by omega)
  replace P:=P.grown hb (by omega)
  replace Q:=Q.grown hb (by omega)
  replace hC:=ao_ hC hb (by omega)
  replace ha:=ha.lowB hb (by omega)
  have z0:=Q.cell 0
  simp only[Yp,Yo] at z0
  have g0:=Q.frozen 0
  go_wp2_with fail
  have hl:hu.grownBy (hu.setCell ⟨qb,0,none⟩ (.int .i64 kv)) (some qb):=af_ (Yh _ _) _ _
  replace D:=D.grown hl (by omega)
  replace O:=O.grown hl (by omega)
  replace P:=P.grown hl (by omega)
  replace ha:=ha.tyO hl (aa_ Q)
  replace Q:=Q.set 0 (.int .i64 kv)
  simp only[Yj,Yq] at Q
  replace hC:=ao_ hC hl (by omega)
  generalize hu.setCell ⟨qb,0,none⟩ (.int .i64 kv)=w7 at *
  clear hl z0 g0
  have hW:Below w7.heap.size w7 w7.drew:=(Yg _ _).drew
  replace D:=D.below hW
  replace O:=O.below hW
  replace P:=P.below hW
  replace Q:=Q.below hW
  replace hC:=Aa hC hW
  replace ha:=ha.below hW
  clear hW
  have hF:(fun u=>(u.cell? ⟨pb,0,none⟩=some (.int .i64 p.size)∧u.cell? ⟨pb,1,none⟩=some (.int .i64 p.next)∧u.cell? ⟨pb,2,none⟩=some (.slice ea en ec)∧u.cell? ⟨pb,3,none⟩=some (.slice va vn vc)∧u.cell? ⟨pb,4,none⟩=some (.slice ra rn rc)∧u.cell? ⟨pb,5,none⟩=some (.slice la ln lc))∧u.cell? ⟨qb,0,none⟩=some (.int .i64 kv)∧u.cell? ⟨qb,1,none⟩=some (.string o.vol)∧u.cell? ⟨qb,2,none⟩=some (.string o.file)∧u.cell? ⟨qb,3,none⟩=some (.string o.to)∧u.cell? ⟨qb,4,none⟩=some (.string o.into)∧u.cell? ⟨qb,5,none⟩=some (.int .i64 o.at')∧u.cell? ⟨qb,6,none⟩=some (.int .i64 o.fr)∧u.cell? ⟨qb,7,none⟩=some (.int .i64 o.ln)∧u.cell? ⟨qb,8,none⟩=some (.string o.data)) w7.drew:=⟨BH P,ce9 Q⟩
  refine aC_ (S:=(fun u=>(u.cell? ⟨pb,0,none⟩=some (.int .i64 p.size)∧u.cell? ⟨pb,1,none⟩=some (.int .i64 p.next)∧u.cell? ⟨pb,2,none⟩=some (.slice ea en ec)∧u.cell? ⟨pb,3,none⟩=some (.slice va vn vc)∧u.cell? ⟨pb,4,none⟩=some (.slice ra rn rc)∧u.cell? ⟨pb,5,none⟩=some (.slice la ln lc))∧u.cell? ⟨qb,0,none⟩=some (.int .i64 kv)∧u.cell? ⟨qb,1,none⟩=some (.string o.vol)∧u.cell? ⟨qb,2,none⟩=some (.string o.file)∧u.cell? ⟨qb,3,none⟩=some (.string o.to)∧u.cell? ⟨qb,4,none⟩=some (.string o.into)∧u.cell? ⟨qb,5,none⟩=some (.int .i64 o.at')∧u.cell? ⟨qb,6,none⟩=some (.int .i64 o.fr)∧u.cell? ⟨qb,7,none⟩=some (.int .i64 o.ln)∧u.cell? ⟨qb,8,none⟩=some (.string o.data))) 4 (by kernel_rfl) rfl ?_
  generalize w7.drew=u0 at *
  refine tk 0 ?_
  refine tk 1 ?_
  obtain⟨y0,y1,y2,y3,y4,y5⟩:=BH D
  obtain⟨e0,e1,e2,e3,e4,e5⟩:=fz6 D
  refine AX (i:=2) (by kernel_rfl) rfl (fun K hK=>?_)
  go_simp
  obtain⟨W8,hm,D8,hc⟩:=AV D (.int .i64 p.size) (.int .i64 p.next) (.slice ea en ec) (.slice va vn vc) (.slice ra rn rc) (.slice la ln lc)
  rw[<-hm]
  clear hm
  have P8:=P.grown hc (by omega)
  have Q8:=Q.grown hc (by omega)
  have O8:=O.grown hc (by omega)
  have T8:=ha.tyP hc (aa_ D)
  have C8:=ao_ hC hc (Zd _)
  refine hK.out _ _ ⟨BH P8,ce9 Q8⟩ (fun hHeld=>?_)
  clear hK K
  try simp only[Act.put,Yj,Yq,Yr]
  clear y0 y1 y2 y3 y4 y5 e0 e1 e2 e3 e4 e5 hc
  obtain⟨y0,y1,y2,y3,y4,y5,y6,y7,y8⟩:=ce9 O8
  have e0:=O8.frozen 0
  have e1:=O8.frozen 1
  have e2:=O8.frozen 2
  have e3:=O8.frozen 3
  have e4:=O8.frozen 4
  have e5:=O8.frozen 5
  have e6:=O8.frozen 6
  have e7:=O8.frozen 7
  have e8:=O8.frozen 8
  refine AX (i:=3) (by kernel_rfl) rfl (fun K hK=>?_)
  go_simp
  obtain⟨O9,he⟩:=Db O8 (.int .i64 kv) (.string o.vol) (.string o.file) (.string o.to) (.string o.into) (.int .i64 o.at') (.int .i64 o.fr) (.int .i64 o.ln) (.string o.data)
  have D9:=D8.grown he (by omega)
  have P9:=P8.grown he (by omega)
  have Q9:=Q8.grown he (by omega)
  have T9:=T8.tyO he (aa_ O8)
  have C9:=ao_ C8 he (by omega)
  refine hK.out _ _ ⟨BH P9,ce9 Q9⟩ (fun hHeld=>?_)
  clear hK K
  try simp only[Act.put,Yj,Yq,Yr]
  clear y0 y1 y2 y3 y4 y5 y6 y7 y8 e0 e1 e2 e3 e4 e5 e6 e7 e8
  generalize (((((((((W8.setCell ⟨w.heap.size+1,0,none⟩ (.int .i64 kv)).setCell ⟨w.heap.size+1,1,none⟩ (.string o.vol)).setCell ⟨w.heap.size+1,2,none⟩ (.string o.file)).setCell ⟨w.heap.size+1,3,none⟩ (.string o.to)).setCell ⟨w.heap.size+1,4,none⟩ (.string o.into)).setCell ⟨w.heap.size+1,5,none⟩ (.int .i64 o.at')).setCell ⟨w.heap.size+1,6,none⟩ (.int .i64 o.fr)).setCell ⟨w.heap.size+1,7,none⟩ (.int .i64 o.ln)).setCell ⟨w.heap.size+1,8,none⟩ (.string o.data))=W9 at *
  refine wpAnyH_done (by kernel_rfl) ?_ _
  go_wp2
  refine YW (CN rfl _ W9 w.heap.size _ _ (w.heap.size+1) _ _ _ _ rfl rfl D9 O9 underlying35 underlying39 rfl rfl (by kernel_rfl) (by kernel_rfl)) rfl ?_
  exact⟨⟨_,p,⟨kv,o.vol,o.file,o.to,o.into,o.at',o.fr,o.ln,o.data⟩,rfl,T9.mono (by omega),hd,⟨hf.vol,hf.file,hf.to,hf.into,hf.data⟩⟩,C9⟩
end
section
open Go Go.ChangeShapes Go.WideShapes Go.ChangeAt Go.RowKit Go.Deep Go.Joins Go.BigFrame _root_.Go.Proofs.Tryz
theorem Bx {P:Program}{x y:String×DataW Unit}{r:List (String×DataW Unit)}{w:World}(h:laidMet P (x::y::r) w):laidMet P (x::r) w:=by
 obtain⟨ps,hv,hnd,ha⟩:=h
 obtain⟨n,d⟩:=x
 obtain⟨m,d2⟩:=y
 obtain⟨g,t,cs,fuel,p,q,a1,a2,a3,a4,⟨g2,t2,cs2,fuel2,p2,q2,_,_,_,_,b5,rfl⟩,rfl⟩:=hv
 have hs:(MemPlace.row ⟨g,0,none⟩ cs.size++p++q2).Sublist (MemPlace.row ⟨g,0,none⟩ cs.size++p++(MemPlace.row ⟨g2,0,none⟩ cs2.size++p2++q2)):=(List.Sublist.refl _).append (List.sublist_append_right _ _)
 exact⟨_,⟨g,t,cs,fuel,p,q2,a1,a2,a3,a4,b5,rfl⟩,hnd.sublist hs,fun b off hm=>ha b off (hs.subset hm)⟩
theorem Ic:ownKnob prog.godebug=none:=by kernel_rfl
theorem HE:"*"++"errors.errorString"="*errors.errorString":=by decide
theorem Ip (u:TypeId)(h:prog.typeName? 3 u=some "*errors.errorString"):u=348:=
 typeName_ptr_named (nm:="errors.errorString") (by rw[HE];kernel_rfl) (by kernel_rfl) (by decide) u (by rw[HE];exact h)
theorem HN:prog.cellsOf 367=1:=by kernel_rfl
theorem Hl:prog.cellsOf 9=1:=by kernel_rfl
theorem Cw {W:World}{n0 n1:String}{text0 text1:List UInt8}{r:List (String×DataW Unit)}{g0 g1:Nat}(h:laidMet prog ((n0,.iface "*errors.errorString" (.ptr (.agg [.lit (.string text0)])))::(n1,.iface "*errors.errorString" (.ptr (.agg [.lit (.string text1)])))::r) W)(hg0:prog.globalNamed n0=some g0)(ht0:(prog.globals[g0]?).map (·.type)=some 94)(hg1:prog.globalNamed n1=some g1)(ht1:(prog.globals[g1]?).map (·.type)=some 94):∃ a0 a1,Two W n0 n1 a0 a1:=by
 obtain⟨a0,a1,s0,s1,c0,c1,t0,t1,he,hf,hg,hj,hl,hh,hk,hm,hc,ha,hb⟩:=laid_sentinels2 h hg0 ht0 hg1 ht1 underlying94 Ip underlying348 underlying367 rfl rfl underlying9 HN Hl
 exact⟨a0,a1,he,hf,hc,⟨c0,t0,ha⟩,⟨c1,t1,hb⟩⟩
theorem G7 {W:World}(h:laidMetH prog CS W):∃ ep a_errOp a_errVolume a_errFile a_errBytes a_errThere a_errFixed a_errRoom a_errParts a_errAfter,Ten W ep a_errOp a_errVolume a_errFile a_errBytes a_errThere a_errFixed a_errRoom a_errParts a_errAfter:=by
 have h':laidMet prog ER W∧handlesMet prog [("errors.errorType",Rows.laid_errors_errorType)] W:=h
 have q1:=h'.1
 unfold ER at q1
 obtain⟨e0,a_errOp,ha⟩:=Cw q1 ih_ mt_ lr_ pd_
 replace q1:=Bx q1
 obtain⟨e1,a_errVolume,hb⟩:=Cw q1 ih_ mt_ gb_ jM_
 replace q1:=Bx q1
 obtain⟨e2,a_errFile,hj⟩:=Cw q1 ih_ mt_ ii_ mu_
 replace q1:=Bx q1
 obtain⟨e3,a_errBytes,he⟩:=Cw q1 ih_ mt_ gO_ ls_
 replace q1:=Bx q1
 obtain⟨e4,a_errThere,hh⟩:=Cw q1 ih_ mt_ gP_ lt_
 replace q1:=Bx q1
 obtain⟨e5,a_errFixed,hf⟩:=Cw q1 ih_ mt_ gQ_ lu_
 replace q1:=Bx q1
 obtain⟨e6,a_errRoom,hk⟩:=Cw q1 ih_ mt_ ij_ mv_
 replace q1:=Bx q1
 obtain⟨e7,a_errParts,hg⟩:=Cw q1 ih_ mt_ gR_ lv_
 replace q1:=Bx q1
 obtain⟨e8,a_errAfter,hc⟩:=Cw q1 ih_ mt_ gS_ lw_
 obtain rfl:=ha.same hb
 obtain rfl:=ha.same hj
 obtain rfl:=ha.same he
 obtain rfl:=ha.same hh
 obtain rfl:=ha.same hf
 obtain rfl:=ha.same hk
 obtain rfl:=ha.same hg
 obtain rfl:=ha.same hc
 exact⟨_,a_errOp,a_errVolume,a_errFile,a_errBytes,a_errThere,a_errFixed,a_errRoom,a_errParts,a_errAfter,ha,hb,hj,he,hh,hf,hk,hg,hc⟩
theorem Fl:laidOutB prog=true:=by kernel_rfl
end
end Go.Proofs.YtahenegmbmnmjaaGreatDoor
