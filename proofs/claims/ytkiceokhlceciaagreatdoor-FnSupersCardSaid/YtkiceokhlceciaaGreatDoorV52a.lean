/- What is drawn for the law over commitments, and what their bytes say. -/
import Derived.Test.YtkiceokhlceciaaGreatDoorU50
set_option maxHeartbeats 20000000
set_option maxRecDepth 100000
namespace Go.Proofs.YtkiceokhlceciaaGreatDoor
section
open Go Go.RowKit Go.BigFrame _root_.Go.Proofs.Tryz
theorem ans_right {p:Po}(hp:Ap p=true):CM (AO p)=some p:=by
 unfold CM
 rw[if_pos (KV hp).2]
 exact JA hp
theorem ans_back {s:By}{p:Po}(h:CM s=some p):AJ p:=by
 unfold CM at h
 split at h
 ·next hs=>
  unfold Fh at h
  split at h
  ·next hh=>
   obtain⟨h1,h2⟩:=Classical.choose_spec hh
   obtain rfl:=Zi h
   exact KB (by rw[<-h2];exact hs)
  ·cases h
 ·cases h
theorem edge4 (a b c d:Int):(strOfNums [a,b,c,d]).data.toList.length=4:=by
 have:=strOfNums_size [a,b,c,d]
 rw[Lib.size_eq] at this
 exact this
theorem super_data (n:Int)(t:By):∃ a b:By,a.length=4∧b.length=4∧(DW n t).data.toList=a++CG n t++b:=by
 refine ⟨(hiB ((CG n t).length)).data.toList,(loB (FR (CG n t))).data.toList,edge4 _ _ _ _,edge4 _ _ _ _,?_⟩
 unfold DW
 rw[ByteArray.data_append,ByteArray.data_append,Array.toList_append,Array.toList_append]
theorem super_mid (n:Int)(t:By):Ee (DW n t).data.toList=CG n t:=by
 obtain⟨a,b,ha,hb,h⟩:=super_data n t
 rw[h]
 unfold Ee
 rw[ZC,List.drop_append_of_le_length (by omega),Ze (by omega),ZM,ZE,ZE]
 rw[show a.length+((CG n t).length+b.length)-8=(CG n t).length by omega,List.take_left']
 rfl
theorem super_cut (n:Int)(t:By):cutB 10 (CG n t)=some (Lib.itoa n,t):=by
 unfold CG
 rw[Cb,ZC]
 exact Ca t (Fc n)
theorem super_size {n:Int}{p:Po}(h0:0<=n)(h1:n<=1000000000)(hp:Ap p=true):8<=(DW n (AO p)).size∧(DW n (AO p)).size<=60030:=by
 obtain⟨a,b,ha,hb,h⟩:=super_data n (AO p)
 have h2:=(KV hp).2
 have h3:=Dw (n:=n) (by omega) (by omega)
 rw[Lib.size_eq] at h3 ⊢
 rw[h]
 unfold CG
 simp only[ZE,Zw,YK]
 omega
theorem super_back {n:Int}{p:Po}(h0:0<=n)(h1:n<=1000000000)(hp:Ap p=true)(hl:p.lt=[]):rsO (Cw n p)=some (n,p):=by
 obtain⟨z1,z2⟩:=super_size h0 h1 hp
 have hn:AK n:=⟨by omega,by omega⟩
 have e1:hdB (CG n (AO p))=Lib.itoa n:=by unfold hdB;rw[super_cut]
 have e2:tlB (CG n (AO p))=AO p:=by unfold tlB;rw[super_cut]
 have e3:=Gu h0 h1 hp hl
 rw[e3]
 unfold rsO
 rw[if_pos ⟨z1,by omega⟩,super_mid,e1,e2,GW (LW hn) rfl,ans_right hp]
 show (if Cw n p=DW n (AO p) then some (n,p) else none)=some (n,p)
 rw[if_pos e3]
theorem super_sizeO {n:Int}{p:Po}:(Cw n p).size<=60030:=by
 by_cases h:(0<=n∧n<=1000000000)∧Ap p=true∧p.lt=[]
 ·rw[Gu h.1.1 h.1.2 h.2.1 h.2.2]
  exact (super_size h.1.1 h.1.2 h.2.1).2
 ·rw[G4 h]
  exact Zg _
theorem rs_none:rsO ⟨#[]⟩=none:=by
 unfold rsO
 rw[if_neg]
 rintro⟨h,_⟩
 cases h
theorem rs_back {s:ByteArray}{n:Int}{p:Po}(h:rsO s=some (n,p)):Cw n p=s∧AJ p:=by
 unfold rsO at h
 split at h
 ·cases h1:numP (hdB (Ee s.data.toList)) with
  |none=>rw[h1] at h;cases h
  |some m=>
   cases h2:CM (tlB (Ee s.data.toList)) with
   |none=>rw[h1,h2] at h;cases h
   |some q=>
    rw[h1,h2] at h
    simp only[YO] at h
    split at h
    ·next h3=>
     obtain⟨rfl,rfl⟩:=Prod.mk.inj (Zi h)
     exact⟨h3,ans_back h2⟩
    ·cases h
 ·cases h
theorem six6T {w:World}{b:Nat}{c0 c1 c2 c3 c4 c5:Value}{t:TypeId}(h:Blk w b #[c0,c1,c2,c3,c4,c5] t):w.cell? ⟨b,0,none⟩=some c0∧w.cell? ⟨b,1,none⟩=some c1∧w.cell? ⟨b,2,none⟩=some c2∧w.cell? ⟨b,3,none⟩=some c3∧w.cell? ⟨b,4,none⟩=some c4∧w.cell? ⟨b,5,none⟩=some c5:=⟨h.cell 0,h.cell 1,h.cell 2,h.cell 3,h.cell 4,h.cell 5⟩
theorem spec_hurt (B:Nat)(s:ByteArray)(w:World)(h:Rd w B)(hs:s.size<=65000) :
  Calls prog 29 #[.pointer (some ⟨B,0,none⟩),.string s] w fun e w'=>(∃ t:ByteArray,e=.returned (.string t)∧t.size<=65002)∧Rd w' B∧w.grownBy w' (some B):=by
 have hI:=h.lt
 go_enter func29,ntmps29
 go_wp2_with fail
 refine (Av B 6 w h (by omega) (by omega)).mono ?_
 rintro e w1 ⟨⟨x,rfl,hx⟩,R1,he⟩
 by_cases h1:x=1
 ·subst h1
  go_wp2_with fail
  refine (Av B (s.size+1) w1 R1 (by omega) (by omega)).mono ?_
  rintro e w2 ⟨⟨y,rfl,hy⟩,R2,ha⟩
  have hw:(y:Int)<=s.size:=by omega
  have hv:(0:Int)<=y:=by omega
  have hz:(s.extract 0 y).size<=65002:=by rw[ByteArray.size_extract];omega
  go_wp2
  go_returns
  exact⟨⟨_,rfl,hz⟩,R2,aV_ he ha⟩
 ·by_cases h2:x=2
  ·subst h2
   by_cases h0:0<s.size
   ·have hr:(0:Int)<s.size:=by omega
    go_wp2_with fail
    refine (Av B s.size w1 R1 (by omega) (by omega)).mono ?_
    rintro e w2 ⟨⟨y,rfl,hy⟩,R2,ha⟩
    have hC:=R2.lt
    have hv:(0:Int)<=y:=by omega
    have hw:(y:Int)<s.size:=hy
    have hM:(y:Int)<=s.size:=by omega
    have hN:(y:Int)+1<=s.size:=by omega
    have hO:(0:Int)<=(y:Int)+1:=by omega
    have hL:IntKind.i64.wrap ((y:Int)+1)=(y:Int)+1:=by rw[Ys];omega
    have hJ:((y:Int)+1).toNat=y+1:=by omega
    go_wp2_with fail
    refine aC_ (S:=fun _=>True) 15 (by kernel_rfl) rfl ?_
    have hD:Below w2.heap.size w2 w2.drew:=(Yg _ _).drew
    have RD:=R2.below hD
    have ho:=au_ (aV_ he ha) hD
    have hE:=RD.lt
    generalize w2.drew=u0 at *
    clear hD
    refine tk 0 ?_
    refine tk 1 ?_
    refine tk 2 ?_
    refine tk 4 ?_
    refine tk 9 ?_
    refine tk 10 ?_
    refine tk 11 ?_
    refine tk 12 ?_
    obtain⟨X,hX⟩:∃ X,Hid (s.extract 0 y=X):=⟨_,rfl⟩
    obtain⟨Z,hZ⟩:∃ Z,Hid (s.extract (y+1) s.size=Z):=⟨_,rfl⟩
    have hH:X.size<=32500+32500:=by rw[<-hX.out,ByteArray.size_extract];omega
    have hF:X.size+Z.size+1<=65001:=by rw[<-hX.out,<-hZ.out,ByteArray.size_extract,ByteArray.size_extract];omega
    rw[hX.out,hZ.out]
    clear hX hZ
    refine Nl (i:=3) (j:=5) (by kernel_rfl) rfl rfl (fun K hK=>?_) (fun K hK=>?_)
    ·go_simp
     obtain⟨lb,hb⟩:∃ b,b=u0.heap.size:=⟨_,rfl⟩
     obtain⟨u1,hl⟩:∃ u,u=u0.alloc (.cells #[.string ⟨#[48]⟩,.string ⟨#[49]⟩,.string ⟨#[32]⟩,.string ⟨#[10]⟩,.string ⟨#[45]⟩,.string ⟨#[58]⟩] 9):=⟨_,rfl⟩
     have hA:Below u0.heap.size u0 u1:=by rw[hl];exact (Yg _ _).alloc (Zd _) _
     have L:Blk u1 lb #[.string ⟨#[48]⟩,.string ⟨#[49]⟩,.string ⟨#[32]⟩,.string ⟨#[10]⟩,.string ⟨#[45]⟩,.string ⟨#[58]⟩] 9:=by rw[hl];exact Blk.new' _ _ _ _ hb
     rw[<-hl,<-hb]
     have hu:lb≠B:=by omega
     clear hl hb
     refine hK.out _ _ trivial (fun hHeld=>?_)
     clear hK K
     try simp only[Act.put,Yj,Yq,Yr]
     refine Aq (i:=5) (by kernel_rfl) rfl (fun K hK=>?_)
     go_simp
     refine (Av B 6 u1 (RD.below hA) (by omega) (by omega)).mono ?_
     rintro e u2 ⟨⟨z,rfl,hz⟩,R3,hk⟩
     have L2:=L.grown hk hu
     have hG:=aV_ (au_ ho hA) hk
     dsimp only
     refine hK.out _ _ trivial (fun hHeld=>?_)
     clear hK K
     try simp only[Act.put,Yj,Yq,Yr]
     have hp:(0:Int)<=z:=by omega
     have hq:(z:Int)<6:=by omega
     obtain⟨t,ht,hc⟩:∃ t:ByteArray,t.size<=1∧u2.cell? ⟨lb,z,none⟩=some (.string t):=by
      have:z=0∨z=1∨z=2∨z=3∨z=4∨z=5:=by omega
      have hn:=L2.cell z
      rcases this with rfl | rfl | rfl | rfl | rfl | rfl<;>exact⟨_,Zd _,hn⟩
     have hf:¬ 9223372036854775807<X.size+t.size:=by omega
     have hg:¬ 9223372036854775807<(X++t).size+Z.size:=by rw[ByteArray.size_append];omega
     have hh:¬ 9223372036854775807<X.size+t.size+Z.size:=by omega
     have hj:(X++t++Z).size<=65002:=by rw[ByteArray.size_append,ByteArray.size_append];omega
     refine tk 6 ?_
     refine Aq (i:=7) (by kernel_rfl) rfl (fun K hK=>?_)
     go_simp
     refine hK.out _ _ trivial (fun hHeld=>?_)
     clear hK K
     try simp only[Act.put,Yj,Yq,Yr]
     refine tk 8 ?_
     refine tk 13 ?_
     refine tk 14 ?_
     refine wpAnyH_done (by kernel_rfl) ?_ _
     go_wp2
     go_returns
     exact⟨⟨_,rfl,hj⟩,R3,hG⟩
    ·go_simp
     refine (Av B 6 u0 RD (by omega) (by omega)).mono ?_
     rintro e u1 ⟨⟨z,rfl,hz⟩,R3,hk⟩
     dsimp only
     refine hK.out _ _ trivial (fun hHeld=>?_)
     clear hK K
     try simp only[Act.put,Yj,Yq,Yr]
     refine Aq (i:=3) (by kernel_rfl) rfl (fun K hK=>?_)
     go_simp
     obtain⟨lb,hb⟩:∃ b,b=u1.heap.size:=⟨_,rfl⟩
     obtain⟨u2,hm⟩:∃ u,u=u1.alloc (.cells #[.string ⟨#[48]⟩,.string ⟨#[49]⟩,.string ⟨#[32]⟩,.string ⟨#[10]⟩,.string ⟨#[45]⟩,.string ⟨#[58]⟩] 9):=⟨_,rfl⟩
     have hA:Below u1.heap.size u1 u2:=by rw[hm];exact (Yg _ _).alloc (Zd _) _
     have L:Blk u2 lb #[.string ⟨#[48]⟩,.string ⟨#[49]⟩,.string ⟨#[32]⟩,.string ⟨#[10]⟩,.string ⟨#[45]⟩,.string ⟨#[58]⟩] 9:=by rw[hm];exact Blk.new' _ _ _ _ hb
     rw[<-hm,<-hb]
     have R4:=R3.below hA
     have hG:=au_ (aV_ ho hk) hA
     clear hm hb
     refine hK.out _ _ trivial (fun hHeld=>?_)
     clear hK K
     try simp only[Act.put,Yj,Yq,Yr]
     have hp:(0:Int)<=z:=by omega
     have hq:(z:Int)<6:=by omega
     obtain⟨t,ht,hc⟩:∃ t:ByteArray,t.size<=1∧u2.cell? ⟨lb,z,none⟩=some (.string t):=by
      have:z=0∨z=1∨z=2∨z=3∨z=4∨z=5:=by omega
      have hn:=L.cell z
      rcases this with rfl | rfl | rfl | rfl | rfl | rfl<;>exact⟨_,Zd _,hn⟩
     have hf:¬ 9223372036854775807<X.size+t.size:=by omega
     have hg:¬ 9223372036854775807<(X++t).size+Z.size:=by rw[ByteArray.size_append];omega
     have hh:¬ 9223372036854775807<X.size+t.size+Z.size:=by omega
     have hj:(X++t++Z).size<=65002:=by rw[ByteArray.size_append,ByteArray.size_append];omega
     refine tk 6 ?_
     refine Aq (i:=7) (by kernel_rfl) rfl (fun K hK=>?_)
     go_simp
     refine hK.out _ _ trivial (fun hHeld=>?_)
     clear hK K
     try simp only[Act.put,Yj,Yq,Yr]
     refine tk 8 ?_
     refine tk 13 ?_
     refine tk 14 ?_
     refine wpAnyH_done (by kernel_rfl) ?_ _
     go_wp2
     go_returns
     exact⟨⟨_,rfl,hj⟩,R4,hG⟩
   ·have hr:¬ (0:Int)<s.size:=by omega
    go_wp2
    go_returns
    exact⟨⟨_,rfl,by omega⟩,R1,he⟩
  ·by_cases h3:x=3
   ·subst h3
    go_wp2_with fail
    have hB:=R1.lt
    have hA:Below w1.heap.size w1 (w1.alloc (.cells #[.string ⟨#[32]⟩,.string ⟨#[10]⟩,.string ⟨#[48]⟩] 9)):=(Yg _ _).alloc (Zd _) _
    have L:=Blk.new w1 #[.string ⟨#[32]⟩,.string ⟨#[10]⟩,.string ⟨#[48]⟩] 9
    refine (Av B 3 _ (R1.below hA) (by omega) (by omega)).mono ?_
    rintro e w2 ⟨⟨y,rfl,hy⟩,R2,ha⟩
    have L2:=L.grown ha (by omega)
    have hG:=aV_ (au_ he hA) ha
    have c0:=L2.cell 0
    have c1:=L2.cell 1
    have c2:=L2.cell 2
    simp only[Yp,Yo,Yt] at c0 c1 c2
    have hp:(0:Int)<=y:=by omega
    have hq:(y:Int)<3:=by omega
    obtain⟨t,ht,hc⟩:∃ t:ByteArray,t.size=1∧w2.cell? ⟨w1.heap.size,y,none⟩=some (.string t):=by
     have:y=0∨y=1∨y=2:=by omega
     rcases this with rfl | rfl | rfl
     ·exact⟨_,rfl,c0⟩
     ·exact⟨_,rfl,c1⟩
     ·exact⟨_,rfl,c2⟩
    have hf:¬ 9223372036854775807<s.size+t.size:=by omega
    have hj:(s++t).size<=65002:=by rw[ByteArray.size_append];omega
    clear c0 c1 c2 hA ha R1 he L
    go_wp2
    go_returns
    exact⟨⟨_,rfl,hj⟩,R2,hG⟩
   ·have e1:¬ (x:Int)=1:=by omega
    have e2:¬ (x:Int)=2:=by omega
    have e3:¬ (x:Int)=3:=by omega
    have d1:((x:Int)==1)=false:=ZV.2 e1
    have d2:((x:Int)==2)=false:=ZV.2 e2
    have d3:((x:Int)==3)=false:=ZV.2 e3
    go_wp2
    go_returns
    exact⟨⟨_,rfl,by omega⟩,R1,he⟩
theorem str_flushS:Ds ⟨9,⟨#[]⟩,⟨#[]⟩,⟨#[]⟩,⟨#[]⟩,0,0,0,⟨#[]⟩⟩:=⟨Zg _,Zg _,Zg _,Zg _,Zg _⟩
theorem results_tcS {P:Program}{fn:Func}{p q:Tmp}{ty:TypeId}(h:fn.results=#[.tmp q,.cell p ty])(tmps:Array Value)(w:World)(g:Nat)(t:TypeId)(cs:Array Value)(d:TypeDesc)(v:Value)
  (hp:tmps.getD p undef=.pointer (some ⟨g,0,none⟩)) (hq:tmps.getD q undef=v) (hg:Blk w g cs t)
  (hu:P.underlying ty=some d) (hd:(match d with | .struct _ | .array _ _=>true | _=>false)=true) (hi:(P.info? ty).map (·.size)=some cs.size) :
  (results fn tmps).run P w=.ok (.tuple #[v,.agg cs]) w:=by
 have ha:tmps[p]?.getD undef=.pointer (some ⟨g,0,none⟩):=by simpa using hp
 have hb:tmps[q]?.getD undef=v:=by simpa using hq
 simp[results,h,ha,hb,asAddr,run_loadVar_row w g t ty cs _ d hg hu hd hi]
theorem spec_DrawSuperText (a:Option Addr)(n cap:Nat)(w:World)(h:DH w a n)(hn:n<=1048576) :
  Calls prog 5 #[.slice a n cap] w fun e w'=>(∃ v p k,e=.returned (.tuple #[.int .i64 k,v])∧AW 1 w' v p∧AJ p)∧Below w.heap.size w w':=by
 go_enter func5,ntmps5
 go_wp2_with fail
 have hp:Below w.heap.size w (w.alloc (.cells #[.int .i64 0,.int .i64 0,.slice none 0 0,.slice none 0 0,.slice none 0 0,.slice none 0 0] 28)):=by go_grown
 have D0:=Blk.new w #[.int .i64 0,.int .i64 0,.slice none 0 0,.slice none 0 0,.slice none 0 0,.slice none 0 0] 28
 have hz:(w.alloc (.cells #[.int .i64 0,.int .i64 0,.slice none 0 0,.slice none 0 0,.slice none 0 0,.slice none 0 0] 28)).heap.size=w.heap.size+1:=by simp
 have h0:=h.below hp
 generalize w.alloc (.cells #[.int .i64 0,.int .i64 0,.slice none 0 0,.slice none 0 0,.slice none 0 0,.slice none 0 0] 28)=w0 at *
 refine (Mi a n cap w0 h0 hn).mono ?_
 rintro e w1 ⟨rfl,hj,hq⟩
 rw[hz] at hj ⊢
 have D1:=D0.below hq
 have ht:=Aa hp hq
 have hB:=hj.lt
 clear D0 hq hp h0 hz w0
 go_wp2_with fail
 refine (MM (w.heap.size+1) 8 (by omega) (by omega) _ hj).mono ?_
 rintro e w2 ⟨⟨v,p,rfl,PT,hd⟩,hx,hm⟩
 have ha:=PT.mono (show w.heap.size+2<=w1.heap.size by omega)
 obtain⟨ea,en,ec,va,vn,vc,ra,rn,rc,la,ln,lc,rows,rfl,_⟩:=PT
 have D2:=D1.grown hm (by omega)
 have hu:=ao_ ht hm (by omega)
 have hD:=hm.size
 clear D1 ht hm hj
 have hb:Below w2.heap.size w2 (w2.alloc (.cells #[.int .i64 p.size,.int .i64 p.next,.slice ea en ec,.slice va vn vc,.slice ra rn rc,.slice la ln lc] 28)):=(Yg _ _).alloc (Zd _) _
 have P3:=Blk.new w2 #[.int .i64 p.size,.int .i64 p.next,.slice ea en ec,.slice va vn vc,.slice ra rn rc,.slice la ln lc] 28
 go_wp2_with fail
 have R3:=hx.below hb
 have D3:=D2.below hb
 have hw:=Aa hu hb
 replace ha:=ha.below hb
 obtain⟨pb,hs⟩:∃ pb,pb=w2.heap.size:=⟨_,rfl⟩
 rw[<-hs] at P3
 generalize w2.alloc (.cells #[.int .i64 p.size,.int .i64 p.next,.slice ea en ec,.slice va vn vc,.slice ra rn rc,.slice la ln lc] 28)=w3 at *
 rw[<-hs]
 have hA:w.heap.size+2<=pb:=by omega
 clear hb D2 hu hx hs
 refine (FC (w.heap.size+1) 6 _ R3 (by omega) (by omega)).mono ?_
 rintro e w4 ⟨⟨bx,rfl⟩,R,hf⟩
 have D:=D3.grown hf (by omega)
 have P:=P3.grown hf (by omega)
 have hC:=ao_ hw hf (by omega)
 replace ha:=ha.lowB hf (by omega)
 have hk:=hd.1
 clear D3 P3 hw hf R3 hd
 cases bx
 case' true=>
  obtain⟨w5,rfl⟩:∃ x,x=w4:=⟨_,rfl⟩
  go_wp2_with fail
 case' false=>
  obtain⟨x0,x1,x2,x3,x4,x5⟩:=six6T P
  go_wp2_with fail
  refine (nK_ (w.heap.size+2) (by omega) _ p ⟨9,⟨#[]⟩,⟨#[]⟩,⟨#[]⟩,⟨#[]⟩,0,0,0,⟨#[]⟩⟩ w4 ha.at' hk str_flushS).mono ?_
  rintro e hF ⟨⟨v1,c,rfl,_,PX,hl⟩,hc⟩
  have hE:=P.lt
  replace ha:=PX.mono (show w.heap.size+2<=w4.heap.size by omega)
  replace hk:=hl
  generalize (Ej p ⟨9,⟨#[]⟩,⟨#[]⟩,⟨#[]⟩,⟨#[]⟩,0,0,0,⟨#[]⟩⟩).2=q at *
  replace P:=P.below hc
  replace D:=D.below hc
  replace R:=R.below hc
  replace hC:=Aa hC hc
  clear hc hl PX x0 x1 x2 x3 x4 x5
  have ho:=ha
  obtain⟨ea',en',ec',va',vn',vc',ra',rn',rc',la',ln',lc',rows',rfl,_⟩:=ho
  obtain⟨x0,x1,x2,x3,x4,x5⟩:=six6T P
  obtain⟨e0,e1,e2,e3,e4,e5⟩:=fz6 P
  go_wp2_with fail
  obtain⟨w5,he,P5,hg⟩:=Ba P (.int .i64 q.size) (.int .i64 q.next) (.slice ea' en' ec') (.slice va' vn' vc') (.slice ra' rn' rc') (.slice la' ln' lc')
  rw[<-he]
  clear he
  replace D:=D.grown hg (by omega)
  replace R:=R.grown hg (by omega)
  replace ha:=ha.tyP hg (aa_ P)
  replace hC:=ao_ hC hg (by omega)
  replace P:=P5
  clear P5 hg x0 x1 x2 x3 x4 x5 e0 e1 e2 e3 e4 e5
 all_goals
  obtain⟨q,c0,c1,c2,c3,c4,c5,Pq,PTq,hl⟩:∃ (q:Po) (c0 c1 c2 c3 c4 c5:Value),Blk w5 pb #[c0,c1,c2,c3,c4,c5] 28∧Ag (w.heap.size+2) w5 (.agg #[c0,c1,c2,c3,c4,c5]) q∧AJ q:=⟨_,_,_,_,_,_,_,P,ha,hk⟩
  clear P ha hk
  have ho:=PTq
  obtain⟨sa,sn,sc,ta,tn,tc',ua,un,uc,va,vn,vc,_,hv,_⟩:=ho
  simp only[Value.agg.injEq,Array.mk.injEq,List.cons.injEq,and_true] at hv
  obtain⟨rfl,rfl,rfl,rfl,rfl,rfl⟩:=hv
  have hW:Below w5.heap.size w5 w5.drew:=(Yg _ _).drew
  replace D:=D.below hW
  replace R:=R.below hW
  replace Pq:=Pq.below hW
  replace PTq:=PTq.below hW
  replace hC:=Aa hC hW
  clear hW
  refine aC_ (S:=(fun u=>u.cell? ⟨pb,0,none⟩=some (.int .i64 q.size)∧u.cell? ⟨pb,1,none⟩=some (.int .i64 q.next)∧u.cell? ⟨pb,2,none⟩=some (.slice sa sn sc)∧u.cell? ⟨pb,3,none⟩=some (.slice ta tn tc')∧u.cell? ⟨pb,4,none⟩=some (.slice ua un uc)∧u.cell? ⟨pb,5,none⟩=some (.slice va vn vc))) 5 (by kernel_rfl) rfl ?_
  generalize w5.drew=u0 at *
  have hy:=six6T Pq
  refine tk 0 ?_
  refine tk 2 ?_
  refine Aq (i:=1) (by kernel_rfl) rfl (fun K hK=>?_)
  go_simp
  refine (Fj (w.heap.size+1) 0 9 _ R (by omega) (by omega) (by omega)).mono ?_
  rintro e u1 ⟨⟨kv,rfl,_,_⟩,_,hh⟩
  replace D:=D.grown hh (by omega)
  replace Pq:=Pq.grown hh (by omega)
  replace PTq:=PTq.lowB hh (by omega)
  replace hC:=ao_ hC hh (by omega)
  clear hh R hy
  refine hK.out _ _ (six6T Pq) (fun hHeld=>?_)
  clear hK K
  try simp only[Act.put,Yj,Yq,Yr]
  have hy:=six6T Pq
  refine tk 3 ?_
  obtain⟨y0,y1,y2,y3,y4,y5⟩:=six6T D
  obtain⟨e0,e1,e2,e3,e4,e5⟩:=fz6 D
  refine Aq (i:=4) (by kernel_rfl) rfl (fun K hK=>?_)
  go_simp
  obtain⟨W8,he,D8,hr⟩:=Ba D (.int .i64 q.size) (.int .i64 q.next) (.slice sa sn sc) (.slice ta tn tc') (.slice ua un uc) (.slice va vn vc)
  rw[<-he]
  clear he
  have P8:=Pq.grown hr (by omega)
  have T8:=PTq.tyP hr (aa_ D)
  have na:=ao_ hC hr (Zd _)
  refine hK.out _ _ (six6T P8) (fun hHeld=>?_)
  clear hK K
  try simp only[Act.put,Yj,Yq,Yr]
  refine wpAnyH_done (by kernel_rfl) ?_ _
  go_wp2
  refine YW (results_tcS rfl _ W8 w.heap.size _ _ _ _ rfl rfl D8 underlying28 rfl (by kernel_rfl)) rfl ?_
  exact⟨⟨_,q,kv,rfl,(T8.mono (by omega)).at',hl⟩,na⟩
theorem spec_DrawReadSuper (a:Option Addr)(n cap:Nat)(w:World)(h:DH w a n)(hn:n<=1048576) :
  Calls prog 10 #[.slice a n cap] w fun e w'=>(∃ t:ByteArray,e=.returned (.string t)∧t.size<=65002)∧Below w.heap.size w w':=by
 go_enter func10,ntmps10
 go_wp2_with fail
 refine (Mi a n cap w h hn).mono ?_
 rintro e w1 ⟨rfl,hf,hb⟩
 go_wp2_with fail
 refine (spec_DrawSuperText a n cap w1 (h.below hb) hn).mono ?_
 rintro e w2 ⟨⟨v,p,k,rfl,hA,hd⟩,hc⟩
 have R2:=hf.below hc
 have ha:=Aa hb hc
 obtain⟨ea,en,ec,va,vn,vc,ra,rn,rc,la,ln,lc,rfl⟩:=hA.cells
 clear hb hc hf
 have hW:Below w2.heap.size w2 (w2.alloc (.cells #[.int .i64 p.size,.int .i64 p.next,.slice ea en ec,.slice va vn vc,.slice ra rn rc,.slice la ln lc] 28)):=(Yg _ _).alloc (Zd _) _
 have P:=Blk.new w2 #[.int .i64 p.size,.int .i64 p.next,.slice ea en ec,.slice va vn vc,.slice ra rn rc,.slice la ln lc] 28
 replace hA:=hA.below hW
 replace R2:=R2.below hW
 replace ha:=Aa ha hW
 clear hW
 go_upto_region 3 with fail
 generalize w2.alloc (.cells #[.int .i64 p.size,.int .i64 p.next,.slice ea en ec,.slice va vn vc,.slice ra rn rc,.slice la ln lc] 28)=w3 at *
 obtain⟨x0,x1,x2,x3,x4,x5⟩:=six6T P
 go_wp2_with fail
 refine (Gs 1 (by omega) _ p k w3 hA hd (fun hp=>F1 hp)).mono ?_
 rintro e w4 ⟨rfl,he⟩
 replace ha:=Aa ha he
 go_wp2_with fail
 refine (spec_hurt w.heap.size (Cw k p) w4 (R2.below he) (Zl super_sizeO (by decide))).mono ?_
 rintro e w5 ⟨⟨t,rfl,ht⟩,_,hh⟩
 have hg:=ao_ ha hh (Zd _)
 go_wp2
 go_returns
 exact⟨⟨t,rfl,ht⟩,hg⟩
theorem AW.vsO {B:Nat}{w:World}{p:Po}{ea va ra la:Option Addr}{en ec vn vc rn rc ln lc:Nat}(h:AW B w (.agg #[.int .i64 p.size,.int .i64 p.next,.slice ea en ec,.slice va vn vc,.slice ra rn rc,.slice la ln lc]) p):Bp B w va vn p.vs:=by
 obtain⟨_,_,_,_,_,_,_,_,_,_,_,_,hv,_,⟨h2,_⟩,_⟩:=h
 simp only[Value.agg.injEq,Array.mk.injEq,List.cons.injEq,Value.slice.injEq,and_true,true_and] at hv
 obtain⟨_,⟨rfl,rfl,_⟩,_,_⟩:=hv
 exact h2
theorem laws_samePool (B B':Nat)(hB0:0<B)(hB1:0<B')(v v':Value)(p:Po)(w:World)(h:AW B w v p)(h':AW B' w v' p)(hd:AJ p) :
  Calls prog 9 #[v,v'] w fun e w'=>e=.returned (.bool true)∧Below w.heap.size w w':=by
 obtain⟨ea,en,ec,va,vn,vc,ra,rn,rc,la,ln,lc,rfl⟩:=h.cells
 obtain⟨ea1,en1,ec1,va1,vn1,vc1,ra1,rn1,rc1,la1,ln1,lc1,rfl⟩:=h'.cells
 obtain rfl:vn=vn1:=h.vsO.len.symm.trans h'.vsO.len
 have hc:vn<=9223372036854775807:=by rw[<-h.vsO.len];exact Zl hd.2.2.1 (by decide)
 obtain⟨T,hT⟩:∃ T,Hid (BL p=T):=⟨_,rfl⟩
 go_enter func9,ntmps9
 go_wp2_with fail
 have hW:Below w.heap.size w ((w.alloc (.cells #[.int .i64 p.size,.int .i64 p.next,.slice ea en ec,.slice va vn vc,.slice ra rn rc,.slice la ln lc] 28)).alloc (.cells #[.int .i64 p.size,.int .i64 p.next,.slice ea1 en1 ec1,.slice va1 vn vc1,.slice ra1 rn1 rc1,.slice la1 ln1 lc1] 28)):=by go_grown
 have C:=(Blk.new w #[.int .i64 p.size,.int .i64 p.next,.slice ea en ec,.slice va vn vc,.slice ra rn rc,.slice la ln lc] 28).alloc (.cells #[.int .i64 p.size,.int .i64 p.next,.slice ea1 en1 ec1,.slice va1 vn vc1,.slice ra1 rn1 rc1,.slice la1 ln1 lc1] 28)
 have D:Blk ((w.alloc (.cells #[.int .i64 p.size,.int .i64 p.next,.slice ea en ec,.slice va vn vc,.slice ra rn rc,.slice la ln lc] 28)).alloc (.cells #[.int .i64 p.size,.int .i64 p.next,.slice ea1 en1 ec1,.slice va1 vn vc1,.slice ra1 rn1 rc1,.slice la1 ln1 lc1] 28)) (w.heap.size+1) #[.int .i64 p.size,.int .i64 p.next,.slice ea1 en1 ec1,.slice va1 vn vc1,.slice ra1 rn1 rc1,.slice la1 ln1 lc1] 28:=Blk.new' _ _ _ _ (by simp)
 replace h:=h.below hW
 replace h':=h'.below hW
 generalize (w.alloc (.cells #[.int .i64 p.size,.int .i64 p.next,.slice ea en ec,.slice va vn vc,.slice ra rn rc,.slice la ln lc] 28)).alloc (.cells #[.int .i64 p.size,.int .i64 p.next,.slice ea1 en1 ec1,.slice va1 vn vc1,.slice ra1 rn1 rc1,.slice la1 ln1 lc1] 28)=w1 at *
 have kA:∀ u,Below w1.heap.size w1 u->Calls prog 28 #[.agg #[.int .i64 p.size,.int .i64 p.next,.slice ea en ec,.slice va vn vc,.slice ra rn rc,.slice la ln lc]] u fun e w'=>e=.returned (.string T)∧Below u.heap.size u w':=fun u hu=>by
  have:=EK B hB0 _ p u (h.below hu) hd (fun hp=>F1 hp)
  rw[hT.out] at this;exact this
 have kB:∀ u,Below w1.heap.size w1 u->Calls prog 28 #[.agg #[.int .i64 p.size,.int .i64 p.next,.slice ea1 en1 ec1,.slice va1 vn vc1,.slice ra1 rn1 rc1,.slice la1 ln1 lc1]] u fun e w'=>e=.returned (.string T)∧Below u.heap.size u w':=fun u hu=>by
  have:=EK B' hB1 _ p u (h'.below hu) hd (fun hp=>F1 hp)
  rw[hT.out] at this;exact this
 obtain⟨z0,z1,z2,z3,z4,z5⟩:=six6T C
 obtain⟨y0,y1,y2,y3,y4,y5⟩:=six6T D
 have g0:=Ac z0
 have g1:=Ac z1
 have g2:=Ac z2
 have g3:=Ac z3
 have g4:=Ac z4
 have g5:=Ac z5
 have m0:=Ac y0
 have m1:=Ac y1
 have m2:=Ac y2
 have m3:=Ac y3
 have m4:=Ac y4
 have m5:=Ac y5
 have he:=aA_ w1
 refine ab_ (by kernel_rfl) (by kernel_rfl) ?_
 iterate 24 (go_big_quiet_step (first | (go_at_call 28;exact an_ (kA _ (Grw.h _)))))
 repeat (go_big_quiet_step (first | (go_at_call 28;exact an_ (kB _ (Grw.h _)))))
 refine wpQuiet_nil ?_
 intro w8 ha
 have hb:=Aa hW (ah_ ha)
 clear ha g0 g1 g2 g3 g4 g5 m0 m1 m2 m3 m4 m5 he kA kB z0 z1 z2 z3 z4 z5 y0 y1 y2 y3 y4 y5
 go_wp2
 go_returns
 exact⟨rfl,hb⟩
end
section
open Go Go.RowKit Go.BigFrame _root_.Go.Proofs.Tryz
theorem walkSu (a:Option Addr)(n cap:Nat)(w:World)(h:DH w a n)(hm:n<=9223372036854775807)(hG:Glb w) :
  Calls prog 3 #[.slice a n cap] w fun e w'=>e=.returned (.bool true)∧Below w.heap.size w w':=by
 by_cases hn:n<=1048576
 ·have hb:decide (1048576<n)=false:=by simp;omega
  go_enter func3,ntmps3
  go_wp2_with fail
  refine (MK a n cap _ hm).mono ?_
  rintro e w1 ⟨rfl,rfl⟩
  rw[hb]
  go_wp2_with fail
  refine (spec_DrawSuperText a n cap _ h hn).mono ?_
  rintro e w2 ⟨⟨v,p,k,rfl,hA,hd⟩,hB⟩
  obtain⟨ea,en,ec,va,vn,vc,ra,rn,rc,la,ln,lc,rfl⟩:=hA.cells
  clear hb
  have hW:Below w2.heap.size w2 (w2.alloc (.cells #[.int .i64 p.size,.int .i64 p.next,.slice ea en ec,.slice va vn vc,.slice ra rn rc,.slice la ln lc] 28)):=(Yg _ _).alloc (Zd _) _
  have P:=Blk.new w2 #[.int .i64 p.size,.int .i64 p.next,.slice ea en ec,.slice va vn vc,.slice ra rn rc,.slice la ln lc] 28
  have hC:=Aa hB hW
  replace hA:=hA.below hW
  go_upto_region 4 with fail
  generalize w2.alloc (.cells #[.int .i64 p.size,.int .i64 p.next,.slice ea en ec,.slice va vn vc,.slice ra rn rc,.slice la ln lc] 28)=w3 at *
  clear hW hB
  obtain⟨x0,x1,x2,x3,x4,x5⟩:=six6T P
  have hD:ES w3:=(hG.below hC).tab
  go_wp2_with fail
  refine (Gk 1 _ p k w3 hA hd (fun hp=>F1 hp) hD (hG.below hC).sz).mono ?_
  rintro e w4 ⟨rfl,hl⟩
  obtain⟨T,hT⟩:∃ T,Hid (Cw k p=T):=⟨_,rfl⟩
  rw[hT.out]
  have hH:T.size<=60030:=by rw[<-hT.out];exact super_sizeO
  clear x0 x1 x2 x3 x4 x5
  clear hD
  replace P:=P.below hl
  replace hA:=hA.below hl
  replace hC:=Aa hC hl
  clear hl
  go_wp2_with fail
  refine (KH T w4 (by omega) (hG.below hC)).mono ?_
  rintro e w5 ⟨⟨v1,rfl,M⟩,ho⟩
  have hM:=(M.mono (show 1<=w4.heap.size by have:=hC.size;have:=hG.sz;omega)).at
  obtain⟨ok,hj⟩:∃ ok,Hid ((rsO T).isSome=ok):=⟨_,rfl⟩
  obtain⟨m,hv⟩:∃ m,Hid ((rsO T).elim 0 (·.1)=m):=⟨_,rfl⟩
  obtain⟨q,hq⟩:∃ q,Hid ((rsO T).elim Ar (·.2)=q):=⟨_,rfl⟩
  rw[hj.out,hv.out]
  rw[hq.out] at hM
  clear M
  obtain⟨ea1,en1,ec1,va1,vn1,vc1,ra1,rn1,rc1,la1,ln1,lc1,rfl⟩:=hM.cells
  replace P:=P.below ho
  replace hA:=hA.below ho
  replace hC:=Aa hC ho
  clear ho
  have hW:Below w5.heap.size w5 (w5.alloc (.cells #[.int .i64 q.size,.int .i64 q.next,.slice ea1 en1 ec1,.slice va1 vn1 vc1,.slice ra1 rn1 rc1,.slice la1 ln1 lc1] 28)):=(Yg _ _).alloc (Zd _) _
  have E:=Blk.new w5 #[.int .i64 q.size,.int .i64 q.next,.slice ea1 en1 ec1,.slice va1 vn1 vc1,.slice ra1 rn1 rc1,.slice la1 ln1 lc1] 28
  replace P:=P.below hW
  replace hA:=hA.below hW
  replace hM:=hM.below hW
  replace hC:=Aa hC hW
  clear hW
  go_upto_region 6 with fail
  generalize w5.alloc (.cells #[.int .i64 q.size,.int .i64 q.next,.slice ea1 en1 ec1,.slice va1 vn1 vc1,.slice ra1 rn1 rc1,.slice la1 ln1 lc1] 28)=w6 at *
  obtain⟨x0,x1,x2,x3,x4,x5⟩:=six6T P
  have q1:=Gs 1 (by omega) _ p k w6 hA hd (fun hp=>F1 hp)
  rw[hT.out] at q1
  go_wp2_with fail
  refine q1.mono ?_
  rintro e w7 ⟨rfl,ha⟩
  clear q1
  clear x0 x1 x2 x3 x4 x5
  replace P:=P.below ha
  replace E:=E.below ha
  replace hA:=hA.below ha
  replace hM:=hM.below ha
  replace hC:=Aa hC ha
  clear ha
  by_cases hr:(0<=k∧k<=1000000000)∧Ap p=true∧p.lt=[]
  case' neg=>
   obtain rfl:T=⟨#[]⟩:=by rw[<-hT.out];exact G4 hr
   obtain rfl:ok=false:=by rw[<-hj.out,rs_none];rfl
   clear hj hv hq hT hr hM hA P E
   obtain⟨hE,rfl⟩:∃ x,x=w7:=⟨_,rfl⟩
   go_wp2_with fail
  case' pos=>
   have h0:=super_back hr.1.1 hr.1.2 hr.2.1 hr.2.2
   have h1:=(super_size hr.1.1 hr.1.2 hr.2.1).1
   rw[<-Gu hr.1.1 hr.1.2 hr.2.1 hr.2.2,hT.out] at h1
   rw[hT.out] at h0
   obtain rfl:ok=true:=by rw[<-hj.out,h0];rfl
   obtain rfl:k=m:=by rw[<-hv.out,h0];rfl
   obtain rfl:p=q:=by rw[<-hq.out,h0];rfl
   have hL:0<T.toList.length:=by rw[Zu,<-Lib.size_eq];omega
   have hI:T.toList.isEmpty=false:=by
    cases hh:T.toList with
    |nil=>rw[hh] at hL;cases hL
    |cons _ _=>rfl
   have hJ:¬ T.toList=[]:=by
    intro hh;rw[hh] at hL;cases hL
   have hK:(k != k)=false:=by simp
   clear hj hv hq h0 hT hr h1 hL
   obtain⟨x0,x1,x2,x3,x4,x5⟩:=six6T P
   obtain⟨y0,y1,y2,y3,y4,y5⟩:=six6T E
   go_wp2_with fail
   refine (laws_samePool 1 1 (by omega) (by omega) _ _ p w7 hM hA hd).mono ?_
   rintro e hE ⟨rfl,hc⟩
   clear y0 y1 y2 y3 y4 y5
   clear x0 x1 x2 x3 x4 x5
   replace hC:=Aa hC hc
   clear hc hM hA P E
   go_wp2_with fail
  all_goals
   refine (spec_DrawReadSuper a n cap hE (h.below hC) hn).mono ?_
   rintro e hF ⟨⟨t,rfl,ht⟩,he⟩
   replace hC:=Aa hC he
   clear he
   go_wp2_with fail
   refine (KH t hF (by omega) (hG.below hC)).mono ?_
   rintro e hk ⟨⟨v1,rfl,M⟩,hf⟩
   have hM:=(M.mono (show 1<=hF.heap.size by have:=hC.size;have:=hG.sz;omega)).at
   obtain⟨fi,hu⟩:∃ fi,Hid ((rsO t).isSome=fi):=⟨_,rfl⟩
   obtain⟨nn,hw⟩:∃ nn,Hid ((rsO t).elim 0 (·.1)=nn):=⟨_,rfl⟩
   obtain⟨x,hx⟩:∃ x,Hid ((rsO t).elim Ar (·.2)=x):=⟨_,rfl⟩
   rw[hu.out,hw.out]
   rw[hx.out] at hM
   clear M
   obtain⟨ea2,en2,ec2,va2,vn2,vc2,ra2,rn2,rc2,la2,ln2,lc2,rfl⟩:=hM.cells
   replace hC:=Aa hC hf
   clear hf
   have hW:Below hk.heap.size hk (hk.alloc (.cells #[.int .i64 x.size,.int .i64 x.next,.slice ea2 en2 ec2,.slice va2 vn2 vc2,.slice ra2 rn2 rc2,.slice la2 ln2 lc2] 28)):=(Yg _ _).alloc (Zd _) _
   have E:=Blk.new hk #[.int .i64 x.size,.int .i64 x.next,.slice ea2 en2 ec2,.slice va2 vn2 vc2,.slice ra2 rn2 rc2,.slice la2 ln2 lc2] 28
   replace hM:=hM.below hW
   replace hC:=Aa hC hW
   clear hW
   go_upto_region 10 with fail
   generalize hk.alloc (.cells #[.int .i64 x.size,.int .i64 x.next,.slice ea2 en2 ec2,.slice va2 vn2 vc2,.slice ra2 rn2 rc2,.slice la2 ln2 lc2] 28)=w13 at *
   go_wp2_with fail
   refine (K6 t w13 (by omega) (by have:=hC.size;have:=hG.sz;omega)).mono ?_
   rintro e hy ⟨⟨v2,rfl,M⟩,hg⟩
   rw[hu.out,hw.out]
   obtain⟨ea3,en3,ec3,va3,vn3,vc3,ra3,rn3,rc3,la3,ln3,lc3,vr3,rfl,_⟩:=M.out
   rw[hx.out]
   clear M
   have hW:Below hy.heap.size hy (hy.alloc (.cells #[.int .i64 x.size,.int .i64 x.next,.slice ea3 en3 ec3,.slice va3 vn3 vc3,.slice ra3 rn3 rc3,.slice la3 ln3 lc3] 28)):=(Yg _ _).alloc (Zd _) _
   have hs:=Aa hg hW
   replace E:=E.below hs
   replace hM:=hM.below hs
   replace hC:=Aa hC hs
   clear hW hg hs
   go_upto_region 11 with fail
   generalize hy.alloc (.cells #[.int .i64 x.size,.int .i64 x.next,.slice ea3 en3 ec3,.slice va3 vn3 vc3,.slice ra3 rn3 rc3,.slice la3 ln3 lc3] 28)=w15 at *
   cases fi with
   |false=>
    go_wp2
    go_returns
    exact⟨rfl,hC⟩
   |true=>
    obtain⟨y0,y1,y2,y3,y4,y5⟩:=six6T E
    have h0:rsO t=some (nn,x):=by
     have h1:=hu.out
     have h2:=hx.out
     have h3:=hw.out
     cases h4:rsO t with
     |none=>rw[h4] at h1;cases h1
     |some z=>rw[h4] at h2 h3;rw[<-h2,<-h3];rfl
    obtain⟨h1,h2⟩:=rs_back h0
    have q1:=Gk 1 _ x nn w15 hM h2 (fun hp=>F1 hp) (hG.below hC).tab (hG.below hC).sz
    rw[h1] at q1
    clear h0 h1 h2 hu hx hw
    go_wp2_with fail
    refine q1.mono ?_
    rintro e hN ⟨rfl,hz⟩
    go_wp2
    go_returns
    exact⟨rfl,Aa hC hz⟩
 ·have hb:decide (1048576<n)=true:=by simp;omega
  go_enter func3,ntmps3
  go_wp2_with fail
  refine (MK a n cap _ hm).mono ?_
  rintro e w1 ⟨rfl,rfl⟩
  rw[hb]
  go_wp2
  go_returns
  exact⟨rfl,Yg _ _⟩
end
end Go.Proofs.YtkiceokhlceciaaGreatDoor
