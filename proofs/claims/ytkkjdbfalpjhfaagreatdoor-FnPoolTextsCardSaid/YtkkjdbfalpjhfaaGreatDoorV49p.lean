/- What is drawn for the law over texts of pools. -/
import Derived.Test.YtkkjdbfalpjhfaaGreatDoorU20
import Derived.Test.YtkkjdbfalpjhfaaGreatDoorU24
import Derived.Test.YtkkjdbfalpjhfaaGreatDoorU42
import Derived.Test.YtkkjdbfalpjhfaaGreatDoorU45
import Derived.Test.YtkkjdbfalpjhfaaGreatDoorU47
import Derived.Test.YtkkjdbfalpjhfaaGreatDoorU48
set_option maxHeartbeats 20000000
set_option maxRecDepth 100000
namespace Go.Proofs.YtkkjdbfalpjhfaaGreatDoor
open Go Go.RowKit Go.BigFrame _root_.Go.Proofs.Tryz
theorem six6T {w:World}{b:Nat}{c0 c1 c2 c3 c4 c5:Value}{t:TypeId}(h:Blk w b #[c0,c1,c2,c3,c4,c5] t):w.cell? ⟨b,0,none⟩=some c0∧w.cell? ⟨b,1,none⟩=some c1∧w.cell? ⟨b,2,none⟩=some c2∧w.cell? ⟨b,3,none⟩=some c3∧w.cell? ⟨b,4,none⟩=some c4∧w.cell? ⟨b,5,none⟩=some c5:=⟨h.cell 0,h.cell 1,h.cell 2,h.cell 3,h.cell 4,h.cell 5⟩
theorem spec_DrawPoolText (a:Option Addr)(n cap:Nat)(w:World)(h:Ds w a n)(hn:n<=1048576) :
  Calls prog 5 #[.slice a n cap] w fun e w'=>(∃ v p,e=.returned v∧Af (w.heap.size+1) w' v p∧I8 p)∧Below w.heap.size w w':=by
 go_enter func5,ntmps5
 go_wp2_with fail
 have hc:Below w.heap.size w (w.alloc (.cells #[.int .i64 0,.int .i64 0,.slice none 0 0,.slice none 0 0,.slice none 0 0,.slice none 0 0] 28)):=by go_grown
 have D0:=Blk.new w #[.int .i64 0,.int .i64 0,.slice none 0 0,.slice none 0 0,.slice none 0 0,.slice none 0 0] 28
 have hj:(w.alloc (.cells #[.int .i64 0,.int .i64 0,.slice none 0 0,.slice none 0 0,.slice none 0 0,.slice none 0 0] 28)).heap.size=w.heap.size+1:=by simp
 have h0:=h.below hc
 generalize w.alloc (.cells #[.int .i64 0,.int .i64 0,.slice none 0 0,.slice none 0 0,.slice none 0 0,.slice none 0 0] 28)=w0 at *
 refine (Lt a n cap w0 h0 hn).mono ?_
 rintro e w1 ⟨rfl,ha,he⟩
 rw[hj] at ha ⊢
 have D1:=D0.below he
 have hf:=Aa hc he
 have hp:=ha.lt
 clear D0 he hc h0 hj w0
 go_wp2_with fail
 refine (LT (w.heap.size+1) 12 (by omega) (by omega) _ ha).mono ?_
 rintro e w2 ⟨⟨v,p,rfl,PT,hd⟩,ho,hb⟩
 have hk:=PT.mono (show w.heap.size+2<=w1.heap.size by omega)
 obtain⟨ea,en,ec,va,vn,vc,ra,rn,rc,la,ln,lc,rows,rfl,_⟩:=PT
 have D2:=D1.grown hb (by omega)
 have hl:=ao_ hf hb (by omega)
 have hq:=hb.size
 clear D1 hf hb ha
 obtain⟨x0,x1,x2,x3,x4,x5⟩:=D2.six'
 have f0:=D2.frozen 0
 have f1:=D2.frozen 1
 have f2:=D2.frozen 2
 have f3:=D2.frozen 3
 have f4:=D2.frozen 4
 have f5:=D2.frozen 5
 go_wp2
 obtain⟨W8,hg,W0,hh⟩:=A6 D2 (.int .i64 p.size) (.int .i64 p.next) (.slice ea en ec) (.slice va vn vc) (.slice ra rn rc) (.slice la ln lc)
 have PF:=(hk.tyP hh (aa_ D2)).mono (show w.heap.size+1<=w.heap.size+2 by omega)
 have hm:=ao_ hl hh (Zd _)
 rw[<-hg]
 clear hg
 refine YW (results_cell_row rfl _ W8 w.heap.size _ _ _ _ rfl W0 underlying28 rfl (by kernel_rfl)) rfl ?_
 exact⟨⟨_,p,rfl,PF,hd⟩,hm⟩
theorem spec_hurt (B:Nat)(s:ByteArray)(w:World)(h:Rd w B)(hs:s.size<=65000) :
  Calls prog 32 #[.pointer (some ⟨B,0,none⟩),.string s] w fun e w'=>(∃ t:ByteArray,e=.returned (.string t)∧t.size<=65002)∧Rd w' B∧w.grownBy w' (some B):=by
 have hI:=h.lt
 go_enter func32,ntmps32
 go_wp2_with fail
 refine (Au B 6 w h (by omega) (by omega)).mono ?_
 rintro e w1 ⟨⟨x,rfl,hx⟩,R1,he⟩
 by_cases h1:x=1
 ·subst h1
  go_wp2_with fail
  refine (Au B (s.size+1) w1 R1 (by omega) (by omega)).mono ?_
  rintro e w2 ⟨⟨y,rfl,hy⟩,R2,ha⟩
  have hw:(y:Int)<=s.size:=by omega
  have hv:(0:Int)<=y:=by omega
  have hz:(s.extract 0 y).size<=65002:=by rw[ByteArray.size_extract];omega
  go_wp2
  go_returns
  exact⟨⟨_,rfl,hz⟩,R2,aV_ he ha⟩
 ·by_cases h2:x=2
  ·subst h2
   by_cases h0:0<s.size
   ·have hr:(0:Int)<s.size:=by omega
    go_wp2_with fail
    refine (Au B s.size w1 R1 (by omega) (by omega)).mono ?_
    rintro e w2 ⟨⟨y,rfl,hy⟩,R2,ha⟩
    have hC:=R2.lt
    have hv:(0:Int)<=y:=by omega
    have hw:(y:Int)<s.size:=hy
    have hM:(y:Int)<=s.size:=by omega
    have hN:(y:Int)+1<=s.size:=by omega
    have hO:(0:Int)<=(y:Int)+1:=by omega
    have hL:IntKind.i64.wrap ((y:Int)+1)=(y:Int)+1:=by rw[Ys];omega
    have hJ:((y:Int)+1).toNat=y+1:=by omega
    go_wp2_with fail
    refine aC_ (S:=fun _=>True) 15 (by kernel_rfl) rfl ?_
    have hD:Below w2.heap.size w2 w2.drew:=(Yg _ _).drew
    have RD:=R2.below hD
    have ho:=au_ (aV_ he ha) hD
    have hE:=RD.lt
    generalize w2.drew=u0 at *
    clear hD
    refine tk 0 ?_
    refine tk 1 ?_
    refine tk 2 ?_
    refine tk 4 ?_
    refine tk 9 ?_
    refine tk 10 ?_
    refine tk 11 ?_
    refine tk 12 ?_
    obtain⟨X,hX⟩:∃ X,Hid (s.extract 0 y=X):=⟨_,rfl⟩
    obtain⟨Z,hZ⟩:∃ Z,Hid (s.extract (y+1) s.size=Z):=⟨_,rfl⟩
    have hH:X.size<=32500+32500:=by rw[<-hX.out,ByteArray.size_extract];omega
    have hF:X.size+Z.size+1<=65001:=by rw[<-hX.out,<-hZ.out,ByteArray.size_extract,ByteArray.size_extract];omega
    rw[hX.out,hZ.out]
    clear hX hZ
    refine Mp (i:=3) (j:=5) (by kernel_rfl) rfl rfl (fun K hK=>?_) (fun K hK=>?_)
    ·go_simp
     obtain⟨lb,hb⟩:∃ b,b=u0.heap.size:=⟨_,rfl⟩
     obtain⟨u1,hl⟩:∃ u,u=u0.alloc (.cells #[.string ⟨#[48]⟩,.string ⟨#[49]⟩,.string ⟨#[32]⟩,.string ⟨#[10]⟩,.string ⟨#[45]⟩,.string ⟨#[58]⟩] 9):=⟨_,rfl⟩
     have hA:Below u0.heap.size u0 u1:=by rw[hl];exact (Yg _ _).alloc (Zd _) _
     have L:Blk u1 lb #[.string ⟨#[48]⟩,.string ⟨#[49]⟩,.string ⟨#[32]⟩,.string ⟨#[10]⟩,.string ⟨#[45]⟩,.string ⟨#[58]⟩] 9:=by rw[hl];exact Blk.new' _ _ _ _ hb
     rw[<-hl,<-hb]
     have hu:lb≠B:=by omega
     clear hl hb
     refine hK.out _ _ trivial (fun hHeld=>?_)
     clear hK K
     try simp only[Act.put,Yj,Yq,Yr]
     refine Aq (i:=5) (by kernel_rfl) rfl (fun K hK=>?_)
     go_simp
     refine (Au B 6 u1 (RD.below hA) (by omega) (by omega)).mono ?_
     rintro e u2 ⟨⟨z,rfl,hz⟩,R3,hk⟩
     have L2:=L.grown hk hu
     have hG:=aV_ (au_ ho hA) hk
     dsimp only
     refine hK.out _ _ trivial (fun hHeld=>?_)
     clear hK K
     try simp only[Act.put,Yj,Yq,Yr]
     have hp:(0:Int)<=z:=by omega
     have hq:(z:Int)<6:=by omega
     obtain⟨t,ht,hc⟩:∃ t:ByteArray,t.size<=1∧u2.cell? ⟨lb,z,none⟩=some (.string t):=by
      have:z=0∨z=1∨z=2∨z=3∨z=4∨z=5:=by omega
      have hn:=L2.cell z
      rcases this with rfl | rfl | rfl | rfl | rfl | rfl<;>exact⟨_,Zd _,hn⟩
     have hf:¬ 9223372036854775807<X.size+t.size:=by omega
     have hg:¬ 9223372036854775807<(X++t).size+Z.size:=by rw[ByteArray.size_append];omega
     have hh:¬ 9223372036854775807<X.size+t.size+Z.size:=by omega
     have hj:(X++t++Z).size<=65002:=by rw[ByteArray.size_append,ByteArray.size_append];omega
     refine tk 6 ?_
     refine Aq (i:=7) (by kernel_rfl) rfl (fun K hK=>?_)
     go_simp
     refine hK.out _ _ trivial (fun hHeld=>?_)
     clear hK K
     try simp only[Act.put,Yj,Yq,Yr]
     refine tk 8 ?_
     refine tk 13 ?_
     refine tk 14 ?_
     refine wpAnyH_done (by kernel_rfl) ?_ _
     go_wp2
     go_returns
     exact⟨⟨_,rfl,hj⟩,R3,hG⟩
    ·go_simp
     refine (Au B 6 u0 RD (by omega) (by omega)).mono ?_
     rintro e u1 ⟨⟨z,rfl,hz⟩,R3,hk⟩
     dsimp only
     refine hK.out _ _ trivial (fun hHeld=>?_)
     clear hK K
     try simp only[Act.put,Yj,Yq,Yr]
     refine Aq (i:=3) (by kernel_rfl) rfl (fun K hK=>?_)
     go_simp
     obtain⟨lb,hb⟩:∃ b,b=u1.heap.size:=⟨_,rfl⟩
     obtain⟨u2,hm⟩:∃ u,u=u1.alloc (.cells #[.string ⟨#[48]⟩,.string ⟨#[49]⟩,.string ⟨#[32]⟩,.string ⟨#[10]⟩,.string ⟨#[45]⟩,.string ⟨#[58]⟩] 9):=⟨_,rfl⟩
     have hA:Below u1.heap.size u1 u2:=by rw[hm];exact (Yg _ _).alloc (Zd _) _
     have L:Blk u2 lb #[.string ⟨#[48]⟩,.string ⟨#[49]⟩,.string ⟨#[32]⟩,.string ⟨#[10]⟩,.string ⟨#[45]⟩,.string ⟨#[58]⟩] 9:=by rw[hm];exact Blk.new' _ _ _ _ hb
     rw[<-hm,<-hb]
     have R4:=R3.below hA
     have hG:=au_ (aV_ ho hk) hA
     clear hm hb
     refine hK.out _ _ trivial (fun hHeld=>?_)
     clear hK K
     try simp only[Act.put,Yj,Yq,Yr]
     have hp:(0:Int)<=z:=by omega
     have hq:(z:Int)<6:=by omega
     obtain⟨t,ht,hc⟩:∃ t:ByteArray,t.size<=1∧u2.cell? ⟨lb,z,none⟩=some (.string t):=by
      have:z=0∨z=1∨z=2∨z=3∨z=4∨z=5:=by omega
      have hn:=L.cell z
      rcases this with rfl | rfl | rfl | rfl | rfl | rfl<;>exact⟨_,Zd _,hn⟩
     have hf:¬ 9223372036854775807<X.size+t.size:=by omega
     have hg:¬ 9223372036854775807<(X++t).size+Z.size:=by rw[ByteArray.size_append];omega
     have hh:¬ 9223372036854775807<X.size+t.size+Z.size:=by omega
     have hj:(X++t++Z).size<=65002:=by rw[ByteArray.size_append,ByteArray.size_append];omega
     refine tk 6 ?_
     refine Aq (i:=7) (by kernel_rfl) rfl (fun K hK=>?_)
     go_simp
     refine hK.out _ _ trivial (fun hHeld=>?_)
     clear hK K
     try simp only[Act.put,Yj,Yq,Yr]
     refine tk 8 ?_
     refine tk 13 ?_
     refine tk 14 ?_
     refine wpAnyH_done (by kernel_rfl) ?_ _
     go_wp2
     go_returns
     exact⟨⟨_,rfl,hj⟩,R4,hG⟩
   ·have hr:¬ (0:Int)<s.size:=by omega
    go_wp2
    go_returns
    exact⟨⟨_,rfl,by omega⟩,R1,he⟩
  ·by_cases h3:x=3
   ·subst h3
    go_wp2_with fail
    have hB:=R1.lt
    have hA:Below w1.heap.size w1 (w1.alloc (.cells #[.string ⟨#[32]⟩,.string ⟨#[10]⟩,.string ⟨#[48]⟩] 9)):=(Yg _ _).alloc (Zd _) _
    have L:=Blk.new w1 #[.string ⟨#[32]⟩,.string ⟨#[10]⟩,.string ⟨#[48]⟩] 9
    refine (Au B 3 _ (R1.below hA) (by omega) (by omega)).mono ?_
    rintro e w2 ⟨⟨y,rfl,hy⟩,R2,ha⟩
    have L2:=L.grown ha (by omega)
    have hG:=aV_ (au_ he hA) ha
    have c0:=L2.cell 0
    have c1:=L2.cell 1
    have c2:=L2.cell 2
    simp only[Yp,Yo,Yt] at c0 c1 c2
    have hp:(0:Int)<=y:=by omega
    have hq:(y:Int)<3:=by omega
    obtain⟨t,ht,hc⟩:∃ t:ByteArray,t.size=1∧w2.cell? ⟨w1.heap.size,y,none⟩=some (.string t):=by
     have:y=0∨y=1∨y=2:=by omega
     rcases this with rfl | rfl | rfl
     ·exact⟨_,rfl,c0⟩
     ·exact⟨_,rfl,c1⟩
     ·exact⟨_,rfl,c2⟩
    have hf:¬ 9223372036854775807<s.size+t.size:=by omega
    have hj:(s++t).size<=65002:=by rw[ByteArray.size_append];omega
    clear c0 c1 c2 hA ha R1 he L
    go_wp2
    go_returns
    exact⟨⟨_,rfl,hj⟩,R2,hG⟩
   ·have e1:¬ (x:Int)=1:=by omega
    have e2:¬ (x:Int)=2:=by omega
    have e3:¬ (x:Int)=3:=by omega
    have d1:((x:Int)==1)=false:=ZV.2 e1
    have d2:((x:Int)==2)=false:=ZV.2 e2
    have d3:((x:Int)==3)=false:=ZV.2 e3
    go_wp2
    go_returns
    exact⟨⟨_,rfl,by omega⟩,R1,he⟩
theorem text_size {p:Po}:(BW p).size<=60000:=by
 unfold BW
 split
 ·next h=>exact (Ke h).2
 ·exact Zg _
theorem spec_DrawReadPool (a:Option Addr)(n cap:Nat)(w:World)(h:Ds w a n)(hn:n<=1048576) :
  Calls prog 11 #[.slice a n cap] w fun e w'=>(∃ t:ByteArray,e=.returned (.string t)∧t.size<=65002)∧Below w.heap.size w w':=by
 go_enter func11,ntmps11
 go_wp2_with fail
 refine (Lt a n cap w h hn).mono ?_
 rintro e w1 ⟨rfl,ha,hb⟩
 have hl:=ha.lt
 go_wp2_with fail
 refine (LT w.heap.size 10 (by omega) (by omega) _ ha).mono ?_
 rintro e w2 ⟨⟨v,p,rfl,PT,hd⟩,hj,he⟩
 have hA:=(PT.mono (show 1<=w1.heap.size by omega)).at'
 have hf:=ao_ hb he (Zd _)
 clear PT he hb ha
 go_wp2_with fail
 refine (Et 1 (by omega) _ p w2 hA hd.1 (fun hp=>Ix hp)).mono ?_
 rintro e w3 ⟨rfl,hc⟩
 have hg:=Aa hf hc
 go_wp2_with fail
 refine (spec_hurt w.heap.size (BW p) w3 (hj.below hc) (Zl text_size (by decide))).mono ?_
 rintro e w4 ⟨⟨t,rfl,ht⟩,_,hk⟩
 have hh:=ao_ hg hk (Zd _)
 go_wp2
 go_returns
 exact⟨⟨t,rfl,ht⟩,hh⟩
end Go.Proofs.YtkkjdbfalpjhfaaGreatDoor
