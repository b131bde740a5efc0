/- Texts of pools, read and written; what is drawn. -/
import Derived.Test.YteejlahappbalaaGreatDoorU35
import Derived.Test.YteejlahappbalaaGreatDoorU42
set_option maxHeartbeats 20000000
set_option maxRecDepth 100000
namespace Go.Proofs.YteejlahappbalaaGreatDoor
open Go Go.RowKit Go.BigFrame Tryz
theorem HF (B:Nat)(v:Value)(s:Sr)(w:World)(h:Rd w B)(hs:StF (B+1) w v s)(hd:Fp s) :
  Calls prog 32 #[.pointer (some ⟨B,0,none⟩),v] w fun e w'=>(∃ k o pw ka kn kc keep t,e=.returned (.agg (Gi k o pw ka kn kc t))∧EM o∧Hi w' ka kn keep∧kn<=4194304)∧Rd w' B∧w.grownBy w' (some B):=by
 have hA:=hs;obtain⟨la,ln,lc,sa,sn,sc,oa,on,oc,ea,en,ec,va,vn,vc,ra,rn,rc,ta,tn,tc,rfl,hD,hP⟩:=hs;have ha:=h.lt;go_enter func32,ntmps32;go_wp2_with fail;obtain⟨W,hW⟩:∃ W,W=(w.alloc (.cells #[.slice la ln lc,.slice sa sn sc,.slice oa on oc,.int .i64 s.p.size,.int .i64 s.p.next,.slice ea en ec,.slice va vn vc,.slice ra rn rc,.slice ta tn tc,.int .i64 s.m] 45)).alloc (.cells #[.int .i64 0,.int .i64 0,.string ⟨#[]⟩,.string ⟨#[]⟩,.string ⟨#[]⟩,.string ⟨#[]⟩,.int .i64 0,.int .i64 0,.int .i64 0,.string ⟨#[]⟩,.int .i64 0,.slice none 0 0,.int .i64 0] 83):=⟨_,rfl⟩;have C:Blk W w.heap.size #[.slice la ln lc,.slice sa sn sc,.slice oa on oc,.int .i64 s.p.size,.int .i64 s.p.next,.slice ea en ec,.slice va vn vc,.slice ra rn rc,.slice ta tn tc,.int .i64 s.m] 45:=oQ;have D:Blk W (w.heap.size+1) #[.int .i64 0,.int .i64 0,.string ⟨#[]⟩,.string ⟨#[]⟩,.string ⟨#[]⟩,.string ⟨#[]⟩,.int .i64 0,.int .i64 0,.int .i64 0,.string ⟨#[]⟩,.int .i64 0,.slice none 0 0,.int .i64 0] 83:=by rw[hW];exact Blk.new' _ _ _ _ sK
 have hB:Below w.heap.size w W:=rW;rw[<-hW];clear hW;refine (To B W (h.below hB)).mono ?_;rintro e w1 ⟨⟨o,rfl,ho⟩,hR,hG⟩;replace C:=C.grown hG sH;replace D:=D.grown hG sH;replace hG:=aV_ (au_ (AN w B) hB) hG;clear hB;have hV:=D.lt;go_upto_region 2 with fail;obtain⟨W1,hu⟩:∃ W1,W1=w1.alloc (.cells (Gi 1 o (-1) none 0 0 0) 83):=⟨_,rfl⟩;have hm:Below w1.heap.size w1 W1:=by rw[hu];go_grown
 have A:=Blk.new w1 (Gi 1 o (-1) none 0 0 0) 83;rw[<-hu] at A ⊢;replace C:=C.below hm;replace D:=D.below hm;replace hR:=hR.below hm;replace hG:=au_ hG hm;clear hu hm;have H:AcR w B w1.heap.size 0 #[.slice la ln lc,.slice sa sn sc,.slice oa on oc,.int .i64 s.p.size,.int .i64 s.p.next,.slice ea en ec,.slice va vn vc,.slice ra rn rc,.slice ta tn tc,.int .i64 s.m] #[.int .i64 0,.int .i64 0,.string ⟨#[]⟩,.string ⟨#[]⟩,.string ⟨#[]⟩,.string ⟨#[]⟩,.int .i64 0,.int .i64 0,.int .i64 0,.string ⟨#[]⟩,.int .i64 0,.slice none 0 0,.int .i64 0] W1:=⟨⟨1,o,-1,none,0,0,[],0,A,ho,aB_,sH⟩,C,D,hR,hG,sH⟩;clear A C D hR hG;go_wp2_with fail;refine (Co B 8 W1 H.2.2.2.1 sH).mono ?_;rintro e w2 ⟨⟨x,rfl,hx⟩,hh,he⟩;replace H:=H.mv hh he ha;clear hh he;go_upto_block 0 with fail;go_cut [] (fun wc=>AcR w B w1.heap.size 0 #[.slice la ln lc,.slice sa sn sc,.slice oa on oc,.int .i64 s.p.size,.int .i64 s.p.next,.slice ea en ec,.slice va vn vc,.slice ra rn rc,.slice ta tn tc,.int .i64 s.m] #[.int .i64 0,.int .i64 0,.string ⟨#[]⟩,.string ⟨#[]⟩,.string ⟨#[]⟩,.string ⟨#[]⟩,.int .i64 0,.int .i64 0,.int .i64 0,.string ⟨#[]⟩,.int .i64 0,.slice none 0 0,.int .i64 0] wc)
 case first=>
  obtain⟨⟨k,o2,pw,ka,kn,kc,keep,t,A,hr,K,hk⟩,-,-,-,-,hv⟩:=id H;have A':=k13 A;rcases (show x=0∨x=1∨x=2∨(¬ x=0∧¬ x=1∧¬ x=2) by omega) with rfl | rfl | rfl | ⟨n0,n1,n2⟩
  rotate_left 2
  ·go_wp2;go_meet;obtain⟨U,hU,A2,hg⟩:=NQ A 3 opZ 0 none 0 0 0;rw[<-hU];exact H.put hg ha A2 KM aB_ (Zd 0)
  ·go_wp2;go_meet;exact H
  all_goals
   go_upto_region 6 with fail;obtain⟨U,hU,A2,hg⟩:=NQ A 2 opZ (-1) none 0 0 0;rw[<-hU];replace H:=H.put hg ha A2 KM aB_ (Zd 0);clear hU hg A2 A A' K;go_wp2_with fail;refine (C9 B 2 U H.2.2.2.1 sH sH).mono ?_;rintro e w3 ⟨⟨b,rfl⟩,hI,hC⟩;replace H:=H.mv hI hC ha
   cases b
   ·go_wp2;go_meet;exact H
   ·go_wp2_with fail;refine (Co B 4 w3 H.2.2.2.1 sH).mono ?_;rintro e w4 ⟨⟨y,rfl,hy⟩,hl,hf⟩;replace H:=H.mv hl hf ha;obtain⟨⟨k2,o3,pw2,ka2,kn2,kc2,keep2,t2,A2,hb,K2,hq⟩,-,-,-,-,hc⟩:=id H;have A':=k13 A2;go_wp2;go_meet;have hg:=CE w4 w1.heap.size 10 (.int .i64 y);exact H.put hg ha (by have:=A2.set 10 (.int .i64 y);simpa using this) hb (K2.offB hg sH) hq
 case rest=>
  have H:=hcut;clear hcut;obtain⟨-,C,-,hR,hG,-⟩:=id H;have c:=(Dd C).1;go_wp2_with fail;refine (DN (B+1) _ s.p wc (hP.off hG sH) hd.2).mono ?_;rintro e w3 ⟨rfl,ht⟩;replace H:=H.mv (hR.below ht) (au_ (AN wc B) ht) ha;clear hR hG C c ht;generalize Fs s.p=bb at *
  cases bb
  focus
   go_upto_region 12 with fail
  rotate_left
  focus
   go_wp2_with fail
   refine (C9 B 8 w3 H.2.2.2.1 sH sH).mono ?_
   rintro e w4 ⟨⟨b,rfl⟩,hl,hf⟩
   replace H:=H.mv hl hf ha
   clear hl hf
   cases b
   focus
    obtain⟨⟨k,o2,pw,ka,kn,kc,keep,t,A,hr,K,hk⟩,-,-,-,-,hv⟩:=id H
    have A':=k13 A
    go_upto_region 12 with fail
    obtain⟨U,hU,A2,hg⟩:=NQ A 3 opZ 0 none 0 0 0
    rw[<-hU]
    replace H:=H.put hg ha A2 KM aB_ (Zd 0)
    clear hU hg A A' A2 K hr hk
   rotate_left
   focus
    go_upto_region 12 with fail
  all_goals
   obtain⟨⟨k,o2,pw,ka,kn,kc,keep,t,A,hr,K,hk⟩,C,D,hR,hG,hv⟩:=id H;have A':=k13 A;have hY:on<=4000000:=by
    obtain⟨_,_,_,_,_,_,_,_,_,hQ,-,-,hO⟩:=id hD
    cases hQ;rw[<-hO.sl.len];exact hd.1.ops.1
   go_upto_if 35 with fail;go_cut [] (fun wc=>AcR w B w1.heap.size 4000000 #[.slice la ln lc,.slice sa sn sc,.slice oa on oc,.int .i64 s.p.size,.int .i64 s.p.next,.slice ea en ec,.slice va vn vc,.slice ra rn rc,.slice ta tn tc,.int .i64 s.m] #[.int .i64 0,.int .i64 0,.string ⟨#[]⟩,.string ⟨#[]⟩,.string ⟨#[]⟩,.string ⟨#[]⟩,.int .i64 0,.int .i64 0,.int .i64 0,.string ⟨#[]⟩,.int .i64 0,.slice none 0 0,.int .i64 0] wc)
   case first=>
    by_cases hw:k=3
    ·subst hw;clear A A' C D K hR hG;go_wp2_with fail;go_loopw [6] (fun iv wr=>∃ j:Nat,iv=.int .i64 j∧j<=on∧AcR w B w1.heap.size j #[.slice la ln lc,.slice sa sn sc,.slice oa on oc,.int .i64 s.p.size,.int .i64 s.p.next,.slice ea en ec,.slice va vn vc,.slice ra rn rc,.slice ta tn tc,.int .i64 s.m] #[.int .i64 0,.int .i64 0,.string ⟨#[]⟩,.string ⟨#[]⟩,.string ⟨#[]⟩,.string ⟨#[]⟩,.int .i64 0,.int .i64 0,.int .i64 0,.string ⟨#[]⟩,.int .i64 0,.slice none 0 0,.int .i64 0] wr) (fun iv _=>on-(intOf iv).toNat)
     case atStart=>exact⟨0,rfl,Zg _,H⟩
     case round=>
      clear H;obtain⟨j,rfl,hj,H⟩:=hrel;obtain⟨⟨k,o2,pw,ka,kn,kc,keep,t,A,hr,K,hk⟩,C,D,hR,hG,hv⟩:=id H;have c:=(Dd C).1;by_cases hlj:j<on
      ·have hS:(j:Int)<on:=sH;have hT:(0:Int)<=j:=sH;go_wp2_with fail;refine (C9 B 2 wr hR sH sH).mono ?_;rintro e w5 ⟨⟨b,rfl⟩,hJ,hE⟩;clear c;replace H:=H.mv hJ hE ha;clear A C D hR hG;obtain⟨⟨k,o3,pw3,ka3,kn3,kc3,keep3,t3,A,hb,K3,hw⟩,C,D,hR,hG,-⟩:=id H;have A':=k13 A
       cases b
       ·go_wp2;go_roundw
        case rel=>
         refine ⟨_,_,_,_,_,_,_,_,_,_,_,_,_,_,_,_,_,?_,rfl⟩;exact⟨j+1,sQ,sH,H.le sH⟩
        case measure=>simp[intOf];omega
       ·have hn:Below w5.heap.size w5 (w5.alloc (.cells #[.int .i64 (j:Int)] 2)):=sM;have hX:=A.lt;go_wp2_with (at_builtin;refine ag_ rfl (fun K hK=>Rz _ _ rfl (w1.heap.size+1) ka3 kn3 kc3 keep3 rfl (K3.below hn) w5.heap.size (j:Int) rfl (Blk.new w5 _ _) sH (by have:=hn.size;omega) (fun a6 c6 w6 R6 hz=>hK _ _ ?_));refine KR.out ?_);refine KR.mk ?_;have A6:=k13 ((A.below hn).grownO hz (at_ (fun ad e=>(K3.block ad e).1) (ZB _)));replace H:=H.app hn hz (aG_ fun ad e=>(K3.block ad e).1) ha A hb R6 (Nat.succ_le_succ hw);go_wp2;go_roundw
        case rel=>
         refine ⟨_,_,_,_,_,_,_,_,_,_,_,_,_,_,_,_,_,?_,rfl⟩;exact⟨j+1,sQ,sH,H⟩
        case measure=>simp[intOf];omega
      ·obtain rfl:j=on:=sH;go_wp2_with fail;refine (Co B 200 wr H.2.2.2.1 sH).mono ?_;rintro e w4 ⟨⟨y,rfl,hy⟩,hl,hf⟩;replace H:=H.mv hl hf ha;clear A C D;obtain⟨⟨k2,o3,pw2,ka2,kn2,kc2,keep2,t2,A2,hb,K2,hq⟩,-,-,-,-,hc⟩:=id H;have A':=k13 A2;go_wp2;go_meet;have hg:=CE w4 w1.heap.size 12 (.int .i64 y);exact H.put hg ha (by have:=A2.set 12 (.int .i64 y);simpa using this) hb (K2.offB hg sH) sH
    ·go_wp2;go_meet;exact H.le sH
   case rest=>
    have H:=hcut;clear hcut A A' C D K hR hG;go_wp2_with fail;refine (C9 B 40 wc H.2.2.2.1 sH sH).mono ?_;rintro e w6 ⟨⟨b6,rfl⟩,hL,hF⟩;replace H:=H.mv hL hF ha
    cases b6
    ·obtain⟨⟨k2,o3,pw2,ka2,kn2,kc2,keep2,t2,A2,hb,K2,hq⟩,C2,D2,hh,he,hc⟩:=id H;have A':=k13 A2;have D':=k13 (k:=0) (o:=opZ) (pw:=0) (ka:=none) (kn:=0) (kc:=0) (t:=0) D2;go_wp2;exact Pq D2 hb K2 sH sH hh he ha rfl rfl
    ·go_wp2_with fail;refine (I0 B 1 3 w6 H.2.2.2.1 sH sH sH).mono ?_;rintro e w7 ⟨⟨v7,rfl,hZ,hN⟩,hM,hH⟩;replace H:=H.mv hM hH ha;obtain⟨⟨k2,o3,pw2,ka2,kn2,kc2,keep2,t2,A2,hb,K2,hq⟩,C2,D2,hh,he,hc⟩:=id H;have A':=k13 A2;have D':=k13 (k:=0) (o:=opZ) (pw:=0) (ka:=none) (kn:=0) (kc:=0) (t:=0) D2;go_wp2;have hp:=CE w7 w1.heap.size 0 (.int .i64 v7);exact Pq (D2.grown hp sH) hb (K2.offB hp sH) sH sH (hh.grown hp sH) (BE he hp (fun k e=>by cases e;omega)) ha rfl rfl
end Go.Proofs.YteejlahappbalaaGreatDoor
