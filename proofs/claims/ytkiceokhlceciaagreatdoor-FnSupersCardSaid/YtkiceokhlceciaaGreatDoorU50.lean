/- Texts of pools, read and written; what is drawn. -/
import Derived.Test.YtkiceokhlceciaaGreatDoorU45
import Derived.Test.YtkiceokhlceciaaGreatDoorU49
import Derived.Stop.Asserts
import Derived.Lib.ItoaNum
import Derived.Lib.Atoi
import Derived.Lib.AtoiTie
import Derived.Lib.ParseIntBTie
import Derived.Lib.Strings
import Derived.Shelf.Strings.BuilderK
import Derived.Shelf.Strings.OnBuilder
import Derived.Lib.AppendIntMem
import Derived.Shelf.Strconv.Itoa4
import Derived.Shelf.Strconv.ErrVarParseInt
import Derived.Shelf.Strings.Prefix
import Derived.Lib.Split
import Derived.Shelf.Strings.SplitShaped
import Derived.Defers
import Derived.Recover
import Derived.Laws.Closers25b
import Derived.Laws.BitsLemmas
import Derived.Shelf.Strings.Cut
import Derived.Test.YtkiceokhlceciaaGreatDoorU26
set_option maxHeartbeats 20000000
set_option maxRecDepth 100000
namespace Go.Proofs.YtkiceokhlceciaaGreatDoor
section
open Go Go.RowKit Go.BigFrame Tryz
theorem K6 (s:ByteArray)(w:World)(hs:s.size<=2000000)(hw0:0<w.heap.size) :
  Calls prog 11 #[.string s] w fun e w'=>(∃ v,e=.returned (.tuple #[.int .i64 ((rsO s).elim 0 (·.1)),v,.bool (rsO s).isSome])∧AE w.heap.size w' v ((rsO s).elim Ar (·.2)))∧Below w.heap.size w w':=by
 obtain⟨A,hA⟩:∃ A,Hid (rsO s=A):=⟨_,rfl⟩
 rw[hA.out]
 have hc:Below w.heap.size w (w.alloc (.cells #[.int .i64 0,.int .i64 0,.slice none 0 0,.slice none 0 0,.slice none 0 0,.slice none 0 0] 28)):=(Yg _ _).alloc (Zd _) _
 have QB:=Blk.new w #[.int .i64 0,.int .i64 0,.slice none 0 0,.slice none 0 0,.slice none 0 0,.slice none 0 0] 28
 by_cases hb:8<=s.size∧s.size<=120000
 ·obtain⟨hB,hG⟩:=hb
  obtain⟨M,hM⟩:∃ M,Hid (bA (Ee s.data.toList)=M):=⟨_,rfl⟩
  have hL:M.size<=120000:=by rw[<-hM.out,Cz];have:=DC s.data.toList;rw[<-Lib.size_eq] at this;omega
  obtain⟨Lb,ht⟩:∃ L,Hid (bA (hdB (Ee s.data.toList))=L):=⟨_,rfl⟩
  obtain⟨Tb,hv⟩:∃ L,Hid (bA (tlB (Ee s.data.toList))=L):=⟨_,rfl⟩
  have ho:Hid (A=(numP Lb.data.toList).bind fun n=>(CM Tb.data.toList).bind fun p=>if Cw n p=s then some (n,p) else none):=by
   show _=_
   rw[<-hA.out,rsO,if_pos ⟨hB,hG⟩,<-ht.out,<-hv.out,Af,Af]
  have hR:∀ u:World,(Instr.slice 9 (.string s) (some (.int .i64 4)) (some (.int .i64 ((s.size:Int)-4))) none).run prog u=.ok (.string M) u:=fun u=>by
   rw[<-hM.out,<-Ji s hB]
   have:=run_slice_string (P:=prog) u 9 s .i64 .i64 4 ((s.size:Int)-4) underlying9 (by omega) (by omega) (by omega)
   rw[show ((s.size:Int)-4).toNat=s.size-4 by omega] at this
   exact this
  have hO:Tb.size<=120000:=by rw[<-hv.out,Cz];have:=JI (Ee s.data.toList);have h2:=DC s.data.toList;rw[<-Lib.size_eq] at h2;omega
  have hJ:Lb.size<=120000:=by rw[<-ht.out,Cz];have:=I9 (Ee s.data.toList);have h2:=DC s.data.toList;rw[<-Lib.size_eq] at h2;omega
  have qc:∀ u:World,True->Calls prog 30 #[.string M,.int .u8 10] u fun e w'=>(∃ b,e=.returned (.tuple #[.string Lb,.string Tb,.bool b]))∧Below u.heap.size u w':=fun u _=>by
   refine (Dg 10 M u (by omega)).mono ?_
   rintro e w' ⟨rfl,hb⟩
   refine ⟨?_,hb⟩
   have hE:M.data.toList=Ee s.data.toList:=by rw[<-hM.out,Af]
   rw[<-ht.out,<-hv.out,<-hE]
   unfold EP hdB tlB
   cases cutB 10 M.data.toList with
   |none=>exact⟨false,by rw[show bA M.data.toList=M from ByteArray.ext (Array.ext' (Af _))];rfl⟩
   |some q=>exact⟨true,rfl⟩
  have qn:∀ u:World,True->Calls prog 31 #[.string Lb] u fun e w'=>e=.returned (Dz (numP Lb.data.toList))∧Below u.heap.size u w':=fun u _=>(Cv Lb u (by omega)).mono fun e w' ⟨h1,h2⟩=>⟨h1,by rw[h2];exact Yg _ _⟩
  have qr:=fun (u:World) (hu:0<u.heap.size)=>GG Tb u (by omega) hu
  go_enter func11,ntmps11
  go_wp2_with fail
  generalize w.alloc (.cells #[.int .i64 0,.int .i64 0,.slice none 0 0,.slice none 0 0,.slice none 0 0,.slice none 0 0] 28)=W0 at *
  skip
  refine (qc W0 trivial).mono ?_
  rintro e w1 ⟨⟨bb,rfl⟩,hg⟩
  replace QB:=QB.below hg
  skip
  replace hc:=Aa hc hg
  clear hg qc
  go_wp2_with fail
  refine (qn w1 trivial).mono ?_
  rintro e w2 ⟨rfl,hh⟩
  replace QB:=QB.below hh
  skip
  replace hc:=Aa hc hh
  clear hh qn
  obtain⟨n,nb,hz,hC⟩:∃ n nb,Hid ((numP Lb.data.toList).isSome=nb∧(numP Lb.data.toList).getD 0=n)∧Dz (numP Lb.data.toList)=.tuple #[.int .i64 n,.bool nb]:=by
   cases numP Lb.data.toList with
   |none=>exact⟨0,false,⟨rfl,rfl⟩,rfl⟩
   |some n=>exact⟨n,true,⟨rfl,rfl⟩,rfl⟩
  rw[hC]
  clear hC
  obtain⟨ab,hm⟩:∃ ab,Hid ((CM Tb.data.toList).isSome=ab):=⟨_,rfl⟩
  obtain⟨p,hp⟩:∃ p,Hid ((CM Tb.data.toList).getD Ar=p):=⟨_,rfl⟩
  have hD:AJ p:=by rw[<-hp.out];exact (HV Tb.data.toList).small.dim
  rw[hm.out,hp.out] at qr
  go_wp2_with fail
  refine (qr w2 (by have:=hc.size;omega)).mono ?_
  rintro e w3 ⟨⟨v,rfl,M3⟩,hw⟩
  obtain⟨ea,en,ec,va,vn,vc,ra,rn,rc,la,ln,lc,vr,rfl,_⟩:=M3.out
  have hq:Below w3.heap.size w3 (w3.alloc (.cells #[.int .i64 p.size,.int .i64 p.next,.slice ea en ec,.slice va vn vc,.slice ra rn rc,.slice la ln lc] 28)):=(Yg _ _).alloc (Zd _) _
  obtain⟨b3,hf⟩:∃ b,b=w3.heap.size:=⟨_,rfl⟩
  have P3:Blk (w3.alloc (.cells #[.int .i64 p.size,.int .i64 p.next,.slice ea en ec,.slice va vn vc,.slice ra rn rc,.slice la ln lc] 28)) b3 #[.int .i64 p.size,.int .i64 p.next,.slice ea en ec,.slice va vn vc,.slice ra rn rc,.slice la ln lc] 28:=Blk.new' _ _ _ _ hf
  have hx:=Aa hw hq
  have hI:=hc.size
  have hP:=QB.lt
  have hQ:=hw.size
  replace QB:=QB.below hx
  skip
  replace M3:=(M3.below hq).mono hI
  replace hc:=Aa hc hx
  have hH:b3≠w.heap.size:=by rw[hf];omega
  clear hw hq hx qr
  obtain⟨x0,x1,x2,x3,x4,x5⟩:=P3.sixM
  go_upto_region 6 with fail
  rw[<-hf]
  clear hf
  generalize w3.alloc (.cells #[.int .i64 p.size,.int .i64 p.next,.slice ea en ec,.slice va vn vc,.slice ra rn rc,.slice la ln lc] 28)=W3 at *
  by_cases hok:nb=true∧ab=true
  ·obtain⟨rfl,rfl⟩:=hok
   have hj:Hid (A=if Cw n p=s then some (n,p) else none):=by
    show _=_
    obtain⟨h1,h2⟩:=hz.out
    have h3:=hm.out
    have h4:=hp.out
    rw[ho.out]
    cases hn:numP Lb.data.toList with
    |none=>rw[hn] at h1;cases h1
    |some n'=>
     rw[hn] at h2
     cases ha:CM Tb.data.toList with
     |none=>rw[ha] at h3;cases h3
     |some p'=>
      rw[ha] at h4
      obtain rfl:n'=n:=h2
      obtain rfl:p'=p:=h4
      rfl
   clear hz hm hp ho
   obtain⟨S,hS⟩:∃ S,Hid (Cw n p=S):=⟨_,rfl⟩
   have qs:=Gs w.heap.size hw0 _ p n W3 M3.at hD F1
   rw[hS.out] at qs hj
   go_wp2_with fail
   refine qs.mono ?_
   rintro e w4 ⟨rfl,hl⟩
   clear qs x0 x1 x2 x3 x4 x5
   replace QB:=QB.below hl
   replace P3:=P3.below hl
   replace M3:=M3.below hl
   replace hc:=Aa hc hl
   clear hl
   by_cases hSs:S=s
   ·have hF:(S.toList==s.toList)=true:=by rw[hSs];simp
    rw[if_pos hSs] at hj
    have:=hj.out
    subst this
    go_upto_region 8 with fail
    have hk:Below w4.heap.size w4 w4.drew:=(Yg _ _).drew
    replace QB:=QB.below hk
    replace P3:=P3.below hk
    replace M3:=M3.below hk
    replace hc:=Aa hc hk
    have hN:(fun u=>u.cell? ⟨b3,0,none⟩=some (.int .i64 p.size)∧u.cell? ⟨b3,1,none⟩=some (.int .i64 p.next)∧u.cell? ⟨b3,2,none⟩=some (.slice ea en ec)∧u.cell? ⟨b3,3,none⟩=some (.slice va vn vc)∧u.cell? ⟨b3,4,none⟩=some (.slice ra rn rc)∧u.cell? ⟨b3,5,none⟩=some (.slice la ln lc)) w4.drew:=P3.sixM
    refine aC_ (S:=(fun u=>u.cell? ⟨b3,0,none⟩=some (.int .i64 p.size)∧u.cell? ⟨b3,1,none⟩=some (.int .i64 p.next)∧u.cell? ⟨b3,2,none⟩=some (.slice ea en ec)∧u.cell? ⟨b3,3,none⟩=some (.slice va vn vc)∧u.cell? ⟨b3,4,none⟩=some (.slice ra rn rc)∧u.cell? ⟨b3,5,none⟩=some (.slice la ln lc))) 5 (by kernel_rfl) rfl ?_
    generalize w4.drew=y0 at *
    clear hk
    refine tk 0 ?_
    refine tk 1 ?_
    refine tk 2 ?_
    obtain⟨r0,r1,r2,r3,r4,r5⟩:=QB.sixM
    have g0:=QB.frozen 0
    have g1:=QB.frozen 1
    have g2:=QB.frozen 2
    have g3:=QB.frozen 3
    have g4:=QB.frozen 4
    have g5:=QB.frozen 5
    refine Aq (i:=3) (by kernel_rfl) rfl (fun K hK=>?_)
    go_simp
    obtain⟨E8,hy⟩:=FM QB (.int .i64 p.size) (.int .i64 p.next) (.slice ea en ec) (.slice va vn vc) (.slice ra rn rc) (.slice la ln lc)
    have P8:=P3.grown hy (by simpa using hH)
    have M8:=M3.box hy QB
    have he:=hc.grown hy (by have:=QB.lt;omega) (fun k e=>by cases e;exact Zd _)
    refine hK.out _ _ P8.sixM (fun hHeld=>?_)
    clear hK K
    try simp only[Act.put,Yj,Yq,Yr]
    generalize (((((y0.setCell ⟨w.heap.size,0,none⟩ (.int .i64 p.size)).setCell ⟨w.heap.size,1,none⟩ (.int .i64 p.next)).setCell ⟨w.heap.size,2,none⟩ (.slice ea en ec)).setCell ⟨w.heap.size,3,none⟩ (.slice va vn vc)).setCell ⟨w.heap.size,4,none⟩ (.slice ra rn rc)).setCell ⟨w.heap.size,5,none⟩ (.slice la ln lc)=W8 at *
    refine tk 4 ?_
    refine wpAnyH_done (by kernel_rfl) ?_ _
    go_wp2
    refine YW (AZ rfl _ W8 w.heap.size _ _ _ _ _ _ rfl rfl rfl E8 underlying28 rfl (by kernel_rfl)) rfl ?_
    exact⟨⟨_,rfl,M8⟩,he⟩
   ·have hF:(S.toList==s.toList)=false:=by
     rw[ZV,Zu,Zu]
     exact fun e=>hSs (ByteArray.ext (Array.ext' e))
    rw[if_neg hSs] at hj
    have:=hj.out
    subst this
    obtain⟨r0,r1,r2,r3,r4,r5⟩:=QB.sixM
    have g0:=QB.frozen 0
    have g1:=QB.frozen 1
    have g2:=QB.frozen 2
    have g3:=QB.frozen 3
    have g4:=QB.frozen 4
    have g5:=QB.frozen 5
    go_wp2
    obtain⟨E8,M8,he⟩:=AA (p:=Ar) QB hc (Zd _) (BQ w.heap.size w4)
    change bodyPost _ _ _ _ _ (AV w4 w.heap.size (.int .i64 0) (.int .i64 0) (.slice none 0 0) (.slice none 0 0) (.slice none 0 0) (.slice none 0 0))
    generalize AV w4 w.heap.size (.int .i64 0) (.int .i64 0) (.slice none 0 0) (.slice none 0 0) (.slice none 0 0) (.slice none 0 0)=W8 at *
    refine YW (AZ rfl _ W8 w.heap.size _ _ _ _ _ _ rfl rfl rfl E8 underlying28 rfl (by kernel_rfl)) rfl ?_
    exact⟨⟨_,rfl,M8⟩,he⟩
  ·have hr:A=none:=by
    rw[ho.out]
    obtain⟨h1,_⟩:=hz.out
    have h3:=hm.out
    cases hn:numP Lb.data.toList with
    |none=>rfl
    |some n'=>
     rw[hn] at h1
     cases ha:CM Tb.data.toList with
     |none=>rfl
     |some p'=>
      rw[ha] at h3
      exact absurd ⟨h1.symm,h3.symm⟩ hok
   subst hr
   cases nb with
   |false=>
    obtain⟨r0,r1,r2,r3,r4,r5⟩:=QB.sixM
    have g0:=QB.frozen 0
    have g1:=QB.frozen 1
    have g2:=QB.frozen 2
    have g3:=QB.frozen 3
    have g4:=QB.frozen 4
    have g5:=QB.frozen 5
    go_wp2
    obtain⟨E8,M8,he⟩:=AA (p:=Ar) QB hc (Zd _) (BQ w.heap.size W3)
    change bodyPost _ _ _ _ _ (AV W3 w.heap.size (.int .i64 0) (.int .i64 0) (.slice none 0 0) (.slice none 0 0) (.slice none 0 0) (.slice none 0 0))
    generalize AV W3 w.heap.size (.int .i64 0) (.int .i64 0) (.slice none 0 0) (.slice none 0 0) (.slice none 0 0) (.slice none 0 0)=W8 at *
    refine YW (AZ rfl _ W8 w.heap.size _ _ _ _ _ _ rfl rfl rfl E8 underlying28 rfl (by kernel_rfl)) rfl ?_
    exact⟨⟨_,rfl,M8⟩,he⟩
   |true=>
    cases ab with
    |false=>
     obtain⟨r0,r1,r2,r3,r4,r5⟩:=QB.sixM
     have g0:=QB.frozen 0
     have g1:=QB.frozen 1
     have g2:=QB.frozen 2
     have g3:=QB.frozen 3
     have g4:=QB.frozen 4
     have g5:=QB.frozen 5
     go_wp2
     obtain⟨E8,M8,he⟩:=AA (p:=Ar) QB hc (Zd _) (BQ w.heap.size W3)
     change bodyPost _ _ _ _ _ (AV W3 w.heap.size (.int .i64 0) (.int .i64 0) (.slice none 0 0) (.slice none 0 0) (.slice none 0 0) (.slice none 0 0))
     generalize AV W3 w.heap.size (.int .i64 0) (.int .i64 0) (.slice none 0 0) (.slice none 0 0) (.slice none 0 0) (.slice none 0 0)=W8 at *
     refine YW (AZ rfl _ W8 w.heap.size _ _ _ _ _ _ rfl rfl rfl E8 underlying28 rfl (by kernel_rfl)) rfl ?_
     exact⟨⟨_,rfl,M8⟩,he⟩
    |true=>exact absurd ⟨rfl,rfl⟩ hok
 ·have hr:A=none:=by rw[<-hA.out,rsO,if_neg hb]
  subst hr
  go_enter func11,ntmps11
  go_upto_region 1 with fail
  generalize w.alloc (.cells #[.int .i64 0,.int .i64 0,.slice none 0 0,.slice none 0 0,.slice none 0 0,.slice none 0 0] 28)=W0 at *
  rcases Nat.lt_or_ge 120000 s.size with h1 | h1
  ·have h2:¬ ((s.size:Int)<8):=by omega
   obtain⟨r0,r1,r2,r3,r4,r5⟩:=QB.sixM
   have g0:=QB.frozen 0
   have g1:=QB.frozen 1
   have g2:=QB.frozen 2
   have g3:=QB.frozen 3
   have g4:=QB.frozen 4
   have g5:=QB.frozen 5
   go_wp2
   obtain⟨E8,M8,he⟩:=AA (p:=Ar) QB hc (Zd _) (BQ w.heap.size W0)
   change bodyPost _ _ _ _ _ (AV W0 w.heap.size (.int .i64 0) (.int .i64 0) (.slice none 0 0) (.slice none 0 0) (.slice none 0 0) (.slice none 0 0))
   generalize AV W0 w.heap.size (.int .i64 0) (.int .i64 0) (.slice none 0 0) (.slice none 0 0) (.slice none 0 0) (.slice none 0 0)=W8 at *
   refine YW (AZ rfl _ W8 w.heap.size _ _ _ _ _ _ rfl rfl rfl E8 underlying28 rfl (by kernel_rfl)) rfl ?_
   exact⟨⟨_,rfl,M8⟩,he⟩
  ·have h2:(s.size:Int)<8:=by omega
   have h3:¬ ((120000:Int)<s.size):=by omega
   obtain⟨r0,r1,r2,r3,r4,r5⟩:=QB.sixM
   have g0:=QB.frozen 0
   have g1:=QB.frozen 1
   have g2:=QB.frozen 2
   have g3:=QB.frozen 3
   have g4:=QB.frozen 4
   have g5:=QB.frozen 5
   go_wp2
   obtain⟨E8,M8,he⟩:=AA (p:=Ar) QB hc (Zd _) (BQ w.heap.size W0)
   change bodyPost _ _ _ _ _ (AV W0 w.heap.size (.int .i64 0) (.int .i64 0) (.slice none 0 0) (.slice none 0 0) (.slice none 0 0) (.slice none 0 0))
   generalize AV W0 w.heap.size (.int .i64 0) (.int .i64 0) (.slice none 0 0) (.slice none 0 0) (.slice none 0 0) (.slice none 0 0)=W8 at *
   refine YW (AZ rfl _ W8 w.heap.size _ _ _ _ _ _ rfl rfl rfl E8 underlying28 rfl (by kernel_rfl)) rfl ?_
   exact⟨⟨_,rfl,M8⟩,he⟩
end
section
open Go.RowKit Go.BigFrame Tryz
theorem Mi (a:Option Addr)(n cap:Nat)(w:World)(h:DH w a n)(hn:n<=1048576) :
  Calls prog 12 #[.slice a n cap] w fun e w'=>e=.returned (.pointer (some ⟨w.heap.size,0,none⟩))∧Rd w' w.heap.size∧Below w.heap.size w w':=by
 go_enter func12,ntmps12
 go_wp2
 go_returns
 go_light
 refine ⟨rfl,⟨a,n,cap,0,_,Blk.new _ _ _,Zg _,hn,h.below (by go_grown),fun ad h0 hb=>?_⟩,by go_grown⟩
 obtain⟨b,o,v,ha,_,_,hc⟩:=h 0 h0
 rw[hb] at ha
 cases ha
 exact Yk w _ hc
end
end Go.Proofs.YtkiceokhlceciaaGreatDoor
