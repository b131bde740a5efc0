/- A commitment read by both. -/
import Derived.Test.YtigldeccfpkdmaaGreatDoorK38
import Derived.Test.YtigldeccfpkdmaaGreatDoorK40
import Derived.Test.YtigldeccfpkdmaaGreatDoorK41
namespace Go.Proofs.YtigldeccfpkdmaaGreatDoor
open Go Go.RowKit Go.BigFrame
set_option maxHeartbeats 20000000
set_option maxRecDepth 100000
def midB (s:By):By:=(s.drop 4).take (s.length-8)
def hdB (m:By):By:=match cutB 10 m with
 |none=>m
 |some q=>q.1
def tlB (m:By):By:=match cutB 10 m with
 |none=>[]
 |some q=>q.2
/-- What is read of a commitment. -/
noncomputable def rsO (s:ByteArray):Option (Int×Po):=if 8<=s.size∧s.size<=120000 then (numP (hdB (midB s.data.toList))).bind fun n=>(ansO (tlB (midB s.data.toList))).bind fun p=>if superO n p=s then some (n,p) else none else none
theorem cC_ (s:By):(midB s).length<=s.length:=by
 unfold midB
 simp
 omega
theorem lT_ (s:ByteArray) (h:8<=s.size):s.extract 4 (s.size-4)=bA (midB s.data.toList):=by
 apply ByteArray.ext
 apply Array.ext'
 rw [ByteArray.data_extract,Array.toList_extract,bA,midB]
 simp
 have:s.size=s.data.size:=rfl
 rw [this]
 congr 1
 omega
theorem ih_ (w:World) (k:Nat):Below w.heap.size w (w.drewN k):=⟨rfl,rfl,rfl,Nat.le_refl _,fun _ _=>rfl⟩
theorem as_ {P:Program} {fn:Func} {p q r:Tmp} {ty:TypeId} (h:fn.results=#[.tmp q,.cell p ty,.tmp r]) (tmps:Array Value) (w:World) (g:Nat) (t:TypeId) (cs:Array Value) (fr:Nat×Nat) (d:TypeDesc) (v u:Value)
  (hp:tmps.getD p undef=.pointer (some ⟨g,0,none⟩)) (hq:tmps.getD q undef=v) (hr:tmps.getD r undef=u) (hg:w.heap[g]?=some (.cells cs t fr))
  (hu:P.underlying ty=some d) (hd:(match d with | .struct _ | .array _ _=>true | _=>false)=true) (hi:(P.info? ty).map (·.size)=some cs.size) :
  (results fn tmps).run P w=.ok (.tuple #[v,.agg cs,u]) w:=by
 have hp':tmps[p]?.getD undef=.pointer (some ⟨g,0,none⟩):=by simpa using hp
 have hq':tmps[q]?.getD undef=v:=by simpa using hq
 have hr':tmps[r]?.getD undef=u:=by simpa using hr
 simp [results,h,hp',hq',hr',asAddr,run_loadVar_row w g t ty cs fr d hg hu hd hi]
theorem ii_ (s:ByteArray) (w:World) (hs:s.size<=1000000) (hG:Glb w) :
  Calls Tryz.prog 67 #[.string s] w fun e w'=>e=.returned (intV (numP s.data.toList))∧Below w.heap.size w w':=by
 obtain ⟨t,ht⟩:∃ t:ByteArray,Hid ((⟨(trimN s.data.toList).toArray⟩:ByteArray)=t):=⟨_,rfl⟩
 have htl:t.size=(trimN s.data.toList).length:=by rw [<-ht.out,Lib.size_eq]
 have hts:t.size<=1000000:=by
  have h1:=lc_ s.data.toList
  have h2:=Lib.size_eq s
  omega
 obtain ⟨V,hV⟩:∃ V,Hid (intV (numP s.data.toList)=V):=⟨_,rfl⟩
 rw [hV.out]
 have q1:Calls Tryz.prog 133 #[.string s,.string ⟨#[45]⟩] w fun e w'=>e=.returned (.string t)∧w'=w:=by
  rw [<-ht.out]
  exact Any.strings_TrimPrefix tpL s ⟨#[45]⟩ w
 go_enter Tryz.func67,Tryz.ntmps67
 go_wp2_with fail
 refine q1.mono ?_
 rintro e w1 ⟨rfl,hw1⟩
 obtain rfl:w=w1:=hw1.symm
 clear q1
 rcases Nat.lt_or_ge 10 t.size with h10 | h10
 ·have hv:V=.tuple #[.int .i64 0,.bool false]:=by rw [<-hV.out,g2_ (by omega)];rfl
  subst hv
  go_wp2
  go_returns
  exact ⟨rfl,Below.refl _ _⟩
 ·have hsh:=eQ_ (s:=s.data.toList) (by omega)
  cases ha:Lib.atoi s.data.toList with
  |none=>
   have hv:V=.tuple #[.int .i64 0,.bool false]:=by rw [<-hV.out,iI_ ha];rfl
   subst hv
   rw [ha] at hsh
   obtain ⟨tp,p,hy⟩:=hG.syn
   go_wp2_with fail
   refine (Any.strconv_ParseInt_10_at64_syntax piL s (by omega) hsh (.iface tp p) w hy (.inr ⟨tp,p,rfl⟩)).mono ?_
   rintro e w1 ⟨N,rfl,_,_,hB⟩
   go_wp2
   go_returns
   exact ⟨rfl,hB⟩
  |some n=>
   rw [ha] at hsh
   have hb:=Lib.parseIntB_bounds hsh
   rw [show (2 ^ (64-1):Nat)=9223372036854775808 by decide] at hb
   have q2:=fun (u:World) (hu:Below w.heap.size w u)=>ak_ n u (by omega) (by omega) (hG.below hu).tab
   clear hb
   go_wp2_with fail
   refine (Any.strconv_ParseInt_10_at64_ok piL s (by omega) n hsh w).mono ?_
   rintro e w1 ⟨rfl,hw1⟩
   have hB:Below w.heap.size w w1:=by
    rcases hw1 with rfl | ⟨t,rfl⟩
    ·exact Below.refl _ _
    ·exact Lib.bytesWorld_below _ _ _
   clear hw1
   go_wp2_with fail
   refine (q2 w1 hB).mono ?_
   rintro e w2 ⟨rfl,hB2⟩
   replace hB2:=chain hB hB2
   by_cases hd:Lib.itoa n=s.data.toList
   ·have hv:V=.tuple #[.int .i64 n,.bool true]:=by rw [<-hV.out,g3_ (by omega) hd];rfl
    subst hv
    have he:(decB n).toList=s.toList:=by rw [ByteArray.toList_eq,ByteArray.toList_eq,bg_,hd]
    go_wp2
    go_returns
    exact ⟨rfl,hB2⟩
   ·have hv:V=.tuple #[.int .i64 0,.bool false]:=by rw [<-hV.out,fy_ ha hd];rfl
    subst hv
    have he:((decB n).toList==s.toList)=false:=by rw [beq_eq_false_iff_ne,ByteArray.toList_eq,ByteArray.toList_eq,bg_];exact hd
    go_wp2
    go_returns
    exact ⟨rfl,hB2⟩
theorem pq_ (l:By):(Lib.cut l [10]).1=hdB l∧(Lib.cut l [10]).2.1=tlB l:=by
 unfold Lib.cut hdB tlB
 rw [ct_ 10 l]
 cases hc:cutB 10 l with
 |none=>simp
 |some q=>
  obtain ⟨h1,_⟩:=ay_ (a:=q.1) (b:=q.2) hc
  simp only
  rw [if_pos (by omega)]
  refine ⟨by rw [h1];simp,?_⟩
  have:(q.1.length:Int).toNat+[(10:UInt8)].length=(q.1++[10]).length:=by simp
  simp only
  rw [this,h1,show q.1++10::q.2=(q.1++[10])++q.2 by simp,List.drop_left]
theorem lU_ (l:By):(hdB l).length<=l.length:=by
 unfold hdB
 cases hc:cutB 10 l with
 |none=>exact Nat.le_refl _
 |some q=>
  obtain ⟨h1,_⟩:=ay_ (a:=q.1) (b:=q.2) hc
  rw [h1];simp
theorem lV_ (l:By):(tlB l).length<=l.length:=by
 unfold tlB
 cases hc:cutB 10 l with
 |none=>simp
 |some q=>
  obtain ⟨h1,_⟩:=ay_ (a:=q.1) (b:=q.2) hc
  rw [h1];simp;omega
theorem gi_ (s:ByteArray) (w:World) (hs:s.size<=2000000) (hG:Glb w) :
  Calls Tryz.prog 19 #[.string s] w fun e w'=>(∃ v,e=.returned (.tuple #[.int .i64 ((rsO s).elim 0 (·.1)),v,.bool (rsO s).isSome])∧PoolM w.heap.size w' v ((rsO s).elim emptyP (·.2)))∧Below w.heap.size w w':=by
 obtain ⟨A,hA⟩:∃ A,Hid (rsO s=A):=⟨_,rfl⟩
 rw [hA.out]
 have hA0:Below w.heap.size w (w.alloc (.cells #[.int .i64 0,.int .i64 0,.slice none 0 0,.slice none 0 0,.slice none 0 0,.slice none 0 0] 26)):=(Below.refl _ _).alloc (Nat.le_refl _) _
 have QB:=Blk.new w #[.int .i64 0,.int .i64 0,.slice none 0 0,.slice none 0 0,.slice none 0 0,.slice none 0 0] 26
 by_cases hb:8<=s.size∧s.size<=120000
 ·obtain ⟨hb1,hb2⟩:=hb
  obtain ⟨M,hM⟩:∃ M,Hid (bA (midB s.data.toList)=M):=⟨_,rfl⟩
  have hMs:M.size<=120000:=by rw [<-hM.out,bD_];have:=cC_ s.data.toList;rw [<-Lib.size_eq] at this;omega
  obtain ⟨Lb,hLb⟩:∃ L,Hid (bA (hdB (midB s.data.toList))=L):=⟨_,rfl⟩
  obtain ⟨Tb,hTb⟩:∃ L,Hid (bA (tlB (midB s.data.toList))=L):=⟨_,rfl⟩
  have hA2:Hid (A=(numP Lb.data.toList).bind fun n=>(ansO Tb.data.toList).bind fun p=>if superO n p=s then some (n,p) else none):=by
   show _=_
   rw [<-hA.out,rsO,if_pos ⟨hb1,hb2⟩,<-hLb.out,<-hTb.out,af_,af_]
  have hsl:∀ u:World,(Instr.slice 9 (.string s) (some (.int .i64 4)) (some (.int .i64 ((s.size:Int)-4))) none).run Tryz.prog u=.ok (.string M) u:=fun u=>by
   rw [<-hM.out,<-lT_ s hb1]
   have:=run_slice_string (P:=Tryz.prog) u 9 s .i64 .i64 4 ((s.size:Int)-4) Tryz.underlying9 (by omega) (by omega) (by omega)
   rw [show ((s.size:Int)-4).toNat=s.size-4 by omega] at this
   exact this
  have hTs:Tb.size<=120000:=by rw [<-hTb.out,bD_];have:=lV_ (midB s.data.toList);have h2:=cC_ s.data.toList;rw [<-Lib.size_eq] at h2;omega
  have hLs:Lb.size<=120000:=by rw [<-hLb.out,bD_];have:=lU_ (midB s.data.toList);have h2:=cC_ s.data.toList;rw [<-Lib.size_eq] at h2;omega
  have qc:∀ u:World,Glb u->Calls Tryz.prog 66 #[.string M,.string ⟨#[10]⟩] u fun e w'=>(∃ b,e=.returned (.tuple #[.string Lb,.string Tb,.bool b]))∧Below u.heap.size u w':=fun u hu=>by
   obtain ⟨m,hm⟩:=hu.mx
   refine (Any.strings_Cut cuL M ⟨#[10]⟩ m u (by omega) hm).mono ?_
   rintro e w' ⟨rfl,k,rfl⟩
   have hMl:M.data.toList=midB s.data.toList:=by rw [<-hM.out,af_]
   obtain ⟨c1,c2⟩:=pq_ M.data.toList
   refine ⟨⟨(Lib.cut M.data.toList [10]).2.2,?_⟩,ih_ _ k⟩
   show Ending.returned (Value.tuple #[Value.string (bA (Lib.cut M.data.toList [10]).1),Value.string (bA (Lib.cut M.data.toList [10]).2.1),_])=_
   rw [c1,c2,hMl,hLb.out,hTb.out]
  have qn:∀ u:World,Glb u->Calls Tryz.prog 67 #[.string Lb] u fun e w'=>e=.returned (intV (numP Lb.data.toList))∧Below u.heap.size u w':=fun u hu=>ii_ Lb u (by omega) hu
  have qr:=fun (u:World) (hu:Glb u)=>gI_ Tb u (by omega) hu
  go_enter Tryz.func19,Tryz.ntmps19
  go_wp2_with fail
  generalize w.alloc (.cells #[.int .i64 0,.int .i64 0,.slice none 0 0,.slice none 0 0,.slice none 0 0,.slice none 0 0] 26)=W0 at *
  have G:=hG.below hA0
  refine (qc W0 G).mono ?_
  rintro e w1 ⟨⟨bb,rfl⟩,hb1'⟩
  replace QB:=QB.below hb1'
  replace G:=G.below hb1'
  replace hA0:=chain hA0 hb1'
  clear hb1' qc
  go_wp2_with fail
  refine (qn w1 G).mono ?_
  rintro e w2 ⟨rfl,hb2'⟩
  replace QB:=QB.below hb2'
  replace G:=G.below hb2'
  replace hA0:=chain hA0 hb2'
  clear hb2' qn
  obtain ⟨n,nb,hno,hiv⟩:∃ n nb,Hid ((numP Lb.data.toList).isSome=nb∧(numP Lb.data.toList).getD 0=n)∧intV (numP Lb.data.toList)=.tuple #[.int .i64 n,.bool nb]:=by
   cases numP Lb.data.toList with
   |none=>exact ⟨0,false,⟨rfl,rfl⟩,rfl⟩
   |some n=>exact ⟨n,true,⟨rfl,rfl⟩,rfl⟩
  rw [hiv]
  clear hiv
  obtain ⟨ab,hab⟩:∃ ab,Hid ((ansO Tb.data.toList).isSome=ab):=⟨_,rfl⟩
  obtain ⟨p,hp⟩:∃ p,Hid ((ansO Tb.data.toList).getD emptyP=p):=⟨_,rfl⟩
  have hDp:DimP p:=by rw [<-hp.out];exact (gh_ Tb.data.toList).small.dim
  rw [hab.out,hp.out] at qr
  go_wp2_with fail
  refine (qr w2 G).mono ?_
  rintro e w3 ⟨⟨v,rfl,M3⟩,hb3⟩
  obtain ⟨ea,en,ec,va,vn,vc,ra,rn,rc,la,ln,lc,vr,rfl,_⟩:=M3.out
  have hA3:Below w3.heap.size w3 (w3.alloc (.cells #[.int .i64 p.size,.int .i64 p.next,.slice ea en ec,.slice va vn vc,.slice ra rn rc,.slice la ln lc] 26)):=(Below.refl _ _).alloc (Nat.le_refl _) _
  obtain ⟨b3,hb30⟩:∃ b,b=w3.heap.size:=⟨_,rfl⟩
  have P3:Blk (w3.alloc (.cells #[.int .i64 p.size,.int .i64 p.next,.slice ea en ec,.slice va vn vc,.slice ra rn rc,.slice la ln lc] 26)) b3 #[.int .i64 p.size,.int .i64 p.next,.slice ea en ec,.slice va vn vc,.slice ra rn rc,.slice la ln lc] 26:=Blk.new' _ _ _ _ hb30
  have hc3:=chain hb3 hA3
  have hw2:=hA0.size
  have hq2:=QB.lt
  have hq3:=hb3.size
  replace QB:=QB.below hc3
  replace G:=G.below hc3
  replace M3:=(M3.below hA3).mono hw2
  replace hA0:=chain hA0 hc3
  have hne:b3≠w.heap.size:=by rw [hb30];omega
  clear hb3 hA3 hc3 qr
  obtain ⟨x0,x1,x2,x3,x4,x5⟩:=P3.sixM
  go_upto_region 6 with fail
  rw [<-hb30]
  clear hb30
  generalize w3.alloc (.cells #[.int .i64 p.size,.int .i64 p.next,.slice ea en ec,.slice va vn vc,.slice ra rn rc,.slice la ln lc] 26)=W3 at *
  by_cases hok:nb=true∧ab=true
  ·obtain ⟨rfl,rfl⟩:=hok
   have hA4:Hid (A=if superO n p=s then some (n,p) else none):=by
    show _=_
    obtain ⟨h1,h2⟩:=hno.out
    have h3:=hab.out
    have h4:=hp.out
    rw [hA2.out]
    cases hn:numP Lb.data.toList with
    |none=>rw [hn] at h1;cases h1
    |some n'=>
     rw [hn] at h2
     cases ha:ansO Tb.data.toList with
     |none=>rw [ha] at h3;cases h3
     |some p'=>
      rw [ha] at h4
      obtain rfl:n'=n:=h2
      obtain rfl:p'=p:=h4
      rfl
   clear hno hab hp hA2
   obtain ⟨S,hS⟩:∃ S,Hid (superO n p=S):=⟨_,rfl⟩
   have qs:=gg_ 0 _ p n W3 (M3.at.mono (Nat.zero_le _)) hDp fk_ G.tab G.sz
   rw [hS.out] at qs hA4
   go_wp2_with fail
   refine qs.mono ?_
   rintro e w4 ⟨rfl,hb4⟩
   clear qs x0 x1 x2 x3 x4 x5
   replace QB:=QB.below hb4
   replace P3:=P3.below hb4
   replace M3:=M3.below hb4
   replace hA0:=chain hA0 hb4
   clear hb4
   by_cases hSs:S=s
   ·have hSe:(S.toList==s.toList)=true:=by rw [hSs];simp
    rw [if_pos hSs] at hA4
    have:=hA4.out
    subst this
    go_upto_region 8 with fail
    have hWd:Below w4.heap.size w4 w4.drew:=(Below.refl _ _).drew
    replace QB:=QB.below hWd
    replace P3:=P3.below hWd
    replace M3:=M3.below hWd
    replace hA0:=chain hA0 hWd
    have hS0:(fun u=>u.cell? ⟨b3,0,none⟩=some (.int .i64 p.size)∧u.cell? ⟨b3,1,none⟩=some (.int .i64 p.next)∧u.cell? ⟨b3,2,none⟩=some (.slice ea en ec)∧u.cell? ⟨b3,3,none⟩=some (.slice va vn vc)∧u.cell? ⟨b3,4,none⟩=some (.slice ra rn rc)∧u.cell? ⟨b3,5,none⟩=some (.slice la ln lc)) w4.drew:=P3.sixM
    refine ad_ (S:=(fun u=>u.cell? ⟨b3,0,none⟩=some (.int .i64 p.size)∧u.cell? ⟨b3,1,none⟩=some (.int .i64 p.next)∧u.cell? ⟨b3,2,none⟩=some (.slice ea en ec)∧u.cell? ⟨b3,3,none⟩=some (.slice va vn vc)∧u.cell? ⟨b3,4,none⟩=some (.slice ra rn rc)∧u.cell? ⟨b3,5,none⟩=some (.slice la ln lc))) 5 (by kernel_rfl) rfl ?_
    generalize w4.drew=y0 at *
    clear hWd
    refine tk 0 ?_
    refine tk 1 ?_
    refine tk 2 ?_
    obtain ⟨r0,r1,r2,r3,r4,r5⟩:=QB.sixM
    obtain ⟨g0,g1,g2,g3,g4,g5⟩:=fz6 QB
    refine oneL (i:=3) (by kernel_rfl) rfl (fun K hK=>?_)
    go_simp
    obtain ⟨E8,hg8⟩:=put6F QB (.int .i64 p.size) (.int .i64 p.next) (.slice ea en ec) (.slice va vn vc) (.slice ra rn rc) (.slice la ln lc)
    have P8:=P3.grown hg8 (by simpa using hne)
    have M8:=M3.box hg8 QB
    have hB8:=hA0.grown hg8 (by have:=QB.lt;omega) (fun k e=>by cases e;exact Nat.le_refl _)
    refine hK.out _ _ P8.sixM (fun hHeld=>?_)
    clear hK K
    try simp only [Act.put,lsA,lsB,lsC]
    generalize (((((y0.setCell ⟨w.heap.size,0,none⟩ (.int .i64 p.size)).setCell ⟨w.heap.size,1,none⟩ (.int .i64 p.next)).setCell ⟨w.heap.size,2,none⟩ (.slice ea en ec)).setCell ⟨w.heap.size,3,none⟩ (.slice va vn vc)).setCell ⟨w.heap.size,4,none⟩ (.slice ra rn rc)).setCell ⟨w.heap.size,5,none⟩ (.slice la ln lc)=W8 at *
    refine tk 4 ?_
    refine wpAnyH_done (by kernel_rfl) ?_ _
    go_wp2
    refine bodyPost_ret (as_ rfl _ W8 w.heap.size _ _ _ _ _ _ rfl rfl rfl E8 Tryz.underlying26 rfl (by kernel_rfl)) rfl ?_
    exact ⟨⟨_,rfl,M8⟩,hB8⟩
   ·have hSe:(S.toList==s.toList)=false:=by
     rw [beq_eq_false_iff_ne,ByteArray.toList_eq,ByteArray.toList_eq]
     exact fun e=>hSs (ByteArray.ext (Array.ext' e))
    rw [if_neg hSs] at hA4
    have:=hA4.out
    subst this
    obtain ⟨r0,r1,r2,r3,r4,r5⟩:=QB.sixM
    obtain ⟨g0,g1,g2,g3,g4,g5⟩:=fz6 QB
    go_wp2
    obtain ⟨E8,M8,hB8⟩:=an_ (p:=emptyP) QB hA0 (Nat.le_refl _) (emptyM w.heap.size w4)
    change bodyPost _ _ _ _ _ (put6 w4 w.heap.size (.int .i64 0) (.int .i64 0) (.slice none 0 0) (.slice none 0 0) (.slice none 0 0) (.slice none 0 0))
    generalize put6 w4 w.heap.size (.int .i64 0) (.int .i64 0) (.slice none 0 0) (.slice none 0 0) (.slice none 0 0) (.slice none 0 0)=W8 at *
    refine bodyPost_ret (as_ rfl _ W8 w.heap.size _ _ _ _ _ _ rfl rfl rfl E8 Tryz.underlying26 rfl (by kernel_rfl)) rfl ?_
    exact ⟨⟨_,rfl,M8⟩,hB8⟩
  ·have hAn:A=none:=by
    rw [hA2.out]
    obtain ⟨h1,_⟩:=hno.out
    have h3:=hab.out
    cases hn:numP Lb.data.toList with
    |none=>rfl
    |some n'=>
     rw [hn] at h1
     cases ha:ansO Tb.data.toList with
     |none=>rfl
     |some p'=>
      rw [ha] at h3
      exact absurd ⟨h1.symm,h3.symm⟩ hok
   subst hAn
   cases nb with
   |false=>
    obtain ⟨r0,r1,r2,r3,r4,r5⟩:=QB.sixM
    obtain ⟨g0,g1,g2,g3,g4,g5⟩:=fz6 QB
    go_wp2
    obtain ⟨E8,M8,hB8⟩:=an_ (p:=emptyP) QB hA0 (Nat.le_refl _) (emptyM w.heap.size W3)
    change bodyPost _ _ _ _ _ (put6 W3 w.heap.size (.int .i64 0) (.int .i64 0) (.slice none 0 0) (.slice none 0 0) (.slice none 0 0) (.slice none 0 0))
    generalize put6 W3 w.heap.size (.int .i64 0) (.int .i64 0) (.slice none 0 0) (.slice none 0 0) (.slice none 0 0) (.slice none 0 0)=W8 at *
    refine bodyPost_ret (as_ rfl _ W8 w.heap.size _ _ _ _ _ _ rfl rfl rfl E8 Tryz.underlying26 rfl (by kernel_rfl)) rfl ?_
    exact ⟨⟨_,rfl,M8⟩,hB8⟩
   |true=>
    cases ab with
    |false=>
     obtain ⟨r0,r1,r2,r3,r4,r5⟩:=QB.sixM
     obtain ⟨g0,g1,g2,g3,g4,g5⟩:=fz6 QB
     go_wp2
     obtain ⟨E8,M8,hB8⟩:=an_ (p:=emptyP) QB hA0 (Nat.le_refl _) (emptyM w.heap.size W3)
     change bodyPost _ _ _ _ _ (put6 W3 w.heap.size (.int .i64 0) (.int .i64 0) (.slice none 0 0) (.slice none 0 0) (.slice none 0 0) (.slice none 0 0))
     generalize put6 W3 w.heap.size (.int .i64 0) (.int .i64 0) (.slice none 0 0) (.slice none 0 0) (.slice none 0 0) (.slice none 0 0)=W8 at *
     refine bodyPost_ret (as_ rfl _ W8 w.heap.size _ _ _ _ _ _ rfl rfl rfl E8 Tryz.underlying26 rfl (by kernel_rfl)) rfl ?_
     exact ⟨⟨_,rfl,M8⟩,hB8⟩
    |true=>exact absurd ⟨rfl,rfl⟩ hok
 ·have hAn:A=none:=by rw [<-hA.out,rsO,if_neg hb]
  subst hAn
  go_enter Tryz.func19,Tryz.ntmps19
  go_upto_region 1 with fail
  generalize w.alloc (.cells #[.int .i64 0,.int .i64 0,.slice none 0 0,.slice none 0 0,.slice none 0 0,.slice none 0 0] 26)=W0 at *
  rcases Nat.lt_or_ge 120000 s.size with h1 | h1
  ·have h2:¬ ((s.size:Int)<8):=by omega
   obtain ⟨r0,r1,r2,r3,r4,r5⟩:=QB.sixM
   obtain ⟨g0,g1,g2,g3,g4,g5⟩:=fz6 QB
   go_wp2
   obtain ⟨E8,M8,hB8⟩:=an_ (p:=emptyP) QB hA0 (Nat.le_refl _) (emptyM w.heap.size W0)
   change bodyPost _ _ _ _ _ (put6 W0 w.heap.size (.int .i64 0) (.int .i64 0) (.slice none 0 0) (.slice none 0 0) (.slice none 0 0) (.slice none 0 0))
   generalize put6 W0 w.heap.size (.int .i64 0) (.int .i64 0) (.slice none 0 0) (.slice none 0 0) (.slice none 0 0) (.slice none 0 0)=W8 at *
   refine bodyPost_ret (as_ rfl _ W8 w.heap.size _ _ _ _ _ _ rfl rfl rfl E8 Tryz.underlying26 rfl (by kernel_rfl)) rfl ?_
   exact ⟨⟨_,rfl,M8⟩,hB8⟩
  ·have h2:(s.size:Int)<8:=by omega
   have h3:¬ ((120000:Int)<s.size):=by omega
   obtain ⟨r0,r1,r2,r3,r4,r5⟩:=QB.sixM
   obtain ⟨g0,g1,g2,g3,g4,g5⟩:=fz6 QB
   go_wp2
   obtain ⟨E8,M8,hB8⟩:=an_ (p:=emptyP) QB hA0 (Nat.le_refl _) (emptyM w.heap.size W0)
   change bodyPost _ _ _ _ _ (put6 W0 w.heap.size (.int .i64 0) (.int .i64 0) (.slice none 0 0) (.slice none 0 0) (.slice none 0 0) (.slice none 0 0))
   generalize put6 W0 w.heap.size (.int .i64 0) (.int .i64 0) (.slice none 0 0) (.slice none 0 0) (.slice none 0 0) (.slice none 0 0)=W8 at *
   refine bodyPost_ret (as_ rfl _ W8 w.heap.size _ _ _ _ _ _ rfl rfl rfl E8 Tryz.underlying26 rfl (by kernel_rfl)) rfl ?_
   exact ⟨⟨_,rfl,M8⟩,hB8⟩
theorem gj_ (s:ByteArray) (w:World) (hs:s.size<=2000000) (hw0:0<w.heap.size) :
  Calls Tryz.prog 18 #[.string s] w fun e w'=>(∃ v,e=.returned (.tuple #[.int .i64 ((rsO s).elim 0 (·.1)),v,.bool (rsO s).isSome])∧PoolM w.heap.size w' v ((rsO s).elim emptyP (·.2)))∧Below w.heap.size w w':=by
 obtain ⟨A,hA⟩:∃ A,Hid (rsO s=A):=⟨_,rfl⟩
 rw [hA.out]
 have hA0:Below w.heap.size w (w.alloc (.cells #[.int .i64 0,.int .i64 0,.slice none 0 0,.slice none 0 0,.slice none 0 0,.slice none 0 0] 26)):=(Below.refl _ _).alloc (Nat.le_refl _) _
 have QB:=Blk.new w #[.int .i64 0,.int .i64 0,.slice none 0 0,.slice none 0 0,.slice none 0 0,.slice none 0 0] 26
 by_cases hb:8<=s.size∧s.size<=120000
 ·obtain ⟨hb1,hb2⟩:=hb
  obtain ⟨M,hM⟩:∃ M,Hid (bA (midB s.data.toList)=M):=⟨_,rfl⟩
  have hMs:M.size<=120000:=by rw [<-hM.out,bD_];have:=cC_ s.data.toList;rw [<-Lib.size_eq] at this;omega
  obtain ⟨Lb,hLb⟩:∃ L,Hid (bA (hdB (midB s.data.toList))=L):=⟨_,rfl⟩
  obtain ⟨Tb,hTb⟩:∃ L,Hid (bA (tlB (midB s.data.toList))=L):=⟨_,rfl⟩
  have hA2:Hid (A=(numP Lb.data.toList).bind fun n=>(ansO Tb.data.toList).bind fun p=>if superO n p=s then some (n,p) else none):=by
   show _=_
   rw [<-hA.out,rsO,if_pos ⟨hb1,hb2⟩,<-hLb.out,<-hTb.out,af_,af_]
  have hsl:∀ u:World,(Instr.slice 9 (.string s) (some (.int .i64 4)) (some (.int .i64 ((s.size:Int)-4))) none).run Tryz.prog u=.ok (.string M) u:=fun u=>by
   rw [<-hM.out,<-lT_ s hb1]
   have:=run_slice_string (P:=Tryz.prog) u 9 s .i64 .i64 4 ((s.size:Int)-4) Tryz.underlying9 (by omega) (by omega) (by omega)
   rw [show ((s.size:Int)-4).toNat=s.size-4 by omega] at this
   exact this
  have hTs:Tb.size<=120000:=by rw [<-hTb.out,bD_];have:=lV_ (midB s.data.toList);have h2:=cC_ s.data.toList;rw [<-Lib.size_eq] at h2;omega
  have hLs:Lb.size<=120000:=by rw [<-hLb.out,bD_];have:=lU_ (midB s.data.toList);have h2:=cC_ s.data.toList;rw [<-Lib.size_eq] at h2;omega
  have qc:∀ u:World,True->Calls Tryz.prog 35 #[.string M,.int .u8 10] u fun e w'=>(∃ b,e=.returned (.tuple #[.string Lb,.string Tb,.bool b]))∧Below u.heap.size u w':=fun u _=>by
   refine (b0_ 10 M u (by omega)).mono ?_
   rintro e w' ⟨rfl,hb⟩
   refine ⟨?_,hb⟩
   have hMl:M.data.toList=midB s.data.toList:=by rw [<-hM.out,af_]
   rw [<-hLb.out,<-hTb.out,<-hMl]
   unfold cutV hdB tlB
   cases cutB 10 M.data.toList with
   |none=>exact ⟨false,by rw [show bA M.data.toList=M from ByteArray.ext (Array.ext' (af_ _))];rfl⟩
   |some q=>exact ⟨true,rfl⟩
  have qn:∀ u:World,True->Calls Tryz.prog 65 #[.string Lb] u fun e w'=>e=.returned (intV (numP Lb.data.toList))∧Below u.heap.size u w':=fun u _=>(br_ Lb u (by omega)).mono fun e w' ⟨h1,h2⟩=>⟨h1,by rw [h2];exact Below.refl _ _⟩
  have qr:=fun (u:World) (hu:0<u.heap.size)=>gH_ Tb u (by omega) hu
  go_enter Tryz.func18,Tryz.ntmps18
  go_wp2_with fail
  generalize w.alloc (.cells #[.int .i64 0,.int .i64 0,.slice none 0 0,.slice none 0 0,.slice none 0 0,.slice none 0 0] 26)=W0 at *
  skip
  refine (qc W0 trivial).mono ?_
  rintro e w1 ⟨⟨bb,rfl⟩,hb1'⟩
  replace QB:=QB.below hb1'
  skip
  replace hA0:=chain hA0 hb1'
  clear hb1' qc
  go_wp2_with fail
  refine (qn w1 trivial).mono ?_
  rintro e w2 ⟨rfl,hb2'⟩
  replace QB:=QB.below hb2'
  skip
  replace hA0:=chain hA0 hb2'
  clear hb2' qn
  obtain ⟨n,nb,hno,hiv⟩:∃ n nb,Hid ((numP Lb.data.toList).isSome=nb∧(numP Lb.data.toList).getD 0=n)∧intV (numP Lb.data.toList)=.tuple #[.int .i64 n,.bool nb]:=by
   cases numP Lb.data.toList with
   |none=>exact ⟨0,false,⟨rfl,rfl⟩,rfl⟩
   |some n=>exact ⟨n,true,⟨rfl,rfl⟩,rfl⟩
  rw [hiv]
  clear hiv
  obtain ⟨ab,hab⟩:∃ ab,Hid ((ansO Tb.data.toList).isSome=ab):=⟨_,rfl⟩
  obtain ⟨p,hp⟩:∃ p,Hid ((ansO Tb.data.toList).getD emptyP=p):=⟨_,rfl⟩
  have hDp:DimP p:=by rw [<-hp.out];exact (gh_ Tb.data.toList).small.dim
  rw [hab.out,hp.out] at qr
  go_wp2_with fail
  refine (qr w2 (by have:=hA0.size;omega)).mono ?_
  rintro e w3 ⟨⟨v,rfl,M3⟩,hb3⟩
  obtain ⟨ea,en,ec,va,vn,vc,ra,rn,rc,la,ln,lc,vr,rfl,_⟩:=M3.out
  have hA3:Below w3.heap.size w3 (w3.alloc (.cells #[.int .i64 p.size,.int .i64 p.next,.slice ea en ec,.slice va vn vc,.slice ra rn rc,.slice la ln lc] 26)):=(Below.refl _ _).alloc (Nat.le_refl _) _
  obtain ⟨b3,hb30⟩:∃ b,b=w3.heap.size:=⟨_,rfl⟩
  have P3:Blk (w3.alloc (.cells #[.int .i64 p.size,.int .i64 p.next,.slice ea en ec,.slice va vn vc,.slice ra rn rc,.slice la ln lc] 26)) b3 #[.int .i64 p.size,.int .i64 p.next,.slice ea en ec,.slice va vn vc,.slice ra rn rc,.slice la ln lc] 26:=Blk.new' _ _ _ _ hb30
  have hc3:=chain hb3 hA3
  have hw2:=hA0.size
  have hq2:=QB.lt
  have hq3:=hb3.size
  replace QB:=QB.below hc3
  skip
  replace M3:=(M3.below hA3).mono hw2
  replace hA0:=chain hA0 hc3
  have hne:b3≠w.heap.size:=by rw [hb30];omega
  clear hb3 hA3 hc3 qr
  obtain ⟨x0,x1,x2,x3,x4,x5⟩:=P3.sixM
  go_upto_region 6 with fail
  rw [<-hb30]
  clear hb30
  generalize w3.alloc (.cells #[.int .i64 p.size,.int .i64 p.next,.slice ea en ec,.slice va vn vc,.slice ra rn rc,.slice la ln lc] 26)=W3 at *
  by_cases hok:nb=true∧ab=true
  ·obtain ⟨rfl,rfl⟩:=hok
   have hA4:Hid (A=if superO n p=s then some (n,p) else none):=by
    show _=_
    obtain ⟨h1,h2⟩:=hno.out
    have h3:=hab.out
    have h4:=hp.out
    rw [hA2.out]
    cases hn:numP Lb.data.toList with
    |none=>rw [hn] at h1;cases h1
    |some n'=>
     rw [hn] at h2
     cases ha:ansO Tb.data.toList with
     |none=>rw [ha] at h3;cases h3
     |some p'=>
      rw [ha] at h4
      obtain rfl:n'=n:=h2
      obtain rfl:p'=p:=h4
      rfl
   clear hno hab hp hA2
   obtain ⟨S,hS⟩:∃ S,Hid (superO n p=S):=⟨_,rfl⟩
   have qs:=gf_ w.heap.size hw0 _ p n W3 M3.at hDp fk_
   rw [hS.out] at qs hA4
   go_wp2_with fail
   refine qs.mono ?_
   rintro e w4 ⟨rfl,hb4⟩
   clear qs x0 x1 x2 x3 x4 x5
   replace QB:=QB.below hb4
   replace P3:=P3.below hb4
   replace M3:=M3.below hb4
   replace hA0:=chain hA0 hb4
   clear hb4
   by_cases hSs:S=s
   ·have hSe:(S.toList==s.toList)=true:=by rw [hSs];simp
    rw [if_pos hSs] at hA4
    have:=hA4.out
    subst this
    go_upto_region 8 with fail
    have hWd:Below w4.heap.size w4 w4.drew:=(Below.refl _ _).drew
    replace QB:=QB.below hWd
    replace P3:=P3.below hWd
    replace M3:=M3.below hWd
    replace hA0:=chain hA0 hWd
    have hS0:(fun u=>u.cell? ⟨b3,0,none⟩=some (.int .i64 p.size)∧u.cell? ⟨b3,1,none⟩=some (.int .i64 p.next)∧u.cell? ⟨b3,2,none⟩=some (.slice ea en ec)∧u.cell? ⟨b3,3,none⟩=some (.slice va vn vc)∧u.cell? ⟨b3,4,none⟩=some (.slice ra rn rc)∧u.cell? ⟨b3,5,none⟩=some (.slice la ln lc)) w4.drew:=P3.sixM
    refine ad_ (S:=(fun u=>u.cell? ⟨b3,0,none⟩=some (.int .i64 p.size)∧u.cell? ⟨b3,1,none⟩=some (.int .i64 p.next)∧u.cell? ⟨b3,2,none⟩=some (.slice ea en ec)∧u.cell? ⟨b3,3,none⟩=some (.slice va vn vc)∧u.cell? ⟨b3,4,none⟩=some (.slice ra rn rc)∧u.cell? ⟨b3,5,none⟩=some (.slice la ln lc))) 5 (by kernel_rfl) rfl ?_
    generalize w4.drew=y0 at *
    clear hWd
    refine tk 0 ?_
    refine tk 1 ?_
    refine tk 2 ?_
    obtain ⟨r0,r1,r2,r3,r4,r5⟩:=QB.sixM
    obtain ⟨g0,g1,g2,g3,g4,g5⟩:=fz6 QB
    refine oneL (i:=3) (by kernel_rfl) rfl (fun K hK=>?_)
    go_simp
    obtain ⟨E8,hg8⟩:=put6F QB (.int .i64 p.size) (.int .i64 p.next) (.slice ea en ec) (.slice va vn vc) (.slice ra rn rc) (.slice la ln lc)
    have P8:=P3.grown hg8 (by simpa using hne)
    have M8:=M3.box hg8 QB
    have hB8:=hA0.grown hg8 (by have:=QB.lt;omega) (fun k e=>by cases e;exact Nat.le_refl _)
    refine hK.out _ _ P8.sixM (fun hHeld=>?_)
    clear hK K
    try simp only [Act.put,lsA,lsB,lsC]
    generalize (((((y0.setCell ⟨w.heap.size,0,none⟩ (.int .i64 p.size)).setCell ⟨w.heap.size,1,none⟩ (.int .i64 p.next)).setCell ⟨w.heap.size,2,none⟩ (.slice ea en ec)).setCell ⟨w.heap.size,3,none⟩ (.slice va vn vc)).setCell ⟨w.heap.size,4,none⟩ (.slice ra rn rc)).setCell ⟨w.heap.size,5,none⟩ (.slice la ln lc)=W8 at *
    refine tk 4 ?_
    refine wpAnyH_done (by kernel_rfl) ?_ _
    go_wp2
    refine bodyPost_ret (as_ rfl _ W8 w.heap.size _ _ _ _ _ _ rfl rfl rfl E8 Tryz.underlying26 rfl (by kernel_rfl)) rfl ?_
    exact ⟨⟨_,rfl,M8⟩,hB8⟩
   ·have hSe:(S.toList==s.toList)=false:=by
     rw [beq_eq_false_iff_ne,ByteArray.toList_eq,ByteArray.toList_eq]
     exact fun e=>hSs (ByteArray.ext (Array.ext' e))
    rw [if_neg hSs] at hA4
    have:=hA4.out
    subst this
    obtain ⟨r0,r1,r2,r3,r4,r5⟩:=QB.sixM
    obtain ⟨g0,g1,g2,g3,g4,g5⟩:=fz6 QB
    go_wp2
    obtain ⟨E8,M8,hB8⟩:=an_ (p:=emptyP) QB hA0 (Nat.le_refl _) (emptyM w.heap.size w4)
    change bodyPost _ _ _ _ _ (put6 w4 w.heap.size (.int .i64 0) (.int .i64 0) (.slice none 0 0) (.slice none 0 0) (.slice none 0 0) (.slice none 0 0))
    generalize put6 w4 w.heap.size (.int .i64 0) (.int .i64 0) (.slice none 0 0) (.slice none 0 0) (.slice none 0 0) (.slice none 0 0)=W8 at *
    refine bodyPost_ret (as_ rfl _ W8 w.heap.size _ _ _ _ _ _ rfl rfl rfl E8 Tryz.underlying26 rfl (by kernel_rfl)) rfl ?_
    exact ⟨⟨_,rfl,M8⟩,hB8⟩
  ·have hAn:A=none:=by
    rw [hA2.out]
    obtain ⟨h1,_⟩:=hno.out
    have h3:=hab.out
    cases hn:numP Lb.data.toList with
    |none=>rfl
    |some n'=>
     rw [hn] at h1
     cases ha:ansO Tb.data.toList with
     |none=>rfl
     |some p'=>
      rw [ha] at h3
      exact absurd ⟨h1.symm,h3.symm⟩ hok
   subst hAn
   cases nb with
   |false=>
    obtain ⟨r0,r1,r2,r3,r4,r5⟩:=QB.sixM
    obtain ⟨g0,g1,g2,g3,g4,g5⟩:=fz6 QB
    go_wp2
    obtain ⟨E8,M8,hB8⟩:=an_ (p:=emptyP) QB hA0 (Nat.le_refl _) (emptyM w.heap.size W3)
    change bodyPost _ _ _ _ _ (put6 W3 w.heap.size (.int .i64 0) (.int .i64 0) (.slice none 0 0) (.slice none 0 0) (.slice none 0 0) (.slice none 0 0))
    generalize put6 W3 w.heap.size (.int .i64 0) (.int .i64 0) (.slice none 0 0) (.slice none 0 0) (.slice none 0 0) (.slice none 0 0)=W8 at *
    refine bodyPost_ret (as_ rfl _ W8 w.heap.size _ _ _ _ _ _ rfl rfl rfl E8 Tryz.underlying26 rfl (by kernel_rfl)) rfl ?_
    exact ⟨⟨_,rfl,M8⟩,hB8⟩
   |true=>
    cases ab with
    |false=>
     obtain ⟨r0,r1,r2,r3,r4,r5⟩:=QB.sixM
     obtain ⟨g0,g1,g2,g3,g4,g5⟩:=fz6 QB
     go_wp2
     obtain ⟨E8,M8,hB8⟩:=an_ (p:=emptyP) QB hA0 (Nat.le_refl _) (emptyM w.heap.size W3)
     change bodyPost _ _ _ _ _ (put6 W3 w.heap.size (.int .i64 0) (.int .i64 0) (.slice none 0 0) (.slice none 0 0) (.slice none 0 0) (.slice none 0 0))
     generalize put6 W3 w.heap.size (.int .i64 0) (.int .i64 0) (.slice none 0 0) (.slice none 0 0) (.slice none 0 0) (.slice none 0 0)=W8 at *
     refine bodyPost_ret (as_ rfl _ W8 w.heap.size _ _ _ _ _ _ rfl rfl rfl E8 Tryz.underlying26 rfl (by kernel_rfl)) rfl ?_
     exact ⟨⟨_,rfl,M8⟩,hB8⟩
    |true=>exact absurd ⟨rfl,rfl⟩ hok
 ·have hAn:A=none:=by rw [<-hA.out,rsO,if_neg hb]
  subst hAn
  go_enter Tryz.func18,Tryz.ntmps18
  go_upto_region 1 with fail
  generalize w.alloc (.cells #[.int .i64 0,.int .i64 0,.slice none 0 0,.slice none 0 0,.slice none 0 0,.slice none 0 0] 26)=W0 at *
  rcases Nat.lt_or_ge 120000 s.size with h1 | h1
  ·have h2:¬ ((s.size:Int)<8):=by omega
   obtain ⟨r0,r1,r2,r3,r4,r5⟩:=QB.sixM
   obtain ⟨g0,g1,g2,g3,g4,g5⟩:=fz6 QB
   go_wp2
   obtain ⟨E8,M8,hB8⟩:=an_ (p:=emptyP) QB hA0 (Nat.le_refl _) (emptyM w.heap.size W0)
   change bodyPost _ _ _ _ _ (put6 W0 w.heap.size (.int .i64 0) (.int .i64 0) (.slice none 0 0) (.slice none 0 0) (.slice none 0 0) (.slice none 0 0))
   generalize put6 W0 w.heap.size (.int .i64 0) (.int .i64 0) (.slice none 0 0) (.slice none 0 0) (.slice none 0 0) (.slice none 0 0)=W8 at *
   refine bodyPost_ret (as_ rfl _ W8 w.heap.size _ _ _ _ _ _ rfl rfl rfl E8 Tryz.underlying26 rfl (by kernel_rfl)) rfl ?_
   exact ⟨⟨_,rfl,M8⟩,hB8⟩
  ·have h2:(s.size:Int)<8:=by omega
   have h3:¬ ((120000:Int)<s.size):=by omega
   obtain ⟨r0,r1,r2,r3,r4,r5⟩:=QB.sixM
   obtain ⟨g0,g1,g2,g3,g4,g5⟩:=fz6 QB
   go_wp2
   obtain ⟨E8,M8,hB8⟩:=an_ (p:=emptyP) QB hA0 (Nat.le_refl _) (emptyM w.heap.size W0)
   change bodyPost _ _ _ _ _ (put6 W0 w.heap.size (.int .i64 0) (.int .i64 0) (.slice none 0 0) (.slice none 0 0) (.slice none 0 0) (.slice none 0 0))
   generalize put6 W0 w.heap.size (.int .i64 0) (.int .i64 0) (.slice none 0 0) (.slice none 0 0) (.slice none 0 0) (.slice none 0 0)=W8 at *
   refine bodyPost_ret (as_ rfl _ W8 w.heap.size _ _ _ _ _ _ rfl rfl rfl E8 Tryz.underlying26 rfl (by kernel_rfl)) rfl ?_
   exact ⟨⟨_,rfl,M8⟩,hB8⟩
end Go.Proofs.YtigldeccfpkdmaaGreatDoor
