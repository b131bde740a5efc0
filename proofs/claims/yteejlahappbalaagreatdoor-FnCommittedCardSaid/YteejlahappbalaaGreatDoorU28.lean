/- Texts of pools, read and written; what is drawn. -/
import Derived.Test.YteejlahappbalaaGreatDoorU27
set_option maxHeartbeats 20000000
set_option maxRecDepth 100000
namespace Go.Proofs.YteejlahappbalaaGreatDoor
open Go Go.RowKit Go.BigFrame Tryz
theorem KC (B:Nat)(_:0<B)(v:Value)(p:Po)(o:Opr)(w:World)(h:AM B w v p)(hNn:NnE v)(hBw:B<=w.heap.size)(hd:A7 p)(hp:Ai p=true)(hop:opB o=true)(hk:o.k=2∨o.k=3∨o.k=5∨o.k=10) :
  Calls prog 167 #[v,.agg #[.int .i64 o.k,.string o.vol,.string o.file,.string o.to,.string o.into,.int .i64 o.at',.int .i64 o.fr,.int .i64 o.ln,.string o.data]] w (Pe B w (Dn p o) (Bb p o).2.2.length):=by
 have hU:=h.at';obtain⟨ea,en,ec,va,vn,vc,ra,rn,rc,la,ln,lc,rows,rfl,h1,⟨h2,h3⟩,h4,h5,h6⟩:=h;have hV:=h3.rows.vs h2;have z3:vn<=4194304:=by rw[<-hV.len];exact hd.2.2.1
 obtain⟨nm,hq⟩:∃ nm,nm=if o.k=5 then o.to else o.vol:=⟨_,rfl⟩;obtain⟨fl,hE⟩:∃ fl,fl=if o.k=5 then o.into else o.file:=⟨_,rfl⟩;have hN:Hid (nm=(if o.k=5 then o.to else o.vol)∧fl=if o.k=5 then o.into else o.file):=⟨hq,hE⟩;obtain⟨R,hR⟩:∃ R,Hid (Dn p o=R):=⟨_,rfl⟩;obtain⟨m,hm⟩:∃ m,Hid ((Bb p o).2.2.length=m):=⟨_,rfl⟩;rw[hR.out,hm.out];rcases hk with hk | hk | hk | hk;all_goals
  simp[hk] at hq hE;go_enter func167,ntmps167;go_wp2_with fail;refine (ak_ B _ _ ea en ec va vn vc ra rn rc la ln lc p.vs _ _ (hV.below sM) z3).mono ?_;rintro e w1 ⟨rfl,hP⟩;obtain⟨F,hB,hs⟩:=Ul hP rfl;clear hP;rw[<-hq];rcases hv:CQ p.vs nm with _ | i
  ·simp only[Gj];go_wp2;exact GC 3 (by rw[<-hR.out];simp[Dn,hk,<-hq,hv]) sJ hBw hB F rfl rfl rfl rfl
  obtain⟨x,vb,pa,pn,pc,irows,hx,rfl,qb,qq,qr,hr,RI,TI,qi⟩:=Ru h2 h3 hv;have e2:w1.cell? ⟨vb,i*4+2,none⟩=some (.bool x.fx):=(h2.below hB).cellAt (j:=2) hr rfl;simp only[Gj];by_cases hf:x.fx=true
  ·rw[hf] at e2;go_wp2;exact GC 6 (by rw[<-hR.out];simp[Dn,hk,<-hq,hv,hx,hf]) sJ hBw hB F rfl rfl rfl rfl
  rw[Bool.not_eq_true] at hf;rw[hf] at e2;go_wp2_with fail;refine (aH_ B _ p _ _ _ (hU.below hB) hd).mono ?_;rintro e wA ⟨hb,hL⟩;obtain⟨qa,qn,qc,rfl,hQ⟩:=hb.uni;clear hb e2;replace F:=Ch F hL;replace hB:=Aa hB hL;replace hs:=Zl hs hL.size;clear hL;have hg:Ae ((BK p.vs nm fl).getD [])=true:=bH_ hp;simp only[<-hq,<-hE] at hQ ⊢;have qC:Hid _:=hq;have zP:Hid _:=hE;clear hq hE;have jh:Hid (x.fx=false):=hf;clear hf;have hF:=hop;simp[opB,hk,inB] at hF
 focus
  obtain⟨eb,rfl,h7⟩:=h1.addrN (hNn _ _ _ _ _ _ _ _ rfl)
  have hY:At o.data=true:=by simp[hF]
  have qm:=bl_ hY
  have hZ:o.data.size<=20:=by simp[At] at hY;omega
  go_wp2_with fail
  refine (gK_ p.size eb 0 en ec p.ex o.data _ (h1.sl.below hB) hd.2.1 (by rw[<-h1.sl.len];exact hd.1) h7 sH).mono ?_
  rintro e wP ⟨hb,hD⟩
  have hl:=hs
  replace F:=Ch F hD
  replace hB:=Aa hB hD
  replace hs:=Zl hs hD.size
  replace hQ:=hQ.below hD
  clear hD
  rcases hG:Eo p.size p.ex o.data with _ | ⟨L,a⟩
  ·rw[hG] at hb
   replace hb:e=_:=hb
   subst hb
   go_wp2
   exact GC 5 (by rw[<-hR.out];simp[Dn,Bb,hk,<-qC.out,hv,hx,jh.out,hG]) sJ hBw hB F rfl rfl rfl rfl
  rw[hG] at hb
  obtain⟨xa,xn,xc,rfl,RX⟩:=hb
  have ql:=gw_ hG
  have he:Ae [⟨a,0,o.data.size⟩]=true:=by
   have h0:(a==0)=false:=ZV.2 sH
   simp[Ae,pgo,Al,h0];omega
  have F2:=Sy (x:=.slice xa xn xc) F
  have hM:=CE wP w.heap.size 2 (.slice xa xn xc)
  have RE:=(RX.mono (show B<=_ by omega)).ty hM (aa_ F.1.1) sJ
  have hW:=kV_ hQ F.1.1 2 (.slice xa xn xc)
  have hT:=hB.grown hM hB.size (fun j e=>by cases e;exact Zd _)
  have hw:Bb p o=(0,L,Dr ((BK p.vs nm fl).getD []) o.at' [⟨a,0,o.data.size⟩]):=by simp[Bb,hk,<-qC.out,<-zP.out,hG]
  generalize (BK p.vs nm fl).getD []=Q at *
  go_wp2_with fail
  refine (cM_ qa qn qc Q o.at' _ 1 1 [⟨a,0,o.data.size⟩] _ (hW.below sM) (ck_ _ ⟨a,0,o.data.size⟩ _ _ sK) hg he sH sH).mono ?_
  rintro e wL ⟨⟨pa1,pn1,pc1,rfl,hA,Rp⟩,ha⟩
  replace ha:Below (wP.setCell ⟨w.heap.size,2,none⟩ (.slice xa xn xc)).heap.size (wP.setCell ⟨w.heap.size,2,none⟩ (.slice xa xn xc)) wL:=Aa sM ha
  replace Rp:=Rp.mono (show B<=_ by simp;omega)
  replace F:=Ch F2 ha
  replace hB:=Aa hT ha
  replace RE:=RE.below ha
  clear F2 hM hW hT ha hs RX hl
 rotate_left
 focus
  rcases kC:BK p.vs nm fl with _ | q
  ·simp only[Option.isSome_none]
   go_wp2
   exact GC 3 oS sJ hBw hB F rfl rfl rfl rfl
  rw[kC] at hQ hg
  simp only[Yw,Option.isSome_some] at hQ hg ⊢
  obtain⟨hJ,hc,hl⟩:=Kw hg hQ
  go_wp2_with fail
  refine (aZ_ qa qn qc q _ hQ sH hc).mono ?_
  rintro e wB ⟨rfl,rfl⟩
  have RE:=h1.below hB
  by_cases hgt:Ar q<o.ln
  focus
   have he:Ae [⟨0,0,o.ln-Ar q⟩]=true:=by simp[Ae,pgo,Al];omega
   have qf:IntKind.i64.wrap (o.ln-Ar q)=o.ln-Ar q:=rj
   have hw:Bb p o=(0,p.ex,Dr q (Ar q) [⟨0,0,o.ln-Ar q⟩]):=by simp[Bb,hk,<-qC.out,<-zP.out,kC,hgt]
   go_wp2_with fail
   refine (cM_ qa qn qc q (Ar q) _ 1 1 [⟨0,0,o.ln-Ar q⟩] _ (hQ.below sM) (ck_ _ ⟨0,0,o.ln-Ar q⟩ _ _ sK) hg he hl.1 hl.2).mono ?_
   rintro e wL ⟨⟨pa1,pn1,pc1,rfl,hA,Rp⟩,ha⟩
   replace ha:Below wB.heap.size wB wL:=Aa sM ha
   replace Rp:=Rp.mono (show B<=_ by simp;omega)
  rotate_left
  focus
   have hw:Bb p o=(0,p.ex,Aw [] (slp 0 o.ln 0 q)):=by simp[Bb,hk,<-qC.out,<-zP.out,kC,hgt]
   go_wp2_with fail
   refine (ba_ qa qn qc q 0 o.ln _ (hQ.below sM) hJ (hq_ hg) sH sH sH sH).mono ?_
   rintro e wL ⟨⟨pa1,pn1,pc1,rfl,hA,Rp⟩,ha⟩
   replace hA:pn1<=1000:=sH
   replace Rp:=Rp.mono (show B<=_ by omega)
  all_goals
   replace F:=Ch F ha
   replace hB:=Aa hB ha
   replace RE:=RE.below ha
   clear ha hs hl hc
 rotate_left 2
 focus
  go_wp2_with fail
  refine (aH_ B _ p _ _ _ (hU.below hB) hd).mono ?_
  rintro e wB ⟨hb,hC⟩
  obtain⟨sa,sn,sc,rfl,hy⟩:=hb.uni
  replace F:=Ch F hC
  replace hB:=Aa hB hC
  replace hs:=Zl hs hC.size
  replace hQ:=hQ.below hC
  clear hb hC
  rcases hH:BK p.vs o.vol o.file with _ | q
  all_goals
   rw[hH] at hy
   simp only[Yw,Option.isSome_some,Option.isSome_none] at hy ⊢
  focus
   obtain⟨_,_,_,_,_,_,o6,o7,_⟩:=F.2.1.2
   go_wp2_with fail
   have g6:=Ad o6
   have g7:=Ad o7
   have hO:=aA_ wB
   clear o6 o7
   refine ab_ sI sI ?_
   repeat (go_big_quiet_step (fail))
   refine wpQuiet_nil ?_
   intro wC hI
   have hh:=ah_ hI
   clear hI g6 g7 hO
   replace F:=Ch F hh
   replace hB:=Aa hB hh
   go_wp2
   exact GC 3 (by rw[<-hR.out];simp[Dn,Bb,hk,<-qC.out,hv,hx,jh.out,hH]) sJ hBw hB F rfl rfl rfl rfl
  have hz:Ae q=true:=(bb_ hp hH).1
  obtain⟨hJ,hc,hl⟩:=Kw hz hy
  have qf:IntKind.i64.wrap (o.fr+o.ln)=o.fr+o.ln:=rj
  have ho:=fun (u:World) (hu:Below wB.heap.size wB u)=>aZ_ sa sn sc q u (hy.below hu) sH hc
  obtain⟨_,_,_,_,_,_,o6,o7,_⟩:=F.2.1.2
  by_cases hgt:Ar q<o.fr+o.ln
  all_goals
   go_wp2_with fail
   have g6:=Ad o6
   have g7:=Ad o7
   have hO:=aA_ wB
   clear o6 o7
   refine ab_ sI sI ?_
   repeat (go_big_quiet_step (first | (go_at_call 211;exact am_ (ho _ (Grw.h _)))))
   refine wpQuiet_nil ?_
   intro wC hI
   have hh:=ah_ hI
   clear hI g6 g7 hO ho
   replace F:=Ch F hh
   replace hB:=Aa hB hh
   replace hQ:=hQ.below hh
   replace hy:=hy.below hh
   replace hs:=Zl hs hh.size
   clear hh
  ·go_wp2
   exact GC 3 (by rw[<-hR.out];simp[Dn,Bb,hk,<-qC.out,hv,hx,jh.out,hH,hgt]) sJ hBw hB F rfl rfl rfl rfl
  have hw:Bb p o=(0,p.ex,Dr ((BK p.vs nm fl).getD []) o.at' (Aw [] (slp o.fr (o.fr+o.ln) 0 q))):=by simp[Bb,hk,<-qC.out,<-zP.out,hH,hgt]
  have he:=nG_ hz o.fr (o.fr+o.ln)
  generalize (BK p.vs nm fl).getD []=Q at *
  obtain⟨_,_,_,_,_,o5,o6,o7,_⟩:=F.2.1.2
  go_wp2_with fail
  have hj:∀ u,Below wC.heap.size wC u->(fun u=>u.cell? ⟨w.heap.size+1,5,none⟩=some (.int .i64 o.at')∧u.cell? ⟨w.heap.size+1,6,none⟩=some (.int .i64 o.fr)∧u.cell? ⟨w.heap.size+1,7,none⟩=some (.int .i64 o.ln)) u:=fun u hu=>⟨Ab hu o5,Ab hu o6,Ab hu o7⟩
  have hX:=hj wC.drew ((Yg _ _).drew)
  refine ar_ (S:=(fun u=>u.cell? ⟨w.heap.size+1,5,none⟩=some (.int .i64 o.at')∧u.cell? ⟨w.heap.size+1,6,none⟩=some (.int .i64 o.fr)∧u.cell? ⟨w.heap.size+1,7,none⟩=some (.int .i64 o.ln))) 13 sI sI ?_
  refine tk 0 ?_
  refine tk 1 ?_
  refine tk 2 ?_
  refine tk 3 ?_
  refine tk 4 ?_
  refine tk 5 ?_
  refine tk 6 ?_
  refine tk 7 ?_
  refine tk 8 ?_
  refine tk 9 ?_
  refine tk 10 ?_
  refine Ag (i:=11) sI rfl (fun K hK=>?_)
  go_simp
  refine (ba_ sa sn sc q o.fr (o.fr+o.ln) _ (hy.below ((Yg _ _).drew)) hJ (hq_ hz) sH sH sH sH).mono ?_
  rintro e wD ⟨⟨da,dn,dc,rfl,qp,RD⟩,ht⟩
  replace ht:Below wC.heap.size wC wD:=Aa ((Yg _ _).drew) ht
  have qs:=ht.size
  dsimp only
  refine hK.out _ _ (hj _ ht) (fun hHeld=>?_)
  clear hK K
  try simp only[Act.put,Yj,Yq,Yr]
  refine Ag (i:=12) sI rfl (fun K hK=>?_)
  go_simp
  refine (cM_ qa qn qc Q o.at' da dn dc _ _ (hQ.below ht) RD.sl hg he sH sH).mono ?_
  rintro e wL ⟨⟨pa1,pn1,pc1,rfl,hA,Rp⟩,ha⟩
  replace Rp:=Rp.mono (show B<=_ by omega)
  replace ha:=Aa ht ha
  dsimp only
  refine hK.out _ _ (hj _ ha) (fun hHeld=>?_)
  clear hK K
  try simp only[Act.put,Yj,Yq,Yr]
  refine wpAnyH_done sI ?_ _
  refine lastL rfl ?_
  have RE:=(h1.below hB).below ha
  replace F:=Ch F ha
  replace hB:=Aa hB ha
  clear o5 o6 o7 hj hX hHeld ha ht hs hl hc
 rotate_left
 focus
  rcases kC:BK p.vs nm fl with _ | q
  ·simp only[Option.isSome_none]
   go_wp2
   exact GC 3 oS sJ hBw hB F rfl rfl rfl rfl
  rw[kC] at hQ hg
  simp only[Yw,Option.isSome_some] at hQ hg ⊢
  obtain⟨hJ,hc,hl⟩:=Kw hg hQ
  have RE:=h1.below hB
  have he:Ae [⟨0,0,o.ln⟩]=true:=by simp[Ae,pgo,Al];omega
  have hw:Bb p o=(0,p.ex,Dr q o.at' [⟨0,0,o.ln⟩]):=by simp[Bb,hk,<-qC.out,<-zP.out,kC]
  go_wp2_with fail
  refine (aZ_ qa qn qc q _ hQ sH hc).mono ?_
  rintro e wB ⟨rfl,rfl⟩
  go_wp2_with fail
  refine (cM_ qa qn qc q o.at' _ 1 1 [⟨0,0,o.ln⟩] _ (hQ.below sM) (ck_ _ ⟨0,0,o.ln⟩ _ _ sK) hg he sH sH).mono ?_
  rintro e wL ⟨⟨pa1,pn1,pc1,rfl,hA,Rp⟩,ha⟩
  replace ha:Below wB.heap.size wB wL:=Aa sM ha
  replace Rp:=Rp.mono (show B<=_ by simp;omega)
  replace F:=Ch F ha
  replace hB:=Aa hB ha
  replace RE:=RE.below ha
  clear ha hs hl hc
 all_goals
  have h9:m<=1000:=by rw[<-hm.out,hw];exact Zl (Zm Rp.sl.len) hA
  have hS:=hR.out.symm.trans (PW hN hv hx jh hw);have RL:=h2.below hB;have e0:wL.cell? ⟨vb,i*4,none⟩=some (.int .i64 x.id):=RL.cellAt (j:=0) hr rfl;have e1:wL.cell? ⟨vb,i*4+1,none⟩=some (.string x.nm):=RL.cellAt (j:=1) hr rfl;have e2:wL.cell? ⟨vb,i*4+2,none⟩=some (.bool x.fx):=RL.cellAt (j:=2) hr rfl;have e3:wL.cell? ⟨vb,i*4+3,none⟩=some (.slice pa pn pc):=RL.cellAt (j:=3) hr rfl;have k3:=F.1.2.1.2.2.2.1;have hs:=hB.size;have h8:pn<=4194304:=by have:=(hd.2.2.2.1 x qi).2.1;rw[(TI.rows.its RI).len] at this;exact this
  replace hS:Hid _:=hS;clear hw;go_wp2_with fail;have FH:Hid _:=F;clear F;have hj:∀ u,Below wL.heap.size wL u->SV w vb i x pa pn pc vn vc u:=fun u hu=>⟨Ab hu k3,Ab hu e0,Ab hu e1,Ab hu e2,Ab hu e3⟩;have hX:=hj wL.drew ((Yg _ _).drew);refine ar_ (S:=SV w vb i x pa pn pc vn vc) 12 sI sI ?_;refine tk 0 ?_;refine tk 1 ?_;refine tk 2 ?_;refine tk 3 ?_;refine tk 4 ?_;refine tk 5 ?_;refine tk 6 ?_;refine tk 7 ?_;refine tk 8 ?_;refine tk 9 ?_;refine Ag (i:=10) sI rfl (fun K hK=>?_);go_simp;refine (cB_ B x.id x.nm x.fx x.its pa pn pc irows fl pa1 pn1 pc1 _ _ ((RI.below hB).below ((Yg _ _).drew)) ((TI.below hB).below ((Yg _ _).drew)) (Rp.below ((Yg _ _).drew)) h8).mono ?_;rintro e w5 ⟨⟨a2,n2,cap2,nrows,rfl,RN,TN⟩,hn⟩;replace hn:Below wL.heap.size wL w5:=Aa ((Yg _ _).drew) hn;dsimp only;refine hK.out _ _ (hj _ hn) (fun hHeld=>?_);clear hK K;(try simp only[Act.put,Yj,Yq,Yr]);refine tk 11 ?_;refine wpAnyH_done sI ?_ _;refine lastL rfl ?_;obtain⟨vcs,VB⟩:=(RL.below hn).blkAt;have z0:=VB.frozen (i*4);have z1:=VB.frozen (i*4+1);have z2:=VB.frozen (i*4+2);have z4:=VB.frozen (i*4+3);have v0:=hj _ hn;have G:=PS (x:=x) (Ch FH.out hn) (Aa hB hn) hBw h2 h3 hr qb (RE.below hn) h4 h5 h6 (RN.mono (by rw[World.size_drew];omega)) TN;clear hj VB RN TN FH e0 e1 e2 e3 k3;go_wp2;exact Su hS.out h9 hBw G.2 rfl rfl rfl rfl
end Go.Proofs.YteejlahappbalaaGreatDoor
