/- Ops as plain data: when one is right; names and lengths. -/
import Derived.Test.YteejlahappbalaaGreatDoorU06
set_option maxHeartbeats 20000000
set_option maxRecDepth 100000
namespace Go.Proofs.YteejlahappbalaaGreatDoor
section
open Go Go.RowKit Go.BigFrame Tryz
variable{file s vol:ByteArray}{ps:List Pt}{vs:List Vo}{i k:Nat}
theorem np_ {x:Vo}(h:vs[k]?=some x):(CQ (vs.drop k) s).map (·+k)=if (x.nm.toList==s.toList)=true then some k else (CQ (vs.drop (k+1)) s).map (·+(k+1)):=by
 unfold CQ;exact sd
theorem ku_ {vs:List It}{x:It}(h:vs[k]?=some x):(itI (vs.drop k) s).map (·+k)=if (x.nm.toList==s.toList)=true then some k else (itI (vs.drop (k+1)) s).map (·+(k+1)):=by
 unfold itI;exact sd
theorem pC_ (h:CQ vs s=some i):i<vs.length:=by
 unfold CQ at h;rw[ZA] at h;exact h.1
theorem pY_ {vs:List It}(h:itI vs s=some i):i<vs.length:=by
 unfold itI at h;rw[ZA] at h;exact h.1
theorem l9{p:Prop}(h:p:=by
 have jN:(0:Int)<=k:=sH;clear hx hI
 cases hs:(x.nm.toList==s.toList)
 ·rw[hs] at qh;simp only[Zj,if_false] at qh;have jj:¬ x.nm.toList=s.toList:=by simpa using hs
  go_wp2;go_roundw
  case rel=>exact⟨k+1,sH,sQ,qh,hB⟩
  case measure=>simp[intOf];omega
 ·rw[hs] at qh;simp only[if_true] at qh;have jj:x.nm.toList=s.toList:=by simpa using hs
  go_wp2;go_returns;exact⟨by rw[qh.out];rfl,qe⟩):p:=h
theorem sG{p:Prop}(h:p:=by go_wp2;go_returns;exact⟨by rw[hI.out,Ze (Zm qg.out)];rfl,qe⟩):p:=h
theorem ak_ (B:Nat)(size next:Int)(ea:Option Addr)(en ec:Nat)(va:Option Addr)(vn vc:Nat)(ra:Option Addr)(rn rc:Nat)(la:Option Addr)(ln lc:Nat)(vs:List Vo)(s:ByteArray)(w:World)(h2:Ek B w va vn vs)(z3:vn<=4194304):
  Calls prog 207 #[.agg #[.int .i64 size,.int .i64 next,.slice ea en ec,.slice va vn vc,.slice ra rn rc,.slice la ln lc],.string s] w fun e w'=>e=.returned (.int .i64 (Gj (CQ vs s)))∧Below w.heap.size w w':=by
 have qg:Hid (vs.length=vn):=h2.len;have hR:Hid (CQ vs s=(CQ (vs.drop 0) s).map (·+0)):=dI;generalize CQ vs s=R at *;have C:=(Blk.new w #[.int .i64 size,.int .i64 next,.slice ea en ec,.slice va vn vc,.slice ra rn rc,.slice la ln lc] 33);have qe:Below w.heap.size w (w.alloc (.cells #[.int .i64 size,.int .i64 next,.slice ea en ec,.slice va vn vc,.slice ra rn rc,.slice la ln lc] 33)):=sM;go_enter func207,ntmps207;go_wp2_with fail;generalize w.alloc (.cells #[.int .i64 size,.int .i64 next,.slice ea en ec,.slice va vn vc,.slice ra rn rc,.slice la ln lc] 33)=W0 at *;go_loopw [5] (fun ix wr=>∃ (k:Nat),k<=vn∧ix=.int .i64 k∧Hid (R=(CQ (vs.drop k) s).map (·+k))∧Below W0.heap.size W0 wr) (fun ix _=>vn-(intOf ix).toNat)
 case atStart=>exact⟨0,Zg _,rfl,hR,Yg _ _⟩
 case round=>
  clear hR;obtain⟨k,hk,rfl,hI,hB⟩:=hrel;have d3:=(C.below hB).cell 3;replace qe:=Aa qe hB;simp only[lgA,lgB,lgC] at d3;by_cases hlt:k<vn
  ·obtain⟨b,o,x,qa,qn,qc,rfl,hx,e0,e1,e2,e3,hP,_,_⟩:=b5_ (h2.below qe) hlt;have qh:Hid (R=if (x.nm.toList==s.toList)=true then some k else (CQ (vs.drop (k+1)) s).map (·+(k+1))):=by show _=_;rw[hI.out,np_ hx]
   have ha:(k:Int)<vn:=sH;exact l9
  ·obtain rfl:k=vn:=sH;exact sG
theorem cf_ (B:Nat)(id:Int)(nm:ByteArray)(fx:Bool)(pa:Option Addr)(pn pc:Nat)(its:List It)(s:ByteArray)(w:World)(h2:BT B w pa pn its)(z3:pn<=4194304):
  Calls prog 214 #[.agg #[.int .i64 id,.string nm,.bool fx,.slice pa pn pc],.string s] w fun e w'=>e=.returned (.int .i64 (Gj (itI its s)))∧Below w.heap.size w w':=by
 have qg:Hid (its.length=pn):=h2.len;have hR:Hid (itI its s=(itI (its.drop 0) s).map (·+0)):=dI;generalize itI its s=R at *;have C:=(Blk.new w #[.int .i64 id,.string nm,.bool fx,.slice pa pn pc] 115);have qe:Below w.heap.size w (w.alloc (.cells #[.int .i64 id,.string nm,.bool fx,.slice pa pn pc] 115)):=sM;go_enter func214,ntmps214;go_wp2_with fail;generalize w.alloc (.cells #[.int .i64 id,.string nm,.bool fx,.slice pa pn pc] 115)=W0 at *;go_loopw [5] (fun ix wr=>∃ (k:Nat),k<=pn∧ix=.int .i64 k∧Hid (R=(itI (its.drop k) s).map (·+k))∧Below W0.heap.size W0 wr) (fun ix _=>pn-(intOf ix).toNat)
 case atStart=>exact⟨0,Zg _,rfl,hR,Yg _ _⟩
 case round=>
  clear hR;obtain⟨k,hk,rfl,hI,hB⟩:=hrel;have d3:=(C.below hB).cell 3;replace qe:=Aa qe hB;simp only[lgA,lgB,lgC] at d3;by_cases hlt:k<pn
  ·obtain⟨b,o,x,qa,qn,qc,rfl,hx,e0,e1,hP,_,_,_⟩:=bO_ (h2.below qe) hlt;have qh:Hid (R=if (x.nm.toList==s.toList)=true then some k else (itI (its.drop (k+1)) s).map (·+(k+1))):=by show _=_;rw[hI.out,ku_ hx]
   have ha:(k:Int)<pn:=sH;exact l9
  ·obtain rfl:k=pn:=sH;exact sG
def Pf (B:Nat)(e:Ending)(w':World):Option (List Pt)->Prop
 |none=>e=.returned (.tuple #[.slice none 0 0,.bool false])
 |some ps=>∃ pa pn pc,e=.returned (.tuple #[.slice pa pn pc,.bool true])∧BH w' pa pn ps∧Hd B pa pn pc∧ps.length<=4194304
theorem aH_ (B:Nat)(v:Value)(p:Po)(vol file:ByteArray)(w:World)(h:AC B w v p)(hd:A7 p):
  Calls prog 208 #[v,.string vol,.string file] w fun e w'=>Pf B e w' (BK p.vs vol file)∧Below w.heap.size w w':=by
 obtain⟨ea,en,ec,va,vn,vc,ra,rn,rc,la,ln,lc,rfl,⟨h1,k1⟩,⟨h2,k2⟩,⟨h3,k3⟩,h4,k4⟩:=h;obtain⟨z1,z2,z3,z4,z5,z6,z7,z8⟩:=hd;rw[h2.len] at z3;obtain⟨size,next,ex,vs,rf,lt⟩:=p;simp only at h1 h2 h3 h4 z2 z4 z6 z8 ⊢;have hR:Hid (BK vs vol file=(CQ vs vol).bind fun i=>vs[i]?.bind fun v=>(itI v.its file).bind fun k=>v.its[k]?.map (·.ps)):=rfl;generalize BK vs vol file=R at *;have C:=(Blk.new w #[.int .i64 size,.int .i64 next,.slice ea en ec,.slice va vn vc,.slice ra rn rc,.slice la ln lc] 33);have he:Below w.heap.size w (w.alloc (.cells #[.int .i64 size,.int .i64 next,.slice ea en ec,.slice va vn vc,.slice ra rn rc,.slice la ln lc] 33)):=sM;go_enter func208,ntmps208;go_wp2_with fail;generalize w.alloc (.cells #[.int .i64 size,.int .i64 next,.slice ea en ec,.slice va vn vc,.slice ra rn rc,.slice la ln lc] 33)=W0 at *;refine (ak_ B size next ea en ec va vn vc ra rn rc la ln lc vs vol _ (h2.below he) z3).mono ?_;rintro e w1 ⟨rfl,qe⟩;have C1:=C.below qe;replace qe:=Aa he qe;clear C he;have d3:=C1.cell 3;simp only[lgA,lgB,lgC] at d3
 cases hc:CQ vs vol with
 |none=>
  rw[hc] at hR;replace hR:Hid (R=none):=hR;rw[show Gj none=-1 from rfl];clear hc;exact pP
 |some i=>
  rw[hc] at hR;rw[show Gj (some i)=(i:Int) from rfl];have hf:=pC_ hc;rw[h2.len] at hf;clear hc;obtain⟨b,o,x,qa,qn,qc,rfl,hx,e0,e1,e2,e3,hP,hH,hm⟩:=b5_ (h2.below qe) hf;replace hR:Hid (R=(itI x.its file).bind fun k=>x.its[k]?.map (·.ps)):=by show _=_;rw[hR.out,YO,hx,YO]
  obtain⟨m1,m2,m3⟩:=z4 x (Zc hx);have hh:Hid (x.its.length=qn):=hP.len;rw[hh.out] at m2;have hp:(i:Int)<vn:=sH;have hq:(0:Int)<=i:=sH;clear hx;go_wp2_with fail;refine (cf_ B x.id x.nm x.fx qa qn qc x.its file _ hP m2).mono ?_;rintro e w2 ⟨rfl,ha⟩;have C2:=C1.below ha;have hk:=hP.below ha;have f3:=Ab ha e3;replace ha:=Aa qe ha;clear C1 qe d3 e0 e1 e2 e3 hP;have d3:=C2.cell 3;simp only[lgA,lgB,lgC] at d3
  cases hb:itI x.its file with
  |none=>
   rw[hb] at hR;replace hR:Hid (R=none):=hR;rw[show Gj none=-1 from rfl];clear hb;go_wp2;go_returns;exact⟨rG,ha⟩
  |some j=>
   rw[hb] at hR;rw[show Gj (some j)=(j:Int) from rfl];have hg:=pY_ hb;rw[hh.out] at hg;clear hb;obtain⟨b',o',y,pa,pn,pc,rfl,hy,g0,g1,hl,hj,_,_⟩:=bO_ hk hg;replace hR:Hid (R=some y.ps):=by show _=_;rw[hR.out,YO,hy];rfl
   obtain⟨_,m5⟩:=m3 y (Zc hy);have hn:(j:Int)<qn:=sH;have ho:(0:Int)<=j:=sH;clear hy;go_wp2;go_returns;exact⟨by rw[hR.out];exact⟨pa,pn,pc,rfl,hl,hj,m5⟩,ha⟩
theorem lQ_ (h:BK vs vol file=some ps):∃ v∈vs,∃ x∈v.its,x.ps=ps:=by
 unfold BK at h;simp only[Option.bind_eq_some_iff,ZW] at h;obtain⟨i,_,v,hv,k,_,x,hx,rfl⟩:=h;exact⟨v,Zc hv,x,Zc hx,rfl⟩
theorem bb_ {p:Po}(hp:Ai p=true)(h:BK p.vs vol file=some ps):Ae ps=true∧(Ax ps p.ex).isSome=true:=by
 obtain⟨v,hv,x,hx,rfl⟩:=lQ_ h;obtain⟨_,h2,_⟩:=bL_ hp;obtain⟨h3,_⟩:=b0_ h2 v hv;simp only[itemsB,Zf] at h3;have h4:=db_ h3.2 x hx;refine⟨?_,h4⟩;unfold Ax at h4;split at h4
 ·rename_i hh;exact hh.1
 ·cases h4
end
section
open Go Go.RowKit
variable{x:It}{l:List It}
def Ev (x:It)(st:List It×Bool)(y:It):List It×Bool:=
 ((if (!st.2&&!(bl y.nm.toList x.nm.toList))=true then st.1++[x] else st.1)++(if (y.nm.toList==x.nm.toList)=true then [] else [y]),st.2||!(bl y.nm.toList x.nm.toList))
def MU (x:It)(st:List It×Bool):List It:=if st.2=true then st.1 else st.1++[x]
def HY (x:It)(l:List It)(k:Nat):List It×Bool:=(l.take k).foldl (Ev x) ([],false)
def Jp (x:It)(l:List It):List It:=MU x (l.foldl (Ev x) ([],false))
theorem nq_ {k:Nat}{y:It}(h:l[k]?=some y):HY x l (k+1)=Ev x (HY x l k) y:=by
 unfold HY;rw[ZK,h];simp
theorem om_ {n:Nat}(h:l.length=n):MU x (HY x l n)=Jp x l:=by
 unfold HY Jp;rw[Zk (Zm h)]
theorem kv_ (x:It):∀ (l:List It) (st:List It×Bool),(l.foldl (Ev x) st).1.length+(if (l.foldl (Ev x) st).2=true then 0 else 1)<=st.1.length+(if st.2=true then 0 else 1)+l.length
 |[],st=>Zd _
 |y::r,st=>by
  have h:=kv_ x r (Ev x st y);rw[YE]
  have h2:(Ev x st y).1.length+(if (Ev x st y).2=true then 0 else 1)<=st.1.length+(if st.2=true then 0 else 1)+1:=by
   unfold Ev;exact pG
  simp only[Zw];omega
theorem kw_ (x:It)(l:List It):(Jp x l).length<=l.length+1:=by
 have h:=kv_ x l ([],false);unfold Jp MU;exact pK
theorem hF_ (x:It):∀ (l:List It) (st:List It×Bool) (z:It),z∈(l.foldl (Ev x) st).1->z∈st.1∨z=x∨z∈l
 |[],st,z,h=>.inl h
 |y::r,st,z,h=>by
  rcases hF_ x r _ z h with h | h | h
  ·simp only[Ev] at h;rcases Zs.1 h with h | h
   ·split at h
    ·rcases Zs.1 h with h | h
     ·exact .inl h
     ·exact .inr (.inl sP)
    ·exact .inl h
   ·split at h
    ·cases h
    ·exact .inr (.inr (by simp at h;simp[h]))
  ·exact .inr (.inl h)
  ·exact .inr (.inr dh)
theorem kx_ {z:It}(h:z∈Jp x l):z=x∨z∈l:=by
 unfold Jp MU at h;split at h
 ·rcases hF_ x l _ z h with h | h
  ·cases h
  ·exact h
 ·rcases Zs.1 h with h | h
  ·rcases hF_ x l _ z h with h | h
   ·cases h
   ·exact h
  ·exact .inl sP
def Gh (l:List Pt):Prop:=∀ p∈l,0<=p.a
theorem mI_ {l:List Pt}{p:Pt}(h:Gh l)(hp:0<=p.a):Gh (BG l p):=by
 unfold BG;split
 ·intro q hq;simp at hq;subst hq;exact hp
 ·rename_i q hq;have hm:q∈l:=List.mem_of_getLast? hq;split
  ·intro z hz;rcases Zs.1 hz with hz | hz
   ·exact h z (List.dropLast_subset l hz)
   ·simp at hz;subst hz;exact h q hm
  ·intro z hz;rcases Zs.1 hz with hz | hz
   ·exact h z hz
   ·simp at hz;subst hz;exact hp
theorem fA{p:Prop}(h:p:=by simp[hq]):p:=h
theorem cg_:∀ {m l:List Pt},Gh l->Gh m->Gh (Aw l m)
 |[],l,h,_=>h
 |p::r,l,h,hm=>cg_ (m:=r) (mI_ h (hm p sK)) (fun q hq=>hm q fA)
theorem gk_ {fr to:Int}:∀ {l:List Pt} {st:Int},Gh l->Gh (slp fr to st l)
 |[],_,_=>by intro q hq;simp[slp] at hq
 |p::r,st,h=>by
  have hr:=gk_ (fr:=fr) (to:=to) (l:=r) (st:=st+p.n) (fun q hq=>h q fA);unfold slp;split
  ·intro q hq;rcases Zn.1 hq with rfl | hq
   ·unfold Fk;split
    ·exact YB _
    ·exact h p sK
   ·exact hr q hq
  ·exact hr
theorem dD_:Gh []:=fun p hp=>by cases hp
theorem fS_ {l m:List Pt}{at':Int}(h:Gh l)(hm:Gh m):Gh (Dr l at' m):=by
 unfold Dr;refine cg_ (cg_ ?_ hm) (cg_ dD_ (gk_ h));split
 ·exact mI_ (cg_ dD_ (gk_ h)) (YB _)
 ·exact cg_ dD_ (gk_ h)
theorem on_ {l:List Pt}(h:Ae l=true):Gh l:=fun p hp=>by
 have:=(ae_ h).2.1 p hp
 unfold Al at this;split at this
 ·rename_i h0;simp at h0;omega
 ·simp at this;omega
def Bb (p:Po)(o:Opr):Int×List Ex×List Pt:=
 let name:=if o.k=5 then o.to else o.vol;let file:=if o.k=5 then o.into else o.file;let was:=BK p.vs name file;let ps:=was.getD []
 if o.k=2 then
  match Eo p.size p.ex o.data with
  |none=>(5,p.ex,[])
  |some (l,a)=>(0,l,Dr ps o.at' [⟨a,0,o.data.size⟩])
 else if o.k=5 then
  match BK p.vs o.vol o.file with
  |none=>(3,p.ex,[])
  |some src=>if o.fr+o.ln > Ar src then (3,p.ex,[]) else (0,p.ex,Dr ps o.at' (Aw [] (slp o.fr (o.fr+o.ln) 0 src)))
 else
  match was with
  |none=>(3,p.ex,[])
  |some q=>if o.k=10 then (0,p.ex,Dr q o.at' [⟨0,0,o.ln⟩]) else if o.ln > Ar q then (0,p.ex,Dr q (Ar q) [⟨0,0,o.ln-Ar q⟩]) else (0,p.ex,Aw [] (slp 0 o.ln 0 q))
def Dn (p:Po)(o:Opr):Int×Po:=
 let name:=if o.k=5 then o.to else o.vol;let file:=if o.k=5 then o.into else o.file
 match CQ p.vs name with
 |none=>(3,p)
 |some i=>match p.vs[i]? with
  |none=>(3,p)
  |some v=>if v.fx=true then (6,p) else
   let r:=Bb p o
   if r.1=0 then (0,{p with ex:=r.2.1,vs:=p.vs.set i {v with its:=Jp ⟨file,r.2.2⟩ v.its}}) else (r.1,p)
def CS (p:Po)(o:Opr):Int×Po:=
 match CQ p.vs o.vol with
 |none=>if o.k=1 then (0,{p with vs:=p.vs++[⟨p.next,o.vol,false,[]⟩],next:=p.next+1}) else (3,p)
 |some i=>match p.vs[i]? with
  |none=>(3,p)
  |some v=>
   if o.k=1 then (4,p)
   else if o.k=6 then (match CQ p.vs o.to with | some _=>(4,p) | none=>(0,{p with vs:=p.vs++[⟨p.next,o.to,false,v.its⟩],next:=p.next+1}))
   else if o.k=7 then (0,{p with vs:=p.vs.take i++p.vs.drop (i+1)})
   else if o.k=8 then (if v.fx=true then (6,p) else (0,{p with vs:=p.vs.set i {v with fx:=true}}))
   else if o.k=4 then (if v.fx=true then (6,p) else match itI v.its o.file with | none=>(3,p) | some k=>(0,{p with vs:=p.vs.set i {v with its:=v.its.take k++v.its.drop (k+1)}}))
   else (0,p)
def Jn (l:List Ct):List Ct:=l.map (fun c=>⟨c.o,-c.n⟩)
def IF (p q:Po):Po:={q with lt:=q.lt++A4 (A9 q.vs) (Jn (A9 p.vs))}
end
section
open Go Go.RowKit Go.BigFrame Tryz
variable{α:Type}{s:ByteArray}{B b cap i n sz:Nat}{t:TypeId}{v:Value}{w w':World}{l:List α}{cs:α->List Value}
theorem bm_ (s n:Int)(ea:Option Addr)(en ec:Nat)(va:Option Addr)(vn vc:Nat)(ra:Option Addr)(rn rc:Nat)(la:Option Addr)(ln lc:Nat):Gq (.agg #[.int .i64 s,.int .i64 n,.slice ea en ec,.slice va vn vc,.slice ra rn rc,.slice la ln lc]):=⟨s,n,ea,en,ec,va,vn,vc,ra,rn,rc,la,ln,lc,rfl⟩
theorem ap_ {vs:List Vo}(h:CQ vs s=some i):i<vs.length:=by
 unfold CQ at h;obtain⟨h1,_⟩:=ZA.1 h;exact h1
theorem pZ_ {l:List It}(h:itI l s=some i):i<l.length:=by
 unfold itI at h;obtain⟨h1,_⟩:=ZA.1 h;exact h1
theorem oo_ (h:AH cs sz w (some ⟨b,0,none⟩) n l)(j cap:Nat)(hj:j<=n)(hc:n<=cap):AH cs sz w (if cap=j then some ⟨b,0,none⟩ else some ⟨b,0+j*sz,none⟩) (n-j) (l.drop j):=by
 by_cases hcj:cap=j
 ·rw[if_pos hcj];have h0:n-j=0:=sH;rw[h0,Ze fm];exact⟨rfl,fun i x hx=>by simp at hx⟩
 ·rw[if_neg hcj];exact h.drop j
theorem AM.tyP {p:Po}{row:Option Nat}(h:AM B w v p)(hg:w.grownBy w' row)(hr:BC w row 33):AM B w' v p:=by
 obtain⟨ea,en,ec,va,vn,vc,ra,rn,rc,la,ln,lc,rows,hv,h1,⟨h2,h3⟩,h4,h5,h6⟩:=h;exact⟨ea,en,ec,va,vn,vc,ra,rn,rc,la,ln,lc,rows,hv,h1.ty hg hr sJ,⟨h2.ty hg hr sJ,h3.ty hg hr sJ sJ⟩,h4.ty hg hr sJ,h5.ty hg hr sJ,h6⟩
theorem Ac.blkAt (h:Ac cs sz t w B (some ⟨b,0,none⟩) n cap l):∃ c,Blk w b c t:=by
 rcases h.own with⟨h0,_⟩ | ⟨b',e,_,_,_,c,hc,_⟩
 ·cases h0
 ·cases e;exact⟨c,hc⟩
end
end Go.Proofs.YteejlahappbalaaGreatDoor
