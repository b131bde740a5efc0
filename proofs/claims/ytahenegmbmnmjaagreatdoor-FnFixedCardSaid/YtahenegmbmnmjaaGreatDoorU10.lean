/- Ops as plain data: when one is right; names and lengths. -/
import Derived.Test.YtahenegmbmnmjaaGreatDoorU09
set_option maxHeartbeats 20000000
set_option maxRecDepth 100000
namespace Go.Proofs.YtahenegmbmnmjaaGreatDoor
section
open Go Go.RowKit Go.BigFrame Tryz
variable{file s vol:ByteArray}{ps:List Pt}{vs:List Vo}{i k:Nat}
theorem lO_ (k:Int)(vol file to into:ByteArray)(at' fr ln:Int)(data:ByteArray)(w:World)(hk:k=9):
  Calls prog 49 #[.agg #[.int .i64 k,.string vol,.string file,.string to,.string into,.int .i64 at',.int .i64 fr,.int .i64 ln,.string data]] w fun e w'=>e=.returned (.bool (B6 ⟨k,vol,file,to,into,at',fr,ln,data⟩ ⟨k,⟨#[]⟩,⟨#[]⟩,⟨#[]⟩,⟨#[]⟩,0,0,0,⟨#[]⟩⟩))∧Below w.heap.size w w':=by
 have ha:=Eg ⟨k,vol,file,to,into,at',fr,ln,data⟩ ⟨k,⟨#[]⟩,⟨#[]⟩,⟨#[]⟩,⟨#[]⟩,0,0,0,⟨#[]⟩⟩;dsimp only at ha;generalize B6 _ _=E at ha ⊢;subst hk;go_enter func49,ntmps49;go_wp2;go_returns;go_light;exact⟨rfl,by go_grown⟩
theorem lP_ (k:Int)(vol file to into:ByteArray)(at' fr ln:Int)(data:ByteArray)(w:World)(hk:¬ (1<=k∧k<=10)):
  Calls prog 49 #[.agg #[.int .i64 k,.string vol,.string file,.string to,.string into,.int .i64 at',.int .i64 fr,.int .i64 ln,.string data]] w fun e w'=>e=.returned (.bool false)∧Below w.heap.size w w':=by
 have h1:k≠1:=by omega
 have h2:k≠2:=by omega
 have h3:k≠3:=by omega
 have h4:k≠4:=by omega
 have h5:k≠5:=by omega
 have h6:k≠6:=by omega
 have h7:k≠7:=by omega
 have h8:k≠8:=by omega
 have h9:k≠9:=by omega
 have ha:k≠10:=by omega
 go_enter func49,ntmps49;go_wp2;go_returns;go_light;exact⟨rfl,by go_grown⟩
theorem iO_ (o:Opr)(w:World)(hs:BC o):
  Calls prog 49 #[.agg #[.int .i64 o.k,.string o.vol,.string o.file,.string o.to,.string o.into,.int .i64 o.at',.int .i64 o.fr,.int .i64 o.ln,.string o.data]] w fun e w'=>e=.returned (.bool (opB o))∧Below w.heap.size w w':=by
 obtain⟨k,vol,file,to,into,at',fr,ln,data⟩:=o;by_cases hk:1<=k∧k<=10
 ·have ha:k=1∨k=2∨k=3∨k=4∨k=5∨k=6∨k=7∨k=8∨k=9∨k=10:=by omega
  rcases ha with h | h | h | h | h | h | h | h | h | h
  ·refine (fr_ k vol file to into at' fr ln data w hs (by omega)).mono fun e w' ⟨h1,h2⟩=>⟨by rw[h1];subst h;simp[opB,B6,zB,ZO],h2⟩
  ·refine (lL_ k vol file to into at' fr ln data w hs h).mono fun e w' ⟨h1,h2⟩=>⟨by rw[h1];subst h;simp[opB,B6,zB,inB,ZO],h2⟩
  ·refine (lM_ k vol file to into at' fr ln data w hs h).mono fun e w' ⟨h1,h2⟩=>⟨by rw[h1];subst h;simp[opB,B6,zB,inB,ZO],h2⟩
  ·refine (lJ_ k vol file to into at' fr ln data w hs h).mono fun e w' ⟨h1,h2⟩=>⟨by rw[h1];subst h;simp[opB,B6,zB,ZO],h2⟩
  ·refine (lN_ k vol file to into at' fr ln data w hs h).mono fun e w' ⟨h1,h2⟩=>⟨by rw[h1];subst h;simp[opB,zB,inB,ZO],h2⟩
  ·refine (lK_ k vol file to into at' fr ln data w hs h).mono fun e w' ⟨h1,h2⟩=>⟨by rw[h1];subst h;simp[opB,B6,zB,ZO],h2⟩
  ·refine (fr_ k vol file to into at' fr ln data w hs (by omega)).mono fun e w' ⟨h1,h2⟩=>⟨by rw[h1];subst h;simp[opB,B6,zB,ZO],h2⟩
  ·refine (fr_ k vol file to into at' fr ln data w hs (by omega)).mono fun e w' ⟨h1,h2⟩=>⟨by rw[h1];subst h;simp[opB,B6,zB,ZO],h2⟩
  ·refine (lO_ k vol file to into at' fr ln data w h).mono fun e w' ⟨h1,h2⟩=>⟨by rw[h1];subst h;simp[opB,B6,zB,ZO],h2⟩
  ·refine (kt_ k vol file to into at' fr ln data w hs h).mono fun e w' ⟨h1,h2⟩=>⟨by rw[h1];subst h;simp[opB,B6,zB,inB,ZO],h2⟩
 ·refine (lP_ k vol file to into at' fr ln data w hk).mono fun e w' ⟨h1,h2⟩=>⟨by rw[h1];refine ac_ (Eq.symm ?_);unfold opB;dsimp only;repeat (rw[if_neg (by omega)]),h2⟩
def volI (vs:List Vo)(s:ByteArray):Option Nat:=vs.findIdx? (fun v=>v.nm.toList==s.toList)
def itI (l:List It)(s:ByteArray):Option Nat:=l.findIdx? (fun x=>x.nm.toList==s.toList)
def Bp:Option Nat->Int
 |none=>-1
 |some i=>i
def Ar (vs:List Vo)(vol file:ByteArray):Option (List Pt):=
 (volI vs vol).bind fun i=>vs[i]?.bind fun v=>(itI v.its file).bind fun k=>v.its[k]?.map (·.ps)
theorem np_ {x:Vo}(h:vs[k]?=some x):(volI (vs.drop k) s).map (·+k)=if (x.nm.toList==s.toList)=true then some k else (volI (vs.drop (k+1)) s).map (·+(k+1)):=by
 unfold volI;rw[al_ h,List.findIdx?_cons];split
 ·simp
 ·rw[Option.map_map];congr 1;funext i;simp;omega
theorem ku_ {vs:List It}{x:It}(h:vs[k]?=some x):(itI (vs.drop k) s).map (·+k)=if (x.nm.toList==s.toList)=true then some k else (itI (vs.drop (k+1)) s).map (·+(k+1)):=by
 unfold itI;rw[al_ h,List.findIdx?_cons];split
 ·simp
 ·rw[Option.map_map];congr 1;funext i;simp;omega
theorem pC_ (h:volI vs s=some i):i<vs.length:=by
 unfold volI at h;rw[ZA] at h;exact h.1
theorem pY_ {vs:List It}(h:itI vs s=some i):i<vs.length:=by
 unfold itI at h;rw[ZA] at h;exact h.1
theorem ak_ (B:Nat)(size next:Int)(ea:Option Addr)(en ec:Nat)(va:Option Addr)(vn vc:Nat)(ra:Option Addr)(rn rc:Nat)(la:Option Addr)(ln lc:Nat)(vs:List Vo)(s:ByteArray)(w:World)(h2:Bb B w va vn vs)(z3:vn<=4194304):
  Calls prog 162 #[.agg #[.int .i64 size,.int .i64 next,.slice ea en ec,.slice va vn vc,.slice ra rn rc,.slice la ln lc],.string s] w fun e w'=>e=.returned (.int .i64 (Bp (volI vs s)))∧Below w.heap.size w w':=by
 have hc:Hid (vs.length=vn):=h2.len;have hR:Hid (volI vs s=(volI (vs.drop 0) s).map (·+0)):=by show _=_;simp
 generalize volI vs s=R at *;have C:=(Blk.new w #[.int .i64 size,.int .i64 next,.slice ea en ec,.slice va vn vc,.slice ra rn rc,.slice la ln lc] 35);have hb:Below w.heap.size w (w.alloc (.cells #[.int .i64 size,.int .i64 next,.slice ea en ec,.slice va vn vc,.slice ra rn rc,.slice la ln lc] 35)):=by go_grown
 go_enter func162,ntmps162
 go_wp2_with fail
 generalize w.alloc (.cells #[.int .i64 size,.int .i64 next,.slice ea en ec,.slice va vn vc,.slice ra rn rc,.slice la ln lc] 35)=W0 at *
 go_loopw [5] (fun ix wr=>∃ (k:Nat),k<=vn∧ix=.int .i64 k∧Hid (R=(volI (vs.drop k) s).map (·+k))∧Below W0.heap.size W0 wr) (fun ix _=>vn-(intOf ix).toNat)
 case atStart=>exact⟨0,Zg _,rfl,hR,Yg _ _⟩
 case round=>
  clear hR;obtain⟨k,hk,rfl,hI,hB⟩:=hrel;have d3:=(C.below hB).cell 3;replace hb:=Aa hb hB;simp only[lgA,lgB,lgC] at d3;by_cases hlt:k<vn
  ·obtain⟨b,o,x,qa,qn,qc,rfl,hx,e0,e1,e2,e3,hP,_,_⟩:=b5_ (h2.below hb) hlt;have ha:Hid (R=if (x.nm.toList==s.toList)=true then some k else (volI (vs.drop (k+1)) s).map (·+(k+1))):=by show _=_;rw[hI.out,np_ hx]
   have hf:(k:Int)<vn:=by omega
   have hg:(0:Int)<=k:=by omega
   clear hx hI
   cases hs:(x.nm.toList==s.toList)
   ·rw[hs] at ha;simp only[Zj,if_false] at ha;have he:¬ x.nm.toList=s.toList:=by simpa using hs
    go_wp2;go_roundw
    case rel=>exact⟨k+1,by omega,by go_num,ha,hB⟩
    case measure=>simp[intOf];omega
   ·rw[hs] at ha;simp only[if_true] at ha;have he:x.nm.toList=s.toList:=by simpa using hs
    go_wp2;go_returns;exact⟨by rw[ha.out];rfl,hb⟩
  ·obtain rfl:k=vn:=by omega
   go_wp2;go_returns;exact⟨by rw[hI.out,Ze (Zm hc.out)];rfl,hb⟩
theorem cf_ (B:Nat)(id:Int)(nm:ByteArray)(fx:Bool)(pa:Option Addr)(pn pc:Nat)(its:List It)(s:ByteArray)(w:World)(h2:Bg B w pa pn its)(z3:pn<=4194304):
  Calls prog 169 #[.agg #[.int .i64 id,.string nm,.bool fx,.slice pa pn pc],.string s] w fun e w'=>e=.returned (.int .i64 (Bp (itI its s)))∧Below w.heap.size w w':=by
 have hc:Hid (its.length=pn):=h2.len;have hR:Hid (itI its s=(itI (its.drop 0) s).map (·+0)):=by show _=_;simp
 generalize itI its s=R at *;have C:=(Blk.new w #[.int .i64 id,.string nm,.bool fx,.slice pa pn pc] 62);have hb:Below w.heap.size w (w.alloc (.cells #[.int .i64 id,.string nm,.bool fx,.slice pa pn pc] 62)):=by go_grown
 go_enter func169,ntmps169
 go_wp2_with fail
 generalize w.alloc (.cells #[.int .i64 id,.string nm,.bool fx,.slice pa pn pc] 62)=W0 at *
 go_loopw [5] (fun ix wr=>∃ (k:Nat),k<=pn∧ix=.int .i64 k∧Hid (R=(itI (its.drop k) s).map (·+k))∧Below W0.heap.size W0 wr) (fun ix _=>pn-(intOf ix).toNat)
 case atStart=>exact⟨0,Zg _,rfl,hR,Yg _ _⟩
 case round=>
  clear hR;obtain⟨k,hk,rfl,hI,hB⟩:=hrel;have d3:=(C.below hB).cell 3;replace hb:=Aa hb hB;simp only[lgA,lgB,lgC] at d3;by_cases hlt:k<pn
  ·obtain⟨b,o,x,qa,qn,qc,rfl,hx,e0,e1,hP,_,_,_⟩:=bO_ (h2.below hb) hlt;have ha:Hid (R=if (x.nm.toList==s.toList)=true then some k else (itI (its.drop (k+1)) s).map (·+(k+1))):=by show _=_;rw[hI.out,ku_ hx]
   have hf:(k:Int)<pn:=by omega
   have hg:(0:Int)<=k:=by omega
   clear hx hI
   cases hs:(x.nm.toList==s.toList)
   ·rw[hs] at ha;simp only[Zj,if_false] at ha;have he:¬ x.nm.toList=s.toList:=by simpa using hs
    go_wp2;go_roundw
    case rel=>exact⟨k+1,by omega,by go_num,ha,hB⟩
    case measure=>simp[intOf];omega
   ·rw[hs] at ha;simp only[if_true] at ha;have he:x.nm.toList=s.toList:=by simpa using hs
    go_wp2;go_returns;exact⟨by rw[ha.out];rfl,hb⟩
  ·obtain rfl:k=pn:=by omega
   go_wp2;go_returns;exact⟨by rw[hI.out,Ze (Zm hc.out)];rfl,hb⟩
def E5 (B:Nat)(e:Ending)(w':World):Option (List Pt)->Prop
 |none=>e=.returned (.tuple #[.slice none 0 0,.bool false])
 |some ps=>∃ pa pn pc,e=.returned (.tuple #[.slice pa pn pc,.bool true])∧AN w' pa pn ps∧Hd B pa pn pc∧ps.length<=4194304
theorem aH_ (B:Nat)(v:Value)(p:Po)(vol file:ByteArray)(w:World)(h:AG B w v p)(hd:AC p):
  Calls prog 163 #[v,.string vol,.string file] w fun e w'=>E5 B e w' (Ar p.vs vol file)∧Below w.heap.size w w':=by
 obtain⟨ea,en,ec,va,vn,vc,ra,rn,rc,la,ln,lc,rfl,⟨h1,k1⟩,⟨h2,k2⟩,⟨h3,k3⟩,h4,k4⟩:=h;obtain⟨z1,z2,z3,z4,z5,z6,z7,z8⟩:=hd;rw[h2.len] at z3;obtain⟨size,next,ex,vs,rf,lt⟩:=p;simp only at h1 h2 h3 h4 z2 z4 z6 z8 ⊢;have hR:Hid (Ar vs vol file=(volI vs vol).bind fun i=>vs[i]?.bind fun v=>(itI v.its file).bind fun k=>v.its[k]?.map (·.ps)):=rfl;generalize Ar vs vol file=R at *;have C:=(Blk.new w #[.int .i64 size,.int .i64 next,.slice ea en ec,.slice va vn vc,.slice ra rn rc,.slice la ln lc] 35);have hf:Below w.heap.size w (w.alloc (.cells #[.int .i64 size,.int .i64 next,.slice ea en ec,.slice va vn vc,.slice ra rn rc,.slice la ln lc] 35)):=by go_grown
 go_enter func163,ntmps163
 go_wp2_with fail
 generalize w.alloc (.cells #[.int .i64 size,.int .i64 next,.slice ea en ec,.slice va vn vc,.slice ra rn rc,.slice la ln lc] 35)=W0 at *;refine (ak_ B size next ea en ec va vn vc ra rn rc la ln lc vs vol _ (h2.below hf) z3).mono ?_;rintro e w1 ⟨rfl,ha⟩;have C1:=C.below ha;replace ha:=Aa hf ha;clear C hf;have d3:=C1.cell 3;simp only[lgA,lgB,lgC] at d3
 cases he:volI vs vol with
 |none=>
  rw[he] at hR;replace hR:Hid (R=none):=hR;rw[show Bp none=-1 from rfl];clear he;go_wp2;go_returns;exact⟨by rw[hR.out];rfl,ha⟩
 |some i=>
  rw[he] at hR;rw[show Bp (some i)=(i:Int) from rfl];have hg:=pC_ he;rw[h2.len] at hg;clear he;obtain⟨b,o,x,qa,qn,qc,rfl,hx,e0,e1,e2,e3,hP,hH,hn⟩:=b5_ (h2.below ha) hg;replace hR:Hid (R=(itI x.its file).bind fun k=>x.its[k]?.map (·.ps)):=by show _=_;rw[hR.out,YO,hx,YO]
  obtain⟨m1,m2,m3⟩:=z4 x (Zc hx);have hj:Hid (x.its.length=qn):=hP.len;rw[hj.out] at m2;have hq:(i:Int)<vn:=by omega
  have hr:(0:Int)<=i:=by omega
  clear hx
  go_wp2_with fail
  refine (cf_ B x.id x.nm x.fx qa qn qc x.its file _ hP m2).mono ?_;rintro e w2 ⟨rfl,hb⟩;have C2:=C1.below hb;have hl:=hP.below hb;have f3:=Ab hb e3;replace hb:=Aa ha hb;clear C1 ha d3 e0 e1 e2 e3 hP;have d3:=C2.cell 3;simp only[lgA,lgB,lgC] at d3
  cases hc:itI x.its file with
  |none=>
   rw[hc] at hR;replace hR:Hid (R=none):=hR;rw[show Bp none=-1 from rfl];clear hc;go_wp2;go_returns;exact⟨by rw[hR.out];rfl,hb⟩
  |some j=>
   rw[hc] at hR;rw[show Bp (some j)=(j:Int) from rfl];have hh:=pY_ hc;rw[hj.out] at hh;clear hc;obtain⟨b',o',y,pa,pn,pc,rfl,hy,g0,g1,hm,hk,_,_⟩:=bO_ hl hh;replace hR:Hid (R=some y.ps):=by show _=_;rw[hR.out,YO,hy];rfl
   obtain⟨_,m5⟩:=m3 y (Zc hy);have ho:(j:Int)<qn:=by omega
   have hp:(0:Int)<=j:=by omega
   clear hy;go_wp2;go_returns;exact⟨by rw[hR.out];exact⟨pa,pn,pc,rfl,hm,hk,m5⟩,hb⟩
theorem lQ_ (h:Ar vs vol file=some ps):∃ v∈vs,∃ x∈v.its,x.ps=ps:=by
 unfold Ar at h;simp only[Option.bind_eq_some_iff,ZW] at h;obtain⟨i,_,v,hv,k,_,x,hx,rfl⟩:=h;exact⟨v,Zc hv,x,Zc hx,rfl⟩
theorem bb_ {p:Po}(hp:Ai p=true)(h:Ar p.vs vol file=some ps):Ac ps=true∧(Ak ps p.ex).isSome=true:=by
 obtain⟨v,hv,x,hx,rfl⟩:=lQ_ h;obtain⟨_,h2,_⟩:=bL_ hp;obtain⟨h3,_⟩:=b0_ h2 v hv;simp only[itemsB,Zf] at h3;have h4:=db_ h3.2 x hx;refine⟨?_,h4⟩;unfold Ak at h4;split at h4
 ·rename_i hh;exact hh.1
 ·cases h4
end
section
open Go Go.RowKit
variable{x:It}{l:List It}
def Bi (x:It)(st:List It×Bool)(y:It):List It×Bool:=
 ((if (!st.2&&!(bl y.nm.toList x.nm.toList))=true then st.1++[x] else st.1)++(if (y.nm.toList==x.nm.toList)=true then [] else [y]),st.2||!(bl y.nm.toList x.nm.toList))
def DW (x:It)(st:List It×Bool):List It:=if st.2=true then st.1 else st.1++[x]
def DY (x:It)(l:List It)(k:Nat):List It×Bool:=(l.take k).foldl (Bi x) ([],false)
def Ba (x:It)(l:List It):List It:=DW x (l.foldl (Bi x) ([],false))
theorem nq_ {k:Nat}{y:It}(h:l[k]?=some y):DY x l (k+1)=Bi x (DY x l k) y:=by
 unfold DY;rw[ZK,h];simp
theorem om_ {n:Nat}(h:l.length=n):DW x (DY x l n)=Ba x l:=by
 unfold DY Ba;rw[Zk (Zm h)]
theorem kv_ (x:It):∀ (l:List It) (st:List It×Bool),(l.foldl (Bi x) st).1.length+(if (l.foldl (Bi x) st).2=true then 0 else 1)<=st.1.length+(if st.2=true then 0 else 1)+l.length
 |[],st=>Zd _
 |y::r,st=>by
  have h:=kv_ x r (Bi x st y);rw[YE]
  have h2:(Bi x st y).1.length+(if (Bi x st y).2=true then 0 else 1)<=st.1.length+(if st.2=true then 0 else 1)+1:=by
   unfold Bi;obtain⟨a,d⟩:=st
   cases d<;>cases bl y.nm.toList x.nm.toList<;>cases (y.nm.toList==x.nm.toList)<;>simp<;>omega
  simp only[Zw];omega
theorem kw_ (x:It)(l:List It):(Ba x l).length<=l.length+1:=by
 have h:=kv_ x l ([],false);unfold Ba DW;split
 ·rename_i hd;rw[if_pos hd] at h;simp at h;omega
 ·rename_i hd;rw[if_neg hd] at h;simp at h ⊢;omega
theorem hF_ (x:It):∀ (l:List It) (st:List It×Bool) (z:It),z∈(l.foldl (Bi x) st).1->z∈st.1∨z=x∨z∈l
 |[],st,z,h=>.inl h
 |y::r,st,z,h=>by
  rcases hF_ x r _ z h with h | h | h
  ·simp only[Bi] at h;rcases Zs.1 h with h | h
   ·split at h
    ·rcases Zs.1 h with h | h
     ·exact .inl h
     ·exact .inr (.inl (by simpa using h))
    ·exact .inl h
   ·split at h
    ·cases h
    ·exact .inr (.inr (by simp at h;simp[h]))
  ·exact .inr (.inl h)
  ·exact .inr (.inr (by simp[h]))
theorem kx_ {z:It}(h:z∈Ba x l):z=x∨z∈l:=by
 unfold Ba DW at h;split at h
 ·rcases hF_ x l _ z h with h | h
  ·cases h
  ·exact h
 ·rcases Zs.1 h with h | h
  ·rcases hF_ x l _ z h with h | h
   ·cases h
   ·exact h
  ·exact .inl (by simpa using h)
def CY (l:List Pt):Prop:=∀ p∈l,0<=p.a
theorem mI_ {l:List Pt}{p:Pt}(h:CY l)(hp:0<=p.a):CY (AJ l p):=by
 unfold AJ;split
 ·intro q hq;simp at hq;subst hq;exact hp
 ·rename_i q hq;have hm:q∈l:=List.mem_of_getLast? hq;split
  ·intro z hz;rcases Zs.1 hz with hz | hz
   ·exact h z (List.dropLast_subset l hz)
   ·simp at hz;subst hz;exact h q hm
  ·intro z hz;rcases Zs.1 hz with hz | hz
   ·exact h z hz
   ·simp at hz;subst hz;exact hp
theorem cg_:∀ {m l:List Pt},CY l->CY m->CY (Al l m)
 |[],l,h,_=>h
 |p::r,l,h,hm=>cg_ (m:=r) (mI_ h (hm p (by simp))) (fun q hq=>hm q (by simp[hq]))
theorem gk_ {fr to:Int}:∀ {l:List Pt} {st:Int},CY l->CY (slp fr to st l)
 |[],_,_=>by intro q hq;simp[slp] at hq
 |p::r,st,h=>by
  have hr:=gk_ (fr:=fr) (to:=to) (l:=r) (st:=st+p.n) (fun q hq=>h q (by simp[hq]));unfold slp;split
  ·intro q hq;rcases Zn.1 hq with rfl | hq
   ·unfold Be;split
    ·exact YB _
    ·exact h p (by simp)
   ·exact hr q hq
  ·exact hr
theorem dD_:CY []:=fun p hp=>by cases hp
theorem fS_ {l m:List Pt}{at':Int}(h:CY l)(hm:CY m):CY (AI l at' m):=by
 unfold AI;refine cg_ (cg_ ?_ hm) (cg_ dD_ (gk_ h));split
 ·exact mI_ (cg_ dD_ (gk_ h)) (YB _)
 ·exact cg_ dD_ (gk_ h)
theorem on_ {l:List Pt}(h:Ac l=true):CY l:=fun p hp=>by
 have:=(ae_ h).2.1 p hp
 unfold Ag at this;split at this
 ·rename_i h0;simp at h0;omega
 ·simp at this;omega
def Aj (p:Po)(o:Opr):Int×List Ex×List Pt:=
 let name:=if o.k=5 then o.to else o.vol;let file:=if o.k=5 then o.into else o.file;let was:=Ar p.vs name file;let ps:=was.getD []
 if o.k=2 then
  match AW p.size p.ex o.data with
  |none=>(5,p.ex,[])
  |some (l,a)=>(0,l,AI ps o.at' [⟨a,0,o.data.size⟩])
 else if o.k=5 then
  match Ar p.vs o.vol o.file with
  |none=>(3,p.ex,[])
  |some src=>if o.fr+o.ln > Af src then (3,p.ex,[]) else (0,p.ex,AI ps o.at' (Al [] (slp o.fr (o.fr+o.ln) 0 src)))
 else
  match was with
  |none=>(3,p.ex,[])
  |some q=>if o.k=10 then (0,p.ex,AI q o.at' [⟨0,0,o.ln⟩]) else if o.ln > Af q then (0,p.ex,AI q (Af q) [⟨0,0,o.ln-Af q⟩]) else (0,p.ex,Al [] (slp 0 o.ln 0 q))
def Ap (p:Po)(o:Opr):Int×Po:=
 let name:=if o.k=5 then o.to else o.vol;let file:=if o.k=5 then o.into else o.file
 match volI p.vs name with
 |none=>(3,p)
 |some i=>match p.vs[i]? with
  |none=>(3,p)
  |some v=>if v.fx=true then (6,p) else
   let r:=Aj p o
   if r.1=0 then (0,{p with ex:=r.2.1,vs:=p.vs.set i {v with its:=Ba ⟨file,r.2.2⟩ v.its}}) else (r.1,p)
def Az (p:Po)(o:Opr):Int×Po:=
 match volI p.vs o.vol with
 |none=>if o.k=1 then (0,{p with vs:=p.vs++[⟨p.next,o.vol,false,[]⟩],next:=p.next+1}) else (3,p)
 |some i=>match p.vs[i]? with
  |none=>(3,p)
  |some v=>
   if o.k=1 then (4,p)
   else if o.k=6 then (match volI p.vs o.to with | some _=>(4,p) | none=>(0,{p with vs:=p.vs++[⟨p.next,o.to,false,v.its⟩],next:=p.next+1}))
   else if o.k=7 then (0,{p with vs:=p.vs.take i++p.vs.drop (i+1)})
   else if o.k=8 then (if v.fx=true then (6,p) else (0,{p with vs:=p.vs.set i {v with fx:=true}}))
   else if o.k=4 then (if v.fx=true then (6,p) else match itI v.its o.file with | none=>(3,p) | some k=>(0,{p with vs:=p.vs.set i {v with its:=v.its.take k++v.its.drop (k+1)}}))
   else (0,p)
def flushS (p:Po):Po:={p with rf:=AR p.rf p.lt,lt:=[],ex:=p.ex.filter (fun e=>(AR p.rf p.lt).any (fun c=>c.o.a==e.a))}
def Cs (l:List Ct):List Ct:=l.map (fun c=>⟨c.o,-c.n⟩)
def BT (p:Po)(o:Opr):Int×Po:=if o.k=2∨o.k=3∨o.k=5∨o.k=10 then Ap p o else Az p o
def A7 (p q:Po):Po:={q with lt:=q.lt++AR (AB q.vs) (Cs (AB p.vs))}
def opS (p:Po)(o:Opr):Int×Po:=
 if opB o=true then
  if o.k=9 then (0,flushS p)
  else if (BT p o).1=0 then (if Ai (A7 p (BT p o).2)=true then (0,A7 p (BT p o).2) else (5,p)) else ((BT p o).1,p)
 else (2,p)
def Br (p:Po)(o:Opr):Int×Po:=if Ai p=true then opS p o else (1,⟨0,0,[],[],[],[]⟩)
end
section
open Go Go.RowKit Go.BigFrame Tryz
variable{α:Type}{s:ByteArray}{B b cap i n sz:Nat}{t:TypeId}{v:Value}{w w':World}{l:List α}{cs:α->List Value}
def Bh (v:Value):Prop:=∃ s n ea en ec va vn vc ra rn rc la ln lc,v=.agg #[.int .i64 s,.int .i64 n,.slice ea en ec,.slice va vn vc,.slice ra rn rc,.slice la ln lc]
theorem bm_ (s n:Int)(ea:Option Addr)(en ec:Nat)(va:Option Addr)(vn vc:Nat)(ra:Option Addr)(rn rc:Nat)(la:Option Addr)(ln lc:Nat):Bh (.agg #[.int .i64 s,.int .i64 n,.slice ea en ec,.slice va vn vc,.slice ra rn rc,.slice la ln lc]):=⟨s,n,ea,en,ec,va,vn,vc,ra,rn,rc,la,ln,lc,rfl⟩
def FrV (w w':World):Prop:=∀ k c t,Blk w k c t->t≠62->Blk w' k c t
theorem FrV.of (h:Below w.heap.size w w'):FrV w w':=fun _ _ _ hb _=>hb.below h
theorem ad_ {P:Program}{fn:Func}{p q:Tmp}{ty:TypeId}(h:fn.results=#[.cell p ty,.tmp q])(tmps:Array Value)(w:World)(g:Nat)(t:TypeId)(cs:Array Value)(fr:Nat×Nat)(d:TypeDesc)(v:Value)
  (hp:tmps.getD p undef=.pointer (some ⟨g,0,none⟩))(hg:w.heap[g]?=some (.cells cs t fr))
  (hu:P.underlying ty=some d)(hd:(match d with | .struct _ | .array _ _=>true | _=>false)=true)(hi:(P.info? ty).map (·.size)=some cs.size)(hq:tmps.getD q undef=v):
  (results fn tmps).run P w=.ok (.tuple #[.agg cs,v]) w:=by
 have ha:tmps[p]?.getD undef=.pointer (some ⟨g,0,none⟩):=by simpa using hp
 have hb:tmps[q]?.getD undef=v:=by simpa using hq
 simp[results,h,ha,hb,asAddr,run_loadVar_row w g t ty cs fr d hg hu hd hi]
theorem Ae.addr {a:Option Addr}(h:Ae cs sz t w B a n cap l)(hn:0<n):∃ b,a=some ⟨b,0,none⟩∧B<=b∧n<=cap∧cap<=9223372036854775807:=by
 rcases h.own with⟨_,h0,_⟩ | ⟨b,h1,h2,h3,h4,_⟩
 ·omega
 ·exact⟨b,h1,h2,h3,by unfold maxLen at h4;omega⟩
theorem Ae.cellAt {j:Nat}{x:α}(h:Ae cs sz t w B (some ⟨b,0,none⟩) n cap l)(hi:l[i]?=some x)(hj:(cs x)[j]?=some v):w.cell? ⟨b,i*sz+j,none⟩=some v:=by
 obtain⟨b',o',e,hc⟩:=h.sl.cell i x hi
 cases e
 have:=hc j v hj
 rwa [Zq] at this
theorem ap_ {vs:List Vo}(h:volI vs s=some i):i<vs.length:=by
 unfold volI at h;obtain⟨h1,_⟩:=ZA.1 h;exact h1
theorem pZ_ {l:List It}(h:itI l s=some i):i<l.length:=by
 unfold itI at h;obtain⟨h1,_⟩:=ZA.1 h;exact h1
theorem oo_ (h:AF cs sz w (some ⟨b,0,none⟩) n l)(j cap:Nat)(hj:j<=n)(hc:n<=cap):AF cs sz w (if cap=j then some ⟨b,0,none⟩ else some ⟨b,0+j*sz,none⟩) (n-j) (l.drop j):=by
 by_cases hcj:cap=j
 ·rw[if_pos hcj];have h0:n-j=0:=by omega
  rw[h0,Ze (by rw[h.len];omega)];exact⟨rfl,fun i x hx=>by simp at hx⟩
 ·rw[if_neg hcj];exact h.drop j
theorem fs_ (B:Nat)(hB0:0<B)(v:Value)(p:Po)(o:Opr)(w:World)(h:Am B w v p)(hBw:B<=w.heap.size)(hd:AC p)(hnx:1<=p.next∧p.next<=1000000000)(hk:o.k≠1)(hno:volI p.vs o.vol=none):
  Calls prog 112 #[v,.agg #[.int .i64 o.k,.string o.vol,.string o.file,.string o.to,.string o.into,.int .i64 o.at',.int .i64 o.fr,.int .i64 o.ln,.string o.data]] w fun e w'=>(∃ v' c,e=.returned (.tuple #[v',.int .i64 c])∧Bh v'∧c=(Az p o).1∧(c=0->Am B w' v' (Az p o).2))∧Below B w w'∧FrV w w':=by
 obtain⟨ea,en,ec,va,vn,vc,ra,rn,rc,la,ln,lc,rows,rfl,h1,⟨h2,h3⟩,h4,h5,h6⟩:=h;obtain⟨z1,z2,z3,z4,z5,z6,z7,z8⟩:=hd;have hV:Bb B w va vn p.vs:=h3.rows.vs h2;rw[hV.len] at z3;obtain⟨size,next,ex,vs,rf,lt⟩:=p;obtain⟨k,vol,file,tt,into,at0,fr,ln0,data⟩:=o;simp only at h1 h2 h3 h4 h5 hV z4 z3 hnx hk ⊢;have _:=hB0;have _:=hnx;have _:=hBw;have hf:vs.length=vn:=hV.len;have hh:rows.length=vn:=h2.sl.len;simp only at hno;have hS:Hid (Az ⟨size,next,ex,vs,rf,lt⟩ ⟨k,vol,file,tt,into,at0,fr,ln0,data⟩=(3,⟨size,next,ex,vs,rf,lt⟩)):=by show _=_;simp[Az,hno,hk]
 generalize Az ⟨size,next,ex,vs,rf,lt⟩ ⟨k,vol,file,tt,into,at0,fr,ln0,data⟩=R at *;have hg:(k==1)=false:=ZV.2 hk;go_enter func112,ntmps112
 go_wp2_with fail
 refine (ak_ B size next ea en ec va vn vc ra rn rc la ln lc vs vol _ (hV.below (by go_grown)) z3).mono ?_;rintro e w1 ⟨rfl,hb⟩;obtain⟨C,O,D,ha,hj⟩:=bx3 hb;clear hb;obtain⟨c0,c1,c2,c3,c4,c5⟩:=C.six';have o0:w1.cell? ⟨w.heap.size+1,0,none⟩=some (.int .i64 k):=O.cell 0;have o1:w1.cell? ⟨w.heap.size+1,1,none⟩=some (.string vol):=O.cell 1;have o2:w1.cell? ⟨w.heap.size+1,2,none⟩=some (.string file):=O.cell 2;have o3:w1.cell? ⟨w.heap.size+1,3,none⟩=some (.string tt):=O.cell 3;obtain⟨x0,x1,x2,x3,x4,x5⟩:=D.six';obtain⟨f0,f1,f2,f3,f4,f5⟩:=fz6 D;rw[hno];simp only[Bp];go_wp2;obtain⟨W8,hc,W0,he⟩:=AV D (.int .i64 size) (.int .i64 next) (.slice ea en ec) (.slice va vn vc) (.slice ra rn rc) (.slice la ln lc);have B8:=ha.grown he ha.size (fun j e=>by cases e;omega);rw[<-hc];clear hc;refine YW (ad_ rfl _ W8 (w.heap.size+2) _ _ _ _ _ rfl W0 underlying35 rfl (by kernel_rfl) rfl) rfl ?_;exact⟨⟨_,3,rfl,bm_ _ _ _ _ _ _ _ _ _ _ _ _ _ _,by rw[hS.out],fun h=>absurd h (by omega)⟩,B8.mono hBw,FrV.of B8⟩
theorem eZ_ (B:Nat)(hB0:0<B)(v:Value)(p:Po)(o:Opr)(w:World)(h:Am B w v p)(hBw:B<=w.heap.size)(hd:AC p)(hnx:1<=p.next∧p.next<=1000000000)(hk:o.k=1)(i:Nat)(hso:volI p.vs o.vol=some i):
  Calls prog 112 #[v,.agg #[.int .i64 o.k,.string o.vol,.string o.file,.string o.to,.string o.into,.int .i64 o.at',.int .i64 o.fr,.int .i64 o.ln,.string o.data]] w fun e w'=>(∃ v' c,e=.returned (.tuple #[v',.int .i64 c])∧Bh v'∧c=(Az p o).1∧(c=0->Am B w' v' (Az p o).2))∧Below B w w'∧FrV w w':=by
 obtain⟨ea,en,ec,va,vn,vc,ra,rn,rc,la,ln,lc,rows,rfl,h1,⟨h2,h3⟩,h4,h5,h6⟩:=h;obtain⟨z1,z2,z3,z4,z5,z6,z7,z8⟩:=hd;have hV:Bb B w va vn p.vs:=h3.rows.vs h2;rw[hV.len] at z3;obtain⟨size,next,ex,vs,rf,lt⟩:=p;obtain⟨k,vol,file,tt,into,at0,fr,ln0,data⟩:=o;simp only at h1 h2 h3 h4 h5 hV z4 z3 hnx hk ⊢;have _:=hB0;have _:=hnx;have _:=hBw;have hf:vs.length=vn:=hV.len;have hh:rows.length=vn:=h2.sl.len;subst hk;simp only at hso;have hi:=ap_ hso;have hx:vs[i]?=some vs[i]:=by simp[hi]
 have hg:(0:Int)<=(i:Int):=by omega
 have hS:Hid (Az ⟨size,next,ex,vs,rf,lt⟩ ⟨1,vol,file,tt,into,at0,fr,ln0,data⟩=(4,⟨size,next,ex,vs,rf,lt⟩)):=by show _=_;simp[Az,hso,hx]
 generalize Az ⟨size,next,ex,vs,rf,lt⟩ ⟨1,vol,file,tt,into,at0,fr,ln0,data⟩=R at *;go_enter func112,ntmps112
 go_wp2_with fail
 refine (ak_ B size next ea en ec va vn vc ra rn rc la ln lc vs vol _ (hV.below (by go_grown)) z3).mono ?_;rintro e w1 ⟨rfl,hb⟩;obtain⟨C,O,D,ha,hj⟩:=bx3 hb;clear hb;obtain⟨c0,c1,c2,c3,c4,c5⟩:=C.six';have o0:w1.cell? ⟨w.heap.size+1,0,none⟩=some (.int .i64 1):=O.cell 0;have o1:w1.cell? ⟨w.heap.size+1,1,none⟩=some (.string vol):=O.cell 1;have o2:w1.cell? ⟨w.heap.size+1,2,none⟩=some (.string file):=O.cell 2;have o3:w1.cell? ⟨w.heap.size+1,3,none⟩=some (.string tt):=O.cell 3;obtain⟨x0,x1,x2,x3,x4,x5⟩:=D.six';obtain⟨f0,f1,f2,f3,f4,f5⟩:=fz6 D;rw[hso];simp only[Bp];go_wp2;obtain⟨W8,hc,W0,he⟩:=AV D (.int .i64 size) (.int .i64 next) (.slice ea en ec) (.slice va vn vc) (.slice ra rn rc) (.slice la ln lc);have B8:=ha.grown he ha.size (fun j e=>by cases e;omega);rw[<-hc];clear hc;refine YW (ad_ rfl _ W8 (w.heap.size+2) _ _ _ _ _ rfl W0 underlying35 rfl (by kernel_rfl) rfl) rfl ?_;exact⟨⟨_,4,rfl,bm_ _ _ _ _ _ _ _ _ _ _ _ _ _ _,by rw[hS.out],fun h=>absurd h (by omega)⟩,B8.mono hBw,FrV.of B8⟩
theorem Am.tyP {p:Po}{row:Option Nat}(h:Am B w v p)(hg:w.grownBy w' row)(hr:BA w row 35):Am B w' v p:=by
 obtain⟨ea,en,ec,va,vn,vc,ra,rn,rc,la,ln,lc,rows,hv,h1,⟨h2,h3⟩,h4,h5,h6⟩:=h;exact⟨ea,en,ec,va,vn,vc,ra,rn,rc,la,ln,lc,rows,hv,h1.ty hg hr (by decide),⟨h2.ty hg hr (by decide),h3.ty hg hr (by decide) (by decide)⟩,h4.ty hg hr (by decide),h5.ty hg hr (by decide),h6⟩
theorem ft_ (B:Nat)(hB0:0<B)(v:Value)(p:Po)(o:Opr)(w:World)(h:Am B w v p)(hBw:B<=w.heap.size)(hd:AC p)(hnx:1<=p.next∧p.next<=1000000000)(hk:o.k=1)(hno:volI p.vs o.vol=none):
  Calls prog 112 #[v,.agg #[.int .i64 o.k,.string o.vol,.string o.file,.string o.to,.string o.into,.int .i64 o.at',.int .i64 o.fr,.int .i64 o.ln,.string o.data]] w fun e w'=>(∃ v' c,e=.returned (.tuple #[v',.int .i64 c])∧Bh v'∧c=(Az p o).1∧(c=0->Am B w' v' (Az p o).2))∧Below B w w'∧FrV w w':=by
 obtain⟨ea,en,ec,va,vn,vc,ra,rn,rc,la,ln,lc,rows,rfl,h1,⟨h2,h3⟩,h4,h5,h6⟩:=h;obtain⟨z1,z2,z3,z4,z5,z6,z7,z8⟩:=hd;have hV:Bb B w va vn p.vs:=h3.rows.vs h2;rw[hV.len] at z3;obtain⟨size,next,ex,vs,rf,lt⟩:=p;obtain⟨k,vol,file,tt,into,at0,fr,ln0,data⟩:=o;simp only at h1 h2 h3 h4 h5 hV z4 z3 hnx hk ⊢;have _:=hB0;have _:=hnx;have _:=hBw;have ho:vs.length=vn:=hV.len;have hq:rows.length=vn:=h2.sl.len;subst hk;simp only at hno;have hS:Hid (Az ⟨size,next,ex,vs,rf,lt⟩ ⟨1,vol,file,tt,into,at0,fr,ln0,data⟩=(0,⟨size,next+1,ex,vs++[⟨next,vol,false,[]⟩],rf,lt⟩)):=by show _=_;simp[Az,hno]
 generalize Az ⟨size,next,ex,vs,rf,lt⟩ ⟨1,vol,file,tt,into,at0,fr,ln0,data⟩=R at *;have ht:IntKind.i64.wrap (next+1)=next+1:=by rw[Ys];omega
 go_enter func112,ntmps112
 go_wp2_with fail
 refine (ak_ B size next ea en ec va vn vc ra rn rc la ln lc vs vol _ (hV.below (by go_grown)) z3).mono ?_;rintro e w1 ⟨rfl,hj⟩;obtain⟨C,O,D,ha,hr⟩:=bx3 hj;clear hj;obtain⟨c0,c1,c2,c3,c4,c5⟩:=C.six';have o0:w1.cell? ⟨w.heap.size+1,0,none⟩=some (.int .i64 1):=O.cell 0;have o1:w1.cell? ⟨w.heap.size+1,1,none⟩=some (.string vol):=O.cell 1;have o2:w1.cell? ⟨w.heap.size+1,2,none⟩=some (.string file):=O.cell 2;have o3:w1.cell? ⟨w.heap.size+1,3,none⟩=some (.string tt):=O.cell 3;obtain⟨x0,x1,x2,x3,x4,x5⟩:=D.six';obtain⟨f0,f1,f2,f3,f4,f5⟩:=fz6 D;rw[hno];simp only[Bp]
 go_wp2_with (at_builtin;refine ag_ rfl (fun K hK=>dC_ _ _ rfl B va vn vc rows rfl ((h2.below ha).alloc _) _ 1 1 [(⟨next,vol,false,none,0,0⟩:VR)] rfl (fQ_ _ (⟨next,vol,false,none,0,0⟩:VR) _ _ (by simp)) (fun ad h=>(by cases h;rfl)) (fun h=>(by cases h)) (vn+1) rfl (by omega) (by simp;omega) (fun a2 cap2 w2 R2 hc=>hK _ _ ?_));have hh:∀ j,Value.ownBlock (.slice va vn vc)=some j->B<=j:=aG_ fun ad hn=>(h2.block ad hn).1;have he:=((h2.below ha).alloc (.cells #[.int .i64 next,.string vol,.bool false,.slice none 0 0] 62)).rowTy (m:=vn) (k:=vc);have hp:=hc.size;have C2:=(C.alloc (.cells #[.int .i64 next,.string vol,.bool false,.slice none 0 0] 62)).ty hc he (by decide);have D2:=(D.alloc (.cells #[.int .i64 next,.string vol,.bool false,.slice none 0 0] 62)).ty hc he (by decide);have hm:=((ha.alloc ha.size (.cells #[.int .i64 next,.string vol,.bool false,.slice none 0 0] 62)).mono hBw).grown hc (by simp;omega) hh;have P2:Am B w2 (.agg #[.int .i64 size,.int .i64 (next+1),.slice ea en ec,.slice a2 (vn+1) cap2,.slice ra rn rc,.slice la ln lc]) ⟨size,next+1,ex,vs++[⟨next,vol,false,[]⟩],rf,lt⟩:=⟨ea,en,ec,a2,vn+1,cap2,ra,rn,rc,la,ln,lc,rows++[(⟨next,vol,false,none,0,0⟩:VR)],rfl,((h1.below ha).alloc (.cells #[.int .i64 next,.string vol,.bool false,.slice none 0 0] 62)).ty hc he (by decide),⟨R2,((h3.below (ha.alloc ha.size (.cells #[.int .i64 next,.string vol,.bool false,.slice none 0 0] 62))).ty hc he (by decide) (by decide)).snoc ⟨rfl,rfl,rfl,[],aB_,AE.nil _ _⟩⟩,((h4.below ha).alloc (.cells #[.int .i64 next,.string vol,.bool false,.slice none 0 0] 62)).ty hc he (by decide),((h5.below ha).alloc (.cells #[.int .i64 next,.string vol,.bool false,.slice none 0 0] 62)).ty hc he (by decide),h6⟩;obtain⟨y0,y1,y2,y3,y4,y5⟩:=C2.six';obtain⟨q0,q1,q2,q3,q4,q5⟩:=D2.six';have g1:=C2.frozen 1;have g3:=C2.frozen 3;have m0:=D2.frozen 0;have m1:=D2.frozen 1;have m2:=D2.frozen 2;have m3:=D2.frozen 3;have m4:=D2.frozen 4;have m5:=D2.frozen 5)
 simp only[YN] at hp;have hf:w2.grownBy ((w2.setCell ⟨w.heap.size,3,none⟩ (.slice a2 (vn+1) cap2)).setCell ⟨w.heap.size,1,none⟩ (.int .i64 (next+1))) (some w.heap.size):=af_ (B3 w2 w.heap.size 3 (.slice a2 (vn+1) cap2)) 1 (.int .i64 (next+1));have D3:Blk ((w2.setCell ⟨w.heap.size,3,none⟩ (.slice a2 (vn+1) cap2)).setCell ⟨w.heap.size,1,none⟩ (.int .i64 (next+1))) (w.heap.size+2) _ _:=(hf.block _ D2.lt (by simp only[ne_eq,Zo];omega)).trans D2;obtain⟨W8,hl,W0,hg⟩:=AV D3 (.int .i64 size) (.int .i64 (next+1)) (.slice ea en ec) (.slice a2 (vn+1) cap2) (.slice ra rn rc) (.slice la ln lc);have PF:=(P2.tyP hf (aa_ C2)).tyP hg (aa_ D3);have hs:=hf.size;have B8:=(hm.grown hf (by omega) (fun j e=>by cases e;omega)).grown hg (by omega) (fun j e=>by cases e;omega);have FT:=fun (k:Nat) (c:Array Value) (t:TypeId) (hb:Blk w k c t) (hne:t≠62)=>(((((hb.below ha).alloc (.cells #[.int .i64 next,.string vol,.bool false,.slice none 0 0] 62)).ty hc he hne)).offB hf (B:=w.heap.size) (fun j e=>by cases e;omega) hb.lt).offB hg (B:=w.heap.size) (fun j e=>by cases e;omega) hb.lt;rw[<-hl];clear hl;refine YW (ad_ rfl _ W8 (w.heap.size+2) _ _ _ _ _ rfl W0 underlying35 rfl (by kernel_rfl) rfl) rfl ?_;exact⟨⟨_,0,rfl,bm_ _ _ _ _ _ _ _ _ _ _ _ _ _ _,by rw[hS.out],fun _=>by rw[hS.out];exact PF⟩,B8,FT⟩
theorem de_ (B:Nat)(hB0:0<B)(v:Value)(p:Po)(o:Opr)(w:World)(h:Am B w v p)(hBw:B<=w.heap.size)(hd:AC p)(hnx:1<=p.next∧p.next<=1000000000)(hk:o.k=6)(i j:Nat)(hso:volI p.vs o.vol=some i)(hto:volI p.vs o.to=some j):
  Calls prog 112 #[v,.agg #[.int .i64 o.k,.string o.vol,.string o.file,.string o.to,.string o.into,.int .i64 o.at',.int .i64 o.fr,.int .i64 o.ln,.string o.data]] w fun e w'=>(∃ v' c,e=.returned (.tuple #[v',.int .i64 c])∧Bh v'∧c=(Az p o).1∧(c=0->Am B w' v' (Az p o).2))∧Below B w w'∧FrV w w':=by
 obtain⟨ea,en,ec,va,vn,vc,ra,rn,rc,la,ln,lc,rows,rfl,h1,⟨h2,h3⟩,h4,h5,h6⟩:=h;obtain⟨z1,z2,z3,z4,z5,z6,z7,z8⟩:=hd;have hV:Bb B w va vn p.vs:=h3.rows.vs h2;rw[hV.len] at z3;obtain⟨size,next,ex,vs,rf,lt⟩:=p;obtain⟨k,vol,file,tt,into,at0,fr,ln0,data⟩:=o;simp only at h1 h2 h3 h4 h5 hV z4 z3 hnx hk ⊢;have _:=hB0;have _:=hnx;have _:=hBw;have hj:vs.length=vn:=hV.len;have ho:rows.length=vn:=h2.sl.len;subst hk;simp only at hso;have hi:=ap_ hso;have hl:i<vn:=by omega
 have hx:vs[i]?=some vs[i]:=by simp[hi]
 have hm:(0:Int)<=(i:Int):=by omega
 have hh:(i:Int)<vn:=by omega
 simp only at hto;have hn:(0:Int)<=(j:Int):=by omega
 have hS:Hid (Az ⟨size,next,ex,vs,rf,lt⟩ ⟨6,vol,file,tt,into,at0,fr,ln0,data⟩=(4,⟨size,next,ex,vs,rf,lt⟩)):=by show _=_;simp[Az,hso,hx,hto]
 generalize Az ⟨size,next,ex,vs,rf,lt⟩ ⟨6,vol,file,tt,into,at0,fr,ln0,data⟩=R at *;go_enter func112,ntmps112
 go_wp2_with fail
 refine (ak_ B size next ea en ec va vn vc ra rn rc la ln lc vs vol _ (hV.below (by go_grown)) z3).mono ?_;rintro e w1 ⟨rfl,he⟩;obtain⟨C,O,D,hb,hp⟩:=bx3 he;clear he;obtain⟨c0,c1,c2,c3,c4,c5⟩:=C.six';have o0:w1.cell? ⟨w.heap.size+1,0,none⟩=some (.int .i64 6):=O.cell 0;have o1:w1.cell? ⟨w.heap.size+1,1,none⟩=some (.string vol):=O.cell 1;have o2:w1.cell? ⟨w.heap.size+1,2,none⟩=some (.string file):=O.cell 2;have o3:w1.cell? ⟨w.heap.size+1,3,none⟩=some (.string tt):=O.cell 3;obtain⟨x0,x1,x2,x3,x4,x5⟩:=D.six';obtain⟨f0,f1,f2,f3,f4,f5⟩:=fz6 D;rw[hso];simp only[Bp]
 go_wp2_with fail
 refine (ak_ B size next ea en ec va vn vc ra rn rc la ln lc vs tt _ (hV.below hb) z3).mono ?_;rintro e wA ⟨rfl,ha⟩;rw[hto];simp only[Bp];have C':=C.below ha;have D':=D.below ha;have O':=O.below ha;have hc:=Aa hb ha;have hq:=ha.size;clear c0 c1 c2 c3 c4 c5 o0 o1 o2 o3 x0 x1 x2 x3 x4 x5 f0 f1 f2 f3 f4 f5 C D O;obtain⟨c0,c1,c2,c3,c4,c5⟩:=C'.six';have o0:wA.cell? ⟨w.heap.size+1,0,none⟩=some (.int .i64 6):=O'.cell 0;have o2:wA.cell? ⟨w.heap.size+1,2,none⟩=some (.string file):=O'.cell 2;have o3:wA.cell? ⟨w.heap.size+1,3,none⟩=some (.string tt):=O'.cell 3;obtain⟨x0,x1,x2,x3,x4,x5⟩:=D'.six';obtain⟨f0,f1,f2,f3,f4,f5⟩:=fz6 D';go_wp2;obtain⟨W8,hf,W0,hg⟩:=AV D' (.int .i64 size) (.int .i64 next) (.slice ea en ec) (.slice va vn vc) (.slice ra rn rc) (.slice la ln lc);have B8:=hc.grown hg hc.size (fun j e=>by cases e;omega);rw[<-hf];clear hf;refine YW (ad_ rfl _ W8 (w.heap.size+2) _ _ _ _ _ rfl W0 underlying35 rfl (by kernel_rfl) rfl) rfl ?_;exact⟨⟨_,4,rfl,bm_ _ _ _ _ _ _ _ _ _ _ _ _ _ _,by rw[hS.out],fun h=>absurd h (by omega)⟩,B8.mono hBw,FrV.of B8⟩
end
end Go.Proofs.YtahenegmbmnmjaaGreatDoor
