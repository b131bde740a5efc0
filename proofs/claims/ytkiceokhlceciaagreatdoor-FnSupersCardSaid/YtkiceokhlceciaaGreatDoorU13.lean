/- Ops as plain data: when one is right; names and lengths. -/
import Derived.Test.YtkiceokhlceciaaGreatDoorU12
set_option maxHeartbeats 20000000
set_option maxRecDepth 100000
namespace Go.Proofs.YtkiceokhlceciaaGreatDoor
section
open Go Go.RowKit
variable{l:List It}
theorem fS_ {l m:List Pt}{at':Int}(h:EH l)(hm:EH m):EH (Bd l at' m):=by
 unfold Bd;refine cg_ (cg_ ?_ hm) (cg_ dD_ (gk_ h));split
 ·exact mI_ (cg_ dD_ (gk_ h)) (YB _)
 ·exact cg_ dD_ (gk_ h)
theorem on_ {l:List Pt}(h:Ae l=true):EH l:=fun p hp=>by
 have:=(ae_ h).2.1 p hp
 unfold Ao at this;split at this
 ·rename_i h0;simp at h0;omega
 ·simp at this;omega
def Ai (p:Po)(o:Opr):Int×List Ex×List Pt:=
 let name:=if o.k=5 then o.to else o.vol;let file:=if o.k=5 then o.into else o.file;let was:=AH p.vs name file;let ps:=was.getD []
 if o.k=2 then
  match CC p.size p.ex o.data with
  |none=>(5,p.ex,[])
  |some (l,a)=>(0,l,Bd ps o.at' [⟨a,0,o.data.size⟩])
 else if o.k=5 then
  match AH p.vs o.vol o.file with
  |none=>(3,p.ex,[])
  |some src=>if o.fr+o.ln > Aj src then (3,p.ex,[]) else (0,p.ex,Bd ps o.at' (At [] (slp o.fr (o.fr+o.ln) 0 src)))
 else
  match was with
  |none=>(3,p.ex,[])
  |some q=>if o.k=10 then (0,p.ex,Bd q o.at' [⟨0,0,o.ln⟩]) else if o.ln > Aj q then (0,p.ex,Bd q (Aj q) [⟨0,0,o.ln-Aj q⟩]) else (0,p.ex,At [] (slp 0 o.ln 0 q))
def Ak (p:Po)(o:Opr):Int×Po:=
 let name:=if o.k=5 then o.to else o.vol;let file:=if o.k=5 then o.into else o.file
 match Bb p.vs name with
 |none=>(3,p)
 |some i=>match p.vs[i]? with
  |none=>(3,p)
  |some v=>if v.fx=true then (6,p) else
   let r:=Ai p o
   if r.1=0 then (0,{p with ex:=r.2.1,vs:=p.vs.set i {v with its:=CV ⟨file,r.2.2⟩ v.its}}) else (r.1,p)
def AC (p:Po)(o:Opr):Int×Po:=
 match Bb p.vs o.vol with
 |none=>if o.k=1 then (0,{p with vs:=p.vs++[⟨p.next,o.vol,false,[]⟩],next:=p.next+1}) else (3,p)
 |some i=>match p.vs[i]? with
  |none=>(3,p)
  |some v=>
   if o.k=1 then (4,p)
   else if o.k=6 then (match Bb p.vs o.to with | some _=>(4,p) | none=>(0,{p with vs:=p.vs++[⟨p.next,o.to,false,v.its⟩],next:=p.next+1}))
   else if o.k=7 then (0,{p with vs:=p.vs.take i++p.vs.drop (i+1)})
   else if o.k=8 then (if v.fx=true then (6,p) else (0,{p with vs:=p.vs.set i {v with fx:=true}}))
   else if o.k=4 then (if v.fx=true then (6,p) else match itI v.its o.file with | none=>(3,p) | some k=>(0,{p with vs:=p.vs.set i {v with its:=v.its.take k++v.its.drop (k+1)}}))
   else (0,p)
def Fs (p:Po):Po:={p with rf:=A7 p.rf p.lt,lt:=[],ex:=p.ex.filter (fun e=>(A7 p.rf p.lt).any (fun c=>c.o.a==e.a))}
def FS (l:List Ct):List Ct:=l.map (fun c=>⟨c.o,-c.n⟩)
def Et (p:Po)(o:Opr):Int×Po:=if o.k=2∨o.k=3∨o.k=5∨o.k=10 then Ak p o else AC p o
def CN (p q:Po):Po:={q with lt:=q.lt++A7 (A9 q.vs) (FS (A9 p.vs))}
def opS (p:Po)(o:Opr):Int×Po:=
 if opB o=true then
  if o.k=9 then (0,Fs p)
  else if (Et p o).1=0 then (if Ap (CN p (Et p o).2)=true then (0,CN p (Et p o).2) else (5,p)) else ((Et p o).1,p)
 else (2,p)
def Ej (p:Po)(o:Opr):Int×Po:=if Ap p=true then opS p o else (1,⟨0,0,[],[],[],[]⟩)
end
section
open Go Go.RowKit Go.BigFrame Tryz
variable{α:Type}{s:ByteArray}{B b cap i n sz:Nat}{t:TypeId}{v:Value}{w w':World}{l:List α}{cs:α->List Value}
def Bn (v:Value):Prop:=∃ s n ea en ec va vn vc ra rn rc la ln lc,v=.agg #[.int .i64 s,.int .i64 n,.slice ea en ec,.slice va vn vc,.slice ra rn rc,.slice la ln lc]
theorem bm_ (s n:Int)(ea:Option Addr)(en ec:Nat)(va:Option Addr)(vn vc:Nat)(ra:Option Addr)(rn rc:Nat)(la:Option Addr)(ln lc:Nat):Bn (.agg #[.int .i64 s,.int .i64 n,.slice ea en ec,.slice va vn vc,.slice ra rn rc,.slice la ln lc]):=⟨s,n,ea,en,ec,va,vn,vc,ra,rn,rc,la,ln,lc,rfl⟩
def FrV (w w':World):Prop:=∀ k c t,Blk w k c t->t≠80->Blk w' k c t
theorem FrV.of (h:Below w.heap.size w w'):FrV w w':=fun _ _ _ hb _=>hb.below h
theorem ad_ {P:Program}{fn:Func}{p q:Tmp}{ty:TypeId}(h:fn.results=#[.cell p ty,.tmp q])(tmps:Array Value)(w:World)(g:Nat)(t:TypeId)(cs:Array Value)(fr:Nat×Nat)(d:TypeDesc)(v:Value)
  (hp:tmps.getD p undef=.pointer (some ⟨g,0,none⟩))(hg:w.heap[g]?=some (.cells cs t fr))
  (hu:P.underlying ty=some d)(hd:(match d with | .struct _ | .array _ _=>true | _=>false)=true)(hi:(P.info? ty).map (·.size)=some cs.size)(hq:tmps.getD q undef=v):
  (results fn tmps).run P w=.ok (.tuple #[.agg cs,v]) w:=by
 have ha:tmps[p]?.getD undef=.pointer (some ⟨g,0,none⟩):=by simpa using hp
 have hb:tmps[q]?.getD undef=v:=by simpa using hq
 simp[results,h,ha,hb,asAddr,run_loadVar_row w g t ty cs fr d hg hu hd hi]
theorem Ad.addr {a:Option Addr}(h:Ad cs sz t w B a n cap l)(hn:0<n):∃ b,a=some ⟨b,0,none⟩∧B<=b∧n<=cap∧cap<=9223372036854775807:=by
 rcases h.own with⟨_,h0,_⟩ | ⟨b,h1,h2,h3,h4,_⟩
 ·omega
 ·exact⟨b,h1,h2,h3,by unfold maxLen at h4;omega⟩
theorem ap_ {vs:List Vo}(h:Bb vs s=some i):i<vs.length:=by
 unfold Bb at h;obtain⟨h1,_⟩:=ZA.1 h;exact h1
theorem pZ_ {l:List It}(h:itI l s=some i):i<l.length:=by
 unfold itI at h;obtain⟨h1,_⟩:=ZA.1 h;exact h1
theorem oo_ (h:AX cs sz w (some ⟨b,0,none⟩) n l)(j cap:Nat)(hj:j<=n)(hc:n<=cap):AX cs sz w (if cap=j then some ⟨b,0,none⟩ else some ⟨b,0+j*sz,none⟩) (n-j) (l.drop j):=by
 by_cases hcj:cap=j
 ·rw[if_pos hcj];have h0:n-j=0:=by omega
  rw[h0,Ze (by rw[h.len];omega)];exact⟨rfl,fun i x hx=>by simp at hx⟩
 ·rw[if_neg hcj];exact h.drop j
theorem fs_ (B:Nat)(hB0:0<B)(v:Value)(p:Po)(o:Opr)(w:World)(h:Ag B w v p)(hBw:B<=w.heap.size)(hd:AJ p)(hnx:1<=p.next∧p.next<=1000000000)(hk:o.k≠1)(hno:Bb p.vs o.vol=none):
  Calls prog 67 #[v,.agg #[.int .i64 o.k,.string o.vol,.string o.file,.string o.to,.string o.into,.int .i64 o.at',.int .i64 o.fr,.int .i64 o.ln,.string o.data]] w fun e w'=>(∃ v' c,e=.returned (.tuple #[v',.int .i64 c])∧Bn v'∧c=(AC p o).1∧(c=0->Ag B w' v' (AC p o).2))∧Below B w w'∧FrV w w':=by
 obtain⟨ea,en,ec,va,vn,vc,ra,rn,rc,la,ln,lc,rows,rfl,h1,⟨h2,h3⟩,h4,h5,h6⟩:=h;obtain⟨z1,z2,z3,z4,z5,z6,z7,z8⟩:=hd;have hV:Bp B w va vn p.vs:=h3.rows.vs h2;rw[hV.len] at z3;obtain⟨size,next,ex,vs,rf,lt⟩:=p;obtain⟨k,vol,file,tt,into,at0,fr,ln0,data⟩:=o;simp only at h1 h2 h3 h4 h5 hV z4 z3 hnx hk ⊢;have _:=hB0;have _:=hnx;have _:=hBw;have hf:vs.length=vn:=hV.len;have hh:rows.length=vn:=h2.sl.len;simp only at hno;have hS:Hid (AC ⟨size,next,ex,vs,rf,lt⟩ ⟨k,vol,file,tt,into,at0,fr,ln0,data⟩=(3,⟨size,next,ex,vs,rf,lt⟩)):=by show _=_;simp[AC,hno,hk]
 generalize AC ⟨size,next,ex,vs,rf,lt⟩ ⟨k,vol,file,tt,into,at0,fr,ln0,data⟩=R at *;have hg:(k==1)=false:=ZV.2 hk;go_enter func67,ntmps67
 go_wp2_with fail
 refine (ak_ B size next ea en ec va vn vc ra rn rc la ln lc vs vol _ (hV.below (by go_grown)) z3).mono ?_;rintro e w1 ⟨rfl,hb⟩;obtain⟨C,O,D,ha,hj⟩:=bx3 hb;clear hb;obtain⟨c0,c1,c2,c3,c4,c5⟩:=C.six';have o0:w1.cell? ⟨w.heap.size+1,0,none⟩=some (.int .i64 k):=O.cell 0;have o1:w1.cell? ⟨w.heap.size+1,1,none⟩=some (.string vol):=O.cell 1;have o2:w1.cell? ⟨w.heap.size+1,2,none⟩=some (.string file):=O.cell 2;have o3:w1.cell? ⟨w.heap.size+1,3,none⟩=some (.string tt):=O.cell 3;obtain⟨x0,x1,x2,x3,x4,x5⟩:=D.six';obtain⟨f0,f1,f2,f3,f4,f5⟩:=fz6 D;rw[hno];simp only[BJ];go_wp2;obtain⟨W8,hc,W0,he⟩:=Ba D (.int .i64 size) (.int .i64 next) (.slice ea en ec) (.slice va vn vc) (.slice ra rn rc) (.slice la ln lc);have B8:=ha.grown he ha.size (fun j e=>by cases e;omega);rw[<-hc];clear hc;refine YW (ad_ rfl _ W8 (w.heap.size+2) _ _ _ _ _ rfl W0 underlying28 rfl (by kernel_rfl) rfl) rfl ?_;exact⟨⟨_,3,rfl,bm_ _ _ _ _ _ _ _ _ _ _ _ _ _ _,by rw[hS.out],fun h=>absurd h (by omega)⟩,B8.mono hBw,FrV.of B8⟩
theorem eZ_ (B:Nat)(hB0:0<B)(v:Value)(p:Po)(o:Opr)(w:World)(h:Ag B w v p)(hBw:B<=w.heap.size)(hd:AJ p)(hnx:1<=p.next∧p.next<=1000000000)(hk:o.k=1)(i:Nat)(hso:Bb p.vs o.vol=some i):
  Calls prog 67 #[v,.agg #[.int .i64 o.k,.string o.vol,.string o.file,.string o.to,.string o.into,.int .i64 o.at',.int .i64 o.fr,.int .i64 o.ln,.string o.data]] w fun e w'=>(∃ v' c,e=.returned (.tuple #[v',.int .i64 c])∧Bn v'∧c=(AC p o).1∧(c=0->Ag B w' v' (AC p o).2))∧Below B w w'∧FrV w w':=by
 obtain⟨ea,en,ec,va,vn,vc,ra,rn,rc,la,ln,lc,rows,rfl,h1,⟨h2,h3⟩,h4,h5,h6⟩:=h;obtain⟨z1,z2,z3,z4,z5,z6,z7,z8⟩:=hd;have hV:Bp B w va vn p.vs:=h3.rows.vs h2;rw[hV.len] at z3;obtain⟨size,next,ex,vs,rf,lt⟩:=p;obtain⟨k,vol,file,tt,into,at0,fr,ln0,data⟩:=o;simp only at h1 h2 h3 h4 h5 hV z4 z3 hnx hk ⊢;have _:=hB0;have _:=hnx;have _:=hBw;have hf:vs.length=vn:=hV.len;have hh:rows.length=vn:=h2.sl.len;subst hk;simp only at hso;have hi:=ap_ hso;have hx:vs[i]?=some vs[i]:=by simp[hi]
 have hg:(0:Int)<=(i:Int):=by omega
 have hS:Hid (AC ⟨size,next,ex,vs,rf,lt⟩ ⟨1,vol,file,tt,into,at0,fr,ln0,data⟩=(4,⟨size,next,ex,vs,rf,lt⟩)):=by show _=_;simp[AC,hso,hx]
 generalize AC ⟨size,next,ex,vs,rf,lt⟩ ⟨1,vol,file,tt,into,at0,fr,ln0,data⟩=R at *;go_enter func67,ntmps67
 go_wp2_with fail
 refine (ak_ B size next ea en ec va vn vc ra rn rc la ln lc vs vol _ (hV.below (by go_grown)) z3).mono ?_;rintro e w1 ⟨rfl,hb⟩;obtain⟨C,O,D,ha,hj⟩:=bx3 hb;clear hb;obtain⟨c0,c1,c2,c3,c4,c5⟩:=C.six';have o0:w1.cell? ⟨w.heap.size+1,0,none⟩=some (.int .i64 1):=O.cell 0;have o1:w1.cell? ⟨w.heap.size+1,1,none⟩=some (.string vol):=O.cell 1;have o2:w1.cell? ⟨w.heap.size+1,2,none⟩=some (.string file):=O.cell 2;have o3:w1.cell? ⟨w.heap.size+1,3,none⟩=some (.string tt):=O.cell 3;obtain⟨x0,x1,x2,x3,x4,x5⟩:=D.six';obtain⟨f0,f1,f2,f3,f4,f5⟩:=fz6 D;rw[hso];simp only[BJ];go_wp2;obtain⟨W8,hc,W0,he⟩:=Ba D (.int .i64 size) (.int .i64 next) (.slice ea en ec) (.slice va vn vc) (.slice ra rn rc) (.slice la ln lc);have B8:=ha.grown he ha.size (fun j e=>by cases e;omega);rw[<-hc];clear hc;refine YW (ad_ rfl _ W8 (w.heap.size+2) _ _ _ _ _ rfl W0 underlying28 rfl (by kernel_rfl) rfl) rfl ?_;exact⟨⟨_,4,rfl,bm_ _ _ _ _ _ _ _ _ _ _ _ _ _ _,by rw[hS.out],fun h=>absurd h (by omega)⟩,B8.mono hBw,FrV.of B8⟩
theorem Ag.tyP {p:Po}{row:Option Nat}(h:Ag B w v p)(hg:w.grownBy w' row)(hr:BF w row 28):Ag B w' v p:=by
 obtain⟨ea,en,ec,va,vn,vc,ra,rn,rc,la,ln,lc,rows,hv,h1,⟨h2,h3⟩,h4,h5,h6⟩:=h;exact⟨ea,en,ec,va,vn,vc,ra,rn,rc,la,ln,lc,rows,hv,h1.ty hg hr (by decide),⟨h2.ty hg hr (by decide),h3.ty hg hr (by decide) (by decide)⟩,h4.ty hg hr (by decide),h5.ty hg hr (by decide),h6⟩
theorem ft_ (B:Nat)(hB0:0<B)(v:Value)(p:Po)(o:Opr)(w:World)(h:Ag B w v p)(hBw:B<=w.heap.size)(hd:AJ p)(hnx:1<=p.next∧p.next<=1000000000)(hk:o.k=1)(hno:Bb p.vs o.vol=none):
  Calls prog 67 #[v,.agg #[.int .i64 o.k,.string o.vol,.string o.file,.string o.to,.string o.into,.int .i64 o.at',.int .i64 o.fr,.int .i64 o.ln,.string o.data]] w fun e w'=>(∃ v' c,e=.returned (.tuple #[v',.int .i64 c])∧Bn v'∧c=(AC p o).1∧(c=0->Ag B w' v' (AC p o).2))∧Below B w w'∧FrV w w':=by
 obtain⟨ea,en,ec,va,vn,vc,ra,rn,rc,la,ln,lc,rows,rfl,h1,⟨h2,h3⟩,h4,h5,h6⟩:=h;obtain⟨z1,z2,z3,z4,z5,z6,z7,z8⟩:=hd;have hV:Bp B w va vn p.vs:=h3.rows.vs h2;rw[hV.len] at z3;obtain⟨size,next,ex,vs,rf,lt⟩:=p;obtain⟨k,vol,file,tt,into,at0,fr,ln0,data⟩:=o;simp only at h1 h2 h3 h4 h5 hV z4 z3 hnx hk ⊢;have _:=hB0;have _:=hnx;have _:=hBw;have ho:vs.length=vn:=hV.len;have hq:rows.length=vn:=h2.sl.len;subst hk;simp only at hno;have hS:Hid (AC ⟨size,next,ex,vs,rf,lt⟩ ⟨1,vol,file,tt,into,at0,fr,ln0,data⟩=(0,⟨size,next+1,ex,vs++[⟨next,vol,false,[]⟩],rf,lt⟩)):=by show _=_;simp[AC,hno]
 generalize AC ⟨size,next,ex,vs,rf,lt⟩ ⟨1,vol,file,tt,into,at0,fr,ln0,data⟩=R at *;have ht:IntKind.i64.wrap (next+1)=next+1:=by rw[Ys];omega
 go_enter func67,ntmps67
 go_wp2_with fail
 refine (ak_ B size next ea en ec va vn vc ra rn rc la ln lc vs vol _ (hV.below (by go_grown)) z3).mono ?_;rintro e w1 ⟨rfl,hj⟩;obtain⟨C,O,D,ha,hr⟩:=bx3 hj;clear hj;obtain⟨c0,c1,c2,c3,c4,c5⟩:=C.six';have o0:w1.cell? ⟨w.heap.size+1,0,none⟩=some (.int .i64 1):=O.cell 0;have o1:w1.cell? ⟨w.heap.size+1,1,none⟩=some (.string vol):=O.cell 1;have o2:w1.cell? ⟨w.heap.size+1,2,none⟩=some (.string file):=O.cell 2;have o3:w1.cell? ⟨w.heap.size+1,3,none⟩=some (.string tt):=O.cell 3;obtain⟨x0,x1,x2,x3,x4,x5⟩:=D.six';obtain⟨f0,f1,f2,f3,f4,f5⟩:=fz6 D;rw[hno];simp only[BJ]
 go_wp2_with (at_builtin;refine ag_ rfl (fun K hK=>dC_ _ _ rfl B va vn vc rows rfl ((h2.below ha).alloc _) _ 1 1 [(⟨next,vol,false,none,0,0⟩:VR)] rfl (fQ_ _ (⟨next,vol,false,none,0,0⟩:VR) _ _ (by simp)) (fun ad h=>(by cases h;rfl)) (fun h=>(by cases h)) (vn+1) rfl (by omega) (by simp;omega) (fun a2 cap2 w2 R2 hc=>hK _ _ ?_));have hh:∀ j,Value.ownBlock (.slice va vn vc)=some j->B<=j:=aG_ fun ad hn=>(h2.block ad hn).1;have he:=((h2.below ha).alloc (.cells #[.int .i64 next,.string vol,.bool false,.slice none 0 0] 80)).rowTy (m:=vn) (k:=vc);have hp:=hc.size;have C2:=(C.alloc (.cells #[.int .i64 next,.string vol,.bool false,.slice none 0 0] 80)).ty hc he (by decide);have D2:=(D.alloc (.cells #[.int .i64 next,.string vol,.bool false,.slice none 0 0] 80)).ty hc he (by decide);have hm:=((ha.alloc ha.size (.cells #[.int .i64 next,.string vol,.bool false,.slice none 0 0] 80)).mono hBw).grown hc (by simp;omega) hh;have P2:Ag B w2 (.agg #[.int .i64 size,.int .i64 (next+1),.slice ea en ec,.slice a2 (vn+1) cap2,.slice ra rn rc,.slice la ln lc]) ⟨size,next+1,ex,vs++[⟨next,vol,false,[]⟩],rf,lt⟩:=⟨ea,en,ec,a2,vn+1,cap2,ra,rn,rc,la,ln,lc,rows++[(⟨next,vol,false,none,0,0⟩:VR)],rfl,((h1.below ha).alloc (.cells #[.int .i64 next,.string vol,.bool false,.slice none 0 0] 80)).ty hc he (by decide),⟨R2,((h3.below (ha.alloc ha.size (.cells #[.int .i64 next,.string vol,.bool false,.slice none 0 0] 80))).ty hc he (by decide) (by decide)).snoc ⟨rfl,rfl,rfl,[],aB_,A3.nil _ _⟩⟩,((h4.below ha).alloc (.cells #[.int .i64 next,.string vol,.bool false,.slice none 0 0] 80)).ty hc he (by decide),((h5.below ha).alloc (.cells #[.int .i64 next,.string vol,.bool false,.slice none 0 0] 80)).ty hc he (by decide),h6⟩;obtain⟨y0,y1,y2,y3,y4,y5⟩:=C2.six';obtain⟨q0,q1,q2,q3,q4,q5⟩:=D2.six';have g1:=C2.frozen 1;have g3:=C2.frozen 3;have m0:=D2.frozen 0;have m1:=D2.frozen 1;have m2:=D2.frozen 2;have m3:=D2.frozen 3;have m4:=D2.frozen 4;have m5:=D2.frozen 5)
 simp only[YN] at hp;have hf:w2.grownBy ((w2.setCell ⟨w.heap.size,3,none⟩ (.slice a2 (vn+1) cap2)).setCell ⟨w.heap.size,1,none⟩ (.int .i64 (next+1))) (some w.heap.size):=af_ (CS w2 w.heap.size 3 (.slice a2 (vn+1) cap2)) 1 (.int .i64 (next+1));have D3:Blk ((w2.setCell ⟨w.heap.size,3,none⟩ (.slice a2 (vn+1) cap2)).setCell ⟨w.heap.size,1,none⟩ (.int .i64 (next+1))) (w.heap.size+2) _ _:=(hf.block _ D2.lt (by simp only[ne_eq,Zo];omega)).trans D2;obtain⟨W8,hl,W0,hg⟩:=Ba D3 (.int .i64 size) (.int .i64 (next+1)) (.slice ea en ec) (.slice a2 (vn+1) cap2) (.slice ra rn rc) (.slice la ln lc);have PF:=(P2.tyP hf (aa_ C2)).tyP hg (aa_ D3);have hs:=hf.size;have B8:=(hm.grown hf (by omega) (fun j e=>by cases e;omega)).grown hg (by omega) (fun j e=>by cases e;omega);have FT:=fun (k:Nat) (c:Array Value) (t:TypeId) (hb:Blk w k c t) (hne:t≠80)=>(((((hb.below ha).alloc (.cells #[.int .i64 next,.string vol,.bool false,.slice none 0 0] 80)).ty hc he hne)).offB hf (B:=w.heap.size) (fun j e=>by cases e;omega) hb.lt).offB hg (B:=w.heap.size) (fun j e=>by cases e;omega) hb.lt;rw[<-hl];clear hl;refine YW (ad_ rfl _ W8 (w.heap.size+2) _ _ _ _ _ rfl W0 underlying28 rfl (by kernel_rfl) rfl) rfl ?_;exact⟨⟨_,0,rfl,bm_ _ _ _ _ _ _ _ _ _ _ _ _ _ _,by rw[hS.out],fun _=>by rw[hS.out];exact PF⟩,B8,FT⟩
theorem de_ (B:Nat)(hB0:0<B)(v:Value)(p:Po)(o:Opr)(w:World)(h:Ag B w v p)(hBw:B<=w.heap.size)(hd:AJ p)(hnx:1<=p.next∧p.next<=1000000000)(hk:o.k=6)(i j:Nat)(hso:Bb p.vs o.vol=some i)(hto:Bb p.vs o.to=some j):
  Calls prog 67 #[v,.agg #[.int .i64 o.k,.string o.vol,.string o.file,.string o.to,.string o.into,.int .i64 o.at',.int .i64 o.fr,.int .i64 o.ln,.string o.data]] w fun e w'=>(∃ v' c,e=.returned (.tuple #[v',.int .i64 c])∧Bn v'∧c=(AC p o).1∧(c=0->Ag B w' v' (AC p o).2))∧Below B w w'∧FrV w w':=by
 obtain⟨ea,en,ec,va,vn,vc,ra,rn,rc,la,ln,lc,rows,rfl,h1,⟨h2,h3⟩,h4,h5,h6⟩:=h;obtain⟨z1,z2,z3,z4,z5,z6,z7,z8⟩:=hd;have hV:Bp B w va vn p.vs:=h3.rows.vs h2;rw[hV.len] at z3;obtain⟨size,next,ex,vs,rf,lt⟩:=p;obtain⟨k,vol,file,tt,into,at0,fr,ln0,data⟩:=o;simp only at h1 h2 h3 h4 h5 hV z4 z3 hnx hk ⊢;have _:=hB0;have _:=hnx;have _:=hBw;have hj:vs.length=vn:=hV.len;have ho:rows.length=vn:=h2.sl.len;subst hk;simp only at hso;have hi:=ap_ hso;have hl:i<vn:=by omega
 have hx:vs[i]?=some vs[i]:=by simp[hi]
 have hm:(0:Int)<=(i:Int):=by omega
 have hh:(i:Int)<vn:=by omega
 simp only at hto;have hn:(0:Int)<=(j:Int):=by omega
 have hS:Hid (AC ⟨size,next,ex,vs,rf,lt⟩ ⟨6,vol,file,tt,into,at0,fr,ln0,data⟩=(4,⟨size,next,ex,vs,rf,lt⟩)):=by show _=_;simp[AC,hso,hx,hto]
 generalize AC ⟨size,next,ex,vs,rf,lt⟩ ⟨6,vol,file,tt,into,at0,fr,ln0,data⟩=R at *;go_enter func67,ntmps67
 go_wp2_with fail
 refine (ak_ B size next ea en ec va vn vc ra rn rc la ln lc vs vol _ (hV.below (by go_grown)) z3).mono ?_;rintro e w1 ⟨rfl,he⟩;obtain⟨C,O,D,hb,hp⟩:=bx3 he;clear he;obtain⟨c0,c1,c2,c3,c4,c5⟩:=C.six';have o0:w1.cell? ⟨w.heap.size+1,0,none⟩=some (.int .i64 6):=O.cell 0;have o1:w1.cell? ⟨w.heap.size+1,1,none⟩=some (.string vol):=O.cell 1;have o2:w1.cell? ⟨w.heap.size+1,2,none⟩=some (.string file):=O.cell 2;have o3:w1.cell? ⟨w.heap.size+1,3,none⟩=some (.string tt):=O.cell 3;obtain⟨x0,x1,x2,x3,x4,x5⟩:=D.six';obtain⟨f0,f1,f2,f3,f4,f5⟩:=fz6 D;rw[hso];simp only[BJ]
 go_wp2_with fail
 refine (ak_ B size next ea en ec va vn vc ra rn rc la ln lc vs tt _ (hV.below hb) z3).mono ?_;rintro e wA ⟨rfl,ha⟩;rw[hto];simp only[BJ];have C':=C.below ha;have D':=D.below ha;have O':=O.below ha;have hc:=Aa hb ha;have hq:=ha.size;clear c0 c1 c2 c3 c4 c5 o0 o1 o2 o3 x0 x1 x2 x3 x4 x5 f0 f1 f2 f3 f4 f5 C D O;obtain⟨c0,c1,c2,c3,c4,c5⟩:=C'.six';have o0:wA.cell? ⟨w.heap.size+1,0,none⟩=some (.int .i64 6):=O'.cell 0;have o2:wA.cell? ⟨w.heap.size+1,2,none⟩=some (.string file):=O'.cell 2;have o3:wA.cell? ⟨w.heap.size+1,3,none⟩=some (.string tt):=O'.cell 3;obtain⟨x0,x1,x2,x3,x4,x5⟩:=D'.six';obtain⟨f0,f1,f2,f3,f4,f5⟩:=fz6 D';go_wp2;obtain⟨W8,hf,W0,hg⟩:=Ba D' (.int .i64 size) (.int .i64 next) (.slice ea en ec) (.slice va vn vc) (.slice ra rn rc) (.slice la ln lc);have B8:=hc.grown hg hc.size (fun j e=>by cases e;omega);rw[<-hf];clear hf;refine YW (ad_ rfl _ W8 (w.heap.size+2) _ _ _ _ _ rfl W0 underlying28 rfl (by kernel_rfl) rfl) rfl ?_;exact⟨⟨_,4,rfl,bm_ _ _ _ _ _ _ _ _ _ _ _ _ _ _,by rw[hS.out],fun h=>absurd h (by omega)⟩,B8.mono hBw,FrV.of B8⟩
theorem fu_ (B:Nat)(hB0:0<B)(v:Value)(p:Po)(o:Opr)(w:World)(h:Ag B w v p)(hBw:B<=w.heap.size)(hd:AJ p)(hnx:1<=p.next∧p.next<=1000000000)(hk:o.k=6)(i:Nat)(hso:Bb p.vs o.vol=some i)(hto:Bb p.vs o.to=none):
  Calls prog 67 #[v,.agg #[.int .i64 o.k,.string o.vol,.string o.file,.string o.to,.string o.into,.int .i64 o.at',.int .i64 o.fr,.int .i64 o.ln,.string o.data]] w fun e w'=>(∃ v' c,e=.returned (.tuple #[v',.int .i64 c])∧Bn v'∧c=(AC p o).1∧(c=0->Ag B w' v' (AC p o).2))∧Below B w w'∧FrV w w':=by
 obtain⟨ea,en,ec,va,vn,vc,ra,rn,rc,la,ln,lc,rows,rfl,h1,⟨h2,h3⟩,h4,h5,h6⟩:=h;obtain⟨z1,z2,z3,z4,z5,z6,z7,z8⟩:=hd;have hV:Bp B w va vn p.vs:=h3.rows.vs h2;rw[hV.len] at z3;obtain⟨size,next,ex,vs,rf,lt⟩:=p;obtain⟨k,vol,file,tt,into,at0,fr,ln0,data⟩:=o;simp only at h1 h2 h3 h4 h5 hV z4 z3 hnx hk ⊢;have _:=hB0;have _:=hnx;have _:=hBw;have hz:vs.length=vn:=hV.len;have hA:rows.length=vn:=h2.sl.len;subst hk;simp only at hso;have hi:=ap_ hso;have hv:i<vn:=by omega
 have hx:vs[i]?=some vs[i]:=by simp[hi]
 have hE:(0:Int)<=(i:Int):=by omega
 have hw:(i:Int)<vn:=by omega
 simp only at hto;obtain⟨m1,m2,m3⟩:=z4 _ (Zc hx);have hr:rows[i]?=some (rows[i]'(by omega)):=by simp[hA,hv]
 have VT:=h3.at' i _ _ hr hx;generalize rows[i]'(by omega)=r0 at *;generalize vs[i]=x at *;obtain⟨rid,rnm,rfx,pa0,pn0,pc0⟩:=r0;obtain⟨e1,e2,e3,irows,RI,TI⟩:=VT;simp only at e1 e2 e3 RI;subst e1 e2 e3;obtain⟨vb,rfl,hL,hC,hD⟩:=h2.addr (by omega);have hS:Hid (AC ⟨size,next,ex,vs,rf,lt⟩ ⟨6,vol,file,tt,into,at0,fr,ln0,data⟩=(0,⟨size,next+1,ex,vs++[⟨next,tt,false,x.its⟩],rf,lt⟩)):=by show _=_;simp[AC,hso,hx,hto]
 generalize AC ⟨size,next,ex,vs,rf,lt⟩ ⟨6,vol,file,tt,into,at0,fr,ln0,data⟩=R at *;have hM:IntKind.i64.wrap (next+1)=next+1:=by rw[Ys];omega
 go_enter func67,ntmps67
 go_wp2_with fail
 refine (ak_ B size next ea en ec (some ⟨vb,0,none⟩) vn vc ra rn rc la ln lc vs vol _ (hV.below (by go_grown)) z3).mono ?_;rintro e w1 ⟨rfl,hq⟩;obtain⟨C,O,D,hl,hF⟩:=bx3 hq;clear hq;obtain⟨c0,c1,c2,c3,c4,c5⟩:=C.six';have o0:w1.cell? ⟨w.heap.size+1,0,none⟩=some (.int .i64 6):=O.cell 0;have o1:w1.cell? ⟨w.heap.size+1,1,none⟩=some (.string vol):=O.cell 1;have o2:w1.cell? ⟨w.heap.size+1,2,none⟩=some (.string file):=O.cell 2;have o3:w1.cell? ⟨w.heap.size+1,3,none⟩=some (.string tt):=O.cell 3;obtain⟨x0,x1,x2,x3,x4,x5⟩:=D.six';obtain⟨f0,f1,f2,f3,f4,f5⟩:=fz6 D;rw[hso];simp only[BJ]
 go_wp2_with fail
 refine (ak_ B size next ea en ec (some ⟨vb,0,none⟩) vn vc ra rn rc la ln lc vs tt _ (hV.below hl) z3).mono ?_;rintro e wA ⟨rfl,hj⟩;rw[hto];simp only[BJ];have C':=C.below hj;have D':=D.below hj;have O':=O.below hj;have he:=Aa hl hj;have hH:=hj.size;clear c0 c1 c2 c3 c4 c5 o0 o1 o2 o3 x0 x1 x2 x3 x4 x5 f0 f1 f2 f3 f4 f5 C D O;obtain⟨c0,c1,c2,c3,c4,c5⟩:=C'.six';have o0:wA.cell? ⟨w.heap.size+1,0,none⟩=some (.int .i64 6):=O'.cell 0;have o2:wA.cell? ⟨w.heap.size+1,2,none⟩=some (.string file):=O'.cell 2;have o3:wA.cell? ⟨w.heap.size+1,3,none⟩=some (.string tt):=O'.cell 3;obtain⟨x0,x1,x2,x3,x4,x5⟩:=D'.six';obtain⟨f0,f1,f2,f3,f4,f5⟩:=fz6 D';have RA:=h2.below he;have e0:wA.cell? ⟨vb,i*4,none⟩=some (.int .i64 x.id):=RA.cellAt (j:=0) hr rfl;have e1:wA.cell? ⟨vb,i*4+1,none⟩=some (.string x.nm):=RA.cellAt (j:=1) hr rfl;have e2:wA.cell? ⟨vb,i*4+2,none⟩=some (.bool x.fx):=RA.cellAt (j:=2) hr rfl;have e3:wA.cell? ⟨vb,i*4+3,none⟩=some (.slice pa0 pn0 pc0):=RA.cellAt (j:=3) hr rfl;have IA:Bw B wA pa0 pn0 x.its:=(TI.below he).rows.its (RI.below he);rw[IA.len] at m2
 go_wp2_with fail
 refine (eq_ B hB0 x.id x.nm x.fx x.its pa0 pn0 pc0 _ IA m2 (fun y hy=>(m3 y hy).2)).mono ?_;rintro e wB ⟨⟨pa,pc,jrows,rfl,RJ,TJ⟩,hg⟩;have hn:=Aa he hg;have hI:=hg.size;have hh:Below wB.heap.size wB (wB.alloc (.cells #[.int .i64 next,.string tt,.bool false,.slice pa pn0 pc] 80)):=(Yg _ _).alloc (Zd _) _;have hJ:=hh.size;have ha:=Aa hn hh;have CX:=(C'.below hg).below hh;have DX:=(D'.below hg).below hh;have RX:=h2.below ha;have k1:=Ab hg c1;have k3:=Ab hg c3;have k9:=Ab hg o3;have n0:¬ w.heap.size=wB.heap.size:=by omega
 have n1:¬ w.heap.size+1=wB.heap.size:=by omega
 have n2:¬ wB.heap.size=w.heap.size:=by omega
 have n3:¬ wB.heap.size=w.heap.size+1:=by omega
 have k1':=fun ob=>Al (w:=wB) ob k1;have k3':=fun ob=>Al (w:=wB) ob k3;have k9':=fun ob=>Al (w:=wB) ob k9
 go_wp2_with (at_builtin;refine ag_ rfl (fun K hK=>dC_ _ _ rfl B (some ⟨vb,0,none⟩) vn vc rows rfl (RX.alloc _) _ 1 1 [(⟨next,tt,false,pa,pn0,pc⟩:VR)] rfl (fQ_ _ (⟨next,tt,false,pa,pn0,pc⟩:VR) _ _ (by simp)) (fun ad h=>(by cases h;rfl)) (fun h=>(by cases h)) (vn+1) rfl (by omega) (by simp;omega) (fun a2 cap2 w2 R2 hc=>hK _ _ ?_));have hp:∀ j,Value.ownBlock (.slice (some ⟨vb,0,none⟩) vn vc)=some j->B<=j:=aG_ fun ad hu=>(h2.block ad hu).1;have hf:=(RX.alloc (.cells #[.int .i64 next,.string tt,.bool false,.slice pa pn0 pc] 80)).rowTy (m:=vn) (k:=vc);have hB:=hc.size;have C2:=(CX.alloc (.cells #[.int .i64 next,.string tt,.bool false,.slice pa pn0 pc] 80)).ty hc hf (by decide);have D2:=(DX.alloc (.cells #[.int .i64 next,.string tt,.bool false,.slice pa pn0 pc] 80)).ty hc hf (by decide);have ht:=((ha.alloc ha.size (.cells #[.int .i64 next,.string tt,.bool false,.slice pa pn0 pc] 80)).mono hBw).grown hc (by simp;omega) hp;have P2:Ag B w2 (.agg #[.int .i64 size,.int .i64 (next+1),.slice ea en ec,.slice a2 (vn+1) cap2,.slice ra rn rc,.slice la ln lc]) ⟨size,next+1,ex,vs++[⟨next,tt,false,x.its⟩],rf,lt⟩:=⟨ea,en,ec,a2,vn+1,cap2,ra,rn,rc,la,ln,lc,rows++[(⟨next,tt,false,pa,pn0,pc⟩:VR)],rfl,((h1.below ha).alloc (.cells #[.int .i64 next,.string tt,.bool false,.slice pa pn0 pc] 80)).ty hc hf (by decide),⟨R2,((h3.below (ha.alloc ha.size (.cells #[.int .i64 next,.string tt,.bool false,.slice pa pn0 pc] 80))).ty hc hf (by decide) (by decide)).snoc ⟨rfl,rfl,rfl,jrows,(((RJ.below hh).alloc (.cells #[.int .i64 next,.string tt,.bool false,.slice pa pn0 pc] 80)).ty hc hf (by decide)).mono (by omega),((TJ.below (hh.alloc hh.size (.cells #[.int .i64 next,.string tt,.bool false,.slice pa pn0 pc] 80))).ty hc hf (by decide)).mono (by omega)⟩⟩,((h4.below ha).alloc (.cells #[.int .i64 next,.string tt,.bool false,.slice pa pn0 pc] 80)).ty hc hf (by decide),((h5.below ha).alloc (.cells #[.int .i64 next,.string tt,.bool false,.slice pa pn0 pc] 80)).ty hc hf (by decide),h6⟩;obtain⟨y0,y1,y2,y3,y4,y5⟩:=C2.six';obtain⟨q0,q1,q2,q3,q4,q5⟩:=D2.six';have g1:=C2.frozen 1;have g3:=C2.frozen 3;have m0:=D2.frozen 0;have m1:=D2.frozen 1;have m2:=D2.frozen 2;have m3:=D2.frozen 3;have m4:=D2.frozen 4;have m5:=D2.frozen 5)
 simp only[YN] at hB;have hm:w2.grownBy ((w2.setCell ⟨w.heap.size,3,none⟩ (.slice a2 (vn+1) cap2)).setCell ⟨w.heap.size,1,none⟩ (.int .i64 (next+1))) (some w.heap.size):=af_ (CS w2 w.heap.size 3 (.slice a2 (vn+1) cap2)) 1 (.int .i64 (next+1));have D3:Blk ((w2.setCell ⟨w.heap.size,3,none⟩ (.slice a2 (vn+1) cap2)).setCell ⟨w.heap.size,1,none⟩ (.int .i64 (next+1))) (w.heap.size+2) _ _:=(hm.block _ D2.lt (by simp only[ne_eq,Zo];omega)).trans D2;obtain⟨W8,hs,W0,ho⟩:=Ba D3 (.int .i64 size) (.int .i64 (next+1)) (.slice ea en ec) (.slice a2 (vn+1) cap2) (.slice ra rn rc) (.slice la ln lc);have PF:=(P2.tyP hm (aa_ C2)).tyP ho (aa_ D3);have hG:=hm.size;have B8:=(ht.grown hm (by omega) (fun j e=>by cases e;omega)).grown ho (by omega) (fun j e=>by cases e;omega);have FT:=fun (k:Nat) (c:Array Value) (t:TypeId) (hb:Blk w k c t) (hne:t≠80)=>(((((hb.below ha).alloc (.cells #[.int .i64 next,.string tt,.bool false,.slice pa pn0 pc] 80)).ty hc hf hne)).offB hm (B:=w.heap.size) (fun j e=>by cases e;omega) hb.lt).offB ho (B:=w.heap.size) (fun j e=>by cases e;omega) hb.lt;rw[<-hs];clear hs;refine YW (ad_ rfl _ W8 (w.heap.size+2) _ _ _ _ _ rfl W0 underlying28 rfl (by kernel_rfl) rfl) rfl ?_;exact⟨⟨_,0,rfl,bm_ _ _ _ _ _ _ _ _ _ _ _ _ _ _,by rw[hS.out],fun _=>by rw[hS.out];exact PF⟩,B8,FT⟩
theorem Ad.blkAt (h:Ad cs sz t w B (some ⟨b,0,none⟩) n cap l):∃ c,Blk w b c t:=by
 rcases h.own with⟨h0,_⟩ | ⟨b',e,_,_,_,c,hc,_⟩
 ·cases h0
 ·cases e;exact⟨c,hc⟩
theorem e0_ (B:Nat)(hB0:0<B)(v:Value)(p:Po)(o:Opr)(w:World)(h:Ag B w v p)(hBw:B<=w.heap.size)(hd:AJ p)(hnx:1<=p.next∧p.next<=1000000000)(hk:o.k=8)(i:Nat)(hso:Bb p.vs o.vol=some i)(hfx:∀ x:Vo,p.vs[i]?=some x->x.fx=true):
  Calls prog 67 #[v,.agg #[.int .i64 o.k,.string o.vol,.string o.file,.string o.to,.string o.into,.int .i64 o.at',.int .i64 o.fr,.int .i64 o.ln,.string o.data]] w fun e w'=>(∃ v' c,e=.returned (.tuple #[v',.int .i64 c])∧Bn v'∧c=(AC p o).1∧(c=0->Ag B w' v' (AC p o).2))∧Below B w w'∧FrV w w':=by
 obtain⟨ea,en,ec,va,vn,vc,ra,rn,rc,la,ln,lc,rows,rfl,h1,⟨h2,h3⟩,h4,h5,h6⟩:=h;obtain⟨z1,z2,z3,z4,z5,z6,z7,z8⟩:=hd;have hV:Bp B w va vn p.vs:=h3.rows.vs h2;rw[hV.len] at z3;obtain⟨size,next,ex,vs,rf,lt⟩:=p;obtain⟨k,vol,file,tt,into,at0,fr,ln0,data⟩:=o;simp only at h1 h2 h3 h4 h5 hV z4 z3 hnx hk ⊢;have _:=hB0;have _:=hnx;have _:=hBw;have hj:vs.length=vn:=hV.len;have hl:rows.length=vn:=h2.sl.len;subst hk;simp only at hso;have hi:=ap_ hso;have hg:i<vn:=by omega
 have hx:vs[i]?=some vs[i]:=by simp[hi]
 have ho:(0:Int)<=(i:Int):=by omega
 have hh:(i:Int)<vn:=by omega
 have hr:rows[i]?=some (rows[i]'(by omega)):=by simp[hl,hg]
 have VT:=h3.at' i _ _ hr hx;generalize rows[i]'(by omega)=r0 at *;generalize vs[i]=x at *;obtain⟨rid,rnm,rfx,pa0,pn0,pc0⟩:=r0;obtain⟨e1,e2,e3,irows,RI,TI⟩:=VT;simp only at e1 e2 e3 RI;subst e1 e2 e3;obtain⟨vb,rfl,hq,hm,hn⟩:=h2.addr (by omega);simp only at hfx;have hf:=hfx _ hx;clear hfx;have hS:Hid (AC ⟨size,next,ex,vs,rf,lt⟩ ⟨8,vol,file,tt,into,at0,fr,ln0,data⟩=(6,⟨size,next,ex,vs,rf,lt⟩)):=by show _=_;simp[AC,hso,hx,hf]
 generalize AC ⟨size,next,ex,vs,rf,lt⟩ ⟨8,vol,file,tt,into,at0,fr,ln0,data⟩=R at *;go_enter func67,ntmps67
 go_wp2_with fail
 refine (ak_ B size next ea en ec (some ⟨vb,0,none⟩) vn vc ra rn rc la ln lc vs vol _ (hV.below (by go_grown)) z3).mono ?_;rintro e w1 ⟨rfl,hb⟩;obtain⟨C,O,D,ha,hp⟩:=bx3 hb;clear hb;obtain⟨c0,c1,c2,c3,c4,c5⟩:=C.six';have o0:w1.cell? ⟨w.heap.size+1,0,none⟩=some (.int .i64 8):=O.cell 0;have o1:w1.cell? ⟨w.heap.size+1,1,none⟩=some (.string vol):=O.cell 1;have o2:w1.cell? ⟨w.heap.size+1,2,none⟩=some (.string file):=O.cell 2;have o3:w1.cell? ⟨w.heap.size+1,3,none⟩=some (.string tt):=O.cell 3;obtain⟨x0,x1,x2,x3,x4,x5⟩:=D.six';obtain⟨f0,f1,f2,f3,f4,f5⟩:=fz6 D;rw[hso];simp only[BJ];have RA:=h2.below ha;have e0:w1.cell? ⟨vb,i*4,none⟩=some (.int .i64 x.id):=RA.cellAt (j:=0) hr rfl;have e1:w1.cell? ⟨vb,i*4+1,none⟩=some (.string x.nm):=RA.cellAt (j:=1) hr rfl;have e2:w1.cell? ⟨vb,i*4+2,none⟩=some (.bool x.fx):=RA.cellAt (j:=2) hr rfl;have e3:w1.cell? ⟨vb,i*4+3,none⟩=some (.slice pa0 pn0 pc0):=RA.cellAt (j:=3) hr rfl;rw[hf] at e2;go_wp2;obtain⟨W8,hc,W0,he⟩:=Ba D (.int .i64 size) (.int .i64 next) (.slice ea en ec) (.slice (some ⟨vb,0,none⟩) vn vc) (.slice ra rn rc) (.slice la ln lc);have B8:=ha.grown he ha.size (fun j e=>by cases e;omega);rw[<-hc];clear hc;refine YW (ad_ rfl _ W8 (w.heap.size+2) _ _ _ _ _ rfl W0 underlying28 rfl (by kernel_rfl) rfl) rfl ?_;exact⟨⟨_,6,rfl,bm_ _ _ _ _ _ _ _ _ _ _ _ _ _ _,by rw[hS.out],fun h=>absurd h (by omega)⟩,B8.mono hBw,FrV.of B8⟩
theorem fT_ (B:Nat)(hB0:0<B)(v:Value)(p:Po)(o:Opr)(w:World)(h:Ag B w v p)(hBw:B<=w.heap.size)(hd:AJ p)(hnx:1<=p.next∧p.next<=1000000000)(hk:o.k=8)(i:Nat)(hso:Bb p.vs o.vol=some i)(hfx:∀ x:Vo,p.vs[i]?=some x->x.fx=false):
  Calls prog 67 #[v,.agg #[.int .i64 o.k,.string o.vol,.string o.file,.string o.to,.string o.into,.int .i64 o.at',.int .i64 o.fr,.int .i64 o.ln,.string o.data]] w fun e w'=>(∃ v' c,e=.returned (.tuple #[v',.int .i64 c])∧Bn v'∧c=(AC p o).1∧(c=0->Ag B w' v' (AC p o).2))∧Below B w w'∧FrV w w':=by
 obtain⟨ea,en,ec,va,vn,vc,ra,rn,rc,la,ln,lc,rows,rfl,h1,⟨h2,h3⟩,h4,h5,h6⟩:=h;obtain⟨z1,z2,z3,z4,z5,z6,z7,z8⟩:=hd;have hV:Bp B w va vn p.vs:=h3.rows.vs h2;rw[hV.len] at z3;obtain⟨size,next,ex,vs,rf,lt⟩:=p;obtain⟨k,vol,file,tt,into,at0,fr,ln0,data⟩:=o;simp only at h1 h2 h3 h4 h5 hV z4 z3 hnx hk ⊢;have _:=hB0;have _:=hnx;have _:=hBw;have ho:vs.length=vn:=hV.len;have hp:rows.length=vn:=h2.sl.len;subst hk;simp only at hso;have hi:=ap_ hso;have hm:i<vn:=by omega
 have hx:vs[i]?=some vs[i]:=by simp[hi]
 have hu:(0:Int)<=(i:Int):=by omega
 have hn:(i:Int)<vn:=by omega
 have hr:rows[i]?=some (rows[i]'(by omega)):=by simp[hp,hm]
 have VT:=h3.at' i _ _ hr hx;generalize rows[i]'(by omega)=r0 at *;generalize vs[i]=x at *;obtain⟨rid,rnm,rfx,pa0,pn0,pc0⟩:=r0;obtain⟨e1,e2,e3,irows,RI,TI⟩:=VT;simp only at e1 e2 e3 RI;subst e1 e2 e3;obtain⟨vb,rfl,hq,hs,ht⟩:=h2.addr (by omega);simp only at hfx;have hf:=hfx _ hx;clear hfx;have hS:Hid (AC ⟨size,next,ex,vs,rf,lt⟩ ⟨8,vol,file,tt,into,at0,fr,ln0,data⟩=(0,⟨size,next,ex,vs.set i ⟨x.id,x.nm,true,x.its⟩,rf,lt⟩)):=by show _=_;simp[AC,hso,hx,hf]
 generalize AC ⟨size,next,ex,vs,rf,lt⟩ ⟨8,vol,file,tt,into,at0,fr,ln0,data⟩=R at *;go_enter func67,ntmps67
 go_wp2_with fail
 refine (ak_ B size next ea en ec (some ⟨vb,0,none⟩) vn vc ra rn rc la ln lc vs vol _ (hV.below (by go_grown)) z3).mono ?_;rintro e w1 ⟨rfl,hh⟩;obtain⟨C,O,D,ha,hv⟩:=bx3 hh;clear hh;obtain⟨c0,c1,c2,c3,c4,c5⟩:=C.six';have o0:w1.cell? ⟨w.heap.size+1,0,none⟩=some (.int .i64 8):=O.cell 0;have o1:w1.cell? ⟨w.heap.size+1,1,none⟩=some (.string vol):=O.cell 1;have o2:w1.cell? ⟨w.heap.size+1,2,none⟩=some (.string file):=O.cell 2;have o3:w1.cell? ⟨w.heap.size+1,3,none⟩=some (.string tt):=O.cell 3;obtain⟨x0,x1,x2,x3,x4,x5⟩:=D.six';obtain⟨f0,f1,f2,f3,f4,f5⟩:=fz6 D;rw[hso];simp only[BJ];have RA:=h2.below ha;have e0:w1.cell? ⟨vb,i*4,none⟩=some (.int .i64 x.id):=RA.cellAt (j:=0) hr rfl;have e1:w1.cell? ⟨vb,i*4+1,none⟩=some (.string x.nm):=RA.cellAt (j:=1) hr rfl;have e2:w1.cell? ⟨vb,i*4+2,none⟩=some (.bool x.fx):=RA.cellAt (j:=2) hr rfl;have e3:w1.cell? ⟨vb,i*4+3,none⟩=some (.slice pa0 pn0 pc0):=RA.cellAt (j:=3) hr rfl;rw[hf] at e2;obtain⟨vcs,VB⟩:=RA.blkAt;have fz:=VB.frozen (i*4+2);have hc:=CS w1 vb (i*4+2) (.bool true);have he:BF w1 (some vb) 80:=aa_ VB;have R1:Ad vrs 4 80 (w1.setCell ⟨vb,i*4+2,none⟩ (.bool true)) B (some ⟨vb,0,none⟩) vn vc (rows.set i ⟨x.id,x.nm,true,pa0,pn0,pc0⟩):=Ad.set1 a2_ RA hr (by omega) rfl;have T1:=((h3.below ha).ty hc he (by decide) (by decide)).set i (show CE B _ ⟨x.id,x.nm,true,pa0,pn0,pc0⟩ ⟨x.id,x.nm,true,x.its⟩ from ⟨rfl,rfl,rfl,irows,(RI.below ha).ty hc he (by decide),(TI.below ha).ty hc he (by decide)⟩);have C1:=C.ty hc he (by decide);have D1:=D.ty hc he (by decide);have P2:Ag B (w1.setCell ⟨vb,i*4+2,none⟩ (.bool true)) (.agg #[.int .i64 size,.int .i64 next,.slice ea en ec,.slice (some ⟨vb,0,none⟩) vn vc,.slice ra rn rc,.slice la ln lc]) ⟨size,next,ex,vs.set i ⟨x.id,x.nm,true,x.its⟩,rf,lt⟩:=⟨ea,en,ec,some ⟨vb,0,none⟩,vn,vc,ra,rn,rc,la,ln,lc,_,rfl,(h1.below ha).ty hc he (by decide),⟨R1,T1⟩,(h4.below ha).ty hc he (by decide),(h5.below ha).ty hc he (by decide),h6⟩;obtain⟨y0,y1,y2,y3,y4,y5⟩:=C1.six';obtain⟨q0,q1,q2,q3,q4,q5⟩:=D1.six';obtain⟨m0,m1,m2,m3,m4,m5⟩:=fz6 D1;have hl:=(ha.mono hBw).grown hc (by have:=ha.size;omega) (fun j e=>by cases e;exact hq);have hw:=hc.size;go_wp2;obtain⟨W8,hj,W0,hg⟩:=Ba D1 (.int .i64 size) (.int .i64 next) (.slice ea en ec) (.slice (some ⟨vb,0,none⟩) vn vc) (.slice ra rn rc) (.slice la ln lc);have PF:=P2.tyP hg (aa_ D1);have B8:=hl.grown hg (by have:=ha.size;omega) (fun j e=>by cases e;omega);have FT:=fun (k:Nat) (c:Array Value) (t:TypeId) (hb:Blk w k c t) (hne:t≠80)=>((hb.below ha).ty hc he hne).offB hg (B:=w.heap.size) (fun j e=>by cases e;omega) hb.lt;rw[<-hj];clear hj;refine YW (ad_ rfl _ W8 (w.heap.size+2) _ _ _ _ _ rfl W0 underlying28 rfl (by kernel_rfl) rfl) rfl ?_;exact⟨⟨_,0,rfl,bm_ _ _ _ _ _ _ _ _ _ _ _ _ _ _,by rw[hS.out],fun _=>by rw[hS.out];exact PF⟩,B8,FT⟩
end
end Go.Proofs.YtkiceokhlceciaaGreatDoor
