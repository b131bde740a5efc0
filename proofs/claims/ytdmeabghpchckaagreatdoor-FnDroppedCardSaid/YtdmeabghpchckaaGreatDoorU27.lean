/- A volume looked up by its name; a piece of one file copied into another. -/
import Derived.Test.YtdmeabghpchckaaGreatDoorU26
set_option maxHeartbeats 20000000
set_option maxRecDepth 100000
namespace Go.Proofs.YtdmeabghpchckaaGreatDoor
section
open Go Go.RowKit Go.BigFrame Tryz
variable{α:Type}{bs:List Nat}{rows:List VR}{vs:List Vo}{B b ec en i lc ln' pb rc rn vb vc vn:Nat}{ea la ra:Option Addr}{p:Po}{r r':VR}{y:Vo}{w w':World}{l:List α}{x:α}
theorem hX_ {y':Vo}(F:Foc B vb vn vc i rows r y w)(T:Ax B w rows vs)(hsep:Cw rows)(hf:FrL bs w w')(hb:∀ k∈bs,k∈vb::AT r.pa∨∃ c,Blk w k c 28)(hV:Bd B w' r' y'):Ax B w' (rows.set i r') (vs.set i y'):=by
 have he:=(Zb.1 F.hi).1
 have ho:Oth w bs 146:=fun k hk=>by
  rcases hb k hk with h | ⟨c,h⟩
  ·exact eU_ F (by decide) (by decide) k h
  ·exact⟨c,_,h,by decide⟩
 refine⟨by simp[T.len],fun j q z h1 h2=>?_⟩;by_cases hij:i=j
 ·subst hij;rw[Zx he] at h1;rw[Zx (by rw[<-T.len];exact he)] at h2
  cases h1
  cases h2
  exact hV
 ·rw[ZJ hij] at h1 h2;refine (T.at' j q z h1 h2).frl hf ho (fun ad e hm=>?_);obtain⟨rs,R,_⟩:=(T.at' j q z h1 h2).its
  have hq:∃ c,Blk w ad.block c 134:=by
   rcases R.own with⟨h0,_⟩ | ⟨b,e',_,_,_,c,hc,_⟩
   ·rw[h0] at e;cases e
   ·rw[e'] at e;cases e;exact⟨c,hc⟩
  obtain⟨cq,ha⟩:=hq;rcases hb _ hm with h | ⟨c,h⟩
  ·rcases Zn.1 h with h | h
   ·obtain⟨c,hc⟩:=F.rv.blkAt;rw[h] at ha;exact bD_ hc ha (by decide)
   ·obtain⟨x,hg,hh⟩:=aO_.1 h;exact hsep i j r q x ad hij F.hi h1 hg e hh
  ·exact bD_ h ha (by decide)
theorem pK_ {j:Nat}{q:VR}{z:Vo}(F:Foc B vb vn vc i rows r y w)(hsep:Cw rows)(hb:∀ k∈bs,k∈vb::AT r.pa∨∃ c,Blk w k c 28)(hij:i≠j)(h1:rows[j]?=some q)(V:Bd B w q z):∀ ad,q.pa=some ad->ad.block∉bs:=by
 intro ad e hm;obtain⟨rs,R,_⟩:=V.its
 have hq:∃ c,Blk w ad.block c 134:=by
  rcases R.own with⟨h0,_⟩ | ⟨b,e',_,_,_,c,hc,_⟩
  ·rw[h0] at e;cases e
  ·rw[e'] at e;cases e;exact⟨c,hc⟩
 obtain⟨cq,ha⟩:=hq;rcases hb _ hm with h | ⟨c,h⟩
 ·rcases Zn.1 h with h | h
  ·obtain⟨c,hc⟩:=F.rv.blkAt;rw[h] at ha;exact bD_ hc ha (by decide)
  ·obtain⟨x,he,hf⟩:=aO_.1 h;exact hsep i j r q x ad hij F.hi h1 he e hf
 ·exact bD_ h ha (by decide)
theorem kM_ (h:x∈l.take i):∃ j,j<i∧l[j]?=some x:=by
 obtain⟨j,hj,e⟩:=YS h;rw[Zz] at hj;rw[List.getElem_take] at e;exact⟨j,by omega,by rw[<-e];simp[show j<l.length by omega]⟩
theorem kN_ (h:x∈l.drop i):∃ j,i<=j∧l[j]?=some x:=by
 obtain⟨j,hj,e⟩:=YS h;rw[List.length_drop] at hj;rw[List.getElem_drop] at e;exact⟨i+j,by omega,by rw[<-e];simp[show i+j<l.length by omega]⟩
theorem Cw.sub {l:List VR}(h:Cw rows)(hs:l.Sublist rows):Cw l:=f1_.2 ((f1_.1 h).sublist hs)
theorem l0_ (F:Foc B vb vn vc i rows r y w)(T:Ax B w rows vs)(hsep:Cw rows)(N:NP w rows)(hf:FrL bs w w')(hbs:∀ k∈bs,k∈vb::AT r.pa∨∃ c,Blk w k c 28)(hM:Fw w r w' r'):Cw (rows.set i r')∧NP w' (rows.set i r'):=by
 have hh:=(Zb.1 F.hi).1
 have hk:∀ (j:Nat) (q:VR),i≠j->rows[j]?=some q->pbk w' q=pbk w q:=fun j q hg h1=>by
  obtain⟨z,V⟩:=T.of_mem (Zc h1);exact fP_ V (fun rs R=>(R.frl hf (pK_ F hsep hbs hg h1 V)).sl)
 have hl:∀ (j:Nat) (q:VR) (x:Addr),rows[j]?=some q->q.pa=some x->x.block<w.heap.size:=fun j q x h1 hx=>by
  obtain⟨z,V⟩:=T.of_mem (Zc h1);obtain⟨rs,R,_⟩:=V.its;exact (R.block x hx).2
 have hb:∀ (j:Nat) (q:VR) (x x':Addr),i≠j->rows[j]?=some q->q.pa=some x->r'.pa=some x'->x'.block≠x.block:=fun j q x x' hg h1 hx hc=>by
  rcases hM.1 x' hc with h | h
  ·obtain⟨x0,e0,e1⟩:=aO_.1 h;rw[<-e1];exact hsep i j r q x0 x hg F.hi h1 e0 hx
  ·have:=hl j q x h1 hx
   omega
 refine⟨fun a b q s x x' he h1 h2 hx hc=>?_,?_⟩
 ·by_cases hia:i=a
  ·subst hia;rw[Zx hh] at h1
   cases h1
   rw[ZJ he] at h2;exact hb b s x' x he h2 hc hx
  ·rw[ZJ hia] at h1;by_cases hib:i=b
   ·subst hib;rw[Zx hh] at h2
    cases h2
    exact fun e=>hb a q x x' hia h1 hx hc e.symm
   ·rw[ZJ hib] at h2;exact hsep a b q s x x' he h1 h2 hx hc
 ·unfold NP at N ⊢;have ha:=mD_ T;rw[ob_ F.hi] at N ha;rw[iK_ hh,bW_ (f:=pbk w') (g:=pbk w) (l:=rows.take i) (fun q hq=>by obtain⟨j,hj,h1⟩:=kM_ hq;exact hk j q (by omega) h1),bW_ (f:=pbk w') (g:=pbk w) (l:=rows.drop (i+1)) (fun q hq=>by obtain⟨j,hj,h1⟩:=kN_ hq;exact hk j q (by omega) h1)];obtain⟨rs,R,_⟩:=F.v.its;have hm:=hM.2 rs R.sl;rw[<-cv_ R.sl] at hm;exact nh_ N ha hm
structure Rgt (p:Po):Prop where
 vn:p.vs.length<=4000000
 str:DB p.vs
 nd:(p.vs.map (·.nm.toList)).Nodup
 its:∀ v∈p.vs,EP v.its∧v.its.length<=4000000
def Cu (S:Addr->Prop)(B pb:Nat)(w:World)(e:Ending)(w':World):Int⊕Po->Prop
 |.inl c=>(∃ a,S a∧e=.returned (BJ c a))∧Below B w w'
 |.inr p=>e=.returned .nilIface∧PoB B pb w' p∧Below B w w'
def AG (p:Po)(s:ByteArray)(chg:Bool)(f:Nat->Vo->Int⊕Po):Int⊕Po:=match volI p.vs s with
 |none=>.inl 3
 |some i=>match p.vs[i]? with
  |none=>.inl 3
  |some y=>if (chg&&y.fx)=true then .inl 6 else f i y
def BZ (p:Po)(i:Nat)(y:Vo):Int⊕List It->Int⊕Po
 |.inl c=>.inl c
 |.inr its=>.inr {p with vs:=p.vs.set i {y with its:=its}}
theorem Own.foc (h:Own B pb w p ea en ec (some ⟨vb,0,none⟩) vn vc ra rn rc la ln' lc rows)(hr:Rgt p)(hy:p.vs[i]?=some y):∃ r,rows[i]?=some r∧Foc B vb vn vc i rows r y w:=by
 have hi:=(Zb.1 hy).1;have hm:=Zc hy;obtain⟨r,hq⟩:∃ r,rows[i]?=some r:=⟨rows[i]'(by rw[h.T.len];exact hi),by simp⟩;obtain⟨h1,h2⟩:=hr.its y hm;exact⟨r,hq,h.RV,hq,h.T.at' i r y hq hy,h1,h2,(hr.str y hm).2.2⟩
theorem Own.endV {S:Addr->Prop}{w0:World}(h:Own B pb w p ea en ec (some ⟨vb,0,none⟩) vn vc ra rn rc la ln' lc rows)(F:Foc B vb vn vc i rows r y w)(hb:Below w0.heap.size w0 w)(hB:B<=w0.heap.size){e:Ending}{R:Int⊕List It}(hret:Gd S B vb vn vc i rows r y w e w' R):Cu S B pb w0 e w' (BZ p i y R):=by
 have hz:=hb.size
 cases R with
 |inl c=>exact⟨hret.1,(Aa hb hret.2).mono hB⟩
 |inr its=>
  obtain⟨he,r',h1,h2,h3,h4⟩:=hret;have hT:=hX_ F h.T h.sepV h3 (fun k hk=>.inl hk) h2;have hN:=l0_ F h.T h.sepV h.np h3 (fun k hk=>.inl hk) h4;exact⟨he,⟨ea,en,ec,_,vn,vc,ra,rn,rc,la,ln',lc,_,h.P.frlT h3 (eU_ F (by decide) (by decide)),h.RE.frlT h3 (eU_ F (by decide) (by decide)),h1,hT,h.RR.frlT h3 (eU_ F (by decide) (by decide)),h.RL.frlT h3 (eU_ F (by decide) (by decide)),h.sep,hN⟩,(hb.mono hB).trans (h3.low (lZ_ F) (by omega))⟩
end
section
open Go Go.RowKit Go.BigFrame Tryz
variable{rows:List VR}{B ec en i lc ln' pb rc rn vb vc vn:Nat}{ea la ra:Option Addr}{p:Po}{r:VR}{y:Vo}{w w' w0:World}
theorem dI_ (v:Value)(w:World):(Instr.typeAssert (.iface 152 v) 102 152 true).run prog w=.ok (.tuple #[v,.bool true]) w:=by kernel_rfl
theorem dg_ (v:Value)(w:World):(Instr.typeAssert (.iface 155 v) 102 152 true).run prog w=.ok (.tuple #[.agg #[.string .empty],.bool false]) w:=by kernel_rfl
theorem cV_ (v:Value)(w:World):(Instr.typeAssert (.iface 155 v) 102 155 true).run prog w=.ok (.tuple #[v,.bool true]) w:=by kernel_rfl
theorem dJ_ (v:Value)(w:World):(Instr.typeAssert (.iface 160 v) 102 152 true).run prog w=.ok (.tuple #[.agg #[.string .empty],.bool false]) w:=by kernel_rfl
theorem dh_ (v:Value)(w:World):(Instr.typeAssert (.iface 160 v) 102 155 true).run prog w=.ok (.tuple #[.agg #[],.bool false]) w:=by kernel_rfl
theorem dK_ (v:Value)(w:World):(Instr.typeAssert (.iface 160 v) 102 160 true).run prog w=.ok (.tuple #[v,.bool true]) w:=by kernel_rfl
theorem dL_ (v:Value)(w:World):(Instr.typeAssert (.iface 162 v) 102 152 true).run prog w=.ok (.tuple #[.agg #[.string .empty],.bool false]) w:=by kernel_rfl
theorem di_ (v:Value)(w:World):(Instr.typeAssert (.iface 162 v) 102 155 true).run prog w=.ok (.tuple #[.agg #[],.bool false]) w:=by kernel_rfl
theorem dM_ (v:Value)(w:World):(Instr.typeAssert (.iface 162 v) 102 160 true).run prog w=.ok (.tuple #[.agg #[.string .empty,.string .empty],.bool false]) w:=by kernel_rfl
theorem dN_ (v:Value)(w:World):(Instr.typeAssert (.iface 162 v) 102 162 true).run prog w=.ok (.tuple #[v,.bool true]) w:=by kernel_rfl
theorem ea_ (v:Value)(w:World):(Instr.typeAssert (.iface 165 v) 102 152 true).run prog w=.ok (.tuple #[.agg #[.string .empty],.bool false]) w:=by kernel_rfl
theorem dO_ (v:Value)(w:World):(Instr.typeAssert (.iface 165 v) 102 155 true).run prog w=.ok (.tuple #[.agg #[],.bool false]) w:=by kernel_rfl
theorem eb_ (v:Value)(w:World):(Instr.typeAssert (.iface 165 v) 102 160 true).run prog w=.ok (.tuple #[.agg #[.string .empty,.string .empty],.bool false]) w:=by kernel_rfl
theorem ec_ (v:Value)(w:World):(Instr.typeAssert (.iface 165 v) 102 162 true).run prog w=.ok (.tuple #[.agg #[.string .empty],.bool false]) w:=by kernel_rfl
theorem eD_ (v:Value)(w:World):(Instr.typeAssert (.iface 165 v) 102 165 true).run prog w=.ok (.tuple #[v,.bool true]) w:=by kernel_rfl
theorem dj_ (v:Value)(w:World):(Instr.typeAssert (.iface 170 v) 102 152 true).run prog w=.ok (.tuple #[.agg #[.string .empty],.bool false]) w:=by kernel_rfl
theorem cW_ (v:Value)(w:World):(Instr.typeAssert (.iface 170 v) 102 155 true).run prog w=.ok (.tuple #[.agg #[],.bool false]) w:=by kernel_rfl
theorem dk_ (v:Value)(w:World):(Instr.typeAssert (.iface 170 v) 102 160 true).run prog w=.ok (.tuple #[.agg #[.string .empty,.string .empty],.bool false]) w:=by kernel_rfl
theorem dl_ (v:Value)(w:World):(Instr.typeAssert (.iface 170 v) 102 162 true).run prog w=.ok (.tuple #[.agg #[.string .empty],.bool false]) w:=by kernel_rfl
theorem dP_ (v:Value)(w:World):(Instr.typeAssert (.iface 170 v) 102 165 true).run prog w=.ok (.tuple #[.agg #[.string .empty],.bool false]) w:=by kernel_rfl
theorem cX_ (v:Value)(w:World):(Instr.typeAssert (.iface 170 v) 102 170 true).run prog w=.ok (.tuple #[v,.bool true]) w:=by kernel_rfl
theorem dQ_ (v:Value)(w:World):(Instr.typeAssert (.iface 173 v) 102 152 true).run prog w=.ok (.tuple #[.agg #[.string .empty],.bool false]) w:=by kernel_rfl
theorem dm_ (v:Value)(w:World):(Instr.typeAssert (.iface 173 v) 102 155 true).run prog w=.ok (.tuple #[.agg #[],.bool false]) w:=by kernel_rfl
theorem dR_ (v:Value)(w:World):(Instr.typeAssert (.iface 173 v) 102 160 true).run prog w=.ok (.tuple #[.agg #[.string .empty,.string .empty],.bool false]) w:=by kernel_rfl
theorem dS_ (v:Value)(w:World):(Instr.typeAssert (.iface 173 v) 102 162 true).run prog w=.ok (.tuple #[.agg #[.string .empty],.bool false]) w:=by kernel_rfl
theorem ed_ (v:Value)(w:World):(Instr.typeAssert (.iface 173 v) 102 165 true).run prog w=.ok (.tuple #[.agg #[.string .empty],.bool false]) w:=by kernel_rfl
theorem dn_ (v:Value)(w:World):(Instr.typeAssert (.iface 173 v) 102 170 true).run prog w=.ok (.tuple #[.agg #[.string .empty,.string .empty,.int .i64 0,.string .empty],.bool false]) w:=by kernel_rfl
theorem dT_ (v:Value)(w:World):(Instr.typeAssert (.iface 173 v) 102 173 true).run prog w=.ok (.tuple #[v,.bool true]) w:=by kernel_rfl
theorem ee_ (v:Value)(w:World):(Instr.typeAssert (.iface 176 v) 102 152 true).run prog w=.ok (.tuple #[.agg #[.string .empty],.bool false]) w:=by kernel_rfl
theorem dU_ (v:Value)(w:World):(Instr.typeAssert (.iface 176 v) 102 155 true).run prog w=.ok (.tuple #[.agg #[],.bool false]) w:=by kernel_rfl
theorem ef_ (v:Value)(w:World):(Instr.typeAssert (.iface 176 v) 102 160 true).run prog w=.ok (.tuple #[.agg #[.string .empty,.string .empty],.bool false]) w:=by kernel_rfl
theorem eg_ (v:Value)(w:World):(Instr.typeAssert (.iface 176 v) 102 162 true).run prog w=.ok (.tuple #[.agg #[.string .empty],.bool false]) w:=by kernel_rfl
theorem eE_ (v:Value)(w:World):(Instr.typeAssert (.iface 176 v) 102 165 true).run prog w=.ok (.tuple #[.agg #[.string .empty],.bool false]) w:=by kernel_rfl
theorem dV_ (v:Value)(w:World):(Instr.typeAssert (.iface 176 v) 102 170 true).run prog w=.ok (.tuple #[.agg #[.string .empty,.string .empty,.int .i64 0,.string .empty],.bool false]) w:=by kernel_rfl
theorem eh_ (v:Value)(w:World):(Instr.typeAssert (.iface 176 v) 102 173 true).run prog w=.ok (.tuple #[.agg #[.string .empty,.string .empty,.int .i64 0,.string .empty,.string .empty,.int .i64 0,.int .i64 0],.bool false]) w:=by kernel_rfl
theorem eF_ (v:Value)(w:World):(Instr.typeAssert (.iface 176 v) 102 176 true).run prog w=.ok (.tuple #[v,.bool true]) w:=by kernel_rfl
theorem do_ (v:Value)(w:World):(Instr.typeAssert (.iface 179 v) 102 152 true).run prog w=.ok (.tuple #[.agg #[.string .empty],.bool false]) w:=by kernel_rfl
theorem cY_ (v:Value)(w:World):(Instr.typeAssert (.iface 179 v) 102 155 true).run prog w=.ok (.tuple #[.agg #[],.bool false]) w:=by kernel_rfl
theorem dp_ (v:Value)(w:World):(Instr.typeAssert (.iface 179 v) 102 160 true).run prog w=.ok (.tuple #[.agg #[.string .empty,.string .empty],.bool false]) w:=by kernel_rfl
theorem dq_ (v:Value)(w:World):(Instr.typeAssert (.iface 179 v) 102 162 true).run prog w=.ok (.tuple #[.agg #[.string .empty],.bool false]) w:=by kernel_rfl
theorem dW_ (v:Value)(w:World):(Instr.typeAssert (.iface 179 v) 102 165 true).run prog w=.ok (.tuple #[.agg #[.string .empty],.bool false]) w:=by kernel_rfl
theorem cZ_ (v:Value)(w:World):(Instr.typeAssert (.iface 179 v) 102 170 true).run prog w=.ok (.tuple #[.agg #[.string .empty,.string .empty,.int .i64 0,.string .empty],.bool false]) w:=by kernel_rfl
theorem dr_ (v:Value)(w:World):(Instr.typeAssert (.iface 179 v) 102 173 true).run prog w=.ok (.tuple #[.agg #[.string .empty,.string .empty,.int .i64 0,.string .empty,.string .empty,.int .i64 0,.int .i64 0],.bool false]) w:=by kernel_rfl
theorem dX_ (v:Value)(w:World):(Instr.typeAssert (.iface 179 v) 102 176 true).run prog w=.ok (.tuple #[.agg #[.string .empty,.string .empty,.int .i64 0],.bool false]) w:=by kernel_rfl
theorem c0_ (v:Value)(w:World):(Instr.typeAssert (.iface 179 v) 102 179 true).run prog w=.ok (.tuple #[v,.bool true]) w:=by kernel_rfl
theorem c1_ (v:Value)(w:World):(Instr.typeAssert (.iface 182 v) 102 152 true).run prog w=.ok (.tuple #[.agg #[.string .empty],.bool false]) w:=by kernel_rfl
theorem cC_ (v:Value)(w:World):(Instr.typeAssert (.iface 182 v) 102 155 true).run prog w=.ok (.tuple #[.agg #[],.bool false]) w:=by kernel_rfl
theorem c2_ (v:Value)(w:World):(Instr.typeAssert (.iface 182 v) 102 160 true).run prog w=.ok (.tuple #[.agg #[.string .empty,.string .empty],.bool false]) w:=by kernel_rfl
theorem c3_ (v:Value)(w:World):(Instr.typeAssert (.iface 182 v) 102 162 true).run prog w=.ok (.tuple #[.agg #[.string .empty],.bool false]) w:=by kernel_rfl
theorem ds_ (v:Value)(w:World):(Instr.typeAssert (.iface 182 v) 102 165 true).run prog w=.ok (.tuple #[.agg #[.string .empty],.bool false]) w:=by kernel_rfl
theorem cD_ (v:Value)(w:World):(Instr.typeAssert (.iface 182 v) 102 170 true).run prog w=.ok (.tuple #[.agg #[.string .empty,.string .empty,.int .i64 0,.string .empty],.bool false]) w:=by kernel_rfl
theorem c4_ (v:Value)(w:World):(Instr.typeAssert (.iface 182 v) 102 173 true).run prog w=.ok (.tuple #[.agg #[.string .empty,.string .empty,.int .i64 0,.string .empty,.string .empty,.int .i64 0,.int .i64 0],.bool false]) w:=by kernel_rfl
theorem dt_ (v:Value)(w:World):(Instr.typeAssert (.iface 182 v) 102 176 true).run prog w=.ok (.tuple #[.agg #[.string .empty,.string .empty,.int .i64 0],.bool false]) w:=by kernel_rfl
theorem cE_ (v:Value)(w:World):(Instr.typeAssert (.iface 182 v) 102 179 true).run prog w=.ok (.tuple #[.agg #[.string .empty,.string .empty,.int .i64 0,.int .i64 0],.bool false]) w:=by kernel_rfl
theorem cz_ (v:Value)(w:World):(Instr.typeAssert (.iface 182 v) 102 182 true).run prog w=.ok (.tuple #[v,.bool true]) w:=by kernel_rfl
theorem bh_ (B:Nat)(size next:Int)(ea:Option Addr)(en ec:Nat)(va:Option Addr)(vn vc:Nat)(ra:Option Addr)(rn rc:Nat)(la:Option Addr)(ln lc:Nat)(vb:Nat)(rows:List VR)(vs:List Vo)(hva:0<vn->va=some ⟨vb,0,none⟩)(w:World)(RV:Ad vrs 4 38 w B va vn vc rows)(T:Ax B w rows vs)(hvn:vn<=4194304)(hst:DB vs)(hnd:(vs.map (·.nm.toList)).Nodup):
  Calls prog 31 #[.agg #[.int .i64 size,.int .i64 next,.slice ea en ec,.slice va vn vc,.slice ra rn rc,.slice la ln lc]] w fun x w'=>(∃ b,x=.returned (.map (some b))∧∀ (s:ByteArray) (u:World),s.size<=1048576->Below w'.heap.size w' u->(Instr.lookup 75 (.map (some b)) (.string s) false).run prog u=.ok (BS vb (volI vs s)) u)∧Below w.heap.size w w':=by
 refine (bC_ B size next ea en ec va vn vc ra rn rc la ln lc vs vb 0 hva w (B6.vs RV T.rows) hvn hst).mono ?_;rintro e w' ⟨⟨b,D,rfl,_,hO,hV⟩,hB⟩;exact⟨⟨b,rfl,fun s u hs hb=>kL_ (hO.kept (row:=none) ⟨hb.os,hb.tape,hb.output,hb.size,fun k hk _=>hb.block k hk⟩ (by simp)) hV hnd s hs⟩,hB⟩
theorem kO_ (S:Addr->Prop)(B pb:Nat)(h0:0<B)(p:Po)(ea:Option Addr)(en ec:Nat)(va:Option Addr)(vn vc:Nat)(ra:Option Addr)(rn rc:Nat)(la:Option Addr)(ln' lc:Nat)(rows:List VR)(vol file:ByteArray)(at' ln:Int)(w:World)(hBw:B<=w.heap.size)(h:Own B pb w p ea en ec va vn vc ra rn rc la ln' lc rows)(hr:Rgt p)(hS:BO S w)(hvl:vol.size<=1048576)(hv0:¬ vol.toList=[]):
  Calls prog 46 #[.pointer (some ⟨pb,0,none⟩),.iface 179 (.agg #[.string vol,.string file,.int .i64 at',.int .i64 ln])] w fun e w'=>Cu S B pb w e w' (AG p vol true (fun i y=>BZ p i y (Cc y file at' ln))):=by
 have hI:vn<=4000000:=by have h1:=h.RV.sl.len;have h2:=h.T.len;have h3:=hr.vn;omega
 obtain⟨vb,hn⟩:∃ vb,0<vn->va=some ⟨vb,0,none⟩:=by
  rcases h.RV.own with⟨h1,h2,h3⟩ | ⟨b,h1,_⟩
  ·exact⟨0,fun h=>absurd h (by omega)⟩
  ·exact⟨b,fun _=>h1⟩
 obtain⟨R,hR⟩:∃ R,Hid (AG p vol true (fun i y=>BZ p i y (Cc y file at' ln))=R):=⟨_,rfl⟩;rw[hR.out];obtain⟨o,ho⟩:∃ o,Hid (volI p.vs vol=o):=⟨_,rfl⟩;obtain⟨p0,p1,p2,p3,p4,p5⟩:=h.P.six';go_enter func46,ntmps46
 go_wp2_with fail
 refine (bh_ B p.size p.next ea en ec va vn vc ra rn rc la ln' lc vb rows p.vs hn w h.RV h.T (by omega) hr.str hr.nd).mono ?_;rintro e w1 ⟨⟨mb,rfl,ht⟩,hk⟩;clear p0 p1 p2 p3 p4 p5;have hJ:=hk.size;have hD:=eA_ (.string vol) (.string file) (.int .i64 at') (.int .i64 ln);have hz:=bj_
 go_wp2_with fail
 refine (aD_ vol file w1).mono ?_;rintro e w2 ⟨rfl,hl⟩;have hc:=ht vol w2 hvl hl;rw[ho.out] at hc;clear ht;have hf:=Aa hk hl;have hK:=hf.size;replace h:=h.below hf;replace hS:=hS.below hf;clear hk hl;have hH:vol.toList.isEmpty=false:=by cases hq:vol.toList with | nil=>exact absurd hq hv0 | cons _ _=>rfl
 cases o with
 |none=>
  dsimp only[BS] at hc;have hv:Hid (R=.inl 3):=by show _=_;rw[<-hR.out];unfold AG;rw[ho.out]
  clear hR ho
  go_wp2_with fail
  refine (aD_ vol file w2).mono ?_;rintro e w3 ⟨rfl,ha⟩;replace hS:=hS.below ha;have hh:=Aa hf ha;obtain⟨ev,hm,hG⟩:=hS.volume;have g:w3.cell? ⟨4,0,none⟩=_:=hm;go_wp2;go_returns;rw[hv.out];exact⟨⟨ev,hG,rfl⟩,hh.mono hBw⟩
 |some i=>
  dsimp only[BS] at hc;have hs:=ap_ ho.out;obtain⟨y,hy⟩:∃ y,p.vs[i]?=some y:=⟨p.vs[i],by simp[hs]⟩;have hj:0<vn:=by have h1:=h.RV.sl.len;have h2:=h.T.len;omega
  obtain rfl:=hn hj
  have hg:Hid (R=if (true&&y.fx)=true then .inl 6 else BZ p i y (Cc y file at' ln)):=by
   show _=_;rw[<-hR.out];unfold AG;rw[ho.out];simp only[hy]
  clear hR ho hn hj;obtain⟨r,hE,F⟩:=h.foc hr hy;have hB:Hid (r.fx=y.fx):=F.v.fx;have x2:w2.cell? ⟨vb,i*4+2,none⟩=some (.bool r.fx):=F.rv.cellAt hE rfl;rw[hB.out] at x2;have hC:=d8_ (.string vol) (.string file) (.int .i64 at') (.int .i64 ln);have hw:=bc_;clear hs
  go_wp2_with fail
  refine (bd_ vol file w2).mono ?_;rintro e w3 ⟨rfl,ha⟩;replace h:=h.below ha;replace hS:=hS.below ha;replace F:=F.below ha;replace x2:=Ab ha x2;have hh:=Aa hf ha;have hL:=hh.size;clear hf ha hc hD hz hC hw
  cases hu:y.fx
  ·rw[hu] at hg x2;simp only[Bool.and_false,Zj,if_false] at hg;have t0:=do_ (.agg #[.string vol,.string file,.int .i64 at',.int .i64 ln]);have t1:=cY_ (.agg #[.string vol,.string file,.int .i64 at',.int .i64 ln]);have t2:=dp_ (.agg #[.string vol,.string file,.int .i64 at',.int .i64 ln]);have t3:=dq_ (.agg #[.string vol,.string file,.int .i64 at',.int .i64 ln]);have t4:=dW_ (.agg #[.string vol,.string file,.int .i64 at',.int .i64 ln]);have t5:=cZ_ (.agg #[.string vol,.string file,.int .i64 at',.int .i64 ln]);have t6:=dr_ (.agg #[.string vol,.string file,.int .i64 at',.int .i64 ln]);have t7:=dX_ (.agg #[.string vol,.string file,.int .i64 at',.int .i64 ln]);have t8:=c0_ (.agg #[.string vol,.string file,.int .i64 at',.int .i64 ln])
   go_wp2_with fail
   have hA:Below w3.heap.size w3 (w3.alloc (.cells #[.string vol,.string file,.int .i64 at',.int .i64 ln] 179)):=(Yg _ _).alloc (Zd _) _;have hM:=hA.size;have hp:=h.below hA;refine (lV_ S B h0 vb vn vc i rows r y vol file at' ln _ (by omega) (F.below hA) (hS.below hA)).mono ?_;rintro e w4 he;have hb:=hp.endV (F.below hA) (Aa hh hA) hBw he;rw[<-hg.out] at hb;clear hp hA;generalize Cc y file at' ln=Q at *
   cases Q with
   |inl c=>
    obtain⟨⟨er,_,rfl⟩,_⟩:=he;unfold BJ at hb ⊢;go_wp2;go_returns;exact hb
   |inr its=>
    obtain⟨rfl,_⟩:=he;go_wp2;go_returns;exact hb
  ·rw[hu] at hg x2;simp only[Bool.and_true,if_true] at hg;obtain⟨ef,hx,hF⟩:=hS.fixed;have g:w3.cell? ⟨5,0,none⟩=_:=hx;go_wp2;go_returns;rw[hg.out];exact⟨⟨ef,hF,rfl⟩,hh.mono hBw⟩
theorem nC_ (S:Addr->Prop)(B pb:Nat)(h0:0<B)(p:Po)(ea:Option Addr)(en ec:Nat)(va:Option Addr)(vn vc:Nat)(ra:Option Addr)(rn rc:Nat)(la:Option Addr)(ln' lc:Nat)(rows:List VR)(vol file:ByteArray)(ln:Int)(w:World)(hBw:B<=w.heap.size)(h:Own B pb w p ea en ec va vn vc ra rn rc la ln' lc rows)(hr:Rgt p)(hS:BO S w)(hvl:vol.size<=1048576)(hv0:¬ vol.toList=[]):
  Calls prog 46 #[.pointer (some ⟨pb,0,none⟩),.iface 176 (.agg #[.string vol,.string file,.int .i64 ln])] w fun e w'=>Cu S B pb w e w' (AG p vol true (fun i y=>BZ p i y (DT y file ln))):=by
 have hI:vn<=4000000:=by have h1:=h.RV.sl.len;have h2:=h.T.len;have h3:=hr.vn;omega
 obtain⟨vb,hn⟩:∃ vb,0<vn->va=some ⟨vb,0,none⟩:=by
  rcases h.RV.own with⟨h1,h2,h3⟩ | ⟨b,h1,_⟩
  ·exact⟨0,fun h=>absurd h (by omega)⟩
  ·exact⟨b,fun _=>h1⟩
 obtain⟨R,hR⟩:∃ R,Hid (AG p vol true (fun i y=>BZ p i y (DT y file ln))=R):=⟨_,rfl⟩;rw[hR.out];obtain⟨o,ho⟩:∃ o,Hid (volI p.vs vol=o):=⟨_,rfl⟩;obtain⟨p0,p1,p2,p3,p4,p5⟩:=h.P.six';go_enter func46,ntmps46
 go_wp2_with fail
 refine (bh_ B p.size p.next ea en ec va vn vc ra rn rc la ln' lc vb rows p.vs hn w h.RV h.T (by omega) hr.str hr.nd).mono ?_;rintro e w1 ⟨⟨mb,rfl,ht⟩,hk⟩;clear p0 p1 p2 p3 p4 p5;have hJ:=hk.size;have hD:=fA_ (.string vol) (.string file) (.int .i64 ln);have hz:=bj_
 go_wp2_with fail
 refine (aD_ vol file w1).mono ?_;rintro e w2 ⟨rfl,hl⟩;have hc:=ht vol w2 hvl hl;rw[ho.out] at hc;clear ht;have hf:=Aa hk hl;have hK:=hf.size;replace h:=h.below hf;replace hS:=hS.below hf;clear hk hl;have hH:vol.toList.isEmpty=false:=by cases hq:vol.toList with | nil=>exact absurd hq hv0 | cons _ _=>rfl
 cases o with
 |none=>
  dsimp only[BS] at hc;have hv:Hid (R=.inl 3):=by show _=_;rw[<-hR.out];unfold AG;rw[ho.out]
  clear hR ho
  go_wp2_with fail
  refine (aD_ vol file w2).mono ?_;rintro e w3 ⟨rfl,ha⟩;replace hS:=hS.below ha;have hh:=Aa hf ha;obtain⟨ev,hm,hG⟩:=hS.volume;have g:w3.cell? ⟨4,0,none⟩=_:=hm;go_wp2;go_returns;rw[hv.out];exact⟨⟨ev,hG,rfl⟩,hh.mono hBw⟩
 |some i=>
  dsimp only[BS] at hc;have hs:=ap_ ho.out;obtain⟨y,hy⟩:∃ y,p.vs[i]?=some y:=⟨p.vs[i],by simp[hs]⟩;have hj:0<vn:=by have h1:=h.RV.sl.len;have h2:=h.T.len;omega
  obtain rfl:=hn hj
  have hg:Hid (R=if (true&&y.fx)=true then .inl 6 else BZ p i y (DT y file ln)):=by
   show _=_;rw[<-hR.out];unfold AG;rw[ho.out];simp only[hy]
  clear hR ho hn hj;obtain⟨r,hE,F⟩:=h.foc hr hy;have hB:Hid (r.fx=y.fx):=F.v.fx;have x2:w2.cell? ⟨vb,i*4+2,none⟩=some (.bool r.fx):=F.rv.cellAt hE rfl;rw[hB.out] at x2;have hC:=e5_ (.string vol) (.string file) (.int .i64 ln);have hw:=bc_;clear hs
  go_wp2_with fail
  refine (bd_ vol file w2).mono ?_;rintro e w3 ⟨rfl,ha⟩;replace h:=h.below ha;replace hS:=hS.below ha;replace F:=F.below ha;replace x2:=Ab ha x2;have hh:=Aa hf ha;have hL:=hh.size;clear hf ha hc hD hz hC hw
  cases hu:y.fx
  ·rw[hu] at hg x2;simp only[Bool.and_false,Zj,if_false] at hg;have t0:=ee_ (.agg #[.string vol,.string file,.int .i64 ln]);have t1:=dU_ (.agg #[.string vol,.string file,.int .i64 ln]);have t2:=ef_ (.agg #[.string vol,.string file,.int .i64 ln]);have t3:=eg_ (.agg #[.string vol,.string file,.int .i64 ln]);have t4:=eE_ (.agg #[.string vol,.string file,.int .i64 ln]);have t5:=dV_ (.agg #[.string vol,.string file,.int .i64 ln]);have t6:=eh_ (.agg #[.string vol,.string file,.int .i64 ln]);have t7:=eF_ (.agg #[.string vol,.string file,.int .i64 ln])
   go_wp2_with fail
   have hA:Below w3.heap.size w3 (w3.alloc (.cells #[.string vol,.string file,.int .i64 ln] 176)):=(Yg _ _).alloc (Zd _) _;have hM:=hA.size;have hp:=h.below hA;refine (oE_ S B h0 vb vn vc i rows r y vol file ln _ (by omega) (F.below hA) (hS.below hA)).mono ?_;rintro e w4 he;have hb:=hp.endV (F.below hA) (Aa hh hA) hBw he;rw[<-hg.out] at hb;clear hp hA;generalize DT y file ln=Q at *
   cases Q with
   |inl c=>
    obtain⟨⟨er,_,rfl⟩,_⟩:=he;unfold BJ at hb ⊢;go_wp2;go_returns;exact hb
   |inr its=>
    obtain⟨rfl,_⟩:=he;go_wp2;go_returns;exact hb
  ·rw[hu] at hg x2;simp only[Bool.and_true,if_true] at hg;obtain⟨ef,hx,hF⟩:=hS.fixed;have g:w3.cell? ⟨5,0,none⟩=_:=hx;go_wp2;go_returns;rw[hg.out];exact⟨⟨ef,hF,rfl⟩,hh.mono hBw⟩
theorem jB_ (S:Addr->Prop)(B pb:Nat)(h0:0<B)(p:Po)(ea:Option Addr)(en ec:Nat)(va:Option Addr)(vn vc:Nat)(ra:Option Addr)(rn rc:Nat)(la:Option Addr)(ln' lc:Nat)(rows:List VR)(vol file:ByteArray)(w:World)(hBw:B<=w.heap.size)(h:Own B pb w p ea en ec va vn vc ra rn rc la ln' lc rows)(hr:Rgt p)(hS:BO S w)(hvl:vol.size<=1048576)(hv0:¬ vol.toList=[]):
  Calls prog 46 #[.pointer (some ⟨pb,0,none⟩),.iface 182 (.agg #[.string vol,.string file])] w fun e w'=>Cu S B pb w e w' (AG p vol true (fun i y=>BZ p i y (BL y file))):=by
 have hI:vn<=4000000:=by have h1:=h.RV.sl.len;have h2:=h.T.len;have h3:=hr.vn;omega
 obtain⟨vb,hn⟩:∃ vb,0<vn->va=some ⟨vb,0,none⟩:=by
  rcases h.RV.own with⟨h1,h2,h3⟩ | ⟨b,h1,_⟩
  ·exact⟨0,fun h=>absurd h (by omega)⟩
  ·exact⟨b,fun _=>h1⟩
 obtain⟨R,hR⟩:∃ R,Hid (AG p vol true (fun i y=>BZ p i y (BL y file))=R):=⟨_,rfl⟩;rw[hR.out];obtain⟨o,ho⟩:∃ o,Hid (volI p.vs vol=o):=⟨_,rfl⟩;obtain⟨p0,p1,p2,p3,p4,p5⟩:=h.P.six';go_enter func46,ntmps46
 go_wp2_with fail
 refine (bh_ B p.size p.next ea en ec va vn vc ra rn rc la ln' lc vb rows p.vs hn w h.RV h.T (by omega) hr.str hr.nd).mono ?_;rintro e w1 ⟨⟨mb,rfl,ht⟩,hk⟩;clear p0 p1 p2 p3 p4 p5;have hJ:=hk.size;have hD:=d7_ (.string vol) (.string file);have hz:=bj_
 go_wp2_with fail
 refine (aD_ vol file w1).mono ?_;rintro e w2 ⟨rfl,hl⟩;have hc:=ht vol w2 hvl hl;rw[ho.out] at hc;clear ht;have hf:=Aa hk hl;have hK:=hf.size;replace h:=h.below hf;replace hS:=hS.below hf;clear hk hl;have hH:vol.toList.isEmpty=false:=by cases hq:vol.toList with | nil=>exact absurd hq hv0 | cons _ _=>rfl
 cases o with
 |none=>
  dsimp only[BS] at hc;have hv:Hid (R=.inl 3):=by show _=_;rw[<-hR.out];unfold AG;rw[ho.out]
  clear hR ho
  go_wp2_with fail
  refine (aD_ vol file w2).mono ?_;rintro e w3 ⟨rfl,ha⟩;replace hS:=hS.below ha;have hh:=Aa hf ha;obtain⟨ev,hm,hG⟩:=hS.volume;have g:w3.cell? ⟨4,0,none⟩=_:=hm;go_wp2;go_returns;rw[hv.out];exact⟨⟨ev,hG,rfl⟩,hh.mono hBw⟩
 |some i=>
  dsimp only[BS] at hc;have hs:=ap_ ho.out;obtain⟨y,hy⟩:∃ y,p.vs[i]?=some y:=⟨p.vs[i],by simp[hs]⟩;have hj:0<vn:=by have h1:=h.RV.sl.len;have h2:=h.T.len;omega
  obtain rfl:=hn hj
  have hg:Hid (R=if (true&&y.fx)=true then .inl 6 else BZ p i y (BL y file)):=by
   show _=_;rw[<-hR.out];unfold AG;rw[ho.out];simp only[hy]
  clear hR ho hn hj;obtain⟨r,hE,F⟩:=h.foc hr hy;have hB:Hid (r.fx=y.fx):=F.v.fx;have x2:w2.cell? ⟨vb,i*4+2,none⟩=some (.bool r.fx):=F.rv.cellAt hE rfl;rw[hB.out] at x2;have hC:=dH_ (.string vol) (.string file);have hw:=bc_;clear hs
  go_wp2_with fail
  refine (bd_ vol file w2).mono ?_;rintro e w3 ⟨rfl,ha⟩;replace h:=h.below ha;replace hS:=hS.below ha;replace F:=F.below ha;replace x2:=Ab ha x2;have hh:=Aa hf ha;have hL:=hh.size;clear hf ha hc hD hz hC hw
  cases hu:y.fx
  ·rw[hu] at hg x2;simp only[Bool.and_false,Zj,if_false] at hg;have t0:=c1_ (.agg #[.string vol,.string file]);have t1:=cC_ (.agg #[.string vol,.string file]);have t2:=c2_ (.agg #[.string vol,.string file]);have t3:=c3_ (.agg #[.string vol,.string file]);have t4:=ds_ (.agg #[.string vol,.string file]);have t5:=cD_ (.agg #[.string vol,.string file]);have t6:=c4_ (.agg #[.string vol,.string file]);have t7:=dt_ (.agg #[.string vol,.string file]);have t8:=cE_ (.agg #[.string vol,.string file]);have t9:=cz_ (.agg #[.string vol,.string file])
   go_wp2_with fail
   have hA:Below w3.heap.size w3 (w3.alloc (.cells #[.string vol,.string file] 182)):=(Yg _ _).alloc (Zd _) _;have hM:=hA.size;have hp:=h.below hA;refine (kJ_ S B h0 vb vn vc i rows r y vol file _ (by omega) (F.below hA) (hS.below hA)).mono ?_;rintro e w4 he;have hb:=hp.endV (F.below hA) (Aa hh hA) hBw he;rw[<-hg.out] at hb;clear hp hA;generalize BL y file=Q at *
   cases Q with
   |inl c=>
    obtain⟨⟨er,_,rfl⟩,_⟩:=he;unfold BJ at hb ⊢;go_wp2;go_returns;exact hb
   |inr its=>
    obtain⟨rfl,_⟩:=he;go_wp2;go_returns;exact hb
  ·rw[hu] at hg x2;simp only[Bool.and_true,if_true] at hg;obtain⟨ef,hx,hF⟩:=hS.fixed;have g:w3.cell? ⟨5,0,none⟩=_:=hx;go_wp2;go_returns;rw[hg.out];exact⟨⟨ef,hF,rfl⟩,hh.mono hBw⟩
theorem l1_ (S:Addr->Prop)(B pb:Nat)(h0:0<B)(p:Po)(ea:Option Addr)(en ec:Nat)(va:Option Addr)(vn vc:Nat)(ra:Option Addr)(rn rc:Nat)(la:Option Addr)(ln' lc:Nat)(rows:List VR)(tt into:ByteArray)(at':Int)(sv sf:ByteArray)(fr tz:Int)(hp:sv.size<=1048576)(w:World)(hBw:B<=w.heap.size)(h:Own B pb w p ea en ec va vn vc ra rn rc la ln' lc rows)(hr:Rgt p)(hS:BO S w)(hvl:tt.size<=1048576)(hv0:¬ tt.toList=[]):
  Calls prog 46 #[.pointer (some ⟨pb,0,none⟩),.iface 173 (.agg #[.string tt,.string into,.int .i64 at',.string sv,.string sf,.int .i64 fr,.int .i64 tz])] w fun e w'=>Cu S B pb w e w' (AG p tt true (fun i y=>BZ p i y (Cz p.vs y into at' sv sf fr tz))):=by
 have hI:vn<=4000000:=by have h1:=h.RV.sl.len;have h2:=h.T.len;have h3:=hr.vn;omega
 obtain⟨vb,hs⟩:∃ vb,0<vn->va=some ⟨vb,0,none⟩:=by
  rcases h.RV.own with⟨h1,h2,h3⟩ | ⟨b,h1,_⟩
  ·exact⟨0,fun h=>absurd h (by omega)⟩
  ·exact⟨b,fun _=>h1⟩
 obtain⟨R,hR⟩:∃ R,Hid (AG p tt true (fun i y=>BZ p i y (Cz p.vs y into at' sv sf fr tz))=R):=⟨_,rfl⟩;rw[hR.out];obtain⟨o,ho⟩:∃ o,Hid (volI p.vs tt=o):=⟨_,rfl⟩;obtain⟨p0,p1,p2,p3,p4,p5⟩:=h.P.six';go_enter func46,ntmps46
 go_wp2_with fail
 refine (bh_ B p.size p.next ea en ec va vn vc ra rn rc la ln' lc vb rows p.vs hs w h.RV h.T (by omega) hr.str hr.nd).mono ?_;rintro e w1 ⟨⟨mb,rfl,hu⟩,hl⟩;clear p0 p1 p2 p3 p4 p5;have hJ:=hl.size;have hE:=e6_ (.string tt) (.string into) (.int .i64 at') (.string sv) (.string sf) (.int .i64 fr) (.int .i64 tz);have hB:=bj_
 go_wp2_with fail
 refine (aD_ tt into w1).mono ?_;rintro e w2 ⟨rfl,hm⟩;have hc:=hu tt w2 hvl hm;rw[ho.out] at hc;clear hu;have hf:=Aa hl hm;have hK:=hf.size;replace h:=h.below hf;replace hS:=hS.below hf;clear hl hm;have hH:tt.toList.isEmpty=false:=by cases hq:tt.toList with | nil=>exact absurd hq hv0 | cons _ _=>rfl
 cases o with
 |none=>
  dsimp only[BS] at hc;have hw:Hid (R=.inl 3):=by show _=_;rw[<-hR.out];unfold AG;rw[ho.out]
  clear hR ho
  go_wp2_with fail
  refine (aD_ tt into w2).mono ?_;rintro e w3 ⟨rfl,ha⟩;replace hS:=hS.below ha;have hh:=Aa hf ha;obtain⟨ev,hn,hp⟩:=hS.volume;have g:w3.cell? ⟨4,0,none⟩=_:=hn;go_wp2;go_returns;rw[hw.out];exact⟨⟨ev,hp,rfl⟩,hh.mono hBw⟩
 |some i=>
  dsimp only[BS] at hc;have ht:=ap_ ho.out;obtain⟨y,hy⟩:∃ y,p.vs[i]?=some y:=⟨p.vs[i],by simp[ht]⟩;have hj:0<vn:=by have h1:=h.RV.sl.len;have h2:=h.T.len;omega
  obtain rfl:=hs hj
  have hg:Hid (R=if (true&&y.fx)=true then .inl 6 else BZ p i y (Cz p.vs y into at' sv sf fr tz)):=by
   show _=_;rw[<-hR.out];unfold AG;rw[ho.out];simp only[hy]
  clear hR ho hs hj;obtain⟨r,hF,F⟩:=h.foc hr hy;have hC:Hid (r.fx=y.fx):=F.v.fx;have x2:w2.cell? ⟨vb,i*4+2,none⟩=some (.bool r.fx):=F.rv.cellAt hF rfl;rw[hC.out] at x2;have hD:=eB_ (.string tt) (.string into) (.int .i64 at') (.string sv) (.string sf) (.int .i64 fr) (.int .i64 tz);have hx:=bc_;clear ht
  go_wp2_with fail
  refine (bd_ tt into w2).mono ?_;rintro e w3 ⟨rfl,ha⟩;replace h:=h.below ha;replace hS:=hS.below ha;replace F:=F.below ha;replace x2:=Ab ha x2;have hh:=Aa hf ha;have hL:=hh.size;clear hf ha hc hE hB hD hx
  cases hv:y.fx
  ·rw[hv] at hg x2;simp only[Bool.and_false,Zj,if_false] at hg;have t0:=dQ_ (.agg #[.string tt,.string into,.int .i64 at',.string sv,.string sf,.int .i64 fr,.int .i64 tz]);have t1:=dm_ (.agg #[.string tt,.string into,.int .i64 at',.string sv,.string sf,.int .i64 fr,.int .i64 tz]);have t2:=dR_ (.agg #[.string tt,.string into,.int .i64 at',.string sv,.string sf,.int .i64 fr,.int .i64 tz]);have t3:=dS_ (.agg #[.string tt,.string into,.int .i64 at',.string sv,.string sf,.int .i64 fr,.int .i64 tz]);have t4:=ed_ (.agg #[.string tt,.string into,.int .i64 at',.string sv,.string sf,.int .i64 fr,.int .i64 tz]);have t5:=dn_ (.agg #[.string tt,.string into,.int .i64 at',.string sv,.string sf,.int .i64 fr,.int .i64 tz]);have t6:=dT_ (.agg #[.string tt,.string into,.int .i64 at',.string sv,.string sf,.int .i64 fr,.int .i64 tz])
   go_wp2_with fail
   have hA:Below w3.heap.size w3 (w3.alloc (.cells #[.string tt,.string into,.int .i64 at',.string sv,.string sf,.int .i64 fr,.int .i64 tz] 173)):=(Yg _ _).alloc (Zd _) _;have hM:=hA.size;have hk:=h.below hA;refine (it_ S B h0 pb vb vn vc i p.size p.next ea en ec ra rn rc la ln' lc p.vs rows r y tt into at' sv sf fr tz _ (by omega) hk.P hk.T (by omega) hr.str hr.nd hp (F.below hA) (hS.below hA)).mono ?_;rintro e w4 he;have hb:=hk.endV (F.below hA) (Aa hh hA) hBw he;rw[<-hg.out] at hb;clear hk hA;generalize Cz p.vs y into at' sv sf fr tz=Q at *
   cases Q with
   |inl c=>
    obtain⟨⟨er,_,rfl⟩,_⟩:=he;unfold BJ at hb ⊢;go_wp2;go_returns;exact hb
   |inr its=>
    obtain⟨rfl,_⟩:=he;go_wp2;go_returns;exact hb
  ·rw[hv] at hg x2;simp only[Bool.and_true,if_true] at hg;obtain⟨ef,hz,hG⟩:=hS.fixed;have g:w3.cell? ⟨5,0,none⟩=_:=hz;go_wp2;go_returns;rw[hg.out];exact⟨⟨ef,hG,rfl⟩,hh.mono hBw⟩
def Dn (p:Po)(i:Nat)(y:Vo):Int⊕(List Ex×List It)->Int⊕Po
 |.inl c=>.inl c
 |.inr (L,its)=>.inr {p with ex:=L,vs:=p.vs.set i {y with its:=its}}
theorem kP_ {t:TypeId}{c:Array Value}(F:Foc B vb vn vc i rows r y w)(P:Blk w pb c 28)(h0:(28:TypeId)≠t)(h1:(38:TypeId)≠t)(h2:(134:TypeId)≠t):Oth w (pb::vb::AT r.pa) t:=by
 intro k hk;rcases Zn.1 hk with rfl | hk
 ·exact⟨c,_,P,h0⟩
 ·exact eU_ F h1 h2 k hk
theorem Own.endW {S:Addr->Prop}(h:Own B pb w p ea en ec (some ⟨vb,0,none⟩) vn vc ra rn rc la ln' lc rows)(F:Foc B vb vn vc i rows r y w)(hpb:B<=pb)(hb:Below w0.heap.size w0 w)(hB:B<=w0.heap.size){e:Ending}{R:Int⊕(List Ex×List It)}(hret:H0 S B pb vb vn vc i p.size p.next (.slice (some ⟨vb,0,none⟩) vn vc) (.slice ra rn rc) (.slice la ln' lc) rows r y w e w' R):Cu S B pb w0 e w' (Dn p i y R):=by
 have hz:=hb.size
 have ha:∀ k∈pb::vb::AT r.pa,B<=k:=fun k hk=>by
  rcases Zn.1 hk with rfl | hk
  ·exact hpb
  ·exact lZ_ F k hk
 cases R with
 |inl c=>exact⟨hret.1,(hb.mono hB).trans (hret.2.low ha (by omega))⟩
 |inr q=>
  obtain⟨L,its⟩:=q;obtain⟨he,ea',en',ec',r',h1,h2,h3,h4,h5,h6⟩:=hret
  have hT:=hX_ F h.T h.sepV h5 (fun k hk=>by
   rcases Zn.1 hk with e | e
   ·subst e;exact .inr ⟨_,h.P⟩
   ·exact .inl e) h4
  have hN:=l0_ F h.T h.sepV h.np h5 (fun k hk=>by
   rcases Zn.1 hk with e | e
   ·subst e;exact .inr ⟨_,h.P⟩
   ·exact .inl e) h6
  exact⟨he,⟨ea',en',ec',_,vn,vc,ra,rn,rc,la,ln',lc,_,h1,h2,h3,hT,h.RR.frlT h5 (kP_ F h.P (by decide) (by decide) (by decide)),h.RL.frlT h5 (kP_ F h.P (by decide) (by decide) (by decide)),h.sep,hN⟩,(hb.mono hB).trans (h5.low ha (by omega))⟩
theorem kQ_ (S:Addr->Prop)(B pb:Nat)(h0:0<B)(p:Po)(ea:Option Addr)(en ec:Nat)(va:Option Addr)(vn vc:Nat)(ra:Option Addr)(rn rc:Nat)(la:Option Addr)(ln' lc:Nat)(rows:List VR)(vol file:ByteArray)(at':Int)(d:ByteArray)(hpb:B<=pb)(hgl:11<=B)(hex:BP p.ex)(hel:p.ex.length<=4194304)(hd:d.size<=1000000)(w:World)(hBw:B<=w.heap.size)(h:Own B pb w p ea en ec va vn vc ra rn rc la ln' lc rows)(hr:Rgt p)(hS:BO S w)(hvl:vol.size<=1048576)(hv0:¬ vol.toList=[]):
  Calls prog 46 #[.pointer (some ⟨pb,0,none⟩),.iface 170 (.agg #[.string vol,.string file,.int .i64 at',.string d])] w fun e w'=>Cu S B pb w e w' (AG p vol true (fun i y=>Dn p i y (Cd p.size p.ex y file at' d))):=by
 have hI:vn<=4000000:=by have h1:=h.RV.sl.len;have h2:=h.T.len;have h3:=hr.vn;omega
 obtain⟨vb,hp⟩:∃ vb,0<vn->va=some ⟨vb,0,none⟩:=by
  rcases h.RV.own with⟨h1,h2,h3⟩ | ⟨b,h1,_⟩
  ·exact⟨0,fun h=>absurd h (by omega)⟩
  ·exact⟨b,fun _=>h1⟩
 obtain⟨R,hR⟩:∃ R,Hid (AG p vol true (fun i y=>Dn p i y (Cd p.size p.ex y file at' d))=R):=⟨_,rfl⟩;rw[hR.out];obtain⟨o,ho⟩:∃ o,Hid (volI p.vs vol=o):=⟨_,rfl⟩;obtain⟨p0,p1,p2,p3,p4,p5⟩:=h.P.six';go_enter func46,ntmps46
 go_wp2_with fail
 refine (bh_ B p.size p.next ea en ec va vn vc ra rn rc la ln' lc vb rows p.vs hp w h.RV h.T (by omega) hr.str hr.nd).mono ?_;rintro e w1 ⟨⟨mb,rfl,ht⟩,hl⟩;clear p0 p1 p2 p3 p4 p5;have hJ:=hl.size;have hD:=ez_ (.string vol) (.string file) (.int .i64 at') (.string d);have hz:=bj_
 go_wp2_with fail
 refine (aD_ vol file w1).mono ?_;rintro e w2 ⟨rfl,hm⟩;have hc:=ht vol w2 hvl hm;rw[ho.out] at hc;clear ht;have hf:=Aa hl hm;have hK:=hf.size;replace h:=h.below hf;replace hS:=hS.below hf;clear hl hm;have hH:vol.toList.isEmpty=false:=by cases hq:vol.toList with | nil=>exact absurd hq hv0 | cons _ _=>rfl
 cases o with
 |none=>
  dsimp only[BS] at hc;have hv:Hid (R=.inl 3):=by show _=_;rw[<-hR.out];unfold AG;rw[ho.out]
  clear hR ho
  go_wp2_with fail
  refine (aD_ vol file w2).mono ?_;rintro e w3 ⟨rfl,ha⟩;replace hS:=hS.below ha;have hh:=Aa hf ha;obtain⟨ev,hn,hG⟩:=hS.volume;have g:w3.cell? ⟨4,0,none⟩=_:=hn;go_wp2;go_returns;rw[hv.out];exact⟨⟨ev,hG,rfl⟩,hh.mono hBw⟩
 |some i=>
  dsimp only[BS] at hc;have hs:=ap_ ho.out;obtain⟨y,hy⟩:∃ y,p.vs[i]?=some y:=⟨p.vs[i],by simp[hs]⟩;have hj:0<vn:=by have h1:=h.RV.sl.len;have h2:=h.T.len;omega
  obtain rfl:=hp hj
  have hg:Hid (R=if (true&&y.fx)=true then .inl 6 else Dn p i y (Cd p.size p.ex y file at' d)):=by
   show _=_;rw[<-hR.out];unfold AG;rw[ho.out];simp only[hy]
  clear hR ho hp hj;obtain⟨r,hE,F⟩:=h.foc hr hy;have hB:Hid (r.fx=y.fx):=F.v.fx;have x2:w2.cell? ⟨vb,i*4+2,none⟩=some (.bool r.fx):=F.rv.cellAt hE rfl;rw[hB.out] at x2;have hC:=d6_ (.string vol) (.string file) (.int .i64 at') (.string d);have hw:=bc_;clear hs
  go_wp2_with fail
  refine (bd_ vol file w2).mono ?_;rintro e w3 ⟨rfl,ha⟩;replace h:=h.below ha;replace hS:=hS.below ha;replace F:=F.below ha;replace x2:=Ab ha x2;have hh:=Aa hf ha;have hL:=hh.size;clear hf ha hc hD hz hC hw
  cases hu:y.fx
  ·rw[hu] at hg x2;simp only[Bool.and_false,Zj,if_false] at hg;have t0:=dj_ (.agg #[.string vol,.string file,.int .i64 at',.string d]);have t1:=cW_ (.agg #[.string vol,.string file,.int .i64 at',.string d]);have t2:=dk_ (.agg #[.string vol,.string file,.int .i64 at',.string d]);have t3:=dl_ (.agg #[.string vol,.string file,.int .i64 at',.string d]);have t4:=dP_ (.agg #[.string vol,.string file,.int .i64 at',.string d]);have t5:=cX_ (.agg #[.string vol,.string file,.int .i64 at',.string d])
   go_wp2_with fail
   have hA:Below w3.heap.size w3 (w3.alloc (.cells #[.string vol,.string file,.int .i64 at',.string d] 170)):=(Yg _ _).alloc (Zd _) _;have hM:=hA.size;have hk:=h.below hA;refine (lW_ S B h0 pb vb vn vc i p.size p.next ea en ec (.slice (some ⟨vb,0,none⟩) vn vc) (.slice ra rn rc) (.slice la ln' lc) p.ex rows r y vol file at' d _ (by omega) (by omega) hk.P hk.RE hex hel hd (F.below hA) (hS.below hA)).mono ?_;rintro e w4 he;have hb:=hk.endW (F.below hA) hpb (Aa hh hA) hBw he;rw[<-hg.out] at hb;clear hk hA;generalize Cd p.size p.ex y file at' d=Q at *
   cases Q with
   |inl c=>
    obtain⟨⟨er,_,rfl⟩,_⟩:=he;unfold BJ at hb ⊢;go_wp2;go_returns;exact hb
   |inr its=>
    obtain⟨L,its⟩:=its;obtain⟨rfl,_⟩:=he;go_wp2;go_returns;exact hb
  ·rw[hu] at hg x2;simp only[Bool.and_true,if_true] at hg;obtain⟨ef,hx,hF⟩:=hS.fixed;have g:w3.cell? ⟨5,0,none⟩=_:=hx;go_wp2;go_returns;rw[hg.out];exact⟨⟨ef,hF,rfl⟩,hh.mono hBw⟩
theorem nD_ (S:Addr->Prop)(B pb:Nat)(h0:0<B)(p:Po)(ea:Option Addr)(en ec:Nat)(va:Option Addr)(vn vc:Nat)(ra:Option Addr)(rn rc:Nat)(la:Option Addr)(ln' lc:Nat)(rows:List VR)(vol:ByteArray)(w:World)(hBw:B<=w.heap.size)(h:Own B pb w p ea en ec va vn vc ra rn rc la ln' lc rows)(hr:Rgt p)(hS:BO S w)(hvl:vol.size<=1048576)(hv0:¬ vol.toList=[]):
  Calls prog 46 #[.pointer (some ⟨pb,0,none⟩),.iface 165 (.agg #[.string vol])] w fun e w'=>Cu S B pb w e w' (AG p vol false (fun i y=>(if y.fx=true then .inl 6 else .inr {p with vs:=p.vs.set i {y with fx:=true}}:Int⊕Po))):=by
 have hQ:vn<=4000000:=by have h1:=h.RV.sl.len;have h2:=h.T.len;have h3:=hr.vn;omega
 obtain⟨vb,hz⟩:∃ vb,0<vn->va=some ⟨vb,0,none⟩:=by
  rcases h.RV.own with⟨h1,h2,h3⟩ | ⟨b,h1,_⟩
  ·exact⟨0,fun h=>absurd h (by omega)⟩
  ·exact⟨b,fun _=>h1⟩
 obtain⟨R,hR⟩:∃ R,Hid (AG p vol false (fun i y=>(if y.fx=true then .inl 6 else .inr {p with vs:=p.vs.set i {y with fx:=true}}:Int⊕Po))=R):=⟨_,rfl⟩;rw[hR.out];obtain⟨o,ho⟩:∃ o,Hid (volI p.vs vol=o):=⟨_,rfl⟩;obtain⟨p0,p1,p2,p3,p4,p5⟩:=h.P.six';go_enter func46,ntmps46
 go_wp2_with fail
 refine (bh_ B p.size p.next ea en ec va vn vc ra rn rc la ln' lc vb rows p.vs hz w h.RV h.T (by omega) hr.str hr.nd).mono ?_;rintro e w1 ⟨⟨mb,rfl,hD⟩,hv⟩;clear p0 p1 p2 p3 p4 p5;have hU:=hv.size;have _:=h0;have hK:=fz_ (.string vol);have hH:=bQ_
 go_wp2_with fail
 refine (aP_ vol w1).mono ?_;rintro e w2 ⟨rfl,hw⟩;have hj:=hD vol w2 hvl hw;rw[ho.out] at hj;clear hD;have hn:=Aa hv hw;have hV:=hn.size;replace h:=h.below hn;replace hS:=hS.below hn;clear hv hw;have hP:vol.toList.isEmpty=false:=by cases hq:vol.toList with | nil=>exact absurd hq hv0 | cons _ _=>rfl
 cases o with
 |none=>
  dsimp only[BS] at hj;have hF:Hid (R=.inl 3):=by show _=_;rw[<-hR.out];unfold AG;rw[ho.out]
  clear hR ho
  go_wp2_with fail
  refine (aP_ vol w2).mono ?_;rintro e w3 ⟨rfl,he⟩;replace hS:=hS.below he;have hs:=Aa hn he;obtain⟨ev,hx,hO⟩:=hS.volume;have g:w3.cell? ⟨4,0,none⟩=_:=hx;go_wp2;go_returns;rw[hF.out];exact⟨⟨ev,hO,rfl⟩,hs.mono hBw⟩
 |some i=>
  dsimp only[BS] at hj;have hC:=ap_ ho.out;obtain⟨y,hy⟩:∃ y,p.vs[i]?=some y:=⟨p.vs[i],by simp[hC]⟩;have hp:0<vn:=by have h1:=h.RV.sl.len;have h2:=h.T.len;omega
  obtain rfl:=hz hp
  have hm:Hid (R=if (false&&y.fx)=true then .inl 6 else (if y.fx=true then .inl 6 else .inr {p with vs:=p.vs.set i {y with fx:=true}}:Int⊕Po)):=by
   show _=_;rw[<-hR.out];unfold AG;rw[ho.out];simp only[hy]
  clear hR ho hz hp;obtain⟨r,hL,F⟩:=h.foc hr hy;have hI:Hid (r.fx=y.fx):=F.v.fx;have x2:w2.cell? ⟨vb,i*4+2,none⟩=some (.bool r.fx):=F.rv.cellAt hL rfl;rw[hI.out] at x2;have hJ:=e3_ (.string vol);have hG:=bJ_;clear hC
  go_wp2_with fail
  refine (bK_ vol w2).mono ?_;rintro e w3 ⟨rfl,he⟩;replace h:=h.below he;replace hS:=hS.below he;replace F:=F.below he;replace x2:=Ab he x2;have hs:=Aa hn he;have hW:=hs.size;clear hn he hj hK hH hJ hG;simp only[Zr,Zj,if_false] at hm;have t0:=ea_ (.agg #[.string vol]);have t1:=dO_ (.agg #[.string vol]);have t2:=eb_ (.agg #[.string vol]);have t3:=ec_ (.agg #[.string vol]);have t4:=eD_ (.agg #[.string vol])
  go_wp2_with fail
  have hA:Below w3.heap.size w3 (w3.alloc (.cells #[.string vol] 165)):=(Yg _ _).alloc (Zd _) _;have hE:=hA.size;have hb:=h.below hA;have hl:=F.below hA;have hu:=Aa hs hA;refine (oF_ S B vb vn vc i rows r y _ hl (hS.below hA)).mono ?_;rintro e w4 (⟨hf,⟨er,hsr,rfl⟩,rfl⟩ | ⟨hf,rfl,h1,h2,h3⟩)
  ·rw[hf] at hm;simp only[if_true] at hm;have hg:Cu S B pb w (.returned (BJ 6 er)) (w3.alloc (.cells #[.string vol] 165)) R:=by rw[hm.out];exact⟨⟨er,hsr,rfl⟩,hu.mono hBw⟩
   unfold BJ at hg ⊢;clear hA hb hl hu hE;go_wp2;go_returns;exact hg
  ·rw[hf] at hm;simp only[Zj,if_false] at hm;have hh:FrL [vb] (w3.alloc (.cells #[.string vol] 165)) w4:=FrL.of_grown h3 (fun k e=>.inl (by cases e;simp));have hB:∀ k∈[vb],B<=k:=fun k hk=>lZ_ hl k (by simp at hk;subst hk;simp)
   have ha:∀ t:TypeId,(38:TypeId)≠t->Oth (w3.alloc (.cells #[.string vol] 165)) [vb] t:=fun t ht k hk=>by
    simp at hk;subst hk;obtain⟨c,hc⟩:=hl.rv.blkAt;exact⟨c,_,hc,ht⟩
   have hT:=hX_ hl hb.T hb.sepV hh (fun k hk=>.inl (by simp at hk;subst hk;simp)) h2;obtain⟨rs0,R0,_⟩:=hl.v.its;have hN:=l0_ hl hb.T hb.sepV hb.np hh (fun k hk=>.inl (by simp at hk;subst hk;simp)) (r':={r with fx:=true}) ⟨fun ad e=>.inl (aO_.2 ⟨ad,e,rfl⟩),fun rs hM=>by rw[co_ hM R0.sl,cv_ (r:={r with fx:=true}) (R0.frlT hh (ha _ (by decide))).sl];exact Dy.sub (List.Sublist.refl _)⟩
   have hg:Cu S B pb w (.returned .nilIface) w4 R:=by
    rw[hm.out];exact⟨rfl,⟨ea,en,ec,_,vn,vc,ra,rn,rc,la,ln',lc,_,hb.P.frlT hh (ha _ (by decide)),hb.RE.frlT hh (ha _ (by decide)),h1,hT,hb.RR.frlT hh (ha _ (by decide)),hb.RL.frlT hh (ha _ (by decide)),hb.sep,hN⟩,(hu.mono hBw).trans (hh.low hB (by omega))⟩
   clear hA hb hl hu hE hh hB ha hT h1 h2 h3;go_wp2;go_returns;exact hg
def eV_ (I:World->Prop)(fv:Value)(q:VR->Bool):Prop:=∃ f cp,fv=.func (.func f) #[] #[cp]∧(∀ (x y:Value) (u:World),(callFunc f #[x,y]).run prog u=.ok (.enter f #[x,y]) u)∧∀ (u:World) (r:VR),I u->Calls prog f #[.agg #[.int .i64 r.id,.string r.nm,.bool r.fx,.slice r.pa r.pn r.pc],cp] u fun e w'=>e=.returned (.bool (q r))∧Below u.heap.size u w'
theorem iu_ (I:World->Prop)(fv:Value)(q:VR->Bool)(hq:eV_ I fv q)(hI:∀ u u',I u->Below u.heap.size u u'->I u')(a:Option Addr)(n cap:Nat)(rows:List VR)(w:World)(h:AE vrs 4 w a n rows)(hw:I w)(hn:n<=4194304):
  Calls prog 140 #[.slice a n cap,fv] w fun e w'=>e=.returned (.int .i64 (BX (rows.findIdx? q)))∧Below w.heap.size w w':=by
 obtain⟨f,cp,rfl,hh,hq⟩:=hq;have hb:Hid (rows.length=n):=h.len;have hR:Hid ((BX (rows.findIdx? q))=BX (((rows.drop 0).findIdx? q).map (fun j:Nat=>j+0))):=by show _=_;simp
 generalize (BX (rows.findIdx? q))=R at *;go_enter func140,ntmps140
 go_wp2_with fail
 go_loopw [5,8] (fun _ ix wr=>∃ (k:Nat),k<=n∧ix=.int .i64 k∧Hid (R=BX (((rows.drop k).findIdx? q).map (fun j:Nat=>j+k)))∧Below w.heap.size w wr) (fun _ ix _=>n-(intOf ix).toNat)
 case atStart=>exact⟨0,Zg _,rfl,hR,Yg _ _⟩
 case round=>
  clear hR;obtain⟨k,hk,rfl,he,hB⟩:=hrel;by_cases hlt:k<n
  ·have hl:(k:Int)<n:=by omega
   have hm:(0:Int)<=k:=by omega
   have hj:k<rows.length:=by rw[hb.out];exact hlt
   obtain⟨r,hr⟩:∃ r,rows[k]?=some r:=⟨rows[k],by simp[hj]⟩;obtain⟨b,o,rfl,hc⟩:=(h.below hB).cell k r hr;have x0:wr.cell? ⟨b,o+k*4,none⟩=some (.int .i64 r.id):=hc 0 _ rfl;have x1:wr.cell? ⟨b,o+k*4+1,none⟩=some (.string r.nm):=hc 1 _ rfl;have x2:wr.cell? ⟨b,o+k*4+2,none⟩=some (.bool r.fx):=hc 2 _ rfl;have x3:wr.cell? ⟨b,o+k*4+3,none⟩=some (.slice r.pa r.pn r.pc):=hc 3 _ rfl
   have ha:Hid (R=BX (if q r=true then some k else ((rows.drop (k+1)).findIdx? q).map (fun j:Nat=>j+(k+1)))):=by
    show _=_;rw[he.out,al_ hr,List.findIdx?_cons]
    cases q r
    ·simp only[Zj,if_false]
     cases (rows.drop (k+1)).findIdx? q with
     |none=>rfl
     |some j=>simp only[Option.map_some];congr 2;omega
    ·simp
   clear he
   go_wp2_with fail
   refine (hq wr r (hI _ _ hw hB)).mono ?_;rintro e w2 ⟨rfl,hg⟩;have hC:=Aa hB hg
   cases hf:q r
   ·rw[hf] at ha;simp only[Zj,if_false] at ha;go_wp2;go_roundw
    case rel=>exact⟨k+1,by omega,by go_num,ha,hC⟩
    case measure=>simp[intOf];omega
   ·rw[hf] at ha;simp only[if_true] at ha;go_wp2;go_returns;exact⟨by rw[ha.out]<;>rfl,hC⟩
  ·obtain rfl:k=n:=by omega
   go_wp2;go_returns;exact⟨by rw[he.out,Ze (Zm hb.out)];rfl,hB⟩
theorem p7_:∀ m,∀ u∈(Builtin.zeroCells (.agg #[.int .i64 0,.string .empty,.bool false,.slice none 0 0]:Value).cells m).toList,u.oneCell'=true:=by
 intro m u hu;simp only[Builtin.zeroCells,Array.toList_map,ZT] at hu;obtain⟨j,_,rfl⟩:=hu;have h:j % 4<4:=Nat.mod_lt _ (by decide);show ((.agg #[.int .i64 0,.string .empty,.bool false,.slice none 0 0]:Value).cells[j % 4]!).oneCell'=true;generalize j % 4=k at h
 match k,h with
 |0,_=>rfl
 |1,_=>rfl
 |2,_=>rfl
 |3,_=>rfl
end
end Go.Proofs.YtdmeabghpchckaaGreatDoor
