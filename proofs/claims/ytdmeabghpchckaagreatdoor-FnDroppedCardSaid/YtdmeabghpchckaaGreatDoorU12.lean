/- Appends at the program's own types, in few words. -/
import Derived.Test.YtdmeabghpchckaaGreatDoorU11
set_option maxHeartbeats 20000000
set_option maxRecDepth 100000
namespace Go.Proofs.YtdmeabghpchckaaGreatDoor
section
open Go Go.RowKit Go.BigFrame Tryz
theorem FE:(prog.info? 134).map (fun i=>(i.zero,i.size,i.bytes))=some (some (.agg #[.string .empty,.slice none 0 0]),2,40):=by kernel_rfl
theorem HH:(prog.info? 38).map (fun i=>(i.zero,i.size,i.bytes))=some (some (.agg #[.int .i64 0,.string .empty,.bool false,.slice none 0 0]),4,56):=by kernel_rfl
theorem po_ {α:Type}{cs:α->List Value}{size:Nat}{P:Program}{o:Oper}{a:Act}{w:World}{K:Act->World->Prop}{Q:Exit->Act->World->Prop}
  (s x:Operand)(t:TypeId)(ho:o.op=.call {callee:=.builtin .append,args:=#[s,x],argTypes:=#[t,t]})
  (B:Nat)(e:TypeId)(i:TypeInfo)(z:Value)(bytes:Nat)(ht:P.underlying t=some (.slice e))(hi:P.info? e=some i)(hz:i.zero=some z)(hsize:i.size=size)(hby:i.bytes=bytes)(hzs:z.cells.size=size)(hpos:0<size)
  (hsz:∀ y,(cs y).length=size)(hone:∀ (l:List α),∀ u∈l.flatMap cs,u.oneCell'=true)
  (da:Option Addr)(dn dcap:Nat)(ld:List α)(hs:a.eval s=.slice da dn dcap)(hd:Ad cs size e w B da dn dcap ld)
  (sa:Option Addr)(sn scap:Nat)(ls:List α)(hx:a.eval x=.slice sa sn scap)(hsrc:AE cs size w sa sn ls)(hspot:∀ ad,sa=some ad->ad.spot=none)(hnone:sa=none->scap=0)
  (tot:Nat)(htot:dn+sn=tot)(h63:tot<=maxLen)(hbytes:tot*bytes<=140737488355328)(hbase:B<=w.heap.size)
  (h:∀ a' cap' w',Ad cs size e w' B a' tot cap' (ld++ls)->w.grownBy w' (Value.ownBlock (.slice da dn dcap))->(da≠none->a'≠none)->K (a.put o.dst (.slice a' tot cap')) w'):o.wp P a w K Q:=by
 subst htot;have hf:=hd.row hsz;have hh:(ld++ls).length=dn+sn:=by rw[ZE,hd.sl.len,hsrc.len]
 cases sa with
 |none=>
  have h0:sn=0:=by
   cases ls with
   |nil=>rw[<-hsrc.len];rfl
   |cons y r=>obtain⟨b,o',hb,_⟩:=hsrc.cell 0 y rfl;cases hb
  obtain rfl:=h0;obtain rfl:=hnone rfl;have hm:ls=[]:=Zt hsrc.len;subst hm;have hj:=run_append_owned_none (P:=P) w B t o.type e i size ht hi (.slice da dn dcap) dn (ld.flatMap cs) hf;unfold Oper.wp;simp[execOp,ho,resolve,invoke,builtin,hs,hx,hj,Result.andThen];exact h da dcap w (by simpa using hd) (Yh _ _) (fun h=>h)
 |some ad=>
  obtain⟨b,off,spot⟩:=ad
  have:=hspot _ rfl
  simp only at this;subst this;refine wp_append_own w s x t ho B e i z size bytes ht hi hz hsize hby hzs hpos (.slice da dn dcap) dn (ld.flatMap cs) hs hf ⟨b,off,none⟩ sn scap (ls.flatMap cs) hx (by rw[aY_ hsz,hsrc.len]) (AE.src hsz hsrc) (hone ls) h63 hbytes hbase ?_;intro v' w' ha hg hc;rw[<-ZQ] at ha;obtain⟨a',cap',rfl,he⟩:=bz_ hsz hh ha;refine h a' cap' w' he hg (fun hl hk=>?_);subst hk
  have hz:dn+sn=0∧cap'=0:=by
   rcases he.own with⟨_,h1,h2⟩ | ⟨b,e,_⟩
   ·exact⟨h1,h2⟩
   ·cases e
  rw[hz.1,hz.2] at hc
  have:=(hc.1 rfl).1
  injection this with e1;exact hl e1
end
section
open Go Go.RowKit Go.BigFrame Tryz
variable{o:Oper}{a:Act}{w:World}{K:Act->World->Prop}{Q:Exit->Act->World->Prop}
theorem g4_ (s x:Operand)(ho:o.op=.call {callee:=.builtin .append,args:=#[s,x],argTypes:=#[36,36]})
  (B:Nat)(da:Option Addr)(dn dcap:Nat)(ld:List IR)(hs:a.eval s=.slice da dn dcap)(hd:Ad irs 2 134 w B da dn dcap ld)
  (sa:Option Addr)(sn scap:Nat)(ls:List IR)(hx:a.eval x=.slice sa sn scap)(hsrc:AE irs 2 w sa sn ls)(hspot:∀ ad,sa=some ad->ad.spot=none)(hnone:sa=none->scap=0)
  (tot:Nat)(htot:dn+sn=tot)(h63:tot<=9000000)(hbase:B<=w.heap.size)
  (h:∀ a' cap' w',Ad irs 2 134 w' B a' tot cap' (ld++ls)->w.grownBy w' (Value.ownBlock (.slice da dn dcap))->K (a.put o.dst (.slice a' tot cap')) w'):o.wp prog a w K Q:=by
 obtain⟨i0,hi,ha,hb,hc⟩:=info_parts FE;exact ay_ s x _ ho B _ i0 _ 40 underlying36 hi ha hb hc rfl (by decide) aI_ eP_ da dn dcap ld hs hd sa sn scap ls hx hsrc hspot hnone tot htot (by unfold maxLen;omega) (by omega) hbase h
theorem dC_ (s x:Operand)(ho:o.op=.call {callee:=.builtin .append,args:=#[s,x],argTypes:=#[25,25]})
  (B:Nat)(da:Option Addr)(dn dcap:Nat)(ld:List VR)(hs:a.eval s=.slice da dn dcap)(hd:Ad vrs 4 38 w B da dn dcap ld)
  (sa:Option Addr)(sn scap:Nat)(ls:List VR)(hx:a.eval x=.slice sa sn scap)(hsrc:AE vrs 4 w sa sn ls)(hspot:∀ ad,sa=some ad->ad.spot=none)(hnone:sa=none->scap=0)
  (tot:Nat)(htot:dn+sn=tot)(h63:tot<=9000000)(hbase:B<=w.heap.size)
  (h:∀ a' cap' w',Ad vrs 4 38 w' B a' tot cap' (ld++ls)->w.grownBy w' (Value.ownBlock (.slice da dn dcap))->K (a.put o.dst (.slice a' tot cap')) w'):o.wp prog a w K Q:=by
 obtain⟨i0,hi,ha,hb,hc⟩:=info_parts HH;exact ay_ s x _ ho B _ i0 _ 56 underlying25 hi ha hb hc rfl (by decide) a2_ pm_ da dn dcap ld hs hd sa sn scap ls hx hsrc hspot hnone tot htot (by unfold maxLen;omega) (by omega) hbase h
theorem mF_ (s x:Operand)(ho:o.op=.call {callee:=.builtin .append,args:=#[s,x],argTypes:=#[85,85]})
  (B:Nat)(da:Option Addr)(dn dcap:Nat)(ld:List Pt)(hs:a.eval s=.slice da dn dcap)(hd:Ad Pt.cs 3 146 w B da dn dcap ld)
  (sa:Option Addr)(sn scap:Nat)(ls:List Pt)(hx:a.eval x=.slice sa sn scap)(hsrc:AM w sa sn ls)(hspot:∀ ad,sa=some ad->ad.spot=none)(hnone:sa=none->scap=0)
  (tot:Nat)(htot:dn+sn=tot)(h63:tot<=9000000)(hbase:B<=w.heap.size)
  (h:∀ a' cap' w',Ad Pt.cs 3 146 w' B a' tot cap' (ld++ls)->w.grownBy w' (Value.ownBlock (.slice da dn dcap))->K (a.put o.dst (.slice a' tot cap')) w'):o.wp prog a w K Q:=by
 obtain⟨i0,hi,ha,hb,hc⟩:=info_parts FP;exact ay_ s x _ ho B _ i0 _ 24 underlying85 hi ha hb hc rfl (by decide) bF_ cI_ da dn dcap ld hs hd sa sn scap ls hx hsrc hspot hnone tot htot (by unfold maxLen;omega) (by omega) hbase h
theorem mG_ (s x:Operand)(ho:o.op=.call {callee:=.builtin .append,args:=#[s,x],argTypes:=#[24,24]})
  (B:Nat)(da:Option Addr)(dn dcap:Nat)(ld:List Ex)(hs:a.eval s=.slice da dn dcap)(hd:Ad Ex.cs 2 42 w B da dn dcap ld)
  (sa:Option Addr)(sn scap:Nat)(ls:List Ex)(hx:a.eval x=.slice sa sn scap)(hsrc:Bb w sa sn ls)(hspot:∀ ad,sa=some ad->ad.spot=none)(hnone:sa=none->scap=0)
  (tot:Nat)(htot:dn+sn=tot)(h63:tot<=9000000)(hbase:B<=w.heap.size)
  (h:∀ a' cap' w',Ad Ex.cs 2 42 w' B a' tot cap' (ld++ls)->w.grownBy w' (Value.ownBlock (.slice da dn dcap))->(da≠none->a'≠none)->K (a.put o.dst (.slice a' tot cap')) w'):o.wp prog a w K Q:=by
 obtain⟨i0,hi,ha,hb,hc⟩:=info_parts E5;exact po_ s x _ ho B _ i0 _ 24 underlying24 hi ha hb hc rfl (by decide) aK_ aU_ da dn dcap ld hs hd sa sn scap ls hx hsrc hspot hnone tot htot (by unfold maxLen;omega) (by omega) hbase h
end
section
open Go Go.RowKit Go.BigFrame Tryz
theorem b1_ {o:Oper}{a:Act}{w:World}{K:Act->World->Prop}{Q:Exit->Act->World->Prop}(s x:Operand)(ho:o.op=.call {callee:=.builtin .append,args:=#[s,x],argTypes:=#[36,36]})
  (B:Nat)(da:Option Addr)(dn dcap:Nat)(ld:List IR)(hs:a.eval s=.slice da dn dcap)(hd:Ad irs 2 134 w B da dn dcap ld)
  (b off:Nat)(r:IR)(hx:a.eval x=.slice (some ⟨b,off,none⟩) 1 1)(hsrc:AE irs 2 w (some ⟨b,off,none⟩) 1 [r])(h63:dn<=9000000)(hbase:B<=w.heap.size)
  (h:∀ a' cap' w',Ad irs 2 134 w' B a' (dn+1) cap' (ld++[r])->w.grownBy w' (Value.ownBlock (.slice da dn dcap))->(∀ ad',a'=some ad'->(∃ ad,da=some ad∧ad.block=ad'.block)∨w.heap.size<=ad'.block)->K (a.put o.dst (.slice a' (dn+1) cap')) w'):o.wp prog a w K Q:=by
 obtain⟨i0,hi,ha,hb,hc⟩:=info_parts FE;exact ph_ s x _ ho B _ i0 _ 40 underlying36 hi ha hb hc rfl (by decide) aI_ eP_ da dn dcap ld hs hd b off [r] hx hsrc (by unfold maxLen;omega) (by omega) hbase h
theorem jo_ {α:Type}{cs:α->List Value}{sz:Nat}{w:World}{b:Nat}{c:Array Value}{t:TypeId}(x:α)(h:Blk w b c t)(hc:c.toList=cs x):AE cs sz w (some ⟨b,0,none⟩) 1 [x]:=by
 refine⟨rfl,fun i y hy=>⟨b,0,rfl,fun j v hv=>?_⟩⟩;have hi:i=0:=by have:=(Zb.1 hy).1;simp at this;exact this
 subst hi;simp at hy;subst hy;rw[h.cell];simp only[Nat.zero_mul,Zq];rw[<-hc] at hv;simpa using hv
theorem fQ_ (w:World)(r:VR)(t:TypeId)(b:Nat)(hb:b=w.heap.size):AE vrs 4 (w.alloc (.cells #[.int .i64 r.id,.string r.nm,.bool r.fx,.slice r.pa r.pn r.pc] t)) (some ⟨b,0,none⟩) 1 [r]:=jo_ r (Blk.new' w _ t b hb) rfl
theorem AU {w:World}{b:Nat}{c0 c1 c2 c3 c4 c5:Value}{t:TypeId}(h:Blk w b #[c0,c1,c2,c3,c4,c5] t)(v0 v1 v2 v3 v4 v5:Value):
  ∃ W,W=((((((w.setCell ⟨b,0,none⟩ v0).setCell ⟨b,1,none⟩ v1).setCell ⟨b,2,none⟩ v2).setCell ⟨b,3,none⟩ v3).setCell ⟨b,4,none⟩ v4).setCell ⟨b,5,none⟩ v5)∧Blk W b #[v0,v1,v2,v3,v4,v5] t∧w.grownBy W (some b):=
 ⟨_,rfl,by simpa using (((((h.set 0 v0).set 1 v1).set 2 v2).set 3 v3).set 4 v4).set 5 v5,af_ (af_ (af_ (af_ (af_ (BW w b 0 v0) 1 v1) 2 v2) 3 v3) 4 v4) 5 v5⟩
theorem Blk.four {w:World}{b:Nat}{c0 c1 c2 c3:Value}{t:TypeId}(h:Blk w b #[c0,c1,c2,c3] t):w.cell? ⟨b,0,none⟩=some c0∧w.cell? ⟨b,1,none⟩=some c1∧w.cell? ⟨b,2,none⟩=some c2∧w.cell? ⟨b,3,none⟩=some c3:=⟨h.cell 0,h.cell 1,h.cell 2,h.cell 3⟩
theorem Blk.six' {w:World}{b:Nat}{c0 c1 c2 c3 c4 c5:Value}{t:TypeId}(h:Blk w b #[c0,c1,c2,c3,c4,c5] t):w.cell? ⟨b,0,none⟩=some c0∧w.cell? ⟨b,1,none⟩=some c1∧w.cell? ⟨b,2,none⟩=some c2∧w.cell? ⟨b,3,none⟩=some c3∧w.cell? ⟨b,4,none⟩=some c4∧w.cell? ⟨b,5,none⟩=some c5:=⟨h.cell 0,h.cell 1,h.cell 2,h.cell 3,h.cell 4,h.cell 5⟩
end
section
open Go Go.RowKit
variable{P:Program}{Q:Exit->Act->World->Prop}{md:Region.Mode}
variable{S:World->Prop}
theorem AW {l:List Oper}{i:Nat}{o:Oper}{fuel:Nat}{listed:Array Bool}{a:Act}{w:World}(hr:Region.ready md l.toArray listed=[i])(hi:l[i]?=some o)
  (h:∀ K':Act->World->Prop,Shut (∀ a w,S w->(S w->wpAnyH P md l.toArray Q S fuel (listed.setIfInBounds i true) a w)->K' a w)->if Region.wanted o (yielded l.toArray a.tmps)=true then Oper.wp P o a w K' Q else K' (a.put o.dst undef) w):
  wpAnyH P md l.toArray Q S (fuel+1) listed a w:=
 wpAnyH_ready hr (by simp) (AllReadyH.cons (by simpa using hi) h AllReadyH.nil)
end
section
open Go Go.RowKit Go.BigFrame Tryz
variable{α:Type}{a:Act}{K:Act->World->Prop}{Q:Exit->Act->World->Prop}{B b j n:Nat}{o:Oper}{P:Program}{t:TypeId}{x:Value}{u w:World}{l:List α}{cs:α->List Value}
theorem eQ_ {size:Nat}
  (s x:Operand)(t:TypeId)(ho:o.op=.call {callee:=.builtin .append,args:=#[s,x],argTypes:=#[t,t]})
  (B:Nat)(e:TypeId)(i:TypeInfo)(z:Value)(bytes:Nat)(ht:P.underlying t=some (.slice e))(hi:P.info? e=some i)(hz:i.zero=some z)(hsize:i.size=size)(hby:i.bytes=bytes)(hzs:z.cells.size=size)(hpos:0<size)
  (hsz:∀ y,(cs y).length=size)(hone:∀ (l:List α),∀ u∈l.flatMap cs,u.oneCell'=true)
  (b:Nat)(hs:a.eval s=.slice (some ⟨b,0,none⟩) 0 0)(hb:Blk w b #[] e)(hBb:B<=b)
  (sa:Option Addr)(sn scap:Nat)(ls:List α)(hx:a.eval x=.slice sa sn scap)(hsrc:AE cs size w sa sn ls)(hspot:∀ ad,sa=some ad->ad.spot=none)(hnone:sa=none->scap=0)
  (h63:sn<=maxLen)(hbytes:sn*bytes<=140737488355328)(hbase:B<=w.heap.size)
  (h:∀ a' cap' w',Ad cs size e w' B a' sn cap' ls->Below w.heap.size w w'->a'≠none->(0<cap'->∀ ad,a'=some ad->w.heap.size<=ad.block)->K (a.put o.dst (.slice a' sn cap')) w'):o.wp P a w K Q:=by
 have hd:Ad cs size e w B (some ⟨b,0,none⟩) 0 0 ([]:List α):=aw_ hb hBb;have hf:=hd.row hsz;have he:sn=0->ls=[]:=fun h0=>Zt (by rw[hsrc.len];exact h0)
 cases sa with
 |none=>
  have h0:sn=0:=by
   cases ls with
   |nil=>rw[<-hsrc.len];rfl
   |cons y r=>obtain⟨b,o',hb,_⟩:=hsrc.cell 0 y rfl;cases hb
  obtain rfl:=he h0;obtain rfl:=h0;obtain rfl:=hnone rfl;have hc:=run_append_owned_none (P:=P) w B t o.type e i size ht hi (.slice (some ⟨b,0,none⟩) 0 0) 0 _ hf;unfold Oper.wp;simp[execOp,ho,resolve,invoke,builtin,hs,hx,hc,Result.andThen];exact h _ 0 w hd (Yg _ _) (by simp) (fun h=>absurd h (by omega))
 |some ad=>
  obtain⟨sb,off,spot⟩:=ad
  have:=hspot _ rfl
  simp only at this;subst this;have hl:(ls.flatMap cs).length=sn*size:=by rw[aY_ hsz,hsrc.len]
  by_cases hm:0<sn
  ·obtain⟨v',w',hr,ha,hg,hq⟩:=run_append_own (P:=P) w B t o.type e i z size bytes ht hi hz hsize hby hzs hpos (.slice (some ⟨b,0,none⟩) 0 0) 0 [] (by simpa using hf) ⟨sb,off,none⟩ sn scap (ls.flatMap cs) hl (AE.src hsz hsrc) (hone ls) (by omega) (by rw[Zq];exact hbytes) hbase;subst hsize;subst hby;have hn:=run_append_grow (P:=P) w t o.type e i z ht hi hz ⟨b,0,none⟩ 0 0 [] (by simp) (fun j v hv=>by simp at hv) ⟨sb,off,none⟩ sn scap (ls.flatMap cs) hl (AE.src hsz hsrc) (by omega) (by simp only[maxLen] at h63;omega) (growslice_fits (by omega) (by rw[Zq];exact hbytes));rw[hr] at hn;rw[ZM,Zq] at ha;obtain⟨a',cap',rfl,hh⟩:=bz_ hsz hsrc.len ha;injection hn with e1 e2;injection e1 with e3 e4 e5;have hp:Below w.heap.size w w':=by rw[e2];exact ((Yg _ _).drew).alloc (Zd _) _
   unfold Oper.wp;simp[execOp,ho,resolve,invoke,builtin,hs,hx,hr,Result.andThen];refine h a' cap' w' hh hp (by rw[e3];simp) (fun _ ad hk=>?_);rw[e3] at hk
   cases hk
   exact Zd _
  ·obtain rfl:sn=0:=by omega
   obtain rfl:=he rfl;subst hsize;have hc:=run_append_room_cells (P:=P) (w:=w) t o.type e i ht hi b 0 0 0 ⟨sb,off,none⟩ 0 scap [] (by simp) (fun j u hu=>by simp at hu) (fun u hu=>by simp at hu) (by omega) (fun j hj=>by simp at hj) (fun j hj=>by simp at hj);unfold Oper.wp;simp[execOp,ho,resolve,invoke,builtin,hs,hx,hc,Result.andThen];exact h _ 0 w hd (Yg _ _) (by simp) (fun h=>absurd h (by omega))
theorem iM_ {o:Nat}{l:List Ex}(h:Bb w (some ⟨b,o,none⟩) n l)(j cap:Nat)(hj:j<=n)(hc:n<=cap):
  Bb w (if cap=j then some ⟨b,o,none⟩ else some ⟨b,o+j*2,none⟩) (n-j) (l.drop j):=by
 split
 ·rw[Ze (by rw[h.len];omega)];exact⟨by simp;omega,fun i x hx=>by simp at hx⟩
 ·exact h.drop j
end
section
open Go Go.RowKit Go.BigFrame Tryz
def Gw (B:Nat)(e:Ending)(w':World):Option (List Ex×Int)->Prop
 |none=>e=.returned (.tuple #[.slice none 0 0,.int .i64 0,.bool false])
 |some (L,x)=>∃ a n cap,e=.returned (.tuple #[.slice a n cap,.int .i64 x,.bool true])∧Ad Ex.cs 2 42 w' B a n cap L
end
section
open Go Go.RowKit
variable{x:It}{l:List It}
theorem kv_ (x:It):∀ (l:List It) (st:List It×Bool),(l.foldl (Bh x) st).1.length+(if (l.foldl (Bh x) st).2=true then 0 else 1)<=st.1.length+(if st.2=true then 0 else 1)+l.length
 |[],st=>Zd _
 |y::r,st=>by
  have h:=kv_ x r (Bh x st y);rw[YE]
  have h2:(Bh x st y).1.length+(if (Bh x st y).2=true then 0 else 1)<=st.1.length+(if st.2=true then 0 else 1)+1:=by
   unfold Bh;obtain⟨a,d⟩:=st
   cases d<;>cases bl y.nm.toList x.nm.toList<;>cases (y.nm.toList==x.nm.toList)<;>simp<;>omega
  simp only[Zw];omega
theorem kw_ (x:It)(l:List It):(A9 x l).length<=l.length+1:=by
 have h:=kv_ x l ([],false);unfold A9 DH;split
 ·rename_i hd;rw[if_pos hd] at h;simp at h;omega
 ·rename_i hd;rw[if_neg hd] at h;simp at h ⊢;omega
theorem hF_ (x:It):∀ (l:List It) (st:List It×Bool) (z:It),z∈(l.foldl (Bh x) st).1->z∈st.1∨z=x∨z∈l
 |[],st,z,h=>.inl h
 |y::r,st,z,h=>by
  rcases hF_ x r _ z h with h | h | h
  ·simp only[Bh] at h;rcases Zs.1 h with h | h
   ·split at h
    ·rcases Zs.1 h with h | h
     ·exact .inl h
     ·exact .inr (.inl (by simpa using h))
    ·exact .inl h
   ·split at h
    ·cases h
    ·exact .inr (.inr (by simp at h;simp[h]))
  ·exact .inr (.inl h)
  ·exact .inr (.inr (by simp[h]))
theorem kx_ {z:It}(h:z∈A9 x l):z=x∨z∈l:=by
 unfold A9 DH at h;split at h
 ·rcases hF_ x l _ z h with h | h
  ·cases h
  ·exact h
 ·rcases Zs.1 h with h | h
  ·rcases hF_ x l _ z h with h | h
   ·cases h
   ·exact h
  ·exact .inl (by simpa using h)
end
section
open Go Go.RowKit Go.BigFrame Tryz
variable{α:Type}{s:ByteArray}{B b cap i n sz:Nat}{t:TypeId}{v:Value}{w w':World}{l:List α}{cs:α->List Value}
theorem ad_ {P:Program}{fn:Func}{p q:Tmp}{ty:TypeId}(h:fn.results=#[.cell p ty,.tmp q])(tmps:Array Value)(w:World)(g:Nat)(t:TypeId)(cs:Array Value)(fr:Nat×Nat)(d:TypeDesc)(v:Value)
  (hp:tmps.getD p undef=.pointer (some ⟨g,0,none⟩))(hg:w.heap[g]?=some (.cells cs t fr))
  (hu:P.underlying ty=some d)(hd:(match d with | .struct _ | .array _ _=>true | _=>false)=true)(hi:(P.info? ty).map (·.size)=some cs.size)(hq:tmps.getD q undef=v):
  (results fn tmps).run P w=.ok (.tuple #[.agg cs,v]) w:=by
 have ha:tmps[p]?.getD undef=.pointer (some ⟨g,0,none⟩):=by simpa using hp
 have hb:tmps[q]?.getD undef=v:=by simpa using hq
 simp[results,h,ha,hb,asAddr,run_loadVar_row w g t ty cs fr d hg hu hd hi]
theorem Ad.addr {a:Option Addr}(h:Ad cs sz t w B a n cap l)(hn:0<n):∃ b,a=some ⟨b,0,none⟩∧B<=b∧n<=cap∧cap<=9223372036854775807:=by
 rcases h.own with⟨_,h0,_⟩ | ⟨b,h1,h2,h3,h4,_⟩
 ·omega
 ·exact⟨b,h1,h2,h3,by unfold maxLen at h4;omega⟩
theorem Ad.cellAt {j:Nat}{x:α}(h:Ad cs sz t w B (some ⟨b,0,none⟩) n cap l)(hi:l[i]?=some x)(hj:(cs x)[j]?=some v):w.cell? ⟨b,i*sz+j,none⟩=some v:=by
 obtain⟨b',o',e,hc⟩:=h.sl.cell i x hi
 cases e
 have:=hc j v hj
 rwa [Zq] at this
theorem ap_ {vs:List Vo}(h:volI vs s=some i):i<vs.length:=by
 unfold volI at h;obtain⟨h1,_⟩:=ZA.1 h;exact h1
theorem Al.tyP {p:Po}{row:Option Nat}(h:Al B w v p)(hg:w.grownBy w' row)(hr:By w row 28):Al B w' v p:=by
 obtain⟨ea,en,ec,va,vn,vc,ra,rn,rc,la,ln,lc,rows,hv,h1,⟨h2,h3⟩,h4,h5,h6⟩:=h;exact⟨ea,en,ec,va,vn,vc,ra,rn,rc,la,ln,lc,rows,hv,h1.ty hg hr (by decide),⟨h2.ty hg hr (by decide),h3.ty hg hr (by decide) (by decide)⟩,h4.ty hg hr (by decide),h5.ty hg hr (by decide),h6⟩
theorem Ad.blkAt (h:Ad cs sz t w B (some ⟨b,0,none⟩) n cap l):∃ c,Blk w b c t:=by
 rcases h.own with⟨h0,_⟩ | ⟨b',e,_,_,_,c,hc,_⟩
 ·cases h0
 ·cases e;exact⟨c,hc⟩
end
end Go.Proofs.YtdmeabghpchckaaGreatDoor
