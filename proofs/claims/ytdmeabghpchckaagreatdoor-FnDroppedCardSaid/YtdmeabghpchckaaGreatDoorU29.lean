/- The laws' marks in a pool: cells of the same kinds, the slices as they were, nothing else turned. -/
import Derived.Deep.DeepCutAuto
import Derived.Test.YtdmeabghpchckaaGreatDoorU18
set_option maxHeartbeats 20000000
set_option maxRecDepth 100000
namespace Go.Proofs.YtdmeabghpchckaaGreatDoor
section
open Go Go.RowKit Go.BigFrame Tryz
variable{B:Nat}{p:Po}{v:Value}{w:World}
theorem BG.own {rows:List VR}(h:BG B w v p rows):∃ ea en ec va vn vc ra rn rc la ln lc,v=.agg #[.int .i64 p.size,.int .i64 p.next,.slice ea en ec,.slice va vn vc,.slice ra rn rc,.slice la ln lc]∧Own B w.heap.size (w.alloc (.cells #[.int .i64 p.size,.int .i64 p.next,.slice ea en ec,.slice va vn vc,.slice ra rn rc,.slice la ln lc] 28)) p ea en ec va vn vc ra rn rc la ln lc rows:=by
 obtain⟨ea,en,ec,va,vn,vc,ra,rn,rc,la,ln,lc,hv,h1,⟨h2,h3⟩,h4,h5,h6,h7,h8⟩:=h;have hA:Below w.heap.size w (w.alloc (.cells #[.int .i64 p.size,.int .i64 p.next,.slice ea en ec,.slice va vn vc,.slice ra rn rc,.slice la ln lc] 28)):=(Yg _ _).alloc (Zd _) _;exact⟨ea,en,ec,va,vn,vc,ra,rn,rc,la,ln,lc,hv,Blk.new _ _ _,h1.below hA,h2.below hA,h3.below hA,h4.below hA,h5.below hA,h6,h7,dc_ h3 h8 hA⟩
end
section
open Go Go.RowKit Go.BigFrame Tryz
variable{α:Type}{K:Act->World->Prop}{x:Ct}{Q:Exit->Act->World->Prop}{l:List Ct}{k m n size:Nat}{o:Oper}{P:Program}{a b w w':World}{cs:α->List Value}
theorem mh_ {v v':Value}(base:Nat)(t ty e:TypeId)(i:TypeInfo)(z:Value)(size bytes:Nat)(ht:P.underlying t=some (.slice e))(hi:P.info? e=some i)(hz:i.zero=some z)
  (hsize:i.size=size)(hby:i.bytes=bytes)(n:Nat)(xs:List Value)(ha:w.ownsRow base e size v n xs)
  (a:Addr)(m c:Nat)(news:List Value)(hl:news.length=m*size)(hnews:∀ j u,news[j]?=some u->w.cell? (a.add j)=some u)(h1:∀ u∈news,u.oneCell'=true)
  (h63:n+m<=maxLen)(hbytes:(n+m)*bytes<=140737488355328)(hr:(Builtin.append_ #[t,t] ty #[v,.slice (some a) m c]).run P w=.ok v' w')(hnil:v'=.slice none 0 0↔v=.slice none 0 0∧m=0):
  ∀ g,v'.ownBlock=some g->v.ownBlock=some g∨w.heap.size<=g:=by
 by_cases hm:0<m
 ·exact iD_ base t ty e i z size bytes ht hi hz hsize hby n xs ha a m c news hm hl hnews h1 h63 hbytes hr
 ·obtain rfl:m=0:=by omega
  subst hsize;intro g' hc;rcases ha.2 with⟨rfl,rfl⟩ | ⟨g,cap,cur,rfl,hj,hg,hn,hk,hh,hf⟩
  ·rw[hnil.2 ⟨rfl,rfl⟩] at hc;simp[Value.ownBlock] at hc
  ·have hb:n*i.size+news.length<=cur.size:=by rw[hl,hh,<-Yd];exact ZS _ (by omega)
   have he:=run_append_room (P:=P) w t ty e i ht hi g n cap cur hg a 0 c news hl hnews h1 (by omega) hb;rw[hr] at he
   cases he
   left;simpa[Value.ownBlock] using hc
theorem mX_ {a:Act}
  (s x:Operand)(t:TypeId)(ho:o.op=.call {callee:=.builtin .append,args:=#[s,x],argTypes:=#[t,t]})
  (B:Nat)(e:TypeId)(i:TypeInfo)(z:Value)(bytes:Nat)(ht:P.underlying t=some (.slice e))(hi:P.info? e=some i)(hz:i.zero=some z)(hsize:i.size=size)(hby:i.bytes=bytes)(hzs:z.cells.size=size)(hpos:0<size)
  (hsz:∀ y,(cs y).length=size)(hone:∀ (l:List α),∀ u∈l.flatMap cs,u.oneCell'=true)
  (da:Option Addr)(dn dcap:Nat)(ld:List α)(hs:a.eval s=.slice da dn dcap)(hd:Ad cs size e w B da dn dcap ld)
  (sa:Option Addr)(sn scap:Nat)(ls:List α)(hx:a.eval x=.slice sa sn scap)(hsrc:AE cs size w sa sn ls)(hspot:∀ ad,sa=some ad->ad.spot=none)(hnone:sa=none->scap=0)
  (tot:Nat)(htot:dn+sn=tot)(h63:tot<=maxLen)(hbytes:tot*bytes<=140737488355328)(hbase:B<=w.heap.size)
  (h:∀ a' cap' w',Ad cs size e w' B a' tot cap' (ld++ls)->w.grownBy w' (Value.ownBlock (.slice da dn dcap))->(∀ ad',a'=some ad'->(∃ ad,da=some ad∧ad.block=ad'.block)∨w.heap.size<=ad'.block)->K (a.put o.dst (.slice a' tot cap')) w'):o.wp P a w K Q:=by
 subst htot;have he:=hd.row hsz;have hf:(ld++ls).length=dn+sn:=by rw[ZE,hd.sl.len,hsrc.len]
 cases sa with
 |none=>
  have h0:sn=0:=by
   cases ls with
   |nil=>rw[<-hsrc.len];rfl
   |cons y r=>obtain⟨b,o',hb,_⟩:=hsrc.cell 0 y rfl;cases hb
  obtain rfl:=h0;obtain rfl:=hnone rfl;have hn:ls=[]:=Zt hsrc.len;subst hn;have hk:=run_append_owned_none (P:=P) w B t o.type e i size ht hi (.slice da dn dcap) dn (ld.flatMap cs) he;unfold Oper.wp;simp[execOp,ho,resolve,invoke,builtin,hs,hx,hk,Result.andThen];exact h da dcap w (by simpa using hd) (Yh _ _) (fun ad' hc=>.inl ⟨ad',hc,rfl⟩)
 |some ad=>
  obtain⟨b,off,spot⟩:=ad
  have:=hspot _ rfl
  simp only at this;subst this;have hl:(ls.flatMap cs).length=sn*size:=by rw[aY_ hsz,hsrc.len]
  obtain⟨v',w',hr,ha,hg,hh⟩:=run_append_own (P:=P) w B t o.type e i z size bytes ht hi hz hsize hby hzs hpos (.slice da dn dcap) dn (ld.flatMap cs) he ⟨b,off,none⟩ sn scap (ls.flatMap cs) hl (AE.src hsz hsrc) (hone ls) h63 hbytes hbase;have hm:=mh_ (P:=P) B t o.type e i z size bytes ht hi hz hsize hby dn (ld.flatMap cs) he ⟨b,off,none⟩ sn scap (ls.flatMap cs) hl (AE.src hsz hsrc) (hone ls) h63 hbytes hr hh;rw[<-ZQ] at ha;obtain⟨a',cap',rfl,hj⟩:=bz_ hsz hf ha;unfold Oper.wp;simp[execOp,ho,resolve,invoke,builtin,hs,hx,hr,Result.andThen];refine h a' cap' w' hj hg (fun ad' hc=>?_);subst hc;rcases hm ad'.block (by simp[Value.ownBlock]) with h1 | h1
  ·cases da with
   |none=>simp[Value.ownBlock] at h1
   |some ad=>exact .inl ⟨ad,rfl,by simpa[Value.ownBlock] using h1⟩
  ·exact .inr h1
theorem k2_ (h:Below w.heap.size w w'):w.grownBy w' none:=⟨h.os,h.tape,h.output,h.size,fun k hk _=>h.block k hk⟩
theorem jE_ {a:Act}
  (s x:Operand)(t:TypeId)(ho:o.op=.call {callee:=.builtin .append,args:=#[s,x],argTypes:=#[t,t]})
  (B:Nat)(e:TypeId)(i:TypeInfo)(z:Value)(bytes:Nat)(hi:P.info? e=some i)(hz:i.zero=some z)(hsize:i.size=size)(hby:i.bytes=bytes)(ht:P.underlying t=some (.slice e))(hzs:z.cells.size=size)(hpos:0<size)
  (hsz:∀ y,(cs y).length=size)(hone:∀ (l:List α),∀ u∈l.flatMap cs,u.oneCell'=true)
  (da:Option Addr)(dn dcap:Nat)(ld:List α)(hs:a.eval s=.slice da dn dcap)(hd:Ad cs size e w B da dn dcap ld)
  (sa:Option Addr)(sn scap:Nat)(ls:List α)(hx:a.eval x=.slice sa sn scap)(hsrc:AE cs size w sa sn ls)(hspot:∀ ad,sa=some ad->ad.spot=none)(hnone:sa=none->scap=0)
  (ra:Option Addr)(rn rc:Nat)(lr:List α)(hr:Ad cs size e w B ra rn rc lr)(hap:∀ x y,ra=some x->da=some y->0<rc->0<dcap->x.block≠y.block)
  (tot:Nat)(htot:dn+sn=tot)(h63:tot<=maxLen)(hbytes:tot*bytes<=140737488355328)(hbase:B<=w.heap.size)
  (h:∀ a' cap' w' row,Ad cs size e w' B a' tot cap' (ld++ls)->Ad cs size e w' B ra rn rc lr->w.grownBy w' row->By w row e->(∀ k,row=some k->B<=k)->(∀ x y,ra=some x->a'=some y->0<rc->0<cap'->x.block≠y.block)->K (a.put o.dst (.slice a' tot cap')) w'):o.wp P a w K Q:=by
 rcases hd.own with⟨rfl,rfl,rfl⟩ | ⟨b,rfl,hm,hu,hq,c,hc,hk,hv⟩
 ·refine mX_ s x t ho B e i z bytes ht hi hz hsize hby hzs hpos hsz hone none 0 0 ld hs hd sa sn scap ls hx hsrc hspot hnone tot htot h63 hbytes hbase (fun a' cap' w' R hg hf=>?_);refine h a' cap' w' none R (hr.off hg (fun ad _=>by simp[Value.ownBlock])) hg hA_ (fun k e=>by cases e) (fun x y hx hy _ _=>?_);rcases hf y hy with⟨_,h0,_⟩ | h1
  ·cases h0
  ·have:=(hr.block x hx).2;omega
 ·by_cases hcap:0<dcap
  ·have hl:∀ ad,ra=some ad->ad.block≠b:=fun ad ha hb=>by
    by_cases hrc:0<rc
    ·exact hap ad _ ha rfl hrc hcap hb
    ·rcases hr.own with⟨h0,_⟩ | ⟨b',h1,_,_,_,c',he,hj,_⟩
     ·rw[h0] at ha;cases ha
     ·rw[h1] at ha;cases ha;simp only at hb;subst hb
      have:c=c':=by
       unfold Blk at hc he;rw[hc] at he;injection he with e1;injection e1
      rw[this,hj] at hk
      have:0<dcap*size:=Nat.mul_pos hcap hpos
      have:rc=0:=by omega
      subst this;omega
   refine mX_ s x t ho B e i z bytes ht hi hz hsize hby hzs hpos hsz hone _ dn dcap ld hs hd sa sn scap ls hx hsrc hspot hnone tot htot h63 hbytes hbase (fun a' cap' w' R hg hf=>?_);refine h a' cap' w' _ R (hr.off hg (fun ad ha=>by simp[Value.ownBlock];exact hl ad ha)) hg hd.rowTy (aG_ fun ad ha=>(hd.block ad ha).1) (fun x y hx hy _ _=>?_);rcases hf y hy with⟨ad,h0,h1⟩ | h1
   ·cases h0
    have:=hl x hx
    simp only at h1;omega
   ·have:=(hr.block x hx).2;omega
  ·obtain rfl:dcap=0:=by omega
   obtain rfl:dn=0:=by omega
   have hp:ld=[]:=Zt hd.sl.len;subst hp;have hn:c=#[]:=Array.eq_empty_of_size_eq_zero (by rw[hk];simp);subst hn;subst htot;rw[Zq] at h63 hbytes;refine eQ_ s x t ho B e i z bytes ht hi hz hsize hby hzs hpos hsz hone b hs hc hm sa sn scap ls hx hsrc hspot hnone h63 hbytes hbase (fun a' cap' w' R hB _ hf=>?_)
   have hh:=h a' cap' w' none (by simpa using R) (hr.below hB) (k2_ hB) hA_ (fun k e=>by cases e) (fun x y hx hy _ hc=>by
    have:=(hr.block x hx).2
    have:=hf hc y hy
    omega)
   rw[Zq] at hh;exact hh
theorem EC (h:Below n w a)(h':Below m a b)(hn:n<=m):Below n w b:=⟨h'.os.trans h.os,h'.tape.trans h.tape,h'.output.trans h.output,Zl h.size h'.size,fun k hk=>(h'.block k (by omega)).trans (h.block k hk)⟩
end
section
open Go Go.RowKit Go.BigFrame Tryz
variable{p:Po}
theorem dv_ (h:Ai p=true):Aq p.rf p.lt=some (AQ p.rf p.lt)∧AN p.rf=true∧A3 p.lt=true:=by
 simp only[Ai,Zf] at h;have h1:=h.1.2;unfold Aq at h1 ⊢;split at h1
 ·rename_i hh;split at hh
  ·split at hh<;>cases h1
  ·cases h1
 ·rename_i s hh;split at hh
  ·rename_i h2;split at hh
   ·rename_i h3;rw[if_pos h2,if_pos h3];exact⟨rfl,h2⟩
   ·cases hh
  ·cases hh
theorem c6_ (h:Ai p=true):AN (AQ p.rf p.lt)=true:=by
 have h1:=(dv_ h).1;unfold Aq at h1;split at h1
 ·split at h1
  ·assumption
  ·cases h1
 ·cases h1
end
end Go.Proofs.YtdmeabghpchckaaGreatDoor
