/- OpOk of the model: one Kind. -/
import Derived.Shelf.SlSortCmp.NoneTotal
import Derived.Maps.RangeWalk
import Derived.WideKeyEntry
import Derived.Deep.DeepCutAuto
import Derived.Test.YtkiceokhlceciaaGreatDoorU14
set_option maxHeartbeats 20000000
set_option maxRecDepth 100000
namespace Go.Proofs.YtkiceokhlceciaaGreatDoor
section
open Go Go.RowKit Go.BigFrame Tryz
variable{α:Type}{K:Act->World->Prop}{x:Ct}{Q:Exit->Act->World->Prop}{l:List Ct}{m n size:Nat}{o:Oper}{P:Program}{a b w w':World}{cs:α->List Value}
theorem mh_ {v v':Value}(base:Nat)(t ty e:TypeId)(i:TypeInfo)(z:Value)(size bytes:Nat)(ht:P.underlying t=some (.slice e))(hi:P.info? e=some i)(hz:i.zero=some z)
  (hsize:i.size=size)(hby:i.bytes=bytes)(n:Nat)(xs:List Value)(ha:w.ownsRow base e size v n xs)
  (a:Addr)(m c:Nat)(news:List Value)(hl:news.length=m*size)(hnews:∀ j u,news[j]?=some u->w.cell? (a.add j)=some u)(h1:∀ u∈news,u.oneCell'=true)
  (h63:n+m<=maxLen)(hbytes:(n+m)*bytes<=140737488355328)(hr:(Builtin.append_ #[t,t] ty #[v,.slice (some a) m c]).run P w=.ok v' w')(hnil:v'=.slice none 0 0↔v=.slice none 0 0∧m=0):
  ∀ g,v'.ownBlock=some g->v.ownBlock=some g∨w.heap.size<=g:=by
 by_cases hm:0<m
 ·exact iD_ base t ty e i z size bytes ht hi hz hsize hby n xs ha a m c news hm hl hnews h1 h63 hbytes hr
 ·obtain rfl:m=0:=by omega
  subst hsize;intro g' hc;rcases ha.2 with⟨rfl,rfl⟩ | ⟨g,cap,cur,rfl,hj,hg,hn,hk,hh,hf⟩
  ·rw[hnil.2 ⟨rfl,rfl⟩] at hc;simp[Value.ownBlock] at hc
  ·have hb:n*i.size+news.length<=cur.size:=by rw[hl,hh,<-Yd];exact ZS _ (by omega)
   have he:=run_append_room (P:=P) w t ty e i ht hi g n cap cur hg a 0 c news hl hnews h1 (by omega) hb;rw[hr] at he
   cases he
   left;simpa[Value.ownBlock] using hc
theorem mX_ {a:Act}
  (s x:Operand)(t:TypeId)(ho:o.op=.call {callee:=.builtin .append,args:=#[s,x],argTypes:=#[t,t]})
  (B:Nat)(e:TypeId)(i:TypeInfo)(z:Value)(bytes:Nat)(ht:P.underlying t=some (.slice e))(hi:P.info? e=some i)(hz:i.zero=some z)(hsize:i.size=size)(hby:i.bytes=bytes)(hzs:z.cells.size=size)(hpos:0<size)
  (hsz:∀ y,(cs y).length=size)(hone:∀ (l:List α),∀ u∈l.flatMap cs,u.oneCell'=true)
  (da:Option Addr)(dn dcap:Nat)(ld:List α)(hs:a.eval s=.slice da dn dcap)(hd:Ad cs size e w B da dn dcap ld)
  (sa:Option Addr)(sn scap:Nat)(ls:List α)(hx:a.eval x=.slice sa sn scap)(hsrc:AX cs size w sa sn ls)(hspot:∀ ad,sa=some ad->ad.spot=none)(hnone:sa=none->scap=0)
  (tot:Nat)(htot:dn+sn=tot)(h63:tot<=maxLen)(hbytes:tot*bytes<=140737488355328)(hbase:B<=w.heap.size)
  (h:∀ a' cap' w',Ad cs size e w' B a' tot cap' (ld++ls)->w.grownBy w' (Value.ownBlock (.slice da dn dcap))->(∀ ad',a'=some ad'->(∃ ad,da=some ad∧ad.block=ad'.block)∨w.heap.size<=ad'.block)->K (a.put o.dst (.slice a' tot cap')) w'):o.wp P a w K Q:=by
 subst htot;have he:=hd.row hsz;have hf:(ld++ls).length=dn+sn:=by rw[ZE,hd.sl.len,hsrc.len]
 cases sa with
 |none=>
  have h0:sn=0:=by
   cases ls with
   |nil=>rw[<-hsrc.len];rfl
   |cons y r=>obtain⟨b,o',hb,_⟩:=hsrc.cell 0 y rfl;cases hb
  obtain rfl:=h0;obtain rfl:=hnone rfl;have hn:ls=[]:=Zt hsrc.len;subst hn;have hk:=run_append_owned_none (P:=P) w B t o.type e i size ht hi (.slice da dn dcap) dn (ld.flatMap cs) he;unfold Oper.wp;simp[execOp,ho,resolve,invoke,builtin,hs,hx,hk,Result.andThen];exact h da dcap w (by simpa using hd) (Yh _ _) (fun ad' hc=>.inl ⟨ad',hc,rfl⟩)
 |some ad=>
  obtain⟨b,off,spot⟩:=ad
  have:=hspot _ rfl
  simp only at this;subst this;have hl:(ls.flatMap cs).length=sn*size:=by rw[aY_ hsz,hsrc.len]
  obtain⟨v',w',hr,ha,hg,hh⟩:=run_append_own (P:=P) w B t o.type e i z size bytes ht hi hz hsize hby hzs hpos (.slice da dn dcap) dn (ld.flatMap cs) he ⟨b,off,none⟩ sn scap (ls.flatMap cs) hl (AX.src hsz hsrc) (hone ls) h63 hbytes hbase;have hm:=mh_ (P:=P) B t o.type e i z size bytes ht hi hz hsize hby dn (ld.flatMap cs) he ⟨b,off,none⟩ sn scap (ls.flatMap cs) hl (AX.src hsz hsrc) (hone ls) h63 hbytes hr hh;rw[<-ZQ] at ha;obtain⟨a',cap',rfl,hj⟩:=bz_ hsz hf ha;unfold Oper.wp;simp[execOp,ho,resolve,invoke,builtin,hs,hx,hr,Result.andThen];refine h a' cap' w' hj hg (fun ad' hc=>?_);subst hc;rcases hm ad'.block (by simp[Value.ownBlock]) with h1 | h1
  ·cases da with
   |none=>simp[Value.ownBlock] at h1
   |some ad=>exact .inl ⟨ad,rfl,by simpa[Value.ownBlock] using h1⟩
  ·exact .inr h1
end
section
open Go Go.RowKit Go.BigFrame Tryz
variable{α:Type}{c:Array Value}{B b j n:Nat}{a:Option Addr}{v x:Value}{w w':World}{l:List α}
theorem Ad.same {t:TypeId}{cs:α->List Value}{sz:Nat}{cap:Nat}(h:Ad cs sz t w B a n cap l)(he:∀ ad,a=some ad->w'.heap[ad.block]?=w.heap[ad.block]?):Ad cs sz t w' B a n cap l:=by
 have hb:∀ b o,a=some ⟨b,o,none⟩->∀ j,w'.cell? ⟨b,j,none⟩=w.cell? ⟨b,j,none⟩:=fun b o ha j=>by
  have:=he _ ha
  simp only[World.cell?];rw[this]
 refine⟨⟨h.sl.len,fun i x hx=>?_⟩,?_⟩
 ·obtain⟨b,o,ha,hc⟩:=h.sl.cell i x hx;exact⟨b,o,ha,fun j v hv=>by rw[hb b o ha];exact hc j v hv⟩
 ·rcases h.own with h0 | ⟨b,ha,hB,h1,h2,c,hc,q⟩
  ·exact .inl h0
  ·exact .inr ⟨b,ha,hB,h1,h2,c,(he _ ha).trans hc,q⟩
end
end Go.Proofs.YtkiceokhlceciaaGreatDoor
