/- The model's SpaceOk; the laws' sizes, copies and comparisons of lists of extents. The laws' sizes, copies and comparisons of lists of extents. Appending to a slice of the call's own: lists of elements of several cells. Appending one list behind another one: as a step of the walk, and as a step of a region that draws its order. Where an extent stands (the model's l1At); Lifted of the program. Content as a plain function; dataAt of the program. Counts added up: a list in order with no nought is told by its sums. The model's rounds of adding a count: plain facts; counts in memory. -/
import Derived.Test.YtigldeccfpkdmaaGreatDoorProg
import Derived.Test.YtigldeccfpkdmaaGreatDoorK01
import Derived.Test.YtigldeccfpkdmaaGreatDoorK00
import Derived.Deep.RegionLaw
import Derived.Laws.AppendOwnNone
import Derived.Test.YtigldeccfpkdmaaGreatDoorK03
namespace Go.Proofs.YtigldeccfpkdmaaGreatDoor
open Go.RowKit Go.BigFrame
set_option maxHeartbeats 20000000
set_option maxRecDepth 100000
theorem fE_ (d:ByteArray):dataOkB d=(decide (1<=d.size)&&(plainB d&&decide (d.size<=20))):=by
 unfold dataOkB;cases plainB d<;>cases decide (1<=d.size)<;>cases decide (d.size<=20)<;>rfl
theorem bQ_ (size:Int) (a:Option Addr) (n cap:Nat) (l:List Ex) (w:World) (h:ExsAt w a n l) (hstr:Strs l) (hn:n<=4194304) :
  Calls Tryz.prog 115 #[.int .i64 size,.slice a n cap] w fun e w'=>e=.returned (.bool (spaceOkB size l))∧w'=w:=by
 have hlen:Hid (l.length=n):=h.len
 by_cases h0:1<=size∧size<=400∧n<=60
 ·have hfin:Hid (spaceOkB size l=xgo size 1 (l.drop 0)):=by show _=_;simp [spaceOkB,hlen.out,h0]
  obtain ⟨h1,h400,h60⟩:=h0
  have hin:(decide (1<=size)&&decide (size<=400))=true:=by simp [h1,h400]
  go_enter Tryz.func115,Tryz.ntmps115
  go_wp2_with fail
  refine (ao_ _ _ _ _).mono ?_
  rintro e w1 ⟨rfl,rfl⟩
  rw [hin]
  go_wp2_with fail
  go_loop [5,6] (fun nx ix=>∃ (k:Nat) (next:Int),k<=n∧ix=.int .i64 k∧nx=.int .i64 next∧1<=next∧next<=421∧Hid (spaceOkB size l=xgo size next (l.drop k))) (fun _ ix=>n-(intOf ix).toNat)
  case atStart=>exact ⟨0,1,Nat.zero_le _,rfl,rfl,by omega,by omega,hfin⟩
  case round=>
   obtain ⟨k,next,hk,rfl,rfl,hx1,hx2,hI⟩:=hrel
   by_cases hlt:k<n
   ·obtain ⟨b,o,p,rfl,hp,c0,c1⟩:=bp_ h hlt
    have hd:Hid (l.drop k=p::l.drop (k+1)):=aj_ hp
    have hsz:=hstr.at hp
    clear hp hin
    by_cases hz:p.d.size=0
    ·have hz':((p.d.size:Int)==0)=true:=beq_iff_eq.2 (by omega)
     have hdo:Hid (dataOkB p.d=false):=by show _=_;simp [dataOkB,hz]
     clear hz
     go_wp2
     go_returns
     go_light
     refine ⟨ab_ ?_,rfl⟩
     rw [hI.out,hd.out];simp [xgo,hdo.out]
    ·have hz':((p.d.size:Int)==0)=false:=beq_eq_false_iff_ne.2 (by omega)
     cases hpl:(plainB p.d&&decide (p.d.size<=20))
     ·have hdo:Hid (dataOkB p.d=false):=by show _=_;rw [fE_,hpl];simp
      go_wp2_with fail
      refine (bO_ p.d _ hsz).mono ?_
      rintro e w1 ⟨rfl,rfl⟩
      rw [hpl]
      go_wp2
      go_returns
      go_light
      refine ⟨ab_ ?_,rfl⟩
      rw [hI.out,hd.out];simp [xgo,hdo.out]
     ·have hpl2:=hpl
      simp at hpl2
      have hdo:Hid (dataOkB p.d=true):=by show _=_;rw [fE_,hpl];simp;omega
      have hd2:p.d.size<=20:=hpl2.2
      have hd1:1<=p.d.size:=by omega
      clear hpl2
      cases hii:(decide (next<=p.a)&&decide (p.a<=size))
      ·go_wp2_with fail
       refine (bO_ p.d _ hsz).mono ?_
       rintro e w1 ⟨rfl,rfl⟩
       rw [hpl]
       go_wp2_with fail
       refine (ao_ _ _ _ _).mono ?_
       rintro e w1 ⟨rfl,rfl⟩
       rw [hii]
       go_wp2
       go_returns
       go_light
       refine ⟨ab_ ?_,rfl⟩
       simp at hii
       rw [hI.out,hd.out];simp [xgo,hdo.out];omega
      ·have hi2:=hii
       simp at hi2
       obtain ⟨ha1,ha2⟩:=hi2
       by_cases hok:p.a+p.d.size-1<=size
       ·go_wp2_with fail
        refine (bO_ p.d _ hsz).mono ?_
        rintro e w1 ⟨rfl,rfl⟩
        rw [hpl]
        go_wp2_with fail
        refine (ao_ _ _ _ _).mono ?_
        rintro e w1 ⟨rfl,rfl⟩
        rw [hii]
        go_wp2
        go_round
        case rel=>exact ⟨k+1,p.a+p.d.size,by omega,by go_num,by go_num,by omega,by omega,by show _=_;rw [hI.out,hd.out];have:p.a<=size+1-p.d.size:=by omega
                                                                                            simp [xgo,hdo.out,ha1,this]⟩
        case measure=>simp [intOf];omega
       ·go_wp2_with fail
        refine (bO_ p.d _ hsz).mono ?_
        rintro e w1 ⟨rfl,rfl⟩
        rw [hpl]
        go_wp2_with fail
        refine (ao_ _ _ _ _).mono ?_
        rintro e w1 ⟨rfl,rfl⟩
        rw [hii]
        go_wp2
        go_returns
        go_light
        refine ⟨ab_ ?_,rfl⟩
        rw [hI.out,hd.out];simp [xgo,hdo.out];omega
   ·obtain rfl:k=n:=by omega
    go_wp2
    go_returns
    go_light
    refine ⟨ab_ ?_,rfl⟩
    rw [hI.out,List.drop_of_length_le (Nat.le_of_eq hlen.out)];rfl
 ·have hfin:Hid (spaceOkB size l=false):=by show _=_;have:=hlen.out;simp [spaceOkB];omega
  cases hin:(decide (1<=size)&&decide (size<=400))
  all_goals
   go_enter Tryz.func115,Tryz.ntmps115
   go_wp2_with fail
   refine (ao_ _ _ _ _).mono ?_
   rintro e w1 ⟨rfl,rfl⟩
   rw [hin]
   simp at hin
   go_wp2
   all_goals go_returns
   all_goals go_light
   all_goals exact ⟨ab_ hfin.out.symm,rfl⟩
def eqExB (p q:Ex):Bool:=p.a==q.a&&p.d.toList==q.d.toList
theorem gx_ (p q:Ex) (w:World) :
  Calls Tryz.prog 106 #[.agg #[.int .i64 p.a,.string p.d],.agg #[.int .i64 q.a,.string q.d]] w fun e w'=>e=.returned (.bool (eqExB p q))∧Below w.heap.size w w':=by
 obtain ⟨a,f⟩:=p
 obtain ⟨b,g⟩:=q
 go_enter Tryz.func106,Tryz.ntmps106
 go_wp2
 all_goals go_returns
 all_goals go_light
 all_goals refine ⟨?_,by go_grown⟩
 all_goals simp_all [eqExB]
/-- A list of extents that is within the budget. -/
def Small (n:Nat) (l:List Ex):Prop:=n<=1048576∧∀ e∈l,e.d.size<=1048576
theorem Small.strs {n:Nat} {l:List Ex} (h:Small n l):Strs l:=fun e he=>by have:=h.2 e he;omega
def eqExs:List Ex->List Ex->Bool
 |[],[]=>true
 |p::r,q::s=>eqExB p q&&eqExs r s
 |_,_=>false
theorem ko_ (l:List Ex):eqExs l l=true:=by
 induction l with
 |nil=>rfl
 |cons p r ih=>simp [eqExs,eqExB,ih]
theorem ma_ {l:List Ex}:∀ {m:List Ex},l.length≠m.length->eqExs l m=false:=by
 induction l with
 |nil=>intro m h;cases m<;>simp [eqExs] at *
 |cons p r ih=>intro m h;cases m<;>simp [eqExs] at *;exact fun _=>ih h
theorem fF_ (a:Option Addr) (n cap:Nat) (l:List Ex) (a':Option Addr) (n' cap':Nat) (m:List Ex) (w:World) (h:ExsAt w a n l) (h':ExsAt w a' n' m) (hn:n<=4194304) (hn':n'<=4194304) :
  Calls Tryz.prog 42 #[.slice a n cap,.slice a' n' cap'] w fun e w'=>e=.returned (.bool (eqExs l m))∧Below w.heap.size w w':=by
 have hlen:Hid (l.length=n):=h.len
 have hlen':Hid (m.length=n'):=h'.len
 by_cases hne:n=n'
 ·subst hne
  have hbn:((n:Int) != (n:Int))=false:=by simp
  go_enter Tryz.func42,Tryz.ntmps42
  go_wp2_with fail
  go_loopw [5] (fun ix wr=>∃ (k:Nat),k<=n∧ix=.int .i64 k∧Hid (eqExs l m=eqExs (l.drop k) (m.drop k))∧Below w.heap.size w wr) (fun ix _=>n-(intOf ix).toNat)
  case atStart=>exact ⟨0,Nat.zero_le _,rfl,rfl,Below.refl _ _⟩
  case round=>
   obtain ⟨k,hk,rfl,hI,hB⟩:=hrel
   by_cases hlt:k<n
   ·obtain ⟨b,o,p,rfl,hp,c0,c1⟩:=bp_ (h.below hB) hlt
    obtain ⟨b',o',q,rfl,hq,d0,d1⟩:=bp_ (h'.below hB) hlt
    have hd:Hid (l.drop k=p::l.drop (k+1)):=aj_ hp
    have hd':Hid (m.drop k=q::m.drop (k+1)):=aj_ hq
    clear hp hq
    have hk1:(k:Int)<n:=by omega
    have hk2:(0:Int)<=k:=by omega
    cases hpq:eqExB p q
    all_goals
     go_wp2_with fail
     have g0:=gcell c0
     have g1:=gcell c1
     have g3:=gcell d0
     have g4:=gcell d1
     have hne:=aq_ wr
     refine aa_ (by kernel_rfl) (by kernel_rfl) ?_
     repeat (go_big_quiet_step (first | (go_at_call 106;have qq:=gx_ p q;rw [hpq] at qq;exact ag_ (qq _))))
     refine wpQuiet_nil ?_
     intro w2 hx
     have hB2:=ae_ hx
     clear hx
     go_wp2
    ·go_returns
     go_light
     refine ⟨ab_ ?_,chain hB hB2⟩
     rw [hI.out,hd.out,hd'.out];simp only [eqExs,hpq,Bool.false_and]
    ·go_roundw
     case rel=>exact ⟨k+1,by omega,by go_num,by show _=_;rw [hI.out,hd.out,hd'.out];simp only [eqExs,hpq,Bool.true_and],chain hB hB2⟩
     case measure=>simp [intOf];omega
   ·obtain rfl:k=n:=by omega
    go_wp2
    go_returns
    go_light
    refine ⟨ab_ ?_,hB⟩
    rw [hI.out,List.drop_of_length_le (Nat.le_of_eq hlen.out),List.drop_of_length_le (Nat.le_of_eq hlen'.out)];rfl
 ·have hbn:((n:Int) != (n':Int))=true:=by simp;omega
  go_enter Tryz.func42,Tryz.ntmps42
  go_wp2
  go_returns
  go_light
  refine ⟨ab_ ?_,Below.refl _ _⟩
  rw [ma_ (by rw [hlen.out,hlen'.out];exact hne)]
end Go.Proofs.YtigldeccfpkdmaaGreatDoor
namespace Go.Proofs.YtigldeccfpkdmaaGreatDoor
open Go.RowKit
set_option maxHeartbeats 20000000
set_option maxRecDepth 100000
theorem aT_ {α:Type} {cs:α->List Value} {sz:Nat} (hsz:∀ x,(cs x).length=sz) (l:List α):(l.flatMap cs).length=l.length*sz:=by
 induction l with
 |nil=>simp
 |cons x r ih=>simp [ih,hsz,Nat.add_mul];omega
theorem hN_ {α:Type} {cs:α->List Value} {sz:Nat} (hsz:∀ x,(cs x).length=sz) (l:List α):∀ {i j:Nat} {x:α} {v:Value},l[i]?=some x->(cs x)[j]?=some v->(l.flatMap cs)[i*sz+j]?=some v:=by
 induction l with
 |nil=>intro i j x v h;simp at h
 |cons y r ih=>
  intro i j x v hx hv
  have hj:j<sz:=by have:=(List.getElem?_eq_some_iff.1 hv).1;rw [hsz] at this;exact this
  rw [List.flatMap_cons]
  cases i with
  |zero=>
   simp at hx
   subst hx
   rw [Nat.zero_mul,Nat.zero_add,List.getElem?_append_left (by rw [hsz];exact hj)]
   exact hv
  |succ i=>
   simp at hx
   rw [List.getElem?_append_right (by rw [hsz,Nat.add_mul];omega),hsz]
   have e:(i+1)*sz+j-sz=i*sz+j:=by rw [Nat.add_mul];omega
   rw [e]
   exact ih hx hv
theorem m8_ {α:Type} {cs:α->List Value} {sz:Nat} (hsz:∀ x,(cs x).length=sz) (l:List α):∀ {t:Nat} {v:Value},(l.flatMap cs)[t]?=some v->∃ i x j,l[i]?=some x∧(cs x)[j]?=some v∧t=i*sz+j:=by
 induction l with
 |nil=>intro t v h;simp at h
 |cons y r ih=>
  intro t v h
  rw [List.flatMap_cons] at h
  by_cases ht:t<sz
  ·rw [List.getElem?_append_left (by rw [hsz];exact ht)] at h
   exact ⟨0,y,t,rfl,h,by omega⟩
  ·rw [List.getElem?_append_right (by rw [hsz];omega),hsz] at h
   obtain ⟨i,x,j,h1,h2,h3⟩:=ih h
   exact ⟨i+1,x,j,by simpa using h1,h2,by rw [Nat.add_mul];omega⟩
/-- The cells of such a slice, one behind the other. -/
theorem SlAt.src {α:Type} {cs:α->List Value} {sz:Nat} (hsz:∀ x,(cs x).length=sz) {w:World} {b o n:Nat} {l:List α} (h:SlAt cs sz w (some ⟨b,o,none⟩) n l) :
  ∀ j u,(l.flatMap cs)[j]?=some u->w.cell? ((⟨b,o,none⟩:Addr).add j)=some u:=by
 intro t u hu
 obtain ⟨i,x,j,h1,h2,rfl⟩:=m8_ hsz l hu
 obtain ⟨b',o',ha,hc⟩:=h.cell i x h1
 obtain ⟨rfl,rfl⟩:b=b'∧o=o':=by simpa using ha
 rw [Addr.add_lit,<-Nat.add_assoc]
 exact hc j u h2
/-- An answer: nil, or a slice at the beginning of a block of the call's own. -/
structure ResAt {α:Type} (cs:α->List Value) (sz:Nat) (t:TypeId) (w:World) (B:Nat) (a:Option Addr) (n cap:Nat) (l:List α):Prop where
 sl:SlAt cs sz w a n l
 own:(a=none∧n=0∧cap=0)∨∃ b,a=some ⟨b,0,none⟩∧B<=b∧n<=cap∧cap<=maxLen∧∃ c,Blk w b c t∧c.size=cap*sz∧c.toList.take (n*sz)=l.flatMap cs
theorem ResAt.below {α:Type} {cs:α->List Value} {sz:Nat} {t:TypeId} {w w':World} {B n cap:Nat} {a:Option Addr} {l:List α} (h:ResAt cs sz t w B a n cap l) (hb:Below w.heap.size w w'):ResAt cs sz t w' B a n cap l:=by
 refine ⟨h.sl.below hb,?_⟩
 rcases h.own with h0 | ⟨b,ha,hB,h1,h2,c,hc,q⟩
 ·exact .inl h0
 ·exact .inr ⟨b,ha,hB,h1,h2,c,hc.below hb,q⟩
theorem ResAt.mono {α:Type} {cs:α->List Value} {sz:Nat} {t:TypeId} {w:World} {B B' n cap:Nat} {a:Option Addr} {l:List α} (h:ResAt cs sz t w B a n cap l) (hb:B'<=B):ResAt cs sz t w B' a n cap l:=by
 refine ⟨h.sl,?_⟩
 rcases h.own with h0 | ⟨b,ha,hB,q⟩
 ·exact .inl h0
 ·exact .inr ⟨b,ha,by omega,q⟩
/-- As the append laws want it. -/
theorem ResAt.row {α:Type} {cs:α->List Value} {sz:Nat} {t:TypeId} (hsz:∀ x,(cs x).length=sz) {w:World} {B n cap:Nat} {a:Option Addr} {l:List α} (h:ResAt cs sz t w B a n cap l):w.ownsRow B t sz (.slice a n cap) n (l.flatMap cs):=by
 refine ⟨by rw [aT_ hsz,h.sl.len],?_⟩
 rcases h.own with ⟨rfl,rfl,rfl⟩ | ⟨b,rfl,hB,h1,h2,c,hc,hs,ht⟩
 ·exact .inl ⟨rfl,rfl⟩
 ·exact .inr ⟨b,cap,c,rfl,hB,hc,h1,h2,hs,ht⟩
theorem cH_ {α:Type} {cs:α->List Value} {sz:Nat} {t:TypeId} (hsz:∀ x,(cs x).length=sz) {w:World} {B n:Nat} {v:Value} {l:List α} (hn:l.length=n) (h:w.ownsRow B t sz v n (l.flatMap cs)) :
  ∃ a cap,v=.slice a n cap∧ResAt cs sz t w B a n cap l:=by
 obtain ⟨_,h⟩:=h
 rcases h with ⟨rfl,rfl⟩ | ⟨g,cap,cur,rfl,hB,hh,h1,h2,hs,ht⟩
 ·exact ⟨none,0,rfl,⟨hn,fun i x hx=>by rw [List.eq_nil_of_length_eq_zero hn] at hx;simp at hx⟩,.inl ⟨rfl,rfl,rfl⟩⟩
 ·refine ⟨some ⟨g,0,none⟩,cap,rfl,⟨hn,fun i x hx=>⟨g,0,rfl,fun j u hu=>?_⟩⟩,.inr ⟨g,rfl,hB,h1,h2,cur,hh,hs,ht⟩⟩
  have hb:Blk w g cur t:=hh
  rw [hb.cell,Nat.zero_add]
  have hf:=hN_ hsz l hx hu
  rw [<-ht] at hf
  have hlt:i*sz+j<n*sz:=by
   have:=(List.getElem?_eq_some_iff.1 hf).1
   simp at this
   omega
  rw [List.getElem?_take_of_lt hlt] at hf
  simpa using hf
theorem ResAt.block {α:Type} {cs:α->List Value} {sz:Nat} {t:TypeId} {w:World} {B n cap:Nat} {a:Option Addr} {l:List α} (h:ResAt cs sz t w B a n cap l):∀ ad,a=some ad->B<=ad.block∧ad.block<w.heap.size:=by
 intro ad ha
 rcases h.own with ⟨rfl,_⟩ | ⟨b,rfl,hB,_,_,c,hc,_⟩
 ·cases ha
 ·cases ha
  exact ⟨hB,hc.lt⟩
theorem la_ (l:List Pt):∀ u∈l.flatMap Pt.cs,u.oneCell'=true:=by
 intro u hu
 obtain ⟨p,_,hp⟩:=List.mem_flatMap.1 hu
 simp [Pt.cs] at hp
 rcases hp with rfl | rfl | rfl<;>rfl
/-- append(d, s...): d is the call's own, s whatever slice. -/
theorem be_ {α:Type} {cs:α->List Value} {size:Nat} {P:Program} {o:Oper} {a:Act} {w:World} {K:Act->World->Prop} {Q:Exit->Act->World->Prop}
  (s x:Operand) (t:TypeId) (ho:o.op=.call {callee:=.builtin .append,args:=#[s,x],argTypes:=#[t,t]})
  (B:Nat) (e:TypeId) (i:TypeInfo) (z:Value) (bytes:Nat) (ht:P.underlying t=some (.slice e)) (hi:P.info? e=some i) (hz:i.zero=some z) (hsize:i.size=size) (hby:i.bytes=bytes) (hzs:z.cells.size=size) (hpos:0<size)
  (hsz:∀ y,(cs y).length=size) (hone:∀ (l:List α),∀ u∈l.flatMap cs,u.oneCell'=true)
  (da:Option Addr) (dn dcap:Nat) (ld:List α) (hs:a.eval s=.slice da dn dcap) (hd:ResAt cs size e w B da dn dcap ld)
  (sa:Option Addr) (sn scap:Nat) (ls:List α) (hx:a.eval x=.slice sa sn scap) (hsrc:SlAt cs size w sa sn ls) (hspot:∀ ad,sa=some ad->ad.spot=none) (hnone:sa=none->scap=0)
  (tot:Nat) (htot:dn+sn=tot) (h63:tot<=maxLen) (hbytes:tot*bytes<=140737488355328) (hbase:B<=w.heap.size)
  (h:∀ a' cap' w',ResAt cs size e w' B a' tot cap' (ld++ls)->w.grownBy w' (Value.ownBlock (.slice da dn dcap))->K (a.put o.dst (.slice a' tot cap')) w'):o.wp P a w K Q:=by
 subst htot
 have hrow:=hd.row hsz
 have hlen:(ld++ls).length=dn+sn:=by rw [List.length_append,hd.sl.len,hsrc.len]
 cases sa with
 |none=>
  have h0:sn=0:=by
   cases ls with
   |nil=>rw [<-hsrc.len];rfl
   |cons y r=>obtain ⟨b,o',hb,_⟩:=hsrc.cell 0 y rfl;cases hb
  obtain rfl:=h0
  obtain rfl:=hnone rfl
  have hl0:ls=[]:=List.eq_nil_of_length_eq_zero hsrc.len
  subst hl0
  have hrun:=run_append_owned_none (P:=P) w B t o.type e i size ht hi (.slice da dn dcap) dn (ld.flatMap cs) hrow
  unfold Oper.wp
  simp [execOp,ho,resolve,invoke,builtin,hs,hx,hrun,Result.andThen]
  exact h da dcap w (by simpa using hd) (World.grownBy.refl _ _)
 |some ad=>
  obtain ⟨b,off,spot⟩:=ad
  have:=hspot _ rfl
  simp only at this
  subst this
  refine wp_append_own w s x t ho B e i z size bytes ht hi hz hsize hby hzs hpos (.slice da dn dcap) dn (ld.flatMap cs) hs hrow ⟨b,off,none⟩ sn scap (ls.flatMap cs) hx (by rw [aT_ hsz,hsrc.len]) (SlAt.src hsz hsrc) (hone ls) h63 hbytes hbase ?_
  intro v' w' hrow' hg _
  rw [<-List.flatMap_append] at hrow'
  obtain ⟨a',cap',rfl,hres⟩:=cH_ hsz hlen hrow'
  exact h a' cap' w' hres hg
/-- The same as a step of a region that draws its order. -/
theorem aD_ {P:Program} {ops:Array Oper} {o:Oper} {a:Act} {w:World} {K:Act->World->Prop} {Q:Exit->Act->World->Prop} {E:Prop} (hg:o.guard=none) (h:o.wp P a w K Q) :
  if Region.wanted o (yielded ops a.tmps)=true then Oper.wp P o a w K Q else E:=by
 have hw:Region.wanted o (yielded ops a.tmps)=true:=by simp [Region.wanted,hg]
 rw [if_pos hw];exact h
theorem al_ {P:Program} {ops:Array Oper} {rest:List Oper} {o:Oper} {a:Act} {w:World} {Q:Exit->Act->World->Prop} (hg:o.guard=none)
  (h:∀ K:Act->World->Prop,(∀ a w,wpList P ops Q rest a w->K a w)->o.wp P a w K Q):wpList P ops Q (o::rest) a w:=wpList_plain hg h
theorem a1_ {α:Type} {cs:α->List Value} {sz:Nat} {t:TypeId} {w:World} {B b:Nat} (hb:Blk w b #[] t) (hB:B<=b):ResAt cs sz t w B (some ⟨b,0,none⟩) 0 0 ([]:List α):=
 ⟨⟨rfl,fun i x hx=>by simp at hx⟩,.inr ⟨b,rfl,hB,Nat.le_refl _,Nat.zero_le _,#[],hb,by simp,by simp⟩⟩
theorem aL_ {α:Type} {cs:α->List Value} {sz:Nat} {t:TypeId} {w:World} {B:Nat}:ResAt cs sz t w B none 0 0 ([]:List α):=
 ⟨⟨rfl,fun i x hx=>by simp at hx⟩,.inl ⟨rfl,rfl,rfl⟩⟩
theorem ResAt.grown {α:Type} {cs:α->List Value} {sz:Nat} {t:TypeId} {w w':World} {B n cap r:Nat} {a:Option Addr} {l:List α} (h:ResAt cs sz t w B a n cap l) (hg:w.grownBy w' (some r)) (hr:∀ ad,a=some ad->ad.block≠r):ResAt cs sz t w' B a n cap l:=by
 refine ⟨h.sl.grown hg hr,?_⟩
 rcases h.own with h0 | ⟨b,ha,hB,h1,h2,c,hc,q⟩
 ·exact .inl h0
 ·exact .inr ⟨b,ha,hB,h1,h2,c,hc.grown hg (hr _ ha),q⟩
theorem ResAt.alloc {α:Type} {cs:α->List Value} {sz:Nat} {t:TypeId} {w:World} {B n cap:Nat} {a:Option Addr} {l:List α} (h:ResAt cs sz t w B a n cap l) (o:Obj):ResAt cs sz t (w.alloc o) B a n cap l:=h.below ((Below.refl _ _).alloc (Nat.le_refl _) _)
theorem m9_ {a:Option Addr} {n cap x:Nat} (h:∀ ad,a=some ad->x<ad.block):some x≠Value.ownBlock (.slice a n cap):=by
 cases a with
 |none=>simp [Value.ownBlock]
 |some ad=>have:=h ad rfl;simp [Value.ownBlock];omega
theorem aI_ {a:Option Addr} {n cap B:Nat} (h:∀ ad,a=some ad->B<=ad.block):∀ k,Value.ownBlock (.slice a n cap)=some k->B<=k:=by
 intro k hk
 cases a with
 |none=>simp [Value.ownBlock] at hk
 |some ad=>have:=h ad rfl;simp [Value.ownBlock] at hk;omega
/-- A new block with the cells of one part. -/
theorem Blk.new' (w:World) (c:Array Value) (t:TypeId) (b:Nat) (hb:b=w.heap.size):Blk (w.alloc (.cells c t)) b c t:=by subst hb;exact Blk.new _ _ _
end Go.Proofs.YtigldeccfpkdmaaGreatDoor
namespace Go.Proofs.YtigldeccfpkdmaaGreatDoor
open Go.RowKit Go.BigFrame
set_option maxHeartbeats 20000000
set_option maxRecDepth 100000
/-- The index of the first extent at that address, the list beginning at k; -1 where there is none. -/
def atG (addr:Int):Nat->List Ex->Int
 |_,[]=>-1
 |k,e::r=>if e.a==addr then (k:Int) else atG addr (k+1) r
theorem g5_ (a:Option Addr) (n cap:Nat) (l:List Ex) (addr:Int) (w:World) (h:ExsAt w a n l) (hn:n<=4194304) :
  Calls Tryz.prog 121 #[.slice a n cap,.int .i64 addr] w fun e w'=>e=.returned (.int .i64 (atG addr 0 l))∧w'=w:=by
 have hlen:Hid (l.length=n):=h.len
 go_enter Tryz.func121,Tryz.ntmps121
 go_wp2_with fail
 go_loop [5] (fun ix=>∃ (k:Nat),k<=n∧ix=.int .i64 k∧Hid (atG addr 0 l=atG addr k (l.drop k))) (fun ix=>n-(intOf ix).toNat)
 case atStart=>exact ⟨0,Nat.zero_le _,rfl,rfl⟩
 case round=>
  obtain ⟨k,hk,rfl,hI⟩:=hrel
  by_cases hlt:k<n
  ·obtain ⟨b,o,p,rfl,hp,c0,c1⟩:=bp_ h hlt
   have hd:Hid (l.drop k=p::l.drop (k+1)):=aj_ hp
   clear hp
   cases he:(p.a==addr)
   ·go_wp2
    go_round
    case rel=>exact ⟨k+1,by omega,by go_num,by show _=_;rw [hI.out,hd.out];simp only [atG,he,Bool.false_eq_true,if_false]⟩
    case measure=>simp [intOf];omega
   ·go_wp2
    go_returns
    go_light
    refine ⟨aA_ ?_,rfl⟩
    rw [hI.out,hd.out];simp only [atG,he,if_true]
  ·obtain rfl:k=n:=by omega
   go_wp2
   go_returns
   go_light
   refine ⟨aA_ ?_,rfl⟩
   rw [hI.out,List.drop_of_length_le (Nat.le_of_eq hlen.out)];rfl
/-- The data of the first extent at an address, or none. -/
def dataAtB (addr:Int):List Ex->ByteArray
 |[]=>⟨#[]⟩
 |e::r=>if e.a==addr then e.d else dataAtB addr r
/-- The bytes of a part. -/
def pieceO (e:List Ex) (p:Pt):Option ByteArray:=
 if p.a==0 then some (zs p.n.toNat) else if ((dataAtB p.a e).size:Int)<p.f+p.n then none else some ((dataAtB p.a e).extract p.f.toNat (p.f+p.n).toNat)
def cgo (e:List Ex):ByteArray->List Pt->Option ByteArray
 |acc,[]=>some acc
 |acc,p::r=>match pieceO e p with
  |none=>none
  |some d=>cgo e (acc++d) r
def contentO (l:List Pt) (e:List Ex):Option ByteArray:=if partsOkB l=true∧spaceOkB 400 e=true then cgo e ⟨#[]⟩ l else none
theorem cs_:∀ {l:List Pt} {q:Option Pt} {left:Int},pgo q left l=true->left<=100->∀ p∈l,partOkB p=true∧p.n<=100
 |[],_,_,_,_=>by simp
 |p::r,q,left,h,hl=>by
  have h2:partOkB p=true∧p.n<=left∧pgo (some p) (left-p.n) r=true:=by
   cases q
   ·simp only [pgo,Bool.and_eq_true,decide_eq_true_eq] at h;exact ⟨h.1.1,h.1.2,h.2⟩
   ·simp only [pgo,Bool.and_eq_true,decide_eq_true_eq] at h;exact ⟨h.1.1.1,h.1.1.2,h.2⟩
  intro x hx
  rcases List.mem_cons.1 hx with rfl | hx
  ·exact ⟨h2.1,by omega⟩
  ·exact cs_ h2.2.2 (by have:=aW_ h2.1;omega) x hx
theorem eo_ {l:List Pt} (h:partsOkB l=true):l.length<=16∧∀ p∈l,1<=p.n∧p.n<=100∧(p.a≠0->0<=p.f∧p.f<20):=by
 simp only [partsOkB,Bool.and_eq_true,decide_eq_true_eq] at h
 refine ⟨h.1,fun p hp=>?_⟩
 obtain ⟨h1,h2⟩:=cs_ h.2 (by omega) p hp
 refine ⟨aW_ h1,h2,fun ha=>?_⟩
 have hb:(p.a==0)=false:=by simpa using ha
 simp only [partOkB,hb,Bool.false_eq_true,if_false,Bool.and_eq_true,decide_eq_true_eq] at h1
 omega
theorem c0_ {addr:Int}:∀ {e:List Ex},Strs e->(dataAtB addr e).size<=9223372036854775807
 |[],_=>by simp [dataAtB,ByteArray.size]
 |x::r,h=>by
  unfold dataAtB
  split
  ·exact h x (by simp)
  ·exact c0_ (fun y hy=>h y (by simp [hy]))
theorem iR_ (a:Option Addr) (n cap:Nat) (l:List Ex) (addr:Int) (w:World) (h:ExsAt w a n l) (hn:n<=4194304) :
  Calls Tryz.prog 235 #[.slice a n cap,.int .i64 addr] w fun e w'=>e=.returned (.string (dataAtB addr l))∧Below w.heap.size w w':=by
 have hlen:Hid (l.length=n):=h.len
 have hfin:Hid (dataAtB addr l=dataAtB addr (l.drop 0)):=rfl
 generalize dataAtB addr l=R at *
 go_enter Tryz.func235,Tryz.ntmps235
 go_wp2_with fail
 go_loopw [9] (fun ix wr=>∃ (k:Nat),k<=n∧ix=.int .i64 k∧Hid (R=dataAtB addr (l.drop k))∧Below w.heap.size w wr) (fun ix _=>n-(intOf ix).toNat)
 case atStart=>exact ⟨0,Nat.zero_le _,rfl,hfin,Below.refl _ _⟩
 case round=>
  obtain ⟨k,hk,rfl,hI,hB⟩:=hrel
  have hsz:=hB.size
  by_cases hlt:k<n
  ·obtain ⟨b,o,p,rfl,hp,c0,c1⟩:=bp_ (h.below hB) hlt
   have hd:Hid (l.drop k=p::l.drop (k+1)):=aj_ hp
   cases he:(p.a==addr)
   ·go_wp2
    go_roundw
    case rel=>exact ⟨k+1,by omega,by go_num,by show _=_;rw [hI.out,hd.out];simp [dataAtB,he],by go_grown⟩
    case measure=>simp [intOf];omega
   ·go_wp2
    go_returns
    go_light
    refine ⟨?_,by go_grown⟩
    rw [hI.out,hd.out];simp [dataAtB,he]
  ·obtain rfl:k=n:=by omega
   go_wp2
   go_returns
   go_light
   refine ⟨?_,hB⟩
   rw [hI.out,List.drop_of_length_le (by rw [hlen.out];exact Nat.le_refl _)];rfl
end Go.Proofs.YtigldeccfpkdmaaGreatDoor
namespace Go.Proofs.YtigldeccfpkdmaaGreatDoor
open Go.RowKit
set_option maxHeartbeats 20000000
set_option maxRecDepth 100000
/-- l3Add, as a plain function. -/
def addC:List Ct->Ct->List Ct
 |[],c=>[c]
 |x::r,c=>if owLt x.o c.o=true then x::addC r c else if owEq x.o c.o=true then (if x.n+c.n≠0 then ⟨c.o,x.n+c.n⟩::r else r) else c::x::r
def sumC (l more:List Ct):List Ct:=more.foldl addC l
/-- All N of one owner. -/
def tot (o:Ow):List Ct->Int
 |[]=>0
 |c::r=>(if owEq c.o o=true then c.n else 0)+tot o r
def Rising (l:List Ct):Prop:=l.Pairwise (fun x y=>owLt x.o y.o=true)
def NoZero (l:List Ct):Prop:=∀ c∈l,c.n≠0
theorem aU_ (o:Ow):owEq o o=true:=aC_.2 rfl
theorem dJ_ {a b:Ow} (h:owLt a b=true):owEq a b=false:=by
 cases e:owEq a b
 ·rfl
 ·rw [aC_.1 e,eR_] at h;cases h
theorem ep_ {a b:Ow} (h:owEq a b=false):owEq b a=false:=by
 cases e:owEq b a
 ·rfl
 ·rw [aC_.1 e,aU_] at h;cases h
theorem b2_ {o:Ow}:∀ {l:List Ct},(∀ c∈l,owLt o c.o=true)->tot o l=0
 |[],_=>rfl
 |c::r,h=>by
  have h1:=ep_ (dJ_ (h c (by simp)))
  simp only [tot,h1,Bool.false_eq_true,if_false]
  rw [b2_ (fun x hx=>h x (by simp [hx]))];rfl
theorem aX_ (o:Ow):∀ (l m:List Ct),tot o (l++m)=tot o l+tot o m
 |[],m=>by simp [tot]
 |c::r,m=>by simp only [List.cons_append,tot,aX_ o r m];omega
theorem iS_ (o:Ow) (c:Ct):∀ l:List Ct,tot o (addC l c)=tot o l+(if owEq c.o o=true then c.n else 0)
 |[]=>by simp [addC,tot]
 |x::r=>by
  unfold addC
  split
  ·simp only [tot,iS_ o c r];omega
  ·split
   ·rename_i h1 h2
    have e:=aC_.1 h2
    split
    ·simp only [tot,e];split<;>omega
    ·simp only [tot,e];split<;>omega
   ·simp only [tot];omega
theorem iT_ {z:Ow} {c:Ct} (hc:owLt z c.o=true):∀ {l:List Ct},(∀ x∈l,owLt z x.o=true)->∀ x∈addC l c,owLt z x.o=true
 |[],_=>by intro x hx;simp [addC] at hx;subst hx;exact hc
 |y::r,h=>by
  have hy:=h y (by simp)
  have hr:∀ x∈r,owLt z x.o=true:=fun x hx=>h x (by simp [hx])
  unfold addC
  split
  ·intro x hx
   rcases List.mem_cons.1 hx with rfl | hx
   ·exact hy
   ·exact iT_ hc hr x hx
  ·split
   ·split
    ·intro x hx
     rcases List.mem_cons.1 hx with rfl | hx
     ·exact hc
     ·exact hr x hx
    ·exact hr
   ·intro x hx
    rcases List.mem_cons.1 hx with rfl | hx
    ·exact hc
    ·exact h x hx
theorem eS_ (c:Ct):∀ {l:List Ct},Rising l->Rising (addC l c)
 |[],_=>by simp [addC,Rising]
 |y::r,h=>by
  obtain ⟨h1,h2⟩:=List.pairwise_cons.1 h
  unfold addC
  split
  ·rename_i k
   exact List.pairwise_cons.2 ⟨iT_ k h1,eS_ c h2⟩
  ·rename_i k
   split
   ·rename_i e
    have e:=aC_.1 e
    split
    ·exact List.pairwise_cons.2 ⟨fun x hx=>by simp only [<-e];exact h1 x hx,h2⟩
    ·exact h2
   ·rename_i e
    have hcy:owLt c.o y.o=true:=b1_ (by simpa using k) (fun e'=>e (aC_.2 e'))
    refine List.pairwise_cons.2 ⟨fun x hx=>?_,h⟩
    rcases List.mem_cons.1 hx with rfl | hx
    ·exact hcy
    ·exact bs_ hcy (h1 x hx)
theorem eT_ {c:Ct} (hc:c.n≠0):∀ {l:List Ct},NoZero l->NoZero (addC l c)
 |[],_=>by intro x hx;simp [addC] at hx;subst hx;exact hc
 |y::r,h=>by
  have hy:=h y (by simp)
  have hr:NoZero r:=fun x hx=>h x (by simp [hx])
  unfold addC
  split
  ·intro x hx
   rcases List.mem_cons.1 hx with rfl | hx
   ·exact hy
   ·exact eT_ hc hr x hx
  ·split
   ·split
    ·rename_i k
     intro x hx
     rcases List.mem_cons.1 hx with rfl | hx
     ·exact k
     ·exact hr x hx
    ·exact hr
   ·intro x hx
    rcases List.mem_cons.1 hx with rfl | hx
    ·exact hc
    ·exact h x hx
/-- Two lists in order, with no nought, whose sums are the same are one. -/
theorem dB_:∀ {l m:List Ct},Rising l->Rising m->NoZero l->NoZero m->(∀ o,tot o l=tot o m)->l=m
 |[],[],_,_,_,_,_=>rfl
 |[],y::s,_,hm,_,zm,h=>by
  have:=h y.o
  have hs:=b2_ (List.pairwise_cons.1 hm).1
  simp only [tot,aU_,if_true,hs] at this
  exact absurd (by omega) (zm y (by simp))
 |x::r,[],hl,_,zl,_,h=>by
  have:=h x.o
  have hr:=b2_ (List.pairwise_cons.1 hl).1
  simp only [tot,aU_,if_true,hr] at this
  exact absurd (by omega) (zl x (by simp))
 |x::r,y::s,hl,hm,zl,zm,h=>by
  obtain ⟨hl1,hl2⟩:=List.pairwise_cons.1 hl
  obtain ⟨hm1,hm2⟩:=List.pairwise_cons.1 hm
  have hr:=b2_ hl1
  have hs:=b2_ hm1
  cases hxy:owLt x.o y.o
  ·cases hyx:owLt y.o x.o
   ·have e:x.o=y.o:=by
     cases e:owEq x.o y.o
     ·have:=b1_ hxy (fun e'=>by rw [aC_.2 e'] at e;cases e)
      rw [hyx] at this;cases this
     ·exact aC_.1 e
    have h1:=h x.o
    rw [<-e] at hs
    simp only [tot,<-e,aU_,if_true,hr,hs] at h1
    have exy:x=y:=by cases x;cases y;simp at e h1 ⊢;exact ⟨e,h1⟩
    subst exy
    have:r=s:=dB_ hl2 hm2 (fun c hc=>zl c (by simp [hc])) (fun c hc=>zm c (by simp [hc])) (fun o=>by have:=h o;simp only [tot] at this;omega)
    rw [this]
   ·have h1:=h y.o
    have hz:tot y.o r=0:=b2_ (fun c hc=>bs_ hyx (hl1 c hc))
    have hne:=ep_ (dJ_ hyx)
    simp only [tot,aU_,if_true,hs,hne,Bool.false_eq_true,if_false,hz] at h1
    exact absurd (by omega) (zm y (by simp))
  ·have h1:=h x.o
   have hz:tot x.o s=0:=b2_ (fun c hc=>bs_ hxy (hm1 c hc))
   have hne:=ep_ (dJ_ hxy)
   simp only [tot,aU_,if_true,hr,hne,Bool.false_eq_true,if_false,hz] at h1
   exact absurd (by omega) (zl x (by simp))
theorem g6_:∀ {more l:List Ct},Rising l->NoZero l->NoZero more->Rising (sumC l more)∧NoZero (sumC l more)∧∀ o,tot o (sumC l more)=tot o l+tot o more
 |[],l,hl,zl,_=>⟨hl,zl,fun o=>by simp [sumC,tot]⟩
 |c::r,l,hl,zl,zm=>by
  obtain ⟨h1,h2,h3⟩:=g6_ (more:=r) (eS_ c hl) (eT_ (zm c (by simp)) zl) (fun x hx=>zm x (by simp [hx]))
  refine ⟨h1,h2,fun o=>?_⟩
  have:=h3 o
  rw [iS_] at this
  simp only [sumC,List.foldl_cons,tot] at this ⊢
  omega
/-- One round of l3Add: what is told so far, and whether the count is in it. -/
def addStep (c:Ct) (s:List Ct×Bool) (x:Ct):List Ct×Bool:=
 if s.2=true then (s.1++[x],true) else if owLt x.o c.o=true then (s.1++[x],false) else
 if owEq x.o c.o=true then (if x.n+c.n≠0 then (s.1++[⟨c.o,x.n+c.n⟩],true) else (s.1,true)) else (s.1++[c]++[x],true)
def addEnd (c:Ct) (s:List Ct×Bool):List Ct:=if s.2=true then s.1 else s.1++[c]
theorem dW_ (c:Ct):∀ (l out:List Ct),l.foldl (addStep c) (out,true)=(out++l,true)
 |[],out=>by simp
 |x::r,out=>by
  rw [List.foldl_cons,show addStep c (out,true) x=(out++[x],true) by simp [addStep],dW_ c r]
  simp
theorem iU_ (c:Ct):∀ (l out:List Ct),addEnd c (l.foldl (addStep c) (out,false))=out++addC l c
 |[],out=>by simp [addEnd,addC]
 |x::r,out=>by
  rw [List.foldl_cons]
  unfold addC
  by_cases h1:owLt x.o c.o=true
  ·rw [show addStep c (out,false) x=(out++[x],false) by simp [addStep,h1],iU_ c r,if_pos h1]
   simp
  ·by_cases h2:owEq x.o c.o=true
   ·by_cases h3:x.n+c.n≠0
    ·rw [show addStep c (out,false) x=(out++[⟨c.o,x.n+c.n⟩],true) by simp [addStep,h1,h2,h3],dW_,if_neg h1,if_pos h2,if_pos h3]
     simp [addEnd]
    ·rw [show addStep c (out,false) x=(out,true) by simp [addStep,h1,h2,h3],dW_,if_neg h1,if_pos h2,if_neg h3]
     simp [addEnd]
   ·rw [show addStep c (out,false) x=(out++[c]++[x],true) by simp [addStep,h1,h2],dW_,if_neg h1,if_neg h2]
    simp [addEnd]
theorem a7_ (p:Ct):p.cs.length=4:=rfl
theorem bf_ (l:List Ct):∀ u∈l.flatMap Ct.cs,u.oneCell'=true:=by
 intro u hu
 obtain ⟨p,_,hp⟩:=List.mem_flatMap.1 hu
 simp [Ct.cs] at hp
 rcases hp with rfl | rfl | rfl | rfl<;>rfl
theorem dk_ {w:World} {b:Nat} {p:Ct} (h0:w.cell? ⟨b,0,none⟩=some (.int .i64 p.o.a)) (h1:w.cell? ⟨b,1,none⟩=some (.int .i64 p.o.v)) (h2:w.cell? ⟨b,2,none⟩=some (.string p.o.f)) (h3:w.cell? ⟨b,3,none⟩=some (.int .i64 p.n)):CtsAt w (some ⟨b,0,none⟩) 1 [p]:=by
 refine ⟨rfl,fun i x hx=>⟨b,0,rfl,fun j v hv=>?_⟩⟩
 have hi:i=0:=by have:=(List.getElem?_eq_some_iff.1 hx).1;simp at this;exact this
 subst hi
 simp at hx
 subst hx
 match j,hv with
 |0,hv=>obtain rfl:=Option.some.inj hv;exact h0
 |1,hv=>obtain rfl:=Option.some.inj hv;exact h1
 |2,hv=>obtain rfl:=Option.some.inj hv;exact h2
 |3,hv=>obtain rfl:=Option.some.inj hv;exact h3
 |j+4,hv=>simp [Ct.cs] at hv
theorem bR_ (w:World) (p:Ct) (t:TypeId) (b:Nat) (hb:b=w.heap.size):CtsAt (w.alloc (.cells #[.int .i64 p.o.a,.int .i64 p.o.v,.string p.o.f,.int .i64 p.n] t)) (some ⟨b,0,none⟩) 1 [p]:=by
 subst hb;exact dk_ (by simp) (by simp) (by simp) (by simp)
theorem infoC:(Tryz.prog.info? 134).map (fun i=>(i.zero,i.size,i.bytes))=some (some (.agg #[.int .i64 0,.int .i64 0,.string .empty,.int .i64 0]),4,40):=by kernel_rfl
end Go.Proofs.YtigldeccfpkdmaaGreatDoor
