/- What only one volume has: of the program. -/
import Derived.Laws.EntriesVeiled
import Derived.Test.YtdmeabghpchckaaGreatDoorKp
set_option maxHeartbeats 20000000
set_option maxRecDepth 100000
namespace Go.Proofs.YtdmeabghpchckaaGreatDoor
section
open Go.RowKit Go.BigFrame _root_.Go.Proofs.Tryz
def mineB (id a:Int)(W:List Ct):Bool:=W.any (fun c=>c.o.a==a&&c.o.v==id)&&!(W.any (fun c=>c.o.a==a&&!(c.o.v==id)))
def onlyS (id:Int)(W:List Ct):List Ex->Int
 |[]=>0
 |x::r=>(if mineB id x.a W=true then (x.d.size:Int) else 0)+onlyS id W r
def dataS (ex:List Ex)(a:Int):Int:=match ex.find? (fun x=>x.a==a) with | none=>0 | some x=>x.d.size
def onlyW (id:Int)(ex:List Ex):Nat->List Ct->Int
 |0,_=>0
 |_,[]=>0
 |f+1,c::r=>(if (c::r.takeWhile (fun d=>d.o.a==c.o.a)).any (fun d=>!(d.o.v==id))=true then 0 else dataS ex c.o.a)+onlyW id ex f (r.dropWhile (fun d=>d.o.a==c.o.a))
def AddrUp (l:List Ct):Prop:=l.Pairwise (fun x y=>x.o.a<=y.o.a)
theorem rising_up {l:List Ct}(h:Br l):AddrUp l:=(show l.Pairwise (fun x y=>Bc x.o y.o=true) from h).imp (fun {x y} hxy=>by
 unfold Bc at hxy
 split at hxy
 ·have:=of_decide_eq_true hxy;omega
 ·rename_i h0
  have:x.o.a=y.o.a:=Classical.byContradiction h0
  omega)
theorem mineB_nil (id a:Int):mineB id a []=false:=rfl
theorem onlyS_nil (id:Int):∀ ex:List Ex,onlyS id [] ex=0
 |[]=>rfl
 |x::r=>by simp[onlyS,mineB_nil,onlyS_nil id r]
theorem onlyS_same {id a0:Int}{W R:List Ct}(h1:∀ a,a≠a0->mineB id a W=mineB id a R):∀ {E:List Ex},(∀ x∈E,x.a≠a0)->onlyS id W E=onlyS id R E
 |[],_=>rfl
 |x::r,h=>by
  simp only[onlyS]
  rw[h1 x.a (h x (by simp)),onlyS_same h1 (fun y hy=>h y (by simp[hy]))]
theorem onlyS_split {id a0:Int}{W R:List Ct}{o:Bool}(h1:∀ a,a≠a0->mineB id a W=mineB id a R)(h2:mineB id a0 W=!o)(h3:mineB id a0 R=false):∀ {E:List Ex},(E.map (·.a)).Nodup->onlyS id W E=(if o=true then 0 else dataS E a0)+onlyS id R E
 |[],_=>by cases o<;>rfl
 |x::r,hn=>by
  rw[YD,List.nodup_cons] at hn
  obtain⟨n1,n2⟩:=hn
  by_cases e:x.a=a0
  ·have hr:∀ y∈r,y.a≠a0:=fun y hy e2=>n1 (by rw[e,<-e2];exact ZT.2 ⟨y,hy,rfl⟩)
   have hd:dataS (x::r) a0=x.d.size:=by simp[dataS,e]
   simp only[onlyS]
   rw[e,h2,h3,onlyS_same h1 hr,hd]
   cases o<;>simp
  ·have hd:dataS (x::r) a0=dataS r a0:=by simp[dataS,e]
   simp only[onlyS]
   rw[h1 x.a e,hd,onlyS_split h1 h2 h3 n2]
   omega
theorem up_rest {c:Ct}:∀ {r:List Ct},AddrUp (c::r)->∀ d∈r.dropWhile (fun d=>d.o.a==c.o.a),d.o.a≠c.o.a
 |[],_,d,hd=>by simp at hd
 |x::r,h,d,hd=>by
  have hx:=Ye.1 h
  have hr:=Ye.1 hx.2
  rw[List.dropWhile_cons] at hd
  split at hd
  ·exact up_rest (Ye.2 ⟨fun y hy=>hx.1 y (by simp[hy]),hr.2⟩) d hd
  ·rename_i hne
   have h1:x.o.a≠c.o.a:=by simpa using hne
   have h2:=hx.1 x (by simp)
   rcases Zn.1 hd with rfl | hd
   ·exact h1
   ·have:=hr.1 d hd
    omega
theorem mem_group {a:Int}:∀ {r:List Ct} {d:Ct},d∈r.takeWhile (fun d=>d.o.a==a)->d.o.a=a
 |[],_,h=>by simp at h
 |x::r,d,h=>by
  rw[List.takeWhile_cons] at h
  split at h
  ·rename_i hx
   rcases Zn.1 h with rfl | h
   ·simpa using hx
   ·exact mem_group h
  ·simp at h
theorem only_eq (id:Int)(ex:List Ex)(hn:(ex.map (·.a)).Nodup):∀ (f:Nat) (W:List Ct),W.length<=f->AddrUp W->onlyW id ex f W=onlyS id W ex
 |0,W,h,_=>by
  obtain rfl:W=[]:=Zt (by omega)
  rw[onlyS_nil];rfl
 |f+1,[],_,_=>by rw[onlyS_nil];rfl
 |f+1,c::r,h,hup=>by
  have hb:=List.dropWhile_sublist (l:=r) (fun d:Ct=>d.o.a==c.o.a)
  have hf:=hb.length_le
  simp only[Zw] at h
  have ih:=only_eq id ex hn f (r.dropWhile (fun d=>d.o.a==c.o.a)) (by omega) ((Ye.1 hup).2.sublist hb)
  have he:=up_rest hup
  have hg:∀ d∈c::r.takeWhile (fun d=>d.o.a==c.o.a),d.o.a=c.o.a:=fun d hd=>by
   rcases Zn.1 hd with rfl | hd
   ·rfl
   ·exact mem_group hd
  have hW:c::r=(c::r.takeWhile (fun d=>d.o.a==c.o.a))++r.dropWhile (fun d=>d.o.a==c.o.a):=by
   rw[YF,List.takeWhile_append_dropWhile]
  unfold onlyW
  rw[ih]
  generalize hGG:c::r.takeWhile (fun d=>d.o.a==c.o.a)=G at *
  generalize r.dropWhile (fun d=>d.o.a==c.o.a)=D at *
  have hc:c∈G:=by rw[<-hGG];simp
  rw[hW]
  symm
  refine onlyS_split (a0:=c.o.a) (fun a ha=>?_) ?_ ?_ hn
  ·unfold mineB
   have e1:∀ q:Ct->Bool,G.any (fun d=>d.o.a==a&&q d)=false:=fun q=>by
    rw[List.any_eq_false]
    intro d hd
    have:=hg d hd
    simp
    omega
   rw[List.any_append,List.any_append,e1,e1,Bool.false_or,Bool.false_or]
  ·unfold mineB
   have e1:∀ q:Ct->Bool,D.any (fun d=>d.o.a==c.o.a&&q d)=false:=fun q=>by
    rw[List.any_eq_false]
    intro d hd
    have:=he d hd
    simp[this]
   have e2:∀ q:Ct->Bool,G.any (fun d=>d.o.a==c.o.a&&q d)=G.any q:=fun q=>by
    rw[YH,ZN,ZN]
    constructor
    ·rintro⟨d,hd,h⟩;simp at h;exact⟨d,hd,h.2⟩
    ·rintro⟨d,hd,h⟩;exact⟨d,hd,by simp[hg d hd,h]⟩
   rw[List.any_append,List.any_append,e1,e1,Bool.or_false,Bool.or_false,e2,e2]
   cases ho:G.any (fun d=>!(d.o.v==id))
   ·rw[List.any_eq_false] at ho
    have h1:=ho c hc
    have h2:G.any (fun d=>d.o.v==id)=true:=ZN.2 ⟨c,hc,by simpa using h1⟩
    rw[h2];rfl
   ·simp
  ·unfold mineB
   have e1:∀ q:Ct->Bool,D.any (fun d=>d.o.a==c.o.a&&q d)=false:=fun q=>by
    rw[List.any_eq_false]
    intro d hd
    have:=he d hd
    simp[this]
   rw[e1];rfl
def onlyO (p:Po)(vol:ByteArray):Int×Bool:=if Ai p=true then (match (volI p.vs vol).bind fun i=>p.vs[i]? with | none=>(0,false) | some v=>(onlyS v.id (AA p.vs) p.ex,true)) else (0,false)
theorem space_sizes {size:Int}{l:List Ex}(h:Ao size l=true):l.length<=60∧∀ x∈l,x.d.size<=20:=by
 simp only[Ao,Zf,ZU] at h
 refine ⟨h.1.2,?_⟩
 have go:∀ {l:List Ex} {next:Int},xgo size next l=true->∀ x∈l,x.d.size<=20:=by
  intro l
  induction l with
  |nil=>intro _ _ x hx;simp at hx
  |cons e r ih=>
   intro next h x hx
   simp only[xgo,Zf] at h
   rcases Zn.1 hx with rfl | hx
   ·have:=h.1.1.1
    simp only[As,Zf,ZU] at this
    omega
   ·exact ih h.2 x hx
 exact go h.2
theorem dataS_eq (a:Int):∀ ex:List Ex,dataS ex a=((AK a ex).size:Int)
 |[]=>rfl
 |x::r=>by
  have ih:=dataS_eq a r
  unfold dataS at ih ⊢
  unfold AK
  by_cases h:x.a=a
  ·simp[h]
  ·simp only[List.find?_cons,ZV.2 h,Zj,if_false]
   exact ih
theorem drop_cts {w:World}{b o n m:Nat}{l:List Ct}(h:A4 w (some ⟨b,o,none⟩) n l):A4 w (some ⟨b,o+m*4,none⟩) (n-m) (l.drop m):=by
 refine ⟨by rw[List.length_drop,h.len],fun i x hx=>⟨b,o+m*4,rfl,fun j v hv=>?_⟩⟩
 rw[List.getElem?_drop] at hx
 obtain⟨b',o',ha,hc⟩:=h.cell (m+i) x hx
 obtain⟨rfl,rfl⟩:b=b'∧o=o':=by simpa using ha
 have:=hc j v hv
 rw[show o+m*4+i*4+j=o+(m+i)*4+j by omega]
 exact this
theorem onlyW_bd (id:Int)(ex:List Ex)(hs:∀ x∈ex,x.d.size<=20):∀ (f:Nat) (W:List Ct),0<=onlyW id ex f W∧onlyW id ex f W<=20*f
 |0,_=>by simp[onlyW]
 |f+1,[]=>by simp[onlyW];omega
 |f+1,c::r=>by
  have ih:=onlyW_bd id ex hs f (r.dropWhile (fun d=>d.o.a==c.o.a))
  have hd:0<=dataS ex c.o.a∧dataS ex c.o.a<=20:=by
   unfold dataS
   split
   ·omega
   ·rename_i x hx
    have:=hs x (List.mem_of_find?_eq_some hx)
    omega
  unfold onlyW
  split<;>omega
theorem only1 (pbx vbx kbx:Nat)(ea:Option Addr)(en ec:Nat)(ex:List Ex)(b o:Nat)(id:Int)(hen:en<=4194304)(hs:∀ x∈ex,x.d.size<=20):∀ (f:Nat) (W:List Ct) (a:Option Addr) (n cap:Nat) (w:World),W.length<=f->f<=1000->A4 w a n W->n<=cap->cap<=9223372036854775807->
  Hy w pbx vbx kbx (.func (.func 41) #[] #[.pointer (some ⟨pbx,0,none⟩),.pointer (some ⟨vbx,0,none⟩),.pointer (some ⟨kbx,0,none⟩)]) ea en ec ex b o id->
  Calls prog 41 #[.slice a n cap,.pointer (some ⟨pbx,0,none⟩),.pointer (some ⟨vbx,0,none⟩),.pointer (some ⟨kbx,0,none⟩)] w fun e w'=>e=.returned (.int .i64 (onlyW id ex f W))∧Below w.heap.size w w':=by
 intro f
 induction f with
 |zero=>
  intro W a n cap w hW _ h _ _ _
  obtain rfl:W=[]:=Zt (by omega)
  obtain rfl:n=0:=h.len.symm
  go_enter func41,ntmps41
  go_wp2
  go_returns
  exact⟨rfl,Yg _ _⟩
 |succ f ih=>
  intro W a n cap w hW hf h h0 hN hE
  match W with
  |[]=>
   obtain rfl:n=0:=h.len.symm
   go_enter func41,ntmps41
   go_wp2
   go_returns
   exact⟨rfl,Yg _ _⟩
  |c::r=>
   have hy:Hid ((c::r).length=n):=h.len
   have hQ:0<n:=by rw[<-h.len];simp
   have hT:((n:Int)==0)=false:=by simp;omega
   obtain⟨b1,o1,c',rfl,hF,t0,_,_,_⟩:=aN_ h hQ
   obtain rfl:c=c':=by simpa using hF
   clear hF
   replace t0:w.cell? ⟨b1,o1,none⟩=some (.int .i64 c.o.a):=by simpa using t0
   have hR:Hid (onlyW id ex (f+1) (c::r)=(if (c::r.takeWhile (fun d=>d.o.a==c.o.a)).any (fun d=>!(d.o.v==id))=true then 0 else dataS ex c.o.a)+onlyW id ex f (r.dropWhile (fun d=>d.o.a==c.o.a))):=rfl
   have hr:(c::r.takeWhile (fun d=>d.o.a==c.o.a))++r.dropWhile (fun d=>d.o.a==c.o.a)=c::r:=by rw[YF,List.takeWhile_append_dropWhile]
   have hU:=onlyW_bd id ex hs f (r.dropWhile (fun d=>d.o.a==c.o.a))
   have hL:∀ d,(r.dropWhile (fun d=>d.o.a==c.o.a))[0]?=some d->d.o.a≠c.o.a:=fun d hd=>by
    have:=List.head?_dropWhile_not (fun d:Ct=>d.o.a==c.o.a) r
    rw[<-List.head?_eq_getElem?] at hd
    rw[hd] at this
    simpa using this
   have hO:∀ d∈c::r.takeWhile (fun d=>d.o.a==c.o.a),d.o.a=c.o.a:=fun d hd=>by
    rcases Zn.1 hd with rfl | hd
    ·rfl
    ·exact mem_group hd
   have hK:(r.dropWhile (fun d=>d.o.a==c.o.a)).length<=f:=by
    have:=(List.dropWhile_sublist (l:=r) (fun d:Ct=>d.o.a==c.o.a)).length_le
    simp only[Zw] at hW
    omega
   generalize c::r.takeWhile (fun d=>d.o.a==c.o.a)=G at *
   generalize r.dropWhile (fun d=>d.o.a==c.o.a)=D at *
   generalize onlyW id ex (f+1) (c::r)=R at *
   have hG:=dataS_eq c.o.a ex
   have hV:(AK c.o.a ex).size<=20:=by
    have:0<=dataS ex c.o.a∧dataS ex c.o.a<=20:=by
     unfold dataS
     split
     ·omega
     ·rename_i x hx
      have:=hs x (List.mem_of_find?_eq_some hx)
      omega
    omega
   obtain⟨e1,e2,e3,e4,e5⟩:=hE
   go_enter func41,ntmps41
   go_wp2_with fail
   refine (jS_ ea en ec ex c.o.a _ e2 hen).mono ?_
   rintro e w1 ⟨rfl,hm⟩
   have hM:Hy w1 pbx vbx kbx (.func (.func 41) #[] #[.pointer (some ⟨pbx,0,none⟩),.pointer (some ⟨vbx,0,none⟩),.pointer (some ⟨kbx,0,none⟩)]) ea en ec ex b o id:=Hy.below ⟨e1,e2,e3,e4,e5⟩ hm
   have h1:=h.below hm
   have hZ:G.length<=n:=by rw[<-hy.out,<-hr];simp
   clear e1 e2 e3 e4 e5 t0
   rw[hG] at hR
   clear hG
   generalize AK c.o.a ex=dd at *
   go_wp2_with fail
   go_loopw [7,8] (fun sx nx wr=>∃ (k:Nat) (sz:Int),k<=G.length∧nx=.int .i64 k∧sx=.int .i64 sz∧Hid (sz=if (G.take k).any (fun d=>!(d.o.v==id))=true then 0 else (dd.size:Int))∧Below w1.heap.size w1 wr) (fun _ nx _=>G.length-(intOf nx).toNat)
   case atStart=>exact⟨0,_,Zg _,rfl,rfl,rfl,Yg _ _⟩
   case round=>
    obtain⟨k,sz,hk,rfl,rfl,hh,hB⟩:=hrel
    have hn:=hM.below hB
    have h2:=h1.below hB
    by_cases hlt:k<G.length
    ·have hw:G[k]?=some G[k]:=by simp[hlt]
     have hD:(c::r)[k]?=some G[k]:=by rw[<-hr,ZD hlt];exact hw
     obtain⟨b2,o2,d,ht,hd,t0,t1,_,_⟩:=aN_ h2 (show k<n by omega)
     obtain⟨rfl,rfl⟩:b1=b2∧o1=o2:=by simpa using ht
     obtain rfl:G[k]=d:=by rw[hD] at hd;exact Zi hd
     have hH:=hO G[k] (List.getElem_mem _)
     have hj:(G.take (k+1)).any (fun d=>!(d.o.v==id))=((G.take k).any (fun d=>!(d.o.v==id))||!(G[k].o.v==id)):=by rw[bx_ hw,List.any_append];simp
     have hX:(G[k].o.a==c.o.a)=true:=by simp[hH]
     have hI:(k:Int)<n:=by omega
     have hY:(0:Int)<=k:=by omega
     obtain⟨e1,e2,e3,e4,e5⟩:=hn
     clear hw hD hd hH
     generalize G[k]=d at *
     generalize (G.take k).any (fun d=>!(d.o.v==id))=oo at *
     have hc:(d.o.v != id)=!(d.o.v==id):=rfl
     cases hv:(d.o.v==id)
     all_goals rw[hv] at hc hj
     ·have hg:Hid ((G.take (k+1)).any (fun d=>!(d.o.v==id))=true):=by show _=_;rw[hj];simp
      simp only[Bool.not_false] at hc
      clear hj
      go_wp2_with fail
      go_quiet (fail)
      have hq:=below_drewN hB nq
      go_wp2
      go_roundw
      case rel=>exact⟨k+1,0,by omega,by go_num,rfl,by show _=_;rw[hg.out];rfl,hq⟩
      case measure=>simp[intOf];omega
     ·have hg:Hid ((G.take (k+1)).any (fun d=>!(d.o.v==id))=oo):=by show _=_;rw[hj];simp
      simp only[Bool.not_true] at hc
      clear hj
      go_wp2_with fail
      go_quiet (fail)
      have hq:=below_drewN hB nq
      go_wp2
      go_roundw
      case rel=>exact⟨k+1,sz,by omega,by go_num,rfl,by show _=_;rw[hg.out];exact hh.out,hq⟩
      case measure=>simp[intOf];omega
    ·obtain rfl:k=G.length:=by omega
     have hb:(c::r).drop G.length=D:=by rw[<-hr];simp
     rw[List.take_length] at hh
     have hC:Hid (R=sz+onlyW id ex f D):=by show _=_;rw[hR.out,hh.out]
     have hz:0<=sz∧sz<=20:=by rw[hh.out];split<;>omega
     obtain⟨h5,h6⟩:=hz
     clear hh hR
     have h3:=drop_cts (m:=G.length) h2
     rw[hb] at h3
     have ha:=fun (u:World) (hu:Below wr.heap.size wr u) (cap':Nat) (hc1:n-G.length<=cap') (hc2:cap'<=9223372036854775807)=>ih D (some ⟨b1,o1+G.length*4,none⟩) (n-G.length) cap' u hK (by omega) (h3.below hu) hc1 hc2 (hn.below hu)
     have g5:=Ae hn.k
     by_cases hmn':G.length<n
     ·obtain⟨b2,o2,d,ht,hd,t0,_,_,_⟩:=aN_ h2 hmn'
      obtain⟨rfl,rfl⟩:b1=b2∧o1=o2:=by simpa using ht
      have hA:D[0]?=some d:=by rw[<-hb,List.getElem?_drop];exact hd
      have ho:=hL d hA
      have hS:(d.o.a==c.o.a)=false:=by simp[ho]
      have hI:(G.length:Int)<n:=by omega
      clear hd hA ho
      go_wp2_with fail
      refine ab_ (by kernel_rfl) (by kernel_rfl) ?_
      have ho:=aA_ wr
      repeat (go_big_quiet_step (first | (go_at_call 41;exact an_ (ha _ (Grw.h _) _ (by omega) (by omega)))))
      refine wpQuiet_nil ?_
      intro w2 hl
      have hp:=Aa hB (ah_ hl)
      clear hl
      go_wp2
      go_returns
      exact⟨by rw[hC.out];rfl,Aa hm hp⟩
     ·have h4:G.length=n:=by omega
      have hJ:D=[]:=Zt (by rw[h3.len];omega)
      subst hJ
      have he:=fun (u:World) (hu:Below wr.heap.size wr u) (a':Option Addr) (n' cap':Nat) (hn':n'=0) (hc2:cap'<=9223372036854775807)=>ih [] a' n' cap' u (Zg _) (by omega) (⟨hn'.symm,fun i x hx=>by simp at hx⟩:A4 u a' n' []) (by omega) hc2 (hn.below hu)
      have hP:¬ ((G.length:Int)<n):=by omega
      have hI:decide ((G.length:Int)<n)=false:=YV hP
      clear ha
      go_wp2_with fail
      refine ab_ (by kernel_rfl) (by kernel_rfl) ?_
      have ho:=aA_ wr
      repeat (go_big_quiet_step (first | (go_at_call 41;exact an_ (he _ (Grw.h _) _ _ _ (by omega) (by omega)))))
      refine wpQuiet_nil ?_
      intro w2 hl
      have hp:=Aa hB (ah_ hl)
      clear hl
      all_goals go_wp2
      all_goals go_returns
      all_goals exact⟨by rw[hC.out];rfl,Aa hm hp⟩
theorem walk_up (l:List Vo):AddrUp (AA l):=rising_up (eL_ (l:=[]) YT (fun c hc=>by simp at hc) (hO_ l)).1
theorem res_cap {α:Type}{cs:α->List Value}{sz:Nat}{t:TypeId}{w:World}{B:Nat}{a:Option Addr}{n cap:Nat}{l:List α}(h:Ad cs sz t w B a n cap l):n<=cap∧cap<=9223372036854775807:=by
 rcases h.own with⟨_,rfl,rfl⟩ | ⟨b,_,_,h1,h2,_⟩
 ·omega
 ·exact⟨h1,by unfold maxLen at h2;omega⟩
theorem impl_OnlyOf (B:Nat)(_hB0:0<B)(v:Value)(p:Po)(vol:ByteArray)(w:World)(h:AF B w v p)(hd:AB p)(hvol:vol.size<=1048576) :
  Calls prog 17 #[v,.string vol] w fun e w'=>e=.returned (.tuple #[.int .i64 (onlyO p vol).1,.bool (onlyO p vol).2])∧Below w.heap.size w w':=by
 obtain⟨ea,en,ec,va,vn,vc,ra,rn,rc,la,ln,lc,rfl,ha⟩:=h
 have h:AF B w (.agg #[.int .i64 p.size,.int .i64 p.next,.slice ea en ec,.slice va vn vc,.slice ra rn rc,.slice la ln lc]) p:=⟨ea,en,ec,va,vn,vc,ra,rn,rc,la,ln,lc,rfl,ha⟩
 have h1:=ha.1.1
 have z1:=hd.1
 rw[h1.len] at z1
 clear ha
 have C:=(Blk.new w #[.int .i64 p.size,.int .i64 p.next,.slice ea en ec,.slice va vn vc,.slice ra rn rc,.slice la ln lc] 28)
 have hh:Below w.heap.size w (w.alloc (.cells #[.int .i64 p.size,.int .i64 p.next,.slice ea en ec,.slice va vn vc,.slice ra rn rc,.slice la ln lc] 28)):=by go_grown
 have hR:Hid (onlyO p vol=if Ai p=true then (match (volI p.vs vol).bind fun i=>p.vs[i]? with | none=>(0,false) | some v=>(onlyS v.id (AA p.vs) p.ex,true)) else (0,false)):=rfl
 generalize onlyO p vol=R at *
 go_enter func17,ntmps17
 go_wp2_with fail
 generalize w.alloc (.cells #[.int .i64 p.size,.int .i64 p.next,.slice ea en ec,.slice va vn vc,.slice ra rn rc,.slice la ln lc] 28)=W0 at *
 refine (Cl B _ p vol _ (h.below hh) hd hvol).mono ?_
 rintro e w1 ⟨hk,hb⟩
 have C1:=C.below hb
 replace hb:=Aa hh hb
 clear C hh
 rcases hk with⟨rfl,hc⟩ | ⟨i,x,b,o,rfl,he,hp,hx,hV⟩
 ·have hr:Hid (R=(0,false)):=by
   show _=_
   rw[hR.out]
   rcases hc with hc | hc
   ·rw[hc];rfl
   ·split
    ·rw[hc];rfl
    ·rfl
  clear hc hR
  go_wp2
  go_returns
  exact⟨by rw[hr.out];rfl,hb.alloc hb.size _⟩
 ·have hs:Hid (R=(onlyS x.id (AA p.vs) p.ex,true)):=by
   show _=_
   rw[hR.out,if_pos he,hp,YO,hx]
  obtain⟨q1,q2,q3,q4,q5⟩:=bL_ he
  obtain⟨s1,s2⟩:=space_sizes q4
  have ho:Cg p=AA p.vs:=by simp[Cg,he]
  have hnd:=kH_ q4
  clear hR he hp hx
  have C2:Blk ((w1.alloc (.cells #[.pointer (some ⟨b,o,none⟩)] 89)).alloc (.cells #[.func (.func 41) #[] #[.pointer (some ⟨w.heap.size,0,none⟩),.pointer (some ⟨w1.heap.size,0,none⟩),.pointer (some ⟨w1.heap.size+1,0,none⟩)]] 91)) w.heap.size #[.int .i64 p.size,.int .i64 p.next,.slice ea en ec,.slice va vn vc,.slice ra rn rc,.slice la ln lc] 28:=(C1.alloc _).alloc _
  have V2:Blk ((w1.alloc (.cells #[.pointer (some ⟨b,o,none⟩)] 89)).alloc (.cells #[.func (.func 41) #[] #[.pointer (some ⟨w.heap.size,0,none⟩),.pointer (some ⟨w1.heap.size,0,none⟩),.pointer (some ⟨w1.heap.size+1,0,none⟩)]] 91)) w1.heap.size #[.pointer (some ⟨b,o,none⟩)] 89:=(Blk.new w1 _ _).alloc _
  have K2:Blk ((w1.alloc (.cells #[.pointer (some ⟨b,o,none⟩)] 89)).alloc (.cells #[.func (.func 41) #[] #[.pointer (some ⟨w.heap.size,0,none⟩),.pointer (some ⟨w1.heap.size,0,none⟩),.pointer (some ⟨w1.heap.size+1,0,none⟩)]] 91)) (w1.heap.size+1) #[.func (.func 41) #[] #[.pointer (some ⟨w.heap.size,0,none⟩),.pointer (some ⟨w1.heap.size,0,none⟩),.pointer (some ⟨w1.heap.size+1,0,none⟩)]] 91:=Blk.new' _ _ _ _ (by simp)
  have hm:Below w1.heap.size w1 ((w1.alloc (.cells #[.pointer (some ⟨b,o,none⟩)] 89)).alloc (.cells #[.func (.func 41) #[] #[.pointer (some ⟨w.heap.size,0,none⟩),.pointer (some ⟨w1.heap.size,0,none⟩),.pointer (some ⟨w1.heap.size+1,0,none⟩)]] 91)):=by go_grown
  go_wp2_with fail
  generalize (w1.alloc (.cells #[.pointer (some ⟨b,o,none⟩)] 89)).alloc (.cells #[.func (.func 41) #[] #[.pointer (some ⟨w.heap.size,0,none⟩),.pointer (some ⟨w1.heap.size,0,none⟩),.pointer (some ⟨w1.heap.size+1,0,none⟩)]] 91)=U at *
  have hn:Below w1.heap.size w1 U.drew:=hm.drew
  have hf:Below w.heap.size w U.drew:=Aa hb hn
  obtain⟨d0,d1,d2,d3,d4,d5⟩:=C2.drew.six
  have k0:U.drew.cell? ⟨w1.heap.size+1,0,none⟩=some (.func (.func 41) #[] #[.pointer (some ⟨w.heap.size,0,none⟩),.pointer (some ⟨w1.heap.size,0,none⟩),.pointer (some ⟨w1.heap.size+1,0,none⟩)]):=K2.cell 0
  have v0:U.drew.cell? ⟨w1.heap.size,0,none⟩=some (.pointer (some ⟨b,o,none⟩)):=V2.cell 0
  have hE:Hy U.drew w.heap.size w1.heap.size (w1.heap.size+1) (.func (.func 41) #[] #[.pointer (some ⟨w.heap.size,0,none⟩),.pointer (some ⟨w1.heap.size,0,none⟩),.pointer (some ⟨w1.heap.size+1,0,none⟩)]) ea en ec p.ex b o x.id:=⟨d2,h1.below hf,v0,Ab hn hV.id,k0⟩
  have hw:=fun (n3:Nat) (hl:(AA p.vs).length=n3) (hj:n3<=480)=>only_eq x.id p.ex hnd 480 (AA p.vs) (by omega) (walk_up p.vs)
  have hu:Hid (Cg p=AA p.vs):=ho
  have ht:=s2
  clear ho C1 C2 V2 K2 hm hV q1 q2 q3 q4 q5 s1 s2 hnd
  go_region_with (first
   |(go_at_call 41;refine (only1 w.heap.size w1.heap.size (w1.heap.size+1) ea en ec p.ex b o x.id z1 ht 480 (AA p.vs) a3 n3 cap3 _ hv (by omega) R3.sl (res_cap R3).1 (res_cap R3).2 (hE.below hg)).mono ?_;rintro e w4 ⟨rfl,hq⟩)
   |(go_at_call 11;refine (kY_ B _ p _ (h.below hf) hd).mono ?_;rintro e w3 ⟨⟨a3,n3,cap3,rfl,hj,R3⟩,hg⟩;rw[hu.out] at R3;have hv:(AA p.vs).length<=480:=(by rw[R3.sl.len];exact hj);have kk:=Ab hg k0))
  all_goals go_wp2
  all_goals go_returns
  all_goals exact⟨by rw[hs.out,<-hw n3 R3.sl.len hj];rfl,Aa (Aa hf hg) hq⟩
end
end Go.Proofs.YtdmeabghpchckaaGreatDoor
