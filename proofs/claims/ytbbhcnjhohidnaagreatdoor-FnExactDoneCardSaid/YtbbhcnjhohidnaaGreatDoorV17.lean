/- Plain facts for PoolOk of the program: sets of addresses; volumes by their names. -/
import Derived.Test.YtbbhcnjhohidnaaGreatDoorV16
set_option maxHeartbeats 20000000
set_option maxRecDepth 100000
namespace Go.Proofs.YtbbhcnjhohidnaaGreatDoor
section
open Go Go.RowKit Go.BigFrame Tryz
open Go.ChangeMaps Go.MapKept Go.WideElems
open Go.Maps (Keyed)
variable{x:Int}{L:List Ct}{b n:Nat}{v:Value}{w:World}
theorem AdAt.bump (h:AdAt w b n L)(hn:n<maxLen)(hL:L.length<=1000000){c:Ct}(ha:(Lit.int .i64 c.o.a).wf=true):
  ∃ w3:World,(Instr.mapUpdate 240 (.map (some b)) (.int .i64 c.o.a) (.int .i64 (cntZ c.o.a L+1))).run prog w=.ok () w3∧AdAt w3 b (n+1) (L++[c])∧w.grownBy w3 (some b):=by
 obtain⟨D,hb,hv,hh⟩:=h;have hc:=fY_ c.o.a L;obtain⟨w3,g1,g2,g3⟩:=hb.update keyed2 underlying240 hn (key2 ha) (plainElem_int underlying2 (show (Lit.int .i64 (cntZ c.o.a L+1)).wf=true from WalkArith.wf_i64 (by omega)));refine⟨w3,g1,⟨_,g2,fun x hx=>?_,fun x=>?_⟩,g3⟩
 ·rw[nx_];by_cases e:c.o.a=x
  ·subst e;rw[Maps.atKey_put_same hb.isMap (keyed2.key (key2 ha)),if_pos rfl]
  ·rw[Maps.atKey_put_other (fun e2=>e (by injection e2 with _ e2;exact e2.symm)),hv x hx,if_neg e,Int.add_zero]
 ·rw[List.any_append];by_cases e:c.o.a=x
  ·subst e;rw[Maps.has_put_same hb.isMap (keyed2.key (key2 ha))];simp
  ·rw[Maps.has_put_other (fun e2=>e (by injection e2 with _ e2;exact e2.symm)),hh x];simp[e]
theorem AdAt.len (h:AdAt w b n L)(ty:TypeId):∃ K:List Lit,(Builtin.len_ #[240] ty #[.map (some b)]).run prog w=.ok (.int .i64 K.length) w∧K.length<=n∧K.Nodup∧(∀ k∈K,∃ c∈L,k=.int .i64 c.o.a)∧∀ c∈L,Lit.int .i64 c.o.a∈K:=by
 obtain⟨D,ha,hv,hh⟩:=h;have h1:=ha.len underlying240 ty;have h2:=ha.size_le;obtain⟨es,rfl,hp⟩:=ha.tidy keyed2;obtain⟨es',he,hk⟩:=ox_ ha;obtain rfl:es=es':=by injection he
 refine⟨es.map (·.1),by simpa[Maps.size] using h1,by simpa[Maps.size] using h2,?_,fun k hf=>?_,fun c hc=>?_⟩
 ·unfold List.Nodup;rw[List.pairwise_map];exact hp
 ·obtain⟨p,hb,rfl⟩:=ZT.1 hf;obtain⟨v,hg⟩:=hk p hb;obtain⟨x,_,e,_⟩:=Maps.keyOf_int_inv underlying2 hg;have h3:=hh x;rw[Maps.has_eq] at h3;have h4:es.any (fun q=>q.1.sameKey (.int .i64 x))=true:=ZN.2 ⟨p,hb,by rw[e,oy_];simp⟩;rw[h4] at h3;obtain⟨c,hc,e2⟩:=ZN.1 h3.symm;exact⟨c,hc,by rw[e];simp at e2;rw[e2]⟩
 ·have h3:=hh c.o.a;rw[show L.any (fun c'=>c'.o.a==c.o.a)=true from ZN.2 ⟨c,hc,by simp⟩,Maps.has_eq] at h3;obtain⟨p,hb,e⟩:=ZN.1 h3;exact ZT.2 ⟨p,hb,WideAt.sameKey_eq e⟩
def ptrElem (pb:Nat)(v:Value):Option (DataW Unit×List MemPlace):=
 match v with
 |.pointer (some ⟨b,o,none⟩)=>if b=pb then some (.lit (.int .i64 o),[]) else none
 |_=>none
theorem hM_ (pb o:Nat):ptrElem pb (.pointer (some ⟨pb,o,none⟩))=some (.lit (.int .i64 o),[]):=by simp[ptrElem]
theorem eu_ {pb:Nat}{y:DataW Unit×List MemPlace}(h:ptrElem pb v=some y):∃ o:Nat,v=.pointer (some ⟨pb,o,none⟩)∧y=(.lit (.int .i64 o),[]):=by
 unfold ptrElem at h;split at h
 ·split at h
  ·subst_vars
   exact⟨_,rfl,(Zi h).symm⟩
  ·cases h
 ·cases h
structure VMap (D:DataW Unit)(po:Nat)(l:List Vo):Prop where
 has:∀ s:List UInt8,Maps.has D (.string s)=l.any (fun v=>v.nm.data.toList==s)
 size:Maps.size D<=l.length
 full:Maps.size D=l.length↔(l.map (·.nm.toList)).Nodup
 val:(l.map (·.nm.toList)).Nodup->∀ i v,l[i]?=some v->∀ z,D.atKey (keyV v) z=.lit (.int .i64 ((po+i*4:Nat):Int))
theorem VMap.nil (po:Nat):VMap (.map []) po []:=⟨fun _=>rfl,Zd _,by simp[Maps.size],fun _ i v h=>by simp at h⟩
theorem VMap.put {D:DataW Unit}{po:Nat}{l:List Vo}(hT:Maps.Tidy D)(h:VMap D po l)(v:Vo):VMap (D.put (keyV v) (.lit (.int .i64 ((po+l.length*4:Nat):Int)))) po (l++[v]):=by
 have hk:WideAt.IsKeyLit (keyV v):=trivial
 have hc:Maps.has D (keyV v)=true↔v.nm.toList∈l.map (·.nm.toList):=by
  unfold keyV;rw[h.has,ZN,ZT];constructor
  ·rintro⟨u,hu,e⟩;exact⟨u,hu,by rw[Zu,Zu];simpa using e⟩
  ·rintro⟨u,hu,e⟩;rw[Zu,Zu] at e;exact⟨u,hu,by simpa using e⟩
 have hnd:((l++[v]).map (·.nm.toList)).Nodup↔(l.map (·.nm.toList)).Nodup∧¬ v.nm.toList∈l.map (·.nm.toList):=by
  rw[List.map_append,Yf];constructor
  ·rintro⟨h1,_,h3⟩;exact⟨h1,fun hm=>h3 _ hm _ (by simp) rfl⟩
  ·rintro⟨h1,h2⟩;exact⟨h1,by simp,fun a ha b hb e=>by simp at hb;subst hb;subst e;exact h2 ha⟩
 have hs:=h.size;refine⟨fun s=>?_,?_,?_,fun hn i u hu z=>?_⟩
 ·rw[List.any_append];by_cases e:v.nm.data.toList=s
  ·subst e;rw[show (Lit.string v.nm.data.toList)=keyV v from rfl,Maps.has_put_same hT.isMap hk];simp
  ·rw[Maps.has_put_other (fun e2=>e (by unfold keyV at e2;injection e2 with e2;exact e2.symm)),h.has];simp[e]
 ·rw[Maps.size_put hT,ZE];split<;>simp<;>omega
 ·rw[Maps.size_put hT,ZE,hnd,<-hc,<-h.full]
  cases hh:Maps.has D (keyV v)<;>simp<;>omega
 ·obtain⟨h1,h2⟩:=hnd.1 hn;by_cases hi:i<l.length
  ·rw[ZD hi] at hu
   have hf:keyV u≠keyV v:=fun e=>h2 (by
    unfold keyV at e;injection e with e;exact ZT.2 ⟨u,Zc hu,by rw[Zu,Zu,e]⟩)
   rw[Maps.atKey_put_other hf];exact h.val h1 i u hu z
  ·rw[Zv (by omega)] at hu
   have he:i=l.length:=by
    have:=(Zb.1 hu).1
    simp at this;omega
   subst he;simp at hu;subst hu;rw[Maps.atKey_put_same hT.isMap hk]
end
section
open Go Go.RowKit Go.BigFrame Tryz
open Go.Maps (Keyed)
theorem p2_ {w:World}{b n pb:Nat}{D:DataW Unit}(h:w.ownsMap prog 9 (ptrElem pb) b n D)(hn:n<maxLen){s:ByteArray}(hs:s.size<=maxLen)(o:Nat):
  ∃ w',(Instr.mapUpdate 122 (.map (some b)) (.string s) (.pointer (some ⟨pb,o,none⟩))).run prog w=.ok () w'∧w'.ownsMap prog 9 (ptrElem pb) b (n+1) (D.put (.string s.data.toList) (.lit (.int .i64 (o:Int))))∧w.grownBy w' (some b):=
 h.update keyed9 underlying122 hn (key9 hs) (hM_ pb o)
theorem bC_ (B:Nat)(size next:Int)(ea:Option Addr)(en ec:Nat)(va:Option Addr)(vn vc:Nat)(ra:Option Addr)(rn rc:Nat)(la:Option Addr)(ln lc:Nat)(vs:List Vo)(pb po:Nat)(hpb:0<vn->va=some ⟨pb,po,none⟩)(w:World)(h2:VsAt B w va vn vs)(z3:vn<=4194304)(z4:StrV vs):
  Calls prog 72 #[.agg #[.int .i64 size,.int .i64 next,.slice ea en ec,.slice va vn vc,.slice ra rn rc,.slice la ln lc]] w fun x w'=>(∃ b D,x=.returned (.map (some b))∧w.heap.size<=b∧w'.ownsMap prog 9 (ptrElem pb) b vn D∧VMap D po vs)∧Below w.heap.size w w':=by
 have ha:Hid (vs.length=vn):=h2.len;have hm:=@run_makeMap prog;go_enter func72,ntmps72;have C:=(Blk.new w #[.int .i64 size,.int .i64 next,.slice ea en ec,.slice va vn vc,.slice ra rn rc,.slice la ln lc] 35);have hc:Below w.heap.size w (w.alloc (.cells #[.int .i64 size,.int .i64 next,.slice ea en ec,.slice va vn vc,.slice ra rn rc,.slice la ln lc] 35)):=by go_grown
 have hb:(w.alloc (.cells #[.int .i64 size,.int .i64 next,.slice ea en ec,.slice va vn vc,.slice ra rn rc,.slice la ln lc] 35)).heap.size=w.heap.size+1:=by simp
 go_wp2_with fail
 generalize w.alloc (.cells #[.int .i64 size,.int .i64 next,.slice ea en ec,.slice va vn vc,.slice ra rn rc,.slice la ln lc] 35)=W0 at *;have hM:=World.ownsMap_made W0 prog 9 (ptrElem pb);have C1:=C.alloc (.map #[] 0);have hg:Below w.heap.size w (W0.alloc (.map #[] 0)):=hc.alloc (by omega) _;clear C hc;generalize W0.alloc (.map #[] 0)=W1 at *;have hz:W0.heap.size=w.heap.size+1:=hb;clear hb;rw[hz] at hM
 go_loopw [9] (fun ix wr=>∃ (k:Nat) (D:DataW Unit),k<=vn∧ix=.int .i64 k∧wr.ownsMap prog 9 (ptrElem pb) (w.heap.size+1) k D∧VMap D po (vs.take k)∧Blk wr w.heap.size #[.int .i64 size,.int .i64 next,.slice ea en ec,.slice va vn vc,.slice ra rn rc,.slice la ln lc] 35∧Below w.heap.size w wr) (fun ix _=>vn-(intOf ix).toNat)
 case atStart=>exact⟨0,_,Zg _,rfl,hM,VMap.nil po,C1,hg⟩
 case round=>
  clear hM C1 hg;obtain⟨k,D,hk,rfl,hO,hV,C,hB⟩:=hrel;have d3:wr.drew.cell? ⟨w.heap.size,3,none⟩=some (.slice va vn vc):=C.cell 3;by_cases hlt:k<vn
  ·obtain⟨b,o,x,qa,qn,qc,rfl,hx,e0,e1,e2,e3,hP,_,_⟩:=b5_ (h2.below hB) hlt;obtain⟨rfl,rfl⟩:b=pb∧o=po:=by have:=hpb (by omega);simpa using this
   have e1':wr.drew.cell? ⟨b,o+k*4+1,none⟩=some (.string x.nm):=e1;have ho:(k:Int)<vn:=by omega
   have hn:(0:Int)<=k:=by omega
   obtain⟨m1,_,_⟩:=z4 x (Zc hx);have hl:(vs.take k).length=k:=by rw[Zz,ha.out];omega
   obtain⟨w3,r3,O3,g3⟩:=p2_ (w:=wr.drew) hO (by unfold maxLen;omega) m1 (o+k*4);have he:=hV.put (hO.tidy keyed9) x;rw[hl,<-bx_ hx] at he;have hf:wr.grownBy w3 (some (w.heap.size+1)):=(⟨rfl,rfl,rfl,Zd _,fun _ _ _=>rfl⟩:wr.grownBy wr.drew (some (w.heap.size+1))).andThen g3 (fun j hj=>by cases hj;exact .inr rfl);have hh:Below w.heap.size w w3:=hB.grown hf hB.size (fun j hj=>by cases hj;omega);have C3:Blk w3 w.heap.size #[.int .i64 size,.int .i64 next,.slice ea en ec,.slice (some ⟨b,o,none⟩) vn vc,.slice ra rn rc,.slice la ln lc] 35:=(hf.block _ C.lt (by simp only[ne_eq,Zo];omega)).trans C;clear hx hpb
   go_wp2_with fail
   refine aE_ 11 (by kernel_rfl) (by kernel_rfl) ?_;simp only[ZP,List.take_zero,ZR,List.drop_zero]
   repeat still_step
   refine wpStill_nil ?_;go_wp2;go_roundw
   case rel=>exact⟨k+1,_,by omega,by go_num,O3,he,C3,hh⟩
   case measure=>simp[intOf];omega
  ·obtain rfl:k=vn:=by omega
   go_wp2;go_returns;rw[Zk (Zm ha.out)] at hV;exact⟨⟨w.heap.size+1,D,rfl,by omega,hO,hV⟩,hB⟩
end
section
open Go Go.RowKit Go.BigFrame
theorem fi_ (b m:Nat)(f:Ow->Int)(id:Int)(nm:ByteArray)(pa:Option Addr)(pn pc:Nat)(ps:List Pt)(w:World)(hT:TlAt w b m f)(h:PtsAt w pa pn ps)(hid:(Lit.int .i64 id).wf=true)(hnm:nm.size<=maxLen)(hps:∀ p∈ps,(Lit.int .i64 p.a).wf=true)(hn:pn<=1000000)(hm:m<=1000000)(hf:∀ o,-1000000000000<=f o∧f o<=1000000000000):
  Calls Tryz.prog 129 #[.map (some b),.int .i64 id,.agg #[.string nm,.slice pa pn pc]] w fun e w'=>e=.returned (.tuple #[])∧TlAt w' b (m+pn) (fun o=>f o+tot o (partCs id nm ps))∧w.grownBy w' (some b):=by
 have hc:Hid (ps.length=pn):=h.len;go_enter Tryz.func129,Tryz.ntmps129;have C:=(Blk.new w #[.string nm,.slice pa pn pc] 156);have hl:w.grownBy (w.alloc (.cells #[.string nm,.slice pa pn pc] 156)) (some b):=World.grownBy_alloc w _ (some b);have T0:TlAt (w.alloc (.cells #[.string nm,.slice pa pn pc] 156)) b m f:=hT.kept (World.grownBy_alloc w _ none) (by simp);have hu:=hT.lt
 go_wp2_with fail
 generalize w.alloc (.cells #[.string nm,.slice pa pn pc] 156)=W0 at *
 go_loopw [11] (fun ix wr=>∃ (k:Nat),k<=pn∧ix=.int .i64 k∧TlAt wr b (m+k) (fun o=>f o+tot o (partCs id nm (ps.take k)))∧Blk wr w.heap.size #[.string nm,.slice pa pn pc] 156∧w.grownBy wr (some b)) (fun ix _=>pn-(intOf ix).toNat)
 case atStart=>exact⟨0,Zg _,rfl,T0.congr (fun o=>by simp[partCs,tot]),C,hl⟩
 case round=>
  clear C hl T0;obtain⟨k,hk,rfl,T2,C,hG⟩:=hrel;by_cases hlt:k<pn
  ·obtain⟨bb,oo,p,rfl,hp,c0,c1,c2⟩:=bi_ h hlt;have he:=hT.apart c0;have d0:=hG.cell c0 (by simpa using he);have d1:=hG.cell c1 (by simpa using he);have d2:=hG.cell c2 (by simpa using he);have hs:=hps p (Zc hp);have ha:Hid (partCs id nm (ps.take (k+1))=partCs id nm (ps.take k)++(if p.a==0 then [] else [⟨⟨p.a,id,nm⟩,1⟩])):=gI_ hp;have hB:=fw_ id nm (ps.take k);have hb:=cy_ (iU_ id nm (ps.take k));have hv:(ps.take k).length<=pn:=by rw[Zz];omega
   have hy:(k:Int)<pn:=by omega
   have hx:(0:Int)<=k:=by omega
   clear c0 c1 c2 hp;have hg:w.grownBy (wr.alloc (.cells #[.int .i64 p.a,.int .i64 p.f,.int .i64 p.n] 162)) (some b):=hG.andThen (World.grownBy_alloc wr _ (some b)) (fun j hj=>by cases hj;exact .inr rfl);have T3:TlAt (wr.alloc (.cells #[.int .i64 p.a,.int .i64 p.f,.int .i64 p.n] 162)) b (m+k) (fun o=>f o+tot o (partCs id nm (ps.take k))):=T2.kept (World.grownBy_alloc wr _ none) (by simp);have z0:(wr.alloc (.cells #[.int .i64 p.a,.int .i64 p.f,.int .i64 p.n] 162)).cell? ⟨wr.heap.size,0,none⟩=some (.int .i64 p.a):=by simp
   have C3:=C.alloc (.cells #[.int .i64 p.a,.int .i64 p.f,.int .i64 p.n] 162);clear T2 C
   cases hz:(p.a==0)
   ·have hr:(p.a != 0)=true:=by simp[bne,hz]
    rw[hz] at ha;simp only[Zj,if_false] at ha
    go_wp2_with fail
    generalize wr.alloc (.cells #[.int .i64 p.a,.int .i64 p.f,.int .i64 p.n] 162)=W at *;have T4:TlAt W.drew b (m+k) (fun o=>f o+tot o (partCs id nm (ps.take k))):=T3;have q0:W.drew.cell? ⟨wr.heap.size,0,none⟩=some (.int .i64 p.a):=z0;have q1:W.drew.cell? ⟨w.heap.size,0,none⟩=some (.string nm):=C3.cell 0;have ho:WfO ⟨p.a,id,nm⟩:=⟨hs,hid,hnm⟩;obtain⟨st,w1,e1,e2,e3,g1,e4⟩:=T4.entry (by unfold maxLen;omega) ho
    have hC:-3000000000000<=f ⟨p.a,id,nm⟩+tot ⟨p.a,id,nm⟩ (partCs id nm (ps.take k))∧f ⟨p.a,id,nm⟩+tot ⟨p.a,id,nm⟩ (partCs id nm (ps.take k))<=3000000000000:=by
     have h1:=hf ⟨p.a,id,nm⟩;have h2:=hb ⟨p.a,id,nm⟩;omega
    obtain⟨w3,e5,T5,g3⟩:=e4 (f ⟨p.a,id,nm⟩+tot ⟨p.a,id,nm⟩ (partCs id nm (ps.take k))+1) (WalkArith.wf_i64 (by omega))
    have ht:TlAt w3 b (m+(k+1)) (fun o=>f o+tot o (partCs id nm (ps.take (k+1)))):=T5.congr (fun o=>by
     rw[ha.out,bn_];simp only[tot];split
     ·rename_i hh;rw[aM_.1 hh];omega
     ·omega)
    have hq:w.grownBy w3 (some b):=(hg.andThen (row':=some b) (⟨rfl,rfl,rfl,Zd _,fun _ _ _=>rfl⟩:W.grownBy W.drew (some b)) (fun j hj=>by cases hj;exact .inr rfl)).andThen (row':=some b) g3 (fun j hj=>by cases hj;exact .inr rfl);have C5:Blk w3 w.heap.size #[.string nm,.slice (some ⟨bb,oo,none⟩) pn pc] 156:=(g3.block _ C3.lt (by simp only[ne_eq,Zo];omega)).trans C3;clear e4 T4 T3 T5 C3 d0 d1 d2 ha hb hg;generalize f ⟨p.a,id,nm⟩+tot ⟨p.a,id,nm⟩ (partCs id nm (ps.take k))=Z at *;obtain⟨hw,hA⟩:=hC
    go_region
    go_wp2;go_roundw
    case rel=>exact⟨k+1,by omega,by go_num,ht,C5,hq⟩
    case measure=>simp[intOf];omega
   ·have hr:(p.a != 0)=false:=by simp[bne,hz]
    rw[hz] at ha;simp only[if_true,List.append_nil] at ha;have T4:TlAt (wr.alloc (.cells #[.int .i64 p.a,.int .i64 p.f,.int .i64 p.n] 162)) b (m+(k+1)) (fun o=>f o+tot o (partCs id nm (ps.take (k+1)))):=(T3.mono (by omega)).congr (fun o=>by rw[ha.out]);go_wp2;go_roundw
    case rel=>exact⟨k+1,by omega,by go_num,T4,C3,hg⟩
    case measure=>simp[intOf];omega
  ·obtain rfl:k=pn:=by omega
   go_wp2;go_returns;refine⟨rfl,?_,hG⟩;rw[Zk (by rw[hc.out];exact Zd _)] at T2;exact T2
end
section
open Go Go.RowKit Go.BigFrame Tryz
open Go.Maps (Keyed)
variable{s:ByteArray}
def WfV (l:List Vo):Prop:=∀ v∈l,(Lit.int .i64 v.id).wf=true∧∀ x∈v.its,x.nm.size<=maxLen∧∀ p∈x.ps,(Lit.int .i64 p.a).wf=true
theorem hN_ {l:List Vo}(h:WfV l):WfC (allCs l):=by
 intro c hc;obtain⟨v,hv,hc⟩:=ZL.1 hc;obtain⟨x,hx,hc⟩:=ZL.1 hc;obtain⟨p,hp,rfl⟩:=ZT.1 hc;obtain⟨h1,h2⟩:=h v hv;obtain⟨h3,h4⟩:=h2 x hx;exact⟨h4 p (List.mem_filter.1 hp).1,h1,h3⟩
theorem hO_ (l:List Vo):NoZero (allCs l):=fun c hc=>by rw[fZ_ l c hc];decide
theorem p3_ {t:ByteArray}(h:s.data.toList=t.data.toList):s=t:=by
 cases s;cases t;simp at h;rw[h]
theorem f0_ {v:Value}{kl:Lit}(h:keyOf prog 9 v=some kl):∃ s:ByteArray,v=.string s∧kl=.string s.data.toList:=by
 cases v<;>simp[keyOf,underlying9,mapKey] at h
 exact⟨_,rfl,h.2.symm⟩
theorem hP_ {D:DataW Unit}{po pb:Nat}{vs:List Vo}(hV:VMap D po vs)(hn:(vs.map (·.nm.toList)).Nodup){o:Nat}{y:DataW Unit×List MemPlace}(hh:Maps.has D (.string s.data.toList)=true)(hR:ptrElem pb (.pointer (some ⟨pb,o,none⟩))=some y)(hat:∀ zd,D.atKey (.string s.data.toList) zd=y.1):∃ i v,vs[i]?=some v∧v.nm=s∧o=po+i*4:=by
 rw[hV.has] at hh;obtain⟨v,hv,e⟩:=ZN.1 hh;obtain⟨i,hi,rfl⟩:=List.getElem_of_mem hv;have e':vs[i].nm=s:=p3_ (by simpa using e);refine⟨i,vs[i],by simp[hi],e',?_⟩;have h1:=hV.val hn i vs[i] (by simp[hi]) .nil;unfold keyV at h1;rw[e',hat] at h1;rw[hM_] at hR;obtain rfl:=Zi hR;injection h1 with h2;injection h2 with _ h3;omega
theorem hQ_ (B b pb po:Nat)(D:DataW Unit)(va:Option Addr)(vn:Nat)(vs:List Vo)(hpb:0<vn->va=some ⟨pb,po,none⟩)(w:World)(hO:w.ownsMap prog 9 (ptrElem pb) b vn D)(hV:VMap D po vs)(hnd:(vs.map (·.nm.toList)).Nodup)(h2:VsAt B w va vn vs)(ht:TinyV vs)(hw:WfV vs):
  Calls prog 71 #[.map (some b)] w fun e w'=>(∃ a n cap,e=.returned (.slice a n cap)∧n<=480∧ResAt Ct.cs 4 107 w' w.heap.size a n cap (walkL vs))∧Below w.heap.size w w':=by
 have qk:=@run_makeMap prog;have hb:Hid (vs.length=vn):=h2.len;have qh:=hO.lt;have qg:Maps.size D<=vn:=hO.size_le;obtain⟨t6,tv⟩:=ht;rw[hb.out] at t6;have hL:=TlAt.made w;have hN:(w.alloc (.map #[] 0)).ownsMap prog 9 (ptrElem pb) b vn D:=hO.alloc _;have hJ:Below w.heap.size w (w.alloc (.map #[] 0)):=(Below.refl _ _).alloc (Zd _) _;have hQ:(w.alloc (.map #[] 0)).heap.size=w.heap.size+1:=by simp
 have hY:∀ left o,0<=tot o (allCs (doneV left vs))∧tot o (allCs (doneV left vs))<=480:=fun left o=>by
  have h1:=cy_ (fZ_ (doneV left vs)) o;have h2:=iT_ (l:=doneV left vs) (fun v hv=>by have:=tv v (List.mem_filter.1 hv).1;exact⟨this.1,fun x hx=>(this.2 x hx).1⟩);have h3:(doneV left vs).length<=vs.length:=Yc _ _;have h4:=hb.out;omega
 go_enter func71,ntmps71
 go_wp2_with (first
  |(at_range;refine wpList_range_own _ rfl _ 122 rfl 9 178 keyed9 underlying122 _ b vn D rfl hN ?_;intro w0 he hH hr)
  |go_in)
 rw[hQ] at he hr ⊢;go_frame;have T0:TlAt w0 w.heap.size 0 (fun _=>0):=hL.kept hH (by simp);have hf:Below w.heap.size w w0:=hJ.grown hH (by omega) (fun j hj=>by cases hj);clear hL hN hJ hQ hH hO
 go_loopw [11] (fun _ wr=>∃ (left:Lit->Bool) (cnt m:Nat),m+80*cnt<=80*vn∧(∀ kl,left kl=true->Maps.has D kl=true)∧wr.ranges prog 9 (ptrElem pb) b (w.heap.size+1) vn D left cnt∧TlAt wr w.heap.size m (fun o=>tot o (allCs (doneV left vs)))∧w.heap.size+2<=wr.heap.size∧Below w.heap.size w wr)
  (fun _ wr=>wr.rangeLeft b (w.heap.size+1))
 case atStart=>
  refine⟨_,_,0,by omega,fun _ h=>h,he,T0.congr (fun o=>?_),by omega,hf⟩;rw[hL_ (fun v hv=>by unfold keyV;rw[hV.has];exact ZN.2 ⟨v,hv,by simp⟩)];rfl
 case round=>
  clear he T0 hf hr;obtain⟨left,cnt,m,qf,hq,hE,T,qd,hB⟩:=hrel
  go_wp2_with (first
   |(at_next;refine wpList_next_ranges _ rfl _ rfl 9 keyed9 (ptrElem pb) Value.string (fun o:Nat=>Value.pointer (some ⟨pb,o,none⟩)) (fun key kl hk=>(by obtain⟨s,hs,_⟩:=f0_ hk;exact⟨s,hs⟩)) (fun v y h=>(by obtain⟨o,ho,_⟩:=eu_ h;exact⟨o,ho⟩)) b (w.heap.size+1) vn D left cnt rfl hE ?_ ?_)
   |go_in)
  ·intro qi h6;rw[iS_ h6] at T
   go_wp2_with fail
   refine (dG_ w.heap.size m _ wr T (by omega)).mono ?_;rintro e w4 ⟨⟨a2,n2,cap2,R,rfl,qj,R4,q1,q2,q3,q4⟩,h0⟩;have hR:R=walkL vs:=g6_ q1 q2 q3 (fun o ho=>by rw[q4 o ho];simp[tot]) List.Pairwise.nil (fun c hc=>by simp at hc) (hO_ vs) (fun c hc=>by simp at hc) (hN_ hw);subst hR;have qe:=chain hB h0;go_wp2;go_returns;exact⟨⟨a2,n2,cap2,rfl,by omega,R4.mono hB.size⟩,qe⟩
  ·intro s o kl y yp w1 cnt1 hh hM hK hI hg hT hD hr hZ
   obtain rfl:kl=.string s.data.toList:=by
    obtain⟨s',e,e2⟩:=f0_ hh;injection e with e;rw[e,e2]
   obtain⟨i,v,hi,rfl,rfl⟩:=hP_ hV hnd (hq _ hM) hK hI;have hX:i<vn:=by rw[<-hb.out];exact (Zb.1 hi).1
   have hu:=Zc hi;obtain⟨t1,t2⟩:=tv v hu;obtain⟨u1,u2⟩:=hw v hu;obtain⟨F,hz⟩:∃ F:Ow->Int,∀ o,F o=tot o (allCs (doneV left vs)):=⟨_,fun _=>rfl⟩;have hn:∀ o,F o+tot o (itsCs v v.its)=tot o (allCs (doneV (fun z=>left z&&!z.sameKey (.string v.nm.data.toList)) vs)):=fun o=>by rw[hz];exact (gn_ (left:=left) (v:=v) hM hnd hu o).symm
   have hF:∀ o,0<=F o∧F o<=480:=fun o=>by rw[hz];exact hY left o
   have T1:TlAt w1 w.heap.size m F:=(T.kept hD (by simp)).congr (fun o=>(hz o).symm);have hf:Below w.heap.size w w1:=hB.grown hD hB.size (fun j hj=>by cases hj;omega);obtain⟨b',o',x,qa,qn,qc,h8,hx,e0,e1,e2,e3,hP,_,_⟩:=b5_ h2 hX;obtain⟨rfl,rfl⟩:b'=pb∧o'=po:=by have:=hpb (by omega);rw[h8] at this;simpa using this
   obtain rfl:v=x:=by rw[hi] at hx;exact Zi hx
   have hS:Hid (v.its.length=qn):=hP.len;rw[hS.out] at t1;have hp:∀ kl,(left kl&&!kl.sameKey (.string v.nm.data.toList))=true->Maps.has D kl=true:=fun kl h=>hq kl (by simp at h;exact h.1);have hG:wr.rangeLeft b (w.heap.size+1)=cnt:=hE.left_eq;have e3':=bcell hf e3;obtain⟨wi,h9⟩:∃ x,x=wr:=⟨_,rfl⟩;subst h9;have hm:w.heap.size+2<=w1.heap.size:=by omega
   clear hh hK hI hD T hB hE hx hi e1 e2 e3 hz hr qd hu
   go_wp2_with fail
   go_loopw [20] (fun ix wq=>∃ (k:Nat),k<=qn∧ix=.int .i64 k∧TlAt wq w.heap.size (m+16*k) (fun o=>F o+tot o (itsCs v (v.its.take k)))∧wq.ranges prog 9 (ptrElem b') b (w.heap.size+1) vn D (fun z=>left z&&!z.sameKey (.string v.nm.data.toList)) cnt1∧w.heap.size+2<=wq.heap.size∧Below w.heap.size w wq) (fun ix _=>qn-(intOf ix).toNat)
   case atStart=>exact⟨0,Zg _,rfl,T1.congr (fun o=>by simp[itsCs,tot]),hg,hm,hf⟩
   case round=>
    clear T1 hg hf hm e3' hZ;obtain⟨k,hk,rfl,T2,ha,hm,hl⟩:=hrel;by_cases hlk2:k<qn
    ·obtain⟨ib,io,x,pa,pn,pc,rfl,hx,c0,c1,hA,_,_,_⟩:=bO_ (hP.below hl) hlk2;have f0:=bcell hl e0;obtain⟨s1,_⟩:=t2 x (Zc hx);obtain⟨s2,s3⟩:=u2 x (Zc hx);rw[hA.len] at s1;have qm:(k:Int)<qn:=by omega
     have ql:(0:Int)<=k:=by omega
     have hW:Hid (itsCs v (v.its.take (k+1))=itsCs v (v.its.take k)++partCs v.id x.nm x.ps):=fq_ hx
     have h7:∀ o,0<=tot o (itsCs v (v.its.take k))∧tot o (itsCs v (v.its.take k))<=1000:=fun o=>by
      have h1:=cy_ (ju_ v (v.its.take k)) o;have h2:=go_ (v:=v) (l:=v.its.take k) (fun y hy=>(t2 y (ZX hy)).1);have h3:(v.its.take k).length<=5:=by rw[Zz];omega
      omega
     clear hx;have X:=Blk.new wr #[.string x.nm,.slice pa pn pc] 156;have gW:wr.grownBy (wr.alloc (.cells #[.string x.nm,.slice pa pn pc] 156)) (some w.heap.size):=World.grownBy_alloc wr _ (some w.heap.size);have T3:TlAt (wr.alloc (.cells #[.string x.nm,.slice pa pn pc] 156)) w.heap.size (m+16*k) (fun o=>F o+tot o (itsCs v (v.its.take k))):=T2.kept (World.grownBy_alloc wr _ none) (by simp);have f1:=acell (.cells #[.string x.nm,.slice pa pn pc] 156) f0;have hU:PtsAt (wr.alloc (.cells #[.string x.nm,.slice pa pn pc] 156)) pa pn x.ps:=hA.below (by go_grown);clear T2 f0 hA
     go_wp2_with fail
     have x0:=X.cell 0;have x1:=X.cell 1;simp only[lgA,lgB,lgC] at x0 x1;generalize wr.alloc (.cells #[.string x.nm,.slice pa pn pc] 156)=W at *;have y0:W.drew.cell? ⟨wr.heap.size,0,none⟩=some (.string x.nm):=x0;have y1:W.drew.cell? ⟨wr.heap.size,1,none⟩=some (.slice pa pn pc):=x1;have y2:W.drew.cell? ⟨b',o'+i*4,none⟩=some (.int .i64 v.id):=f1;refine aE_ 6 (by kernel_rfl) (by kernel_rfl) ?_;simp only[ZP,List.take_zero,ZR,List.drop_zero]
     repeat still_step
     refine wpStill_nil ?_
     go_wp2_with fail
     refine (fi_ w.heap.size (m+16*k) _ v.id x.nm pa pn pc x.ps W.drew T3 hU.drew u1 s2 s3 (by omega) (by omega) (fun o=>by have h1:=hF o;have h2:=h7 o;omega)).mono ?_;rintro e w3 ⟨rfl,T4,g4⟩;have g5:wr.grownBy w3 (some w.heap.size):=(gW.andThen (⟨rfl,rfl,rfl,Zd _,fun _ _ _=>rfl⟩:W.grownBy W.drew (some w.heap.size)) (fun j hj=>by cases hj;exact .inr rfl)).andThen g4 (fun j hj=>by cases hj;exact .inr rfl);have hC:=ha.kept g5 (by simp only[ne_eq,Zo];omega) (by simp);have qb:Below w.heap.size w w3:=hl.grown g5 hl.size (fun j hj=>by cases hj;exact Zd _);have h5:w.heap.size+2<=w3.heap.size:=Zl hm g5.size;have T5:TlAt w3 w.heap.size (m+16*(k+1)) (fun o=>F o+tot o (itsCs v (v.its.take (k+1)))):=(T4.mono (by omega)).congr (fun o=>by rw[hW.out,bn_];omega);go_wp2;go_roundw
     case rel=>exact⟨k+1,by omega,by go_num,T5,hC,h5,qb⟩
     case measure=>simp[intOf];omega
    ·obtain rfl:k=qn:=by omega
     rw[Zk (Zm hS.out)] at T2;go_wp2;go_roundw
     case rel=>exact⟨_,cnt1,m+16*k,by omega,hp,ha,T2.congr hn,hm,hl⟩
     case measure=>rw[ha.left_eq,hG];exact hT
end
section
open Go Go.RowKit Go.BigFrame Tryz
variable{size:Int}{e:List Ex}
theorem jv_ (a:Option Addr)(n cap:Nat)(l:List Ct)(a':Option Addr)(n' cap':Nat)(m:List Ct)(w:World)(h:CtsAt w a n l)(h':CtsAt w a' n' m)(hn:n<=4194304)(hn':n'<=4194304):
  Calls prog 95 #[.slice a n cap,.slice a' n' cap'] w fun e w'=>e=.returned (.bool (eqCts l m))∧Below w.heap.size w w':=by
 have hb:Hid (l.length=n):=h.len;have ha:Hid (m.length=n'):=h'.len;by_cases hne:n=n'
 ·subst hne;have hh:((n:Int) != (n:Int))=false:=by simp
  go_enter func95,ntmps95
  go_wp2_with fail
  go_loopw [13] (fun ix wr=>∃ (k:Nat),k<=n∧ix=.int .i64 k∧Hid (eqCts l m=eqCts (l.drop k) (m.drop k))∧Below w.heap.size w wr) (fun ix _=>n-(intOf ix).toNat)
  case atStart=>exact⟨0,Zg _,rfl,rfl,Below.refl _ _⟩
  case round=>
   obtain⟨k,hk,rfl,hI,hB⟩:=hrel;by_cases hlt:k<n
   ·obtain⟨b,o,p,rfl,hp,c0,c1,c2,c3⟩:=aN_ (h.below hB) hlt;obtain⟨b',o',q,rfl,hq,d0,d1,d2,d3⟩:=aN_ (h'.below hB) hlt;have hd:Hid (l.drop k=p::l.drop (k+1)):=al_ hp;have hg:Hid (m.drop k=q::m.drop (k+1)):=al_ hq;clear hp hq;have hl:(k:Int)<n:=by omega
    have hj:(0:Int)<=k:=by omega
    have hc:=neqCG p q
    cases he:eqCt p q
    all_goals rw[he] at hc
    ·go_wp2_with fail
     go_quiet (fail)
     have hf:=below_drewN hB nq;go_wp2;go_returns;go_light;refine⟨ac_ ?_,hf⟩;rw[hI.out,hd.out,hg.out];simp only[eqCts,he,Zr]
    ·go_wp2_with fail
     go_quiet (fail)
     have hf:=below_drewN hB nq;go_wp2;go_roundw
     case rel=>exact⟨k+1,by omega,by go_num,by show _=_;rw[hI.out,hd.out,hg.out];simp only[eqCts,he,Zp],hf⟩
     case measure=>simp[intOf];omega
   ·obtain rfl:k=n:=by omega
    go_wp2;go_returns;go_light;refine⟨ac_ ?_,hB⟩;rw[hI.out,Ze (Zm hb.out),Ze (Zm ha.out)];rfl
 ·have hh:((n:Int) != (n':Int))=true:=by simp;omega
  go_enter func95,ntmps95;go_wp2;go_returns;go_light;refine⟨ac_ ?_,Below.refl _ _⟩;rw[gg_ (by rw[hb.out,ha.out];exact hne)]
theorem jw_ (size next:Int)(ea:Option Addr)(en ec:Nat)(va:Option Addr)(vn vc:Nat)(ra:Option Addr)(rn rc:Nat)(la:Option Addr)(ln lc:Nat)(ex:List Ex)(rf lt:List Ct)(w:World)(h1:ExsAt w ea en ex)(h3:CtsAt w ra rn rf)(h4:CtsAt w la ln lt)(z1:en<=4194304)(z3:rn<=200)(z4:ln<=200)(hx:∀ x∈ex,(Lit.int .i64 x.a).wf=true)(hc3:∀ c∈rf,(Lit.int .i64 c.o.a).wf=true)(hc4:∀ c∈lt,(Lit.int .i64 c.o.a).wf=true)(hnd:(ex.map (·.a)).Nodup):
  Calls prog 96 #[.agg #[.int .i64 size,.int .i64 next,.slice ea en ec,.slice va vn vc,.slice ra rn rc,.slice la ln lc]] w fun e w'=>e=.returned (.bool (addrB ex (rf++lt)))∧Below w.heap.size w w':=by
 have hH:=@run_makeMap prog;have n1:Hid (ex.length=en):=h1.len;have n3:Hid (rf.length=rn):=h3.len;have n4:Hid (lt.length=ln):=h4.len;have hy:Hid (∀ K:List Lit,K.Nodup->(∀ k∈K,∃ c∈rf++lt,k=.int .i64 c.o.a)->(∀ c∈rf++lt,Lit.int .i64 c.o.a∈K)->(ex.all (fun x=>(rf++lt).any (fun c=>c.o.a==x.a))&&decide (K.length=ex.length))=addrB ex (rf++lt)):=fun K h1 h2 h3=>nv_ hnd h1 h2 h3;have hv:Hid (ex.all (fun x=>(rf++lt).any (fun c=>c.o.a==x.a))=false->addrB ex (rf++lt)=false):=fun h=>by unfold addrB;rw[h];rfl
 generalize addrB ex (rf++lt)=R at *;go_enter func96,ntmps96;have C:=(Blk.new w #[.int .i64 size,.int .i64 next,.slice ea en ec,.slice va vn vc,.slice ra rn rc,.slice la ln lc] 35);have hq:Below w.heap.size w (w.alloc (.cells #[.int .i64 size,.int .i64 next,.slice ea en ec,.slice va vn vc,.slice ra rn rc,.slice la ln lc] 35)):=by go_grown
 have ho:(w.alloc (.cells #[.int .i64 size,.int .i64 next,.slice ea en ec,.slice va vn vc,.slice ra rn rc,.slice la ln lc] 35)).heap.size=w.heap.size+1:=by simp
 go_wp2_with fail
 generalize w.alloc (.cells #[.int .i64 size,.int .i64 next,.slice ea en ec,.slice va vn vc,.slice ra rn rc,.slice la ln lc] 35)=W0 at *;have hM:=AdAt.made W0;have C1:=C.alloc (.map #[] 0);have hr:Below w.heap.size w (W0.alloc (.map #[] 0)):=hq.alloc (by omega) _;clear C hq;rw[ho] at hM;generalize W0.alloc (.map #[] 0)=W1 at *;clear ho
 go_loopw [14] (fun ix wr=>∃ (k:Nat),k<=rn∧ix=.int .i64 k∧AdAt wr (w.heap.size+1) k (rf.take k)∧Blk wr w.heap.size #[.int .i64 size,.int .i64 next,.slice ea en ec,.slice va vn vc,.slice ra rn rc,.slice la ln lc] 35∧Below w.heap.size w wr) (fun ix _=>rn-(intOf ix).toNat)
 case atStart=>exact⟨0,Zg _,rfl,hM,C1,hr⟩
 case round=>
  clear hM C1 hr;obtain⟨k,hk,rfl,A,C,hB⟩:=hrel;by_cases hlt:k<rn
  ·obtain⟨b,o,p,rfl,hp,c0,c1,c2,c3⟩:=aN_ (h3.below hB) hlt;have hg:=hc3 p (Zc hp);have ht:(k:Int)<rn:=by omega
   have hs:(0:Int)<=k:=by omega
   have hD:(rf.take k).length<=200:=by rw[Zz];omega
   have hh:Hid (rf.take k++[p]=rf.take (k+1)):=(bx_ hp).symm;have hm:=fY_ p.o.a (rf.take k);have gW:wr.grownBy (wr.alloc (.cells #[.int .i64 p.o.a,.int .i64 p.o.v,.string p.o.f,.int .i64 p.n] 107)) (some (w.heap.size+1)):=World.grownBy_alloc wr _ _;have A1:AdAt (wr.alloc (.cells #[.int .i64 p.o.a,.int .i64 p.o.v,.string p.o.f,.int .i64 p.n] 107)) (w.heap.size+1) k (rf.take k):=A.kept (World.grownBy_alloc wr _ none) (by simp);have z0:(wr.alloc (.cells #[.int .i64 p.o.a,.int .i64 p.o.v,.string p.o.f,.int .i64 p.n] 107)).cell? ⟨wr.heap.size,0,none⟩=some (.int .i64 p.o.a):=by simp
   have r1:=A1.look hg;obtain⟨w3,r2,A2,g2⟩:=A1.bump (by unfold maxLen;omega) (by omega) hg;have g3:wr.grownBy w3 (some (w.heap.size+1)):=gW.andThen g2 (fun j hj=>by cases hj;exact .inr rfl);have hc:Below w.heap.size w w3:=hB.grown g3 hB.size (fun j hj=>by cases hj;omega);have C3:Blk w3 w.heap.size #[.int .i64 size,.int .i64 next,.slice ea en ec,.slice va vn vc,.slice (some ⟨b,o,none⟩) rn rc,.slice la ln lc] 35:=(g3.block _ C.lt (by simp only[ne_eq,Zo];omega)).trans C;rw[hh.out] at A2;clear hp A A1 hh;generalize cntZ p.o.a (rf.take k)=Z at *;obtain⟨hu,hA⟩:=hm;go_wp2;go_roundw
   case rel=>exact⟨k+1,by omega,by go_num,A2,C3,hc⟩
   case measure=>simp[intOf];omega
  ·obtain rfl:k=rn:=by omega
   rw[Zk (Zm n3.out)] at A;have d5:=C.cell 5;simp only[lgA,lgB,lgC] at d5;obtain⟨wi,hC⟩:∃ x,x=wr:=⟨_,rfl⟩;subst hC
   go_wp2_with fail
   go_loopw [28] (fun ix wr=>∃ (j:Nat),j<=ln∧ix=.int .i64 j∧AdAt wr (w.heap.size+1) (k+j) (rf++lt.take j)∧Blk wr w.heap.size #[.int .i64 size,.int .i64 next,.slice ea en ec,.slice va vn vc,.slice ra k rc,.slice la ln lc] 35∧Below w.heap.size w wr) (fun ix _=>ln-(intOf ix).toNat)
   case atStart=>exact⟨0,Zg _,rfl,by simpa using A,C,hB⟩
   case round=>
    clear A C hB d5;obtain⟨j,hj,rfl,A,C,hB⟩:=hrel;by_cases hlt2:j<ln
    ·obtain⟨b,o,p,rfl,hp,c0,c1,c2,c3⟩:=aN_ (h4.below hB) hlt2;have hg:=hc4 p (Zc hp);have ht:(j:Int)<ln:=by omega
     have hs:(0:Int)<=j:=by omega
     have hD:(rf++lt.take j).length<=400:=by rw[ZE,Zz,n3.out];omega
     have hh:Hid (rf++lt.take j++[p]=rf++lt.take (j+1)):=by show _=_;rw[bx_ hp,ZC]
     have hm:=fY_ p.o.a (rf++lt.take j);have gW:wr.grownBy (wr.alloc (.cells #[.int .i64 p.o.a,.int .i64 p.o.v,.string p.o.f,.int .i64 p.n] 107)) (some (w.heap.size+1)):=World.grownBy_alloc wr _ _;have A1:AdAt (wr.alloc (.cells #[.int .i64 p.o.a,.int .i64 p.o.v,.string p.o.f,.int .i64 p.n] 107)) (w.heap.size+1) (k+j) (rf++lt.take j):=A.kept (World.grownBy_alloc wr _ none) (by simp);have z0:(wr.alloc (.cells #[.int .i64 p.o.a,.int .i64 p.o.v,.string p.o.f,.int .i64 p.n] 107)).cell? ⟨wr.heap.size,0,none⟩=some (.int .i64 p.o.a):=by simp
     have r1:=A1.look hg;obtain⟨w3,r2,A2,g2⟩:=A1.bump (by unfold maxLen;omega) (by omega) hg;have g3:wr.grownBy w3 (some (w.heap.size+1)):=gW.andThen g2 (fun j hj=>by cases hj;exact .inr rfl);have hc:Below w.heap.size w w3:=hB.grown g3 hB.size (fun j hj=>by cases hj;omega);have C3:Blk w3 w.heap.size #[.int .i64 size,.int .i64 next,.slice ea en ec,.slice va vn vc,.slice ra k rc,.slice (some ⟨b,o,none⟩) ln lc] 35:=(g3.block _ C.lt (by simp only[ne_eq,Zo];omega)).trans C;rw[hh.out] at A2;clear hp A A1 hh;generalize cntZ p.o.a (rf++lt.take j)=Z at *;obtain⟨hu,hA⟩:=hm;go_wp2;go_roundw
     case rel=>exact⟨j+1,by omega,by go_num,A2,C3,hc⟩
     case measure=>simp[intOf];omega
    ·obtain rfl:j=ln:=by omega
     rw[Zk (Zm n4.out)] at A;have d2:=C.cell 2;simp only[lgA,lgB,lgC] at d2;obtain⟨wj,hF⟩:∃ x,x=wr:=⟨_,rfl⟩;subst hF
     go_wp2_with fail
     go_loopw [42] (fun ix wr=>∃ (i:Nat),i<=en∧ix=.int .i64 i∧Hid (ex.all (fun x=>(rf++lt).any (fun c=>c.o.a==x.a))=(ex.drop i).all (fun x=>(rf++lt).any (fun c=>c.o.a==x.a)))∧AdAt wr (w.heap.size+1) (k+j) (rf++lt)∧Blk wr w.heap.size #[.int .i64 size,.int .i64 next,.slice ea en ec,.slice va vn vc,.slice ra k rc,.slice la j lc] 35∧Below w.heap.size w wr) (fun ix _=>en-(intOf ix).toNat)
     case atStart=>exact⟨0,Zg _,rfl,rfl,A,C,hB⟩
     case round=>
      clear A C hB d2;obtain⟨i,hi,rfl,hI,A,C,hB⟩:=hrel;by_cases hlt3:i<en
      ·obtain⟨b,o,x,rfl,hn,c0,c1⟩:=be_ (h1.below hB) hlt3;have hw:=hx x (Zc hn);have hd:Hid (ex.drop i=x::ex.drop (i+1)):=al_ hn;have ht:(i:Int)<en:=by omega
       have hs:(0:Int)<=i:=by omega
       clear hn;have A1:AdAt (wr.alloc (.cells #[.int .i64 x.a,.string x.d] 103)) (w.heap.size+1) (k+j) (rf++lt):=A.kept (World.grownBy_alloc wr _ none) (by simp);have z0:(wr.alloc (.cells #[.int .i64 x.a,.string x.d] 103)).cell? ⟨wr.heap.size,0,none⟩=some (.int .i64 x.a):=by simp
       have C3:=C.alloc (.cells #[.int .i64 x.a,.string x.d] 103);have hc:Below w.heap.size w (wr.alloc (.cells #[.int .i64 x.a,.string x.d] 103)):=hB.alloc hB.size _;have r1:=A1.look hw;have hz:=nw_ x.a (rf++lt);have hm:=fY_ x.a (rf++lt);generalize cntZ x.a (rf++lt)=Z at *
       cases ha:(rf++lt).any (fun c=>c.o.a==x.a)
       ·rw[ha] at hz;replace hz:(Z==0)=true:=hz;have hf:R=false:=hv.out (by rw[hI.out,hd.out,List.all_cons,ha];rfl);clear ha;go_wp2;go_returns;exact⟨by rw[hf];rfl,hc⟩
       ·rw[ha] at hz;replace hz:(Z==0)=false:=hz;have hE:Hid (ex.all (fun x=>(rf++lt).any (fun c=>c.o.a==x.a))=(ex.drop (i+1)).all (fun x=>(rf++lt).any (fun c=>c.o.a==x.a))):=by show _=_;rw[hI.out,hd.out,List.all_cons,ha];rfl
        clear ha;go_wp2;go_roundw
        case rel=>exact⟨i+1,by omega,by go_num,hE,A1,C3,hc⟩
        case measure=>simp[intOf];omega
      ·obtain rfl:i=en:=by omega
       have he:ex.all (fun x=>(rf++lt).any (fun c=>c.o.a==x.a))=true:=by rw[hI.out,Ze (Zm n1.out)];rfl
       obtain⟨K,hK,hG,k1,k2,k3⟩:=A.len 3;have hb:=hy.out K k1 k2 k3;rw[he,Zp,n1.out] at hb;have d2:=C.cell 2;simp only[lgA,lgB,lgC] at d2
       have hl:Hid (((K.length:Int)==(i:Int))=R):=by
        show _=_;rw[<-hb,Bool.eq_iff_iff];simp only[beq_iff_eq,ZU];omega
       clear hb he hI;go_wp2;go_returns;exact⟨by rw[<-hl.out];rfl,hB⟩
theorem ny_ {P:Program}{k:TypeId}{R:Value->Option (DataW Unit×List MemPlace)}{w w':World}{b n:Nat}{D:DataW Unit}(h:w.ownsMap P k R b n D)(hb:Below w.heap.size w w'):w'.ownsMap P k R b n D:=by
 have ha:=h.lt;obtain⟨es,clock,h1,r⟩:=h;exact⟨es,clock,(hb.block b ha).trans h1,r⟩
theorem iV_:∀ {l:List Ex} {next:Int},0<=next->size<=400->xgo size next l=true->∀ x∈l,0<=x.a∧x.a<=400
 |[],_,_,_,_,_,hx=>by simp at hx
 |e::r,next,h0,hs,h,x,hx=>by
  simp only[xgo,Zf,ZU] at h;obtain⟨⟨⟨h1,h2⟩,h3⟩,h4⟩:=h
  have hd:1<=e.d.size:=by
   simp only[dataOkB,Zf,ZU] at h1;exact h1.1.1
  rcases Zn.1 hx with rfl | hx
  ·omega
  ·exact iV_ (by omega) hs h4 x hx
theorem kI_ {l:List Ex}(h:spaceOkB size l=true):∀ x∈l,(Lit.int .i64 x.a).wf=true:=fun x hx=>by
 simp only[spaceOkB,Zf,ZU] at h
 have:=iV_ (by omega) h.1.1.2 h.2 x hx
 exact WalkArith.wf_i64 (by omega)
theorem oz_ {ps:List Pt}(h:(contentO ps e).isSome=true):∀ p∈ps,(Lit.int .i64 p.a).wf=true:=fun p hp=>by
 have hk:partsOkB ps=true:=by
  unfold contentO at h;split at h
  ·rename_i hh;exact hh.1
  ·cases h
 obtain⟨_,q2,_⟩:=ae_ hk
 have:=q2 p hp
 unfold partOkB at this;split at this
 ·rename_i h0
  have:p.a=0:=by simpa using h0
  exact WalkArith.wf_i64 (by omega)
 ·simp only[Zf,ZU] at this;exact WalkArith.wf_i64 (by omega)
theorem lU_ {s:ByteArray}(h:nameB s=true):s.size<=maxLen:=by
 simp only[nameB,Zf,ZU] at h;unfold maxLen;omega
theorem hR_:∀ {l:List It} {q:Option It},igo e q l=true->∀ x∈l,nameB x.nm=true
 |[],_,_,x,hx=>by simp at hx
 |y::r,q,h,x,hx=>by
  simp only[igo,Zf] at h;rcases Zn.1 hx with rfl | hx
  ·exact h.1.1.1
  ·exact hR_ h.2 x hx
theorem oA_ {next:Int}{l:List Vo}(hn:next<=1000000000)(h:vgo next e 0 l=true):WfV l:=by
 intro v hv;obtain⟨h1,h2,h3,h4⟩:=b0_ h v hv;refine⟨WalkArith.wf_i64 (by omega),fun x hx=>?_⟩;simp only[itemsB,Zf] at h1;exact⟨lU_ (hR_ h1.2 x hx),oz_ (db_ h1.2 x hx)⟩
end
end Go.Proofs.YtbbhcnjhohidnaaGreatDoor
