/- What is laid on a file's parts, put into its volume. -/
import Derived.Test.YteejlahappbalaaGreatDoorU08
import Derived.Test.YteejlahappbalaaGreatDoorU09
set_option maxHeartbeats 20000000
set_option maxRecDepth 100000
namespace Go.Proofs.YteejlahappbalaaGreatDoor
section
open Go Go.RowKit Go.BigFrame Tryz
variable{α:Type}{y:It}{B k:Nat}{w:World}{x:α}
theorem lI{p:Prop}(h:p:=by
 go_wp2_with fail;refine ab_ sI sI ?_;repeat (go_big_quiet_step (first | (go_at_call 58;have qq:=qu;rw[qT] at qq;exact am_ (qq _))))
 refine wpQuiet_nil ?_;intro w2 hx;obtain⟨qj,x1'⟩:=qd _ (ah_ hx);clear hx;go_wp2_with fail;refine (fO_ qa qn qc x.ps ea en ec e _ (hP.below qj) (he.below (qF _ qj)) hstr m2 hen).mono ?_;rintro e1 w3 ⟨qH,qk⟩;replace qk:=Aa qj qk
 cases zY:Ax x.ps e with
 |none=>
  rw[zY] at qH qh;replace qH:e1=.returned (.tuple #[.string ⟨#[]⟩,.bool false]):=qH;subst qH;clear zY;go_wp2;go_returns;exact⟨by rw[qh.out];rfl,qF _ qk⟩
 |some s=>
  rw[zY] at qH qh;replace qH:e1=.returned (.tuple #[.string s,.bool true]):=qH;subst qH;clear zY;go_wp2;go_roundw
  case rel=>exact⟨k+1,sH,sQ,by show _=_;rw[qh.out];rfl,qF _ qk⟩
  case measure=>simp[intOf];omega):p:=h
theorem jr_ (B:Nat)(its:List It)(pa:Option Addr)(pn pc:Nat)(ea:Option Addr)(en ec:Nat)(e:List Ex)(w:World)(h:BT B w pa pn its)(he:Cg w ea en e)(hstr:Strs e)(hen:en<=4194304)(hpn:pn<=4194304)(hI:Ua its):
  Calls prog 59 #[.slice pa pn pc,.slice ea en ec] w fun x w'=>x=.returned (.bool (itemsB its e))∧Below w.heap.size w w':=by
 have qg:Hid (its.length=pn):=h.len;have hR:Hid (itemsB its e=(decide (its.length<=5)&&igo e none its)):=rfl;generalize itemsB its e=R at *;by_cases h5:pn<=5
 ·rw[qg.out,decide_eq_true h5,Zp] at hR;go_enter func59,ntmps59;go_wp2_with fail;go_loopw [14] (fun ix wr=>∃ (k:Nat),k<=pn∧ix=.int .i64 k∧Hid (R=igo e (Ee its k) (its.drop k))∧Below w.heap.size w wr) (fun ix _=>pn-(intOf ix).toNat)
  case atStart=>exact⟨0,Zg _,rfl,hR,Yg _ _⟩
  case round=>
   obtain⟨k,hk,rfl,hv,hB⟩:=hrel;by_cases hlt:k<pn
   ·obtain⟨b,o,x,qa,qn,qc,rfl,hx,c0,c1,hP,_,_,_⟩:=bO_ (h.below hB) hlt;have qh:Hid (R=(nameB x.nm&&(match Ee its k with | none=>true | some p=>bl p.nm.toList x.nm.toList)&&(Ax x.ps e).isSome&&igo e (Ee its (k+1)) (its.drop (k+1)))):=by
     show _=_;rw[hv.out,al_ hx,hB_,hx];rfl
    obtain⟨m1,m2⟩:=hI x (Zc hx);have hf:x.ps.length=qn:=hP.len;rw[hf] at m2;have hh:(k:Int)<pn:=sH;have hj:(0:Int)<=k:=sH;have ha:0<k->∃ y,Ee its k=some y∧wr.cell? ⟨b,o+(k-1)*2,none⟩=some (.string y.nm):=fun h0=>by
     exact mI
    have qF:∀ u:World,Below wr.heap.size wr u->Below w.heap.size w u:=fun u hu=>Aa hB hu;clear hx hv hf;have qu:=fun u:World=>bT_ x.nm u m1;have qx:Below wr.heap.size wr (wr.alloc (.cells #[.string x.nm,.slice qa qn qc] 125)):=sM;have X:=Blk.new wr #[.string x.nm,.slice qa qn qc] 125;have X1:(wr.alloc (.cells #[.string x.nm,.slice qa qn qc] 125)).cell? ⟨wr.heap.size,1,none⟩=some (.slice qa qn qc):=X.cell 1;have x0:∀ g:Grw (wr.alloc (.cells #[.string x.nm,.slice qa qn qc] 125)),g.w.cell? ⟨wr.heap.size,0,none⟩=some (.string x.nm):=Ad (X.cell 0);have hm:=aA_ (wr.alloc (.cells #[.string x.nm,.slice qa qn qc] 125))
    cases qT:nameB x.nm
    ·rw[qT] at qh;go_wp2_with fail;refine ab_ sI sI ?_;repeat (go_big_quiet_step (first | (go_at_call 58;have qq:=qu;rw[qT] at qq;exact am_ (qq _))))
     exact pp
    ·rw[qT,Zp] at qh;have qd:∀ w2:World,Below (wr.alloc (.cells #[.string x.nm,.slice qa qn qc] 125)).heap.size (wr.alloc (.cells #[.string x.nm,.slice qa qn qc] 125)) w2->Below wr.heap.size wr w2∧w2.cell? ⟨wr.heap.size,1,none⟩=some (.slice qa qn qc):=fun w2 h2=>⟨Aa qx h2,Ab h2 X1⟩;by_cases hk0:0<k
     ·obtain⟨y,hy,d0⟩:=ha hk0;have y0:=Ad (Ab qx d0);rw[hy] at qh;have hb:decide ((0:Int)<(k:Int))=true:=decide_eq_true sH;have hl:((k:Int)-1).toNat=k-1:=sH
      cases hc:bl y.nm.toList x.nm.toList
      ·simp only[hc,Zr] at qh;go_wp2_with fail;refine ab_ sI sI ?_;repeat (go_big_quiet_step (first | (go_at_call 58;have qq:=qu;rw[qT] at qq;exact am_ (qq _))))
       refine wpQuiet_nil ?_;intro w2 hx;obtain⟨qj,x1'⟩:=qd _ (ah_ hx);exact mD
      ·simp only[hc,Zp] at qh;exact lI
     ·have hg:Ee its k=none:=by unfold Ee;rw[if_pos sH]
      have hb:decide ((0:Int)<(k:Int))=false:=YV sH;rw[hg] at qh;simp only[Zp] at qh;exact lI
   ·exact pW
 ·rw[qg.out,YV h5,Zr] at hR;go_enter func59,ntmps59;go_wp2;go_returns;exact⟨rG,Yg _ _⟩
theorem pz{p:Prop}(h:p:=by go_wp2;go_returns;exact⟨by rw[qh.out];rfl,Aa hB qx⟩):p:=h
theorem kC_ (B:Nat)(size next:Int)(ea:Option Addr)(en ec:Nat)(va:Option Addr)(vn vc:Nat)(ra:Option Addr)(rn rc:Nat)(la:Option Addr)(ln lc:Nat)(ex:List Ex)(vs:List Vo)(w:World)(h1:Cg w ea en ex)(h2:Ek B w va vn vs)(z1:en<=4194304)(z2:Strs ex)(z3:vn<=4194304)(z4:KV vs):
  Calls prog 23 #[.agg #[.int .i64 size,.int .i64 next,.slice ea en ec,.slice va vn vc,.slice ra rn rc,.slice la ln lc]] w fun x w'=>x=.returned (.bool (Fj next vs ex))∧Below w.heap.size w w':=by
 have hb:Hid (vs.length=vn):=h2.len;have hR:Hid (Fj next vs ex=(decide (vs.length<=6)&&vgo next ex 0 vs)):=rfl;generalize Fj next vs ex=R at *;by_cases h6:vn<=6
 ·rw[hb.out,decide_eq_true h6,Zp] at hR;go_enter func23,ntmps23;have C:=Blk.new w #[.int .i64 size,.int .i64 next,.slice ea en ec,.slice va vn vc,.slice ra rn rc,.slice la ln lc] 33;go_wp2_with fail;have he:Below w.heap.size w (w.alloc (.cells #[.int .i64 size,.int .i64 next,.slice ea en ec,.slice va vn vc,.slice ra rn rc,.slice la ln lc] 33)):=sM;generalize w.alloc (.cells #[.int .i64 size,.int .i64 next,.slice ea en ec,.slice va vn vc,.slice ra rn rc,.slice la ln lc] 33)=W0 at *;go_loopw [3,13] (fun lx ix wr=>∃ (k:Nat) (last:Int),k<=vn∧ix=.int .i64 k∧lx=.int .i64 last∧Hid (R=vgo next ex last (vs.drop k))∧Blk wr w.heap.size #[.int .i64 size,.int .i64 next,.slice ea en ec,.slice va vn vc,.slice ra rn rc,.slice la ln lc] 33∧Below w.heap.size w wr) (fun _ ix _=>vn-(intOf ix).toNat)
  case atStart=>exact⟨0,0,Zg _,rfl,rfl,hR,C,he⟩
  case round=>
   clear hR C he;obtain⟨k,last,hk,rfl,rfl,hI,C,hB⟩:=hrel;have d1:=C.cell 1;have d2:=C.cell 2;simp only[lgA,lgB,lgC] at d1 d2;by_cases hlt:k<vn
   ·obtain⟨b,o,x,qa,qn,qc,rfl,hx,e0,e1,e2,e3,hP,_,_⟩:=b5_ (h2.below hB) hlt;have qh:Hid (R=(decide (last<x.id)&&decide (x.id<next)&&nameB x.nm&&itemsB x.its ex&&vgo next ex x.id (vs.drop (k+1)))):=by
     show _=_;rw[hI.out,al_ hx];rfl
    obtain⟨m1,m2,m3⟩:=z4 x (Zc hx);rw[hP.len] at m2;have hg:(k:Int)<vn:=sH;have hh:(0:Int)<=k:=sH;clear hx hI;have qx:Below wr.heap.size wr (wr.alloc (.cells #[.int .i64 x.id,.string x.nm,.bool x.fx,.slice qa qn qc] 115)):=sM;have X:=Blk.new wr #[.int .i64 x.id,.string x.nm,.bool x.fx,.slice qa qn qc] 115;have d1':=Ab qx d1;have d2':=Ab qx d2;clear d1 d2;by_cases hid:last<x.id
    ·by_cases hnb:x.id<next
     ·rw[decide_eq_true hid,decide_eq_true hnb,Zp,Zp] at qh
      cases hc:nameB x.nm
      ·rw[hc] at qh;go_wp2_with fail;refine (bT_ x.nm _ m1).mono ?_;rintro e w2 ⟨rfl,rfl⟩;rw[hc];exact pz
      ·rw[hc,Zp] at qh;go_wp2_with fail;refine (bT_ x.nm _ m1).mono ?_;rintro e w2 ⟨rfl,rfl⟩;rw[hc];go_wp2_with fail;refine (jr_ B x.its qa qn qc ea en ec ex _ (hP.below qx) ((h1.below hB).below qx) z2 z1 m2 m3).mono ?_;rintro e w2 ⟨rfl,ha⟩;have X2:=(X.below ha).cell 0;simp only[Yp,Yo] at X2;replace ha:=Aa qx ha;have C2:=C.below ha;replace ha:=Aa hB ha
       cases hf:itemsB x.its ex
       ·rw[hf] at qh;go_wp2;go_returns;exact⟨by rw[qh.out];rfl,ha⟩
       ·rw[hf,Zp] at qh;go_wp2;go_roundw
        case rel=>exact⟨k+1,x.id,sH,sQ,rfl,qh,C2,ha⟩
        case measure=>simp[intOf];omega
     ·rw[YV hnb] at qh;simp only[Bool.and_false,Zr] at qh;exact pz
    ·rw[YV hid] at qh;simp only[Zr] at qh;exact pz
   ·obtain rfl:k=vn:=sH;go_wp2;go_returns;exact⟨by rw[hI.out,Ze (Zm hb.out)];rfl,hB⟩
 ·rw[hb.out,YV h6,Zr] at hR;go_enter func23,ntmps23;exact mz
end
section
open Go.Shelf Go.RowKit Go.Lib Go.Sort Tryz
def iP_:Go.Shelf.Ren:=⟨fun | 6=>117 | 15=>160 | 14=>159 | 28=>202 | 29=>203 | 20=>194 | 21=>195 | 22=>196 | 23=>197 | 24=>198 | 25=>199 | 26=>200 | 27=>201 | 46=>225 | 47=>226 | 48=>227 | 49=>228 | 50=>229 | 57=>237 | n=>n,fun | 22=>31 | 24=>70 | 25=>180 | 3=>3 | 39=>174 | 0=>0 | 53=>108 | 55=>189 | 4=>4 | 46=>246 | 45=>245 | 50=>250 | 5=>5 | 9=>9 | 66=>277 | 70=>280 | 76=>286 | 77=>287 | n=>n,fun | n=>n⟩
theorem TL:SlLaysF0.n6 prog iP_ where
 mixed:=by kernel_rfl
 f6:=⟨Tryz.f117.name,rr,func117.trans (congrArg some sI)⟩
 f14:=⟨Tryz.f159.name,rr,func159.trans (congrArg some sI)⟩
 f15:=func160.trans (congrArg some sI)
 f20:=⟨Tryz.f194.name,rr,func194.trans (congrArg some sI)⟩
 f21:=⟨Tryz.f195.name,rr,func195.trans (congrArg some sI)⟩
 f22:=⟨Tryz.f196.name,rr,func196.trans (congrArg some sI)⟩
 f23:=⟨Tryz.f197.name,rr,func197.trans (congrArg some sI)⟩
 f24:=⟨Tryz.f198.name,rr,func198.trans (congrArg some sI)⟩
 f25:=⟨Tryz.f199.name,rr,func199.trans (congrArg some sI)⟩
 f26:=⟨Tryz.f200.name,rr,func200.trans (congrArg some sI)⟩
 f27:=⟨Tryz.f201.name,rr,func201.trans (congrArg some sI)⟩
 f28:=func202.trans (congrArg some sI)
 f29:=func203.trans (congrArg some sI)
 f46:=⟨Tryz.f225.name,rr,func225.trans (congrArg some sI)⟩
 f47:=func226.trans (congrArg some sI)
 f48:=func227.trans (congrArg some sI)
 f49:=⟨Tryz.f228.name,rr,func228.trans (congrArg some sI)⟩
 f50:=⟨Tryz.f229.name,rr,func229.trans (congrArg some sI)⟩
 f57:=⟨Tryz.f237.name,rr,func237.trans (congrArg some sI)⟩
 t0:=underlying0
 a0:=Tryz.isAgg0
 z0:=Tryz.sizeOf0
 v0:=Tryz.zeroValue0
 t3:=underlying3
 a3:=Tryz.isAgg3
 z3:=Tryz.sizeOf3
 v3:=Tryz.zeroValue3
 t4:=underlying4
 a4:=Tryz.isAgg4
 z4:=Tryz.sizeOf4
 v4:=Tryz.zeroValue4
 t5:=underlying5
 a5:=Tryz.isAgg5
 z5:=Tryz.sizeOf5
 v5:=Tryz.zeroValue5
 t9:=underlying9
 a9:=Tryz.isAgg9
 z9:=Tryz.sizeOf9
 v9:=Tryz.zeroValue9
 t22:=underlying31
 a22:=Tryz.isAgg31
 z22:=Tryz.sizeOf31
 v22:=Tryz.zeroValue31
 t25:=underlying180
 a25:=Tryz.isAgg180
 z25:=Tryz.sizeOf180
 v25:=Tryz.zeroValue180
 t39:=underlying174
 a39:=Tryz.isAgg174
 z39:=Tryz.sizeOf174
 v39:=Tryz.zeroValue174
 t45:=underlying245
 a45:=Tryz.isAgg245
 z45:=Tryz.sizeOf245
 v45:=Tryz.zeroValue245
 t46:=underlying246
 a46:=Tryz.isAgg246
 z46:=Tryz.sizeOf246
 v46:=Tryz.zeroValue246
 t50:=underlying250
 a50:=Tryz.isAgg250
 z50:=Tryz.sizeOf250
 v50:=Tryz.zeroValue250
 t53:=underlying108
 a53:=Tryz.isAgg108
 z53:=Tryz.sizeOf108
 v53:=Tryz.zeroValue108
 t55:=underlying189
 a55:=Tryz.isAgg189
 z55:=Tryz.sizeOf189
 v55:=Tryz.zeroValue189
 t66:=underlying277
 a66:=Tryz.isAgg277
 z66:=Tryz.sizeOf277
 v66:=Tryz.zeroValue277
 t70:=underlying280
 a70:=Tryz.isAgg280
 z70:=Tryz.sizeOf280
 v70:=Tryz.zeroValue280
 t76:=underlying286
 a76:=Tryz.isAgg286
 z76:=Tryz.sizeOf286
 v76:=Tryz.zeroValue286
 t77:=underlying287
 a77:=Tryz.isAgg287
 z77:=Tryz.sizeOf287
 v77:=Tryz.zeroValue287
end
section
open Go.ChangeMaps Go.MapKept Go.WideElems
open Go.Maps (Keyed)
variable{H α:Type}{b:Nat}{P:Program}{e k t:TypeId}{w:World}
theorem js_ {R:Value->Option (DataW H×List MemPlace)}{es:Array MapEntry}{clock:Nat}(K:WideMaps.KeyLaw P k)(ht:P.underlying t=some (.map k e)){z:Value}(hz:∀ u:World,(zeroValue e).run P u=.ok z u)(hb:w.heap[b]?=some (.map es clock))(F:Fit P k R es clock)
  {key:Value}{kl:Lit}(hkey:keyOf P k key=some kl):
  ∃ (v0:Value) (st:Value) (w1:World),(Instr.mapEntry t (.map (some b)) key).run P w=.ok (.tuple #[v0,st]) w1∧(Instr.mapUpdate t (.map (some b)) key v0).run P w=.ok () w1∧(Instr.lookup t (.map (some b)) key false).run P w=.ok v0 w:=by
 rcases K.find w hkey es.toList F.keys with⟨h1,h2⟩ | ⟨j,e0,h1,h2,h3⟩
 ·refine⟨z,goInt clock,setBlock w b (.map (es.push ⟨key,z,clock⟩) (clock+1)),?_,?_,?_⟩
  ·simp[Instr.mapEntry,YY ht,MapKept.run_getObj_map hb,K.check w false hkey,h1,hz,MapKept.run_setObj_map _ hb,Result.andThen,setBlock]
  ·simp[Instr.mapUpdate,YY ht,MapKept.run_getObj_map hb,K.check w false hkey,h1,MapKept.run_setObj_map _ hb,Result.andThen,setBlock]
  ·simp[Instr.lookup,YY ht,MapKept.run_getObj_map hb,K.check w _ hkey,h1,hz,Result.andThen]
 ·have hj:es[j]?=some e0:=dq;have hc:es.modify j (fun e=>{e with key:=key})=es:=by
   apply Array.ext';rw[Array.toList_modify,modify_eq_set _ _ _ _ h2];have:({e0 with key:=key}:MapEntry)=e0:=by rw[<-h3]
   rw[this];exact set_self _ _ _ h2
  have ha:es.modify j (fun e'=>{e' with key:=key,val:=e0.val})=es:=by
   apply Array.ext';rw[Array.toList_modify,modify_eq_set _ _ _ _ h2];have:({e0 with key:=key,val:=e0.val}:MapEntry)=e0:=by rw[<-h3]
   rw[this];exact set_self _ _ _ h2
  refine⟨e0.val,goInt e0.born,setBlock w b (.map es clock),?_,?_,?_⟩
  ·simp[Instr.mapEntry,YY ht,MapKept.run_getObj_map hb,K.check w false hkey,h1,hj,h3,K.stays w hkey,hc,MapKept.run_setObj_map _ hb,Result.andThen,setBlock]
  ·simp[Instr.mapUpdate,YY ht,MapKept.run_getObj_map hb,K.check w false hkey,h1,hj,h3,K.stays w hkey,ha,MapKept.run_setObj_map _ hb,Result.andThen,setBlock]
  ·simp[Instr.lookup,YY ht,MapKept.run_getObj_map hb,K.check w _ hkey,h1,Result.andThen]
theorem g5_ {m:Sem α}{x y:α}{u v:World}(h:m.run P w=.ok x u)(h':m.run P w=.ok y v):x=y∧u=v:=by
 rw[h] at h'
 cases h';exact⟨rfl,rfl⟩
theorem et_ (w:World)(b:Nat)(x y:Obj):setBlock (setBlock w b x) b y=setBlock w b y:=by
 simp[setBlock]
theorem nr_ {q:IntKind}{n:Nat}{D:DataW H}(h:w.ownsMap P k (plainElem P e) b n D)(K:WideMaps.KeyLaw P k)(ht:P.underlying t=some (.map k e))(he:P.underlying e=some (.int q))(hz:∀ u:World,(zeroValue e).run P u=.ok (.int q 0) u)(hn:n+1<maxLen)
  {key:Value}{kl:Lit}(hkey:keyOf P k key=some kl):
  ∃ (c:Int) (st:Nat) (w1:World),(Instr.lookup t (.map (some b)) key false).run P w=.ok (.int q c) w∧D.atKey kl (.lit (.int q 0))=.lit (.int q c)∧(Lit.int q c).wf=true∧
   (Instr.mapEntry t (.map (some b)) key).run P w=.ok (.tuple #[.int q c,.int .i64 st]) w1∧(Instr.lookup t (.map (some b)) key false).run P w1=.ok (.int q c) w1∧w.grownBy w1 (some b)∧w1.heap.size=w.heap.size∧
   ∀ x:Int,(Lit.int q x).wf=true->∃ w3,(Instr.entryStore t (.map (some b)) (.int .i64 st) (.int q x)).run P w1=.ok () w3∧w3.ownsMap P k (plainElem P e) b (n+1) (D.put kl (.lit (.int q x)))∧w.grownBy w3 (some b)∧w3.heap.size=w.heap.size:=by
 have K':=Keyed.of_law K;have h0:=h;obtain⟨es,clock,hb,F,hs,hD⟩:=h;obtain⟨c,hl,hj,hc⟩:=h0.lookup_int K' ht he (hz w) hkey;obtain⟨v0,st',hu,hf,hh,hg⟩:=js_ K ht hz hb F hkey;obtain⟨v1,st,es1,clock1,hE,_,hS⟩:=entry_then_store K ht hz hb F hkey;obtain⟨rfl,_⟩:=g5_ hg hl;obtain⟨e1,rfl⟩:=g5_ hf hE;obtain⟨rfl,rfl⟩:Value.int q c=v1∧st'=goInt st:=by simpa using e1
 obtain⟨u1,hp,own1,g1⟩:=h0.update K' ht sH hkey (plainElem_int he hc);obtain⟨_,rfl⟩:=g5_ hh hp;obtain⟨c',hm,ha,_⟩:=own1.lookup_int K' ht he (hz _) hkey;have hk:c'=c:=by
  rw[Maps.atKey_put_same h0.isMap (K'.key hkey)] at ha;injection ha with e2;injection e2 with _ e3;exact e3.symm
 subst hk;refine⟨c',st,_,hl,hj,hc,hE,hm,g1,by simp[setBlock],fun x hx=>?_⟩;obtain⟨es',clock',ho,hr⟩:=hS (setBlock w b (.map es1 clock1)) (.int q x) (heap_setBlock_same hb _);obtain⟨u2,hq,own2,g2⟩:=h0.update K' ht sH hkey (plainElem_int he hx);obtain⟨_,rfl⟩:=g5_ hr hq;refine⟨_,ho,?_,?_,?_⟩
 ·rw[et_];exact own2
 ·rw[et_];exact g2
 ·simp[setBlock]
end
section
open Go Go.RowKit Go.BigFrame Tryz
open Go.Maps (Keyed)
variable{b n:Nat}{o:Ow}{w:World}
theorem ME:Keyed prog 68:=Keyed.of_law Uq
theorem TR (w:World):(zeroValue 2).run prog w=.ok (.int .i64 0) w:=by kernel_rfl
theorem Br.made (w:World):Br (w.alloc (.map #[] 0)) w.heap.size 0 (fun _=>0):=
 ⟨_,World.ownsMap_made _ _ _ _,fun _ _=>rfl⟩
theorem Br.congr {f g:Ow->Int}(h:Br w b n f)(e:∀ o,f o=g o):Br w b n g:=by
 obtain⟨D,h,h2⟩:=h;exact⟨D,h,fun o ho=>by rw[h2 o ho,e]⟩
theorem Br.entry {f:Ow->Int}(h:Br w b n f)(hn:n+1<maxLen)(ho:WfO o):
  ∃ (st:Nat) (w1:World),(Instr.lookup 120 (.map (some b)) (.agg #[.int .i64 o.a,.int .i64 o.v,.string o.f]) false).run prog w=.ok (.int .i64 (f o)) w∧
   (Instr.mapEntry 120 (.map (some b)) (.agg #[.int .i64 o.a,.int .i64 o.v,.string o.f])).run prog w=.ok (.tuple #[.int .i64 (f o),.int .i64 st]) w1∧(Instr.lookup 120 (.map (some b)) (.agg #[.int .i64 o.a,.int .i64 o.v,.string o.f]) false).run prog w1=.ok (.int .i64 (f o)) w1∧w.grownBy w1 (some b)∧
   ∀ x:Int,(Lit.int .i64 x).wf=true->∃ w3,(Instr.entryStore 120 (.map (some b)) (.int .i64 st) (.int .i64 x)).run prog w1=.ok () w3∧Br w3 b (n+1) (fun o'=>if Cn o o'=true then x else f o')∧w.grownBy w3 (some b):=by
 obtain⟨D,ha,hv⟩:=h;obtain⟨c,st,w1,h1,h2,_,h4,h5,h6,_,h7⟩:=nr_ ha Uq underlying120 underlying2 TR hn (Qp ho);have hc:c=f o:=by
  rw[hv o ho] at h2;injection h2 with e2;injection e2 with _ e3;exact e3.symm
 subst hc;refine⟨st,w1,h1,h4,h5,h6,fun x hx=>?_⟩;obtain⟨w3,g1,g2,g3,_⟩:=h7 x hx;refine⟨w3,g1,⟨_,g2,fun o' hb=>?_⟩,g3⟩;by_cases e:o=o'
 ·subst e;rw[Maps.atKey_put_same ha.isMap (ME.key (Qp ho))];dsimp only;rw[if_pos (a3_ o)]
 ·rw[Maps.atKey_put_other (fun e2=>e (mO_ ho hb e2.symm)),hv o' hb];dsimp only;rw[if_neg (fun e2=>e (aM_.1 e2))]
end
section
open Go Go.RowKit Go.BigFrame
theorem fh_ {l:List Ct}{k:Nat}{p:Ct}(h:l[k]?=some p)(o:Ow):tot o (l.take (k+1))=tot o (l.take k)+(if Cn p.o o=true then p.n else 0):=by
 rw[ZK,h,bn_];simp[tot]
theorem eR_ {M:Int}(hM:0<=M):∀ {l:List Ct},(∀ x∈l,-M<=x.n∧x.n<=M)->∀ o,-(M*l.length)<=tot o l∧tot o l<=M*l.length
 |[],_,_=>by simp[tot]
 |c::r,h,o=>by
  have h1:=eR_ hM (l:=r) (fun x hx=>h x rv) o;have h2:=h c sK;simp only[tot,Zw];rw[show ((r.length+1:Nat):Int)=r.length+1 by omega,Int.mul_add,Int.mul_one];split<;>omega
def WfC (l:List Ct):Prop:=∀ c∈l,WfO c.o
theorem se{p:Prop}(h:p:=by go_wp2;go_returns;refine⟨rfl,?_,hG⟩;rw[Zk (by rw[qg.out];exact Zd _)] at T2;exact T2):p:=h
theorem ow{p:Prop}(h:p:=by simpa using jI):p:=h
theorem dF_ (b m:Nat)(f:Ow->Int)(a:Option Addr)(n cap:Nat)(l:List Ct)(w:World)(hT:Br w b m f)(h:A8 w a n l)(hw:WfC l)(hn:n<=1000000)(hm:m<=1000000)(hb:∀ x∈l,-1000000<=x.n∧x.n<=1000000)(hf:∀ o,-1000000000000<=f o∧f o<=1000000000000):
  Calls Tryz.prog 62 #[.map (some b),.slice a n cap] w fun e w'=>e=.returned (.tuple #[])∧Br w' b (m+n) (fun o=>f o+tot o l)∧w.grownBy w' (some b):=by
 have qg:Hid (l.length=n):=h.len;go_enter Tryz.func62,Tryz.ntmps62;go_wp2_with fail;go_loopw [8] (fun ix wr=>∃ (k:Nat),k<=n∧ix=.int .i64 k∧Br wr b (m+k) (fun o=>f o+tot o (l.take k))∧w.grownBy wr (some b)) (fun ix _=>n-(intOf ix).toNat)
 case atStart=>exact⟨0,Zg _,rfl,hT.congr (fun o=>by simp[tot]),⟨rfl,rfl,rfl,Zd _,fun _ _ _=>rfl⟩⟩
 case round=>
  obtain⟨k,hk,rfl,T2,hG⟩:=hrel;by_cases hlt:k<n
  ·obtain⟨bb,oo,p,rfl,hp,c0,c1,c2,c3⟩:=aN_ h hlt;have jI:=hT.apart c0;have d0:=hG.cell c0 ow;have d1:=hG.cell c1 ow;have d2:=hG.cell c2 ow;have d3:=hG.cell c3 ow;have hq:=hw p (Zc hp);have hg:=hb p (Zc hp);have ha:=fh_ hp;have hc:=eR_ (M:=1000000) sH (l:=l.take k) (fun x hx=>hb x (ZX hx));clear c0 c1 c2 c3;go_wp2_with fail;have z0:(wr.alloc (.cells #[.int .i64 p.o.a,.int .i64 p.o.v,.string p.o.f,.int .i64 p.n] 70)).cell? ⟨wr.heap.size,0,none⟩=some (.int .i64 p.o.a):=sK;have z1:(wr.alloc (.cells #[.int .i64 p.o.a,.int .i64 p.o.v,.string p.o.f,.int .i64 p.n] 70)).cell? ⟨wr.heap.size,1,none⟩=some (.int .i64 p.o.v):=sK;have z2:(wr.alloc (.cells #[.int .i64 p.o.a,.int .i64 p.o.v,.string p.o.f,.int .i64 p.n] 70)).cell? ⟨wr.heap.size,2,none⟩=some (.string p.o.f):=sK;have z3:(wr.alloc (.cells #[.int .i64 p.o.a,.int .i64 p.o.v,.string p.o.f,.int .i64 p.n] 70)).cell? ⟨wr.heap.size,3,none⟩=some (.int .i64 p.n):=sK;have ho:w.grownBy (wr.alloc (.cells #[.int .i64 p.o.a,.int .i64 p.o.v,.string p.o.f,.int .i64 p.n] 70)) (some b):=hG.andThen (Yl wr _ (some b)) (fun j hj=>by cases hj;exact .inr rfl);have T3:Br (wr.alloc (.cells #[.int .i64 p.o.a,.int .i64 p.o.v,.string p.o.f,.int .i64 p.n] 70)) b (m+k) (fun o=>f o+tot o (l.take k)):=T2.kept (Yl wr _ none) sK;generalize wr.alloc (.cells #[.int .i64 p.o.a,.int .i64 p.o.v,.string p.o.f,.int .i64 p.n] 70)=W at *;have T4:Br W.drew b (m+k) (fun o=>f o+tot o (l.take k)):=T3;obtain⟨st,w1,e1,e2,e3,g1,e4⟩:=T4.entry sO hq;have ht:((l.take k).length:Int)<=n:=sN;have hC:-3000000000000<=f p.o+tot p.o (l.take k)∧f p.o+tot p.o (l.take k)<=3000000000000:=by
    have h1:=hf p.o;have h2:=hc p.o;omega
   obtain⟨w3,e5,T5,g3⟩:=e4 (f p.o+tot p.o (l.take k)+p.n) (Yz sH);clear e4 T4 T3 T2 d0 d1 d2 d3 hc
   have he:Br w3 b (m+(k+1)) (fun o=>f o+tot o (l.take (k+1))):=T5.congr (fun o=>by
    rw[ha o];split
    ·rename_i hh;rw[aM_.1 hh];omega
    ·omega)
   clear T5 ha;generalize f p.o+tot p.o (l.take k)=C at *;obtain⟨hr,hs⟩:=hC;obtain⟨hu,hv⟩:=hg;have hl:w.grownBy w3 (some b):=(ho.andThen (row':=some b) (⟨rfl,rfl,rfl,Zd _,fun _ _ _=>rfl⟩:W.grownBy W.drew (some b)) (fun j hj=>by cases hj;exact .inr rfl)).andThen (row':=some b) g3 (fun j hj=>by cases hj;exact .inr rfl);go_region;go_wp2;go_roundw
   case rel=>exact⟨k+1,sH,sQ,he,hl⟩
   case measure=>simp[intOf];omega
  ·obtain rfl:k=n:=sH;exact se
end
section
open Go Go.RowKit Go.BigFrame Tryz
open Go.Sort (SWO PermIn SortedIn grow alloc_eq_grow grow_grow)
variable{α:Type}
theorem UY (h:Array α)(a b c:α):((h.push a).push b).push c=h++#[a,b,c]:=Array.ext' sK
theorem UX (h os:Array α)(a b:α):(h.push a).push b++os=h++(#[a,b]++os):=Array.ext' sK
theorem fW_ (p q:Ow)(w:World):
  Calls prog 119 #[.agg #[.int .i64 p.a,.int .i64 p.v,.string p.f],.agg #[.int .i64 q.a,.int .i64 q.v,.string q.f]] w fun e w'=>e=.returned (.int .i64 (Gn p q))∧∃ n os,w'=grow (w.drewN n) os:=by
 have ha:Hid (Gn p q=or3 (Hl p.a q.a) (Hl p.v q.v) (K8 p.f q.f)):=rfl;generalize Gn p q=R at *;obtain⟨a,v,f⟩:=p;obtain⟨b,u,g⟩:=q;simp only at ha;go_enter func119,ntmps119;go_wp2_with fail;have x0:((w.alloc (.cells #[.int .i64 a,.int .i64 v,.string f] 68)).alloc (.cells #[.int .i64 b,.int .i64 u,.string g] 68)).cell? ⟨w.heap.size,0,none⟩=some (.int .i64 a):=Aj _ sK;have x1:((w.alloc (.cells #[.int .i64 a,.int .i64 v,.string f] 68)).alloc (.cells #[.int .i64 b,.int .i64 u,.string g] 68)).cell? ⟨w.heap.size,1,none⟩=some (.int .i64 v):=Aj _ sK;have x2:((w.alloc (.cells #[.int .i64 a,.int .i64 v,.string f] 68)).alloc (.cells #[.int .i64 b,.int .i64 u,.string g] 68)).cell? ⟨w.heap.size,2,none⟩=some (.string f):=Aj _ sK;have y0:((w.alloc (.cells #[.int .i64 a,.int .i64 v,.string f] 68)).alloc (.cells #[.int .i64 b,.int .i64 u,.string g] 68)).cell? ⟨w.heap.size+1,0,none⟩=some (.int .i64 b):=sK;have y1:((w.alloc (.cells #[.int .i64 a,.int .i64 v,.string f] 68)).alloc (.cells #[.int .i64 b,.int .i64 u,.string g] 68)).cell? ⟨w.heap.size+1,1,none⟩=some (.int .i64 u):=sK;have y2:((w.alloc (.cells #[.int .i64 a,.int .i64 v,.string f] 68)).alloc (.cells #[.int .i64 b,.int .i64 u,.string g] 68)).cell? ⟨w.heap.size+1,2,none⟩=some (.string g):=sK;have hb:Hid (∀ o,(((w.alloc (.cells #[.int .i64 a,.int .i64 v,.string f] 68)).alloc (.cells #[.int .i64 b,.int .i64 u,.string g] 68)).alloc o).drew=grow (w.drewN 1) #[.cells #[.int .i64 a,.int .i64 v,.string f] 68,.cells #[.int .i64 b,.int .i64 u,.string g] 68,o]):=fun o=>by
  simp only[World.alloc,World.drew,World.drewN,grow];rw[UY]
 generalize (w.alloc (.cells #[.int .i64 a,.int .i64 v,.string f] 68)).alloc (.cells #[.int .i64 b,.int .i64 u,.string g] 68)=W0 at *;go_region_held3 (fun u'=>u'.cell? ⟨w.heap.size,0,none⟩=some (.int .i64 a)∧u'.cell? ⟨w.heap.size,1,none⟩=some (.int .i64 v)∧u'.cell? ⟨w.heap.size,2,none⟩=some (.string f)∧u'.cell? ⟨w.heap.size+1,0,none⟩=some (.int .i64 b)∧u'.cell? ⟨w.heap.size+1,1,none⟩=some (.int .i64 u)∧u'.cell? ⟨w.heap.size+1,2,none⟩=some (.string g)) (go_keep)
  (first | (go_at_call 162;refine (dZ_ _ _ _).mono ?_;rintro e w2 ⟨rfl,rfl⟩) | (go_at_call 163;refine (d0_ _ _ _).mono ?_;rintro e w2 ⟨rfl,rfl⟩) | (go_at_call 161;refine (mx_ (Hl a b) (Hl v u) (K8 f g) W0.heap.size 3 _ (OI W0 _ _ _ _).1 (OI W0 _ _ _ _).2.1 (OI W0 _ _ _ _).2.2).mono ?_;rintro e w2 ⟨rfl,rfl⟩))
 go_wp2;go_returns;go_light;exact⟨a4_ ha.out.symm,1,_,hb.out _⟩
theorem lR_ (x y:Ct)(w:World):
  Calls prog 118 #[.agg #[.int .i64 x.o.a,.int .i64 x.o.v,.string x.o.f,.int .i64 x.n],.agg #[.int .i64 y.o.a,.int .i64 y.o.v,.string y.o.f,.int .i64 y.n]] w fun e w'=>e=.returned (.int .i64 (Gn x.o y.o))∧∃ n os,w'=grow (w.drewN n) os:=by
 obtain⟨⟨a,v,f⟩,n⟩:=x;obtain⟨⟨b,u,g⟩,m⟩:=y;go_enter func118,ntmps118;go_wp2_with fail;refine (fW_ ⟨a,v,f⟩ ⟨b,u,g⟩ _).mono ?_;rintro e w1 ⟨rfl,n1,os,rfl⟩;go_wp2;go_returns;go_light;refine⟨rfl,n1,#[.cells #[.int .i64 a,.int .i64 v,.string f,.int .i64 n] 70,.cells #[.int .i64 b,.int .i64 u,.string g,.int .i64 m] 70]++os,?_⟩;simp only[World.alloc,World.drewN,grow];rw[UX]
theorem or_:SWO (Go.Proofs.ltOf (fun x y:Ct=>Gn x.o y.o)):=by
 have e:∀ x y:Ct,Go.Proofs.ltOf (fun x y:Ct=>Gn x.o y.o) x y=Bl x.o y.o:=fun x y=>i6_ x.o y.o;refine⟨fun x=>?_,fun x y z=>?_,fun x y z=>?_⟩
 ·rw[e];exact gD_ _
 ·rw[e,e,e];exact b7_
 ·rw[e,e,e];intro h1 h2;by_cases h3:y.o=z.o
  ·rw[<-h3];exact h1
  ·by_cases h4:x.o=y.o
   ·rw[h4];exact h2
   ·exact ly_ (b7_ (ct_ h2 h3) (ct_ h1 h4))
end
section
open Go Go.RowKit Go.BigFrame
open Go.Sort (SWO PermIn SortedIn grow putRow mapBlock onCells putCells putRowK flatK HoldsK)
open Go.Proofs (sortWorldK)
variable{α:Type}{c:Array Value}{l:List Ct}{b n:Nat}{w:World}
theorem p1_ [Inhabited α]{enc:α->List Value}{k:Nat}{t:TypeId}(h:Blk w b c t)(n off:Nat)(d:Array α)(os:Array Obj):
  Blk (sortWorldK enc k w b off n d os) b (putCells id off (flatK enc k d) c) t:=by
 have hb:=h.lt;unfold Blk at *;simp only[sortWorldK,putRowK,putRow,mapBlock,grow,Go.Sort.ahead];rw[Array.getElem?_append_left (by simpa using hb),Array.getElem?_modify,if_pos rfl,h];rfl
theorem os_ [Inhabited α](enc:α->List Value)(k:Nat)(w:World)(b off n:Nat)(d:Array α)(os:Array Obj):
  w.grownBy (sortWorldK enc k w b off n d os) (some b):=by
 refine⟨rfl,rfl,rfl,by simp[sortWorldK,putRowK,putRow,mapBlock,grow,Go.Sort.ahead],fun i hi ha=>?_⟩;simp only[sortWorldK,putRowK,putRow,mapBlock,grow,Go.Sort.ahead];rw[Array.getElem?_append_left rL,Array.getElem?_modify,if_neg (fun e=>ha (by rw[e]))]
theorem iQ_ {i j:Nat}{x:Ct}{v:Value}[Inhabited Ct](h:l[i]?=some x)(hj:x.cs[j]?=some v):i*4+j<l.length*4∧(flatK Ct.cs 4 l.toArray)[i*4+j]! = v:=by
 obtain⟨hi,rfl⟩:=Zb.1 h;have ha:j<4:=by have:=(Zb.1 hj).1;simpa[Ct.cs] using this
 have hlt:i*4+j<l.length*4:=sH;refine⟨hlt,?_⟩;rw[Go.Sort.get_flatK _ _ _ _ rV];rw[show (i*4+j) / 4=i by omega,show (i*4+j) % 4=j by omega];have e1:l.toArray[i]! = l[i]:=oK;rw[e1];have:=(Zb.1 hj);obtain⟨h1,h2⟩:=this;simp[h1,h2]
theorem hI_ {t:Nat}(ht:t<l.length*4):∃ x v,l[t / 4]?=some x∧x.cs[t % 4]?=some v:=by
 have h1:t / 4<l.length:=sH;have h2:t % 4<(l[t / 4]).cs.length:=by simp[Ct.cs];omega
 exact⟨l[t / 4],(l[t / 4]).cs[t % 4],by simp[h1],sK⟩
theorem ns_ [Inhabited Ct](hb:Blk w b c 70)(hsl:A8 w (some ⟨b,0,none⟩) n l):HoldsK Ct.cs 4 w b 0 l.toArray:=by
 intro t ht;have he:t<l.length*4:=by simpa using ht
 obtain⟨x,v,h1,h2⟩:=hI_ he;obtain⟨_,h3⟩:=iQ_ h1 h2;rw[show t / 4*4+t % 4=t by omega] at h3;rw[h3];obtain⟨b',o',ha,hc⟩:=hsl.cell _ _ h1;obtain⟨rfl,rfl⟩:b=b'∧0=o':=dp;refine⟨?_,by rw[Zq];exact hb.frozen _⟩;have:=hc _ _ h2;rw[Zq,show t / 4*4+t % 4=t by omega] at this;rw[Zq];exact this
theorem lS_ {B cap:Nat}{l':List Ct}[Inhabited Ct](R:Ac Ct.cs 4 70 w B (some ⟨b,0,none⟩) n cap l)(hl:l'.length=n)(m:Nat)(os:Array Obj):
  Ac Ct.cs 4 70 (sortWorldK Ct.cs 4 w b 0 m l'.toArray os) B (some ⟨b,0,none⟩) n cap l':=by
 rcases R.own with⟨h,_⟩ | ⟨b',hb,hB,h1,h2,c,hc,hs,_⟩
 ·cases h
 ·obtain rfl:b=b':=by simpa using hb
  have hk:=p1_ (enc:=Ct.cs) (k:=4) hc m 0 l'.toArray os;have ha:∀ i x,l'[i]?=some x->∀ j v,x.cs[j]?=some v->(putCells id 0 (flatK Ct.cs 4 l'.toArray) c)[i*4+j]?=some v:=by
   intro i x hx j v hv;obtain⟨f1,f2⟩:=iQ_ hx hv;have f3:i*4+j<c.size:=by rw[hs];have:l'.length*4<=cap*4:=sH;omega
   unfold putCells;simp only[Array.getElem?_mapIdx,Array.getElem?_eq_getElem f3,Option.map_some];rw[if_pos ⟨Zg _,by simpa using f1⟩,Nat.sub_zero,f2];rfl
  refine⟨⟨hl,fun i x hx=>⟨b,0,rfl,fun j v hv=>by rw[hk.cell,Zq];exact ha i x hx j v hv⟩⟩,.inr ⟨b,rfl,hB,h1,h2,_,hk,by simp[putCells,hs],?_⟩⟩;apply List.ext_getElem?;intro t;by_cases ht:t<n*4
  ·rw[Ya ht];obtain⟨x,v,g1,g2⟩:=hI_ (l:=l') (t:=t) (by rw[hl];exact ht);have e1:=ha _ _ g1 _ _ g2;have e2:=i5_ aS_ l' g1 g2;rw[show t / 4*4+t % 4=t by omega] at e1 e2;rw[e2,<-e1];simp
  ·rw[List.getElem?_eq_none sN,List.getElem?_eq_none (by rw[aY_ aS_,hl];omega)]
end
section
open Go Go.RowKit Go.BigFrame Tryz
open Go.Sort (SWO PermIn SortedIn grow HoldsK)
open Go.Proofs (sortWorldK)
def H0 (l:List Ct):Prop:=l.Pairwise (fun x y=>Bl y.o x.o=false)
theorem nt_ {l:List Ct}[Inhabited Ct]{d':Array Ct}(hp:PermIn 0 l.toArray.size l.toArray d')(hs:SortedIn (Go.Proofs.ltOf (fun x y:Ct=>Gn x.o y.o)) 0 l.toArray.size d'):d'.toList.Perm l∧H0 d'.toList:=by
 obtain⟨hc,_,ha⟩:=hp;have e1:d'.extract 0 l.toArray.size=d':=by rw[<-hc];exact Array.extract_size
 rw[e1,Array.extract_size] at ha;refine⟨ha,?_⟩;unfold H0;rw[Yb];intro i j hi hj hf;have hb:j<d'.size:=dm;have:=hs i j (Zg _) hf (by rw[<-hc];exact hb);have e:∀ x y:Ct,Go.Proofs.ltOf (fun x y:Ct=>Gn x.o y.o) x y=Bl x.o y.o:=fun x y=>i6_ x.o y.o;rw[e] at this;have he:i<d'.size:=sH;simpa[he,hb] using this
theorem lT_ (b n:Nat)(w:World)[Inhabited Ct]:Go.Proofs.CmpLays prog 118 #[] Ct.cs 4 (fun x y=>Gn x.o y.o) b 0 n w:=
 fun _ _ _ _ x y=>lR_ x y _
theorem Vj (w:World):(isAgg 70).run prog w=.ok true w:=Tryz.isAgg70 w
theorem U2 (w:World):(Go.sizeOf 70).run prog w=.ok 4 w:=Tryz.sizeOf70 w
theorem ot_ (B:Nat)(a:Option Addr)(n cap:Nat)(l:List Ct)(w:World)(R:Ac Ct.cs 4 70 w B a n cap l)(hn:n<=4194304):
  Calls prog 117 #[.slice a n cap,.func (.func 118) #[] #[]] w fun e w'=>e=.returned (.tuple #[])∧∃ l',l'.Perm l∧H0 l'∧Ac Ct.cs 4 70 w' B a n cap l'∧w.grownBy w' (Uz a):=by
 by_cases h0:n=0
 ·subst h0;have hl:l=[]:=Zt R.sl.len;subst hl;refine (Go.Proofs.AnyF.slices_SortFunc_none (P:=prog) (ρ:=iP_) TL a cap _ w).mono ?_;rintro e w' ⟨rfl,rfl⟩;exact⟨rfl,[],List.Perm.refl _,YT,R,Yh _ _⟩
 ·rcases R.own with⟨_,h,_⟩ | ⟨b,rfl,hB,h1,h2,c,hc,_⟩
  ·exact absurd h h0
  ·have he:Inhabited Ct:=⟨⟨⟨0,0,.empty⟩,0⟩⟩;have ha:=R.sl.len;have eg:∀ args w,(callFunc 118 args).run prog w=.ok (.enter 118 args) w:=enters_of func118 sI rfl;have hb:=Go.Proofs.AnyQ.slices_SortFunc TL 4 Vj U2 Ct.cs (fun _=>rfl) (fun x v hv=>a9_ [x] v (by simpa using hv)) (fun x y=>Gn x.o y.o) or_ 118 #[] b 0 cap l.toArray w eg (lT_ b l.toArray.size w) (ns_ hc R.sl) hc.lt sN;rw[show l.toArray.size=n by simpa using ha] at hb;refine Calls.mono hb ?_;rintro e w' ⟨rfl,d',m,os,hp,hs,rfl⟩;rw[<-show l.toArray.size=n by simpa using ha] at hp hs;obtain⟨h3,h4⟩:=nt_ hp hs;refine⟨rfl,d'.toList,h3,h4,?_,os_ _ _ _ _ _ _ _ _⟩;have:=lS_ (l':=d'.toList) R (by rw[h3.length_eq];exact ha) m os;simpa using this
end
section
open Go Go.RowKit Go.BigFrame Tryz
open Go.Maps (Keyed)
variable{out:List Ct}{d:Nat}{o:Ow}{v x:Value}
theorem iR_ {L:List Lit}(h:prog.keyLits d.succ 2 [x]=some L):∃ n,x=.int .i64 n∧(Lit.int .i64 n).wf=true:=by
 unfold Program.keyLits at h;simp only[underlying2] at h
 cases x<;>simp at h;obtain⟨⟨rfl,h2⟩,_⟩:=h;exact⟨_,rfl,h2⟩
theorem nu_ {L:List Lit}(h:prog.keyLits d.succ 9 [x]=some L):∃ s,x=.string s∧s.size<=maxLen:=by
 unfold Program.keyLits at h;simp only[underlying9] at h
 cases x<;>simp at h;exact⟨_,rfl,h.1⟩
theorem kD_ {kl:Lit}(h:keyOf prog 68 v=some kl):∃ o,v=vO o∧WfO o:=by
 obtain⟨xs,L,rfl,h1,_⟩:=keyOf_top TP h;clear h;have hc:prog.cellsOf 68=3:=sI;have ha:prog.cellsOf 2=1:=sI;have hb:prog.cellsOf 9=1:=sI;obtain⟨d,hd⟩:=Nat.exists_eq_succ_of_ne_zero (Nat.ne_of_gt (Nat.zero_lt_of_lt UA));rw[hd] at h1;clear hd;unfold Program.keyLits at h1;simp only[underlying68,hc] at h1;split at h1
 ·rename_i hl;obtain⟨hl,_⟩:=hl;obtain⟨xs⟩:=xs;simp only at hl h1
  match xs,hl with
  |[x0,x1,x2],_=>
   simp[ha,hb,Option.bind_eq_some_iff] at h1;obtain⟨L0,e0,L1,⟨M1,e1,M2,⟨M3,e2,_⟩,_⟩,_⟩:=h1;obtain⟨n0,rfl,w0⟩:=iR_ e0;obtain⟨n1,rfl,w1⟩:=iR_ e1;obtain⟨s,rfl,w2⟩:=nu_ e2;exact⟨⟨n0,n1,s⟩,rfl,⟨w0,w1,w2⟩⟩
 ·cases h1
theorem Col.skip {f:Ow->Int}{left:Lit->Bool}(h:Col f left out)(ho:WfO o)(hl:left (klO o)=true)(hf:f o=0):Col f (fun z=>left z&&!z.sameKey (klO o)) out:=by
 refine⟨fun c hc=>⟨(h.wf c hc).1,by simp[(h.wf c hc).2]⟩,h.nz,h.ne,fun o' hb ha=>?_⟩;rw[MX ho hb] at ha;by_cases e:o=o'
 ·subst e;rw[hf];exact bB_ (fun c hc e=>by have:=(h.wf c hc).2;rw[e,hl] at this;cases this)
 ·have h2:Cn o o'=false:=by
   exact pN
  rw[h2] at ha;exact h.sum o' hb (by simpa using ha)
theorem ou_ {l m:List Ct}(h:l.Perm m):∀ o,tot o l=tot o m:=fun o=>by
 induction h with
 |nil=>rfl
 |cons x _ ih=>simp only[tot,ih]
 |swap x y l=>simp only[tot];omega
 |trans _ _ ih1 ih2=>rw[ih1,ih2]
theorem pG_ {f:Ow->Int}{left:Lit->Bool}{l':List Ct}(h:Col f left out)(hl:∀ kl,left kl=false)(hp:l'.Perm out)(hs:H0 l'):Cm l'∧BS l'∧WfC l'∧(∀ o,WfO o->tot o l'=f o):=by
 have hf:WfC l':=fun c hc=>(h.wf c (hp.mem_iff.1 hc)).1;have he:l'.Pairwise (fun x y=>x.o≠y.o):=(hp.pairwise_iff (fun {a b} (h:a.o≠b.o)=>h.symm)).2 h.ne;have ha:=ou_ hp;refine⟨?_,fun c hc=>h.nz c (hp.mem_iff.1 hc),hf,fun o ho=>by rw[ha,h.sum o ho (hl _)]⟩;unfold Cm;rw[Yb];intro i j hi hj hb;exact ct_ ((Yb.1 hs) i j hi hj hb) (fun e=>(Yb.1 he) i j hi hj hb e.symm)
theorem ov_ {y:DataW Unit×List MemPlace}(h:plainElem prog 2 v=some y):∃ c:Int,v=.int .i64 c:=by
 obtain⟨c,rfl,_⟩:=plainElem_int_inv underlying2 h;exact⟨c,rfl⟩
theorem ow_ (w:World)(o:Ow)(n:Int)(t:TypeId)(b:Nat)(hb:b=w.heap.size):A8 (w.alloc (.cells #[.int .i64 o.a,.int .i64 o.v,.string o.f,.int .i64 n] t)) (some ⟨b,0,none⟩) 1 [⟨o,n⟩]:=cl_ w ⟨o,n⟩ t b hb
theorem dG_ (b m:Nat)(f:Ow->Int)(w:World)(hT:Br w b m f)(hm:m<=1000000):
  Calls prog 63 #[.map (some b)] w fun e w'=>(∃ a n cap l,e=.returned (.slice a n cap)∧n<=m∧Ac Ct.cs 4 70 w' w.heap.size a n cap l∧Cm l∧BS l∧WfC l∧∀ o,WfO o->tot o l=f o)∧Below w.heap.size w w':=by
 have hS:=hT.lt;obtain⟨D,hh,hv⟩:=hT;have hW:=hh.size_le;obtain⟨i0,hi,hP,hQ,hR⟩:=info_parts JM;go_enter func63,ntmps63
 go_wp2_with (first
  |(at_range;refine wpList_range_own _ rfl _ 120 rfl 68 2 ME underlying120 _ b m D rfl hh ?_;intro w0 hw hI hV)
  |go_in)
 go_frame;go_loopw [3] (fun out wr=>∃ (left:Lit->Bool) (cnt:Nat) (a2:Option Addr) (n2 cap2:Nat) (lk:List Ct),out=.slice a2 n2 cap2∧n2+cnt<=m∧wr.ranges prog 68 (plainElem prog 2) b w.heap.size m D left cnt∧Ac Ct.cs 4 70 wr (w.heap.size+1) a2 n2 cap2 lk∧Col f left lk∧w.heap.size+1<=wr.heap.size∧Below w.heap.size w wr)
  (fun _ wr=>wr.rangeLeft b w.heap.size)
 case atStart=>
  refine⟨_,_,none,0,0,[],rfl,sH,hw,aB_,⟨sK,fun c hc=>by simp at hc,YT,fun o ho hl=>?_⟩,sH,(Yg _ _).grown hI (Zd _) (fun j hj=>by cases hj)⟩;have:=hv o ho;rw[Maps.atKey_of_not_has hl] at this;injection this with e2;injection e2 with _ e3
 case round=>
  obtain⟨left,cnt,a2,n2,cap2,lk,rfl,hU,hu,R2,hC,hX,hB⟩:=hrel
  go_wp2_with (first
   |(at_next;refine wpList_next_ranges _ rfl _ rfl 68 ME (plainElem prog 2) vO (Value.int .i64) (fun key kl hk=>(by obtain⟨o,ho,_⟩:=kD_ hk;exact⟨o,ho⟩)) (fun v y h=>ov_ h) b w.heap.size m D left cnt rfl hu ?_ ?_)
   |go_in)
  ·intro he hL;go_wp2_with fail;refine (ot_ (w.heap.size+1) a2 n2 cap2 lk wr R2 sH).mono ?_;rintro e w4 ⟨rfl,l',hp,hs,R4,hJ⟩;obtain⟨q1,q2,q3,q4⟩:=pG_ hC hL hp hs;have hF:=jc_ hB hJ (pl_ (fun ad hb=>by have:=(R2.block ad hb).1;omega));go_wp2;go_returns;exact⟨⟨a2,n2,cap2,l',rfl,sH,R4.mono sH,q1,q2,q3,q4⟩,hF⟩
  ·intro o c kl y yp w1 cnt1 hf hA hy hz hn hD hr hM hH;have hg:WfO o:=by
    obtain⟨o',e,hg⟩:=kD_ hf;obtain⟨a,v,f⟩:=o;obtain⟨a',v',f'⟩:=o';simp[vO] at e;obtain⟨rfl,rfl,rfl⟩:=e;exact hg
   obtain rfl:klO o=kl:=by
    have:=Qp hg;rw[hf] at this;exact (Zi this).symm
   have hc:f o=c:=by
    have h1:=hv o hg;obtain⟨c',e,ey,_⟩:=plainElem_int_inv underlying2 hy;obtain⟨rfl,_⟩:=Prod.mk.inj ey;obtain rfl:c=c':=dG;rw[hz] at h1;injection h1 with e2;injection e2 with _ e3;exact e3.symm
   have R3:Ac Ct.cs 4 70 w1 (w.heap.size+1) a2 n2 cap2 lk:=R2.grown hr (fun ad hb=>by have:=(R2.block ad hb).1;omega);have hx:Below w.heap.size w w1:=hB.grown hr hB.size (fun j hj=>by cases hj;exact Zd _);have hN:w.heap.size+1<=w1.heap.size:=sH;clear hf hy hz hr R2 hB hM;unfold vO at hH ⊢;by_cases he:c=0
   ·have hG:(c != 0)=false:=by simp[he]
    have hq:=hC.skip hg hA (by rw[hc,he]);clear he;go_wp2;have ha:=hn.kept (Yl w1 (.cells #[.int .i64 o.a,.int .i64 o.v,.string o.f] 68) none) sK sK;go_roundw
    case rel=>exact⟨_,cnt1,a2,n2,cap2,lk,rfl,sH,ha,R3.alloc _,hq,sN,hx.alloc hx.size _⟩
    case measure=>rw[ha.left_eq,hu.left_eq];exact hD
   ·have hG:(c != 0)=true:=by simp[he]
    have hq:=hC.take hg hA (by rw[hc];exact he);rw[hc] at hq;clear he;go_wp2_with (at_builtin;refine ag_ rfl (fun K hK=>ay_ _ _ 31 rfl (w.heap.size+1) 70 i0 (.agg #[.int .i64 0,.int .i64 0,.string .empty,.int .i64 0]) 40 underlying31 hi hP hQ hR rfl sJ aS_ a9_ a2 n2 cap2 lk rfl ((R3.alloc _).alloc _) _ 1 1 [⟨o,c⟩] rfl (ow_ _ o c _ _ sK) (fun ad h=>sV) (fun h=>sY) (n2+1) rfl sO sH sN (fun a3 cap3 w3 R4 ht=>hK _ _ ?_)));have ha:=((hn.kept (Yl w1 (.cells #[.int .i64 o.a,.int .i64 o.v,.string o.f] 68) none) sK sK).kept (Yl _ (.cells #[.int .i64 o.a,.int .i64 o.v,.string o.f,.int .i64 c] 70) none) sK sK).kept ht (ej_ fun ad hb=>by have:=(R3.block ad hb).1;omega) (ej_ fun ad hb=>by have:=(R3.block ad hb).1;omega);have hE:Below w.heap.size w w3:=Yi sM ht sN (aG_ fun ad hb=>by have:=(R3.block ad hb).1;omega);have hO:w.heap.size+1<=w3.heap.size:=Zl sN ht.size;go_roundw
    case rel=>exact⟨_,cnt1,a3,n2+1,cap3,_,rfl,sH,ha,R4,hq,hO,hE⟩
    case measure=>rw[ha.left_eq,hu.left_eq];exact hD
end
section
open Go Go.RowKit Go.BigFrame Tryz
variable{l:List Ct}
theorem kE_ {o:Ow}(h:AO o=true):WfO o:=by
 simp only[AO,nameB,Zf,ZU] at h;obtain⟨⟨⟨⟨h1,h2⟩,h3⟩,h4⟩,⟨⟨_,h5⟩,_⟩⟩:=h;exact⟨Yz sH,Yz sH,sO⟩
theorem mP_ (h:AQ l=true):WfC l∧BS l:=by
 simp only[AQ,Zf,ZU,List.all_eq_true] at h;refine⟨fun c hc=>?_,fun c hc=>?_⟩
 ·have:=h.2 c hc;simp only[CG,Zf] at this;exact kE_ this.1.1.1
 ·have:=h.2 c hc;simp only[CG,Zf,Bool.not_eq_true',ZV] at this;exact this.2
theorem jt_ (h:AB l=true):WfC l∧BS l:=by
 simp only[AB,Zf,ZU] at h;refine⟨fun c hc=>?_,fun c hc=>?_⟩
 ·have:=g1_ h.2 c hc;simp only[EY,Zf] at this;exact kE_ this.1.1
 ·have:=g1_ h.2 c hc;simp only[EY,Zf,ZU] at this;omega
theorem hJ_:∀ {l:List Ct} {q:Option Ct},rgo q l=true->Cm l∧∀ p,q=some p->∀ x∈l,Bl p.o x.o=true
 |[],_,_=>⟨YT,sK⟩
 |c::r,q,h=>by
  have h2:rgo (some c) r=true:=by
   cases q<;>simp only[rgo,Zf] at h<;>exact h.2
  obtain⟨i1,i2⟩:=hJ_ h2;refine⟨Ye.2 ⟨i2 c rfl,i1⟩,fun p hp x hx=>?_⟩;subst hp;simp only[rgo,Zf] at h;rcases Zn.1 hx with rfl | hx
  ·exact h.1.2
  ·exact b7_ h.1.2 (i2 c rfl x hx)
theorem kF_ (h:AB l=true):Cm l:=by
 simp only[AB,Zf,ZU] at h;exact (hJ_ h.2).1
theorem g6_ {R more:List Ct}(h1:Cm R)(h2:BS R)(h3:WfC R)(h4:∀ o,WfO o->tot o R=tot o l+tot o more)(hl:Cm l)(zl:BS l)(zm:BS more)(wl:WfC l)(wm:WfC more):R=A4 l more:=by
 obtain⟨s1,s2,s3⟩:=eL_ hl zl zm;refine cS_ h1 s1 h2 s2 (fun o=>?_);rw[s3];by_cases ho:WfO o
 ·exact h4 o ho
 ·rw[bB_ (o:=o) (l:=R) (fun c hc e=>ho (by rw[<-e];exact h3 c hc)),bB_ (o:=o) (l:=l) (fun c hc e=>ho (by rw[<-e];exact wl c hc)),bB_ (o:=o) (l:=more) (fun c hc e=>ho (by rw[<-e];exact wm c hc))];rfl
def Nf (B:Nat)(e:Ending)(w':World):Option (List Ct)->Prop
 |none=>e=.returned (.tuple #[.slice none 0 0,.bool false])
 |some L=>∃ a n cap,e=.returned (.tuple #[.slice a n cap,.bool true])∧n<=200∧Ac Ct.cs 4 70 w' B a n cap L
theorem fX_ (a:Option Addr)(n cap:Nat)(l:List Ct)(a':Option Addr)(n' cap':Nat)(more:List Ct)(w:World)(h:A8 w a n l)(h':A8 w a' n' more)(hstr:Cx l)(hstr':Cx more)(hn:n<=4194304)(hn':n'<=4194304):
  Calls prog 25 #[.slice a n cap,.slice a' n' cap'] w fun e w'=>Nf w.heap.size e w' (As l more)∧Below w.heap.size w w':=by
 have hh:Hid (l.length=n):=h.len;have hc:Hid (more.length=n'):=h'.len;have hM:=@run_makeMap prog
 cases hok:AB l
 ·have hf:As l more=none:=by simp[As,hok]
  rw[hf];go_enter func25,ntmps25;go_wp2_with fail;refine (cK_ a n cap l _ h hstr hn).mono ?_;exact su
 ·cases qQ:AQ more
  ·have hf:As l more=none:=by simp[As,qQ]
   rw[hf];go_enter func25,ntmps25;go_wp2_with fail;refine (cK_ a n cap l _ h hstr hn).mono ?_;rintro e w1 ⟨rfl,qe⟩;rw[hok];go_wp2_with fail;refine (gG_ a' n' cap' more _ (h'.below qe) hstr' hn').mono ?_;exact pM
  ·obtain⟨hl,hb⟩:=a0_ hok;obtain⟨hD,hA⟩:=br_ qQ;obtain⟨hs,hH⟩:=jt_ hok;obtain⟨hg,hj⟩:=mP_ qQ;have hk:=kF_ hok;have hK:n<=200:=by rw[<-hh.out];exact hl
   have hE:n'<=200:=by rw[<-hc.out];exact hD
   have hI:=ht_ hstr hstr';have hJ:=eR_ (M:=1000) sH (l:=l) (fun x hx=>by have:=hb x hx;omega);have hL:(l.length:Int)<=200:=sH;have ha:∀ b3,AB (A4 l more)=b3->∀ F,As l more=F->(F=if b3=true then some (A4 l more) else none)->Calls prog 25 #[.slice a n cap,.slice a' n' cap'] w fun e w'=>Nf w.heap.size e w' F∧Below w.heap.size w w':=by
    intro b3 he F _ hF;go_enter func25,ntmps25;go_wp2_with fail;refine (cK_ a n cap l _ h hstr hn).mono ?_;rintro e w1 ⟨rfl,qe⟩;rw[hok];go_wp2_with fail;refine (gG_ a' n' cap' more _ (h'.below qe) hstr' hn').mono ?_;rintro e w2 ⟨rfl,qj⟩;rw[qQ];replace qe:=Aa qe qj;clear qj;go_wp2_with fail;have hm:=qe.size;have hw:=Br.made w2;have h1:A8 (w2.alloc (.map #[] 0)) a n l:=(h.below qe).alloc _;have qj:Below w.heap.size w (w2.alloc (.map #[] 0)):=qe.alloc hm _;refine (dF_ w2.heap.size 0 (fun _=>0) a n cap l _ hw h1 hs sH sH (fun x hx=>by have:=hb x hx;omega) (fun _=>by omega)).mono ?_;rintro e w3 ⟨rfl,hy,hB⟩;have qk:=ao_ qj hB hm;have ht:A8 w3 a' n' more:=h'.below qk;go_wp2_with fail;refine (dF_ w2.heap.size (0+n) _ a' n' cap' more _ hy ht hg sH sH (fun x hx=>by have:=hA x hx;omega) (fun o=>by have:=hJ o;omega)).mono ?_;rintro e w4 ⟨rfl,hz,hC⟩;have hp:=ao_ qk hC hm;go_wp2_with fail;refine (dG_ w2.heap.size (0+n+n') _ w4 hz sH).mono ?_;rintro e w5 ⟨⟨a2,n2,cap2,R,rfl,hN,R4,q1,q2,q3,q4⟩,hu⟩;have hv:=Aa hp hu;have hR:R=A4 l more:=g6_ q1 q2 q3 (fun o ho=>by rw[q4 o ho];omega) hk hH hj hs hg;subst hR;replace R4:=R4.mono hp.size;go_wp2_with fail;refine (cK_ a2 n2 cap2 (A4 l more) _ R4.sl hI sH).mono ?_;rintro e w7 ⟨rfl,hq⟩;rw[he];have hr:=Aa hv hq;replace R4:=R4.below hq
    cases b3
    ·rw[if_neg sK] at hF;subst hF;go_wp2;go_returns;go_light;exact⟨rfl,hr⟩
    ·rw[if_pos rfl] at hF;subst hF;have hG:n2<=200:=by rw[<-R4.sl.len];exact (a0_ he).1
     go_wp2;go_returns;go_light;exact⟨⟨a2,n2,cap2,rfl,hG,R4⟩,hr⟩
   exact ha _ rfl _ rfl (by simp[As,hok,qQ])
end
section
open Go Go.RowKit Go.BigFrame
open Go.Maps (Keyed)
variable{α:Type}{l:List Vo}{v:Vo}
theorem eS_:∀ {l m:List α},l.Nodup->(∀ x∈l,x∈m)->l.length<=m.length
 |[],_,_,_=>Zg _
 |x::r,m,hn,hs=>by
  obtain⟨s,t,rfl⟩:=List.append_of_mem (hs x sK);obtain⟨h1,h2⟩:=List.nodup_cons.1 hn
  have:=eS_ (l:=r) (m:=s++t) h2 (fun y hy=>by
   have h3:=hs y rN;have h4:y≠x:=fun e=>h1 (e▸hy);simpa[h4] using h3)
  simp at this ⊢;omega
theorem kG_:∀ {l:List Ex} {size next:Int},xgo size next l=true->(∀ x∈l,next<=x.a)∧(l.map (·.a)).Nodup
 |[],_,_,_=>⟨sK,sK⟩
 |x::r,size,next,h=>by
  simp only[xgo,Zf,ZU] at h;obtain⟨⟨⟨h1,h2⟩,h3⟩,h4⟩:=h;obtain⟨i1,i2⟩:=kG_ h4
  have hd:1<=x.d.size:=by
   simp only[At,Zf,ZU] at h1;exact h1.1.1
  refine⟨fun y hy=>?_,?_⟩
  ·rcases Zn.1 hy with rfl | hy
   ·exact h2
   ·have:=i1 y hy;omega
  ·rw[YD,List.nodup_cons];refine⟨fun hm=>?_,i2⟩;obtain⟨y,hy,e⟩:=ZT.1 hm;have:=i1 y hy;omega
theorem kH_ {size:Int}{l:List Ex}(h:Af size l=true):(l.map (·.a)).Nodup:=by
 simp only[Af,Zf] at h;exact (kG_ h.2).2
theorem nv_ {E:List Ex}{L:List Ct}{K:List Lit}(hn:(E.map (·.a)).Nodup)(hK:K.Nodup)(h1:∀ k∈K,∃ c∈L,k=.int .i64 c.o.a)(h2:∀ c∈L,Lit.int .i64 c.o.a∈K):
  (E.all (fun x=>L.any (fun c=>c.o.a==x.a))&&decide (K.length=E.length))=DW E L:=by
 unfold DW
 cases ha:E.all (fun x=>L.any (fun c=>c.o.a==x.a))
 ·rfl
 ·simp only[Zp];rw[List.all_eq_true] at ha;have hb:∀ k∈E.map (fun x=>Lit.int .i64 x.a),k∈K:=by
   intro k hk;obtain⟨x,hx,rfl⟩:=ZT.1 hk;obtain⟨c,hc,e⟩:=ZN.1 (ha x hx);have e':c.o.a=x.a:=dG;rw[<-e'];exact h2 c hc
  have hf:(E.map (fun x=>Lit.int .i64 x.a)).Nodup:=by
   unfold List.Nodup at hn ⊢;rw[List.pairwise_map] at hn ⊢;exact hn.imp (fun {p q} h e=>h (by injection e))
  rw[YH];simp only[ZU,List.all_eq_true,ZN,beq_iff_eq];constructor
  ·intro hg c hc;refine Classical.byContradiction fun hh=>?_
   have h3:(Lit.int .i64 c.o.a::E.map (fun x=>Lit.int .i64 x.a)).Nodup:=List.nodup_cons.2 ⟨fun hm=>hh (by
    obtain⟨x,hx,e⟩:=ZT.1 hm;injection e with _ e;exact⟨x,hx,e⟩),hf⟩
   have h4:=eS_ h3 (m:=K) (fun k hk=>by
    rcases Zn.1 hk with rfl | hk
    ·exact h2 c hc
    ·exact hb k hk)
   simp at h4;omega
  ·intro he;have a1:=eS_ hf hb
   have a2:=eS_ hK (m:=E.map (fun x=>Lit.int .i64 x.a)) (fun k hk=>by
    obtain⟨c,hc,rfl⟩:=h1 k hk;obtain⟨x,hx,e⟩:=he c hc;exact ZT.2 ⟨x,hx,by rw[e]⟩)
   simp at a1 a2;omega
theorem fY_ (x:Int)(L:List Ct):0<=Gz x L∧Gz x L<=L.length:=by
 have:=List.countP_le_length (p:=fun c:Ct=>c.o.a==x) (l:=L);unfold Gz;omega
theorem nw_ (x:Int)(L:List Ct):(Gz x L==0)=!(L.any (fun c=>c.o.a==x)):=by
 rw[YH];unfold Gz;rw[beq_iff_eq,Bool.not_eq_true',List.any_eq_false];have h:=List.countP_eq_zero (p:=fun c:Ct=>c.o.a==x) (l:=L);constructor
 ·intro e;exact h.1 sH
 ·intro e;have:=h.2 e;omega
theorem nx_ (x:Int)(L:List Ct)(c:Ct):Gz x (L++[c])=Gz x L+(if c.o.a=x then 1 else 0):=by
 unfold Gz;rw[List.countP_append,List.countP_cons,List.countP_nil];by_cases h:c.o.a=x<;>simp[h]
def Cz (left:Lit->Bool)(l:List Vo):List Vo:=l.filter (fun v=>!left (CZ v))
theorem hK_ (s t:List UInt8):(Lit.string s).sameKey (Lit.string t)=decide (s=t):=by
 by_cases h:s=t
 ·subst h;rw[WideAt.sameKey_self (show WideAt.IsKeyLit (Lit.string s) from trivial)];simp
 ·have:(Lit.string s).sameKey (Lit.string t)=false:=by
   cases e:(Lit.string s).sameKey (Lit.string t)
   ·rfl
   ·have:=WideAt.sameKey_eq e;injection this with e2;exact absurd e2 h
  rw[this];simp[h]
theorem gL_ {left:Lit->Bool}:∀ {l:List Vo},(∀ y∈l,y.nm.toList≠v.nm.toList)->Cz (fun z=>left z&&!z.sameKey (CZ v)) l=Cz left l
 |[],_=>rfl
 |y::r,h=>by
  have h1:(CZ y).sameKey (CZ v)=false:=by
   unfold CZ;rw[hK_];have:=h y sK;rw[Zu,Zu] at this;simpa using this
  have ih:=gL_ (left:=left) (l:=r) (fun z hz=>h z (by simp[hz]));unfold Cz at ih ⊢;rw[ZH,ZH,ih];simp only[h1,Bool.not_false,Bool.and_true]
theorem cx_ (v:Vo)(l:List Vo):BI (v::l)=J6 v++BI l:=rfl
theorem gn_ {left:Lit->Bool}(hl:left (CZ v)=true):∀ {l:List Vo},(l.map (·.nm.toList)).Nodup->v∈l->∀ o,tot o (BI (Cz (fun z=>left z&&!z.sameKey (CZ v)) l))=tot o (BI (Cz left l))+tot o (J6 v)
 |[],_,hv,_=>by simp at hv
 |x::r,hn,hv,o=>by
  rw[YD,List.nodup_cons] at hn;obtain⟨h1,h2⟩:=hn;by_cases e:x=v
  ·subst e;have h3:∀ y∈r,y.nm.toList≠x.nm.toList:=fun y hy e=>h1 (by rw[<-e];exact ZT.2 ⟨y,hy,rfl⟩);have ih:=gL_ (left:=left) h3;have h4:(CZ x).sameKey (CZ x)=true:=by unfold CZ;rw[hK_];simp
   unfold Cz at ih ⊢;rw[ZH,ZH,ih];simp only[h4,hl,Bool.not_true,Bool.and_false,Bool.not_false,if_true,Zj,if_false,cx_];rw[bn_];omega
  ·have hb:v∈r:=by
    rcases Zn.1 hv with h | h
    ·exact absurd h.symm e
    ·exact h
   have ha:x.nm.toList≠v.nm.toList:=fun e=>h1 (by rw[e];exact ZT.2 ⟨v,hb,rfl⟩);have h4:(CZ x).sameKey (CZ v)=false:=by
    unfold CZ;rw[hK_];rw[Zu,Zu] at ha;simpa using ha
   have ih:=gn_ hl h2 hb o;unfold Cz at ih ⊢;rw[ZH,ZH];simp only[h4,Bool.not_false,Bool.and_true] at ih ⊢;split
   ·rw[cx_,cx_,bn_,bn_,ih];omega
   ·exact ih
theorem hL_ {left:Lit->Bool}(h:∀ v∈l,left (CZ v)=true):Cz left l=[]:=by
 unfold Cz;rw[List.filter_eq_nil_iff];intro v hv;simp[h v hv]
theorem iS_ {left:Lit->Bool}(h:∀ k,left k=false):Cz left l=l:=by
 unfold Cz;rw[YA];intro v _;simp[h]
theorem fw_ (id:Int)(nm:ByteArray)(ps:List Pt):(AX id nm ps).length<=ps.length:=by
 unfold AX;rw[List.length_map];exact Yc _ _
theorem go_:∀ {l:List It},(∀ x∈l,x.ps.length<=16)->(BP v l).length<=16*l.length
 |[],_=>by simp[BP]
 |x::r,h=>by
  have ih:=go_ (l:=r) (fun y hy=>h y rN);have h1:=h x sK;have h2:=fw_ v.id x.nm x.ps;unfold BP at ih ⊢;rw[ZF,ZE,Zw];omega
theorem iT_:∀ {l:List Vo},(∀ v∈l,v.its.length<=5∧∀ x∈v.its,x.ps.length<=16)->(BI l).length<=80*l.length
 |[],_=>by simp[BI]
 |v::r,h=>by
  have ih:=iT_ (l:=r) (fun y hy=>h y rN);obtain⟨h1,h2⟩:=h v sK;have h3:=go_ (v:=v) h2;rw[cx_,ZE,Zw,show J6 v=BP v v.its from rfl];omega
end
section
open Go Go.RowKit Go.BigFrame Tryz
open Go.ChangeMaps Go.MapKept Go.WideElems
open Go.Maps (Keyed)
variable{x:Int}{L:List Ct}{b n:Nat}{v:Value}{w:World}
theorem Ku:Keyed prog 9:=Maps.string_keyed underlying9
theorem SE (h:(Lit.int .i64 x).wf=true):keyOf prog 2 (.int .i64 x)=some (.int .i64 x):=Maps.keyOf_int_mk underlying2 h
theorem Vm {s:ByteArray}(h:s.size<=maxLen):keyOf prog 9 (.string s)=some (.string s.data.toList):=by
 simp[keyOf,underlying9,mapKey,h]
theorem Df.made (w:World):Df (w.alloc (.map #[] 0)) w.heap.size 0 []:=⟨_,World.ownsMap_made _ _ _ _,fun _ _=>rfl,fun _=>rfl⟩
theorem Df.look (h:Df w b n L)(hx:(Lit.int .i64 x).wf=true):(Instr.lookup 127 (.map (some b)) (.int .i64 x) false).run prog w=.ok (.int .i64 (Gz x L)) w:=by
 obtain⟨D,ha,hv,hh⟩:=h;obtain⟨c,hl,hb,_⟩:=ha.lookup_int IE underlying127 underlying2 (TR w) (SE hx);rw[hv x hx] at hb;injection hb with e2;injection e2 with _ e3;rw[e3];exact hl
theorem Df.bump (h:Df w b n L)(hn:n<maxLen)(hL:L.length<=1000000){c:Ct}(ha:(Lit.int .i64 c.o.a).wf=true):
  ∃ w3:World,(Instr.mapUpdate 127 (.map (some b)) (.int .i64 c.o.a) (.int .i64 (Gz c.o.a L+1))).run prog w=.ok () w3∧Df w3 b (n+1) (L++[c])∧w.grownBy w3 (some b):=by
 obtain⟨D,hb,hv,hh⟩:=h;have hc:=fY_ c.o.a L;obtain⟨w3,g1,g2,g3⟩:=hb.update IE underlying127 hn (SE ha) (plainElem_int underlying2 (show (Lit.int .i64 (Gz c.o.a L+1)).wf=true from Yz sH));refine⟨w3,g1,⟨_,g2,fun x hx=>?_,fun x=>?_⟩,g3⟩
 ·rw[nx_];by_cases e:c.o.a=x
  ·subst e;rw[Maps.atKey_put_same hb.isMap (IE.key (SE ha)),if_pos rfl]
  ·rw[Maps.atKey_put_other (fun e2=>e (by injection e2 with _ e2;exact e2.symm)),hv x hx,if_neg e,Int.add_zero]
 ·rw[List.any_append];by_cases e:c.o.a=x
  ·subst e;rw[Maps.has_put_same hb.isMap (IE.key (SE ha))];simp
  ·rw[Maps.has_put_other (fun e2=>e (by injection e2 with _ e2;exact e2.symm)),hh x];simp[e]
def BL (pb:Nat)(v:Value):Option (DataW Unit×List MemPlace):=
 match v with
 |.pointer (some ⟨b,o,none⟩)=>if b=pb then some (.lit (.int .i64 o),[]) else none
 |_=>none
theorem hM_ (pb o:Nat):BL pb (.pointer (some ⟨pb,o,none⟩))=some (.lit (.int .i64 o),[]):=by simp[BL]
theorem eu_ {pb:Nat}{y:DataW Unit×List MemPlace}(h:BL pb v=some y):∃ o:Nat,v=.pointer (some ⟨pb,o,none⟩)∧y=(.lit (.int .i64 o),[]):=by
 unfold BL at h;split at h
 ·split at h
  ·subst_vars
   exact⟨_,rfl,(Zi h).symm⟩
  ·cases h
 ·cases h
end
section
open Go Go.RowKit Go.BigFrame Tryz
open Go.Maps (Keyed)
theorem p2_ {w:World}{b n pb:Nat}{D:DataW Unit}(h:w.ownsMap prog 9 (BL pb) b n D)(hn:n<maxLen){s:ByteArray}(hs:s.size<=maxLen)(o:Nat):
  ∃ w',(Instr.mapUpdate 62 (.map (some b)) (.string s) (.pointer (some ⟨pb,o,none⟩))).run prog w=.ok () w'∧w'.ownsMap prog 9 (BL pb) b (n+1) (D.put (.string s.data.toList) (.lit (.int .i64 (o:Int))))∧w.grownBy w' (some b):=
 h.update Ku underlying62 hn (Vm hs) (hM_ pb o)
theorem bC_ (B:Nat)(size next:Int)(ea:Option Addr)(en ec:Nat)(va:Option Addr)(vn vc:Nat)(ra:Option Addr)(rn rc:Nat)(la:Option Addr)(ln lc:Nat)(vs:List Vo)(pb po:Nat)(hpb:0<vn->va=some ⟨pb,po,none⟩)(w:World)(h2:Ek B w va vn vs)(z3:vn<=4194304)(z4:KV vs):
  Calls prog 24 #[.agg #[.int .i64 size,.int .i64 next,.slice ea en ec,.slice va vn vc,.slice ra rn rc,.slice la ln lc]] w fun x w'=>(∃ b D,x=.returned (.map (some b))∧w.heap.size<=b∧w'.ownsMap prog 9 (BL pb) b vn D∧Jf D po vs)∧Below w.heap.size w w':=by
 have ha:Hid (vs.length=vn):=h2.len;have ho:=@run_makeMap prog;go_enter func24,ntmps24;have C:=(Blk.new w #[.int .i64 size,.int .i64 next,.slice ea en ec,.slice va vn vc,.slice ra rn rc,.slice la ln lc] 33);have hb:Below w.heap.size w (w.alloc (.cells #[.int .i64 size,.int .i64 next,.slice ea en ec,.slice va vn vc,.slice ra rn rc,.slice la ln lc] 33)):=sM;have hg:(w.alloc (.cells #[.int .i64 size,.int .i64 next,.slice ea en ec,.slice va vn vc,.slice ra rn rc,.slice la ln lc] 33)).heap.size=w.heap.size+1:=sK;go_wp2_with fail;generalize w.alloc (.cells #[.int .i64 size,.int .i64 next,.slice ea en ec,.slice va vn vc,.slice ra rn rc,.slice la ln lc] 33)=W0 at *;have hM:=World.ownsMap_made W0 prog 9 (BL pb);have C1:=C.alloc (.map #[] 0);have hc:Below w.heap.size w (W0.alloc (.map #[] 0)):=hb.alloc sH _;clear C hb;generalize W0.alloc (.map #[] 0)=W1 at *;have hz:W0.heap.size=w.heap.size+1:=hg;clear hg;rw[hz] at hM;go_loopw [9] (fun ix wr=>∃ (k:Nat) (D:DataW Unit),k<=vn∧ix=.int .i64 k∧wr.ownsMap prog 9 (BL pb) (w.heap.size+1) k D∧Jf D po (vs.take k)∧Blk wr w.heap.size #[.int .i64 size,.int .i64 next,.slice ea en ec,.slice va vn vc,.slice ra rn rc,.slice la ln lc] 33∧Below w.heap.size w wr) (fun ix _=>vn-(intOf ix).toNat)
 case atStart=>exact⟨0,_,Zg _,rfl,hM,Jf.nil po,C1,hc⟩
 case round=>
  clear hM C1 hc;obtain⟨k,D,hk,rfl,hO,hV,C,hB⟩:=hrel;have d3:wr.drew.cell? ⟨w.heap.size,3,none⟩=some (.slice va vn vc):=C.cell 3;by_cases hlt:k<vn
  ·obtain⟨b,o,x,qa,qn,qc,rfl,hx,e0,e1,e2,e3,hP,_,_⟩:=b5_ (h2.below hB) hlt;obtain⟨rfl,rfl⟩:b=pb∧o=po:=by have:=hpb sH;simpa using this
   have e1':wr.drew.cell? ⟨b,o+k*4+1,none⟩=some (.string x.nm):=e1;have hm:(k:Int)<vn:=sH;have hn:(0:Int)<=k:=sH;obtain⟨m1,_,_⟩:=z4 x (Zc hx);have hl:(vs.take k).length=k:=by rw[Zz,ha.out];omega
   obtain⟨w3,r3,O3,g3⟩:=p2_ (w:=wr.drew) hO sO m1 (o+k*4);have he:=hV.put (hO.tidy Ku) x;rw[hl,<-bx_ hx] at he;have hf:wr.grownBy w3 (some (w.heap.size+1)):=(⟨rfl,rfl,rfl,Zd _,fun _ _ _=>rfl⟩:wr.grownBy wr.drew (some (w.heap.size+1))).andThen g3 (fun j hj=>by cases hj;exact .inr rfl);have hh:Below w.heap.size w w3:=hB.grown hf hB.size (fun j hj=>by cases hj;omega);have C3:Blk w3 w.heap.size #[.int .i64 size,.int .i64 next,.slice ea en ec,.slice (some ⟨b,o,none⟩) vn vc,.slice ra rn rc,.slice la ln lc] 33:=(hf.block _ C.lt sW).trans C;clear hx hpb;go_wp2_with fail;refine aE_ 11 sI sI ?_;simp only[ZP,Yx,ZR,YC];(repeat still_step);refine wpStill_nil ?_;go_wp2;go_roundw
   case rel=>exact⟨k+1,_,sH,sQ,O3,he,C3,hh⟩
   case measure=>simp[intOf];omega
  ·obtain rfl:k=vn:=sH;go_wp2;go_returns;rw[Zk (Zm ha.out)] at hV;exact⟨⟨w.heap.size+1,D,rfl,sH,hO,hV⟩,hB⟩
end
section
open Go Go.RowKit Go.BigFrame
theorem fi_ (b m:Nat)(f:Ow->Int)(id:Int)(nm:ByteArray)(pa:Option Addr)(pn pc:Nat)(ps:List Pt)(w:World)(hT:Br w b m f)(h:BH w pa pn ps)(hid:(Lit.int .i64 id).wf=true)(hnm:nm.size<=maxLen)(hps:∀ p∈ps,(Lit.int .i64 p.a).wf=true)(hn:pn<=1000000)(hm:m<=1000000)(hf:∀ o,-1000000000000<=f o∧f o<=1000000000000):
  Calls Tryz.prog 64 #[.map (some b),.int .i64 id,.agg #[.string nm,.slice pa pn pc]] w fun e w'=>e=.returned (.tuple #[])∧Br w' b (m+pn) (fun o=>f o+tot o (AX id nm ps))∧w.grownBy w' (some b):=by
 have qg:Hid (ps.length=pn):=h.len;go_enter Tryz.func64,Tryz.ntmps64;have C:=(Blk.new w #[.string nm,.slice pa pn pc] 125);have he:w.grownBy (w.alloc (.cells #[.string nm,.slice pa pn pc] 125)) (some b):=Yl w _ (some b);have T0:Br (w.alloc (.cells #[.string nm,.slice pa pn pc] 125)) b m f:=hT.kept (Yl w _ none) sK;have hu:=hT.lt;go_wp2_with fail;generalize w.alloc (.cells #[.string nm,.slice pa pn pc] 125)=W0 at *;go_loopw [11] (fun ix wr=>∃ (k:Nat),k<=pn∧ix=.int .i64 k∧Br wr b (m+k) (fun o=>f o+tot o (AX id nm (ps.take k)))∧Blk wr w.heap.size #[.string nm,.slice pa pn pc] 125∧w.grownBy wr (some b)) (fun ix _=>pn-(intOf ix).toNat)
 case atStart=>exact⟨0,Zg _,rfl,T0.congr (fun o=>by simp[AX,tot]),C,he⟩
 case round=>
  clear C he T0;obtain⟨k,hk,rfl,T2,C,hG⟩:=hrel;by_cases hlt:k<pn
  ·obtain⟨bb,oo,p,rfl,hp,c0,c1,c2⟩:=bi_ h hlt;have jI:=hT.apart c0;have d0:=hG.cell c0 ow;have d1:=hG.cell c1 ow;have d2:=hG.cell c2 ow;have hr:=hps p (Zc hp);have ha:Hid (AX id nm (ps.take (k+1))=AX id nm (ps.take k)++(if p.a==0 then [] else [⟨⟨p.a,id,nm⟩,1⟩])):=gI_ hp;have hy:=fw_ id nm (ps.take k);have hb:=cy_ (iU_ id nm (ps.take k));have hx:(ps.take k).length<=pn:=dg;have hv:(k:Int)<pn:=sH;have hw:(0:Int)<=k:=sH;clear c0 c1 c2 hp;have hc:w.grownBy (wr.alloc (.cells #[.int .i64 p.a,.int .i64 p.f,.int .i64 p.n] 156)) (some b):=hG.andThen (Yl wr _ (some b)) (fun j hj=>by cases hj;exact .inr rfl);have T3:Br (wr.alloc (.cells #[.int .i64 p.a,.int .i64 p.f,.int .i64 p.n] 156)) b (m+k) (fun o=>f o+tot o (AX id nm (ps.take k))):=T2.kept (Yl wr _ none) sK;have z0:(wr.alloc (.cells #[.int .i64 p.a,.int .i64 p.f,.int .i64 p.n] 156)).cell? ⟨wr.heap.size,0,none⟩=some (.int .i64 p.a):=sK;have C3:=C.alloc (.cells #[.int .i64 p.a,.int .i64 p.f,.int .i64 p.n] 156);clear T2 C
   cases hz:(p.a==0)
   ·have ho:(p.a != 0)=true:=by simp[bne,hz]
    rw[hz] at ha;simp only[Zj,if_false] at ha;go_wp2_with fail;generalize wr.alloc (.cells #[.int .i64 p.a,.int .i64 p.f,.int .i64 p.n] 156)=W at *;have T4:Br W.drew b (m+k) (fun o=>f o+tot o (AX id nm (ps.take k))):=T3;have q0:W.drew.cell? ⟨wr.heap.size,0,none⟩=some (.int .i64 p.a):=z0;have q1:W.drew.cell? ⟨w.heap.size,0,none⟩=some (.string nm):=C3.cell 0;have hq:WfO ⟨p.a,id,nm⟩:=⟨hr,hid,hnm⟩;obtain⟨st,w1,e1,e2,e3,g1,e4⟩:=T4.entry sO hq;have hC:-3000000000000<=f ⟨p.a,id,nm⟩+tot ⟨p.a,id,nm⟩ (AX id nm (ps.take k))∧f ⟨p.a,id,nm⟩+tot ⟨p.a,id,nm⟩ (AX id nm (ps.take k))<=3000000000000:=by
     have h1:=hf ⟨p.a,id,nm⟩;have h2:=hb ⟨p.a,id,nm⟩;omega
    obtain⟨w3,e5,T5,g3⟩:=e4 (f ⟨p.a,id,nm⟩+tot ⟨p.a,id,nm⟩ (AX id nm (ps.take k))+1) (Yz sH)
    have hg:Br w3 b (m+(k+1)) (fun o=>f o+tot o (AX id nm (ps.take (k+1)))):=T5.congr (fun o=>by
     rw[ha.out,bn_];simp only[tot];split
     ·rename_i hh;rw[aM_.1 hh];omega
     ·omega)
    have hl:w.grownBy w3 (some b):=(hc.andThen (row':=some b) (⟨rfl,rfl,rfl,Zd _,fun _ _ _=>rfl⟩:W.grownBy W.drew (some b)) (fun j hj=>by cases hj;exact .inr rfl)).andThen (row':=some b) g3 (fun j hj=>by cases hj;exact .inr rfl);have C5:Blk w3 w.heap.size #[.string nm,.slice (some ⟨bb,oo,none⟩) pn pc] 125:=(g3.block _ C3.lt sW).trans C3;clear e4 T4 T3 T5 C3 d0 d1 d2 ha hb hc;generalize f ⟨p.a,id,nm⟩+tot ⟨p.a,id,nm⟩ (AX id nm (ps.take k))=Z at *;obtain⟨hs,ht⟩:=hC;go_region;go_wp2;go_roundw
    case rel=>exact⟨k+1,sH,sQ,hg,C5,hl⟩
    case measure=>simp[intOf];omega
   ·have ho:(p.a != 0)=false:=by simp[bne,hz]
    rw[hz] at ha;simp only[if_true,Yy] at ha;have T4:Br (wr.alloc (.cells #[.int .i64 p.a,.int .i64 p.f,.int .i64 p.n] 156)) b (m+(k+1)) (fun o=>f o+tot o (AX id nm (ps.take (k+1)))):=(T3.mono sH).congr (fun o=>by rw[ha.out]);go_wp2;go_roundw
    case rel=>exact⟨k+1,sH,sQ,T4,C3,hc⟩
    case measure=>simp[intOf];omega
  ·obtain rfl:k=pn:=sH;exact se
end
section
open Go Go.RowKit Go.BigFrame Tryz
open Go.Maps (Keyed)
variable{s:ByteArray}
def WfV (l:List Vo):Prop:=∀ v∈l,(Lit.int .i64 v.id).wf=true∧∀ x∈v.its,x.nm.size<=maxLen∧∀ p∈x.ps,(Lit.int .i64 p.a).wf=true
theorem hN_ {l:List Vo}(h:WfV l):WfC (BI l):=by
 intro c hc;obtain⟨v,hv,hc⟩:=ZL.1 hc;obtain⟨x,hx,hc⟩:=ZL.1 hc;obtain⟨p,hp,rfl⟩:=ZT.1 hc;obtain⟨h1,h2⟩:=h v hv;obtain⟨h3,h4⟩:=h2 x hx;exact⟨h4 p (YG.1 hp).1,h1,h3⟩
theorem p3_ {t:ByteArray}(h:s.data.toList=t.data.toList):s=t:=by
 cases s;cases t;simp at h;rw[h]
theorem f0_ {v:Value}{kl:Lit}(h:keyOf prog 9 v=some kl):∃ s:ByteArray,v=.string s∧kl=.string s.data.toList:=by
 cases v<;>simp[keyOf,underlying9,mapKey] at h;exact⟨_,rfl,h.2.symm⟩
theorem hP_ {D:DataW Unit}{po pb:Nat}{vs:List Vo}(hV:Jf D po vs)(hn:(vs.map (·.nm.toList)).Nodup){o:Nat}{y:DataW Unit×List MemPlace}(hh:Maps.has D (.string s.data.toList)=true)(hR:BL pb (.pointer (some ⟨pb,o,none⟩))=some y)(hat:∀ zd,D.atKey (.string s.data.toList) zd=y.1):∃ i v,vs[i]?=some v∧v.nm=s∧o=po+i*4:=by
 rw[hV.has] at hh;obtain⟨v,hv,e⟩:=ZN.1 hh;obtain⟨i,hi,rfl⟩:=YS hv;have e':vs[i].nm=s:=p3_ dG;refine⟨i,vs[i],oK,e',?_⟩;have h1:=hV.val hn i vs[i] oK .nil;unfold CZ at h1;rw[e',hat] at h1;rw[hM_] at hR;obtain rfl:=Zi hR;injection h1 with h2;injection h2 with _ h3;omega
end
end Go.Proofs.YteejlahappbalaaGreatDoor
