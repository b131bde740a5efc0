/- What is laid on a file's parts, put into its volume. -/
import Derived.Test.YtkiceokhlceciaaGreatDoorU05
import Derived.Test.YtkiceokhlceciaaGreatDoorU10
import Derived.Test.YtkiceokhlceciaaGreatDoorU15
set_option maxHeartbeats 20000000
set_option maxRecDepth 100000
namespace Go.Proofs.YtkiceokhlceciaaGreatDoor
section
open Go Go.RowKit Go.BigFrame Tryz
variable{α:Type}{y:It}{B k:Nat}{w:World}{x:α}
theorem jr_ (B:Nat)(its:List It)(pa:Option Addr)(pn pc:Nat)(ea:Option Addr)(en ec:Nat)(e:List Ex)(w:World)(h:Bw B w pa pn its)(he:BZ w ea en e)(hstr:Dt e)(hen:en<=4194304)(hpn:pn<=4194304)(hI:Ms its):
  Calls prog 114 #[.slice pa pn pc,.slice ea en ec] w fun x w'=>x=.returned (.bool (itemsB its e))∧Below w.heap.size w w':=by
 have hm:Hid (its.length=pn):=h.len;have hR:Hid (itemsB its e=(decide (its.length<=5)&&igo e none its)):=rfl;generalize itemsB its e=R at *;by_cases h5:pn<=5
 ·rw[hm.out,decide_eq_true h5,Zp] at hR;go_enter func114,ntmps114
  go_wp2_with fail
  go_loopw [14] (fun ix wr=>∃ (k:Nat),k<=pn∧ix=.int .i64 k∧Hid (R=igo e (CO its k) (its.drop k))∧Below w.heap.size w wr) (fun ix _=>pn-(intOf ix).toNat)
  case atStart=>exact⟨0,Zg _,rfl,hR,Yg _ _⟩
  case round=>
   obtain⟨k,hk,rfl,hv,hB⟩:=hrel;by_cases hlt:k<pn
   ·obtain⟨b,o,x,qa,qn,qc,rfl,hx,c0,c1,hP,_,_,_⟩:=bO_ (h.below hB) hlt
    have hc:Hid (R=(nameB x.nm&&(match CO its k with | none=>true | some p=>bl p.nm.toList x.nm.toList)&&(AP x.ps e).isSome&&igo e (CO its (k+1)) (its.drop (k+1)))):=by
     show _=_;rw[hv.out,al_ hx,hB_,hx];rfl
    obtain⟨m1,m2⟩:=hI x (Zc hx);have hs:x.ps.length=qn:=hP.len;rw[hs] at m2;have hz:(k:Int)<pn:=by omega
    have hA:(0:Int)<=k:=by omega
    have ho:0<k->∃ y,CO its k=some y∧wr.cell? ⟨b,o+(k-1)*2,none⟩=some (.string y.nm):=fun h0=>by
     obtain⟨b',o',y,_,_,_,ht,hy,d0,_⟩:=bO_ (h.below hB) (show k-1<pn by omega);obtain⟨rfl,rfl⟩:b=b'∧o=o':=by simpa using ht
     exact⟨y,by unfold CO;rw[if_neg (by omega)];exact hy,d0⟩
    have hb:∀ u:World,Below wr.heap.size wr u->Below w.heap.size w u:=fun u hu=>Aa hB hu;clear hx hv hs;have hf:=fun u:World=>bT_ x.nm u m1;have hp:Below wr.heap.size wr (wr.alloc (.cells #[.string x.nm,.slice qa qn qc] 122)):=by go_grown
    have X:=Blk.new wr #[.string x.nm,.slice qa qn qc] 122;have X1:(wr.alloc (.cells #[.string x.nm,.slice qa qn qc] 122)).cell? ⟨wr.heap.size,1,none⟩=some (.slice qa qn qc):=X.cell 1;have x0:∀ g:Grw (wr.alloc (.cells #[.string x.nm,.slice qa qn qc] 122)),g.w.cell? ⟨wr.heap.size,0,none⟩=some (.string x.nm):=Ac (X.cell 0);have hD:=aA_ (wr.alloc (.cells #[.string x.nm,.slice qa qn qc] 122))
    cases hn:nameB x.nm
    ·rw[hn] at hc
     go_wp2_with fail
     refine ab_ (by kernel_rfl) (by kernel_rfl) ?_
     repeat (go_big_quiet_step (first | (go_at_call 113;have qq:=hf;rw[hn] at qq;exact am_ (qq _))))
     refine wpQuiet_nil ?_;intro w2 hx;have hg:=Aa hp (ah_ hx);clear hx;go_wp2;go_returns;exact⟨by rw[hc.out];simp,hb _ hg⟩
    ·rw[hn,Zp] at hc;have hl:∀ w2:World,Below (wr.alloc (.cells #[.string x.nm,.slice qa qn qc] 122)).heap.size (wr.alloc (.cells #[.string x.nm,.slice qa qn qc] 122)) w2->Below wr.heap.size wr w2∧w2.cell? ⟨wr.heap.size,1,none⟩=some (.slice qa qn qc):=fun w2 h2=>⟨Aa hp h2,Ab h2 X1⟩;by_cases hk0:0<k
     ·obtain⟨y,hy,d0⟩:=ho hk0;have y0:=Ac (Ab hp d0);rw[hy] at hc;have hq:decide ((0:Int)<(k:Int))=true:=decide_eq_true (by omega);have hC:((k:Int)-1).toNat=k-1:=by omega
      cases hr:bl y.nm.toList x.nm.toList
      ·simp only[hr,Zr] at hc
       go_wp2_with fail
       refine ab_ (by kernel_rfl) (by kernel_rfl) ?_
       repeat (go_big_quiet_step (first | (go_at_call 113;have qq:=hf;rw[hn] at qq;exact am_ (qq _))))
       refine wpQuiet_nil ?_;intro w2 hx;obtain⟨hg,x1'⟩:=hl _ (ah_ hx);clear hx;go_wp2;go_returns;exact⟨by rw[hc.out];rfl,hb _ hg⟩
      ·simp only[hr,Zp] at hc
       go_wp2_with fail
       refine ab_ (by kernel_rfl) (by kernel_rfl) ?_
       repeat (go_big_quiet_step (first | (go_at_call 113;have qq:=hf;rw[hn] at qq;exact am_ (qq _))))
       refine wpQuiet_nil ?_;intro w2 hx;obtain⟨hg,x1'⟩:=hl _ (ah_ hx);clear hx
       go_wp2_with fail
       refine (fO_ qa qn qc x.ps ea en ec e _ (hP.below hg) (he.below (hb _ hg)) hstr m2 hen).mono ?_;rintro e1 w3 ⟨ha,hh⟩;replace hh:=Aa hg hh
       cases hj:AP x.ps e with
       |none=>
        rw[hj] at ha hc;replace ha:e1=.returned (.tuple #[.string ⟨#[]⟩,.bool false]):=ha;subst ha;clear hj;go_wp2;go_returns;exact⟨by rw[hc.out];rfl,hb _ hh⟩
       |some s=>
        rw[hj] at ha hc;replace ha:e1=.returned (.tuple #[.string s,.bool true]):=ha;subst ha;clear hj;go_wp2;go_roundw
        case rel=>exact⟨k+1,by omega,by go_num,by show _=_;rw[hc.out];rfl,hb _ hh⟩
        case measure=>simp[intOf];omega
     ·have hw:CO its k=none:=by unfold CO;rw[if_pos (by omega)]
      have hq:decide ((0:Int)<(k:Int))=false:=YV (by omega);rw[hw] at hc;simp only[Zp] at hc
      go_wp2_with fail
      refine ab_ (by kernel_rfl) (by kernel_rfl) ?_
      repeat (go_big_quiet_step (first | (go_at_call 113;have qq:=hf;rw[hn] at qq;exact am_ (qq _))))
      refine wpQuiet_nil ?_;intro w2 hx;obtain⟨hg,x1'⟩:=hl _ (ah_ hx);clear hx
      go_wp2_with fail
      refine (fO_ qa qn qc x.ps ea en ec e _ (hP.below hg) (he.below (hb _ hg)) hstr m2 hen).mono ?_;rintro e1 w3 ⟨ha,hh⟩;replace hh:=Aa hg hh
      cases hj:AP x.ps e with
      |none=>
       rw[hj] at ha hc;replace ha:e1=.returned (.tuple #[.string ⟨#[]⟩,.bool false]):=ha;subst ha;clear hj;go_wp2;go_returns;exact⟨by rw[hc.out];rfl,hb _ hh⟩
      |some s=>
       rw[hj] at ha hc;replace ha:e1=.returned (.tuple #[.string s,.bool true]):=ha;subst ha;clear hj;go_wp2;go_roundw
       case rel=>exact⟨k+1,by omega,by go_num,by show _=_;rw[hc.out];rfl,hb _ hh⟩
       case measure=>simp[intOf];omega
   ·obtain rfl:k=pn:=by omega
    go_wp2;go_returns;exact⟨by rw[hv.out,Ze (Zm hm.out)];rfl,hB⟩
 ·rw[hm.out,YV h5,Zr] at hR;go_enter func114,ntmps114;go_wp2;go_returns;exact⟨by rw[hR.out];rfl,Yg _ _⟩
theorem kC_ (B:Nat)(size next:Int)(ea:Option Addr)(en ec:Nat)(va:Option Addr)(vn vc:Nat)(ra:Option Addr)(rn rc:Nat)(la:Option Addr)(ln lc:Nat)(ex:List Ex)(vs:List Vo)(w:World)(h1:BZ w ea en ex)(h2:Bp B w va vn vs)(z1:en<=4194304)(z2:Dt ex)(z3:vn<=4194304)(z4:JR vs):
  Calls prog 71 #[.agg #[.int .i64 size,.int .i64 next,.slice ea en ec,.slice va vn vc,.slice ra rn rc,.slice la ln lc]] w fun x w'=>x=.returned (.bool (EM next vs ex))∧Below w.heap.size w w':=by
 have he:Hid (vs.length=vn):=h2.len;have hR:Hid (EM next vs ex=(decide (vs.length<=6)&&vgo next ex 0 vs)):=rfl;generalize EM next vs ex=R at *;by_cases h6:vn<=6
 ·rw[he.out,decide_eq_true h6,Zp] at hR;go_enter func71,ntmps71;have C:=Blk.new w #[.int .i64 size,.int .i64 next,.slice ea en ec,.slice va vn vc,.slice ra rn rc,.slice la ln lc] 28
  go_wp2_with fail
  have hg:Below w.heap.size w (w.alloc (.cells #[.int .i64 size,.int .i64 next,.slice ea en ec,.slice va vn vc,.slice ra rn rc,.slice la ln lc] 28)):=by go_grown
  generalize w.alloc (.cells #[.int .i64 size,.int .i64 next,.slice ea en ec,.slice va vn vc,.slice ra rn rc,.slice la ln lc] 28)=W0 at *
  go_loopw [3,13] (fun lx ix wr=>∃ (k:Nat) (last:Int),k<=vn∧ix=.int .i64 k∧lx=.int .i64 last∧Hid (R=vgo next ex last (vs.drop k))∧Blk wr w.heap.size #[.int .i64 size,.int .i64 next,.slice ea en ec,.slice va vn vc,.slice ra rn rc,.slice la ln lc] 28∧Below w.heap.size w wr) (fun _ ix _=>vn-(intOf ix).toNat)
  case atStart=>exact⟨0,0,Zg _,rfl,rfl,hR,C,hg⟩
  case round=>
   clear hR C hg;obtain⟨k,last,hk,rfl,rfl,hI,C,hB⟩:=hrel;have d1:=C.cell 1;have d2:=C.cell 2;simp only[lgA,lgB,lgC] at d1 d2;by_cases hlt:k<vn
   ·obtain⟨b,o,x,qa,qn,qc,rfl,hx,e0,e1,e2,e3,hP,_,_⟩:=b5_ (h2.below hB) hlt
    have ha:Hid (R=(decide (last<x.id)&&decide (x.id<next)&&nameB x.nm&&itemsB x.its ex&&vgo next ex x.id (vs.drop (k+1)))):=by
     show _=_;rw[hI.out,al_ hx];rfl
    obtain⟨m1,m2,m3⟩:=z4 x (Zc hx);rw[hP.len] at m2;have hj:(k:Int)<vn:=by omega
    have hl:(0:Int)<=k:=by omega
    clear hx hI;have hc:Below wr.heap.size wr (wr.alloc (.cells #[.int .i64 x.id,.string x.nm,.bool x.fx,.slice qa qn qc] 80)):=by go_grown
    have X:=Blk.new wr #[.int .i64 x.id,.string x.nm,.bool x.fx,.slice qa qn qc] 80;have d1':=Ab hc d1;have d2':=Ab hc d2;clear d1 d2;by_cases hid:last<x.id
    ·by_cases hnb:x.id<next
     ·rw[decide_eq_true hid,decide_eq_true hnb,Zp,Zp] at ha
      cases hf:nameB x.nm
      ·rw[hf] at ha
       go_wp2_with fail
       refine (bT_ x.nm _ m1).mono ?_;rintro e w2 ⟨rfl,rfl⟩;rw[hf];go_wp2;go_returns;exact⟨by rw[ha.out];rfl,Aa hB hc⟩
      ·rw[hf,Zp] at ha
       go_wp2_with fail
       refine (bT_ x.nm _ m1).mono ?_;rintro e w2 ⟨rfl,rfl⟩;rw[hf]
       go_wp2_with fail
       refine (jr_ B x.its qa qn qc ea en ec ex _ (hP.below hc) ((h1.below hB).below hc) z2 z1 m2 m3).mono ?_;rintro e w2 ⟨rfl,hb⟩;have X2:=(X.below hb).cell 0;simp only[Yp,Yo] at X2;replace hb:=Aa hc hb;have C2:=C.below hb;replace hb:=Aa hB hb
       cases hh:itemsB x.its ex
       ·rw[hh] at ha;go_wp2;go_returns;exact⟨by rw[ha.out];rfl,hb⟩
       ·rw[hh,Zp] at ha;go_wp2;go_roundw
        case rel=>exact⟨k+1,x.id,by omega,by go_num,rfl,ha,C2,hb⟩
        case measure=>simp[intOf];omega
     ·rw[YV hnb] at ha;simp only[Bool.and_false,Zr] at ha;go_wp2;go_returns;exact⟨by rw[ha.out];rfl,Aa hB hc⟩
    ·rw[YV hid] at ha;simp only[Zr] at ha;go_wp2;go_returns;exact⟨by rw[ha.out];rfl,Aa hB hc⟩
   ·obtain rfl:k=vn:=by omega
    go_wp2;go_returns;exact⟨by rw[hI.out,Ze (Zm he.out)];rfl,hB⟩
 ·rw[he.out,YV h6,Zr] at hR;go_enter func71,ntmps71;go_wp2;go_returns;exact⟨by rw[hR.out];rfl,by go_grown⟩
end
section
open Go.Shelf Go.RowKit Go.Lib Go.Sort Tryz
def iP_:Go.Shelf.Ren:=⟨fun | 6=>150 | 15=>173 | 14=>172 | 28=>194 | 29=>156 | 20=>186 | 21=>187 | 22=>188 | 23=>189 | 24=>190 | 25=>191 | 26=>192 | 27=>193 | 46=>198 | 47=>199 | 48=>200 | 49=>201 | 50=>202 | 57=>203 | n=>n,fun | 22=>26 | 24=>68 | 25=>189 | 3=>3 | 39=>85 | 0=>0 | 53=>48 | 55=>110 | 4=>4 | 46=>216 | 45=>215 | 50=>220 | 5=>5 | 9=>9 | 66=>226 | 70=>229 | 76=>235 | 77=>236 | n=>n,fun | n=>n⟩
theorem Mh:SlLaysF0.n6 prog iP_ where
 mixed:=by kernel_rfl
 f6:=⟨Tryz.f150.name,by decide +kernel,func150.trans (congrArg some (by kernel_rfl))⟩
 f14:=⟨Tryz.f172.name,by decide +kernel,func172.trans (congrArg some (by kernel_rfl))⟩
 f15:=func173.trans (congrArg some (by kernel_rfl))
 f20:=⟨Tryz.f186.name,by decide +kernel,func186.trans (congrArg some (by kernel_rfl))⟩
 f21:=⟨Tryz.f187.name,by decide +kernel,func187.trans (congrArg some (by kernel_rfl))⟩
 f22:=⟨Tryz.f188.name,by decide +kernel,func188.trans (congrArg some (by kernel_rfl))⟩
 f23:=⟨Tryz.f189.name,by decide +kernel,func189.trans (congrArg some (by kernel_rfl))⟩
 f24:=⟨Tryz.f190.name,by decide +kernel,func190.trans (congrArg some (by kernel_rfl))⟩
 f25:=⟨Tryz.f191.name,by decide +kernel,func191.trans (congrArg some (by kernel_rfl))⟩
 f26:=⟨Tryz.f192.name,by decide +kernel,func192.trans (congrArg some (by kernel_rfl))⟩
 f27:=⟨Tryz.f193.name,by decide +kernel,func193.trans (congrArg some (by kernel_rfl))⟩
 f28:=func194.trans (congrArg some (by kernel_rfl))
 f29:=func156.trans (congrArg some (by kernel_rfl))
 f46:=⟨Tryz.f198.name,by decide +kernel,func198.trans (congrArg some (by kernel_rfl))⟩
 f47:=func199.trans (congrArg some (by kernel_rfl))
 f48:=func200.trans (congrArg some (by kernel_rfl))
 f49:=⟨Tryz.f201.name,by decide +kernel,func201.trans (congrArg some (by kernel_rfl))⟩
 f50:=⟨Tryz.f202.name,by decide +kernel,func202.trans (congrArg some (by kernel_rfl))⟩
 f57:=⟨Tryz.f203.name,by decide +kernel,func203.trans (congrArg some (by kernel_rfl))⟩
 t0:=underlying0
 a0:=Tryz.isAgg0
 z0:=Tryz.sizeOf0
 v0:=Tryz.zeroValue0
 t3:=underlying3
 a3:=Tryz.isAgg3
 z3:=Tryz.sizeOf3
 v3:=Tryz.zeroValue3
 t4:=underlying4
 a4:=Tryz.isAgg4
 z4:=Tryz.sizeOf4
 v4:=Tryz.zeroValue4
 t5:=underlying5
 a5:=Tryz.isAgg5
 z5:=Tryz.sizeOf5
 v5:=Tryz.zeroValue5
 t9:=underlying9
 a9:=Tryz.isAgg9
 z9:=Tryz.sizeOf9
 v9:=Tryz.zeroValue9
 t22:=underlying26
 a22:=Tryz.isAgg26
 z22:=Tryz.sizeOf26
 v22:=Tryz.zeroValue26
 t25:=underlying189
 a25:=Tryz.isAgg189
 z25:=Tryz.sizeOf189
 v25:=Tryz.zeroValue189
 t39:=underlying85
 a39:=Tryz.isAgg85
 z39:=Tryz.sizeOf85
 v39:=Tryz.zeroValue85
 t45:=underlying215
 a45:=Tryz.isAgg215
 z45:=Tryz.sizeOf215
 v45:=Tryz.zeroValue215
 t46:=underlying216
 a46:=Tryz.isAgg216
 z46:=Tryz.sizeOf216
 v46:=Tryz.zeroValue216
 t50:=underlying220
 a50:=Tryz.isAgg220
 z50:=Tryz.sizeOf220
 v50:=Tryz.zeroValue220
 t53:=underlying48
 a53:=Tryz.isAgg48
 z53:=Tryz.sizeOf48
 v53:=Tryz.zeroValue48
 t55:=underlying110
 a55:=Tryz.isAgg110
 z55:=Tryz.sizeOf110
 v55:=Tryz.zeroValue110
 t66:=underlying226
 a66:=Tryz.isAgg226
 z66:=Tryz.sizeOf226
 v66:=Tryz.zeroValue226
 t70:=underlying229
 a70:=Tryz.isAgg229
 z70:=Tryz.sizeOf229
 v70:=Tryz.zeroValue229
 t76:=underlying235
 a76:=Tryz.isAgg235
 z76:=Tryz.sizeOf235
 v76:=Tryz.zeroValue235
 t77:=underlying236
 a77:=Tryz.isAgg236
 z77:=Tryz.sizeOf236
 v77:=Tryz.zeroValue236
end
section
open Go.ChangeMaps Go.MapKept Go.WideElems
open Go.Maps (Keyed)
variable{H α:Type}{b:Nat}{P:Program}{e k t:TypeId}{w:World}
theorem js_ {R:Value->Option (DataW H×List MemPlace)}{es:Array MapEntry}{clock:Nat}(K:WideMaps.KeyLaw P k)(ht:P.underlying t=some (.map k e)){z:Value}(hz:∀ u:World,(zeroValue e).run P u=.ok z u)(hb:w.heap[b]?=some (.map es clock))(F:Fit P k R es clock)
  {key:Value}{kl:Lit}(hkey:keyOf P k key=some kl):
  ∃ (v0:Value) (st:Value) (w1:World),(Instr.mapEntry t (.map (some b)) key).run P w=.ok (.tuple #[v0,st]) w1∧(Instr.mapUpdate t (.map (some b)) key v0).run P w=.ok () w1∧(Instr.lookup t (.map (some b)) key false).run P w=.ok v0 w:=by
 rcases K.find w hkey es.toList F.keys with⟨h1,h2⟩ | ⟨j,e0,h1,h2,h3⟩
 ·refine⟨z,goInt clock,setBlock w b (.map (es.push ⟨key,z,clock⟩) (clock+1)),?_,?_,?_⟩
  ·simp[Instr.mapEntry,YY ht,MapKept.run_getObj_map hb,K.check w false hkey,h1,hz,MapKept.run_setObj_map _ hb,Result.andThen,setBlock]
  ·simp[Instr.mapUpdate,YY ht,MapKept.run_getObj_map hb,K.check w false hkey,h1,MapKept.run_setObj_map _ hb,Result.andThen,setBlock]
  ·simp[Instr.lookup,YY ht,MapKept.run_getObj_map hb,K.check w _ hkey,h1,hz,Result.andThen]
 ·have hj:es[j]?=some e0:=by simpa using h2
  have hc:es.modify j (fun e=>{e with key:=key})=es:=by
   apply Array.ext';rw[Array.toList_modify,modify_eq_set _ _ _ _ h2]
   have:({e0 with key:=key}:MapEntry)=e0:=by rw[<-h3]
   rw[this];exact set_self _ _ _ h2
  have ha:es.modify j (fun e'=>{e' with key:=key,val:=e0.val})=es:=by
   apply Array.ext';rw[Array.toList_modify,modify_eq_set _ _ _ _ h2]
   have:({e0 with key:=key,val:=e0.val}:MapEntry)=e0:=by rw[<-h3]
   rw[this];exact set_self _ _ _ h2
  refine⟨e0.val,goInt e0.born,setBlock w b (.map es clock),?_,?_,?_⟩
  ·simp[Instr.mapEntry,YY ht,MapKept.run_getObj_map hb,K.check w false hkey,h1,hj,h3,K.stays w hkey,hc,MapKept.run_setObj_map _ hb,Result.andThen,setBlock]
  ·simp[Instr.mapUpdate,YY ht,MapKept.run_getObj_map hb,K.check w false hkey,h1,hj,h3,K.stays w hkey,ha,MapKept.run_setObj_map _ hb,Result.andThen,setBlock]
  ·simp[Instr.lookup,YY ht,MapKept.run_getObj_map hb,K.check w _ hkey,h1,Result.andThen]
theorem g5_ {m:Sem α}{x y:α}{u v:World}(h:m.run P w=.ok x u)(h':m.run P w=.ok y v):x=y∧u=v:=by
 rw[h] at h'
 cases h'
 exact⟨rfl,rfl⟩
theorem et_ (w:World)(b:Nat)(x y:Obj):setBlock (setBlock w b x) b y=setBlock w b y:=by
 simp[setBlock]
theorem nr_ {q:IntKind}{n:Nat}{D:DataW H}(h:w.ownsMap P k (plainElem P e) b n D)(K:WideMaps.KeyLaw P k)(ht:P.underlying t=some (.map k e))(he:P.underlying e=some (.int q))(hz:∀ u:World,(zeroValue e).run P u=.ok (.int q 0) u)(hn:n+1<maxLen)
  {key:Value}{kl:Lit}(hkey:keyOf P k key=some kl):
  ∃ (c:Int) (st:Nat) (w1:World),(Instr.lookup t (.map (some b)) key false).run P w=.ok (.int q c) w∧D.atKey kl (.lit (.int q 0))=.lit (.int q c)∧(Lit.int q c).wf=true∧
   (Instr.mapEntry t (.map (some b)) key).run P w=.ok (.tuple #[.int q c,.int .i64 st]) w1∧(Instr.lookup t (.map (some b)) key false).run P w1=.ok (.int q c) w1∧w.grownBy w1 (some b)∧w1.heap.size=w.heap.size∧
   ∀ x:Int,(Lit.int q x).wf=true->∃ w3,(Instr.entryStore t (.map (some b)) (.int .i64 st) (.int q x)).run P w1=.ok () w3∧w3.ownsMap P k (plainElem P e) b (n+1) (D.put kl (.lit (.int q x)))∧w.grownBy w3 (some b)∧w3.heap.size=w.heap.size:=by
 have K':=Keyed.of_law K;have h0:=h;obtain⟨es,clock,hb,F,hs,hD⟩:=h;obtain⟨c,hl,hj,hc⟩:=h0.lookup_int K' ht he (hz w) hkey;obtain⟨v0,st',hu,hf,hh,hg⟩:=js_ K ht hz hb F hkey;obtain⟨v1,st,es1,clock1,hE,_,hS⟩:=entry_then_store K ht hz hb F hkey;obtain⟨rfl,_⟩:=g5_ hg hl;obtain⟨e1,rfl⟩:=g5_ hf hE;obtain⟨rfl,rfl⟩:Value.int q c=v1∧st'=goInt st:=by simpa using e1
 obtain⟨u1,hp,own1,g1⟩:=h0.update K' ht (by omega) hkey (plainElem_int he hc);obtain⟨_,rfl⟩:=g5_ hh hp;obtain⟨c',hm,ha,_⟩:=own1.lookup_int K' ht he (hz _) hkey
 have hk:c'=c:=by
  rw[Maps.atKey_put_same h0.isMap (K'.key hkey)] at ha;injection ha with e2;injection e2 with _ e3;exact e3.symm
 subst hk;refine⟨c',st,_,hl,hj,hc,hE,hm,g1,by simp[setBlock],fun x hx=>?_⟩;obtain⟨es',clock',ho,hr⟩:=hS (setBlock w b (.map es1 clock1)) (.int q x) (heap_setBlock_same hb _);obtain⟨u2,hq,own2,g2⟩:=h0.update K' ht (by omega) hkey (plainElem_int he hx);obtain⟨_,rfl⟩:=g5_ hr hq;refine⟨_,ho,?_,?_,?_⟩
 ·rw[et_];exact own2
 ·rw[et_];exact g2
 ·simp[setBlock]
end
section
open Go Go.RowKit Go.BigFrame Tryz
open Go.Maps (Keyed)
variable{b n:Nat}{o:Ow}{w:World}
theorem IF:Keyed prog 66:=Keyed.of_law Mz
theorem Mn (w:World):(zeroValue 2).run prog w=.ok (.int .i64 0) w:=by kernel_rfl
theorem Bo.apart {f:Ow->Int}(h:Bo w b n f){bb o:Nat}{v:Value}(hc:w.cell? ⟨bb,o,none⟩=some v):bb≠b:=by
 obtain⟨D,⟨es,clock,hb,_⟩,_⟩:=h;rintro rfl;simp[World.cell?,hb] at hc
theorem Bo.made (w:World):Bo (w.alloc (.map #[] 0)) w.heap.size 0 (fun _=>0):=
 ⟨_,World.ownsMap_made _ _ _ _,fun _ _=>rfl⟩
theorem Bo.congr {f g:Ow->Int}(h:Bo w b n f)(e:∀ o,f o=g o):Bo w b n g:=by
 obtain⟨D,h,h2⟩:=h;exact⟨D,h,fun o ho=>by rw[h2 o ho,e]⟩
theorem Bo.entry {f:Ow->Int}(h:Bo w b n f)(hn:n+1<maxLen)(ho:WfO o):
  ∃ (st:Nat) (w1:World),(Instr.lookup 158 (.map (some b)) (.agg #[.int .i64 o.a,.int .i64 o.v,.string o.f]) false).run prog w=.ok (.int .i64 (f o)) w∧
   (Instr.mapEntry 158 (.map (some b)) (.agg #[.int .i64 o.a,.int .i64 o.v,.string o.f])).run prog w=.ok (.tuple #[.int .i64 (f o),.int .i64 st]) w1∧(Instr.lookup 158 (.map (some b)) (.agg #[.int .i64 o.a,.int .i64 o.v,.string o.f]) false).run prog w1=.ok (.int .i64 (f o)) w1∧w.grownBy w1 (some b)∧
   ∀ x:Int,(Lit.int .i64 x).wf=true->∃ w3,(Instr.entryStore 158 (.map (some b)) (.int .i64 st) (.int .i64 x)).run prog w1=.ok () w3∧Bo w3 b (n+1) (fun o'=>if BV o o'=true then x else f o')∧w.grownBy w3 (some b):=by
 obtain⟨D,ha,hv⟩:=h;obtain⟨c,st,w1,h1,h2,_,h4,h5,h6,_,h7⟩:=nr_ ha Mz underlying158 underlying2 Mn hn (KP ho)
 have hc:c=f o:=by
  rw[hv o ho] at h2;injection h2 with e2;injection e2 with _ e3;exact e3.symm
 subst hc;refine⟨st,w1,h1,h4,h5,h6,fun x hx=>?_⟩;obtain⟨w3,g1,g2,g3,_⟩:=h7 x hx;refine⟨w3,g1,⟨_,g2,fun o' hb=>?_⟩,g3⟩;by_cases e:o=o'
 ·subst e;rw[Maps.atKey_put_same ha.isMap (IF.key (KP ho))];dsimp only;rw[if_pos (a3_ o)]
 ·rw[Maps.atKey_put_other (fun e2=>e (mO_ ho hb e2.symm)),hv o' hb];dsimp only;rw[if_neg (fun e2=>e (aM_.1 e2))]
end
section
open Go Go.RowKit Go.BigFrame
theorem fh_ {l:List Ct}{k:Nat}{p:Ct}(h:l[k]?=some p)(o:Ow):tot o (l.take (k+1))=tot o (l.take k)+(if BV p.o o=true then p.n else 0):=by
 rw[ZK,h,bn_];simp[tot]
theorem eR_ {M:Int}(hM:0<=M):∀ {l:List Ct},(∀ x∈l,-M<=x.n∧x.n<=M)->∀ o,-(M*l.length)<=tot o l∧tot o l<=M*l.length
 |[],_,_=>by simp[tot]
 |c::r,h,o=>by
  have h1:=eR_ hM (l:=r) (fun x hx=>h x (by simp[hx])) o;have h2:=h c (by simp);simp only[tot,Zw];rw[show ((r.length+1:Nat):Int)=r.length+1 by omega,Int.mul_add,Int.mul_one];split<;>omega
def WfC (l:List Ct):Prop:=∀ c∈l,WfO c.o
theorem dF_ (b m:Nat)(f:Ow->Int)(a:Option Addr)(n cap:Nat)(l:List Ct)(w:World)(hT:Bo w b m f)(h:A8 w a n l)(hw:WfC l)(hn:n<=1000000)(hm:m<=1000000)(hb:∀ x∈l,-1000000<=x.n∧x.n<=1000000)(hf:∀ o,-1000000000000<=f o∧f o<=1000000000000):
  Calls Tryz.prog 117 #[.map (some b),.slice a n cap] w fun e w'=>e=.returned (.tuple #[])∧Bo w' b (m+n) (fun o=>f o+tot o l)∧w.grownBy w' (some b):=by
 have hc:Hid (l.length=n):=h.len;go_enter Tryz.func117,Tryz.ntmps117
 go_wp2_with fail
 go_loopw [8] (fun ix wr=>∃ (k:Nat),k<=n∧ix=.int .i64 k∧Bo wr b (m+k) (fun o=>f o+tot o (l.take k))∧w.grownBy wr (some b)) (fun ix _=>n-(intOf ix).toNat)
 case atStart=>exact⟨0,Zg _,rfl,hT.congr (fun o=>by simp[tot]),⟨rfl,rfl,rfl,Zd _,fun _ _ _=>rfl⟩⟩
 case round=>
  obtain⟨k,hk,rfl,T2,hG⟩:=hrel;by_cases hlt:k<n
  ·obtain⟨bb,oo,p,rfl,hp,c0,c1,c2,c3⟩:=aN_ h hlt;have ha:=hT.apart c0;have d0:=hG.cell c0 (by simpa using ha);have d1:=hG.cell c1 (by simpa using ha);have d2:=hG.cell c2 (by simpa using ha);have d3:=hG.cell c3 (by simpa using ha);have hs:=hw p (Zc hp);have ho:=hb p (Zc hp);have he:=fh_ hp;have hg:=eR_ (M:=1000000) (by omega) (l:=l.take k) (fun x hx=>hb x (ZX hx));clear c0 c1 c2 c3
   go_wp2_with fail
   have z0:(wr.alloc (.cells #[.int .i64 p.o.a,.int .i64 p.o.v,.string p.o.f,.int .i64 p.n] 68)).cell? ⟨wr.heap.size,0,none⟩=some (.int .i64 p.o.a):=by simp
   have z1:(wr.alloc (.cells #[.int .i64 p.o.a,.int .i64 p.o.v,.string p.o.f,.int .i64 p.n] 68)).cell? ⟨wr.heap.size,1,none⟩=some (.int .i64 p.o.v):=by simp
   have z2:(wr.alloc (.cells #[.int .i64 p.o.a,.int .i64 p.o.v,.string p.o.f,.int .i64 p.n] 68)).cell? ⟨wr.heap.size,2,none⟩=some (.string p.o.f):=by simp
   have z3:(wr.alloc (.cells #[.int .i64 p.o.a,.int .i64 p.o.v,.string p.o.f,.int .i64 p.n] 68)).cell? ⟨wr.heap.size,3,none⟩=some (.int .i64 p.n):=by simp
   have hr:w.grownBy (wr.alloc (.cells #[.int .i64 p.o.a,.int .i64 p.o.v,.string p.o.f,.int .i64 p.n] 68)) (some b):=hG.andThen (Yl wr _ (some b)) (fun j hj=>by cases hj;exact .inr rfl);have T3:Bo (wr.alloc (.cells #[.int .i64 p.o.a,.int .i64 p.o.v,.string p.o.f,.int .i64 p.n] 68)) b (m+k) (fun o=>f o+tot o (l.take k)):=T2.kept (Yl wr _ none) (by simp);generalize wr.alloc (.cells #[.int .i64 p.o.a,.int .i64 p.o.v,.string p.o.f,.int .i64 p.n] 68)=W at *;have T4:Bo W.drew b (m+k) (fun o=>f o+tot o (l.take k)):=T3;obtain⟨st,w1,e1,e2,e3,g1,e4⟩:=T4.entry (by unfold maxLen;omega) hs;have hv:((l.take k).length:Int)<=n:=by simp;omega
   have hC:-3000000000000<=f p.o+tot p.o (l.take k)∧f p.o+tot p.o (l.take k)<=3000000000000:=by
    have h1:=hf p.o;have h2:=hg p.o;omega
   obtain⟨w3,e5,T5,g3⟩:=e4 (f p.o+tot p.o (l.take k)+p.n) (Yz (by omega));clear e4 T4 T3 T2 d0 d1 d2 d3 hg
   have hl:Bo w3 b (m+(k+1)) (fun o=>f o+tot o (l.take (k+1))):=T5.congr (fun o=>by
    rw[he o];split
    ·rename_i hh;rw[aM_.1 hh];omega
    ·omega)
   clear T5 he;generalize f p.o+tot p.o (l.take k)=C at *;obtain⟨ht,hu⟩:=hC;obtain⟨hy,hz⟩:=ho;have hq:w.grownBy w3 (some b):=(hr.andThen (row':=some b) (⟨rfl,rfl,rfl,Zd _,fun _ _ _=>rfl⟩:W.grownBy W.drew (some b)) (fun j hj=>by cases hj;exact .inr rfl)).andThen (row':=some b) g3 (fun j hj=>by cases hj;exact .inr rfl)
   go_region
   go_wp2;go_roundw
   case rel=>exact⟨k+1,by omega,by go_num,hl,hq⟩
   case measure=>simp[intOf];omega
  ·obtain rfl:k=n:=by omega
   go_wp2;go_returns;refine⟨rfl,?_,hG⟩;rw[Zk (by rw[hc.out];exact Zd _)] at T2;exact T2
end
section
open Go Go.RowKit Go.BigFrame Tryz
open Go.Sort (SWO PermIn SortedIn grow alloc_eq_grow grow_grow)
variable{α:Type}
theorem MY (h:Array α)(a b c:α):((h.push a).push b).push c=h++#[a,b,c]:=Array.ext' (by simp)
theorem MX (h os:Array α)(a b:α):(h.push a).push b++os=h++(#[a,b]++os):=Array.ext' (by simp)
theorem fW_ (p q:Ow)(w:World):
  Calls prog 152 #[.agg #[.int .i64 p.a,.int .i64 p.v,.string p.f],.agg #[.int .i64 q.a,.int .i64 q.v,.string q.f]] w fun e w'=>e=.returned (.int .i64 (EJ p q))∧∃ n os,w'=grow (w.drewN n) os:=by
 have ha:Hid (EJ p q=or3 (Fq p.a q.a) (Fq p.v q.v) (HL p.f q.f)):=rfl;generalize EJ p q=R at *;obtain⟨a,v,f⟩:=p;obtain⟨b,u,g⟩:=q;simp only at ha;go_enter func152,ntmps152
 go_wp2_with fail
 have x0:((w.alloc (.cells #[.int .i64 a,.int .i64 v,.string f] 66)).alloc (.cells #[.int .i64 b,.int .i64 u,.string g] 66)).cell? ⟨w.heap.size,0,none⟩=some (.int .i64 a):=Al _ (by simp);have x1:((w.alloc (.cells #[.int .i64 a,.int .i64 v,.string f] 66)).alloc (.cells #[.int .i64 b,.int .i64 u,.string g] 66)).cell? ⟨w.heap.size,1,none⟩=some (.int .i64 v):=Al _ (by simp);have x2:((w.alloc (.cells #[.int .i64 a,.int .i64 v,.string f] 66)).alloc (.cells #[.int .i64 b,.int .i64 u,.string g] 66)).cell? ⟨w.heap.size,2,none⟩=some (.string f):=Al _ (by simp);have y0:((w.alloc (.cells #[.int .i64 a,.int .i64 v,.string f] 66)).alloc (.cells #[.int .i64 b,.int .i64 u,.string g] 66)).cell? ⟨w.heap.size+1,0,none⟩=some (.int .i64 b):=by simp
 have y1:((w.alloc (.cells #[.int .i64 a,.int .i64 v,.string f] 66)).alloc (.cells #[.int .i64 b,.int .i64 u,.string g] 66)).cell? ⟨w.heap.size+1,1,none⟩=some (.int .i64 u):=by simp
 have y2:((w.alloc (.cells #[.int .i64 a,.int .i64 v,.string f] 66)).alloc (.cells #[.int .i64 b,.int .i64 u,.string g] 66)).cell? ⟨w.heap.size+1,2,none⟩=some (.string g):=by simp
 have hb:Hid (∀ o,(((w.alloc (.cells #[.int .i64 a,.int .i64 v,.string f] 66)).alloc (.cells #[.int .i64 b,.int .i64 u,.string g] 66)).alloc o).drew=grow (w.drewN 1) #[.cells #[.int .i64 a,.int .i64 v,.string f] 66,.cells #[.int .i64 b,.int .i64 u,.string g] 66,o]):=fun o=>by
  simp only[World.alloc,World.drew,World.drewN,grow];rw[MY]
 generalize (w.alloc (.cells #[.int .i64 a,.int .i64 v,.string f] 66)).alloc (.cells #[.int .i64 b,.int .i64 u,.string g] 66)=W0 at *
 go_region_held3 (fun u'=>u'.cell? ⟨w.heap.size,0,none⟩=some (.int .i64 a)∧u'.cell? ⟨w.heap.size,1,none⟩=some (.int .i64 v)∧u'.cell? ⟨w.heap.size,2,none⟩=some (.string f)∧u'.cell? ⟨w.heap.size+1,0,none⟩=some (.int .i64 b)∧u'.cell? ⟨w.heap.size+1,1,none⟩=some (.int .i64 u)∧u'.cell? ⟨w.heap.size+1,2,none⟩=some (.string g)) (go_keep)
  (first | (go_at_call 175;refine (dZ_ _ _ _).mono ?_;rintro e w2 ⟨rfl,rfl⟩) | (go_at_call 176;refine (d0_ _ _ _).mono ?_;rintro e w2 ⟨rfl,rfl⟩) | (go_at_call 174;refine (mx_ (Fq a b) (Fq v u) (HL f g) W0.heap.size 3 _ (J7 W0 _ _ _ _).1 (J7 W0 _ _ _ _).2.1 (J7 W0 _ _ _ _).2.2).mono ?_;rintro e w2 ⟨rfl,rfl⟩))
 go_wp2;go_returns;go_light;exact⟨a4_ ha.out.symm,1,_,hb.out _⟩
theorem lR_ (x y:Ct)(w:World):
  Calls prog 151 #[.agg #[.int .i64 x.o.a,.int .i64 x.o.v,.string x.o.f,.int .i64 x.n],.agg #[.int .i64 y.o.a,.int .i64 y.o.v,.string y.o.f,.int .i64 y.n]] w fun e w'=>e=.returned (.int .i64 (EJ x.o y.o))∧∃ n os,w'=grow (w.drewN n) os:=by
 obtain⟨⟨a,v,f⟩,n⟩:=x;obtain⟨⟨b,u,g⟩,m⟩:=y;go_enter func151,ntmps151
 go_wp2_with fail
 refine (fW_ ⟨a,v,f⟩ ⟨b,u,g⟩ _).mono ?_;rintro e w1 ⟨rfl,n1,os,rfl⟩;go_wp2;go_returns;go_light;refine⟨rfl,n1,#[.cells #[.int .i64 a,.int .i64 v,.string f,.int .i64 n] 68,.cells #[.int .i64 b,.int .i64 u,.string g,.int .i64 m] 68]++os,?_⟩;simp only[World.alloc,World.drewN,grow];rw[MX]
theorem or_:SWO (Go.Proofs.ltOf (fun x y:Ct=>EJ x.o y.o)):=by
 have e:∀ x y:Ct,Go.Proofs.ltOf (fun x y:Ct=>EJ x.o y.o) x y=Bk x.o y.o:=fun x y=>i6_ x.o y.o;refine⟨fun x=>?_,fun x y z=>?_,fun x y z=>?_⟩
 ·rw[e];exact gD_ _
 ·rw[e,e,e];exact b7_
 ·rw[e,e,e];intro h1 h2;by_cases h3:y.o=z.o
  ·rw[<-h3];exact h1
  ·by_cases h4:x.o=y.o
   ·rw[h4];exact h2
   ·exact ly_ (b7_ (ct_ h2 h3) (ct_ h1 h4))
end
section
open Go Go.RowKit Go.BigFrame
open Go.Sort (SWO PermIn SortedIn grow putRow mapBlock onCells putCells putRowK flatK HoldsK)
open Go.Proofs (sortWorldK)
variable{α:Type}{c:Array Value}{l:List Ct}{b n:Nat}{w:World}
theorem p1_ [Inhabited α]{enc:α->List Value}{k:Nat}{t:TypeId}(h:Blk w b c t)(n off:Nat)(d:Array α)(os:Array Obj):
  Blk (sortWorldK enc k w b off n d os) b (putCells id off (flatK enc k d) c) t:=by
 have hb:=h.lt;unfold Blk at *;simp only[sortWorldK,putRowK,putRow,mapBlock,grow,Go.Sort.ahead];rw[Array.getElem?_append_left (by simpa using hb),Array.getElem?_modify,if_pos rfl,h];rfl
theorem os_ [Inhabited α](enc:α->List Value)(k:Nat)(w:World)(b off n:Nat)(d:Array α)(os:Array Obj):
  w.grownBy (sortWorldK enc k w b off n d os) (some b):=by
 refine⟨rfl,rfl,rfl,by simp[sortWorldK,putRowK,putRow,mapBlock,grow,Go.Sort.ahead],fun i hi ha=>?_⟩;simp only[sortWorldK,putRowK,putRow,mapBlock,grow,Go.Sort.ahead];rw[Array.getElem?_append_left (by simpa using hi),Array.getElem?_modify,if_neg (fun e=>ha (by rw[e]))]
theorem iQ_ {i j:Nat}{x:Ct}{v:Value}[Inhabited Ct](h:l[i]?=some x)(hj:x.cs[j]?=some v):i*4+j<l.length*4∧(flatK Ct.cs 4 l.toArray)[i*4+j]! = v:=by
 obtain⟨hi,rfl⟩:=Zb.1 h;have hb:j<4:=by have:=(Zb.1 hj).1;simpa[Ct.cs] using this
 have ha:i*4+j<l.length*4:=by omega
 refine⟨ha,?_⟩;rw[Go.Sort.get_flatK _ _ _ _ (by simpa using ha)];rw[show (i*4+j) / 4=i by omega,show (i*4+j) % 4=j by omega];have e1:l.toArray[i]! = l[i]:=by simp[hi]
 rw[e1]
 have:=(Zb.1 hj)
 obtain⟨h1,h2⟩:=this;simp[h1,h2]
theorem hI_ {t:Nat}(ht:t<l.length*4):∃ x v,l[t / 4]?=some x∧x.cs[t % 4]?=some v:=by
 have h1:t / 4<l.length:=by omega
 have h2:t % 4<(l[t / 4]).cs.length:=by simp[Ct.cs];omega
 exact⟨l[t / 4],(l[t / 4]).cs[t % 4],by simp[h1],by simp⟩
theorem ns_ [Inhabited Ct](hb:Blk w b c 68)(hsl:A8 w (some ⟨b,0,none⟩) n l):HoldsK Ct.cs 4 w b 0 l.toArray:=by
 intro t ht;have he:t<l.length*4:=by simpa using ht
 obtain⟨x,v,h1,h2⟩:=hI_ he;obtain⟨_,h3⟩:=iQ_ h1 h2;rw[show t / 4*4+t % 4=t by omega] at h3;rw[h3];obtain⟨b',o',ha,hc⟩:=hsl.cell _ _ h1;obtain⟨rfl,rfl⟩:b=b'∧0=o':=by simpa using ha
 refine⟨?_,by rw[Zq];exact hb.frozen _⟩
 have:=hc _ _ h2
 rw[Zq,show t / 4*4+t % 4=t by omega] at this;rw[Zq];exact this
theorem lS_ {B cap:Nat}{l':List Ct}[Inhabited Ct](R:Ad Ct.cs 4 68 w B (some ⟨b,0,none⟩) n cap l)(hl:l'.length=n)(m:Nat)(os:Array Obj):
  Ad Ct.cs 4 68 (sortWorldK Ct.cs 4 w b 0 m l'.toArray os) B (some ⟨b,0,none⟩) n cap l':=by
 rcases R.own with⟨h,_⟩ | ⟨b',hb,hB,h1,h2,c,hc,hs,_⟩
 ·cases h
 ·obtain rfl:b=b':=by simpa using hb
  have hk:=p1_ (enc:=Ct.cs) (k:=4) hc m 0 l'.toArray os
  have ha:∀ i x,l'[i]?=some x->∀ j v,x.cs[j]?=some v->(putCells id 0 (flatK Ct.cs 4 l'.toArray) c)[i*4+j]?=some v:=by
   intro i x hx j v hv;obtain⟨f1,f2⟩:=iQ_ hx hv
   have f3:i*4+j<c.size:=by rw[hs];have:l'.length*4<=cap*4:=by omega
                            omega
   unfold putCells;simp only[Array.getElem?_mapIdx,Array.getElem?_eq_getElem f3,Option.map_some];rw[if_pos ⟨Zg _,by simpa using f1⟩,Nat.sub_zero,f2];rfl
  refine⟨⟨hl,fun i x hx=>⟨b,0,rfl,fun j v hv=>by rw[hk.cell,Zq];exact ha i x hx j v hv⟩⟩,.inr ⟨b,rfl,hB,h1,h2,_,hk,by simp[putCells,hs],?_⟩⟩;apply List.ext_getElem?;intro t;by_cases ht:t<n*4
  ·rw[Ya ht];obtain⟨x,v,g1,g2⟩:=hI_ (l:=l') (t:=t) (by rw[hl];exact ht);have e1:=ha _ _ g1 _ _ g2;have e2:=i5_ aS_ l' g1 g2;rw[show t / 4*4+t % 4=t by omega] at e1 e2;rw[e2,<-e1];simp
  ·rw[List.getElem?_eq_none (by simp;omega),List.getElem?_eq_none (by rw[aY_ aS_,hl];omega)]
end
section
open Go Go.RowKit Go.BigFrame Tryz
open Go.Sort (SWO PermIn SortedIn grow HoldsK)
open Go.Proofs (sortWorldK)
def FW (l:List Ct):Prop:=l.Pairwise (fun x y=>Bk y.o x.o=false)
theorem nt_ {l:List Ct}[Inhabited Ct]{d':Array Ct}(hp:PermIn 0 l.toArray.size l.toArray d')(hs:SortedIn (Go.Proofs.ltOf (fun x y:Ct=>EJ x.o y.o)) 0 l.toArray.size d'):d'.toList.Perm l∧FW d'.toList:=by
 obtain⟨hc,_,ha⟩:=hp;have e1:d'.extract 0 l.toArray.size=d':=by rw[<-hc];exact Array.extract_size
 rw[e1,Array.extract_size] at ha;refine⟨ha,?_⟩;unfold FW;rw[Yb];intro i j hi hj hf;have hb:j<d'.size:=by simpa using hj
 have:=hs i j (Zg _) hf (by rw[<-hc];exact hb)
 have e:∀ x y:Ct,Go.Proofs.ltOf (fun x y:Ct=>EJ x.o y.o) x y=Bk x.o y.o:=fun x y=>i6_ x.o y.o;rw[e] at this;have he:i<d'.size:=by omega
 simpa[he,hb] using this
theorem lT_ (b n:Nat)(w:World)[Inhabited Ct]:Go.Proofs.CmpLays prog 151 #[] Ct.cs 4 (fun x y=>EJ x.o y.o) b 0 n w:=
 fun _ _ _ _ x y=>lR_ x y _
theorem Nf (w:World):(isAgg 68).run prog w=.ok true w:=Tryz.isAgg68 w
theorem MZ (w:World):(Go.sizeOf 68).run prog w=.ok 4 w:=Tryz.sizeOf68 w
theorem ot_ (B:Nat)(a:Option Addr)(n cap:Nat)(l:List Ct)(w:World)(R:Ad Ct.cs 4 68 w B a n cap l)(hn:n<=4194304):
  Calls prog 150 #[.slice a n cap,.func (.func 151) #[] #[]] w fun e w'=>e=.returned (.tuple #[])∧∃ l',l'.Perm l∧FW l'∧Ad Ct.cs 4 68 w' B a n cap l'∧w.grownBy w' (MD a):=by
 by_cases h0:n=0
 ·subst h0;have hl:l=[]:=Zt R.sl.len;subst hl;refine (Go.Proofs.AnyF.slices_SortFunc_none (P:=prog) (ρ:=iP_) Mh a cap _ w).mono ?_;rintro e w' ⟨rfl,rfl⟩;exact⟨rfl,[],List.Perm.refl _,YT,R,Yh _ _⟩
 ·rcases R.own with⟨_,h,_⟩ | ⟨b,rfl,hB,h1,h2,c,hc,_⟩
  ·exact absurd h h0
  ·have he:Inhabited Ct:=⟨⟨⟨0,0,.empty⟩,0⟩⟩;have ha:=R.sl.len;have eg:∀ args w,(callFunc 151 args).run prog w=.ok (.enter 151 args) w:=enters_of func151 (by kernel_rfl) rfl;have hb:=Go.Proofs.AnyQ.slices_SortFunc Mh 4 Nf MZ Ct.cs (fun _=>rfl) (fun x v hv=>a9_ [x] v (by simpa using hv)) (fun x y=>EJ x.o y.o) or_ 151 #[] b 0 cap l.toArray w eg (lT_ b l.toArray.size w) (ns_ hc R.sl) hc.lt (by simp;omega);rw[show l.toArray.size=n by simpa using ha] at hb;refine Calls.mono hb ?_;rintro e w' ⟨rfl,d',m,os,hp,hs,rfl⟩;rw[<-show l.toArray.size=n by simpa using ha] at hp hs;obtain⟨h3,h4⟩:=nt_ hp hs;refine⟨rfl,d'.toList,h3,h4,?_,os_ _ _ _ _ _ _ _ _⟩
   have:=lS_ (l':=d'.toList) R (by rw[h3.length_eq];exact ha) m os
   simpa using this
end
section
open Go Go.RowKit Go.BigFrame Tryz
open Go.Maps (Keyed)
variable{out:List Ct}{d:Nat}{o:Ow}{v x:Value}
theorem iR_ {L:List Lit}(h:prog.keyLits d.succ 2 [x]=some L):∃ n,x=.int .i64 n∧(Lit.int .i64 n).wf=true:=by
 unfold Program.keyLits at h;simp only[underlying2] at h
 cases x<;>simp at h
 obtain⟨⟨rfl,h2⟩,_⟩:=h;exact⟨_,rfl,h2⟩
theorem nu_ {L:List Lit}(h:prog.keyLits d.succ 9 [x]=some L):∃ s,x=.string s∧s.size<=maxLen:=by
 unfold Program.keyLits at h;simp only[underlying9] at h
 cases x<;>simp at h
 exact⟨_,rfl,h.1⟩
theorem kD_ {kl:Lit}(h:keyOf prog 66 v=some kl):∃ o,v=vO o∧WfO o:=by
 obtain⟨xs,L,rfl,h1,_⟩:=keyOf_top Ml h;clear h;have hc:prog.cellsOf 66=3:=by kernel_rfl
 have ha:prog.cellsOf 2=1:=by kernel_rfl
 have hb:prog.cellsOf 9=1:=by kernel_rfl
 obtain⟨d,hd⟩:=Nat.exists_eq_succ_of_ne_zero (Nat.ne_of_gt (Nat.zero_lt_of_lt ME));rw[hd] at h1;clear hd;unfold Program.keyLits at h1;simp only[underlying66,hc] at h1;split at h1
 ·rename_i hl;obtain⟨hl,_⟩:=hl;obtain⟨xs⟩:=xs;simp only at hl h1
  match xs,hl with
  |[x0,x1,x2],_=>
   simp[ha,hb,Option.bind_eq_some_iff] at h1;obtain⟨L0,e0,L1,⟨M1,e1,M2,⟨M3,e2,_⟩,_⟩,_⟩:=h1;obtain⟨n0,rfl,w0⟩:=iR_ e0;obtain⟨n1,rfl,w1⟩:=iR_ e1;obtain⟨s,rfl,w2⟩:=nu_ e2;exact⟨⟨n0,n1,s⟩,rfl,⟨w0,w1,w2⟩⟩
 ·cases h1
theorem Col.skip {f:Ow->Int}{left:Lit->Bool}(h:Col f left out)(ho:WfO o)(hl:left (klO o)=true)(hf:f o=0):Col f (fun z=>left z&&!z.sameKey (klO o)) out:=by
 refine⟨fun c hc=>⟨(h.wf c hc).1,by simp[(h.wf c hc).2]⟩,h.nz,h.ne,fun o' hb ha=>?_⟩;rw[IT ho hb] at ha;by_cases e:o=o'
 ·subst e;rw[hf];exact bB_ (fun c hc e=>by have:=(h.wf c hc).2;rw[e,hl] at this;cases this)
 ·have h2:BV o o'=false:=by
   cases hs:BV o o'
   ·rfl
   ·exact absurd (aM_.1 hs) e
  rw[h2] at ha;exact h.sum o' hb (by simpa using ha)
theorem ou_ {l m:List Ct}(h:l.Perm m):∀ o,tot o l=tot o m:=fun o=>by
 induction h with
 |nil=>rfl
 |cons x _ ih=>simp only[tot,ih]
 |swap x y l=>simp only[tot];omega
 |trans _ _ ih1 ih2=>rw[ih1,ih2]
theorem pG_ {f:Ow->Int}{left:Lit->Bool}{l':List Ct}(h:Col f left out)(hl:∀ kl,left kl=false)(hp:l'.Perm out)(hs:FW l'):B9 l'∧BO l'∧WfC l'∧(∀ o,WfO o->tot o l'=f o):=by
 have hf:WfC l':=fun c hc=>(h.wf c (hp.mem_iff.1 hc)).1;have he:l'.Pairwise (fun x y=>x.o≠y.o):=(hp.pairwise_iff (fun {a b} (h:a.o≠b.o)=>h.symm)).2 h.ne;have ha:=ou_ hp;refine⟨?_,fun c hc=>h.nz c (hp.mem_iff.1 hc),hf,fun o ho=>by rw[ha,h.sum o ho (hl _)]⟩;unfold B9;rw[Yb];intro i j hi hj hb;exact ct_ ((Yb.1 hs) i j hi hj hb) (fun e=>(Yb.1 he) i j hi hj hb e.symm)
theorem ov_ {y:DataW Unit×List MemPlace}(h:plainElem prog 2 v=some y):∃ c:Int,v=.int .i64 c:=by
 obtain⟨c,rfl,_⟩:=plainElem_int_inv underlying2 h;exact⟨c,rfl⟩
theorem ow_ (w:World)(o:Ow)(n:Int)(t:TypeId)(b:Nat)(hb:b=w.heap.size):A8 (w.alloc (.cells #[.int .i64 o.a,.int .i64 o.v,.string o.f,.int .i64 n] t)) (some ⟨b,0,none⟩) 1 [⟨o,n⟩]:=cl_ w ⟨o,n⟩ t b hb
theorem dG_ (b m:Nat)(f:Ow->Int)(w:World)(hT:Bo w b m f)(hm:m<=1000000):
  Calls prog 118 #[.map (some b)] w fun e w'=>(∃ a n cap l,e=.returned (.slice a n cap)∧n<=m∧Ad Ct.cs 4 68 w' w.heap.size a n cap l∧B9 l∧BO l∧WfC l∧∀ o,WfO o->tot o l=f o)∧Below w.heap.size w w':=by
 have hS:=hT.lt;obtain⟨D,hh,hv⟩:=hT;have hW:=hh.size_le;obtain⟨i0,hi,hP,hQ,hR⟩:=info_parts Gl;go_enter func118,ntmps118
 go_wp2_with (first
  |(at_range;refine wpList_range_own _ rfl _ 158 rfl 66 2 IF underlying158 _ b m D rfl hh ?_;intro w0 hw hI hV)
  |go_in)
 go_frame
 go_loopw [3] (fun out wr=>∃ (left:Lit->Bool) (cnt:Nat) (a2:Option Addr) (n2 cap2:Nat) (lk:List Ct),out=.slice a2 n2 cap2∧n2+cnt<=m∧wr.ranges prog 66 (plainElem prog 2) b w.heap.size m D left cnt∧Ad Ct.cs 4 68 wr (w.heap.size+1) a2 n2 cap2 lk∧Col f left lk∧w.heap.size+1<=wr.heap.size∧Below w.heap.size w wr)
  (fun _ wr=>wr.rangeLeft b w.heap.size)
 case atStart=>
  refine⟨_,_,none,0,0,[],rfl,by omega,hw,aB_,⟨by simp,fun c hc=>by simp at hc,YT,fun o ho hl=>?_⟩,by omega,(Yg _ _).grown hI (Zd _) (fun j hj=>by cases hj)⟩
  have:=hv o ho
  rw[Maps.atKey_of_not_has hl] at this;injection this with e2;injection e2 with _ e3
 case round=>
  obtain⟨left,cnt,a2,n2,cap2,lk,rfl,hU,hu,R2,hC,hX,hB⟩:=hrel
  go_wp2_with (first
   |(at_next;refine wpList_next_ranges _ rfl _ rfl 66 IF (plainElem prog 2) vO (Value.int .i64) (fun key kl hk=>(by obtain⟨o,ho,_⟩:=kD_ hk;exact⟨o,ho⟩)) (fun v y h=>ov_ h) b w.heap.size m D left cnt rfl hu ?_ ?_)
   |go_in)
  ·intro he hL
   go_wp2_with fail
   refine (ot_ (w.heap.size+1) a2 n2 cap2 lk wr R2 (by omega)).mono ?_;rintro e w4 ⟨rfl,l',hp,hs,R4,hJ⟩;obtain⟨q1,q2,q3,q4⟩:=pG_ hC hL hp hs;have hF:=jc_ hB hJ (pl_ (fun ad hb=>by have:=(R2.block ad hb).1;omega));go_wp2;go_returns;exact⟨⟨a2,n2,cap2,l',rfl,by omega,R4.mono (by omega),q1,q2,q3,q4⟩,hF⟩
  ·intro o c kl y yp w1 cnt1 hf hA hy hz hn hD hr hM hH
   have hg:WfO o:=by
    obtain⟨o',e,hg⟩:=kD_ hf;obtain⟨a,v,f⟩:=o;obtain⟨a',v',f'⟩:=o';simp[vO] at e;obtain⟨rfl,rfl,rfl⟩:=e;exact hg
   obtain rfl:klO o=kl:=by
    have:=KP hg
    rw[hf] at this;exact (Zi this).symm
   have hc:f o=c:=by
    have h1:=hv o hg;obtain⟨c',e,ey,_⟩:=plainElem_int_inv underlying2 hy;obtain⟨rfl,_⟩:=Prod.mk.inj ey;obtain rfl:c=c':=by simpa using e
    rw[hz] at h1;injection h1 with e2;injection e2 with _ e3;exact e3.symm
   have R3:Ad Ct.cs 4 68 w1 (w.heap.size+1) a2 n2 cap2 lk:=R2.grown hr (fun ad hb=>by have:=(R2.block ad hb).1;omega);have hx:Below w.heap.size w w1:=hB.grown hr hB.size (fun j hj=>by cases hj;exact Zd _);have hN:w.heap.size+1<=w1.heap.size:=by omega
   clear hf hy hz hr R2 hB hM;unfold vO at hH ⊢;by_cases he:c=0
   ·have hG:(c != 0)=false:=by simp[he]
    have hq:=hC.skip hg hA (by rw[hc,he]);clear he;go_wp2;have ha:=hn.kept (Yl w1 (.cells #[.int .i64 o.a,.int .i64 o.v,.string o.f] 66) none) (by simp) (by simp);go_roundw
    case rel=>exact⟨_,cnt1,a2,n2,cap2,lk,rfl,by omega,ha,R3.alloc _,hq,by simp;omega,hx.alloc hx.size _⟩
    case measure=>rw[ha.left_eq,hu.left_eq];exact hD
   ·have hG:(c != 0)=true:=by simp[he]
    have hq:=hC.take hg hA (by rw[hc];exact he);rw[hc] at hq;clear he
    go_wp2_with (at_builtin;refine ag_ rfl (fun K hK=>ay_ _ _ 26 rfl (w.heap.size+1) 68 i0 (.agg #[.int .i64 0,.int .i64 0,.string .empty,.int .i64 0]) 40 underlying26 hi hP hQ hR rfl (by decide) aS_ a9_ a2 n2 cap2 lk rfl ((R3.alloc _).alloc _) _ 1 1 [⟨o,c⟩] rfl (ow_ _ o c _ _ (by simp)) (fun ad h=>(by cases h;rfl)) (fun h=>(by cases h)) (n2+1) rfl (by unfold maxLen;omega) (by omega) (by simp;omega) (fun a3 cap3 w3 R4 ht=>hK _ _ ?_)))
    have ha:=((hn.kept (Yl w1 (.cells #[.int .i64 o.a,.int .i64 o.v,.string o.f] 66) none) (by simp) (by simp)).kept (Yl _ (.cells #[.int .i64 o.a,.int .i64 o.v,.string o.f,.int .i64 c] 68) none) (by simp) (by simp)).kept ht (ej_ fun ad hb=>by have:=(R3.block ad hb).1;omega) (ej_ fun ad hb=>by have:=(R3.block ad hb).1;omega);have hE:Below w.heap.size w w3:=Yi (by go_grown) ht (by simp;omega) (aG_ fun ad hb=>by have:=(R3.block ad hb).1;omega);have hO:w.heap.size+1<=w3.heap.size:=Zl (by simp;omega) ht.size;go_roundw
    case rel=>exact⟨_,cnt1,a3,n2+1,cap3,_,rfl,by omega,ha,R4,hq,hO,hE⟩
    case measure=>rw[ha.left_eq,hu.left_eq];exact hD
end
section
open Go Go.RowKit Go.BigFrame Tryz
variable{l:List Ct}
theorem kE_ {o:Ow}(h:AN o=true):WfO o:=by
 simp only[AN,nameB,Zf,ZU] at h;obtain⟨⟨⟨⟨h1,h2⟩,h3⟩,h4⟩,⟨⟨_,h5⟩,_⟩⟩:=h;exact⟨Yz (by omega),Yz (by omega),by unfold maxLen;omega⟩
theorem mP_ (h:AR l=true):WfC l∧BO l:=by
 simp only[AR,Zf,ZU,List.all_eq_true] at h;refine⟨fun c hc=>?_,fun c hc=>?_⟩
 ·have:=h.2 c hc
  simp only[Ce,Zf] at this;exact kE_ this.1.1.1
 ·have:=h.2 c hc
  simp only[Ce,Zf,Bool.not_eq_true',ZV] at this;exact this.2
theorem jt_ (h:AI l=true):WfC l∧BO l:=by
 simp only[AI,Zf,ZU] at h;refine⟨fun c hc=>?_,fun c hc=>?_⟩
 ·have:=g1_ h.2 c hc
  simp only[DU,Zf] at this;exact kE_ this.1.1
 ·have:=g1_ h.2 c hc
  simp only[DU,Zf,ZU] at this;omega
theorem hJ_:∀ {l:List Ct} {q:Option Ct},rgo q l=true->B9 l∧∀ p,q=some p->∀ x∈l,Bk p.o x.o=true
 |[],_,_=>⟨YT,by simp⟩
 |c::r,q,h=>by
  have h2:rgo (some c) r=true:=by
   cases q<;>simp only[rgo,Zf] at h<;>exact h.2
  obtain⟨i1,i2⟩:=hJ_ h2;refine⟨Ye.2 ⟨i2 c rfl,i1⟩,fun p hp x hx=>?_⟩;subst hp;simp only[rgo,Zf] at h;rcases Zn.1 hx with rfl | hx
  ·exact h.1.2
  ·exact b7_ h.1.2 (i2 c rfl x hx)
theorem kF_ (h:AI l=true):B9 l:=by
 simp only[AI,Zf,ZU] at h;exact (hJ_ h.2).1
theorem g6_ {R more:List Ct}(h1:B9 R)(h2:BO R)(h3:WfC R)(h4:∀ o,WfO o->tot o R=tot o l+tot o more)(hl:B9 l)(zl:BO l)(zm:BO more)(wl:WfC l)(wm:WfC more):R=A7 l more:=by
 obtain⟨s1,s2,s3⟩:=eL_ hl zl zm;refine cS_ h1 s1 h2 s2 (fun o=>?_);rw[s3];by_cases ho:WfO o
 ·exact h4 o ho
 ·rw[bB_ (o:=o) (l:=R) (fun c hc e=>ho (by rw[<-e];exact h3 c hc)),bB_ (o:=o) (l:=l) (fun c hc e=>ho (by rw[<-e];exact wl c hc)),bB_ (o:=o) (l:=more) (fun c hc e=>ho (by rw[<-e];exact wm c hc))];rfl
def IW (B:Nat)(e:Ending)(w':World):Option (List Ct)->Prop
 |none=>e=.returned (.tuple #[.slice none 0 0,.bool false])
 |some L=>∃ a n cap,e=.returned (.tuple #[.slice a n cap,.bool true])∧n<=200∧Ad Ct.cs 4 68 w' B a n cap L
theorem fX_ (a:Option Addr)(n cap:Nat)(l:List Ct)(a':Option Addr)(n' cap':Nat)(more:List Ct)(w:World)(h:A8 w a n l)(h':A8 w a' n' more)(hstr:Co l)(hstr':Co more)(hn:n<=4194304)(hn':n'<=4194304):
  Calls prog 73 #[.slice a n cap,.slice a' n' cap'] w fun e w'=>IW w.heap.size e w' (AB l more)∧Below w.heap.size w w':=by
 have hq:Hid (l.length=n):=h.len;have hj:Hid (more.length=n'):=h'.len;have hS:=@run_makeMap prog
 cases he:AI l
 ·have hf:AB l more=none:=by simp[AB,he]
  rw[hf];go_enter func73,ntmps73
  go_wp2_with fail
  refine (cK_ a n cap l _ h hstr hn).mono ?_;rintro e w1 ⟨rfl,hc⟩;rw[he];go_wp2;go_returns;go_light;exact⟨rfl,hc⟩
 ·cases ha:AR more
  ·have hf:AB l more=none:=by simp[AB,ha]
   rw[hf];go_enter func73,ntmps73
   go_wp2_with fail
   refine (cK_ a n cap l _ h hstr hn).mono ?_;rintro e w1 ⟨rfl,hc⟩;rw[he]
   go_wp2_with fail
   refine (gG_ a' n' cap' more _ (h'.below hc) hstr' hn').mono ?_;rintro e w2 ⟨rfl,hg⟩;rw[ha];have hp:=Aa hc hg;go_wp2;go_returns;go_light;exact⟨rfl,hp⟩
  ·obtain⟨hl,hb⟩:=a0_ he;obtain⟨hJ,hG⟩:=br_ ha;obtain⟨hy,hM⟩:=jt_ he;obtain⟨hm,hr⟩:=mP_ ha;have hs:=kF_ he;have hP:n<=200:=by rw[<-hq.out];exact hl
   have hK:n'<=200:=by rw[<-hj.out];exact hJ
   have hN:=ht_ hstr hstr';have hO:=eR_ (M:=1000) (by omega) (l:=l) (fun x hx=>by have:=hb x hx;omega);have hQ:(l.length:Int)<=200:=by omega
   have hh:∀ b3,AI (A7 l more)=b3->∀ F,AB l more=F->(F=if b3=true then some (A7 l more) else none)->Calls prog 73 #[.slice a n cap,.slice a' n' cap'] w fun e w'=>IW w.heap.size e w' F∧Below w.heap.size w w':=by
    intro b3 hk F _ hF;go_enter func73,ntmps73
    go_wp2_with fail
    refine (cK_ a n cap l _ h hstr hn).mono ?_;rintro e w1 ⟨rfl,hc⟩;rw[he]
    go_wp2_with fail
    refine (gG_ a' n' cap' more _ (h'.below hc) hstr' hn').mono ?_;rintro e w2 ⟨rfl,hg⟩;rw[ha];replace hc:=Aa hc hg;clear hg
    go_wp2_with fail
    have ht:=hc.size;have hC:=Bo.made w2;have h1:A8 (w2.alloc (.map #[] 0)) a n l:=(h.below hc).alloc _;have hg:Below w.heap.size w (w2.alloc (.map #[] 0)):=hc.alloc ht _;refine (dF_ w2.heap.size 0 (fun _=>0) a n cap l _ hC h1 hy (by omega) (by omega) (fun x hx=>by have:=hb x hx;omega) (fun _=>by omega)).mono ?_;rintro e w3 ⟨rfl,hD,hH⟩;have hp:=ao_ hg hH ht;have hz:A8 w3 a' n' more:=h'.below hp
    go_wp2_with fail
    refine (dF_ w2.heap.size (0+n) _ a' n' cap' more _ hD hz hm (by omega) (by omega) (fun x hx=>by have:=hG x hx;omega) (fun o=>by have:=hO o;omega)).mono ?_;rintro e w4 ⟨rfl,hE,hI⟩;have hu:=ao_ hp hI ht
    go_wp2_with fail
    refine (dG_ w2.heap.size (0+n+n') _ w4 hE (by omega)).mono ?_;rintro e w5 ⟨⟨a2,n2,cap2,R,rfl,hT,R4,q1,q2,q3,q4⟩,hA⟩;have hB:=Aa hu hA;have hR:R=A7 l more:=g6_ q1 q2 q3 (fun o ho=>by rw[q4 o ho];omega) hs hM hr hy hm;subst hR;replace R4:=R4.mono hu.size
    go_wp2_with fail
    refine (cK_ a2 n2 cap2 (A7 l more) _ R4.sl hN (by omega)).mono ?_;rintro e w7 ⟨rfl,hv⟩;rw[hk];have hw:=Aa hB hv;replace R4:=R4.below hv
    cases b3
    ·rw[if_neg (by simp)] at hF;subst hF;go_wp2;go_returns;go_light;exact⟨rfl,hw⟩
    ·rw[if_pos rfl] at hF;subst hF;have hL:n2<=200:=by rw[<-R4.sl.len];exact (a0_ hk).1
     go_wp2;go_returns;go_light;exact⟨⟨a2,n2,cap2,rfl,hL,R4⟩,hw⟩
   exact hh _ rfl _ rfl (by simp[AB,he,ha])
end
section
open Go Go.RowKit Go.BigFrame
open Go.Maps (Keyed)
variable{α:Type}{l:List Vo}{v:Vo}
theorem eS_:∀ {l m:List α},l.Nodup->(∀ x∈l,x∈m)->l.length<=m.length
 |[],_,_,_=>Zg _
 |x::r,m,hn,hs=>by
  obtain⟨s,t,rfl⟩:=List.append_of_mem (hs x (by simp));obtain⟨h1,h2⟩:=List.nodup_cons.1 hn
  have:=eS_ (l:=r) (m:=s++t) h2 (fun y hy=>by
   have h3:=hs y (by simp[hy]);have h4:y≠x:=fun e=>h1 (e▸hy);simpa[h4] using h3)
  simp at this ⊢;omega
theorem kG_:∀ {l:List Ex} {size next:Int},xgo size next l=true->(∀ x∈l,next<=x.a)∧(l.map (·.a)).Nodup
 |[],_,_,_=>⟨by simp,by simp⟩
 |x::r,size,next,h=>by
  simp only[xgo,Zf,ZU] at h;obtain⟨⟨⟨h1,h2⟩,h3⟩,h4⟩:=h;obtain⟨i1,i2⟩:=kG_ h4
  have hd:1<=x.d.size:=by
   simp only[Aw,Zf,ZU] at h1;exact h1.1.1
  refine⟨fun y hy=>?_,?_⟩
  ·rcases Zn.1 hy with rfl | hy
   ·exact h2
   ·have:=i1 y hy;omega
  ·rw[YD,List.nodup_cons];refine⟨fun hm=>?_,i2⟩;obtain⟨y,hy,e⟩:=ZT.1 hm
   have:=i1 y hy
   omega
theorem kH_ {size:Int}{l:List Ex}(h:Am size l=true):(l.map (·.a)).Nodup:=by
 simp only[Am,Zf] at h;exact (kG_ h.2).2
theorem nv_ {E:List Ex}{L:List Ct}{K:List Lit}(hn:(E.map (·.a)).Nodup)(hK:K.Nodup)(h1:∀ k∈K,∃ c∈L,k=.int .i64 c.o.a)(h2:∀ c∈L,Lit.int .i64 c.o.a∈K):
  (E.all (fun x=>L.any (fun c=>c.o.a==x.a))&&decide (K.length=E.length))=Du E L:=by
 unfold Du
 cases ha:E.all (fun x=>L.any (fun c=>c.o.a==x.a))
 ·rfl
 ·simp only[Zp];rw[List.all_eq_true] at ha
  have hb:∀ k∈E.map (fun x=>Lit.int .i64 x.a),k∈K:=by
   intro k hk;obtain⟨x,hx,rfl⟩:=ZT.1 hk;obtain⟨c,hc,e⟩:=ZN.1 (ha x hx);have e':c.o.a=x.a:=by simpa using e
   rw[<-e'];exact h2 c hc
  have hf:(E.map (fun x=>Lit.int .i64 x.a)).Nodup:=by
   unfold List.Nodup at hn ⊢;rw[List.pairwise_map] at hn ⊢;exact hn.imp (fun {p q} h e=>h (by injection e))
  rw[YH];simp only[ZU,List.all_eq_true,ZN,beq_iff_eq];constructor
  ·intro hg c hc;refine Classical.byContradiction fun hh=>?_
   have h3:(Lit.int .i64 c.o.a::E.map (fun x=>Lit.int .i64 x.a)).Nodup:=List.nodup_cons.2 ⟨fun hm=>hh (by
    obtain⟨x,hx,e⟩:=ZT.1 hm;injection e with _ e;exact⟨x,hx,e⟩),hf⟩
   have h4:=eS_ h3 (m:=K) (fun k hk=>by
    rcases Zn.1 hk with rfl | hk
    ·exact h2 c hc
    ·exact hb k hk)
   simp at h4;omega
  ·intro he;have a1:=eS_ hf hb
   have a2:=eS_ hK (m:=E.map (fun x=>Lit.int .i64 x.a)) (fun k hk=>by
    obtain⟨c,hc,rfl⟩:=h1 k hk;obtain⟨x,hx,e⟩:=he c hc;exact ZT.2 ⟨x,hx,by rw[e]⟩)
   simp at a1 a2;omega
theorem fY_ (x:Int)(L:List Ct):0<=EO x L∧EO x L<=L.length:=by
 have:=List.countP_le_length (p:=fun c:Ct=>c.o.a==x) (l:=L)
 unfold EO;omega
theorem nw_ (x:Int)(L:List Ct):(EO x L==0)=!(L.any (fun c=>c.o.a==x)):=by
 rw[YH];unfold EO;rw[beq_iff_eq,Bool.not_eq_true',List.any_eq_false];have h:=List.countP_eq_zero (p:=fun c:Ct=>c.o.a==x) (l:=L);constructor
 ·intro e;exact h.1 (by omega)
 ·intro e;have:=h.2 e;omega
theorem nx_ (x:Int)(L:List Ct)(c:Ct):EO x (L++[c])=EO x L+(if c.o.a=x then 1 else 0):=by
 unfold EO;rw[List.countP_append,List.countP_cons,List.countP_nil];by_cases h:c.o.a=x<;>simp[h]
def Cc (left:Lit->Bool)(l:List Vo):List Vo:=l.filter (fun v=>!left (Cr v))
theorem hK_ (s t:List UInt8):(Lit.string s).sameKey (Lit.string t)=decide (s=t):=by
 by_cases h:s=t
 ·subst h;rw[WideAt.sameKey_self (show WideAt.IsKeyLit (Lit.string s) from trivial)];simp
 ·have:(Lit.string s).sameKey (Lit.string t)=false:=by
   cases e:(Lit.string s).sameKey (Lit.string t)
   ·rfl
   ·have:=WideAt.sameKey_eq e;injection this with e2;exact absurd e2 h
  rw[this];simp[h]
theorem gL_ {left:Lit->Bool}:∀ {l:List Vo},(∀ y∈l,y.nm.toList≠v.nm.toList)->Cc (fun z=>left z&&!z.sameKey (Cr v)) l=Cc left l
 |[],_=>rfl
 |y::r,h=>by
  have h1:(Cr y).sameKey (Cr v)=false:=by
   unfold Cr;rw[hK_]
   have:=h y (by simp)
   rw[Zu,Zu] at this;simpa using this
  have ih:=gL_ (left:=left) (l:=r) (fun z hz=>h z (by simp[hz]));unfold Cc at ih ⊢;rw[ZH,ZH,ih];simp only[h1,Bool.not_false,Bool.and_true]
theorem cx_ (v:Vo)(l:List Vo):BP (v::l)=G9 v++BP l:=rfl
theorem gn_ {left:Lit->Bool}(hl:left (Cr v)=true):∀ {l:List Vo},(l.map (·.nm.toList)).Nodup->v∈l->∀ o,tot o (BP (Cc (fun z=>left z&&!z.sameKey (Cr v)) l))=tot o (BP (Cc left l))+tot o (G9 v)
 |[],_,hv,_=>by simp at hv
 |x::r,hn,hv,o=>by
  rw[YD,List.nodup_cons] at hn;obtain⟨h1,h2⟩:=hn;by_cases e:x=v
  ·subst e;have h3:∀ y∈r,y.nm.toList≠x.nm.toList:=fun y hy e=>h1 (by rw[<-e];exact ZT.2 ⟨y,hy,rfl⟩);have ih:=gL_ (left:=left) h3;have h4:(Cr x).sameKey (Cr x)=true:=by unfold Cr;rw[hK_];simp
   unfold Cc at ih ⊢;rw[ZH,ZH,ih];simp only[h4,hl,Bool.not_true,Bool.and_false,Bool.not_false,if_true,Zj,if_false,cx_];rw[bn_];omega
  ·have hb:v∈r:=by
    rcases Zn.1 hv with h | h
    ·exact absurd h.symm e
    ·exact h
   have ha:x.nm.toList≠v.nm.toList:=fun e=>h1 (by rw[e];exact ZT.2 ⟨v,hb,rfl⟩)
   have h4:(Cr x).sameKey (Cr v)=false:=by
    unfold Cr;rw[hK_];rw[Zu,Zu] at ha;simpa using ha
   have ih:=gn_ hl h2 hb o;unfold Cc at ih ⊢;rw[ZH,ZH];simp only[h4,Bool.not_false,Bool.and_true] at ih ⊢;split
   ·rw[cx_,cx_,bn_,bn_,ih];omega
   ·exact ih
theorem hL_ {left:Lit->Bool}(h:∀ v∈l,left (Cr v)=true):Cc left l=[]:=by
 unfold Cc;rw[List.filter_eq_nil_iff];intro v hv;simp[h v hv]
theorem iS_ {left:Lit->Bool}(h:∀ k,left k=false):Cc left l=l:=by
 unfold Cc;rw[YA];intro v _;simp[h]
theorem fw_ (id:Int)(nm:ByteArray)(ps:List Pt):(AU id nm ps).length<=ps.length:=by
 unfold AU;rw[List.length_map];exact Yc _ _
theorem go_:∀ {l:List It},(∀ x∈l,x.ps.length<=16)->(BK v l).length<=16*l.length
 |[],_=>by simp[BK]
 |x::r,h=>by
  have ih:=go_ (l:=r) (fun y hy=>h y (by simp[hy]));have h1:=h x (by simp);have h2:=fw_ v.id x.nm x.ps;unfold BK at ih ⊢;rw[ZF,ZE,Zw];omega
theorem iT_:∀ {l:List Vo},(∀ v∈l,v.its.length<=5∧∀ x∈v.its,x.ps.length<=16)->(BP l).length<=80*l.length
 |[],_=>by simp[BP]
 |v::r,h=>by
  have ih:=iT_ (l:=r) (fun y hy=>h y (by simp[hy]));obtain⟨h1,h2⟩:=h v (by simp);have h3:=go_ (v:=v) h2;rw[cx_,ZE,Zw,show G9 v=BK v v.its from rfl];omega
theorem iU_ (id:Int)(nm:ByteArray)(ps:List Pt):∀ c∈AU id nm ps,c.n=1:=by
 intro c hc;obtain⟨p,_,rfl⟩:=ZT.1 hc;rfl
theorem ju_ (v:Vo)(l:List It):∀ c∈BK v l,c.n=1:=by
 intro c hc;obtain⟨x,_,hx⟩:=ZL.1 hc;exact iU_ _ _ _ c hx
theorem fZ_ (l:List Vo):∀ c∈BP l,c.n=1:=by
 intro c hc;obtain⟨v,_,hv⟩:=ZL.1 hc;exact ju_ v v.its c hv
theorem cy_ {l:List Ct}(h:∀ c∈l,c.n=1)(o:Ow):0<=tot o l∧tot o l<=l.length:=by
 induction l with
 |nil=>simp[tot]
 |cons c r ih=>
  have h1:=ih (fun x hx=>h x (by simp[hx]));have h2:=h c (by simp);simp only[tot,Zw];split<;>omega
end
section
open Go Go.RowKit Go.BigFrame Tryz
open Go.ChangeMaps Go.MapKept Go.WideElems
open Go.Maps (Keyed)
variable{x:Int}{L:List Ct}{b n:Nat}{v:Value}{w:World}
theorem Hq:Keyed prog 9:=Maps.string_keyed underlying9
theorem LM (h:(Lit.int .i64 x).wf=true):keyOf prog 2 (.int .i64 x)=some (.int .i64 x):=Maps.keyOf_int_mk underlying2 h
theorem Ni {s:ByteArray}(h:s.size<=maxLen):keyOf prog 9 (.string s)=some (.string s.data.toList):=by
 simp[keyOf,underlying9,mapKey,h]
theorem CD.made (w:World):CD (w.alloc (.map #[] 0)) w.heap.size 0 []:=⟨_,World.ownsMap_made _ _ _ _,fun _ _=>rfl,fun _=>rfl⟩
theorem CD.apart (h:CD w b n L){bb o:Nat}(hc:w.cell? ⟨bb,o,none⟩=some v):bb≠b:=by
 obtain⟨D,⟨es,clock,hb,_⟩,_⟩:=h;rintro rfl;simp[World.cell?,hb] at hc
theorem CD.look (h:CD w b n L)(hx:(Lit.int .i64 x).wf=true):(Instr.lookup 162 (.map (some b)) (.int .i64 x) false).run prog w=.ok (.int .i64 (EO x L)) w:=by
 obtain⟨D,ha,hv,hh⟩:=h;obtain⟨c,hl,hb,_⟩:=ha.lookup_int Gm underlying162 underlying2 (Mn w) (LM hx);rw[hv x hx] at hb;injection hb with e2;injection e2 with _ e3;rw[e3];exact hl
theorem CD.bump (h:CD w b n L)(hn:n<maxLen)(hL:L.length<=1000000){c:Ct}(ha:(Lit.int .i64 c.o.a).wf=true):
  ∃ w3:World,(Instr.mapUpdate 162 (.map (some b)) (.int .i64 c.o.a) (.int .i64 (EO c.o.a L+1))).run prog w=.ok () w3∧CD w3 b (n+1) (L++[c])∧w.grownBy w3 (some b):=by
 obtain⟨D,hb,hv,hh⟩:=h;have hc:=fY_ c.o.a L;obtain⟨w3,g1,g2,g3⟩:=hb.update Gm underlying162 hn (LM ha) (plainElem_int underlying2 (show (Lit.int .i64 (EO c.o.a L+1)).wf=true from Yz (by omega)));refine⟨w3,g1,⟨_,g2,fun x hx=>?_,fun x=>?_⟩,g3⟩
 ·rw[nx_];by_cases e:c.o.a=x
  ·subst e;rw[Maps.atKey_put_same hb.isMap (Gm.key (LM ha)),if_pos rfl]
  ·rw[Maps.atKey_put_other (fun e2=>e (by injection e2 with _ e2;exact e2.symm)),hv x hx,if_neg e,Int.add_zero]
 ·rw[List.any_append];by_cases e:c.o.a=x
  ·subst e;rw[Maps.has_put_same hb.isMap (Gm.key (LM ha))];simp
  ·rw[Maps.has_put_other (fun e2=>e (by injection e2 with _ e2;exact e2.symm)),hh x];simp[e]
def BH (pb:Nat)(v:Value):Option (DataW Unit×List MemPlace):=
 match v with
 |.pointer (some ⟨b,o,none⟩)=>if b=pb then some (.lit (.int .i64 o),[]) else none
 |_=>none
theorem hM_ (pb o:Nat):BH pb (.pointer (some ⟨pb,o,none⟩))=some (.lit (.int .i64 o),[]):=by simp[BH]
theorem eu_ {pb:Nat}{y:DataW Unit×List MemPlace}(h:BH pb v=some y):∃ o:Nat,v=.pointer (some ⟨pb,o,none⟩)∧y=(.lit (.int .i64 o),[]):=by
 unfold BH at h;split at h
 ·split at h
  ·subst_vars
   exact⟨_,rfl,(Zi h).symm⟩
  ·cases h
 ·cases h
end
section
open Go Go.RowKit Go.BigFrame Tryz
open Go.Maps (Keyed)
theorem p2_ {w:World}{b n pb:Nat}{D:DataW Unit}(h:w.ownsMap prog 9 (BH pb) b n D)(hn:n<maxLen){s:ByteArray}(hs:s.size<=maxLen)(o:Nat):
  ∃ w',(Instr.mapUpdate 112 (.map (some b)) (.string s) (.pointer (some ⟨pb,o,none⟩))).run prog w=.ok () w'∧w'.ownsMap prog 9 (BH pb) b (n+1) (D.put (.string s.data.toList) (.lit (.int .i64 (o:Int))))∧w.grownBy w' (some b):=
 h.update Hq underlying112 hn (Ni hs) (hM_ pb o)
theorem bC_ (B:Nat)(size next:Int)(ea:Option Addr)(en ec:Nat)(va:Option Addr)(vn vc:Nat)(ra:Option Addr)(rn rc:Nat)(la:Option Addr)(ln lc:Nat)(vs:List Vo)(pb po:Nat)(hpb:0<vn->va=some ⟨pb,po,none⟩)(w:World)(h2:Bp B w va vn vs)(z3:vn<=4194304)(z4:JR vs):
  Calls prog 72 #[.agg #[.int .i64 size,.int .i64 next,.slice ea en ec,.slice va vn vc,.slice ra rn rc,.slice la ln lc]] w fun x w'=>(∃ b D,x=.returned (.map (some b))∧w.heap.size<=b∧w'.ownsMap prog 9 (BH pb) b vn D∧Gz D po vs)∧Below w.heap.size w w':=by
 have ha:Hid (vs.length=vn):=h2.len;have ho:=@run_makeMap prog;go_enter func72,ntmps72;have C:=(Blk.new w #[.int .i64 size,.int .i64 next,.slice ea en ec,.slice va vn vc,.slice ra rn rc,.slice la ln lc] 28);have hb:Below w.heap.size w (w.alloc (.cells #[.int .i64 size,.int .i64 next,.slice ea en ec,.slice va vn vc,.slice ra rn rc,.slice la ln lc] 28)):=by go_grown
 have hg:(w.alloc (.cells #[.int .i64 size,.int .i64 next,.slice ea en ec,.slice va vn vc,.slice ra rn rc,.slice la ln lc] 28)).heap.size=w.heap.size+1:=by simp
 go_wp2_with fail
 generalize w.alloc (.cells #[.int .i64 size,.int .i64 next,.slice ea en ec,.slice va vn vc,.slice ra rn rc,.slice la ln lc] 28)=W0 at *;have hM:=World.ownsMap_made W0 prog 9 (BH pb);have C1:=C.alloc (.map #[] 0);have hc:Below w.heap.size w (W0.alloc (.map #[] 0)):=hb.alloc (by omega) _;clear C hb;generalize W0.alloc (.map #[] 0)=W1 at *;have hz:W0.heap.size=w.heap.size+1:=hg;clear hg;rw[hz] at hM
 go_loopw [9] (fun ix wr=>∃ (k:Nat) (D:DataW Unit),k<=vn∧ix=.int .i64 k∧wr.ownsMap prog 9 (BH pb) (w.heap.size+1) k D∧Gz D po (vs.take k)∧Blk wr w.heap.size #[.int .i64 size,.int .i64 next,.slice ea en ec,.slice va vn vc,.slice ra rn rc,.slice la ln lc] 28∧Below w.heap.size w wr) (fun ix _=>vn-(intOf ix).toNat)
 case atStart=>exact⟨0,_,Zg _,rfl,hM,Gz.nil po,C1,hc⟩
 case round=>
  clear hM C1 hc;obtain⟨k,D,hk,rfl,hO,hV,C,hB⟩:=hrel;have d3:wr.drew.cell? ⟨w.heap.size,3,none⟩=some (.slice va vn vc):=C.cell 3;by_cases hlt:k<vn
  ·obtain⟨b,o,x,qa,qn,qc,rfl,hx,e0,e1,e2,e3,hP,_,_⟩:=b5_ (h2.below hB) hlt;obtain⟨rfl,rfl⟩:b=pb∧o=po:=by have:=hpb (by omega);simpa using this
   have e1':wr.drew.cell? ⟨b,o+k*4+1,none⟩=some (.string x.nm):=e1;have hm:(k:Int)<vn:=by omega
   have hn:(0:Int)<=k:=by omega
   obtain⟨m1,_,_⟩:=z4 x (Zc hx);have hl:(vs.take k).length=k:=by rw[Zz,ha.out];omega
   obtain⟨w3,r3,O3,g3⟩:=p2_ (w:=wr.drew) hO (by unfold maxLen;omega) m1 (o+k*4);have he:=hV.put (hO.tidy Hq) x;rw[hl,<-bx_ hx] at he;have hf:wr.grownBy w3 (some (w.heap.size+1)):=(⟨rfl,rfl,rfl,Zd _,fun _ _ _=>rfl⟩:wr.grownBy wr.drew (some (w.heap.size+1))).andThen g3 (fun j hj=>by cases hj;exact .inr rfl);have hh:Below w.heap.size w w3:=hB.grown hf hB.size (fun j hj=>by cases hj;omega);have C3:Blk w3 w.heap.size #[.int .i64 size,.int .i64 next,.slice ea en ec,.slice (some ⟨b,o,none⟩) vn vc,.slice ra rn rc,.slice la ln lc] 28:=(hf.block _ C.lt (by simp only[ne_eq,Zo];omega)).trans C;clear hx hpb
   go_wp2_with fail
   refine aE_ 11 (by kernel_rfl) (by kernel_rfl) ?_;simp only[ZP,Yx,ZR,YC]
   repeat still_step
   refine wpStill_nil ?_;go_wp2;go_roundw
   case rel=>exact⟨k+1,_,by omega,by go_num,O3,he,C3,hh⟩
   case measure=>simp[intOf];omega
  ·obtain rfl:k=vn:=by omega
   go_wp2;go_returns;rw[Zk (Zm ha.out)] at hV;exact⟨⟨w.heap.size+1,D,rfl,by omega,hO,hV⟩,hB⟩
end
end Go.Proofs.YtkiceokhlceciaaGreatDoor
