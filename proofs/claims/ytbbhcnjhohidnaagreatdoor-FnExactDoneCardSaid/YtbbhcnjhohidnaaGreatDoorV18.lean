/- Plain facts for PoolOk of the program: sets of addresses; volumes by their names. -/
import Derived.Test.YtbbhcnjhohidnaaGreatDoorV17
set_option maxHeartbeats 20000000
set_option maxRecDepth 100000
namespace Go.Proofs.YtbbhcnjhohidnaaGreatDoor
section
open Go Go.RowKit Go.BigFrame Tryz
variable{size:Int}{e:List Ex}
theorem ch_ (B:Nat)(v:Value)(p:Po)(w:World)(h:PoolAt B w v p)(hd:DimP p):
  Calls prog 45 #[v] w fun e w'=>e=.returned (.bool (poolB p))∧Below w.heap.size w w':=by
 obtain⟨ea,en,ec,va,vn,vc,ra,rn,rc,la,ln,lc,rfl,⟨h1,k1⟩,⟨h2,k2⟩,⟨h3,k3⟩,h4,k4⟩:=h;obtain⟨z1,z2,z3,z4,z5,z6,z7,z8⟩:=hd;rw[h1.len] at z1;rw[h2.len] at z3;rw[h3.len] at z5;rw[h4.len] at z7;have n2:Hid (p.vs.length=vn):=h2.len;have n3:Hid (p.rf.length=rn):=h3.len;have n4:Hid (p.lt.length=ln):=h4.len;obtain⟨size,next,ex,vs,rf,lt⟩:=p;simp only at h1 h2 h3 h4 z2 z4 z6 z8 n2 n3 n4
 obtain⟨pb,po,hs⟩:∃ pb po,0<vn->va=some ⟨pb,po,none⟩:=by
  by_cases h0:0<vn
  ·obtain⟨b,o,_,_,_,_,hv,_⟩:=b5_ h2 h0;exact⟨b,o,fun _=>hv⟩
  ·exact⟨0,0,fun h=>absurd h h0⟩
 have hR:Hid (poolB ⟨size,next,ex,vs,rf,lt⟩=(spaceOkB size ex&&decide (1<=next)&&decide (next<=1000000000)&&volsB next vs ex&&namesB vs&&(match flushedO rf lt with | none=>false | some s=>eqCts s (walkL vs))&&addrB ex (rf++lt))):=rfl;generalize poolB ⟨size,next,ex,vs,rf,lt⟩=R at *;have C:=(Blk.new w #[.int .i64 size,.int .i64 next,.slice ea en ec,.slice va vn vc,.slice ra rn rc,.slice la ln lc] 35);have ho:Below w.heap.size w (w.alloc (.cells #[.int .i64 size,.int .i64 next,.slice ea en ec,.slice va vn vc,.slice ra rn rc,.slice la ln lc] 35)):=by go_grown
 cases hl:spaceOkB size ex
 ·rw[hl] at hR;simp only[Zr] at hR;go_enter func45,ntmps45
  go_wp2_with fail
  generalize w.alloc (.cells #[.int .i64 size,.int .i64 next,.slice ea en ec,.slice va vn vc,.slice ra rn rc,.slice la ln lc] 35)=W0 at *;refine (a8_ size ea en ec ex _ (h1.below ho) z2 z1).mono ?_;rintro e w1 ⟨rfl,hb⟩;rw[hl];go_wp2;go_returns;exact⟨by rw[hR.out];rfl,chain ho hb⟩
 ·rw[hl,Zp] at hR;go_enter func45,ntmps45
  go_wp2_with fail
  generalize w.alloc (.cells #[.int .i64 size,.int .i64 next,.slice ea en ec,.slice va vn vc,.slice ra rn rc,.slice la ln lc] 35)=W0 at *;refine (a8_ size ea en ec ex _ (h1.below ho) z2 z1).mono ?_;rintro e w1 ⟨rfl,hb⟩;rw[hl];have C1:=C.below hb;replace hb:=chain ho hb;clear C ho;have d0:=C1.cell 0;have d1:=C1.cell 1;have d2:=C1.cell 2;have d3:=C1.cell 3;have d4:=C1.cell 4;have d5:=C1.cell 5;simp only[lgA,lgB,lgC] at d0 d1 d2 d3 d4 d5;by_cases hn1:1<=next
  ·rw[decide_eq_true hn1,Zp] at hR;by_cases hn2:next<=1000000000
   ·rw[decide_eq_true hn2,Zp] at hR;have hp:Hid (volsB next vs ex=true->vs.length<=6∧vgo next ex 0 vs=true):=fun h=>by simpa[volsB] using h
    go_wp2_with fail
    refine (kC_ B size next ea en ec va vn vc ra rn rc la ln lc ex vs _ (h1.below hb) (h2.below hb) z1 z2 z3 z4).mono ?_;rintro e w2 ⟨rfl,hk⟩;have C2:=C1.below hk;replace hk:=chain hb hk;clear d0 d1 d2 d3 d4 d5 C1 hb;have d0:=C2.cell 0;have d1:=C2.cell 1;have d2:=C2.cell 2;have d3:=C2.cell 3;have d4:=C2.cell 4;have d5:=C2.cell 5;simp only[lgA,lgB,lgC] at d0 d1 d2 d3 d4 d5
    cases hn:volsB next vs ex
    ·rw[hn] at hR;simp only[Zr] at hR;clear hn;go_wp2;go_returns;exact⟨by rw[hR.out];rfl,hk⟩
    ·obtain⟨h6,hy⟩:=hp.out hn;rw[hn,Zp] at hR;have hB:=g2_ h6 hy;have hE:=oA_ hn2 hy;clear hn hp
     go_wp2_with fail
     refine (bC_ B size next ea en ec va vn vc ra rn rc la ln lc vs pb po hs _ (h2.below hk) z3 z4).mono ?_;rintro e w3 ⟨⟨mb,D,rfl,hI,hO,hV⟩,hg⟩;have C3:=C2.below hg;replace hg:=chain hk hg;clear d0 d1 d2 d3 d4 d5 C2 hk;have d3:=C3.cell 3;have d4:=C3.cell 4;have d5:=C3.cell 5;simp only[lgA,lgB,lgC] at d3 d4 d5;have ht:=hO.len underlying122 3;have hq:=hV.full;have hu:=hV.size;rw[n2.out] at hq hu;have hw:Hid (namesB vs=decide (Maps.size D=vn)):=by show _=_;unfold namesB;rw[decide_eq_decide];exact hq.symm
     rw[hw.out] at hR;by_cases hse:Maps.size D=vn
     ·rw[decide_eq_true hse,Zp] at hR;have hnd:=hq.1 hse;rw[hse] at ht;have hA:((vn:Int) != (vn:Int))=false:=by simp
      clear hq hu hw hse
      go_wp2_with fail
      refine (fX_ ra rn rc rf la ln lc lt _ (h3.below hg) (h4.below hg) z6 z8 z5 z7).mono ?_;rintro e w4 ⟨ha,he⟩;have C4:=C3.below he;replace hO:=ny_ hO he;replace he:=chain hg he;clear d3 d4 d5 C3 hg ht
      cases hj:flushedO rf lt with
      |none=>
       rw[hj] at ha hR;replace ha:e=.returned (.tuple #[.slice none 0 0,.bool false]):=ha;subst ha;clear hj;go_wp2;go_returns;exact⟨by rw[hR.out];rfl,he⟩
      |some sm=>
       rw[hj] at ha hR;replace hR:Hid (R=(eqCts sm (walkL vs)&&addrB ex (rf++lt))):=hR;obtain⟨a4,n4',cap4,rfl,hG,R4⟩:=ha
       have hr:refsOkB rf=true∧lateOkB lt=true:=by
        unfold flushedO at hj;split at hj
        ·rename_i hh;exact hh
        ·cases hj
       clear hj
       go_wp2_with fail
       refine (hQ_ B mb pb po D va vn vs hs _ hO hV hnd (h2.below he) hB hE).mono ?_;rintro e w5 ⟨⟨a5,n5,cap5,rfl,hH,R5⟩,hm⟩;replace R4:=R4.below hm;have C5:=C4.below hm;replace hm:=chain he hm;clear C4 he hO
       go_wp2_with fail
       refine (jv_ a4 n4' cap4 sm a5 n5 cap5 (walkL vs) _ R4.sl R5.sl (by omega) (by omega)).mono ?_;rintro e w6 ⟨rfl,hf⟩;have C6:=C5.below hf;replace hf:=chain hm hf;clear R4 R5 C5 hm;have d0:=C6.cell 0;have d1:=C6.cell 1;have d2:=C6.cell 2;have d3:=C6.cell 3;have d4:=C6.cell 4;have d5:=C6.cell 5;simp only[lgA,lgB,lgC] at d0 d1 d2 d3 d4 d5
       cases hM:eqCts sm (walkL vs)
       ·rw[hM] at hR;simp only[Zr] at hR;clear hM;go_wp2;go_returns;exact⟨by rw[hR.out];rfl,hf⟩
       ·rw[hM,Zp] at hR;have hF:=(jt_ hr.1).1;have hD:=(mP_ hr.2).1;have hz:=(a0_ hr.1).1;have hx:=(br_ hr.2).1;rw[n3.out] at hz;rw[n4.out] at hx;clear hM
        go_wp2_with fail
        refine (jw_ size next ea en ec va vn vc ra rn rc la ln lc ex rf lt _ (h1.below hf) (h3.below hf) (h4.below hf) z1 hz hx (kI_ hl) (fun c hc=>(hF c hc).a) (fun c hc=>(hD c hc).a) (kH_ hl)).mono ?_;rintro e w7 ⟨rfl,hC⟩;go_wp2;go_returns;exact⟨by rw[hR.out];rfl,chain hf hC⟩
     ·rw[decide_eq_false hse] at hR;simp only[Zr] at hR;have hA:((Maps.size D:Int) != (vn:Int))=true:=by simp;omega
      go_wp2;go_returns;exact⟨by rw[hR.out];rfl,hg⟩
   ·rw[decide_eq_false hn2] at hR;simp only[Zr] at hR;go_wp2;go_returns;exact⟨by rw[hR.out];rfl,hb⟩
  ·rw[decide_eq_false hn1] at hR;simp only[Zr] at hR;go_wp2;go_returns;exact⟨by rw[hR.out];rfl,hb⟩
end
section
open Go Go.RowKit Go.BigFrame
open Go.Maps (Keyed)
variable{vs:List Vo}{b:Nat}{w:World}
theorem oB_ {P:Program}{t k e:TypeId}{R:Value->Option (DataW Unit×List MemPlace)}{n:Nat}{D:DataW Unit}(h:w.ownsMap P k R b n D)(K:Keyed P k)(ht:P.underlying t=some (.map k e)){z:Value}(hz:(zeroValue e).run P w=.ok z w){key:Value}{kl:Lit}(hkey:keyOf P k key=some kl):
  ((Instr.lookup t (.map (some b)) key false).run P w=.ok z w∧Maps.has D kl=false)∨∃ v y,(Instr.lookup t (.map (some b)) key false).run P w=.ok v w∧R v=some y∧Maps.has D kl=true∧∀ zd,D.atKey kl zd=y.1:=by
 obtain⟨es,clock,hb,F,_,rfl⟩:=h;rcases Maps.fit_look false K ht hz hb F hkey with⟨ha,_,hc⟩ | ⟨e0,y,_,_,ha,he,hc,_⟩
 ·exact .inl ⟨ha,Maps.has_false_of_atKey hc⟩
 ·exact .inr ⟨e0.val,y,ha,he,Maps.has_true_of_atKey hc,hc⟩
theorem pH_ (hn:(vs.map (·.nm.toList)).Nodup){i:Nat}{v:Vo}(h:vs[i]?=some v):volI vs v.nm=some i:=by
 unfold volI;obtain⟨hi,rfl⟩:=Zb.1 h;rw[ZA];refine⟨hi,by simp,fun j hj=>?_⟩;unfold List.Nodup at hn;rw[List.pairwise_map,Yb] at hn
 have:=hn j i (by omega) hi hj
 simpa using this
theorem nz_ {s:ByteArray}(h:vs.any (fun v=>v.nm.data.toList==s.data.toList)=false):volI vs s=none:=by
 unfold volI;rw[List.findIdx?_eq_none_iff];intro v hv;rw[List.any_eq_false] at h
 have:=h v hv
 rw[Zu,Zu];simpa using this
structure VoAt (B:Nat)(w:World)(b o:Nat)(x:Vo):Prop where
 id:w.cell? ⟨b,o,none⟩=some (.int .i64 x.id)
 nm:w.cell? ⟨b,o+1,none⟩=some (.string x.nm)
 its:∃ qa qn qc,w.cell? ⟨b,o+3,none⟩=some (.slice qa qn qc)∧ItsAt B w qa qn x.its∧Hd B qa qn qc
theorem VoAt.below {B:Nat}{w':World}{o:Nat}{x:Vo}(h:VoAt B w b o x)(hb:Below w.heap.size w w'):VoAt B w' b o x:=by
 obtain⟨h1,h2,qa,qn,qc,h3,h4,h5⟩:=h;exact⟨bcell hb h1,bcell hb h2,qa,qn,qc,bcell hb h3,h4.below hb,h5⟩
end
section
open Go Go.RowKit Go.BigFrame
variable{rows:List VR}{B i vb vc vn:Nat}{r:VR}{y:Vo}{w w' w0:World}
def RetPsS (B:Nat)(e:Ending)(w':World):Option (List Pt)->Prop
 |none=>e=.returned (.tuple #[.slice none 0 0,.bool false])
 |some ps=>∃ pa pn pc,e=.returned (.tuple #[.slice pa pn pc,.bool true])∧PtsAt w' pa pn ps∧Hd B pa pn pc∧ps.length<=4194304∧∀ ad,pa=some ad->ad.block<w'.heap.size
theorem bv_ (B b o:Nat)(h0:0<B)(x:Vo)(file:ByteArray)(w:World)(h:VoAt B w b o x)(m2:x.its.length<=4194304)(m3:StrI x.its):
  Calls Tryz.prog 158 #[.pointer (some ⟨b,o,none⟩),.string file] w fun e w'=>RetPsS B e w' ((itI x.its file).bind fun k=>x.its[k]?.map (·.ps))∧Below w.heap.size w w':=by
 obtain⟨_,_,qa,qn,qc,e3,hP,hH⟩:=h;have ha:Hid (x.its.length=qn):=hP.len;rw[ha.out] at m2;have hR:Hid (((itI x.its file).bind fun k=>x.its[k]?.map (·.ps))=(((itI (x.its.drop 0) file).map (·+0)).bind fun k=>x.its[k]?.map (·.ps))):=by show _=_;simp
 generalize ((itI x.its file).bind fun k=>x.its[k]?.map (·.ps))=R at *;go_enter Tryz.func158,Tryz.ntmps158
 go_wp2_with fail
 go_loopw [13] (fun ix wr=>∃ (k:Nat),k<=qn∧ix=.int .i64 k∧Hid (R=(((itI (x.its.drop k) file).map (·+k)).bind fun k=>x.its[k]?.map (·.ps)))∧Below w.heap.size w wr) (fun ix _=>qn-(intOf ix).toNat)
 case atStart=>exact⟨0,Zg _,rfl,hR,Below.refl _ _⟩
 case round=>
  clear hR;obtain⟨k,hk,rfl,hI,hB⟩:=hrel;by_cases hlt:k<qn
  ·have hl:k<x.its.length:=by rw[ha.out];exact hlt
   obtain⟨y,hy⟩:∃ y,x.its[k]?=some y:=⟨x.its[k],by simp[hl]⟩;obtain⟨ib,io,pa,pn,pc,rfl,g0,g1,hf,hh,_,_,he,_⟩:=(hP.below hB).cell k y hy;obtain⟨_,m5⟩:=m3 y (Zc hy);have hb:Hid (R=((if (y.nm.toList==file.toList)=true then some k else (itI (x.its.drop (k+1)) file).map (·+(k+1))).bind fun k=>x.its[k]?.map (·.ps))):=by show _=_;rw[hI.out,ku_ hy]
   have hn:(k:Int)<qn:=by omega
   have hm:(0:Int)<=k:=by omega
   have hc:Below wr.heap.size wr (wr.alloc (.cells #[.string y.nm,.slice pa pn pc] 156)):=by go_grown
   have X:=(Blk.new wr #[.string y.nm,.slice pa pn pc] 156);clear hI
   cases hs:(y.nm.toList==file.toList)
   ·rw[hs] at hb;simp only[Zj,if_false] at hb;have hj:¬ y.nm.toList=file.toList:=by simpa using hs
    clear hy;go_wp2;go_roundw
    case rel=>exact⟨k+1,by omega,by go_num,hb,chain hB hc⟩
    case measure=>simp[intOf];omega
   ·rw[hs] at hb;simp only[if_true,Option.bind_some,hy,Option.map_some] at hb;have hj:y.nm.toList=file.toList:=by simpa using hs
    clear hy;go_wp2;go_returns;exact⟨by rw[hb.out];exact⟨pa,pn,pc,rfl,hf.below hc,hh,m5,fun ad e=>by obtain⟨_,c1,t1,hg⟩:=he h0 ad e;exact Zy hg.lt hc.size⟩,chain hB hc⟩
  ·obtain rfl:k=qn:=by omega
   go_wp2;go_returns;exact⟨by rw[hI.out,Ze (Zm ha.out)];rfl,hB⟩
theorem VolT.at (V:VolT B w r y)(RV:ResAt vrs 4 97 w B (some ⟨vb,0,none⟩) vn vc rows)(hi:rows[i]?=some r):VoAt B w vb (i*4) y:=by
 obtain⟨e1,e2,e3,rs,R,T⟩:=V;have c0:=RV.cellAt (j:=0) hi rfl;have c1:=RV.cellAt (j:=1) hi rfl;have c3:=RV.cellAt (j:=3) hi rfl;rw[e1] at c0;rw[e2] at c1;exact⟨c0,c1,r.pa,r.pn,r.pc,c3,T.rows.its R,R.hd⟩
def fileO (y:Vo)(file:ByteArray):Option (List Pt):=(itI y.its file).bind fun k=>y.its[k]?.map (·.ps)
structure Foc (B vb vn vc i:Nat)(rows:List VR)(r:VR)(y:Vo)(w:World):Prop where
 rv:ResAt vrs 4 97 w B (some ⟨vb,0,none⟩) vn vc rows
 hi:rows[i]?=some r
 v:VolT B w r y
 ris:RisI y.its
 len:y.its.length<=4000000
 str:StrI y.its
theorem Foc.below (h:Foc B vb vn vc i rows r y w)(hb:Below w.heap.size w w'):Foc B vb vn vc i rows r y w':=⟨h.rv.below hb,h.hi,h.v.below hb,h.ris,h.len,h.str⟩
def NewV (B vb vn vc i:Nat)(rows:List VR)(r:VR)(y:Vo)(its:List It)(w w':World):Prop:=∃ r',ResAt vrs 4 97 w' B (some ⟨vb,0,none⟩) vn vc (rows.set i r')∧VolT B w' r' {y with its:=its}∧FrL (vb::blkOf r.pa) w w'∧MovV w r w' r'
theorem MovV.from {r':VR}(hb:Below w0.heap.size w0 w)(h:MovV w r w' r'):MovV w0 r w' r':=⟨fun ad e=>(h.1 ad e).imp id (fun q=>Zl hb.size q),fun rs ha=>(h.2 rs (ha.below hb)).mono hb.size⟩
theorem NewV.from {its:List It}(hb:Below w0.heap.size w0 w)(h:NewV B vb vn vc i rows r y its w w'):NewV B vb vn vc i rows r y its w0 w':=by
 obtain⟨r',h1,h2,h3,h4⟩:=h;exact⟨r',h1,h2,(FrL.of_below hb).new h3 (fun k h=>.inl h),h4.from hb⟩
theorem putLaid' (B vb vn vc i:Nat)(rows:List VR)(r:VR)(y:Vo)(file:ByteArray)(pa:Option Addr)(pn pc:Nat)(l:List Pt)(at':Int)(qa:Option Addr)(qn qc:Nat)(m:List Pt)(ep:Addr)(w:World)(hBw:B<=w.heap.size)(F:Foc B vb vn vc i rows r y w)
  (hP:PtsAt w pa pn l)(hpn:pn<=4194304)(hPb:∀ ad,pa=some ad->ad.block<w.heap.size)(hQ:PtsAt w qa qn m)(hqn:qn<=4194304)(hQb:∀ ad,qa=some ad->ad.block<w.heap.size)(hg:SenAt w 10 ep):
  Calls Tryz.prog 159 #[.pointer (some ⟨vb,i*4,none⟩),.string file,.slice pa pn pc,.int .i64 at',.slice qa qn qc] w fun e w'=>
   (laidO l at' m=none∧e=.returned (refV 5 ep)∧Below w.heap.size w w')∨(∃ ps,laidO l at' m=some ps∧e=.returned .nilIface∧NewV B vb vn vc i rows r y (setI ⟨file,ps⟩ y.its) w w'):=by
 refine (jq_ B vb vn vc i rows r y file pa pn pc l at' qa qn qc m ep w hBw F.rv F.hi F.v F.ris F.len hP hpn hPb hQ hqn hQb hg).mono ?_;rintro e w' (h | ⟨ps,r',h1,h2,h3,h4,h5⟩)
 ·exact .inl h
 ·exact .inr ⟨ps,h1,h2,r',h3,h4,h5⟩
end
section
open Go Go.RowKit
variable{α:Type}{ps:List Pt}{p:Pt}
def RJ (r:RSt)(J:List Pt):Prop:=(r.ov=false->r.L=J∧r.s<=100∧J.length<=16)∧(r.ov=true->100<r.s∨16<J.length)
theorem pI_ (l:List Pt)(p:Pt):l.length<=(addL l p).length:=by
 unfold addL;split
 ·rename_i h;rw[List.getLast?_eq_none_iff] at h;simp[h]
 ·rename_i q h;split
  ·have:0<l.length:=List.length_pos_of_mem (List.mem_of_getLast? h)
   simp only[ZE,List.length_dropLast,Zw,List.length_nil];omega
  ·simp
theorem fx_ {x:Int}(h0:0<=x)(h1:x<=1000000):wrap64 x=x:=by unfold wrap64;omega
theorem pJ_ {r:RSt}{J:List Pt}(hi:RInv r)(hp:1<=p.n)(h:RJ r J):RJ (radd r p) (addL J p):=by
 have hj:=pI_ J p;have hs:=fn_ r p
 cases ha:r.ov
 ·obtain⟨hL,hc,he⟩:=h.1 ha;subst hL;by_cases hA:100<r.s+p.n
  ·have e:radd r p=⟨r.L,r.s+p.n,true⟩:=by simp[radd,hA]
   rw[e];exact⟨fun h=>(by cases h),fun _=>.inl hA⟩
  ·cases hl:r.L.getLast? with
   |none=>
    have e:radd r p=⟨[p],r.s+p.n,r.ov⟩:=by simp[radd,hA,hl]
    have e2:addL r.L p=[p]:=by simp[addL,hl]
    rw[e,e2,ha];exact⟨fun _=>⟨rfl,(by show r.s+p.n<=100;omega),(by simp)⟩,fun h=>(by cases h)⟩
   |some q=>
    have hh:=hi.2 q (List.mem_of_getLast? hl)
    cases hg:goesOnB q p
    ·have e2:addL r.L p=r.L++[p]:=by simp[addL,hl,hg]
     by_cases hf:r.L.length<16
     ·rw[j0_ (by omega) hl hg hf,e2,ha];exact⟨fun _=>⟨rfl,(by show r.s+p.n<=100;omega),(by simp;omega)⟩,fun h=>(by cases h)⟩
     ·rw[iE_ (by omega) hl hg hf,e2];exact⟨fun h=>(by cases h),fun _=>.inr (by simp;omega)⟩
    ·have e2:addL r.L p=r.L.dropLast++[⟨q.a,q.f,q.n+p.n⟩]:=by
      simp only[addL,hl,hg,if_true];rw[fx_ (by omega) (by omega)]
     rw[hm_ (by omega) hl hg,e2,ha];refine⟨fun _=>⟨rfl,(by show r.s+p.n<=100;omega),?_⟩,fun h=>(by cases h)⟩;simp only[ZE,List.length_dropLast,Zw,List.length_nil];omega
 ·have hb:(radd r p).ov=true:=by
   unfold radd;split
   ·rfl
   ·split
    ·exact ha
    ·split
     ·exact ha
     ·split
      ·exact ha
      ·rfl
  refine⟨fun h=>(by rw[hb] at h;cases h),fun _=>?_⟩;rw[hs];rcases h.2 ha with h | h
  ·exact .inl (by omega)
  ·exact .inr (by omega)
theorem p4_ (ps:List Pt):∀ (r:RSt) (J:List Pt),RInv r->(∀ p∈ps,1<=p.n)->RJ r J->RJ (rall r ps) (joinL J ps)∧(rall r ps).s=r.s+sumN ps:=by
 induction ps with
 |nil=>intro r J _ _ h;exact⟨h,by simp[rall,sumN]⟩
 |cons p t ih=>
  intro r J hi hp h;have ha:=hp p (by simp)
  have:=ih (radd r p) (addL J p) (fJ_ hi ha) (fun q hq=>hp q (by simp[hq])) (pJ_ hi ha h)
  refine⟨this.1,?_⟩;have e:=this.2;rw[fn_] at e;show (rall (radd r p) t).s=_;rw[e];simp[sumN];omega
theorem hS_ (h:∀ p∈ps,1<=p.n):outc (rowOf ps)=if sumN ps<=100∧(joinL [] ps).length<=16 then some (joinL [] ps) else none:=by
 obtain⟨h1,h2⟩:=p4_ ps ⟨[],0,false⟩ [] fK_ h ⟨fun _=>⟨rfl,by simp,by simp⟩,fun h=>(by cases h)⟩;simp only[Int.zero_add] at h2;unfold outc rowOf
 cases ha:(rall ⟨[],0,false⟩ ps).ov
 ·obtain⟨e1,e2,e3⟩:=h1.1 ha;simp only[Zj,if_false];rw[if_pos ⟨by omega,e3⟩,e1]
 ·have:=h1.2 ha
  simp only[if_true];rw[if_neg (by omega)]
theorem mQ_ {fr to st:Int}(h:max (fr-st) 0<min (to-st) p.n):1<=(cutP p (max (fr-st) 0) (min (to-st) p.n)).n∧(cutP p (max (fr-st) 0) (min (to-st) p.n)).n<=p.n:=by
 rw[gf_];omega
theorem hT_ (fr to:Int)(l:List Pt):∀ st,(∀ p∈l,1<=p.n)->(∀ p∈slp fr to st l,1<=p.n)∧sumN (slp fr to st l)<=sumN l∧(slp fr to st l).length<=l.length∧0<=sumN l:=by
 induction l with
 |nil=>intro st _;simp[slp,sumN]
 |cons p r ih=>
  intro st h;have hp:=h p (by simp);obtain⟨h1,h2,h3,h4⟩:=ih (st+p.n) (fun q hq=>h q (by simp[hq]));by_cases hx:max (fr-st) 0<min (to-st) p.n
  ·have hb:=mQ_ hx;rw[eN_ rfl rfl hx];refine⟨?_,by simp only[sumN];omega,by simp;omega,by simp only[sumN];omega⟩;intro q hq;rcases Zn.1 hq with rfl | hq
   ·exact hb.1
   ·exact h1 q hq
  ·rw[fo_ hx];exact⟨h1,by simp only[sumN];omega,by simp;omega,by simp only[sumN];omega⟩
theorem nA_ (m:List Pt):∀ l,(joinL l m).length<=l.length+m.length:=by
 induction m with
 |nil=>intro l;simp[joinL]
 |cons p t ih=>
  intro l;have h1:=ih (addL l p);have h2:=fL_ l p;show (joinL (addL l p) t).length<=_;simp only[Zw];omega
theorem oC_ (l:List Pt)(fr to:Int):(if partsOkB l=true∧0<=fr∧fr<=sumN l∧fr<=to∧to<=sumN l then outc (rowOf (slp fr to 0 l)) else none)=if partsOkB l=true∧0<=fr∧fr<=sumN l∧fr<=to∧to<=sumN l then some (joinL [] (slp fr to 0 l)) else none:=by
 split
 ·rename_i h;have hp:=fun p hp=>(ci_ h.1 p hp).1;obtain⟨b1,b2,b3,_⟩:=hT_ fr to l 0 hp;obtain⟨c1,_,c3⟩:=ae_ h.1;have hj:=nA_ (slp fr to 0 l) [];rw[hS_ b1,if_pos ⟨by omega,by simp at hj;omega⟩]
 ·rfl
theorem oD_ (h:∀ p∈ps,1<=p.n):((outc (rowOf ps)).getD []).length<=16:=by
 rw[hS_ h];split
 ·rename_i h;exact h.2
 ·simp
theorem OwnAt.arg {cs:α->List Value}{sz:Nat}{t:TypeId}{w:World}{b n:Nat}{l:List α}(_:OwnAt cs sz t w b n l)(cap:Nat):ArgOk (some ⟨b,0,none⟩) cap:=pj_ b cap
theorem hU_ (l:List Pt)(fr to:Int):((sliceO l fr to).getD []).length<=16:=by
 unfold sliceO;split
 ·rename_i h;exact oD_ (hT_ fr to l 0 (fun p hp=>(ci_ h.1 p hp).1)).1
 ·simp
end
section
open Go Go.RowKit Go.BigFrame Tryz
variable{α:Type}{file:ByteArray}{r:IR}{rows:List IR}{l:List Pt}{B i:Nat}{y:Vo}{w w':World}
structure Sens (S:Addr->Prop)(w:World):Prop where
 op:∃ a,SenAt w 1 a∧S a
 volume:∃ a,SenAt w 4 a∧S a
 file:∃ a,SenAt w 8 a∧S a
 bytes:∃ a,SenAt w 9 a∧S a
 there:∃ a,SenAt w 6 a∧S a
 fixed:∃ a,SenAt w 5 a∧S a
 room:∃ a,SenAt w 7 a∧S a
 parts:∃ a,SenAt w 10 a∧S a
 after:∃ a,SenAt w 2 a∧S a
theorem SenAt.below {g:Nat}{a:Addr}(h:SenAt w g a)(hb:Below w.heap.size w w'):SenAt w' g a:=bcell hb h
theorem Sens.below {S:Addr->Prop}(h:Sens S w)(hb:Below w.heap.size w w'):Sens S w':=by
 obtain⟨⟨a1,h1,s1⟩,⟨a2,h2,s2⟩,⟨a3,h3,s3⟩,⟨a4,h4,s4⟩,⟨a5,h5,s5⟩,⟨a6,h6,s6⟩,⟨a7,h7,s7⟩,⟨a8,h8,s8⟩,⟨a9,h9,s9⟩⟩:=h;exact⟨⟨a1,h1.below hb,s1⟩,⟨a2,h2.below hb,s2⟩,⟨a3,h3.below hb,s3⟩,⟨a4,h4.below hb,s4⟩,⟨a5,h5.below hb,s5⟩,⟨a6,h6.below hb,s6⟩,⟨a7,h7.below hb,s7⟩,⟨a8,h8.below hb,s8⟩,⟨a9,h9.below hb,s9⟩⟩
def RetV (S:Addr->Prop)(B vb vn vc i:Nat)(rows:List VR)(r:VR)(y:Vo)(w:World)(e:Ending)(w':World):Int⊕List It->Prop
 |.inl c=>(∃ a,S a∧e=.returned (refV c a))∧Below w.heap.size w w'
 |.inr its=>e=.returned .nilIface∧NewV B vb vn vc i rows r y its w w'
def laidR (y:Vo)(file:ByteArray)(l:List Pt)(at':Int)(m:List Pt):Int⊕List It:=match laidO l at' m with | none=>.inl 5 | some ps=>.inr (setI ⟨file,ps⟩ y.its)
def punchR (y:Vo)(file:ByteArray)(at' size:Int):Int⊕List It:=match fileO y file with | none=>.inl 3 | some l=>laidR y file l at' [⟨0,0,size⟩]
def cutR (y:Vo)(file:ByteArray)(size:Int):Int⊕List It:=match fileO y file with | none=>.inl 3 | some l=>laidR y file ((sliceO l 0 (min size (lenB l))).getD []) size []
theorem gp_ {S:Addr->Prop}{vb vn vc:Nat}{rows:List VR}{r:VR}{m:List Pt}{at':Int}{ep:Addr}{w0:World}{e:Ending}(hS:S ep)(hb:Below w0.heap.size w0 w)
  (h:(laidO l at' m=none∧e=.returned (refV 5 ep)∧Below w.heap.size w w')∨(∃ ps,laidO l at' m=some ps∧e=.returned .nilIface∧NewV B vb vn vc i rows r y (setI ⟨file,ps⟩ y.its) w w')):RetV S B vb vn vc i rows r y w0 e w' (laidR y file l at' m):=by
 rcases h with⟨h1,h2,h3⟩ | ⟨ps,h1,h2,h3⟩
 ·unfold laidR;rw[h1];exact⟨⟨ep,hS,h2⟩,chain hb h3⟩
 ·unfold laidR;rw[h1];exact⟨h2,h3.from hb⟩
theorem lV_ (S:Addr->Prop)(B:Nat)(h0:0<B)(vb vn vc i:Nat)(rows:List VR)(r:VR)(y:Vo)(vol file:ByteArray)(at' size:Int)(w:World)(hBw:B<=w.heap.size)(F:Foc B vb vn vc i rows r y w)(hS:Sens S w):
  Calls prog 127 #[.pointer (some ⟨vb,i*4,none⟩),.agg #[.string vol,.string file,.int .i64 at',.int .i64 size]] w fun e w'=>RetV S B vb vn vc i rows r y w e w' (punchR y file at' size):=by
 have hR:Hid (punchR y file at' size=match fileO y file with | none=>.inl 3 | some l=>laidR y file l at' [⟨0,0,size⟩]):=rfl;generalize punchR y file at' size=R at *;obtain⟨W0,he⟩:∃ W,W=w.alloc (.cells #[.string vol,.string file,.int .i64 at',.int .i64 size] 210):=⟨_,rfl⟩;have hh:Below w.heap.size w W0:=by rw[he];exact (Below.refl _ _).alloc (Zd _) _
 have X:Blk W0 w.heap.size #[.string vol,.string file,.int .i64 at',.int .i64 size] 210:=by rw[he];exact Blk.new _ _ _
 go_enter func127,ntmps127
 go_wp2_with fail
 rw[<-he];clear he;have F0:=F.below hh;refine (bv_ B vb (i*4) h0 y file W0 (F0.v.at F0.rv F0.hi) (by have:=F.len;omega) F.str).mono ?_;rintro e w1 ⟨ha,hg⟩;have F1:=F0.below hg;have hC:=chain hh hg;have hj:=hS.below hC;replace X:=X.below hg;obtain⟨x0,x1,x2,x3⟩:=X.four;have hz:=hC.size;change RetPsS B e w1 (fileO y file) at ha
 cases hf:fileO y file with
 |none=>
  rw[hf] at ha;obtain rfl:=ha;obtain⟨ef,hk,hp⟩:=hj.file;have g:w1.cell? ⟨8,0,none⟩=_:=hk;go_wp2;go_returns;rw[hR.out,hf];exact⟨⟨ef,hp,rfl⟩,hC⟩
 |some l=>
  rw[hf] at ha;obtain⟨pa,pn,pc,rfl,hP,hr,hn,hl⟩:=ha;obtain⟨ep,hm,ho⟩:=hj.parts;have hq:pn<=4194304:=by rw[<-hP.len];exact hn
  go_wp2_with fail
  have hA:Below w1.heap.size w1 (w1.alloc (.cells #[.int .i64 0,.int .i64 0,.int .i64 size] 162)):=(Below.refl _ _).alloc (Zd _) _;have hQ:PtsAt (w1.alloc (.cells #[.int .i64 0,.int .i64 0,.int .i64 size] 162)) (some ⟨w1.heap.size,0,none⟩) 1 [⟨0,0,size⟩]:=jo_ (⟨0,0,size⟩:Pt) (Blk.new w1 #[.int .i64 0,.int .i64 0,.int .i64 size] 162) rfl;refine (putLaid' B vb vn vc i rows r y file pa pn pc l at' (some ⟨w1.heap.size,0,none⟩) 1 1 [⟨0,0,size⟩] ep _ (by have:=hA.size;omega) (F1.below hA) (hP.below hA) hq (fun ad e=>Zy (hl ad e) hA.size) hQ (by omega) (fun ad e=>by cases e;simp) (hm.below hA)).mono ?_;rintro e w2 hc;have hb:=gp_ (file:=file) ho (chain hC hA) hc;rcases hc with⟨_,rfl,_⟩ | ⟨ps,_,rfl,_⟩
  ·unfold refV at hb ⊢;go_wp2;go_returns;rw[hR.out,hf];exact hb
  ·go_wp2;go_returns;rw[hR.out,hf];exact hb
theorem oE_ (S:Addr->Prop)(B:Nat)(h0:0<B)(vb vn vc i:Nat)(rows:List VR)(r:VR)(y:Vo)(vol file:ByteArray)(size:Int)(w:World)(hBw:B<=w.heap.size)(F:Foc B vb vn vc i rows r y w)(hS:Sens S w):
  Calls prog 126 #[.pointer (some ⟨vb,i*4,none⟩),.agg #[.string vol,.string file,.int .i64 size]] w fun e w'=>RetV S B vb vn vc i rows r y w e w' (cutR y file size):=by
 have hR:Hid (cutR y file size=match fileO y file with | none=>.inl 3 | some l=>laidR y file ((sliceO l 0 (min size (lenB l))).getD []) size []):=rfl;generalize cutR y file size=R at *;obtain⟨W0,hj⟩:∃ W,W=w.alloc (.cells #[.string vol,.string file,.int .i64 size] 207):=⟨_,rfl⟩;have hm:Below w.heap.size w W0:=by rw[hj];exact (Below.refl _ _).alloc (Zd _) _
 have X:Blk W0 w.heap.size #[.string vol,.string file,.int .i64 size] 207:=by rw[hj];exact Blk.new _ _ _
 go_enter func126,ntmps126
 go_wp2_with fail
 rw[<-hj];clear hj;have F0:=F.below hm;refine (bv_ B vb (i*4) h0 y file W0 (F0.v.at F0.rv F0.hi) (by have:=F.len;omega) F.str).mono ?_;rintro e w1 ⟨ha,hl⟩;have F1:=F0.below hl;have hC:=chain hm hl;have hb:=hS.below hC;replace X:=X.below hl;have x2:w1.cell? ⟨w.heap.size,2,none⟩=some (.int .i64 size):=X.cell 2;have hz:=hC.size;change RetPsS B e w1 (fileO y file) at ha
 cases hf:fileO y file with
 |none=>
  rw[hf] at ha;obtain rfl:=ha;obtain⟨ef,ho,hw⟩:=hb.file;have g:w1.cell? ⟨8,0,none⟩=_:=ho;go_wp2;go_returns;rw[hR.out,hf];exact⟨⟨ef,hw,rfl⟩,hC⟩
 |some l=>
  rw[hf] at ha;obtain⟨pa,pn,pc,rfl,hP,hx,hs,hp⟩:=ha;have hn:pn<=4194304:=by rw[<-hP.len];exact hs
  go_wp2_with fail
  have hW:Below w1.heap.size w1 w1.drew:=(Below.refl _ _).drew;replace hP:=hP.below hW;replace X:=X.below hW;replace F1:=F1.below hW;replace hb:=hb.below hW;replace hC:=chain hC hW;have hy:w1.drew.heap.size=w1.heap.size:=rfl;have hA:(fun u=>u.cell? ⟨w.heap.size,2,none⟩=some (.int .i64 size)) w1.drew:=x2;refine aC_ (S:=(fun u=>u.cell? ⟨w.heap.size,2,none⟩=some (.int .i64 size))) 12 (by kernel_rfl) rfl ?_;generalize w1.drew=u0 at *;refine tk 0 ?_;refine tk 1 ?_;refine tk 2 ?_;refine tk 3 ?_;refine oneL (i:=4) (by kernel_rfl) rfl (fun K hK=>?_);go_simp;refine (bo_ pa pn pc l u0 hP hn).mono ?_;rintro e u1 ⟨rfl,hB⟩;replace hP:=hP.below hB;replace X:=X.below hB;replace F1:=F1.below hB;replace hb:=hb.below hB;replace hC:=chain hC hB;have hD:=hB.size;clear hB;dsimp only;refine hK.out _ _ (X.cell 2) (fun hHeld=>?_);clear hK K
  try simp only[Act.put,lsA,lsB,lsC]
  refine tk 5 ?_;refine oneL (i:=6) (by kernel_rfl) rfl (fun K hK=>?_);go_simp;refine (hp_ pa pn pc l 0 (min size (lenB l)) u1 hP hn (fun ad e=>by have:=hp ad e;omega)).mono ?_;rintro e u2 ⟨hg,hB⟩;replace X:=X.below hB;replace F1:=F1.below hB;replace hb:=hb.below hB;replace hC:=chain hC hB;have hE:=hB.size
  obtain⟨ka,kn,kc,bk,rfl,hr,ht,hv⟩:∃ ka kn kc bk,e=.returned (.tuple #[.slice ka kn kc,.bool bk])∧PtsAt u2 ka kn ((sliceO l 0 (min size (lenB l))).getD [])∧kn<=4194304∧∀ ad,ka=some ad->ad.block<u2.heap.size:=by
   cases hk:sliceO l 0 (min size (lenB l)) with
   |none=>rw[hk] at hg;exact⟨none,0,0,false,hg,(aB_ (t:=162) (B:=0)).sl,by omega,fun ad e=>by cases e⟩
   |some L=>
    rw[hk] at hg;obtain⟨ka,kn,kc,he,RK⟩:=hg;refine⟨ka,kn,kc,true,he,RK.sl,?_,fun ad e=>(RK.block ad e).2⟩;rw[<-RK.sl.len]
    have:=hU_ l 0 (min size (lenB l))
    rw[hk] at this;simp only[Option.getD_some] at this;omega
  clear hB hg;dsimp only;refine hK.out _ _ (X.cell 2) (fun hHeld=>?_);clear hK K
  try simp only[Act.put,lsA,lsB,lsC]
  refine tk 7 ?_;refine tk 8 ?_;refine tk 9 ?_;refine tk 10 ?_;refine tk 11 ?_;refine wpAnyH_done (by kernel_rfl) ?_ _;obtain⟨ep,hq,hu⟩:=hb.parts;have x1:u2.cell? ⟨w.heap.size,1,none⟩=some (.string file):=X.cell 1;have x2b:u2.cell? ⟨w.heap.size,2,none⟩=some (.int .i64 size):=X.cell 2;clear x2
  go_wp2_with fail
  refine (putLaid' B vb vn vc i rows r y file ka kn kc _ size none 0 0 [] ep u2 (by omega) F1 hr ht hv (aB_ (t:=162) (B:=0)).sl (by omega) (fun ad e=>by cases e) hq).mono ?_;rintro e w2 hh;have hc:=gp_ (file:=file) hu hC hh;rcases hh with⟨_,rfl,_⟩ | ⟨ps,_,rfl,_⟩
  ·unfold refV at hc ⊢;go_wp2;go_returns;rw[hR.out,hf];exact hc
  ·go_wp2;go_returns;rw[hR.out,hf];exact hc
def idxI:Option Nat->Int
 |none=>-1
 |some k=>(k:Int)
theorem fy_ {P:Program}(w:World)(t e:TypeId)(z:Value)(ht:P.underlying t=some (.slice e))(hv:∀ w,(zeroValue e).run P w=.ok z w)(h1:∀ m,∀ u∈(Builtin.zeroCells z.cells m).toList,u.oneCell'=true)(sz:Nat)(hz:z.cells.size=sz)(b o m cp:Nat)(c:Array Value)(e':TypeId)(hb:Blk w b c e')(hfit:o+m*sz<=c.size):
  ∃ W2 c2,(∀ ty,(Builtin.clear_ #[t] ty #[.slice (some ⟨b,o,none⟩) m cp]).run P w=.ok (.tuple #[]) W2)∧Blk W2 b c2 e'∧c2.size=c.size∧c2.toList.take o=c.toList.take o∧w.grownBy W2 (some b):=by
 cases m with
 |zero=>exact⟨w,c,fun ty=>by simp[Builtin.clear_,run_underlying ht],hb,rfl,rfl,World.grownBy.refl _ _⟩
 |succ m=>
  have hl:(Builtin.zeroCells z.cells (m+1)).toList.length=(m+1)*sz:=by simp[Builtin.zeroCells,hz]
  have ha:=run_storeCells_at P b o e' (Builtin.zeroCells z.cells (m+1)).toList 0 c w hb (by rw[hl];simpa using hfit) (h1 (m+1));simp only[Nat.add_zero] at ha;refine⟨w.setRow b (c.toList.take o++(Builtin.zeroCells z.cells (m+1)).toList++c.toList.drop (o+(Builtin.zeroCells z.cells (m+1)).toList.length)).toArray,_,fun ty=>?_,hb.row,?_,?_,fv_ _ _ _⟩
  ·simp[Builtin.clear_,run_underlying ht,hv,ha]
  ·have hc:c.toList.length=c.size:=Array.length_toList;simp only[List.size_toArray,ZE,Zz,List.length_drop,hc,hl];omega
  ·have hc:c.toList.length=c.size:=Array.length_toList;show (c.toList.take o++_++_).take o=_;rw[ZC,List.take_append_of_le_length (by rw[Zz];omega),List.take_take,Nat.min_self]
theorem cU_ {L:List α}{v:α}(h:i<L.length):(L.set i v).take (i+1)=L.take i++[v]:=by
 rw[ZK,Zx h,List.take_set_of_le (Zd _)];rfl
def eT_ (I:World->Prop)(fv:Value)(q:IR->Bool):Prop:=∃ f cp,fv=.func (.func f) #[] #[cp]∧(∀ (x y:Value) (u:World),(callFunc f #[x,y]).run prog u=.ok (.enter f #[x,y]) u)∧∀ (u:World) (r:IR),I u->Calls prog f #[.agg #[.string r.nm,.slice r.pa r.pn r.pc],cp] u fun e w'=>e=.returned (.bool (q r))∧Below u.heap.size u w'
theorem is_ (I:World->Prop)(fv:Value)(q:IR->Bool)(hq:eT_ I fv q)(hI:∀ u u',I u->Below u.heap.size u u'->I u')(a:Option Addr)(n cap:Nat)(rows:List IR)(w:World)(h:SlAt irs 2 w a n rows)(hw:I w)(hn:n<=4194304):
  Calls prog 183 #[.slice a n cap,fv] w fun e w'=>e=.returned (.int .i64 (idxI (rows.findIdx? q)))∧Below w.heap.size w w':=by
 obtain⟨f,cp,rfl,hg,hq⟩:=hq;have hb:Hid (rows.length=n):=h.len;have hR:Hid ((idxI (rows.findIdx? q))=idxI (((rows.drop 0).findIdx? q).map (fun j:Nat=>j+0))):=by show _=_;simp
 generalize (idxI (rows.findIdx? q))=R at *;go_enter func183,ntmps183
 go_wp2_with fail
 go_loopw [5,8] (fun _ ix wr=>∃ (k:Nat),k<=n∧ix=.int .i64 k∧Hid (R=idxI (((rows.drop k).findIdx? q).map (fun j:Nat=>j+k)))∧Below w.heap.size w wr) (fun _ ix _=>n-(intOf ix).toNat)
 case atStart=>exact⟨0,Zg _,rfl,hR,Below.refl _ _⟩
 case round=>
  clear hR;obtain⟨k,hk,rfl,he,hB⟩:=hrel;by_cases hlt:k<n
  ·have hm:(k:Int)<n:=by omega
   have hl:(0:Int)<=k:=by omega
   have hh:k<rows.length:=by rw[hb.out];exact hlt
   obtain⟨r,hr⟩:∃ r,rows[k]?=some r:=⟨rows[k],by simp[hh]⟩;obtain⟨b,o,rfl,hc⟩:=(h.below hB).cell k r hr;have x0:wr.cell? ⟨b,o+k*2,none⟩=some (.string r.nm):=hc 0 _ rfl;have x1:wr.cell? ⟨b,o+k*2+1,none⟩=some (.slice r.pa r.pn r.pc):=hc 1 _ rfl
   have ha:Hid (R=idxI (if q r=true then some k else ((rows.drop (k+1)).findIdx? q).map (fun j:Nat=>j+(k+1)))):=by
    show _=_;rw[he.out,al_ hr,List.findIdx?_cons]
    cases q r
    ·simp only[Zj,if_false]
     cases (rows.drop (k+1)).findIdx? q with
     |none=>rfl
     |some j=>simp only[Option.map_some];congr 2;omega
    ·simp
   clear he
   go_wp2_with fail
   refine (hq wr r (hI _ _ hw hB)).mono ?_;rintro e w2 ⟨rfl,hj⟩;have hC:=chain hB hj
   cases hf:q r
   ·rw[hf] at ha;simp only[Zj,if_false] at ha;go_wp2;go_roundw
    case rel=>exact⟨k+1,by omega,by go_num,ha,hC⟩
    case measure=>simp[intOf];omega
   ·rw[hf] at ha;simp only[if_true] at ha;go_wp2;go_returns;exact⟨by rw[ha.out]<;>rfl,hC⟩
  ·obtain rfl:k=n:=by omega
   go_wp2;go_returns;exact⟨by rw[he.out,Ze (Zm hb.out)];rfl,hB⟩
theorem p5_:∀ m,∀ u∈(Builtin.zeroCells (.agg #[.string .empty,.slice none 0 0]:Value).cells m).toList,u.oneCell'=true:=by
 intro m u hu;simp only[Builtin.zeroCells,Array.toList_map,ZT] at hu;obtain⟨j,_,rfl⟩:=hu;have h:j % 2<2:=Nat.mod_lt _ (by decide);show ((.agg #[.string .empty,.slice none 0 0]:Value).cells[j % 2]!).oneCell'=true;generalize j % 2=k at h
 match k,h with
 |0,_=>rfl
 |1,_=>rfl
theorem hV_ (I:World->Prop)(fv:Value)(q:IR->Bool)(hq:eT_ I fv q)(hI:∀ u u',I u->Below u.heap.size u u'->I u')(B b n cap:Nat)(hI2:∀ u u',I u->u.grownBy u' (some b)->I u')(rows:List IR)(w:World)(R:ResAt irs 2 156 w B (some ⟨b,0,none⟩) n cap rows)(hw:I w)(hn:n<=4194304):
  Calls prog 162 #[.slice (some ⟨b,0,none⟩) n cap,fv] w fun e w'=>∃ m,e=.returned (.slice (some ⟨b,0,none⟩) m cap)∧ResAt irs 2 156 w' B (some ⟨b,0,none⟩) m cap (rows.filter (fun r=>!(q r)))∧w.grownBy w' (some b):=by
 have hf:Hid (rows.length=n):=R.sl.len
 have qm:n<=cap∧cap<=9223372036854775807:=by
  rcases R.own with⟨h0,_⟩ | ⟨b',h1,_,h3,h4,_⟩
  ·cases h0
  ·unfold maxLen at h4;omega
 obtain⟨f,cp,rfl,hy,hq⟩:=hq;have qa:eT_ I (.func (.func f) #[] #[cp]) q:=⟨f,cp,rfl,hy,hq⟩;go_enter func162,ntmps162
 go_wp2_with fail
 refine (is_ I (.func (.func f) #[] #[cp]) q qa hI (some ⟨b,0,none⟩) n cap rows w R.sl hw hn).mono ?_;rintro e w1 ⟨rfl,hD⟩;have hW:=hI _ _ hw hD;replace R:=R.below hD;have ht:w.grownBy w1 (some b):=au_ (World.grownBy.refl _ _) hD
 cases hH:rows.findIdx? q with
 |none=>
  have hg:rows.filter (fun r=>!(q r))=rows:=by
   rw[List.filter_eq_self];intro r hr
   have:=List.findIdx?_eq_none_iff.1 hH r hr
   simpa using this
  unfold idxI;go_wp2;go_returns;rw[hg];exact⟨n,rfl,R,ht⟩
 |some k0=>
  obtain⟨hL,hV,hU⟩:=ZA.1 hH;have hB:k0<n:=by rw[<-hf.out];exact hL
  have hk:Hid (rows.take k0=(rows.take (k0+1)).filter (fun r=>!(q r))):=by
   show _=_
   have h1:(rows.take k0).filter (fun r=>!(q r))=rows.take k0:=by
    rw[List.filter_eq_self];intro a ha;obtain⟨j,hj,rfl⟩:=List.mem_take_iff_getElem.1 ha
    have:=hU j (by omega)
    simpa using this
   rw[ZK,List.filter_append,h1,ZI hL];simp[hV]
  unfold idxI;have hz:¬ ((k0:Int)=-1):=by omega
  have qf:((k0:Int)==-1)=false:=by rw[ZV];omega
  go_wp2_with fail
  go_loopw [5,6] (fun vi vj wr=>∃ (i j:Nat) (L:List IR),i<j∧j<=n∧vi=.int .i64 i∧vj=.int .i64 j∧ResAt irs 2 156 wr B (some ⟨b,0,none⟩) n cap L∧Hid (L.take i=(rows.take j).filter (fun r=>!(q r)))∧Hid (L.drop j=rows.drop j)∧I wr∧w.grownBy wr (some b)) (fun _ vj _=>n-(intOf vj).toNat)
  case atStart=>exact⟨k0,k0+1,rows,ZB _,hB,rfl,rfl,R,hk,rfl,hW,ht⟩
  case round=>
   clear R hW ht hk hV hU;obtain⟨i,j,L,qk,hj,rfl,rfl,R,hl,hx,hM,hG⟩:=hrel;have qe:L.length=n:=R.sl.len;by_cases hlt:j<n
   ·have ql:(j:Int)<n:=by omega
    have qo:(0:Int)<=j:=by omega
    have qn:(i:Int)<n:=by omega
    have qi:(0:Int)<=i:=by omega
    have h7:j<rows.length:=by rw[hf.out];exact hlt
    obtain⟨v,hv⟩:∃ v,rows[j]?=some v:=⟨rows[j],by simp[h7]⟩
    have hO:L[j]?=some v:=by
     have h1:(L.drop j)[0]?=(rows.drop j)[0]?:=by rw[hx.out]
     simpa[hv] using h1
    have hQ:L.drop (j+1)=rows.drop (j+1):=by
     have h1:(L.drop j).drop 1=(rows.drop j).drop 1:=by rw[hx.out]
     simpa[List.drop_drop,Nat.add_comm] using h1
    have hb:(rows.take (j+1)).filter (fun r=>!(q r))=(rows.take j).filter (fun r=>!(q r))++(if q v=true then [] else [v]):=by
     rw[ZK,hv,List.filter_append];simp only[Option.toList_some,ZH,List.filter_nil]
     cases q v<;>simp
    have x0:wr.cell? ⟨b,j*2,none⟩=some (.string v.nm):=R.cellAt (j:=0) hO rfl;have x1:wr.cell? ⟨b,j*2+1,none⟩=some (.slice v.pa v.pn v.pc):=R.cellAt (j:=1) hO rfl
    go_wp2_with fail
    have hA:Below wr.heap.size wr (wr.alloc (.cells #[.string v.nm,.slice v.pa v.pn v.pc] 156)):=(Below.refl _ _).alloc (Zd _) _;have V:=Blk.new wr #[.string v.nm,.slice v.pa v.pn v.pc] 156;have hC:=hI _ _ hM hA;refine (hq _ v hC).mono ?_;rintro e w2 ⟨rfl,hp⟩;have hh:=chain hA hp;have R2:=R.below hh;have V2:=V.below hp;have hP:=hI _ _ hM hh;have hK:=au_ hG hh;have qh:¬ wr.heap.size=b:=by have:=(R.block _ rfl).2;simp only at this;omega
    have qb:¬ b=wr.heap.size:=by omega
    obtain⟨cc,hm⟩:=R2.blkAt;have y0:w2.cell? ⟨wr.heap.size,0,none⟩=some (.string v.nm):=V2.cell 0;have y1:w2.cell? ⟨wr.heap.size,1,none⟩=some (.slice v.pa v.pn v.pc):=V2.cell 1
    cases hT:q v
    ·rw[hT] at hb;simp only[Zj,if_false] at hb;have hs:i<L.length:=by omega
     obtain⟨o,ho⟩:∃ o,L[i]?=some o:=⟨L[i],by simp[hs]⟩;have z0:w2.cell? ⟨b,i*2,none⟩=some (.string o.nm):=R2.cellAt (j:=0) ho rfl;have f0:=hm.frozen (i*2);have z1:w2.cell? ⟨b,i*2+1,none⟩=some (.slice o.pa o.pn o.pc):=R2.cellAt (j:=1) ho rfl;have f1:=hm.frozen (i*2+1);clear V V2 hA hh hC hp R hm qe x0 x1;go_wp2;have Q0:=R2.set1 (x':=⟨v.nm,o.pa,o.pn,o.pc⟩) (v:=.string v.nm) aI_ (i:=i) (j:=0) (l:=L) (x:=o) (ho) (by decide) rfl;have Q1:=Q0.set1 (x':=v) (v:=.slice v.pa v.pn v.pc) aI_ (i:=i) (j:=1) (l:=(L.set i ⟨v.nm,o.pa,o.pn,o.pc⟩)) (x:=⟨v.nm,o.pa,o.pn,o.pc⟩) (by simp[hs]) (by decide) rfl;rw[List.set_set] at Q1;have hR:w2.grownBy ((w2.setCell ⟨b,i*2,none⟩ (.string v.nm)).setCell ⟨b,i*2+1,none⟩ (.slice v.pa v.pn v.pc)) (some b):=af_ (af_ (World.grownBy.refl _ _) _ _) _ _
     have hE:Hid ((L.set i v).take (i+1)=(rows.take (j+1)).filter (fun r=>!(q r))):=by
      show _=_;rw[cU_ hs,hb,hl.out]
     have h6:Hid ((L.set i v).drop (j+1)=rows.drop (j+1)):=by
      show _=_;rw[List.drop_set_of_lt (by omega)];exact hQ
     have h5:=hI2 _ _ hP hR;have h8:=aV_ hK hR;go_roundw
     case rel=>exact⟨i+1,j+1,L.set i v,by omega,by omega,by go_num,by go_num,Q1,hE,h6,h5,h8⟩
     case measure=>simp[intOf];omega
    ·rw[hT] at hb;simp only[if_true,List.append_nil] at hb;have hE:Hid (L.take i=(rows.take (j+1)).filter (fun r=>!(q r))):=by show _=_;rw[hb];exact hl.out
     clear V V2 hA hh hC hp R hm;go_wp2;go_roundw
     case rel=>exact⟨i,j+1,L,by omega,by omega,rfl,by go_num,R2,hE,hQ,hP,hK⟩
     case measure=>simp[intOf];omega
   ·obtain rfl:j=n:=by omega
    have hs:i<=L.length:=by omega
    have he:Hid (L.take i=rows.filter (fun r=>!(q r))):=by show _=_;rw[hl.out,Zk (Zm hf.out)]
    rcases R.own with⟨h0,_⟩ | ⟨b',qc,hZ,hX,qd,c,hc,hS,hb⟩
    ·cases h0
    cases qc
    have hu:i*2+(j-i)*2<=c.size:=by
     rw[hS,<-Yd];exact ZS _ (by omega)
    obtain⟨W2,c2,qq,hF,hN,hJ,h9⟩:=fy_ (P:=prog) wr 95 156 (.agg #[.string .empty,.slice none 0 0]) underlying95 Tryz.zeroValue156 p5_ 2 rfl b (i*2) (j-i) (cap-i) c 156 hc hu
    have hY:ResAt irs 2 156 W2 B (some ⟨b,0,none⟩) i cap (rows.filter (fun r=>!(q r))):=by
     refine bM_ aI_ hF hZ ?_ (by omega) qd (by rw[hN,hS]) ?_
     ·rw[<-he.out,Zz];omega
     ·rw[hJ,<-he.out,<-cq_ aI_,<-hb,List.take_take,ZZ (ZS _ (by omega))]
    have h2:=aV_ hG h9;have qp:¬ (cap=i):=by omega
    have qg:(0:Int)<=i:=by omega
    have qj:(i:Int)<=(j:Int):=by omega
    clear hN hJ hF hc hb hl hx he R;go_wp2;go_returns;exact⟨i,rfl,hY,h2⟩
theorem RowsT.uncons {y:It}{l:List It}(h:RowsT B w (r::rows) (y::l)):RowT B w r y∧RowsT B w rows l:=
 ⟨h.at' 0 r y rfl rfl,by have:=h.len;simpa using this,fun i q z h1 h2=>h.at' (i+1) q z (by simpa using h1) (by simpa using h2)⟩
theorem RowsT.cons {y:It}{l:List It}(h:RowT B w r y)(h':RowsT B w rows l):RowsT B w (r::rows) (y::l):=
 ⟨by simp[h'.len],fun i q z h1 h2=>by
  cases i with
  |zero=>simp at h1 h2;subst h1 h2;exact h
  |succ i=>exact h'.at' i q z (by simpa using h1) (by simpa using h2)⟩
theorem RowsT.filt {f:List UInt8}:∀ {rows:List IR} {l:List It},RowsT B w rows l->RowsT B w (rows.filter (fun r=>!(r.nm.toList==f))) (l.filter (fun y=>!(y.nm.toList==f)))
 |[],[],h=>h
 |[],_::_,h=>by have:=h.len;simp at this
 |_::_,[],h=>by have:=h.len;simp at this
 |r::rows,y::l,h=>by
  obtain⟨h1,h2⟩:=h.uncons;have e:=h1.nm;rw[ZH,ZH,e];split
  ·exact RowsT.cons h1 (RowsT.filt h2)
  ·exact RowsT.filt h2
def unlinkR (y:Vo)(file:ByteArray):Int⊕List It:=match fileO y file with | none=>.inl 3 | some _=>.inr (y.its.filter (fun t=>!(t.nm.toList==file.toList)))
theorem jx_ (xb:Nat)(file:ByteArray):eT_ (fun u=>u.cell? ⟨xb,1,none⟩=some (.string file)) (.func (.func 163) #[] #[.pointer (some ⟨xb,0,none⟩)]) (fun r=>r.nm.toList==file.toList):=by
 refine⟨_,_,rfl,fun x y u=>by kernel_rfl,fun u r hu=>?_⟩;go_enter func163,ntmps163;have hx:=fun ob=>acell (w:=u) ob hu
 cases h:(r.nm.toList==file.toList)
 ·have h':¬ r.nm.toList=file.toList:=by simpa using h
  go_wp2;go_returns;exact⟨rfl,by go_grown⟩
 ·have h':r.nm.toList=file.toList:=by simpa using h
  go_wp2;go_returns;exact⟨rfl,by go_grown⟩
theorem nB_ (h:fileO y file=some l):0<y.its.length:=by
 cases hy:y.its with
 |nil=>unfold fileO itI at h;rw[hy] at h;simp at h
 |cons a t=>simp
end
end Go.Proofs.YtbbhcnjhohidnaaGreatDoor
