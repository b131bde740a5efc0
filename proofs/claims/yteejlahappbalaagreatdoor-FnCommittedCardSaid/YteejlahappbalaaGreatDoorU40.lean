/- Texts of pools, read and written; what is drawn. -/
import Derived.Test.YteejlahappbalaaGreatDoorU11
import Derived.Test.YteejlahappbalaaGreatDoorU39
set_option maxHeartbeats 20000000
set_option maxRecDepth 100000
namespace Go.Proofs.YteejlahappbalaaGreatDoor
open Go Go.RowKit Go.BigFrame Tryz
theorem Kh (b1 b2:Nat)(u:TypeId)(pv:Value)(older:List PanicEntry)(c0 c1 c2 c3 c4 c5 d:Value)(w:World)(hP:Blk w b1 #[c0,c1,c2,c3,c4,c5] tPo)(hO:Blk w b2 #[d] 4)(hne:b1≠b2) :
  CallsD prog 50 #[.pointer (some ⟨b1,0,none⟩),.pointer (some ⟨b2,0,none⟩)] (.panicking ({v:=.iface u pv,recovered:=false}::older)) w fun e u' w'=>
   e=.returned (.tuple #[])∧u'=.panicking ({v:=.iface u pv,recovered:=true}::older)∧w'=(Bm w b1 (.int .i64 0) (.int .i64 0) (.slice none 0 0) (.slice none 0 0) (.slice none 0 0) (.slice none 0 0)).setCell ⟨b2,0,none⟩ (.bool false):=by
 obtain⟨e0,e1,e2,e3,e4,e5⟩:=Ms hP;have f0:=hP.frozen 0;have f1:=hP.frozen 1;have f2:=hP.frozen 2;have f3:=hP.frozen 3;have f4:=hP.frozen 4;have f5:=hP.frozen 5;have o0:=hO.cell 0;have o1:=hO.frozen 0;refine callsD_of_wpS func50 rfl fun c₀ cs hu=>?_;apply wpS_seq;apply wpS_region;simp[wpOpsS,go_sem,recoverD,hu,ntmps50,Exit.thenS];refine wpS_cond (t:=true) (by simp[Act.eval,Array.replicate]) ?_;simp only[if_true];refine wpS_of_wp ?_;rw[show (#[Value.pointer (some ⟨b1,0,none⟩),Value.pointer (some ⟨b2,0,none⟩)]++((Array.replicate 3 undef).setIfInBounds 0 (Value.iface u pv)).setIfInBounds 1 (Value.bool true))=#[Value.pointer (some ⟨b1,0,none⟩),Value.pointer (some ⟨b2,0,none⟩),Value.iface u pv,Value.bool true,undef] from rfl];go_wp2;exact⟨rfl,_,rfl,.tuple #[],by simp[results,results50],rfl,rfl,rfl⟩
theorem K5 (b1 b2:Nat)(w:World) :
  CallsD prog 50 #[.pointer (some ⟨b1,0,none⟩),.pointer (some ⟨b2,0,none⟩)] .returning w fun e u' w'=>e=.returned (.tuple #[])∧u'=.returning∧w'=w:=by
 refine callsD_of_wpS func50 rfl fun c₀ cs hu=>?_;apply wpS_seq;apply wpS_region;simp[wpOpsS,go_sem,recoverD,hu,ntmps50,Exit.thenS];refine wpS_cond (t:=false) (by simp[Act.eval,Array.replicate]) ?_;simp only[Zj,if_false];refine wpS_of_wp (wp_skip ?_)
 cases c₀;simp_all [bodyPostS,results,results50]
theorem AK.boxT {B:Nat}{w w':World}{row:Option Nat}{v:Value}{p:Po}(h:AK B w v p)(hg:w.grownBy w' row)(hr:BC w row 4):AK B w' v p:=by
 exact mn
theorem OH (g:Nat)(b:Bool)(w:World)(h:Blk w g #[.bool b] 4):(loadVar 4 ⟨g,0,none⟩).run prog w=.ok (.bool b) w:=by
 have c:=h.cell 0;simp at c;simp[loadVar,go_sem,c,isAgg4]
theorem HP (tmps:Array Value)(w:World)(g g':Nat)(cs:Array Value)(b:Bool)(hp:tmps.getD 2 undef=.pointer (some ⟨g,0,none⟩))(hq:tmps.getD 3 undef=.pointer (some ⟨g',0,none⟩))(hg:Blk w g cs tPo)(hs:cs.size=6)(hg':Blk w g' #[.bool b] 4) :
  (results f20 tmps).run prog w=.ok (.tuple #[.agg cs,.bool b]) w:=by
 have ha:tmps[2]?.getD undef=.pointer (some ⟨g,0,none⟩):=by simpa using hp
 have hb:tmps[3]?.getD undef=.pointer (some ⟨g',0,none⟩):=by simpa using hq
 have hi:(prog.info? tPo).map (·.size)=some cs.size:=by rw[hs];kernel_rfl
 simp[results,ha,hb,asAddr,run_loadVar_row w g tPo tPo cs _ _ hg underlying33 rfl hi,OH g' b w hg']
theorem Fv {w u:World}{tmps:Array Value}{tp:TypeId}{pe c0 c1 c2 c3 c4 c5 d:Value}(hP:Blk u w.heap.size #[c0,c1,c2,c3,c4,c5] tPo)(hO:Blk u (w.heap.size+1) #[d] 4)(hB:Below w.heap.size w u)(h2:tmps.getD 2 undef=.pointer (some ⟨w.heap.size,0,none⟩))(h3:tmps.getD 3 undef=.pointer (some ⟨w.heap.size+1,0,none⟩)) :
  Leaves prog f20 tmps (fun e w'=>(∃ v,e=.returned (.tuple #[v,.bool (none:Option Po).isSome])∧AK w.heap.size w' v ((none:Option Po).getD Ao))∧Below w.heap.size w w') [{target:=.fn (Fn.func 50) #[.pointer (some ⟨w.heap.size,0,none⟩),.pointer (some ⟨w.heap.size+1,0,none⟩)],args:=#[]}] (.panicking [{v:=.iface tp pe,recovered:=false}]) u:=by
 refine leaves_cons (f:=50) (args:=#[.pointer (some ⟨w.heap.size,0,none⟩),.pointer (some ⟨w.heap.size+1,0,none⟩)]) sK (by simp[go_sem]) ?_;refine (Kh w.heap.size (w.heap.size+1) tp pe [] c0 c1 c2 c3 c4 c5 d u hP hO sH).mono ?_;rintro e u' w'' ⟨rfl,rfl,rfl⟩;obtain⟨E8,M8,hb⟩:=AS (p:=Ao) hP hB (Zd _) (Dx w.heap.size u);have he:u.grownBy (Bm u w.heap.size (.int .i64 0) (.int .i64 0) (.slice none 0 0) (.slice none 0 0) (.slice none 0 0) (.slice none 0 0)) (some w.heap.size):=af_ (af_ (af_ (af_ (af_ (af_ (Yh _ _) _ _) _ _) _ _) _ _) _ _) _ _;have O8:=hO.grown he sK;generalize Bm u w.heap.size (.int .i64 0) (.int .i64 0) (.slice none 0 0) (.slice none 0 0) (.slice none 0 0) (.slice none 0 0)=W8 at *;have ha:W8.grownBy (W8.setCell ⟨w.heap.size+1,0,none⟩ (.bool false)) (some (w.heap.size+1)):=af_ (Yh _ _) _ _;have E9:=E8.grown ha sK;have O9:Blk (W8.setCell ⟨w.heap.size+1,0,none⟩ (.bool false)) (w.heap.size+1) #[.bool false] 4:=by simpa using O8.set 0 (.bool false)
 have hc:Below w.heap.size w (W8.setCell ⟨w.heap.size+1,0,none⟩ (.bool false)):=hb.grown ha (by have:=O8.lt;omega) (fun k e=>by cases e;omega);exact⟨_,HP _ _ _ _ _ false h2 h3 E9 rfl O9,⟨_,rfl,Dx _ _⟩,hc⟩
theorem Jj (s:ByteArray)(w:World)(hs:s.size<=2000000)(hG:Glb w) :
  Calls prog 20 #[.string s] w fun e w'=>(∃ v,e=.returned (.tuple #[v,.bool (Dh s.data.toList).isSome])∧AK w.heap.size w' v ((Dh s.data.toList).getD Ao))∧Below w.heap.size w w':=by
 obtain⟨A,hA⟩:∃ A,Hid (Dh s.data.toList=A):=⟨_,rfl⟩;rw[hA.out];have hy:∀ (fn:Fn) (first cap:Array Value) (w:World),(Instr.makeFunc fn first cap).run prog w=.ok (.func fn first cap) w:=fun _ _ _ _=>rfl;have hj:Below w.heap.size w ((w.alloc (.cells #[.int .i64 0,.int .i64 0,.slice none 0 0,.slice none 0 0,.slice none 0 0,.slice none 0 0] tPo)).alloc (.cells #[.bool false] 4)):=sM;have PB:Blk ((w.alloc (.cells #[.int .i64 0,.int .i64 0,.slice none 0 0,.slice none 0 0,.slice none 0 0,.slice none 0 0] tPo)).alloc (.cells #[.bool false] 4)) w.heap.size #[.int .i64 0,.int .i64 0,.slice none 0 0,.slice none 0 0,.slice none 0 0,.slice none 0 0] tPo:=(Blk.new w _ tPo).below ((Yg _ _).alloc (Zd _) _);have OB:Blk ((w.alloc (.cells #[.int .i64 0,.int .i64 0,.slice none 0 0,.slice none 0 0,.slice none 0 0,.slice none 0 0] tPo)).alloc (.cells #[.bool false] 4)) (w.heap.size+1) #[.bool false] 4:=Blk.new' _ _ _ _ sK;have G0:=hG.below hj;have hw:=hG.sz;rcases Nat.lt_or_ge 60000 s.size with hb | hb
 ·have ha:A=none:=by rw[<-hA.out,Dh,if_neg fp]
  subst ha;obtain⟨tp,pe,hE⟩:=G0.err;go_enter_defers func20,ntmps20;go_upto_region 2 with fail;generalize (w.alloc (.cells #[.int .i64 0,.int .i64 0,.slice none 0 0,.slice none 0 0,.slice none 0 0,.slice none 0 0] tPo)).alloc (.cells #[.bool false] 4)=W0 at *;go_wp2;exact Fv PB OB hj rfl rfl
 ·have hR:=Jm s _ hb G0;have hf:Hid (A=Ha s.data.toList):=by show _=_;rw[<-hA.out,Dh,if_pos fp]
  rw[Ky] at hf;go_enter_defers func20,ntmps20;go_upto_region 2 with fail;generalize (w.alloc (.cells #[.int .i64 0,.int .i64 0,.slice none 0 0,.slice none 0 0,.slice none 0 0,.slice none 0 0] tPo)).alloc (.cells #[.bool false] 4)=W0 at *;have hF:w.heap.size+1<W0.heap.size:=OB.lt;go_wp2_with fail;refine hR.mono ?_;clear hR
  cases hL:lnsB s.data.toList.length s.data.toList with
  |none=>
   rintro e w1 ⟨⟨tp,pe,rfl⟩,hc⟩;have ha:A=none:=by rw[hf.out,Fg,hL];rfl
   subst ha;go_wp2;exact Fv (PB.below hc) (OB.below hc) (Aa hj hc) rfl rfl
  |some ls=>
   rintro e w1 ⟨⟨rb,rfl,hz,D,hx⟩,hc⟩;replace PB:=PB.below hc;replace OB:=OB.below hc;replace G0:=G0.below hc;have hB:=Aa hj hc;have hH:=hc.size;clear hc hj;have q:=MA rb ls w1 D G0 sH hx;go_wp2_with fail;refine q.mono ?_;clear q
   cases hp:Ff ls with
   |none=>
    rintro e w2 ⟨⟨tp,pe,rfl⟩,he⟩;have ha:A=none:=by rw[hf.out,Fg,hL,YO,hp];rfl
    subst ha;go_wp2;exact Fv (PB.grown he sN) (OB.grown he sN) (hB.grown he sH (fun k e=>by cases e;omega)) rfl rfl
   |some pq=>
    obtain⟨p,rest⟩:=pq;rintro e w2 ⟨⟨v,rfl,M,D2⟩,he⟩;replace PB:=PB.grown he sN;replace OB:=OB.grown he sN;replace G0:=G0.grown he sH;replace hB:=hB.grown he sH (fun k e=>by cases e;omega);have hI:=he.size;clear he D;obtain⟨ea,en,ec,va,vn,vc,ra,rn,rc,la,ln,lc,vr,rfl,_⟩:=M.out;obtain⟨r0,r1,r2,r3,r4,r5⟩:=Ms PB;have g0:=PB.frozen 0;have g1:=PB.frozen 1;have g2:=PB.frozen 2;have g3:=PB.frozen 3;have g4:=PB.frozen 4;have g5:=PB.frozen 5;go_upto_region 6 with fail;obtain⟨P3,hh⟩:=Gs PB (.int .i64 p.size) (.int .i64 p.next) (.slice ea en ec) (.slice va vn vc) (.slice ra rn rc) (.slice la ln lc);have M3:=M.box hh PB;have D3:=D2.ty hh (aa_ PB) sJ sJ;have O3:=OB.grown hh sK;have G3:=G0.low ((Yg w.heap.size _).grown hh sH (fun k e=>by cases e;exact Zd _)) hw;have hk:=hB.grown hh sH (fun k e=>by cases e;exact Zd _);have hC:=hh.size;generalize (((((w2.setCell ⟨w.heap.size,0,none⟩ (.int .i64 p.size)).setCell ⟨w.heap.size,1,none⟩ (.int .i64 p.next)).setCell ⟨w.heap.size,2,none⟩ (.slice ea en ec)).setCell ⟨w.heap.size,3,none⟩ (.slice va vn vc)).setCell ⟨w.heap.size,4,none⟩ (.slice ra rn rc)).setCell ⟨w.heap.size,5,none⟩ (.slice la ln lc)=W3 at *;clear hh PB OB D2 M hB r0 r1 r2 r3 r4 r5 g0 g1 g2 g3 g4 g5;obtain⟨lb,lo,lcap,lcs,hr,_⟩:=D3.out;have d0:=hr.cell 0
    cases rest with
    |cons l r=>
     simp only[Zw] at d0;have ha:A=none:=by rw[hf.out,Fg,hL,YO,hp];rfl
     subst ha;obtain⟨tp,pe,hE⟩:=G3.err;have hn:(0:Int)<((r.length+1:Nat):Int):=sH;generalize r.length+1=n at *;go_wp2;exact Fv P3 O3 hk rfl rfl
    |nil=>
     have hm:Fg s.data.toList=some p:=by rw[Fg,hL,YO,hp]
     have hd:A7 p:=Ll (by rw[<-Kz hm,<-Lib.size_eq];exact hb);rw[hm] at hf;have hl:Hid (A=if Ai p=true then some p else none):=hf.out;clear hf hm;simp only[YK] at d0;have q:=ch_ w1.heap.size _ p W3 M3.at hd;obtain⟨v0,v1,v2,v3,v4,v5⟩:=Ms P3;go_wp2_with fail;refine q.mono ?_;rintro e w4 ⟨rfl,hg⟩;clear q v0 v1 v2 v3 v4 v5 d0 hr D3;replace P3:=P3.below hg;replace O3:=O3.below hg;replace M3:=M3.below hg;replace G3:=G3.below hg;replace hk:=Aa hk hg;have hD:=hg.size;clear hg
     cases ht:Ai p with
     |false=>
      rw[ht] at hl;have ha:A=none:=hl.out;subst ha;obtain⟨tp,pe,hE⟩:=G3.err;go_wp2;exact Fv P3 O3 hk rfl rfl
     |true=>
      rw[ht] at hl;have ha:A=some p:=hl.out;subst ha;obtain⟨r0,r1,r2,r3,r4,r5⟩:=Ms P3;have g0:=P3.frozen 0;have g1:=P3.frozen 1;have g2:=P3.frozen 2;have g3:=P3.frozen 3;have g4:=P3.frozen 4;have g5:=P3.frozen 5;have o0:w4.cell? ⟨w.heap.size+1,0,none⟩=some (.bool false):=O3.cell 0;have o1:=O3.frozen 0;go_wp2;obtain⟨P5,ho⟩:=Gs P3 (.int .i64 p.size) (.int .i64 p.next) (.slice ea en ec) (.slice va vn vc) (.slice ra rn rc) (.slice la ln lc);have M5:=M3.box ho P3;have O5:=O3.grown ho sK;have hu:=hk.grown ho sH (fun k e=>by cases e;exact Zd _);generalize (((((w4.setCell ⟨w.heap.size,0,none⟩ (.int .i64 p.size)).setCell ⟨w.heap.size,1,none⟩ (.int .i64 p.next)).setCell ⟨w.heap.size,2,none⟩ (.slice ea en ec)).setCell ⟨w.heap.size,3,none⟩ (.slice va vn vc)).setCell ⟨w.heap.size,4,none⟩ (.slice ra rn rc)).setCell ⟨w.heap.size,5,none⟩ (.slice la ln lc)=W5 at *;have hq:W5.grownBy (W5.setCell ⟨w.heap.size+1,0,none⟩ (.bool true)) (some (w.heap.size+1)):=af_ (Yh _ _) _ _;have P6:=P5.grown hq sK;have O6:Blk (W5.setCell ⟨w.heap.size+1,0,none⟩ (.bool true)) (w.heap.size+1) #[.bool true] 4:=by simpa using O5.set 0 (.bool true)
      have M6:AK w.heap.size (W5.setCell ⟨w.heap.size+1,0,none⟩ (.bool true)) (.agg #[.int .i64 p.size,.int .i64 p.next,.slice ea en ec,.slice va vn vc,.slice ra rn rc,.slice la ln lc]) p:=(M5.boxT hq (aa_ O5)).mono sH;have hv:Below w.heap.size w (W5.setCell ⟨w.heap.size+1,0,none⟩ (.bool true)):=hu.grown hq (by have:=O5.lt;omega) (fun k e=>by cases e;omega);generalize W5.setCell ⟨w.heap.size+1,0,none⟩ (.bool true)=W6 at *;refine leaves_cons (f:=50) (args:=#[.pointer (some ⟨w.heap.size,0,none⟩),.pointer (some ⟨w.heap.size+1,0,none⟩)]) sK (by simp[go_sem]) ?_;refine (K5 w.heap.size (w.heap.size+1) W6).mono ?_;rintro e u' w'' ⟨rfl,rfl,rfl⟩;exact⟨_,HP _ _ _ _ _ true rfl rfl P6 rfl O6,⟨_,rfl,M6⟩,hv⟩
end Go.Proofs.YteejlahappbalaaGreatDoor
