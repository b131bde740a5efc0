/- The laws' marks in a pool: cells of the same kinds, the slices as they were, nothing else turned. -/
import Derived.Deep.DeepCutAuto
import Derived.Test.YtahenegmbmnmjaaGreatDoorU12
set_option maxHeartbeats 20000000
set_option maxRecDepth 100000
namespace Go.Proofs.YtahenegmbmnmjaaGreatDoor
section
open Go Go.RowKit Go.BigFrame Tryz
variable{α:Type}{c:Array Value}{d:ByteArray}{B T b j n:Nat}{a:Option Addr}{p:Po}{v x:Value}{w w' w1:World}{l:List α}
theorem kZ_ {f:α->Bool}{k:Nat}{x:α}(h:l[k]?=some x):(l.take (k+1)).filter f=(l.take k).filter f++(if f x=true then [x] else []):=by
 rw[bx_ h,YR]
 cases hf:f x<;>simp[hf]
theorem jD_ (B:Nat)(v:Value)(p:Po)(w:World)(h:Am B w v p)(hBw:B<=w.heap.size)(hex:p.ex.length<=4194304)(hrn:p.rf.length<=100000)(hln:p.lt.length<=100000)(hb:∀ x∈p.rf,-100000000<=x.n∧x.n<=100000000)(hb':∀ x∈p.lt,-100000000<=x.n∧x.n<=100000000):
  Calls prog 110 #[v] w fun e w'=>(∃ v',e=.returned v'∧Am B w' v' (flushS p))∧Below w.heap.size w w':=by
 obtain⟨ea,en,ec,va,vn,vc,ra,rn,rc,la,ln,lc,rows,rfl,h1,⟨h2,h3⟩,h4,h5,h6⟩:=h;obtain⟨size,next,ex,vs,rf,lt⟩:=p;simp only at h1 h2 h3 h4 h5 hex hrn hln hb hb' ⊢;rw[h1.sl.len] at hex;rw[h4.sl.len] at hrn;rw[h5.sl.len] at hln;go_enter func110,ntmps110
 go_wp2_with fail
 refine (cJ_ ra rn rc rf la ln lc lt _ (h4.sl.below (by go_grown)) h4.arg.spot h4.arg.nil (h5.sl.below (by go_grown)) hrn hln hb hb').mono ?_;rintro e w1 ⟨⟨sa,sn,sc,rfl,hS,RS⟩,hm⟩;have C:Blk w1 w.heap.size #[.int .i64 size,.int .i64 next,.slice ea en ec,.slice va vn vc,.slice ra rn rc,.slice la ln lc] 35:=((Blk.new w _ _).alloc _).below hm;have D:Blk w1 (w.heap.size+1) #[.int .i64 0,.int .i64 0,.slice none 0 0,.slice none 0 0,.slice none 0 0,.slice none 0 0] 35:=(Blk.new' _ _ _ _ (by simp)).below hm;have hg:Below w.heap.size w w1:=Aa (by go_grown) hm;have hH:w.heap.size+2<=w1.heap.size:=by have:=hm.size;simp at this;omega
 replace RS:=RS.mono (B':=w.heap.size+2) (by simp);clear hm;obtain⟨c0,c1,c2,c3,c4,c5⟩:=C.six';have f4:=C.frozen 4;have C1:Blk (w1.setCell ⟨w.heap.size,4,none⟩ (.slice sa sn sc)) w.heap.size #[.int .i64 size,.int .i64 next,.slice ea en ec,.slice va vn vc,.slice sa sn sc,.slice la ln lc] 35:=by simpa using C.set 4 (.slice sa sn sc)
 have he:=B3 w1 w.heap.size 4 (.slice sa sn sc);have e5:=C1.cell 5;have f5:=C1.frozen 5;have C2:Blk ((w1.setCell ⟨w.heap.size,4,none⟩ (.slice sa sn sc)).setCell ⟨w.heap.size,5,none⟩ (.slice none 0 0)) w.heap.size #[.int .i64 size,.int .i64 next,.slice ea en ec,.slice va vn vc,.slice sa sn sc,.slice none 0 0] 35:=by simpa using C1.set 5 (.slice none 0 0)
 have hn:w1.grownBy ((w1.setCell ⟨w.heap.size,4,none⟩ (.slice sa sn sc)).setCell ⟨w.heap.size,5,none⟩ (.slice none 0 0)) (some w.heap.size):=af_ he 5 (.slice none 0 0);have D2:Blk _ (w.heap.size+1) _ _:=(hn.block _ D.lt (by simp only[ne_eq,Zo];omega)).trans D;have ht:=RS.ty hn (aa_ C) (by decide);have hq:=hg.grown hn hg.size (fun j e=>by cases e;exact Zd _);have hI:=hn.size;have hM:((w1.setCell ⟨w.heap.size,4,none⟩ (.slice sa sn sc)).setCell ⟨w.heap.size,5,none⟩ (.slice none 0 0)).heap.size=w1.heap.size:=by simp
 go_wp2_with fail
 generalize (w1.setCell ⟨w.heap.size,4,none⟩ (.slice sa sn sc)).setCell ⟨w.heap.size,5,none⟩ (.slice none 0 0)=W at *;clear c0 c1 c2 c3 c4 c5 f4 e5 f5 C1 he hn C D RS hg;have hr:Hid (ex.length=en):=h1.sl.len;have hs:sn<=4194304:=by omega
 have hF:∀ e:Ex,((AR rf lt)++[]).any (fun c=>c.o.a==e.a)=(AR rf lt).any (fun c=>c.o.a==e.a):=fun e=>by rw[Yy]
 go_loopw [3,4] (fun lst ix wr=>∃ (k:Nat) (a2:Option Addr) (n2 cap2:Nat),k<=en∧ix=.int .i64 k∧lst=.slice a2 n2 cap2∧n2<=k∧Ae Ex.cs 2 76 wr (w.heap.size+2) a2 n2 cap2 ((ex.take k).filter (fun e=>(AR rf lt).any (fun c=>c.o.a==e.a)))∧Blk wr w.heap.size #[.int .i64 size,.int .i64 next,.slice ea en ec,.slice va vn vc,.slice sa sn sc,.slice none 0 0] 35∧Blk wr (w.heap.size+1) #[.int .i64 0,.int .i64 0,.slice none 0 0,.slice none 0 0,.slice none 0 0,.slice none 0 0] 35∧Ae Ct.cs 4 80 wr (w.heap.size+2) sa sn sc (AR rf lt)∧w.heap.size+2<=wr.heap.size∧Below w.heap.size w wr) (fun _ ix _=>en-(intOf ix).toNat)
 case atStart=>exact⟨0,_,0,0,Zg _,rfl,rfl,Zd _,(by rw[Yx];exact aw_ (Blk.new' _ _ _ _ hM.symm) (by omega)),C2.alloc _,D2.alloc _,ht.alloc _,by simp;omega,hq.alloc hq.size _⟩
 case round=>
  clear C2 D2 ht hq hI hH;obtain⟨k,a2,n2,cap2,hk,rfl,rfl,hR,R2,C,D,RS,hT,hB⟩:=hrel;obtain⟨d0,d1,d2,d3,d4,d5⟩:=C.six';by_cases hlt:k<en
  ·obtain⟨b,o,x,rfl,hx,c0,c1⟩:=be_ (h1.sl.below hB) hlt;have hl:Hid ((ex.take (k+1)).filter (fun e=>(AR rf lt).any (fun c=>c.o.a==e.a))=(ex.take k).filter (fun e=>(AR rf lt).any (fun c=>c.o.a==e.a))++(if (AR rf lt).any (fun c=>c.o.a==x.a)=true then [x] else [])):=kZ_ hx
   have hO:b<w.heap.size+2:=by
    obtain⟨b',o',_,hG,_,g0,_⟩:=be_ h1.sl hlt;obtain⟨rfl,rfl⟩:b=b'∧o=o':=by simpa using hG
    have:=Yk w _ g0
    simp only at this;omega
   clear hx;generalize (ex.take k).filter (fun e=>(AR rf lt).any (fun c=>c.o.a==e.a))=FL at *;have hP:(k:Int)<en:=by omega
   have hQ:(0:Int)<=k:=by omega
   have ha:=fun (u:World) (hu:Below wr.heap.size wr u)=>gJ_ size next (some ⟨b,o,none⟩) en ec va vn vc sa sn sc none 0 0 (AR rf lt) [] x.a u (RS.sl.below hu) ⟨rfl,fun i y hy=>by simp at hy⟩ hs (by omega);have g0:=Ad d0;have g1:=Ad d1;have g2:=Ad d2;have g3:=Ad d3;have g4:=Ad d4;have g5:=Ad d5;have gx:=Ad c0;have hz:=aA_ wr;rw[hF] at ha
   cases hf:(AR rf lt).any (fun c=>c.o.a==x.a)
   ·rw[hf] at hl ha;simp only[Zj,if_false,Yy] at hl
    go_wp2_with fail
    refine ab_ (by kernel_rfl) (by kernel_rfl) ?_
    repeat (go_big_quiet_step (first | (go_at_call 98;exact an_ (ha _ (Grw.h _)))))
    refine wpQuiet_nil ?_;intro w6 hp;have hc:=ah_ hp;have hJ:=hc.size;clear hp g0 g1 g2 g3 g4 g5 gx hz hf ha;go_wp2;go_roundw
    case rel=>exact⟨k+1,a2,n2,cap2,by omega,by go_num,rfl,by omega,by rw[hl.out];exact R2.below hc,C.below hc,D.below hc,RS.below hc,by omega,Aa hB hc⟩
    case measure=>simp[intOf];omega
   ·rw[hf] at hl ha;simp only[if_true] at hl
    go_wp2_with fail
    refine ab_ (by kernel_rfl) (by kernel_rfl) ?_
    repeat (go_big_quiet_step (first | (go_at_call 98;exact an_ (ha _ (Grw.h _)))))
    refine wpQuiet_nil ?_;intro w6 hp;have hc:=ah_ hp;have hJ:=hc.size;have R6:=R2.below hc;have C6:=C.below hc;have D6:=D.below hc;have hA:=RS.below hc;have hv:=Aa hB hc;have m2:w6.cell? ⟨w.heap.size,2,none⟩=some (.slice (some ⟨b,o,none⟩) en ec):=C6.cell 2;have x0:=Ab hc c0;have x1:=Ab hc c1;clear hp g0 g1 g2 g3 g4 g5 gx hz hf ha
    go_wp2_with (at_builtin;refine ag_ rfl (fun K hK=>mG_ _ _ rfl (w.heap.size+2) a2 n2 cap2 FL rfl (R6.alloc _) _ 1 1 [x] rfl (c9_ _ x _ _ (by simp)) (fun ad h=>(by cases h;rfl)) (fun h=>(by cases h)) (n2+1) rfl (by omega) (by simp;omega) (fun a7 cap7 w7 R7 ho _=>hK _ _ ?_));have hh:∀ j,Value.ownBlock (.slice a2 n2 cap2)=some j->w.heap.size+2<=j:=aG_ fun ad hE=>(R6.block ad hE).1;have hN:=(R6.alloc (.cells #[.int .i64 x.a,.string x.d] 76)).rowTy (m:=n2) (k:=cap2);have hL:=ho.size;have C7:=(C6.alloc (.cells #[.int .i64 x.a,.string x.d] 76)).offB ho hh (by omega);have D7:=(D6.alloc (.cells #[.int .i64 x.a,.string x.d] 76)).offB ho hh (by omega);have hC:=(hA.alloc (.cells #[.int .i64 x.a,.string x.d] 76)).ty ho hN (by decide);have hD:=Yi (hv.alloc hv.size (.cells #[.int .i64 x.a,.string x.d] 76)) ho (by simp;omega) (fun j e=>by have:=hh j e;omega))
    go_roundw
    case rel=>exact⟨k+1,a7,n2+1,cap7,by omega,by go_num,rfl,by omega,by rw[hl.out];exact R7,C7,D7,hC,by simp at hL;omega,hD⟩
    case measure=>simp[intOf];omega
  ·obtain rfl:k=en:=by omega
   have f2:=C.frozen 2;have C1:Blk (wr.setCell ⟨w.heap.size,2,none⟩ (.slice a2 n2 cap2)) w.heap.size #[.int .i64 size,.int .i64 next,.slice a2 n2 cap2,.slice va vn vc,.slice sa sn sc,.slice none 0 0] 35:=by simpa using C.set 2 (.slice a2 n2 cap2)
   have he:=B3 wr w.heap.size 2 (.slice a2 n2 cap2);have D1:Blk (wr.setCell ⟨w.heap.size,2,none⟩ (.slice a2 n2 cap2)) (w.heap.size+1) _ _:=(he.block _ D.lt (by simp only[ne_eq,Zo];omega)).trans D;obtain⟨y0,y1,y2,y3,y4,y5⟩:=C1.six';obtain⟨x0,x1,x2,x3,x4,x5⟩:=D1.six';have f0:=D1.frozen 0;have f1:=D1.frozen 1;have q2:=D1.frozen 2;have f3:=D1.frozen 3;have f4:=D1.frozen 4;have f5:=D1.frozen 5;obtain⟨W8,hw,W0,hj⟩:=AV D1 (.int .i64 size) (.int .i64 next) (.slice a2 n2 cap2) (.slice va vn vc) (.slice sa sn sc) (.slice none 0 0);have R8:=(R2.ty he (aa_ C) (by decide)).ty hj (aa_ D1) (by decide);have S8:=(RS.ty he (aa_ C) (by decide)).ty hj (aa_ D1) (by decide);have V8:=((h2.below hB).ty he (aa_ C) (by decide)).ty hj (aa_ D1) (by decide);have T8:=((h3.below hB).ty he (aa_ C) (by decide) (by decide)).ty hj (aa_ D1) (by decide) (by decide);have B8:=(hB.grown he hB.size (fun j e=>by cases e;exact Zd _)).grown hj (by have:=he.size;have:=hB.size;omega) (fun j e=>by cases e;omega);rw[Zk (Zm hr.out)] at R8;clear C1 D1 he hj;go_wp2;rw[<-hw];clear hw;refine YW (results_cell_row rfl _ W8 (w.heap.size+1) _ _ _ _ rfl W0 underlying35 rfl (by kernel_rfl)) rfl ?_;exact⟨⟨_,rfl,a2,n2,cap2,va,vn,vc,sa,sn,sc,none,0,0,rows,rfl,R8.mono (by omega),⟨V8,T8⟩,S8.mono (by omega),aB_,fun p q _ e=>by cases e⟩,B8⟩
theorem l7_ (k:Int)(vol file tt into:ByteArray)(at' fr ln:Int)(data:ByteArray)(w:World)(hk:¬ (1<=k∧k<=10)):
  Calls prog 109 #[.agg #[.int .i64 k,.string vol,.string file,.string tt,.string into,.int .i64 at',.int .i64 fr,.int .i64 ln,.string data]] w fun e w'=>e=.returned (.bool (opB ⟨k,vol,file,tt,into,at',fr,ln,data⟩))∧Below w.heap.size w w':=by
 have ha:Hid (opB ⟨k,vol,file,tt,into,at',fr,ln,data⟩=(false)):=by
  show _=_;unfold opB;dsimp only
  repeat (rw[if_neg (by omega)])
 generalize opB ⟨k,vol,file,tt,into,at',fr,ln,data⟩=R at *;go_enter func109,ntmps109
 go_upto_region 1 with fail
 go_cut [3] (fun s wc=>s=.bool (at'==0&&(fr==0&&(ln==0&&zB data)))∧wc=w.alloc (.cells #[.int .i64 k,.string vol,.string file,.string tt,.string into,.int .i64 at',.int .i64 fr,.int .i64 ln,.string data] 39))
 case first=>
  cases h1:(at'==0)
  case false=>
   go_wp2;go_meet;exact⟨by rw[h1];rfl,rfl⟩
  cases h2:(fr==0)
  case false=>
   go_wp2;go_meet;exact⟨by rw[h1,h2];rfl,rfl⟩
  cases h3:(ln==0)
  case false=>
   go_wp2;go_meet;exact⟨by rw[h1,h2,h3];rfl,rfl⟩
  go_wp2;go_meet;exact⟨by rw[h1,h2,h3];simp[zB],rfl⟩
 case rest=>
  obtain⟨rfl,rfl⟩:=hcut
  go_upto_region 2 with fail
  go_cut [4] (fun s wc=>s=.bool (zB tt&&zB into)∧wc=w.alloc (.cells #[.int .i64 k,.string vol,.string file,.string tt,.string into,.int .i64 at',.int .i64 fr,.int .i64 ln,.string data] 39))
  case first=>
   go_wp2
   all_goals go_meet
   all_goals (refine⟨?_,rfl⟩;simp_all [zB])
  case rest=>
   obtain⟨rfl,rfl⟩:=hcut;generalize hB:(at'==0&&(fr==0&&(ln==0&&zB data)))=B;generalize hT:(zB tt&&zB into)=T
   go_wp2_with fail
   refine (ai_ at' 0 100 _).mono ?_;rintro e w1 ⟨rfl,rfl⟩
   go_wp2_with fail
   refine (ai_ ln 1 100 _).mono ?_;rintro e w1 ⟨rfl,rfl⟩;have k1:(k==1)=false:=by simp;omega
   have k2:(k==2)=false:=by simp;omega
   have k3:(k==3)=false:=by simp;omega
   have k4:(k==4)=false:=by simp;omega
   have k5:(k==5)=false:=by simp;omega
   have k6:(k==6)=false:=by simp;omega
   have k7:(k==7)=false:=by simp;omega
   have k8:(k==8)=false:=by simp;omega
   have k9:(k==9)=false:=by simp;omega
   have k10:(k==10)=false:=by simp;omega
   go_wp2;go_returns;go_light;exact⟨ac_ ha.out.symm,by go_grown⟩
theorem l8_ (vol file tt into:ByteArray)(at' fr ln:Int)(data:ByteArray)(w:World)(hs:BC ⟨1,vol,file,tt,into,at',fr,ln,data⟩):
  Calls prog 109 #[.agg #[.int .i64 1,.string vol,.string file,.string tt,.string into,.int .i64 at',.int .i64 fr,.int .i64 ln,.string data]] w fun e w'=>e=.returned (.bool (opB ⟨1,vol,file,tt,into,at',fr,ln,data⟩))∧Below w.heap.size w w':=by
 have hv:=hs.vol;have hf:=hs.file;have ht:=hs.to;have hi:=hs.into;have hd:=hs.data;dsimp only at hv hf ht hi hd;clear hs
 have ha:Hid (opB ⟨1,vol,file,tt,into,at',fr,ln,data⟩=(nameB vol&&(zB file&&((zB tt&&zB into)&&(at'==0&&(fr==0&&(ln==0&&zB data))))))):=by
  show _=_;simp[opB,ZO]
 generalize opB ⟨1,vol,file,tt,into,at',fr,ln,data⟩=R at *;go_enter func109,ntmps109
 go_upto_region 1 with fail
 go_cut [3] (fun s wc=>s=.bool (at'==0&&(fr==0&&(ln==0&&zB data)))∧wc=w.alloc (.cells #[.int .i64 1,.string vol,.string file,.string tt,.string into,.int .i64 at',.int .i64 fr,.int .i64 ln,.string data] 39))
 case first=>
  cases h1:(at'==0)
  case false=>
   go_wp2;go_meet;exact⟨by rw[h1];rfl,rfl⟩
  cases h2:(fr==0)
  case false=>
   go_wp2;go_meet;exact⟨by rw[h1,h2];rfl,rfl⟩
  cases h3:(ln==0)
  case false=>
   go_wp2;go_meet;exact⟨by rw[h1,h2,h3];rfl,rfl⟩
  go_wp2;go_meet;exact⟨by rw[h1,h2,h3];simp[zB],rfl⟩
 case rest=>
  obtain⟨rfl,rfl⟩:=hcut
  go_upto_region 2 with fail
  go_cut [4] (fun s wc=>s=.bool (zB tt&&zB into)∧wc=w.alloc (.cells #[.int .i64 1,.string vol,.string file,.string tt,.string into,.int .i64 at',.int .i64 fr,.int .i64 ln,.string data] 39))
  case first=>
   go_wp2
   all_goals go_meet
   all_goals (refine⟨?_,rfl⟩;simp_all [zB])
  case rest=>
   obtain⟨rfl,rfl⟩:=hcut;generalize hB:(at'==0&&(fr==0&&(ln==0&&zB data)))=B at *;generalize hT:(zB tt&&zB into)=T at *
   go_wp2_with fail
   refine (ai_ at' 0 100 _).mono ?_;rintro e w1 ⟨rfl,rfl⟩;generalize hC1:(decide (0<=at')&&decide (at'<=100))=C1
   go_wp2_with fail
   refine (ai_ ln 1 100 _).mono ?_;rintro e w1 ⟨rfl,rfl⟩;generalize hC2:(decide (1<=ln)&&decide (ln<=100))=C2
   go_wp2_with fail
   refine (aq_ vol _ hv).mono ?_;rintro e w1 ⟨rfl,rfl⟩
   cases hb:nameB vol
   case false=>
    go_wp2
    all_goals go_returns
    all_goals go_light
    all_goals refine⟨ac_ ?_,by go_grown⟩
    all_goals rw[ha.out]
    all_goals simp_all [zB]
   go_wp2
   all_goals go_returns
   all_goals go_light
   all_goals refine⟨ac_ ?_,by go_grown⟩
   all_goals rw[ha.out]
   all_goals simp_all [zB]
theorem pQ_ (d:ByteArray):decide (1<=d.size)=!zB d:=by
 obtain⟨⟨l⟩⟩:=d
 cases l<;>simp[zB,ByteArray.size,Zu]
theorem l9_ (vol file tt into:ByteArray)(at' fr ln:Int)(data:ByteArray)(w:World)(hs:BC ⟨2,vol,file,tt,into,at',fr,ln,data⟩):
  Calls prog 109 #[.agg #[.int .i64 2,.string vol,.string file,.string tt,.string into,.int .i64 at',.int .i64 fr,.int .i64 ln,.string data]] w fun e w'=>e=.returned (.bool (opB ⟨2,vol,file,tt,into,at',fr,ln,data⟩))∧Below w.heap.size w w':=by
 have hv:=hs.vol;have hf:=hs.file;have ht:=hs.to;have hi:=hs.into;have hd:=hs.data;dsimp only at hv hf ht hi hd;clear hs
 have ha:Hid (opB ⟨2,vol,file,tt,into,at',fr,ln,data⟩=(nameB vol&&(nameB file&&((zB tt&&zB into)&&((decide (0<=at')&&decide (at'<=100))&&(fr==0&&(ln==0&&(!zB data&&(plainB data&&decide (data.size<=20)))))))))):=by
  show _=_;simp[opB,As,pQ_,inB,ZO,Bool.and_comm,Bool.and_left_comm]
 generalize opB ⟨2,vol,file,tt,into,at',fr,ln,data⟩=R at *;go_enter func109,ntmps109
 go_upto_region 1 with fail
 go_cut [3] (fun s wc=>s=.bool (at'==0&&(fr==0&&(ln==0&&zB data)))∧wc=w.alloc (.cells #[.int .i64 2,.string vol,.string file,.string tt,.string into,.int .i64 at',.int .i64 fr,.int .i64 ln,.string data] 39))
 case first=>
  cases h1:(at'==0)
  case false=>
   go_wp2;go_meet;exact⟨by rw[h1];rfl,rfl⟩
  cases h2:(fr==0)
  case false=>
   go_wp2;go_meet;exact⟨by rw[h1,h2];rfl,rfl⟩
  cases h3:(ln==0)
  case false=>
   go_wp2;go_meet;exact⟨by rw[h1,h2,h3];rfl,rfl⟩
  go_wp2;go_meet;exact⟨by rw[h1,h2,h3];simp[zB],rfl⟩
 case rest=>
  obtain⟨rfl,rfl⟩:=hcut
  go_upto_region 2 with fail
  go_cut [4] (fun s wc=>s=.bool (zB tt&&zB into)∧wc=w.alloc (.cells #[.int .i64 2,.string vol,.string file,.string tt,.string into,.int .i64 at',.int .i64 fr,.int .i64 ln,.string data] 39))
  case first=>
   go_wp2
   all_goals go_meet
   all_goals (refine⟨?_,rfl⟩;simp_all [zB])
  case rest=>
   obtain⟨rfl,rfl⟩:=hcut;generalize hB:(at'==0&&(fr==0&&(ln==0&&zB data)))=B;generalize hT:(zB tt&&zB into)=T at *
   go_wp2_with fail
   refine (ai_ at' 0 100 _).mono ?_;rintro e w1 ⟨rfl,rfl⟩;generalize hC1:(decide (0<=at')&&decide (at'<=100))=C1 at *
   go_wp2_with fail
   refine (ai_ ln 1 100 _).mono ?_;rintro e w1 ⟨rfl,rfl⟩;generalize hC2:(decide (1<=ln)&&decide (ln<=100))=C2
   go_wp2_with fail
   refine (aq_ vol _ hv).mono ?_;rintro e w1 ⟨rfl,rfl⟩
   cases hc:nameB vol
   case false=>
    go_wp2
    all_goals go_returns
    all_goals go_light
    all_goals refine⟨ac_ ?_,by go_grown⟩
    all_goals rw[ha.out]
    all_goals simp_all [zB]
   go_wp2_with fail
   refine (aq_ file _ hf).mono ?_;rintro e w1 ⟨rfl,rfl⟩
   cases hb:nameB file
   case false=>
    go_wp2
    all_goals go_returns
    all_goals go_light
    all_goals refine⟨ac_ ?_,by go_grown⟩
    all_goals rw[ha.out]
    all_goals simp_all [zB]
   cases T
   case false=>
    go_wp2
    all_goals go_returns
    all_goals go_light
    all_goals refine⟨ac_ ?_,by go_grown⟩
    all_goals rw[ha.out]
    all_goals simp_all [zB]
   cases C1
   case false=>
    go_wp2
    all_goals go_returns
    all_goals go_light
    all_goals refine⟨ac_ ?_,by go_grown⟩
    all_goals rw[ha.out]
    all_goals simp_all [zB]
   cases zfr:(fr==0)
   case false=>
    go_wp2
    all_goals go_returns
    all_goals go_light
    all_goals refine⟨ac_ ?_,by go_grown⟩
    all_goals rw[ha.out]
    all_goals simp_all [zB]
   cases zln:(ln==0)
   case false=>
    go_wp2
    all_goals go_returns
    all_goals go_light
    all_goals refine⟨ac_ ?_,by go_grown⟩
    all_goals rw[ha.out]
    all_goals simp_all [zB]
   by_cases hz:data.toList=[]
   case pos=>
    go_wp2
    all_goals go_returns
    all_goals go_light
    all_goals refine⟨ac_ ?_,by go_grown⟩
    all_goals rw[ha.out]
    all_goals simp_all [zB]
   go_wp2_with fail
   refine (a7_ data _ hd).mono ?_;rintro e w1 ⟨rfl,rfl⟩;go_wp2
   all_goals go_returns
   all_goals go_light
   all_goals refine⟨ac_ ?_,by go_grown⟩
   all_goals rw[ha.out]
   all_goals simp_all [zB]
theorem ma_ (vol file tt into:ByteArray)(at' fr ln:Int)(data:ByteArray)(w:World)(hs:BC ⟨3,vol,file,tt,into,at',fr,ln,data⟩):
  Calls prog 109 #[.agg #[.int .i64 3,.string vol,.string file,.string tt,.string into,.int .i64 at',.int .i64 fr,.int .i64 ln,.string data]] w fun e w'=>e=.returned (.bool (opB ⟨3,vol,file,tt,into,at',fr,ln,data⟩))∧Below w.heap.size w w':=by
 have hv:=hs.vol;have hf:=hs.file;have ht:=hs.to;have hi:=hs.into;have hd:=hs.data;dsimp only at hv hf ht hi hd;clear hs
 have ha:Hid (opB ⟨3,vol,file,tt,into,at',fr,ln,data⟩=(nameB vol&&(nameB file&&((zB tt&&zB into)&&(at'==0&&(fr==0&&((decide (0<=ln)&&decide (ln<=100))&&zB data))))))):=by
  show _=_;simp[opB,inB,ZO,Bool.and_comm,Bool.and_left_comm]
 generalize opB ⟨3,vol,file,tt,into,at',fr,ln,data⟩=R at *;go_enter func109,ntmps109
 go_upto_region 1 with fail
 go_cut [3] (fun s wc=>s=.bool (at'==0&&(fr==0&&(ln==0&&zB data)))∧wc=w.alloc (.cells #[.int .i64 3,.string vol,.string file,.string tt,.string into,.int .i64 at',.int .i64 fr,.int .i64 ln,.string data] 39))
 case first=>
  cases h1:(at'==0)
  case false=>
   go_wp2;go_meet;exact⟨by rw[h1];rfl,rfl⟩
  cases h2:(fr==0)
  case false=>
   go_wp2;go_meet;exact⟨by rw[h1,h2];rfl,rfl⟩
  cases h3:(ln==0)
  case false=>
   go_wp2;go_meet;exact⟨by rw[h1,h2,h3];rfl,rfl⟩
  go_wp2;go_meet;exact⟨by rw[h1,h2,h3];simp[zB],rfl⟩
 case rest=>
  obtain⟨rfl,rfl⟩:=hcut
  go_upto_region 2 with fail
  go_cut [4] (fun s wc=>s=.bool (zB tt&&zB into)∧wc=w.alloc (.cells #[.int .i64 3,.string vol,.string file,.string tt,.string into,.int .i64 at',.int .i64 fr,.int .i64 ln,.string data] 39))
  case first=>
   go_wp2
   all_goals go_meet
   all_goals (refine⟨?_,rfl⟩;simp_all [zB])
  case rest=>
   obtain⟨rfl,rfl⟩:=hcut;generalize hB:(at'==0&&(fr==0&&(ln==0&&zB data)))=B;generalize hT:(zB tt&&zB into)=T at *
   go_wp2_with fail
   refine (ai_ at' 0 100 _).mono ?_;rintro e w1 ⟨rfl,rfl⟩;generalize hC1:(decide (0<=at')&&decide (at'<=100))=C1
   go_wp2_with fail
   refine (ai_ ln 1 100 _).mono ?_;rintro e w1 ⟨rfl,rfl⟩;generalize hC2:(decide (1<=ln)&&decide (ln<=100))=C2
   go_wp2_with fail
   refine (aq_ vol _ hv).mono ?_;rintro e w1 ⟨rfl,rfl⟩
   cases hc:nameB vol
   case false=>
    go_wp2
    all_goals go_returns
    all_goals go_light
    all_goals refine⟨ac_ ?_,by go_grown⟩
    all_goals rw[ha.out]
    all_goals simp_all [zB]
   go_wp2_with fail
   refine (aq_ file _ hf).mono ?_;rintro e w1 ⟨rfl,rfl⟩
   cases hb:nameB file
   case false=>
    go_wp2
    all_goals go_returns
    all_goals go_light
    all_goals refine⟨ac_ ?_,by go_grown⟩
    all_goals rw[ha.out]
    all_goals simp_all [zB]
   cases T
   case false=>
    go_wp2
    all_goals go_returns
    all_goals go_light
    all_goals refine⟨ac_ ?_,by go_grown⟩
    all_goals rw[ha.out]
    all_goals simp_all [zB]
   cases zat:(at'==0)
   case false=>
    go_wp2
    all_goals go_returns
    all_goals go_light
    all_goals refine⟨ac_ ?_,by go_grown⟩
    all_goals rw[ha.out]
    all_goals simp_all [zB]
   cases zfr:(fr==0)
   case false=>
    go_wp2
    all_goals go_returns
    all_goals go_light
    all_goals refine⟨ac_ ?_,by go_grown⟩
    all_goals rw[ha.out]
    all_goals simp_all [zB]
   go_wp2_with fail
   refine (ai_ ln 0 100 _).mono ?_;rintro e w1 ⟨rfl,rfl⟩;generalize hC3:(decide (0<=ln)&&decide (ln<=100))=C3 at *;go_wp2
   all_goals go_returns
   all_goals go_light
   all_goals refine⟨ac_ ?_,by go_grown⟩
   all_goals rw[ha.out]
   all_goals simp_all [zB]
end
section
open Go Go.RowKit Go.BigFrame Tryz
variable{size:Nat}{w w':World}
theorem mb_ (vol file tt into:ByteArray)(at' fr ln:Int)(data:ByteArray)(w:World)(hs:BC ⟨4,vol,file,tt,into,at',fr,ln,data⟩):
  Calls prog 109 #[.agg #[.int .i64 4,.string vol,.string file,.string tt,.string into,.int .i64 at',.int .i64 fr,.int .i64 ln,.string data]] w fun e w'=>e=.returned (.bool (opB ⟨4,vol,file,tt,into,at',fr,ln,data⟩))∧Below w.heap.size w w':=by
 have hv:=hs.vol;have hf:=hs.file;have ht:=hs.to;have hi:=hs.into;have hd:=hs.data;dsimp only at hv hf ht hi hd;clear hs
 have ha:Hid (opB ⟨4,vol,file,tt,into,at',fr,ln,data⟩=(nameB vol&&(nameB file&&((zB tt&&zB into)&&(at'==0&&(fr==0&&(ln==0&&zB data))))))):=by
  show _=_;simp[opB,ZO]
 generalize opB ⟨4,vol,file,tt,into,at',fr,ln,data⟩=R at *;go_enter func109,ntmps109
 go_upto_region 1 with fail
 go_cut [3] (fun s wc=>s=.bool (at'==0&&(fr==0&&(ln==0&&zB data)))∧wc=w.alloc (.cells #[.int .i64 4,.string vol,.string file,.string tt,.string into,.int .i64 at',.int .i64 fr,.int .i64 ln,.string data] 39))
 case first=>
  cases h1:(at'==0)
  case false=>
   go_wp2;go_meet;exact⟨by rw[h1];rfl,rfl⟩
  cases h2:(fr==0)
  case false=>
   go_wp2;go_meet;exact⟨by rw[h1,h2];rfl,rfl⟩
  cases h3:(ln==0)
  case false=>
   go_wp2;go_meet;exact⟨by rw[h1,h2,h3];rfl,rfl⟩
  go_wp2;go_meet;exact⟨by rw[h1,h2,h3];simp[zB],rfl⟩
 case rest=>
  obtain⟨rfl,rfl⟩:=hcut
  go_upto_region 2 with fail
  go_cut [4] (fun s wc=>s=.bool (zB tt&&zB into)∧wc=w.alloc (.cells #[.int .i64 4,.string vol,.string file,.string tt,.string into,.int .i64 at',.int .i64 fr,.int .i64 ln,.string data] 39))
  case first=>
   go_wp2
   all_goals go_meet
   all_goals (refine⟨?_,rfl⟩;simp_all [zB])
  case rest=>
   obtain⟨rfl,rfl⟩:=hcut;generalize hB:(at'==0&&(fr==0&&(ln==0&&zB data)))=B at *;generalize hT:(zB tt&&zB into)=T at *
   go_wp2_with fail
   refine (ai_ at' 0 100 _).mono ?_;rintro e w1 ⟨rfl,rfl⟩;generalize hC1:(decide (0<=at')&&decide (at'<=100))=C1
   go_wp2_with fail
   refine (ai_ ln 1 100 _).mono ?_;rintro e w1 ⟨rfl,rfl⟩;generalize hC2:(decide (1<=ln)&&decide (ln<=100))=C2
   go_wp2_with fail
   refine (aq_ vol _ hv).mono ?_;rintro e w1 ⟨rfl,rfl⟩
   cases hc:nameB vol
   case false=>
    go_wp2
    all_goals go_returns
    all_goals go_light
    all_goals refine⟨ac_ ?_,by go_grown⟩
    all_goals rw[ha.out]
    all_goals simp_all [zB]
   go_wp2_with fail
   refine (aq_ file _ hf).mono ?_;rintro e w1 ⟨rfl,rfl⟩
   cases hb:nameB file
   case false=>
    go_wp2
    all_goals go_returns
    all_goals go_light
    all_goals refine⟨ac_ ?_,by go_grown⟩
    all_goals rw[ha.out]
    all_goals simp_all [zB]
   go_wp2
   all_goals go_returns
   all_goals go_light
   all_goals refine⟨ac_ ?_,by go_grown⟩
   all_goals rw[ha.out]
   all_goals simp_all [zB]
theorem mc_ (vol file tt into:ByteArray)(at' fr ln:Int)(data:ByteArray)(w:World)(hs:BC ⟨5,vol,file,tt,into,at',fr,ln,data⟩):
  Calls prog 109 #[.agg #[.int .i64 5,.string vol,.string file,.string tt,.string into,.int .i64 at',.int .i64 fr,.int .i64 ln,.string data]] w fun e w'=>e=.returned (.bool (opB ⟨5,vol,file,tt,into,at',fr,ln,data⟩))∧Below w.heap.size w w':=by
 have hv:=hs.vol;have hf:=hs.file;have ht:=hs.to;have hi:=hs.into;have hd:=hs.data;dsimp only at hv hf ht hi hd;clear hs
 have ha:Hid (opB ⟨5,vol,file,tt,into,at',fr,ln,data⟩=(nameB vol&&(nameB file&&(nameB tt&&(nameB into&&((decide (0<=at')&&decide (at'<=100))&&((decide (0<=fr)&&decide (fr<=100))&&((decide (1<=ln)&&decide (ln<=100))&&zB data)))))))):=by
  show _=_;simp[opB,inB,ZO]
 generalize opB ⟨5,vol,file,tt,into,at',fr,ln,data⟩=R at *;go_enter func109,ntmps109
 go_upto_region 1 with fail
 go_cut [3] (fun s wc=>s=.bool (at'==0&&(fr==0&&(ln==0&&zB data)))∧wc=w.alloc (.cells #[.int .i64 5,.string vol,.string file,.string tt,.string into,.int .i64 at',.int .i64 fr,.int .i64 ln,.string data] 39))
 case first=>
  cases h1:(at'==0)
  case false=>
   go_wp2;go_meet;exact⟨by rw[h1];rfl,rfl⟩
  cases h2:(fr==0)
  case false=>
   go_wp2;go_meet;exact⟨by rw[h1,h2];rfl,rfl⟩
  cases h3:(ln==0)
  case false=>
   go_wp2;go_meet;exact⟨by rw[h1,h2,h3];rfl,rfl⟩
  go_wp2;go_meet;exact⟨by rw[h1,h2,h3];simp[zB],rfl⟩
 case rest=>
  obtain⟨rfl,rfl⟩:=hcut
  go_upto_region 2 with fail
  go_cut [4] (fun s wc=>s=.bool (zB tt&&zB into)∧wc=w.alloc (.cells #[.int .i64 5,.string vol,.string file,.string tt,.string into,.int .i64 at',.int .i64 fr,.int .i64 ln,.string data] 39))
  case first=>
   go_wp2
   all_goals go_meet
   all_goals (refine⟨?_,rfl⟩;simp_all [zB])
  case rest=>
   obtain⟨rfl,rfl⟩:=hcut;generalize hB:(at'==0&&(fr==0&&(ln==0&&zB data)))=B;generalize hT:(zB tt&&zB into)=T
   go_wp2_with fail
   refine (ai_ at' 0 100 _).mono ?_;rintro e w1 ⟨rfl,rfl⟩;generalize hC1:(decide (0<=at')&&decide (at'<=100))=C1 at *
   go_wp2_with fail
   refine (ai_ ln 1 100 _).mono ?_;rintro e w1 ⟨rfl,rfl⟩;generalize hC2:(decide (1<=ln)&&decide (ln<=100))=C2 at *
   go_wp2_with fail
   refine (aq_ vol _ hv).mono ?_;rintro e w1 ⟨rfl,rfl⟩
   cases he:nameB vol
   case false=>
    go_wp2
    all_goals go_returns
    all_goals go_light
    all_goals refine⟨ac_ ?_,by go_grown⟩
    all_goals rw[ha.out]
    all_goals simp_all [zB]
   go_wp2_with fail
   refine (aq_ file _ hf).mono ?_;rintro e w1 ⟨rfl,rfl⟩
   cases hb:nameB file
   case false=>
    go_wp2
    all_goals go_returns
    all_goals go_light
    all_goals refine⟨ac_ ?_,by go_grown⟩
    all_goals rw[ha.out]
    all_goals simp_all [zB]
   go_wp2_with fail
   refine (aq_ tt _ ht).mono ?_;rintro e w1 ⟨rfl,rfl⟩
   cases hg:nameB tt
   case false=>
    go_wp2
    all_goals go_returns
    all_goals go_light
    all_goals refine⟨ac_ ?_,by go_grown⟩
    all_goals rw[ha.out]
    all_goals simp_all [zB]
   go_wp2_with fail
   refine (aq_ into _ hi).mono ?_;rintro e w1 ⟨rfl,rfl⟩
   cases hc:nameB into
   case false=>
    go_wp2
    all_goals go_returns
    all_goals go_light
    all_goals refine⟨ac_ ?_,by go_grown⟩
    all_goals rw[ha.out]
    all_goals simp_all [zB]
   cases C1
   case false=>
    go_wp2
    all_goals go_returns
    all_goals go_light
    all_goals refine⟨ac_ ?_,by go_grown⟩
    all_goals rw[ha.out]
    all_goals simp_all [zB]
   go_wp2_with fail
   refine (ai_ fr 0 100 _).mono ?_;rintro e w1 ⟨rfl,rfl⟩;generalize hC3:(decide (0<=fr)&&decide (fr<=100))=C3 at *;go_wp2
   all_goals go_returns
   all_goals go_light
   all_goals refine⟨ac_ ?_,by go_grown⟩
   all_goals rw[ha.out]
   all_goals simp_all [zB]
theorem md_ (vol file tt into:ByteArray)(at' fr ln:Int)(data:ByteArray)(w:World)(hs:BC ⟨6,vol,file,tt,into,at',fr,ln,data⟩):
  Calls prog 109 #[.agg #[.int .i64 6,.string vol,.string file,.string tt,.string into,.int .i64 at',.int .i64 fr,.int .i64 ln,.string data]] w fun e w'=>e=.returned (.bool (opB ⟨6,vol,file,tt,into,at',fr,ln,data⟩))∧Below w.heap.size w w':=by
 have hv:=hs.vol;have hf:=hs.file;have ht:=hs.to;have hi:=hs.into;have hd:=hs.data;dsimp only at hv hf ht hi hd;clear hs
 have ha:Hid (opB ⟨6,vol,file,tt,into,at',fr,ln,data⟩=(nameB vol&&(zB file&&(nameB tt&&(zB into&&(at'==0&&(fr==0&&(ln==0&&zB data)))))))):=by
  show _=_;simp[opB,ZO,Bool.and_left_comm]
 generalize opB ⟨6,vol,file,tt,into,at',fr,ln,data⟩=R at *;go_enter func109,ntmps109
 go_upto_region 1 with fail
 go_cut [3] (fun s wc=>s=.bool (at'==0&&(fr==0&&(ln==0&&zB data)))∧wc=w.alloc (.cells #[.int .i64 6,.string vol,.string file,.string tt,.string into,.int .i64 at',.int .i64 fr,.int .i64 ln,.string data] 39))
 case first=>
  cases h1:(at'==0)
  case false=>
   go_wp2;go_meet;exact⟨by rw[h1];rfl,rfl⟩
  cases h2:(fr==0)
  case false=>
   go_wp2;go_meet;exact⟨by rw[h1,h2];rfl,rfl⟩
  cases h3:(ln==0)
  case false=>
   go_wp2;go_meet;exact⟨by rw[h1,h2,h3];rfl,rfl⟩
  go_wp2;go_meet;exact⟨by rw[h1,h2,h3];simp[zB],rfl⟩
 case rest=>
  obtain⟨rfl,rfl⟩:=hcut
  go_upto_region 2 with fail
  go_cut [4] (fun s wc=>s=.bool (zB tt&&zB into)∧wc=w.alloc (.cells #[.int .i64 6,.string vol,.string file,.string tt,.string into,.int .i64 at',.int .i64 fr,.int .i64 ln,.string data] 39))
  case first=>
   go_wp2
   all_goals go_meet
   all_goals (refine⟨?_,rfl⟩;simp_all [zB])
  case rest=>
   obtain⟨rfl,rfl⟩:=hcut;generalize hB:(at'==0&&(fr==0&&(ln==0&&zB data)))=B at *;generalize hT:(zB tt&&zB into)=T
   go_wp2_with fail
   refine (ai_ at' 0 100 _).mono ?_;rintro e w1 ⟨rfl,rfl⟩;generalize hC1:(decide (0<=at')&&decide (at'<=100))=C1
   go_wp2_with fail
   refine (ai_ ln 1 100 _).mono ?_;rintro e w1 ⟨rfl,rfl⟩;generalize hC2:(decide (1<=ln)&&decide (ln<=100))=C2
   go_wp2_with fail
   refine (aq_ vol _ hv).mono ?_;rintro e w1 ⟨rfl,rfl⟩
   cases hb:nameB vol
   case false=>
    go_wp2
    all_goals go_returns
    all_goals go_light
    all_goals refine⟨ac_ ?_,by go_grown⟩
    all_goals rw[ha.out]
    all_goals simp_all [zB]
   go_wp2_with fail
   refine (aq_ tt _ ht).mono ?_;rintro e w1 ⟨rfl,rfl⟩
   cases hc:nameB tt
   case false=>
    go_wp2
    all_goals go_returns
    all_goals go_light
    all_goals refine⟨ac_ ?_,by go_grown⟩
    all_goals rw[ha.out]
    all_goals simp_all [zB]
   go_wp2
   all_goals go_returns
   all_goals go_light
   all_goals refine⟨ac_ ?_,by go_grown⟩
   all_goals rw[ha.out]
   all_goals simp_all [zB]
theorem me_ (vol file tt into:ByteArray)(at' fr ln:Int)(data:ByteArray)(w:World)(hs:BC ⟨7,vol,file,tt,into,at',fr,ln,data⟩):
  Calls prog 109 #[.agg #[.int .i64 7,.string vol,.string file,.string tt,.string into,.int .i64 at',.int .i64 fr,.int .i64 ln,.string data]] w fun e w'=>e=.returned (.bool (opB ⟨7,vol,file,tt,into,at',fr,ln,data⟩))∧Below w.heap.size w w':=by
 have hv:=hs.vol;have hf:=hs.file;have ht:=hs.to;have hi:=hs.into;have hd:=hs.data;dsimp only at hv hf ht hi hd;clear hs
 have ha:Hid (opB ⟨7,vol,file,tt,into,at',fr,ln,data⟩=(nameB vol&&(zB file&&((zB tt&&zB into)&&(at'==0&&(fr==0&&(ln==0&&zB data))))))):=by
  show _=_;simp[opB,ZO]
 generalize opB ⟨7,vol,file,tt,into,at',fr,ln,data⟩=R at *;go_enter func109,ntmps109
 go_upto_region 1 with fail
 go_cut [3] (fun s wc=>s=.bool (at'==0&&(fr==0&&(ln==0&&zB data)))∧wc=w.alloc (.cells #[.int .i64 7,.string vol,.string file,.string tt,.string into,.int .i64 at',.int .i64 fr,.int .i64 ln,.string data] 39))
 case first=>
  cases h1:(at'==0)
  case false=>
   go_wp2;go_meet;exact⟨by rw[h1];rfl,rfl⟩
  cases h2:(fr==0)
  case false=>
   go_wp2;go_meet;exact⟨by rw[h1,h2];rfl,rfl⟩
  cases h3:(ln==0)
  case false=>
   go_wp2;go_meet;exact⟨by rw[h1,h2,h3];rfl,rfl⟩
  go_wp2;go_meet;exact⟨by rw[h1,h2,h3];simp[zB],rfl⟩
 case rest=>
  obtain⟨rfl,rfl⟩:=hcut
  go_upto_region 2 with fail
  go_cut [4] (fun s wc=>s=.bool (zB tt&&zB into)∧wc=w.alloc (.cells #[.int .i64 7,.string vol,.string file,.string tt,.string into,.int .i64 at',.int .i64 fr,.int .i64 ln,.string data] 39))
  case first=>
   go_wp2
   all_goals go_meet
   all_goals (refine⟨?_,rfl⟩;simp_all [zB])
  case rest=>
   obtain⟨rfl,rfl⟩:=hcut;generalize hB:(at'==0&&(fr==0&&(ln==0&&zB data)))=B at *;generalize hT:(zB tt&&zB into)=T at *
   go_wp2_with fail
   refine (ai_ at' 0 100 _).mono ?_;rintro e w1 ⟨rfl,rfl⟩;generalize hC1:(decide (0<=at')&&decide (at'<=100))=C1
   go_wp2_with fail
   refine (ai_ ln 1 100 _).mono ?_;rintro e w1 ⟨rfl,rfl⟩;generalize hC2:(decide (1<=ln)&&decide (ln<=100))=C2
   go_wp2_with fail
   refine (aq_ vol _ hv).mono ?_;rintro e w1 ⟨rfl,rfl⟩
   cases hb:nameB vol
   case false=>
    go_wp2
    all_goals go_returns
    all_goals go_light
    all_goals refine⟨ac_ ?_,by go_grown⟩
    all_goals rw[ha.out]
    all_goals simp_all [zB]
   go_wp2
   all_goals go_returns
   all_goals go_light
   all_goals refine⟨ac_ ?_,by go_grown⟩
   all_goals rw[ha.out]
   all_goals simp_all [zB]
theorem mf_ (vol file tt into:ByteArray)(at' fr ln:Int)(data:ByteArray)(w:World)(hs:BC ⟨8,vol,file,tt,into,at',fr,ln,data⟩):
  Calls prog 109 #[.agg #[.int .i64 8,.string vol,.string file,.string tt,.string into,.int .i64 at',.int .i64 fr,.int .i64 ln,.string data]] w fun e w'=>e=.returned (.bool (opB ⟨8,vol,file,tt,into,at',fr,ln,data⟩))∧Below w.heap.size w w':=by
 have hv:=hs.vol;have hf:=hs.file;have ht:=hs.to;have hi:=hs.into;have hd:=hs.data;dsimp only at hv hf ht hi hd;clear hs
 have ha:Hid (opB ⟨8,vol,file,tt,into,at',fr,ln,data⟩=(nameB vol&&(zB file&&((zB tt&&zB into)&&(at'==0&&(fr==0&&(ln==0&&zB data))))))):=by
  show _=_;simp[opB,ZO]
 generalize opB ⟨8,vol,file,tt,into,at',fr,ln,data⟩=R at *;go_enter func109,ntmps109
 go_upto_region 1 with fail
 go_cut [3] (fun s wc=>s=.bool (at'==0&&(fr==0&&(ln==0&&zB data)))∧wc=w.alloc (.cells #[.int .i64 8,.string vol,.string file,.string tt,.string into,.int .i64 at',.int .i64 fr,.int .i64 ln,.string data] 39))
 case first=>
  cases h1:(at'==0)
  case false=>
   go_wp2;go_meet;exact⟨by rw[h1];rfl,rfl⟩
  cases h2:(fr==0)
  case false=>
   go_wp2;go_meet;exact⟨by rw[h1,h2];rfl,rfl⟩
  cases h3:(ln==0)
  case false=>
   go_wp2;go_meet;exact⟨by rw[h1,h2,h3];rfl,rfl⟩
  go_wp2;go_meet;exact⟨by rw[h1,h2,h3];simp[zB],rfl⟩
 case rest=>
  obtain⟨rfl,rfl⟩:=hcut
  go_upto_region 2 with fail
  go_cut [4] (fun s wc=>s=.bool (zB tt&&zB into)∧wc=w.alloc (.cells #[.int .i64 8,.string vol,.string file,.string tt,.string into,.int .i64 at',.int .i64 fr,.int .i64 ln,.string data] 39))
  case first=>
   go_wp2
   all_goals go_meet
   all_goals (refine⟨?_,rfl⟩;simp_all [zB])
  case rest=>
   obtain⟨rfl,rfl⟩:=hcut;generalize hB:(at'==0&&(fr==0&&(ln==0&&zB data)))=B at *;generalize hT:(zB tt&&zB into)=T at *
   go_wp2_with fail
   refine (ai_ at' 0 100 _).mono ?_;rintro e w1 ⟨rfl,rfl⟩;generalize hC1:(decide (0<=at')&&decide (at'<=100))=C1
   go_wp2_with fail
   refine (ai_ ln 1 100 _).mono ?_;rintro e w1 ⟨rfl,rfl⟩;generalize hC2:(decide (1<=ln)&&decide (ln<=100))=C2
   go_wp2_with fail
   refine (aq_ vol _ hv).mono ?_;rintro e w1 ⟨rfl,rfl⟩
   cases hb:nameB vol
   case false=>
    go_wp2
    all_goals go_returns
    all_goals go_light
    all_goals refine⟨ac_ ?_,by go_grown⟩
    all_goals rw[ha.out]
    all_goals simp_all [zB]
   go_wp2
   all_goals go_returns
   all_goals go_light
   all_goals refine⟨ac_ ?_,by go_grown⟩
   all_goals rw[ha.out]
   all_goals simp_all [zB]
theorem mg_ (vol file tt into:ByteArray)(at' fr ln:Int)(data:ByteArray)(w:World)(hs:BC ⟨9,vol,file,tt,into,at',fr,ln,data⟩):
  Calls prog 109 #[.agg #[.int .i64 9,.string vol,.string file,.string tt,.string into,.int .i64 at',.int .i64 fr,.int .i64 ln,.string data]] w fun e w'=>e=.returned (.bool (opB ⟨9,vol,file,tt,into,at',fr,ln,data⟩))∧Below w.heap.size w w':=by
 have hv:=hs.vol;have hf:=hs.file;have ht:=hs.to;have hi:=hs.into;have hd:=hs.data;dsimp only at hv hf ht hi hd;clear hs
 have ha:Hid (opB ⟨9,vol,file,tt,into,at',fr,ln,data⟩=(zB vol&&(zB file&&((zB tt&&zB into)&&(at'==0&&(fr==0&&(ln==0&&zB data))))))):=by
  show _=_;simp[opB,ZO]
 generalize opB ⟨9,vol,file,tt,into,at',fr,ln,data⟩=R at *;go_enter func109,ntmps109
 go_upto_region 1 with fail
 go_cut [3] (fun s wc=>s=.bool (at'==0&&(fr==0&&(ln==0&&zB data)))∧wc=w.alloc (.cells #[.int .i64 9,.string vol,.string file,.string tt,.string into,.int .i64 at',.int .i64 fr,.int .i64 ln,.string data] 39))
 case first=>
  cases h1:(at'==0)
  case false=>
   go_wp2;go_meet;exact⟨by rw[h1];rfl,rfl⟩
  cases h2:(fr==0)
  case false=>
   go_wp2;go_meet;exact⟨by rw[h1,h2];rfl,rfl⟩
  cases h3:(ln==0)
  case false=>
   go_wp2;go_meet;exact⟨by rw[h1,h2,h3];rfl,rfl⟩
  go_wp2;go_meet;exact⟨by rw[h1,h2,h3];simp[zB],rfl⟩
 case rest=>
  obtain⟨rfl,rfl⟩:=hcut
  go_upto_region 2 with fail
  go_cut [4] (fun s wc=>s=.bool (zB tt&&zB into)∧wc=w.alloc (.cells #[.int .i64 9,.string vol,.string file,.string tt,.string into,.int .i64 at',.int .i64 fr,.int .i64 ln,.string data] 39))
  case first=>
   go_wp2
   all_goals go_meet
   all_goals (refine⟨?_,rfl⟩;simp_all [zB])
  case rest=>
   obtain⟨rfl,rfl⟩:=hcut;generalize hB:(at'==0&&(fr==0&&(ln==0&&zB data)))=B at *;generalize hT:(zB tt&&zB into)=T at *
   go_wp2_with fail
   refine (ai_ at' 0 100 _).mono ?_;rintro e w1 ⟨rfl,rfl⟩;generalize hC1:(decide (0<=at')&&decide (at'<=100))=C1
   go_wp2_with fail
   refine (ai_ ln 1 100 _).mono ?_;rintro e w1 ⟨rfl,rfl⟩;generalize hC2:(decide (1<=ln)&&decide (ln<=100))=C2;go_wp2
   all_goals go_returns
   all_goals go_light
   all_goals refine⟨ac_ ?_,by go_grown⟩
   all_goals rw[ha.out]
   all_goals simp_all [zB]
end
end Go.Proofs.YtahenegmbmnmjaaGreatDoor
