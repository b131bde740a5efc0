/- A pool read by the program: what panics is met. The sum of bytes that a commitment ends with, plain. The sum of bytes, and four bytes of a number, by the program. A commitment's bytes, by the model: what stands between its edges is any text. What the laws over pools have in common. -/
import Derived.Defers
import Derived.Recover
import Derived.Test.YtigldeccfpkdmaaGreatDoorK39
import Derived.Test.YtigldeccfpkdmaaGreatDoorK22
import Derived.Test.YtigldeccfpkdmaaGreatDoorK19
import Derived.Laws.Closers25b
import Derived.Laws.BitsLemmas
import Derived.Test.YtigldeccfpkdmaaGreatDoorK00
import Derived.Test.YtigldeccfpkdmaaGreatDoorK02
import Derived.Test.YtigldeccfpkdmaaGreatDoorK03
import Derived.Test.YtigldeccfpkdmaaGreatDoorK07
import Derived.Lib.SmallJoins
import Derived.Test.YtigldeccfpkdmaaGreatDoorK14
import Derived.Test.YtigldeccfpkdmaaGreatDoorK15
namespace Go.Proofs.YtigldeccfpkdmaaGreatDoor
open Go Go.RowKit Go.BigFrame
set_option maxHeartbeats 20000000
set_option maxRecDepth 100000
theorem if_ (b1 b2:Nat) (u:TypeId) (pv:Value) (older:List PanicEntry) (c0 c1 c2 c3 c4 c5 d:Value) (w:World) (hP:Blk w b1 #[c0,c1,c2,c3,c4,c5] tPo) (hO:Blk w b2 #[d] 4) (hne:b1≠b2) :
  CallsD Tryz.prog 38 #[.pointer (some ⟨b1,0,none⟩),.pointer (some ⟨b2,0,none⟩)] (.panicking ({v:=.iface u pv,recovered:=false}::older)) w fun e u' w'=>
   e=.returned (.tuple #[])∧u'=.panicking ({v:=.iface u pv,recovered:=true}::older)∧w'=(put6 w b1 (.int .i64 0) (.int .i64 0) (.slice none 0 0) (.slice none 0 0) (.slice none 0 0) (.slice none 0 0)).setCell ⟨b2,0,none⟩ (.bool false):=by
 obtain ⟨e0,e1,e2,e3,e4,e5⟩:=blk6 hP
 obtain ⟨f0,f1,f2,f3,f4,f5⟩:=fz6 hP
 have o0:=hO.cell 0
 have o1:=hO.frozen 0
 refine callsD_of_wpS Tryz.func38 rfl fun c₀ cs hu=>?_
 apply wpS_seq
 apply wpS_region
 simp [wpOpsS,go_sem,recoverD,hu,Tryz.ntmps38,Exit.thenS]
 refine wpS_cond (t:=true) (by simp [Act.eval,Array.replicate]) ?_
 simp only [if_true]
 refine wpS_of_wp ?_
 rw [show (#[Value.pointer (some ⟨b1,0,none⟩),Value.pointer (some ⟨b2,0,none⟩)]++((Array.replicate 3 undef).setIfInBounds 0 (Value.iface u pv)).setIfInBounds 1 (Value.bool true))=#[Value.pointer (some ⟨b1,0,none⟩),Value.pointer (some ⟨b2,0,none⟩),Value.iface u pv,Value.bool true,undef] from rfl]
 go_wp2
 exact ⟨rfl,_,rfl,.tuple #[],by simp [results,Tryz.results38],rfl,rfl,rfl⟩
theorem j2_ (b1 b2:Nat) (w:World) :
  CallsD Tryz.prog 38 #[.pointer (some ⟨b1,0,none⟩),.pointer (some ⟨b2,0,none⟩)] .returning w fun e u' w'=>e=.returned (.tuple #[])∧u'=.returning∧w'=w:=by
 refine callsD_of_wpS Tryz.func38 rfl fun c₀ cs hu=>?_
 apply wpS_seq
 apply wpS_region
 simp [wpOpsS,go_sem,recoverD,hu,Tryz.ntmps38,Exit.thenS]
 refine wpS_cond (t:=false) (by simp [Act.eval,Array.replicate]) ?_
 simp only [Bool.false_eq_true,if_false]
 refine wpS_of_wp (wp_skip ?_)
 cases c₀
 simp_all [bodyPostS,results,Tryz.results38]
theorem PoolM.boxT {B:Nat} {w w':World} {row:Option Nat} {v:Value} {p:Po} (h:PoolM B w v p) (hg:w.grownBy w' row) (hr:RowTy w row 4):PoolM B w' v p:=by
 obtain ⟨ea,en,ec,va,vn,vc,ra,rn,rc,la,ln,lc,vr,e,h1,h2,h3,h4,h5,h6,h7,h8⟩:=h.out
 exact ⟨ea,en,ec,va,vn,vc,ra,rn,rc,la,ln,lc,vr,e,h1.ty hg hr (by decide),h2.ty hg hr (by decide),h3.ty hg hr (by decide),h4.ty hg hr (by decide),h5,h6.imp fun _ _ _ h=>h.ty hg hr (by decide) (by decide),h7,h8⟩
theorem mS_ (g:Nat) (b:Bool) (w:World) (h:Blk w g #[.bool b] 4):(loadVar 4 ⟨g,0,none⟩).run Tryz.prog w=.ok (.bool b) w:=by
 have c:=h.cell 0
 simp at c
 simp [loadVar,go_sem,c,Tryz.isAgg4]
theorem e8_ (tmps:Array Value) (w:World) (g g':Nat) (cs:Array Value) (b:Bool) (hp:tmps.getD 2 undef=.pointer (some ⟨g,0,none⟩)) (hq:tmps.getD 3 undef=.pointer (some ⟨g',0,none⟩)) (hg:Blk w g cs tPo) (hs:cs.size=6) (hg':Blk w g' #[.bool b] 4) :
  (results Tryz.f10 tmps).run Tryz.prog w=.ok (.tuple #[.agg cs,.bool b]) w:=by
 have hp':tmps[2]?.getD undef=.pointer (some ⟨g,0,none⟩):=by simpa using hp
 have hq':tmps[3]?.getD undef=.pointer (some ⟨g',0,none⟩):=by simpa using hq
 have hi:(Tryz.prog.info? tPo).map (·.size)=some cs.size:=by rw [hs];kernel_rfl
 simp [results,hp',hq',asAddr,run_loadVar_row w g tPo tPo cs _ _ hg Tryz.underlying26 rfl hi,mS_ g' b w hg']
/-- A panic is met: nothing is answered. -/
theorem de_ {w u:World} {tmps:Array Value} {tp:TypeId} {pe c0 c1 c2 c3 c4 c5 d:Value} (hP:Blk u w.heap.size #[c0,c1,c2,c3,c4,c5] tPo) (hO:Blk u (w.heap.size+1) #[d] 4) (hB:Below w.heap.size w u) (h2:tmps.getD 2 undef=.pointer (some ⟨w.heap.size,0,none⟩)) (h3:tmps.getD 3 undef=.pointer (some ⟨w.heap.size+1,0,none⟩)) :
  Leaves Tryz.prog Tryz.f10 tmps (fun e w'=>(∃ v,e=.returned (.tuple #[v,.bool (none:Option Po).isSome])∧PoolM w.heap.size w' v ((none:Option Po).getD emptyP))∧Below w.heap.size w w') [{target:=.fn (Fn.func 38) #[.pointer (some ⟨w.heap.size,0,none⟩),.pointer (some ⟨w.heap.size+1,0,none⟩)],args:=#[]}] (.panicking [{v:=.iface tp pe,recovered:=false}]) u:=by
 refine leaves_cons (f:=38) (args:=#[.pointer (some ⟨w.heap.size,0,none⟩),.pointer (some ⟨w.heap.size+1,0,none⟩)]) (by simp) (by simp [go_sem]) ?_
 refine (if_ w.heap.size (w.heap.size+1) tp pe [] c0 c1 c2 c3 c4 c5 d u hP hO (by omega)).mono ?_
 rintro e u' w'' ⟨rfl,rfl,rfl⟩
 obtain ⟨E8,M8,hB8⟩:=an_ (p:=emptyP) hP hB (Nat.le_refl _) (emptyM w.heap.size u)
 have hg6:u.grownBy (put6 u w.heap.size (.int .i64 0) (.int .i64 0) (.slice none 0 0) (.slice none 0 0) (.slice none 0 0) (.slice none 0 0)) (some w.heap.size):=ac_ (ac_ (ac_ (ac_ (ac_ (ac_ (World.grownBy.refl _ _) _ _) _ _) _ _) _ _) _ _) _ _
 have O8:=hO.grown hg6 (by simp)
 generalize put6 u w.heap.size (.int .i64 0) (.int .i64 0) (.slice none 0 0) (.slice none 0 0) (.slice none 0 0) (.slice none 0 0)=W8 at *
 have hg9:W8.grownBy (W8.setCell ⟨w.heap.size+1,0,none⟩ (.bool false)) (some (w.heap.size+1)):=ac_ (World.grownBy.refl _ _) _ _
 have E9:=E8.grown hg9 (by simp)
 have O9:Blk (W8.setCell ⟨w.heap.size+1,0,none⟩ (.bool false)) (w.heap.size+1) #[.bool false] 4:=by simpa using O8.set 0 (.bool false)
 have hB9:Below w.heap.size w (W8.setCell ⟨w.heap.size+1,0,none⟩ (.bool false)):=hB8.grown hg9 (by have:=O8.lt;omega) (fun k e=>by cases e;omega)
 exact ⟨_,e8_ _ _ _ _ _ false h2 h3 E9 rfl O9,⟨_,rfl,emptyM _ _⟩,hB9⟩
theorem gI_ (s:ByteArray) (w:World) (hs:s.size<=2000000) (hG:Glb w) :
  Calls Tryz.prog 10 #[.string s] w fun e w'=>(∃ v,e=.returned (.tuple #[v,.bool (ansO s.data.toList).isSome])∧PoolM w.heap.size w' v ((ansO s.data.toList).getD emptyP))∧Below w.heap.size w w':=by
 obtain ⟨A,hA⟩:∃ A,Hid (ansO s.data.toList=A):=⟨_,rfl⟩
 rw [hA.out]
 have hmf:∀ (fn:Fn) (first cap:Array Value) (w:World),(Instr.makeFunc fn first cap).run Tryz.prog w=.ok (.func fn first cap) w:=fun _ _ _ _=>rfl
 have hA0:Below w.heap.size w ((w.alloc (.cells #[.int .i64 0,.int .i64 0,.slice none 0 0,.slice none 0 0,.slice none 0 0,.slice none 0 0] tPo)).alloc (.cells #[.bool false] 4)):=by go_grown
 have PB:Blk ((w.alloc (.cells #[.int .i64 0,.int .i64 0,.slice none 0 0,.slice none 0 0,.slice none 0 0,.slice none 0 0] tPo)).alloc (.cells #[.bool false] 4)) w.heap.size #[.int .i64 0,.int .i64 0,.slice none 0 0,.slice none 0 0,.slice none 0 0,.slice none 0 0] tPo:=(Blk.new w _ tPo).below ((Below.refl _ _).alloc (Nat.le_refl _) _)
 have OB:Blk ((w.alloc (.cells #[.int .i64 0,.int .i64 0,.slice none 0 0,.slice none 0 0,.slice none 0 0,.slice none 0 0] tPo)).alloc (.cells #[.bool false] 4)) (w.heap.size+1) #[.bool false] 4:=Blk.new' _ _ _ _ (by simp)
 have G0:=hG.below hA0
 have hgs:=hG.sz
 rcases Nat.lt_or_ge 60000 s.size with hb | hb
 ·have hAn:A=none:=by rw [<-hA.out,ansO,if_neg (by rw [<-Lib.size_eq];omega)]
  subst hAn
  obtain ⟨tp,pe,hE⟩:=G0.err
  go_enter_defers Tryz.func10,Tryz.ntmps10
  go_upto_region 2 with fail
  generalize (w.alloc (.cells #[.int .i64 0,.int .i64 0,.slice none 0 0,.slice none 0 0,.slice none 0 0,.slice none 0 0] tPo)).alloc (.cells #[.bool false] 4)=W0 at *
  go_wp2
  exact de_ PB OB hA0 rfl rfl
 ·have hR:=gE_ s _ hb G0
  have hAi:Hid (A=readO s.data.toList):=by show _=_;rw [<-hA.out,ansO,if_pos (by rw [<-Lib.size_eq];omega)]
  rw [h7_] at hAi
  go_enter_defers Tryz.func10,Tryz.ntmps10
  go_upto_region 2 with fail
  generalize (w.alloc (.cells #[.int .i64 0,.int .i64 0,.slice none 0 0,.slice none 0 0,.slice none 0 0,.slice none 0 0] tPo)).alloc (.cells #[.bool false] 4)=W0 at *
  have hw0:w.heap.size+1<W0.heap.size:=OB.lt
  go_wp2_with fail
  refine hR.mono ?_
  clear hR
  cases hL:lnsB s.data.toList.length s.data.toList with
  |none=>
   rintro e w1 ⟨⟨tp,pe,rfl⟩,hB1⟩
   have hAn:A=none:=by rw [hAi.out,readI,hL];rfl
   subst hAn
   go_wp2
   exact de_ (PB.below hB1) (OB.below hB1) (chain hA0 hB1) rfl rfl
  |some ls=>
   rintro e w1 ⟨⟨rb,rfl,hrb,D,hll⟩,hB1⟩
   replace PB:=PB.below hB1
   replace OB:=OB.below hB1
   replace G0:=G0.below hB1
   have hB:=chain hA0 hB1
   have hw1:=hB1.size
   clear hB1 hA0
   have q:=k0_ rb ls w1 D G0 (by omega) hll
   go_wp2_with fail
   refine q.mono ?_
   clear q
   cases hp:poolP ls with
   |none=>
    rintro e w2 ⟨⟨tp,pe,rfl⟩,hg2⟩
    have hAn:A=none:=by rw [hAi.out,readI,hL,Option.bind_some,hp];rfl
    subst hAn
    go_wp2
    exact de_ (PB.grown hg2 (by simp;omega)) (OB.grown hg2 (by simp;omega)) (hB.grown hg2 (by omega) (fun k e=>by cases e;omega)) rfl rfl
   |some pq=>
    obtain ⟨p,rest⟩:=pq
    rintro e w2 ⟨⟨v,rfl,M,D2⟩,hg2⟩
    replace PB:=PB.grown hg2 (by simp;omega)
    replace OB:=OB.grown hg2 (by simp;omega)
    replace G0:=G0.grown hg2 (by omega)
    replace hB:=hB.grown hg2 (by omega) (fun k e=>by cases e;omega)
    have hw2:=hg2.size
    clear hg2 D
    obtain ⟨ea,en,ec,va,vn,vc,ra,rn,rc,la,ln,lc,vr,rfl,_⟩:=M.out
    obtain ⟨r0,r1,r2,r3,r4,r5⟩:=blk6 PB
    obtain ⟨g0,g1,g2,g3,g4,g5⟩:=fz6 PB
    go_upto_region 6 with fail
    obtain ⟨P3,hg3⟩:=put6F PB (.int .i64 p.size) (.int .i64 p.next) (.slice ea en ec) (.slice va vn vc) (.slice ra rn rc) (.slice la ln lc)
    have M3:=M.box hg3 PB
    have D3:=D2.ty hg3 (ap_ PB) (by decide) (by decide)
    have O3:=OB.grown hg3 (by simp)
    have G3:=G0.low ((Below.refl w.heap.size _).grown hg3 (by omega) (fun k e=>by cases e;exact Nat.le_refl _)) hgs
    have hB3:=hB.grown hg3 (by omega) (fun k e=>by cases e;exact Nat.le_refl _)
    have hs3:=hg3.size
    generalize (((((w2.setCell ⟨w.heap.size,0,none⟩ (.int .i64 p.size)).setCell ⟨w.heap.size,1,none⟩ (.int .i64 p.next)).setCell ⟨w.heap.size,2,none⟩ (.slice ea en ec)).setCell ⟨w.heap.size,3,none⟩ (.slice va vn vc)).setCell ⟨w.heap.size,4,none⟩ (.slice ra rn rc)).setCell ⟨w.heap.size,5,none⟩ (.slice la ln lc)=W3 at *
    clear hg3 PB OB D2 M hB r0 r1 r2 r3 r4 r5 g0 g1 g2 g3 g4 g5
    obtain ⟨lb,lo,lcap,lcs,RB3,_⟩:=D3.out
    have d0:=RB3.cell 0
    cases rest with
    |cons l r=>
     simp only [List.length_cons] at d0
     have hAn:A=none:=by rw [hAi.out,readI,hL,Option.bind_some,hp];rfl
     subst hAn
     obtain ⟨tp,pe,hE⟩:=G3.err
     have hn:(0:Int)<((r.length+1:Nat):Int):=by omega
     generalize r.length+1=n at *
     go_wp2
     exact de_ P3 O3 hB3 rfl rfl
    |nil=>
     have hRI:readI s.data.toList=some p:=by rw [readI,hL,Option.bind_some,hp]
     have hd:DimP p:=nL_ (by rw [<-hV_ hRI,<-Lib.size_eq];exact hb)
     rw [hRI] at hAi
     have hA2:Hid (A=if poolB p=true then some p else none):=hAi.out
     clear hAi hRI
     simp only [List.length_nil] at d0
     have q:=cj_ w1.heap.size _ p W3 M3.at hd
     obtain ⟨v0,v1,v2,v3,v4,v5⟩:=blk6 P3
     go_wp2_with fail
     refine q.mono ?_
     rintro e w4 ⟨rfl,hB4⟩
     clear q v0 v1 v2 v3 v4 v5 d0 RB3 D3
     replace P3:=P3.below hB4
     replace O3:=O3.below hB4
     replace M3:=M3.below hB4
     replace G3:=G3.below hB4
     replace hB3:=chain hB3 hB4
     have hs4:=hB4.size
     clear hB4
     cases hpb:poolB p with
     |false=>
      rw [hpb] at hA2
      have hAn:A=none:=hA2.out
      subst hAn
      obtain ⟨tp,pe,hE⟩:=G3.err
      go_wp2
      exact de_ P3 O3 hB3 rfl rfl
     |true=>
      rw [hpb] at hA2
      have hAn:A=some p:=hA2.out
      subst hAn
      obtain ⟨r0,r1,r2,r3,r4,r5⟩:=blk6 P3
      obtain ⟨g0,g1,g2,g3,g4,g5⟩:=fz6 P3
      have o0:w4.cell? ⟨w.heap.size+1,0,none⟩=some (.bool false):=O3.cell 0
      have o1:=O3.frozen 0
      go_wp2
      obtain ⟨P5,hg5⟩:=put6F P3 (.int .i64 p.size) (.int .i64 p.next) (.slice ea en ec) (.slice va vn vc) (.slice ra rn rc) (.slice la ln lc)
      have M5:=M3.box hg5 P3
      have O5:=O3.grown hg5 (by simp)
      have hB5:=hB3.grown hg5 (by omega) (fun k e=>by cases e;exact Nat.le_refl _)
      generalize (((((w4.setCell ⟨w.heap.size,0,none⟩ (.int .i64 p.size)).setCell ⟨w.heap.size,1,none⟩ (.int .i64 p.next)).setCell ⟨w.heap.size,2,none⟩ (.slice ea en ec)).setCell ⟨w.heap.size,3,none⟩ (.slice va vn vc)).setCell ⟨w.heap.size,4,none⟩ (.slice ra rn rc)).setCell ⟨w.heap.size,5,none⟩ (.slice la ln lc)=W5 at *
      have hg6:W5.grownBy (W5.setCell ⟨w.heap.size+1,0,none⟩ (.bool true)) (some (w.heap.size+1)):=ac_ (World.grownBy.refl _ _) _ _
      have P6:=P5.grown hg6 (by simp)
      have O6:Blk (W5.setCell ⟨w.heap.size+1,0,none⟩ (.bool true)) (w.heap.size+1) #[.bool true] 4:=by simpa using O5.set 0 (.bool true)
      have M6:PoolM w.heap.size (W5.setCell ⟨w.heap.size+1,0,none⟩ (.bool true)) (.agg #[.int .i64 p.size,.int .i64 p.next,.slice ea en ec,.slice va vn vc,.slice ra rn rc,.slice la ln lc]) p:=(M5.boxT hg6 (ap_ O5)).mono (by omega)
      have hB6:Below w.heap.size w (W5.setCell ⟨w.heap.size+1,0,none⟩ (.bool true)):=hB5.grown hg6 (by have:=O5.lt;omega) (fun k e=>by cases e;omega)
      generalize W5.setCell ⟨w.heap.size+1,0,none⟩ (.bool true)=W6 at *
      refine leaves_cons (f:=38) (args:=#[.pointer (some ⟨w.heap.size,0,none⟩),.pointer (some ⟨w.heap.size+1,0,none⟩)]) (by simp) (by simp [go_sem]) ?_
      refine (j2_ w.heap.size (w.heap.size+1) W6).mono ?_
      rintro e u' w'' ⟨rfl,rfl,rfl⟩
      exact ⟨_,e8_ _ _ _ _ _ true rfl rfl P6 rfl O6,⟨_,rfl,M6⟩,hB6⟩
def stC (c:Int):Int:=if c % 2=1 then bits .xor .u32 (c / 2) 3988292384 else c / 2
def itC:Nat->Int->Int
 |0,c=>c
 |k+1,c=>stC (itC k c)
def byC (c:Int) (b:UInt8):Int:=itC 8 (bits .xor .u32 c (b.toNat:Int))
def crC (l:List UInt8):Int:=l.foldl byC 4294967295
def crcS (l:List UInt8):Int:=bits .xor .u32 4294967295 (crC l)
def U32 (c:Int):Prop:=0<=c∧c<4294967296
theorem df_ (op:BinOp) (a b:Int):U32 (bits op .u32 a b):=by
 have h1:=bits_lo_u32 op a b
 have h2:=bits_hi_u32 op a b
 exact ⟨h1,by omega⟩
theorem lQ_ {c:Int} (h:U32 c):U32 (stC c):=by
 unfold stC
 split
 ·exact df_ _ _ _
 ·obtain ⟨h1,h2⟩:=h
  exact ⟨by omega,by omega⟩
theorem j3_ {l:List UInt8} {k:Nat} {b:UInt8} (h:l[k]?=some b):crC (l.take (k+1))=byC (crC (l.take k)) b:=by
 unfold crC
 rw [List.take_add_one,h,Option.toList,List.foldl_append]
 rfl
theorem oX_ {c:Int} (h:U32 c):bits .and .u32 c 1=c % 2:=by
 have:=bits_mask .u32 32 (by decide) (fun n h0 h1=>by rw [IntKind.wrap_u32];omega) 1 (by decide) c h.1 h.2
 simpa using this
def hiB (n:Int):ByteArray:=strOfNums [n / 16777216,n / 65536 % 256,n / 256 % 256,n % 256]
def loB (n:Int):ByteArray:=strOfNums [n % 256,n / 256 % 256,n / 65536 % 256,n / 16777216]
def bodyC (n:Int) (p:List UInt8):List UInt8:=(decB n).data.toList++[10]++p
def superC (n:Int) (p:List UInt8):ByteArray:=hiB ((bodyC n p).length)++⟨(bodyC n p).toArray⟩++loB (crcS (bodyC n p))
theorem gJ_ (s:ByteArray) (w:World) (hs:s.size<=2000000) :
  Calls Tryz.prog 64 #[.string s] w fun e w'=>e=.returned (.int .u32 (crcS s.data.toList))∧w'=w:=by
 obtain ⟨R,hR⟩:∃ R,Hid (crcS s.data.toList=R):=⟨_,rfl⟩
 rw [hR.out]
 go_enter Tryz.func64,Tryz.ntmps64
 go_wp2_with fail
 go_loop [3,8] (fun sm ix=>∃ (k:Nat) (c:Int),k<=s.size∧ix=.int .i64 k∧sm=.int .u32 c∧U32 c∧Hid (crC (s.data.toList.take k)=c)) (fun _ ix=>s.size-(intOf ix).toNat)
 case atStart=>exact ⟨0,4294967295,Nat.zero_le _,rfl,rfl,⟨by omega,by omega⟩,rfl⟩
 case round=>
  obtain ⟨k,c,hk,rfl,rfl,hU,hI⟩:=hrel
  by_cases hlt:k<s.size
  ·have hb:s.data.toList[k]?=some s[k]:=by rw [List.getElem?_eq_getElem (by simpa using hlt)];rfl
   have hst:Hid (crC (s.data.toList.take (k+1))=itC 8 (bits .xor .u32 c ((s[k].toNat:Int) % 4294967296))):=by
    show _=_
    rw [j3_ hb,hI.out,byC,Int.emod_eq_of_lt (by omega) (by have:=s[k].toNat_lt;omega)]
   have hu0:=df_ .xor c ((s[k].toNat:Int) % 4294967296)
   go_wp2_with fail
   generalize bits .xor .u32 c ((s[k].toNat:Int) % 4294967296)=d0 at *
   clear hb
   go_loop [3,17] (fun sm jx=>∃ (j:Nat) (d:Int),j<=8∧jx=.int .i64 j∧sm=.int .u32 d∧U32 d∧Hid (itC j d0=d)) (fun _ jx=>8-(intOf jx).toNat)
   case atStart=>exact ⟨0,d0,by omega,rfl,rfl,hu0,rfl⟩
   case round=>
    obtain ⟨j,d,hj,rfl,rfl,hV,hJ⟩:=hrel
    by_cases hj8:j<8
    ·have hn:Hid (itC (j+1) d0=stC d):=by show stC (itC j d0)=_;rw [hJ.out]
     have hu:=lQ_ hV
     have ha:Hid (bits .and .u32 d 1=d % 2):=oX_ hV
     have hd0:=hV.1
     have hd1:=hV.2
     by_cases hp:d % 2=1
     ·have hb1:bits .and .u32 d 1=1:=by rw [ha.out,hp]
      have hs1:Hid (stC d=bits .xor .u32 (d / 2) 3988292384):=by show stC d=_;unfold stC;rw [if_pos hp]
      generalize stC d=z at *
      go_wp2
      go_round
      case rel=>exact ⟨j+1,_,by omega,by go_num,by rw [hs1.out],hu,hn⟩
      case measure=>simp [intOf];omega
     ·have hb1:bits .and .u32 d 1=0:=by rw [ha.out];omega
      have hs1:Hid (stC d=d / 2):=by show stC d=_;unfold stC;rw [if_neg hp]
      generalize stC d=z at *
      go_wp2
      go_round
      case rel=>exact ⟨j+1,_,by omega,by go_num,by rw [hs1.out],hu,hn⟩
      case measure=>simp [intOf];omega
    ·obtain rfl:j=8:=by omega
     go_wp2
     go_round
     case rel=>exact ⟨k+1,_,by omega,by go_num,rfl,hV,by show _=_;rw [hst.out,hJ.out]⟩
     case measure=>simp [intOf];omega
  ·obtain rfl:k=s.size:=by omega
   have hfin:Hid (R=bits .xor .u32 4294967295 c):=by
    show _=_
    rw [<-hR.out,crcS,<-hI.out,List.take_of_length_le (by simp)]
   go_wp2
   go_returns
   go_light
   exact ⟨by rw [hfin.out];rfl,rfl⟩
/-- Four bytes made a text. -/
theorem conv4 (u:World) (a b c d:Int):(convert 173 9 (.slice (some ⟨u.heap.size,0,none⟩) 4 4)).run Tryz.prog (u.alloc (.cells #[.int .u8 a,.int .u8 b,.int .u8 c,.int .u8 d] 5))=.ok (.string (strOfNums [a,b,c,d])) (u.alloc (.cells #[.int .u8 a,.int .u8 b,.int .u8 c,.int .u8 d] 5)):=
 run_convert_bytes_arg (P:=Tryz.prog) _ 173 5 Tryz.underlying173 Tryz.underlying5 u.heap.size 0 4 4 [a,b,c,d] rfl (fun i hi=>(by
  rcases i with _ | _ | _ | _ | i
  ·simp
  ·simp
  ·simp
  ·simp
  ·omega)) 9 Tryz.underlying9
theorem ek_ (n:Int) (w:World) (h:U32 n) :
  Calls Tryz.prog 62 #[.int .u32 n] w fun e w'=>e=.returned (.string (hiB n))∧Below w.heap.size w w':=by
 obtain ⟨h0,h1⟩:=h
 have hcv:=conv4
 go_enter Tryz.func62,Tryz.ntmps62
 go_wp2
 go_returns
 exact ⟨rfl,by go_grown⟩
theorem eL_ (n:Int) (w:World) (h:U32 n) :
  Calls Tryz.prog 63 #[.int .u32 n] w fun e w'=>e=.returned (.string (loB n))∧Below w.heap.size w w':=by
 obtain ⟨h0,h1⟩:=h
 have hcv:=conv4
 go_enter Tryz.func63,Tryz.ntmps63
 go_wp2
 go_returns
 exact ⟨rfl,by go_grown⟩
theorem dO_ (s:ByteArray) (w:World) (hs:s.size<=2000000) :
  Calls Tryz.prog 123 #[.string s] w fun e w'=>e=.returned (.string (loB (crcS s.data.toList)))∧Below w.heap.size w w':=by
 obtain ⟨R,hR⟩:∃ R,Hid (crcS s.data.toList=R):=⟨_,rfl⟩
 rw [hR.out]
 have hcv:=conv4
 go_enter Tryz.func123,Tryz.ntmps123
 go_wp2_with fail
 go_loop [3,4] (fun sm ix=>∃ (k:Nat) (c:Int),k<=s.size∧ix=.int .i64 k∧sm=.int .u32 c∧U32 c∧Hid (crC (s.data.toList.take k)=c)) (fun _ ix=>s.size-(intOf ix).toNat)
 case atStart=>exact ⟨0,4294967295,Nat.zero_le _,rfl,rfl,⟨by omega,by omega⟩,rfl⟩
 case round=>
  obtain ⟨k,c,hk,rfl,rfl,hU,hI⟩:=hrel
  by_cases hlt:k<s.size
  ·have hb:s.data.toList[k]?=some s[k]:=by rw [List.getElem?_eq_getElem (by simpa using hlt)];rfl
   have hst:Hid (crC (s.data.toList.take (k+1))=itC 8 (bits .xor .u32 c ((s[k].toNat:Int) % 4294967296))):=by
    show _=_
    rw [j3_ hb,hI.out,byC,Int.emod_eq_of_lt (by omega) (by have:=s[k].toNat_lt;omega)]
   have hu0:=df_ .xor c ((s[k].toNat:Int) % 4294967296)
   go_wp2_with fail
   generalize bits .xor .u32 c ((s[k].toNat:Int) % 4294967296)=d0 at *
   clear hb
   go_loop [3,5] (fun sm jx=>∃ (j:Nat) (d:Int),j<=8∧jx=.int .i64 j∧sm=.int .u32 d∧U32 d∧Hid (itC j d0=d)) (fun _ jx=>8-(intOf jx).toNat)
   case atStart=>exact ⟨0,d0,by omega,rfl,rfl,hu0,rfl⟩
   case round=>
    obtain ⟨j,d,hj,rfl,rfl,hV,hJ⟩:=hrel
    by_cases hj8:j<8
    ·have hn:Hid (itC (j+1) d0=stC d):=by show stC (itC j d0)=_;rw [hJ.out]
     have hu:=lQ_ hV
     have hd0:=hV.1
     have hd1:=hV.2
     by_cases hp:d % 2=1
     ·have hs1:Hid (stC d=bits .xor .u32 (d / 2) 3988292384):=by show stC d=_;unfold stC;rw [if_pos hp]
      generalize stC d=z at *
      go_wp2
      go_round
      case rel=>exact ⟨j+1,_,by omega,by go_num,by rw [hs1.out],hu,hn⟩
      case measure=>simp [intOf];omega
     ·have hb1:d % 2=0:=by omega
      have hs1:Hid (stC d=d / 2):=by show stC d=_;unfold stC;rw [if_neg hp]
      generalize stC d=z at *
      go_wp2
      go_round
      case rel=>exact ⟨j+1,_,by omega,by go_num,by rw [hs1.out],hu,hn⟩
      case measure=>simp [intOf];omega
    ·obtain rfl:j=8:=by omega
     go_wp2
     go_round
     case rel=>exact ⟨k+1,_,by omega,by go_num,rfl,hV,by show _=_;rw [hst.out,hJ.out]⟩
     case measure=>simp [intOf];omega
  ·obtain rfl:k=s.size:=by omega
   have hfin:Hid (R=bits .xor .u32 4294967295 c):=by
    show _=_
    rw [<-hR.out,crcS,<-hI.out,List.take_of_length_le (by simp)]
   have hRu:U32 R:=by rw [<-hR.out];exact df_ _ _ _
   obtain ⟨hr0,hr1⟩:=hRu
   go_wp2
   go_returns
   refine ⟨?_,by go_grown⟩
   have e:bits .xor .u32 IntKind.u32.max c=R:=hfin.out.symm
   show Ending.returned (.string (strOfNums [bits .xor .u32 IntKind.u32.max c % 256,bits .xor .u32 IntKind.u32.max c / 256 % 256,bits .xor .u32 IntKind.u32.max c / 65536 % 256,bits .xor .u32 IntKind.u32.max c / 16777216 % 256]))=_
   rw [e,Int.emod_eq_of_lt (a:=R / 16777216) (by omega) (by omega)]
   rfl
end Go.Proofs.YtigldeccfpkdmaaGreatDoor
namespace Go.Proofs.YtigldeccfpkdmaaGreatDoor
open Go Go.RowKit Go.BigFrame Go.Shelf
set_option maxHeartbeats 20000000
set_option maxRecDepth 100000
theorem conv4w {w:World} {b:Nat} {a c d e:Int} (h:Blk w b #[.int .u8 a,.int .u8 c,.int .u8 d,.int .u8 e] 5):(convert 173 9 (.slice (some ⟨b,0,none⟩) 4 4)).run Tryz.prog w=.ok (.string (strOfNums [a,c,d,e])) w:=
 run_convert_bytes_arg (P:=Tryz.prog) _ 173 5 Tryz.underlying173 Tryz.underlying5 b 0 4 4 [a,c,d,e] rfl (fun i hi=>(by
  rcases i with _ | _ | _ | _ | i
  ·exact h.cell 0
  ·exact h.cell 1
  ·exact h.cell 2
  ·exact h.cell 3
  ·omega)) 9 Tryz.underlying9
theorem lR_ {dn T:ByteArray} {n:Int} {t:List UInt8} (hd:decB n=dn) (hT:(⟨t.toArray⟩:ByteArray)=T):dn++⟨#[10]⟩++T=⟨(bodyC n t).toArray⟩:=by
 rw [<-hd,<-hT]
 refine bZ_ ?_
 simp [bodyC,ByteArray.data_append]
theorem j4_ {n:Int} {t:List UInt8} (h0:0<=n) (h1:n<=1000000000) (ht:t.length<=1000000):(bodyC n t).length<=1000014:=by
 have:=cq_ (n:=n) (by omega) (by omega)
 have h2:(decB n).data.toList.length=(decB n).size:=by simp
 unfold bodyC
 simp only [List.length_append,List.length_singleton]
 omega
theorem twoLX {P:Program} {Q:Exit->Act->World->Prop} {md:Region.Mode} {S:World->Prop} {l:List Oper} {i j:Nat} {o o':Oper} {fuel:Nat} {listed:Array Bool} {a:Act} {w:World} (hr:Region.ready md l.toArray listed=[i,j]) (hi:l[i]?=some o) (hj:l[j]?=some o')
  (h:∀ K':Act->World->Prop,Shut (∀ a w,S w->(S w->wpAnyH P md l.toArray Q S fuel (listed.setIfInBounds i true) a w)->K' a w)->if Region.wanted o (yielded l.toArray a.tmps)=true then Oper.wp P o a w K' Q else K' (a.put o.dst undef) w)
  (h':∀ K':Act->World->Prop,Shut (∀ a w,S w->(S w->wpAnyH P md l.toArray Q S fuel (listed.setIfInBounds j true) a w)->K' a w)->if Region.wanted o' (yielded l.toArray a.tmps)=true then Oper.wp P o' a w K' Q else K' (a.put o'.dst undef) w) :
  wpAnyH P md l.toArray Q S (fuel+1) listed a w:=
 wpAnyH_ready hr (by simp) (AllReadyH.cons (by simpa using hi) h (AllReadyH.cons (by simpa using hj) h' AllReadyH.nil))
theorem gK_ (sz nx:Int) (ea:Option Addr) (en ec:Nat) (va:Option Addr) (vn vc:Nat) (ra:Option Addr) (rn rc:Nat) (la:Option Addr) (ln lc:Nat) (n:Int) (T:ByteArray) (w:World) (h0:0<=n) (h1:n<=1000000000) (hTs:T.size<=1000000)
  (kt:∀ u:World,Below w.heap.size w u->Calls Tryz.prog 92 #[.agg #[.int .i64 sz,.int .i64 nx,.slice ea en ec,.slice va vn vc,.slice ra rn rc,.slice la ln lc]] u fun e w'=>e=.returned (.string T)∧Below u.heap.size u w') :
  Calls Tryz.prog 56 #[.int .i64 n,.agg #[.int .i64 sz,.int .i64 nx,.slice ea en ec,.slice va vn vc,.slice ra rn rc,.slice la ln lc]] w fun e w'=>e=.returned (.string (superC n T.data.toList))∧Below w.heap.size w w':=by
 obtain ⟨dn,hdn⟩:∃ zz,Hid (decB n=zz):=⟨_,rfl⟩
 have kd:∀ u:World,Calls Tryz.prog 122 #[.int .i64 n] u fun e w'=>e=.returned (.string dn)∧Below u.heap.size u w':=fun u=>by rw [<-hdn.out];exact aH_ n u (by omega) (by omega)
 have hTl:T.data.toList.length<=1000000:=by rw [<-Lib.size_eq];exact hTs
 have hbl:=j4_ h0 h1 hTl
 obtain ⟨b,hb⟩:∃ z,Hid (z=dn++⟨#[10]⟩++T):=⟨_,rfl⟩
 have hbb:Hid (b=⟨(bodyC n T.data.toList).toArray⟩):=by show _=_;rw [hb.out,lR_ hdn.out (Lib.mk_data T)]
 have hbs:b.size<=1000014:=by
  rw [hbb.out]
  show (bodyC n T.data.toList).toArray.size<=_
  simpa using hbl
 have hdl:dn.size<=13:=by rw [<-hdn.out];exact cq_ (by omega) (by omega)
 have e1:¬ 9223372036854775807<dn.size+(⟨#[10]⟩:ByteArray).size:=by show ¬ _<_+1;omega
 have e2:¬ 9223372036854775807<(dn++⟨#[10]⟩).size+T.size:=by
  have:(dn++⟨#[10]⟩++T).size<=1000014:=by rw [<-hb.out];exact hbs
  rw [cp_] at this
  omega
 have hfin:Hid (superC n T.data.toList=hiB b.size++b++loB (crcS b.data.toList)):=by
  show _=_
  unfold superC
  rw [hbb.out]
  have:((⟨(bodyC n T.data.toList).toArray⟩:ByteArray).size)=(bodyC n T.data.toList).length:=by show (bodyC n T.data.toList).toArray.size=_;simp
  rw [this]
 generalize superC n T.data.toList=R at *
 go_enter Tryz.func56,Tryz.ntmps56
 have C:=Blk.new w #[.int .i64 sz,.int .i64 nx,.slice ea en ec,.slice va vn vc,.slice ra rn rc,.slice la ln lc] 26
 have hBw:Below w.heap.size w (w.alloc (.cells #[.int .i64 sz,.int .i64 nx,.slice ea en ec,.slice va vn vc,.slice ra rn rc,.slice la ln lc] 26)):=by go_grown
 go_wp2_with fail
 generalize w.alloc (.cells #[.int .i64 sz,.int .i64 nx,.slice ea en ec,.slice va vn vc,.slice ra rn rc,.slice la ln lc] 26)=W at *
 replace kt:=fun (u:World) (hu:Below W.heap.size W u)=>kt u (chain hBw hu)
 have q0:=gcell (C.cell 0)
 have q1:=gcell (C.cell 1)
 have q2:=gcell (C.cell 2)
 have q3:=gcell (C.cell 3)
 have q4:=gcell (C.cell 4)
 have q5:=gcell (C.cell 5)
 refine aa_ (by kernel_rfl) (by kernel_rfl) ?_
 have hne:=aq_ W
 iterate 2 (go_big_quiet_step (first | (go_at_call 122;exact ag_ (kd _))))
 iterate 3 (go_big_quiet_step (first | (go_at_call 92;exact ag_ (kt _ (Grw.h _)))))
 iterate 2 (go_big_quiet_step (fail))
 refine wpQuiet_nil ?_
 intro w1 hx1
 have hB1:=chain hBw (ae_ hx1)
 rw [<-hb.out]
 clear hx1 q0 q1 q2 q3 q4 q5 e1 e2 kd kt hdl hBw C
 go_wp2_with fail
 obtain ⟨H,hH⟩:∃ z,Hid (strOfNums [IntKind.u8.wrap ((b.size:Int) / 16777216),IntKind.u8.wrap ((b.size:Int) / 65536),IntKind.u8.wrap ((b.size:Int) / 256),IntKind.u8.wrap (b.size:Int)]=z):=⟨_,rfl⟩
 have hHh:Hid (H=hiB b.size):=by
  show _=_
  rw [<-hH.out,hiB]
  simp only [IntKind.wrap_u8]
  rw [Int.emod_eq_of_lt (a:=(b.size:Int) / 16777216) (by omega) (by omega)]
 obtain ⟨L,hL⟩:∃ z,Hid (loB (crcS b.data.toList)=z):=⟨_,rfl⟩
 have hHs:H.size=4:=by rw [<-hH.out,strOfNums_size];rfl
 have hLs:L.size=4:=by rw [<-hL.out,loB,strOfNums_size];rfl
 have e3:¬ 9223372036854775807<H.size+b.size:=by omega
 have e4:¬ 9223372036854775807<H.size+b.size+L.size:=by omega
 clear hHs hLs
 have hB2:=hB1.drew
 have hS0:(fun _=>True) w1.drew:=trivial
 refine av_ (S:=(fun _=>True)) 19 (by kernel_rfl) rfl ?_
 generalize w1.drew=W2 at *
 clear hB1 w1
 refine tk 0 ?_
 refine tk 1 ?_
 refine tk 2 ?_
 refine tk 3 ?_
 refine tk 4 ?_
 refine tk 5 ?_
 refine tk 6 ?_
 refine tk 7 ?_
 refine tk 8 ?_
 refine tk 9 ?_
 refine tk 10 ?_
 refine tk 13 ?_
 refine tk 15 ?_
 refine twoLX (i:=11) (j:=16) (by kernel_rfl) rfl rfl (fun K hK=>?_) (fun K hK=>?_)
 ·go_simp
  have V3:=Blk.new W2 #[.int .u8 (IntKind.u8.wrap (↑b.size / 16777216)),.int .u8 (IntKind.u8.wrap (↑b.size / 65536)),.int .u8 (IntKind.u8.wrap (↑b.size / 256)),.int .u8 (IntKind.u8.wrap ↑b.size)] 5
  have hB3:Below w.heap.size w (W2.alloc (.cells #[.int .u8 (IntKind.u8.wrap (↑b.size / 16777216)),.int .u8 (IntKind.u8.wrap (↑b.size / 65536)),.int .u8 (IntKind.u8.wrap (↑b.size / 256)),.int .u8 (IntKind.u8.wrap ↑b.size)] 5)):=hB2.alloc hB2.size _
  generalize W2.alloc (.cells #[.int .u8 (IntKind.u8.wrap (↑b.size / 16777216)),.int .u8 (IntKind.u8.wrap (↑b.size / 65536)),.int .u8 (IntKind.u8.wrap (↑b.size / 256)),.int .u8 (IntKind.u8.wrap ↑b.size)] 5)=W3 at *
  refine hK.out _ _ trivial (fun hHeld=>?_)
  clear hK K
  try simp only [Act.put,lsA,lsB,lsC]
  refine twoLX (i:=12) (j:=16) (by kernel_rfl) rfl rfl (fun K hK=>?_) (fun K hK=>?_)
  ·have hcv:=conv4w V3
   rw [hH.out] at hcv
   go_simp
   refine hK.out _ _ trivial (fun hHeld=>?_)
   clear hK K
   try simp only [Act.put,lsA,lsB,lsC]
   refine tk 14 ?_
   refine oneL (i:=16) (by kernel_rfl) rfl (fun K hK=>?_)
   go_simp
   refine (dO_ b _ (by omega)).mono ?_
   rintro e W4 ⟨rfl,hB4⟩
   replace hB4:=chain hB3 hB4
   rw [hL.out]
   dsimp only
   refine hK.out _ _ trivial (fun hHeld=>?_)
   clear hK K
   try simp only [Act.put,lsA,lsB,lsC]
   refine tk 17 ?_
   refine tk 18 ?_
   refine wpAnyH_done (by kernel_rfl) ?_ _
   go_wp2
   go_returns
   exact ⟨by rw [hfin.out,<-hHh.out,hL.out];rfl,hB4⟩
  ·go_simp
   refine (dO_ b _ (by omega)).mono ?_
   rintro e W4 ⟨rfl,hB4⟩
   have V4:=V3.below hB4
   replace hB4:=chain hB3 hB4
   rw [hL.out]
   dsimp only
   refine hK.out _ _ trivial (fun hHeld=>?_)
   clear hK K
   try simp only [Act.put,lsA,lsB,lsC]
   refine oneL (i:=12) (by kernel_rfl) rfl (fun K hK=>?_)
   have hcv:=conv4w V4
   rw [hH.out] at hcv
   go_simp
   refine hK.out _ _ trivial (fun hHeld=>?_)
   clear hK K
   try simp only [Act.put,lsA,lsB,lsC]
   refine tk 14 ?_
   refine tk 17 ?_
   refine tk 18 ?_
   refine wpAnyH_done (by kernel_rfl) ?_ _
   go_wp2
   go_returns
   exact ⟨by rw [hfin.out,<-hHh.out,hL.out];rfl,hB4⟩
 ·go_simp
  refine (dO_ b _ (by omega)).mono ?_
  rintro e W3 ⟨rfl,hB3⟩
  replace hB3:=chain hB2 hB3
  rw [hL.out]
  dsimp only
  refine hK.out _ _ trivial (fun hHeld=>?_)
  clear hK K
  try simp only [Act.put,lsA,lsB,lsC]
  refine oneL (i:=11) (by kernel_rfl) rfl (fun K hK=>?_)
  go_simp
  have V4:=Blk.new W3 #[.int .u8 (IntKind.u8.wrap (↑b.size / 16777216)),.int .u8 (IntKind.u8.wrap (↑b.size / 65536)),.int .u8 (IntKind.u8.wrap (↑b.size / 256)),.int .u8 (IntKind.u8.wrap ↑b.size)] 5
  have hB4:Below w.heap.size w (W3.alloc (.cells #[.int .u8 (IntKind.u8.wrap (↑b.size / 16777216)),.int .u8 (IntKind.u8.wrap (↑b.size / 65536)),.int .u8 (IntKind.u8.wrap (↑b.size / 256)),.int .u8 (IntKind.u8.wrap ↑b.size)] 5)):=hB3.alloc hB3.size _
  generalize W3.alloc (.cells #[.int .u8 (IntKind.u8.wrap (↑b.size / 16777216)),.int .u8 (IntKind.u8.wrap (↑b.size / 65536)),.int .u8 (IntKind.u8.wrap (↑b.size / 256)),.int .u8 (IntKind.u8.wrap ↑b.size)] 5)=W4 at *
  refine hK.out _ _ trivial (fun hHeld=>?_)
  clear hK K
  try simp only [Act.put,lsA,lsB,lsC]
  refine oneL (i:=12) (by kernel_rfl) rfl (fun K hK=>?_)
  have hcv:=conv4w V4
  rw [hH.out] at hcv
  go_simp
  refine hK.out _ _ trivial (fun hHeld=>?_)
  clear hK K
  try simp only [Act.put,lsA,lsB,lsC]
  refine tk 14 ?_
  refine tk 17 ?_
  refine tk 18 ?_
  refine wpAnyH_done (by kernel_rfl) ?_ _
  go_wp2
  go_returns
  exact ⟨by rw [hfin.out,<-hHh.out,hL.out];rfl,hB4⟩
end Go.Proofs.YtigldeccfpkdmaaGreatDoor
namespace Go.Proofs.YtigldeccfpkdmaaGreatDoor
open Go.RowKit Go.BigFrame
set_option maxHeartbeats 20000000
set_option maxRecDepth 100000
theorem SmallP.dim {p:Po} (h:SmallP p):DimP p:=by
 obtain ⟨h1,h2,h3,h4⟩:=h
 refine ⟨by have:=h1.1;omega,h1.strs,by have:=h2.1;omega,fun v hv=>?_,by have:=h3.1;omega,h3.strs,by have:=h4.1;omega,h4.strs⟩
 obtain ⟨a1,a2,a3⟩:=h2.2 v hv
 exact ⟨by omega,by omega,fun x hx=>by have:=a3 x hx;omega⟩
theorem PoolAt.cells {B:Nat} {w:World} {v:Value} {p:Po} (h:PoolAt B w v p):∃ ea en ec va vn vc ra rn rc la ln lc,v=.agg #[.int .i64 p.size,.int .i64 p.next,.slice ea en ec,.slice va vn vc,.slice ra rn rc,.slice la ln lc]:=by
 obtain ⟨ea,en,ec,va,vn,vc,ra,rn,rc,la,ln,lc,rfl,_⟩:=h
 exact ⟨_,_,_,_,_,_,_,_,_,_,_,_,rfl⟩
/-- The six cells of a block that holds a pool. -/
theorem Blk.six {w:World} {b:Nat} {c0 c1 c2 c3 c4 c5:Value} {t:TypeId} (h:Blk w b #[c0,c1,c2,c3,c4,c5] t):w.cell? ⟨b,0,none⟩=some c0∧w.cell? ⟨b,1,none⟩=some c1∧w.cell? ⟨b,2,none⟩=some c2∧w.cell? ⟨b,3,none⟩=some c3∧w.cell? ⟨b,4,none⟩=some c4∧w.cell? ⟨b,5,none⟩=some c5:=
 ⟨h.cell 0,h.cell 1,h.cell 2,h.cell 3,h.cell 4,h.cell 5⟩
end Go.Proofs.YtigldeccfpkdmaaGreatDoor
