/- Blocks of one type leave those of other types alone. A contract of the library, laid at this program. A contract of the library, laid at this program. A reader in memory: what is ahead, and what is taken. A pool that is being made: lists of rows, each in a block of its own. What the program reads is what was written, and what was written is read: plain. -/
import Derived.Test.YtigldeccfpkdmaaGreatDoorK04
import Derived.Test.YtigldeccfpkdmaaGreatDoorProg
import Derived.Shelf.Strings.Prefix
import Derived.Shelf.Strings.SplitShaped
import Derived.Test.YtigldeccfpkdmaaGreatDoorK10
import Derived.Test.YtigldeccfpkdmaaGreatDoorK08
namespace Go.Proofs.YtigldeccfpkdmaaGreatDoor
open Go.RowKit Go.BigFrame
set_option maxHeartbeats 20000000
set_option maxRecDepth 100000
theorem eW_ {α:Type} {cs:α->List Value} {sz:Nat} {w w':World} {a:Option Addr} {n:Nat} {l:List α} {row:Option Nat} (h:SlAt cs sz w a n l) (hg:w.grownBy w' row) (hr:∀ ad,a=some ad->some ad.block≠row):SlAt cs sz w' a n l:=by
 refine ⟨h.len,fun i x hx=>?_⟩
 obtain ⟨b,o,ha,hc⟩:=h.cell i x hx
 exact ⟨b,o,ha,fun j v hv=>hg.cell (hc j v hv) (hr ⟨b,o,none⟩ ha)⟩
theorem c2_ {w:World} {b:Nat} {c c':Array Value} {t t':TypeId} (h:Blk w b c t) (h':Blk w b c' t'):t=t':=by
 unfold Blk at h h'
 rw [h] at h'
 injection h' with e
 injection e
/-- The blocks that may turn are of this type. -/
def RowTy (w:World) (row:Option Nat) (t:TypeId):Prop:=∀ k,row=some k->∃ c,Blk w k c t
theorem ap_ {w:World} {b:Nat} {c:Array Value} {t:TypeId} (h:Blk w b c t):RowTy w (some b) t:=fun k e=>by cases e;exact ⟨c,h⟩
theorem ResAt.rowTy {α:Type} {cs:α->List Value} {sz:Nat} {t:TypeId} {w:World} {B n cap:Nat} {a:Option Addr} {l:List α} (h:ResAt cs sz t w B a n cap l) {m k:Nat}:RowTy w (Value.ownBlock (.slice a m k)) t:=by
 rcases h.own with ⟨rfl,_⟩ | ⟨b,rfl,_,_,_,c,hc,_⟩
 ·intro k e;simp [Value.ownBlock] at e
 ·intro k e;simp [Value.ownBlock] at e;subst e;exact ⟨c,hc⟩
theorem ResAt.off {α:Type} {cs:α->List Value} {sz:Nat} {t:TypeId} {w w':World} {B n cap:Nat} {a:Option Addr} {l:List α} {row:Option Nat} (h:ResAt cs sz t w B a n cap l) (hg:w.grownBy w' row) (hr:∀ ad,a=some ad->some ad.block≠row):ResAt cs sz t w' B a n cap l:=by
 refine ⟨eW_ h.sl hg hr,?_⟩
 rcases h.own with h0 | ⟨b,ha,hB,h1,h2,c,hc,q⟩
 ·exact .inl h0
 ·exact .inr ⟨b,ha,hB,h1,h2,c,(hg.block _ hc.lt (hr _ ha)).trans hc,q⟩
theorem ResAt.ty {α:Type} {cs:α->List Value} {sz:Nat} {t t':TypeId} {w w':World} {B n cap:Nat} {a:Option Addr} {l:List α} {row:Option Nat} (h:ResAt cs sz t w B a n cap l) (hg:w.grownBy w' row) (hr:RowTy w row t') (ht:t≠t'):ResAt cs sz t w' B a n cap l:=by
 refine h.off hg (fun ad e hc=>?_)
 obtain ⟨c',h'⟩:=hr _ hc.symm
 rcases h.own with ⟨h0,_⟩ | ⟨b,ha,_,_,_,c,hb,_⟩
 ·rw [h0] at e;cases e
 ·rw [ha] at e;cases e;exact ht (c2_ hb h')
theorem Blk.ty {w w':World} {b:Nat} {c:Array Value} {t t':TypeId} {row:Option Nat} (h:Blk w b c t) (hg:w.grownBy w' row) (hr:RowTy w row t') (ht:t≠t'):Blk w' b c t:=by
 refine (hg.block _ h.lt (fun e=>?_)).trans h
 obtain ⟨c',h'⟩:=hr _ e.symm
 exact ht (c2_ h h')
theorem Blk.offB {w w':World} {b B:Nat} {c:Array Value} {t:TypeId} {row:Option Nat} (h:Blk w b c t) (hg:w.grownBy w' row) (hr:∀ k,row=some k->B<=k) (hb:b<B):Blk w' b c t:=
 (hg.block _ h.lt (fun e=>by have:=hr b e.symm;omega)).trans h
theorem i2_ {α:Type} {cs:α->List Value} {sz:Nat} (hsz:∀ x,(cs x).length=sz) {x x':α} {v:Value} {j:Nat} (hj:j<sz) (hx':cs x'=(cs x).set j v):∀ {l:List α} {i:Nat},l[i]?=some x->(l.set i x').flatMap cs=(l.flatMap cs).set (i*sz+j) v
 |[],i,h=>by simp at h
 |y::r,0,h=>by
  obtain rfl:y=x:=by simpa using h
  rw [List.set_cons_zero,List.flatMap_cons,List.flatMap_cons,hx',Nat.zero_mul,Nat.zero_add,List.set_append_left _ _ (by rw [hsz];exact hj)]
 |y::r,i+1,h=>by
  rw [List.set_cons_succ,List.flatMap_cons,List.flatMap_cons,i2_ hsz hj hx' (by simpa using h),List.set_append_right _ _ (by rw [hsz,Nat.add_mul];omega),hsz,show (i+1)*sz+j-sz=i*sz+j by rw [Nat.add_mul];omega]
/-- One cell of such a slice is written. -/
theorem ResAt.set1 {α:Type} {cs:α->List Value} {sz:Nat} {t:TypeId} (hsz:∀ x,(cs x).length=sz) {w:World} {B b n cap i j:Nat} {l:List α} {x x':α} {v:Value} (h:ResAt cs sz t w B (some ⟨b,0,none⟩) n cap l) (hi:l[i]?=some x) (hj:j<sz) (hx':cs x'=(cs x).set j v) :
  ResAt cs sz t (w.setCell ⟨b,i*sz+j,none⟩ v) B (some ⟨b,0,none⟩) n cap (l.set i x'):=by
 have hin:=(List.getElem?_eq_some_iff.1 hi).1
 have hll:=h.sl.len
 rcases h.own with ⟨h0,_⟩ | ⟨b',ha,hB,hnc,hcm,c,hc,hs,ht⟩
 ·cases h0
 ·cases ha
  have hlen:(l.set i x').length=n:=by rw [List.length_set];exact hll
  have hrow:(w.setCell ⟨b,i*sz+j,none⟩ v).ownsRow B t sz (.slice (some ⟨b,0,none⟩) n cap) n ((l.set i x').flatMap cs):=by
   refine ⟨by rw [aT_ hsz,hlen],.inr ⟨b,cap,_,rfl,hB,hc.set (i*sz+j) v,hnc,hcm,by simp [hs],?_⟩⟩
   rw [Array.toList_setIfInBounds,List.take_set,ht,i2_ hsz hj hx' hi]
  obtain ⟨a',cap',e,R⟩:=cH_ hsz hlen hrow
  cases e
  exact R
end Go.Proofs.YtigldeccfpkdmaaGreatDoor
namespace Go.Proofs.YtigldeccfpkdmaaGreatDoor
open Go.Shelf Go.RowKit Go.Lib
set_option maxHeartbeats 20000000
set_option maxRecDepth 100000
def oq_:Go.Shelf.Ren:=⟨fun | 99=>161 | 206=>202 | n=>n,fun | 9=>9 | 4=>4 | 3=>3 | n=>n,fun | n=>n⟩
theorem hpL:Lays.n99 Tryz.prog oq_ where
 mixed:=by kernel_rfl
 f99:=Tryz.func161.trans (congrArg some (by kernel_rfl))
 f206:=Tryz.func202.trans (congrArg some (by kernel_rfl))
 t3:=Tryz.underlying3
 a3:=Tryz.isAgg3
 z3:=Tryz.sizeOf3
 v3:=Tryz.zeroValue3
 t4:=Tryz.underlying4
 a4:=Tryz.isAgg4
 z4:=Tryz.sizeOf4
 v4:=Tryz.zeroValue4
 t9:=Tryz.underlying9
 a9:=Tryz.isAgg9
 z9:=Tryz.sizeOf9
 v9:=Tryz.zeroValue9
def or_:Go.Shelf.Ren:=⟨fun | 147=>160 | 221=>159 | 268=>199 | 138=>200 | 143=>201 | 195=>231 | 197=>232 | 218=>233 | 219=>191 | 260=>258 | 217=>222 | 225=>223 | 224=>224 | 267=>225 | 266=>251 | 314=>252 | n=>n,fun | 9=>9 | 3=>3 | 31=>79 | 4=>4 | 0=>0 | 105=>288 | 21=>21 | 5=>5 | 46=>172 | 119=>326 | 139=>329 | 138=>328 | 146=>304 | 51=>98 | n=>n,fun | 1=>1 | 3=>5 | 4=>6 | n=>n⟩
theorem snL:Lays.n147 Tryz.prog or_ where
 mixed:=by kernel_rfl
 f138:=Tryz.func200.trans (congrArg some (by kernel_rfl))
 f143:=Tryz.func201.trans (congrArg some (by kernel_rfl))
 f147:=Tryz.func160.trans (congrArg some (by kernel_rfl))
 f195:=Tryz.func231.trans (congrArg some (by kernel_rfl))
 f197:=Tryz.func232.trans (congrArg some (by kernel_rfl))
 f217:=Tryz.func222.trans (congrArg some (by kernel_rfl))
 f218:=Tryz.func233.trans (congrArg some (by kernel_rfl))
 f219:=Tryz.func191.trans (congrArg some (by kernel_rfl))
 f221:=Tryz.func159.trans (congrArg some (by kernel_rfl))
 f224:=Tryz.func224.trans (congrArg some (by kernel_rfl))
 f225:=Tryz.func223.trans (congrArg some (by kernel_rfl))
 f260:=Tryz.func258.trans (congrArg some (by kernel_rfl))
 f266:=Tryz.func251.trans (congrArg some (by kernel_rfl))
 f267:=Tryz.func225.trans (congrArg some (by kernel_rfl))
 f268:=Tryz.func199.trans (congrArg some (by kernel_rfl))
 f314:=Tryz.func252.trans (congrArg some (by kernel_rfl))
 t0:=Tryz.underlying0
 a0:=Tryz.isAgg0
 z0:=Tryz.sizeOf0
 v0:=Tryz.zeroValue0
 t3:=Tryz.underlying3
 a3:=Tryz.isAgg3
 z3:=Tryz.sizeOf3
 v3:=Tryz.zeroValue3
 t4:=Tryz.underlying4
 a4:=Tryz.isAgg4
 z4:=Tryz.sizeOf4
 v4:=Tryz.zeroValue4
 t5:=Tryz.underlying5
 a5:=Tryz.isAgg5
 z5:=Tryz.sizeOf5
 v5:=Tryz.zeroValue5
 t9:=Tryz.underlying9
 a9:=Tryz.isAgg9
 z9:=Tryz.sizeOf9
 v9:=Tryz.zeroValue9
 t21:=Tryz.underlying21
 a21:=Tryz.isAgg21
 z21:=Tryz.sizeOf21
 v21:=Tryz.zeroValue21
 t31:=Tryz.underlying79
 a31:=Tryz.isAgg79
 z31:=Tryz.sizeOf79
 v31:=Tryz.zeroValue79
 t46:=Tryz.underlying172
 a46:=Tryz.isAgg172
 z46:=Tryz.sizeOf172
 v46:=Tryz.zeroValue172
 t51:=Tryz.underlying98
 a51:=Tryz.isAgg98
 z51:=Tryz.sizeOf98
 v51:=Tryz.zeroValue98
 t105:=Tryz.underlying288
 a105:=Tryz.isAgg288
 z105:=Tryz.sizeOf288
 v105:=Tryz.zeroValue288
 t119:=Tryz.underlying326
 a119:=Tryz.isAgg326
 z119:=Tryz.sizeOf326
 t138:=Tryz.underlying328
 a138:=Tryz.isAgg328
 z138:=Tryz.sizeOf328
 v138:=Tryz.zeroValue328
 t139:=Tryz.underlying329
 a139:=Tryz.isAgg329
 z139:=Tryz.sizeOf329
 v139:=Tryz.zeroValue329
 t146:=Tryz.underlying304
 a146:=Tryz.isAgg304
 z146:=Tryz.sizeOf304
 v146:=Tryz.zeroValue304
 g1:=by kernel_rfl
 g3:=by kernel_rfl
 g4:=by kernel_rfl
end Go.Proofs.YtigldeccfpkdmaaGreatDoor
namespace Go.Proofs.YtigldeccfpkdmaaGreatDoor
open Go Go.RowKit Go.BigFrame
set_option maxHeartbeats 20000000
set_option maxRecDepth 100000
abbrev tRd:TypeId:=81
def strV (l:List By):List Value:=l.map fun x=>Value.string (bA x)
/-- A reader: its lines lie in a block of texts. -/
structure RdAt (w:World) (rb:Nat) (ls:List By):Prop where
 out:∃ lb o lc c,Blk w rb #[.slice (some ⟨lb,o,none⟩) ls.length lc] tRd∧Blk w lb c 9∧(c.toList.drop o).take ls.length=strV ls∧ls.length+1<=lc∧lc<=100001∧∀ l∈ls,l.length<=60000
theorem lg_ {ls:List By} {i:Nat} {l:By} (h:ls[i]?=some l):(strV ls)[i]?=some (.string (bA l)):=by simp [strV,h]
theorem RdAt.below {w w':World} {rb:Nat} {ls:List By} (h:RdAt w rb ls) (hb:Below w.heap.size w w'):RdAt w' rb ls:=by
 obtain ⟨lb,o,lc,c,h1,h2,r⟩:=h.out
 exact ⟨lb,o,lc,c,h1.below hb,h2.below hb,r⟩
theorem RdAt.ty {w w':World} {rb:Nat} {ls:List By} {row:Option Nat} {t:TypeId} (h:RdAt w rb ls) (hg:w.grownBy w' row) (hr:RowTy w row t) (h1:tRd≠t) (h2:9≠t):RdAt w' rb ls:=by
 obtain ⟨lb,o,lc,c,e1,e2,r⟩:=h.out
 exact ⟨lb,o,lc,c,e1.ty hg hr h1,e2.ty hg hr h2,r⟩
theorem RdAt.lt {w:World} {rb:Nat} {ls:List By} (h:RdAt w rb ls):rb<w.heap.size:=by
 obtain ⟨lb,o,lc,c,h1,_⟩:=h.out
 exact h1.lt
def lnV:Option Value->Nat
 |some (.slice _ n _)=>n
 |_=>0
theorem RdAt.len {w:World} {rb:Nat} {ls:List By} (h:RdAt w rb ls):lnV (w.cell? ⟨rb,0,none⟩)=ls.length:=by
 obtain ⟨lb,o,lc,c,h1,_⟩:=h.out
 have:=h1.cell 0
 simp at this
 rw [this]
 rfl
def ahL (wd:By):List By->Bool
 |[]=>false
 |l::_=>ahP wd l
/-- A block of one's own has grown, or nothing has: what lay there is as it was. -/
theorem gstep {w a b:World} {rb:Nat} {row:Option Nat} (h:w.grownBy a (some rb)) (h':a.grownBy b row) (hr:∀ k,row=some k->w.heap.size<=k∨k=rb):w.grownBy b (some rb):=by
 obtain ⟨o1,t1,p1,s1,b1⟩:=h
 obtain ⟨o2,t2,p2,s2,b2⟩:=h'
 refine ⟨o2.trans o1,t2.trans t1,p2.trans p1,Nat.le_trans s1 s2,fun k hk hne=>?_⟩
 rw [b2 k (Nat.lt_of_lt_of_le hk s1) (fun e=>by rcases hr k e.symm with q | q;omega;exact hne (by rw [q])),b1 k hk hne]
theorem gbelow {w a b:World} {rb:Nat} (h:w.grownBy a (some rb)) (h':Below a.heap.size a b):w.grownBy b (some rb):=
 gstep (row:=none) h ⟨h'.os,h'.tape,h'.output,h'.size,fun k hk _=>h'.block k hk⟩ (fun k e=>by cases e)
theorem bu_ (rb:Nat) (ls:List By) (wd:ByteArray) (w:World) (h:RdAt w rb ls) (hwd:wd.size<=100) :
  Calls Tryz.prog 96 #[.pointer (some ⟨rb,0,none⟩),.string wd] w fun e w'=>e=.returned (.bool (ahL wd.data.toList ls))∧w'=w:=by
 obtain ⟨lb,o,lc,c,h1,h2,h3,h4,h5,h6⟩:=h.out
 have c0:=h1.cell 0
 cases ls with
 |nil=>
  simp only [List.length_nil] at c0
  go_enter Tryz.func96,Tryz.ntmps96
  go_wp2
  go_returns
  exact ⟨rfl,rfl⟩
 |cons l r=>
  have c1:w.cell? ⟨lb,o,none⟩=some (.string (bA l)):=by
   rw [h2.cell]
   have:=lg_ (ls:=l::r) (i:=0) rfl
   rw [<-h3] at this
   simpa using this
  obtain ⟨V,hV⟩:∃ V,Hid (ahL wd.data.toList (l::r)=V):=⟨_,rfl⟩
  rw [hV.out]
  have q:=Any.strings_HasPrefix hpL (bA l) (wd++⟨#[32]⟩) w
  have e:Lib.hasPrefix (bA l).data.toList (wd++⟨#[32]⟩:ByteArray).data.toList=V:=by
   rw [<-hV.out]
   simp [ahL,ahP,Lib.hasPrefix,af_]
  rw [e] at q
  clear e
  have hn:(0:Int)<((l::r).length:Nat):=by simp only [List.length_cons];omega
  generalize (l::r).length=n at *
  go_enter Tryz.func96,Tryz.ntmps96
  go_wp2_with fail
  refine q.mono ?_
  rintro e w1 ⟨rfl,rfl⟩
  go_wp2
  go_returns
  exact ⟨rfl,rfl⟩
theorem a3_ {w w':World} {row:Option Nat} (h:Below w.heap.size w w'):w.grownBy w' row:=⟨h.os,h.tape,h.output,h.size,fun k hk _=>h.block k hk⟩
/-- The words behind the first one of the next line. -/
def takP (wd:By) (k:Nat):List By->Option (List By×List By)
 |[]=>none
 |l::r=>if ahP wd l=true then (if (wdsN k l).length=k+1 then some ((wdsN k l).tail,r) else none) else none
theorem i3_:∀ (k:Nat) (l:By),(wdsN k l).length<=k+1∧(wdsN k l).length<=l.length+1
 |0,l=>by simp [wdsN]
 |k+1,l=>by
  rw [wdsN]
  cases hc:cutB 32 l with
  |none=>simp
  |some q=>
   have h1:=i3_ k q.2
   have h2:=cu_ hc
   simp only [List.length_cons]
   omega
theorem infT9:(Tryz.prog.info? 9).map (fun i=>(i.zero,i.size,i.bytes))=some (some (.string ByteArray.empty),1,16):=by kernel_rfl
theorem kr_ {ws:List ByteArray} {N i:Nat} {x:ByteArray} (h:ws[i]?=some x):(Lib.cellsOf ws N)[i]?=some (.string x):=by
 have hi:i<ws.length:=(List.getElem?_eq_some_iff.1 h).1
 unfold Lib.cellsOf
 rw [List.getElem?_toArray,List.getElem?_append_left (by simpa using hi)]
 simp [h]
theorem bX_ (rb:Nat) (ls:List By) (wd:ByteArray) (k:Nat) (w:World) (h:RdAt w rb ls) (hG:Glb w) (hrb:9<=rb) (hwd:wd.size<=100) (hk1:1<=k) (hk:k<=4) :
  Calls Tryz.prog 94 #[.pointer (some ⟨rb,0,none⟩),.string wd,.int .i64 k] w fun e w'=>(match takP wd.data.toList k ls with
   |none=>Pan e
   |some q=>∃ wb wc,e=.returned (.slice (some ⟨wb,1,none⟩) k wc)∧q.1.length=k∧(∀ i x,q.1[i]?=some x->w'.cell? ⟨wb,i+1,none⟩=some (.string (bA x))∧(bA x).size<=60000)∧k<=wc∧wc<=100001∧(∃ c,Blk w' wb c 9)∧RdAt w' rb q.2)∧w.grownBy w' (some rb):=by
 have hA:=bu_ rb ls wd w h hwd
 obtain ⟨lb,o,lc,c,h1,h2,h3,h4,h5,h6⟩:=h.out
 obtain ⟨tp,pe,hE⟩:=hG.err
 cases ha:ahL wd.data.toList ls with
 |false=>
  have ht:takP wd.data.toList k ls=none:=by
   cases ls with
   |nil=>rfl
   |cons l r=>
    change ahP _ l=_ at ha
    show (if ahP wd.data.toList l=true then _ else none)=_
    rw [ha];rfl
  rw [ht]
  rw [ha] at hA
  go_enter Tryz.func94,Tryz.ntmps94
  go_wp2_with fail
  refine hA.mono ?_
  rintro e w1 ⟨rfl,rfl⟩
  go_wp2
  exact ⟨rfl,⟨tp,pe,rfl⟩,World.grownBy.refl _ _⟩
 |true=>
  rw [ha] at hA
  cases ls with
  |nil=>cases ha
  |cons l r=>
   change ahP _ l=_ at ha
   have c0:=h1.cell 0
   have f0:=h1.frozen 0
   simp only [List.length_cons] at c0 h4 h3
   have c1:w.cell? ⟨lb,o,none⟩=some (.string (bA l)):=by
    rw [h2.cell]
    have:=lg_ (ls:=l::r) (i:=0) rfl
    rw [<-h3] at this
    simpa using this
   obtain ⟨m,hm⟩:=hG.mx
   have hls:(bA l).size<=60000:=by rw [Lib.size_eq,af_];exact h6 l (by simp)
   have q:=Any.strings_SplitN snL infT9 (bA l) ⟨#[32]⟩ (k+1) m w (by omega) hm (by decide) (by omega) (by omega)
   have hw:Lib.splitB ⟨#[32]⟩ 0 (min (k+1) ((bA l).size+1)-1) (bA l)=(wdsN k l).map bA:=by
    rw [show min (k+1) ((bA l).size+1)-1=min k (bA l).size by omega,hT_,af_]
   rw [hw] at q
   obtain ⟨ws,hws⟩:∃ ws,Hid (wdsN k l=ws):=⟨_,rfl⟩
   rw [hws.out] at q
   obtain ⟨cp,hcp⟩:∃ cp,Hid (min (k+1) ((bA l).size+1)=cp):=⟨_,rfl⟩
   rw [hcp.out,List.length_map,show ((k+1:Nat):Int)=1+(k:Int) by omega] at q
   have hcp1:cp<=60001:=by rw [<-hcp.out];omega
   have hsz:Hid (∀ x∈ws,(bA x).size<=60000):=fun x hx=>by
    rw [<-hws.out] at hx
    have h1:=bW_ x hx
    rw [Lib.size_eq,af_]
    have h2:(bA l).size=l.length:=by rw [Lib.size_eq,af_]
    omega
   have hwl:ws.length<=cp:=by
    have h1:=i3_ k l
    have h2:(bA l).size=l.length:=by rw [Lib.size_eq,af_]
    rw [hws.out] at h1
    rw [<-hcp.out]
    omega
   have ht:Hid (takP wd.data.toList k (l::r)=if ws.length=k+1 then some (ws.tail,r) else none):=by
    show (if ahP wd.data.toList l=true then _ else none)=_
    rw [if_pos ha,hws.out]
   obtain ⟨lc',rfl⟩:∃ x,lc=x+1:=⟨lc-1,by omega⟩
   by_cases hn:ws.length=k+1
   ·rw [ht.out,if_pos hn]
    rw [hn] at q
    have hcl:k+1<=cp:=by omega
    clear ht hws hcp
    go_enter Tryz.func94,Tryz.ntmps94
    go_wp2_with fail
    refine hA.mono ?_
    rintro e w1 ⟨rfl,hw1⟩
    obtain rfl:w=w1:=hw1.symm
    go_wp2_with fail
    refine q.mono ?_
    rintro e w1 ⟨rfl,hw1⟩
    have hB1:Below w.heap.size w w1:=by rw [hw1];go_grown
    have WB:Blk w1 w.heap.size (Lib.cellsOf (ws.map bA) cp) 9:=by rw [hw1];exact Blk.new _ _ _
    clear hw1 q hA hw
    replace c0:=bcell hB1 c0
    have f1:w1.frozen? ⟨rb,0,none⟩=false:=(h1.below hB1).frozen 0
    replace hE:=bcell hB1 hE
    obtain ⟨cp',rfl⟩:∃ x,cp=x+1:=⟨cp-1,by omega⟩
    have hl0:¬ lc'=0:=by omega
    have hc0:¬ cp'=0:=by omega
    have hk2:((k:Int)+1==1+(k:Int))=true:=by rw [beq_iff_eq];omega
    go_wp2
    have hg:w.grownBy (w1.setCell ⟨rb,0,none⟩ (.slice (some ⟨lb,o+1,none⟩) r.length lc')) (some rb):=gstep (a3_ hB1) (ac_ (World.grownBy.refl _ _) _ _) (fun j e=>by cases e;exact .inr rfl)
    have hne:w.heap.size≠rb:=by have:=h1.lt;omega
    have hlb:lb≠rb:=fun e=>by
     subst e
     have:=h1.symm.trans h2
     simp at this
     exact absurd this.2 (by decide)
    have RB:Blk (w1.setCell ⟨rb,0,none⟩ (.slice (some ⟨lb,o+1,none⟩) r.length lc')) rb #[.slice (some ⟨lb,o+1,none⟩) r.length lc'] tRd:=by simpa using (h1.below hB1).set 0 (.slice (some ⟨lb,o+1,none⟩) r.length lc')
    have LB:=h2.grown hg (by simpa using hlb)
    have WB2:=WB.grown (ac_ (World.grownBy.refl _ _) _ _:w1.grownBy (w1.setCell ⟨rb,0,none⟩ (.slice (some ⟨lb,o+1,none⟩) r.length lc')) (some rb)) (by simpa using hne)
    generalize w1.setCell ⟨rb,0,none⟩ (.slice (some ⟨lb,o+1,none⟩) r.length lc')=W2 at *
    go_returns
    refine ⟨⟨w.heap.size,cp',rfl,by simp [hn],fun i x hx=>⟨?_,?_⟩,by omega,by omega,⟨_,WB2⟩,⟨lb,o+1,lc',c,RB,LB,?_,by omega,by omega,fun y hy=>h6 y (by simp [hy])⟩⟩,hg⟩
    ·rw [WB2.cell]
     refine kr_ ?_
     simp at hx
     simp [hx]
    ·exact hsz.out x (List.mem_of_mem_tail (List.mem_of_getElem? hx))
    ·have h7:=congrArg List.tail h3
     simp only [strV,List.map_cons,List.tail_cons] at h7
     rw [strV,<-h7]
     cases hd:List.drop o c.toList with
     |nil=>rw [hd] at h3;simp [strV] at h3
     |cons y z=>rw [<-List.drop_drop,hd];simp
   ·rw [ht.out,if_neg hn]
    have hn2:((ws.length:Int)==1+(k:Int))=false:=by rw [beq_eq_false_iff_ne];omega
    go_enter Tryz.func94,Tryz.ntmps94
    go_wp2_with fail
    refine hA.mono ?_
    rintro e w1 ⟨rfl,hw1⟩
    obtain rfl:w=w1:=hw1.symm
    go_wp2_with fail
    refine q.mono ?_
    rintro e w1 ⟨rfl,hw1⟩
    have hB1:Below w.heap.size w w1:=by rw [hw1];go_grown
    have WB:Blk w1 w.heap.size (Lib.cellsOf (ws.map bA) cp) 9:=by rw [hw1];exact Blk.new _ _ _
    clear hw1 q hA hw
    replace c0:=bcell hB1 c0
    have f1:w1.frozen? ⟨rb,0,none⟩=false:=(h1.below hB1).frozen 0
    replace hE:=bcell hB1 hE
    go_wp2
    exact ⟨rfl,⟨tp,pe,rfl⟩,a3_ hB1⟩
/-- An item's row, a volume's row with the rows of its items. -/
structure IR where
 nm:ByteArray
 a:Option Addr
 n:Nat
 c:Nat
structure VR where
 id:Int
 nm:ByteArray
 fx:Bool
 a:Option Addr
 n:Nat
 c:Nat
 irs:List IR
def IR.cs (x:IR):List Value:=[.string x.nm,.slice x.a x.n x.c]
def VR.cs (x:VR):List Value:=[.int .i64 x.id,.string x.nm,.bool x.fx,.slice x.a x.n x.c]
/-- Two lists, row by row. -/
inductive Al2 {α β:Type} (R:α->β->Prop):List α->List β->Prop
 |nil:Al2 R [] []
 |cons {x:α} {y:β} {l:List α} {m:List β}:R x y->Al2 R l m->Al2 R (x::l) (y::m)
theorem Al2.len {α β:Type} {R:α->β->Prop} {l:List α} {m:List β} (h:Al2 R l m):l.length=m.length:=by
 induction h with
 |nil=>rfl
 |cons _ _ ih=>simp [ih]
theorem Al2.imp {α β:Type} {R S:α->β->Prop} {l:List α} {m:List β} (h:Al2 R l m) (hS:∀ x∈l,∀ y,R x y->S x y):Al2 S l m:=by
 induction h with
 |nil=>exact .nil
 |cons hr _ ih=>exact .cons (hS _ (by simp) _ hr) (ih fun x hx=>hS x (by simp [hx]))
theorem Al2.snoc {α β:Type} {R:α->β->Prop} {l:List α} {m:List β} {x:α} {y:β} (h:Al2 R l m) (hr:R x y):Al2 R (l++[x]) (m++[y]):=by
 induction h with
 |nil=>exact .cons hr .nil
 |cons h1 _ ih=>exact .cons h1 ih
theorem Al2.at {α β:Type} {R:α->β->Prop} {l:List α} {m:List β} (h:Al2 R l m):∀ {i:Nat} {y:β},m[i]?=some y->∃ x,l[i]?=some x∧R x y:=by
 induction h with
 |nil=>intro i y hy;simp at hy
 |cons hr _ ih=>
  intro i y hy
  cases i with
  |zero=>obtain rfl:=Option.some.inj hy;exact ⟨_,rfl,hr⟩
  |succ i=>exact ih hy
abbrev tI:TypeId:=139
abbrev tV:TypeId:=128
abbrev tP:TypeId:=141
abbrev tE:TypeId:=136
abbrev tC:TypeId:=134
structure ItR (w:World) (B:Nat) (r:IR) (x:It):Prop where
 nm:r.nm=x.nm
 ps:ResAt Pt.cs 3 tP w B r.a r.n r.c x.ps
structure VoR (w:World) (B:Nat) (r:VR) (v:Vo):Prop where
 id:r.id=v.id
 nm:r.nm=v.nm
 fx:r.fx=v.fx
 rows:ResAt IR.cs 2 tI w B r.a r.n r.c r.irs
 its:Al2 (ItR w B) r.irs v.its
def blkO (a:Option Addr):Option Nat:=a.map (·.block)
def vblk (l:List VR):List Nat:=l.filterMap fun r=>blkO r.a
def pblk (l:List VR):List Nat:=l.flatMap fun r=>r.irs.filterMap fun x=>blkO x.a
/-- A pool that the call itself is making: all its lists lie in blocks of their own, from B on. -/
structure PoolM (B:Nat) (w:World) (v:Value) (p:Po):Prop where
 out:∃ ea en ec va vn vc ra rn rc la ln lc vr,v=.agg #[.int .i64 p.size,.int .i64 p.next,.slice ea en ec,.slice va vn vc,.slice ra rn rc,.slice la ln lc]∧
  ResAt Ex.cs 2 tE w B ea en ec p.ex∧ResAt VR.cs 4 tV w B va vn vc vr∧ResAt Ct.cs 4 tC w B ra rn rc p.rf∧ResAt Ct.cs 4 tC w B la ln lc p.lt∧
  (∀ x y,ra=some x->la=some y->x.block≠y.block)∧Al2 (VoR w B) vr p.vs∧(vblk vr).Nodup∧(pblk vr).Nodup
theorem ItR.below {w w':World} {B:Nat} {r:IR} {x:It} (h:ItR w B r x) (hb:Below w.heap.size w w'):ItR w' B r x:=⟨h.nm,h.ps.below hb⟩
theorem VoR.below {w w':World} {B:Nat} {r:VR} {v:Vo} (h:VoR w B r v) (hb:Below w.heap.size w w'):VoR w' B r v:=⟨h.id,h.nm,h.fx,h.rows.below hb,h.its.imp fun _ _ _ h=>h.below hb⟩
theorem PoolM.below {B:Nat} {w w':World} {v:Value} {p:Po} (h:PoolM B w v p) (hb:Below w.heap.size w w'):PoolM B w' v p:=by
 obtain ⟨ea,en,ec,va,vn,vc,ra,rn,rc,la,ln,lc,vr,e,h1,h2,h3,h4,h5,h6,h7,h8⟩:=h.out
 exact ⟨ea,en,ec,va,vn,vc,ra,rn,rc,la,ln,lc,vr,e,h1.below hb,h2.below hb,h3.below hb,h4.below hb,h5,h6.imp fun _ _ _ h=>h.below hb,h7,h8⟩
theorem ItR.ty {w w':World} {B:Nat} {row:Option Nat} {t:TypeId} {r:IR} {x:It} (h:ItR w B r x) (hg:w.grownBy w' row) (hr:RowTy w row t) (ht:tP≠t):ItR w' B r x:=⟨h.nm,h.ps.ty hg hr ht⟩
theorem VoR.ty {w w':World} {B:Nat} {row:Option Nat} {t:TypeId} {r:VR} {v:Vo} (h:VoR w B r v) (hg:w.grownBy w' row) (hr:RowTy w row t) (h1:tI≠t) (h2:tP≠t):VoR w' B r v:=⟨h.id,h.nm,h.fx,h.rows.ty hg hr h1,h.its.imp fun _ _ _ h=>h.ty hg hr h2⟩
theorem emptyM (B:Nat) (w:World):PoolM B w (.agg #[.int .i64 0,.int .i64 0,.slice none 0 0,.slice none 0 0,.slice none 0 0,.slice none 0 0]) ⟨0,0,[],[],[],[]⟩:=
 ⟨none,0,0,none,0,0,none,0,0,none,0,0,[],rfl,aL_,aL_,aL_,aL_,fun x y h=>(by cases h),.nil,List.nodup_nil,List.nodup_nil⟩
theorem nf_:∀ (l:List IR),∀ u∈l.flatMap IR.cs,u.oneCell'=true:=by
 intro l u hu
 obtain ⟨x,_,hx⟩:=List.mem_flatMap.1 hu
 simp [IR.cs] at hx
 rcases hx with rfl | rfl<;>rfl
theorem ng_:∀ (l:List VR),∀ u∈l.flatMap VR.cs,u.oneCell'=true:=by
 intro l u hu
 obtain ⟨x,_,hx⟩:=List.mem_flatMap.1 hu
 simp [VR.cs] at hx
 rcases hx with rfl | rfl | rfl | rfl<;>rfl
end Go.Proofs.YtigldeccfpkdmaaGreatDoor
namespace Go.Proofs.YtigldeccfpkdmaaGreatDoor
open Go
set_option maxHeartbeats 20000000
set_option maxRecDepth 100000
theorem lh_ {n:Int} {c:UInt8} (h1:c≠45) (h2:c.toNat<48):c∉Lib.itoa n:=by
 have hd:∀ k:Nat,c∉Lib.decDigits k:=fun k=>by
  induction k using Nat.strongRecOn with
  |_ k ih=>
   rw [Lib.decDigits]
   have h3:∀ d:Nat,d<10->c≠UInt8.ofNat (48+d):=fun d hd e=>by
    have:=congrArg UInt8.toNat e
    simp at this
    omega
   split
   ·next h=>simpa using h3 k h
   ·next h=>
    intro hm
    rcases List.mem_append.1 hm with e | e
    ·exact ih (k / 10) (by omega) e
    ·exact h3 (k % 10) (by omega) (by simpa using e)
 unfold Lib.itoa
 split
 ·intro hm
  rcases List.mem_cons.1 hm with e | e
  ·exact h1 e
  ·exact hd _ e
 ·exact hd _
theorem aV_ (n:Int):(32:UInt8)∉Lib.itoa n:=lh_ (by decide) (by decide)
theorem dZ_ (n:Int):(10:UInt8)∉Lib.itoa n:=lh_ (by decide) (by decide)
/-- Names without blanks, numbers of ten digits at most, no line's end in any text. -/
structure NiceP (p:Po):Prop where
 hd:Ten p.size∧Ten p.next
 ex:∀ e∈p.ex,Ten e.a∧(10:UInt8)∉e.d.data.toList
 vs:∀ v∈p.vs,Ten v.id∧((32:UInt8)∉v.nm.data.toList∧(10:UInt8)∉v.nm.data.toList)∧∀ x∈v.its,((32:UInt8)∉x.nm.data.toList∧(10:UInt8)∉x.nm.data.toList)∧∀ t∈x.ps,Ten t.a∧Ten t.f∧Ten t.n
 ct:∀ c∈p.rf++p.lt,(Ten c.o.a∧Ten c.o.v∧Ten c.n)∧(32:UInt8)∉c.o.f.data.toList∧(10:UInt8)∉c.o.f.data.toList
theorem wds2 {a b c:By} (ha:(32:UInt8)∉a) (hb:(32:UInt8)∉b):wdsN 2 (joW [a,b,c])=[a,b,c]:=fz_ [a,b] c (by simp [ha,hb])
theorem wds1 {a b:By} (ha:(32:UInt8)∉a):wdsN 1 (joW [a,b])=[a,b]:=fz_ [a] b (by simp [ha])
theorem wds3 {a b c d:By} (ha:(32:UInt8)∉a) (hb:(32:UInt8)∉b) (hc:(32:UInt8)∉c):wdsN 3 (joW [a,b,c,d])=[a,b,c,d]:=fz_ [a,b,c] d (by simp [ha,hb,hc])
theorem wds4 {a b c d e:By} (ha:(32:UInt8)∉a) (hb:(32:UInt8)∉b) (hc:(32:UInt8)∉c) (hd:(32:UInt8)∉d):wdsN 4 (joW [a,b,c,d,e])=[a,b,c,d,e]:=fz_ [a,b,c,d] e (by simp [ha,hb,hc,hd])
theorem o6_ {e:Ex} (h:Ten e.a):exP (exLn e)=some e:=by
 unfold exP exLn
 rw [wds2 (by decide) (aV_ _)]
 simp [aF_ h,bB_]
theorem o7_ {p:Pt} (h:Ten p.a∧Ten p.f∧Ten p.n):ptP (ptLn p)=some p:=by
 unfold ptP ptLn
 rw [wds3 (by decide) (aV_ _) (aV_ _)]
 simp [aF_ h.1,aF_ h.2.1,aF_ h.2.2]
theorem nh_ (b:ByteArray):fileP (joW [fileK,b.data.toList])=some b:=by
 unfold fileP
 rw [wds1 (by decide)]
 simp [bB_]
theorem ni_ (b:Bool):flagP (flagL b)=some b:=by cases b<;>rfl
theorem o8_ {v:Vo} (h:Ten v.id) (h2:(32:UInt8)∉v.nm.data.toList):voP (joW [volK,Lib.itoa v.id,v.nm.data.toList,flagL v.fx])=some (v.id,v.nm,v.fx):=by
 unfold voP
 rw [wds3 (by decide) (aV_ _) h2]
 simp [aF_ h,bB_,ni_]
theorem nj_ {wd:By} {c:Ct} (hw:(32:UInt8)∉wd) (h:Ten c.o.a∧Ten c.o.v∧Ten c.n) (h2:(32:UInt8)∉c.o.f.data.toList):ctP (ctLn wd c)=some c:=by
 unfold ctP ctLn
 rw [wds4 hw (aV_ _) (aV_ _) h2]
 simp [aF_ h.1,aF_ h.2.1,aF_ h.2.2,bB_]
theorem o9_ {a b:Int} (h:Ten a∧Ten b):hdP (joW [poolK,Lib.itoa a,Lib.itoa b])=some (a,b):=by
 unfold hdP
 rw [wds2 (by decide) (aV_ _)]
 simp [aF_ h.1,aF_ h.2]
/-- The first word of a line, by its first byte. -/
def NoAh (wd:By) (ls:List By):Prop:=∀ l r,ls=l::r->ahP wd l=false
theorem i4_ (wd:By):NoAh wd []:=fun l r h=>by cases h
theorem d0_ {wd l:By} {r:List By} (hw:wd≠[]) (h:l.head?≠wd.head?):NoAh wd (l::r):=fun l' r' e=>by
 obtain ⟨rfl,rfl⟩:=List.cons.inj e
 cases hc:ahP wd l with
 |false=>rfl
 |true=>exact absurd (m1_ hc hw) h
theorem d1_ {α:Type} {wd:By} {f:By->Option α} {g:α->By}:∀ {xs:List α} {r:List By},(∀ x∈xs,ahP wd (g x)=true∧f (g x)=some x)->NoAh wd r->manyP wd f (xs.map g++r)=some (xs,r)
 |[],[],_,_=>rfl
 |[],l::r,_,h=>by
  show manyP wd f (l::r)=_
  rw [manyP,h l r rfl];rfl
 |x::xs,r,h,hr=>by
  obtain ⟨h1,h2⟩:=h x (by simp)
  show manyP wd f (g x::(xs.map g++r))=_
  rw [manyP,if_pos h1,h2,Option.bind_some,d1_ (fun y hy=>h y (by simp [hy])) hr]
  rfl
theorem d2_ {α:Type} {wd:By} {f:By->Option α} {g:α->By} (hg:∀ l x,ahP wd l=true->f l=some x->l=g x):∀ {ls:List By} {xs:List α} {r:List By},manyP wd f ls=some (xs,r)->ls=xs.map g++r∧r.length<=ls.length
 |[],xs,r,h=>by obtain ⟨rfl,rfl⟩:=Prod.mk.inj (Option.some.inj h);exact ⟨rfl,Nat.le_refl _⟩
 |l::ls,xs,r,h=>by
  unfold manyP at h
  split at h
  ·next ha=>
   cases hf:f l with
   |none=>rw [hf] at h;cases h
   |some x=>
    rw [hf,Option.bind_some] at h
    cases hm:manyP wd f ls with
    |none=>rw [hm] at h;cases h
    |some q=>
     rw [hm] at h
     obtain ⟨rfl,rfl⟩:=Prod.mk.inj (Option.some.inj h)
     obtain ⟨h1,h2⟩:=d2_ hg (xs:=q.1) (r:=q.2) hm
     refine ⟨?_,by simp;omega⟩
     rw [List.map_cons,List.cons_append,<-h1,<-hg l x ha hf]
  ·obtain ⟨rfl,rfl⟩:=Prod.mk.inj (Option.some.inj h);exact ⟨rfl,Nat.le_refl _⟩
theorem i5_ (w x:By) (l:List By) (hw:w≠[]):(joW (w::x::l)).head?=w.head?:=by
 cases w with
 |nil=>exact absurd rfl hw
 |cons a t=>rfl
theorem i6_:∀ {xs:List It} {r:List By} {k:Nat},(∀ x∈xs,∀ t∈x.ps,Ten t.a∧Ten t.f∧Ten t.n)->NoAh fileK r->NoAh partK r->(xs.flatMap itLn++r).length<=k->itemsP k (xs.flatMap itLn++r)=some (xs,r)
 |[],[],0,_,_,_,_=>rfl
 |[],[],k+1,_,_,_,_=>rfl
 |[],l::r,0,_,_,_,h=>by simp at h
 |[],l::r,k+1,_,h,_,_=>by
  show itemsP (k+1) (l::r)=_
  rw [itemsP,h l r rfl];rfl
 |x::xs,r,0,_,_,_,h=>by simp [itLn] at h
 |x::xs,r,k+1,h,h1,h2,hk=>by
  have e:(x::xs).flatMap itLn++r=joW [fileK,x.nm.data.toList]::(x.ps.map ptLn++(xs.flatMap itLn++r)):=by simp [itLn]
  rw [e] at hk ⊢
  have hn:NoAh partK (xs.flatMap itLn++r):=by
   cases xs with
   |nil=>exact h2
   |cons y ys=>exact d0_ (by decide) (by rw [i5_ _ _ _ (by decide)];decide)
  rw [itemsP,if_pos (dI_ _ _ _),nh_,Option.bind_some,d1_ (g:=ptLn) (fun t ht=>⟨dI_ _ _ _,o7_ (h x (by simp) t ht)⟩) hn,Option.bind_some]
  simp only
  rw [i6_ (fun y hy=>h y (by simp [hy])) h1 h2 (by simp at hk ⊢;omega)]
  rfl
theorem li_:∀ {vs:List Vo} {r:List By} {k:Nat},(∀ v∈vs,Ten v.id∧((32:UInt8)∉v.nm.data.toList)∧∀ x∈v.its,∀ t∈x.ps,Ten t.a∧Ten t.f∧Ten t.n)->NoAh volK r->NoAh fileK r->NoAh partK r->(vs.flatMap voLn++r).length<=k->volsP k (vs.flatMap voLn++r)=some (vs,r)
 |[],[],0,_,_,_,_,_=>rfl
 |[],[],k+1,_,_,_,_,_=>rfl
 |[],l::r,0,_,_,_,_,h=>by simp at h
 |[],l::r,k+1,_,h,_,_,_=>by
  show volsP (k+1) (l::r)=_
  rw [volsP,h l r rfl];rfl
 |v::vs,r,0,_,_,_,_,h=>by simp [voLn] at h
 |v::vs,r,k+1,h,h1,h2,h3,hk=>by
  have e:(v::vs).flatMap voLn++r=joW [volK,Lib.itoa v.id,v.nm.data.toList,flagL v.fx]::(v.its.flatMap itLn++(vs.flatMap voLn++r)):=by simp [voLn]
  rw [e] at hk ⊢
  obtain ⟨n1,n2,n3⟩:=h v (by simp)
  have hn:NoAh fileK (vs.flatMap voLn++r)∧NoAh partK (vs.flatMap voLn++r):=by
   cases vs with
   |nil=>exact ⟨h2,h3⟩
   |cons y ys=>exact ⟨d0_ (by decide) (by rw [i5_ _ _ _ (by decide)];decide),d0_ (by decide) (by rw [i5_ _ _ _ (by decide)];decide)⟩
  rw [volsP,if_pos (dI_ _ _ _),o8_ n1 n2,Option.bind_some,i6_ n3 hn.1 hn.2 (Nat.le_refl _),Option.bind_some]
  simp only
  rw [li_ (fun y hy=>h y (by simp [hy])) h1 h2 h3 (by simp at hk ⊢;omega)]
  rfl
theorem lj_ {wd w2:By} {l:List Ct} {r:List By} (hw:wd≠[]) (h2:w2≠[]) (h:w2.head?≠wd.head?) (hr:NoAh wd r):NoAh wd (l.map (ctLn w2)++r):=by
 cases l with
 |nil=>exact hr
 |cons c l=>exact d0_ hw (by rw [ctLn,i5_ _ _ _ h2];exact h)
theorem os_ {p:Po} (h:NiceP p):poolP (poLn p)=some (p,[]):=by
 obtain ⟨ph,pe,pv,pc⟩:=h
 have a1:∀ wd:By,wd≠[]->wd.head?≠some 108->NoAh wd (p.lt.map (ctLn lateK)):=fun wd hw hh=>by
  have:=lj_ (l:=p.lt) (r:=[]) hw (show lateK≠[] by decide) (fun e=>hh e.symm) (i4_ _)
  simpa using this
 have a2:∀ wd:By,wd≠[]->wd.head?≠some 108->wd.head?≠some 114->NoAh wd (p.rf.map (ctLn refK)++p.lt.map (ctLn lateK)):=fun wd hw hh hg=>lj_ hw (show refK≠[] by decide) (fun e=>hg e.symm) (a1 wd hw hh)
 have e:poLn p=joW [poolK,Lib.itoa p.size,Lib.itoa p.next]::(p.ex.map exLn++(p.vs.flatMap voLn++(p.rf.map (ctLn refK)++(p.lt.map (ctLn lateK)++[])))):=by simp [poLn]
 have a3:NoAh exK (p.vs.flatMap voLn++(p.rf.map (ctLn refK)++(p.lt.map (ctLn lateK)++[]))):=by
  cases p.vs with
  |nil=>simpa using a2 exK (by decide) (by decide) (by decide)
  |cons v vs=>exact d0_ (by decide) (by rw [i5_ _ _ _ (by decide)];decide)
 have b1:=a2 volK (by decide) (by decide) (by decide)
 have b2:=a2 fileK (by decide) (by decide) (by decide)
 have b3:=a2 partK (by decide) (by decide) (by decide)
 have b4:=a1 refK (by decide) (by decide)
 rw [<-List.append_nil (p.lt.map (ctLn lateK))] at b1 b2 b3 b4
 rw [e,poolP,if_pos (dI_ _ _ _),o9_ ph,Option.bind_some,
  d1_ (g:=exLn) (fun x hx=>⟨dI_ _ _ _,o6_ (pe x hx).1⟩) a3,Option.bind_some]
 simp only
 rw [li_ (fun v hv=>⟨(pv v hv).1,(pv v hv).2.1.1,fun x hx=>((pv v hv).2.2 x hx).2⟩) b1 b2 b3 (Nat.le_refl _),Option.bind_some]
 simp only
 rw [d1_ (g:=ctLn refK) (fun c hc=>⟨dI_ _ _ _,nj_ (by decide) (pc c (by simp [hc])).1 (pc c (by simp [hc])).2.1⟩) b4,Option.bind_some]
 simp only
 rw [d1_ (g:=ctLn lateK) (fun c hc=>⟨dI_ _ _ _,nj_ (by decide) (pc c (by simp [hc])).1 (pc c (by simp [hc])).2.1⟩) (i4_ _)]
 rfl
end Go.Proofs.YtigldeccfpkdmaaGreatDoor
