/- Plain functions over lists, and what it says that a slice in memory holds a list: the ground of this seat's proofs. How the laws' arguments, as they are read, lie in memory: lists of parts and of extents. What the program's own head says: read word by word, so that the kernel need not hold it all. The closed facts that a row asks of the program, with those of the program's head apart. Blocks of the call's own: what they hold, and that a store into one leaves the others. The parts: partOk, goesOn, PartsOk of the program: each returns what the plain function gives, and turns nothing that was there. Plain facts on the functions over lists of parts. The parts, as the model has them, and the laws' own helpers for parts. The laws' marks of texts. Numbers in decimal, as texts (the model's). -/
import Derived.WalkKit
import Derived.ProofKit
import Derived.OpenShut
import Derived.Handy
import Derived.Deep.Light
import Derived.Deep.RegionHeld3
import Derived.Deep.QuietTactic
import Derived.BigQuiet
import Derived.WalkSmall
import Derived.Test.YtigldeccfpkdmaaGreatDoorProg
import Derived.Deep.Strs
import Derived.Deep.Slices
import Derived.SizedLaws
import Derived.Test.YtigldeccfpkdmaaGreatDoorRows
import Derived.JoinedOf
import Derived.Laws.BytesArg
import Derived.Lib.ItoaNum
namespace Go.Proofs.YtigldeccfpkdmaaGreatDoor
open Go.RowKit
set_option maxHeartbeats 20000000
set_option maxRecDepth 100000
theorem lsA {α:Type _} {a:List α} {i:Nat} {x:α}:a.toArray.setIfInBounds i x=(a.set i x).toArray:=List.setIfInBounds_toArray ..
theorem lsB {α:Type _} {a b:α} {l:List α}:(a::l).set 0 b=b::l:=List.set_cons_zero ..
theorem lsC {α:Type _} {a b:α} {l:List α} {i:Nat}:(a::l).set (i+1) b=a::l.set i b:=List.set_cons_succ ..
theorem lgA {α:Type _} {a:List α} {i:Nat}:a.toArray[i]?=a[i]?:=List.getElem?_toArray ..
theorem lgB {α:Type _} {a:α} {l:List α}:(a::l)[0]?=some a:=List.getElem?_cons_zero ..
theorem lgC {α:Type _} {a:α} {l:List α} {i:Nat}:(a::l)[i+1]?=l[i]?:=List.getElem?_cons_succ ..
/-- A part: Addr, From, Len. -/
structure Pt where
 a:Int
 f:Int
 n:Int
/-- The cells of a part. -/
def Pt.cs (p:Pt):List Value:=[.int .i64 p.a,.int .i64 p.f,.int .i64 p.n]
/-- An extent: Addr, Data. -/
structure Ex where
 a:Int
 d:ByteArray
/-- The cells of an extent. -/
def Ex.cs (p:Ex):List Value:=[.int .i64 p.a,.string p.d]
/-- The slice at address a, of n elements of sz cells each, holds the list l. -/
structure SlAt {α:Type} (cs:α->List Value) (sz:Nat) (w:World) (a:Option Addr) (n:Nat) (l:List α):Prop where
 len:l.length=n
 cell:∀ i x,l[i]?=some x->∃ b o,a=some ⟨b,o,none⟩∧∀ j v,(cs x)[j]?=some v->w.cell? ⟨b,o+i*sz+j,none⟩=some v
abbrev PtsAt:=SlAt Pt.cs 3
abbrev ExsAt:=SlAt Ex.cs 2
theorem bcell {W w1:World} (hb:Below W.heap.size W w1) {b o:Nat} {v:Value} (h:W.cell? ⟨b,o,none⟩=some v):w1.cell? ⟨b,o,none⟩=some v:=by
 rw [hb.cell (p:=⟨b,o,none⟩) (World.block_lt_of_cell? W _ h)];exact h
theorem acell {w:World} {b o:Nat} {v:Value} (x:Obj) (h:w.cell? ⟨b,o,none⟩=some v):(w.alloc x).cell? ⟨b,o,none⟩=some v:=by
 rw [World.cell?_alloc_lt _ _ _ (World.block_lt_of_cell? w _ h)];exact h
theorem SlAt.below {α:Type} {cs:α->List Value} {sz:Nat} {w w':World} {a:Option Addr} {n:Nat} {l:List α} (h:SlAt cs sz w a n l) (hb:Below w.heap.size w w'):SlAt cs sz w' a n l:=
 ⟨h.len,fun i x hx=>by
  obtain ⟨b,o,ha,hc⟩:=h.cell i x hx
  exact ⟨b,o,ha,fun j v hv=>bcell hb (hc j v hv)⟩⟩
theorem SlAt.alloc {α:Type} {cs:α->List Value} {sz:Nat} {w:World} {a:Option Addr} {n:Nat} {l:List α} (h:SlAt cs sz w a n l) (x:Obj):SlAt cs sz (w.alloc x) a n l:=
 h.below ((Below.refl _ _).alloc (Nat.le_refl _) _)
theorem SlAt.drew {α:Type} {cs:α->List Value} {sz:Nat} {w:World} {a:Option Addr} {n:Nat} {l:List α} (h:SlAt cs sz w a n l):SlAt cs sz w.drew a n l:=
 h.below ((Below.refl _ _).drew)
/-- A part of such a slice, by its index. -/
theorem bc_ {w:World} {a:Option Addr} {n:Nat} {l:List Pt} (h:PtsAt w a n l) {k:Nat} (hk:k<n) :
  ∃ b o p,a=some ⟨b,o,none⟩∧l[k]?=some p∧w.cell? ⟨b,o+k*3,none⟩=some (.int .i64 p.a)∧w.cell? ⟨b,o+k*3+1,none⟩=some (.int .i64 p.f)∧w.cell? ⟨b,o+k*3+2,none⟩=some (.int .i64 p.n):=by
 have hl:k<l.length:=by rw [h.len];exact hk
 have hx:l[k]?=some l[k]:=by simp [hl]
 obtain ⟨b,o,ha,hc⟩:=h.cell k _ hx
 exact ⟨b,o,l[k],ha,hx,hc 0 _ rfl,hc 1 _ rfl,hc 2 _ rfl⟩
theorem bp_ {w:World} {a:Option Addr} {n:Nat} {l:List Ex} (h:ExsAt w a n l) {k:Nat} (hk:k<n) :
  ∃ b o p,a=some ⟨b,o,none⟩∧l[k]?=some p∧w.cell? ⟨b,o+k*2,none⟩=some (.int .i64 p.a)∧w.cell? ⟨b,o+k*2+1,none⟩=some (.string p.d):=by
 have hl:k<l.length:=by rw [h.len];exact hk
 have hx:l[k]?=some l[k]:=by simp [hl]
 obtain ⟨b,o,ha,hc⟩:=h.cell k _ hx
 exact ⟨b,o,l[k],ha,hx,hc 0 _ rfl,hc 1 _ rfl⟩
/-- Behind a call that was made with a new box of three, two, one cells: the box, and what was there. -/
theorem box3 {w w1:World} {x y z:Value} {t:TypeId} (hb:Below (w.alloc (.cells #[x,y,z] t)).heap.size (w.alloc (.cells #[x,y,z] t)) w1) :
  w1.cell? ⟨w.heap.size,0,none⟩=some x∧w1.cell? ⟨w.heap.size,1,none⟩=some y∧w1.cell? ⟨w.heap.size,2,none⟩=some z∧Below w.heap.size w w1∧w.heap.size<w1.heap.size:=
 ⟨bcell hb (World.cell?_alloc_new _ _ _ 0),bcell hb (World.cell?_alloc_new _ _ _ 1),bcell hb (World.cell?_alloc_new _ _ _ 2),
  ((Below.refl _ _).alloc (Nat.le_refl _) _).trans (hb.mono (by simp)),by have:=hb.size;simp at this;omega⟩
theorem drewNB (w:World) (n:Nat):Below w.heap.size w (w.drewN n):=below_drewN (Below.refl _ _) n
theorem undrew {w w1:World} (h:Below w.drew.heap.size w.drew w1):Below w.heap.size w w1:=((Below.refl _ _).drew).trans h
/-- From the start over a middle world on. -/
theorem chain {w wr w1:World} (h:Below w.heap.size w wr) (k:Below wr.heap.size wr w1):Below w.heap.size w w1:=h.trans (k.mono h.size)
/-- A world that has grown from W: nothing of W has turned. -/
structure Grw (W:World) where
 w:World
 h:Below W.heap.size W w
theorem aq_ (W:World):Nonempty (Grw W):=⟨⟨W,Below.refl _ _⟩⟩
theorem ae_ {W w':World} (h:∃ x:Grw W,w'=x.w):Below W.heap.size W w':=by obtain ⟨x,rfl⟩:=h;exact x.h
theorem gcell {W:World} {b o:Nat} {v:Value} (h:W.cell? ⟨b,o,none⟩=some v):∀ x:Grw W,x.w.cell? ⟨b,o,none⟩=some v:=fun x=>bcell x.h h
/-- A region that draws its order, whose operations read what was there and whose calls may lay new memory: one walk of the text's order serves. -/
theorem aa_ {P:Program} {id:Nat} {Q:Exit->Act->World->Prop} {a:Act} {W:World} {l:List Oper} (hm:P.follows .mixedOrders=true) (hB:Region.lexB .any l.toArray=true)
  (h:wpQuiet P l.toArray (fun w'=>∃ x:Grw W,w'=x.w) (fun a'=>∀ w',(∃ x:Grw W,w'=x.w)->Q .normal a' w') l a):(Code.region id l.toArray true).wp P Q a W:=
 wp_region_quiet (C:=fun w'=>∃ x:Grw W,w'=x.w) hm hB ⟨⟨_,(Below.refl _ _).drew⟩,rfl⟩ (by simpa using h)
theorem ag_ {P:Program} {f:FuncId} {args:Array Value} {W:World} {x:Grw W} {v:Value}
  (h:Calls P f args x.w fun e w'=>e=.returned v∧Below x.w.heap.size x.w w'):Calls P f args x.w fun e w'=>e=.returned v∧∃ y:Grw W,w'=y.w:=
 h.mono fun _ w' ⟨he,hb⟩=>⟨he,⟨⟨w',chain x.h hb⟩,rfl⟩⟩
theorem ah_ {P:Program} {f:FuncId} {args:Array Value} {W:World} {x:Grw W} {v:Value}
  (h:Calls P f args x.w fun e w'=>e=.returned v∧w'=x.w):Calls P f args x.w fun e w'=>e=.returned v∧∃ y:Grw W,w'=y.w:=
 h.mono fun _ _ ⟨he,hb⟩=>⟨he,⟨x,hb⟩⟩
theorem aj_ {α:Type} {l:List α} {k:Nat} {x:α} (h:l[k]?=some x):l.drop k=x::l.drop (k+1):=by
 obtain ⟨hk,rfl⟩:=List.getElem?_eq_some_iff.1 h
 exact List.drop_eq_getElem_cons hk
theorem ab_ {x y:Bool} (h:x=y):Ending.returned (.bool x)=.returned (.bool y):=by rw [h]
theorem aA_ {k:IntKind} {a b:Int} (h:a=b):Ending.returned (.int k a)=.returned (.int k b):=by rw [h]
/-! ### Parts -/
/-- impl.partOk -/
def partOkB (p:Pt):Bool:=if p.a==0 then p.f==0&&decide (1<=p.n) else decide (1<=p.a)&&decide (p.a<=400)&&decide (0<=p.f)&&decide (p.f<20)&&decide (1<=p.n)&&decide (p.n<=20-p.f)
/-- impl.goesOn -/
def goesOnB (p q:Pt):Bool:=q.a==p.a&&(q.a==0||q.f==wrap64 (p.f+p.n))
/-- impl.PartsOk's rounds: the part ahead, what is left of the length, the parts to come. -/
def pgo:Option Pt->Int->List Pt->Bool
 |_,_,[]=>true
 |none,left,p::r=>partOkB p&&decide (p.n<=left)&&pgo (some p) (left-p.n) r
 |some q,left,p::r=>partOkB p&&decide (p.n<=left)&&!goesOnB q p&&pgo (some p) (left-p.n) r
def partsOkB (l:List Pt):Bool:=decide (l.length<=16)&&pgo none 100 l
/-- The part ahead of the k-th. -/
def ahead (l:List Pt) (k:Nat):Option Pt:=if k=0 then none else l[k-1]?
def sumN:List Pt->Int
 |[]=>0
 |p::r=>p.n+sumN r
theorem fu_ (l:List Pt):ahead l 0=none:=rfl
theorem bq_ (l:List Pt) (k:Nat):ahead l (k+1)=l[k]?:=by simp [ahead]
theorem aW_ {p:Pt} (h:partOkB p=true):1<=p.n:=by
 unfold partOkB at h;split at h<;>simp at h<;>omega
end Go.Proofs.YtigldeccfpkdmaaGreatDoor
namespace Go.Proofs.YtigldeccfpkdmaaGreatDoor
open Go.ChangeShapes Go.WideShapes Go.ChangeAt Go.RowKit Go.Deep
set_option maxHeartbeats 20000000
set_option maxRecDepth 100000
theorem laidOut:laidOutB Tryz.prog=true:=by kernel_rfl
theorem own:ownKnob Tryz.prog.godebug=none:=by kernel_rfl
/-- What a slice's cells say of its address. -/
theorem spotless {w:World} {a:Addr} {n:Nat} {v:Value} (h:w.cell? (a.add n)=some v) (hn:n=0):∃ b o,a=⟨b,o,none⟩:=by
 subst hn
 obtain ⟨b,off,spot⟩:=a
 have hspot:spot=none:=by simpa [Addr.add] using World.cell?_spot h
 exact ⟨b,off,by rw [hspot]⟩
theorem c2:Tryz.prog.cellsOf 2=1:=by kernel_rfl
theorem hG_:∀ (s r:List Char),s.all (fun c=>!(c==Char.ofNat 32))=true->wordsSigns (s++Char.ofNat 32::r)=s::wordsSigns r
 |[],r,_=>rfl
 |c::s,r,h=>by
  simp only [List.all_cons,Bool.and_eq_true,Bool.not_eq_true',beq_eq_false_iff_ne] at h
  have ih:=hG_ s r h.2
  have hc:c≠Char.ofNat 32:=h.1
  rw [List.cons_append]
  conv=>lhs;unfold wordsSigns
  split
  ·rename_i e;simp at e
  ·rename_i e;simp at e;exact absurd e.1 hc
  ·rename_i e
   simp at e
   obtain ⟨rfl,rfl⟩:=e
   rw [ih]
def headRest:List Nat:=[97,116,32,108,111,111,112,46,101,120,97,109,112,108,101,47,103,48,48,51,51,54,47,108,97,119,115,46,70,110,69,120,97,99,116,82,101,97,100,80,111,111,108,32,108,111,111,112,46,101,120,97,109,112,108,101,47,103,48,48,51,51,54,47,108,97,119,115,46,70,110,69,120,97,99,116,83,117,112,101,114,84,101,120,116,32,108,111,111,112,46,101,120,97,109,112,108,101,47,103,48,48,51,51,54,47,108,97,119,115,46,70,110,69,120,97,99,116,82,101,97,100,83,117,112,101,114,32,108,111,111,112,46,101,120,97,109,112,108,101,47,103,48,48,51,51,54,47,108,97,119,115,46,70,110,69,120,97,99,116,67,111,109,109,105,116,116,101,100,32,108,111,111,112,46,101,120,97,109,112,108,101,47,103,48,48,51,51,54,47,108,97,119,115,46,70,110,69,120,97,99,116,83,116,111,114,101,78,101,119,32,108,111,111,112,46,101,120,97,109,112,108,101,47,103,48,48,51,51,54,47,108,97,119,115,46,70,110,69,120,97,99,116,83,116,111,114,101,79,107]
def headSum:List Nat:=[57,55,97,51,99,99,100,99,50,100,48,50,57,57,101,52,102,50,101,52,101,98,97,50,55,102,99,56,99,50,57,101,57,51,52,99,48,97,52,53,97,57,49,99,52,54,101,56,102,51,49,55,57,50,97,97,99,54,52,55,51,49,97,52]
theorem headIs:Tryz.prog.initOrder=String.ofList ([104,97,114,110,101,115,115].map Char.ofNat++Char.ofNat 32::(headSum.map Char.ofNat++Char.ofNat 32::([99,117,116].map Char.ofNat++Char.ofNat 32::headRest.map Char.ofNat))):=by kernel_rfl
theorem headWords:behindMainWord (wordsSigns Tryz.prog.initOrder.toList)="cut".toList::wordsSigns (headRest.map Char.ofNat):=by
 rw [headIs,String.toList_ofList,hG_ _ _ (by decide +kernel),hG_ _ _ (by decide +kernel),hG_ _ _ (by decide +kernel)]
 dsimp only [behindMainWord]
 rw [if_pos (by decide +kernel)]
 rfl
theorem gV_ (rr:List (List Char)):stripLifts liftWords ("cut".toList::rr)=([],"cut".toList::rr):=by
 simp only [liftWords]
 repeat (rw [stripLifts,if_neg (by decide +kernel)])
 rfl
theorem iC_ {P:Program} {rr:List (List Char)} (h:behindMainWord (wordsSigns P.initOrder.toList)="cut".toList::rr) (h1:P.laysLater=false) (h2:P.bearsReflect=false) (h3:P.doorFits []=true):P.mayEnter=true:=by
 unfold Program.mayEnter
 rw [h]
 dsimp only
 rw [gV_]
 have e1:("cut".toList=="gc".toList)=false:=by decide +kernel
 have e2:("cut".toList=="spec".toList)=false:=by decide +kernel
 have e3:("cut".toList=="carried".toList)=false:=by decide +kernel
 rw [e1,e2,e3,h1,h2,h3]
 rfl
theorem mW_ {P:Program} {rr:List (List Char)} (h:behindMainWord (wordsSigns P.initOrder.toList)="cut".toList::rr):P.headLifts=[]:=by
 unfold Program.headLifts
 rw [h,gV_]
 rfl
theorem mX_ {P:Program} {rr:List (List Char)} (h:behindMainWord (wordsSigns P.initOrder.toList)="cut".toList::rr):P.liftsFinal=false:=by
 have hl:=mW_ h
 unfold Program.liftsFinal
 rw [h,hl]
 have e3:(("cut".toList::rr).head?==some "carried".toList)=false:=by
  show (some "cut".toList==some "carried".toList)=false
  decide +kernel
 dsimp only
 rw [e3]
 rfl
theorem oe_ {P:Program} {rr:List (List Char)} (h:behindMainWord (wordsSigns P.initOrder.toList)="cut".toList::rr):P.make=some .cut:=by
 unfold Program.make
 rw [h]
 dsimp only
 rw [if_neg (by decide +kernel),if_pos]
 have:("cut".toList=="cut".toList)=true:=by decide +kernel
 rw [this]
 rfl
theorem mayEnterIs:Tryz.prog.mayEnter=true:=iC_ headWords (by kernel_rfl) (by kernel_rfl) (by kernel_rfl)
theorem finalIs:Tryz.prog.liftsFinal=false:=mX_ headWords
theorem makeIs:Tryz.prog.make=some .cut:=oe_ headWords
def restA (P:Program) (fn:Func) (s:ChangeSpec) (c:OpenClaim):Bool:=
 c.wf (OpenSpec.ofChange s)&&fn.params.all (P.readableRec ·)&&namedTie P c.named s.vars&&(c.stops==[])&&(c.knobs==[]) &&
 (c.maps==(fn.params.toList++s.plain.varTypes P).any (P.mapsRec ·))&&(c.ifaces==(fn.params.toList++s.plain.varTypes P).any (P.ifacesRec ·))&&(c.mapsOut==P.mapsAmong fn.resultTypes.toList) &&
 (c.loops==(fn.params.toList++s.plain.varTypes P).any (P.loopsFrom ·))&&(c.wideKeys==(fn.params.toList++s.plain.varTypes P++fn.resultTypes.toList).any (P.wideKeysFrom ·)) &&
 s.vars.all (P.varReadable ·)&&fn.resultTypes.all (fun t=>P.readableRec t&&decide (t<P.types.size))&&(c.ifacesOut==fn.resultTypes.toList.any (P.ifacesRec ·))&&(c.loopsOut==fn.resultTypes.toList.any (P.loopsFrom ·))&&c.shortTexts.isNone&&(c.kinds==(if c.domain.isEmpty then [] else fn.params.toList.map fun t=>match P.underlying t with | some (.int k)=>some k | _=>none))&&(c.pinned==c.pinnedBy) &&
 (c.veiled==(fn.params.toList++s.plain.varTypes P++fn.resultTypes.toList).any (P.veiledRec ·))&&c.veiledFits P fn.params.toList (fn.params.toList++s.plain.varTypes P++fn.resultTypes.toList)
theorem kk_ {P:Program} {f:FuncId} {fn:Func} {s:ChangeSpec} {c:OpenClaim} (h2:laidOutB P=true) (h3:mapsRowed P=true) (h7:(P.stops==[])=true) (h9:(P.stopKnobs==[])=true) (h10:(c.inPlace==P.inPlace f)=true) (h11:(c.unfollowed==P.unfollowed f)=true) (h12:(c.recurses==P.recurses f)=true) (h13:(c.named==P.varsNamed f)=true)
  (h23:(c.plainKeys==P.plainKeys)=true) (h25:P.stopsHeard=true) (h26:P.mayEnter=true) (h27:(c.lifted==P.liftsFinal)=true) (h28:(P.make==some c.make)=true) (h:restA P fn s c=true):joinedFacts P f fn s c=true:=by
 simp only [restA,Bool.and_eq_true] at h
 obtain ⟨⟨⟨⟨⟨⟨⟨⟨⟨⟨⟨⟨⟨⟨⟨⟨⟨⟨a1,a4⟩,a5⟩,a6⟩,a8⟩,a14⟩,a15⟩,a16⟩,a17⟩,a18⟩,a19⟩,a20⟩,a21⟩,a22⟩,a24⟩,a29⟩,a30⟩,a31⟩,a32⟩:=h
 simp only [joinedFacts,Bool.and_eq_true]
 exact ⟨⟨⟨⟨⟨⟨⟨⟨⟨⟨⟨⟨⟨⟨⟨⟨⟨⟨⟨⟨⟨⟨⟨⟨⟨⟨⟨⟨⟨⟨⟨a1,h2⟩,h3⟩,a4⟩,a5⟩,a6⟩,h7⟩,a8⟩,h9⟩,h10⟩,h11⟩,h12⟩,h13⟩,a14⟩,a15⟩,a16⟩,a17⟩,a18⟩,a19⟩,a20⟩,a21⟩,a22⟩,h23⟩,a24⟩,h25⟩,h26⟩,h27⟩,h28⟩,a29⟩,a30⟩,a31⟩,a32⟩
theorem mapsRowedIs:mapsRowed Tryz.prog=true:=by kernel_rfl
theorem stopsIs:(Tryz.prog.stops==[])=true:=by kernel_rfl
theorem stopKnobsIs:(Tryz.prog.stopKnobs==[])=true:=by kernel_rfl
theorem plainKeysIs:Tryz.prog.plainKeys=false:=by kernel_rfl
theorem stopsHeardIs:Tryz.prog.stopsHeard=true:=by kernel_rfl
theorem gW_ {f:FuncId} {fn:Func} {s:ChangeSpec} {c:OpenClaim} (h10:(c.inPlace==Tryz.prog.inPlace f)=true) (h11:(c.unfollowed==Tryz.prog.unfollowed f)=true) (h12:(c.recurses==Tryz.prog.recurses f)=true) (h13:(c.named==Tryz.prog.varsNamed f)=true)
  (h23:c.plainKeys=false) (h27:c.lifted=false) (h28:c.make=.cut) (h:restA Tryz.prog fn s c=true):joinedFacts Tryz.prog f fn s c=true:=
 kk_ laidOut mapsRowedIs stopsIs stopKnobsIs h10 h11 h12 h13 (by rw [h23,plainKeysIs];rfl) stopsHeardIs mayEnterIs (by rw [h27,finalIs];rfl) (by rw [h28,makeIs];rfl) h
end Go.Proofs.YtigldeccfpkdmaaGreatDoor
namespace Go.Proofs.YtigldeccfpkdmaaGreatDoor
open Go.RowKit
set_option maxHeartbeats 20000000
set_option maxRecDepth 100000
/-- Block b is a row of these cells, none frozen. -/
def Blk (w:World) (b:Nat) (c:Array Value) (t:TypeId):Prop:=w.heap[b]?=some (.cells c t)
theorem Blk.lt {w:World} {b:Nat} {c:Array Value} {t:TypeId} (h:Blk w b c t):b<w.heap.size:=(Array.getElem?_eq_some_iff.1 h).1
theorem Blk.cell {w:World} {b:Nat} {c:Array Value} {t:TypeId} (h:Blk w b c t) (i:Nat):w.cell? ⟨b,i,none⟩=c[i]?:=by
 unfold Blk at h;simp [World.cell?,h]
theorem Blk.frozen {w:World} {b:Nat} {c:Array Value} {t:TypeId} (h:Blk w b c t) (i:Nat):w.frozen? ⟨b,i,none⟩=false:=by
 unfold Blk at h;simp [World.frozen?,h]
theorem fz6 {w : World} {b : Nat} {c : Array Value} {t : TypeId} (h : Blk w b c t) : w.frozen? ⟨b, 0, none⟩ = false ∧ w.frozen? ⟨b, 1, none⟩ = false ∧ w.frozen? ⟨b, 2, none⟩ = false ∧ w.frozen? ⟨b, 3, none⟩ = false ∧ w.frozen? ⟨b, 4, none⟩ = false ∧ w.frozen? ⟨b, 5, none⟩ = false := ⟨h.frozen 0, h.frozen 1, h.frozen 2, h.frozen 3, h.frozen 4, h.frozen 5⟩
theorem ce9 {w : World} {b : Nat} {v0 v1 v2 v3 v4 v5 v6 v7 v8 : Value} {t : TypeId} (h : Blk w b #[v0, v1, v2, v3, v4, v5, v6, v7, v8] t) : w.cell? ⟨b, 0, none⟩ = some v0 ∧ w.cell? ⟨b, 1, none⟩ = some v1 ∧ w.cell? ⟨b, 2, none⟩ = some v2 ∧ w.cell? ⟨b, 3, none⟩ = some v3 ∧ w.cell? ⟨b, 4, none⟩ = some v4 ∧ w.cell? ⟨b, 5, none⟩ = some v5 ∧ w.cell? ⟨b, 6, none⟩ = some v6 ∧ w.cell? ⟨b, 7, none⟩ = some v7 ∧ w.cell? ⟨b, 8, none⟩ = some v8 := ⟨h.cell 0, h.cell 1, h.cell 2, h.cell 3, h.cell 4, h.cell 5, h.cell 6, h.cell 7, h.cell 8⟩
theorem Blk.has {w:World} {b:Nat} {c:Array Value} {t:TypeId} (h:Blk w b c t) {i:Nat} (hi:i<c.size):∃ v,w.cell? ⟨b,i,none⟩=some v:=⟨c[i],by rw [h.cell];simp [hi]⟩
theorem Blk.new (w:World) (c:Array Value) (t:TypeId):Blk (w.alloc (.cells c t)) w.heap.size c t:=heap_alloc_new w _
theorem Blk.below {w w':World} {b:Nat} {c:Array Value} {t:TypeId} (h:Blk w b c t) (hb:Below w.heap.size w w'):Blk w' b c t:=by
 unfold Blk;rw [hb.block b h.lt];exact h
theorem Blk.grown {w w':World} {b:Nat} {c:Array Value} {t:TypeId} {r:Nat} (h:Blk w b c t) (hg:w.grownBy w' (some r)) (hr:b≠r):Blk w' b c t:=by
 unfold Blk;rw [hg.block b h.lt (by simpa using hr)];exact h
theorem Blk.set {w:World} {b:Nat} {c:Array Value} {t:TypeId} (h:Blk w b c t) (i:Nat) (v:Value):Blk (w.setCell ⟨b,i,none⟩ v) b (c.setIfInBounds i v) t:=by
 unfold Blk at *;simp [World.setCell,Array.getElem?_modify,h]
theorem Blk.alloc {w:World} {b:Nat} {c:Array Value} {t:TypeId} (h:Blk w b c t) (o:Obj):Blk (w.alloc o) b c t:=h.below ((Below.refl _ _).alloc (Nat.le_refl _) _)
theorem Blk.drew {w:World} {b:Nat} {c:Array Value} {t:TypeId} (h:Blk w b c t):Blk w.drew b c t:=h
/-- A store into block b turns no other. -/
theorem ac_ {w0 w:World} {b:Nat} (h:w0.grownBy w (some b)) (i:Nat) (v:Value):w0.grownBy (w.setCell ⟨b,i,none⟩ v) (some b):=
 ⟨h.os,h.tape,h.output,by simpa [World.setCell] using h.size,fun k hk hne=>by
  rw [Below.heap_setCell _ _ _ _ (by simpa using hne)];exact h.block k hk hne⟩
theorem aP_ {w0 w w':World} {b:Nat} (h:w0.grownBy w (some b)) (hb:Below w.heap.size w w'):w0.grownBy w' (some b):=
 ⟨hb.os.trans h.os,hb.tape.trans h.tape,hb.output.trans h.output,Nat.le_trans h.size hb.size,fun k hk hne=>by
  rw [hb.block k (Nat.lt_of_lt_of_le hk h.size)];exact h.block k hk hne⟩
theorem eP_ {w0 w w':World} {b:Nat} (h:w0.grownBy w (some b)) (hb:w.grownBy w' (some b)):w0.grownBy w' (some b):=
 ⟨hb.os.trans h.os,hb.tape.trans h.tape,hb.output.trans h.output,Nat.le_trans h.size hb.size,fun k hk hne=>by
  rw [hb.block k (Nat.lt_of_lt_of_le hk h.size) hne];exact h.block k hk hne⟩
/-- What turns one block that is new turns nothing old. -/
theorem am_ {w w1 w':World} {b:Nat} (hb:Below w.heap.size w w1) (hg:w1.grownBy w' (some b)) (hn:w.heap.size<=b):Below w.heap.size w w':=
 hb.grown hg hb.size (fun k e=>by cases e;exact hn)
/-- Block b, which is the call's own, begins with the list l, n elements of sz cells each. -/
structure OwnAt {α:Type} (cs:α->List Value) (sz:Nat) (t:TypeId) (w:World) (b:Nat) (n:Nat) (l:List α):Prop where
 len:l.length=n
 blk:∃ c,Blk w b c t∧n*sz<=c.size∧∀ i x,l[i]?=some x->∀ j v,(cs x)[j]?=some v->c[i*sz+j]?=some v
theorem OwnAt.sl {α:Type} {cs:α->List Value} {sz:Nat} {t:TypeId} {w:World} {b n:Nat} {l:List α} (h:OwnAt cs sz t w b n l):SlAt cs sz w (some ⟨b,0,none⟩) n l:=by
 obtain ⟨c,hb,_,hc⟩:=h.blk
 exact ⟨h.len,fun i x hx=>⟨b,0,rfl,fun j v hv=>by rw [hb.cell,Nat.zero_add];exact hc i x hx j v hv⟩⟩
theorem OwnAt.below {α:Type} {cs:α->List Value} {sz:Nat} {t:TypeId} {w w':World} {b n:Nat} {l:List α} (h:OwnAt cs sz t w b n l) (hb:Below w.heap.size w w'):OwnAt cs sz t w' b n l:=by
 obtain ⟨c,hc,r⟩:=h.blk
 exact ⟨h.len,c,hc.below hb,r⟩
theorem OwnAt.grown {α:Type} {cs:α->List Value} {sz:Nat} {t:TypeId} {w w':World} {b n r:Nat} {l:List α} (h:OwnAt cs sz t w b n l) (hg:w.grownBy w' (some r)) (hr:b≠r):OwnAt cs sz t w' b n l:=by
 obtain ⟨c,hc,q⟩:=h.blk
 exact ⟨h.len,c,hc.grown hg hr,q⟩
theorem OwnAt.lt {α:Type} {cs:α->List Value} {sz:Nat} {t:TypeId} {w:World} {b n:Nat} {l:List α} (h:OwnAt cs sz t w b n l):b<w.heap.size:=by
 obtain ⟨c,hc,_⟩:=h.blk
 exact hc.lt
/-- A slice in a block other than the one that was written. -/
theorem SlAt.grown {α:Type} {cs:α->List Value} {sz:Nat} {w w':World} {a:Option Addr} {n r:Nat} {l:List α} (h:SlAt cs sz w a n l) (hg:w.grownBy w' (some r)) (hr:∀ ad,a=some ad->ad.block≠r):SlAt cs sz w' a n l:=
 ⟨h.len,fun i x hx=>by
  obtain ⟨b,o,ha,hc⟩:=h.cell i x hx
  exact ⟨b,o,ha,fun j v hv=>hg.cell (hc j v hv) (by have:=hr _ ha;simpa using this)⟩⟩
theorem cc_ (p:Pt) (w:World) :
  Calls Tryz.prog 259 #[.agg #[.int .i64 p.a,.int .i64 p.f,.int .i64 p.n]] w fun e w'=>e=.returned (.bool (partOkB p))∧Below w.heap.size w w':=by
 obtain ⟨a,f,n⟩:=p
 go_enter Tryz.func259,Tryz.ntmps259
 go_wp2
 all_goals go_returns
 all_goals go_light
 all_goals refine ⟨?_,by go_grown⟩
 all_goals simp [partOkB, *]
 all_goals try omega
theorem iD_ (p q:Pt) (w:World) :
  Calls Tryz.prog 260 #[.agg #[.int .i64 p.a,.int .i64 p.f,.int .i64 p.n],.agg #[.int .i64 q.a,.int .i64 q.f,.int .i64 q.n]] w fun e w'=>e=.returned (.bool (goesOnB p q))∧Below w.heap.size w w':=by
 obtain ⟨a,f,n⟩:=p
 obtain ⟨b,g,m⟩:=q
 go_enter Tryz.func260,Tryz.ntmps260
 go_wp2
 all_goals go_returns
 all_goals go_light
 all_goals refine ⟨?_,by go_grown⟩
 all_goals simp_all [goesOnB]
theorem cF_ (a:Option Addr) (n cap:Nat) (l:List Pt) (w:World) (h:PtsAt w a n l) (hn:n<=4194304) :
  Calls Tryz.prog 234 #[.slice a n cap] w fun e w'=>e=.returned (.bool (partsOkB l))∧Below w.heap.size w w':=by
 have hlen:=h.len
 by_cases h16:n<=16
 ·have hfin:Hid (partsOkB l=pgo none 100 l):=by show _=_;simp [partsOkB,hlen,h16]
  have hlen':Hid (l.length=n):=hlen
  clear hlen
  go_enter Tryz.func234,Tryz.ntmps234
  go_wp2_with fail
  go_loopw [2,3,4,5,11] (fun r left i p ix wr=>∃ (k:Nat) (lf:Int),k<=n∧ix=.int .i64 k∧left=.int .i64 lf∧0<=lf∧lf<=100∧Hid (pgo none 100 l=pgo (ahead l k) lf (l.drop k))∧Below w.heap.size w wr) (fun _ _ _ _ ix _=>n-(intOf ix).toNat)
  case atStart=>exact ⟨0,100,Nat.zero_le _,rfl,rfl,by omega,by omega,rfl,Below.refl _ _⟩
  case round=>
   obtain ⟨k,lf,hk,rfl,rfl,hf0,hf1,hI,hB⟩:=hrel
   by_cases hlt:k<n
   ·obtain ⟨b,o,p,rfl,hp,c0,c1,c2⟩:=bc_ (h.below hB) hlt
    have hd:Hid (l.drop k=p::l.drop (k+1)):=aj_ hp
    have hq:Hid (l[k]?=some p):=hp
    clear hp
    have hwr:w.heap.size<=wr.heap.size:=hB.size
    cases hpo:partOkB p
    ·go_wp2_with fail
     refine (cc_ p _).mono ?_
     rintro e w1 ⟨rfl,hB1⟩
     obtain ⟨x0,x1,x2,hB1',hs1⟩:=box3 hB1
     rw [hpo]
     go_wp2_with fail
     go_returns
     go_light
     refine ⟨ab_ ?_,chain hB hB1'⟩
     rw [hfin.out,hI.out,hd.out];cases ahead l k<;>simp [pgo,hpo]
    by_cases hle:p.n<=lf
    ·rcases k with _ | j
     ·simp only [Nat.zero_mul,Nat.add_zero] at c0 c1 c2
      go_wp2_with fail
      refine (cc_ p _).mono ?_
      rintro e w1 ⟨rfl,hB1⟩
      rw [hpo]
      obtain ⟨x0,x1,x2,hB1',hs1⟩:=box3 hB1
      clear hB1 c0 c1 c2
      have hp1:=aW_ hpo
      go_wp2_with fail
      go_quiet (fail)
      go_wp2
      go_roundw
      case rel=>exact ⟨1,lf-p.n,by omega,by go_num,by go_num,by omega,by omega,by show _=_;rw [hI.out,hd.out,fu_,bq_,hq.out];simp [pgo,hpo,hle],chain hB (chain hB1' (drewNB _ _))⟩
      case measure=>simp [intOf];omega
     ·obtain ⟨b',o',q,hbo,hq',d0,d1,d2⟩:=bc_ (h.below hB) (k:=j) (by omega)
      obtain ⟨rfl,rfl⟩:b=b'∧o=o':=by simpa using hbo
      have ha:Hid (ahead l (j+1)=some q):=by show _=_;rw [bq_];exact hq'
      clear hq' hbo
      have hp1:=aW_ hpo
      cases hgo:goesOnB q p
      all_goals
       go_wp2_with fail
       refine (cc_ p _).mono ?_
       rintro e w1 ⟨rfl,hB1⟩
       rw [hpo]
       obtain ⟨x0,x1,x2,hB1',hs1⟩:=box3 hB1
       clear hB1
       replace d0:=bcell hB1' d0
       replace d1:=bcell hB1' d1
       replace d2:=bcell hB1' d2
       clear c0 c1 c2
       have hj:(0:Int)<(j:Int)+1:=by omega
       have hj1:(j:Int)<n:=by omega
       have hj2:(0:Int)<=j:=by omega
       have hw1:IntKind.i64.wrap ((j:Int)+1-1)=(j:Int):=by rw [IntKind.wrap_i64];omega
       have hw2:IntKind.i64.wrap (j:Int)=(j:Int):=by rw [IntKind.wrap_i64];omega
       go_wp2_with fail
       go_region_held3 (fun w'=>w'.cell? ⟨b,o+j*3,none⟩=some (.int .i64 q.a)∧w'.cell? ⟨b,o+j*3+1,none⟩=some (.int .i64 q.f)∧w'.cell? ⟨b,o+j*3+2,none⟩=some (.int .i64 q.n)∧w'.cell? ⟨wr.heap.size,0,none⟩=some (.int .i64 p.a)∧w'.cell? ⟨wr.heap.size,1,none⟩=some (.int .i64 p.f)∧w'.cell? ⟨wr.heap.size,2,none⟩=some (.int .i64 p.n)) (go_keep)
        (first | (go_at_call 260;refine (iD_ q p _).mono ?_;rintro e w2 ⟨rfl,hB2⟩;have y0:=bcell hB2 d0;have y1:=bcell hB2 d1;have y2:=bcell hB2 d2;have z0:=bcell hB2 x0;have z1:=bcell hB2 x1;have z2:=bcell hB2 x2))
       go_wp2
      ·go_roundw
       case rel=>exact ⟨j+2,lf-p.n,by omega,by go_num,by go_num,by omega,by omega,by show _=_;rw [hI.out,hd.out,ha.out,bq_,hq.out];simp [pgo,hpo,hle,hgo],chain hB (chain hB1' (undrew hB2))⟩
       case measure=>simp [intOf];omega
      ·go_returns
       go_light
       refine ⟨ab_ ?_,chain hB (chain hB1' (undrew hB2))⟩
       rw [hfin.out,hI.out,hd.out,ha.out];simp [pgo,hgo]
    ·go_wp2_with fail
     refine (cc_ p _).mono ?_
     rintro e w1 ⟨rfl,hB1⟩
     rw [hpo]
     obtain ⟨x0,x1,x2,hB1',hs1⟩:=box3 hB1
     go_wp2
     go_returns
     go_light
     refine ⟨ab_ ?_,chain hB hB1'⟩
     have hle':¬ p.n<=lf:=by omega
     rw [hfin.out,hI.out,hd.out];cases ahead l k<;>simp [pgo,hle']
   ·obtain rfl:k=n:=by omega
    go_wp2
    go_returns
    go_light
    refine ⟨ab_ ?_,hB⟩
    rw [hfin.out,hI.out,List.drop_of_length_le (Nat.le_of_eq hlen'.out)];cases ahead l k<;>rfl
 ·go_enter Tryz.func234,Tryz.ntmps234
  go_wp2
  go_returns
  go_light
  refine ⟨ab_ ?_,Below.refl _ _⟩
  simp [partsOkB,hlen];omega
/-- The model's PartsOk, its rounds. -/
def sgo:Option Pt->Int->List Pt->Bool
 |_,s,[]=>decide (s<=100)
 |none,s,p::r=>(partOkB p&&decide (p.n<=100))&&sgo (some p) (s+p.n) r
 |some q,s,p::r=>(partOkB p&&decide (p.n<=100))&&!goesOnB q p&&sgo (some p) (s+p.n) r
theorem mY_ (l:List Pt):∀ (q:Option Pt) (s:Int),100<s->sgo q s l=false:=by
 induction l with
 |nil=>intro q s h;cases q<;>simp [sgo]<;>omega
 |cons p r ih=>
  intro q s h
  cases hp:partOkB p
  ·cases q<;>simp [sgo,hp]
  ·have:=aW_ hp
   cases q<;>simp [sgo,ih _ (s+p.n) (by omega)]
theorem of_ (l:List Pt):∀ (q:Option Pt) (s:Int),0<=s->s<=100->sgo q s l=pgo q (100-s) l:=by
 induction l with
 |nil=>intro q s h0 h1;cases q<;>simp [sgo,pgo]<;>omega
 |cons p r ih=>
  intro q s h0 h1
  cases hp:partOkB p
  ·cases q<;>simp [sgo,pgo,hp]
  ·have hpos:=aW_ hp
   by_cases hle:p.n<=100-s
   ·have e:=ih (some p) (s+p.n) (by omega) (by omega)
    have e2:100-(s+p.n)=100-s-p.n:=by omega
    have h100:p.n<=100:=by omega
    rw [e2] at e
    cases q<;>simp [sgo,pgo,hp,e,hle,h100]
   ·have e:=mY_ r (some p) (s+p.n) (by omega)
    cases q<;>simp [sgo,pgo,e,hle]
theorem og_ (l:List Pt):∀ (q:Option Pt) (s:Int),0<=s->pgo q s l=true->(∀ p∈l,partOkB p=true)∧sumN l<=s:=by
 induction l with
 |nil=>intro q s h0 _;exact ⟨by simp,by simpa [sumN] using h0⟩
 |cons p r ih=>
  intro q s h0 h
  have hh:partOkB p=true∧p.n<=s∧pgo (some p) (s-p.n) r=true:=by
   cases q
   ·simp [pgo] at h;exact ⟨h.1.1,h.1.2,h.2⟩
   ·simp [pgo] at h;exact ⟨h.1.1.1,h.1.1.2,h.2⟩
  obtain ⟨a,b⟩:=ih (some p) (s-p.n) (by omega) hh.2.2
  refine ⟨?_,by simp [sumN];omega⟩
  intro x hx
  rcases List.mem_cons.1 hx with rfl | hx
  ·exact hh.1
  ·exact a x hx
theorem aO_ {α:Type} {l:List α} {k:Nat} {x:α} (h:l[k]?=some x):l.take (k+1)=l.take k++[x]:=by
 rw [List.take_add_one,h];rfl
theorem dP_ {l:List Pt} (h:partsOkB l=true):l.length<=16∧(∀ p∈l,partOkB p=true)∧sumN l<=100:=by
 simp [partsOkB] at h
 exact ⟨h.1,og_ l none 100 (by omega) h.2⟩
theorem ao_ (n lo hi:Int) (w:World) :
  Calls Tryz.prog 54 #[.int .i64 n,.int .i64 lo,.int .i64 hi] w fun e w'=>e=.returned (.bool (decide (lo<=n)&&decide (n<=hi)))∧w'=w:=by
 go_enter Tryz.func54,Tryz.ntmps54
 go_wp2
 all_goals go_returns
 all_goals go_light
 all_goals refine ⟨?_,rfl⟩
 all_goals simp_all
 all_goals try omega
theorem iE_ (p q:Pt) (w:World) :
  Calls Tryz.prog 212 #[.agg #[.int .i64 p.a,.int .i64 p.f,.int .i64 p.n],.agg #[.int .i64 q.a,.int .i64 q.f,.int .i64 q.n]] w fun e w'=>e=.returned (.bool (goesOnB p q))∧Below w.heap.size w w':=by
 obtain ⟨a,f,n⟩:=p
 obtain ⟨b,g,m⟩:=q
 go_enter Tryz.func212,Tryz.ntmps212
 go_wp2
 all_goals go_returns
 all_goals go_light
 all_goals refine ⟨?_,by go_grown⟩
 all_goals simp_all [goesOnB]
 all_goals first | (rw [Bool.eq_iff_iff];simp;omega) | omega
theorem cl_ (p:Pt) (w:World) :
  Calls Tryz.prog 211 #[.agg #[.int .i64 p.a,.int .i64 p.f,.int .i64 p.n]] w fun e w'=>e=.returned (.bool (partOkB p&&decide (p.n<=100)))∧Below w.heap.size w w':=by
 obtain ⟨a,f,n⟩:=p
 go_enter Tryz.func211,Tryz.ntmps211
 go_wp2
 all_goals go_returns
 all_goals go_light
 all_goals refine ⟨?_,by go_grown⟩
 all_goals simp [partOkB, *]
 all_goals try omega
 all_goals (rw [Bool.eq_iff_iff];simp;omega)
def eqPtB (p q:Pt):Bool:=p.a==q.a&&p.f==q.f&&p.n==q.n
theorem iF_ (p q:Pt) (w:World) :
  Calls Tryz.prog 272 #[.agg #[.int .i64 p.a,.int .i64 p.f,.int .i64 p.n],.agg #[.int .i64 q.a,.int .i64 q.f,.int .i64 q.n]] w fun e w'=>e=.returned (.bool (eqPtB p q))∧Below w.heap.size w w':=by
 obtain ⟨a,f,n⟩:=p
 obtain ⟨b,g,m⟩:=q
 go_enter Tryz.func272,Tryz.ntmps272
 go_wp2
 all_goals go_returns
 all_goals go_light
 all_goals refine ⟨?_,by go_grown⟩
 all_goals simp_all [eqPtB]
end Go.Proofs.YtigldeccfpkdmaaGreatDoor
namespace Go.Proofs.YtigldeccfpkdmaaGreatDoor
open Go.RowKit Go.BigFrame
set_option maxHeartbeats 20000000
set_option maxRecDepth 100000
/-- The digits of k ahead of o. -/
def mtGo (k:Nat) (o:ByteArray):ByteArray:=if k=0 then o else mtGo (k / 10) (strOfNums [48+(k:Int) % 10]++o)
 termination_by k
 decreasing_by omega
def markT (k:Nat):ByteArray:=ByteArray.mk #[109]++mtGo k .empty
theorem cp_ (a b:ByteArray):(a++b).size=a.size+b.size:=ByteArray.size_append
end Go.Proofs.YtigldeccfpkdmaaGreatDoor
namespace Go.Proofs.YtigldeccfpkdmaaGreatDoor
open Go Go.RowKit Go.BigFrame
set_option maxHeartbeats 20000000
set_option maxRecDepth 100000
theorem bZ_ {a b:ByteArray} (h:a.data.toList=b.data.toList):a=b:=by
 cases a;cases b;simp at h;rw [h]
/-- A number in decimal. -/
def decB (n:Int):ByteArray:=⟨(Lib.itoa n).toArray⟩
/-- The digits of k ahead of o, one at least. -/
def ddGo (k:Nat) (o:ByteArray):ByteArray:=⟨(Lib.decDigits k).toArray⟩++o
theorem l2_ {k:Nat} (o:ByteArray) (h:10<=k):ddGo k o=ddGo (k / 10) (strOfNums [48+(k:Int) % 10]++o):=by
 unfold ddGo
 rw [Lib.decDigits,dif_neg (by omega)]
 have e:strOfNums [48+(k:Int) % 10]=⟨#[UInt8.ofNat (48+k % 10)]⟩:=by
  unfold strOfNums
  have:(48+(k:Int) % 10).toNat=48+k % 10:=by omega
  simp [this]
 rw [e]
 refine bZ_ ?_
 simp [ByteArray.data_append]
theorem l3_ {k:Nat} (o:ByteArray) (h:k<10):ddGo k o=strOfNums [48+(k:Int)]++o:=by
 unfold ddGo
 rw [Lib.decDigits,dif_pos h]
 have e:strOfNums [48+(k:Int)]=⟨#[UInt8.ofNat (48+k)]⟩:=by
  unfold strOfNums
  have:(48+(k:Int)).toNat=48+k:=by omega
  simp [this]
 rw [e]
end Go.Proofs.YtigldeccfpkdmaaGreatDoor
