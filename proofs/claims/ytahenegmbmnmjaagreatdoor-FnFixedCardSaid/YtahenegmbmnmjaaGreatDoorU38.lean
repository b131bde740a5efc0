/- Ground. -/
import Derived.Stop.LaidTwo
import Derived.Test.YtahenegmbmnmjaaGreatDoorCards
import Derived.Test.YtahenegmbmnmjaaGreatDoorTie
import Derived.Test.YtahenegmbmnmjaaGreatDoorU37
set_option maxHeartbeats 20000000
set_option maxRecDepth 100000
namespace Go.Proofs.YtahenegmbmnmjaaGreatDoor
section
open Go.RowKit Go.Extern.Stop Go.Stop Go.Extern _root_.Go.Proofs.Tryz
def GP:Array Value->Sem Value:=Extern.ReflectliteType.method fun t=>do Rtype.noPackHeld "Comparable" t;pure (.bool (<-typeInfo t).comparable)
theorem Fk (v:Value)(w:World):(Extern.ReflectliteType.typeOf #[.iface 348 v]).run prog w=.ok (.iface 263 (.agg #[.pointer (some ⟨11,348,none⟩)])) w:=by kernel_rfl
theorem Ds (w:World):(GP #[.agg #[.pointer (some ⟨11,348,none⟩)]]).run prog w=.ok (.bool true) w:=by kernel_rfl
theorem Cg (v:Value)(w:World):(Go.method 479 263 v "Comparable").run prog w=.ok (288,v) w:=by kernel_rfl
theorem GT:(prog.info? 348).map (·.comparable)=some true:=by kernel_rfl
theorem GV:(prog.info? 367).map (·.size)=some 1:=by kernel_rfl
theorem HB (v:Value)(xT:TypeId)(w:World):(Instr.typeAssert (.iface 348 v) xT 265 true).run prog w=.ok (.tuple #[.nilIface,.bool false]) w:=run_typeAssert_lacksB underlying265 (by kernel_rfl) (by kernel_rfl) v xT w
theorem EE (v:Value)(xT:TypeId)(w:World):(Instr.typeAssert (.iface 348 v) xT 268 true).run prog w=.ok (.tuple #[.nilIface,.bool false]) w:=run_typeAssert_lacksB underlying268 (by kernel_rfl) (by kernel_rfl) v xT w
theorem Em (v:Value)(xT:TypeId)(w:World):(Instr.typeAssert (.iface 348 v) xT 270 true).run prog w=.ok (.tuple #[.nilIface,.bool false]) w:=run_typeAssert_lacksB underlying270 (by kernel_rfl) (by kernel_rfl) v xT w
theorem HC (v:Value)(xT:TypeId)(w:World):(Instr.typeAssert (.iface 99 v) xT 265 true).run prog w=.ok (.tuple #[.nilIface,.bool false]) w:=run_typeAssert_lacksB underlying265 (by kernel_rfl) (by kernel_rfl) v xT w
theorem Ei (v:Value)(xT:TypeId)(w:World):(Instr.typeAssert (.iface 99 v) xT 268 true).run prog w=.ok (.tuple #[.iface 99 v,.bool true]) w:=run_typeAssert_hasB underlying268 (by kernel_rfl) v xT w
theorem Dc (v:Value)(w:World):(Go.method 479 99 v "Unwrap").run prog w=.ok (276,v) w:=by kernel_rfl
theorem Dq (v:Value)(w:World):(callFunc 276 #[v]).run prog w=.ok (.enter 276 #[v]) w:=by kernel_rfl
theorem qg_ (b:Addr)(w:World):
  Calls prog 58 #[.nilIface,.iface 348 (.pointer (some b))] w fun e w'=>e=.returned (.bool false)∧w'=w:=by
 have hn:=run_eql_iface_nil_left (P:=prog) w 348 (.pointer (some b)) underlying94;go_enter func58,ntmps58;go_wp2;go_ret;exact⟨rfl,rfl⟩
theorem lj_ (c:Int)(b:Addr)(w:World):
  Calls prog 58 #[.iface 99 (.agg #[.int .i64 c,.iface 348 (.pointer (some b))]),.iface 348 (.pointer (some b))] w fun e w'=>e=.returned (.bool true)∧Below w.heap.size w w':=by
 obtain⟨i,hi,ha⟩:=ZW.1 GT;obtain⟨j,hj,he⟩:=ZW.1 GV;have h8:=@YX prog 122 _ Extern.ReflectliteType.typeOf func122 (by kernel_rfl) (by kernel_rfl) (by kernel_rfl) (by kernel_rfl);have hb:=@YX prog 288 _ GP func288 (by kernel_rfl) (by kernel_rfl) (by kernel_rfl) (by kernel_rfl);have tT:=Fk;have cT:=Ds;have mR:=Cg;have nE:=HB;have uE:=EE;have vE:=Em;have nW:=HC;have uW:=Ei;have mU:=Dc;have eU:=Dq;have hc:=fun w=>run_eql_iface_ptr_same (P:=prog) w b underlying94 underlying348 hi ha hj;have hf:=fun w=>run_eql_iface_types (P:=prog) 99 348 (.agg #[.int .i64 c,.iface 348 (.pointer (some b))]) (.pointer (some b)) underlying94 (by decide) w;go_enter func58,ntmps58;go_wp2;refine wp_loop_rounds 2 ?_;rw[rounds_succ];go_wp2;rw[rounds_succ];go_wp2;go_ret;exact⟨rfl,by go_grown⟩
theorem jH_ (c:Int)(a b:Addr)(ca cb:Array Value)(ta tb:TypeId)(w:World)(hne:a≠b)(ha:w.heap[a.block]?=some (.cells ca ta (0,0)))(hb:w.heap[b.block]?=some (.cells cb tb (0,0))):
  Calls prog 58 #[.iface 99 (.agg #[.int .i64 c,.iface 348 (.pointer (some a))]),.iface 348 (.pointer (some b))] w fun e w'=>e=.returned (.bool false)∧Below w.heap.size w w':=by
 obtain⟨i,hi,hc⟩:=ZW.1 GT;obtain⟨j,hj,hh⟩:=ZW.1 GV;have h8:=@YX prog 122 _ Extern.ReflectliteType.typeOf func122 (by kernel_rfl) (by kernel_rfl) (by kernel_rfl) (by kernel_rfl);have hk:=@YX prog 288 _ GP func288 (by kernel_rfl) (by kernel_rfl) (by kernel_rfl) (by kernel_rfl);have tT:=Fk;have cT:=Ds;have mR:=Cg;have nE:=HB;have uE:=EE;have vE:=Em;have nW:=HC;have uW:=Ei;have mU:=Dc;have eU:=Dq;have he:=fun (u:World) (hu:Below w.heap.size w u)=>run_eql_iface_ptr_other (P:=prog) u underlying94 underlying348 hi hc hj (by rw[hh];decide) hne (by rw[hu.block _ (ZG.1 ha).1];exact ha) (by rw[hu.block _ (ZG.1 hb).1];exact hb);have hl:=fun w=>run_eql_iface_types (P:=prog) 99 348 (.agg #[.int .i64 c,.iface 348 (.pointer (some a))]) (.pointer (some b)) underlying94 (by decide) w;have hf:=he w (Yg _ _);have hg:=fun ob=>he (w.alloc ob) ((Yg _ _).alloc (Zd _) _);clear he;go_enter func58,ntmps58;go_wp2;refine wp_loop_rounds 2 ?_;rw[rounds_succ];go_wp2;rw[rounds_succ];go_wp2;go_ret;exact⟨rfl,by go_grown⟩
def hnd (t:Nat):Value:=.pointer (some ⟨11,t,none⟩)
def Es:Array Value->Sem Value:=fun args=>ReflectliteValue.unpack (args.getD 0 (.tuple #[]))
def HF:Array Value->Sem Value:=ReflectliteValue.methodAny (ReflectliteValue.valueError "reflectlite.Value.Type" 0) fun t _ _ _=>ReflectliteType.toType t
def GU:Array Value->Sem Value:=ReflectliteValue.method (ReflectliteValue.valueError "reflectlite.Value.IsNil" 0) ReflectliteValue.isNil
def GS:Array Value->Sem Value:=ReflectliteValue.method (ReflectliteValue.valueError "reflectlite.Value.Elem" 0) ReflectliteValue.elem
def GR:Array Value->Sem Value:=ReflectliteType.method ReflectliteType.elem
def GY:Array Value->Sem Value:=ReflectliteType.abiMethod fun t=>do pure (.int .u8 (<-Rtype.kind t))
def Hy:Array Value->Sem Value:=ReflectliteType.relation "Implements" ReflectliteType.implements_
def H9:Array Value->Sem Value:=ReflectliteType.relation "AssignableTo" ReflectliteType.assignableTo
theorem GN (v:Value)(w:World):(Extern.ReflectliteType.typeOf #[.iface 99 v]).run prog w=.ok (.iface 263 (.agg #[.pointer (some ⟨11,99,none⟩)])) w:=by kernel_rfl
theorem FN (q:Addr)(w:World):(Es #[.iface 101 (.pointer (some q))]).run prog w=.ok (.agg #[.pointer (some ⟨11,101,none⟩),.pointer (some ⟨w.heap.size,0,none⟩),.int .u64 150]) (w.alloc (.cells #[.pointer (some q)] 101)):=by kernel_rfl
theorem HM (p:Addr)(w:World):(HF #[.agg #[.pointer (some ⟨11,101,none⟩),.pointer (some p),.int .u64 150]]).run prog w=.ok (.iface 263 (.agg #[.pointer (some ⟨11,101,none⟩)])) w:=by kernel_rfl
theorem EL (h:Value)(w:World):(Go.method 479 263 (.agg #[h]) "Kind").run prog w=.ok (272,h) w:=by kernel_rfl
theorem EJ (v:Value)(w:World):(Go.method 479 263 v "Elem").run prog w=.ok (289,v) w:=by kernel_rfl
theorem EK (v:Value)(w:World):(Go.method 479 263 v "Implements").run prog w=.ok (290,v) w:=by kernel_rfl
theorem E7 (v:Value)(w:World):(Go.method 479 263 v "AssignableTo").run prog w=.ok (287,v) w:=by kernel_rfl
theorem Gr (w:World):(GY #[.pointer (some ⟨11,101,none⟩)]).run prog w=.ok (.int .u8 22) w:=by kernel_rfl
theorem Gs (w:World):(GY #[.pointer (some ⟨11,99,none⟩)]).run prog w=.ok (.int .u8 25) w:=by kernel_rfl
theorem Hg (w:World):(GR #[.agg #[.pointer (some ⟨11,101,none⟩)]]).run prog w=.ok (.iface 263 (.agg #[.pointer (some ⟨11,99,none⟩)])) w:=by kernel_rfl
theorem HL (w:World):(Hy #[.agg #[.pointer (some ⟨11,99,none⟩)],.iface 263 (.agg #[.pointer (some ⟨11,94,none⟩)])]).run prog w=.ok (.bool true) w:=by kernel_rfl
theorem H7 (w:World):(H9 #[.agg #[.pointer (some ⟨11,99,none⟩)],.iface 263 (.agg #[.pointer (some ⟨11,99,none⟩)])]).run prog w=.ok (.bool true) w:=by kernel_rfl
theorem FO (c:Int)(a:Addr)(w:World):(Es #[.iface 99 (.agg #[.int .i64 c,.iface 348 (.pointer (some a))])]).run prog w=.ok (.agg #[.pointer (some ⟨11,99,none⟩),.pointer (some ⟨w.heap.size,0,none⟩),.int .u64 153]) (w.alloc (.cells #[.int .i64 c,.iface 348 (.pointer (some a))] 99)):=by kernel_rfl
theorem Fm (p:Addr)(w:World):(ReflectliteValue.parts (.agg #[.pointer (some ⟨11,101,none⟩),.pointer (some p),.int .u64 150])).run prog w=.ok (some (101,p,150)) w:=by kernel_rfl
theorem G1 (p:Addr)(w:World):(ReflectliteValue.parts (.agg #[.pointer (some ⟨11,99,none⟩),.pointer (some p),.int .u64 153])).run prog w=.ok (some (99,p,153)) w:=by kernel_rfl
theorem G0 (p:Addr)(w:World):(ReflectliteValue.parts (.agg #[.pointer (some ⟨11,99,none⟩),.pointer (some p),.int .u64 409])).run prog w=.ok (some (99,p,409)) w:=by kernel_rfl
theorem GM (w:World):(Rtype.directlyAssignable 99 99).run prog w=.ok true w:=by kernel_rfl
theorem Hf (w:World):(Rtype.elem? 101).run prog w=.ok (some 99) w:=by kernel_rfl
theorem Im (p:Addr)(w:World):(ReflectliteValue.mk 99 p ReflectliteValue.flagAddr).run prog w=.ok (.agg #[.pointer (some ⟨11,99,none⟩),.pointer (some p),.int .u64 409]) w:=by kernel_rfl
theorem Hi (p q:Addr)(w:World)(h:(loadVar 101 p).run prog w=.ok (.pointer (some q)) w):(GU #[.agg #[.pointer (some ⟨11,101,none⟩),.pointer (some p),.int .u64 150]]).run prog w=.ok (.bool false) w:=by
 show Sem.run prog (bind (ReflectliteValue.parts (.agg #[.pointer (some ⟨11,101,none⟩),.pointer (some p),.int .u64 150])) _) w=_;simp[Fm,ReflectliteValue.isNil,h]
theorem Hh (p q:Addr)(w:World)(h:(loadVar 101 p).run prog w=.ok (.pointer (some q)) w):(GS #[.agg #[.pointer (some ⟨11,101,none⟩),.pointer (some p),.int .u64 150]]).run prog w=.ok (.agg #[.pointer (some ⟨11,99,none⟩),.pointer (some q),.int .u64 409]) w:=by
 show Sem.run prog (bind (ReflectliteValue.parts (.agg #[.pointer (some ⟨11,101,none⟩),.pointer (some p),.int .u64 150])) _) w=_;simp[Fm,ReflectliteValue.elem,h,Hf,Im]
theorem H8 (p q:Addr)(v:Value)(w w':World)(h:(loadVar 99 q).run prog w=.ok v w)(h':(storeVar 99 p v).run prog w=.ok () w'):(ReflectliteValue.set #[.agg #[.pointer (some ⟨11,99,none⟩),.pointer (some p),.int .u64 409],.agg #[.pointer (some ⟨11,99,none⟩),.pointer (some q),.int .u64 153]]).run prog w=.ok (.tuple #[]) w':=by
 show Sem.run prog (bind (ReflectliteValue.parts (.agg #[.pointer (some ⟨11,99,none⟩),.pointer (some p),.int .u64 409])) (fun _=>bind (ReflectliteValue.parts (.agg #[.pointer (some ⟨11,99,none⟩),.pointer (some q),.int .u64 153])) _)) w=_;simp[G0,G1,h,GM,h',ReflectliteValue.flagAddr]
theorem qh_ (t:Value)(w:World):
  Calls prog 59 #[.nilIface,t] w fun e w'=>e=.returned (.bool false)∧w'=w:=by
 go_enter func59,ntmps59;go_wp2;go_ret;exact⟨rfl,rfl⟩
theorem lk_ (p q:Addr)(w:World)(h:w.cell? p=some (.pointer (some q))):(loadVar 101 p).run prog w=.ok (.pointer (some q)) w:=by
 simp[loadVar,isAgg,underlying,underlying101,h,Result.andThen]
theorem Hr:(prog.info? 99).map (·.size)=some 2:=by kernel_rfl
theorem o3_ (b:Nat)(x y:Value)(w:World)(h:Blk w b #[x,y] 99):(loadVar 99 ⟨b,0,none⟩).run prog w=.ok (.agg #[x,y]) w:=
 run_loadVar_row w b 99 99 #[x,y] _ _ h underlying99 rfl Hr
theorem nU_ (b:Nat)(c0 c1:Value)(c:Int)(a:Addr)(w:World)(h:Blk w b #[c0,c1] 99):(storeVar 99 ⟨b,0,none⟩ (.agg #[.int .i64 c,.iface 348 (.pointer (some a))])).run prog w=.ok () ((w.setCell ⟨b,0,none⟩ (.int .i64 c)).setCell ⟨b,1,none⟩ (.iface 348 (.pointer (some a)))):=by
 have x0:w.cell? ⟨b,0,none⟩=some c0:=h.cell 0;have f0:=h.frozen 0;have h1:=h.set 0 (.int .i64 c);have x1:(w.setCell ⟨b,0,none⟩ (.int .i64 c)).cell? ⟨b,1,none⟩=some c1:=by rw[h1.cell];rfl
 have f1:=h1.frozen 1;simp[storeVar,Value.cells,storeCells,Addr.add];rw[run_store prog w ⟨b,0,none⟩ _ _ (by rfl)];simp[x0,f0,Result.andThen];rw[run_store prog _ ⟨b,1,none⟩ _ _ (by rfl)];simp[x1,f1]
theorem qi_ (c:Int)(a:Addr)(b:Nat)(c0 c1:Value)(w:World)(hg:w.cell? ⟨3,0,none⟩=some (.iface 263 (.agg #[.pointer (some ⟨11,94,none⟩)])))(hb:Blk w b #[c0,c1] 99):
  Calls prog 59 #[.iface 99 (.agg #[.int .i64 c,.iface 348 (.pointer (some a))]),.iface 101 (.pointer (some ⟨b,0,none⟩))] w fun e w'=>e=.returned (.bool true)∧Blk w' b #[.int .i64 c,.iface 348 (.pointer (some a))] 99∧w.grownBy w' (some b):=by
 have hV:=@YX prog 124 _ Es func124 (by kernel_rfl) (by kernel_rfl) (by kernel_rfl) (by kernel_rfl);have hT:=@YX prog 125 _ HF func125 (by kernel_rfl) (by kernel_rfl) (by kernel_rfl) (by kernel_rfl);have hN:=@YX prog 126 _ GU func126 (by kernel_rfl) (by kernel_rfl) (by kernel_rfl) (by kernel_rfl);have hK:=@YX prog 272 _ GY func272 (by kernel_rfl) (by kernel_rfl) (by kernel_rfl) (by kernel_rfl);have hE:=@YX prog 289 _ GR func289 (by kernel_rfl) (by kernel_rfl) (by kernel_rfl) (by kernel_rfl);have hI:=@YX prog 290 _ Hy func290 (by kernel_rfl) (by kernel_rfl) (by kernel_rfl) (by kernel_rfl);have hO:=@YX prog 122 _ Extern.ReflectliteType.typeOf func122 (by kernel_rfl) (by kernel_rfl) (by kernel_rfl) (by kernel_rfl);have hS:=@YX prog 287 _ H9 func287 (by kernel_rfl) (by kernel_rfl) (by kernel_rfl) (by kernel_rfl);have hL:=@YX prog 185 _ GS func185 (by kernel_rfl) (by kernel_rfl) (by kernel_rfl) (by kernel_rfl);have hQ:=@YX prog 186 _ ReflectliteValue.set func186 (by kernel_rfl) (by kernel_rfl) (by kernel_rfl) (by kernel_rfl);have t1:=GN;have t2:=FN;have t3:=HM;have t4:=EL;have t5:=EJ;have t6:=EK;have t7:=E7;have t8:=Gr;have t9:=Gs;have ta:=Hg;have tb:=HL;have tc:=H7;have td:=FO;obtain⟨W1,hf⟩:∃ W,W=w.alloc (.cells #[.pointer (some ⟨b,0,none⟩)] 101):=⟨_,rfl⟩;obtain⟨W2,ha⟩:∃ W,W=(w.alloc (.cells #[.pointer (some ⟨b,0,none⟩)] 101)).alloc (.cells #[.pointer (some ⟨11,101,none⟩),.pointer (some ⟨w.heap.size,0,none⟩),.int .u64 150] 177):=⟨_,rfl⟩;obtain⟨W3,he⟩:∃ W,W=((w.alloc (.cells #[.pointer (some ⟨b,0,none⟩)] 101)).alloc (.cells #[.pointer (some ⟨11,101,none⟩),.pointer (some ⟨w.heap.size,0,none⟩),.int .u64 150] 177)).alloc (.cells #[.pointer (some ⟨11,101,none⟩),.pointer (some ⟨w.heap.size,0,none⟩),.int .u64 150] 177):=⟨_,rfl⟩;obtain⟨W4,hc⟩:∃ W,W=(((w.alloc (.cells #[.pointer (some ⟨b,0,none⟩)] 101)).alloc (.cells #[.pointer (some ⟨11,101,none⟩),.pointer (some ⟨w.heap.size,0,none⟩),.int .u64 150] 177)).alloc (.cells #[.pointer (some ⟨11,101,none⟩),.pointer (some ⟨w.heap.size,0,none⟩),.int .u64 150] 177)).alloc (.cells #[.int .i64 c,.iface 348 (.pointer (some a))] 99):=⟨_,rfl⟩;have B2:Below w.heap.size w W2:=by rw[ha];go_grown
 have B4:Below w.heap.size w W4:=by rw[hc];go_grown
 have p2:Blk W2 w.heap.size #[.pointer (some ⟨b,0,none⟩)] 101:=by rw[ha];exact (Blk.new w _ _).alloc _
 have p3:Blk W3 w.heap.size #[.pointer (some ⟨b,0,none⟩)] 101:=by rw[he];exact ((Blk.new w _ _).alloc _).alloc _
 have r4:Blk W4 (w.heap.size+1+1+1) #[.int .i64 c,.iface 348 (.pointer (some a))] 99:=by rw[hc];exact Blk.new' _ _ _ _ (by simp)
 have b4:=hb.below B4;have hj:=hb.lt;have n1:=Hi ⟨w.heap.size,0,none⟩ ⟨b,0,none⟩ W2 (lk_ _ _ _ (p2.cell 0));have n2:=Hh ⟨w.heap.size,0,none⟩ ⟨b,0,none⟩ W3 (lk_ _ _ _ (p3.cell 0));have n3:=H8 ⟨b,0,none⟩ ⟨w.heap.size+1+1+1,0,none⟩ _ W4 _ (o3_ _ _ _ _ r4) (nU_ b c0 c1 c a W4 b4);have hh:=Ab B2 hg
 have E8:Blk ((W4.setCell ⟨b,0,none⟩ (.int .i64 c)).setCell ⟨b,1,none⟩ (.iface 348 (.pointer (some a)))) b #[.int .i64 c,.iface 348 (.pointer (some a))] 99:=by
  have:=(b4.set 0 (.int .i64 c)).set 1 (.iface 348 (.pointer (some a)))
  simpa using this
 have G8:w.grownBy ((W4.setCell ⟨b,0,none⟩ (.int .i64 c)).setCell ⟨b,1,none⟩ (.iface 348 (.pointer (some a)))) (some b):=af_ (af_ (au_ (Yh _ _) B4) _ _) _ _;rw[ha] at n1 hh;rw[he] at n2;rw[hc] at n3 E8 G8;clear hf ha he hc B2 B4 p2 p3 r4 b4;go_enter func59,ntmps59;go_wp2;refine wp_loop_rounds 1 ?_;rw[rounds_succ];go_wp2;go_ret;exact⟨rfl,E8,G8⟩
end
section
open Go Go.RowKit Go.BigFrame _root_.Go.Proofs.Tryz
variable{B i k0 n:Nat}{a:Option Addr}{p:Po}{v:Value}{w w':World}
structure EX (S:Addr->Prop)(ep:Addr)(w:World):Prop where
 s:BR S w
 pool:BD w 0 ep
 ne:∀ a,S a->a≠ep
 blk:∃ c t,w.heap[ep.block]?=some (.cells c t (0,0))
 blks:∀ a,S a->∃ c t,w.heap[a.block]?=some (.cells c t (0,0))
 ty:w.cell? ⟨3,0,none⟩=some (.iface 263 (.agg #[.pointer (some ⟨11,94,none⟩)]))
theorem EX.below {S:Addr->Prop}{ep:Addr}(h:EX S ep w)(hb:Below w.heap.size w w'):EX S ep w':=by
 refine⟨h.s.below hb,h.pool.below hb,h.ne,?_,fun a ha=>?_,Ab hb h.ty⟩
 ·obtain⟨c,t,hc⟩:=h.blk;exact⟨c,t,(hb.block _ (ZG.1 hc).1).trans hc⟩
 ·obtain⟨c,t,hc⟩:=h.blks a ha;exact⟨c,t,(hb.block _ (ZG.1 hc).1).trans hc⟩
def Dn (B:Nat)(w:World)(v:Value)(p:Po):Prop:=∃ rows,BI B w v p rows
theorem Dn.below (h:Dn B w v p)(hb:Below w.heap.size w w'):Dn B w' v p:=by
 obtain⟨rows,h⟩:=h;exact⟨rows,h.below hb⟩
theorem Dn.mono {B':Nat}(h:Dn B w v p)(hb:B'<=B):Dn B' w v p:=by
 obtain⟨rows,h⟩:=h;exact⟨rows,h.mono hb⟩
theorem Dn.t (h:Dn B w v p):Am B w v p:=by
 obtain⟨rows,h⟩:=h;exact h.t
theorem mr_ (B:Nat)(w:World):BI B w (.agg #[.int .i64 0,.int .i64 0,.slice none 0 0,.slice none 0 0,.slice none 0 0,.slice none 0 0]) ⟨0,0,[],[],[],[]⟩ []:=⟨_,_,_,_,_,_,_,_,_,_,_,_,rfl,aB_,⟨aB_,Ay.nil _ _⟩,aB_,aB_,(fun x y h=>by cases h),(fun i j r s x y _ h=>by simp at h),List.nodup_nil⟩
def Ik (S:Addr->Prop)(ep:Addr)(B:Nat)(p:Po)(o:Opr)(e:Ending)(w':World):Prop:=
 (Ai p=false∧e=.returned (.tuple #[Eu,BL 1 ep]))∨(Ai p=true∧∃ c a,S a∧e=.returned (.tuple #[Eu,BL c a])∧opS p o=(c,p))∨(Ai p=true∧∃ v q rows,e=.returned (.tuple #[v,.nilIface])∧BI B w' v q rows∧AC q∧opS p o=(0,q))
theorem ms_ (S:Addr->Prop)(ep:Addr)(B0:Nat)(hB0:0<B0)(v:Value)(p:Po)(o:Opr)(w:World)(h:AG B0 w v p)(hd:AC p)(hso:BC o)(hE:EX S ep w)(hgl:11<=w.heap.size):
  Calls prog 57 #[v,.agg #[.int .i64 o.k,.string o.vol,.string o.file,.string o.to,.string o.into,.int .i64 o.at',.int .i64 o.fr,.int .i64 o.ln,.string o.data]] w fun e w'=>Ik S ep w.heap.size p o e w'∧Below w.heap.size w w':=by
 cases hp:Ai p
 ·refine (li_ ep B0 v p o w h hd hp hE.pool).mono ?_;rintro e w' ⟨rfl,hB⟩;exact⟨.inl ⟨hp,rfl⟩,hB⟩
 ·cases ho:opB o
  ·obtain⟨a,ha,hg⟩:=hE.s.op;refine (mq_ a B0 v p o w h hd hp ho hso ha).mono ?_;rintro e w' ⟨rfl,hB⟩;exact⟨.inr (.inl ⟨hp,2,a,hg,rfl,by unfold opS;rw[ho];rfl⟩),hB⟩
  ·refine (nT_ S B0 hB0 v p o w h hd hp ho hso hE.s hgl).mono ?_;rintro e w' ⟨hb,hB⟩;refine⟨?_,hB⟩;have hc:=o1_ hp ho;unfold GO at hb
   cases hr:Dy p o.k o.vol o.file o.to o.into o.at' o.fr o.ln o.data with
   |inl c=>
    rw[hr] at hc hb;obtain⟨a,ha,he⟩:=hb;exact .inr (.inl ⟨hp,c,a,ha,he,hc.symm⟩)
   |inr q=>
    rw[hr] at hc hb
    cases hk:Ai (A7 p q)
    ·simp only[Hk,hk,Zj,if_false] at hb;obtain⟨a,ha,he⟩:=hb;simp only[Cf,hk,Zj,if_false] at hc;exact .inr (.inl ⟨hp,5,a,ha,he,hc.symm⟩)
    ·simp only[Hk,hk,if_true] at hb;obtain⟨v',rows,he,hT,hf⟩:=hb;simp only[Cf,hk,if_true] at hc;exact .inr (.inr ⟨hp,v',_,rows,he,hT,hf,hc.symm⟩)
theorem nV_ (S:Addr->Prop)(ep:Addr)(B0:Nat)(hB0:0<B0)(v:Value)(p:Po)(o:Opr)(w:World)(h:AG B0 w v p)(hd:AC p)(hso:BC o)(hE:EX S ep w)(hgl:11<=w.heap.size):
  Calls prog 19 #[v,.agg #[.int .i64 o.k,.string o.vol,.string o.file,.string o.to,.string o.into,.int .i64 o.at',.int .i64 o.fr,.int .i64 o.ln,.string o.data]] w fun e w'=>(∃ v' c,e=.returned (.tuple #[v',.int .i64 c])∧c=(Br p o).1∧Dn w.heap.size w' v' (Br p o).2∧AC (Br p o).2)∧Below w.heap.size w w':=by
 have hA:=h;obtain⟨ea,en,ec,va,vn,vc,ra,rn,rc,la,ln,lc,rfl,_⟩:=h;obtain⟨R,hR⟩:∃ R,Hid (Br p o=R):=⟨_,rfl⟩;rw[hR.out];go_enter func19,ntmps19
 go_wp2_with fail
 have hs:Below w.heap.size w (((w.alloc (.cells #[.int .i64 p.size,.int .i64 p.next,.slice ea en ec,.slice va vn vc,.slice ra rn rc,.slice la ln lc] 35)).alloc (.cells #[.int .i64 o.k,.string o.vol,.string o.file,.string o.to,.string o.into,.int .i64 o.at',.int .i64 o.fr,.int .i64 o.ln,.string o.data] 39)).alloc (.cells #[.int .i64 0,.int .i64 0,.slice none 0 0,.slice none 0 0,.slice none 0 0,.slice none 0 0] 35)):=by go_grown
 refine (ms_ S ep B0 hB0 _ p o _ (hA.below hs) hd hso (hE.below hs) (Zl hgl hs.size)).mono ?_;rintro e w1 ⟨hx,hl⟩;clear hs;have hc:Below w.heap.size w w1:=Aa (by go_grown) hl;have C:Blk w1 w.heap.size #[.int .i64 p.size,.int .i64 p.next,.slice ea en ec,.slice va vn vc,.slice ra rn rc,.slice la ln lc] 35:=(((Blk.new w _ _).alloc _).alloc _).below hl;have D:Blk w1 (w.heap.size+2) #[.int .i64 0,.int .i64 0,.slice none 0 0,.slice none 0 0,.slice none 0 0,.slice none 0 0] 35:=(Blk.new' _ _ _ _ (by simp)).below hl;have hG:w.heap.size+3<=w1.heap.size:=by have:=hl.size;simp at this;omega
 clear hl;replace hE:=hE.below hc;rcases hx with⟨hp,rfl⟩ | ⟨hp,c,a,hC,rfl,hS⟩ | ⟨hp,v',q,rows,rfl,PT,hH,hS⟩
 ·have hq:R=(1,⟨0,0,[],[],[],[]⟩):=by rw[<-hR.out];unfold Br;rw[hp];rfl
  subst hq;clear hR;have hr:=fun ob=>Ah (w:=w1) ob hE.pool;unfold Eu BL
  go_wp2_with fail
  refine (lj_ 1 ep _).mono ?_;rintro e w2 ⟨rfl,hb⟩;have he:Below w1.heap.size w1 (w1.alloc (.cells #[.int .i64 0,.int .i64 0,.slice none 0 0,.slice none 0 0,.slice none 0 0,.slice none 0 0] 35)):=(Yg _ _).alloc (Zd _) _;replace hb:=Aa he hb;replace D:=D.below hb;have ha:=Aa hc hb;clear hr he hb;obtain⟨x0,x1,x2,x3,x4,x5⟩:=D.six';obtain⟨f0,f1,f2,f3,f4,f5⟩:=fz6 D;go_wp2;obtain⟨W8,hh,W0,hg⟩:=AV D (.int .i64 0) (.int .i64 0) (.slice none 0 0) (.slice none 0 0) (.slice none 0 0) (.slice none 0 0);rw[<-hh];clear hh;refine YW (ad_ rfl _ W8 (w.heap.size+2) _ _ _ _ _ rfl W0 underlying35 rfl (by kernel_rfl) rfl) rfl ?_;exact⟨⟨_,1,rfl,rfl,⟨[],mr_ _ _⟩,k7_⟩,ha.grown hg ha.size (fun j e=>by cases e;omega)⟩
 ·have hq:Hid (R=(c,p)):=by show _=_;rw[<-hR.out];unfold Br;rw[hp,if_pos rfl];exact hS
  clear hR hS;have hr:=fun ob=>Ah (w:=w1) ob hE.pool;unfold Eu BL
  go_wp2_with fail
  have he:Below w1.heap.size w1 (w1.alloc (.cells #[.int .i64 0,.int .i64 0,.slice none 0 0,.slice none 0 0,.slice none 0 0,.slice none 0 0] 35)):=(Yg _ _).alloc (Zd _) _;have hw:=hE.below he;obtain⟨ca,ta,hD⟩:=hw.blks a hC;obtain⟨cb,tb,hF⟩:=hw.blk;refine (jH_ c a ep ca cb ta tb _ (hE.ne a hC) hD hF).mono ?_;rintro e w2 ⟨rfl,hb⟩;replace hb:=Aa he hb;replace C:=C.below hb;replace D:=D.below hb;replace hE:=hE.below hb;have ha:=Aa hc hb;have hI:w.heap.size+3<=w2.heap.size:=Zl hG hb.size;clear hr he hb hw hD hF hc hG
  go_wp2_with fail
  have hj:Below w2.heap.size w2 (w2.alloc (.cells #[.int .i64 0,.nilIface] 99)):=(Yg _ _).alloc (Zd _) _;have X:=Blk.new w2 #[.int .i64 0,.nilIface] 99;replace C:=C.below hj;replace D:=D.below hj;replace hE:=hE.below hj;have hf:=Aa ha hj;have hJ:=hj.size;generalize w2.alloc (.cells #[.int .i64 0,.nilIface] 99)=w3 at *;refine (qi_ c a w2.heap.size _ _ w3 hE.ty X).mono ?_;rintro e w4 ⟨rfl,X4,g4⟩;have C4:=C.grown g4 (by omega);have D4:=D.grown g4 (by omega);have hn:=hf.grown g4 hf.size (fun j e=>by cases e;omega);have hM:=g4.size;clear C D X hj ha hE;obtain⟨c0,c1,c2,c3,c4,c5⟩:=C4.six';have k0:w4.cell? ⟨w2.heap.size,0,none⟩=some (.int .i64 c):=X4.cell 0
  go_wp2_with fail
  have hB:∀ u:World,Below w4.heap.size w4 u->(u.cell? ⟨w.heap.size,0,none⟩=some (.int .i64 p.size)∧u.cell? ⟨w.heap.size,1,none⟩=some (.int .i64 p.next)∧u.cell? ⟨w.heap.size,2,none⟩=some (.slice ea en ec)∧u.cell? ⟨w.heap.size,3,none⟩=some (.slice va vn vc)∧u.cell? ⟨w.heap.size,4,none⟩=some (.slice ra rn rc)∧u.cell? ⟨w.heap.size,5,none⟩=some (.slice la ln lc))∧u.cell? ⟨w2.heap.size,0,none⟩=some (.int .i64 c):=fun u hu=>⟨(C4.below hu).six',Ab hu k0⟩;clear c0 c1 c2 c3 c4 c5;have hL:(fun u:World=>(u.cell? ⟨w.heap.size,0,none⟩=some (.int .i64 p.size)∧u.cell? ⟨w.heap.size,1,none⟩=some (.int .i64 p.next)∧u.cell? ⟨w.heap.size,2,none⟩=some (.slice ea en ec)∧u.cell? ⟨w.heap.size,3,none⟩=some (.slice va vn vc)∧u.cell? ⟨w.heap.size,4,none⟩=some (.slice ra rn rc)∧u.cell? ⟨w.heap.size,5,none⟩=some (.slice la ln lc))∧u.cell? ⟨w2.heap.size,0,none⟩=some (.int .i64 c)) w4.drew:=(hB _ (Yg _ _).drew);refine aC_ (S:=(fun u:World=>(u.cell? ⟨w.heap.size,0,none⟩=some (.int .i64 p.size)∧u.cell? ⟨w.heap.size,1,none⟩=some (.int .i64 p.next)∧u.cell? ⟨w.heap.size,2,none⟩=some (.slice ea en ec)∧u.cell? ⟨w.heap.size,3,none⟩=some (.slice va vn vc)∧u.cell? ⟨w.heap.size,4,none⟩=some (.slice ra rn rc)∧u.cell? ⟨w.heap.size,5,none⟩=some (.slice la ln lc))∧u.cell? ⟨w2.heap.size,0,none⟩=some (.int .i64 c))) 6 (by kernel_rfl) rfl ?_;refine tk 0 ?_ (hy:=by intro u hu;obtain⟨⟨u0,u1,u2,u3,u4,u5⟩,u6⟩:=hu;go_simp<;>with_reducible rfl);refine tk 2 ?_;refine tk 3 ?_ (hy:=by intro u hu;obtain⟨⟨u0,u1,u2,u3,u4,u5⟩,u6⟩:=hu;go_simp<;>with_reducible rfl);refine AX (i:=1) (by kernel_rfl) rfl (fun K hK=>?_);go_simp;refine (ff_ B0 hB0 _ p w4.drew (hA.below hn.drew) (m2_ hd)).mono ?_;rintro e w5 ⟨⟨v',rows,rfl,PU⟩,hv⟩;have hk:Below w4.heap.size w4 w5:=Aa (Yg _ w4).drew hv;have PT:=PU;obtain⟨ea',en',ec',va',vn',vc',ra',rn',rc',la',ln',lc',rfl,_⟩:=PU;have D5:=D4.below hk;have ho:=Aa hn hk;have hN:=hk.size;dsimp only;refine hK.out _ _ (hB _ hk) (fun hHeld=>?_);clear hK K
  try simp only[Act.put,lsA,lsB,lsC]
  obtain⟨x0,x1,x2,x3,x4,x5⟩:=D5.six';obtain⟨f0,f1,f2,f3,f4,f5⟩:=fz6 D5;refine AX (i:=4) (by kernel_rfl) rfl (fun K hK=>?_);go_simp;obtain⟨W8,hh,W0,hg⟩:=AV D5 (.int .i64 p.size) (.int .i64 p.next) (.slice ea' en' ec') (.slice va' vn' vc') (.slice ra' rn' rc') (.slice la' ln' lc');rw[<-hh];clear hh;have PF:=(PT.tyP hg (aa_ D5)).mono (show w.heap.size<=w4.heap.size by omega);have C6:=(C4.below hk).grown hg (by omega);have X6:=(X4.below hk).grown hg (by omega);refine hK.out _ _ ⟨C6.six',X6.cell 0⟩ (fun hHeld=>?_);clear hK K
  try simp only[Act.put,lsA,lsB,lsC]
  refine tk 5 ?_;refine wpAnyH_done (by kernel_rfl) ?_ _;go_wp2;refine YW (ad_ rfl _ W8 (w.heap.size+2) _ _ _ _ _ rfl W0 underlying35 rfl (by kernel_rfl) rfl) rfl ?_;rw[hq.out];exact⟨⟨_,c,rfl,rfl,⟨_,PF⟩,hd⟩,ho.grown hg ho.size (fun j e=>by cases e;omega)⟩
 ·have hq:Hid (R=(0,q)):=by show _=_;rw[<-hR.out];unfold Br;rw[hp,if_pos rfl];exact hS
  clear hR hS;have hz:=PT;obtain⟨ea',en',ec',va',vn',vc',ra',rn',rc',la',ln',lc',rfl,_⟩:=PT;have hr:=fun ob=>Ah (w:=w1) ob hE.pool
  go_wp2_with fail
  have he:Below w1.heap.size w1 (w1.alloc (.cells #[.int .i64 q.size,.int .i64 q.next,.slice ea' en' ec',.slice va' vn' vc',.slice ra' rn' rc',.slice la' ln' lc'] 35)):=(Yg _ _).alloc (Zd _) _;have Q:=Blk.new w1 #[.int .i64 q.size,.int .i64 q.next,.slice ea' en' ec',.slice va' vn' vc',.slice ra' rn' rc',.slice la' ln' lc'] 35;replace D:=D.below he;have ht:=hz.below he;have ha:=Aa hc he;have hI:=he.size;clear hr hz hc;generalize w1.alloc (.cells #[.int .i64 q.size,.int .i64 q.next,.slice ea' en' ec',.slice va' vn' vc',.slice ra' rn' rc',.slice la' ln' lc'] 35)=w2 at *;refine (qg_ ep w2).mono ?_;rintro e w3 ⟨rfl,rfl⟩
  go_wp2_with fail
  have hm:Below w3.heap.size w3 (w3.alloc (.cells #[.int .i64 0,.nilIface] 99)):=(Yg _ _).alloc (Zd _) _;replace D:=D.below hm;replace Q:=Q.below hm;replace ht:=ht.below hm;have hf:=Aa ha hm;have hJ:=hm.size;generalize w3.alloc (.cells #[.int .i64 0,.nilIface] 99)=w4 at *;refine (qh_ _ w4).mono ?_;rintro e w5 ⟨rfl,rfl⟩;obtain⟨y0,y1,y2,y3,y4,y5⟩:=Q.six';obtain⟨x0,x1,x2,x3,x4,x5⟩:=D.six';obtain⟨f0,f1,f2,f3,f4,f5⟩:=fz6 D;go_wp2;obtain⟨W8,hh,W0,hg⟩:=AV D (.int .i64 q.size) (.int .i64 q.next) (.slice ea' en' ec') (.slice va' vn' vc') (.slice ra' rn' rc') (.slice la' ln' lc');have PF:=(ht.tyP hg (aa_ D)).mono (show w.heap.size<=_ by simp;omega);rw[<-hh];clear hh;refine YW (ad_ rfl _ W8 (w.heap.size+2) _ _ _ _ _ rfl W0 underlying35 rfl (by kernel_rfl) rfl) rfl ?_;rw[hq.out];exact⟨⟨_,0,rfl,rfl,⟨_,PF⟩,hH⟩,hf.grown hg hf.size (fun j e=>by cases e;omega)⟩
structure IQ where
 nm:ByteArray
 a:Option Addr
 n:Nat
 c:Nat
end
section
open Go Go.RowKit Go.BigFrame _root_.Go.Proofs.Tryz
variable{n:Nat}{a:Option Addr}
variable{irs:List IQ}
structure VQ where
 id:Int
 nm:ByteArray
 fx:Bool
 a:Option Addr
 n:Nat
 c:Nat
 irs:List IQ
end
section
open Go Go.RowKit Go.BigFrame _root_.Go.Proofs.Tryz
variable{α:Type}{ad:Addr}{L:List Nat}{B b i n:Nat}{a:Option Addr}{v:Value}{w w':World}{l:List α}
variable{x:IQ}
def IQ.cs (x:IQ):List Value:=[.string x.nm,.slice x.a x.n x.c]
def VQ.cs (x:VQ):List Value:=[.int .i64 x.id,.string x.nm,.bool x.fx,.slice x.a x.n x.c]
structure Chg (L:List Nat)(w w':World):Prop where
 os:w'.os=w.os
 tape:w'.tape=w.tape
 output:w'.output=w.output
 size:w.heap.size<=w'.heap.size
 block:∀ k,k<w.heap.size->k∉L->w'.heap[k]?=w.heap[k]?
theorem Chg.refl (L:List Nat)(w:World):Chg L w w:=⟨rfl,rfl,rfl,Zd _,fun _ _ _=>rfl⟩
theorem Chg.mono {L':List Nat}(h:Chg L w w')(hL:∀ k∈L,k∈L'):Chg L' w w':=⟨h.os,h.tape,h.output,h.size,fun k hk hn=>h.block k hk (fun e=>hn (hL k e))⟩
theorem Chg.trans {a b c:World}(h:Chg L a b)(h':Chg L b c):Chg L a c:=⟨h'.os.trans h.os,h'.tape.trans h.tape,h'.output.trans h.output,Zl h.size h'.size,fun k hk hn=>(h'.block k (Zy hk h.size) hn).trans (h.block k hk hn)⟩
theorem Chg.cell (h:Chg L w w'){o:Nat}(hc:w.cell? ⟨b,o,none⟩=some v)(hb:b∉L):w'.cell? ⟨b,o,none⟩=some v:=by
 have hl:b<w.heap.size:=Yk w ⟨b,o,none⟩ hc;unfold World.cell? at hc ⊢;simp only at hc ⊢;rw[h.block b hl hb];exact hc
theorem Chg.blk {t:TypeId}(h:Chg L w w'){c:Array Value}(hc:Blk w b c t)(hb:b∉L):Blk w' b c t:=(h.block b hc.lt hb).trans hc
theorem Ae.chg {t:TypeId}{cs:α->List Value}{sz:Nat}{cap:Nat}(h:Ae cs sz t w B a n cap l)(hc:Chg L w w')(hn:∀ ad,a=some ad->ad.block∉L):Ae cs sz t w' B a n cap l:=by
 refine⟨⟨h.sl.len,fun i x hx=>?_⟩,?_⟩
 ·obtain⟨b,o,ha,hq⟩:=h.sl.cell i x hx;exact⟨b,o,ha,fun j v hv=>hc.cell (hq j v hv) (hn _ ha)⟩
 ·rcases h.own with h0 | ⟨b,ha,hB,h1,h2,c,hb,q⟩
  ·exact .inl h0
  ·exact .inr ⟨b,ha,hB,h1,h2,c,hc.blk hb (hn _ ha),q⟩
end
section
open Go Go.ChangeShapes Go.WideShapes Go.RowKit Go.BigFrame _root_.Go.Proofs.Tryz
variable{H:Type}{a_errAfter a_errBytes a_errFile a_errFixed a_errOp a_errParts a_errRoom a_errThere a_errVolume ep:Addr}{W W':World}
theorem Io:prog.globalNamed "errors.errorType"=some 3:=by kernel_rfl
theorem rtL:(prog.cutTypes.find? (·.1=="internal/reflectlite.rtype")).map (·.2)=some 263:=by kernel_rfl
theorem Ig:prog.types.size=379:=by kernel_rfl
theorem Hp:((List.range 379).filter fun t=>prog.rowNamed t [101,114,114,111,114])=[94]:=by kernel_rfl
theorem ih_:prog.globalNamed "loop.example/g00336/impl.errPool"=some 0:=by kernel_rfl
theorem mt_:(prog.globals[0]?).map (·.type)=some 94:=by kernel_rfl
theorem lr_:prog.globalNamed "loop.example/g00336/impl.errOp"=some 1:=by kernel_rfl
theorem pd_:(prog.globals[1]?).map (·.type)=some 94:=by kernel_rfl
theorem gb_:prog.globalNamed "loop.example/g00336/impl.errVolume"=some 4:=by kernel_rfl
theorem jM_:(prog.globals[4]?).map (·.type)=some 94:=by kernel_rfl
theorem ii_:prog.globalNamed "loop.example/g00336/impl.errFile"=some 8:=by kernel_rfl
theorem mu_:(prog.globals[8]?).map (·.type)=some 94:=by kernel_rfl
theorem gO_:prog.globalNamed "loop.example/g00336/impl.errBytes"=some 9:=by kernel_rfl
theorem ls_:(prog.globals[9]?).map (·.type)=some 94:=by kernel_rfl
theorem gP_:prog.globalNamed "loop.example/g00336/impl.errThere"=some 6:=by kernel_rfl
theorem lt_:(prog.globals[6]?).map (·.type)=some 94:=by kernel_rfl
theorem gQ_:prog.globalNamed "loop.example/g00336/impl.errFixed"=some 5:=by kernel_rfl
theorem lu_:(prog.globals[5]?).map (·.type)=some 94:=by kernel_rfl
theorem ij_:prog.globalNamed "loop.example/g00336/impl.errRoom"=some 7:=by kernel_rfl
theorem mv_:(prog.globals[7]?).map (·.type)=some 94:=by kernel_rfl
theorem gR_:prog.globalNamed "loop.example/g00336/impl.errParts"=some 10:=by kernel_rfl
theorem lv_:(prog.globals[10]?).map (·.type)=some 94:=by kernel_rfl
theorem gS_:prog.globalNamed "loop.example/g00336/impl.errAfter"=some 2:=by kernel_rfl
theorem lw_:(prog.globals[2]?).map (·.type)=some 94:=by kernel_rfl
def CS:List (String×DataW Unit):=[("errors.errorType",Rows.laid_errors_errorType),("loop.example/g00336/impl.errPool",Rows.laid_loop_example_g00336_impl_errPool),("loop.example/g00336/impl.errOp",Rows.laid_loop_example_g00336_impl_errOp),("loop.example/g00336/impl.errVolume",Rows.laid_loop_example_g00336_impl_errVolume),("loop.example/g00336/impl.errFile",Rows.laid_loop_example_g00336_impl_errFile),("loop.example/g00336/impl.errBytes",Rows.laid_loop_example_g00336_impl_errBytes),("loop.example/g00336/impl.errThere",Rows.laid_loop_example_g00336_impl_errThere),("loop.example/g00336/impl.errFixed",Rows.laid_loop_example_g00336_impl_errFixed),("loop.example/g00336/impl.errRoom",Rows.laid_loop_example_g00336_impl_errRoom),("loop.example/g00336/impl.errParts",Rows.laid_loop_example_g00336_impl_errParts),("loop.example/g00336/impl.errAfter",Rows.laid_loop_example_g00336_impl_errAfter)]
def ER:List (String×DataW Unit):=[("loop.example/g00336/impl.errPool",Rows.laid_loop_example_g00336_impl_errPool),("loop.example/g00336/impl.errOp",Rows.laid_loop_example_g00336_impl_errOp),("loop.example/g00336/impl.errVolume",Rows.laid_loop_example_g00336_impl_errVolume),("loop.example/g00336/impl.errFile",Rows.laid_loop_example_g00336_impl_errFile),("loop.example/g00336/impl.errBytes",Rows.laid_loop_example_g00336_impl_errBytes),("loop.example/g00336/impl.errThere",Rows.laid_loop_example_g00336_impl_errThere),("loop.example/g00336/impl.errFixed",Rows.laid_loop_example_g00336_impl_errFixed),("loop.example/g00336/impl.errRoom",Rows.laid_loop_example_g00336_impl_errRoom),("loop.example/g00336/impl.errParts",Rows.laid_loop_example_g00336_impl_errParts),("loop.example/g00336/impl.errAfter",Rows.laid_loop_example_g00336_impl_errAfter)]
theorem ik_ (h:laidMetH prog CS W):W.cell? ⟨3,0,none⟩=some (.iface 263 (.agg #[.pointer (some ⟨11,94,none⟩)])):=by
 have h':laidMet prog ER W∧handlesMet prog [("errors.errorType",Rows.laid_errors_errorType)] W:=h;obtain⟨name,u,ty,e1,e2,e3,e4,e5⟩:=h'.2 _ (YP.2 rfl);have en:name=[101,114,114,111,114]:=(Zi e1).symm;subst en;obtain rfl:=Zi (rtL.symm.trans e2);have hm:ty∈(List.range 379).filter fun t=>prog.rowNamed t [101,114,114,111,114]:=YG.2 ⟨List.mem_range.2 (by rw[<-Ig];exact e3),e4⟩;rw[Hp] at hm;obtain rfl:=YP.1 hm;have hh:typeHandle prog 94=.pointer (some ⟨11,94,none⟩):=by kernel_rfl
 rw[hh] at e5;simpa using World.var?_cell Io e5 0
structure Two (W:World)(n0 n1:String)(a0 a1:Addr):Prop where
 v0:W.var? prog n0=some #[.iface 348 (.pointer (some a0))]
 v1:W.var? prog n1=some #[.iface 348 (.pointer (some a1))]
 ne:a0≠a1
 b0:∃ c t,W.heap[a0.block]?=some (.cells c t (0,0))
 b1:∃ c t,W.heap[a1.block]?=some (.cells c t (0,0))
theorem Two.same {n0 n1 n2:String}{a0 a1 b0 b1:Addr}(h:Two W n0 n1 a0 a1)(h':Two W n0 n2 b0 b1):b0=a0:=by
 have e:=h.v0.symm.trans h'.v0;simp only[Zo,Array.mk.injEq,List.cons.injEq,Value.iface.injEq,Value.pointer.injEq,and_true,true_and] at e;exact e.symm
structure Ten (W:World)(ep:Addr)(a_errOp a_errVolume a_errFile a_errBytes a_errThere a_errFixed a_errRoom a_errParts a_errAfter:Addr):Prop where
 errOp:Two W "loop.example/g00336/impl.errPool" "loop.example/g00336/impl.errOp" ep a_errOp
 errVolume:Two W "loop.example/g00336/impl.errPool" "loop.example/g00336/impl.errVolume" ep a_errVolume
 errFile:Two W "loop.example/g00336/impl.errPool" "loop.example/g00336/impl.errFile" ep a_errFile
 errBytes:Two W "loop.example/g00336/impl.errPool" "loop.example/g00336/impl.errBytes" ep a_errBytes
 errThere:Two W "loop.example/g00336/impl.errPool" "loop.example/g00336/impl.errThere" ep a_errThere
 errFixed:Two W "loop.example/g00336/impl.errPool" "loop.example/g00336/impl.errFixed" ep a_errFixed
 errRoom:Two W "loop.example/g00336/impl.errPool" "loop.example/g00336/impl.errRoom" ep a_errRoom
 errParts:Two W "loop.example/g00336/impl.errPool" "loop.example/g00336/impl.errParts" ep a_errParts
 errAfter:Two W "loop.example/g00336/impl.errPool" "loop.example/g00336/impl.errAfter" ep a_errAfter
def DV (l:List Addr)(a:Addr):Prop:=a∈l
theorem c8_ {n:String}{g:Nat}{a:Addr}(hg:prog.globalNamed n=some g)(h:W.var? prog n=some #[.iface 348 (.pointer (some a))]):BD W g a:=by
 unfold BD;simpa using World.var?_cell hg h 0
theorem Ten.errs (h:Ten W ep a_errOp a_errVolume a_errFile a_errBytes a_errThere a_errFixed a_errRoom a_errParts a_errAfter)(hL:laidMetH prog CS W):EX (DV [a_errOp,a_errVolume,a_errFile,a_errBytes,a_errThere,a_errFixed,a_errRoom,a_errParts,a_errAfter]) ep W:=by
 refine⟨⟨⟨_,c8_ lr_ h.errOp.v1,by simp[DV]⟩,⟨_,c8_ gb_ h.errVolume.v1,by simp[DV]⟩,⟨_,c8_ ii_ h.errFile.v1,by simp[DV]⟩,⟨_,c8_ gO_ h.errBytes.v1,by simp[DV]⟩,⟨_,c8_ gP_ h.errThere.v1,by simp[DV]⟩,⟨_,c8_ gQ_ h.errFixed.v1,by simp[DV]⟩,⟨_,c8_ ij_ h.errRoom.v1,by simp[DV]⟩,⟨_,c8_ gR_ h.errParts.v1,by simp[DV]⟩,⟨_,c8_ gS_ h.errAfter.v1,by simp[DV]⟩⟩,c8_ ih_ h.errOp.v0,fun a ha=>?_,h.errOp.b0,fun a ha=>?_,ik_ hL⟩
 ·simp only[DV,Zn,List.not_mem_nil,or_false] at ha;rcases ha with rfl | rfl | rfl | rfl | rfl | rfl | rfl | rfl | rfl
  ·exact h.errOp.ne.symm
  ·exact h.errVolume.ne.symm
  ·exact h.errFile.ne.symm
  ·exact h.errBytes.ne.symm
  ·exact h.errThere.ne.symm
  ·exact h.errFixed.ne.symm
  ·exact h.errRoom.ne.symm
  ·exact h.errParts.ne.symm
  ·exact h.errAfter.ne.symm
 ·simp only[DV,Zn,List.not_mem_nil,or_false] at ha;rcases ha with rfl | rfl | rfl | rfl | rfl | rfl | rfl | rfl | rfl
  ·exact h.errOp.b1
  ·exact h.errVolume.b1
  ·exact h.errFile.b1
  ·exact h.errBytes.b1
  ·exact h.errThere.b1
  ·exact h.errFixed.b1
  ·exact h.errRoom.b1
  ·exact h.errParts.b1
  ·exact h.errAfter.b1
theorem bw_ {n:String}{cs:Array Value}(h:W.var? prog n=some cs)(hb:Below W.heap.size W W'):W'.var? prog n=some cs:=by
 unfold World.var? at h ⊢
 cases hg:prog.globalNamed n with
 |none=>simp[hg] at h
 |some g=>
  simp only[hg,YO] at h ⊢
  have ha:g<W.heap.size:=by
   rcases Nat.lt_or_ge g W.heap.size with h' | h'
   ·exact h'
   ·simp[Array.getElem?_eq_none h'] at h
  rw[hb.block g ha];exact h
theorem il_ (enc:TypeId×Value->H)(sp:Nat->Bool):∀ (l:List (String×Nat×Addr)),(∀ x∈l,prog.globalNamed x.1=some x.2.1∧(prog.globals[x.2.1]?).map (·.type)=some 94∧W.var? prog x.1=some #[.iface 348 (.pointer (some x.2.2))])->DataW.TrodVars enc prog W sp (l.map (·.1)) (l.map (fun x=>tok enc (.iface 348 (.pointer (some x.2.2))))) (l.map (fun x=>.cell x.2.1 0))
 |[],_=>rfl
 |x::r,h=>by
  obtain⟨h1,h2,h3⟩:=h x (by simp);exact⟨x.2.1,94,_,1,[],_,h1,h2,h3,trod_held underlying94 (show IsIface (.iface 348 (.pointer (some x.2.2))) from trivial) 0,il_ enc sp r (fun y hy=>h y (by simp[hy])),rfl⟩
def Hw (ep a_errOp a_errVolume a_errFile a_errBytes a_errThere a_errFixed a_errRoom a_errParts a_errAfter:Addr):List (String×Nat×Addr):=[("loop.example/g00336/impl.errPool",0,ep),("loop.example/g00336/impl.errOp",1,a_errOp),("loop.example/g00336/impl.errAfter",2,a_errAfter),("loop.example/g00336/impl.errVolume",4,a_errVolume),("loop.example/g00336/impl.errFixed",5,a_errFixed),("loop.example/g00336/impl.errThere",6,a_errThere),("loop.example/g00336/impl.errRoom",7,a_errRoom),("loop.example/g00336/impl.errParts",10,a_errParts),("loop.example/g00336/impl.errFile",8,a_errFile),("loop.example/g00336/impl.errBytes",9,a_errBytes)]
theorem Ten.read (enc:TypeId×Value->H)(h:Ten W ep a_errOp a_errVolume a_errFile a_errBytes a_errThere a_errFixed a_errRoom a_errParts a_errAfter)(hb:Below W.heap.size W W')(sp:Nat->Bool):DataW.TrodVars enc prog W' sp ((Hw ep a_errOp a_errVolume a_errFile a_errBytes a_errThere a_errFixed a_errRoom a_errParts a_errAfter).map (·.1)) ((Hw ep a_errOp a_errVolume a_errFile a_errBytes a_errThere a_errFixed a_errRoom a_errParts a_errAfter).map (fun x=>tok enc (.iface 348 (.pointer (some x.2.2))))) ((Hw ep a_errOp a_errVolume a_errFile a_errBytes a_errThere a_errFixed a_errRoom a_errParts a_errAfter).map (fun x=>.cell x.2.1 0)):=by
 refine il_ enc sp _ (fun x hx=>?_);simp only[Hw,Zn,List.not_mem_nil,or_false] at hx;rcases hx with rfl | rfl | rfl | rfl | rfl | rfl | rfl | rfl | rfl | rfl
 ·exact⟨ih_,mt_,bw_ h.errOp.v0 hb⟩
 ·exact⟨lr_,pd_,bw_ h.errOp.v1 hb⟩
 ·exact⟨gS_,lw_,bw_ h.errAfter.v1 hb⟩
 ·exact⟨gb_,jM_,bw_ h.errVolume.v1 hb⟩
 ·exact⟨gQ_,lu_,bw_ h.errFixed.v1 hb⟩
 ·exact⟨gP_,lt_,bw_ h.errThere.v1 hb⟩
 ·exact⟨ij_,mv_,bw_ h.errRoom.v1 hb⟩
 ·exact⟨gR_,lv_,bw_ h.errParts.v1 hb⟩
 ·exact⟨ii_,mu_,bw_ h.errFile.v1 hb⟩
 ·exact⟨gO_,ls_,bw_ h.errBytes.v1 hb⟩
noncomputable def Cr:Nat:=(World.holding prog default ⟨#[],#[],[]⟩).heap.size
end
end Go.Proofs.YtahenegmbmnmjaaGreatDoor
