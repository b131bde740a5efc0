/- Texts of pools, read and written; what is drawn. -/
import Derived.Test.YtkiceokhlceciaaGreatDoorU14
import Derived.Test.YtkiceokhlceciaaGreatDoorU32
import Derived.Test.YtkiceokhlceciaaGreatDoorU34
set_option maxHeartbeats 20000000
set_option maxRecDepth 100000
namespace Go.Proofs.YtkiceokhlceciaaGreatDoor
section
open Go Go.RowKit Go.BigFrame Go.Shelf Tryz
theorem IZ:(prog.info? 72).map (·.size)=some 2:=by kernel_rfl
theorem Lr:liesAt prog prog.depth 74 (2 / prog.cellsOf 74) 0 72 1=true:=by kernel_rfl
theorem GA (b:Nat)(w:World)(h0:w.cell? ⟨b,0,none⟩=some (.pointer (some ⟨b,0,none⟩))) :
  Calls prog 120 #[.pointer (some ⟨b,0,none⟩)] w fun e w'=>e=.returned (.tuple #[])∧w'=w:=by
 obtain⟨j,hj,_⟩:=ZW.1 IZ
 go_enter func120,ntmps120
 go_wp2
 rw[Lib.run_neq_ptr_same w _ underlying70 hj]
 go_wp2
 go_end0
 exact⟨rfl,rfl⟩
theorem Ge (b:Nat)(w:World)(h0:w.cell? ⟨b,0,none⟩=some (.pointer none))(hsh:w.shape? b=some (74,2))(hfz:w.frozen? ⟨b,0,none⟩=false) :
  Calls prog 120 #[.pointer (some ⟨b,0,none⟩)] w fun e w'=>e=.returned (.tuple #[])∧w'=w.setCell ⟨b,0,none⟩ (.pointer (some ⟨b,0,none⟩)):=by
 obtain⟨j,hj,ha⟩:=ZW.1 IZ
 go_enter func120,ntmps120
 go_wp2
 rw[Lib.run_to_unsafe w ⟨b,0,none⟩ underlying70 underlying190 hj (by rw[ha];decide) hsh (Nat.zero_lt_succ 1)]
 simp only[Result.andThen]
 rw[Oper.upon_value]
 go_wp2
 rw[YX func153 (by kernel_rfl) (by kernel_rfl) (by kernel_rfl) (e:=Extern.AbiNoEscape.same) (by kernel_rfl)]
 rw[Lib.run_noEscape]
 simp only[Result.andThen]
 rw[Oper.upon_value]
 go_wp2
 rw[Lib.run_from_unsafe w ⟨b,0,none⟩ underlying190 underlying70 hj hsh Lr]
 simp only[Result.andThen]
 rw[Oper.upon_value]
 go_wp2
 go_end0
 exact⟨rfl,rfl⟩
theorem HJ (B b:Nat)(bs:List Value)(w:World)(h:Lib.IsBuilderF 74 5 B b bs w) :
  Calls prog 120 #[.pointer (some ⟨b,0,none⟩)] w fun e w'=>e=.returned (.tuple #[])∧Lib.BuilderAtF 74 5 B b (.pointer (some ⟨b,0,none⟩)) bs w'∧Below B w w'∧Lib.OthersKept 5 (some b) w w':=by
 rcases h with h | h
 ·refine (Ge b w h.cell0 h.shape h.frozen0).mono ?_
  rintro e w' ⟨rfl,rfl⟩
  exact⟨rfl,h.used _,(Yg B w).setCell (p:=⟨b,0,none⟩) h.1 _,(Lib.OthersKept.refl _ _ w).setCell ⟨b,0,none⟩ rfl _⟩
 ·refine (GA b w h.cell0).mono ?_
  rintro e w' ⟨rfl,rfl⟩
  exact⟨rfl,h,Yg B _,Lib.OthersKept.refl _ _ _⟩
theorem KM:(prog.info? 5).map (fun i=>(i.zero,i.size,i.bytes))=some (some (.int .u8 0),1,1):=by kernel_rfl
theorem Ls:prog.cellsOf 5=1:=by kernel_rfl
theorem Hj (B b:Nat)(bs:List Value)(c:Int)(w:World)(h:Lib.IsBuilderF 74 5 B b bs w)(hlen:bs.length+1<=140737488355328)(hBw:B<=w.heap.size) :
  Calls prog 79 #[.pointer (some ⟨b,0,none⟩),.int .u8 c] w fun e w'=>e=.returned .nilIface∧Lib.BuilderAtF 74 5 B b (.pointer (some ⟨b,0,none⟩)) (bs++[.int .u8 c]) w'∧Below B w w'∧Lib.OthersKept 5 (some b) w w':=by
 obtain⟨i0,hi,hn,ho,hp⟩:=info_parts KM
 go_enter func79,ntmps79
 go_wp2_with fail
 refine (HJ B b bs w h).mono ?_
 rintro e w1 ⟨rfl,h1,hg,hh⟩
 obtain⟨hB,v,hf,hc,hm⟩:=h1
 have c0:w1.cell? ⟨b,0,none⟩=some (.pointer (some ⟨b,0,none⟩)):=by rw[Lib.cell_of_heap hf];rfl
 have c1:w1.cell? ⟨b,1,none⟩=some v:=by rw[Lib.cell_of_heap hf];rfl
 have hz:=hg.size
 go_wp2_with (at_builtin;refine wpList_append_ownF _ rfl _ _ 22 rfl B 5 i0 (.int .u8 0) 1 1 underlying22 hi hn ho hp rfl (by decide) _ _ _ rfl (hc.alloc _) ⟨w1.heap.size,0,none⟩ 1 1 [.int .u8 c] rfl rfl ?c1 ?c2 ?c3 ?c4 ?c5 ?_)
 case c1=>
  intro j u hj
  match j,hj with
  |0,hj=>simp at hj;subst hj;simp[Addr.add]
 case c2=>intro u hu;simp at hu;subst hu;rfl
 case c3=>unfold maxLen;omega
 case c4=>omega
 case c5=>simp;omega
 intro v' w2 hb ha _
 have hl:b<w1.heap.size:=(ZG.1 hf).1
 have he:w2.heap[b]?=some (.cells #[.pointer (some ⟨b,0,none⟩),v] 74 (0,0)):=by
  rw[ha.block b (by simp;omega) (fun e=>hm e.symm),Lib.alloc_old w1 _ b hl]
  exact hf
 have d0:w2.cell? ⟨b,0,none⟩=some (.pointer (some ⟨b,0,none⟩)):=by rw[Lib.cell_of_heap he];rfl
 have d1:w2.cell? ⟨b,1,none⟩=some v:=by rw[Lib.cell_of_heap he];rfl
 have f1:w2.frozen? ⟨b,1,none⟩=false:=Lib.frozen_of_heap he 1
 obtain⟨g,cap,rfl⟩:∃ g cap,v'=.slice (some ⟨g,0,none⟩) (bs.length+1) cap:=by
  rcases hb.2 with⟨_,h0⟩ | ⟨g,cap,cur,fz,hv,_⟩
  ·omega
  ·exact⟨g,cap,hv⟩
 go_wp2
 go_ret
 refine ⟨rfl,?_,?_,((hh.alloc _).grown ha (Lib.ownsRowF_kind (hc.alloc _))).setCell ⟨b,1,none⟩ rfl _⟩
 ·exact Lib.BuilderAtF.put (T:=74) (e:=5) hB he (bs':=bs++[.int .u8 c]) (by simpa using hb) (by decide)
 ·exact ((hg.alloc (by omega) _).grown ha (by simp;omega) (fun k hk=>(hc.lt k hk).1)).setCell (p:=⟨b,1,none⟩) hB _
theorem Gd (B b:Nat)(bs:List Value)(s:ByteArray)(w:World)(h:Lib.IsBuilderF 74 5 B b bs w)(hlen:bs.length+s.size<=140737488355328)(hBw:B<=w.heap.size) :
  Calls prog 77 #[.pointer (some ⟨b,0,none⟩),.string s] w fun e w'=>e=.returned (.tuple #[.int .i64 s.size,.nilIface])∧Lib.BuilderAtF 74 5 B b (.pointer (some ⟨b,0,none⟩)) (bs++Lib.strCells s) w'∧Below B w w'∧Lib.OthersKept 5 (some b) w w':=by
 obtain⟨i0,hi,hm,hn,ho⟩:=info_parts KM
 go_enter func77,ntmps77
 go_wp2_with fail
 refine (HJ B b bs w h).mono ?_
 rintro e w1 ⟨rfl,h1,hg,hh⟩
 obtain⟨hB,v,hf,hc,hl⟩:=h1
 have c0:w1.cell? ⟨b,0,none⟩=some (.pointer (some ⟨b,0,none⟩)):=by rw[Lib.cell_of_heap hf];rfl
 have c1:w1.cell? ⟨b,1,none⟩=some v:=by rw[Lib.cell_of_heap hf];rfl
 have hz:=hg.size
 go_wp2_with (at_builtin;refine Lib.wpList_append_own_stringF _ rfl _ _ 22 9 rfl B 5 i0 underlying22 underlying9 hi hm hn ho _ _ _ rfl hc s rfl ?c3 ?c4 ?c5 ?_)
 case c3=>unfold maxLen;omega
 case c4=>omega
 case c5=>omega
 intro v' w2 hb ha _
 have hj:b<w1.heap.size:=(ZG.1 hf).1
 have he:w2.heap[b]?=some (.cells #[.pointer (some ⟨b,0,none⟩),v] 74 (0,0)):=by
  rw[ha.block b hj (fun e=>hl e.symm)]
  exact hf
 have d0:w2.cell? ⟨b,0,none⟩=some (.pointer (some ⟨b,0,none⟩)):=by rw[Lib.cell_of_heap he];rfl
 have d1:w2.cell? ⟨b,1,none⟩=some v:=by rw[Lib.cell_of_heap he];rfl
 have f1:w2.frozen? ⟨b,1,none⟩=false:=Lib.frozen_of_heap he 1
 obtain⟨ao,n',cap,rfl⟩:∃ ao n' cap,v'=.slice ao n' cap:=by
  rcases hb.2 with⟨hv,_⟩ | ⟨g,cap,cur,fz,hv,_⟩
  ·exact⟨_,_,_,hv⟩
  ·exact⟨_,_,_,hv⟩
 go_wp2
 go_ret2
 refine ⟨rfl,?_,?_,(hh.grown ha (Lib.ownsRowF_kind hc)).setCell ⟨b,1,none⟩ rfl _⟩
 ·exact Lib.BuilderAtF.put (T:=74) (e:=5) hB he (bs':=bs++Lib.strCells s) (by simpa [Lib.strCells_length] using hb) (by decide)
 ·exact (hg.grown ha (by omega) (fun k hk=>(hc.lt k hk).1)).setCell (p:=⟨b,1,none⟩) hB _
theorem JT (B b:Nat)(l:List UInt8)(w:World)(h:Lib.IsBuilderF 74 5 B b (Lib.byteCells l) w)(h0:l≠[]) :
  Calls prog 42 #[.pointer (some ⟨b,0,none⟩)] w fun e w'=>e=.returned (.string ⟨l.toArray⟩)∧Below B w w':=by
 obtain⟨p,hc⟩:∃ p,Lib.BuilderAtF 74 5 B b p (Lib.byteCells l) w:=by
  rcases h with h | h
  ·exact⟨_,h⟩
  ·exact⟨_,h⟩
 obtain⟨hB,v,hf,ha,hq⟩:=hc
 have hk:l.length≠0:=by simpa using h0
 rw[Lib.byteCells_length] at ha
 obtain⟨g,cap,cur,fz,rfl,he,hg,ho,hp,hh,hn,hb⟩:∃ g cap cur fz,v=.slice (some ⟨g,0,none⟩) l.length cap∧B<=g∧w.heap[g]?=some (.cells cur 5 fz)∧fz.2<=l.length*1∧l.length<=cap∧cap<=maxLen∧cur.size=cap*1∧cur.toList.take (l.length*1)=Lib.byteCells l:=by
  rcases ha.2 with⟨_,hz⟩ | ⟨g,cap,cur,fz,hv,r⟩
  ·exact absurd hz hk
  ·exact⟨g,cap,cur,fz,hv,r⟩
 have c1:w.drew.cell? ⟨b,1,none⟩=some (.slice (some ⟨g,0,none⟩) l.length cap):=by
  have:w.drew.heap[b]?=some (.cells #[p,.slice (some ⟨g,0,none⟩) l.length cap] 74 (0,0)):=hf
  rw[Lib.cell_of_heap this];rfl
 have hl:(Builtin.unsafeSliceData_ #[22] 125 #[.slice (some ⟨g,0,none⟩) l.length cap]).run prog w.drew=.ok (.pointer (some ⟨g,0,none⟩)) w.drew:=
  Lib.run_unsafeSliceData_row _ _ _ _ _ _ (by omega)
 have hm:(Builtin.unsafeString_ #[125,3] 9 #[.pointer (some ⟨g,0,none⟩),.int .i64 l.length]).run prog w.drew=.ok (.string ⟨l.toArray⟩) (w.drew.freeze ⟨g,0,none⟩ l.length):=by
  refine Lib.run_unsafeString_row w.drew 125 3 9 5 underlying125 Ls g cur.size (by have hj:w.drew.heap[g]?=some (.cells cur 5 fz):=hg;simp[World.shape?,hj]) l h0 (by omega) (by unfold maxLen at hh;omega) ?_
  intro j x hx
  have:=ha.cells (g:=g) rfl j (.int .u8 x.toNat) (by simp[Lib.byteCells,hx])
  exact this
 have mixed:prog.follows .mixedOrders=true:=by kernel_rfl
 go_enter func42,ntmps42
 go_wp2
 go_region_o
 all_goals (go_wp2;go_ret;exact⟨rfl,Lib.below_freeze (Below.drew (Yg B w)) (p:=⟨g,0,none⟩) he _⟩)
end
section
open Go.Shelf Go.RowKit Go.Lib Tryz
def Jc:Go.Shelf.Ren:=⟨fun | 156=>78 | 165=>121 | 166=>77 | 169=>42 | 240=>120 | 241=>154 | 276=>153 | 277=>177 | n=>n,fun | 31=>94 | 9=>9 | 3=>3 | 4=>4 | 0=>0 | 20=>20 | 72=>72 | 76=>116 | 70=>70 | 37=>22 | 75=>88 | 127=>125 | 164=>190 | 5=>5 | 80=>83 | n=>n,fun | n=>n⟩
theorem jnL:Lays.n156 Tryz.prog Jc where
 mixed:=by kernel_rfl
 f156:=Tryz.func78.trans (congrArg some (by kernel_rfl))
 f165:=Tryz.func121.trans (congrArg some (by kernel_rfl))
 f166:=Tryz.func77.trans (congrArg some (by kernel_rfl))
 f169:=Tryz.func42.trans (congrArg some (by kernel_rfl))
 f240:=Tryz.func120.trans (congrArg some (by kernel_rfl))
 f241:=Tryz.func154.trans (congrArg some (by kernel_rfl))
 f276:=Tryz.func153.trans (congrArg some (by kernel_rfl))
 f277:=Tryz.func177.trans (congrArg some (by kernel_rfl))
 t0:=Tryz.underlying0
 a0:=Tryz.isAgg0
 z0:=Tryz.sizeOf0
 v0:=Tryz.zeroValue0
 t3:=Tryz.underlying3
 a3:=Tryz.isAgg3
 z3:=Tryz.sizeOf3
 v3:=Tryz.zeroValue3
 t4:=Tryz.underlying4
 a4:=Tryz.isAgg4
 z4:=Tryz.sizeOf4
 v4:=Tryz.zeroValue4
 t9:=Tryz.underlying9
 a9:=Tryz.isAgg9
 z9:=Tryz.sizeOf9
 v9:=Tryz.zeroValue9
 t20:=Tryz.underlying20
 a20:=Tryz.isAgg20
 z20:=Tryz.sizeOf20
 v20:=Tryz.zeroValue20
 t31:=Tryz.underlying94
 a31:=Tryz.isAgg94
 z31:=Tryz.sizeOf94
 v31:=Tryz.zeroValue94
 t37:=Tryz.underlying22
 a37:=Tryz.isAgg22
 z37:=Tryz.sizeOf22
 v37:=Tryz.zeroValue22
 t70:=Tryz.underlying70
 a70:=Tryz.isAgg70
 z70:=Tryz.sizeOf70
 v70:=Tryz.zeroValue70
 t72:=Tryz.underlying72
 a72:=Tryz.isAgg72
 z72:=Tryz.sizeOf72
 v72:=Tryz.zeroValue72
 t75:=Tryz.underlying88
 a75:=Tryz.isAgg88
 z75:=Tryz.sizeOf88
 v75:=Tryz.zeroValue88
 t76:=Tryz.underlying116
 a76:=Tryz.isAgg116
 z76:=Tryz.sizeOf116
 v76:=Tryz.zeroValue116
 t127:=Tryz.underlying125
 a127:=Tryz.isAgg125
 z127:=Tryz.sizeOf125
 v127:=Tryz.zeroValue125
 t164:=Tryz.underlying190
 a164:=Tryz.isAgg190
 z164:=Tryz.sizeOf190
 v164:=Tryz.zeroValue190
theorem jnX:Builder.Extra Tryz.prog Jc where
 sizeBuilder:=by kernel_rfl
 liesBuilder:=by kernel_rfl
 t5:=Tryz.underlying5
 a5:=Tryz.isAgg5
 z5:=Tryz.sizeOf5
 v5:=Tryz.zeroValue5
 infoByte:=by kernel_rfl
 cellsByte:=by kernel_rfl
 sizeByte:=by kernel_rfl
 neB5:=by decide
end
section
open Go Go.RowKit Go.BigFrame Go.Shelf Tryz
theorem ok_below {e:TypeId}{b:Option Nat}{w w':World}(hb:Below w.heap.size w w'):Lib.OthersKept e b w w':=fun k ob h _ _=>by
 rw[hb.block k (ZG.1 h).1]
 exact h
theorem BU (B b:Nat)(l:List UInt8)(ps:List ByteArray)(wb wo cap:Nat)(w:World)(h:Wr B b l w)(hs:∀ (j:Nat) x,ps[j]?=some x->w.cell? ⟨wb,wo+j,none⟩=some (.string x))(hlt:wb<w.heap.size)(hcap:ps.length<=cap)(hlen:l.length+(Ah ps).length<=1000000)(hpl:ps.length<=100)(hBw:B<=w.heap.size) :
  Calls prog 39 #[.pointer (some ⟨b,0,none⟩),.slice (some ⟨wb,wo,none⟩) ps.length cap] w fun e w'=>e=.returned (.tuple #[])∧Wr B b (l++Ah ps) w'∧Below B w w'∧Lib.OthersKept 5 (some b) w w':=by
 have hk:(Ah ps).length=(CQ ps).length+1:=by unfold Ah;simp
 go_enter func39,ntmps39
 go_wp2_with fail
 have hf:(fun _:World=>True) w.drew:=trivial
 refine aC_ (S:=(fun _:World=>True)) 6 (by kernel_rfl) rfl ?_
 refine tk 0 ?_
 refine tk 1 ?_
 refine tk 2 ?_
 refine tk 3 ?_
 refine Aq (i:=4) (by kernel_rfl) rfl (fun K hK=>?_)
 go_simp
 refine (Any.strings_Join jnL jnX wb wo cap ps ⟨#[32]⟩ w.drew hs hlt (by omega) hcap (by show (CQ ps).length<=_;omega)).mono ?_
 rintro e w1 ⟨rfl,hb⟩
 have ha:Below w.heap.size w w1:=Aa (Yg _ w).drew hb
 have h1:=h.below ha
 have hl:=ha.size
 dsimp only
 refine hK.out _ _ trivial (fun hHeld=>?_)
 clear hK K
 try simp only[Act.put,Yj,Yq,Yr]
 refine Aq (i:=5) (by kernel_rfl) rfl (fun K hK=>?_)
 go_simp
 have hj:(⟨(CQ ps).toArray⟩:ByteArray).size=(CQ ps).length:=by show (CQ ps).toArray.size=_;simp
 refine (Gd B b (Lib.byteCells l) ⟨(CQ ps).toArray⟩ w1 h1.h (by rw[Lib.byteCells_length,hj];omega) (by omega)).mono ?_
 rintro e w2 ⟨rfl,h2,hc,hg⟩
 dsimp only
 refine hK.out _ _ trivial (fun hHeld=>?_)
 clear hK K
 try simp only[Act.put,Yj,Yq,Yr]
 refine wpAnyH_done (by kernel_rfl) ?_ _
 clear hf
 rw[Lib.strCells_toArray] at h2
 have hm:=hc.size
 go_wp2_with fail
 refine (Hj B b _ 10 w2 (.inr h2) (by rw[ZE,Lib.byteCells_length,Lib.byteCells_length];omega) (by omega)).mono ?_
 rintro e w3 ⟨rfl,h3,he,hh⟩
 go_wp2
 go_end0
 refine ⟨rfl,⟨.inr ?_⟩,((ha.mono hBw).trans hc).trans he,((ok_below ha).trans hg).trans hh⟩
 have e:Lib.byteCells (l++Ah ps)=Lib.byteCells l++Lib.byteCells (CQ ps)++[.int .u8 10]:=by unfold Lib.byteCells Ah;simp
 rw[e]
 exact h3
theorem sl5 {w:World}{b:Nat}{t:TypeId}{ps:List ByteArray}(h:Blk w b (ps.map Value.string).toArray t):∀ (j:Nat) x,ps[j]?=some x->w.cell? ⟨b,0+j,none⟩=some (.string x):=fun j x hx=>by
 rw[Zq,h.cell]
 simp[hx]
theorem EZ (B b:Nat)(l:List UInt8)(word:ByteArray)(c:Ct)(w:World)(h:Wr B b l w)(ht:ES w)(hg:9<=B)(hBw:B<=w.heap.size)(n1:Num c.o.a)(n2:Num c.o.v)(n3:Num c.n)(hlen:l.length+(Ah (ctL word c)).length<=1000000) :
  Calls prog 41 #[.pointer (some ⟨b,0,none⟩),.string word,.agg #[.int .i64 c.o.a,.int .i64 c.o.v,.string c.o.f,.int .i64 c.n]] w fun e w'=>e=.returned (.tuple #[])∧Wr B b (l++Ah (ctL word c)) w'∧Below B w w'∧Lib.OthersKept 5 (some b) w w':=by
 obtain⟨a1,a2⟩:=n1
 obtain⟨b1,b2⟩:=n2
 obtain⟨c1,c2⟩:=n3
 obtain⟨da,ho⟩:∃ x,AF c.o.a=x:=⟨_,rfl⟩
 obtain⟨dv,hq⟩:∃ x,AF c.o.v=x:=⟨_,rfl⟩
 obtain⟨dn,hp⟩:∃ x,AF c.n=x:=⟨_,rfl⟩
 have hz:ctL word c=[word,da,dv,c.o.f,dn]:=by unfold ctL;rw[ho,hq,hp]
 rw[hz] at hlen ⊢
 have C:=Blk.new w #[.int .i64 c.o.a,.int .i64 c.o.v,.string c.o.f,.int .i64 c.n] 68
 have ha:Below w.heap.size w (w.alloc (.cells #[.int .i64 c.o.a,.int .i64 c.o.v,.string c.o.f,.int .i64 c.n] 68)):=(Yg _ _).alloc (Zd _) _
 go_enter func41,ntmps41
 go_wp2_with fail
 generalize w.alloc (.cells #[.int .i64 c.o.a,.int .i64 c.o.v,.string c.o.f,.int .i64 c.n] 68)=W at *
 have he:Below w.heap.size w W.drew:=ha.drew
 have hb:∀ u:World,Below W.heap.size W u->u.cell? ⟨w.heap.size,0,none⟩=some (.int .i64 c.o.a)∧u.cell? ⟨w.heap.size,1,none⟩=some (.int .i64 c.o.v)∧u.cell? ⟨w.heap.size,2,none⟩=some (.string c.o.f)∧u.cell? ⟨w.heap.size,3,none⟩=some (.int .i64 c.n):=fun u hu=>⟨(C.below hu).cell 0,(C.below hu).cell 1,(C.below hu).cell 2,(C.below hu).cell 3⟩
 have hC:(fun u:World=>u.cell? ⟨w.heap.size,0,none⟩=some (.int .i64 c.o.a)∧u.cell? ⟨w.heap.size,1,none⟩=some (.int .i64 c.o.v)∧u.cell? ⟨w.heap.size,2,none⟩=some (.string c.o.f)∧u.cell? ⟨w.heap.size,3,none⟩=some (.int .i64 c.n)) W.drew:=(hb _ (Yg _ W).drew)
 refine aC_ (S:=(fun u:World=>u.cell? ⟨w.heap.size,0,none⟩=some (.int .i64 c.o.a)∧u.cell? ⟨w.heap.size,1,none⟩=some (.int .i64 c.o.v)∧u.cell? ⟨w.heap.size,2,none⟩=some (.string c.o.f)∧u.cell? ⟨w.heap.size,3,none⟩=some (.int .i64 c.n))) 18 (by kernel_rfl) rfl ?_
 refine tk 0 ?_ (hy:=by intro u hu;obtain⟨u0,u1,u2,u3⟩:=hu;go_simp<;>with_reducible rfl)
 refine tk 1 ?_ (hy:=by intro u hu;obtain⟨u0,u1,u2,u3⟩:=hu;go_simp<;>with_reducible rfl)
 refine tk 2 ?_ (hy:=by intro u hu;obtain⟨u0,u1,u2,u3⟩:=hu;go_simp<;>with_reducible rfl)
 refine tk 3 ?_ (hy:=by intro u hu;obtain⟨u0,u1,u2,u3⟩:=hu;go_simp<;>with_reducible rfl)
 refine tk 4 ?_ (hy:=by intro u hu;obtain⟨u0,u1,u2,u3⟩:=hu;go_simp<;>with_reducible rfl)
 refine tk 6 ?_ (hy:=by intro u hu;obtain⟨u0,u1,u2,u3⟩:=hu;go_simp<;>with_reducible rfl)
 refine tk 7 ?_ (hy:=by intro u hu;obtain⟨u0,u1,u2,u3⟩:=hu;go_simp<;>with_reducible rfl)
 refine tk 8 ?_ (hy:=by intro u hu;obtain⟨u0,u1,u2,u3⟩:=hu;go_simp<;>with_reducible rfl)
 refine tk 10 ?_ (hy:=by intro u hu;obtain⟨u0,u1,u2,u3⟩:=hu;go_simp<;>with_reducible rfl)
 refine tk 11 ?_ (hy:=by intro u hu;obtain⟨u0,u1,u2,u3⟩:=hu;go_simp<;>with_reducible rfl)
 refine tk 12 ?_ (hy:=by intro u hu;obtain⟨u0,u1,u2,u3⟩:=hu;go_simp<;>with_reducible rfl)
 refine tk 13 ?_ (hy:=by intro u hu;obtain⟨u0,u1,u2,u3⟩:=hu;go_simp<;>with_reducible rfl)
 refine tk 14 ?_ (hy:=by intro u hu;obtain⟨u0,u1,u2,u3⟩:=hu;go_simp<;>with_reducible rfl)
 refine Aq (i:=5) (by kernel_rfl) rfl (fun K hK=>?_)
 go_simp
 refine (Az c.o.a W.drew (by omega) (by omega) (Br ht (he.mono hBw) hg)).mono ?_
 rintro e w1 ⟨rfl,hh⟩
 rw[ho]
 have hf:Below W.heap.size W w1:=Aa (Yg _ W).drew hh
 have hw:=Aa ha hf
 dsimp only
 refine hK.out _ _ (hb _ hf) (fun hHeld=>?_)
 clear hK K
 try simp only[Act.put,Yj,Yq,Yr]
 refine Aq (i:=9) (by kernel_rfl) rfl (fun K hK=>?_)
 go_simp
 refine (Az c.o.v w1 (by omega) (by omega) (Br ht (hw.mono hBw) hg)).mono ?_
 rintro e w2 ⟨rfl,hk⟩
 rw[hq]
 have hj:=Aa hf hk
 have hx:=Aa ha hj
 dsimp only
 refine hK.out _ _ (hb _ hj) (fun hHeld=>?_)
 clear hK K
 try simp only[Act.put,Yj,Yq,Yr]
 refine Aq (i:=15) (by kernel_rfl) rfl (fun K hK=>?_)
 go_simp
 refine (Az c.n w2 (by omega) (by omega) (Br ht (hx.mono hBw) hg)).mono ?_
 rintro e w3 ⟨rfl,hm⟩
 rw[hp]
 have hl:=Aa hj hm
 have hB:=Aa ha hl
 dsimp only
 refine hK.out _ _ (hb _ hl) (fun hHeld=>?_)
 clear hK K
 try simp only[Act.put,Yj,Yq,Yr]
 refine Aq (i:=16) (by kernel_rfl) rfl (fun K hK=>?_)
 go_simp
 have hs:Below w3.heap.size w3 (w3.alloc (.cells #[.string word,.string da,.string dv,.string c.o.f,.string dn] 9)):=(Yg _ _).alloc (Zd _) _
 have X4:=Blk.new w3 #[.string word,.string da,.string dv,.string c.o.f,.string dn] 9
 have hn:=Aa hl hs
 have hc:=Aa ha hn
 have hD:=hc.size
 have hA:=X4.lt
 refine hK.out _ _ (hb _ hn) (fun hHeld=>?_)
 clear hK K
 try simp only[Act.put,Yj,Yq,Yr]
 generalize w3.alloc (.cells #[.string word,.string da,.string dv,.string c.o.f,.string dn] 9)=w4 at *
 refine Aq (i:=17) (by kernel_rfl) rfl (fun K hK=>?_)
 go_simp
 refine (BU B b l [word,da,dv,c.o.f,dn] w3.heap.size 0 5 w4 (h.below hc) (sl5 (ps:=[word,da,dv,c.o.f,dn]) X4) hA (by simp) hlen (by simp) (by omega)).mono ?_
 rintro e w5 ⟨rfl,h5,hv,hr⟩
 dsimp only
 have C5:=(C.below hn).ok hr (by have:=h.lt;omega) (by decide)
 refine hK.out _ _ ⟨C5.cell 0,C5.cell 1,C5.cell 2,C5.cell 3⟩ (fun hHeld=>?_)
 clear hK K
 try simp only[Act.put,Yj,Yq,Yr]
 refine wpAnyH_done (by kernel_rfl) ?_ _
 go_wp2
 go_end0
 exact⟨rfl,h5,(hc.mono hBw).trans hv,(ok_below hc).trans hr⟩
theorem GT {w:World}{b:Nat}{c0 c1 c2 c3:Value}{t:TypeId}(h:Blk w b #[c0,c1,c2,c3] t):w.cell? ⟨b,0,none⟩=some c0∧w.cell? ⟨b,1,none⟩=some c1∧w.cell? ⟨b,2,none⟩=some c2∧w.cell? ⟨b,3,none⟩=some c3:=⟨h.cell 0,h.cell 1,h.cell 2,h.cell 3⟩
theorem Jf {P:List UInt8}{l:List It}{k:Nat}{x:It}(h:l[k]?=some x)(hl:(P++BY l).length<=1000000):(P++BY (l.take k)++itW x).length<=1000000:=by
 have h1:=DO itW l (k+1)
 have h2:=congrArg List.length (EA h)
 unfold BY at h2 hl ⊢
 rw[ZE] at h2 hl
 rw[ZE,ZE]
 omega
theorem Jg {P:List UInt8}{l:List Pt}{k:Nat}{p:Pt}(h:l[k]?=some p)(hl:(P++AT l).length<=1000000):(P++AT (l.take k)).length+(Ah (ptW p)).length<=1000000:=by
 have h1:=DO (fun p=>Ah (ptW p)) l (k+1)
 have h2:=congrArg List.length (Do h)
 unfold AT at h2 hl ⊢
 rw[ZE] at h2 hl ⊢
 omega
theorem Fw (B b:Nat)(l:List UInt8)(v:Vo)(Bx:Nat)(ia:Option Addr)(inn ic:Nat)(w0 w:World)(hfx:v.fx=true)(hI:Bw Bx w0 ia inn v.its)(hw:Below w0.heap.size w0 w)(hwB:w0.heap.size<=B)(h:Wr B b l w)(ht:ES w)(hg:9<=B)(hBw:B<=w.heap.size)(n1:Num v.id)(n2:∀ x∈v.its,Kk x.ps)(hn:inn<=4194304)(hpn:∀ x∈v.its,x.ps.length<=4194304)(hlen:(l++Dr v).length<=1000000) :
  Calls prog 40 #[.pointer (some ⟨b,0,none⟩),.agg #[.int .i64 v.id,.string v.nm,.bool true,.slice ia inn ic]] w fun e w'=>e=.returned (.tuple #[])∧Wr B b (l++Dr v) w'∧Below B w w'∧Lib.OthersKept 5 (some b) w w':=by
 have hE:Hid (v.its.length=inn):=hI.len
 obtain⟨a1,a2⟩:=n1
 have qp:=h.lt
 obtain⟨da,qg⟩:∃ x,AF v.id=x:=⟨_,rfl⟩
 have qk:voW v=[⟨#[118,111,108,117,109,101]⟩,da,v.nm,⟨#[49]⟩]:=by unfold voW Gi;rw[qg,hfx];rfl
 have ql:Dr v=Ah [⟨#[118,111,108,117,109,101]⟩,da,v.nm,⟨#[49]⟩]++BY v.its:=by unfold Dr;rw[qk]
 rw[ql] at hlen ⊢
 obtain⟨L0,qd⟩:∃ x,l++Ah [⟨#[118,111,108,117,109,101]⟩,da,v.nm,⟨#[49]⟩]=x:=⟨_,rfl⟩
 have hh:l.length+(Ah [⟨#[118,111,108,117,109,101]⟩,da,v.nm,⟨#[49]⟩]).length<=1000000:=by
  rw[ZE,ZE] at hlen
  omega
 rw[<-ZC,qd] at hlen ⊢
 have C:=Blk.new w #[.int .i64 v.id,.string v.nm,.bool true,.slice ia inn ic] 80
 have h4:Below w.heap.size w (w.alloc (.cells #[.int .i64 v.id,.string v.nm,.bool true,.slice ia inn ic] 80)):=(Yg _ _).alloc (Zd _) _
 obtain⟨x0,x1,x2,x3⟩:=GT C
 clear qk ql hfx
 go_enter func40,ntmps40
 go_wp2_with fail
 clear x0 x1 x2 x3
 generalize w.alloc (.cells #[.int .i64 v.id,.string v.nm,.bool true,.slice ia inn ic] 80)=W at *
 have hc:∀ u:World,Below W.heap.size W u->u.cell? ⟨w.heap.size,0,none⟩=some (.int .i64 v.id)∧u.cell? ⟨w.heap.size,1,none⟩=some (.string v.nm)∧u.cell? ⟨w.heap.size,2,none⟩=some (.bool true)∧u.cell? ⟨w.heap.size,3,none⟩=some (.slice ia inn ic):=fun u hu=>GT (C.below hu)
 have hU:(fun u:World=>u.cell? ⟨w.heap.size,0,none⟩=some (.int .i64 v.id)∧u.cell? ⟨w.heap.size,1,none⟩=some (.string v.nm)∧u.cell? ⟨w.heap.size,2,none⟩=some (.bool true)∧u.cell? ⟨w.heap.size,3,none⟩=some (.slice ia inn ic)) W.drew:=(hc _ (Yg _ W).drew)
 refine aC_ (S:=(fun u:World=>u.cell? ⟨w.heap.size,0,none⟩=some (.int .i64 v.id)∧u.cell? ⟨w.heap.size,1,none⟩=some (.string v.nm)∧u.cell? ⟨w.heap.size,2,none⟩=some (.bool true)∧u.cell? ⟨w.heap.size,3,none⟩=some (.slice ia inn ic))) 9 (by kernel_rfl) rfl ?_
 refine tk 0 ?_ (hy:=by intro u hu;obtain⟨u0,u1,u2,u3⟩:=hu;go_simp<;>with_reducible rfl)
 refine tk 1 ?_ (hy:=by intro u hu;obtain⟨u0,u1,u2,u3⟩:=hu;go_simp<;>with_reducible rfl)
 refine tk 2 ?_ (hy:=by intro u hu;obtain⟨u0,u1,u2,u3⟩:=hu;go_simp<;>with_reducible rfl)
 refine tk 4 ?_ (hy:=by intro u hu;obtain⟨u0,u1,u2,u3⟩:=hu;go_simp<;>with_reducible rfl)
 refine tk 5 ?_ (hy:=by intro u hu;obtain⟨u0,u1,u2,u3⟩:=hu;go_simp<;>with_reducible rfl)
 refine tk 6 ?_ (hy:=by intro u hu;obtain⟨u0,u1,u2,u3⟩:=hu;go_simp<;>with_reducible rfl)
 refine Aq (i:=3) (by kernel_rfl) rfl (fun K hK=>?_)
 go_simp
 refine (Az v.id W.drew (by omega) (by omega) (Br ht (h4.drew.mono hBw) hg)).mono ?_
 rintro e w1 ⟨rfl,ha⟩
 rw[qg]
 have hf:Below W.heap.size W w1:=Aa (Yg _ W).drew ha
 dsimp only
 refine hK.out _ _ (hc _ hf) (fun hHeld=>?_)
 clear hK K
 try simp only[Act.put,Yj,Yq,Yr]
 refine Aq (i:=7) (by kernel_rfl) rfl (fun K hK=>?_)
 go_simp
 have hm:Below w1.heap.size w1 (w1.alloc (.cells #[.string ⟨#[118,111,108,117,109,101]⟩,.string da,.string v.nm,.string ⟨#[49]⟩] 9)):=(Yg _ _).alloc (Zd _) _
 have X4:=Blk.new w1 #[.string ⟨#[118,111,108,117,109,101]⟩,.string da,.string v.nm,.string ⟨#[49]⟩] 9
 have he:=Aa hf hm
 have hb:=Aa h4 he
 have qn:=hb.size
 have hN:=X4.lt
 refine hK.out _ _ (hc _ he) (fun hHeld=>?_)
 clear hK K
 try simp only[Act.put,Yj,Yq,Yr]
 generalize w1.alloc (.cells #[.string ⟨#[118,111,108,117,109,101]⟩,.string da,.string v.nm,.string ⟨#[49]⟩] 9)=w4 at *
 refine Aq (i:=8) (by kernel_rfl) rfl (fun K hK=>?_)
 go_simp
 refine (BU B b l [⟨#[118,111,108,117,109,101]⟩,da,v.nm,⟨#[49]⟩] w1.heap.size 0 4 w4 (h.below hb) (sl5 (ps:=[⟨#[118,111,108,117,109,101]⟩,da,v.nm,⟨#[49]⟩]) X4) hN (by simp) hh (by simp) (by omega)).mono ?_
 rintro e w5 ⟨rfl,h5,qa,hV⟩
 rw[qd] at h5
 have C5:=(C.below he).ok hV (by omega) (by decide)
 dsimp only
 refine hK.out _ _ (GT C5) (fun hHeld=>?_)
 clear hK K
 try simp only[Act.put,Yj,Yq,Yr]
 refine wpAnyH_done (by kernel_rfl) ?_ _
 have x3:=C5.cell 3
 simp only[Yp,Yo,Yt] at x3
 have hz:=(hb.mono hBw).trans qa
 have hC:=(ok_below hb:Lib.OthersKept 5 (some b) w w4).trans hV
 clear hU hHeld hc X4 he hb hm hf ha qa hV hh hN qn
 go_wp2_with fail
 go_loopw [23] (fun ix wr=>∃ (k:Nat),k<=inn∧ix=.int .i64 k∧Wr B b (L0++BY (v.its.take k)) wr∧Below B w wr∧Lib.OthersKept 5 (some b) w wr) (fun ix _=>inn-(intOf ix).toNat)
 case atStart=>exact⟨0,Zg _,rfl,by simpa [BY] using h5,hz,hC⟩
 case round=>
  clear h5 hz hC C5 x3
  obtain⟨k,hk,rfl,h6,hs,hW⟩:=hrel
  have h2:Below w0.heap.size w0 wr:=hw.trans (hs.mono hwB)
  by_cases hlt:k<inn
  ·obtain⟨b',o',x,pa,pn,pc,rfl,hx,c0,c1,hP,_,_,_⟩:=bO_ hI hlt
   have qm:=Zc hx
   have qA:pn<=4194304:=by rw[<-hP.len];exact hpn x qm
   have qr:=n2 x qm
   have qu:Hid (BY (v.its.take (k+1))=BY (v.its.take k)++itW x):=EA hx
   have hl:=Jf hx hlen
   obtain⟨P0,qe⟩:∃ P,Hid (L0++BY (v.its.take k)=P):=⟨_,rfl⟩
   rw[qe.out] at h6 hl
   have d0:=Ab h2 c0
   have d1:=Ab h2 c1
   have qy:(k:Int)<inn:=by omega
   have qz:(0:Int)<=k:=by omega
   have hH:Hid (x.ps.length=pn):=hP.len
   have qB:=hs.size
   have qh:P0.length+(Ah [⟨#[102,105,108,101]⟩,x.nm]).length<=1000000:=by
    unfold itW at hl
    rw[ZE,ZE] at hl
    omega
   obtain⟨P1,hT⟩:∃ P,Hid (P0++Ah [⟨#[102,105,108,101]⟩,x.nm]=P):=⟨_,rfl⟩
   have qq:Hid ((P1++AT x.ps).length<=1000000):=by
    show _<=_
    rw[<-hT.out]
    unfold itW at hl
    rw[ZC]
    exact hl
   clear hx hl c0 c1
   go_wp2_with fail
   have h3:Below wr.heap.size wr (wr.alloc (.cells #[.string x.nm,.slice pa pn pc] 122)):=(Yg _ _).alloc (Zd _) _
   have I1:=Blk.new wr #[.string x.nm,.slice pa pn pc] 122
   have qs:(wr.alloc (.cells #[.string x.nm,.slice pa pn pc] 122)).heap.size=wr.heap.size+1:=by simp
   generalize wr.alloc (.cells #[.string x.nm,.slice pa pn pc] 122)=W1 at *
   have hQ:Below W1.heap.size W1 (W1.alloc (.cells #[.string ⟨#[102,105,108,101]⟩,.string x.nm] 9)):=(Yg _ _).alloc (Zd _) _
   have F2:=Blk.new W1 #[.string ⟨#[102,105,108,101]⟩,.string x.nm] 9
   rw[qs] at F2
   have ho:=Aa h3 hQ
   have I2:=I1.below hQ
   have qD:=ho.size
   generalize W1.alloc (.cells #[.string ⟨#[102,105,108,101]⟩,.string x.nm] 9)=W2 at *
   refine (BU B b P0 [⟨#[102,105,108,101]⟩,x.nm] (wr.heap.size+1) 0 2 W2 (h6.below ho) (sl5 (ps:=[⟨#[102,105,108,101]⟩,x.nm]) F2) F2.lt (by simp) qh (by simp) (by omega)).mono ?_
   rintro e w7 ⟨rfl,h7,qb,hX⟩
   rw[hT.out] at h7
   have I7:=I2.ok hX (by omega) (by decide)
   have hB:Below B w w7:=hs.trans ((ho.mono (by omega)).trans qb)
   have hD:=hW.trans ((ok_below ho:Lib.OthersKept 5 (some b) wr W2).trans hX)
   have i1:=I7.cell 1
   simp only[Yp,Yo,Yt] at i1
   obtain⟨wo,qv⟩:∃ y,y=wr:=⟨_,rfl⟩
   subst qv
   clear h3 hQ ho I1 I2 F2 qb hX h6 hs hW qh d0 d1 h2 I7
   go_wp2_with fail
   go_loopw [35] (fun ix wq=>∃ (j:Nat),j<=pn∧ix=.int .i64 j∧Wr B b (P1++AT (x.ps.take j)) wq∧Below B w wq∧Lib.OthersKept 5 (some b) w wq) (fun ix _=>pn-(intOf ix).toNat)
   case atStart=>exact⟨0,Zg _,rfl,by simpa [AT] using h7,hB,hD⟩
   case round=>
    clear h7 hB hD i1
    obtain⟨j,hj,rfl,h8,hv,qi⟩:=hrel
    have h1:Below w0.heap.size w0 wr:=hw.trans (hv.mono hwB)
    by_cases hlj:j<pn
    ·obtain⟨bb,oo,p,rfl,hp,e0,e1,e2⟩:=bi_ hP hlj
     obtain⟨⟨na1,na2⟩,⟨nf1,nf2⟩,⟨nn1,nn2⟩⟩:=qr p (Zc hp)
     have qt:Hid (AT (x.ps.take (j+1))=AT (x.ps.take j)++Ah (ptW p)):=Do hp
     have h0:=Jg hp qq.out
     obtain⟨Q0,qf⟩:∃ P,Hid (P1++AT (x.ps.take j)=P):=⟨_,rfl⟩
     rw[qf.out] at h8 h0
     obtain⟨pa1,hF⟩:∃ x,AF p.a=x:=⟨_,rfl⟩
     obtain⟨pf1,hG⟩:∃ x,AF p.f=x:=⟨_,rfl⟩
     obtain⟨pn1,hJ⟩:∃ x,AF p.n=x:=⟨_,rfl⟩
     have qj:Hid (ptW p=[⟨#[112,97,114,116]⟩,pa1,pf1,pn1]):=by show _=_;unfold ptW;rw[hF,hG,hJ]
     rw[qj.out] at h0
     have g0:=Ab h1 e0
     have g1:=Ab h1 e1
     have g2:=Ab h1 e2
     have qw:(j:Int)<pn:=by omega
     have qx:(0:Int)<=j:=by omega
     have qC:=hv.size
     have qo:=h8.lt
     clear hp e0 e1 e2
     go_wp2_with fail
     have hA:Below wr.heap.size wr (wr.alloc (.cells #[.int .i64 p.a,.int .i64 p.f,.int .i64 p.n] 124)):=(Yg _ _).alloc (Zd _) _
     have PB:=Blk.new wr #[.int .i64 p.a,.int .i64 p.f,.int .i64 p.n] 124
     clear g0 g1 g2
     generalize wr.alloc (.cells #[.int .i64 p.a,.int .i64 p.f,.int .i64 p.n] 124)=V at *
     have hc:∀ u:World,Below V.heap.size V u->u.cell? ⟨wr.heap.size,0,none⟩=some (.int .i64 p.a)∧u.cell? ⟨wr.heap.size,1,none⟩=some (.int .i64 p.f)∧u.cell? ⟨wr.heap.size,2,none⟩=some (.int .i64 p.n):=fun u hu=>⟨(PB.below hu).cell 0,(PB.below hu).cell 1,(PB.below hu).cell 2⟩
     have hM:∀ u:World,Below V.heap.size V u->ES u:=fun u hu=>Br ht (hv.trans ((Aa hA hu).mono (by omega))) hg
     have hU:(fun u:World=>u.cell? ⟨wr.heap.size,0,none⟩=some (.int .i64 p.a)∧u.cell? ⟨wr.heap.size,1,none⟩=some (.int .i64 p.f)∧u.cell? ⟨wr.heap.size,2,none⟩=some (.int .i64 p.n)) V.drew:=(hc _ (Yg _ V).drew)
     refine aC_ (S:=(fun u:World=>u.cell? ⟨wr.heap.size,0,none⟩=some (.int .i64 p.a)∧u.cell? ⟨wr.heap.size,1,none⟩=some (.int .i64 p.f)∧u.cell? ⟨wr.heap.size,2,none⟩=some (.int .i64 p.n))) 12 (by kernel_rfl) rfl ?_
     refine tk 0 ?_ (hy:=by intro u hu;obtain⟨u0,u1,u2⟩:=hu;go_simp<;>with_reducible rfl)
     refine tk 1 ?_ (hy:=by intro u hu;obtain⟨u0,u1,u2⟩:=hu;go_simp<;>with_reducible rfl)
     refine tk 2 ?_ (hy:=by intro u hu;obtain⟨u0,u1,u2⟩:=hu;go_simp<;>with_reducible rfl)
     refine tk 4 ?_ (hy:=by intro u hu;obtain⟨u0,u1,u2⟩:=hu;go_simp<;>with_reducible rfl)
     refine tk 5 ?_ (hy:=by intro u hu;obtain⟨u0,u1,u2⟩:=hu;go_simp<;>with_reducible rfl)
     refine tk 7 ?_ (hy:=by intro u hu;obtain⟨u0,u1,u2⟩:=hu;go_simp<;>with_reducible rfl)
     refine tk 8 ?_ (hy:=by intro u hu;obtain⟨u0,u1,u2⟩:=hu;go_simp<;>with_reducible rfl)
     refine Aq (i:=3) (by kernel_rfl) rfl (fun K hK=>?_)
     go_simp
     refine (Az p.a V.drew (by omega) (by omega) (hM _ (Yg _ V).drew)).mono ?_
     rintro e w1 ⟨rfl,ha⟩
     rw[hF]
     have hf:Below V.heap.size V w1:=Aa (Yg _ V).drew ha
     dsimp only
     refine hK.out _ _ (hc _ hf) (fun hHeld=>?_)
     clear hK K
     try simp only[Act.put,Yj,Yq,Yr]
     refine Aq (i:=6) (by kernel_rfl) rfl (fun K hK=>?_)
     go_simp
     refine (Az p.f w1 (by omega) (by omega) (hM _ hf)).mono ?_
     rintro e w2 ⟨rfl,hq⟩
     rw[hG]
     have hL:=Aa hf hq
     dsimp only
     refine hK.out _ _ (hc _ hL) (fun hHeld=>?_)
     clear hK K
     try simp only[Act.put,Yj,Yq,Yr]
     refine Aq (i:=9) (by kernel_rfl) rfl (fun K hK=>?_)
     go_simp
     refine (Az p.n w2 (by omega) (by omega) (hM _ hL)).mono ?_
     rintro e w3 ⟨rfl,hr⟩
     rw[hJ]
     have hR:=Aa hL hr
     dsimp only
     refine hK.out _ _ (hc _ hR) (fun hHeld=>?_)
     clear hK K
     try simp only[Act.put,Yj,Yq,Yr]
     refine Aq (i:=10) (by kernel_rfl) rfl (fun K hK=>?_)
     go_simp
     have hm:Below w3.heap.size w3 (w3.alloc (.cells #[.string ⟨#[112,97,114,116]⟩,.string pa1,.string pf1,.string pn1] 9)):=(Yg _ _).alloc (Zd _) _
     have X4:=Blk.new w3 #[.string ⟨#[112,97,114,116]⟩,.string pa1,.string pf1,.string pn1] 9
     have he:=Aa hR hm
     have hb:=Aa hA he
     have qn:=hb.size
     have hN:=X4.lt
     refine hK.out _ _ (hc _ he) (fun hHeld=>?_)
     clear hK K
     try simp only[Act.put,Yj,Yq,Yr]
     generalize w3.alloc (.cells #[.string ⟨#[112,97,114,116]⟩,.string pa1,.string pf1,.string pn1] 9)=w4 at *
     refine Aq (i:=11) (by kernel_rfl) rfl (fun K hK=>?_)
     go_simp
     refine (BU B b Q0 [⟨#[112,97,114,116]⟩,pa1,pf1,pn1] w3.heap.size 0 4 w4 (h8.below hb) (sl5 (ps:=[⟨#[112,97,114,116]⟩,pa1,pf1,pn1]) X4) hN (by simp) h0 (by simp) (by omega)).mono ?_
     rintro e w9 ⟨rfl,h9,qc,hY⟩
     have P9:=(PB.below he).ok hY (by omega) (by decide)
     dsimp only
     refine hK.out _ _ ⟨P9.cell 0,P9.cell 1,P9.cell 2⟩ (fun hHeld=>?_)
     clear hK K
     try simp only[Act.put,Yj,Yq,Yr]
     refine wpAnyH_done (by kernel_rfl) ?_ _
     have hS:Below B w w9:=hv.trans ((hb.mono (by omega)).trans qc)
     have hZ:=qi.trans ((ok_below hb:Lib.OthersKept 5 (some b) wr w4).trans hY)
     have hO:Wr B b (P1++AT (x.ps.take (j+1))) w9:=by rw[qt.out,<-ZC,qf.out,qj.out];exact h9
     clear hU hHeld hc hM X4 he hb hm hf ha hL hq hR hr qc hY P9 PB hA
     go_wp2
     go_roundw
     case rel=>exact⟨j+1,by omega,by go_num,hO,hS,hZ⟩
     case measure=>simp[intOf];omega
    ·obtain rfl:j=pn:=by omega
     rw[Zk (Zm hH.out)] at h8
     have hO:Wr B b (L0++BY (v.its.take (k+1))) wr:=by
      rw[qu.out,<-ZC,qe.out]
      unfold itW
      rw[<-ZC,hT.out]
      exact h8
     go_wp2
     go_roundw
     case rel=>exact⟨k+1,by omega,by go_num,hO,hv,qi⟩
     case measure=>simp[intOf];omega
  ·obtain rfl:k=inn:=by omega
   rw[Zk (Zm hE.out)] at h6
   go_wp2
   go_end0
   exact⟨rfl,h6,hs,hW⟩
theorem Fa (B b:Nat)(l:List UInt8)(v:Vo)(Bx:Nat)(ia:Option Addr)(inn ic:Nat)(w0 w:World)(hfx:v.fx=false)(hI:Bw Bx w0 ia inn v.its)(hw:Below w0.heap.size w0 w)(hwB:w0.heap.size<=B)(h:Wr B b l w)(ht:ES w)(hg:9<=B)(hBw:B<=w.heap.size)(n1:Num v.id)(n2:∀ x∈v.its,Kk x.ps)(hn:inn<=4194304)(hpn:∀ x∈v.its,x.ps.length<=4194304)(hlen:(l++Dr v).length<=1000000) :
  Calls prog 40 #[.pointer (some ⟨b,0,none⟩),.agg #[.int .i64 v.id,.string v.nm,.bool false,.slice ia inn ic]] w fun e w'=>e=.returned (.tuple #[])∧Wr B b (l++Dr v) w'∧Below B w w'∧Lib.OthersKept 5 (some b) w w':=by
 have hE:Hid (v.its.length=inn):=hI.len
 obtain⟨a1,a2⟩:=n1
 have qp:=h.lt
 obtain⟨da,qg⟩:∃ x,AF v.id=x:=⟨_,rfl⟩
 have qk:voW v=[⟨#[118,111,108,117,109,101]⟩,da,v.nm,⟨#[48]⟩]:=by unfold voW Gi;rw[qg,hfx];rfl
 have ql:Dr v=Ah [⟨#[118,111,108,117,109,101]⟩,da,v.nm,⟨#[48]⟩]++BY v.its:=by unfold Dr;rw[qk]
 rw[ql] at hlen ⊢
 obtain⟨L0,qd⟩:∃ x,l++Ah [⟨#[118,111,108,117,109,101]⟩,da,v.nm,⟨#[48]⟩]=x:=⟨_,rfl⟩
 have hh:l.length+(Ah [⟨#[118,111,108,117,109,101]⟩,da,v.nm,⟨#[48]⟩]).length<=1000000:=by
  rw[ZE,ZE] at hlen
  omega
 rw[<-ZC,qd] at hlen ⊢
 have C:=Blk.new w #[.int .i64 v.id,.string v.nm,.bool false,.slice ia inn ic] 80
 have h4:Below w.heap.size w (w.alloc (.cells #[.int .i64 v.id,.string v.nm,.bool false,.slice ia inn ic] 80)):=(Yg _ _).alloc (Zd _) _
 obtain⟨x0,x1,x2,x3⟩:=GT C
 clear qk ql hfx
 go_enter func40,ntmps40
 go_wp2_with fail
 clear x0 x1 x2 x3
 generalize w.alloc (.cells #[.int .i64 v.id,.string v.nm,.bool false,.slice ia inn ic] 80)=W at *
 have hc:∀ u:World,Below W.heap.size W u->u.cell? ⟨w.heap.size,0,none⟩=some (.int .i64 v.id)∧u.cell? ⟨w.heap.size,1,none⟩=some (.string v.nm)∧u.cell? ⟨w.heap.size,2,none⟩=some (.bool false)∧u.cell? ⟨w.heap.size,3,none⟩=some (.slice ia inn ic):=fun u hu=>GT (C.below hu)
 have hU:(fun u:World=>u.cell? ⟨w.heap.size,0,none⟩=some (.int .i64 v.id)∧u.cell? ⟨w.heap.size,1,none⟩=some (.string v.nm)∧u.cell? ⟨w.heap.size,2,none⟩=some (.bool false)∧u.cell? ⟨w.heap.size,3,none⟩=some (.slice ia inn ic)) W.drew:=(hc _ (Yg _ W).drew)
 refine aC_ (S:=(fun u:World=>u.cell? ⟨w.heap.size,0,none⟩=some (.int .i64 v.id)∧u.cell? ⟨w.heap.size,1,none⟩=some (.string v.nm)∧u.cell? ⟨w.heap.size,2,none⟩=some (.bool false)∧u.cell? ⟨w.heap.size,3,none⟩=some (.slice ia inn ic))) 9 (by kernel_rfl) rfl ?_
 refine tk 0 ?_ (hy:=by intro u hu;obtain⟨u0,u1,u2,u3⟩:=hu;go_simp<;>with_reducible rfl)
 refine tk 1 ?_ (hy:=by intro u hu;obtain⟨u0,u1,u2,u3⟩:=hu;go_simp<;>with_reducible rfl)
 refine tk 2 ?_ (hy:=by intro u hu;obtain⟨u0,u1,u2,u3⟩:=hu;go_simp<;>with_reducible rfl)
 refine tk 4 ?_ (hy:=by intro u hu;obtain⟨u0,u1,u2,u3⟩:=hu;go_simp<;>with_reducible rfl)
 refine tk 5 ?_ (hy:=by intro u hu;obtain⟨u0,u1,u2,u3⟩:=hu;go_simp<;>with_reducible rfl)
 refine tk 6 ?_ (hy:=by intro u hu;obtain⟨u0,u1,u2,u3⟩:=hu;go_simp<;>with_reducible rfl)
 refine Aq (i:=3) (by kernel_rfl) rfl (fun K hK=>?_)
 go_simp
 refine (Az v.id W.drew (by omega) (by omega) (Br ht (h4.drew.mono hBw) hg)).mono ?_
 rintro e w1 ⟨rfl,ha⟩
 rw[qg]
 have hf:Below W.heap.size W w1:=Aa (Yg _ W).drew ha
 dsimp only
 refine hK.out _ _ (hc _ hf) (fun hHeld=>?_)
 clear hK K
 try simp only[Act.put,Yj,Yq,Yr]
 refine Aq (i:=7) (by kernel_rfl) rfl (fun K hK=>?_)
 go_simp
 have hm:Below w1.heap.size w1 (w1.alloc (.cells #[.string ⟨#[118,111,108,117,109,101]⟩,.string da,.string v.nm,.string ⟨#[48]⟩] 9)):=(Yg _ _).alloc (Zd _) _
 have X4:=Blk.new w1 #[.string ⟨#[118,111,108,117,109,101]⟩,.string da,.string v.nm,.string ⟨#[48]⟩] 9
 have he:=Aa hf hm
 have hb:=Aa h4 he
 have qn:=hb.size
 have hN:=X4.lt
 refine hK.out _ _ (hc _ he) (fun hHeld=>?_)
 clear hK K
 try simp only[Act.put,Yj,Yq,Yr]
 generalize w1.alloc (.cells #[.string ⟨#[118,111,108,117,109,101]⟩,.string da,.string v.nm,.string ⟨#[48]⟩] 9)=w4 at *
 refine Aq (i:=8) (by kernel_rfl) rfl (fun K hK=>?_)
 go_simp
 refine (BU B b l [⟨#[118,111,108,117,109,101]⟩,da,v.nm,⟨#[48]⟩] w1.heap.size 0 4 w4 (h.below hb) (sl5 (ps:=[⟨#[118,111,108,117,109,101]⟩,da,v.nm,⟨#[48]⟩]) X4) hN (by simp) hh (by simp) (by omega)).mono ?_
 rintro e w5 ⟨rfl,h5,qa,hV⟩
 rw[qd] at h5
 have C5:=(C.below he).ok hV (by omega) (by decide)
 dsimp only
 refine hK.out _ _ (GT C5) (fun hHeld=>?_)
 clear hK K
 try simp only[Act.put,Yj,Yq,Yr]
 refine wpAnyH_done (by kernel_rfl) ?_ _
 have x3:=C5.cell 3
 simp only[Yp,Yo,Yt] at x3
 have hz:=(hb.mono hBw).trans qa
 have hC:=(ok_below hb:Lib.OthersKept 5 (some b) w w4).trans hV
 clear hU hHeld hc X4 he hb hm hf ha qa hV hh hN qn
 go_wp2_with fail
 go_loopw [23] (fun ix wr=>∃ (k:Nat),k<=inn∧ix=.int .i64 k∧Wr B b (L0++BY (v.its.take k)) wr∧Below B w wr∧Lib.OthersKept 5 (some b) w wr) (fun ix _=>inn-(intOf ix).toNat)
 case atStart=>exact⟨0,Zg _,rfl,by simpa [BY] using h5,hz,hC⟩
 case round=>
  clear h5 hz hC C5 x3
  obtain⟨k,hk,rfl,h6,hs,hW⟩:=hrel
  have h2:Below w0.heap.size w0 wr:=hw.trans (hs.mono hwB)
  by_cases hlt:k<inn
  ·obtain⟨b',o',x,pa,pn,pc,rfl,hx,c0,c1,hP,_,_,_⟩:=bO_ hI hlt
   have qm:=Zc hx
   have qA:pn<=4194304:=by rw[<-hP.len];exact hpn x qm
   have qr:=n2 x qm
   have qu:Hid (BY (v.its.take (k+1))=BY (v.its.take k)++itW x):=EA hx
   have hl:=Jf hx hlen
   obtain⟨P0,qe⟩:∃ P,Hid (L0++BY (v.its.take k)=P):=⟨_,rfl⟩
   rw[qe.out] at h6 hl
   have d0:=Ab h2 c0
   have d1:=Ab h2 c1
   have qy:(k:Int)<inn:=by omega
   have qz:(0:Int)<=k:=by omega
   have hH:Hid (x.ps.length=pn):=hP.len
   have qB:=hs.size
   have qh:P0.length+(Ah [⟨#[102,105,108,101]⟩,x.nm]).length<=1000000:=by
    unfold itW at hl
    rw[ZE,ZE] at hl
    omega
   obtain⟨P1,hT⟩:∃ P,Hid (P0++Ah [⟨#[102,105,108,101]⟩,x.nm]=P):=⟨_,rfl⟩
   have qq:Hid ((P1++AT x.ps).length<=1000000):=by
    show _<=_
    rw[<-hT.out]
    unfold itW at hl
    rw[ZC]
    exact hl
   clear hx hl c0 c1
   go_wp2_with fail
   have h3:Below wr.heap.size wr (wr.alloc (.cells #[.string x.nm,.slice pa pn pc] 122)):=(Yg _ _).alloc (Zd _) _
   have I1:=Blk.new wr #[.string x.nm,.slice pa pn pc] 122
   have qs:(wr.alloc (.cells #[.string x.nm,.slice pa pn pc] 122)).heap.size=wr.heap.size+1:=by simp
   generalize wr.alloc (.cells #[.string x.nm,.slice pa pn pc] 122)=W1 at *
   have hQ:Below W1.heap.size W1 (W1.alloc (.cells #[.string ⟨#[102,105,108,101]⟩,.string x.nm] 9)):=(Yg _ _).alloc (Zd _) _
   have F2:=Blk.new W1 #[.string ⟨#[102,105,108,101]⟩,.string x.nm] 9
   rw[qs] at F2
   have ho:=Aa h3 hQ
   have I2:=I1.below hQ
   have qD:=ho.size
   generalize W1.alloc (.cells #[.string ⟨#[102,105,108,101]⟩,.string x.nm] 9)=W2 at *
   refine (BU B b P0 [⟨#[102,105,108,101]⟩,x.nm] (wr.heap.size+1) 0 2 W2 (h6.below ho) (sl5 (ps:=[⟨#[102,105,108,101]⟩,x.nm]) F2) F2.lt (by simp) qh (by simp) (by omega)).mono ?_
   rintro e w7 ⟨rfl,h7,qb,hX⟩
   rw[hT.out] at h7
   have I7:=I2.ok hX (by omega) (by decide)
   have hB:Below B w w7:=hs.trans ((ho.mono (by omega)).trans qb)
   have hD:=hW.trans ((ok_below ho:Lib.OthersKept 5 (some b) wr W2).trans hX)
   have i1:=I7.cell 1
   simp only[Yp,Yo,Yt] at i1
   obtain⟨wo,qv⟩:∃ y,y=wr:=⟨_,rfl⟩
   subst qv
   clear h3 hQ ho I1 I2 F2 qb hX h6 hs hW qh d0 d1 h2 I7
   go_wp2_with fail
   go_loopw [35] (fun ix wq=>∃ (j:Nat),j<=pn∧ix=.int .i64 j∧Wr B b (P1++AT (x.ps.take j)) wq∧Below B w wq∧Lib.OthersKept 5 (some b) w wq) (fun ix _=>pn-(intOf ix).toNat)
   case atStart=>exact⟨0,Zg _,rfl,by simpa [AT] using h7,hB,hD⟩
   case round=>
    clear h7 hB hD i1
    obtain⟨j,hj,rfl,h8,hv,qi⟩:=hrel
    have h1:Below w0.heap.size w0 wr:=hw.trans (hv.mono hwB)
    by_cases hlj:j<pn
    ·obtain⟨bb,oo,p,rfl,hp,e0,e1,e2⟩:=bi_ hP hlj
     obtain⟨⟨na1,na2⟩,⟨nf1,nf2⟩,⟨nn1,nn2⟩⟩:=qr p (Zc hp)
     have qt:Hid (AT (x.ps.take (j+1))=AT (x.ps.take j)++Ah (ptW p)):=Do hp
     have h0:=Jg hp qq.out
     obtain⟨Q0,qf⟩:∃ P,Hid (P1++AT (x.ps.take j)=P):=⟨_,rfl⟩
     rw[qf.out] at h8 h0
     obtain⟨pa1,hF⟩:∃ x,AF p.a=x:=⟨_,rfl⟩
     obtain⟨pf1,hG⟩:∃ x,AF p.f=x:=⟨_,rfl⟩
     obtain⟨pn1,hJ⟩:∃ x,AF p.n=x:=⟨_,rfl⟩
     have qj:Hid (ptW p=[⟨#[112,97,114,116]⟩,pa1,pf1,pn1]):=by show _=_;unfold ptW;rw[hF,hG,hJ]
     rw[qj.out] at h0
     have g0:=Ab h1 e0
     have g1:=Ab h1 e1
     have g2:=Ab h1 e2
     have qw:(j:Int)<pn:=by omega
     have qx:(0:Int)<=j:=by omega
     have qC:=hv.size
     have qo:=h8.lt
     clear hp e0 e1 e2
     go_wp2_with fail
     have hA:Below wr.heap.size wr (wr.alloc (.cells #[.int .i64 p.a,.int .i64 p.f,.int .i64 p.n] 124)):=(Yg _ _).alloc (Zd _) _
     have PB:=Blk.new wr #[.int .i64 p.a,.int .i64 p.f,.int .i64 p.n] 124
     clear g0 g1 g2
     generalize wr.alloc (.cells #[.int .i64 p.a,.int .i64 p.f,.int .i64 p.n] 124)=V at *
     have hc:∀ u:World,Below V.heap.size V u->u.cell? ⟨wr.heap.size,0,none⟩=some (.int .i64 p.a)∧u.cell? ⟨wr.heap.size,1,none⟩=some (.int .i64 p.f)∧u.cell? ⟨wr.heap.size,2,none⟩=some (.int .i64 p.n):=fun u hu=>⟨(PB.below hu).cell 0,(PB.below hu).cell 1,(PB.below hu).cell 2⟩
     have hM:∀ u:World,Below V.heap.size V u->ES u:=fun u hu=>Br ht (hv.trans ((Aa hA hu).mono (by omega))) hg
     have hU:(fun u:World=>u.cell? ⟨wr.heap.size,0,none⟩=some (.int .i64 p.a)∧u.cell? ⟨wr.heap.size,1,none⟩=some (.int .i64 p.f)∧u.cell? ⟨wr.heap.size,2,none⟩=some (.int .i64 p.n)) V.drew:=(hc _ (Yg _ V).drew)
     refine aC_ (S:=(fun u:World=>u.cell? ⟨wr.heap.size,0,none⟩=some (.int .i64 p.a)∧u.cell? ⟨wr.heap.size,1,none⟩=some (.int .i64 p.f)∧u.cell? ⟨wr.heap.size,2,none⟩=some (.int .i64 p.n))) 12 (by kernel_rfl) rfl ?_
     refine tk 0 ?_ (hy:=by intro u hu;obtain⟨u0,u1,u2⟩:=hu;go_simp<;>with_reducible rfl)
     refine tk 1 ?_ (hy:=by intro u hu;obtain⟨u0,u1,u2⟩:=hu;go_simp<;>with_reducible rfl)
     refine tk 2 ?_ (hy:=by intro u hu;obtain⟨u0,u1,u2⟩:=hu;go_simp<;>with_reducible rfl)
     refine tk 4 ?_ (hy:=by intro u hu;obtain⟨u0,u1,u2⟩:=hu;go_simp<;>with_reducible rfl)
     refine tk 5 ?_ (hy:=by intro u hu;obtain⟨u0,u1,u2⟩:=hu;go_simp<;>with_reducible rfl)
     refine tk 7 ?_ (hy:=by intro u hu;obtain⟨u0,u1,u2⟩:=hu;go_simp<;>with_reducible rfl)
     refine tk 8 ?_ (hy:=by intro u hu;obtain⟨u0,u1,u2⟩:=hu;go_simp<;>with_reducible rfl)
     refine Aq (i:=3) (by kernel_rfl) rfl (fun K hK=>?_)
     go_simp
     refine (Az p.a V.drew (by omega) (by omega) (hM _ (Yg _ V).drew)).mono ?_
     rintro e w1 ⟨rfl,ha⟩
     rw[hF]
     have hf:Below V.heap.size V w1:=Aa (Yg _ V).drew ha
     dsimp only
     refine hK.out _ _ (hc _ hf) (fun hHeld=>?_)
     clear hK K
     try simp only[Act.put,Yj,Yq,Yr]
     refine Aq (i:=6) (by kernel_rfl) rfl (fun K hK=>?_)
     go_simp
     refine (Az p.f w1 (by omega) (by omega) (hM _ hf)).mono ?_
     rintro e w2 ⟨rfl,hq⟩
     rw[hG]
     have hL:=Aa hf hq
     dsimp only
     refine hK.out _ _ (hc _ hL) (fun hHeld=>?_)
     clear hK K
     try simp only[Act.put,Yj,Yq,Yr]
     refine Aq (i:=9) (by kernel_rfl) rfl (fun K hK=>?_)
     go_simp
     refine (Az p.n w2 (by omega) (by omega) (hM _ hL)).mono ?_
     rintro e w3 ⟨rfl,hr⟩
     rw[hJ]
     have hR:=Aa hL hr
     dsimp only
     refine hK.out _ _ (hc _ hR) (fun hHeld=>?_)
     clear hK K
     try simp only[Act.put,Yj,Yq,Yr]
     refine Aq (i:=10) (by kernel_rfl) rfl (fun K hK=>?_)
     go_simp
     have hm:Below w3.heap.size w3 (w3.alloc (.cells #[.string ⟨#[112,97,114,116]⟩,.string pa1,.string pf1,.string pn1] 9)):=(Yg _ _).alloc (Zd _) _
     have X4:=Blk.new w3 #[.string ⟨#[112,97,114,116]⟩,.string pa1,.string pf1,.string pn1] 9
     have he:=Aa hR hm
     have hb:=Aa hA he
     have qn:=hb.size
     have hN:=X4.lt
     refine hK.out _ _ (hc _ he) (fun hHeld=>?_)
     clear hK K
     try simp only[Act.put,Yj,Yq,Yr]
     generalize w3.alloc (.cells #[.string ⟨#[112,97,114,116]⟩,.string pa1,.string pf1,.string pn1] 9)=w4 at *
     refine Aq (i:=11) (by kernel_rfl) rfl (fun K hK=>?_)
     go_simp
     refine (BU B b Q0 [⟨#[112,97,114,116]⟩,pa1,pf1,pn1] w3.heap.size 0 4 w4 (h8.below hb) (sl5 (ps:=[⟨#[112,97,114,116]⟩,pa1,pf1,pn1]) X4) hN (by simp) h0 (by simp) (by omega)).mono ?_
     rintro e w9 ⟨rfl,h9,qc,hY⟩
     have P9:=(PB.below he).ok hY (by omega) (by decide)
     dsimp only
     refine hK.out _ _ ⟨P9.cell 0,P9.cell 1,P9.cell 2⟩ (fun hHeld=>?_)
     clear hK K
     try simp only[Act.put,Yj,Yq,Yr]
     refine wpAnyH_done (by kernel_rfl) ?_ _
     have hS:Below B w w9:=hv.trans ((hb.mono (by omega)).trans qc)
     have hZ:=qi.trans ((ok_below hb:Lib.OthersKept 5 (some b) wr w4).trans hY)
     have hO:Wr B b (P1++AT (x.ps.take (j+1))) w9:=by rw[qt.out,<-ZC,qf.out,qj.out];exact h9
     clear hU hHeld hc hM X4 he hb hm hf ha hL hq hR hr qc hY P9 PB hA
     go_wp2
     go_roundw
     case rel=>exact⟨j+1,by omega,by go_num,hO,hS,hZ⟩
     case measure=>simp[intOf];omega
    ·obtain rfl:j=pn:=by omega
     rw[Zk (Zm hH.out)] at h8
     have hO:Wr B b (L0++BY (v.its.take (k+1))) wr:=by
      rw[qu.out,<-ZC,qe.out]
      unfold itW
      rw[<-ZC,hT.out]
      exact h8
     go_wp2
     go_roundw
     case rel=>exact⟨k+1,by omega,by go_num,hO,hv,qi⟩
     case measure=>simp[intOf];omega
  ·obtain rfl:k=inn:=by omega
   rw[Zk (Zm hE.out)] at h6
   go_wp2
   go_end0
   exact⟨rfl,h6,hs,hW⟩
theorem HZ (B b:Nat)(l:List UInt8)(v:Vo)(Bx:Nat)(ia:Option Addr)(inn ic:Nat)(w0 w:World)(hI:Bw Bx w0 ia inn v.its)(hw:Below w0.heap.size w0 w)(hwB:w0.heap.size<=B)(h:Wr B b l w)(ht:ES w)(hg:9<=B)(hBw:B<=w.heap.size)(n1:Num v.id)(n2:∀ x∈v.its,Kk x.ps)(hn:inn<=4194304)(hpn:∀ x∈v.its,x.ps.length<=4194304)(hlen:(l++Dr v).length<=1000000) :
  Calls prog 40 #[.pointer (some ⟨b,0,none⟩),.agg #[.int .i64 v.id,.string v.nm,.bool v.fx,.slice ia inn ic]] w fun e w'=>e=.returned (.tuple #[])∧Wr B b (l++Dr v) w'∧Below B w w'∧Lib.OthersKept 5 (some b) w w':=by
 cases hf:v.fx
 ·exact Fa B b l v Bx ia inn ic w0 w hf hI hw hwB h ht hg hBw n1 n2 hn hpn hlen
 ·exact Fw B b l v Bx ia inn ic w0 w hf hI hw hwB h ht hg hBw n1 n2 hn hpn hlen
theorem MJ (w:World):Wr w.heap.size w.heap.size [] (w.alloc (.cells #[.pointer none,.slice none 0 0] 74)):=⟨.inl ⟨Zd _,.slice none 0 0,Blk.new w _ _,⟨rfl,.inl ⟨rfl,rfl⟩⟩,by simp[Value.ownBlock]⟩⟩
end
end Go.Proofs.YtkiceokhlceciaaGreatDoor
