/- Texts of pools, read and written; what is drawn. -/
import Derived.Test.YteejlahappbalaaGreatDoorU11
import Derived.Test.YteejlahappbalaaGreatDoorU23
set_option maxHeartbeats 20000000
set_option maxRecDepth 100000
namespace Go.Proofs.YteejlahappbalaaGreatDoor
section
open Go Go.RowKit Go.BigFrame Go.Shelf Tryz
theorem Nn:(prog.info? 167).map (·.size)=some 2:=by kernel_rfl
theorem RY:liesAt prog prog.depth 169 (2 / prog.cellsOf 169) 0 167 1=true:=by kernel_rfl
theorem Jg (b:Nat)(w:World)(h0:w.cell? ⟨b,0,none⟩=some (.pointer (some ⟨b,0,none⟩))) :
  Calls prog 191 #[.pointer (some ⟨b,0,none⟩)] w fun e w'=>e=.returned (.tuple #[])∧w'=w:=by
 obtain⟨j,hj,_⟩:=ZW.1 Nn;go_enter func191,ntmps191;go_wp2;rw[Lib.run_neq_ptr_same w _ underlying165 hj];go_wp2;go_end0;exact⟨rfl,rfl⟩
theorem Il (b:Nat)(w:World)(h0:w.cell? ⟨b,0,none⟩=some (.pointer none))(hsh:w.shape? b=some (169,2))(hfz:w.frozen? ⟨b,0,none⟩=false) :
  Calls prog 191 #[.pointer (some ⟨b,0,none⟩)] w fun e w'=>e=.returned (.tuple #[])∧w'=w.setCell ⟨b,0,none⟩ (.pointer (some ⟨b,0,none⟩)):=by
 obtain⟨j,hj,ha⟩:=ZW.1 Nn;go_enter func191,ntmps191;go_wp2;rw[Lib.run_to_unsafe w ⟨b,0,none⟩ underlying165 underlying275 hj (by rw[ha];decide) hsh (Nat.zero_lt_succ 1)];simp only[Result.andThen];rw[Oper.upon_value];go_wp2;rw[YX func224 sI sI sI (e:=Extern.AbiNoEscape.same) sI];rw[Lib.run_noEscape];simp only[Result.andThen];rw[Oper.upon_value];go_wp2;rw[Lib.run_from_unsafe w ⟨b,0,none⟩ underlying275 underlying165 hj hsh RY];simp only[Result.andThen];rw[Oper.upon_value];go_wp2;go_end0;exact⟨rfl,rfl⟩
theorem K4 (B b:Nat)(bs:List Value)(w:World)(h:Lib.IsBuilderF 169 5 B b bs w) :
  Calls prog 191 #[.pointer (some ⟨b,0,none⟩)] w fun e w'=>e=.returned (.tuple #[])∧Lib.BuilderAtF 169 5 B b (.pointer (some ⟨b,0,none⟩)) bs w'∧Below B w w'∧Lib.OthersKept 5 (some b) w w':=by
 rcases h with h | h
 ·refine (Il b w h.cell0 h.shape h.frozen0).mono ?_;rintro e w' ⟨rfl,rfl⟩;exact⟨rfl,h.used _,(Yg B w).setCell (p:=⟨b,0,none⟩) h.1 _,(Lib.OthersKept.refl _ _ w).setCell ⟨b,0,none⟩ rfl _⟩
 ·refine (Jg b w h.cell0).mono ?_;rintro e w' ⟨rfl,rfl⟩;exact⟨rfl,h,Yg B _,Lib.OthersKept.refl _ _ _⟩
theorem Qm:(prog.info? 5).map (fun i=>(i.zero,i.size,i.bytes))=some (some (.int .u8 0),1,1):=by kernel_rfl
theorem RZ:prog.cellsOf 5=1:=by kernel_rfl
theorem oC{p:Prop}(h:p:=by rw[Lib.cell_of_heap kJ];rfl):p:=h
theorem oD{p:Prop}(h:p:=by rw[Lib.cell_of_heap kg];rfl):p:=h
theorem Kg (B b:Nat)(bs:List Value)(c:Int)(w:World)(h:Lib.IsBuilderF 169 5 B b bs w)(hlen:bs.length+1<=140737488355328)(hBw:B<=w.heap.size) :
  Calls prog 156 #[.pointer (some ⟨b,0,none⟩),.int .u8 c] w fun e w'=>e=.returned .nilIface∧Lib.BuilderAtF 169 5 B b (.pointer (some ⟨b,0,none⟩)) (bs++[.int .u8 c]) w'∧Below B w w'∧Lib.OthersKept 5 (some b) w w':=by
 obtain⟨i0,hi,hl,hm,hn⟩:=info_parts Qm;go_enter func156,ntmps156;go_wp2_with fail;refine (K4 B b bs w h).mono ?_;rintro e w1 ⟨rfl,h1,he,hf⟩;obtain⟨hB,v,kJ,hc,hh⟩:=h1;have c0:w1.cell? ⟨b,0,none⟩=some (.pointer (some ⟨b,0,none⟩)):=oC;have c1:w1.cell? ⟨b,1,none⟩=some v:=oC;have hz:=he.size;go_wp2_with (at_builtin;refine wpList_append_ownF _ rfl _ _ 22 rfl B 5 i0 (.int .u8 0) 1 1 underlying22 hi hl hm hn rfl sJ _ _ _ rfl (hc.alloc _) ⟨w1.heap.size,0,none⟩ 1 1 [.int .u8 c] rfl rfl ?c1 ?c2 ?c3 ?c4 ?c5 ?_)
 case c1=>
  intro j u hj
  match j,hj with
  |0,hj=>simp at hj;subst hj;simp[Addr.add]
 case c2=>intro u hu;simp at hu;subst hu;rfl
 case c3=>unfold maxLen;omega
 case c4=>omega
 case c5=>simp;omega
 intro v' w2 hb ha _;have hg:b<w1.heap.size:=(ZG.1 kJ).1;have kg:w2.heap[b]?=some (.cells #[.pointer (some ⟨b,0,none⟩),v] 169 (0,0)):=by
  rw[ha.block b sN (fun e=>hh e.symm),Lib.alloc_old w1 _ b hg];exact kJ
 have d0:w2.cell? ⟨b,0,none⟩=some (.pointer (some ⟨b,0,none⟩)):=oD;have d1:w2.cell? ⟨b,1,none⟩=some v:=oD;have f1:w2.frozen? ⟨b,1,none⟩=false:=Lib.frozen_of_heap kg 1;obtain⟨g,cap,rfl⟩:∃ g cap,v'=.slice (some ⟨g,0,none⟩) (bs.length+1) cap:=by
  rcases hb.2 with⟨_,h0⟩ | ⟨g,cap,cur,fz,hv,_⟩
  ·omega
  ·exact⟨g,cap,hv⟩
 go_wp2;go_ret;refine ⟨rfl,?_,?_,((hf.alloc _).grown ha (Lib.ownsRowF_kind (hc.alloc _))).setCell ⟨b,1,none⟩ rfl _⟩
 ·exact Lib.BuilderAtF.put (T:=169) (e:=5) hB kg (bs':=bs++[.int .u8 c]) (by simpa using hb) sJ
 ·exact ((he.alloc sH _).grown ha sN (fun k hk=>(hc.lt k hk).1)).setCell (p:=⟨b,1,none⟩) hB _
theorem Ik (B b:Nat)(bs:List Value)(s:ByteArray)(w:World)(h:Lib.IsBuilderF 169 5 B b bs w)(hlen:bs.length+s.size<=140737488355328)(hBw:B<=w.heap.size) :
  Calls prog 155 #[.pointer (some ⟨b,0,none⟩),.string s] w fun e w'=>e=.returned (.tuple #[.int .i64 s.size,.nilIface])∧Lib.BuilderAtF 169 5 B b (.pointer (some ⟨b,0,none⟩)) (bs++Lib.strCells s) w'∧Below B w w'∧Lib.OthersKept 5 (some b) w w':=by
 obtain⟨i0,hi,hj,hl,hm⟩:=info_parts Qm;go_enter func155,ntmps155;go_wp2_with fail;refine (K4 B b bs w h).mono ?_;rintro e w1 ⟨rfl,h1,he,hf⟩;obtain⟨hB,v,kJ,hc,hh⟩:=h1;have c0:w1.cell? ⟨b,0,none⟩=some (.pointer (some ⟨b,0,none⟩)):=oC;have c1:w1.cell? ⟨b,1,none⟩=some v:=oC;have hz:=he.size;go_wp2_with (at_builtin;refine Lib.wpList_append_own_stringF _ rfl _ _ 22 9 rfl B 5 i0 underlying22 underlying9 hi hj hl hm _ _ _ rfl hc s rfl ?c3 ?c4 ?c5 ?_)
 case c3=>unfold maxLen;omega
 case c4=>omega
 case c5=>omega
 intro v' w2 hb ha _;have hg:b<w1.heap.size:=(ZG.1 kJ).1;have kg:w2.heap[b]?=some (.cells #[.pointer (some ⟨b,0,none⟩),v] 169 (0,0)):=by
  rw[ha.block b hg (fun e=>hh e.symm)];exact kJ
 have d0:w2.cell? ⟨b,0,none⟩=some (.pointer (some ⟨b,0,none⟩)):=oD;have d1:w2.cell? ⟨b,1,none⟩=some v:=oD;have f1:w2.frozen? ⟨b,1,none⟩=false:=Lib.frozen_of_heap kg 1;obtain⟨ao,n',cap,rfl⟩:∃ ao n' cap,v'=.slice ao n' cap:=by
  rcases hb.2 with⟨hv,_⟩ | ⟨g,cap,cur,fz,hv,_⟩
  ·exact⟨_,_,_,hv⟩
  ·exact⟨_,_,_,hv⟩
 go_wp2;go_ret2;refine ⟨rfl,?_,?_,(hf.grown ha (Lib.ownsRowF_kind hc)).setCell ⟨b,1,none⟩ rfl _⟩
 ·exact Lib.BuilderAtF.put (T:=169) (e:=5) hB kg (bs':=bs++Lib.strCells s) (by simpa [Lib.strCells_length] using hb) sJ
 ·exact (he.grown ha sH (fun k hk=>(hc.lt k hk).1)).setCell (p:=⟨b,1,none⟩) hB _
theorem Oh (B b:Nat)(l:List UInt8)(w:World)(h:Lib.IsBuilderF 169 5 B b (Lib.byteCells l) w)(h0:l≠[]) :
  Calls prog 113 #[.pointer (some ⟨b,0,none⟩)] w fun e w'=>e=.returned (.string ⟨l.toArray⟩)∧Below B w w':=by
 obtain⟨p,hc⟩:∃ p,Lib.BuilderAtF 169 5 B b p (Lib.byteCells l) w:=by
  rcases h with h | h
  ·exact⟨_,h⟩
  ·exact⟨_,h⟩
 obtain⟨hB,v,hf,ha,hq⟩:=hc;have hk:l.length≠0:=by simpa using h0
 rw[Lib.byteCells_length] at ha;obtain⟨g,cap,cur,fz,rfl,he,hg,ho,hp,hh,hn,hb⟩:∃ g cap cur fz,v=.slice (some ⟨g,0,none⟩) l.length cap∧B<=g∧w.heap[g]?=some (.cells cur 5 fz)∧fz.2<=l.length*1∧l.length<=cap∧cap<=maxLen∧cur.size=cap*1∧cur.toList.take (l.length*1)=Lib.byteCells l:=by
  rcases ha.2 with⟨_,hz⟩ | ⟨g,cap,cur,fz,hv,r⟩
  ·exact absurd hz hk
  ·exact⟨g,cap,cur,fz,hv,r⟩
 have c1:w.drew.cell? ⟨b,1,none⟩=some (.slice (some ⟨g,0,none⟩) l.length cap):=by
  have:w.drew.heap[b]?=some (.cells #[p,.slice (some ⟨g,0,none⟩) l.length cap] 169 (0,0)):=hf;rw[Lib.cell_of_heap this];rfl
 have hl:(Builtin.unsafeSliceData_ #[22] 218 #[.slice (some ⟨g,0,none⟩) l.length cap]).run prog w.drew=.ok (.pointer (some ⟨g,0,none⟩)) w.drew:=
  Lib.run_unsafeSliceData_row _ _ _ _ _ _ sH
 have hm:(Builtin.unsafeString_ #[218,3] 9 #[.pointer (some ⟨g,0,none⟩),.int .i64 l.length]).run prog w.drew=.ok (.string ⟨l.toArray⟩) (w.drew.freeze ⟨g,0,none⟩ l.length):=by
  refine Lib.run_unsafeString_row w.drew 218 3 9 5 underlying218 RZ g cur.size (by have hj:w.drew.heap[g]?=some (.cells cur 5 fz):=hg;simp[World.shape?,hj]) l h0 sH (by unfold maxLen at hh;omega) ?_;intro j x hx;have:=ha.cells (g:=g) rfl j (.int .u8 x.toNat) (by simp[Lib.byteCells,hx]);exact this
 have mixed:prog.follows .mixedOrders=true:=sI;go_enter func113,ntmps113;go_wp2;go_region_o;all_goals (go_wp2;go_ret;exact⟨rfl,Lib.below_freeze (Below.drew (Yg B w)) (p:=⟨g,0,none⟩) he _⟩)
end
section
open Go.Shelf Go.RowKit Go.Lib Tryz
def Nz:Go.Shelf.Ren:=⟨fun | 156=>130 | 165=>169 | 166=>155 | 169=>113 | 240=>191 | 241=>215 | 276=>224 | 277=>233 | n=>n,fun | 31=>40 | 9=>9 | 3=>3 | 4=>4 | 0=>0 | 20=>20 | 72=>167 | 76=>215 | 70=>165 | 37=>22 | 75=>99 | 127=>218 | 164=>275 | 5=>5 | 80=>173 | n=>n,fun | n=>n⟩
theorem jnL:Lays.n156 Tryz.prog Nz where
 mixed:=by kernel_rfl
 f156:=Tryz.func130.trans (congrArg some sI)
 f165:=Tryz.func169.trans (congrArg some sI)
 f166:=Tryz.func155.trans (congrArg some sI)
 f169:=Tryz.func113.trans (congrArg some sI)
 f240:=Tryz.func191.trans (congrArg some sI)
 f241:=Tryz.func215.trans (congrArg some sI)
 f276:=Tryz.func224.trans (congrArg some sI)
 f277:=Tryz.func233.trans (congrArg some sI)
 t0:=Tryz.underlying0
 a0:=Tryz.isAgg0
 z0:=Tryz.sizeOf0
 v0:=Tryz.zeroValue0
 t3:=Tryz.underlying3
 a3:=Tryz.isAgg3
 z3:=Tryz.sizeOf3
 v3:=Tryz.zeroValue3
 t4:=Tryz.underlying4
 a4:=Tryz.isAgg4
 z4:=Tryz.sizeOf4
 v4:=Tryz.zeroValue4
 t9:=Tryz.underlying9
 a9:=Tryz.isAgg9
 z9:=Tryz.sizeOf9
 v9:=Tryz.zeroValue9
 t20:=Tryz.underlying20
 a20:=Tryz.isAgg20
 z20:=Tryz.sizeOf20
 v20:=Tryz.zeroValue20
 t31:=Tryz.underlying40
 a31:=Tryz.isAgg40
 z31:=Tryz.sizeOf40
 v31:=Tryz.zeroValue40
 t37:=Tryz.underlying22
 a37:=Tryz.isAgg22
 z37:=Tryz.sizeOf22
 v37:=Tryz.zeroValue22
 t70:=Tryz.underlying165
 a70:=Tryz.isAgg165
 z70:=Tryz.sizeOf165
 v70:=Tryz.zeroValue165
 t72:=Tryz.underlying167
 a72:=Tryz.isAgg167
 z72:=Tryz.sizeOf167
 v72:=Tryz.zeroValue167
 t75:=Tryz.underlying99
 a75:=Tryz.isAgg99
 z75:=Tryz.sizeOf99
 v75:=Tryz.zeroValue99
 t76:=Tryz.underlying215
 a76:=Tryz.isAgg215
 z76:=Tryz.sizeOf215
 v76:=Tryz.zeroValue215
 t127:=Tryz.underlying218
 a127:=Tryz.isAgg218
 z127:=Tryz.sizeOf218
 v127:=Tryz.zeroValue218
 t164:=Tryz.underlying275
 a164:=Tryz.isAgg275
 z164:=Tryz.sizeOf275
 v164:=Tryz.zeroValue275
theorem jnX:Builder.Extra Tryz.prog Nz where
 sizeBuilder:=by kernel_rfl
 liesBuilder:=by kernel_rfl
 t5:=Tryz.underlying5
 a5:=Tryz.isAgg5
 z5:=Tryz.sizeOf5
 v5:=Tryz.zeroValue5
 infoByte:=by kernel_rfl
 cellsByte:=by kernel_rfl
 sizeByte:=by kernel_rfl
 neB5:=by decide
end
section
open Go Go.RowKit Go.BigFrame Go.Shelf Tryz
theorem ok_below {e:TypeId}{b:Option Nat}{w w':World}(hb:Below w.heap.size w w'):Lib.OthersKept e b w w':=fun k ob h _ _=>by
 rw[hb.block k (ZG.1 h).1]
 exact h
theorem DQ (B b:Nat)(l:List UInt8)(ps:List ByteArray)(wb wo cap:Nat)(w:World)(h:Wr B b l w)(hs:∀ (j:Nat) x,ps[j]?=some x->w.cell? ⟨wb,wo+j,none⟩=some (.string x))(hlt:wb<w.heap.size)(hcap:ps.length<=cap)(hlen:l.length+(Ah ps).length<=1000000)(hpl:ps.length<=100)(hBw:B<=w.heap.size) :
  Calls prog 110 #[.pointer (some ⟨b,0,none⟩),.slice (some ⟨wb,wo,none⟩) ps.length cap] w fun e w'=>e=.returned (.tuple #[])∧Wr B b (l++Ah ps) w'∧Below B w w'∧Lib.OthersKept 5 (some b) w w':=by
 have hk:(Ah ps).length=(Du ps).length+1:=by unfold Ah;simp
 go_enter func110,ntmps110;go_wp2_with fail;have hf:(fun _:World=>True) w.drew:=trivial;refine aC_ (S:=(fun _:World=>True)) 6 sI rfl ?_;refine tk 0 ?_;refine tk 1 ?_;refine tk 2 ?_;refine tk 3 ?_;refine Ag (i:=4) sI rfl (fun K hK=>?_);go_simp;refine (Any.strings_Join jnL jnX wb wo cap ps ⟨#[32]⟩ w.drew hs hlt sH hcap (by show (Du ps).length<=_;omega)).mono ?_;rintro e w1 ⟨rfl,hb⟩;have ha:Below w.heap.size w w1:=Aa (Yg _ w).drew hb;have h1:=h.below ha;have hl:=ha.size;dsimp only;refine hK.out _ _ trivial (fun hHeld=>?_);clear hK K;(try simp only[Act.put,Yj,Yq,Yr]);refine Ag (i:=5) sI rfl (fun K hK=>?_);go_simp;have hj:(⟨(Du ps).toArray⟩:ByteArray).size=(Du ps).length:=by show (Du ps).toArray.size=_;simp
 refine (Ik B b (Lib.byteCells l) ⟨(Du ps).toArray⟩ w1 h1.h (by rw[Lib.byteCells_length,hj];omega) sH).mono ?_;rintro e w2 ⟨rfl,h2,hc,hg⟩;dsimp only;refine hK.out _ _ trivial (fun hHeld=>?_);clear hK K;(try simp only[Act.put,Yj,Yq,Yr]);refine wpAnyH_done sI ?_ _;clear hf;rw[Lib.strCells_toArray] at h2;have hm:=hc.size;go_wp2_with fail;refine (Kg B b _ 10 w2 (.inr h2) (by rw[ZE,Lib.byteCells_length,Lib.byteCells_length];omega) sH).mono ?_;rintro e w3 ⟨rfl,h3,he,hh⟩;go_wp2;go_end0;refine ⟨rfl,⟨.inr ?_⟩,((ha.mono hBw).trans hc).trans he,((ok_below ha).trans hg).trans hh⟩;have e:Lib.byteCells (l++Ah ps)=Lib.byteCells l++Lib.byteCells (Du ps)++[.int .u8 10]:=by unfold Lib.byteCells Ah;simp
 rw[e];exact h3
theorem sl5 {w:World}{b:Nat}{t:TypeId}{ps:List ByteArray}(h:Blk w b (ps.map Value.string).toArray t):∀ (j:Nat) x,ps[j]?=some x->w.cell? ⟨b,0+j,none⟩=some (.string x):=fun j x hx=>by
 rw[Zq,h.cell]
 simp[hx]
theorem GT (B b:Nat)(l:List UInt8)(word:ByteArray)(c:Ct)(w:World)(h:Wr B b l w)(ht:Gx w)(hg:9<=B)(hBw:B<=w.heap.size)(n1:Num c.o.a)(n2:Num c.o.v)(n3:Num c.n)(hlen:l.length+(Ah (ctL word c)).length<=1000000) :
  Calls prog 112 #[.pointer (some ⟨b,0,none⟩),.string word,.agg #[.int .i64 c.o.a,.int .i64 c.o.v,.string c.o.f,.int .i64 c.n]] w fun e w'=>e=.returned (.tuple #[])∧Wr B b (l++Ah (ctL word c)) w'∧Below B w w'∧Lib.OthersKept 5 (some b) w w':=by
 obtain⟨a1,a2⟩:=n1;obtain⟨b1,b2⟩:=n2;obtain⟨c1,c2⟩:=n3;obtain⟨da,ho⟩:∃ x,AG c.o.a=x:=⟨_,rfl⟩;obtain⟨dv,hq⟩:∃ x,AG c.o.v=x:=⟨_,rfl⟩;obtain⟨dn,hp⟩:∃ x,AG c.n=x:=⟨_,rfl⟩;have hz:ctL word c=[word,da,dv,c.o.f,dn]:=by unfold ctL;rw[ho,hq,hp]
 rw[hz] at hlen ⊢;have C:=Blk.new w #[.int .i64 c.o.a,.int .i64 c.o.v,.string c.o.f,.int .i64 c.n] 70;have ha:Below w.heap.size w (w.alloc (.cells #[.int .i64 c.o.a,.int .i64 c.o.v,.string c.o.f,.int .i64 c.n] 70)):=(Yg _ _).alloc (Zd _) _;go_enter func112,ntmps112;go_wp2_with fail;generalize w.alloc (.cells #[.int .i64 c.o.a,.int .i64 c.o.v,.string c.o.f,.int .i64 c.n] 70)=W at *;have he:Below w.heap.size w W.drew:=ha.drew;have hb:∀ u:World,Below W.heap.size W u->u.cell? ⟨w.heap.size,0,none⟩=some (.int .i64 c.o.a)∧u.cell? ⟨w.heap.size,1,none⟩=some (.int .i64 c.o.v)∧u.cell? ⟨w.heap.size,2,none⟩=some (.string c.o.f)∧u.cell? ⟨w.heap.size,3,none⟩=some (.int .i64 c.n):=fun u hu=>⟨(C.below hu).cell 0,(C.below hu).cell 1,(C.below hu).cell 2,(C.below hu).cell 3⟩;have hC:(fun u:World=>u.cell? ⟨w.heap.size,0,none⟩=some (.int .i64 c.o.a)∧u.cell? ⟨w.heap.size,1,none⟩=some (.int .i64 c.o.v)∧u.cell? ⟨w.heap.size,2,none⟩=some (.string c.o.f)∧u.cell? ⟨w.heap.size,3,none⟩=some (.int .i64 c.n)) W.drew:=(hb _ (Yg _ W).drew);refine aC_ (S:=(fun u:World=>u.cell? ⟨w.heap.size,0,none⟩=some (.int .i64 c.o.a)∧u.cell? ⟨w.heap.size,1,none⟩=some (.int .i64 c.o.v)∧u.cell? ⟨w.heap.size,2,none⟩=some (.string c.o.f)∧u.cell? ⟨w.heap.size,3,none⟩=some (.int .i64 c.n))) 18 sI rfl ?_;refine tk 0 ?_ (hy:=by intro u hu;obtain⟨u0,u1,u2,u3⟩:=hu;go_simp<;>with_reducible rfl);refine tk 1 ?_ (hy:=by intro u hu;obtain⟨u0,u1,u2,u3⟩:=hu;go_simp<;>with_reducible rfl);refine tk 2 ?_ (hy:=by intro u hu;obtain⟨u0,u1,u2,u3⟩:=hu;go_simp<;>with_reducible rfl);refine tk 3 ?_ (hy:=by intro u hu;obtain⟨u0,u1,u2,u3⟩:=hu;go_simp<;>with_reducible rfl);refine tk 4 ?_ (hy:=by intro u hu;obtain⟨u0,u1,u2,u3⟩:=hu;go_simp<;>with_reducible rfl);refine tk 6 ?_ (hy:=by intro u hu;obtain⟨u0,u1,u2,u3⟩:=hu;go_simp<;>with_reducible rfl);refine tk 7 ?_ (hy:=by intro u hu;obtain⟨u0,u1,u2,u3⟩:=hu;go_simp<;>with_reducible rfl);refine tk 8 ?_ (hy:=by intro u hu;obtain⟨u0,u1,u2,u3⟩:=hu;go_simp<;>with_reducible rfl);refine tk 10 ?_ (hy:=by intro u hu;obtain⟨u0,u1,u2,u3⟩:=hu;go_simp<;>with_reducible rfl);refine tk 11 ?_ (hy:=by intro u hu;obtain⟨u0,u1,u2,u3⟩:=hu;go_simp<;>with_reducible rfl);refine tk 12 ?_ (hy:=by intro u hu;obtain⟨u0,u1,u2,u3⟩:=hu;go_simp<;>with_reducible rfl);refine tk 13 ?_ (hy:=by intro u hu;obtain⟨u0,u1,u2,u3⟩:=hu;go_simp<;>with_reducible rfl);refine tk 14 ?_ (hy:=by intro u hu;obtain⟨u0,u1,u2,u3⟩:=hu;go_simp<;>with_reducible rfl);refine Ag (i:=5) sI rfl (fun K hK=>?_);go_simp;refine (AF c.o.a W.drew sH sH (BN ht (he.mono hBw) hg)).mono ?_;rintro e w1 ⟨rfl,hh⟩;rw[ho];have hf:Below W.heap.size W w1:=Aa (Yg _ W).drew hh;have hw:=Aa ha hf;dsimp only;refine hK.out _ _ (hb _ hf) (fun hHeld=>?_);clear hK K;(try simp only[Act.put,Yj,Yq,Yr]);refine Ag (i:=9) sI rfl (fun K hK=>?_);go_simp;refine (AF c.o.v w1 sH sH (BN ht (hw.mono hBw) hg)).mono ?_;rintro e w2 ⟨rfl,hk⟩;rw[hq];have hj:=Aa hf hk;have hx:=Aa ha hj;dsimp only;refine hK.out _ _ (hb _ hj) (fun hHeld=>?_);clear hK K;(try simp only[Act.put,Yj,Yq,Yr]);refine Ag (i:=15) sI rfl (fun K hK=>?_);go_simp;refine (AF c.n w2 sH sH (BN ht (hx.mono hBw) hg)).mono ?_;rintro e w3 ⟨rfl,hm⟩;rw[hp];have hl:=Aa hj hm;have hB:=Aa ha hl;dsimp only;refine hK.out _ _ (hb _ hl) (fun hHeld=>?_);clear hK K;(try simp only[Act.put,Yj,Yq,Yr]);refine Ag (i:=16) sI rfl (fun K hK=>?_);go_simp;have hs:Below w3.heap.size w3 (w3.alloc (.cells #[.string word,.string da,.string dv,.string c.o.f,.string dn] 9)):=(Yg _ _).alloc (Zd _) _;have X4:=Blk.new w3 #[.string word,.string da,.string dv,.string c.o.f,.string dn] 9;have hn:=Aa hl hs;have hc:=Aa ha hn;have hD:=hc.size;have hA:=X4.lt;refine hK.out _ _ (hb _ hn) (fun hHeld=>?_);clear hK K;(try simp only[Act.put,Yj,Yq,Yr]);generalize w3.alloc (.cells #[.string word,.string da,.string dv,.string c.o.f,.string dn] 9)=w4 at *;refine Ag (i:=17) sI rfl (fun K hK=>?_);go_simp;refine (DQ B b l [word,da,dv,c.o.f,dn] w3.heap.size 0 5 w4 (h.below hc) (sl5 (ps:=[word,da,dv,c.o.f,dn]) X4) hA sK hlen sK sH).mono ?_;rintro e w5 ⟨rfl,h5,hv,hr⟩;dsimp only;have C5:=(C.below hn).ok hr dV sJ;refine hK.out _ _ ⟨C5.cell 0,C5.cell 1,C5.cell 2,C5.cell 3⟩ (fun hHeld=>?_);clear hK K;(try simp only[Act.put,Yj,Yq,Yr]);refine wpAnyH_done sI ?_ _;go_wp2;go_end0;exact⟨rfl,h5,(hc.mono hBw).trans hv,(ok_below hc).trans hr⟩
theorem Qd {w:World}{b:Nat}{c0 c1 c2 c3:Value}{t:TypeId}(h:Blk w b #[c0,c1,c2,c3] t):w.cell? ⟨b,0,none⟩=some c0∧w.cell? ⟨b,1,none⟩=some c1∧w.cell? ⟨b,2,none⟩=some c2∧w.cell? ⟨b,3,none⟩=some c3:=⟨h.cell 0,h.cell 1,h.cell 2,h.cell 3⟩
theorem SG {P:List UInt8}{l:List It}{k:Nat}{x:It}(h:l[k]?=some x)(hl:(P++Dq l).length<=1000000):(P++Dq (l.take k)++itW x).length<=1000000:=by
 have h1:=ER itW l (k+1);have h2:=congrArg List.length (Hw h);unfold Dq at h2 hl ⊢;rw[ZE] at h2 hl;rw[ZE,ZE];omega
theorem SI {P:List UInt8}{l:List Pt}{k:Nat}{p:Pt}(h:l[k]?=some p)(hl:(P++Bf l).length<=1000000):(P++Bf (l.take k)).length+(Ah (ptW p)).length<=1000000:=by
 have h1:=ER (fun p=>Ah (ptW p)) l (k+1);have h2:=congrArg List.length (FI h);unfold Bf at h2 hl ⊢;rw[ZE] at h2 hl ⊢;omega
theorem LF (B b:Nat)(l:List UInt8)(v:Vo)(Bx:Nat)(ia:Option Addr)(inn ic:Nat)(w0 w:World)(hI:BT Bx w0 ia inn v.its)(hw:Below w0.heap.size w0 w)(hwB:w0.heap.size<=B)(h:Wr B b l w)(ht:Gx w)(hg:9<=B)(hBw:B<=w.heap.size)(n1:Num v.id)(n2:∀ x∈v.its,TU x.ps)(hn:inn<=4194304)(hpn:∀ x∈v.its,x.ps.length<=4194304)(hlen:(l++GI v).length<=1000000) :
  Calls prog 111 #[.pointer (some ⟨b,0,none⟩),.agg #[.int .i64 v.id,.string v.nm,.bool v.fx,.slice ia inn ic]] w fun e w'=>e=.returned (.tuple #[])∧Wr B b (l++GI v) w'∧Below B w w'∧Lib.OthersKept 5 (some b) w w':=by
 rcases Bool.eq_false_or_eq_true v.fx with hM | hM
 case' inl=>obtain⟨fb,hW⟩:∃ x:ByteArray,Hid (x=⟨#[49]⟩):=⟨_,rfl⟩
 case' inr=>obtain⟨fb,hW⟩:∃ x:ByteArray,Hid (x=⟨#[48]⟩):=⟨_,rfl⟩
 all_goals
  have hE:Hid (v.its.length=inn):=hI.len;obtain⟨a1,a2⟩:=n1;have q6:=h.lt;obtain⟨da,qp⟩:∃ x,AG v.id=x:=⟨_,rfl⟩;have q1:voW v=[⟨#[118,111,108,117,109,101]⟩,da,v.nm,fb]:=by unfold voW JG;rw[qp,hM,hW.out];rfl
  have q2:GI v=Ah [⟨#[118,111,108,117,109,101]⟩,da,v.nm,fb]++Dq v.its:=by unfold GI;rw[q1]
  rw[q2] at hlen ⊢;obtain⟨L0,ql⟩:∃ x,l++Ah [⟨#[118,111,108,117,109,101]⟩,da,v.nm,fb]=x:=⟨_,rfl⟩;have hh:l.length+(Ah [⟨#[118,111,108,117,109,101]⟩,da,v.nm,fb]).length<=1000000:=by
   rw[ZE,ZE] at hlen;omega
  rw[<-ZC,ql] at hlen ⊢;have C:=Blk.new w #[.int .i64 v.id,.string v.nm,.bool v.fx,.slice ia inn ic] 115;have qb:Below w.heap.size w (w.alloc (.cells #[.int .i64 v.id,.string v.nm,.bool v.fx,.slice ia inn ic] 115)):=(Yg _ _).alloc (Zd _) _;obtain⟨x0,x1,x2,x3⟩:=Qd C;have qq:Hid (v.fx=_):=hM;clear q1 q2 hM;go_enter func111,ntmps111;go_wp2_with fail;all_goals first | exact absurd ‹v.fx=true› (by rw[qq.out];decide) | exact absurd ‹v.fx=false› (by rw[qq.out];decide) | skip
  clear x0 x1 x2 x3;generalize w.alloc (.cells #[.int .i64 v.id,.string v.nm,.bool v.fx,.slice ia inn ic] 115)=W at *;have hc:∀ u:World,Below W.heap.size W u->u.cell? ⟨w.heap.size,0,none⟩=some (.int .i64 v.id)∧u.cell? ⟨w.heap.size,1,none⟩=some (.string v.nm)∧u.cell? ⟨w.heap.size,2,none⟩=some (.bool v.fx)∧u.cell? ⟨w.heap.size,3,none⟩=some (.slice ia inn ic):=fun u hu=>Qd (C.below hu);have hV:(fun u:World=>u.cell? ⟨w.heap.size,0,none⟩=some (.int .i64 v.id)∧u.cell? ⟨w.heap.size,1,none⟩=some (.string v.nm)∧u.cell? ⟨w.heap.size,2,none⟩=some (.bool v.fx)∧u.cell? ⟨w.heap.size,3,none⟩=some (.slice ia inn ic)) W.drew:=(hc _ (Yg _ W).drew);rw[<-hW.out];refine aC_ (S:=(fun u:World=>u.cell? ⟨w.heap.size,0,none⟩=some (.int .i64 v.id)∧u.cell? ⟨w.heap.size,1,none⟩=some (.string v.nm)∧u.cell? ⟨w.heap.size,2,none⟩=some (.bool v.fx)∧u.cell? ⟨w.heap.size,3,none⟩=some (.slice ia inn ic))) 9 sI rfl ?_;refine tk 0 ?_ (hy:=by intro u hu;obtain⟨u0,u1,u2,u3⟩:=hu;go_simp<;>with_reducible rfl);refine tk 1 ?_ (hy:=by intro u hu;obtain⟨u0,u1,u2,u3⟩:=hu;go_simp<;>with_reducible rfl);refine tk 2 ?_ (hy:=by intro u hu;obtain⟨u0,u1,u2,u3⟩:=hu;go_simp<;>with_reducible rfl);refine tk 4 ?_ (hy:=by intro u hu;obtain⟨u0,u1,u2,u3⟩:=hu;go_simp<;>with_reducible rfl);refine tk 5 ?_ (hy:=by intro u hu;obtain⟨u0,u1,u2,u3⟩:=hu;go_simp<;>with_reducible rfl);refine tk 6 ?_ (hy:=by intro u hu;obtain⟨u0,u1,u2,u3⟩:=hu;go_simp<;>with_reducible rfl);refine Ag (i:=3) sI rfl (fun K hK=>?_);go_simp;refine (AF v.id W.drew sH sH (BN ht (qb.drew.mono hBw) hg)).mono ?_;rintro e w1 ⟨rfl,ha⟩;rw[qp];have hf:Below W.heap.size W w1:=Aa (Yg _ W).drew ha;dsimp only;refine hK.out _ _ (hc _ hf) (fun hHeld=>?_);clear hK K;(try simp only[Act.put,Yj,Yq,Yr]);refine Ag (i:=7) sI rfl (fun K hK=>?_);go_simp;have hm:Below w1.heap.size w1 (w1.alloc (.cells #[.string ⟨#[118,111,108,117,109,101]⟩,.string da,.string v.nm,.string fb] 9)):=(Yg _ _).alloc (Zd _) _;have X4:=Blk.new w1 #[.string ⟨#[118,111,108,117,109,101]⟩,.string da,.string v.nm,.string fb] 9;have he:=Aa hf hm;have hb:=Aa qb he;have q4:=hb.size;have hO:=X4.lt;refine hK.out _ _ (hc _ he) (fun hHeld=>?_);clear hK K;(try simp only[Act.put,Yj,Yq,Yr]);generalize w1.alloc (.cells #[.string ⟨#[118,111,108,117,109,101]⟩,.string da,.string v.nm,.string fb] 9)=w4 at *;refine Ag (i:=8) sI rfl (fun K hK=>?_);go_simp;refine (DQ B b l [⟨#[118,111,108,117,109,101]⟩,da,v.nm,fb] w1.heap.size 0 4 w4 (h.below hb) (sl5 (ps:=[⟨#[118,111,108,117,109,101]⟩,da,v.nm,fb]) X4) hO sK hh sK sH).mono ?_;rintro e w5 ⟨rfl,h5,qc,hX⟩;rw[ql] at h5;have C5:=(C.below he).ok hX sH sJ;dsimp only;refine hK.out _ _ (Qd C5) (fun hHeld=>?_);clear hK K;(try simp only[Act.put,Yj,Yq,Yr]);refine wpAnyH_done sI ?_ _;have x3:=C5.cell 3;simp only[Yp,Yo,Yt] at x3;have hz:=(hb.mono hBw).trans qc;have hC:=(ok_below hb:Lib.OthersKept 5 (some b) w w4).trans hX;clear hV hHeld hc X4 he hb hm hf ha qc hX hh hO q4;go_wp2_with fail;go_loopw [23] (fun ix wr=>∃ (k:Nat),k<=inn∧ix=.int .i64 k∧Wr B b (L0++Dq (v.its.take k)) wr∧Below B w wr∧Lib.OthersKept 5 (some b) w wr) (fun ix _=>inn-(intOf ix).toNat)
  case atStart=>exact⟨0,Zg _,rfl,by simpa [Dq] using h5,hz,hC⟩
  case round=>
   clear h5 hz hC C5 x3;obtain⟨k,hk,rfl,h6,hs,hY⟩:=hrel;have h4:Below w0.heap.size w0 wr:=hw.trans (hs.mono hwB);by_cases hlt:k<inn
   ·obtain⟨b',o',x,pa,pn,pc,rfl,hx,c0,c1,hP,_,_,_⟩:=bO_ hI hlt;have q3:=Zc hx;have zn:pn<=4194304:=by rw[<-hP.len];exact hpn x q3
    have q8:=n2 x q3;have zb:Hid (Dq (v.its.take (k+1))=Dq (v.its.take k)++itW x):=Hw hx;have hl:=SG hx hlen;obtain⟨P0,qm⟩:∃ P,Hid (L0++Dq (v.its.take k)=P):=⟨_,rfl⟩;rw[qm.out] at h6 hl;have d0:=Ab h4 c0;have d1:=Ab h4 c1;have zl:(k:Int)<inn:=sH;have zm:(0:Int)<=k:=sH;have hH:Hid (x.ps.length=pn):=hP.len;have zv:=hs.size;have qr:P0.length+(Ah [⟨#[102,105,108,101]⟩,x.nm]).length<=1000000:=by
     unfold itW at hl;rw[ZE,ZE] at hl;omega
    obtain⟨P1,hU⟩:∃ P,Hid (P0++Ah [⟨#[102,105,108,101]⟩,x.nm]=P):=⟨_,rfl⟩;have q7:Hid ((P1++Bf x.ps).length<=1000000):=by
     show _<=_;rw[<-hU.out];unfold itW at hl;rw[ZC];exact hl
    clear hx hl c0 c1;go_wp2_with fail;have qa:Below wr.heap.size wr (wr.alloc (.cells #[.string x.nm,.slice pa pn pc] 125)):=(Yg _ _).alloc (Zd _) _;have I1:=Blk.new wr #[.string x.nm,.slice pa pn pc] 125;have q9:(wr.alloc (.cells #[.string x.nm,.slice pa pn pc] 125)).heap.size=wr.heap.size+1:=sK;generalize wr.alloc (.cells #[.string x.nm,.slice pa pn pc] 125)=W1 at *;have hR:Below W1.heap.size W1 (W1.alloc (.cells #[.string ⟨#[102,105,108,101]⟩,.string x.nm] 9)):=(Yg _ _).alloc (Zd _) _;have F2:=Blk.new W1 #[.string ⟨#[102,105,108,101]⟩,.string x.nm] 9;rw[q9] at F2;have ho:=Aa qa hR;have I2:=I1.below hR;have z0:=ho.size;generalize W1.alloc (.cells #[.string ⟨#[102,105,108,101]⟩,.string x.nm] 9)=W2 at *;refine (DQ B b P0 [⟨#[102,105,108,101]⟩,x.nm] (wr.heap.size+1) 0 2 W2 (h6.below ho) (sl5 (ps:=[⟨#[102,105,108,101]⟩,x.nm]) F2) F2.lt sK qr sK sH).mono ?_;rintro e w7 ⟨rfl,h7,qf,hZ⟩;rw[hU.out] at h7;have I7:=I2.ok hZ sH sJ;have hB:Below B w w7:=hs.trans ((ho.mono sH).trans qf);have hD:=hY.trans ((ok_below ho:Lib.OthersKept 5 (some b) wr W2).trans hZ);have i1:=I7.cell 1;simp only[Yp,Yo,Yt] at i1;obtain⟨wo,zc⟩:∃ y,y=wr:=⟨_,rfl⟩;subst zc;clear qa hR ho I1 I2 F2 qf hZ h6 hs hY qr d0 d1 h4 I7;go_wp2_with fail;go_loopw [35] (fun ix wq=>∃ (j:Nat),j<=pn∧ix=.int .i64 j∧Wr B b (P1++Bf (x.ps.take j)) wq∧Below B w wq∧Lib.OthersKept 5 (some b) w wq) (fun ix _=>pn-(intOf ix).toNat)
    case atStart=>exact⟨0,Zg _,rfl,by simpa [Bf] using h7,hB,hD⟩
    case round=>
     clear h7 hB hD i1;obtain⟨j,hj,rfl,h8,hv,qs⟩:=hrel;have h3:Below w0.heap.size w0 wr:=hw.trans (hv.mono hwB);by_cases hlj:j<pn
     ·obtain⟨bb,oo,p,rfl,hp,e0,e1,e2⟩:=bi_ hP hlj;obtain⟨⟨na1,na2⟩,⟨nf1,nf2⟩,⟨nn1,nn2⟩⟩:=q8 p (Zc hp);have za:Hid (Bf (x.ps.take (j+1))=Bf (x.ps.take j)++Ah (ptW p)):=FI hp;have h2:=SI hp q7.out;obtain⟨Q0,qn⟩:∃ P,Hid (P1++Bf (x.ps.take j)=P):=⟨_,rfl⟩;rw[qn.out] at h8 h2;obtain⟨pa1,hF⟩:∃ x,AG p.a=x:=⟨_,rfl⟩;obtain⟨pf1,hG⟩:∃ x,AG p.f=x:=⟨_,rfl⟩;obtain⟨pn1,hJ⟩:∃ x,AG p.n=x:=⟨_,rfl⟩;have q0:Hid (ptW p=[⟨#[112,97,114,116]⟩,pa1,pf1,pn1]):=by show _=_;unfold ptW;rw[hF,hG,hJ]
      rw[q0.out] at h2;have g0:=Ab h3 e0;have g1:=Ab h3 e1;have g2:=Ab h3 e2;have zd:(j:Int)<pn:=sH;have zi:(0:Int)<=j:=sH;have zz:=hv.size;have q5:=h8.lt;clear hp e0 e1 e2;go_wp2_with fail;have hA:Below wr.heap.size wr (wr.alloc (.cells #[.int .i64 p.a,.int .i64 p.f,.int .i64 p.n] 156)):=(Yg _ _).alloc (Zd _) _;have PB:=Blk.new wr #[.int .i64 p.a,.int .i64 p.f,.int .i64 p.n] 156;clear g0 g1 g2;generalize wr.alloc (.cells #[.int .i64 p.a,.int .i64 p.f,.int .i64 p.n] 156)=V at *;have hc:∀ u:World,Below V.heap.size V u->u.cell? ⟨wr.heap.size,0,none⟩=some (.int .i64 p.a)∧u.cell? ⟨wr.heap.size,1,none⟩=some (.int .i64 p.f)∧u.cell? ⟨wr.heap.size,2,none⟩=some (.int .i64 p.n):=fun u hu=>⟨(PB.below hu).cell 0,(PB.below hu).cell 1,(PB.below hu).cell 2⟩;have hN:∀ u:World,Below V.heap.size V u->Gx u:=fun u hu=>BN ht (hv.trans ((Aa hA hu).mono sH)) hg;have hV:(fun u:World=>u.cell? ⟨wr.heap.size,0,none⟩=some (.int .i64 p.a)∧u.cell? ⟨wr.heap.size,1,none⟩=some (.int .i64 p.f)∧u.cell? ⟨wr.heap.size,2,none⟩=some (.int .i64 p.n)) V.drew:=(hc _ (Yg _ V).drew);refine aC_ (S:=(fun u:World=>u.cell? ⟨wr.heap.size,0,none⟩=some (.int .i64 p.a)∧u.cell? ⟨wr.heap.size,1,none⟩=some (.int .i64 p.f)∧u.cell? ⟨wr.heap.size,2,none⟩=some (.int .i64 p.n))) 12 sI rfl ?_;refine tk 0 ?_ (hy:=by intro u hu;obtain⟨u0,u1,u2⟩:=hu;go_simp<;>with_reducible rfl);refine tk 1 ?_ (hy:=by intro u hu;obtain⟨u0,u1,u2⟩:=hu;go_simp<;>with_reducible rfl);refine tk 2 ?_ (hy:=by intro u hu;obtain⟨u0,u1,u2⟩:=hu;go_simp<;>with_reducible rfl);refine tk 4 ?_ (hy:=by intro u hu;obtain⟨u0,u1,u2⟩:=hu;go_simp<;>with_reducible rfl);refine tk 5 ?_ (hy:=by intro u hu;obtain⟨u0,u1,u2⟩:=hu;go_simp<;>with_reducible rfl);refine tk 7 ?_ (hy:=by intro u hu;obtain⟨u0,u1,u2⟩:=hu;go_simp<;>with_reducible rfl);refine tk 8 ?_ (hy:=by intro u hu;obtain⟨u0,u1,u2⟩:=hu;go_simp<;>with_reducible rfl);refine Ag (i:=3) sI rfl (fun K hK=>?_);go_simp;refine (AF p.a V.drew sH sH (hN _ (Yg _ V).drew)).mono ?_;rintro e w1 ⟨rfl,ha⟩;rw[hF];have hf:Below V.heap.size V w1:=Aa (Yg _ V).drew ha;dsimp only;refine hK.out _ _ (hc _ hf) (fun hHeld=>?_);clear hK K;(try simp only[Act.put,Yj,Yq,Yr]);refine Ag (i:=6) sI rfl (fun K hK=>?_);go_simp;refine (AF p.f w1 sH sH (hN _ hf)).mono ?_;rintro e w2 ⟨rfl,hq⟩;rw[hG];have hL:=Aa hf hq;dsimp only;refine hK.out _ _ (hc _ hL) (fun hHeld=>?_);clear hK K;(try simp only[Act.put,Yj,Yq,Yr]);refine Ag (i:=9) sI rfl (fun K hK=>?_);go_simp;refine (AF p.n w2 sH sH (hN _ hL)).mono ?_;rintro e w3 ⟨rfl,hr⟩;rw[hJ];have hS:=Aa hL hr;dsimp only;refine hK.out _ _ (hc _ hS) (fun hHeld=>?_);clear hK K;(try simp only[Act.put,Yj,Yq,Yr]);refine Ag (i:=10) sI rfl (fun K hK=>?_);go_simp;have hm:Below w3.heap.size w3 (w3.alloc (.cells #[.string ⟨#[112,97,114,116]⟩,.string pa1,.string pf1,.string pn1] 9)):=(Yg _ _).alloc (Zd _) _;have X4:=Blk.new w3 #[.string ⟨#[112,97,114,116]⟩,.string pa1,.string pf1,.string pn1] 9;have he:=Aa hS hm;have hb:=Aa hA he;have q4:=hb.size;have hO:=X4.lt;refine hK.out _ _ (hc _ he) (fun hHeld=>?_);clear hK K;(try simp only[Act.put,Yj,Yq,Yr]);generalize w3.alloc (.cells #[.string ⟨#[112,97,114,116]⟩,.string pa1,.string pf1,.string pn1] 9)=w4 at *;refine Ag (i:=11) sI rfl (fun K hK=>?_);go_simp;refine (DQ B b Q0 [⟨#[112,97,114,116]⟩,pa1,pf1,pn1] w3.heap.size 0 4 w4 (h8.below hb) (sl5 (ps:=[⟨#[112,97,114,116]⟩,pa1,pf1,pn1]) X4) hO sK h2 sK sH).mono ?_;rintro e w9 ⟨rfl,h9,qi,h0⟩;have P9:=(PB.below he).ok h0 sH sJ;dsimp only;refine hK.out _ _ ⟨P9.cell 0,P9.cell 1,P9.cell 2⟩ (fun hHeld=>?_);clear hK K;(try simp only[Act.put,Yj,Yq,Yr]);refine wpAnyH_done sI ?_ _;have hT:Below B w w9:=hv.trans ((hb.mono sH).trans qi);have h1:=qs.trans ((ok_below hb:Lib.OthersKept 5 (some b) wr w4).trans h0);have hQ:Wr B b (P1++Bf (x.ps.take (j+1))) w9:=by rw[za.out,<-ZC,qn.out,q0.out];exact h9
      clear hV hHeld hc hN X4 he hb hm hf ha hL hq hS hr qi h0 P9 PB hA;go_wp2;go_roundw
      case rel=>exact⟨j+1,sH,sQ,hQ,hT,h1⟩
      case measure=>simp[intOf];omega
     ·obtain rfl:j=pn:=sH;rw[Zk (Zm hH.out)] at h8;have hQ:Wr B b (L0++Dq (v.its.take (k+1))) wr:=by
       rw[zb.out,<-ZC,qm.out];unfold itW;rw[<-ZC,hU.out];exact h8
      go_wp2;go_roundw
      case rel=>exact⟨k+1,sH,sQ,hQ,hv,qs⟩
      case measure=>simp[intOf];omega
   ·obtain rfl:k=inn:=sH;rw[Zk (Zm hE.out)] at h6;go_wp2;go_end0;exact⟨rfl,h6,hs,hY⟩
theorem UF (w:World):Wr w.heap.size w.heap.size [] (w.alloc (.cells #[.pointer none,.slice none 0 0] 169)):=⟨.inl ⟨Zd _,.slice none 0 0,Blk.new w _ _,⟨rfl,.inl ⟨rfl,rfl⟩⟩,by simp[Value.ownBlock]⟩⟩
theorem ml{p:Prop}(h:p:=by
 go_wp2;go_roundw
 case rel=>exact⟨k+1,sH,sQ,jo,zZ⟩
 case measure=>simp[intOf];omega):p:=h
theorem oZ{p:Prop}(h:p:=by rw[qh.out,<-ZC,kh.out];exact h9):p:=h
theorem Gk (B0:Nat)(v:Value)(p:Po)(w:World)(h:AC B0 w v p)(hd:A7 p)(hp:Ai p=true)(hN:Je p)(ht:Gx w)(hg:9<=w.heap.size) :
  Calls prog 53 #[v] w fun e w'=>e=.returned (.string ⟨(Ay p).toArray⟩)∧Below w.heap.size w w':=by
 have hQ:=h;obtain⟨ea,en,ec,va,vn,vc,ra,rn,rc,la,ln,lc,rfl,⟨h1,k1⟩,⟨h2,k2⟩,⟨h3,k3⟩,h4,k4⟩:=h;obtain⟨R,hR⟩:∃ R,Hid (Ay p=R):=⟨_,rfl⟩;have hl:=hN.len;rw[hR.out] at hl;rw[hR.out];obtain⟨ds,hU⟩:∃ x,AG p.size=x:=⟨_,rfl⟩;obtain⟨dn,hT⟩:∃ x,AG p.next=x:=⟨_,rfl⟩;obtain⟨L1,hB⟩:∃ x,Hid (Ah [⟨#[112,111,111,108]⟩,ds,dn]=x):=⟨_,rfl⟩;obtain⟨L2,kF⟩:∃ x,Hid (L1++EA p.ex=x):=⟨_,rfl⟩;obtain⟨L3,kE⟩:∃ x,Hid (L2++Cc p.vs=x):=⟨_,rfl⟩;obtain⟨L4,kD⟩:∃ x,Hid (L3++Bz EH p.rf=x):=⟨_,rfl⟩;have hG:Hid (L4++Bz Cs p.lt=R):=by show _=_;rw[<-hR.out,<-kD.out,<-kE.out,<-kF.out,<-hB.out,<-hU,<-hT];rfl
 have l5:Hid ((L4++Bz Cs p.lt).length<=1000000):=by show _<=_;rw[hG.out];exact hl
 have l4:Hid ((L3++Bz EH p.rf).length<=1000000):=dJ;have l3:Hid ((L2++Cc p.vs).length<=1000000):=dK;have l2:Hid ((L1++EA p.ex).length<=1000000):=dL;have l1:([]:List UInt8).length+(Ah [⟨#[112,111,111,108]⟩,ds,dn]).length<=1000000:=by have:=l2.out;rw[ZE,<-hB.out] at this;simp;omega
 have h0:R≠[]:=by
  rw[<-hG.out,<-kD.out,<-kE.out,<-kF.out,<-hB.out];unfold Ah;simp
 have qc:Hid (p.ex.length=en):=h1.len;have qb:Hid (p.vs.length=vn):=h2.len;have qa:Hid (p.rf.length=rn):=h3.len;have h8:Hid (p.lt.length=ln):=h4.len;have qm:en<=4194304:=by rw[<-h1.len];exact hd.1
 have qn:vn<=4194304:=by rw[<-h2.len];exact hd.2.2.1
 have qp:rn<=4194304:=by rw[<-h3.len];exact hd.2.2.2.2.1
 have qq:ln<=4194304:=by rw[<-h4.len];exact hd.2.2.2.2.2.2.1
 obtain⟨sz1,sz2⟩:=hN.size;obtain⟨nx1,nx2⟩:=hN.next;go_enter func53,ntmps53;go_wp2_with fail;refine (ch_ B0 _ p _ (hQ.below sM) hd).mono ?_;rintro e w1 ⟨rfl,qe⟩;have C:Blk w1 w.heap.size #[.int .i64 p.size,.int .i64 p.next,.slice ea en ec,.slice va vn vc,.slice ra rn rc,.slice la ln lc] 33:=(Blk.new w _ _).below qe;have he:Below w.heap.size w w1:=Aa sM qe;have qr:w.heap.size+1<=w1.heap.size:=rk;clear qe;rw[hp];go_wp2_with fail;have hA:Below w1.heap.size w1 (w1.alloc (.cells #[.pointer none,.slice none 0 0] 169)):=(Yg _ _).alloc (Zd _) _;have hW:=UF w1;replace h1:=h1.below he;replace h2:=h2.below he;replace h3:=h3.below he;replace h4:=h4.below he;have hs:=BN ht he hg;have hn:9<=w1.heap.size:=sH;clear k1 k2 k3 k4 hQ hR hl ht;generalize w1.alloc (.cells #[.pointer none,.slice none 0 0] 169)=W at *;have hj:∀ u:World,Below w1.heap.size w1 u->u.cell? ⟨w.heap.size,0,none⟩=some (.int .i64 p.size)∧u.cell? ⟨w.heap.size,1,none⟩=some (.int .i64 p.next):=fun u hu=>⟨(C.below hu).cell 0,(C.below hu).cell 1⟩;have hD:Below w1.heap.size w1 W.drew:=hA.drew;have hH:(fun u:World=>u.cell? ⟨w.heap.size,0,none⟩=some (.int .i64 p.size)∧u.cell? ⟨w.heap.size,1,none⟩=some (.int .i64 p.next)) W.drew:=(hj _ hD);refine aC_ (S:=(fun u:World=>u.cell? ⟨w.heap.size,0,none⟩=some (.int .i64 p.size)∧u.cell? ⟨w.heap.size,1,none⟩=some (.int .i64 p.next))) 8 sI rfl ?_;refine tk 0 ?_ (hy:=by intro u hu;obtain⟨u0,u1⟩:=hu;go_simp<;>with_reducible rfl);refine tk 1 ?_ (hy:=by intro u hu;obtain⟨u0,u1⟩:=hu;go_simp<;>with_reducible rfl);refine tk 3 ?_ (hy:=by intro u hu;obtain⟨u0,u1⟩:=hu;go_simp<;>with_reducible rfl);refine tk 4 ?_ (hy:=by intro u hu;obtain⟨u0,u1⟩:=hu;go_simp<;>with_reducible rfl);refine Ag (i:=2) sI rfl (fun K hK=>?_);go_simp;refine (AF p.size W.drew sH sH (BN hs hD hn)).mono ?_;rintro e w2 ⟨rfl,hh⟩;rw[hU];have hr:Below W.heap.size W w2:=Aa (Yg _ W).drew hh;have hF:=Aa hA hr;dsimp only;refine hK.out _ _ (hj _ hF) (fun hHeld=>?_);clear hK K;(try simp only[Act.put,Yj,Yq,Yr]);refine Ag (i:=5) sI rfl (fun K hK=>?_);go_simp;refine (AF p.next w2 sH sH (BN hs hF hn)).mono ?_;rintro e w3 ⟨rfl,hw⟩;rw[hT];have hE:=Aa hr hw;have hO:=Aa hA hE;dsimp only;refine hK.out _ _ (hj _ hO) (fun hHeld=>?_);clear hK K;(try simp only[Act.put,Yj,Yq,Yr]);refine Ag (i:=6) sI rfl (fun K hK=>?_);go_simp;have hv:Below w3.heap.size w3 (w3.alloc (.cells #[.string ⟨#[112,111,111,108]⟩,.string ds,.string dn] 9)):=(Yg _ _).alloc (Zd _) _;have X4:=Blk.new w3 #[.string ⟨#[112,111,111,108]⟩,.string ds,.string dn] 9;have ho:=Aa hE hv;have hm:=Aa hA ho;have hY:=hm.size;have hC:=X4.lt;refine hK.out _ _ (hj _ hm) (fun hHeld=>?_);clear hK K;(try simp only[Act.put,Yj,Yq,Yr]);generalize w3.alloc (.cells #[.string ⟨#[112,111,111,108]⟩,.string ds,.string dn] 9)=w4 at *;refine Ag (i:=7) sI rfl (fun K hK=>?_);go_simp;refine (DQ w1.heap.size w1.heap.size [] [⟨#[112,111,111,108]⟩,ds,dn] w3.heap.size 0 3 w4 (hW.below ho) (sl5 (ps:=[⟨#[112,111,111,108]⟩,ds,dn]) X4) hC sK l1 sK sH).mono ?_;rintro e w5 ⟨rfl,h5,hM,_⟩;rw[ZM,hB.out] at h5;have hz:=hm.trans hM;dsimp only;refine hK.out _ _ (hj _ hz) (fun hHeld=>?_);clear hK K;(try simp only[Act.put,Yj,Yq,Yr]);refine wpAnyH_done sI ?_ _;clear hH hHeld hj X4 ho hm hv hr hh hE hw hM l1 hC hY hF hO hD hA hW;have y2:w5.cell? ⟨w.heap.size,2,none⟩=some (.slice ea en ec):=(C.below hz).cell 2;go_wp2_with fail;go_loopw [26] (fun ix wr=>∃ (k:Nat),k<=en∧ix=.int .i64 k∧Wr w1.heap.size w1.heap.size (L1++EA (p.ex.take k)) wr∧Below w1.heap.size w1 wr) (fun ix _=>en-(intOf ix).toNat)
 case atStart=>exact⟨0,Zg _,rfl,by simpa [EA] using h5,hz⟩
 case round=>
  clear h5 hz y2;obtain⟨k,hk,rfl,h6,ha⟩:=hrel;by_cases hlt:k<en
  ·obtain⟨eb,eo,x,rfl,hx,c0,c1⟩:=be_ h1 hlt;obtain⟨na1,na2⟩:=hN.ex x (Zc hx);have qh:Hid (EA (p.ex.take (k+1))=EA (p.ex.take k)++Ah (exW x)):=Cr hx;have hb:=Ca (f:=fun e=>Ah (exW e)) hx l2.out;obtain⟨Q0,kh⟩:∃ P,Hid (L1++EA (p.ex.take k)=P):=⟨_,rfl⟩;change (L1++EA (p.ex.take k)++Ah (exW x)).length<=1000000 at hb;rw[kh.out] at h6 hb;rw[ZE] at hb;obtain⟨da,hS⟩:∃ z,AG x.a=z:=⟨_,rfl⟩;have hX:Hid (exW x=[⟨#[101,120,116,101,110,116]⟩,da,x.d]):=by show _=_;unfold exW;rw[hS]
   rw[hX.out] at hb;have g0:=Ab ha c0;have g1:=Ab ha c1;have hJ:(k:Int)<en:=sH;have hL:(0:Int)<=k:=sH;have hq:=ha.size;have h7:=h6.lt;clear hx c0 c1;go_wp2_with fail;have hA:Below wr.heap.size wr (wr.alloc (.cells #[.int .i64 x.a,.string x.d] 111)):=(Yg _ _).alloc (Zd _) _;have PB:=Blk.new wr #[.int .i64 x.a,.string x.d] 111;clear g0 g1;generalize wr.alloc (.cells #[.int .i64 x.a,.string x.d] 111)=V at *;have hj:∀ u:World,Below V.heap.size V u->u.cell? ⟨wr.heap.size,0,none⟩=some (.int .i64 x.a)∧u.cell? ⟨wr.heap.size,1,none⟩=some (.string x.d):=fun u hu=>⟨(PB.below hu).cell 0,(PB.below hu).cell 1⟩;have hH:(fun u:World=>u.cell? ⟨wr.heap.size,0,none⟩=some (.int .i64 x.a)∧u.cell? ⟨wr.heap.size,1,none⟩=some (.string x.d)) V.drew:=(hj _ (Yg _ V).drew);refine aC_ (S:=(fun u:World=>u.cell? ⟨wr.heap.size,0,none⟩=some (.int .i64 x.a)∧u.cell? ⟨wr.heap.size,1,none⟩=some (.string x.d))) 7 sI rfl ?_;refine tk 0 ?_ (hy:=by intro u hu;obtain⟨u0,u1⟩:=hu;go_simp<;>with_reducible rfl);refine tk 1 ?_ (hy:=by intro u hu;obtain⟨u0,u1⟩:=hu;go_simp<;>with_reducible rfl);refine tk 3 ?_ (hy:=by intro u hu;obtain⟨u0,u1⟩:=hu;go_simp<;>with_reducible rfl);refine tk 4 ?_ (hy:=by intro u hu;obtain⟨u0,u1⟩:=hu;go_simp<;>with_reducible rfl);refine Ag (i:=2) sI rfl (fun K hK=>?_);go_simp;refine (AF x.a V.drew sH sH (BN hs (ha.trans (hA.drew.mono hq)) hn)).mono ?_;rintro e w2 ⟨rfl,hh⟩;rw[hS];have hr:Below V.heap.size V w2:=Aa (Yg _ V).drew hh;dsimp only;refine hK.out _ _ (hj _ hr) (fun hHeld=>?_);clear hK K;(try simp only[Act.put,Yj,Yq,Yr]);refine Ag (i:=5) sI rfl (fun K hK=>?_);go_simp;have hv:Below w2.heap.size w2 (w2.alloc (.cells #[.string ⟨#[101,120,116,101,110,116]⟩,.string da,.string x.d] 9)):=(Yg _ _).alloc (Zd _) _;have X4:=Blk.new w2 #[.string ⟨#[101,120,116,101,110,116]⟩,.string da,.string x.d] 9;have ho:=Aa hr hv;have hm:=Aa hA ho;have hY:=hm.size;have hC:=X4.lt;refine hK.out _ _ (hj _ ho) (fun hHeld=>?_);clear hK K;(try simp only[Act.put,Yj,Yq,Yr]);generalize w2.alloc (.cells #[.string ⟨#[101,120,116,101,110,116]⟩,.string da,.string x.d] 9)=w4 at *;refine Ag (i:=6) sI rfl (fun K hK=>?_);go_simp;refine (DQ w1.heap.size w1.heap.size Q0 [⟨#[101,120,116,101,110,116]⟩,da,x.d] w2.heap.size 0 3 w4 (h6.below hm) (sl5 (ps:=[⟨#[101,120,116,101,110,116]⟩,da,x.d]) X4) hC sK hb sK sH).mono ?_;rintro e w9 ⟨rfl,h9,hc,hV⟩;have P9:=(PB.below ho).ok hV sH sJ;dsimp only;refine hK.out _ _ ⟨P9.cell 0,P9.cell 1⟩ (fun hHeld=>?_);clear hK K;(try simp only[Act.put,Yj,Yq,Yr]);refine wpAnyH_done sI ?_ _;have zZ:Below w1.heap.size w1 w9:=ha.trans ((hm.mono hq).trans hc);have jo:Wr w1.heap.size w1.heap.size (L1++EA (p.ex.take (k+1))) w9:=by rw[qh.out,<-ZC,kh.out,hX.out];exact h9
   clear hH hHeld hj X4 ho hm hv hr hh hc hV P9 PB hA;exact ml
  ·obtain rfl:k=en:=sH;rw[Zk (Zm qc.out),kF.out] at h6;obtain⟨wa,qf⟩:∃ y,y=wr:=⟨_,rfl⟩;subst qf;have y3:wa.cell? ⟨w.heap.size,3,none⟩=some (.slice va vn vc):=(C.below ha).cell 3;go_wp2_with fail;go_loopw [41] (fun ix wr=>∃ (k:Nat),k<=vn∧ix=.int .i64 k∧Wr w1.heap.size w1.heap.size (L2++Cc (p.vs.take k)) wr∧Below w1.heap.size w1 wr) (fun ix _=>vn-(intOf ix).toNat)
   case atStart=>exact⟨0,Zg _,rfl,by simpa [Cc] using h6,ha⟩
   case round=>
    clear h6 ha y3;obtain⟨k,hk,rfl,h6,ha⟩:=hrel;by_cases hlt:k<vn
    ·obtain⟨vb,vo,x,pa,pn,pc,rfl,hx,c0,c1,c2,c3,hP,_,_⟩:=b5_ h2 hlt;obtain⟨m1,m2,m3,m4⟩:=hN.vs x (Zc hx);rw[hP.len] at m3;have qh:Hid (Cc (p.vs.take (k+1))=Cc (p.vs.take k)++GI x):=Cr hx;have hb:=Ca (f:=GI) hx l3.out;obtain⟨Q0,kh⟩:∃ P,Hid (L2++Cc (p.vs.take k)=P):=⟨_,rfl⟩;change (L2++Cc (p.vs.take k)++GI x).length<=1000000 at hb;rw[kh.out] at h6 hb;have g0:=Ab ha c0;have g1:=Ab ha c1;have g2:=Ab ha c2;have g3:=Ab ha c3;have hJ:(k:Int)<vn:=sH;have hL:(0:Int)<=k:=sH;have hq:=ha.size;clear hx c0 c1 c2 c3;go_wp2_with fail;have hA:Below wr.heap.size wr (wr.alloc (.cells #[.int .i64 x.id,.string x.nm,.bool x.fx,.slice pa pn pc] 115)):=(Yg _ _).alloc (Zd _) _;have hZ:=hA.size;clear g0 g1 g2 g3;generalize wr.alloc (.cells #[.int .i64 x.id,.string x.nm,.bool x.fx,.slice pa pn pc] 115)=V at *;have hf:Below w1.heap.size w1 V:=ha.trans (hA.mono hq);refine (LF w1.heap.size w1.heap.size Q0 x B0 pa pn pc w1 V hP hf (Zd _) (h6.below hA) (BN hs hf hn) hn sH m1 m2 m3 m4 hb).mono ?_;rintro e w9 ⟨rfl,h9,hc,_⟩;have zZ:=hf.trans hc;have jo:Wr w1.heap.size w1.heap.size (L2++Cc (p.vs.take (k+1))) w9:=oZ;clear hc hf hA;exact ml
    ·obtain rfl:k=vn:=sH;rw[Zk (Zm qb.out),kE.out] at h6;obtain⟨wb,qi⟩:∃ y,y=wr:=⟨_,rfl⟩;subst qi;have y4:wb.cell? ⟨w.heap.size,4,none⟩=some (.slice ra rn rc):=(C.below ha).cell 4;go_wp2_with fail;go_loopw [51] (fun ix wr=>∃ (k:Nat),k<=rn∧ix=.int .i64 k∧Wr w1.heap.size w1.heap.size (L3++Bz EH (p.rf.take k)) wr∧Below w1.heap.size w1 wr) (fun ix _=>rn-(intOf ix).toNat)
     case atStart=>exact⟨0,Zg _,rfl,by simpa [Bz] using h6,ha⟩
     case round=>
      clear h6 ha y4;obtain⟨k,hk,rfl,h6,ha⟩:=hrel;by_cases hlt:k<rn
      ·obtain⟨cb,co,x,rfl,hx,c0,c1,c2,c3⟩:=aN_ h3 hlt;obtain⟨m1,m2,m3⟩:=hN.rf x (Zc hx);have qh:Hid (Bz EH (p.rf.take (k+1))=Bz EH (p.rf.take k)++Ah (ctL EH x)):=Cr hx;have hb:=Ca (f:=fun c=>Ah (ctL EH c)) hx l4.out;obtain⟨Q0,kh⟩:∃ P,Hid (L3++Bz EH (p.rf.take k)=P):=⟨_,rfl⟩;change (L3++Bz EH (p.rf.take k)++Ah (ctL EH x)).length<=1000000 at hb;rw[kh.out] at h6 hb;rw[ZE] at hb;have g0:=Ab ha c0;have g1:=Ab ha c1;have g2:=Ab ha c2;have g3:=Ab ha c3;have hJ:(k:Int)<rn:=sH;have hL:(0:Int)<=k:=sH;have hq:=ha.size;clear hx c0 c1 c2 c3;go_wp2_with fail;have hA:Below wr.heap.size wr (wr.alloc (.cells #[.int .i64 x.o.a,.int .i64 x.o.v,.string x.o.f,.int .i64 x.n] 70)):=(Yg _ _).alloc (Zd _) _;have hZ:=hA.size;clear g0 g1 g2 g3;generalize wr.alloc (.cells #[.int .i64 x.o.a,.int .i64 x.o.v,.string x.o.f,.int .i64 x.n] 70)=V at *;have hf:Below w1.heap.size w1 V:=ha.trans (hA.mono hq);refine (GT w1.heap.size w1.heap.size Q0 EH x V (h6.below hA) (BN hs hf hn) hn sH m1 m2 m3 hb).mono ?_;rintro e w9 ⟨rfl,h9,hc,_⟩;have zZ:=hf.trans hc;have jo:Wr w1.heap.size w1.heap.size (L3++Bz EH (p.rf.take (k+1))) w9:=oZ;clear hc hf hA;exact ml
      ·obtain rfl:k=rn:=sH;rw[Zk (Zm qa.out),kD.out] at h6;obtain⟨wc,ql⟩:∃ y,y=wr:=⟨_,rfl⟩;subst ql;have y5:wc.cell? ⟨w.heap.size,5,none⟩=some (.slice la ln lc):=(C.below ha).cell 5;go_wp2_with fail;go_loopw [61] (fun ix wr=>∃ (k:Nat),k<=ln∧ix=.int .i64 k∧Wr w1.heap.size w1.heap.size (L4++Bz Cs (p.lt.take k)) wr∧Below w1.heap.size w1 wr) (fun ix _=>ln-(intOf ix).toNat)
       case atStart=>exact⟨0,Zg _,rfl,by simpa [Bz] using h6,ha⟩
       case round=>
        clear h6 ha y5;obtain⟨k,hk,rfl,h6,ha⟩:=hrel;by_cases hlt:k<ln
        ·obtain⟨cb,co,x,rfl,hx,c0,c1,c2,c3⟩:=aN_ h4 hlt;obtain⟨m1,m2,m3⟩:=hN.lt x (Zc hx);have qh:Hid (Bz Cs (p.lt.take (k+1))=Bz Cs (p.lt.take k)++Ah (ctL Cs x)):=Cr hx;have hb:=Ca (f:=fun c=>Ah (ctL Cs c)) hx l5.out;obtain⟨Q0,kh⟩:∃ P,Hid (L4++Bz Cs (p.lt.take k)=P):=⟨_,rfl⟩;change (L4++Bz Cs (p.lt.take k)++Ah (ctL Cs x)).length<=1000000 at hb;rw[kh.out] at h6 hb;rw[ZE] at hb;have g0:=Ab ha c0;have g1:=Ab ha c1;have g2:=Ab ha c2;have g3:=Ab ha c3;have hJ:(k:Int)<ln:=sH;have hL:(0:Int)<=k:=sH;have hq:=ha.size;clear hx c0 c1 c2 c3;go_wp2_with fail;have hA:Below wr.heap.size wr (wr.alloc (.cells #[.int .i64 x.o.a,.int .i64 x.o.v,.string x.o.f,.int .i64 x.n] 70)):=(Yg _ _).alloc (Zd _) _;have hZ:=hA.size;clear g0 g1 g2 g3;generalize wr.alloc (.cells #[.int .i64 x.o.a,.int .i64 x.o.v,.string x.o.f,.int .i64 x.n] 70)=V at *;have hf:Below w1.heap.size w1 V:=ha.trans (hA.mono hq);refine (GT w1.heap.size w1.heap.size Q0 Cs x V (h6.below hA) (BN hs hf hn) hn sH m1 m2 m3 hb).mono ?_;rintro e w9 ⟨rfl,h9,hc,_⟩;have zZ:=hf.trans hc;have jo:Wr w1.heap.size w1.heap.size (L4++Bz Cs (p.lt.take (k+1))) w9:=oZ;clear hc hf hA;exact ml
        ·obtain rfl:k=ln:=sH;rw[Zk (Zm h8.out),hG.out] at h6;go_wp2_with fail;refine (Oh w1.heap.size w1.heap.size R wr h6.h h0).mono ?_;rintro e w9 ⟨rfl,hc⟩;have hI:=he.trans ((ha.trans hc).mono (show w.heap.size<=w1.heap.size by omega));go_wp2;go_returns;exact⟨rfl,hI⟩
theorem Jh (B0:Nat)(v:Value)(p:Po)(w:World)(h:AC B0 w v p)(hd:A7 p)(hN:Ai p=true->Je p)(ht:Gx w)(hg:9<=w.heap.size) :
  Calls prog 53 #[v] w fun e w'=>e=.returned (.string (B9 p))∧Below w.heap.size w w':=by
 cases hp:Ai p
 ·have hO:B9 p=⟨#[]⟩:=oT;rw[hO];have hc:=h;obtain⟨ea,en,ec,va,vn,vc,ra,rn,rc,la,ln,lc,rfl,_⟩:=h;go_enter func53,ntmps53;go_wp2_with fail;refine (ch_ B0 _ p _ (hc.below sM) hd).mono ?_;rintro e w1 ⟨rfl,hb⟩;have ha:Below w.heap.size w w1:=Aa sM hb;clear hb hc;rw[hp];go_wp2_with fail;go_returns;exact⟨rfl,ha⟩
 ·have hO:B9 p=⟨(Ay p).toArray⟩:=oT;rw[hO];exact Gk B0 v p w h hd hp (hN hp) ht hg
end
end Go.Proofs.YteejlahappbalaaGreatDoor
