/- At every code: what is committed on a disk is right, and the one with the greatest number; no condition: the row, and its tied card. -/
import Derived.Lib.SmallJoins
import Derived.ChangeSame
import Derived.ChangeVars
import Derived.ChangeMaps5
import Derived.JoinedOf
import Derived.RowKitTokens
import Derived.LaidLaws
import Derived.LaidHandle
import Derived.Lay
import Derived.MakeChecks
import Derived.Stop.LaidErr
import Derived.Lib.LaidTab
import Derived.SevenTiedAt
import Derived.Test.YteejlahappbalaaGreatDoorRows
import Derived.Test.YteejlahappbalaaGreatDoorCards
import Derived.Test.YteejlahappbalaaGreatDoorTie
import Derived.Test.YteejlahappbalaaGreatDoorU48
set_option maxHeartbeats 20000000
set_option maxRecDepth 100000
namespace Go.Proofs.YteejlahappbalaaGreatDoor
open Go Go.ChangeShapes Go.WideShapes Go.ChangeAt Go.RowKit Go.Deep Go.Joins Go.BigFrame _root_.Go.Proofs.Tryz
theorem returns_shapedR {H:Type}{enc:TypeId×Value->H}{a:Assume}{C:Checked}{os:Go.Os}{f:FuncId}{fn:Func}{s:ChangeSpec}{conds:List PathCond}{apart fresh handsOn again:Bool}{X:World->Array Value->Prop}
  (hX:∀ (w w':World) (args:Array Value),w.heap=w'.heap->X w args->X w' args)
  (own:ownKnob C.prog.godebug=none) (started:os.Started) (noInit:C.prog.inits.idxOf? f=none) (hfn:C.prog.funcs[f]?=some fn)
  (witness:∃ (w:World) (tape:Tape) (i:Input),w.os=os∧(w.forCall tape i).Shaped C.prog∧i.vars=[]∧Input.okWide C.prog (w.forCall tape i) .any w.heap.size f i∧
   ((s.pre enc C.prog fn conds apart (w.forCall tape i).memory i.args∧X (w.forCall tape i).memory i.args)∧sizedMet enc C.prog fn (OpenSpec.ofChange s) apart (w.forCall tape i).memory i.args)∧a.holds C.prog (lone (Frame.enter C.prog f i.args .normal) [] (w.forCall tape i)))
  (contract:∀ (W:World) (base:Nat) (args:Array Value) (ds gs:List (DataW H)) (before:List MemPlace),
   (∀ (j:Nat) t v,fn.params[j]?=some t->args[j]?=some v->Value.okWide C.prog W .any base t v)->
   DataW.Whole enc C.prog fn.params.toList s.vars apart W args.toList ds gs before->X W args->W.ShapedOpen C.prog->
   Calls C.prog f args W fun e W'=>∃ v,e=.returned v∧s.post enc C.prog fn apart fresh handsOn again W args v W') :
  ReturnsInHanded a C os f .any (fun w args=>(s.pre enc C.prog fn conds apart w args∧X w args)∧sizedMet enc C.prog fn (OpenSpec.ofChange s) apart w args) (s.post enc C.prog fn apart fresh handsOn again):=by
 refine returnsInHanded_of_calls own started noInit witness ?_
 intro w tape i _ hg _ hf hb _
 obtain⟨_,_,_,fn',ha,_,_,_,_,hc⟩:=hf
 have e:fn'=fn:=Zi (ha.symm.trans hfn)
 subst e
 obtain⟨⟨⟨ds,gs,before,hw,_⟩,hx⟩,_⟩:=hb
 have hh:=DataW.Whole.of_heap (w':=w.forCall tape i) (by rfl) hw
 refine (contract (w.forCall tape i) w.heap.size i.args ds gs before hc hh (hX _ _ _ (by rfl) hx) hg).mono fun e W' ⟨v,he,hp⟩=>?_
 subst he
 exact ChangeSpec.post_blind hp
theorem int_of_shapeR {P:Program}{w:World}{g:Nat}{t:TypeId}{zero:Array Value}{k:IntKind}(h:w.ShapedOpen P)(hg:g<P.globals.size)
  (h0:((begin P (fun _ _=>0) default).world.heap[g]?).bind Obj.row?=some (zero,t)) (hz:zero.size=1)
  (hb:P.buildable t=true) (hc:P.cellTypes P.depth t=some [t]) (hu:P.underlying t=some (.int k)):∃ m,w.cell? ⟨g,0,none⟩=some (.int k m):=by
 obtain⟨cs,hh,hs,hr⟩:=h.1 g zero t hg h0
 obtain⟨ts,hj,_,hf⟩:=hr hb
 rw[hc] at hj
 cases hj
 have h1:0<cs.size:=by omega
 obtain⟨u,hk,ha⟩:=hf 0 cs[0] (by simp[h1])
 have:u=t:=by simpa using hk.symm
 subst this
 have he:w.cell? ⟨g,0,none⟩=some cs[0]:=by simp[World.cell?,hh,h1]
 rw[he]
 unfold Cell.ok at ha
 rw[hu] at ha
 cases hv:cs[0]<;>rw[hv] at ha<;>first | (simp at ha;done) | (simp at ha;obtain⟨rfl,_⟩:=ha;exact⟨_,rfl⟩) | (simp at ha;subst ha;exact⟨_,rfl⟩)
theorem tabIs_ltR {W:World}{zs:List Int}{k:IntKind}{name:String}{g:Nat}(hg:prog.globalNamed name=some g)(h:Lib.TabIs prog W name k zs)(h0:0<zs.length):g<W.heap.size:=by
 have:=h.cell hg 0 h0
 unfold World.cell? at this
 by_cases hl:g<W.heap.size
 ·exact hl
 ·simp[Array.getElem?_eq_none (Nat.le_of_not_lt hl)] at this
def tabR:DataW Unit->List Int
 |.agg l=>l.map fun | .lit (.int _ n)=>n | _=>0
 |_=>[]
theorem starR:"*"++"errors.errorString"="*errors.errorString":=by decide
theorem rowR (u:TypeId)(h:prog.typeName? 3 u=some "*errors.errorString"):u=269:=
 typeName_ptr_named (nm:="errors.errorString") (by rw[starR];kernel_rfl) (by kernel_rfl) (by decide) u (by rw[starR];exact h)
theorem gErrR:prog.globalNamed "loop.example/g00336/impl.errText"=some 0:=by kernel_rfl
theorem gErrTR:(prog.globals[0]?).map (·.type)=some 99:=by kernel_rfl
theorem lt_of_shapeR {P:Program}{w:World}{g:Nat}{t:TypeId}{zero:Array Value}(h:w.ShapedOpen P)(hg:g<P.globals.size)
  (h0:((begin P (fun _ _=>0) default).world.heap[g]?).bind Obj.row?=some (zero,t)):g<w.heap.size:=by
 obtain⟨cs,hh,_,_⟩:=h.1 g zero t hg h0
 by_cases hl:g<w.heap.size
 ·exact hl
 ·simp[Array.getElem?_eq_none (Nat.le_of_not_lt hl)] at hh
theorem gSynR:prog.globalNamed "strconv.ErrSyntax"=some 2:=by kernel_rfl
theorem gSynTR:(prog.globals[2]?).map (·.type)=some 99:=by kernel_rfl
theorem glb_ofR {W:World}(h:laidMetH prog Rows.fnCommittedRow.laid W)(hsh:W.ShapedOpen prog):Glb W∧∃ a:Addr,W.var? prog "loop.example/g00336/impl.errText"=some #[.iface 269 (.pointer (some a))]:=by
 have h1:laidMet prog Rows.fnCommittedRow.laid W:=h
 have h2:laidMet prog (("math/bits.deBruijn64tab",Lib.tabData .u8 (tabR Rows.laid_math_bits_deBruijn64tab))::("internal/strconv.uint64pow10",Lib.tabData .u64 Lib.pow10Tab)::("unicode/utf8.acceptRanges",Rows.laid_unicode_utf8_acceptRanges)::("strconv.ErrRange",Rows.laid_strconv_ErrRange)::("strconv.ErrSyntax",.iface "*errors.errorString" (.ptr (.agg [.lit (.string [105,110,118,97,108,105,100,32,115,121,110,116,97,120])])))::("loop.example/g00336/impl.errText",.iface "*errors.errorString" (.ptr (.agg [.lit (.string [116,104,101,32,116,101,120,116,32,105,115,32,110,111,110,101,32,111,102,32,97,32,114,105,103,104,116,32,112,111,111,108])])))::[("unicode/utf8.first",Rows.laid_unicode_utf8_first)]) W:=laidMet.tail h1
 have h3:=laidMet.tail h2
 have h6:=laidMet.tail (laidMet.tail (laidMet.tail h3))
 have h7:=laidMet.tail h6
 have g2:prog.globalNamed "math/bits.deBruijn64tab"=some 6:=by kernel_rfl
 have t2:Lib.TabIs prog W "math/bits.deBruijn64tab" .u8 (tabR Rows.laid_math_bits_deBruijn64tab):=Lib.tabIs_of_head (n:=64) (e:=5) (t:=290) (g:=6) g2 (by kernel_rfl) (by kernel_rfl) underlying5 (by kernel_rfl) (by kernel_rfl) h2
 have t3:Gx W:=Lib.tabIs_of_head (n:=20) (e:=189) (t:=267) (g:=4) (by kernel_rfl) (by kernel_rfl) (by kernel_rfl) (by kernel_rfl) (by kernel_rfl) (by kernel_rfl) h3
 have ha:=lt_of_shapeR (g:=8) (t:=294) (zero:=Array.replicate 32 (.int .u8 0)) hsh (by decide) (by kernel_rfl)
 obtain⟨a1,s1,v1,_⟩:=laid_sentinel (ms:=(prog.underlying 99).elim #[] fun | .interface ms=>ms | _=>#[]) (te:=271) (ts:=9) (f:=((prog.underlying 271).elim #[] fun | .struct fs=>fs | _=>#[])[0]!) h6 gSynR gSynTR (by kernel_rfl) rowR (by kernel_rfl) (by kernel_rfl) (by kernel_rfl) (by kernel_rfl) underlying9 (by kernel_rfl) (by kernel_rfl)
 obtain⟨a2,s2,v2,_⟩:=laid_sentinel (ms:=(prog.underlying 99).elim #[] fun | .interface ms=>ms | _=>#[]) (te:=271) (ts:=9) (f:=((prog.underlying 271).elim #[] fun | .struct fs=>fs | _=>#[])[0]!) h7 gErrR gErrTR (by kernel_rfl) rowR (by kernel_rfl) (by kernel_rfl) (by kernel_rfl) (by kernel_rfl) underlying9 (by kernel_rfl) (by kernel_rfl)
 obtain⟨m,hm⟩:=int_of_shapeR (g:=1) (t:=3) (zero:=#[.int .i64 0]) (k:=.i64) hsh (by decide) (by kernel_rfl) rfl (by kernel_rfl) (by kernel_rfl) underlying3
 exact⟨⟨t3,⟨269,_,by simpa using World.var?_cell gSynR v1 0⟩,⟨269,_,by simpa using World.var?_cell gErrR v2 0⟩,⟨m,hm⟩,ha⟩,a2,v2⟩
theorem ifaceER:prog.underlying 99=some (.interface ((prog.underlying 99).elim #[] fun | .interface ms=>ms | _=>#[])):=by kernel_rfl
theorem var_lowR {w w':World}{cs:Array Value}(h:w.var? prog "loop.example/g00336/impl.errText"=some cs)(hb:Below w.heap.size w w')(hg:9<=w.heap.size):w'.var? prog "loop.example/g00336/impl.errText"=some cs:=by
 unfold World.var? at h ⊢
 rw[gErrR] at h ⊢
 simp only[YO] at h ⊢
 rw[hb.block _ (by omega)]
 exact h
theorem liftedFnCommitted (os:Go.Os)(started:os.Started)(H:Type)(enc:TypeId×Value->H) :
  ReturnsInHanded {} checked os 3 .any (fun w args=>(Rows.fnCommittedSpec.pre enc prog f3 [] false w args∧laidMetH prog Rows.fnCommittedRow.laid w)∧sizedMet enc prog f3 (OpenSpec.ofChange Rows.fnCommittedSpec) false w args)
   (Rows.fnCommittedSpec.post enc prog f3 false true false false):=by
 refine returns_shapedR (C:=checked) (X:=fun w _=>laidMetH prog Rows.fnCommittedRow.laid w) (fun _ _ _ hh h=>h.of_heap hh) own started (by kernel_rfl) func3
  (ChangeSpec.witness_shaped (enc:=enc) (C:=checked) (os:=os) (X:=fun w _=>laidMetH prog Rows.fnCommittedRow.laid w) false (World.laidAll prog os Rows.fnCommittedRow.laid) #[.slice none 0 0] 8 (World.laidAll_os _ _ _)
   (World.shaped_of_ZipB (by kernel_rfl) (by kernel_rfl)) (by kernel_rfl) (by kernel_rfl) (by kernel_rfl)
   (by rw[MakeChecks.laidMetH_plain _ _ _ (by kernel_rfl)];exact laidMet_laidAll _ (by kernel_rfl) (by kernel_rfl))) ?_
 intro W base args ds gs before hb hW hL hn
 have hc:∀ (j:Nat) t v,f3.params[j]?=some t->args[j]?=some v->Value.okWide prog W .any base t v:=hb
 have hj:=hW
 obtain⟨p,q,hf,hg,rfl,_,_⟩:=hW
 have hA:DataW.TrodAll enc prog W 0 (fun _=>true) true f3.params.toList args.toList ds p:=hf
 have hV:DataW.TrodVars enc prog W (fun _=>true) ["loop.example/g00336/impl.errText"] gs q:=hg
 rw[params3] at hA hc
 obtain⟨v0,vs0,d0,ds0,p0,q0,ha,rfl,rfl,h0,r0⟩:=trodAll_cons hA
 obtain⟨rfl,rfl,rfl⟩:=trodAll_nil r0
 obtain rfl:args=#[v0]:=by cases args;simp_all
 obtain⟨hG,a,hv⟩:=glb_ofR hL hn
 obtain⟨rfl,rfl⟩:=hV.unique (vars_read1 enc gErrR gErrTR ifaceER hv trivial _)
 clear hf hg hb
 have hk:∀ x∈p0,x.block<W.heap.size:=fun x hx=>by simpa using hj.lt x (by simp[hx])
 obtain⟨a0,len,cap,rfl⟩:=okWide_slice underlying22 (hc 0 22 v0 rfl rfl)
 obtain⟨hm,hl⟩:=UG h0
 unfold maxLen at hm
 refine (walkCo a0 len cap W hl (by omega) hG).mono fun e W' ⟨he,hB⟩=>?_
 subst he
 have ha:DataW.Trod enc prog W' 0 (fun b=>decide (b<W.heap.size)) true 22 (.slice a0 len cap) d0 p0:=
  Below.trod SF (by kernel_rfl) (of_decide_eq_true (by kernel_rfl)) h0 hB hk
 exact⟨_,rfl,⟨_,_,_,[],_,[.cell 0 0],hj,trodAll_mk1 (shut_bool underlying4 _),trodAll_mk1 ha,vars_read1 enc gErrR gErrTR ifaceER (var_lowR hv hB hG.sz) trivial _,hB.frame _,fun h=>by cases h⟩⟩
theorem Ceda1_:(Rows.fnCommittedRow.inPlace==prog.inPlace 3)=true:=by kernel_rfl
theorem Ceda2_:(Rows.fnCommittedRow.unfollowed==prog.unfollowed 3)=true:=by kernel_rfl
theorem Ceda3_:(Rows.fnCommittedRow.recurses==prog.recurses 3)=true:=by kernel_rfl
theorem Ceda4_:(Rows.fnCommittedRow.named==prog.varsNamed 3)=true:=by kernel_rfl
theorem Ceda6_:mapsRowed prog=true:=by kernel_rfl
theorem CedA_:joinedFacts prog 3 f3 Rows.fnCommittedSpec Rows.fnCommittedRow=true:=by
 unfold joinedFacts;rw[SF,Ceda1_,Ceda2_,Ceda3_,Ceda4_,Ceda6_];kernel_rfl
end Go.Proofs.YteejlahappbalaaGreatDoor
