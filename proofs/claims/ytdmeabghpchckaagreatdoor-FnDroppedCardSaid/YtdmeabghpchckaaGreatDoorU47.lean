/- What the program lays at its start, in the world of a call. -/
import Derived.ChangeSame
import Derived.ChangeVars
import Derived.JoinedOf
import Derived.LaidLaws
import Derived.LaidHandle
import Derived.Stop.Joined
import Derived.SevenTiedAt
import Derived.Test.YtdmeabghpchckaaGreatDoorU38
import Derived.Test.YtdmeabghpchckaaGreatDoorU42
set_option maxHeartbeats 20000000
set_option maxRecDepth 100000
namespace Go.Proofs.YtdmeabghpchckaaGreatDoor
open Go Go.ChangeShapes Go.WideShapes Go.ChangeAt Go.RowKit Go.Deep Go.Joins Go.BigFrame _root_.Go.Proofs.Tryz
theorem Bv {P:Program}{x y:String×DataW Unit}{r:List (String×DataW Unit)}{w:World}(h:laidMet P (x::y::r) w):laidMet P (x::r) w:=by
 obtain⟨ps,hv,hnd,ha⟩:=h
 obtain⟨n,d⟩:=x
 obtain⟨m,d2⟩:=y
 obtain⟨g,t,cs,fuel,p,q,a1,a2,a3,a4,⟨g2,t2,cs2,fuel2,p2,q2,_,_,_,_,b5,rfl⟩,rfl⟩:=hv
 have hs:(MemPlace.row ⟨g,0,none⟩ cs.size++p++q2).Sublist (MemPlace.row ⟨g,0,none⟩ cs.size++p++(MemPlace.row ⟨g2,0,none⟩ cs2.size++p2++q2)):=(List.Sublist.refl _).append (List.sublist_append_right _ _)
 exact⟨_,⟨g,t,cs,fuel,p,q2,a1,a2,a3,a4,b5,rfl⟩,hnd.sublist hs,fun b off hm=>ha b off (hs.subset hm)⟩
theorem Hu:"*"++"errors.errorString"="*errors.errorString":=by decide
theorem Ik (u:TypeId)(h:prog.typeName? 3 u=some "*errors.errorString"):u=277:=
 typeName_ptr_named (nm:="errors.errorString") (by rw[Hu];kernel_rfl) (by kernel_rfl) (by decide) u (by rw[Hu];exact h)
theorem HE:prog.cellsOf 296=1:=by kernel_rfl
theorem Ha:prog.cellsOf 9=1:=by kernel_rfl
theorem Cq {W:World}{n0 n1:String}{text0 text1:List UInt8}{r:List (String×DataW Unit)}{g0 g1:Nat}(h:laidMet prog ((n0,.iface "*errors.errorString" (.ptr (.agg [.lit (.string text0)])))::(n1,.iface "*errors.errorString" (.ptr (.agg [.lit (.string text1)])))::r) W)(hg0:prog.globalNamed n0=some g0)(ht0:(prog.globals[g0]?).map (·.type)=some 58)(hg1:prog.globalNamed n1=some g1)(ht1:(prog.globals[g1]?).map (·.type)=some 58):∃ a0 a1,Two W n0 n1 a0 a1:=by
 obtain⟨a0,a1,s0,s1,c0,c1,t0,t1,he,hf,hg,hj,hl,hh,hk,hm,hc,ha,hb⟩:=laid_sentinels2 h hg0 ht0 hg1 ht1 underlying58 Ik underlying277 underlying296 rfl rfl underlying9 HE Ha
 exact⟨a0,a1,he,hf,hc,⟨c0,t0,ha⟩,⟨c1,t1,hb⟩⟩
theorem Il {W:World}(h:laidMetH prog DN W):∃ ep a_errOp a_errVolume a_errFile a_errBytes a_errThere a_errFixed a_errRoom a_errParts a_errAfter,Ten W ep a_errOp a_errVolume a_errFile a_errBytes a_errThere a_errFixed a_errRoom a_errParts a_errAfter:=by
 have h':laidMet prog EG W∧handlesMet prog [("errors.errorType",Rows.laid_errors_errorType)] W:=h
 have q1:=h'.1
 unfold EG at q1
 obtain⟨e0,a_errOp,ha⟩:=Cq q1 ih_ mt_ lr_ pd_
 replace q1:=Bv q1
 obtain⟨e1,a_errVolume,hb⟩:=Cq q1 ih_ mt_ gb_ jM_
 replace q1:=Bv q1
 obtain⟨e2,a_errFile,hj⟩:=Cq q1 ih_ mt_ ii_ mu_
 replace q1:=Bv q1
 obtain⟨e3,a_errBytes,he⟩:=Cq q1 ih_ mt_ gO_ ls_
 replace q1:=Bv q1
 obtain⟨e4,a_errThere,hh⟩:=Cq q1 ih_ mt_ gP_ lt_
 replace q1:=Bv q1
 obtain⟨e5,a_errFixed,hf⟩:=Cq q1 ih_ mt_ gQ_ lu_
 replace q1:=Bv q1
 obtain⟨e6,a_errRoom,hk⟩:=Cq q1 ih_ mt_ ij_ mv_
 replace q1:=Bv q1
 obtain⟨e7,a_errParts,hg⟩:=Cq q1 ih_ mt_ gR_ lv_
 replace q1:=Bv q1
 obtain⟨e8,a_errAfter,hc⟩:=Cq q1 ih_ mt_ gS_ lw_
 obtain rfl:=ha.same hb
 obtain rfl:=ha.same hj
 obtain rfl:=ha.same he
 obtain rfl:=ha.same hh
 obtain rfl:=ha.same hf
 obtain rfl:=ha.same hk
 obtain rfl:=ha.same hg
 obtain rfl:=ha.same hc
 exact⟨_,a_errOp,a_errVolume,a_errFile,a_errBytes,a_errThere,a_errFixed,a_errRoom,a_errParts,a_errAfter,ha,hb,hj,he,hh,hf,hk,hg,hc⟩
theorem H7:laidOutB prog=true:=by kernel_rfl
theorem In:ownKnob prog.godebug=none:=by kernel_rfl
end Go.Proofs.YtdmeabghpchckaaGreatDoor
