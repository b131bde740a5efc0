/- What is done to one volume changes nothing of any other one: plain facts. -/
import Derived.Test.YtdmeabghpchckaaGreatDoorCards
import Derived.Test.YtdmeabghpchckaaGreatDoorTie
import Derived.Test.YtdmeabghpchckaaGreatDoorU40
set_option maxHeartbeats 20000000
set_option maxRecDepth 100000
namespace Go.Proofs.YtdmeabghpchckaaGreatDoor
section
open Go Go.RowKit Go.BigFrame _root_.Go.Proofs.Tryz
def Db (p n:Po)(v:Vo):Prop:=∃ (j:Nat) (u:Vo),n.vs[j]?=some u∧u.nm=v.nm∧u.its=v.its∧∀ x∈v.its,Aj x.ps n.ex=Aj x.ps p.ex
def nlB:ByteArray:=⟨#[10]⟩
def DE (p:Po)(vol f:ByteArray):ByteArray:=(Dj p vol f 0 (Dx p vol f).1).1
def BF (p:Po)(vol:ByteArray):List ByteArray->ByteArray->ByteArray
 |[],acc=>acc
 |f::r,acc=>BF p vol r ((((acc++f)++nlB)++DE p vol f)++nlB)
def CV (p:Po)(vol:ByteArray):ByteArray:=match Ci p vol with
 |none=>⟨#[110,111,110,101]⟩
 |some l=>BF p vol l ⟨#[]⟩
theorem Ed {p n:Po}{vol:ByteArray}(h:∀ f,DE n vol f=DE p vol f):∀ (l:List ByteArray) (acc:ByteArray),BF n vol l acc=BF p vol l acc
 |[],_=>rfl
 |x::r,acc=>by rw[BF,BF,h,Ed h r]
theorem Gp {p n:Po}{v:Vo}{k:Nat}(hp:Ai p=true)(hn:Ai n=true)(hv:p.vs[k]?=some v)(h:Db p n v):CV n v.nm=CV p v.nm:=by
 obtain⟨j,u,hu,hf,ha,hb⟩:=h
 have i1:=pH_ (bL_ hp).2.2.2.2 hv
 have i2:volI n.vs v.nm=some j:=by rw[<-hf];exact pH_ (bL_ hn).2.2.2.2 hu
 have q1:∀ f,Ar p.vs v.nm f=(itI v.its f).bind fun m=>v.its[m]?.map (·.ps):=fun f=>by
  unfold Ar;rw[i1];dsimp only[Option.bind];rw[hv]
 have q2:∀ f,Ar n.vs v.nm f=Ar p.vs v.nm f:=fun f=>by
  rw[q1];unfold Ar;rw[i2];dsimp only[Option.bind];rw[hu];dsimp only;rw[ha]
 have he:∀ f,DE n v.nm f=DE p v.nm f:=fun f=>by
  unfold DE Dj Dx BV
  rw[if_pos hp,if_pos hn,if_pos hp,if_pos hn,q2]
  cases hq:Ar p.vs v.nm f with
  |none=>rfl
  |some ps=>
   have hc:Aj ps n.ex=Aj ps p.ex:=by
    rw[q1] at hq
    cases hm:itI v.its f with
    |none=>rw[hm] at hq;cases hq
    |some m=>
     rw[hm] at hq;dsimp only[Option.bind] at hq
     cases hx:v.its[m]? with
     |none=>rw[hx] at hq;cases hq
     |some x=>
      rw[hx] at hq
      have hg:x.ps=ps:=Zi hq
      rw[<-hg]
      exact hb x (Zc hx)
   dsimp only
   rw[hc]
 unfold CV Ci
 rw[if_pos hp,if_pos hn,i1,i2]
 dsimp only[Option.bind]
 rw[hv,hu]
 dsimp only[Option.map]
 rw[ha]
 exact Ed he _ _
end
section
open Go Go.ChangeShapes Go.WideShapes Go.RowKit Go.BigFrame _root_.Go.Proofs.Tryz
variable{a_errAfter a_errBytes a_errFile a_errFixed a_errOp a_errParts a_errRoom a_errThere a_errVolume ep:Addr}{W:World}
theorem ih_:prog.globalNamed "loop.example/g00336/impl.errPool"=some 0:=by kernel_rfl
theorem mt_:(prog.globals[0]?).map (·.type)=some 58:=by kernel_rfl
theorem lr_:prog.globalNamed "loop.example/g00336/impl.errOp"=some 1:=by kernel_rfl
theorem pd_:(prog.globals[1]?).map (·.type)=some 58:=by kernel_rfl
theorem gb_:prog.globalNamed "loop.example/g00336/impl.errVolume"=some 4:=by kernel_rfl
theorem jM_:(prog.globals[4]?).map (·.type)=some 58:=by kernel_rfl
theorem ii_:prog.globalNamed "loop.example/g00336/impl.errFile"=some 8:=by kernel_rfl
theorem mu_:(prog.globals[8]?).map (·.type)=some 58:=by kernel_rfl
theorem gO_:prog.globalNamed "loop.example/g00336/impl.errBytes"=some 9:=by kernel_rfl
theorem ls_:(prog.globals[9]?).map (·.type)=some 58:=by kernel_rfl
theorem gP_:prog.globalNamed "loop.example/g00336/impl.errThere"=some 6:=by kernel_rfl
theorem lt_:(prog.globals[6]?).map (·.type)=some 58:=by kernel_rfl
theorem gQ_:prog.globalNamed "loop.example/g00336/impl.errFixed"=some 5:=by kernel_rfl
theorem lu_:(prog.globals[5]?).map (·.type)=some 58:=by kernel_rfl
theorem ij_:prog.globalNamed "loop.example/g00336/impl.errRoom"=some 7:=by kernel_rfl
theorem mv_:(prog.globals[7]?).map (·.type)=some 58:=by kernel_rfl
theorem gR_:prog.globalNamed "loop.example/g00336/impl.errParts"=some 10:=by kernel_rfl
theorem lv_:(prog.globals[10]?).map (·.type)=some 58:=by kernel_rfl
theorem gS_:prog.globalNamed "loop.example/g00336/impl.errAfter"=some 2:=by kernel_rfl
theorem lw_:(prog.globals[2]?).map (·.type)=some 58:=by kernel_rfl
def DN:List (String×DataW Unit):=[("errors.errorType",Rows.laid_errors_errorType),("loop.example/g00336/impl.errPool",Rows.laid_loop_example_g00336_impl_errPool),("loop.example/g00336/impl.errOp",Rows.laid_loop_example_g00336_impl_errOp),("loop.example/g00336/impl.errVolume",Rows.laid_loop_example_g00336_impl_errVolume),("loop.example/g00336/impl.errFile",Rows.laid_loop_example_g00336_impl_errFile),("loop.example/g00336/impl.errBytes",Rows.laid_loop_example_g00336_impl_errBytes),("loop.example/g00336/impl.errThere",Rows.laid_loop_example_g00336_impl_errThere),("loop.example/g00336/impl.errFixed",Rows.laid_loop_example_g00336_impl_errFixed),("loop.example/g00336/impl.errRoom",Rows.laid_loop_example_g00336_impl_errRoom),("loop.example/g00336/impl.errParts",Rows.laid_loop_example_g00336_impl_errParts),("loop.example/g00336/impl.errAfter",Rows.laid_loop_example_g00336_impl_errAfter)]
def EG:List (String×DataW Unit):=[("loop.example/g00336/impl.errPool",Rows.laid_loop_example_g00336_impl_errPool),("loop.example/g00336/impl.errOp",Rows.laid_loop_example_g00336_impl_errOp),("loop.example/g00336/impl.errVolume",Rows.laid_loop_example_g00336_impl_errVolume),("loop.example/g00336/impl.errFile",Rows.laid_loop_example_g00336_impl_errFile),("loop.example/g00336/impl.errBytes",Rows.laid_loop_example_g00336_impl_errBytes),("loop.example/g00336/impl.errThere",Rows.laid_loop_example_g00336_impl_errThere),("loop.example/g00336/impl.errFixed",Rows.laid_loop_example_g00336_impl_errFixed),("loop.example/g00336/impl.errRoom",Rows.laid_loop_example_g00336_impl_errRoom),("loop.example/g00336/impl.errParts",Rows.laid_loop_example_g00336_impl_errParts),("loop.example/g00336/impl.errAfter",Rows.laid_loop_example_g00336_impl_errAfter)]
structure Two (W:World)(n0 n1:String)(a0 a1:Addr):Prop where
 v0:W.var? prog n0=some #[.iface 277 (.pointer (some a0))]
 v1:W.var? prog n1=some #[.iface 277 (.pointer (some a1))]
 ne:a0≠a1
 b0:∃ c t,W.heap[a0.block]?=some (.cells c t (0,0))
 b1:∃ c t,W.heap[a1.block]?=some (.cells c t (0,0))
theorem Two.same {n0 n1 n2:String}{a0 a1 b0 b1:Addr}(h:Two W n0 n1 a0 a1)(h':Two W n0 n2 b0 b1):b0=a0:=by
 have e:=h.v0.symm.trans h'.v0;simp only[Zo,Array.mk.injEq,List.cons.injEq,Value.iface.injEq,Value.pointer.injEq,and_true,true_and] at e;exact e.symm
structure Ten (W:World)(ep:Addr)(a_errOp a_errVolume a_errFile a_errBytes a_errThere a_errFixed a_errRoom a_errParts a_errAfter:Addr):Prop where
 errOp:Two W "loop.example/g00336/impl.errPool" "loop.example/g00336/impl.errOp" ep a_errOp
 errVolume:Two W "loop.example/g00336/impl.errPool" "loop.example/g00336/impl.errVolume" ep a_errVolume
 errFile:Two W "loop.example/g00336/impl.errPool" "loop.example/g00336/impl.errFile" ep a_errFile
 errBytes:Two W "loop.example/g00336/impl.errPool" "loop.example/g00336/impl.errBytes" ep a_errBytes
 errThere:Two W "loop.example/g00336/impl.errPool" "loop.example/g00336/impl.errThere" ep a_errThere
 errFixed:Two W "loop.example/g00336/impl.errPool" "loop.example/g00336/impl.errFixed" ep a_errFixed
 errRoom:Two W "loop.example/g00336/impl.errPool" "loop.example/g00336/impl.errRoom" ep a_errRoom
 errParts:Two W "loop.example/g00336/impl.errPool" "loop.example/g00336/impl.errParts" ep a_errParts
 errAfter:Two W "loop.example/g00336/impl.errPool" "loop.example/g00336/impl.errAfter" ep a_errAfter
end
section
open Go.ChangeShapes Go.WideShapes Go.ChangeAt Go.RowKit Go.Deep _root_.Go.Proofs.Tryz
theorem HS {H:Type}{enc:TypeId×Value->H}{w:World}{spare:Nat->Bool}{held:Bool}{a:Option Addr}{n cap:Nat}{d:DataW H}{p:List MemPlace}
  (h:DataW.Trod enc prog w 0 spare held 22 (.slice a n cap) d p):n<=maxLen∧Ch w a n:=by
 obtain⟨fuel,hf⟩:=h
 rcases open_slice underlying22 hf with⟨hb,_⟩ | ⟨ad,len,cap',m,n',D,Pl,hb,_,hl,hm,hn,_,hk⟩
 ·simp[Value.cells] at hb
  obtain⟨rfl,rfl,rfl⟩:=hb
  exact⟨Zg _,fun i hi=>by omega⟩
 ·simp[Value.cells] at hb
  obtain⟨rfl,rfl,rfl⟩:=hb
  have ho:n<=m:=by rw[hn];split<;>omega
  refine ⟨Zl hl hm,fun i hi=>?_⟩
  have he:∀ i,i<n->∃ z:Int,0<=z∧z<=255∧w.cell? (ad.add i)=some (.int .u8 z):=by
   intro i hi
   obtain⟨cs',h1,h2⟩:=hk i (by omega)
   rw[c5] at h1
   obtain⟨_,hg,ha⟩:=World.cells?_some h1
   obtain⟨z,e,_,hz⟩:=DataW.trod_int underlying5 h2
   match cs',hg with
   |[x0],_=>
    simp at e
    subst e
    have hc:=ha 0 (by omega)
    rw[Addr.add_add] at hc
    have hh:=bounds_u8 hz
    exact⟨z,hh.1,hh.2,by simpa using hc⟩
  obtain⟨z,h0,h1,hc⟩:=he i hi
  obtain⟨z',_,_,hj⟩:=he 0 (by omega)
  obtain⟨b,o,rfl⟩:=GW hj rfl
  exact⟨b,o,z,rfl,h0,h1,by rw[Addr.add_lit] at hc;exact hc⟩
end
end Go.Proofs.YtdmeabghpchckaaGreatDoor
