/- Texts of pools, read and written; what is drawn. -/
import Derived.Test.YteejlahappbalaaGreatDoorU28
import Derived.Test.YteejlahappbalaaGreatDoorU29
set_option maxHeartbeats 20000000
set_option maxRecDepth 100000
namespace Go.Proofs.YteejlahappbalaaGreatDoor
open Go Go.RowKit Go.BigFrame Tryz
def Pk (p q:Po):Prop:=q.rf=p.rf∧q.lt=p.lt∧(q.ex.length<=4194304∧Strs q.ex)∧WS q.vs
theorem Mf (B:Nat)(hB0:0<B)(v:Value)(p:Po)(o:Opr)(w:World)(h:AM B w v p)(hBw:B<=w.heap.size)(hd:A7 p)(hp:Ai p=true)(hso:EM o)(hk:o.k=1∨o.k=4∨o.k=6∨o.k=7∨o.k=8) :
  Calls prog 168 #[v,.agg #[.int .i64 o.k,.string o.vol,.string o.file,.string o.to,.string o.into,.int .i64 o.at',.int .i64 o.fr,.int .i64 o.ln,.string o.data]] w fun e w'=>(∃ v' c,e=.returned (.tuple #[v',.int .i64 c])∧Gq v'∧(c=0->∃ q,AM B w' v' q∧Pk p q))∧Below B w w'∧FrV w w':=
 (IY B hB0 v p o w h hBw hd (aQ_ hp).2.1 hk).mono fun _ _ ⟨⟨v',c,he,h1,_,h2⟩,h3⟩=>⟨⟨v',c,he,h1,fun h0=>⟨_,h2 h0,(oQ_ hd).1,(oQ_ hd).2.1,(oQ_ hd).2.2,qc_ hp hd hso.vol hso.to⟩⟩,h3⟩
theorem Me (B:Nat)(hB0:0<B)(v:Value)(p:Po)(o:Opr)(w:World)(h:AM B w v p)(hNn:NnE v)(hBw:B<=w.heap.size)(hd:A7 p)(hp:Ai p=true)(hso:EM o)(hop:opB o=true)(hk:o.k=2∨o.k=3∨o.k=5∨o.k=10) :
  Calls prog 167 #[v,.agg #[.int .i64 o.k,.string o.vol,.string o.file,.string o.to,.string o.into,.int .i64 o.at',.int .i64 o.fr,.int .i64 o.ln,.string o.data]] w fun e w'=>(∃ v' c,e=.returned (.tuple #[v',.int .i64 c])∧Gq v'∧(c=0->∃ q,AM B w' v' q∧Pk p q))∧Below B w w'∧FrV w w':=
 (KC B hB0 v p o w h hNn hBw hd hp hop hk).mono fun _ _ ⟨⟨v',c,he,h1,_,h2⟩,h3⟩=>⟨⟨v',c,he,h1,fun h0=>⟨_,(h2 h0).1,(nJ_ hp hd hso.data).1,(nJ_ hp hd hso.data).2.1,(nJ_ hp hd hso.data).2.2,pM_ hp hd hso.file hso.into (h2 h0).2⟩⟩,h3⟩
end Go.Proofs.YteejlahappbalaaGreatDoor
