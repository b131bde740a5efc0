/- What the model answers. -/
import Derived.Test.YtbbhcnjhohidnaaGreatDoorV31a
import Derived.Test.YtbbhcnjhohidnaaGreatDoorV31b
set_option maxHeartbeats 20000000
set_option maxRecDepth 100000
namespace Go.Proofs.YtbbhcnjhohidnaaGreatDoor
open Go Go.RowKit Go.BigFrame Tryz
variable{B n:Nat}{w w':World}
theorem h5_ {o:Opr}(h:opB o=true):o.k=1∨o.k=2∨o.k=3∨o.k=4∨o.k=5∨o.k=6∨o.k=7∨o.k=8∨o.k=9∨o.k=10:=by
 unfold opB at h
 repeat' split at h
 all_goals first | omega | cases h
theorem k6_ (B0:Nat)(hB0:0<B0)(v:Value)(p:Po)(o:Opr)(w:World)(h:PoolAt B0 w v p)(hd:DimP p)(hp:poolB p=true)(hso:StrO o):
  Calls prog 27 #[v,.agg #[.int .i64 o.k,.string o.vol,.string o.file,.string o.to,.string o.into,.int .i64 o.at',.int .i64 o.fr,.int .i64 o.ln,.string o.data]] w fun e w'=>(∃ v' c,e=.returned (.tuple #[v',.int .i64 c])∧c=(opS p o).1∧PoolT w.heap.size w' v' (opS p o).2∧DimP (opS p o).2)∧Below w.heap.size w w':=by
 cases hf:opB o with
 |false=>exact gz_ B0 hB0 v p o w h hd hp hso hf
 |true=>
  rcases h5_ hf with hk | hk | hk | hk | hk | hk | hk | hk | hk | hk
  ·by_cases hy:(volS p o).1=0
   ·exact bk_ B0 hB0 v p o w h hd hp hso hf (by omega) hy
   ·exact bu_ B0 hB0 v p o w h hd hp hso hf (by omega) hy
  ·by_cases hy:(fileS p o).1=0
   ·exact bI_ B0 hB0 v p o w h hd hp hso hf (by omega) hy
   ·exact bN_ B0 hB0 v p o w h hd hp hso hf (by omega) hy
  ·by_cases hy:(fileS p o).1=0
   ·exact bI_ B0 hB0 v p o w h hd hp hso hf (by omega) hy
   ·exact bN_ B0 hB0 v p o w h hd hp hso hf (by omega) hy
  ·by_cases hy:(volS p o).1=0
   ·exact bk_ B0 hB0 v p o w h hd hp hso hf (by omega) hy
   ·exact bu_ B0 hB0 v p o w h hd hp hso hf (by omega) hy
  ·by_cases hy:(fileS p o).1=0
   ·exact bI_ B0 hB0 v p o w h hd hp hso hf (by omega) hy
   ·exact bN_ B0 hB0 v p o w h hd hp hso hf (by omega) hy
  ·by_cases hy:(volS p o).1=0
   ·exact bk_ B0 hB0 v p o w h hd hp hso hf (by omega) hy
   ·exact bu_ B0 hB0 v p o w h hd hp hso hf (by omega) hy
  ·by_cases hy:(volS p o).1=0
   ·exact bk_ B0 hB0 v p o w h hd hp hso hf (by omega) hy
   ·exact bu_ B0 hB0 v p o w h hd hp hso hf (by omega) hy
  ·by_cases hy:(volS p o).1=0
   ·exact bk_ B0 hB0 v p o w h hd hp hso hf (by omega) hy
   ·exact bu_ B0 hB0 v p o w h hd hp hso hf (by omega) hy
  ·exact f9_ B0 hB0 v p o w h hd hp hso hf hk
  ·by_cases hy:(fileS p o).1=0
   ·exact bI_ B0 hB0 v p o w h hd hp hso hf (by omega) hy
   ·exact bN_ B0 hB0 v p o w h hd hp hso hf (by omega) hy
theorem mi_ (B:Nat)(w:World):PoolT B w (.agg #[.int .i64 0,.int .i64 0,.slice none 0 0,.slice none 0 0,.slice none 0 0,.slice none 0 0]) ⟨0,0,[],[],[],[]⟩:=⟨_,_,_,_,_,_,_,_,_,_,_,_,[],rfl,aB_,⟨aB_,VolsT.nil _ _⟩,aB_,aB_,fun x y h=>by cases h⟩
theorem k7_:DimP ⟨0,0,[],[],[],[]⟩:=⟨Zg _,(fun e he=>by cases he),Zg _,(fun e he=>by cases he),Zg _,(fun e he=>by cases he),Zg _,(fun e he=>by cases he)⟩
end Go.Proofs.YtbbhcnjhohidnaaGreatDoor
