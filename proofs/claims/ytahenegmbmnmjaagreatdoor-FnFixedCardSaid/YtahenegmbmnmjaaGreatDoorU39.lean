/- Ground. -/
import Derived.Test.YtahenegmbmnmjaaGreatDoorU38
set_option maxHeartbeats 20000000
set_option maxRecDepth 100000
namespace Go.Proofs.YtahenegmbmnmjaaGreatDoor
open Go Go.ChangeShapes Go.WideShapes Go.RowKit Go.BigFrame _root_.Go.Proofs.Tryz
noncomputable def Dh (os:Os):World:=
 let w0:=World.holding prog os ⟨#[.cells #[.string {data:=#[116,104,101,32,112,111,111,108,32,105,115,32,110,111,116,32,114,105,103,104,116]}] 367,.cells #[.string {data:=#[116,104,101,32,111,112,32,105,115,32,110,111,116,32,114,105,103,104,116]}] 367,.cells #[.string {data:=#[116,104,101,114,101,32,105,115,32,110,111,32,115,117,99,104,32,118,111,108,117,109,101]}] 367,.cells #[.string {data:=#[116,104,101,114,101,32,105,115,32,110,111,32,115,117,99,104,32,102,105,108,101]}] 367,.cells #[.string {data:=#[116,104,101,32,102,105,108,101,32,104,97,115,32,102,101,119,101,114,32,98,121,116,101,115]}] 367,.cells #[.string {data:=#[116,104,101,114,101,32,105,115,32,115,117,99,104,32,97,32,118,111,108,117,109,101]}] 367,.cells #[.string {data:=#[116,104,101,32,118,111,108,117,109,101,32,105,115,32,102,105,120,101,100]}] 367,.cells #[.string {data:=#[116,104,101,114,101,32,105,115,32,110,111,32,114,111,111,109,32,102,111,114,32,116,104,101,32,100,97,116,97]}] 367,.cells #[.string {data:=#[116,104,101,32,102,105,108,101,32,119,111,117,108,100,32,104,97,118,101,32,116,111,111,32,109,97,110,121,32,112,97,114,116,115,32,111,114,32,98,121,116,101,115]}] 367,.cells #[.string {data:=#[116,104,101,32,112,111,111,108,32,119,111,117,108,100,32,110,111,116,32,98,101,32,114,105,103,104,116]}] 367],#[],[]⟩
 {w0 with heap:=((((((((((w0.heap.modify 0 fun
   |.cells _ t frozen=>.cells #[.iface 348 (.pointer (some ⟨Cr+0,0,none⟩))] t frozen
   |o=>o).modify 1 fun
   |.cells _ t frozen=>.cells #[.iface 348 (.pointer (some ⟨Cr+1,0,none⟩))] t frozen
   |o=>o).modify 4 fun
   |.cells _ t frozen=>.cells #[.iface 348 (.pointer (some ⟨Cr+2,0,none⟩))] t frozen
   |o=>o).modify 8 fun
   |.cells _ t frozen=>.cells #[.iface 348 (.pointer (some ⟨Cr+3,0,none⟩))] t frozen
   |o=>o).modify 9 fun
   |.cells _ t frozen=>.cells #[.iface 348 (.pointer (some ⟨Cr+4,0,none⟩))] t frozen
   |o=>o).modify 6 fun
   |.cells _ t frozen=>.cells #[.iface 348 (.pointer (some ⟨Cr+5,0,none⟩))] t frozen
   |o=>o).modify 5 fun
   |.cells _ t frozen=>.cells #[.iface 348 (.pointer (some ⟨Cr+6,0,none⟩))] t frozen
   |o=>o).modify 7 fun
   |.cells _ t frozen=>.cells #[.iface 348 (.pointer (some ⟨Cr+7,0,none⟩))] t frozen
   |o=>o).modify 10 fun
   |.cells _ t frozen=>.cells #[.iface 348 (.pointer (some ⟨Cr+8,0,none⟩))] t frozen
   |o=>o).modify 2 fun
   |.cells _ t frozen=>.cells #[.iface 348 (.pointer (some ⟨Cr+9,0,none⟩))] t frozen
   |o=>o).modify 3 fun
   |.cells _ t frozen=>.cells #[.iface 263 (.agg #[.pointer (some ⟨11,94,none⟩)])] t frozen
   |o=>o}
theorem iB_ (os:Os)(args:Array Value):laidMetH prog CS ((Dh os).forCall (fun _ _=>0) ⟨#[],args,[]⟩).memory:=
 laidMetH_of_parts (laidMet_of_run (ps:=[.cell 0 0,.cell (Cr+0) 0,.cell 1 0,.cell (Cr+1) 0,.cell 4 0,.cell (Cr+2) 0,.cell 8 0,.cell (Cr+3) 0,.cell 9 0,.cell (Cr+4) 0,.cell 6 0,.cell (Cr+5) 0,.cell 5 0,.cell (Cr+6) 0,.cell 7 0,.cell (Cr+7) 0,.cell 10 0,.cell (Cr+8) 0,.cell 2 0,.cell (Cr+9) 0]) 8 (by kernel_rfl) (by kernel_rfl) (by kernel_rfl)) (by kernel_rfl)
end Go.Proofs.YtahenegmbmnmjaaGreatDoor
