import Derived.Test.YtgmkmeodimmdoaaGreatDoorCards
import Derived.Test.YtgmkmeodimmdoaaGreatDoorTie
import Derived.Test.YtgmkmeodimmdoaaGreatDoorBQa
import Derived.Deep.DeepHandedRow
import Derived.Lib.LaidTab
import Derived.Lib.ItoaNum
import Derived.Deep.DeepWitnessRowRef
namespace Go.Proofs.YtgmkmeodimmdoaaGreatDoor.Eld
open Go.ChangeShapes Go.WideShapes Go.ChangeAt Go.RowKit Go.Joins
theorem own:ownKnob Tryz.prog.godebug=none:=by kernel_rfl
theorem laidOut:laidOutB Tryz.prog=true:=by kernel_rfl
def db32:List Int:=[0,1,28,2,29,14,24,3,30,22,20,15,25,17,4,8,31,27,13,23,21,19,16,7,26,12,18,6,11,5,10,9]
def db64:List Int:=[0,1,56,2,57,49,28,3,61,58,42,50,38,29,17,4,62,47,59,36,45,43,51,22,53,39,33,30,24,18,12,5,63,55,48,27,60,41,37,16,46,35,44,21,52,32,23,11,54,26,40,15,34,20,31,10,25,14,19,9,13,8,7,6]
def putCells (cs:Array Value):Obj→Obj
 |.cells _ t frozen=>.cells cs t frozen
 |o=>o
def putTabs (w0:World):World :=
 { w0 with heap:=((w0.heap.modify 0 (putCells (Lib.pow10Tab.map (Value.int .u64)).toArray)).modify 3 (putCells (db32.map (Value.int .u8)).toArray)).modify 4 (putCells (db64.map (Value.int .u8)).toArray) }
def putAll (N:Nat) (w0:World):World :=
 putTabs { w0 with heap:=(w0.heap.modify 1 (putCells #[.iface 242 (.pointer (some ⟨N,0,none⟩))])).modify 2 (putCells #[.iface 242 (.pointer (some ⟨N+1,0,none⟩))]) }
def errBlocks:Array Obj:=#[.cells #[.string ⟨([105,110,118,97,108,105,100,32,115,121,110,116,97,120]:List UInt8).toArray⟩] 244,.cells #[.string ⟨([118,97,108,117,101,32,111,117,116,32,111,102,32,114,97,110,103,101]:List UInt8).toArray⟩] 244]
end Go.Proofs.YtgmkmeodimmdoaaGreatDoor.Eld
