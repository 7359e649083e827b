import Derived.Test.YtgmkmeodimmdoaaGreatDoorMSm
namespace Go.Proofs.YtgmkmeodimmdoaaGreatDoor
open Go.RowKit
set_option maxRecDepth 100000
def tbG:Tb:=tbE++[(103,⟨15,true,[.int .i64 0,.int .i64 0,.int .i64 0,.int .i64 0,.int .i64 0,.int .i64 0,.int .i64 0,.int .i64 0,.slice none 0 0,.slice none 0 0,.slice none 0 0,.int .i64 0,.int .i64 0,.int .i64 0,.int .i64 0],[(0,8),(8,7)],0⟩),
 (101,⟨8,true,[.int .i64 0,.int .i64 0,.int .i64 0,.int .i64 0,.int .i64 0,.int .i64 0,.int .i64 0,.int .i64 0],[(0,6),(6,1),(7,1)],0⟩)]
end Go.Proofs.YtgmkmeodimmdoaaGreatDoor
