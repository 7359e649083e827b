import Derived.Test.YtgmkmeodimmdoaaGreatDoorMTc
import Derived.Test.YtgmkmeodimmdoaaGreatDoorMSp
namespace Go.Proofs.YtgmkmeodimmdoaaGreatDoor
open Go.RowKit
set_option maxRecDepth 100000
theorem trapAt_eq {u:PW} {m:Nat} (hm:m<u.runs.length):trapAt u ((m:Int)+1)=u.runs[m].trap:=by
 unfold trapAt;have e:((m:Int)+1-1).toNat=m:=by omega
 rw [e,List.getElem?_eq_getElem hm]
end Go.Proofs.YtgmkmeodimmdoaaGreatDoor
