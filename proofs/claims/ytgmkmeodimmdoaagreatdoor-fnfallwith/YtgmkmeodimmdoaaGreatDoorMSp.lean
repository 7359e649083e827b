import Derived.Test.YtgmkmeodimmdoaaGreatDoorMSo
import Derived.Test.YtgmkmeodimmdoaaGreatDoorMSm
import Derived.Test.YtgmkmeodimmdoaaGreatDoorMSj
namespace Go.Proofs.YtgmkmeodimmdoaaGreatDoor
open Go.RowKit
set_option maxRecDepth 100000
theorem Own.turnL {h:Hp} {A B C:List Atom} (o:Own h (A++(B++C))):Own h (B++(A++C)):=o.perm (perm_of fun x=>by simp only [List.count_append];omega)
theorem Own.dropL {h:Hp}:∀{A B:List Atom},Own h (A++B)→Own h B
 | [],_,o=>o
 | _::A,B,o=>Own.dropL (A:=A) (B:=B) o.tail
theorem cb_leT {cb:Option (Nat×Obj)} {h:Hp} {l:List Atom} (o:Own h (l++cbAtoms cb)):(cbHp cb).le h:=cb_le (l:=[]) (by rw [List.append_nil];exact o.dropL)
end Go.Proofs.YtgmkmeodimmdoaaGreatDoor
