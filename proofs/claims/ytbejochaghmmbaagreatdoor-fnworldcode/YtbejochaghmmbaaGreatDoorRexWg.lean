import Derived.Test.YtbejochaghmmbaaGreatDoorRexWf
namespace Go.Proofs.YtbejochaghmmbaaGreatDoor
open Go.RowKit
set_option maxRecDepth 100000
theorem c_cb {h:Hp} {c:RdC} {cb:Option (Nat×Obj)} {q:Int} {l:List Atom} (hcb:c.cb=cb) (o:Own h (c.atoms q++l)):Own h (cbAtoms cb++l):=by
 have e:c.codeAt=cbAtoms cb:=by unfold RdC.codeAt cbAtoms;rw [hcb];cases cb<;>rfl
 have o2:Own h (c.codeAt++l):=o.tail
 rw [e] at o2
 exact o2
theorem drawWorldOk_con (a:Option Addr) (len cap:Nat) (cb:Option (Nat×Obj)) (hc:CodeIn a len cap cb) (h:Hp) (l:List Atom) (ho:Own h (cbAtoms cb++l)) :
  Con Tryz.prog 24 #[.slice a len cap] h fun r h'=>∃D:WD,r=D.val∧DrawnW D.pure∧Own h' (cbAtoms cb++(wAtoms D++l)):=by
 refine Con.of_W (tb:=tbE) (args:=[.slice a len cap]) Tryz.func24 rfl Tryz.results24 Tryz.ntmps24 (by simp) (Tryz.call24 _) (tm:=[(0,.v (.slice a len cap))]) rfl ?_
 refine vc_ok ⟨tbE_ok,_,Tryz.func24,Tryz.results24,Tryz.ntmps24⟩ 400 _ _ _ _ ?_
 conv=>whnf
 refine(open_con a len cap cb hc h l ho).mono ?_
 rintro r h1 ⟨c,hok,hcb,rfl,ho1⟩
 conv=>whnf
 refine(l72World_con c hok 0 (by omega) (by omega) h1 l ho1).mono ?_
 rintro r h2 ⟨D,q,rfl,hd,hq1,hq2,ho2⟩
 conv=>whnf
 exact⟨D,rfl,hd,c_cb hcb ho2⟩
theorem drawWorldWaits_con (a:Option Addr) (len cap:Nat) (cb:Option (Nat×Obj)) (hc:CodeIn a len cap cb) (h:Hp) (l:List Atom) (ho:Own h (cbAtoms cb++l)) :
  Con Tryz.prog 20 #[.slice a len cap] h fun r h'=>∃D:WD,r=D.val∧DrawnW D.pure∧Own h' (cbAtoms cb++(wAtoms D++l)):=by
 refine Con.of_W (tb:=tbE) (args:=[.slice a len cap]) Tryz.func20 rfl Tryz.results20 Tryz.ntmps20 (by simp) (Tryz.call20 _) (tm:=[(0,.v (.slice a len cap))]) rfl ?_
 refine vc_ok ⟨tbE_ok,_,Tryz.func20,Tryz.results20,Tryz.ntmps20⟩ 400 _ _ _ _ ?_
 conv=>whnf
 refine(open_con a len cap cb hc h l ho).mono ?_
 rintro r h1 ⟨c,hok,hcb,rfl,ho1⟩
 conv=>whnf
 refine(l72World_con c hok 0 (by omega) (by omega) h1 l ho1).mono ?_
 rintro r h2 ⟨D,q,rfl,hd,hq1,hq2,ho2⟩
 conv=>whnf
 exact⟨D,rfl,hd,c_cb hcb ho2⟩
theorem drawWorldAlive_con (a:Option Addr) (len cap:Nat) (cb:Option (Nat×Obj)) (hc:CodeIn a len cap cb) (h:Hp) (l:List Atom) (ho:Own h (cbAtoms cb++l)) :
  Con Tryz.prog 32 #[.slice a len cap] h fun r h'=>∃D:WD,r=D.val∧DrawnW D.pure∧Own h' (cbAtoms cb++(wAtoms D++l)):=by
 refine Con.of_W (tb:=tbE) (args:=[.slice a len cap]) Tryz.func32 rfl Tryz.results32 Tryz.ntmps32 (by simp) (Tryz.call32 _) (tm:=[(0,.v (.slice a len cap))]) rfl ?_
 refine vc_ok ⟨tbE_ok,_,Tryz.func32,Tryz.results32,Tryz.ntmps32⟩ 400 _ _ _ _ ?_
 conv=>whnf
 refine(open_con a len cap cb hc h l ho).mono ?_
 rintro r h1 ⟨c,hok,hcb,rfl,ho1⟩
 conv=>whnf
 refine(l72World_con c hok 0 (by omega) (by omega) h1 l ho1).mono ?_
 rintro r h2 ⟨D,q,rfl,hd,hq1,hq2,ho2⟩
 conv=>whnf
 exact⟨D,rfl,hd,c_cb hcb ho2⟩
end Go.Proofs.YtbejochaghmmbaaGreatDoor
