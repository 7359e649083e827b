import Derived.Test.YtgmkmeodimmdoaaGreatDoorMSo
namespace Go.Proofs.YtgmkmeodimmdoaaGreatDoor
open Go.RowKit
set_option maxRecDepth 100000
def tbF:Tb:=tbG++[(96,⟨5,true,[.pointer none,.int .i64 0,.int .i64 0,.slice none 0 0,.slice none 0 0],[(0,1),(1,2),(3,1),(4,1)],0⟩),(94,⟨1,false,[.slice none 0 0],[],1⟩),(1,⟨1,false,[.nilFunc],[],0⟩),(92,⟨1,false,[.pointer none],[],0⟩),(60,⟨1,false,[.pointer none],[],0⟩),(165,⟨1,false,[.pointer none],[],0⟩)]
theorem tbF_ok:TbOk Tryz.prog tbF:=by unfold TbOk;kernel_rfl
theorem Ext.storeInt {o:Oper} {y z:Operand} (ho:o.op=.store 3 y z) {ev:Operand→Value} {h:Hp} {K:Option Value→Hp→Prop} {M:List Int} {g cap:Nat} {l:List Atom} (hown:Own h (.row (rowI (.slice (some ⟨g,0,none⟩) M.length cap) M)::l)) {i:Nat} (hi:i<M.length)
  (hy:ev y=.pointer (some ⟨g,0+i*1,none⟩)) (x:Int) (hz:ev z=.int .i64 x) (k:∀h',Own h' (.row (rowI (.slice (some ⟨g,0,none⟩) (M.set i x).length cap) (M.set i x))::l)→K none h'):Ext Tryz.prog (execOp ev o) h K:=by
 refine Ext.store tbE_ok rfl ho hown rfl hy hz [.int .i64 x] rfl rfl (by show 0+i*1+1≤M.length*1;omega) (by simp [Value.oneCell']) fun h' ho'=>?_
 have e1:putL (0+i*1) [.int .i64 x] (M.flatMap encI)=(M.set i x).flatMap encI:=by
  have:=flat_set encI 1 encI_len M i hi 0 [.int .i64 x] (by simp) x (by simp [putL,encI]);rw [Nat.zero_add,←this,Nat.add_zero]
 have e:({ rowI (.slice (some ⟨g,0,none⟩) M.length cap) M with xs:=putL (0+i*1) [.int .i64 x] (M.flatMap encI) }:Row)=rowI (.slice (some ⟨g,0,none⟩) (M.set i x).length cap) (M.set i x):=by
  simp only [e1,rowI,List.length_set]
 have ho2:Own h' (.row { rowI (.slice (some ⟨g,0,none⟩) M.length cap) M with xs:=putL (0+i*1) [.int .i64 x] (M.flatMap encI) }::l):=ho';rw [e] at ho2;exact k h' ho2
end Go.Proofs.YtgmkmeodimmdoaaGreatDoor
