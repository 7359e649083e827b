import Derived.Test.YtgmkmeodimmdoaaGreatDoorMSl
namespace Go.Proofs.YtgmkmeodimmdoaaGreatDoor
open Go.RowKit
set_option maxRecDepth 100000
theorem Own.nilI {h:Hp} {l:List Atom} (o:Own h l):Own h (.row (rowI (.slice none 0 0) [])::l):=o.add ⟨rfl,.inl ⟨rfl,rfl⟩⟩ (fun g e=>by cases e) (fun _ _=>rfl)
theorem lvInts_con (a1 a2:Option Addr) (k1 k2:Nat) (L M:List Int) (hL:L.length<100000) (h:Hp) (h1:RowOk h (rowI (.slice a1 L.length k1) L)) (h2:RowOk h (rowI (.slice a2 M.length k2) M)) :
  Con Tryz.prog 30 #[.slice a1 L.length k1,.slice a2 M.length k2] h fun r h'=>r=.bool (decide (L=M))∧h'=h:=by
 refine Con.of_W (tb:=tbE) (args:=[.slice a1 L.length k1,.slice a2 M.length k2]) Tryz.func30 rfl Tryz.results30 Tryz.ntmps30 (by simp) (Tryz.call30 _) (tm:=[(0,.v (.slice a1 L.length k1)),(1,.v (.slice a2 M.length k2))]) rfl ?_;refine vc_ok ⟨tbE_ok,_,Tryz.func30,Tryz.results30,Tryz.ntmps30⟩ 400 _ _ _ _ ?_;conv=>whnf
 refine⟨fun b1=>?_,fun b1=>?_⟩<;>conv=>whnf
 ·have hne:L≠M:=fun e=>by rw [e] at b1;simp at b1
  exact⟨by rw [decide_eq_false hne];rfl,rfl⟩
 have hlen:L.length=M.length:=by(have:(L.length:Int)=(M.length:Int):=by simpa using b1);omega
 refine W.cut [(5,.v (.int .i64 (0:Nat))),(0,.v (.slice a1 L.length k1)),(1,.v (.slice a2 M.length k2))] [] [] ⟨rfl,rfl,rfl,trivial⟩ rfl rfl ⟨_,rfl⟩ ?_;refine W.loop (α:=Nat) (fun i=>[(5,.v (.int .i64 (i:Nat))),(0,.v (.slice a1 L.length k1)),(1,.v (.slice a2 M.length k2))]) (fun _=>[]) (fun i h'=>i≤L.length∧(∀j (hj:j<L.length),j<i→L[j]=M[j]'(by omega))∧h'=h) (fun i=>L.length-i) ?_ 0 h ⟨Nat.zero_le _,fun j _ hj=>absurd hj (Nat.not_lt_zero _),rfl⟩;rintro i h5 ⟨hi,hfit,rfl⟩ ih;refine vc_ok ⟨tbE_ok,_,Tryz.func30,Tryz.results30,Tryz.ntmps30⟩ 400 _ _ _ _ ?_;conv=>whnf
 refine⟨fun h6=>?_,fun h6=>?_⟩<;>conv=>whnf
 ·have hlt:i<L.length:=by simp at h6;omega
  have hltM:i<M.length:=by omega
  obtain⟨g1,hva⟩:=row_some h1 (by omega);obtain⟨g2,hvb⟩:=row_some h2 (by omega);subst hva;subst hvb;refine W.draw [(0,true),(1,true),(2,true),(3,true),(4,true),(5,true),(6,true),(7,true),(8,true)] [] (some h5) 99 (by kernel_rfl) rfl (by kernel_rfl) mixed rfl (fun g e=>by cases e;exact Hp.le_refl _) ?_;refine vc_ok ⟨tbE_ok,_,Tryz.func30,Tryz.results30,Tryz.ntmps30⟩ 400 _ _ _ _ ?_;conv=>whnf
  refine Rd.index slInt.u slInt.size rfl rfl rfl i rfl hlt ?_;conv=>whnf
  refine Rd.loadInt rfl h1 rfl hlt rfl ?_;conv=>whnf
  refine Rd.index slInt.u slInt.size rfl rfl rfl i rfl hltM ?_;conv=>whnf
  refine Rd.loadInt rfl h2 rfl hltM rfl ?_;conv=>whnf
  refine⟨fun b2=>?_,fun b2=>?_⟩<;>conv=>whnf
  ·have hne:L≠M:=fun e=>by
    subst e;simp at b2
   exact⟨by rw [decide_eq_false hne];rfl,rfl⟩
  have he:L[i]=M[i]:=by simpa using b2
  have hwi:IntKind.i64.wrap ((i:Int)+1)=((i+1:Nat):Int):=by rw [wrapN _ (by omega) (by omega)];omega
  rw [hwi];exact W.back (ih (i+1) _ ⟨hlt,fun j hj hji=>(by
   rcases (by omega:j<i∨j=i) with h8 | rfl
   ·exact hfit j hj h8
   ·exact he),rfl⟩ (by omega)) [] (by exact⟨rfl,rfl,rfl,trivial⟩) rfl rfl
 ·have he:L=M:=List.ext_getElem hlen fun j hj _=>hfit j hj (by simp at h6;omega)
  exact⟨by rw [decide_eq_true he];rfl,rfl⟩
theorem Ext.litI0 {o:Oper} (ho:o.op=.buildSlice 25 0 #[]) {ev:Operand→Value} {h:Hp} {K:Option Value→Hp→Prop} {l:List Atom} (hown:Own h l) (k:∀g h',h.le h'→Own h' (.row (rowI (.slice (some ⟨g,0,none⟩) 0 0) [])::l)→K (some (.slice (some ⟨g,0,none⟩) 0 0)) h'):Ext Tryz.prog (execOp ev o) h K :=
 Ext.buildSlice slInt ho hown [] (fun w=>⟨_,Tryz.zeroValue3 w,by kernel_rfl⟩) [] rfl rfl (by decide) k
abbrev one (e:TypeId) (sz g:Nat) (xs:List Value):Row:=⟨e,sz,.slice (some ⟨g,0,none⟩) 1 1,1,xs⟩
end Go.Proofs.YtgmkmeodimmdoaaGreatDoor
