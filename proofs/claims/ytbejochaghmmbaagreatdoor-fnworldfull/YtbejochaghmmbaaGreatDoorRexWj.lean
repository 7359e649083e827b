import Derived.Test.YtbejochaghmmbaaGreatDoorRexWk
namespace Go.Proofs.YtbejochaghmmbaaGreatDoor
open Go.RowKit
set_option maxRecDepth 100000
def lvB (bits:Int):Nat→Bool
 | 0=>bits.tmod 2==1
 | k+1=>lvB (bits.tdiv 2) k
theorem tdiv2_wrap {b:Int} (h0:0≤b) (h1:b≤15):IntKind.i64.wrap (b.tdiv 2)=b.tdiv 2∧0≤b.tdiv 2∧b.tdiv 2≤15:=by
 rw [Int.tdiv_eq_ediv_of_nonneg h0]
 exact⟨wrapN _ (by omega) (by omega),by omega,by omega⟩
theorem lvBit_con (b:Int) (h0:0≤b) (h1:b≤15) (k:Nat) (hk:k<4) (h:Hp):Con Tryz.prog 31 #[.int .i64 b,.int .i64 k] h fun r h'=>r=.bool (lvB b k)∧h'=h:=by
 refine Con.of_W (tb:=tbE) (args:=[.int .i64 b,.int .i64 k]) Tryz.func31 rfl Tryz.results31 Tryz.ntmps31 (by simp) (Tryz.call31 _) (tm:=[(0,.v (.int .i64 b)),(1,.v (.int .i64 k))]) rfl ?_
 refine vc_ok ⟨tbE_ok,_,Tryz.func31,Tryz.results31,Tryz.ntmps31⟩ 400 _ _ _ _ ?_
 conv=>whnf
 refine W.cut [(1,.v (.int .i64 k)),(0,.v (.int .i64 b)),(5,.v (.int .i64 (0:Nat)))] [] [] ⟨rfl,rfl,rfl,trivial⟩ rfl rfl ⟨_,rfl⟩ ?_
 refine W.loop (α:=Nat×Int) (fun x=>[(1,.v (.int .i64 k)),(0,.v (.int .i64 x.2)),(5,.v (.int .i64 (x.1:Int)))]) (fun _=>[]) (fun x h'=>x.1≤k∧(0≤x.2∧x.2≤15)∧lvB b k=lvB x.2 (k-x.1)∧h'=h) (fun x=>k-x.1) ?_ (0,b) h ⟨Nat.zero_le _,⟨h0,h1⟩,rfl,rfl⟩
 rintro⟨i,c⟩ h' ⟨hi,⟨c0,c1⟩,he,rfl⟩ ih
 dsimp only at hi c0 c1 he ⊢
 refine vc_ok ⟨tbE_ok,_,Tryz.func31,Tryz.results31,Tryz.ntmps31⟩ 400 _ _ _ _ ?_
 conv=>whnf
 obtain⟨q1,q2,q3⟩:=tdiv2_wrap c0 c1
 refine⟨fun h6=>?_,fun h6=>?_⟩<;>conv=>whnf
 ·have hlt:i<k:=by simp at h6;omega
  refine Ext.quo (b:=2) rfl rfl rfl (by decide) ?_
  conv=>whnf
  have hw:IntKind.i64.wrap ((i:Int)+1)=((i+1:Nat):Int):=by rw [wrapN _ (by omega) (by omega)];omega
  rw [hw,q1]
  have hs:lvB c (k-i)=lvB (c.tdiv 2) (k-(i+1)):=by rw [show k-i=k-(i+1)+1 by omega];rfl
  exact W.back (ih (i+1,c.tdiv 2) h' ⟨hlt,⟨q2,q3⟩,he.trans hs,rfl⟩ (by dsimp only;omega)) [] (by exact⟨rfl,rfl,rfl,trivial⟩) rfl rfl
 ·have hge:i=k:=by simp at h6;omega
  refine Ext.rem (b:=2) rfl rfl rfl (by decide) ?_
  conv=>whnf
  refine⟨?_,rfl⟩
  rw [he,hge,Nat.sub_self]
  rfl
def inP (a b:Int) (k:Nat):Prop:=∀j,j<k→lvB a j=true→lvB b j=true
theorem lvIn_con (a b:Int) (a0:0≤a) (a1:a≤15) (b0:0≤b) (b1:b≤15) (hin:inP a b 4) (h:Hp):Con Tryz.prog 29 #[.int .i64 a,.int .i64 b] h fun r h'=>r=.bool true∧h'=h:=by
 refine Con.of_W (tb:=tbE) (args:=[.int .i64 a,.int .i64 b]) Tryz.func29 rfl Tryz.results29 Tryz.ntmps29 (by simp) (Tryz.call29 _) (tm:=[(0,.v (.int .i64 a)),(1,.v (.int .i64 b))]) rfl ?_
 refine vc_ok ⟨tbE_ok,_,Tryz.func29,Tryz.results29,Tryz.ntmps29⟩ 400 _ _ _ _ ?_
 conv=>whnf
 refine W.cut [(0,.v (.int .i64 a)),(1,.v (.int .i64 b)),(5,.v (.int .i64 (0:Nat)))] [] [] ⟨rfl,rfl,rfl,trivial⟩ rfl rfl ⟨_,rfl⟩ ?_
 refine W.loop (α:=Nat) (fun i=>[(0,.v (.int .i64 a)),(1,.v (.int .i64 b)),(5,.v (.int .i64 (i:Nat)))]) (fun _=>[]) (fun i h'=>i≤4∧h'=h) (fun i=>4-i) ?_ 0 h ⟨Nat.zero_le _,rfl⟩
 rintro i h2 ⟨hi,rfl⟩ ih
 refine vc_ok ⟨tbE_ok,_,Tryz.func29,Tryz.results29,Tryz.ntmps29⟩ 400 _ _ _ _ ?_
 conv=>whnf
 refine⟨fun h3=>?_,fun h3=>?_⟩<;>conv=>whnf
 ·have hlt:i<4:=by simp at h3;omega
  have hw:IntKind.i64.wrap ((i:Int)+1)=((i+1:Nat):Int):=by rw [wrapN _ (by omega) (by omega)];omega
  refine(lvBit_con a a0 a1 i hlt h2).mono ?_
  rintro r h2 ⟨rfl,rfl⟩
  conv=>whnf
  refine⟨fun c1=>?_,fun c1=>?_⟩<;>conv=>whnf
  ·refine(lvBit_con b b0 b1 i hlt h2).mono ?_
   rintro r h2 ⟨rfl,rfl⟩
   conv=>whnf
   refine⟨fun c2=>?_,fun c2=>?_⟩<;>conv=>whnf
   ·rw [hin i hlt c1] at c2
    cases c2
   rw [hw]
   exact W.back (ih (i+1) _ ⟨hlt,rfl⟩ (by omega)) [] (by exact⟨rfl,rfl,rfl,trivial⟩) rfl rfl
  ·rw [hw]
   exact W.back (ih (i+1) _ ⟨hlt,rfl⟩ (by omega)) [] (by exact⟨rfl,rfl,rfl,trivial⟩) rfl rfl
 ·exact⟨rfl,rfl⟩
theorem meet_in {a b:Int} (a0:0≤a) (a1:a≤15) (b0:0≤b) (b1:b≤15) (h:Eld.meet a b=a):inP a b 4:=by
 have key:∀i j:_root_.Fin 16,Eld.meet (i.val:Int) (j.val:Int)=(i.val:Int)→∀k:_root_.Fin 4,lvB (i.val:Int) k.val=true→lvB (j.val:Int) k.val=true:=by decide +kernel
 obtain⟨i,rfl⟩:∃i:_root_.Fin 16,a=(i.val:Int):=⟨⟨a.toNat,by omega⟩,by simp;omega⟩
 obtain⟨j,rfl⟩:∃i:_root_.Fin 16,b=(i.val:Int):=⟨⟨b.toNat,by omega⟩,by simp;omega⟩
 exact fun k hk=>key i j h ⟨k,hk⟩
theorem has_in {a b u:Int} (a0:0≤a) (a1:a≤15) (b0:0≤b) (b1:b≤15) (h:Eld.meet a b=a) (u0:0≤u) (u1:u≤3) (hu:Eld.hasB a u=true):lvB b u.toNat=true:=by
 have key:∀i j:_root_.Fin 16,Eld.meet (i.val:Int) (j.val:Int)=(i.val:Int)→∀k:_root_.Fin 4,Eld.hasB (i.val:Int) (k.val:Int)=true→lvB (j.val:Int) k.val=true:=by decide +kernel
 obtain⟨i,rfl⟩:∃i:_root_.Fin 16,a=(i.val:Int):=⟨⟨a.toNat,by omega⟩,by simp;omega⟩
 obtain⟨j,rfl⟩:∃i:_root_.Fin 16,b=(i.val:Int):=⟨⟨b.toNat,by omega⟩,by simp;omega⟩
 have e:u=((u.toNat:Nat):Int):=by omega
 exact key i j h ⟨u.toNat,by omega⟩ (by rw [show (((⟨u.toNat,by omega⟩:_root_.Fin 4).val:Nat):Int)=u from e.symm];exact hu)
theorem iUses_con (o:OpD) (h:Hp) (l:List Atom) (ho:Own h l) :
  Con Tryz.prog 30 #[o.val] h fun r h'=>∃a k,r=.slice a (Eld.usesOf o.k o.r o.s o.to o.vk o.vn).length k∧h.le h'∧Own h' (.row (rowI (.slice a (Eld.usesOf o.k o.r o.s o.to o.vk o.vn).length k) (Eld.usesOf o.k o.r o.s o.to o.vk o.vn))::l):=by
 refine⟨Tryz.call30 _,fun w hw=>?_⟩
 refine(Eld.implUses_any o.k o.r o.s o.to o.vk o.vn w).mono fun e w' ⟨v,he,hO,hb⟩=>?_
 obtain⟨a',k',h',hv,hle,hown,hi,hf⟩:=Own.addI hw ho hO hb
 exact⟨_,h',he,⟨a',k',hv,hle,hown⟩,hi,hf⟩
end Go.Proofs.YtbejochaghmmbaaGreatDoor
