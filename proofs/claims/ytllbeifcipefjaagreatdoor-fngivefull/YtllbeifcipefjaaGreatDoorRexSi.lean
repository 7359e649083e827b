import Derived.Test.YtllbeifcipefjaaGreatDoorRexSh
import Derived.Test.YtllbeifcipefjaaGreatDoorSm
import Derived.Test.YtllbeifcipefjaaGreatDoorSj
namespace Go.Proofs.YtllbeifcipefjaaGreatDoor
open Go.RowKit
set_option maxRecDepth 100000
theorem lvStateOut_con (D:WD) (id:Int) (hid:¬(1≤id∧id≤(D.runs.length:Int))) (h:Hp) :
  Con Tryz.prog 15 #[D.val,.int .i64 id] h fun r h'=>r=.int .i64 0∧h'=h:=by
 refine Con.of_W (tb:=tbE) (args:=[D.val,.int .i64 id]) Tryz.func15 rfl Tryz.results15 Tryz.ntmps15 (by simp) (Tryz.call15 _) (tm:=[(0,.a D.cells),(1,.v (.int .i64 id))]) rfl ?_
 refine vc_ok ⟨tbE_ok,_,Tryz.func15,Tryz.results15,Tryz.ntmps15⟩ 400 _ _ _ _ ?_
 conv=>whnf
 refine⟨fun b1=>?_,fun b1=>?_⟩<;>conv=>whnf
 ·refine⟨fun b2=>?_,fun b2=>?_⟩<;>conv=>whnf
  ·exact⟨rfl,rfl⟩
  ·have h1:1≤id:=by simpa using b1
   have h2:id≤(D.runs.length:Int):=by simpa using b2
   exact absurd ⟨h1,h2⟩ hid
 ·exact⟨rfl,rfl⟩
theorem OkS.sm {w:PW} {V:List Int} (ok:OkS w V) (hc:w.code.length≤1000):w.Sm:=by
 refine⟨hc,by have:=ok.n6;omega,by have:=ok.q6;omega,fun d hd=>?_⟩
 obtain⟨i,hi,rfl⟩:=List.getElem_of_mem hd
 have hF:=ok.run i hi
 have h1:=nodup_len 6 _ hF.l2 fun x hx=>(hF.l1 x hx).1
 have h2:=nodup_len 6 _ hF.w2 fun x hx=>(hF.w1 x hx).1
 exact⟨by have:=hF.sl;omega,by have:=hF.mail;omega,by omega,by omega⟩
theorem OkS.why {w:PW} {V:List Int} (ok:OkS w V):∀d∈w.runs,okV (d.wk,d.wn)=true:=by
 intro d hd
 obtain⟨i,hi,rfl⟩:=List.getElem_of_mem hd
 have h:=(ok.fit i hi).ok
 unfold Eld.specRB at h
 rw [Bool.and_eq_true] at h
 exact h.2
def GiveR (w:PW) (id:Int) (v:Int×Int) (e:PW):Prop:=(GiveOk w v∧e=giveP w id v)∨(¬GiveOk w v∧e=WD.zero.pure)
theorem GiveR.one {w e f:PW} {id:Int} {v:Int×Int} (h:GiveR w id v e) (k:GiveR w id v f):e=f:=by
 rcases h with ⟨g,rfl⟩ | ⟨g,rfl⟩<;>rcases k with ⟨g',rfl⟩ | ⟨g',rfl⟩
 ·rfl
 ·exact absurd g g'
 ·exact absurd g' g
 ·rfl
theorem zero_sm:WD.zero.pure.Sm:=⟨by show (0:Nat)≤1000;omega,by show (0:Nat)≤1000;omega,by show (0:Nat)≤1000;omega,fun _ h=>absurd h List.not_mem_nil⟩
theorem GiveR.sm {w e:PW} {id:Int} {v:Int×Int} (h:GiveR w id v e) (hs:w.Sm):e.Sm:=by
 rcases h with ⟨g,rfl⟩ | ⟨_,rfl⟩
 ·obtain⟨_,V,_,ok⟩:=g.1
  exact(give_oks ok id g.2.1 g.2.2).sm (by rw [giveP_code];exact hs.code)
 ·exact zero_sm
theorem GiveR.why {w e:PW} {id:Int} {v:Int×Int} (h:GiveR w id v e):∀d∈e.runs,okV (d.wk,d.wn)=true:=by
 rcases h with ⟨g,rfl⟩ | ⟨_,rfl⟩
 ·obtain⟨_,V,_,ok⟩:=g.1
  exact(give_oks ok id g.2.1 g.2.2).why
 ·exact fun _ h=>absurd h List.not_mem_nil
theorem zero_own {h:Hp} {l:List Atom} (o:Own h l):Own h (wAtoms WD.zero++l):=by
 have h1:Own h (.row (rowO (.slice none 0 0) [])::l):=o.add ⟨rfl,.inl ⟨rfl,rfl⟩⟩ (fun g e=>by cases e) (fun _ _=>rfl)
 have h2:Own h (.row (rowI (.slice none 0 0) [])::.row (rowO (.slice none 0 0) [])::l):=h1.add ⟨rfl,.inl ⟨rfl,rfl⟩⟩ (fun g e=>by cases e) (fun _ _=>rfl)
 exact h2.add ⟨rfl,.inl ⟨rfl,rfl⟩⟩ (fun g e=>by cases e) (fun _ _=>rfl)
theorem iGive_con (D:WD) (hsm:D.pure.Sm) (hy:∀d∈D.pure.runs,okV (d.wk,d.wn)=true) (id:Int) (v:Int×Int) (h:Hp) (l:List Atom) (ho:Own h (wAtoms D++l)) :
  Con Tryz.prog 8 #[D.val,.int .i64 id,.agg #[.int .i64 v.1,.int .i64 v.2]] h fun r h'=>∃E:WD,r=E.val∧GiveR D.pure id v E.pure∧Own h' (wAtoms E++(wAtoms D++l)):=by
 refine(iWorldGive_con D hsm hy id v h l ho).mono ?_
 rintro r h' (⟨g,E,rfl,e,ho'⟩ | ⟨g,rfl,rfl⟩)
 ·exact⟨E,rfl,.inl ⟨g,e⟩,ho'⟩
 ·exact⟨WD.zero,rfl,.inr ⟨g,rfl⟩,zero_own ho⟩
theorem sGive_con (D:WD) (hsm:D.pure.Sm) (id:Int) (v:Int×Int) (h:Hp) (l:List Atom) (ho:Own h (wAtoms D++l)) :
  Con Tryz.prog 10 #[D.val,.int .i64 id,.agg #[.int .i64 v.1,.int .i64 v.2]] h fun r h'=>∃E:WD,r=E.val∧GiveR D.pure id v E.pure∧Own h' (wAtoms E++(wAtoms D++l)):=by
 refine(sWorldGive_con D hsm id v h l ho).mono ?_
 rintro r h' (⟨g,E,rfl,e,ho'⟩ | ⟨g,rfl,rfl⟩)
 ·exact⟨E,rfl,.inl ⟨g,e⟩,ho'⟩
 ·exact⟨WD.zero,rfl,.inr ⟨g,rfl⟩,zero_own ho⟩
theorem Own.turnL {h:Hp} {A B C:List Atom} (o:Own h (A++(B++C))):Own h (B++(A++C)):=o.perm (perm_of fun x=>by simp only [List.count_append];omega)
theorem Own.wL {h:Hp} {D:WD} {l:List Atom} (o:Own h (wAtoms D++l)):WIn h D:=o.win fun _ hx=>List.mem_append_left _ hx
theorem Own.dropL {h:Hp}:∀{A B:List Atom},Own h (A++B)→Own h B
 | [],_,o=>o
 | _::A,B,o=>Own.dropL (A:=A) (B:=B) o.tail
theorem cb_leT {cb:Option (Nat×Obj)} {h:Hp} {l:List Atom} (o:Own h (l++cbAtoms cb)):(cbHp cb).le h:=cb_le (l:=[]) (by rw [List.append_nil];exact o.dropL)
end Go.Proofs.YtllbeifcipefjaaGreatDoor
