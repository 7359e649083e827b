import Derived.Test.YtbejochaghmmbaaGreatDoorRexWh
namespace Go.Proofs.YtbejochaghmmbaaGreatDoor
open Go.RowKit
set_option maxRecDepth 100000
def waitsR (w:PW) (n:Int):Prop:=(WOk w∧n=(mailsP w.runs:Int))∨(¬WOk w∧n = -1)
theorem waitsR.one {w:PW} {n m:Int} (h:waitsR w n) (k:waitsR w m):n=m:=by
 rcases h with ⟨a,b⟩ | ⟨a,b⟩<;>rcases k with ⟨c,d⟩ | ⟨c,d⟩
 ·rw [b,d]
 ·exact absurd a c
 ·exact absurd c a
 ·rw [b,d]
theorem iWorldWaits_con (D:WD) (hsm:D.pure.Sm) (hy:∀d∈D.pure.runs,okV (d.wk,d.wn)=true) (h:Hp) (hw:WIn h D) :
  Con Tryz.prog 21 #[D.val] h fun r h'=>(∃n,r=.int .i64 n∧waitsR D.pure n)∧h'=h:=by
 refine Con.of_W (tb:=tbE) (args:=[D.val]) Tryz.func21 rfl Tryz.results21 Tryz.ntmps21 (by simp) (Tryz.call21 _) (tm:=[(0,.a D.cells)]) rfl ?_
 refine vc_ok ⟨tbE_ok,_,Tryz.func21,Tryz.results21,Tryz.ntmps21⟩ 400 _ _ _ _ ?_
 conv=>whnf
 refine(iWorldOk_con D hsm hy h hw.wi).mono ?_
 rintro r h1 ⟨⟨b,rfl,hb⟩,rfl⟩
 conv=>whnf
 refine⟨fun b0=>?_,fun b0=>?_⟩<;>conv=>whnf
 ·have hb0:b=false:=by simpa using b0
  exact⟨⟨-1,rfl,.inr ⟨fun hk=>(by rw [hb.2 hk] at hb0;cases hb0),rfl⟩⟩,rfl⟩
 ·have hb0:b=true:=by simpa using b0
  refine(waits_con D hsm h1 hw.wi).mono ?_
  rintro r h1 ⟨rfl,rfl⟩
  conv=>whnf
  exact⟨⟨_,rfl,.inl ⟨hb.1 hb0,rfl⟩⟩,rfl⟩
theorem sWorldWaits_con (D:WD) (hsm:D.pure.Sm) (h:Hp) (hw:WIn h D) :
  Con Tryz.prog 22 #[D.val] h fun r h'=>(∃n,r=.int .i64 n∧waitsR D.pure n)∧h'=h:=by
 have hn:D.runs.length≤1000:=by have:=hsm.runs;rw [pure_len] at this;exact this
 have hlenP:=pure_len D
 have hml:∀d∈D.pure.runs,d.mail.length≤1000:=fun d hd=>(hsm.each d hd).s1
 refine Con.of_W (tb:=tbE) (args:=[D.val]) Tryz.func22 rfl Tryz.results22 Tryz.ntmps22 (by simp) (Tryz.call22 _) (tm:=[(0,.a D.cells)]) rfl ?_
 refine vc_ok ⟨tbE_ok,_,Tryz.func22,Tryz.results22,Tryz.ntmps22⟩ 400 _ _ _ _ ?_
 conv=>whnf
 refine(sWorldOk_con D hsm h hw).mono ?_
 rintro r h1 ⟨⟨b,rfl,hb⟩,rfl⟩
 have hr:RowOk h1 (rowR D.rv D.runs):=hw.runs
 conv=>whnf
 refine⟨fun b0=>?_,fun b0=>?_⟩<;>conv=>whnf
 ·have hb0:b=false:=by simpa using b0
  exact⟨⟨-1,rfl,.inr ⟨fun hk=>(by rw [hb.2 hk] at hb0;cases hb0),rfl⟩⟩,rfl⟩
 have hb0:b=true:=by simpa using b0
 have hok:=hb.1 hb0
 clear b0
 refine W.cut [(4,.v (.int .i64 (0:Nat))),(3,.v (.int .i64 (mailsP (D.pure.runs.take 0):Nat))),(1,.p 0 0)] [⟨28,D.cells⟩] [] ⟨rfl,rfl,rfl,trivial⟩ rfl rfl ⟨_,rfl⟩ ?_
 refine W.loop (α:=Nat) (fun i=>[(4,.v (.int .i64 (i:Nat))),(3,.v (.int .i64 (mailsP (D.pure.runs.take i):Nat))),(1,.p 0 0)]) (fun _=>[⟨28,D.cells⟩]) (fun i h'=>i≤D.runs.length∧h'=h1) (fun i=>D.runs.length-i) ?_ 0 h1 ⟨Nat.zero_le _,rfl⟩
 rintro i h5 ⟨hi,rfl⟩ ih
 refine vc_ok ⟨tbE_ok,_,Tryz.func22,Tryz.results22,Tryz.ntmps22⟩ 400 _ _ _ _ ?_
 conv=>whnf
 refine⟨fun h6=>?_,fun h6=>?_⟩<;>conv=>whnf
 ·have hlt:i<D.runs.length:=by simp at h6;omega
  have hltP:i<D.pure.runs.length:=by omega
  obtain⟨g,hra⟩:=row_some hw.runs (by omega)
  have hv:D.rv=.slice (some ⟨g,0,none⟩) D.runs.length D.rk:=by rw [WD.rv,hra]
  refine Ext.index slRun.u slRun.size rfl (by exact hv) rfl i rfl hlt ?_
  conv=>whnf
  refine Ext.loadRunCell (D:=D) rfl ⟨rfl,rfl⟩ rfl hr hv hlt 4 (by decide) rfl (.slice D.runs[i].2.a1 D.runs[i].1.mail.length D.runs[i].2.k1) rfl ?_
  conv=>whnf
  have hm1:=mails_le hml i
  have hm2:=hml _ (List.getElem_mem hltP)
  have hm3:=mails_take D.pure.runs i hltP
  have hg:D.pure.runs[i].mail.length=D.runs[i].1.mail.length:=by rw [pure_get D i hlt hltP]
  have hwm:IntKind.i64.wrap ((mailsP (D.pure.runs.take i):Int)+(D.runs[i].1.mail.length:Int))=((mailsP (D.pure.runs.take (i+1)):Nat):Int):=by rw [wrapN _ (by omega) (by omega)];omega
  have hwk:IntKind.i64.wrap ((i:Int)+1)=((i+1:Nat):Int):=by rw [wrapN _ (by omega) (by omega)];omega
  rw [hwm,hwk]
  exact W.back (ih (i+1) _ ⟨hlt,rfl⟩ (by omega)) [] (by exact⟨rfl,rfl,rfl,trivial⟩) rfl rfl
 ·have hge:i=D.runs.length:=by simp at h6;omega
  have hT:D.pure.runs.take i=D.pure.runs:=by rw [List.take_of_length_le (by omega)]
  rw [hT]
  exact⟨⟨_,rfl,.inl ⟨hok,rfl⟩⟩,rfl⟩
def aliveP (L:List RunD):Nat→List Int
 | 0=>[]
 | n+1=>match L[n]? with
  | some d=>if d.st=3 then aliveP L n else aliveP L n++[(n:Int)+1]
  | none=>aliveP L n
theorem aliveP_step (L:List RunD) (n:Nat) (hn:n<L.length):aliveP L (n+1)=if L[n].st=3 then aliveP L n else aliveP L n++[(n:Int)+1]:=by
 show (match L[n]? with
  | some d=>if d.st=3 then aliveP L n else aliveP L n++[(n:Int)+1]
  | none=>aliveP L n)=_
 rw [List.getElem?_eq_getElem hn]
theorem aliveP_len (L:List RunD):∀n,(aliveP L n).length≤n
 | 0=>Nat.le_refl _
 | n+1=>by
  have:=aliveP_len L n
  by_cases hn:n<L.length
  ·rw [aliveP_step L n hn]
   split
   ·omega
   ·rw [List.length_append];simp;omega
  ·show (match L[n]? with
    | some d=>if d.st=3 then aliveP L n else aliveP L n++[(n:Int)+1]
    | none=>aliveP L n).length≤_
   rw [List.getElem?_eq_none (by omega)]
   show (aliveP L n).length≤_
   omega
theorem aliveP_pre (L:List RunD) (i:Nat):∀n,i≤n→n≤L.length→∃t,aliveP L n=aliveP L i++t
 | 0,h,_=>⟨[],by rw [show i=0 by omega,List.append_nil]⟩
 | n+1,h,hl=>by
  by_cases e:i=n+1
  ·exact⟨[],by rw [e,List.append_nil]⟩
  ·obtain⟨t,ht⟩:=aliveP_pre L i n (by omega) (by omega)
   rw [aliveP_step L n (by omega)]
   split
   ·exact⟨t,ht⟩
   ·exact⟨t++[(n:Int)+1],by rw [ht,List.append_assoc]⟩
def aliveR (w:PW) (L:List Int):Prop:=(WOk w∧L=aliveP w.runs w.runs.length)∨(¬WOk w∧L=[])
theorem aliveR.one {w:PW} {n m:List Int} (h:aliveR w n) (k:aliveR w m):n=m:=by
 rcases h with ⟨a,b⟩ | ⟨a,b⟩<;>rcases k with ⟨c,d⟩ | ⟨c,d⟩
 ·rw [b,d]
 ·exact absurd a c
 ·exact absurd c a
 ·rw [b,d]
theorem Own.nilI {h:Hp} {l:List Atom} (o:Own h l):Own h (.row (rowI (.slice none 0 0) [])::l):=o.add ⟨rfl,.inl ⟨rfl,rfl⟩⟩ (fun g e=>by cases e) (fun _ _=>rfl)
theorem iWorldAlive_con (D:WD) (hsm:D.pure.Sm) (hy:∀d∈D.pure.runs,okV (d.wk,d.wn)=true) (h:Hp) (l:List Atom) (ho:Own h (wAtoms D++l)) :
  Con Tryz.prog 33 #[D.val] h fun r h'=>∃L a k,r=.slice a L.length k∧aliveR D.pure L∧Own h' (.row (rowI (.slice a L.length k) L)::(wAtoms D++l)):=by
 have hn:D.runs.length≤1000:=by have:=hsm.runs;rw [pure_len] at this;exact this
 have hlenP:=pure_len D
 have hwin:∀{h':Hp} {x:Atom},Own h' (x::(wAtoms D++l))→WIn h' D:=fun o=>o.win fun x hx=>List.mem_cons_of_mem _ (List.mem_append_left _ hx)
 have hw:WIn h D:=ho.win fun x hx=>List.mem_append_left _ hx
 refine Con.of_W (tb:=tbE) (args:=[D.val]) Tryz.func33 rfl Tryz.results33 Tryz.ntmps33 (by simp) (Tryz.call33 _) (tm:=[(0,.a D.cells)]) rfl ?_
 refine vc_ok ⟨tbE_ok,_,Tryz.func33,Tryz.results33,Tryz.ntmps33⟩ 400 _ _ _ _ ?_
 conv=>whnf
 refine(iWorldOk_con D hsm hy h hw.wi).mono ?_
 rintro r h1 ⟨⟨b,rfl,hb⟩,rfl⟩
 conv=>whnf
 refine⟨fun b0=>?_,fun b0=>?_⟩<;>conv=>whnf
 ·have hb0:b=false:=by simpa using b0
  exact⟨[],none,0,rfl,.inr ⟨fun hk=>(by rw [hb.2 hk] at hb0;cases hb0),rfl⟩,ho.nilI⟩
 have hb0:b=true:=by simpa using b0
 have hok:=hb.1 hb0
 have hid:∀i (hi:i<D.runs.length),D.runs[i].1.id=(i:Int)+1:=fun i hi=>by
  obtain⟨_,V,_,f⟩:=hok
  have:=(f.fit i (by omega)).id
  rw [pure_get D i hi (by omega)] at this
  exact this
 clear b0 hw
 refine W.cut [(12,.v (.int .i64 (0:Nat))),(11,.v (.int .i64 (D.runs.length:Nat))),(10,.v D.rv),(3,.v (.slice none 0 0))] [⟨28,D.cells⟩] [] ⟨rfl,rfl,rfl,rfl,trivial⟩ rfl rfl ⟨_,rfl⟩ ?_
 refine W.loop (α:=Nat×List Int×Option Addr×Nat) (fun x=>[(12,.v (.int .i64 (x.1:Nat))),(11,.v (.int .i64 (D.runs.length:Nat))),(10,.v D.rv),(3,.v (.slice x.2.2.1 x.2.1.length x.2.2.2))]) (fun _=>[⟨28,D.cells⟩]) (fun x h'=>x.1≤D.runs.length∧x.2.1=aliveP D.pure.runs x.1∧Own h' (.row (rowI (.slice x.2.2.1 x.2.1.length x.2.2.2) x.2.1)::(wAtoms D++l))) (fun x=>D.runs.length-x.1) ?_ (0,[],none,0) h1 ⟨Nat.zero_le _,rfl,ho.nilI⟩
 rintro⟨i,out,oa,ok⟩ h5 ⟨hi,hout,ho5⟩ ih
 dsimp only at hi hout ho5 ⊢
 have hw:=hwin ho5
 have hr:RowOk h5 (rowR D.rv D.runs):=hw.runs
 refine vc_ok ⟨tbE_ok,_,Tryz.func33,Tryz.results33,Tryz.ntmps33⟩ 400 _ _ _ _ ?_
 conv=>whnf
 refine⟨fun h6=>?_,fun h6=>?_⟩<;>conv=>whnf
 ·have hlt:i<D.runs.length:=by simp at h6;omega
  have hltP:i<D.pure.runs.length:=by omega
  obtain⟨g,hra⟩:=row_some hw.runs (by omega)
  have hv:D.rv=.slice (some ⟨g,0,none⟩) D.runs.length D.rk:=by rw [WD.rv,hra]
  refine Ext.index slRun.u slRun.size rfl (by exact hv) rfl i rfl hlt ?_
  conv=>whnf
  refine Ext.loadRun rfl hr hv hlt rfl ?_
  conv=>whnf
  have ed:=pure_get D i hlt hltP
  have hwi:IntKind.i64.wrap ((i:Int)+1)=((i+1:Nat):Int):=by rw [wrapN _ (by omega) (by omega)];omega
  have hst:=aliveP_step D.pure.runs i hltP
  rw [ed] at hst
  have hol:out.length≤i:=by rw [hout];exact aliveP_len _ _
  refine⟨fun b1=>?_,fun b1=>?_⟩<;>conv=>whnf
  ·have hne:D.runs[i].1.st≠3:=by simpa using b1
   rw [if_neg hne] at hst
   refine Ext.litI rfl ho5 D.runs[i].1.id rfl fun g7 h7 _ ho7=>?_
   conv=>whnf
   refine Ext.pushI rfl ho7 rfl rfl (by omega) fun a8 k8 h8 ho8=>?_
   conv=>whnf
   rw [hwi]
   exact W.back (ih (i+1,out++[D.runs[i].1.id],a8,k8) h8 ⟨hlt,by dsimp only;rw [hst,hid i hlt,hout],ho8⟩ (by dsimp only;omega)) [_] (by exact⟨rfl,rfl,rfl,rfl,trivial⟩) rfl rfl
  ·have h3:D.runs[i].1.st=3:=by simpa using b1
   rw [if_pos h3] at hst
   rw [hwi]
   exact W.back (ih (i+1,out,oa,ok) h5 ⟨hlt,by dsimp only;rw [hst,hout],ho5⟩ (by dsimp only;omega)) [_] (by exact⟨rfl,rfl,rfl,rfl,trivial⟩) rfl rfl
 ·have hge:i=D.runs.length:=by simp at h6;omega
  exact⟨out,oa,ok,rfl,.inl ⟨hok,by rw [hout,hge,hlenP]⟩,ho5⟩
theorem sWorldAlive_con (D:WD) (hsm:D.pure.Sm) (h:Hp) (l:List Atom) (ho:Own h (wAtoms D++l)) :
  Con Tryz.prog 34 #[D.val] h fun r h'=>∃L a k,r=.slice a L.length k∧aliveR D.pure L∧Own h' (.row (rowI (.slice a L.length k) L)::(wAtoms D++l)):=by
 have hn:D.runs.length≤1000:=by have:=hsm.runs;rw [pure_len] at this;exact this
 have hlenP:=pure_len D
 have hwin:∀{h':Hp} {x:Atom},Own h' (x::(wAtoms D++l))→WIn h' D:=fun o=>o.win fun x hx=>List.mem_cons_of_mem _ (List.mem_append_left _ hx)
 refine Con.of_W (tb:=tbE) (args:=[D.val]) Tryz.func34 rfl Tryz.results34 Tryz.ntmps34 (by simp) (Tryz.call34 _) (tm:=[(0,.a D.cells)]) rfl ?_
 refine vc_ok ⟨tbE_ok,_,Tryz.func34,Tryz.results34,Tryz.ntmps34⟩ 400 _ _ _ _ ?_
 conv=>whnf
 refine Ext.buildSlice slInt rfl ho [] (fun w=>⟨_,Tryz.zeroValue3 w,by kernel_rfl⟩) [] rfl rfl (by decide) fun g0 h0 _ ho0=>?_
 conv=>whnf
 refine(sWorldOk_con D hsm h0 (hwin ho0)).mono ?_
 rintro r h1 ⟨⟨b,rfl,hb⟩,rfl⟩
 conv=>whnf
 refine⟨fun b0=>?_,fun b0=>?_⟩<;>conv=>whnf
 ·have hb0:b=false:=by simpa using b0
  exact⟨[],_,0,rfl,.inr ⟨fun hk=>(by rw [hb.2 hk] at hb0;cases hb0),rfl⟩,ho0⟩
 have hb0:b=true:=by simpa using b0
 have hok:=hb.1 hb0
 clear b0
 refine W.cut [(4,.v (.int .i64 (0:Nat))),(3,.v (.slice (some ⟨g0,0,none⟩) 0 0)),(1,.p 0 0)] [⟨28,D.cells⟩] [] ⟨rfl,rfl,rfl,trivial⟩ rfl rfl ⟨_,rfl⟩ ?_
 refine W.loop (α:=Nat×List Int×Option Addr×Nat) (fun x=>[(4,.v (.int .i64 (x.1:Nat))),(3,.v (.slice x.2.2.1 x.2.1.length x.2.2.2)),(1,.p 0 0)]) (fun _=>[⟨28,D.cells⟩]) (fun x h'=>x.1≤D.runs.length∧x.2.1=aliveP D.pure.runs x.1∧Own h' (.row (rowI (.slice x.2.2.1 x.2.1.length x.2.2.2) x.2.1)::(wAtoms D++l))) (fun x=>D.runs.length-x.1) ?_ (0,[],some ⟨g0,0,none⟩,0) h1 ⟨Nat.zero_le _,rfl,ho0⟩
 rintro⟨i,out,oa,ok⟩ h5 ⟨hi,hout,ho5⟩ ih
 dsimp only at hi hout ho5 ⊢
 have hw:=hwin ho5
 have hr:RowOk h5 (rowR D.rv D.runs):=hw.runs
 refine vc_ok ⟨tbE_ok,_,Tryz.func34,Tryz.results34,Tryz.ntmps34⟩ 400 _ _ _ _ ?_
 conv=>whnf
 refine⟨fun h6=>?_,fun h6=>?_⟩<;>conv=>whnf
 ·have hlt:i<D.runs.length:=by simp at h6;omega
  have hltP:i<D.pure.runs.length:=by omega
  obtain⟨g,hra⟩:=row_some hw.runs (by omega)
  have hv:D.rv=.slice (some ⟨g,0,none⟩) D.runs.length D.rk:=by rw [WD.rv,hra]
  refine Ext.index slRun.u slRun.size rfl (by exact hv) rfl i rfl hlt ?_
  conv=>whnf
  refine Ext.loadRunCell (D:=D) rfl ⟨rfl,rfl⟩ rfl hr hv hlt 5 (by decide) rfl (.int .i64 D.runs[i].1.st) rfl ?_
  conv=>whnf
  have ed:=pure_get D i hlt hltP
  have hwi:IntKind.i64.wrap ((i:Int)+1)=((i+1:Nat):Int):=by rw [wrapN _ (by omega) (by omega)];omega
  have hst:=aliveP_step D.pure.runs i hltP
  rw [ed] at hst
  have hol:out.length≤i:=by rw [hout];exact aliveP_len _ _
  refine⟨fun b1=>?_,fun b1=>?_⟩<;>conv=>whnf
  ·have hne:D.runs[i].1.st≠3:=by simpa using b1
   rw [if_neg hne] at hst
   rw [hwi]
   refine Ext.litI rfl ho5 ((i+1:Nat):Int) rfl fun g7 h7 _ ho7=>?_
   conv=>whnf
   refine Ext.pushI rfl ho7 rfl rfl (by omega) fun a8 k8 h8 ho8=>?_
   conv=>whnf
   rw [hwi]
   exact W.back (ih (i+1,out++[((i+1:Nat):Int)],a8,k8) h8 ⟨hlt,by dsimp only;rw [hst,hout];congr 1,ho8⟩ (by dsimp only;omega)) [] (by exact⟨rfl,rfl,rfl,trivial⟩) rfl rfl
  ·have h3:D.runs[i].1.st=3:=by simpa using b1
   rw [if_pos h3] at hst
   rw [hwi]
   exact W.back (ih (i+1,out,oa,ok) h5 ⟨hlt,by dsimp only;rw [hst,hout],ho5⟩ (by dsimp only;omega)) [] (by exact⟨rfl,rfl,rfl,trivial⟩) rfl rfl
 ·have hge:i=D.runs.length:=by simp at h6;omega
  exact⟨out,oa,ok,rfl,.inl ⟨hok,by rw [hout,hge,hlenP]⟩,ho5⟩
theorem lvInts_con (a1 a2:Option Addr) (k1 k2:Nat) (L M:List Int) (hL:L.length<100000) (h:Hp) (h1:RowOk h (rowI (.slice a1 L.length k1) L)) (h2:RowOk h (rowI (.slice a2 M.length k2) M)) :
  Con Tryz.prog 18 #[.slice a1 L.length k1,.slice a2 M.length k2] h fun r h'=>r=.bool (decide (L=M))∧h'=h:=by
 refine Con.of_W (tb:=tbE) (args:=[.slice a1 L.length k1,.slice a2 M.length k2]) Tryz.func18 rfl Tryz.results18 Tryz.ntmps18 (by simp) (Tryz.call18 _) (tm:=[(0,.v (.slice a1 L.length k1)),(1,.v (.slice a2 M.length k2))]) rfl ?_
 refine vc_ok ⟨tbE_ok,_,Tryz.func18,Tryz.results18,Tryz.ntmps18⟩ 400 _ _ _ _ ?_
 conv=>whnf
 refine⟨fun b1=>?_,fun b1=>?_⟩<;>conv=>whnf
 ·have hne:L≠M:=fun e=>by rw [e] at b1;simp at b1
  exact⟨by rw [decide_eq_false hne];rfl,rfl⟩
 have hlen:L.length=M.length:=by(have:(L.length:Int)=(M.length:Int):=by simpa using b1);omega
 refine W.cut [(5,.v (.int .i64 (0:Nat))),(0,.v (.slice a1 L.length k1)),(1,.v (.slice a2 M.length k2))] [] [] ⟨rfl,rfl,rfl,trivial⟩ rfl rfl ⟨_,rfl⟩ ?_
 refine W.loop (α:=Nat) (fun i=>[(5,.v (.int .i64 (i:Nat))),(0,.v (.slice a1 L.length k1)),(1,.v (.slice a2 M.length k2))]) (fun _=>[]) (fun i h'=>i≤L.length∧(∀j (hj:j<L.length),j<i→L[j]=M[j]'(by omega))∧h'=h) (fun i=>L.length-i) ?_ 0 h ⟨Nat.zero_le _,fun j _ hj=>absurd hj (Nat.not_lt_zero _),rfl⟩
 rintro i h5 ⟨hi,hfit,rfl⟩ ih
 refine vc_ok ⟨tbE_ok,_,Tryz.func18,Tryz.results18,Tryz.ntmps18⟩ 400 _ _ _ _ ?_
 conv=>whnf
 refine⟨fun h6=>?_,fun h6=>?_⟩<;>conv=>whnf
 ·have hlt:i<L.length:=by simp at h6;omega
  have hltM:i<M.length:=by omega
  obtain⟨g1,hva⟩:=row_some h1 (by omega)
  obtain⟨g2,hvb⟩:=row_some h2 (by omega)
  subst hva
  subst hvb
  refine W.draw [(0,true),(1,true),(2,true),(3,true),(4,true),(5,true),(6,true),(7,true),(8,true)] [] (some h5) 99 (by kernel_rfl) rfl (by kernel_rfl) mixed rfl (fun g e=>by cases e;exact Hp.le_refl _) ?_
  refine vc_ok ⟨tbE_ok,_,Tryz.func18,Tryz.results18,Tryz.ntmps18⟩ 400 _ _ _ _ ?_
  conv=>whnf
  refine Rd.index slInt.u slInt.size rfl rfl rfl i rfl hlt ?_
  conv=>whnf
  refine Rd.loadInt rfl h1 rfl hlt rfl ?_
  conv=>whnf
  refine Rd.index slInt.u slInt.size rfl rfl rfl i rfl hltM ?_
  conv=>whnf
  refine Rd.loadInt rfl h2 rfl hltM rfl ?_
  conv=>whnf
  refine⟨fun b2=>?_,fun b2=>?_⟩<;>conv=>whnf
  ·have hne:L≠M:=fun e=>by
    subst e
    simp at b2
   exact⟨by rw [decide_eq_false hne];rfl,rfl⟩
  have he:L[i]=M[i]:=by simpa using b2
  have hwi:IntKind.i64.wrap ((i:Int)+1)=((i+1:Nat):Int):=by rw [wrapN _ (by omega) (by omega)];omega
  rw [hwi]
  exact W.back (ih (i+1) _ ⟨hlt,fun j hj hji=>(by
   rcases (by omega:j<i∨j=i) with h8 | rfl
   ·exact hfit j hj h8
   ·exact he),rfl⟩ (by omega)) [] (by exact⟨rfl,rfl,rfl,trivial⟩) rfl rfl
 ·have he:L=M:=List.ext_getElem hlen fun j hj _=>hfit j hj (by simp at h6;omega)
  exact⟨by rw [decide_eq_true he];rfl,rfl⟩
end Go.Proofs.YtbejochaghmmbaaGreatDoor
