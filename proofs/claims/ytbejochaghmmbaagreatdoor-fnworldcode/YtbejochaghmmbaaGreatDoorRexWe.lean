import Derived.Test.YtbejochaghmmbaaGreatDoorRexWd
import Derived.Test.YtbejochaghmmbaaGreatDoorQs
import Derived.Test.YtbejochaghmmbaaGreatDoorQr
namespace Go.Proofs.YtbejochaghmmbaaGreatDoor
open Go.RowKit
set_option maxRecDepth 100000
theorem iCodeSafe_con (a:Option Addr) (k:Nat) (L:List OpD) (hL:L.length≤1000000) (h:Hp) (o:RowOk h (rowO (.slice a L.length k) L)) :
  Con Tryz.prog 16 #[.slice a L.length k] h fun r h'=>(∃b,r=.bool b∧Eld.SafeOf (L.map OpD.toV) b)∧h'=h:=by
 refine Con.of_below (Tryz.call16 _) fun w hw=>?_
 have:=Eld.implCodeSafe_any (L.map OpD.toV) a k w (by simp;omega) (code_at o hw)
 rw [List.length_map] at this
 exact this.mono fun e w' ⟨b,he,hs,hb⟩=>⟨⟨_,he,b,rfl,hs⟩,hb⟩
theorem iFull_con (a:Option Addr) (k:Nat) (L:List OpD) (hL:L.length≤1000000) (h:Hp) (l:List Atom) (ho:Own h l) (hr:RowOk h (rowO (.slice a L.length k) L)) :
  Con Tryz.prog 28 #[.slice a L.length k] h fun r h'=>∃V a' k',r=.slice a' V.length k'∧Eld.FullOf (L.map OpD.toV) V∧h.le h'∧Own h' (.row (rowI (.slice a' V.length k') V)::l):=by
 refine⟨Tryz.call28 _,fun w hw=>?_⟩
 have:=Eld.implCodeFull_any (L.map OpD.toV) a k w (by simp;omega) (code_at hr hw)
 rw [List.length_map] at this
 refine this.mono fun e w' ⟨v,V,he,hF,hO,hb⟩=>?_
 obtain⟨a',k',h',hv,hle,hown,hi,hf⟩:=Own.addI hw ho hO hb
 exact⟨_,h',he,⟨V,a',k',hv,hF,hle,hown⟩,hi,hf⟩
structure WI (h:Hp) (D:WD):Prop where
 code:RowOk h (rowO D.cv D.code)
 runs:RowOk h (rowR D.rv D.runs)
 queue:∀w,InH h w→Eld.Ints w.heap.size w D.qv D.queue
 each:∀i (hi:i<D.runs.length),RunIn h D.runs[i].1 D.runs[i].2
theorem WI.le {h h':Hp} {D:WD} (o:WI h D) (hl:h.le h'):WI h' D:=⟨o.code.le hl,o.runs.le hl,fun w hw=>o.queue w (hw.mono hl),fun i hi=>(o.each i hi).le hl⟩
theorem WIn.wi {h:Hp} {D:WD} (o:WIn h D):WI h D:=⟨o.code,o.runs,fun _ hw=>ints_at o.queue hw,o.each⟩
theorem among_con (v:Value) (L:List Int) (n:Int) (hL:L.length≤1000000) (h:Hp) (hr:∀w,InH h w→Eld.Ints w.heap.size w v L) :
  Con Tryz.prog 81 #[v,.int .i64 n] h fun r h'=>r=.bool (amongP L n)∧h'=h:=by
 refine Con.of_below (Tryz.call81 _) fun w hw=>?_
 have e:Eld.hasI L n=amongP L n:=by
  rw [Bool.eq_iff_iff,among_mem]
  unfold Eld.hasI
  simp
 exact(Eld.contains_any w.heap.size L _ n w (by omega) (hr w hw)).mono fun e' w' ⟨he,hb⟩=>⟨⟨_,he,by rw [e]⟩,by rw [hb];exact Below.refl _ _⟩
theorem contains_con (a:Option Addr) (k:Nat) (L:List Int) (n:Int) (hL:L.length≤1000000) (h:Hp) (hr:RowOk h (rowI (.slice a L.length k) L)) :
  Con Tryz.prog 81 #[.slice a L.length k,.int .i64 n] h fun r h'=>r=.bool (amongP L n)∧h'=h :=
 among_con _ L n hL h fun _ hw=>ints_at hr hw
theorem runsOk_con (D:WD) (hsm:D.pure.Sm) (h:Hp) (hw:WI h D) :
  Con Tryz.prog 50 #[D.val] h fun r h'=>(∃b,r=.bool b∧(b=true↔RunsI D.pure))∧h'=h:=by
 have hn:D.runs.length≤1000:=by have:=hsm.runs;rw [pure_len] at this;exact this
 have hlenP:=pure_len D
 refine Con.of_W (tb:=tbE) (args:=[D.val]) Tryz.func50 rfl Tryz.results50 Tryz.ntmps50 (by simp) (Tryz.call50 _) (tm:=[(0,.a D.cells)]) rfl ?_
 refine vc_ok ⟨tbE_ok,_,Tryz.func50,Tryz.results50,Tryz.ntmps50⟩ 400 _ _ _ _ ?_
 conv=>whnf
 refine⟨fun b0=>?_,fun b0=>?_⟩<;>conv=>whnf
 ·refine⟨fun b1=>?_,fun b1=>?_⟩<;>conv=>whnf
  ·refine⟨⟨false,rfl,fun e=>(by cases e),fun f=>?_⟩,rfl⟩
   have:=f.n6
   simp at b1
   omega
  have hge1:1≤D.runs.length:=by simp at b0;omega
  have hle6:D.runs.length≤6:=by simp at b1;omega
  clear b0 b1
  obtain⟨g,hra⟩:=row_some hw.runs (by omega)
  have hr:RowOk h (rowR D.rv D.runs):=hw.runs
  have hv:D.rv=.slice (some ⟨g,0,none⟩) D.runs.length D.rk:=by rw [WD.rv,hra]
  refine W.cut [(18,.v (.int .i64 (0:Nat))),(17,.v (.int .i64 (D.runs.length:Nat))),(16,.v D.rv),(1,.p 0 0)] [⟨28,D.cells⟩] [] ⟨rfl,rfl,rfl,rfl,trivial⟩ rfl rfl ⟨_,rfl⟩ ?_
  refine W.loop (α:=Nat) (fun i=>[(18,.v (.int .i64 (i:Nat))),(17,.v (.int .i64 (D.runs.length:Nat))),(16,.v D.rv),(1,.p 0 0)]) (fun _=>[⟨28,D.cells⟩]) (fun i h'=>i≤D.runs.length∧(∀j (hj:j<D.pure.runs.length),j<i→Eld.runB D.pure.runs[j].toE=true∧D.pure.runs[j].id=(j:Int)+1∧D.pure.runs[j].pl<D.code.length)∧h'=h) (fun i=>D.runs.length-i) ?_ 0 h ⟨Nat.zero_le _,fun j _ hj=>absurd hj (Nat.not_lt_zero _),rfl⟩
  rintro i h5 ⟨hi,hfit,rfl⟩ ih
  refine vc_ok ⟨tbE_ok,_,Tryz.func50,Tryz.results50,Tryz.ntmps50⟩ 400 _ _ _ _ ?_
  conv=>whnf
  refine⟨fun h6=>?_,fun h6=>?_⟩<;>conv=>whnf
  ·have hlt:i<D.runs.length:=by simp at h6;omega
   have hltP:i<D.pure.runs.length:=by omega
   refine Ext.index slRun.u slRun.size rfl (by exact hv) rfl i rfl hlt ?_
   conv=>whnf
   refine Ext.loadRun rfl hr hv hlt rfl ?_
   conv=>whnf
   have hin:=hw.each i hlt
   have hS:=hsm.each _ (pure_mem hlt)
   have ed:=pure_get D i hlt hltP
   have hwk:IntKind.i64.wrap ((i:Int)+1)=(i:Int)+1:=by rw [wrapN _ (by omega) (by omega)]
   generalize hd:D.runs[i]=y at *
   obtain⟨d,p⟩:=y
   dsimp only at hS hin ed ⊢
   conv=>whnf
   refine(iRunOk_con d p hS.sh h5 hin).mono ?_
   rintro r h5 ⟨rfl,rfl⟩
   conv=>whnf
   refine⟨fun b1=>?_,fun b1=>?_⟩<;>conv=>whnf
   rotate_left
   ·exact⟨⟨false,rfl,fun e=>(by cases e),fun f=>absurd (f.run i hltP).1 (by rw [ed];simpa using b1)⟩,rfl⟩
   rw [hwk]
   conv=>whnf
   refine⟨fun b2=>?_,fun b2=>?_⟩<;>conv=>whnf
   rotate_left
   ·exact⟨⟨false,rfl,fun e=>(by cases e),fun f=>absurd (f.run i hltP).2.1 (by rw [ed];simpa using b2)⟩,rfl⟩
   refine⟨fun b3=>?_,fun b3=>?_⟩<;>conv=>whnf
   ·have b3':(D.code.length:Int)≤d.pl:=by simpa using b3
    exact⟨⟨false,rfl,fun e=>(by cases e),fun f=>absurd (f.run i hltP).2.2 (by rw [ed];exact Int.not_lt.2 b3')⟩,rfl⟩
   have hd3:d.pl<D.code.length:=by simpa using b3
   have hwk2:IntKind.i64.wrap ((i:Int)+1)=((i+1:Nat):Int):=by rw [wrapN _ (by omega) (by omega)];omega
   rw [hwk2]
   exact W.back (ih (i+1) _ ⟨hlt,fun j hj hji=>(by
    rcases (by omega:j<i∨j=i) with h8 | rfl
    ·exact hfit j hj h8
    ·rw [ed];exact⟨by simpa using b1,by simpa using b2,hd3⟩),rfl⟩ (by omega)) [_] (by exact⟨rfl,rfl,rfl,rfl,trivial⟩) rfl rfl
  ·have hge:i=D.runs.length:=by simp at h6;omega
   exact⟨⟨true,rfl,fun _=>⟨by omega,by omega,fun j hj=>hfit j hj (by omega)⟩,fun _=>rfl⟩,rfl⟩
 ·refine⟨⟨false,rfl,fun e=>(by cases e),fun f=>?_⟩,rfl⟩
  have:=f.n1
  simp at b0
  omega
theorem waits_con (D:WD) (hsm:D.pure.Sm) (h:Hp) (hw:WI h D) :
  Con Tryz.prog 56 #[D.val] h fun r h'=>r=.int .i64 (mailsP D.pure.runs:Nat)∧h'=h:=by
 have hn:D.runs.length≤1000:=by have:=hsm.runs;rw [pure_len] at this;exact this
 have hlenP:=pure_len D
 have hml:∀d∈D.pure.runs,d.mail.length≤1000:=fun d hd=>(hsm.each d hd).s1
 have hr:RowOk h (rowR D.rv D.runs):=hw.runs
 refine Con.of_W (tb:=tbE) (args:=[D.val]) Tryz.func56 rfl Tryz.results56 Tryz.ntmps56 (by simp) (Tryz.call56 _) (tm:=[(0,.a D.cells)]) rfl ?_
 refine vc_ok ⟨tbE_ok,_,Tryz.func56,Tryz.results56,Tryz.ntmps56⟩ 400 _ _ _ _ ?_
 conv=>whnf
 refine W.cut [(9,.v (.int .i64 (0:Nat))),(8,.v (.int .i64 (D.runs.length:Nat))),(7,.v D.rv),(3,.v (.int .i64 (mailsP (D.pure.runs.take 0):Nat)))] [⟨28,D.cells⟩] [] ⟨rfl,rfl,rfl,rfl,trivial⟩ rfl rfl ⟨_,rfl⟩ ?_
 refine W.loop (α:=Nat) (fun i=>[(9,.v (.int .i64 (i:Nat))),(8,.v (.int .i64 (D.runs.length:Nat))),(7,.v D.rv),(3,.v (.int .i64 (mailsP (D.pure.runs.take i):Nat)))]) (fun _=>[⟨28,D.cells⟩]) (fun i h'=>i≤D.runs.length∧h'=h) (fun i=>D.runs.length-i) ?_ 0 h ⟨Nat.zero_le _,rfl⟩
 rintro i h5 ⟨hi,rfl⟩ ih
 refine vc_ok ⟨tbE_ok,_,Tryz.func56,Tryz.results56,Tryz.ntmps56⟩ 400 _ _ _ _ ?_
 conv=>whnf
 refine⟨fun h6=>?_,fun h6=>?_⟩<;>conv=>whnf
 ·have hlt:i<D.runs.length:=by simp at h6;omega
  have hltP:i<D.pure.runs.length:=by omega
  obtain⟨g,hra⟩:=row_some hw.runs (by omega)
  have hv:D.rv=.slice (some ⟨g,0,none⟩) D.runs.length D.rk:=by rw [WD.rv,hra]
  refine Ext.index slRun.u slRun.size rfl (by exact hv) rfl i rfl hlt ?_
  conv=>whnf
  refine Ext.loadRun rfl hr hv hlt rfl ?_
  conv=>whnf
  have hm1:=mails_le hml i
  have hm2:=hml _ (List.getElem_mem hltP)
  have hm3:=mails_take D.pure.runs i hltP
  have hg:D.pure.runs[i].mail.length=D.runs[i].1.mail.length:=by rw [pure_get D i hlt hltP]
  have hwm:IntKind.i64.wrap ((mailsP (D.pure.runs.take i):Int)+(D.runs[i].1.mail.length:Int))=((mailsP (D.pure.runs.take (i+1)):Nat):Int):=by rw [wrapN _ (by omega) (by omega)];omega
  have hwk:IntKind.i64.wrap ((i:Int)+1)=((i+1:Nat):Int):=by rw [wrapN _ (by omega) (by omega)];omega
  rw [hwm,hwk]
  exact W.back (ih (i+1) _ ⟨hlt,rfl⟩ (by omega)) [_] (by exact⟨rfl,rfl,rfl,rfl,trivial⟩) rfl rfl
 ·have hge:i=D.runs.length:=by simp at h6;omega
  have hT:D.pure.runs.take i=D.pure.runs:=by rw [List.take_of_length_le (by omega)]
  rw [hT]
  exact⟨rfl,rfl⟩
theorem going_take (L:List RunD) (i:Nat) (hi:i<L.length):goingP (L.take (i+1))=goingP (L.take i)+if L[i].st=1 then 1 else 0:=by
 unfold goingP
 rw [List.take_succ_eq_append_getElem hi,List.filter_append,List.length_append]
 by_cases h:L[i].st=1<;>simp [h]
theorem going_le (L:List RunD):goingP L≤L.length:=List.length_filter_le _ _
theorem queueOk_con (D:WD) (hsm:D.pure.Sm) (h:Hp) (hw:WI h D) :
  Con Tryz.prog 51 #[D.val] h fun r h'=>(∃b,r=.bool b∧(b=true↔(∀i (hi:i<D.pure.runs.length),D.pure.runs[i].st=1→D.pure.runs[i].id∈D.queue)∧D.queue.length=goingP D.pure.runs))∧h'=h:=by
 have hn:D.runs.length≤1000:=by have:=hsm.runs;rw [pure_len] at this;exact this
 have hlenP:=pure_len D
 have hr:RowOk h (rowR D.rv D.runs):=hw.runs
 refine Con.of_W (tb:=tbE) (args:=[D.val]) Tryz.func51 rfl Tryz.results51 Tryz.ntmps51 (by simp) (Tryz.call51 _) (tm:=[(0,.a D.cells)]) rfl ?_
 refine vc_ok ⟨tbE_ok,_,Tryz.func51,Tryz.results51,Tryz.ntmps51⟩ 400 _ _ _ _ ?_
 conv=>whnf
 refine W.cut [(9,.v (.int .i64 (0:Nat))),(8,.v (.int .i64 (D.runs.length:Nat))),(7,.v D.rv),(3,.v (.int .i64 (goingP (D.pure.runs.take 0):Nat))),(1,.p 0 0)] [⟨28,D.cells⟩] [] ⟨rfl,rfl,rfl,rfl,rfl,trivial⟩ rfl rfl ⟨_,rfl⟩ ?_
 refine W.loop (α:=Nat) (fun i=>[(9,.v (.int .i64 (i:Nat))),(8,.v (.int .i64 (D.runs.length:Nat))),(7,.v D.rv),(3,.v (.int .i64 (goingP (D.pure.runs.take i):Nat))),(1,.p 0 0)]) (fun _=>[⟨28,D.cells⟩]) (fun i h'=>i≤D.runs.length∧(∀j (hj:j<D.pure.runs.length),j<i→D.pure.runs[j].st=1→D.pure.runs[j].id∈D.queue)∧h'=h) (fun i=>D.runs.length-i) ?_ 0 h ⟨Nat.zero_le _,fun j _ hj=>absurd hj (Nat.not_lt_zero _),rfl⟩
 rintro i h5 ⟨hi,hfit,rfl⟩ ih
 refine vc_ok ⟨tbE_ok,_,Tryz.func51,Tryz.results51,Tryz.ntmps51⟩ 400 _ _ _ _ ?_
 conv=>whnf
 refine⟨fun h6=>?_,fun h6=>?_⟩<;>conv=>whnf
 ·have hlt:i<D.runs.length:=by simp at h6;omega
  have hltP:i<D.pure.runs.length:=by omega
  obtain⟨g,hra⟩:=row_some hw.runs (by omega)
  have hv:D.rv=.slice (some ⟨g,0,none⟩) D.runs.length D.rk:=by rw [WD.rv,hra]
  refine Ext.index slRun.u slRun.size rfl (by exact hv) rfl i rfl hlt ?_
  conv=>whnf
  refine Ext.loadRun rfl hr hv hlt rfl ?_
  conv=>whnf
  have ed:=pure_get D i hlt hltP
  have hwk:IntKind.i64.wrap ((i:Int)+1)=((i+1:Nat):Int):=by rw [wrapN _ (by omega) (by omega)];omega
  have hgt:=going_take D.pure.runs i hltP
  have hgl:=going_le (D.pure.runs.take i)
  have hgl2:(D.pure.runs.take i).length≤i:=by rw [List.length_take];omega
  refine⟨fun b1=>?_,fun b1=>?_⟩<;>conv=>whnf
  ·have hne:¬D.pure.runs[i].st=1:=by rw [ed];simpa using b1
   rw [hwk]
   rw [if_neg hne] at hgt
   have hT:goingP (D.pure.runs.take i)=goingP (D.pure.runs.take (i+1)):=by omega
   rw [hT]
   exact W.back (ih (i+1) _ ⟨hlt,fun j hj hji=>(by
    rcases (by omega:j<i∨j=i) with h8 | rfl
    ·exact hfit j hj h8
    ·exact fun e=>absurd e hne),rfl⟩ (by omega)) [_] (by exact⟨rfl,rfl,rfl,rfl,rfl,trivial⟩) rfl rfl
  have hst:D.pure.runs[i].st=1:=by rw [ed];simpa using b1
  refine(among_con D.qv D.queue D.runs[i].1.id (by have:=hsm.queue;show D.queue.length≤_;exact Nat.le_trans this (by decide)) h5 hw.queue).mono ?_
  rintro r h5 ⟨rfl,rfl⟩
  conv=>whnf
  refine⟨fun b2=>?_,fun b2=>?_⟩<;>conv=>whnf
  ·refine⟨⟨false,rfl,fun e=>(by cases e),fun f=>?_⟩,rfl⟩
   have:=among_mem.2 (f.1 i hltP hst)
   rw [ed] at this
   rw [this] at b2
   cases b2
  have hin:D.pure.runs[i].id∈D.queue:=by rw [←among_mem,ed];simpa using b2
  rw [if_pos hst] at hgt
  have hwg:IntKind.i64.wrap ((goingP (D.pure.runs.take i):Int)+1)=((goingP (D.pure.runs.take (i+1)):Nat):Int):=by rw [wrapN _ (by omega) (by omega)];omega
  rw [hwg,hwk]
  exact W.back (ih (i+1) _ ⟨hlt,fun j hj hji=>(by
   rcases (by omega:j<i∨j=i) with h8 | rfl
   ·exact hfit j hj h8
   ·exact fun _=>hin),rfl⟩ (by omega)) [_] (by exact⟨rfl,rfl,rfl,rfl,rfl,trivial⟩) rfl rfl
 ·have hge:i=D.runs.length:=by simp at h6;omega
  have hT:D.pure.runs.take i=D.pure.runs:=by rw [List.take_of_length_le (by omega)]
  rw [hT]
  refine⟨⟨_,rfl,fun e=>⟨fun j hj=>hfit j hj (by omega),?_⟩,fun f=>?_⟩,rfl⟩
  ·simp at e;omega
  ·rw [f.2];simp
end Go.Proofs.YtbejochaghmmbaaGreatDoor
