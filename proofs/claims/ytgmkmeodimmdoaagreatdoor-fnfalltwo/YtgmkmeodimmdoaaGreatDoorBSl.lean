import Derived.Test.YtgmkmeodimmdoaaGreatDoorBSk
import Derived.Test.YtgmkmeodimmdoaaGreatDoorBQs
namespace Go.Proofs.YtgmkmeodimmdoaaGreatDoor
open Go.RowKit
set_option maxRecDepth 100000
theorem iCodeSafe_con (a:Option Addr) (k:Nat) (L:List OpD) (hL:L.length≤1000000) (h:Hp) (o:RowOk h (rowO (.slice a L.length k) L)) :
  Con Tryz.prog 57 #[.slice a L.length k] h fun r h'=>(∃b,r=.bool b∧Eld.SafeOf (L.map OpD.toV) b)∧h'=h:=by
 refine Con.of_below (Tryz.call57 _) fun w hw=>?_
 have:=Eld.implCodeSafe_any (L.map OpD.toV) a k w (by simp;omega) (code_at o hw);rw [List.length_map] at this;exact this.mono fun e w' ⟨b,he,hs,hb⟩=>⟨⟨_,he,b,rfl,hs⟩,hb⟩
theorem iFull_con (a:Option Addr) (k:Nat) (L:List OpD) (hL:L.length≤1000000) (h:Hp) (l:List Atom) (ho:Own h l) (hr:RowOk h (rowO (.slice a L.length k) L)) :
  Con Tryz.prog 89 #[.slice a L.length k] h fun r h'=>∃V a' k',r=.slice a' V.length k'∧Eld.FullOf (L.map OpD.toV) V∧h.le h'∧Own h' (.row (rowI (.slice a' V.length k') V)::l):=by
 refine⟨Tryz.call89 _,fun w hw=>?_⟩;have:=Eld.implCodeFull_any (L.map OpD.toV) a k w (by simp;omega) (code_at hr hw);rw [List.length_map] at this;refine this.mono fun e w' ⟨v,V,he,hF,hO,hb⟩=>?_
 obtain⟨a',k',h',hv,hle,hown,hi,hf⟩:=Own.addI hw ho hO hb;exact⟨_,h',he,⟨V,a',k',hv,hF,hle,hown⟩,hi,hf⟩
structure WI (h:Hp) (D:WD):Prop where
 code:RowOk h (rowO D.cv D.code)
 runs:RowOk h (rowR D.rv D.runs)
 queue:∀w,InH h w→Eld.Ints w.heap.size w D.qv D.queue
 each:∀i (hi:i<D.runs.length),RunIn h D.runs[i].1 D.runs[i].2
theorem WI.le {h h':Hp} {D:WD} (o:WI h D) (hl:h.le h'):WI h' D:=⟨o.code.le hl,o.runs.le hl,fun w hw=>o.queue w (hw.mono hl),fun i hi=>(o.each i hi).le hl⟩
theorem WIn.wi {h:Hp} {D:WD} (o:WIn h D):WI h D:=⟨o.code,o.runs,fun _ hw=>ints_at o.queue hw,o.each⟩
theorem among_con (v:Value) (L:List Int) (n:Int) (hL:L.length≤1000000) (h:Hp) (hr:∀w,InH h w→Eld.Ints w.heap.size w v L) :
  Con Tryz.prog 55 #[v,.int .i64 n] h fun r h'=>r=.bool (amongP L n)∧h'=h:=by
 refine Con.of_below (Tryz.call55 _) fun w hw=>?_
 have e:Eld.hasI L n=amongP L n:=by
  rw [Bool.eq_iff_iff,among_mem];unfold Eld.hasI;simp
 exact(Eld.contains_any w.heap.size L _ n w (by omega) (hr w hw)).mono fun e' w' ⟨he,hb⟩=>⟨⟨_,he,by rw [e]⟩,by rw [hb];exact Below.refl _ _⟩
theorem contains_con (a:Option Addr) (k:Nat) (L:List Int) (n:Int) (hL:L.length≤1000000) (h:Hp) (hr:RowOk h (rowI (.slice a L.length k) L)) :
  Con Tryz.prog 55 #[.slice a L.length k,.int .i64 n] h fun r h'=>r=.bool (amongP L n)∧h'=h :=
 among_con _ L n hL h fun _ hw=>ints_at hr hw
theorem runsOk_con (D:WD) (hsm:D.pure.Sm) (h:Hp) (hw:WI h D) :
  Con Tryz.prog 58 #[D.val] h fun r h'=>(∃b,r=.bool b∧(b=true↔RunsI D.pure))∧h'=h:=by
 have hn:D.runs.length≤1000:=by have:=hsm.runs;rw [pure_len] at this;exact this
 have hlenP:=pure_len D;refine Con.of_W (tb:=tbE) (args:=[D.val]) Tryz.func58 rfl Tryz.results58 Tryz.ntmps58 (by simp) (Tryz.call58 _) (tm:=[(0,.a D.cells)]) rfl ?_;refine vc_ok ⟨tbE_ok,_,Tryz.func58,Tryz.results58,Tryz.ntmps58⟩ 400 _ _ _ _ ?_;conv=>whnf
 refine⟨fun b0=>?_,fun b0=>?_⟩<;>conv=>whnf
 ·refine⟨fun b1=>?_,fun b1=>?_⟩<;>conv=>whnf
  ·refine⟨⟨false,rfl,fun e=>(by cases e),fun f=>?_⟩,rfl⟩;have:=f.n6;simp at b1;omega
  have hge1:1≤D.runs.length:=by simp at b0;omega
  have hle6:D.runs.length≤6:=by simp at b1;omega
  clear b0 b1;obtain⟨g,hra⟩:=row_some hw.runs (by omega);have hr:RowOk h (rowR D.rv D.runs):=hw.runs;have hv:D.rv=.slice (some ⟨g,0,none⟩) D.runs.length D.rk:=by rw [WD.rv,hra]
  refine W.cut [(18,.v (.int .i64 (0:Nat))),(17,.v (.int .i64 (D.runs.length:Nat))),(16,.v D.rv),(1,.p 0 0)] [⟨27,D.cells⟩] [] ⟨rfl,rfl,rfl,rfl,trivial⟩ rfl rfl ⟨_,rfl⟩ ?_;refine W.loop (α:=Nat) (fun i=>[(18,.v (.int .i64 (i:Nat))),(17,.v (.int .i64 (D.runs.length:Nat))),(16,.v D.rv),(1,.p 0 0)]) (fun _=>[⟨27,D.cells⟩]) (fun i h'=>i≤D.runs.length∧(∀j (hj:j<D.pure.runs.length),j<i→Eld.runB D.pure.runs[j].toE=true∧D.pure.runs[j].id=(j:Int)+1∧D.pure.runs[j].pl<D.code.length)∧h'=h) (fun i=>D.runs.length-i) ?_ 0 h ⟨Nat.zero_le _,fun j _ hj=>absurd hj (Nat.not_lt_zero _),rfl⟩;rintro i h5 ⟨hi,hfit,rfl⟩ ih;refine vc_ok ⟨tbE_ok,_,Tryz.func58,Tryz.results58,Tryz.ntmps58⟩ 400 _ _ _ _ ?_;conv=>whnf
  refine⟨fun h6=>?_,fun h6=>?_⟩<;>conv=>whnf
  ·have hlt:i<D.runs.length:=by simp at h6;omega
   have hltP:i<D.pure.runs.length:=by omega
   refine Ext.index slRun.u slRun.size rfl (by exact hv) rfl i rfl hlt ?_;conv=>whnf
   refine Ext.loadRun rfl hr hv hlt rfl ?_;conv=>whnf
   have hin:=hw.each i hlt;have hS:=hsm.each _ (pure_mem hlt);have ed:=pure_get D i hlt hltP;have hwk:IntKind.i64.wrap ((i:Int)+1)=(i:Int)+1:=by rw [wrapN _ (by omega) (by omega)]
   generalize hd:D.runs[i]=y at *;obtain⟨d,p⟩:=y;dsimp only at hS hin ed ⊢;conv=>whnf
   refine(iRunOk_con d p hS.sh h5 hin).mono ?_;rintro r h5 ⟨rfl,rfl⟩;conv=>whnf
   refine⟨fun b1=>?_,fun b1=>?_⟩<;>conv=>whnf
   rotate_left
   ·exact⟨⟨false,rfl,fun e=>(by cases e),fun f=>absurd (f.run i hltP).1 (by rw [ed];simpa using b1)⟩,rfl⟩
   rw [hwk];conv=>whnf
   refine⟨fun b2=>?_,fun b2=>?_⟩<;>conv=>whnf
   rotate_left
   ·exact⟨⟨false,rfl,fun e=>(by cases e),fun f=>absurd (f.run i hltP).2.1 (by rw [ed];simpa using b2)⟩,rfl⟩
   refine⟨fun b3=>?_,fun b3=>?_⟩<;>conv=>whnf
   ·have b3':(D.code.length:Int)≤d.pl:=by simpa using b3
    exact⟨⟨false,rfl,fun e=>(by cases e),fun f=>absurd (f.run i hltP).2.2 (by rw [ed];exact Int.not_lt.2 b3')⟩,rfl⟩
   have hd3:d.pl<D.code.length:=by simpa using b3
   have hwk2:IntKind.i64.wrap ((i:Int)+1)=((i+1:Nat):Int):=by rw [wrapN _ (by omega) (by omega)];omega
   rw [hwk2];exact W.back (ih (i+1) _ ⟨hlt,fun j hj hji=>(by
    rcases (by omega:j<i∨j=i) with h8|rfl
    ·exact hfit j hj h8
    ·rw [ed];exact⟨by simpa using b1,by simpa using b2,hd3⟩),rfl⟩ (by omega)) [_] (by exact⟨rfl,rfl,rfl,rfl,trivial⟩) rfl rfl
  ·have hge:i=D.runs.length:=by simp at h6;omega
   exact⟨⟨true,rfl,fun _=>⟨by omega,by omega,fun j hj=>hfit j hj (by omega)⟩,fun _=>rfl⟩,rfl⟩
 ·refine⟨⟨false,rfl,fun e=>(by cases e),fun f=>?_⟩,rfl⟩;have:=f.n1;simp at b0;omega
theorem waits_con (D:WD) (hsm:D.pure.Sm) (h:Hp) (hw:WI h D) :
  Con Tryz.prog 93 #[D.val] h fun r h'=>r=.int .i64 (mailsP D.pure.runs:Nat)∧h'=h:=by
 have hn:D.runs.length≤1000:=by have:=hsm.runs;rw [pure_len] at this;exact this
 have hlenP:=pure_len D;have hml:∀d∈D.pure.runs,d.mail.length≤1000:=fun d hd=>(hsm.each d hd).s1
 have hr:RowOk h (rowR D.rv D.runs):=hw.runs;refine Con.of_W (tb:=tbE) (args:=[D.val]) Tryz.func93 rfl Tryz.results93 Tryz.ntmps93 (by simp) (Tryz.call93 _) (tm:=[(0,.a D.cells)]) rfl ?_;refine vc_ok ⟨tbE_ok,_,Tryz.func93,Tryz.results93,Tryz.ntmps93⟩ 400 _ _ _ _ ?_;conv=>whnf
 refine W.cut [(9,.v (.int .i64 (0:Nat))),(8,.v (.int .i64 (D.runs.length:Nat))),(7,.v D.rv),(3,.v (.int .i64 (mailsP (D.pure.runs.take 0):Nat)))] [⟨27,D.cells⟩] [] ⟨rfl,rfl,rfl,rfl,trivial⟩ rfl rfl ⟨_,rfl⟩ ?_;refine W.loop (α:=Nat) (fun i=>[(9,.v (.int .i64 (i:Nat))),(8,.v (.int .i64 (D.runs.length:Nat))),(7,.v D.rv),(3,.v (.int .i64 (mailsP (D.pure.runs.take i):Nat)))]) (fun _=>[⟨27,D.cells⟩]) (fun i h'=>i≤D.runs.length∧h'=h) (fun i=>D.runs.length-i) ?_ 0 h ⟨Nat.zero_le _,rfl⟩;rintro i h5 ⟨hi,rfl⟩ ih;refine vc_ok ⟨tbE_ok,_,Tryz.func93,Tryz.results93,Tryz.ntmps93⟩ 400 _ _ _ _ ?_;conv=>whnf
 refine⟨fun h6=>?_,fun h6=>?_⟩<;>conv=>whnf
 ·have hlt:i<D.runs.length:=by simp at h6;omega
  have hltP:i<D.pure.runs.length:=by omega
  obtain⟨g,hra⟩:=row_some hw.runs (by omega);have hv:D.rv=.slice (some ⟨g,0,none⟩) D.runs.length D.rk:=by rw [WD.rv,hra]
  refine Ext.index slRun.u slRun.size rfl (by exact hv) rfl i rfl hlt ?_;conv=>whnf
  refine Ext.loadRun rfl hr hv hlt rfl ?_;conv=>whnf
  have hm1:=mails_le hml i;have hm2:=hml _ (List.getElem_mem hltP);have hm3:=mails_take D.pure.runs i hltP;have hg:D.pure.runs[i].mail.length=D.runs[i].1.mail.length:=by rw [pure_get D i hlt hltP]
  have hwm:IntKind.i64.wrap ((mailsP (D.pure.runs.take i):Int)+(D.runs[i].1.mail.length:Int))=((mailsP (D.pure.runs.take (i+1)):Nat):Int):=by rw [wrapN _ (by omega) (by omega)];omega
  have hwk:IntKind.i64.wrap ((i:Int)+1)=((i+1:Nat):Int):=by rw [wrapN _ (by omega) (by omega)];omega
  rw [hwm,hwk];exact W.back (ih (i+1) _ ⟨hlt,rfl⟩ (by omega)) [_] (by exact⟨rfl,rfl,rfl,rfl,trivial⟩) rfl rfl
 ·have hge:i=D.runs.length:=by simp at h6;omega
  have hT:D.pure.runs.take i=D.pure.runs:=by rw [List.take_of_length_le (by omega)]
  rw [hT];exact⟨rfl,rfl⟩
theorem going_take (L:List RunD) (i:Nat) (hi:i<L.length):goingP (L.take (i+1))=goingP (L.take i)+if L[i].st=1 then 1 else 0:=by
 unfold goingP;rw [List.take_succ_eq_append_getElem hi,List.filter_append,List.length_append];by_cases h:L[i].st=1<;>simp [h]
theorem going_le (L:List RunD):goingP L≤L.length:=List.length_filter_le _ _
theorem queueOk_con (D:WD) (hsm:D.pure.Sm) (h:Hp) (hw:WI h D) :
  Con Tryz.prog 59 #[D.val] h fun r h'=>(∃b,r=.bool b∧(b=true↔(∀i (hi:i<D.pure.runs.length),D.pure.runs[i].st=1→D.pure.runs[i].id∈D.queue)∧D.queue.length=goingP D.pure.runs))∧h'=h:=by
 have hn:D.runs.length≤1000:=by have:=hsm.runs;rw [pure_len] at this;exact this
 have hlenP:=pure_len D;have hr:RowOk h (rowR D.rv D.runs):=hw.runs;refine Con.of_W (tb:=tbE) (args:=[D.val]) Tryz.func59 rfl Tryz.results59 Tryz.ntmps59 (by simp) (Tryz.call59 _) (tm:=[(0,.a D.cells)]) rfl ?_;refine vc_ok ⟨tbE_ok,_,Tryz.func59,Tryz.results59,Tryz.ntmps59⟩ 400 _ _ _ _ ?_;conv=>whnf
 refine W.cut [(9,.v (.int .i64 (0:Nat))),(8,.v (.int .i64 (D.runs.length:Nat))),(7,.v D.rv),(3,.v (.int .i64 (goingP (D.pure.runs.take 0):Nat))),(1,.p 0 0)] [⟨27,D.cells⟩] [] ⟨rfl,rfl,rfl,rfl,rfl,trivial⟩ rfl rfl ⟨_,rfl⟩ ?_;refine W.loop (α:=Nat) (fun i=>[(9,.v (.int .i64 (i:Nat))),(8,.v (.int .i64 (D.runs.length:Nat))),(7,.v D.rv),(3,.v (.int .i64 (goingP (D.pure.runs.take i):Nat))),(1,.p 0 0)]) (fun _=>[⟨27,D.cells⟩]) (fun i h'=>i≤D.runs.length∧(∀j (hj:j<D.pure.runs.length),j<i→D.pure.runs[j].st=1→D.pure.runs[j].id∈D.queue)∧h'=h) (fun i=>D.runs.length-i) ?_ 0 h ⟨Nat.zero_le _,fun j _ hj=>absurd hj (Nat.not_lt_zero _),rfl⟩;rintro i h5 ⟨hi,hfit,rfl⟩ ih;refine vc_ok ⟨tbE_ok,_,Tryz.func59,Tryz.results59,Tryz.ntmps59⟩ 400 _ _ _ _ ?_;conv=>whnf
 refine⟨fun h6=>?_,fun h6=>?_⟩<;>conv=>whnf
 ·have hlt:i<D.runs.length:=by simp at h6;omega
  have hltP:i<D.pure.runs.length:=by omega
  obtain⟨g,hra⟩:=row_some hw.runs (by omega);have hv:D.rv=.slice (some ⟨g,0,none⟩) D.runs.length D.rk:=by rw [WD.rv,hra]
  refine Ext.index slRun.u slRun.size rfl (by exact hv) rfl i rfl hlt ?_;conv=>whnf
  refine Ext.loadRun rfl hr hv hlt rfl ?_;conv=>whnf
  have ed:=pure_get D i hlt hltP;have hwk:IntKind.i64.wrap ((i:Int)+1)=((i+1:Nat):Int):=by rw [wrapN _ (by omega) (by omega)];omega
  have hgt:=going_take D.pure.runs i hltP;have hgl:=going_le (D.pure.runs.take i);have hgl2:(D.pure.runs.take i).length≤i:=by rw [List.length_take];omega
  refine⟨fun b1=>?_,fun b1=>?_⟩<;>conv=>whnf
  ·have hne:¬D.pure.runs[i].st=1:=by rw [ed];simpa using b1
   rw [hwk];rw [if_neg hne] at hgt;have hT:goingP (D.pure.runs.take i)=goingP (D.pure.runs.take (i+1)):=by omega
   rw [hT];exact W.back (ih (i+1) _ ⟨hlt,fun j hj hji=>(by
    rcases (by omega:j<i∨j=i) with h8|rfl
    ·exact hfit j hj h8
    ·exact fun e=>absurd e hne),rfl⟩ (by omega)) [_] (by exact⟨rfl,rfl,rfl,rfl,rfl,trivial⟩) rfl rfl
  have hst:D.pure.runs[i].st=1:=by rw [ed];simpa using b1
  refine(among_con D.qv D.queue D.runs[i].1.id (by have:=hsm.queue;show D.queue.length≤_;exact Nat.le_trans this (by decide)) h5 hw.queue).mono ?_;rintro r h5 ⟨rfl,rfl⟩;conv=>whnf
  refine⟨fun b2=>?_,fun b2=>?_⟩<;>conv=>whnf
  ·refine⟨⟨false,rfl,fun e=>(by cases e),fun f=>?_⟩,rfl⟩;have:=among_mem.2 (f.1 i hltP hst);rw [ed] at this;rw [this] at b2
   cases b2
  have hin:D.pure.runs[i].id∈D.queue:=by rw [←among_mem,ed];simpa using b2
  rw [if_pos hst] at hgt;have hwg:IntKind.i64.wrap ((goingP (D.pure.runs.take i):Int)+1)=((goingP (D.pure.runs.take (i+1)):Nat):Int):=by rw [wrapN _ (by omega) (by omega)];omega
  rw [hwg,hwk];exact W.back (ih (i+1) _ ⟨hlt,fun j hj hji=>(by
   rcases (by omega:j<i∨j=i) with h8|rfl
   ·exact hfit j hj h8
   ·exact fun _=>hin),rfl⟩ (by omega)) [_] (by exact⟨rfl,rfl,rfl,rfl,rfl,trivial⟩) rfl rfl
 ·have hge:i=D.runs.length:=by simp at h6;omega
  have hT:D.pure.runs.take i=D.pure.runs:=by rw [List.take_of_length_le (by omega)]
  rw [hT];refine⟨⟨_,rfl,fun e=>⟨fun j hj=>hfit j hj (by omega),?_⟩,fun f=>?_⟩,rfl⟩
  ·simp at e;omega
  ·rw [f.2];simp
theorem countsOk_con (D:WD) (hsm:D.pure.Sm) (h:Hp) (hw:WI h D) :
  Con Tryz.prog 60 #[D.val] h fun r h'=>(∃b,r=.bool b∧(b=true↔CntP D.pure∧D.sent=D.taken+D.lost+(mailsP D.pure.runs:Int)))∧h'=h:=by
 refine Con.keep ?_;have hml:∀d∈D.pure.runs,d.mail.length≤1000:=fun d hd=>(hsm.each d hd).s1
 have hn:D.pure.runs.length≤1000:=hsm.runs;refine Con.of_W (tb:=tbE) (args:=[D.val]) Tryz.func60 rfl Tryz.results60 Tryz.ntmps60 (by simp) (Tryz.call60 _) (tm:=[(0,.a D.cells)]) rfl ?_;refine vc_ok ⟨tbE_ok,_,Tryz.func60,Tryz.results60,Tryz.ntmps60⟩ 400 _ _ _ _ ?_;conv=>whnf
 refine Ext.buildSlice slInt rfl (Own.nil h) [.int .i64 0,.int .i64 0,.int .i64 0] (fun w=>⟨_,Tryz.zeroValue3 w,by kernel_rfl⟩) [.int .i64 D.sent,.int .i64 D.taken,.int .i64 D.lost] rfl rfl (by decide) fun g h1 hle ho=>?_
 conv=>whnf
 have hr:RowOk h1 (rowI (.slice (some ⟨g,0,none⟩) [D.sent,D.taken,D.lost].length 3) [D.sent,D.taken,D.lost]):=ho.rowOk List.mem_cons_self;have hw1:=hw.le hle;refine W.cut [(13,.v (.int .i64 (0:Nat))),(12,.v (.int .i64 (3:Nat))),(11,.v (.slice (some ⟨g,0,none⟩) 3 3)),(1,.p 0 0)] [⟨27,D.cells⟩] [] ⟨rfl,rfl,rfl,rfl,trivial⟩ rfl rfl ⟨_,rfl⟩ ?_;refine W.loop (α:=Nat) (fun i=>[(13,.v (.int .i64 (i:Nat))),(12,.v (.int .i64 (3:Nat))),(11,.v (.slice (some ⟨g,0,none⟩) 3 3)),(1,.p 0 0)]) (fun _=>[⟨27,D.cells⟩]) (fun i h'=>i≤3∧(∀j (hj:j<[D.sent,D.taken,D.lost].length),j<i→0≤[D.sent,D.taken,D.lost][j]∧[D.sent,D.taken,D.lost][j]≤9999)∧h'=h1) (fun i=>3-i) ?_ 0 h1 ⟨Nat.zero_le _,fun j _ hj=>absurd hj (Nat.not_lt_zero _),rfl⟩;rintro i h5 ⟨hi,hfit,rfl⟩ ih;refine vc_ok ⟨tbE_ok,_,Tryz.func60,Tryz.results60,Tryz.ntmps60⟩ 400 _ _ _ _ ?_;conv=>whnf
 refine⟨fun h6=>?_,fun h6=>?_⟩<;>conv=>whnf
 ·have hlt:i<[D.sent,D.taken,D.lost].length:=by simp at h6;show i<3;omega
  have hcm:CntP D.pure→0≤[D.sent,D.taken,D.lost][i]∧[D.sent,D.taken,D.lost][i]≤9999:=fun c=>by
   have hlt':i<3:=hlt
   match i,hlt' with
   |0,_=>exact c.sent
   |1,_=>exact c.taken
   |2,_=>exact c.lost
  refine Ext.index slInt.u slInt.size rfl rfl rfl i rfl hlt ?_;conv=>whnf
  refine Ext.loadInt rfl hr rfl hlt rfl ?_;conv=>whnf
  refine⟨fun b1=>?_,fun b1=>?_⟩<;>conv=>whnf
  ·have h0:0≤[D.sent,D.taken,D.lost][i]:=by simpa using b1
   refine⟨fun b2=>?_,fun b2=>?_⟩<;>conv=>whnf
   ·refine⟨⟨false,rfl,fun e=>(by cases e),fun f=>?_⟩,hle⟩;have h1:=(hcm f.1).2;have h2:9999<[D.sent,D.taken,D.lost][i]:=by simpa using b2
    omega
   have h9:[D.sent,D.taken,D.lost][i]≤9999:=by simpa using b2
   have hwk:IntKind.i64.wrap ((i:Int)+1)=((i+1:Nat):Int):=by
    have:i<3:=hlt;rw [wrapN _ (by omega) (by omega)];omega
   rw [hwk];exact W.back (ih (i+1) _ ⟨hlt,fun j hj hji=>(by
    rcases (by omega:j<i∨j=i) with h8|rfl
    ·exact hfit j hj h8
    ·exact⟨h0,h9⟩),rfl⟩ (by(have:i<3:=hlt);omega)) [] (by exact⟨rfl,rfl,rfl,rfl,trivial⟩) rfl rfl
  ·refine⟨⟨false,rfl,fun e=>(by cases e),fun f=>?_⟩,hle⟩;have h1:=(hcm f.1).1;have h2:[D.sent,D.taken,D.lost][i]<0:=by simpa using b1
   omega
 ·have hge:i=3:=by simp at h6;omega
  subst hge;have c1:0≤D.sent∧D.sent≤9999:=hfit 0 (by show 0<3;decide) (by decide);have c2:0≤D.taken∧D.taken≤9999:=hfit 1 (by show 1<3;decide) (by decide);have c3:0≤D.lost∧D.lost≤9999:=hfit 2 (by show 2<3;decide) (by decide);refine W.draw [(0,true),(1,true),(2,true),(3,true),(4,true),(5,true),(6,true),(7,true),(8,true),(9,true),(10,true),(11,true),(12,true),(13,true),(14,true),(15,true),(16,true),(17,false),(18,true),(19,true),(20,true),(21,true)] [0] (some h5) 99 (by kernel_rfl) rfl (by kernel_rfl) mixed rfl (fun g e=>by cases e;exact Hp.le_refl _) ?_;refine vc_ok ⟨tbE_ok,_,Tryz.func60,Tryz.results60,Tryz.ntmps60⟩ 400 _ _ _ _ ?_;conv=>whnf
  refine⟨fun b1=>?_,fun b1=>?_⟩<;>conv=>whnf
  rotate_left
  ·exact⟨⟨false,rfl,fun e=>(by cases e),fun f=>absurd (show (0:Int)≤D.now from f.1.now.1) (by simpa using b1)⟩,hle⟩
  refine⟨fun b2=>?_,fun b2=>?_⟩<;>conv=>whnf
  rotate_left
  ·exact⟨⟨false,rfl,fun e=>(by cases e),fun f=>absurd (show D.now≤300 from f.1.now.2) (by simpa using b2)⟩,hle⟩
  refine(waits_con D hsm h5 hw1).mono ?_;rintro r h5 ⟨rfl,rfl⟩;conv=>whnf
  refine⟨Hp.le_refl _,?_⟩;conv=>whnf
  have hmm:=mails_le hml D.pure.runs.length;rw [List.take_length] at hmm;have e1:IntKind.i64.wrap (IntKind.i64.wrap (D.taken+D.lost)+(mailsP D.pure.runs:Int))=D.taken+D.lost+(mailsP D.pure.runs:Int):=by
   rw [wrapN (D.taken+D.lost) (by omega) (by omega),wrapN _ (by omega) (by omega)]
  rw [e1];exact⟨⟨_,rfl,fun e=>⟨⟨⟨show (0:Int)≤D.now by simpa using b1,show D.now≤300 by simpa using b2⟩,c1,c2,c3⟩,by simpa using e⟩,fun f=>by rw [f.2];simp⟩,hle⟩
theorem first_there {d:RunD} (h:Eld.runB d.toE=true) (k:Int):(Eld.sFirst d.toE k).2=!decide (firstP d.mail k<0):=by
 obtain⟨ho,_⟩:=Eld.run_parts h;have hfit:∀j (hj:j<d.mail.length),Eld.AH.fitsB d.mail[j].1 d.mail[j].2 k=fitsP d.mail[j] k:=fun j hj=>by
  have h1:Eld.okB d.mail[j].1 d.mail[j].2=true:=ho j hj;unfold Eld.AH.fitsB fitsP;rw [h1,Bool.true_and,Bool.eq_iff_iff];simp only [Bool.or_eq_true,beq_iff_eq]
  constructor
  ·rintro(e|e)
   ·exact .inl e
   ·exact .inr e.symm
  ·rintro(e|e)
   ·exact .inl e
   ·exact .inr e.symm
 unfold firstP
 cases hf:d.mail.findIdx? (fun v=>fitsP v k) with
 |none =>
  rw [List.findIdx?_eq_none_iff] at hf;have hn:∀j (hj:j<d.toE.mail.length),Eld.AH.fitsB d.toE.mail[j].1 d.toE.mail[j].2 k=false:=fun j hj=>(hfit j hj).trans (hf _ (List.getElem_mem hj))
  rw [Eld.first_none h hn];rfl
 |some i =>
  rw [List.findIdx?_eq_some_iff_getElem] at hf;obtain⟨hi,h1,h2⟩:=hf;have hy:Eld.AH.fitsB d.toE.mail[i].1 d.toE.mail[i].2 k=true:=(hfit i hi).trans h1;have hn:∀j (hj:j<d.toE.mail.length),j<i→Eld.AH.fitsB d.toE.mail[j].1 d.toE.mail[j].2 k=false:=fun j hj hji=>(hfit j hj).trans (Bool.eq_false_iff.2 (h2 j hji))
  rw [Eld.first_some h hi hy hn];simp
theorem sleepOk_con (D:WD) (d:RunD) (p:RunP) (hsm:d.Sm) (hpl:∃k:Nat,d.pl=k∧k<D.code.length) (h:Hp) (hw:WI h D) (hin:RunIn h d p) (hb:Eld.runB d.toE=true) :
  Con Tryz.prog 94 #[D.val,d.val p] h fun r h'=>r=.bool (sleepP D.pure d)∧h'=h:=by
 obtain⟨k,hk,hlt⟩:=hpl;have hcr:RowOk h (rowO D.cv D.code):=hw.code;obtain⟨gc,hca⟩:=row_some hcr (by omega);have hcv:D.cv=.slice (some ⟨gc,0,none⟩) D.code.length D.ck:=by rw [WD.cv,hca]
 have hs:stepAt D.pure.code d=D.code[k]:=stepAt_get hk hlt;have hE:sleepP D.pure d=if (D.code[k].k==7)=true then (d.due==0&&decide (firstP d.mail D.code[k].s<0)) else (D.code[k].k==8&&(decide (D.now<d.due)&&decide (firstP d.mail D.code[k].s<0))):=by
  unfold sleepP;rw [hs];simp only [beq_iff_eq];rfl
 rw [hE];refine Con.of_W (tb:=tbE) (args:=[D.val,d.val p]) Tryz.func94 rfl Tryz.results94 Tryz.ntmps94 (by simp) (Tryz.call94 _) (tm:=[(0,.a D.cells),(1,.a (d.cells p))]) rfl ?_;refine vc_ok ⟨tbE_ok,_,Tryz.func94,Tryz.results94,Tryz.ntmps94⟩ 400 _ _ _ _ ?_;conv=>whnf
 refine Ext.index slOp.u slOp.size rfl (by exact hcv) rfl k hk hlt ?_;conv=>whnf
 refine Ext.loadOp rfl hcr hcv hlt rfl ?_;conv=>whnf
 refine(iRunFirst_con d p D.code[k].s hsm.sh h hin).mono ?_;rintro r h1 ⟨rfl,rfl⟩;have hth:=first_there hb D.code[k].s;generalize Eld.sFirst d.toE D.code[k].s=F at hth;obtain⟨m,th⟩:=F;dsimp only at hth ⊢;subst hth;generalize hq:decide (firstP d.mail D.code[k].s<0)=q;conv=>whnf
 refine⟨fun h3=>?_,fun h3=>?_⟩<;>conv=>whnf
 ·rw [if_pos h3];refine⟨fun h4=>?_,fun h4=>?_⟩<;>conv=>whnf
  ·exact⟨by rw [h4,Bool.true_and];cases q<;>rfl,rfl⟩
  ·exact⟨by rw [show (d.due==0)=false from h4];rfl,rfl⟩
 ·rw [if_neg (by rw [h3];decide)];refine⟨fun h4=>?_,fun h4=>?_⟩<;>conv=>whnf
  ·refine⟨fun h5=>?_,fun h5=>?_⟩<;>conv=>whnf
   ·have h5':decide (D.now<d.due)=true:=by simpa using h5
    exact⟨by rw [h4,h5',Bool.true_and,Bool.true_and];cases q<;>rfl,rfl⟩
   ·have h5':decide (D.now<d.due)=false:=by simpa using h5
    exact⟨by rw [h5',Bool.false_and,Bool.and_false];rfl,rfl⟩
  ·exact⟨by rw [show (D.code[k].k==8)=false from h4,Bool.false_and];rfl,rfl⟩
theorem tiesOk_con (D:WD) (hsm:D.pure.Sm) (h:Hp) (hw:WI h D) (hR:RunsI D.pure) :
  Con Tryz.prog 62 #[D.val] h fun r h'=>(∃b,r=.bool b∧(b=true↔∀i (hi:i<D.pure.runs.length),TiesI D.pure D.pure.runs[i]))∧h'=h:=by
 have hn:D.runs.length≤1000:=by have:=hsm.runs;rw [pure_len] at this;exact this
 have hlenP:=pure_len D;have hr:RowOk h (rowR D.rv D.runs):=hw.runs;refine Con.of_W (tb:=tbE) (args:=[D.val]) Tryz.func62 rfl Tryz.results62 Tryz.ntmps62 (by simp) (Tryz.call62 _) (tm:=[(0,.a D.cells)]) rfl ?_;refine vc_ok ⟨tbE_ok,_,Tryz.func62,Tryz.results62,Tryz.ntmps62⟩ 400 _ _ _ _ ?_;conv=>whnf
 refine W.cut [(12,.v (.int .i64 (0:Nat))),(11,.v (.int .i64 (D.runs.length:Nat))),(10,.v D.rv),(1,.p 0 0)] [⟨27,D.cells⟩] [] ⟨rfl,rfl,rfl,rfl,trivial⟩ rfl rfl ⟨_,rfl⟩ ?_;refine W.loop (α:=Nat) (fun i=>[(12,.v (.int .i64 (i:Nat))),(11,.v (.int .i64 (D.runs.length:Nat))),(10,.v D.rv),(1,.p 0 0)]) (fun _=>[⟨27,D.cells⟩]) (fun i h'=>i≤D.runs.length∧(∀j (hj:j<D.pure.runs.length),j<i→TiesI D.pure D.pure.runs[j])∧h'=h) (fun i=>D.runs.length-i) ?_ 0 h ⟨Nat.zero_le _,fun j _ hj=>absurd hj (Nat.not_lt_zero _),rfl⟩;rintro i h5 ⟨hi,hfit,rfl⟩ ih;refine vc_ok ⟨tbE_ok,_,Tryz.func62,Tryz.results62,Tryz.ntmps62⟩ 400 _ _ _ _ ?_;conv=>whnf
 refine⟨fun h6=>?_,fun h6=>?_⟩<;>conv=>whnf
 ·have hlt:i<D.runs.length:=by simp at h6;omega
  have hltP:i<D.pure.runs.length:=by omega
  obtain⟨g,hra⟩:=row_some hw.runs (by omega);have hv:D.rv=.slice (some ⟨g,0,none⟩) D.runs.length D.rk:=by rw [WD.rv,hra]
  refine Ext.index slRun.u slRun.size rfl (by exact hv) rfl i rfl hlt ?_;conv=>whnf
  refine Ext.loadRun rfl hr hv hlt rfl ?_;conv=>whnf
  have ed:=pure_get D i hlt hltP;have hwi:IntKind.i64.wrap ((i:Int)+1)=((i+1:Nat):Int):=by rw [wrapN _ (by omega) (by omega)];omega
  have hin:=hw.each i hlt;have hS:=hsm.each _ (pure_mem hlt);have hF:RunF D.runs[i].1:=runF (by rw [←ed];exact(hR.run i hltP).1);have hidn:D.runs[i].1.id=(i:Int)+1:=by rw [←ed];exact(hR.run i hltP).2.1
  generalize hd:D.runs[i]=y at *;obtain⟨d,p⟩:=y;dsimp only at hS hin ed hF hidn ⊢;conv=>whnf
  have s2:=hS.s2;have s3:=hS.s3;refine W.cut [(19,.v (.int .i64 (0:Nat))),(18,.v (.int .i64 (d.wat.length:Nat))),(17,.v (.slice p.a3 d.wat.length p.k3)),(4,.p 1 0),(12,.v (.int .i64 (i:Nat))),(11,.v (.int .i64 (D.runs.length:Nat))),(10,.v D.rv),(1,.p 0 0)] [⟨27,D.cells⟩,⟨34,d.cells p⟩] [] ⟨rfl,rfl,rfl,rfl,rfl,rfl,rfl,rfl,trivial⟩ rfl rfl ⟨_,rfl⟩ ?_;refine W.loop (α:=Nat) (fun k=>[(19,.v (.int .i64 (k:Nat))),(18,.v (.int .i64 (d.wat.length:Nat))),(17,.v (.slice p.a3 d.wat.length p.k3)),(4,.p 1 0),(12,.v (.int .i64 (i:Nat))),(11,.v (.int .i64 (D.runs.length:Nat))),(10,.v D.rv),(1,.p 0 0)]) (fun _=>[⟨27,D.cells⟩,⟨34,d.cells p⟩]) (fun k h'=>k≤d.wat.length∧(∀j (hj:j<d.wat.length),j<k→d.wat[j]≤(D.runs.length:Int))∧h'=h5) (fun k=>d.wat.length-k) ?_ 0 h5 ⟨Nat.zero_le _,fun j _ hj=>absurd hj (Nat.not_lt_zero _),rfl⟩;rintro k h7 ⟨hk,hwt,rfl⟩ ih2;refine vc_ok ⟨tbE_ok,_,Tryz.func62,Tryz.results62,Tryz.ntmps62⟩ 400 _ _ _ _ ?_;conv=>whnf
  refine⟨fun h8=>?_,fun h8=>?_⟩<;>conv=>whnf
  ·have hkl:k<d.wat.length:=by simp at h8;omega
   have hwk:IntKind.i64.wrap ((k:Int)+1)=((k+1:Nat):Int):=by rw [wrapN _ (by omega) (by omega)];omega
   obtain⟨gl,hva⟩:=row_some hin.r3 (by omega);have hlv:Value.slice p.a3 d.wat.length p.k3=.slice (some ⟨gl,0,none⟩) d.wat.length p.k3:=by rw [hva]
   refine Ext.index slInt.u slInt.size rfl (by exact hlv) rfl k rfl hkl ?_;conv=>whnf
   refine Ext.loadInt rfl hin.r3 hlv hkl rfl ?_;conv=>whnf
   refine⟨fun b9=>?_,fun b9=>?_⟩<;>conv=>whnf
   ·refine⟨⟨false,rfl,fun e=>(by cases e),fun f=>?_⟩,rfl⟩;have h1:=(f i hltP).wat d.wat[k] (by rw [ed];exact List.getElem_mem hkl);have h2:(D.runs.length:Int)<d.wat[k]:=by simpa using b9
    omega
   have hz:d.wat[k]≤(D.runs.length:Int):=by simpa using b9
   rw [hwk];exact W.back (ih2 (k+1) _ ⟨hkl,fun j hj hji=>(by
    rcases (by omega:j<k∨j=k) with h8|rfl
    ·exact hwt j hj h8
    ·exact hz),rfl⟩ (by omega)) [] (by exact⟨rfl,rfl,rfl,rfl,rfl,rfl,rfl,rfl,trivial⟩) rfl rfl
  have hke:k=d.wat.length:=by simp at h8;omega
  have hwat:∀x∈d.wat,x≤(D.pure.runs.length:Int):=fun x hx=>by
   obtain⟨j,hj,rfl⟩:=List.getElem_of_mem hx;rw [pure_len];exact hwt j hj (by omega)
  clear hwt ih2 h8;refine W.cut [(32,.v (.int .i64 (0:Nat))),(31,.v (.int .i64 (d.links.length:Nat))),(30,.v (.slice p.a2 d.links.length p.k2)),(4,.p 1 0),(12,.v (.int .i64 (i:Nat))),(11,.v (.int .i64 (D.runs.length:Nat))),(10,.v D.rv),(1,.p 0 0)] [⟨27,D.cells⟩,⟨34,d.cells p⟩] [] ⟨rfl,rfl,rfl,rfl,rfl,rfl,rfl,rfl,trivial⟩ rfl rfl ⟨_,rfl⟩ ?_;refine W.loop (α:=Nat) (fun k=>[(32,.v (.int .i64 (k:Nat))),(31,.v (.int .i64 (d.links.length:Nat))),(30,.v (.slice p.a2 d.links.length p.k2)),(4,.p 1 0),(12,.v (.int .i64 (i:Nat))),(11,.v (.int .i64 (D.runs.length:Nat))),(10,.v D.rv),(1,.p 0 0)]) (fun _=>[⟨27,D.cells⟩,⟨34,d.cells p⟩]) (fun k h'=>k≤d.links.length∧(∀j (hj:j<d.links.length),j<k→d.links[j]≤(D.runs.length:Int)∧∀m (hm:m<D.pure.runs.length),d.links[j]=(m:Int)+1→d.id∈D.pure.runs[m].links)∧h'=h7) (fun k=>d.links.length-k) ?_ 0 h7 ⟨Nat.zero_le _,fun j _ hj=>absurd hj (Nat.not_lt_zero _),rfl⟩;rintro q h9 ⟨hq,hlk,rfl⟩ ih2;refine vc_ok ⟨tbE_ok,_,Tryz.func62,Tryz.results62,Tryz.ntmps62⟩ 400 _ _ _ _ ?_;conv=>whnf
  refine⟨fun h8=>?_,fun h8=>?_⟩<;>conv=>whnf
  ·have hkl:q<d.links.length:=by simp at h8;omega
   have hwk:IntKind.i64.wrap ((q:Int)+1)=((q+1:Nat):Int):=by rw [wrapN _ (by omega) (by omega)];omega
   obtain⟨gl,hva⟩:=row_some hin.r2 (by omega);have hlv:Value.slice p.a2 d.links.length p.k2=.slice (some ⟨gl,0,none⟩) d.links.length p.k2:=by rw [hva]
   have hmem:d.links[q]∈D.pure.runs[i].links:=by rw [ed];exact List.getElem_mem hkl
   have hl1:=(hF.l1 _ (List.getElem_mem hkl)).1;refine Ext.index slInt.u slInt.size rfl (by exact hlv) rfl q rfl hkl ?_;conv=>whnf
   refine Ext.loadInt rfl hin.r2 hlv hkl rfl ?_;conv=>whnf
   refine W.draw [(0,true),(1,true),(2,true),(3,true),(4,true),(5,true),(6,true),(7,true),(8,true),(9,true),(10,true),(11,true),(12,true),(13,true),(14,true),(15,false),(16,true),(17,true)] [0,1] (some h9) 99 (by kernel_rfl) rfl (by kernel_rfl) mixed rfl (fun g e=>by cases e;exact Hp.le_refl _) ?_;refine vc_ok ⟨tbE_ok,_,Tryz.func62,Tryz.results62,Tryz.ntmps62⟩ 400 _ _ _ _ ?_;conv=>whnf
   refine⟨fun b9=>?_,fun b9=>?_⟩<;>conv=>whnf
   rotate_left
   ·refine⟨⟨false,rfl,fun e=>(by cases e),fun f=>?_⟩,rfl⟩;have h1:=((f i hltP).links d.links[q] hmem).1;have h2:(D.runs.length:Int)<d.links[q]:=by simpa using b9
    omega
   have hz:d.links[q]≤(D.runs.length:Int):=by simpa using b9
   obtain⟨m,hm⟩:∃m:Nat,d.links[q]=(m:Int)+1:=⟨(d.links[q]-1).toNat,by omega⟩;have hml:m<D.runs.length:=by omega
   have hmlP:m<D.pure.runs.length:=by omega
   have hzm:IntKind.i64.wrap (d.links[q]-1)=(m:Int):=by rw [hm,show (m:Int)+1-1=m by omega];exact wrapN _ (by omega) (by omega)
   refine Rd.index slRun.u slRun.size rfl (by exact hv) rfl m hzm hml ?_;conv=>whnf
   refine Rd.loadRunCell (D:=D) rfl ⟨rfl,rfl⟩ rfl hr hv hml 7 (by decide) rfl (.slice D.runs[m].2.a2 D.runs[m].1.links.length D.runs[m].2.k2) rfl ?_;conv=>whnf
   have em:=pure_get D m hml hmlP;refine(contains_con _ _ _ _ (by have:=(hsm.each _ (pure_mem hml)).s2;omega) h9 (hw.each m hml).r2).mono ?_;rintro r h9 ⟨rfl,rfl⟩;conv=>whnf
   refine⟨Hp.le_refl _,?_⟩;conv=>whnf
   refine⟨fun b10=>?_,fun b10=>?_⟩<;>conv=>whnf
   ·refine⟨⟨false,rfl,fun e=>(by cases e),fun f=>?_⟩,rfl⟩;have h1:=((f i hltP).links d.links[q] hmem).2 m hmlP hm;rw [ed,em,←among_mem] at h1;rw [h1] at b10
    cases b10
   have hin10:d.id∈D.pure.runs[m].links:=by rw [em,←among_mem];simpa using b10
   rw [hwk];exact W.back (ih2 (q+1) _ ⟨hkl,fun j hj hji=>(by
    rcases (by omega:j<q∨j=q) with h8|rfl
    ·exact hlk j hj h8
    ·refine⟨hz,fun m' hm' e=>?_⟩;have:m'=m:=by omega
     subst this;exact hin10),rfl⟩ (by omega)) [] (by exact⟨rfl,rfl,rfl,rfl,rfl,rfl,rfl,rfl,trivial⟩) rfl rfl
  have hqe:q=d.links.length:=by simp at h8;omega
  have hT:TiesI D.pure D.pure.runs[i]:=by
   rw [ed];refine⟨hwat,fun x hx=>?_⟩;obtain⟨j,hj,rfl⟩:=List.getElem_of_mem hx;have:=hlk j hj (by(have:j<d.links.length:=hj);omega);exact⟨by rw [pure_len];exact this.1,this.2⟩
  rw [hwi];exact W.back (ih (i+1) _ ⟨hlt,fun j hj hji=>(by
   rcases (by omega:j<i∨j=i) with h8|rfl
   ·exact hfit j hj h8
   ·exact hT),rfl⟩ (by omega)) [_] (by exact⟨rfl,rfl,rfl,rfl,trivial⟩) rfl rfl
 ·have hge:i=D.runs.length:=by simp at h6;omega
  exact⟨⟨true,rfl,fun _ j hj=>hfit j hj (by omega),fun _=>rfl⟩,rfl⟩
theorem Ext.andNot {t t':TypeId} {o:Oper} {x y:Operand} (ho:o.op=.binOp .andNot t x y t') {ev:Operand→Value} {h:Hp} {K:Option Value→Hp→Prop} {a b:Int} (hx:ev x=.int .i64 a) (hy:ev y=.int .i64 b) (k:K (some (.int .i64 (bits .andNot .i64 a b))) h):Ext Tryz.prog (execOp ev o) h K :=
 Ext.val (.int .i64 (bits .andNot .i64 a b)) (fun w=>by simp [execOp,ho,hx,hy,eqGuard,binOp,Op.intBits,bits]) k
theorem placesOk_con (D:WD) (V:List Int) (hfull:Eld.IsFull (D.code.map OpD.toV) V) (hsm:D.pure.Sm) (h:Hp) (hw:WI h D) (hR:RunsI D.pure) (hc:Eld.codeB (D.code.map OpD.toV)=true) :
  Con Tryz.prog 61 #[D.val] h fun r h'=>(∃b,r=.bool b∧(b=true↔∀i (hi:i<D.pure.runs.length),PlaceI D.pure V D.pure.runs[i]))∧h'=h:=by
 refine Con.keep ?_;have hn:D.runs.length≤1000:=by have:=hsm.runs;rw [pure_len] at this;exact this
 have hlenP:=pure_len D;have hC:D.code.length≤1000:=hsm.code;refine Con.of_W (tb:=tbE) (args:=[D.val]) Tryz.func61 rfl Tryz.results61 Tryz.ntmps61 (by simp) (Tryz.call61 _) (tm:=[(0,.a D.cells)]) rfl ?_;refine vc_ok ⟨tbE_ok,_,Tryz.func61,Tryz.results61,Tryz.ntmps61⟩ 400 _ _ _ _ ?_;conv=>whnf
 refine(iFull_con D.ca D.ck D.code (by omega) h [] (Own.nil h) hw.code).mono ?_;rintro r h2 ⟨U,fa,fk,rfl,hFO,hle,ho2⟩;have hUV:U=V:=by
  rcases hFO with⟨_,hU⟩|⟨hno,_⟩
  ·exact Eld.full_one hU hfull
  ·rw [hc] at hno;cases hno
 subst hUV;have hw2:=hw.le hle;have hV:RowOk h2 (rowI (.slice fa U.length fk) U):=ho2.rowOk List.mem_cons_self;have hVl:U.length=D.code.length:=by rw [hfull.1.1.1,List.length_map]
 have hVb:=full_bd hfull;have hr:RowOk h2 (rowR D.rv D.runs):=hw2.runs;clear ho2 hw;conv=>whnf
 refine W.cut [(13,.v (.int .i64 (0:Nat))),(12,.v (.int .i64 (D.runs.length:Nat))),(11,.v D.rv),(3,.v (.slice fa U.length fk)),(1,.p 0 0)] [⟨27,D.cells⟩] [] ⟨rfl,rfl,rfl,rfl,rfl,trivial⟩ rfl rfl ⟨_,rfl⟩ ?_;refine W.loop (α:=Nat) (fun i=>[(13,.v (.int .i64 (i:Nat))),(12,.v (.int .i64 (D.runs.length:Nat))),(11,.v D.rv),(3,.v (.slice fa U.length fk)),(1,.p 0 0)]) (fun _=>[⟨27,D.cells⟩]) (fun i h'=>i≤D.runs.length∧(∀j (hj:j<D.pure.runs.length),j<i→PlaceI D.pure U D.pure.runs[j])∧h'=h2) (fun i=>D.runs.length-i) ?_ 0 h2 ⟨Nat.zero_le _,fun j _ hj=>absurd hj (Nat.not_lt_zero _),rfl⟩;rintro i h5 ⟨hi,hfit,rfl⟩ ih;refine vc_ok ⟨tbE_ok,_,Tryz.func61,Tryz.results61,Tryz.ntmps61⟩ 400 _ _ _ _ ?_;conv=>whnf
 refine⟨fun h6=>?_,fun h6=>?_⟩<;>conv=>whnf
 ·have hlt:i<D.runs.length:=by simp at h6;omega
  have hltP:i<D.pure.runs.length:=by omega
  obtain⟨g,hra⟩:=row_some hw2.runs (by omega);have hv:D.rv=.slice (some ⟨g,0,none⟩) D.runs.length D.rk:=by rw [WD.rv,hra]
  refine Ext.index slRun.u slRun.size rfl (by exact hv) rfl i rfl hlt ?_;conv=>whnf
  refine Ext.loadRun rfl hr hv hlt rfl ?_;conv=>whnf
  have ed:=pure_get D i hlt hltP;have hwi:IntKind.i64.wrap ((i:Int)+1)=((i+1:Nat):Int):=by rw [wrapN _ (by omega) (by omega)];omega
  have hin:=hw2.each i hlt;have hS:=hsm.each _ (pure_mem hlt);have hrb:Eld.runB D.runs[i].1.toE=true:=by rw [←ed];exact(hR.run i hltP).1
  have hF:RunF D.runs[i].1:=runF hrb;have hplc:D.runs[i].1.pl<D.code.length:=by rw [←ed];exact(hR.run i hltP).2.2
  generalize hd:D.runs[i]=y at *;obtain⟨d,p⟩:=y;dsimp only at hS hin ed hF hrb hplc ⊢;obtain⟨pk,hpk⟩:∃pk:Nat,d.pl=pk:=⟨d.pl.toNat,by have:=hF.pl.1;omega⟩;have hpk2:pk<U.length:=by omega
  have hpl:∃k:Nat,d.pl=k∧k<D.code.length:=⟨pk,hpk,by omega⟩;have hat:U[pk]=Eld.atV U d.pl.toNat:=by
   unfold Eld.atV;rw [hpk,List.getD_eq_getElem?_getD,show ((pk:Int)).toNat=pk by simp,List.getElem?_eq_getElem hpk2];rfl
  conv=>whnf
  refine⟨fun b1=>?_,fun b1=>?_⟩<;>conv=>whnf
  ·have h3:d.st=3:=by simpa using b1
   rw [hwi];exact W.back (ih (i+1) _ ⟨hlt,fun j hj hji=>(by
    rcases (by omega:j<i∨j=i) with h8|rfl
    ·exact hfit j hj h8
    ·rw [ed];exact⟨fun e=>absurd h3 e,fun e=>absurd h3 e,fun e=>by omega⟩),rfl⟩ (by omega)) [_] (by exact⟨rfl,rfl,rfl,rfl,rfl,trivial⟩) rfl rfl
  have hne:d.st≠3:=by simpa using b1
  obtain⟨gv,hfa⟩:=row_some hV (by omega);have hfv:Value.slice fa U.length fk=.slice (some ⟨gv,0,none⟩) U.length fk:=by rw [hfa]
  refine Ext.index slInt.u slInt.size rfl (by exact hfv) rfl pk hpk hpk2 ?_;conv=>whnf
  refine Ext.loadInt rfl hV hfv hpk2 rfl ?_;conv=>whnf
  refine⟨fun b2=>?_,fun b2=>?_⟩<;>conv=>whnf
  rotate_left
  ·refine⟨⟨false,rfl,fun e=>(by cases e),fun f=>?_⟩,hle⟩;have h1:=(f i hltP).nn (by rw [ed];exact hne);rw [ed,←hat] at h1;exact absurd (by simpa using b2) h1
  refine Ext.andNot rfl rfl rfl ?_;conv=>whnf
  refine⟨fun b3=>?_,fun b3=>?_⟩<;>conv=>whnf
  ·refine⟨⟨false,rfl,fun e=>(by cases e),fun f=>?_⟩,hle⟩;have h1:=(f i hltP).full (by rw [ed];exact hne);rw [ed,←hat] at h1;exact absurd h1 (by simpa using b3)
  have hnn:U[pk] ≠ -1:=by simpa using b2
  have hbits:bits .andNot .i64 U[pk] d.full=0:=by simpa using b3
  refine⟨fun b4=>?_,fun b4=>?_⟩<;>conv=>whnf
  ·have h2:d.st=2:=by simpa using b4
   refine(sleepOk_con D d p hS hpl h5 hw2 hin hrb).mono ?_;rintro r h5 ⟨rfl,rfl⟩;conv=>whnf
   refine⟨fun b5=>?_,fun b5=>?_⟩<;>conv=>whnf
   ·refine⟨⟨false,rfl,fun e=>(by cases e),fun f=>?_⟩,hle⟩;have h1:=(f i hltP).sl (by rw [ed];exact h2);rw [ed] at h1;rw [h1] at b5
    cases b5
   have hsl:sleepP D.pure d=true:=by simpa using b5
   rw [hwi];exact W.back (ih (i+1) _ ⟨hlt,fun j hj hji=>(by
    rcases (by omega:j<i∨j=i) with h8|rfl
    ·exact hfit j hj h8
    ·rw [ed];exact⟨fun _=>by rw [←hat];exact hnn,fun _=>by rw [←hat];exact hbits,fun _=>hsl⟩),rfl⟩ (by omega)) [_] (by exact⟨rfl,rfl,rfl,rfl,rfl,trivial⟩) rfl rfl
  have h2:d.st≠2:=by simpa using b4
  rw [hwi];exact W.back (ih (i+1) _ ⟨hlt,fun j hj hji=>(by
   rcases (by omega:j<i∨j=i) with h8|rfl
   ·exact hfit j hj h8
   ·rw [ed];exact⟨fun _=>by rw [←hat];exact hnn,fun _=>by rw [←hat];exact hbits,fun e=>absurd e h2⟩),rfl⟩ (by omega)) [_] (by exact⟨rfl,rfl,rfl,rfl,rfl,trivial⟩) rfl rfl
 ·have hge:i=D.runs.length:=by simp at h6;omega
  exact⟨⟨true,rfl,fun _ j hj=>hfit j hj (by omega),fun _=>rfl⟩,hle⟩
theorem iWorldOk_con (D:WD) (hsm:D.pure.Sm) (hy:∀d∈D.pure.runs,okV (d.wk,d.wn)=true) (h:Hp) (hw:WI h D) :
  Con Tryz.prog 26 #[D.val] h fun r h'=>(∃b,r=.bool b∧(b=true↔WOk D.pure))∧h'=h:=by
 have hC:D.code.length≤1000:=hsm.code;refine Con.of_W (tb:=tbE) (args:=[D.val]) Tryz.func26 rfl Tryz.results26 Tryz.ntmps26 (by simp) (Tryz.call26 _) (tm:=[(0,.a D.cells)]) rfl ?_;refine vc_ok ⟨tbE_ok,_,Tryz.func26,Tryz.results26,Tryz.ntmps26⟩ 400 _ _ _ _ ?_;conv=>whnf
 refine(iCodeSafe_con D.ca D.ck D.code (by omega) h hw.code).mono ?_;rintro r h1 ⟨⟨sb,rfl,hsafe⟩,rfl⟩;conv=>whnf
 refine⟨fun b0=>?_,fun b0=>?_⟩<;>conv=>whnf
 rotate_left
 ·have hs0:sb=false:=by simpa using b0
  exact⟨⟨false,rfl,fun e=>(by cases e),fun f=>by rw [hs0] at hsafe;have:=Eld.safeOf_one hsafe f.1;cases this⟩,rfl⟩
 subst b0;have hc:=safeOf_ok hsafe;obtain⟨V,hfull⟩:∃V,Eld.IsFull (D.code.map OpD.toV) V:=by
  rcases hsafe with⟨_,V,hV,_⟩|⟨_,e⟩
  ·exact⟨V,hV⟩
  ·cases e
 have hI:WOk D.pure→OkI D.pure V:=fun f=>(ok_iff (full_bd hfull) hy).2 (wok_full f hfull)
 refine(runsOk_con D hsm h1 hw).mono ?_;rintro r h1 ⟨⟨c0,rfl,hR⟩,rfl⟩;conv=>whnf
 refine⟨fun b1=>?_,fun b1=>?_⟩<;>conv=>whnf
 rotate_left
 ·have hs0:c0=false:=by simpa using b1
  refine⟨⟨false,rfl,fun e=>(by cases e),fun f=>?_⟩,rfl⟩;have f:=hI f;have:=hR.2 f.runs;rw [hs0] at this
  cases this
 subst b1;refine(queueOk_con D hsm h1 hw).mono ?_;rintro r h1 ⟨⟨c1,rfl,hQ⟩,rfl⟩;conv=>whnf
 refine⟨fun b2=>?_,fun b2=>?_⟩<;>conv=>whnf
 rotate_left
 ·have hs0:c1=false:=by simpa using b2
  refine⟨⟨false,rfl,fun e=>(by cases e),fun f=>?_⟩,rfl⟩;have f:=hI f;have:=hQ.2 ⟨f.q,f.ql⟩;rw [hs0] at this
  cases this
 subst b2;refine(countsOk_con D hsm h1 hw).mono ?_;rintro r h1 ⟨⟨c2,rfl,hN⟩,rfl⟩;conv=>whnf
 refine⟨fun b3=>?_,fun b3=>?_⟩<;>conv=>whnf
 rotate_left
 ·have hs0:c2=false:=by simpa using b3
  refine⟨⟨false,rfl,fun e=>(by cases e),fun f=>?_⟩,rfl⟩;have f:=hI f;have:=hN.2 ⟨f.cnt,f.sum⟩;rw [hs0] at this
  cases this
 subst b3;refine(placesOk_con D V hfull hsm h1 hw (hR.1 rfl) hc).mono ?_;rintro r h1 ⟨⟨c3,rfl,hP⟩,rfl⟩;conv=>whnf
 refine⟨fun b4=>?_,fun b4=>?_⟩<;>conv=>whnf
 rotate_left
 ·have hs0:c3=false:=by simpa using b4
  refine⟨⟨false,rfl,fun e=>(by cases e),fun f=>?_⟩,rfl⟩;have f:=hI f;have:=hP.2 f.place;rw [hs0] at this
  cases this
 subst b4;refine(tiesOk_con D hsm h1 hw (hR.1 rfl)).mono ?_;rintro r h1 ⟨⟨c4,rfl,hT⟩,rfl⟩;conv=>whnf
 refine⟨⟨c4,rfl,fun e=>?_,fun f=>?_⟩,rfl⟩
 ·refine⟨hsafe,V,hfull,(ok_iff (full_bd hfull) hy).1 ⟨hR.1 rfl,(hQ.1 rfl).1,(hQ.1 rfl).2,(hN.1 rfl).1,(hN.1 rfl).2,hP.1 rfl,hT.1 e⟩⟩
 ·have f:=hI f;exact hT.2 f.ties
theorem c_cb {h:Hp} {c:RdC} {cb:Option (Nat×Obj)} {q:Int} {l:List Atom} (hcb:c.cb=cb) (o:Own h (c.atoms q++l)):Own h (cbAtoms cb++l):=by
 have e:c.codeAt=cbAtoms cb:=by unfold RdC.codeAt cbAtoms;rw [hcb];cases cb<;>rfl
 have o2:Own h (c.codeAt++l):=o.tail;rw [e] at o2;exact o2
theorem lvAmong_con (va:Option Addr) (vc:Nat) (L:List Int) (n:Int) (hL:L.length<100000) (h:Hp) (hr:RowOk h (rowI (.slice va L.length vc) L)) :
  Con Tryz.prog 25 #[.slice va L.length vc,.int .i64 n] h fun r h'=>r=.bool (amongP L n)∧h'=h:=by
 refine Con.of_W (tb:=tbE) (args:=[.slice va L.length vc,.int .i64 n]) Tryz.func25 rfl Tryz.results25 Tryz.ntmps25 (by simp) (Tryz.call25 _) (tm:=[(0,.v (.slice va L.length vc)),(1,.v (.int .i64 n))]) rfl ?_;refine vc_ok ⟨tbE_ok,_,Tryz.func25,Tryz.results25,Tryz.ntmps25⟩ 400 _ _ _ _ ?_;conv=>whnf
 refine W.cut [(0,.v (.slice va L.length vc)),(1,.v (.int .i64 n)),(5,.v (.int .i64 (0:Nat)))] [] [] ⟨rfl,rfl,rfl,trivial⟩ rfl rfl ⟨_,rfl⟩ ?_;refine W.loop (α:=Nat) (fun i=>[(0,.v (.slice va L.length vc)),(1,.v (.int .i64 n)),(5,.v (.int .i64 (i:Int)))]) (fun _=>[]) (fun i h'=>i≤L.length∧amongP (L.take i) n=false∧h'=h) (fun i=>L.length-i) ?_ 0 h ⟨Nat.zero_le _,rfl,rfl⟩;rintro i h2 ⟨hi,hn,rfl⟩ ih;refine vc_ok ⟨tbE_ok,_,Tryz.func25,Tryz.results25,Tryz.ntmps25⟩ 400 _ _ _ _ ?_;conv=>whnf
 refine⟨fun h3=>?_,fun h3=>?_⟩<;>conv=>whnf
 ·have hlt:i<L.length:=by simp at h3;omega
  obtain⟨gl,hva⟩:=row_some hr (by omega);subst hva;refine Ext.index slInt.u slInt.size rfl rfl rfl i rfl hlt ?_;conv=>whnf
  refine Ext.loadInt rfl hr rfl hlt rfl ?_;conv=>whnf
  refine⟨fun h4=>?_,fun h4=>?_⟩<;>conv=>whnf
  ·refine⟨?_,rfl⟩;have:amongP L n=true:=List.any_eq_true.2 ⟨L[i],List.getElem_mem _,h4⟩;rw [this];rfl
  ·have ht:L.take (i+1)=L.take i++[L[i]]:=by rw [List.take_succ_eq_append_getElem hlt]
   have hw:IntKind.i64.wrap ((i:Int)+1)=((i+1:Nat):Int):=by rw [wrapN _ (by omega) (by omega)];omega
   rw [hw];refine W.back (ih (i+1) h2 ⟨hlt,?_,rfl⟩ (by omega)) [] (by exact⟨rfl,rfl,rfl,trivial⟩) rfl rfl;rw [ht,amongP,List.any_append,←amongP,hn];simpa using h4
 ·have hge:i=L.length:=by simp at h3;omega
  refine⟨?_,rfl⟩;rw [hge,List.take_length] at hn;rw [hn];rfl
theorem lvState_con (D:WD) (i:Nat) (hi:i<D.runs.length) (hn:D.runs.length≤1000) (id:Int) (hid:id=(i:Int)+1) (h:Hp) (hw:WIn h D) :
  Con Tryz.prog 23 #[D.val,.int .i64 id] h fun r h'=>r=.int .i64 D.runs[i].1.st∧h'=h:=by
 have hr:RowOk h (rowR D.rv D.runs):=hw.runs;obtain⟨g,hra⟩:=row_some hr (by omega);have hv:D.rv=.slice (some ⟨g,0,none⟩) D.runs.length D.rk:=by rw [WD.rv,hra]
 refine Con.of_W (tb:=tbE) (args:=[D.val,.int .i64 id]) Tryz.func23 rfl Tryz.results23 Tryz.ntmps23 (by simp) (Tryz.call23 _) (tm:=[(0,.a D.cells),(1,.v (.int .i64 id))]) rfl ?_;refine vc_ok ⟨tbE_ok,_,Tryz.func23,Tryz.results23,Tryz.ntmps23⟩ 400 _ _ _ _ ?_;conv=>whnf
 refine⟨fun b1=>?_,fun b1=>?_⟩<;>conv=>whnf
 ·refine⟨fun b2=>?_,fun b2=>?_⟩<;>conv=>whnf
  ·have h2:(D.runs.length:Int)<id:=by simpa using b2
   omega
  have hz:IntKind.i64.wrap (id-1)=(i:Int):=by rw [hid,show (i:Int)+1-1=i by omega];exact wrapN _ (by omega) (by omega)
  refine Ext.index slRun.u slRun.size rfl (by exact hv) rfl i hz hi ?_;conv=>whnf
  refine Ext.loadRunCell (D:=D) rfl ⟨rfl,rfl⟩ rfl hr hv hi 5 (by decide) rfl (.int .i64 D.runs[i].1.st) rfl ?_;conv=>whnf
  exact⟨rfl,rfl⟩
 ·have h2:id<1:=by simpa using b1
  omega
end Go.Proofs.YtgmkmeodimmdoaaGreatDoor
