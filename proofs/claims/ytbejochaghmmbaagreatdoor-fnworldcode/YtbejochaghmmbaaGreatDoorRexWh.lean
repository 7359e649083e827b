import Derived.Test.YtbejochaghmmbaaGreatDoorRexWg
namespace Go.Proofs.YtbejochaghmmbaaGreatDoor
open Go.RowKit
set_option maxRecDepth 100000
theorem lvAmong_con (va:Option Addr) (vc:Nat) (L:List Int) (n:Int) (hL:L.length<100000) (h:Hp) (hr:RowOk h (rowI (.slice va L.length vc) L)) :
  Con Tryz.prog 25 #[.slice va L.length vc,.int .i64 n] h fun r h'=>r=.bool (amongP L n)∧h'=h:=by
 refine Con.of_W (tb:=tbE) (args:=[.slice va L.length vc,.int .i64 n]) Tryz.func25 rfl Tryz.results25 Tryz.ntmps25 (by simp) (Tryz.call25 _) (tm:=[(0,.v (.slice va L.length vc)),(1,.v (.int .i64 n))]) rfl ?_
 refine vc_ok ⟨tbE_ok,_,Tryz.func25,Tryz.results25,Tryz.ntmps25⟩ 400 _ _ _ _ ?_
 conv=>whnf
 refine W.cut [(0,.v (.slice va L.length vc)),(1,.v (.int .i64 n)),(5,.v (.int .i64 (0:Nat)))] [] [] ⟨rfl,rfl,rfl,trivial⟩ rfl rfl ⟨_,rfl⟩ ?_
 refine W.loop (α:=Nat) (fun i=>[(0,.v (.slice va L.length vc)),(1,.v (.int .i64 n)),(5,.v (.int .i64 (i:Int)))]) (fun _=>[]) (fun i h'=>i≤L.length∧amongP (L.take i) n=false∧h'=h) (fun i=>L.length-i) ?_ 0 h ⟨Nat.zero_le _,rfl,rfl⟩
 rintro i h2 ⟨hi,hn,rfl⟩ ih
 refine vc_ok ⟨tbE_ok,_,Tryz.func25,Tryz.results25,Tryz.ntmps25⟩ 400 _ _ _ _ ?_
 conv=>whnf
 refine⟨fun h3=>?_,fun h3=>?_⟩<;>conv=>whnf
 ·have hlt:i<L.length:=by simp at h3;omega
  obtain⟨gl,hva⟩:=row_some hr (by omega)
  subst hva
  refine Ext.index slInt.u slInt.size rfl rfl rfl i rfl hlt ?_
  conv=>whnf
  refine Ext.loadInt rfl hr rfl hlt rfl ?_
  conv=>whnf
  refine⟨fun h4=>?_,fun h4=>?_⟩<;>conv=>whnf
  ·refine⟨?_,rfl⟩
   have:amongP L n=true:=List.any_eq_true.2 ⟨L[i],List.getElem_mem _,h4⟩
   rw [this];rfl
  ·have ht:L.take (i+1)=L.take i++[L[i]]:=by rw [List.take_succ_eq_append_getElem hlt]
   have hw:IntKind.i64.wrap ((i:Int)+1)=((i+1:Nat):Int):=by rw [wrapN _ (by omega) (by omega)];omega
   rw [hw]
   refine W.back (ih (i+1) h2 ⟨hlt,?_,rfl⟩ (by omega)) [] (by exact⟨rfl,rfl,rfl,trivial⟩) rfl rfl
   rw [ht,amongP,List.any_append,←amongP,hn]
   simpa using h4
 ·have hge:i=L.length:=by simp at h3;omega
  refine⟨?_,rfl⟩
  rw [hge,List.take_length] at hn
  rw [hn];rfl
theorem lvState_con (D:WD) (i:Nat) (hi:i<D.runs.length) (hn:D.runs.length≤1000) (id:Int) (hid:id=(i:Int)+1) (h:Hp) (hw:WIn h D) :
  Con Tryz.prog 27 #[D.val,.int .i64 id] h fun r h'=>r=.int .i64 D.runs[i].1.st∧h'=h:=by
 have hr:RowOk h (rowR D.rv D.runs):=hw.runs
 obtain⟨g,hra⟩:=row_some hr (by omega)
 have hv:D.rv=.slice (some ⟨g,0,none⟩) D.runs.length D.rk:=by rw [WD.rv,hra]
 refine Con.of_W (tb:=tbE) (args:=[D.val,.int .i64 id]) Tryz.func27 rfl Tryz.results27 Tryz.ntmps27 (by simp) (Tryz.call27 _) (tm:=[(0,.a D.cells),(1,.v (.int .i64 id))]) rfl ?_
 refine vc_ok ⟨tbE_ok,_,Tryz.func27,Tryz.results27,Tryz.ntmps27⟩ 400 _ _ _ _ ?_
 conv=>whnf
 refine⟨fun b1=>?_,fun b1=>?_⟩<;>conv=>whnf
 ·refine⟨fun b2=>?_,fun b2=>?_⟩<;>conv=>whnf
  ·have h2:(D.runs.length:Int)<id:=by simpa using b2
   omega
  have hz:IntKind.i64.wrap (id-1)=(i:Int):=by rw [hid,show (i:Int)+1-1=i by omega];exact wrapN _ (by omega) (by omega)
  refine Ext.index slRun.u slRun.size rfl (by exact hv) rfl i hz hi ?_
  conv=>whnf
  refine Ext.loadRunCell (D:=D) rfl ⟨rfl,rfl⟩ rfl hr hv hi 5 (by decide) rfl (.int .i64 D.runs[i].1.st) rfl ?_
  conv=>whnf
  exact⟨rfl,rfl⟩
 ·have h2:id<1:=by simpa using b1
  omega
theorem lvSum_con (D:WD) (hsm:D.pure.Sm) (h:Hp) (hw:WIn h D) :
  Con Tryz.prog 19 #[D.val] h fun r h'=>r=.bool (D.sent==wr (wr (D.taken+D.lost)+(mailsP D.pure.runs:Int)))∧h'=h:=by
 have hn:D.runs.length≤1000:=by have:=hsm.runs;rw [pure_len] at this;exact this
 have hlenP:=pure_len D
 have hml:∀d∈D.pure.runs,d.mail.length≤1000:=fun d hd=>(hsm.each d hd).s1
 have hr:RowOk h (rowR D.rv D.runs):=hw.runs
 refine Con.of_W (tb:=tbE) (args:=[D.val]) Tryz.func19 rfl Tryz.results19 Tryz.ntmps19 (by simp) (Tryz.call19 _) (tm:=[(0,.a D.cells)]) rfl ?_
 refine vc_ok ⟨tbE_ok,_,Tryz.func19,Tryz.results19,Tryz.ntmps19⟩ 400 _ _ _ _ ?_
 conv=>whnf
 refine W.cut [(4,.v (.int .i64 (0:Nat))),(3,.v (.int .i64 (mailsP (D.pure.runs.take 0):Nat))),(1,.p 0 0)] [⟨28,D.cells⟩] [] ⟨rfl,rfl,rfl,trivial⟩ rfl rfl ⟨_,rfl⟩ ?_
 refine W.loop (α:=Nat) (fun i=>[(4,.v (.int .i64 (i:Nat))),(3,.v (.int .i64 (mailsP (D.pure.runs.take i):Nat))),(1,.p 0 0)]) (fun _=>[⟨28,D.cells⟩]) (fun i h'=>i≤D.runs.length∧h'=h) (fun i=>D.runs.length-i) ?_ 0 h ⟨Nat.zero_le _,rfl⟩
 rintro i h5 ⟨hi,rfl⟩ ih
 refine vc_ok ⟨tbE_ok,_,Tryz.func19,Tryz.results19,Tryz.ntmps19⟩ 400 _ _ _ _ ?_
 conv=>whnf
 refine⟨fun h6=>?_,fun h6=>?_⟩<;>conv=>whnf
 ·have hlt:i<D.runs.length:=by simp at h6;omega
  have hltP:i<D.pure.runs.length:=by omega
  obtain⟨g,hra⟩:=row_some hw.runs (by omega)
  have hv:D.rv=.slice (some ⟨g,0,none⟩) D.runs.length D.rk:=by rw [WD.rv,hra]
  refine Ext.index slRun.u slRun.size rfl (by exact hv) rfl i rfl hlt ?_
  conv=>whnf
  refine Ext.loadRunCell (D:=D) rfl ⟨rfl,rfl⟩ rfl hr hv hlt 4 (by decide) rfl (.slice D.runs[i].2.a1 D.runs[i].1.mail.length D.runs[i].2.k1) rfl ?_
  conv=>whnf
  have hm1:=mails_le hml i
  have hm2:=hml _ (List.getElem_mem hltP)
  have hm3:=mails_take D.pure.runs i hltP
  have hg:D.pure.runs[i].mail.length=D.runs[i].1.mail.length:=by rw [pure_get D i hlt hltP]
  have hwm:IntKind.i64.wrap ((mailsP (D.pure.runs.take i):Int)+(D.runs[i].1.mail.length:Int))=((mailsP (D.pure.runs.take (i+1)):Nat):Int):=by rw [wrapN _ (by omega) (by omega)];omega
  have hwk:IntKind.i64.wrap ((i:Int)+1)=((i+1:Nat):Int):=by rw [wrapN _ (by omega) (by omega)];omega
  rw [hwm,hwk]
  exact W.back (ih (i+1) _ ⟨hlt,rfl⟩ (by omega)) [] (by exact⟨rfl,rfl,rfl,trivial⟩) rfl rfl
 ·have hge:i=D.runs.length:=by simp at h6;omega
  have hT:D.pure.runs.take i=D.pure.runs:=by rw [List.take_of_length_le (by omega)]
  rw [hT]
  exact⟨rfl,rfl⟩
end Go.Proofs.YtbejochaghmmbaaGreatDoor
