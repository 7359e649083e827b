import Derived.Test.YtbejochaghmmbaaGreatDoorRexWk
import Derived.Test.YtbejochaghmmbaaGreatDoorSj
import Derived.Test.YtbejochaghmmbaaGreatDoorEFrameN
import Derived.Test.YtbejochaghmmbaaGreatDoorFcFnWorldGoes
namespace Go.Proofs.YtbejochaghmmbaaGreatDoor
open Go.ChangeShapes Go.WideShapes Go.ChangeAt Go.RowKit Go.Joins
set_option maxRecDepth 100000
namespace FnWorldGoes
theorem law (a:Option Addr) (len cap:Nat) (cb:Option (Nat×Obj)) (hc:CodeIn a len cap cb) :
  Con Tryz.prog 5 #[.slice a len cap] (cbHp cb) (Yes cb):=by
 refine Con.of_W (tb:=tbE) (args:=[.slice a len cap]) Tryz.func5 rfl Tryz.results5 Tryz.ntmps5 (by simp) (Tryz.call5 _) (tm:=[(0,.v (.slice a len cap))]) rfl ?_
 refine vc_ok ⟨tbE_ok,_,Tryz.func5,Tryz.results5,Tryz.ntmps5⟩ 400 _ _ _ _ ?_
 conv=>whnf
 refine Ext.len Tryz.underlying22 rfl rfl ?_
 conv=>whnf
 refine⟨fun _=>?_,fun _=>?_⟩<;>conv=>whnf
 ·exact⟨rfl,Hp.le_refl _⟩
 have ho:Own (cbHp cb) (cbAtoms cb++[]):=by rw [List.append_nil];exact cb_own cb
 refine(drawWorldOk_con a len cap cb hc _ [] ho).mono ?_
 rintro r h1 ⟨D,rfl,hd,ho1⟩
 have hw:WIn h1 D:=ho1.win fun x hx=>List.mem_append_right _ (List.mem_append_left _ hx)
 have hsm:=hd.sm
 have hle:(cbHp cb).le h1:=cb_le ho1
 conv=>whnf
 refine(iWorldOk_con D hsm hd.why h1 hw.wi).mono ?_
 rintro r h1 ⟨⟨b,rfl,hb⟩,rfl⟩
 conv=>whnf
 refine(sWorldOk_con D hsm h1 hw).mono ?_
 rintro r h1 ⟨⟨b',rfl,hb'⟩,rfl⟩
 obtain rfl:b'=b:=by rw [Bool.eq_iff_iff,hb,hb']
 conv=>whnf
 refine Ext.neqB rfl rfl rfl ?_
 conv=>whnf
 refine⟨fun _=>?_,fun h3=>absurd h3 (by simp)⟩
 conv=>whnf
 refine⟨fun b0=>?_,fun b0=>?_⟩<;>conv=>whnf
 ·refine(sWorldOk_con D hsm h1 hw).mono ?_
  rintro r h1 ⟨⟨b,rfl,hb2⟩,rfl⟩
  obtain rfl:b=b':=by rw [Bool.eq_iff_iff,hb2,hb]
  conv=>whnf
  refine Ext.eqlB rfl rfl rfl ?_
  conv=>whnf
  exact⟨congrArg Value.bool (by simp),hle⟩
 have hok:WOk D.pure:=hb.1 (by simpa using b0)
 clear b0 hb hb'
 have hwok:=hok
 obtain⟨_,V,hfull,ok⟩:=hok
 have hI:OkI D.pure V:=(ok_iff (full_bd hfull) hd.why).2 ok
 have hn:D.runs.length≤1000:=by have:=hsm.runs;rw [pure_len] at this;exact this
 have hQ:D.queue.length≤1000:=hsm.queue
 have hlenP:=pure_len D
 have hr:RowOk h1 (rowR D.rv D.runs):=hw.runs
 refine W.cut [(5,.v (.int .i64 (goingP (D.pure.runs.take 0):Nat))),(6,.v (.int .i64 (0:Nat))),(3,.p 0 0)] [⟨28,D.cells⟩] [] ⟨rfl,rfl,rfl,trivial⟩ rfl rfl ⟨_,rfl⟩ ?_
 refine W.loop (α:=Nat) (fun i=>[(5,.v (.int .i64 (goingP (D.pure.runs.take i):Nat))),(6,.v (.int .i64 (i:Nat))),(3,.p 0 0)]) (fun _=>[⟨28,D.cells⟩]) (fun i h'=>i≤D.runs.length∧h'=h1) (fun i=>D.runs.length-i) ?_ 0 h1 ⟨Nat.zero_le _,rfl⟩
 rintro i h5 ⟨hi,rfl⟩ ih
 refine vc_ok ⟨tbE_ok,_,Tryz.func5,Tryz.results5,Tryz.ntmps5⟩ 400 _ _ _ _ ?_
 conv=>whnf
 refine⟨fun h6=>?_,fun h6=>?_⟩<;>conv=>whnf
 ·have hlt:i<D.runs.length:=by simp at h6;omega
  have hltP:i<D.pure.runs.length:=by omega
  obtain⟨g,hra⟩:=row_some hw.runs (by omega)
  have hv:D.rv=.slice (some ⟨g,0,none⟩) D.runs.length D.rk:=by rw [WD.rv,hra]
  refine Ext.index slRun.u slRun.size rfl (by exact hv) rfl i rfl hlt ?_
  conv=>whnf
  refine Ext.loadRunCell (D:=D) rfl ⟨rfl,rfl⟩ rfl hr hv hlt 5 (by decide) rfl (.int .i64 D.runs[i].1.st) rfl ?_
  conv=>whnf
  have ed:=pure_get D i hlt hltP
  have hwi:IntKind.i64.wrap ((i:Int)+1)=((i+1:Nat):Int):=by rw [wrapN _ (by omega) (by omega)];omega
  have hgt:=going_take D.pure.runs i hltP
  have hgl:=going_le (D.pure.runs.take i)
  have hgl2:(D.pure.runs.take i).length≤i:=by rw [List.length_take];omega
  have hqi:=hI.q i hltP
  have hidi:=(ok.fit i hltP).id
  rw [ed] at hgt hqi hidi
  refine⟨fun b1=>?_,fun b1=>?_⟩<;>conv=>whnf
  ·have hst:D.runs[i].1.st=1:=by simpa using b1
   rw [if_pos hst] at hgt
   have hwg:IntKind.i64.wrap ((goingP (D.pure.runs.take i):Int)+1)=((goingP (D.pure.runs.take (i+1)):Nat):Int):=by rw [wrapN _ (by omega) (by omega)];omega
   rw [hwg,hwi]
   have hmem:amongP D.queue D.runs[i].1.id=true:=among_mem.2 (hqi hst)
   rw [hidi] at hmem
   refine(lvAmong_con D.qa D.qk D.queue ((i+1:Nat):Int) (by omega) h5 hw.queue).mono ?_
   rintro r h5 ⟨rfl,rfl⟩
   rw [show ((i+1:Nat):Int)=(i:Int)+1 by omega,hmem]
   conv=>whnf
   refine⟨fun h3=>absurd h3 (by simp),fun _=>?_⟩
   conv=>whnf
   rw [hwi]
   exact W.back (ih (i+1) _ ⟨hlt,rfl⟩ (by omega)) [] (by exact⟨rfl,rfl,rfl,trivial⟩) rfl rfl
  ·have hst:¬D.runs[i].1.st=1:=by simpa using b1
   rw [if_neg hst] at hgt
   have hT:goingP (D.pure.runs.take i)=goingP (D.pure.runs.take (i+1)):=by omega
   rw [hwi,hT]
   exact W.back (ih (i+1) _ ⟨hlt,rfl⟩ (by omega)) [] (by exact⟨rfl,rfl,rfl,trivial⟩) rfl rfl
 have hge:i=D.runs.length:=by simp at h6;omega
 have hT:D.pure.runs.take i=D.pure.runs:=by rw [List.take_of_length_le (by omega)]
 have hql:D.queue.length=goingP D.pure.runs:=hI.ql
 rw [hT,←hql]
 refine⟨fun b1=>?_,fun b1=>?_⟩<;>conv=>whnf
 ·have h0:D.queue.length=0:=by(have:(D.queue.length:Int)=0:=by simpa using b1);omega
  rw [h0]
  exact⟨rfl,hle⟩
 have hq0:0<D.queue.length:=by(have:¬(D.queue.length:Int)=0:=by simpa using b1);omega
 obtain⟨gq,hqa⟩:=row_some hw.queue (by omega)
 have hqv:D.qv=.slice (some ⟨gq,0,none⟩) D.queue.length D.qk:=by rw [WD.qv,hqa]
 have hor:Own h5 (.row (rowI D.qv D.queue)::(.row (rowR D.rv D.runs)::.row (rowO D.cv D.code)::(D.runs.flatMap runRows++cbAtoms cb))):=ho1.perm (perm_of fun x=>by simp only [wAtoms,List.count_append,List.count_cons,List.count_nil];omega)
 obtain⟨ob,hob,hof,hthaw⟩:=Own.freeze (r:=rowI D.qv D.queue) hor hqv
 clear hor ho1 hw hr
 have hrow:∀{h':Hp} {L:List Atom},Own h' L→Atom.blk gq ob∈L→RowOk h' (rowI D.qv D.queue):=fun o hm=>hthaw _ (o.ok _ hm)
 have hone:∀{h':Hp} {L:List Atom},Own h' L→Atom.blk gq ob∈L→(oneB gq ob).le h':=fun o hm=>oneB_le (o.ok _ hm)
 refine W.draw [(1,true),(2,true),(4,true),(5,true),(6,true),(7,true),(1000008,false),(1003008,false),(8,false),(9,false),(10,true),(11,false)] [0] (some (oneB gq ob)) 99 (by kernel_rfl) rfl (by kernel_rfl) mixed rfl (fun g e=>by cases e;exact oneB_le hob) ?_
 refine vc_ok ⟨tbE_ok,_,Tryz.func5,Tryz.results5,Tryz.ntmps5⟩ 400 _ _ _ _ ?_
 conv=>whnf
 refine Rd.index slInt.u slInt.size rfl (by exact hqv) rfl 0 rfl hq0 ?_
 conv=>whnf
 refine Rd.loadInt rfl (hthaw _ (oneB_at gq ob)) hqv hq0 rfl ?_
 conv=>whnf
 refine⟨?_,?_⟩
 ·refine Ext.litI0 rfl hof fun g6 h6 _ ho6=>?_
  conv=>whnf
  refine⟨hone ho6 (by simp),?_⟩
  conv=>whnf
  refine⟨?_,?_⟩
  ·refine Ext.pushIs (M:=D.queue) rfl ho6 (hrow ho6 (by simp)) rfl rfl (by simp;omega) fun a7 k7 h7 ho7=>?_
   have ho7':Own h7 (.row (rowI (.slice a7 D.queue.length k7) D.queue)::.blk gq ob::_):=ho7
   conv=>whnf
   refine⟨hone ho7 (by simp),?_⟩
   conv=>whnf
   refine Ext.litI rfl ho7' D.queue[0] rfl fun g8 h8 _ ho8=>?_
   conv=>whnf
   refine⟨hone ho8 (by simp),?_⟩
   conv=>whnf
   refine Ext.pushI rfl ho8 rfl rfl (by omega) fun a9 k9 h9 ho9=>?_
   conv=>whnf
   refine⟨hone ho9 (by simp),?_⟩
   conv=>whnf
   have hD:Own h9 (.row (rowI (.slice a9 (D.queue++[D.queue[0]]).length k9) (D.queue++[D.queue[0]]))::.blk gq ob::(.row (rowR D.rv D.runs)::.row (rowO D.cv D.code)::(D.runs.flatMap runRows++cbAtoms cb))):=ho9
   have hX:WIn h9 (D.setQ (D.queue++[D.queue[0]]) a9 k9):=hD.win fun x hx=>(by
    simp only [wAtoms,List.mem_cons,List.mem_append] at hx ⊢
    rcases hx with rfl | rfl | rfl | hx
    ·exact .inr (.inr (.inl rfl))
    ·exact .inl rfl
    ·exact .inr (.inr (.inr (.inl rfl)))
    ·exact .inr (.inr (.inr (.inr (.inl hx)))))
   have hle9:(cbHp cb).le h9:=cb_le (cb:=cb) (l:=.row (rowI (.slice a9 (D.queue++[D.queue[0]]).length k9) (D.queue++[D.queue[0]]))::.blk gq ob::(.row (rowR D.rv D.runs)::.row (rowO D.cv D.code)::D.runs.flatMap runRows)) (hD.perm (perm_of fun x=>by simp only [List.count_append,List.count_cons];omega))
   refine Ext.rest slInt rfl (by exact hqv) 1 (by omega) rfl ?_
   rintro o' ho'
   have hqr:RowOk h9 (rowI (.slice D.qa D.queue.length D.qk) D.queue):=hrow hD (by simp)
   have hY:WI h9 { D with queue:=D.queue.tail,qa:=some ⟨gq,o',none⟩,qk:=D.qk-1 }:=⟨hX.code,hX.runs,fun w hw=>(by
    rcases ho' with h0 | rfl
    ·have hcap:=row_cap hqr
     have hnil:D.queue.tail=[]:=List.eq_nil_of_length_eq_zero (by rw [List.length_tail];omega)
     exact⟨_,_,rfl,.inl hnil⟩
    ·have:=ints_at hqr hw
     rw [hqa] at this
     exact ints_tail hq0 this),hX.each⟩
   have hsX:(D.setQ (D.queue++[D.queue[0]]) a9 k9).pure.Sm:=⟨hsm.code,hsm.runs,(by show (D.queue++[D.queue[0]]).length≤1000;have h7:D.queue.length≤7:=hd.facts.2.2.2.1;rw [List.length_append];simp;omega),hsm.each⟩
   have hsY:({ D with queue:=D.queue.tail,qa:=some ⟨gq,o',none⟩,qk:=D.qk-1 }:WD).pure.Sm:=⟨hsm.code,hsm.runs,(by show D.queue.tail.length≤1000;rw [List.length_tail];omega),hsm.each⟩
   rw [show D.queue.length-1=D.queue.tail.length from List.length_tail.symm]
   conv=>whnf
   refine⟨fun _=>?_,fun h3=>absurd h3 (by simp)⟩
   conv=>whnf
   refine(iWorldOk_con (D.setQ (D.queue++[D.queue[0]]) a9 k9) hsX hd.why h9 hX.wi).mono ?_
   rintro r h9 ⟨⟨bx,rfl,hbx⟩,rfl⟩
   obtain rfl:bx=false:=Bool.eq_false_iff.2 fun e=>more_no (w:=D.pure) hq0 (hbx.1 e)
   conv=>whnf
   refine⟨fun _=>?_,fun h3=>absurd h3 (by simp)⟩
   conv=>whnf
   refine(iWorldOk_con { D with queue:=D.queue.tail,qa:=some ⟨gq,o',none⟩,qk:=D.qk-1 } hsY hd.why h9 hY).mono ?_
   rintro r h9 ⟨⟨by_,rfl,hby⟩,rfl⟩
   obtain rfl:by_=false:=Bool.eq_false_iff.2 fun e=>less_no (w:=D.pure) ok hq0 (hby.1 e)
   conv=>whnf
   exact⟨rfl,hle9⟩
  ·refine Ext.litI rfl ho6 D.queue[0] rfl fun g7 h7 _ ho7=>?_
   conv=>whnf
   refine⟨hone ho7 (by simp),?_⟩
   conv=>whnf
   refine Ext.pushIs (M:=D.queue) rfl ho7.swap (hrow ho7 (by simp)) rfl rfl (by simp;omega) fun a8 k8 h8 ho8=>?_
   have ho8':Own h8 (.row (rowI (.slice a8 D.queue.length k8) D.queue)::_::.blk gq ob::_):=ho8
   conv=>whnf
   refine⟨hone ho8 (by simp),?_⟩
   conv=>whnf
   refine Ext.pushI rfl ho8'.swap rfl rfl (by omega) fun a9 k9 h9 ho9=>?_
   conv=>whnf
   refine⟨hone ho9 (by simp),?_⟩
   conv=>whnf
   have hD:Own h9 (.row (rowI (.slice a9 (D.queue++[D.queue[0]]).length k9) (D.queue++[D.queue[0]]))::.blk gq ob::(.row (rowR D.rv D.runs)::.row (rowO D.cv D.code)::(D.runs.flatMap runRows++cbAtoms cb))):=ho9
   have hX:WIn h9 (D.setQ (D.queue++[D.queue[0]]) a9 k9):=hD.win fun x hx=>(by
    simp only [wAtoms,List.mem_cons,List.mem_append] at hx ⊢
    rcases hx with rfl | rfl | rfl | hx
    ·exact .inr (.inr (.inl rfl))
    ·exact .inl rfl
    ·exact .inr (.inr (.inr (.inl rfl)))
    ·exact .inr (.inr (.inr (.inr (.inl hx)))))
   have hle9:(cbHp cb).le h9:=cb_le (cb:=cb) (l:=.row (rowI (.slice a9 (D.queue++[D.queue[0]]).length k9) (D.queue++[D.queue[0]]))::.blk gq ob::(.row (rowR D.rv D.runs)::.row (rowO D.cv D.code)::D.runs.flatMap runRows)) (hD.perm (perm_of fun x=>by simp only [List.count_append,List.count_cons];omega))
   refine Ext.rest slInt rfl (by exact hqv) 1 (by omega) rfl ?_
   rintro o' ho'
   have hqr:RowOk h9 (rowI (.slice D.qa D.queue.length D.qk) D.queue):=hrow hD (by simp)
   have hY:WI h9 { D with queue:=D.queue.tail,qa:=some ⟨gq,o',none⟩,qk:=D.qk-1 }:=⟨hX.code,hX.runs,fun w hw=>(by
    rcases ho' with h0 | rfl
    ·have hcap:=row_cap hqr
     have hnil:D.queue.tail=[]:=List.eq_nil_of_length_eq_zero (by rw [List.length_tail];omega)
     exact⟨_,_,rfl,.inl hnil⟩
    ·have:=ints_at hqr hw
     rw [hqa] at this
     exact ints_tail hq0 this),hX.each⟩
   have hsX:(D.setQ (D.queue++[D.queue[0]]) a9 k9).pure.Sm:=⟨hsm.code,hsm.runs,(by show (D.queue++[D.queue[0]]).length≤1000;have h7:D.queue.length≤7:=hd.facts.2.2.2.1;rw [List.length_append];simp;omega),hsm.each⟩
   have hsY:({ D with queue:=D.queue.tail,qa:=some ⟨gq,o',none⟩,qk:=D.qk-1 }:WD).pure.Sm:=⟨hsm.code,hsm.runs,(by show D.queue.tail.length≤1000;rw [List.length_tail];omega),hsm.each⟩
   rw [show D.queue.length-1=D.queue.tail.length from List.length_tail.symm]
   conv=>whnf
   refine⟨fun _=>?_,fun h3=>absurd h3 (by simp)⟩
   conv=>whnf
   refine(iWorldOk_con (D.setQ (D.queue++[D.queue[0]]) a9 k9) hsX hd.why h9 hX.wi).mono ?_
   rintro r h9 ⟨⟨bx,rfl,hbx⟩,rfl⟩
   obtain rfl:bx=false:=Bool.eq_false_iff.2 fun e=>more_no (w:=D.pure) hq0 (hbx.1 e)
   conv=>whnf
   refine⟨fun _=>?_,fun h3=>absurd h3 (by simp)⟩
   conv=>whnf
   refine(iWorldOk_con { D with queue:=D.queue.tail,qa:=some ⟨gq,o',none⟩,qk:=D.qk-1 } hsY hd.why h9 hY).mono ?_
   rintro r h9 ⟨⟨by_,rfl,hby⟩,rfl⟩
   obtain rfl:by_=false:=Bool.eq_false_iff.2 fun e=>less_no (w:=D.pure) ok hq0 (hby.1 e)
   conv=>whnf
   exact⟨rfl,hle9⟩
 ·refine Ext.litI rfl hof D.queue[0] rfl fun g6 h6 _ ho6=>?_
  conv=>whnf
  refine⟨hone ho6 (by simp),?_⟩
  conv=>whnf
  refine Ext.litI0 rfl ho6 fun g7 h7 _ ho7=>?_
  conv=>whnf
  refine⟨hone ho7 (by simp),?_⟩
  conv=>whnf
  refine Ext.pushIs (M:=D.queue) rfl ho7 (hrow ho7 (by simp)) rfl rfl (by simp;omega) fun a8 k8 h8 ho8=>?_
  have ho8':Own h8 (.row (rowI (.slice a8 D.queue.length k8) D.queue)::_::.blk gq ob::_):=ho8
  conv=>whnf
  refine⟨hone ho8 (by simp),?_⟩
  conv=>whnf
  refine Ext.pushI rfl ho8'.swap rfl rfl (by omega) fun a9 k9 h9 ho9=>?_
  conv=>whnf
  refine⟨hone ho9 (by simp),?_⟩
  conv=>whnf
  have hD:Own h9 (.row (rowI (.slice a9 (D.queue++[D.queue[0]]).length k9) (D.queue++[D.queue[0]]))::.blk gq ob::(.row (rowR D.rv D.runs)::.row (rowO D.cv D.code)::(D.runs.flatMap runRows++cbAtoms cb))):=ho9
  have hX:WIn h9 (D.setQ (D.queue++[D.queue[0]]) a9 k9):=hD.win fun x hx=>(by
   simp only [wAtoms,List.mem_cons,List.mem_append] at hx ⊢
   rcases hx with rfl | rfl | rfl | hx
   ·exact .inr (.inr (.inl rfl))
   ·exact .inl rfl
   ·exact .inr (.inr (.inr (.inl rfl)))
   ·exact .inr (.inr (.inr (.inr (.inl hx)))))
  have hle9:(cbHp cb).le h9:=cb_le (cb:=cb) (l:=.row (rowI (.slice a9 (D.queue++[D.queue[0]]).length k9) (D.queue++[D.queue[0]]))::.blk gq ob::(.row (rowR D.rv D.runs)::.row (rowO D.cv D.code)::D.runs.flatMap runRows)) (hD.perm (perm_of fun x=>by simp only [List.count_append,List.count_cons];omega))
  refine Ext.rest slInt rfl (by exact hqv) 1 (by omega) rfl ?_
  rintro o' ho'
  have hqr:RowOk h9 (rowI (.slice D.qa D.queue.length D.qk) D.queue):=hrow hD (by simp)
  have hY:WI h9 { D with queue:=D.queue.tail,qa:=some ⟨gq,o',none⟩,qk:=D.qk-1 }:=⟨hX.code,hX.runs,fun w hw=>(by
   rcases ho' with h0 | rfl
   ·have hcap:=row_cap hqr
    have hnil:D.queue.tail=[]:=List.eq_nil_of_length_eq_zero (by rw [List.length_tail];omega)
    exact⟨_,_,rfl,.inl hnil⟩
   ·have:=ints_at hqr hw
    rw [hqa] at this
    exact ints_tail hq0 this),hX.each⟩
  have hsX:(D.setQ (D.queue++[D.queue[0]]) a9 k9).pure.Sm:=⟨hsm.code,hsm.runs,(by show (D.queue++[D.queue[0]]).length≤1000;have h7:D.queue.length≤7:=hd.facts.2.2.2.1;rw [List.length_append];simp;omega),hsm.each⟩
  have hsY:({ D with queue:=D.queue.tail,qa:=some ⟨gq,o',none⟩,qk:=D.qk-1 }:WD).pure.Sm:=⟨hsm.code,hsm.runs,(by show D.queue.tail.length≤1000;rw [List.length_tail];omega),hsm.each⟩
  rw [show D.queue.length-1=D.queue.tail.length from List.length_tail.symm]
  conv=>whnf
  refine⟨fun _=>?_,fun h3=>absurd h3 (by simp)⟩
  conv=>whnf
  refine(iWorldOk_con (D.setQ (D.queue++[D.queue[0]]) a9 k9) hsX hd.why h9 hX.wi).mono ?_
  rintro r h9 ⟨⟨bx,rfl,hbx⟩,rfl⟩
  obtain rfl:bx=false:=Bool.eq_false_iff.2 fun e=>more_no (w:=D.pure) hq0 (hbx.1 e)
  conv=>whnf
  refine⟨fun _=>?_,fun h3=>absurd h3 (by simp)⟩
  conv=>whnf
  refine(iWorldOk_con { D with queue:=D.queue.tail,qa:=some ⟨gq,o',none⟩,qk:=D.qk-1 } hsY hd.why h9 hY).mono ?_
  rintro r h9 ⟨⟨by_,rfl,hby⟩,rfl⟩
  obtain rfl:by_=false:=Bool.eq_false_iff.2 fun e=>less_no (w:=D.pure) ok hq0 (hby.1 e)
  conv=>whnf
  exact⟨rfl,hle9⟩
theorem walk (a0:Option Addr) (len0 cap0:Nat) (w:World) (h0:Eld.Code0 w a0 len0 cap0):Calls Tryz.prog 5 #[.slice a0 len0 cap0] w fun e w'=>e=.returned (.bool true)∧Below w.heap.size w w':=by
 obtain⟨cb,hc,hi⟩:=code_in h0
 exact((law a0 len0 cap0 cb hc).run w hi).mono fun e w' ⟨v,h',he,hy,hi',hf⟩=>yes_below hi hi' hf he hy
set_option maxRecDepth 20000 in
theorem contract (H:Type) (enc:TypeId×Value→H) (W:World) (base:Nat) (args:Array Value) (ds gs:List (DataW H)) (before:List MemPlace)
  (hval:∀(j:Nat) t v,Tryz.f5.params[j]?=some t→args[j]?=some v→Value.okWide Tryz.prog W .any base t v)
  (hW:DataW.Whole enc Tryz.prog Tryz.f5.params.toList Rows.fnWorldGoesSpec.vars false W args.toList ds gs before) (_hL:laidMetH Tryz.prog Rows.fnWorldGoesRow.laid W) :
  Calls Tryz.prog 5 args W fun e W'=>∃v,e=.returned v∧Rows.fnWorldGoesSpec.post enc Tryz.prog Tryz.f5 false true false false W args v W':=by
 have hW':=hW
 obtain⟨p,q,hA0,hV,rfl,hfz,hnd⟩:=hW
 have hA:DataW.TrodAll enc Tryz.prog W 0 (fun _=>true) true Tryz.f5.params.toList args.toList ds p:=hA0
 rw [Tryz.params5] at hA hval
 obtain⟨v0,vs0,d0,ds0,p0,q0,hargs,rfl,rfl,h0,r0⟩:=trodAll_cons hA
 obtain⟨rfl,rfl,rfl⟩:=trodAll_nil r0
 obtain rfl:args=#[v0]:=by cases args;simp_all
 obtain⟨rfl,rfl⟩:=trodVars_none hV
 obtain⟨a0,len0,cap0,rfl⟩:=okWide_slice Tryz.underlying22 (hval 0 22 v0 rfl rfl)
 have k0:=h0
 have lt0:∀x∈p0,x.block<W.heap.size:=by obtain⟨m,hm⟩:=k0;exact DataW.trod_lt m _ _ _ hm
 have w0:Eld.Code0 W a0 len0 cap0:=by
  obtain⟨fuel,hf⟩:=h0
  rcases open_ints Tryz.underlying22 Tryz.underlying5 (by kernel_rfl) hf with ⟨hcs,_⟩ | ⟨x,l,c,zs,hcs,_,hl,hm,hz,_,hcell,hwz⟩
  ·simp [Value.cells] at hcs
   obtain⟨rfl,rfl,rfl⟩:=hcs
   exact Eld.code_of_row (zs:=[]) (.inl ⟨rfl,rfl,rfl,rfl⟩)
  ·simp [Value.cells] at hcs
   obtain⟨rfl,rfl,rfl⟩:=hcs
   exact Eld.code_of_row (zs:=zs) (.inr ⟨_,rfl,hl,hm,by simpa using hz,hcell,hwz⟩)
 clear hA0
 refine(walk a0 len0 cap0 W w0).mono fun e W' ⟨he,bel⟩=>?_
 subst he
 exact⟨_,rfl,_,_,_,[],_,[],hW',trodAll_mk1 (shut_bool Tryz.underlying4 _),(trodAll_cons_mk (Below.trod laidOut (by kernel_rfl) (of_decide_eq_true (by kernel_rfl)) k0 bel lt0) trodAll_mk0),rfl,bel.frame _,fun h=>by cases h⟩
theorem laid_met (os:Os):laidMet Tryz.prog Rows.fnWorldGoesRow.laid ((Eld.putAll (World.settled Tryz.prog os).heap.size (World.holding Tryz.prog os ⟨Eld.errBlocks,#[],[]⟩)).forCall (fun _ _=>0) ⟨#[],#[.slice none 0 0],[]⟩).memory :=
 laidMet_of_run' 10 (by kernel_rfl) (by kernel_rfl)
theorem reads (os:Os) {H:Type} (enc:TypeId×Value→H):∃places,DataW.whole enc Tryz.prog ((Eld.putAll (World.settled Tryz.prog os).heap.size (World.holding Tryz.prog os ⟨Eld.errBlocks,#[],[]⟩)).forCall (fun _ _=>0) ⟨#[],#[.slice none 0 0],[]⟩).memory Tryz.f5.params.toList Rows.fnWorldGoesSpec.vars false #[.slice none 0 0].toList 8=some ([.nil],[],places) :=
 ⟨[],by kernel_rfl⟩
set_option maxRecDepth 100000 in
theorem lifted (os:Os) (started:os.Started) (H:Type) (enc:TypeId×Value→H) (F:Stop.Interp) :
  ReturnsInHanded {} Tryz.checked os 5 .any ((OpenSpec.ofChange Rows.fnWorldGoesSpec).preRow enc Tryz.prog Tryz.f5 Rows.fnWorldGoesRow.domain false Rows.fnWorldGoesRow.laid) (((OpenSpec.ofChange Rows.fnWorldGoesSpec).at F).post enc Tryz.prog Tryz.f5 false true false false):=by
 obtain⟨places,hx⟩:=reads os enc
 refine returnsInHanded_of_row (C:=Tryz.checked) (s:=OpenSpec.ofChange Rows.fnWorldGoesSpec) own started (by kernel_rfl) Tryz.func5
  (witness_row_atRef (enc:=enc) (C:=Tryz.checked) false (Eld.putAll (World.settled Tryz.prog os).heap.size (World.holding Tryz.prog os ⟨Eld.errBlocks,#[],[]⟩)) #[.slice none 0 0] rfl (by kernel_rfl) (by kernel_rfl) (by kernel_rfl)
   (OpenSpec.preRow_of_cond 8 hx (by kernel_rfl) (fun k hk=>by cases hk) (by kernel_rfl) (laid_met os))) ?_
 intro W base args ds gs before hval hW _ _ _ hL _ _
 exact contract H enc W base args ds gs before hval hW hL
set_option maxRecDepth 100000 in
theorem said:Rows.FnWorldGoesSaid :=
 OpenClaim.holds_of_cond 5 Tryz.f5 rfl rfl rfl rfl rfl rfl rfl ⟨rfl,rfl,rfl,rfl,rfl⟩ rfl rfl rfl rfl rfl (by kernel_rfl) Tryz.func5 FcFnWorldGoes.closed
  (of_decide_eq_true (by kernel_rfl)) (by unfold Func.isWrapper;first | (rw [if_pos (by decide +kernel)];kernel_rfl) | (rw [if_neg (by decide +kernel)];exact⟨rfl,rfl⟩))
  (fun os started H enc _ F=>by rw [OpenClaim.pre_eq_preRow];exact lifted os started H enc F)
theorem plain (f:FuncId) (fn:Func) (hf:Tryz.pinned.checked.prog.funcNamed Rows.fnWorldGoesRow.func=some f) (hfn:Tryz.pinned.checked.prog.funcs[f]?=some fn) :
  true=Tryz.pinned.checked.prog.looks []∧∀(j:Nat) t,fn.params[j]?=some t→Tryz.pinned.checked.prog.wantsStandIn t=false:=by
 obtain rfl:f=5:=Option.some.inj ((show Tryz.prog.funcNamed Rows.fnWorldGoesRow.func=some 5 by kernel_rfl).symm.trans hf) |>.symm
 obtain rfl:fn=Tryz.f5:=(Option.some.inj (Tryz.func5.symm.trans hfn)).symm
 refine⟨by kernel_rfl,fun j t ht=>?_⟩
 rw [Tryz.params5] at ht
 obtain rfl:t=22:=by simpa using Array.mem_of_getElem? ht
 exact(show Tryz.prog.wantsStandIn 22=false by kernel_rfl)
theorem card:Rows.FnWorldGoesCardSaid :=
 Claim7.holds_tied_plain_at .later [] _ _ _ _ said (fun _ h=>by cases h) (by kernel_rfl) (fun _ h=>by cases h) fnWorldGoes_row_tie rfl ⟨rfl,rfl⟩ (by kernel_rfl) rfl plain (by kernel_rfl)
end FnWorldGoes
theorem fnWorldGoes_holds:Rows.FnWorldGoesCardSaid:=FnWorldGoes.card
#print axioms fnWorldGoes_holds
end Go.Proofs.YtbejochaghmmbaaGreatDoor
