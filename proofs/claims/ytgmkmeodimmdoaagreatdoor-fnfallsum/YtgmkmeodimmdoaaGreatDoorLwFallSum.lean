import Derived.Test.YtgmkmeodimmdoaaGreatDoorTd
import Derived.Test.YtgmkmeodimmdoaaGreatDoorSm
import Derived.Test.YtgmkmeodimmdoaaGreatDoorSj
import Derived.Test.YtgmkmeodimmdoaaGreatDoorEFrameN
import Derived.Test.YtgmkmeodimmdoaaGreatDoorFcFnFallSum
namespace Go.Proofs.YtgmkmeodimmdoaaGreatDoor
open Go.ChangeShapes Go.WideShapes Go.ChangeAt Go.RowKit Go.Joins
set_option maxRecDepth 100000
namespace FnFallSum
theorem law (a:Option Addr) (len cap:Nat) (cb:Option (Nat×Obj)) (hc:CodeIn a len cap cb) :
  Con Tryz.prog 11 #[.slice a len cap] (cbHp cb) (Yes cb):=by
 refine Con.of_W (tb:=tbF) (args:=[.slice a len cap]) Tryz.func11 rfl Tryz.results11 Tryz.ntmps11 (by simp) (Tryz.call11 _) (tm:=[(0,.v (.slice a len cap))]) rfl ?_
 refine vc_ok ⟨tbF_ok,_,Tryz.func11,Tryz.results11,Tryz.ntmps11⟩ 400 _ _ _ _ ?_
 conv=>whnf
 refine Ext.len Tryz.underlying22 rfl rfl ?_
 conv=>whnf
 refine⟨fun _=>?_,fun _=>?_⟩<;>conv=>whnf
 ·exact⟨rfl,Hp.le_refl _⟩
 have ho:Own (cbHp cb) (cbAtoms cb++[]):=by rw [List.append_nil];exact cb_own cb
 refine(drawFallEnd_con a len cap cb hc _ [] ho).mono ?_
 rintro r h1 ⟨D,id,v,rfl,hd,hid1,hid2,hv2,hvn0,hvn1,ho1⟩
 replace ho1:Own h1 (wAtoms D++cbAtoms cb):=by have:=ho1.turnL;rw [List.append_nil] at this;exact this
 have hsm:=hd.sm
 have hlp:=pure_len D
 have hfew:=hd.few
 conv=>whnf
 refine(iFallEnd_con D hsm hd.why id v h1 _ ho1).mono ?_
 rintro r h2 ⟨E,rfl,hE,ho2⟩
 conv=>whnf
 refine W.cut [(6,.p 2 0),(4,.v (.int .i64 id)),(5,.p 1 0),(3,.p 0 0)] _ [] ⟨rfl,rfl,rfl,rfl,trivial⟩ (List.append_nil _).symm rfl ⟨_,rfl⟩ ?_
 refine W.draw [(0,true),(1,true),(2,true),(3,true),(4,false),(5,false),(6,true),(7,true),(8,true),(9,false),(10,true),(11,true),(12,true),(13,true),(14,false),(15,true),(16,true)] [0,1,2] none 99 (by kernel_rfl) rfl (by kernel_rfl) mixed rfl (fun g e=>by cases e) ?_
 refine vc_ok ⟨tbF_ok,_,Tryz.func11,Tryz.results11,Tryz.ntmps11⟩ 400 _ _ _ _ ?_
 conv=>whnf
 refine(sFallEnd_con D hsm id v h2 _ ho2.turnL).mono ?_
 rintro r h3 ⟨F,rfl,hF,ho3⟩
 conv=>whnf
 have hEF:=hE.one hF
 have hEs:=hE.sm hsm
 have hlpE:=pure_len E
 refine(lvWorld_same E F hEF hEs h3 (ho3.win fun _ hx=>List.mem_append_right _ (List.mem_append_right _ (List.mem_append_left _ hx))) ho3.wL).mono ?_
 rintro r h3 ⟨rfl,rfl⟩
 conv=>whnf
 replace ho3:Own h3 (wAtoms D++(wAtoms E++cbAtoms cb)):=ho3.dropL
 refine⟨fun _=>?_,fun e=>absurd e (by simp)⟩
 conv=>whnf
 refine(sWorldOk_con D hsm h3 ho3.wL).mono ?_
 rintro r h3 ⟨⟨b,rfl,hb⟩,rfl⟩
 conv=>whnf
 refine⟨fun b0=>?_,fun b0=>?_⟩<;>conv=>whnf
 rotate_left
 ·refine W.cut [(6,.p 2 0),(4,.v (.int .i64 id)),(5,.p 1 0),(3,.p 0 0)] _ [] ⟨rfl,rfl,rfl,rfl,trivial⟩ (List.append_nil _).symm rfl ⟨_,rfl⟩ ?_
  refine W.draw [(0,true),(1,true),(2,true),(3,true),(4,false),(5,false),(6,true)] [0,1,2] none 99 (by kernel_rfl) rfl (by kernel_rfl) mixed rfl (fun g e=>by cases e) ?_
  refine vc_ok ⟨tbF_ok,_,Tryz.func11,Tryz.results11,Tryz.ntmps11⟩ 400 _ _ _ _ ?_
  conv=>whnf
  refine(sFallEnd_con D hsm id v h3 _ ho3).mono ?_
  rintro r h9 ⟨G,rfl,hG,ho9⟩
  conv=>whnf
  refine(lvWorld_same E G (hE.one hG) hEs h9 (ho9.win fun _ hx=>List.mem_append_right _ (List.mem_append_right _ (List.mem_append_left _ hx))) ho9.wL).mono ?_
  rintro r h9 ⟨rfl,rfl⟩
  conv=>whnf
  exact⟨rfl,cb_leT (ho9.dropL.dropL)⟩
 have hok:WOk D.pure:=hb.1 (by simpa using b0)
 refine(valOk_con v h3).mono ?_
 rintro r h3 ⟨rfl,rfl⟩
 conv=>whnf
 refine⟨fun b1=>?_,fun b1=>?_⟩<;>conv=>whnf
 ·refine W.cut [(6,.p 2 0),(4,.v (.int .i64 id)),(5,.p 1 0),(3,.p 0 0)] _ [] ⟨rfl,rfl,rfl,rfl,trivial⟩ (List.append_nil _).symm rfl ⟨_,rfl⟩ ?_
  refine W.draw [(0,true),(1,true),(2,true),(3,true),(4,false),(5,false),(6,true)] [0,1,2] none 99 (by kernel_rfl) rfl (by kernel_rfl) mixed rfl (fun g e=>by cases e) ?_
  refine vc_ok ⟨tbF_ok,_,Tryz.func11,Tryz.results11,Tryz.ntmps11⟩ 400 _ _ _ _ ?_
  conv=>whnf
  refine(sFallEnd_con D hsm id v h3 _ ho3).mono ?_
  rintro r h9 ⟨G,rfl,hG,ho9⟩
  conv=>whnf
  refine(lvWorld_same E G (hE.one hG) hEs h9 (ho9.win fun _ hx=>List.mem_append_right _ (List.mem_append_right _ (List.mem_append_left _ hx))) ho9.wL).mono ?_
  rintro r h9 ⟨rfl,rfl⟩
  conv=>whnf
  exact⟨rfl,cb_leT (ho9.dropL.dropL)⟩
 have hvo:okV v=true:=by simpa using b1
 have hfell:FallE D.pure id v E.pure:=hE.fell hok hvo (by omega)
 have hok':=hok
 obtain⟨hsafe,V,hV,ok⟩:=hok'
 have h6:=ok.n6
 obtain⟨eok,ecode,elen,etaken,enow,esent,elost,_⟩:=hfell.oks ok hvo (by omega)
 have hlE:E.runs.length=D.runs.length:=by omega
 have hwD:=ho3.wL
 have hwE:WIn h3 E:=ho3.win fun _ hx=>List.mem_append_right _ (List.mem_append_left _ hx)
 have hn1:=ok.n1
 obtain⟨gD,hraD⟩:=row_some hwD.runs (by omega)
 obtain⟨gE,hraE⟩:=row_some hwE.runs (by omega)
 have hmail:∀d∈D.pure.runs,d.mail.length≤12:=ok.wk.mail
 have hwall:∀k,newMail (D.pure.runs.take k) (E.pure.runs.take k)≤72:=fun k=>by
  have h1:=newMail_le (D.pure.runs.take k) (E.pure.runs.take k) 12 fun d hd=>hmail d (List.mem_of_mem_take hd)
  have h2:(D.pure.runs.take k).length≤6:=by rw [List.length_take];omega
  have:=Nat.mul_le_mul_right 12 h2
  omega
 have hcD:=ok.cnt.lost
 refine W.cut [(8,.v (.int .i64 (0:Nat))),(7,.v (.int .i64 (0:Nat))),(6,.p 2 0),(3,.p 0 0)] [⟨27,D.cells⟩,⟨32,[.int .i64 v.1,.int .i64 v.2]⟩,⟨27,E.cells⟩] [] ⟨rfl,rfl,rfl,rfl,trivial⟩ rfl rfl ⟨_,rfl⟩ ?_
 refine W.loop (α:=Nat×Nat) (fun x=>[(8,.v (.int .i64 (x.1:Nat))),(7,.v (.int .i64 (x.2:Nat))),(6,.p 2 0),(3,.p 0 0)]) (fun _=>[⟨27,D.cells⟩,⟨32,[.int .i64 v.1,.int .i64 v.2]⟩,⟨27,E.cells⟩])
  (fun x h'=>x.1≤D.runs.length∧x.2=newMail (D.pure.runs.take x.1) (E.pure.runs.take x.1)∧h'=h3) (fun x=>D.runs.length-x.1) ?_ (0,0) h3 ⟨Nat.zero_le _,by simp [newMail],rfl⟩
 rintro⟨k,n⟩ h4 ⟨hk,hn,rfl⟩ ih
 dsimp only at hk hn ⊢
 have hn72:=hwall k
 rw [←hn] at hn72
 refine vc_ok ⟨tbF_ok,_,Tryz.func11,Tryz.results11,Tryz.ntmps11⟩ 400 _ _ _ _ ?_
 conv=>whnf
 refine⟨fun c=>?_,fun c=>?_⟩<;>conv=>whnf
 ·have hlt:k<D.runs.length:=by simp at c;omega
  have hltE:k<E.runs.length:=by omega
  have hsu:=newMail_succ (A:=D.pure.runs) (B:=E.pure.runs) (k:=k) (by omega) (by omega)
  rw [←hn,pure_get D k hlt (by omega),pure_get E k hltE (by omega)] at hsu
  have hwk:IntKind.i64.wrap ((k:Int)+1)=((k+1:Nat):Int):=by rw [wrapN _ (by omega) (by omega)];omega
  have hml:=hmail _ (pure_mem hlt)
  refine Ext.index slRun.u slRun.size rfl (by exact rv_same hraD) rfl k rfl hlt ?_
  conv=>whnf
  refine Ext.loadRunCell (D:=D) rfl ⟨rfl,rfl⟩ rfl hwD.runs (rv_same hraD) hlt 5 (by omega) rfl (.int .i64 D.runs[k].1.st) rfl ?_
  conv=>whnf
  refine⟨fun c1=>?_,fun c1=>?_⟩<;>conv=>whnf
  ·have hs1:D.runs[k].1.st≠3:=by simpa using c1
   refine Ext.index slRun.u slRun.size rfl (by exact rv_same hraE) rfl k rfl hltE ?_
   conv=>whnf
   refine Ext.loadRunCell (D:=E) rfl ⟨rfl,rfl⟩ rfl hwE.runs (rv_same hraE) hltE 5 (by omega) rfl (.int .i64 E.runs[k].1.st) rfl ?_
   conv=>whnf
   refine⟨fun c2=>?_,fun c2=>?_⟩<;>conv=>whnf
   ·have hs2:E.runs[k].1.st=3:=by simpa using c2
    refine Ext.index slRun.u slRun.size rfl (by exact rv_same hraD) rfl k rfl hlt ?_
    conv=>whnf
    refine Ext.loadRunCell (D:=D) rfl ⟨rfl,rfl⟩ rfl hwD.runs (rv_same hraD) hlt 4 (by omega) rfl (.slice D.runs[k].2.a1 D.runs[k].1.mail.length D.runs[k].2.k1) rfl ?_
    conv=>whnf
    have hwn:IntKind.i64.wrap ((n:Int)+(D.runs[k].1.mail.length:Int))=((n+D.runs[k].1.mail.length:Nat):Int):=by rw [wrapN _ (by omega) (by omega)];omega
    rw [hwk,hwn]
    refine W.back (ih (k+1,n+D.runs[k].1.mail.length) h4 ⟨hlt,by dsimp only;rw [hsu];unfold lostF;rw [if_pos ⟨hs1,hs2⟩],rfl⟩ (by dsimp only;omega)) [] (by exact⟨rfl,rfl,rfl,rfl,trivial⟩) rfl rfl
   ·have hs2:E.runs[k].1.st≠3:=by simpa using c2
    rw [hwk]
    refine W.back (ih (k+1,n) h4 ⟨hlt,by dsimp only;rw [hsu];unfold lostF;rw [if_neg fun e=>hs2 e.2];rfl,rfl⟩ (by dsimp only;omega)) [] (by exact⟨rfl,rfl,rfl,rfl,trivial⟩) rfl rfl
  ·have hs1:D.runs[k].1.st=3:=by simpa using c1
   rw [hwk]
   refine W.back (ih (k+1,n) h4 ⟨hlt,by dsimp only;rw [hsu];unfold lostF;rw [if_neg fun e=>e.1 hs1];rfl,rfl⟩ (by dsimp only;omega)) [] (by exact⟨rfl,rfl,rfl,rfl,trivial⟩) rfl rfl
 ·have hge:k=D.runs.length:=by simp at c;omega
  have hnall:n=newMail D.pure.runs E.pure.runs:=by rw [hn,hge,List.take_of_length_le (by omega),List.take_of_length_le (by omega)]
  rw [←hnall] at elost
  have hwl:IntKind.i64.wrap (D.lost+(n:Int))=D.lost+(n:Int):=by
   have h1:0≤D.lost∧D.lost≤9999:=hcD
   exact wrapN _ (by omega) (by omega)
  have hel:D.lost+(n:Int)≤E.lost:=elost
  have het:E.taken=D.taken:=etaken
  refine⟨fun c1=>?_,fun c1=>?_⟩
  rotate_left
  ·rw [hwl] at c1
   have:¬(D.lost+(n:Int)≤E.lost):=by simpa using c1
   exact absurd hel this
  conv=>whnf
  refine⟨fun c2=>?_,fun c2=>?_⟩
  rotate_left
  ·have:¬(E.taken=D.taken):=by simpa using c2
   exact absurd het this
  conv=>whnf
  refine(lvSum_con E hEs h4 hwE).mono ?_
  rintro r h5 ⟨rfl,rfl⟩
  conv=>whnf
  exact⟨congrArg Value.bool eok.sumW,cb_leT (l:=wAtoms D++wAtoms E) (by rw [List.append_assoc];exact ho3)⟩
theorem walk (a0:Option Addr) (len0 cap0:Nat) (w:World) (h0:Eld.Code0 w a0 len0 cap0):Calls Tryz.prog 11 #[.slice a0 len0 cap0] w fun e w'=>e=.returned (.bool true)∧Below w.heap.size w w':=by
 obtain⟨cb,hc,hi⟩:=code_in h0
 exact((law a0 len0 cap0 cb hc).run w hi).mono fun e w' ⟨v,h',he,hy,hi',hf⟩=>yes_below hi hi' hf he hy
set_option maxRecDepth 20000 in
theorem contract (H:Type) (enc:TypeId×Value→H) (W:World) (base:Nat) (args:Array Value) (ds gs:List (DataW H)) (before:List MemPlace)
  (hval:∀(j:Nat) t v,Tryz.f11.params[j]?=some t→args[j]?=some v→Value.okWide Tryz.prog W .any base t v)
  (hW:DataW.Whole enc Tryz.prog Tryz.f11.params.toList Rows.fnFallSumSpec.vars false W args.toList ds gs before) (_hL:laidMetH Tryz.prog Rows.fnFallSumRow.laid W) :
  Calls Tryz.prog 11 args W fun e W'=>∃v,e=.returned v∧Rows.fnFallSumSpec.post enc Tryz.prog Tryz.f11 false true false false W args v W':=by
 have hW':=hW
 obtain⟨p,q,hA0,hV,rfl,hfz,hnd⟩:=hW
 have hA:DataW.TrodAll enc Tryz.prog W 0 (fun _=>true) true Tryz.f11.params.toList args.toList ds p:=hA0
 rw [Tryz.params11] at hA hval
 obtain⟨v0,vs0,d0,ds0,p0,q0,hargs,rfl,rfl,h0,r0⟩:=trodAll_cons hA
 obtain⟨rfl,rfl,rfl⟩:=trodAll_nil r0
 obtain rfl:args=#[v0]:=by cases args;simp_all
 obtain⟨rfl,rfl⟩:=trodVars_none hV
 obtain⟨a0,len0,cap0,rfl⟩:=okWide_slice Tryz.underlying22 (hval 0 22 v0 rfl rfl)
 have k0:=h0
 have lt0:∀x∈p0,x.block<W.heap.size:=by obtain⟨m,hm⟩:=k0;exact DataW.trod_lt m _ _ _ hm
 have w0:Eld.Code0 W a0 len0 cap0:=by
  obtain⟨fuel,hf⟩:=h0
  rcases open_ints Tryz.underlying22 Tryz.underlying5 (by kernel_rfl) hf with ⟨hcs,_⟩ | ⟨x,l,c,zs,hcs,_,hl,hm,hz,_,hcell,hwz⟩
  ·simp [Value.cells] at hcs
   obtain⟨rfl,rfl,rfl⟩:=hcs
   exact Eld.code_of_row (zs:=[]) (.inl ⟨rfl,rfl,rfl,rfl⟩)
  ·simp [Value.cells] at hcs
   obtain⟨rfl,rfl,rfl⟩:=hcs
   exact Eld.code_of_row (zs:=zs) (.inr ⟨_,rfl,hl,hm,by simpa using hz,hcell,hwz⟩)
 clear hA0
 refine(walk a0 len0 cap0 W w0).mono fun e W' ⟨he,bel⟩=>?_
 subst he
 exact⟨_,rfl,_,_,_,[],_,[],hW',trodAll_mk1 (shut_bool Tryz.underlying4 _),(trodAll_cons_mk (Below.trod laidOut (by kernel_rfl) (of_decide_eq_true (by kernel_rfl)) k0 bel lt0) trodAll_mk0),rfl,bel.frame _,fun h=>by cases h⟩
theorem laid_met (os:Os):laidMet Tryz.prog Rows.fnFallSumRow.laid ((Eld.putAll (World.settled Tryz.prog os).heap.size (World.holding Tryz.prog os ⟨Eld.errBlocks,#[],[]⟩)).forCall (fun _ _=>0) ⟨#[],#[.slice none 0 0],[]⟩).memory :=
 laidMet_of_run' 10 (by kernel_rfl) (by kernel_rfl)
theorem reads (os:Os) {H:Type} (enc:TypeId×Value→H):∃places,DataW.whole enc Tryz.prog ((Eld.putAll (World.settled Tryz.prog os).heap.size (World.holding Tryz.prog os ⟨Eld.errBlocks,#[],[]⟩)).forCall (fun _ _=>0) ⟨#[],#[.slice none 0 0],[]⟩).memory Tryz.f11.params.toList Rows.fnFallSumSpec.vars false #[.slice none 0 0].toList 8=some ([.nil],[],places) :=
 ⟨[],by kernel_rfl⟩
set_option maxRecDepth 100000 in
theorem lifted (os:Os) (started:os.Started) (H:Type) (enc:TypeId×Value→H) (F:Stop.Interp) :
  ReturnsInHanded {} Tryz.checked os 11 .any ((OpenSpec.ofChange Rows.fnFallSumSpec).preRow enc Tryz.prog Tryz.f11 Rows.fnFallSumRow.domain false Rows.fnFallSumRow.laid) (((OpenSpec.ofChange Rows.fnFallSumSpec).at F).post enc Tryz.prog Tryz.f11 false true false false):=by
 obtain⟨places,hx⟩:=reads os enc
 refine returnsInHanded_of_row (C:=Tryz.checked) (s:=OpenSpec.ofChange Rows.fnFallSumSpec) own started (by kernel_rfl) Tryz.func11
  (witness_row_atRef (enc:=enc) (C:=Tryz.checked) false (Eld.putAll (World.settled Tryz.prog os).heap.size (World.holding Tryz.prog os ⟨Eld.errBlocks,#[],[]⟩)) #[.slice none 0 0] rfl (by kernel_rfl) (by kernel_rfl) (by kernel_rfl)
   (OpenSpec.preRow_of_cond 8 hx (by kernel_rfl) (fun k hk=>by cases hk) (by kernel_rfl) (laid_met os))) ?_
 intro W base args ds gs before hval hW _ _ _ hL _ _
 exact contract H enc W base args ds gs before hval hW hL
set_option maxRecDepth 100000 in
theorem said:Rows.FnFallSumSaid :=
 OpenClaim.holds_of_cond 11 Tryz.f11 rfl rfl rfl rfl rfl rfl rfl ⟨rfl,rfl,rfl,rfl,rfl⟩ rfl rfl rfl rfl rfl (by kernel_rfl) Tryz.func11 FcFnFallSum.closed
  (of_decide_eq_true (by kernel_rfl)) (by unfold Func.isWrapper;first | (rw [if_pos (by decide +kernel)];kernel_rfl) | (rw [if_neg (by decide +kernel)];exact⟨rfl,rfl⟩))
  (fun os started H enc _ F=>by rw [OpenClaim.pre_eq_preRow];exact lifted os started H enc F)
theorem plain (f:FuncId) (fn:Func) (hf:Tryz.pinned.checked.prog.funcNamed Rows.fnFallSumRow.func=some f) (hfn:Tryz.pinned.checked.prog.funcs[f]?=some fn) :
  true=Tryz.pinned.checked.prog.looks []∧∀(j:Nat) t,fn.params[j]?=some t→Tryz.pinned.checked.prog.wantsStandIn t=false:=by
 obtain rfl:f=11:=Option.some.inj ((show Tryz.prog.funcNamed Rows.fnFallSumRow.func=some 11 by kernel_rfl).symm.trans hf) |>.symm
 obtain rfl:fn=Tryz.f11:=(Option.some.inj (Tryz.func11.symm.trans hfn)).symm
 refine⟨by kernel_rfl,fun j t ht=>?_⟩
 rw [Tryz.params11] at ht
 obtain rfl:t=22:=by simpa using Array.mem_of_getElem? ht
 exact(show Tryz.prog.wantsStandIn 22=false by kernel_rfl)
theorem card:Rows.FnFallSumCardSaid :=
 Claim7.holds_tied_plain_at .later [] _ _ _ _ said (fun _ h=>by cases h) (by kernel_rfl) (fun _ h=>by cases h) fnFallSum_row_tie rfl ⟨rfl,rfl⟩ (by kernel_rfl) rfl plain (by kernel_rfl)
end FnFallSum
theorem fnFallSum_holds:Rows.FnFallSumCardSaid:=FnFallSum.card
#print axioms fnFallSum_holds
end Go.Proofs.YtgmkmeodimmdoaaGreatDoor
