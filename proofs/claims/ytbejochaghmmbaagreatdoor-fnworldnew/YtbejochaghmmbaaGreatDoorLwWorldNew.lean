import Derived.Test.YtbejochaghmmbaaGreatDoorKRexWp
import Derived.Test.YtbejochaghmmbaaGreatDoorKSj
import Derived.Test.YtbejochaghmmbaaGreatDoorKEFrameN
import Derived.Test.YtbejochaghmmbaaGreatDoorKFcFnWorldNew
namespace Go.Proofs.YtbejochaghmmbaaGreatDoor
open Go.ChangeShapes Go.WideShapes Go.ChangeAt Go.RowKit Go.Joins
set_option maxRecDepth 100000
namespace FnWorldNew
abbrev noD:WD:=⟨[],[],[],0,0,0,0,none,0,none,0,none,0⟩
theorem no_in (h:Hp):WIn h noD:=⟨⟨rfl,.inl ⟨rfl,rfl⟩⟩,⟨rfl,.inl ⟨rfl,rfl⟩⟩,⟨rfl,.inl ⟨rfl,rfl⟩⟩,fun _ hi=>absurd hi (Nat.not_lt_zero _)⟩
theorem no_sm:noD.pure.Sm:=⟨Nat.zero_le _,Nat.zero_le _,Nat.zero_le _,fun d hd=>by cases hd⟩
theorem law (a:Option Addr) (len cap:Nat) (cb:Option (Nat×Obj)) (hc:CodeIn a len cap cb) :
  Con Tryz.prog 3 #[.slice a len cap] (cbHp cb) (Yes cb):=by
 refine Con.of_W (tb:=tbE) (args:=[.slice a len cap]) Tryz.func3 rfl Tryz.results3 Tryz.ntmps3 (by simp) (Tryz.call3 _) (tm:=[(0,.v (.slice a len cap))]) rfl ?_
 refine vc_ok ⟨tbE_ok,_,Tryz.func3,Tryz.results3,Tryz.ntmps3⟩ 400 _ _ _ _ ?_
 conv=>whnf
 refine Ext.len Tryz.underlying22 rfl rfl ?_
 conv=>whnf
 refine⟨fun _=>?_,fun _=>?_⟩<;>conv=>whnf
 ·exact⟨rfl,Hp.le_refl _⟩
 have ho:Own (cbHp cb) (cbAtoms cb++[]):=by rw [List.append_nil];exact cb_own cb
 refine(drawWorldNew_con a len cap cb hc _ [] ho).mono ?_
 rintro r h1 ⟨C,ca,ck,rfl,hC,ho1⟩
 conv=>whnf
 refine(worldNew_con C ca ck (by omega) h1 _ ho1).mono ?_
 rintro r h2 ⟨b,hsafe,hS⟩
 rcases hS with ⟨rfl,rfl,rfl⟩ | ⟨rfl,D,rfl,hD,ho2⟩
 ·conv=>whnf
  refine(iWorldNew_con C ca ck (by omega) h2 _ ho1).mono ?_
  rintro r h3 ⟨b',hsafe',hI⟩
  obtain rfl:b'=false:=Eld.safeOf_one hsafe' hsafe
  rcases hI with ⟨_,rfl,ho3⟩ | ⟨e,_⟩
  ·have hle3:(cbHp cb).le h3:=cb_le (cb:=cb) (l:=[.row (rowO (.slice ca C.length ck) C)]) (ho3.perm (perm_of fun x=>by simp only [List.count_append,List.count_cons,List.count_nil];omega))
   conv=>whnf
   refine Ext.neqB rfl rfl rfl ?_
   conv=>whnf
   refine⟨fun _=>?_,fun h3=>absurd h3 (by simp)⟩
   conv=>whnf
   refine(lvWorld_same noD noD rfl no_sm h3 (no_in h3) (no_in h3)).mono ?_
   rintro r h3 ⟨rfl,rfl⟩
   conv=>whnf
   refine⟨fun _=>?_,fun h3=>absurd h3 (by simp)⟩
   conv=>whnf
   refine⟨fun _=>?_,fun h3=>absurd h3 (by simp)⟩
   conv=>whnf
   refine Ext.eqlB rfl rfl rfl ?_
   conv=>whnf
   refine⟨fun _=>?_,fun h3=>absurd h3 (by simp)⟩
   conv=>whnf
   refine(lvWorld_same noD noD rfl no_sm h3 (no_in h3) (no_in h3)).mono ?_
   rintro r h3 ⟨rfl,rfl⟩
   conv=>whnf
   refine⟨fun _=>?_,fun h3=>absurd h3 (by simp)⟩
   conv=>whnf
   refine(iCodeSafe_con ca ck C (by omega) h3 (ho3.rowOk (by simp))).mono ?_
   rintro r h3 ⟨⟨cs,rfl,hcs⟩,rfl⟩
   obtain rfl:cs=false:=Eld.safeOf_one hcs hsafe
   conv=>whnf
   refine Ext.eqlB rfl rfl rfl ?_
   conv=>whnf
   exact⟨rfl,hle3⟩
  ·cases e
 ·conv=>whnf
  refine(iWorldNew_con C ca ck (by omega) h2 _ (ho2.perm ((perm_of fun x=>by simp only [List.count_append,List.count_cons];omega):(wAtoms D++Atom.row (rowO (.slice ca C.length ck) C)::(cbAtoms cb++[])).Perm (Atom.row (rowO (.slice ca C.length ck) C)::(wAtoms D++(cbAtoms cb++[])))))).mono ?_
  rintro r h3 ⟨b',hsafe',hI⟩
  obtain rfl:b'=true:=Eld.safeOf_one hsafe' hsafe
  rcases hI with ⟨e,_⟩ | ⟨_,E,rfl,hE,ho3⟩
  ·cases e
  have hwE:WIn h3 E:=ho3.win fun x hx=>List.mem_append_left _ hx
  have hwD:WIn h3 D:=ho3.win fun x hx=>List.mem_append_right _ (List.mem_cons_of_mem _ (List.mem_append_left _ hx))
  have hpur:E.pure=D.pure:=hE.trans hD.symm
  have hsmE:E.pure.Sm:=by
   rw [hE]
   exact⟨by show C.length≤1000;omega,by show 1≤1000;decide,by show 1≤1000;decide,fun d hd=>by rw [show d=newD 1 0 (3,1) from List.mem_singleton.1 hd];exact⟨by show 4≤1000;decide,by show 0≤1000;decide,by show 0≤1000;decide,by show 0≤1000;decide⟩⟩
  have hwhy:∀d∈E.pure.runs,okV (d.wk,d.wn)=true:=fun d hd=>by rw [hE] at hd;rw [show d=newD 1 0 (3,1) from List.mem_singleton.1 hd];rfl
  have hle3:(cbHp cb).le h3:=cb_le (cb:=cb) (l:=wAtoms E++(.row (rowO (.slice ca C.length ck) C)::wAtoms D)) (ho3.perm (perm_of fun x=>by simp only [List.count_append,List.count_cons,List.count_nil];omega))
  conv=>whnf
  refine Ext.neqB rfl rfl rfl ?_
  conv=>whnf
  refine⟨fun _=>?_,fun h3=>absurd h3 (by simp)⟩
  conv=>whnf
  refine(lvWorld_same E D hpur hsmE h3 hwE hwD).mono ?_
  rintro r h3 ⟨rfl,rfl⟩
  conv=>whnf
  refine⟨fun _=>?_,fun h3=>absurd h3 (by simp)⟩
  conv=>whnf
  refine⟨fun h3=>absurd h3 (by simp),fun _=>?_⟩
  conv=>whnf
  refine(iCodeSafe_con ca ck C (by omega) h3 (ho3.rowOk (by simp))).mono ?_
  rintro r h3 ⟨⟨cs,rfl,hcs⟩,rfl⟩
  obtain rfl:cs=true:=Eld.safeOf_one hcs hsafe
  conv=>whnf
  refine⟨fun _=>?_,fun h3=>absurd h3 (by simp)⟩
  conv=>whnf
  refine(iWorldOk_con E hsmE hwhy h3 hwE.wi).mono ?_
  rintro r h3 ⟨⟨wb,rfl,hwb⟩,rfl⟩
  obtain rfl:wb=true:=hwb.2 (by rw [hE];exact fresh_wok hsafe)
  conv=>whnf
  refine⟨fun _=>?_,fun h3=>absurd h3 (by simp)⟩
  conv=>whnf
  have hruns:E.runs.map (·.1)=[newD 1 0 (3,1)]:=congrArg PW.runs hE
  have hlen1:E.runs.length=1:=by have:=congrArg List.length hruns;simpa using this
  have hqE:E.queue=[1]:=congrArg PW.queue hE
  have hr0:(E.runs[0]'(by omega)).1=newD 1 0 (3,1):=by
   have h7:(E.runs.map (·.1))[0]?=some (newD 1 0 (3,1)):=by rw [hruns];rfl
   rw [List.getElem?_map,List.getElem?_eq_getElem (by omega)] at h7
   simpa using h7
  refine⟨fun _=>?_,fun h3=>absurd h3 (by rw [hlen1];simp)⟩
  conv=>whnf
  refine Ext.litI rfl ho3 1 rfl fun gq h4 hl4 ho4=>?_
  have hwE4:=hwE.le hl4
  have hle4:=Hp.le_trans hle3 hl4
  conv=>whnf
  refine(lvInts_con E.qa (some ⟨gq,0,none⟩) E.qk 1 E.queue [1] (by rw [hqE];decide) h4 hwE4.queue (ho4.rowOk List.mem_cons_self)).mono ?_
  rintro r h4 ⟨rfl,rfl⟩
  rw [decide_eq_true hqE]
  conv=>whnf
  refine⟨fun _=>?_,fun h3=>absurd h3 (by simp)⟩
  conv=>whnf
  obtain⟨gr,hra⟩:=row_some hwE4.runs (by omega)
  have hrv:E.rv=.slice (some ⟨gr,0,none⟩) E.runs.length E.rk:=by rw [WD.rv,hra]
  have hr4:RowOk h4 (rowR E.rv E.runs):=hwE4.runs
  refine Ext.index slRun.u slRun.size rfl (by exact hrv) rfl 0 rfl (by omega) ?_
  conv=>whnf
  refine Ext.loadRunCell (D:=E) (i:=0) rfl ⟨rfl,rfl⟩ rfl hr4 hrv (by omega) 1 (by decide) rfl (.int .i64 0) (by show (encR (E.runs[0]'(by omega)))[1]?=_;unfold encR;rw [hr0];rfl) ?_
  conv=>whnf
  refine⟨fun _=>?_,fun h3=>absurd h3 (by simp)⟩
  conv=>whnf
  refine Ext.index slRun.u slRun.size rfl (by exact hrv) rfl 0 rfl (by omega) ?_
  conv=>whnf
  have hin0:=hwE4.each 0 (by omega)
  rw [hr0] at hin0
  have hsl:RowOk h4 (rowV (.slice (E.runs[0]'(by omega)).2.a0 [(3,1),(0,0),(0,0),(0,0)].length (E.runs[0]'(by omega)).2.k0) [(3,1),(0,0),(0,0),(0,0)]):=hin0.r0
  obtain⟨gs,hsa⟩:=row_some hsl (by decide)
  refine Ext.loadRunCell (D:=E) (i:=0) rfl ⟨rfl,rfl⟩ rfl hr4 hrv (by omega) 2 (by decide) rfl (.slice (some ⟨gs,0,none⟩) 4 (E.runs[0]'(by omega)).2.k0) (by show (encR (E.runs[0]'(by omega)))[2]?=_;unfold encR;rw [hr0,←hsa];rfl) ?_
  conv=>whnf
  refine Ext.index slVal.u slVal.size rfl rfl rfl 0 rfl (by decide) ?_
  conv=>whnf
  rw [hsa] at hsl
  refine Ext.loadVal (L:=[(3,1),(0,0),(0,0),(0,0)]) (i:=0) rfl hsl rfl (by decide) rfl ?_
  conv=>whnf
  refine Ext.eqV rfl rfl rfl ?_
  conv=>whnf
  refine⟨fun _=>?_,fun h3=>absurd h3 (by simp)⟩
  conv=>whnf
  refine(lvSum_con E hsmE h4 hwE4).mono ?_
  rintro r h4 ⟨rfl,rfl⟩
  have hsum:(E.sent==wr (wr (E.taken+E.lost)+(mailsP E.pure.runs:Int)))=true:=by
   have e1:E.sent=0:=congrArg PW.sent hE
   have e2:E.taken=0:=congrArg PW.taken hE
   have e3:E.lost=0:=congrArg PW.lost hE
   have e4:E.pure.runs=[newD 1 0 (3,1)]:=congrArg PW.runs hE
   rw [e1,e2,e3,e4]
   rfl
  rw [hsum]
  conv=>whnf
  exact⟨rfl,hle4⟩
theorem walk (a0:Option Addr) (len0 cap0:Nat) (w:World) (h0:Eld.Code0 w a0 len0 cap0):Calls Tryz.prog 3 #[.slice a0 len0 cap0] w fun e w'=>e=.returned (.bool true)∧Below w.heap.size w w':=by
 obtain⟨cb,hc,hi⟩:=code_in h0
 exact((law a0 len0 cap0 cb hc).run w hi).mono fun e w' ⟨v,h',he,hy,hi',hf⟩=>yes_below hi hi' hf he hy
set_option maxRecDepth 20000 in
theorem contract (H:Type) (enc:TypeId×Value→H) (W:World) (base:Nat) (args:Array Value) (ds gs:List (DataW H)) (before:List MemPlace)
  (hval:∀(j:Nat) t v,Tryz.f3.params[j]?=some t→args[j]?=some v→Value.okWide Tryz.prog W .any base t v)
  (hW:DataW.Whole enc Tryz.prog Tryz.f3.params.toList Rows.fnWorldNewSpec.vars false W args.toList ds gs before) (_hL:laidMetH Tryz.prog Rows.fnWorldNewRow.laid W) :
  Calls Tryz.prog 3 args W fun e W'=>∃v,e=.returned v∧Rows.fnWorldNewSpec.post enc Tryz.prog Tryz.f3 false true false false W args v W':=by
 have hW':=hW
 obtain⟨p,q,hA0,hV,rfl,hfz,hnd⟩:=hW
 have hA:DataW.TrodAll enc Tryz.prog W 0 (fun _=>true) true Tryz.f3.params.toList args.toList ds p:=hA0
 rw [Tryz.params3] at hA hval
 obtain⟨v0,vs0,d0,ds0,p0,q0,hargs,rfl,rfl,h0,r0⟩:=trodAll_cons hA
 obtain⟨rfl,rfl,rfl⟩:=trodAll_nil r0
 obtain rfl:args=#[v0]:=by cases args;simp_all
 obtain⟨rfl,rfl⟩:=trodVars_none hV
 obtain⟨a0,len0,cap0,rfl⟩:=okWide_slice Tryz.underlying22 (hval 0 22 v0 rfl rfl)
 have k0:=h0
 have lt0:∀x∈p0,x.block<W.heap.size:=by obtain⟨m,hm⟩:=k0;exact DataW.trod_lt m _ _ _ hm
 have w0:Eld.Code0 W a0 len0 cap0:=by
  obtain⟨fuel,hf⟩:=h0
  rcases open_ints Tryz.underlying22 Tryz.underlying5 (by kernel_rfl) hf with ⟨hcs,_⟩ | ⟨x,l,c,zs,hcs,_,hl,hm,hz,_,hcell,hwz⟩
  ·simp [Value.cells] at hcs
   obtain⟨rfl,rfl,rfl⟩:=hcs
   exact Eld.code_of_row (zs:=[]) (.inl ⟨rfl,rfl,rfl,rfl⟩)
  ·simp [Value.cells] at hcs
   obtain⟨rfl,rfl,rfl⟩:=hcs
   exact Eld.code_of_row (zs:=zs) (.inr ⟨_,rfl,hl,hm,by simpa using hz,hcell,hwz⟩)
 clear hA0
 refine(walk a0 len0 cap0 W w0).mono fun e W' ⟨he,bel⟩=>?_
 subst he
 exact⟨_,rfl,_,_,_,[],_,[],hW',trodAll_mk1 (shut_bool Tryz.underlying4 _),(trodAll_cons_mk (Below.trod laidOut (by kernel_rfl) (of_decide_eq_true (by kernel_rfl)) k0 bel lt0) trodAll_mk0),rfl,bel.frame _,fun h=>by cases h⟩
theorem laid_met (os:Os):laidMet Tryz.prog Rows.fnWorldNewRow.laid ((Eld.putAll (World.settled Tryz.prog os).heap.size (World.holding Tryz.prog os ⟨Eld.errBlocks,#[],[]⟩)).forCall (fun _ _=>0) ⟨#[],#[.slice none 0 0],[]⟩).memory :=
 laidMet_of_run' 10 (by kernel_rfl) (by kernel_rfl)
theorem reads (os:Os) {H:Type} (enc:TypeId×Value→H):∃places,DataW.whole enc Tryz.prog ((Eld.putAll (World.settled Tryz.prog os).heap.size (World.holding Tryz.prog os ⟨Eld.errBlocks,#[],[]⟩)).forCall (fun _ _=>0) ⟨#[],#[.slice none 0 0],[]⟩).memory Tryz.f3.params.toList Rows.fnWorldNewSpec.vars false #[.slice none 0 0].toList 8=some ([.nil],[],places) :=
 ⟨[],by kernel_rfl⟩
set_option maxRecDepth 100000 in
theorem lifted (os:Os) (started:os.Started) (H:Type) (enc:TypeId×Value→H) (F:Stop.Interp) :
  ReturnsInHanded {} Tryz.checked os 3 .any ((OpenSpec.ofChange Rows.fnWorldNewSpec).preRow enc Tryz.prog Tryz.f3 Rows.fnWorldNewRow.domain false Rows.fnWorldNewRow.laid) (((OpenSpec.ofChange Rows.fnWorldNewSpec).at F).post enc Tryz.prog Tryz.f3 false true false false):=by
 obtain⟨places,hx⟩:=reads os enc
 refine returnsInHanded_of_row (C:=Tryz.checked) (s:=OpenSpec.ofChange Rows.fnWorldNewSpec) own started (by kernel_rfl) Tryz.func3
  (witness_row_atRef (enc:=enc) (C:=Tryz.checked) false (Eld.putAll (World.settled Tryz.prog os).heap.size (World.holding Tryz.prog os ⟨Eld.errBlocks,#[],[]⟩)) #[.slice none 0 0] rfl (by kernel_rfl) (by kernel_rfl) (by kernel_rfl)
   (OpenSpec.preRow_of_cond 8 hx (by kernel_rfl) (fun k hk=>by cases hk) (by kernel_rfl) (laid_met os))) ?_
 intro W base args ds gs before hval hW _ _ _ hL _ _
 exact contract H enc W base args ds gs before hval hW hL
set_option maxRecDepth 100000 in
theorem said:Rows.FnWorldNewSaid :=
 OpenClaim.holds_of_cond 3 Tryz.f3 rfl rfl rfl rfl rfl rfl rfl ⟨rfl,rfl,rfl,rfl,rfl⟩ rfl rfl rfl rfl rfl (by kernel_rfl) Tryz.func3 FcFnWorldNew.closed
  (of_decide_eq_true (by kernel_rfl)) (by unfold Func.isWrapper;first | (rw [if_pos (by decide +kernel)];kernel_rfl) | (rw [if_neg (by decide +kernel)];exact⟨rfl,rfl⟩))
  (fun os started H enc _ F=>by rw [OpenClaim.pre_eq_preRow];exact lifted os started H enc F)
theorem plain (f:FuncId) (fn:Func) (hf:Tryz.pinned.checked.prog.funcNamed Rows.fnWorldNewRow.func=some f) (hfn:Tryz.pinned.checked.prog.funcs[f]?=some fn) :
  true=Tryz.pinned.checked.prog.looks []∧∀(j:Nat) t,fn.params[j]?=some t→Tryz.pinned.checked.prog.wantsStandIn t=false:=by
 obtain rfl:f=3:=Option.some.inj ((show Tryz.prog.funcNamed Rows.fnWorldNewRow.func=some 3 by kernel_rfl).symm.trans hf) |>.symm
 obtain rfl:fn=Tryz.f3:=(Option.some.inj (Tryz.func3.symm.trans hfn)).symm
 refine⟨by kernel_rfl,fun j t ht=>?_⟩
 rw [Tryz.params3] at ht
 obtain rfl:t=22:=by simpa using Array.mem_of_getElem? ht
 exact(show Tryz.prog.wantsStandIn 22=false by kernel_rfl)
theorem card:Rows.FnWorldNewCardSaid :=
 Claim7.holds_tied_plain_at .later [] _ _ _ _ said (fun _ h=>by cases h) (by kernel_rfl) (fun _ h=>by cases h) fnWorldNew_row_tie rfl ⟨rfl,rfl⟩ (by kernel_rfl) rfl plain (by kernel_rfl)
end FnWorldNew
theorem fnWorldNew_holds:Rows.FnWorldNewCardSaid:=FnWorldNew.card
#print axioms fnWorldNew_holds
end Go.Proofs.YtbejochaghmmbaaGreatDoor
