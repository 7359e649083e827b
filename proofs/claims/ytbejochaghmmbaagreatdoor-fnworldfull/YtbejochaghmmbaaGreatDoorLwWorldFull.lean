import Derived.Test.YtbejochaghmmbaaGreatDoorRexWj
import Derived.Test.YtbejochaghmmbaaGreatDoorSj
import Derived.Test.YtbejochaghmmbaaGreatDoorEFrameN
import Derived.Test.YtbejochaghmmbaaGreatDoorFcFnWorldFull
namespace Go.Proofs.YtbejochaghmmbaaGreatDoor
open Go.ChangeShapes Go.WideShapes Go.ChangeAt Go.RowKit Go.Joins
set_option maxRecDepth 100000
namespace FnWorldFull
theorem law (a:Option Addr) (len cap:Nat) (cb:Option (Nat×Obj)) (hc:CodeIn a len cap cb) :
  Con Tryz.prog 8 #[.slice a len cap] (cbHp cb) (Yes cb):=by
 refine Con.of_W (tb:=tbE) (args:=[.slice a len cap]) Tryz.func8 rfl Tryz.results8 Tryz.ntmps8 (by simp) (Tryz.call8 _) (tm:=[(0,.v (.slice a len cap))]) rfl ?_
 refine vc_ok ⟨tbE_ok,_,Tryz.func8,Tryz.results8,Tryz.ntmps8⟩ 400 _ _ _ _ ?_
 conv=>whnf
 refine Ext.len Tryz.underlying22 rfl rfl ?_
 conv=>whnf
 refine⟨fun _=>?_,fun _=>?_⟩<;>conv=>whnf
 ·exact⟨rfl,Hp.le_refl _⟩
 have ho:Own (cbHp cb) (cbAtoms cb++[]):=by rw [List.append_nil];exact cb_own cb
 refine(drawWorldOk_con a len cap cb hc _ [] ho).mono ?_
 rintro r h1 ⟨D,rfl,hd,ho1⟩
 have hw:WIn h1 D:=ho1.win fun x hx=>List.mem_append_right _ (List.mem_append_left _ hx)
 have hsm:=hd.sm
 have hle:(cbHp cb).le h1:=cb_le ho1
 conv=>whnf
 refine(iWorldOk_con D hsm hd.why h1 hw.wi).mono ?_
 rintro r h1 ⟨⟨b,rfl,hb⟩,rfl⟩
 conv=>whnf
 refine(sWorldOk_con D hsm h1 hw).mono ?_
 rintro r h1 ⟨⟨b',rfl,hb'⟩,rfl⟩
 obtain rfl:b'=b:=by rw [Bool.eq_iff_iff,hb,hb']
 conv=>whnf
 refine Ext.neqB rfl rfl rfl ?_
 conv=>whnf
 refine⟨fun _=>?_,fun h3=>absurd h3 (by simp)⟩
 conv=>whnf
 refine⟨fun b0=>?_,fun b0=>?_⟩<;>conv=>whnf
 ·refine(sWorldOk_con D hsm h1 hw).mono ?_
  rintro r h1 ⟨⟨b,rfl,hb2⟩,rfl⟩
  obtain rfl:b=b':=by rw [Bool.eq_iff_iff,hb2,hb]
  conv=>whnf
  refine Ext.eqlB rfl rfl rfl ?_
  conv=>whnf
  exact⟨congrArg Value.bool (by simp),hle⟩
 have hok:WOk D.pure:=hb.1 (by simpa using b0)
 clear b0 hb hb'
 obtain⟨hsafe,V,hfull,ok⟩:=hok
 have hn:D.runs.length≤1000:=by have:=hsm.runs;rw [pure_len] at this;exact this
 have hC:D.code.length≤1000:=hsm.code
 have hlenP:=pure_len D
 have hcb:=safeOf_ok hsafe
 have hVb:=full_bd hfull
 have hsf:∀i,i<(D.code.map OpD.toV).length→Eld.safeP (D.code.map OpD.toV) V i:=by
  rcases hsafe with ⟨_,U,hU,e⟩ | ⟨_,e⟩
  ·rw [Eld.full_one hfull hU];exact e.1 rfl
  ·cases e
 refine(iFull_con D.ca D.ck D.code (by omega) h1 _ ho1 hw.code).mono ?_
 rintro r h2 ⟨U,fa,fk,rfl,hFO,hle2,ho2⟩
 obtain rfl:U=V:=by
  rcases hFO with ⟨_,hU⟩ | ⟨hno,_⟩
  ·exact Eld.full_one hU hfull
  ·have hcb':Eld.codeB (D.code.map OpD.toV)=true:=hcb
   rw [hcb'] at hno;cases hno
 have hw2:=hw.le hle2
 have hV:RowOk h2 (rowI (.slice fa U.length fk) U):=ho2.rowOk List.mem_cons_self
 have hVl:U.length=D.code.length:=by rw [hfull.1.1.1,List.length_map];rfl
 conv=>whnf
 have hr:RowOk h2 (rowR D.rv D.runs):=hw2.runs
 have hle2':(cbHp cb).le h2:=Hp.le_trans hle hle2
 have hF0:RowOk h2 (rowI (.slice fa U.length fk) U):=hV
 clear ho2 hw hF0
 refine W.cut [(6,.v (.int .i64 (0:Nat))),(5,.v (.slice fa U.length fk)),(3,.p 0 0)] [⟨28,D.cells⟩] [] ⟨rfl,rfl,rfl,trivial⟩ rfl rfl ⟨_,rfl⟩ ?_
 refine W.loop (α:=Nat) (fun i=>[(6,.v (.int .i64 (i:Nat))),(5,.v (.slice fa U.length fk)),(3,.p 0 0)]) (fun _=>[⟨28,D.cells⟩]) (fun i h'=>i≤D.runs.length∧h2.le h') (fun i=>D.runs.length-i) ?_ 0 h2 ⟨Nat.zero_le _,Hp.le_refl _⟩
 rintro i h5 ⟨hi,hl5⟩ ih
 have hw5:=hw2.le hl5
 have hV5:=hV.le hl5
 have hr5:=hr.le hl5
 refine vc_ok ⟨tbE_ok,_,Tryz.func8,Tryz.results8,Tryz.ntmps8⟩ 400 _ _ _ _ ?_
 conv=>whnf
 refine⟨fun h6=>?_,fun h6=>?_⟩<;>conv=>whnf
 ·have hlt:i<D.runs.length:=by simp at h6;omega
  have hltP:i<D.pure.runs.length:=by omega
  obtain⟨g,hra⟩:=row_some hw5.runs (by omega)
  have hv:D.rv=.slice (some ⟨g,0,none⟩) D.runs.length D.rk:=by rw [WD.rv,hra]
  refine Ext.index slRun.u slRun.size rfl (by exact hv) rfl i rfl hlt ?_
  conv=>whnf
  refine Ext.loadRun rfl hr5 hv hlt rfl ?_
  conv=>whnf
  have ed:=pure_get D i hlt hltP
  have hwi:IntKind.i64.wrap ((i:Int)+1)=((i+1:Nat):Int):=by rw [wrapN _ (by omega) (by omega)];omega
  have hfit:=ok.fit i hltP
  rw [ed] at hfit
  generalize hd':D.runs[i]=y at *
  obtain⟨d,p⟩:=y
  dsimp only at ed hfit ⊢
  have hF:=runF (by have:=hfit.ok;unfold Eld.specRB at this;rw [Bool.and_eq_true] at this;exact this.1)
  conv=>whnf
  refine⟨fun b1=>?_,fun b1=>?_⟩<;>conv=>whnf
  ·rw [hwi]
   exact W.back (ih (i+1) _ ⟨hlt,hl5⟩ (by omega)) [_] (by exact⟨rfl,rfl,rfl,trivial⟩) rfl rfl
  have hne:d.st≠3:=by simpa using b1
  obtain⟨k,hk⟩:∃pk:Nat,d.pl=pk:=⟨d.pl.toNat,by have:=hF.pl.1;omega⟩
  have hkl:k<D.code.length:=by have:=hfit.pl;have e:D.pure.code=D.code:=rfl;rw [e] at this;omega
  have hkU:k<U.length:=by omega
  have hat:U[k]=Eld.atV U d.pl.toNat:=by
   unfold Eld.atV
   rw [hk,List.getD_eq_getElem?_getD,show ((k:Int)).toNat=k by simp,List.getElem?_eq_getElem hkU]
   rfl
  have hnn:0≤U[k]:=by rw [hat];exact hfit.nn hne
  have hbd:=hVb d.pl.toNat
  have hmt:=hfit.full hne
  rw [←hat] at hbd hmt
  obtain⟨gv,hfa⟩:=row_some hV5 (by omega)
  have hfv:Value.slice fa U.length fk=.slice (some ⟨gv,0,none⟩) U.length fk:=by rw [hfa]
  refine W.draw [(0,true),(1,true),(2,true),(3,true),(4,true),(5,true),(6,true),(7,true),(8,true),(9,true),(10,true),(11,true),(12,true),(13,true),(14,true),(15,true),(16,true),(17,true),(18,true),(19,true),(20,true),(21,false),(22,true),(23,true)] [1] (some h5) 99 (by kernel_rfl) rfl (by kernel_rfl) mixed rfl (fun g e=>by cases e;exact Hp.le_refl _) ?_
  refine vc_ok ⟨tbE_ok,_,Tryz.func8,Tryz.results8,Tryz.ntmps8⟩ 400 _ _ _ _ ?_
  conv=>whnf
  refine⟨fun b2=>?_,fun b2=>?_⟩<;>conv=>whnf
  rotate_left
  ·have:(U.length:Int)≤d.pl:=by simpa using b2
   omega
  refine Rd.index slInt.u slInt.size rfl (by exact hfv) rfl k hk hkU ?_
  conv=>whnf
  refine Rd.loadInt rfl hV5 hfv hkU rfl ?_
  conv=>whnf
  refine⟨fun b3=>?_,fun b3=>?_⟩<;>conv=>whnf
  rotate_left
  ·have:U[k]<0:=by simpa using b3
   omega
  refine Rd.index slInt.u slInt.size rfl (by exact hfv) rfl k hk hkU ?_
  conv=>whnf
  refine Rd.loadInt rfl hV5 hfv hkU rfl ?_
  conv=>whnf
  refine(lvIn_con U[k] d.full hnn hbd.2 hF.full.1 hF.full.2 (meet_in hnn hbd.2 hF.full.1 hF.full.2 hmt) h5).mono ?_
  rintro r h5 ⟨rfl,rfl⟩
  conv=>whnf
  refine⟨Hp.le_refl _,?_⟩
  conv=>whnf
  refine⟨fun h3=>absurd h3 (by simp),fun _=>?_⟩
  conv=>whnf
  have hcr:RowOk h5 (rowO D.cv D.code):=hw5.code
  obtain⟨gc,hca⟩:=row_some hcr (by omega)
  have hcv:D.cv=.slice (some ⟨gc,0,none⟩) D.code.length D.ck:=by rw [WD.cv,hca]
  refine Ext.index slOp.u slOp.size rfl (by exact hcv) rfl k hk hkl ?_
  conv=>whnf
  refine Ext.loadOp rfl hcr hcv hkl rfl ?_
  conv=>whnf
  refine(iUses_con D.code[k] h5 [] (Own.nil h5)).mono ?_
  rintro r h7 ⟨ua,uk,rfl,hl7,ho7⟩
  have hsk:=hsf k (by rw [List.length_map];exact hkl)
  have hCk:(D.code.map OpD.toV)[k]'(by rw [List.length_map];exact hkl)=D.code[k].toV:=by simp
  obtain⟨hwell,_,hokc⟩:=Eld.codeB_well hcb
  have hcok:Eld.opB D.code[k].k D.code[k].r D.code[k].s D.code[k].to D.code[k].vk D.code[k].vn=true:=by
   have h1:=hokc k (by show k<(D.code.map OpD.toV).length;rw [List.length_map];exact hkl)
   have h2:(D.code.map OpD.toV)[k]'(by rw [List.length_map];exact hkl)=D.code[k].toV:=hCk
   have h3:D.code[k].toV.ok=true:=by rw [←h2];exact h1
   exact h3
  rw [Eld.usesOf_ok hcok] at ho7 ⊢
  have hatk:U[k]=Eld.atV U k:=by rw [hat,hk];simp
  have hall:∀u∈Eld.usesL D.code[k].k D.code[k].r D.code[k].s,Eld.hasB U[k] u=true:=by
   have h1:=(hsk (by rw [List.length_map];exact hkl) (by rw [←hatk];exact hnn)).1
   rw [←hatk] at h1
   rw [hCk] at h1
   exact h1
  have hoi:=Eld.opIs_of hcok
  have hub:=Eld.uses_bd (k:=D.code[k].k) ⟨hoi.r1,hoi.r2⟩ ⟨hoi.s1,hoi.s2⟩
  have hul:=Eld.uses_len D.code[k].k D.code[k].r D.code[k].s
  have hur:RowOk h7 (rowI (.slice ua (Eld.usesL D.code[k].k D.code[k].r D.code[k].s).length uk) (Eld.usesL D.code[k].k D.code[k].r D.code[k].s)):=ho7.rowOk List.mem_cons_self
  generalize Eld.usesL D.code[k].k D.code[k].r D.code[k].s=us at *
  conv=>whnf
  refine W.cut [(9,.v (.int .i64 (0:Nat))),(8,.v (.slice ua us.length uk)),(7,.p 1 0),(6,.v (.int .i64 (i:Nat))),(5,.v (.slice fa U.length fk)),(3,.p 0 0)] [⟨28,D.cells⟩,⟨39,d.cells p⟩] [] ⟨rfl,rfl,rfl,rfl,rfl,rfl,trivial⟩ rfl rfl ⟨_,rfl⟩ ?_
  refine W.loop (α:=Nat) (fun j=>[(9,.v (.int .i64 (j:Nat))),(8,.v (.slice ua us.length uk)),(7,.p 1 0),(6,.v (.int .i64 (i:Nat))),(5,.v (.slice fa U.length fk)),(3,.p 0 0)]) (fun _=>[⟨28,D.cells⟩,⟨39,d.cells p⟩]) (fun j h'=>j≤us.length∧h'=h7) (fun j=>us.length-j) ?_ 0 h7 ⟨Nat.zero_le _,rfl⟩
  rintro j h8 ⟨hj,rfl⟩ ih2
  refine vc_ok ⟨tbE_ok,_,Tryz.func8,Tryz.results8,Tryz.ntmps8⟩ 400 _ _ _ _ ?_
  conv=>whnf
  refine⟨fun h9=>?_,fun h9=>?_⟩<;>conv=>whnf
  ·have hjl:j<us.length:=by simp at h9;omega
   obtain⟨gu,hua⟩:=row_some hur (by omega)
   have huv:Value.slice ua us.length uk=.slice (some ⟨gu,0,none⟩) us.length uk:=by rw [hua]
   have hum:=List.getElem_mem hjl
   have hu1:=hub _ hum
   have hwj:IntKind.i64.wrap ((j:Int)+1)=((j+1:Nat):Int):=by rw [wrapN _ (by omega) (by omega)];omega
   refine W.draw [(0,true),(1,true),(2,true),(3,true),(4,true),(5,true),(6,false),(7,true)] [1] (some h8) 99 (by kernel_rfl) rfl (by kernel_rfl) mixed rfl (fun g e=>by cases e;exact Hp.le_refl _) ?_
   refine vc_ok ⟨tbE_ok,_,Tryz.func8,Tryz.results8,Tryz.ntmps8⟩ 400 _ _ _ _ ?_
   conv=>whnf
   refine Rd.index slInt.u slInt.size rfl (by exact huv) rfl j rfl hjl ?_
   conv=>whnf
   refine Rd.loadInt rfl hur huv hjl rfl ?_
   conv=>whnf
   have hin:=has_in hnn hbd.2 hF.full.1 hF.full.2 hmt hu1.1 hu1.2 (hall _ hum)
   obtain⟨un,hun⟩:∃un:Nat,us[j]=(un:Int):=⟨us[j].toNat,by omega⟩
   rw [hun] at hin hu1 ⊢
   refine(lvBit_con d.full hF.full.1 hF.full.2 un (by omega) h8).mono ?_
   rintro r h8 ⟨rfl,rfl⟩
   rw [show lvB d.full un=true from hin]
   conv=>whnf
   refine⟨Hp.le_refl _,?_⟩
   conv=>whnf
   refine⟨fun h3=>absurd h3 (by simp),fun _=>?_⟩
   conv=>whnf
   rw [hwj]
   exact W.back (ih2 (j+1) _ ⟨hjl,rfl⟩ (by omega)) [] (by exact⟨rfl,rfl,rfl,rfl,rfl,rfl,trivial⟩) rfl rfl
  ·rw [hwi]
   exact W.back (ih (i+1) _ ⟨hlt,Hp.le_trans hl5 hl7⟩ (by omega)) [_] (by exact⟨rfl,rfl,rfl,trivial⟩) rfl rfl
 ·exact⟨rfl,Hp.le_trans hle2' hl5⟩
theorem walk (a0:Option Addr) (len0 cap0:Nat) (w:World) (h0:Eld.Code0 w a0 len0 cap0):Calls Tryz.prog 8 #[.slice a0 len0 cap0] w fun e w'=>e=.returned (.bool true)∧Below w.heap.size w w':=by
 obtain⟨cb,hc,hi⟩:=code_in h0
 exact((law a0 len0 cap0 cb hc).run w hi).mono fun e w' ⟨v,h',he,hy,hi',hf⟩=>yes_below hi hi' hf he hy
set_option maxRecDepth 20000 in
theorem contract (H:Type) (enc:TypeId×Value→H) (W:World) (base:Nat) (args:Array Value) (ds gs:List (DataW H)) (before:List MemPlace)
  (hval:∀(j:Nat) t v,Tryz.f8.params[j]?=some t→args[j]?=some v→Value.okWide Tryz.prog W .any base t v)
  (hW:DataW.Whole enc Tryz.prog Tryz.f8.params.toList Rows.fnWorldFullSpec.vars false W args.toList ds gs before) (_hL:laidMetH Tryz.prog Rows.fnWorldFullRow.laid W) :
  Calls Tryz.prog 8 args W fun e W'=>∃v,e=.returned v∧Rows.fnWorldFullSpec.post enc Tryz.prog Tryz.f8 false true false false W args v W':=by
 have hW':=hW
 obtain⟨p,q,hA0,hV,rfl,hfz,hnd⟩:=hW
 have hA:DataW.TrodAll enc Tryz.prog W 0 (fun _=>true) true Tryz.f8.params.toList args.toList ds p:=hA0
 rw [Tryz.params8] at hA hval
 obtain⟨v0,vs0,d0,ds0,p0,q0,hargs,rfl,rfl,h0,r0⟩:=trodAll_cons hA
 obtain⟨rfl,rfl,rfl⟩:=trodAll_nil r0
 obtain rfl:args=#[v0]:=by cases args;simp_all
 obtain⟨rfl,rfl⟩:=trodVars_none hV
 obtain⟨a0,len0,cap0,rfl⟩:=okWide_slice Tryz.underlying22 (hval 0 22 v0 rfl rfl)
 have k0:=h0
 have lt0:∀x∈p0,x.block<W.heap.size:=by obtain⟨m,hm⟩:=k0;exact DataW.trod_lt m _ _ _ hm
 have w0:Eld.Code0 W a0 len0 cap0:=by
  obtain⟨fuel,hf⟩:=h0
  rcases open_ints Tryz.underlying22 Tryz.underlying5 (by kernel_rfl) hf with ⟨hcs,_⟩ | ⟨x,l,c,zs,hcs,_,hl,hm,hz,_,hcell,hwz⟩
  ·simp [Value.cells] at hcs
   obtain⟨rfl,rfl,rfl⟩:=hcs
   exact Eld.code_of_row (zs:=[]) (.inl ⟨rfl,rfl,rfl,rfl⟩)
  ·simp [Value.cells] at hcs
   obtain⟨rfl,rfl,rfl⟩:=hcs
   exact Eld.code_of_row (zs:=zs) (.inr ⟨_,rfl,hl,hm,by simpa using hz,hcell,hwz⟩)
 clear hA0
 refine(walk a0 len0 cap0 W w0).mono fun e W' ⟨he,bel⟩=>?_
 subst he
 exact⟨_,rfl,_,_,_,[],_,[],hW',trodAll_mk1 (shut_bool Tryz.underlying4 _),(trodAll_cons_mk (Below.trod laidOut (by kernel_rfl) (of_decide_eq_true (by kernel_rfl)) k0 bel lt0) trodAll_mk0),rfl,bel.frame _,fun h=>by cases h⟩
theorem laid_met (os:Os):laidMet Tryz.prog Rows.fnWorldFullRow.laid ((Eld.putAll (World.settled Tryz.prog os).heap.size (World.holding Tryz.prog os ⟨Eld.errBlocks,#[],[]⟩)).forCall (fun _ _=>0) ⟨#[],#[.slice none 0 0],[]⟩).memory :=
 laidMet_of_run' 10 (by kernel_rfl) (by kernel_rfl)
theorem reads (os:Os) {H:Type} (enc:TypeId×Value→H):∃places,DataW.whole enc Tryz.prog ((Eld.putAll (World.settled Tryz.prog os).heap.size (World.holding Tryz.prog os ⟨Eld.errBlocks,#[],[]⟩)).forCall (fun _ _=>0) ⟨#[],#[.slice none 0 0],[]⟩).memory Tryz.f8.params.toList Rows.fnWorldFullSpec.vars false #[.slice none 0 0].toList 8=some ([.nil],[],places) :=
 ⟨[],by kernel_rfl⟩
set_option maxRecDepth 100000 in
theorem lifted (os:Os) (started:os.Started) (H:Type) (enc:TypeId×Value→H) (F:Stop.Interp) :
  ReturnsInHanded {} Tryz.checked os 8 .any ((OpenSpec.ofChange Rows.fnWorldFullSpec).preRow enc Tryz.prog Tryz.f8 Rows.fnWorldFullRow.domain false Rows.fnWorldFullRow.laid) (((OpenSpec.ofChange Rows.fnWorldFullSpec).at F).post enc Tryz.prog Tryz.f8 false true false false):=by
 obtain⟨places,hx⟩:=reads os enc
 refine returnsInHanded_of_row (C:=Tryz.checked) (s:=OpenSpec.ofChange Rows.fnWorldFullSpec) own started (by kernel_rfl) Tryz.func8
  (witness_row_atRef (enc:=enc) (C:=Tryz.checked) false (Eld.putAll (World.settled Tryz.prog os).heap.size (World.holding Tryz.prog os ⟨Eld.errBlocks,#[],[]⟩)) #[.slice none 0 0] rfl (by kernel_rfl) (by kernel_rfl) (by kernel_rfl)
   (OpenSpec.preRow_of_cond 8 hx (by kernel_rfl) (fun k hk=>by cases hk) (by kernel_rfl) (laid_met os))) ?_
 intro W base args ds gs before hval hW _ _ _ hL _ _
 exact contract H enc W base args ds gs before hval hW hL
set_option maxRecDepth 100000 in
theorem said:Rows.FnWorldFullSaid :=
 OpenClaim.holds_of_cond 8 Tryz.f8 rfl rfl rfl rfl rfl rfl rfl ⟨rfl,rfl,rfl,rfl,rfl⟩ rfl rfl rfl rfl rfl (by kernel_rfl) Tryz.func8 FcFnWorldFull.closed
  (of_decide_eq_true (by kernel_rfl)) (by unfold Func.isWrapper;first | (rw [if_pos (by decide +kernel)];kernel_rfl) | (rw [if_neg (by decide +kernel)];exact⟨rfl,rfl⟩))
  (fun os started H enc _ F=>by rw [OpenClaim.pre_eq_preRow];exact lifted os started H enc F)
theorem plain (f:FuncId) (fn:Func) (hf:Tryz.pinned.checked.prog.funcNamed Rows.fnWorldFullRow.func=some f) (hfn:Tryz.pinned.checked.prog.funcs[f]?=some fn) :
  true=Tryz.pinned.checked.prog.looks []∧∀(j:Nat) t,fn.params[j]?=some t→Tryz.pinned.checked.prog.wantsStandIn t=false:=by
 obtain rfl:f=8:=Option.some.inj ((show Tryz.prog.funcNamed Rows.fnWorldFullRow.func=some 8 by kernel_rfl).symm.trans hf) |>.symm
 obtain rfl:fn=Tryz.f8:=(Option.some.inj (Tryz.func8.symm.trans hfn)).symm
 refine⟨by kernel_rfl,fun j t ht=>?_⟩
 rw [Tryz.params8] at ht
 obtain rfl:t=22:=by simpa using Array.mem_of_getElem? ht
 exact(show Tryz.prog.wantsStandIn 22=false by kernel_rfl)
theorem card:Rows.FnWorldFullCardSaid :=
 Claim7.holds_tied_plain_at .later [] _ _ _ _ said (fun _ h=>by cases h) (by kernel_rfl) (fun _ h=>by cases h) fnWorldFull_row_tie rfl ⟨rfl,rfl⟩ (by kernel_rfl) rfl plain (by kernel_rfl)
end FnWorldFull
theorem fnWorldFull_holds:Rows.FnWorldFullCardSaid:=FnWorldFull.card
#print axioms fnWorldFull_holds
end Go.Proofs.YtbejochaghmmbaaGreatDoor
