import Derived.Test.YtgmkmeodimmdoaaGreatDoorTd
import Derived.Test.YtgmkmeodimmdoaaGreatDoorSm
import Derived.Test.YtgmkmeodimmdoaaGreatDoorSj
import Derived.Test.YtgmkmeodimmdoaaGreatDoorEFrameN
import Derived.Test.YtgmkmeodimmdoaaGreatDoorFcFnFallTwice
namespace Go.Proofs.YtgmkmeodimmdoaaGreatDoor
open Go.ChangeShapes Go.WideShapes Go.ChangeAt Go.RowKit Go.Joins
set_option maxRecDepth 100000
namespace FnFallTwice
theorem law (a:Option Addr) (len cap:Nat) (am:Option Addr) (lenb capb:Nat) (cb:Option (Nat×Obj)) (hc:CodeIn a len cap cb) :
  Con Tryz.prog 6 #[.slice a len cap,.slice am lenb capb] (cbHp cb) (Yes cb):=by
 refine Con.of_W (tb:=tbF) (args:=[.slice a len cap,.slice am lenb capb]) Tryz.func6 rfl Tryz.results6 Tryz.ntmps6 (by simp) (Tryz.call6 _) (tm:=[(0,.v (.slice a len cap)),(1,.v (.slice am lenb capb))]) rfl ?_
 refine vc_ok ⟨tbF_ok,_,Tryz.func6,Tryz.results6,Tryz.ntmps6⟩ 400 _ _ _ _ ?_
 conv=>whnf
 refine Ext.len Tryz.underlying22 rfl rfl ?_
 conv=>whnf
 refine⟨fun _=>?_,fun _=>?_⟩<;>conv=>whnf
 rotate_left
 ·exact⟨rfl,Hp.le_refl _⟩
 refine Ext.len Tryz.underlying22 rfl rfl ?_
 conv=>whnf
 refine⟨fun _=>?_,fun hb20=>?_⟩<;>conv=>whnf
 ·exact⟨rfl,Hp.le_refl _⟩
 have ho:Own (cbHp cb) (cbAtoms cb++[]):=by rw [List.append_nil];exact cb_own cb
 refine(drawFallEnd_con a len cap cb hc _ [] ho).mono ?_
 rintro r h1 ⟨D,id,v,rfl,hd,hid1,hid2,hv2,hvn0,hvn1,ho1⟩
 replace ho1:Own h1 (wAtoms D++cbAtoms cb):=by have:=ho1.turnL;rw [List.append_nil] at this;exact this
 have hsm:=hd.sm
 have hlp:=pure_len D
 have hfew:=hd.few
 conv=>whnf
 refine(iFallEnd_con D hsm hd.why id v h1 _ ho1).mono ?_
 rintro r h2 ⟨E,rfl,hE,ho2⟩
 conv=>whnf
 refine W.cut [(8,.p 2 0),(6,.v (.int .i64 id)),(7,.p 1 0),(5,.p 0 0),(1,.v (.slice am lenb capb))] _ [] ⟨rfl,rfl,rfl,rfl,rfl,trivial⟩ (List.append_nil _).symm rfl ⟨_,rfl⟩ ?_
 refine W.draw [(0,true),(1,true),(2,true),(3,true),(4,false),(5,false),(6,true),(7,true),(8,true),(9,false),(10,true),(11,true),(12,true),(13,true),(14,false),(15,true),(16,true)] [0,1,2] none 99 (by kernel_rfl) rfl (by kernel_rfl) mixed rfl (fun g e=>by cases e) ?_
 refine vc_ok ⟨tbF_ok,_,Tryz.func6,Tryz.results6,Tryz.ntmps6⟩ 400 _ _ _ _ ?_
 conv=>whnf
 refine(sFallEnd_con D hsm id v h2 _ ho2.turnL).mono ?_
 rintro r h3 ⟨F,rfl,hF,ho3⟩
 conv=>whnf
 have hEF:=hE.one hF
 have hEs:=hE.sm hsm
 have hlpE:=pure_len E
 refine(lvWorld_same E F hEF hEs h3 (ho3.win fun _ hx=>List.mem_append_right _ (List.mem_append_right _ (List.mem_append_left _ hx))) ho3.wL).mono ?_
 rintro r h3 ⟨rfl,rfl⟩
 conv=>whnf
 replace ho3:Own h3 (wAtoms D++(wAtoms E++cbAtoms cb)):=ho3.dropL
 refine⟨fun _=>?_,fun e=>absurd e (by simp)⟩
 conv=>whnf
 refine(sWorldOk_con D hsm h3 ho3.wL).mono ?_
 rintro r h3 ⟨⟨b,rfl,hb⟩,rfl⟩
 conv=>whnf
 refine⟨fun b0=>?_,fun b0=>?_⟩<;>conv=>whnf
 rotate_left
 ·refine W.cut [(8,.p 2 0),(6,.v (.int .i64 id)),(7,.p 1 0),(5,.p 0 0),(1,.v (.slice am lenb capb))] _ [] ⟨rfl,rfl,rfl,rfl,rfl,trivial⟩ (List.append_nil _).symm rfl ⟨_,rfl⟩ ?_
  refine W.draw [(0,true),(1,true),(2,true),(3,true),(4,false),(5,false),(6,true)] [0,1,2] none 99 (by kernel_rfl) rfl (by kernel_rfl) mixed rfl (fun g e=>by cases e) ?_
  refine vc_ok ⟨tbF_ok,_,Tryz.func6,Tryz.results6,Tryz.ntmps6⟩ 400 _ _ _ _ ?_
  conv=>whnf
  refine(sFallEnd_con D hsm id v h3 _ ho3).mono ?_
  rintro r h9 ⟨G,rfl,hG,ho9⟩
  conv=>whnf
  refine(lvWorld_same E G (hE.one hG) hEs h9 (ho9.win fun _ hx=>List.mem_append_right _ (List.mem_append_right _ (List.mem_append_left _ hx))) ho9.wL).mono ?_
  rintro r h9 ⟨rfl,rfl⟩
  conv=>whnf
  exact⟨rfl,cb_leT (ho9.dropL.dropL)⟩
 have hok:WOk D.pure:=hb.1 (by simpa using b0)
 refine(valOk_con v h3).mono ?_
 rintro r h3 ⟨rfl,rfl⟩
 conv=>whnf
 refine⟨fun b1=>?_,fun b1=>?_⟩<;>conv=>whnf
 ·refine W.cut [(8,.p 2 0),(6,.v (.int .i64 id)),(7,.p 1 0),(5,.p 0 0),(1,.v (.slice am lenb capb))] _ [] ⟨rfl,rfl,rfl,rfl,rfl,trivial⟩ (List.append_nil _).symm rfl ⟨_,rfl⟩ ?_
  refine W.draw [(0,true),(1,true),(2,true),(3,true),(4,false),(5,false),(6,true)] [0,1,2] none 99 (by kernel_rfl) rfl (by kernel_rfl) mixed rfl (fun g e=>by cases e) ?_
  refine vc_ok ⟨tbF_ok,_,Tryz.func6,Tryz.results6,Tryz.ntmps6⟩ 400 _ _ _ _ ?_
  conv=>whnf
  refine(sFallEnd_con D hsm id v h3 _ ho3).mono ?_
  rintro r h9 ⟨G,rfl,hG,ho9⟩
  conv=>whnf
  refine(lvWorld_same E G (hE.one hG) hEs h9 (ho9.win fun _ hx=>List.mem_append_right _ (List.mem_append_right _ (List.mem_append_left _ hx))) ho9.wL).mono ?_
  rintro r h9 ⟨rfl,rfl⟩
  conv=>whnf
  exact⟨rfl,cb_leT (ho9.dropL.dropL)⟩
 have hvo:okV v=true:=by simpa using b1
 have hfell:FallE D.pure id v E.pure:=hE.fell hok hvo (by omega)
 have hok':=hok
 obtain⟨hsafe,V,hV,ok⟩:=hok'
 have h6:=ok.n6
 have hwE:WOk E.pure:=hfell.wok hok hvo (by omega)
 obtain⟨eok,ecode,elen,etaken,enow,esent,elost,_⟩:=hfell.oks ok hvo (by omega)
 have hlE:E.runs.length=D.runs.length:=by omega
 have hwl:IntKind.i64.wrap ((E.runs.length:Int)+1)=(E.runs.length:Int)+1:=wrapN _ (by omega) (by omega)
 have ho3E:Own h3 (wAtoms E++(wAtoms D++cbAtoms cb)):=ho3.turnL
 refine W.cut [(8,.p 2 0),(6,.v (.int .i64 id)),(7,.p 1 0),(5,.p 0 0),(1,.v (.slice am lenb capb))] _ [] ⟨rfl,rfl,rfl,rfl,rfl,trivial⟩ (List.append_nil _).symm rfl ⟨_,rfl⟩ ?_
 refine W.draw [(0,true),(1,true),(2,true),(3,true),(4,true),(5,true),(6,true),(7,true),(8,true),(9,true),(10,true),(11,true),(12,true),(13,true),(14,true),(15,true),(17,true),(16,false),(18,false),(19,true),(20,true)] [0,1,2] none 99 (by kernel_rfl) rfl (by kernel_rfl) mixed rfl (fun g e=>by cases e) ?_
 refine vc_ok ⟨tbF_ok,_,Tryz.func6,Tryz.results6,Tryz.ntmps6⟩ 400 _ _ _ _ ?_
 conv=>whnf
 refine⟨fun c0=>?_,fun c0=>?_⟩
 rotate_left
 ·have:¬(1≤id):=by simpa using c0
  exact absurd hid1 this
 conv=>whnf
 refine⟨fun c1=>?_,fun c1=>?_⟩<;>conv=>whnf
 ·have hin:id≤(D.runs.length:Int):=by simpa using c1
  refine Rd.len Tryz.underlying22 rfl rfl ?_
  conv=>whnf
  refine Rd.rem (b:=9) rfl rfl rfl (by decide) ?_
  conv=>whnf
  have hm:(lenb:Int).tmod 9=((lenb % 9:Nat):Int):=by rw [Int.tmod_eq_emod_of_nonneg (by omega)];omega
  have hv':okV (1,(lenb:Int).tmod 9)=true:=by
   rw [hm]
   unfold okV
   simp
   omega
  refine(iFallEnd_con E hEs hE.why id (1,(lenb:Int).tmod 9) h3 _ ho3E).mono ?_
  rintro r h4 ⟨G,rfl,hG,ho4⟩
  conv=>whnf
  have e4:G.pure=E.pure:=(hG.fell hwE hv' (by omega)).still fun j hj e=>by
   subst e
   exact hfell.down ok hvo (by omega) (by omega) hj
  refine(lvWorld_same G E e4 (by rw [e4];exact hEs) h4 ho4.wL (ho4.win fun _ hx=>List.mem_append_right _ (List.mem_append_left _ hx))).mono ?_
  rintro r h4 ⟨rfl,rfl⟩
  conv=>whnf
  replace ho4:=ho4.dropL
  refine⟨fun e=>absurd e (by simp),fun _=>?_⟩
  conv=>whnf
  refine W.cut [(8,.p 2 0),(6,.v (.int .i64 id)),(7,.p 1 0),(5,.p 0 0),(1,.v (.slice am lenb capb))] _ [] ⟨rfl,rfl,rfl,rfl,rfl,trivial⟩ (List.append_nil _).symm rfl ⟨_,rfl⟩ ?_
  refine W.draw [(0,true),(1,true),(2,true),(3,true),(4,true),(5,true),(7,true),(6,false),(8,false),(9,true),(10,true),(11,true),(13,true),(12,false),(14,false),(15,true),(16,true)] [0,1,2] none 99 (by kernel_rfl) rfl (by kernel_rfl) mixed rfl (fun g e=>by cases e) ?_
  refine vc_ok ⟨tbF_ok,_,Tryz.func6,Tryz.results6,Tryz.ntmps6⟩ 400 _ _ _ _ ?_
  conv=>whnf
  rw [hwl]
  refine(iFallEnd_con E hEs hE.why ((E.runs.length:Int)+1) v h4 _ ho4).mono ?_
  rintro r h5 ⟨G5,rfl,hG5,ho5⟩
  conv=>whnf
  have e5:G5.pure=E.pure:=(hG5.fell hwE hvo (by omega)).still fun j hj e=>by omega
  refine(lvWorld_same G5 E e5 (by rw [e5];exact hEs) h5 ho5.wL (ho5.win fun _ hx=>List.mem_append_right _ (List.mem_append_left _ hx))).mono ?_
  rintro r h5 ⟨rfl,rfl⟩
  conv=>whnf
  replace ho5:=ho5.dropL
  refine⟨fun _=>?_,fun e=>absurd e (by simp)⟩
  conv=>whnf
  refine(iFallEnd_con E hEs hE.why 0 v h5 _ ho5).mono ?_
  rintro r h6 ⟨G6,rfl,hG6,ho6⟩
  conv=>whnf
  have e6:G6.pure=E.pure:=(hG6.fell hwE hvo (by omega)).still fun j hj e=>by omega
  refine(lvWorld_same G6 E e6 (by rw [e6];exact hEs) h6 ho6.wL (ho6.win fun _ hx=>List.mem_append_right _ (List.mem_append_left _ hx))).mono ?_
  rintro r h6 ⟨rfl,rfl⟩
  conv=>whnf
  exact⟨rfl,cb_leT (l:=wAtoms E++wAtoms D) (by rw [List.append_assoc];exact ho6.dropL)⟩
 ·refine W.cut [(8,.p 2 0),(6,.v (.int .i64 id)),(7,.p 1 0),(5,.p 0 0),(1,.v (.slice am lenb capb))] _ [] ⟨rfl,rfl,rfl,rfl,rfl,trivial⟩ (List.append_nil _).symm rfl ⟨_,rfl⟩ ?_
  refine W.draw [(0,true),(1,true),(2,true),(3,true),(4,true),(5,true),(7,true),(6,false),(8,false),(9,true),(10,true),(11,true),(13,true),(12,false),(14,false),(15,true),(16,true)] [0,1,2] none 99 (by kernel_rfl) rfl (by kernel_rfl) mixed rfl (fun g e=>by cases e) ?_
  refine vc_ok ⟨tbF_ok,_,Tryz.func6,Tryz.results6,Tryz.ntmps6⟩ 400 _ _ _ _ ?_
  conv=>whnf
  rw [hwl]
  refine(iFallEnd_con E hEs hE.why ((E.runs.length:Int)+1) v h3 _ ho3E).mono ?_
  rintro r h5 ⟨G5,rfl,hG5,ho5⟩
  conv=>whnf
  have e5:G5.pure=E.pure:=(hG5.fell hwE hvo (by omega)).still fun j hj e=>by omega
  refine(lvWorld_same G5 E e5 (by rw [e5];exact hEs) h5 ho5.wL (ho5.win fun _ hx=>List.mem_append_right _ (List.mem_append_left _ hx))).mono ?_
  rintro r h5 ⟨rfl,rfl⟩
  conv=>whnf
  replace ho5:=ho5.dropL
  refine⟨fun _=>?_,fun e=>absurd e (by simp)⟩
  conv=>whnf
  refine(iFallEnd_con E hEs hE.why 0 v h5 _ ho5).mono ?_
  rintro r h6 ⟨G6,rfl,hG6,ho6⟩
  conv=>whnf
  have e6:G6.pure=E.pure:=(hG6.fell hwE hvo (by omega)).still fun j hj e=>by omega
  refine(lvWorld_same G6 E e6 (by rw [e6];exact hEs) h6 ho6.wL (ho6.win fun _ hx=>List.mem_append_right _ (List.mem_append_left _ hx))).mono ?_
  rintro r h6 ⟨rfl,rfl⟩
  conv=>whnf
  exact⟨rfl,cb_leT (l:=wAtoms E++wAtoms D) (by rw [List.append_assoc];exact ho6.dropL)⟩
theorem walk (a0:Option Addr) (len0 cap0:Nat) (a1:Option Addr) (len1 cap1:Nat) (w:World) (h0:Eld.Code0 w a0 len0 cap0) (_:Eld.Code0 w a1 len1 cap1):Calls Tryz.prog 6 #[.slice a0 len0 cap0,.slice a1 len1 cap1] w fun e w'=>e=.returned (.bool true)∧Below w.heap.size w w':=by
 obtain⟨cb,hc,hi⟩:=code_in h0
 exact((law a0 len0 cap0 a1 len1 cap1 cb hc).run w hi).mono fun e w' ⟨v,h',he,hy,hi',hf⟩=>yes_below hi hi' hf he hy
set_option maxRecDepth 20000 in
theorem contract (H:Type) (enc:TypeId×Value→H) (W:World) (base:Nat) (args:Array Value) (ds gs:List (DataW H)) (before:List MemPlace)
  (hval:∀(j:Nat) t v,Tryz.f6.params[j]?=some t→args[j]?=some v→Value.okWide Tryz.prog W .any base t v)
  (hW:DataW.Whole enc Tryz.prog Tryz.f6.params.toList Rows.fnFallTwiceSpec.vars false W args.toList ds gs before) (_hL:laidMetH Tryz.prog Rows.fnFallTwiceRow.laid W) :
  Calls Tryz.prog 6 args W fun e W'=>∃v,e=.returned v∧Rows.fnFallTwiceSpec.post enc Tryz.prog Tryz.f6 false true false false W args v W':=by
 have hW':=hW
 obtain⟨p,q,hA0,hV,rfl,hfz,hnd⟩:=hW
 have hA:DataW.TrodAll enc Tryz.prog W 0 (fun _=>true) true Tryz.f6.params.toList args.toList ds p:=hA0
 rw [Tryz.params6] at hA hval
 obtain⟨v0,vs0,d0,ds0,p0,q0,hargs,rfl,rfl,h0,r0⟩:=trodAll_cons hA
 obtain⟨v1,vs1,d1,ds1,p1,q1,rfl,rfl,rfl,h1,r1⟩:=trodAll_cons r0
 obtain⟨rfl,rfl,rfl⟩:=trodAll_nil r1
 obtain rfl:args=#[v0,v1]:=by cases args;simp_all
 obtain⟨rfl,rfl⟩:=trodVars_none hV
 obtain⟨a0,len0,cap0,rfl⟩:=okWide_slice Tryz.underlying22 (hval 0 22 v0 rfl rfl)
 have k0:=h0
 have lt0:∀x∈p0,x.block<W.heap.size:=by obtain⟨m,hm⟩:=k0;exact DataW.trod_lt m _ _ _ hm
 have w0:Eld.Code0 W a0 len0 cap0:=by
  obtain⟨fuel,hf⟩:=h0
  rcases open_ints Tryz.underlying22 Tryz.underlying5 (by kernel_rfl) hf with ⟨hcs,_⟩ | ⟨x,l,c,zs,hcs,_,hl,hm,hz,_,hcell,hwz⟩
  ·simp [Value.cells] at hcs
   obtain⟨rfl,rfl,rfl⟩:=hcs
   exact Eld.code_of_row (zs:=[]) (.inl ⟨rfl,rfl,rfl,rfl⟩)
  ·simp [Value.cells] at hcs
   obtain⟨rfl,rfl,rfl⟩:=hcs
   exact Eld.code_of_row (zs:=zs) (.inr ⟨_,rfl,hl,hm,by simpa using hz,hcell,hwz⟩)
 obtain⟨a1,len1,cap1,rfl⟩:=okWide_slice Tryz.underlying22 (hval 1 22 v1 rfl rfl)
 have k1:=h1
 have lt1:∀x∈p1,x.block<W.heap.size:=by obtain⟨m,hm⟩:=k1;exact DataW.trod_lt m _ _ _ hm
 have w1:Eld.Code0 W a1 len1 cap1:=by
  obtain⟨fuel,hf⟩:=h1
  rcases open_ints Tryz.underlying22 Tryz.underlying5 (by kernel_rfl) hf with ⟨hcs,_⟩ | ⟨x,l,c,zs,hcs,_,hl,hm,hz,_,hcell,hwz⟩
  ·simp [Value.cells] at hcs
   obtain⟨rfl,rfl,rfl⟩:=hcs
   exact Eld.code_of_row (zs:=[]) (.inl ⟨rfl,rfl,rfl,rfl⟩)
  ·simp [Value.cells] at hcs
   obtain⟨rfl,rfl,rfl⟩:=hcs
   exact Eld.code_of_row (zs:=zs) (.inr ⟨_,rfl,hl,hm,by simpa using hz,hcell,hwz⟩)
 clear hA0
 refine(walk a0 len0 cap0 a1 len1 cap1 W w0 w1).mono fun e W' ⟨he,bel⟩=>?_
 subst he
 exact⟨_,rfl,_,_,_,[],_,[],hW',trodAll_mk1 (shut_bool Tryz.underlying4 _),(trodAll_cons_mk (Below.trod laidOut (by kernel_rfl) (of_decide_eq_true (by kernel_rfl)) k0 bel lt0) (trodAll_cons_mk (Below.trod laidOut (by kernel_rfl) (of_decide_eq_true (by kernel_rfl)) k1 bel lt1) trodAll_mk0)),rfl,bel.frame _,fun h=>by cases h⟩
theorem laid_met (os:Os):laidMet Tryz.prog Rows.fnFallTwiceRow.laid ((Eld.putAll (World.settled Tryz.prog os).heap.size (World.holding Tryz.prog os ⟨Eld.errBlocks,#[],[]⟩)).forCall (fun _ _=>0) ⟨#[],#[.slice none 0 0,.slice none 0 0],[]⟩).memory :=
 laidMet_of_run' 10 (by kernel_rfl) (by kernel_rfl)
theorem reads (os:Os) {H:Type} (enc:TypeId×Value→H):∃places,DataW.whole enc Tryz.prog ((Eld.putAll (World.settled Tryz.prog os).heap.size (World.holding Tryz.prog os ⟨Eld.errBlocks,#[],[]⟩)).forCall (fun _ _=>0) ⟨#[],#[.slice none 0 0,.slice none 0 0],[]⟩).memory Tryz.f6.params.toList Rows.fnFallTwiceSpec.vars false #[.slice none 0 0,.slice none 0 0].toList 8=some ([.nil,.nil],[],places) :=
 ⟨[],by kernel_rfl⟩
set_option maxRecDepth 100000 in
theorem lifted (os:Os) (started:os.Started) (H:Type) (enc:TypeId×Value→H) (F:Stop.Interp) :
  ReturnsInHanded {} Tryz.checked os 6 .any ((OpenSpec.ofChange Rows.fnFallTwiceSpec).preRow enc Tryz.prog Tryz.f6 Rows.fnFallTwiceRow.domain false Rows.fnFallTwiceRow.laid) (((OpenSpec.ofChange Rows.fnFallTwiceSpec).at F).post enc Tryz.prog Tryz.f6 false true false false):=by
 obtain⟨places,hx⟩:=reads os enc
 refine returnsInHanded_of_row (C:=Tryz.checked) (s:=OpenSpec.ofChange Rows.fnFallTwiceSpec) own started (by kernel_rfl) Tryz.func6
  (witness_row_atRef (enc:=enc) (C:=Tryz.checked) false (Eld.putAll (World.settled Tryz.prog os).heap.size (World.holding Tryz.prog os ⟨Eld.errBlocks,#[],[]⟩)) #[.slice none 0 0,.slice none 0 0] rfl (by kernel_rfl) (by kernel_rfl) (by kernel_rfl)
   (OpenSpec.preRow_of_cond 8 hx (by kernel_rfl) (fun k hk=>by cases hk) (by kernel_rfl) (laid_met os))) ?_
 intro W base args ds gs before hval hW _ _ _ hL _ _
 exact contract H enc W base args ds gs before hval hW hL
set_option maxRecDepth 100000 in
theorem said:Rows.FnFallTwiceSaid :=
 OpenClaim.holds_of_cond 6 Tryz.f6 rfl rfl rfl rfl rfl rfl rfl ⟨rfl,rfl,rfl,rfl,rfl⟩ rfl rfl rfl rfl rfl (by kernel_rfl) Tryz.func6 FcFnFallTwice.closed
  (of_decide_eq_true (by kernel_rfl)) (by unfold Func.isWrapper;first | (rw [if_pos (by decide +kernel)];kernel_rfl) | (rw [if_neg (by decide +kernel)];exact⟨rfl,rfl⟩))
  (fun os started H enc _ F=>by rw [OpenClaim.pre_eq_preRow];exact lifted os started H enc F)
theorem plain (f:FuncId) (fn:Func) (hf:Tryz.pinned.checked.prog.funcNamed Rows.fnFallTwiceRow.func=some f) (hfn:Tryz.pinned.checked.prog.funcs[f]?=some fn) :
  true=Tryz.pinned.checked.prog.looks []∧∀(j:Nat) t,fn.params[j]?=some t→Tryz.pinned.checked.prog.wantsStandIn t=false:=by
 obtain rfl:f=6:=Option.some.inj ((show Tryz.prog.funcNamed Rows.fnFallTwiceRow.func=some 6 by kernel_rfl).symm.trans hf) |>.symm
 obtain rfl:fn=Tryz.f6:=(Option.some.inj (Tryz.func6.symm.trans hfn)).symm
 refine⟨by kernel_rfl,fun j t ht=>?_⟩
 rw [Tryz.params6] at ht
 obtain rfl:t=22:=by simpa using Array.mem_of_getElem? ht
 exact(show Tryz.prog.wantsStandIn 22=false by kernel_rfl)
theorem card:Rows.FnFallTwiceCardSaid :=
 Claim7.holds_tied_plain_at .later [] _ _ _ _ said (fun _ h=>by cases h) (by kernel_rfl) (fun _ h=>by cases h) fnFallTwice_row_tie rfl ⟨rfl,rfl⟩ (by kernel_rfl) rfl plain (by kernel_rfl)
end FnFallTwice
theorem fnFallTwice_holds:Rows.FnFallTwiceCardSaid:=FnFallTwice.card
#print axioms fnFallTwice_holds
end Go.Proofs.YtgmkmeodimmdoaaGreatDoor
