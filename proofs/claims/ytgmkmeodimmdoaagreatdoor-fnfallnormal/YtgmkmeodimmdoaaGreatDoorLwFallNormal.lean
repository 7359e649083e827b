import Derived.Test.YtgmkmeodimmdoaaGreatDoorTd
import Derived.Test.YtgmkmeodimmdoaaGreatDoorSm
import Derived.Test.YtgmkmeodimmdoaaGreatDoorSj
import Derived.Test.YtgmkmeodimmdoaaGreatDoorEFrameN
import Derived.Test.YtgmkmeodimmdoaaGreatDoorFcFnFallNormal
namespace Go.Proofs.YtgmkmeodimmdoaaGreatDoor
open Go.ChangeShapes Go.WideShapes Go.ChangeAt Go.RowKit Go.Joins
set_option maxRecDepth 100000
namespace FnFallNormal
theorem law (a:Option Addr) (len cap:Nat) (cb:Option (Nat×Obj)) (hc:CodeIn a len cap cb) :
  Con Tryz.prog 7 #[.slice a len cap] (cbHp cb) (Yes cb):=by
 refine Con.of_W (tb:=tbF) (args:=[.slice a len cap]) Tryz.func7 rfl Tryz.results7 Tryz.ntmps7 (by simp) (Tryz.call7 _) (tm:=[(0,.v (.slice a len cap))]) rfl ?_
 refine vc_ok ⟨tbF_ok,_,Tryz.func7,Tryz.results7,Tryz.ntmps7⟩ 400 _ _ _ _ ?_
 conv=>whnf
 refine Ext.len Tryz.underlying22 rfl rfl ?_
 conv=>whnf
 refine⟨fun _=>?_,fun _=>?_⟩<;>conv=>whnf
 ·exact⟨rfl,Hp.le_refl _⟩
 have ho:Own (cbHp cb) (cbAtoms cb++[]):=by rw [List.append_nil];exact cb_own cb
 refine(drawFallEnd_con a len cap cb hc _ [] ho).mono ?_
 rintro r h1 ⟨D,id,v,rfl,hd,hid1,hid2,hv2,hvn0,hvn1,ho1⟩
 replace ho1:Own h1 (wAtoms D++cbAtoms cb):=by have:=ho1.turnL;rw [List.append_nil] at this;exact this
 have hsm:=hd.sm
 have hlp:=pure_len D
 have hfew:=hd.few
 conv=>whnf
 refine(iFallEnd_con D hsm hd.why id v h1 _ ho1).mono ?_
 rintro r h2 ⟨E,rfl,hE,ho2⟩
 conv=>whnf
 refine W.cut [(6,.p 2 0),(4,.v (.int .i64 id)),(5,.p 1 0),(3,.p 0 0)] _ [] ⟨rfl,rfl,rfl,rfl,trivial⟩ (List.append_nil _).symm rfl ⟨_,rfl⟩ ?_
 refine W.draw [(0,true),(1,true),(2,true),(3,true),(4,false),(5,false),(6,true),(7,true),(8,true),(9,false),(10,true),(11,true),(12,true),(13,true),(14,true),(15,false),(16,true),(17,true),(18,true),(19,true),(20,true),(21,false),(22,true),(23,true)] [0,1,2] none 99 (by kernel_rfl) rfl (by kernel_rfl) mixed rfl (fun g e=>by cases e) ?_
 refine vc_ok ⟨tbF_ok,_,Tryz.func7,Tryz.results7,Tryz.ntmps7⟩ 400 _ _ _ _ ?_
 conv=>whnf
 refine(sFallEnd_con D hsm id v h2 _ ho2.turnL).mono ?_
 rintro r h3 ⟨F,rfl,hF,ho3⟩
 conv=>whnf
 have hEF:=hE.one hF
 have hEs:=hE.sm hsm
 have hlpE:=pure_len E
 refine(lvWorld_same E F hEF hEs h3 (ho3.win fun _ hx=>List.mem_append_right _ (List.mem_append_right _ (List.mem_append_left _ hx))) ho3.wL).mono ?_
 rintro r h3 ⟨rfl,rfl⟩
 conv=>whnf
 replace ho3:Own h3 (wAtoms D++(wAtoms E++cbAtoms cb)):=ho3.dropL
 refine⟨fun _=>?_,fun e=>absurd e (by simp)⟩
 conv=>whnf
 refine(sWorldOk_con D hsm h3 ho3.wL).mono ?_
 rintro r h3 ⟨⟨b,rfl,hb⟩,rfl⟩
 conv=>whnf
 refine⟨fun b0=>?_,fun b0=>?_⟩<;>conv=>whnf
 rotate_left
 ·refine W.cut [(6,.p 2 0),(4,.v (.int .i64 id)),(5,.p 1 0),(3,.p 0 0)] _ [] ⟨rfl,rfl,rfl,rfl,trivial⟩ (List.append_nil _).symm rfl ⟨_,rfl⟩ ?_
  refine W.draw [(0,true),(1,true),(2,true),(3,true),(4,false),(5,false),(6,true)] [0,1,2] none 99 (by kernel_rfl) rfl (by kernel_rfl) mixed rfl (fun g e=>by cases e) ?_
  refine vc_ok ⟨tbF_ok,_,Tryz.func7,Tryz.results7,Tryz.ntmps7⟩ 400 _ _ _ _ ?_
  conv=>whnf
  refine(sFallEnd_con D hsm id v h3 _ ho3).mono ?_
  rintro r h9 ⟨G,rfl,hG,ho9⟩
  conv=>whnf
  refine(lvWorld_same E G (hE.one hG) hEs h9 (ho9.win fun _ hx=>List.mem_append_right _ (List.mem_append_right _ (List.mem_append_left _ hx))) ho9.wL).mono ?_
  rintro r h9 ⟨rfl,rfl⟩
  conv=>whnf
  exact⟨rfl,cb_leT (ho9.dropL.dropL)⟩
 have hok:WOk D.pure:=hb.1 (by simpa using b0)
 have hok':=hok
 obtain⟨hsafe,V,hV,ok⟩:=hok'
 have h6:=ok.n6
 by_cases hin:1≤id∧id≤(D.runs.length:Int)
 rotate_left
 ·refine(lvStateOut_con D id hin h3).mono ?_
  rintro r h3 ⟨rfl,rfl⟩
  conv=>whnf
  refine⟨fun e=>absurd e (by decide),fun _=>?_⟩
  conv=>whnf
  refine W.cut [(6,.p 2 0),(4,.v (.int .i64 id)),(5,.p 1 0),(3,.p 0 0)] _ [] ⟨rfl,rfl,rfl,rfl,trivial⟩ (List.append_nil _).symm rfl ⟨_,rfl⟩ ?_
  refine W.draw [(0,true),(1,true),(2,true),(3,true),(4,false),(5,false),(6,true)] [0,1,2] none 99 (by kernel_rfl) rfl (by kernel_rfl) mixed rfl (fun g e=>by cases e) ?_
  refine vc_ok ⟨tbF_ok,_,Tryz.func7,Tryz.results7,Tryz.ntmps7⟩ 400 _ _ _ _ ?_
  conv=>whnf
  refine(sFallEnd_con D hsm id v h3 _ ho3).mono ?_
  rintro r h9 ⟨G,rfl,hG,ho9⟩
  conv=>whnf
  refine(lvWorld_same E G (hE.one hG) hEs h9 (ho9.win fun _ hx=>List.mem_append_right _ (List.mem_append_right _ (List.mem_append_left _ hx))) ho9.wL).mono ?_
  rintro r h9 ⟨rfl,rfl⟩
  conv=>whnf
  exact⟨rfl,cb_leT (ho9.dropL.dropL)⟩
 obtain⟨i,hid⟩:∃i:Nat,id=(i:Int)+1:=⟨(id-1).toNat,by omega⟩
 have hi:i<D.runs.length:=by omega
 have hgi:D.pure.runs[i]'(by omega)=D.runs[i].1:=pure_get D i hi (by omega)
 have hst:=(ok.run i (by omega)).st
 rw [hgi] at hst
 refine(lvState_con D i hi (by omega) id hid h3 ho3.wL).mono ?_
 rintro r h3 ⟨rfl,rfl⟩
 conv=>whnf
 refine⟨fun _=>?_,fun b2=>absurd (show D.runs[i].1.st=0 by simpa using b2) (by omega)⟩
 conv=>whnf
 refine(lvState_con D i hi (by omega) id hid h3 ho3.wL).mono ?_
 rintro r h3 ⟨rfl,rfl⟩
 conv=>whnf
 refine⟨fun b3=>?_,fun b3=>?_⟩<;>conv=>whnf
 ·refine W.cut [(6,.p 2 0),(4,.v (.int .i64 id)),(5,.p 1 0),(3,.p 0 0)] _ [] ⟨rfl,rfl,rfl,rfl,trivial⟩ (List.append_nil _).symm rfl ⟨_,rfl⟩ ?_
  refine W.draw [(0,true),(1,true),(2,true),(3,true),(4,false),(5,false),(6,true)] [0,1,2] none 99 (by kernel_rfl) rfl (by kernel_rfl) mixed rfl (fun g e=>by cases e) ?_
  refine vc_ok ⟨tbF_ok,_,Tryz.func7,Tryz.results7,Tryz.ntmps7⟩ 400 _ _ _ _ ?_
  conv=>whnf
  refine(sFallEnd_con D hsm id v h3 _ ho3).mono ?_
  rintro r h9 ⟨G,rfl,hG,ho9⟩
  conv=>whnf
  refine(lvWorld_same E G (hE.one hG) hEs h9 (ho9.win fun _ hx=>List.mem_append_right _ (List.mem_append_right _ (List.mem_append_left _ hx))) ho9.wL).mono ?_
  rintro r h9 ⟨rfl,rfl⟩
  conv=>whnf
  exact⟨rfl,cb_leT (ho9.dropL.dropL)⟩
 have hal:D.runs[i].1.st≠3:=by simpa using b3
 have hv0:okV ((2,0):Int×Int)=true:=by decide
 have hsD:D.pure.sent≤3010:=hfew
 have hwD:=ho3.wL
 obtain⟨gD,hraD⟩:=row_some hwD.runs (by omega)
 refine(iFallEnd_con D hsm hd.why id (2,0) h3 _ ho3).mono ?_
 rintro r h4 ⟨Y,rfl,hY,ho4⟩
 conv=>whnf
 have hfY:FallE D.pure id (2,0) Y.pure:=hY.fell hok hv0 (by omega)
 have hYs:=hY.sm hsm
 have hlpY:=pure_len Y
 have hwD4:WIn h4 D:=ho4.win fun _ hx=>List.mem_append_right _ (List.mem_append_left _ hx)
 have hwY4:WIn h4 Y:=ho4.wL
 have hwokY:WOk Y.pure:=hfY.wok hok hv0 (by omega)
 have hS:SetsOk D.pure (2,0) (fun x=>x=id) (fun x=>x∈D.runs[i].1.wat):=⟨fun _ _ _ _ _ _ _ _ hn=>absurd hn (by decide),fun k hk hk2 _ x hx=>by
  rcases hx with hx | ⟨_,hn⟩
  ·have:k=i:=by omega
   subst this
   rw [hgi] at hx
   exact hx
  ·exact absurd hn (by decide)⟩
 have hI:=hfY.inv ok hv0 (by omega) (by rw [hlp];exact hin) hS rfl
 have hlY:Y.runs.length=D.runs.length:=by have:=hI.len;omega
 have hdown:Y.runs[i]'(by omega) |>.1.st=3:=by
  have:=FallE.down (i:=i) ok hv0 (by omega) (by omega) (by rw [←hid];exact hfY) (by omega)
  rw [pure_get Y i (by omega)] at this
  exact this
 obtain⟨gY,hraY⟩:=row_some hwY4.runs (by omega)
 have hz:IntKind.i64.wrap (id-1)=(i:Int):=by rw [hid,show (i:Int)+1-1=i by omega];exact wrapN _ (by omega) (by omega)
 refine Ext.index slRun.u slRun.size rfl (by exact rv_same hraD) rfl i hz hi ?_
 conv=>whnf
 refine Ext.loadRunCell (D:=D) rfl ⟨rfl,rfl⟩ rfl hwD4.runs (rv_same hraD) hi 8 (by omega) rfl (.slice D.runs[i].2.a3 D.runs[i].1.wat.length D.runs[i].2.k3) rfl ?_
 conv=>whnf
 have hwB:D.runs[i].1.wat.length<100000:=by
  have:=ok.wk.watB _ (List.getElem_mem (by omega:i<D.pure.runs.length))
  rw [hgi] at this
  omega
 refine W.cut [(9,.v (.int .i64 ((0+1:Nat):Int))),(8,.v (.slice D.runs[i].2.a3 D.runs[i].1.wat.length D.runs[i].2.k3)),(7,.p 3 0),(4,.v (.int .i64 id)),(3,.p 0 0)] [⟨27,D.cells⟩,⟨32,[.int .i64 v.1,.int .i64 v.2]⟩,⟨27,E.cells⟩,⟨27,Y.cells⟩] [] ⟨rfl,rfl,rfl,rfl,rfl,trivial⟩ rfl rfl ⟨_,rfl⟩ ?_
 refine W.loop (α:=Nat) (fun x=>[(9,.v (.int .i64 ((x+1:Nat):Int))),(8,.v (.slice D.runs[i].2.a3 D.runs[i].1.wat.length D.runs[i].2.k3)),(7,.p 3 0),(4,.v (.int .i64 id)),(3,.p 0 0)]) (fun _=>[⟨27,D.cells⟩,⟨32,[.int .i64 v.1,.int .i64 v.2]⟩,⟨27,E.cells⟩,⟨27,Y.cells⟩])
  (fun x h'=>x≤D.runs.length∧h'=h4) (fun x=>D.runs.length-x) ?_ 0 h4 ⟨Nat.zero_le _,rfl⟩
 rintro j h5 ⟨hj,rfl⟩ ih
 refine vc_ok ⟨tbF_ok,_,Tryz.func7,Tryz.results7,Tryz.ntmps7⟩ 400 _ _ _ _ ?_
 conv=>whnf
 refine⟨fun c=>?_,fun c=>?_⟩<;>conv=>whnf
 ·have hlt:j<D.runs.length:=by simp at c;omega
  have hltY:j<Y.runs.length:=by omega
  have hw1:IntKind.i64.wrap (((j+1:Nat):Int)+1)=((j+1+1:Nat):Int):=by rw [wrapN _ (by omega) (by omega)];omega
  have hzj:IntKind.i64.wrap (((j+1:Nat):Int)-1)=(j:Int):=by rw [wrapN _ (by omega) (by omega)];omega
  refine⟨fun c1=>?_,fun c1=>?_⟩<;>conv=>whnf
  ·rw [hw1]
   exact W.back (ih (j+1) h5 ⟨hlt,rfl⟩ (by omega)) [] (by exact⟨rfl,rfl,rfl,rfl,rfl,trivial⟩) rfl rfl
  have hji:j≠i:=by
   have:¬(((j+1:Nat):Int)=id):=by simpa using c1
   intro e
   exact this (by rw [hid,e];omega)
  have hpD:j<D.pure.runs.length:=by omega
  have hpY:j<Y.pure.runs.length:=by omega
  have gD:=pure_get D j hlt hpD
  have gY:=pure_get Y j hltY hpY
  have hsame:(D.runs[j].1.st==3)=(Y.runs[j].1.st==3):=by
   rw [Bool.eq_iff_iff,beq_iff_eq,beq_iff_eq]
   constructor
   ·intro e
    have:=hI.old j hpD hpY (by rw [gD];exact e)
    rw [gD,gY] at this
    rw [this];exact e
   ·intro e
    by_cases e2:D.runs[j].1.st=3
    ·exact e2
    ·have:=(hI.new j hpD hpY (by rw [gD];exact e2) (by rw [gY];exact e)).2
     exact absurd (show (j:Int)+1=id from this) (by omega)
  have hlk:amongP Y.runs[j].1.links id=false:=by
   cases hh:amongP Y.runs[j].1.links id
   ·rfl
   ·exfalso
    have hm:=among_mem.1 hh
    by_cases e:Y.runs[j].1.st=3
    ·have hok2:OkS Y.pure V:=hI.ok
     have:=((hok2.run j hpY).fin (by rw [gY];exact e)).2.1
     rw [gY] at this
     rw [this] at hm
     cases hm
    ·have hl:=(hI.live j hpD hpY (by rw [gY];exact e)).links id
     rw [gY] at hl
     have:=(hl.1 hm).2 i (by omega) (by omega)
     rw [pure_get Y i (by omega)] at this
     exact this hdown
  have hml:amongP D.runs[i].1.wat ((j+1:Nat):Int)=false→Y.runs[j].1.mail.length=D.runs[j].1.mail.length:=fun hno=>by
   by_cases e:Y.runs[j].1.st=3
   ·have e2:D.runs[j].1.st=3:=by
     have:=hsame
     rw [e] at this
     simpa using this
    have:=hI.old j hpD hpY (by rw [gD];exact e2)
    rw [gD,gY] at this
    rw [this]
   ·have hl:=(hI.live j hpD hpY (by rw [gY];exact e)).same (fun hm=>by
     have:amongP D.runs[i].1.wat ((j+1:Nat):Int)=true:=among_mem.2 (by
      have e3:((j+1:Nat):Int)=(j:Int)+1:=by omega
      rw [e3];exact hm)
     rw [hno] at this
     cases this)
    rw [gY,gD] at hl
    rw [hl]
  refine Ext.index slRun.u slRun.size rfl (by exact rv_same hraD) rfl j hzj hlt ?_
  conv=>whnf
  refine Ext.loadRun (D:=D) rfl hwD4.runs (rv_same hraD) hlt rfl ?_
  conv=>whnf
  refine Ext.index slRun.u slRun.size rfl (by exact rv_same hraY) rfl j hzj hltY ?_
  conv=>whnf
  refine Ext.loadRun (D:=Y) rfl hwY4.runs (rv_same hraY) hltY rfl ?_
  conv=>whnf
  refine Ext.neqB rfl rfl rfl ?_
  rw [hsame]
  conv=>whnf
  refine⟨fun _=>?_,fun e=>absurd e (by simp)⟩
  conv=>whnf
  refine(lvAmong_con D.runs[i].2.a3 D.runs[i].2.k3 D.runs[i].1.wat ((j+1:Nat):Int) hwB h5 (hwD4.each i hi).r3).mono ?_
  rintro r h6 ⟨rfl,rfl⟩
  conv=>whnf
  refine⟨fun c2=>?_,fun c2=>?_⟩<;>conv=>whnf
  ·have hno:amongP D.runs[i].1.wat ((j+1:Nat):Int)=false:=by simpa using c2
   rw [hml hno]
   refine⟨fun _=>?_,fun e=>absurd e (by simp)⟩
   conv=>whnf
   refine(lvAmong_con Y.runs[j].2.a2 Y.runs[j].2.k2 Y.runs[j].1.links id (by have:=(hYs.each _ (pure_mem hltY)).s2;omega) h6 (hwY4.each j hltY).r2).mono ?_
   rintro r h7 ⟨rfl,rfl⟩
   rw [hlk]
   conv=>whnf
   refine⟨fun e=>absurd e (by simp),fun _=>?_⟩
   conv=>whnf
   rw [hw1]
   exact W.back (ih (j+1) h7 ⟨hlt,rfl⟩ (by omega)) [_,_] (by exact⟨rfl,rfl,rfl,rfl,rfl,trivial⟩) rfl rfl
  ·refine(lvAmong_con Y.runs[j].2.a2 Y.runs[j].2.k2 Y.runs[j].1.links id (by have:=(hYs.each _ (pure_mem hltY)).s2;omega) h6 (hwY4.each j hltY).r2).mono ?_
   rintro r h7 ⟨rfl,rfl⟩
   rw [hlk]
   conv=>whnf
   refine⟨fun e=>absurd e (by simp),fun _=>?_⟩
   conv=>whnf
   rw [hw1]
   exact W.back (ih (j+1) h7 ⟨hlt,rfl⟩ (by omega)) [_,_] (by exact⟨rfl,rfl,rfl,rfl,rfl,trivial⟩) rfl rfl
 ·refine(lvState_con Y i (by omega) (by omega) id hid h5 hwY4).mono ?_
  rintro r h6 ⟨rfl,rfl⟩
  conv=>whnf
  rw [hdown]
  conv=>whnf
  refine⟨fun _=>?_,fun e=>absurd e (by simp)⟩
  conv=>whnf
  refine(iWorldOk_con Y hYs hY.why h6 hwY4.wi).mono ?_
  rintro r h7 ⟨⟨b',rfl,hb'⟩,rfl⟩
  conv=>whnf
  exact⟨congrArg Value.bool (hb'.2 hwokY),cb_leT (l:=wAtoms Y++(wAtoms D++wAtoms E)) (by rw [List.append_assoc,List.append_assoc];exact ho4)⟩
theorem walk (a0:Option Addr) (len0 cap0:Nat) (w:World) (h0:Eld.Code0 w a0 len0 cap0):Calls Tryz.prog 7 #[.slice a0 len0 cap0] w fun e w'=>e=.returned (.bool true)∧Below w.heap.size w w':=by
 obtain⟨cb,hc,hi⟩:=code_in h0
 exact((law a0 len0 cap0 cb hc).run w hi).mono fun e w' ⟨v,h',he,hy,hi',hf⟩=>yes_below hi hi' hf he hy
set_option maxRecDepth 20000 in
theorem contract (H:Type) (enc:TypeId×Value→H) (W:World) (base:Nat) (args:Array Value) (ds gs:List (DataW H)) (before:List MemPlace)
  (hval:∀(j:Nat) t v,Tryz.f7.params[j]?=some t→args[j]?=some v→Value.okWide Tryz.prog W .any base t v)
  (hW:DataW.Whole enc Tryz.prog Tryz.f7.params.toList Rows.fnFallNormalSpec.vars false W args.toList ds gs before) (_hL:laidMetH Tryz.prog Rows.fnFallNormalRow.laid W) :
  Calls Tryz.prog 7 args W fun e W'=>∃v,e=.returned v∧Rows.fnFallNormalSpec.post enc Tryz.prog Tryz.f7 false true false false W args v W':=by
 have hW':=hW
 obtain⟨p,q,hA0,hV,rfl,hfz,hnd⟩:=hW
 have hA:DataW.TrodAll enc Tryz.prog W 0 (fun _=>true) true Tryz.f7.params.toList args.toList ds p:=hA0
 rw [Tryz.params7] at hA hval
 obtain⟨v0,vs0,d0,ds0,p0,q0,hargs,rfl,rfl,h0,r0⟩:=trodAll_cons hA
 obtain⟨rfl,rfl,rfl⟩:=trodAll_nil r0
 obtain rfl:args=#[v0]:=by cases args;simp_all
 obtain⟨rfl,rfl⟩:=trodVars_none hV
 obtain⟨a0,len0,cap0,rfl⟩:=okWide_slice Tryz.underlying22 (hval 0 22 v0 rfl rfl)
 have k0:=h0
 have lt0:∀x∈p0,x.block<W.heap.size:=by obtain⟨m,hm⟩:=k0;exact DataW.trod_lt m _ _ _ hm
 have w0:Eld.Code0 W a0 len0 cap0:=by
  obtain⟨fuel,hf⟩:=h0
  rcases open_ints Tryz.underlying22 Tryz.underlying5 (by kernel_rfl) hf with ⟨hcs,_⟩ | ⟨x,l,c,zs,hcs,_,hl,hm,hz,_,hcell,hwz⟩
  ·simp [Value.cells] at hcs
   obtain⟨rfl,rfl,rfl⟩:=hcs
   exact Eld.code_of_row (zs:=[]) (.inl ⟨rfl,rfl,rfl,rfl⟩)
  ·simp [Value.cells] at hcs
   obtain⟨rfl,rfl,rfl⟩:=hcs
   exact Eld.code_of_row (zs:=zs) (.inr ⟨_,rfl,hl,hm,by simpa using hz,hcell,hwz⟩)
 clear hA0
 refine(walk a0 len0 cap0 W w0).mono fun e W' ⟨he,bel⟩=>?_
 subst he
 exact⟨_,rfl,_,_,_,[],_,[],hW',trodAll_mk1 (shut_bool Tryz.underlying4 _),(trodAll_cons_mk (Below.trod laidOut (by kernel_rfl) (of_decide_eq_true (by kernel_rfl)) k0 bel lt0) trodAll_mk0),rfl,bel.frame _,fun h=>by cases h⟩
theorem laid_met (os:Os):laidMet Tryz.prog Rows.fnFallNormalRow.laid ((Eld.putAll (World.settled Tryz.prog os).heap.size (World.holding Tryz.prog os ⟨Eld.errBlocks,#[],[]⟩)).forCall (fun _ _=>0) ⟨#[],#[.slice none 0 0],[]⟩).memory :=
 laidMet_of_run' 10 (by kernel_rfl) (by kernel_rfl)
theorem reads (os:Os) {H:Type} (enc:TypeId×Value→H):∃places,DataW.whole enc Tryz.prog ((Eld.putAll (World.settled Tryz.prog os).heap.size (World.holding Tryz.prog os ⟨Eld.errBlocks,#[],[]⟩)).forCall (fun _ _=>0) ⟨#[],#[.slice none 0 0],[]⟩).memory Tryz.f7.params.toList Rows.fnFallNormalSpec.vars false #[.slice none 0 0].toList 8=some ([.nil],[],places) :=
 ⟨[],by kernel_rfl⟩
set_option maxRecDepth 100000 in
theorem lifted (os:Os) (started:os.Started) (H:Type) (enc:TypeId×Value→H) (F:Stop.Interp) :
  ReturnsInHanded {} Tryz.checked os 7 .any ((OpenSpec.ofChange Rows.fnFallNormalSpec).preRow enc Tryz.prog Tryz.f7 Rows.fnFallNormalRow.domain false Rows.fnFallNormalRow.laid) (((OpenSpec.ofChange Rows.fnFallNormalSpec).at F).post enc Tryz.prog Tryz.f7 false true false false):=by
 obtain⟨places,hx⟩:=reads os enc
 refine returnsInHanded_of_row (C:=Tryz.checked) (s:=OpenSpec.ofChange Rows.fnFallNormalSpec) own started (by kernel_rfl) Tryz.func7
  (witness_row_atRef (enc:=enc) (C:=Tryz.checked) false (Eld.putAll (World.settled Tryz.prog os).heap.size (World.holding Tryz.prog os ⟨Eld.errBlocks,#[],[]⟩)) #[.slice none 0 0] rfl (by kernel_rfl) (by kernel_rfl) (by kernel_rfl)
   (OpenSpec.preRow_of_cond 8 hx (by kernel_rfl) (fun k hk=>by cases hk) (by kernel_rfl) (laid_met os))) ?_
 intro W base args ds gs before hval hW _ _ _ hL _ _
 exact contract H enc W base args ds gs before hval hW hL
set_option maxRecDepth 100000 in
theorem said:Rows.FnFallNormalSaid :=
 OpenClaim.holds_of_cond 7 Tryz.f7 rfl rfl rfl rfl rfl rfl rfl ⟨rfl,rfl,rfl,rfl,rfl⟩ rfl rfl rfl rfl rfl (by kernel_rfl) Tryz.func7 FcFnFallNormal.closed
  (of_decide_eq_true (by kernel_rfl)) (by unfold Func.isWrapper;first | (rw [if_pos (by decide +kernel)];kernel_rfl) | (rw [if_neg (by decide +kernel)];exact⟨rfl,rfl⟩))
  (fun os started H enc _ F=>by rw [OpenClaim.pre_eq_preRow];exact lifted os started H enc F)
theorem plain (f:FuncId) (fn:Func) (hf:Tryz.pinned.checked.prog.funcNamed Rows.fnFallNormalRow.func=some f) (hfn:Tryz.pinned.checked.prog.funcs[f]?=some fn) :
  true=Tryz.pinned.checked.prog.looks []∧∀(j:Nat) t,fn.params[j]?=some t→Tryz.pinned.checked.prog.wantsStandIn t=false:=by
 obtain rfl:f=7:=Option.some.inj ((show Tryz.prog.funcNamed Rows.fnFallNormalRow.func=some 7 by kernel_rfl).symm.trans hf) |>.symm
 obtain rfl:fn=Tryz.f7:=(Option.some.inj (Tryz.func7.symm.trans hfn)).symm
 refine⟨by kernel_rfl,fun j t ht=>?_⟩
 rw [Tryz.params7] at ht
 obtain rfl:t=22:=by simpa using Array.mem_of_getElem? ht
 exact(show Tryz.prog.wantsStandIn 22=false by kernel_rfl)
theorem card:Rows.FnFallNormalCardSaid :=
 Claim7.holds_tied_plain_at .later [] _ _ _ _ said (fun _ h=>by cases h) (by kernel_rfl) (fun _ h=>by cases h) fnFallNormal_row_tie rfl ⟨rfl,rfl⟩ (by kernel_rfl) rfl plain (by kernel_rfl)
end FnFallNormal
theorem fnFallNormal_holds:Rows.FnFallNormalCardSaid:=FnFallNormal.card
#print axioms fnFallNormal_holds
end Go.Proofs.YtgmkmeodimmdoaaGreatDoor
