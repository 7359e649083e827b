import Derived.Test.YtgmkmeodimmdoaaGreatDoorBRexFw
import Derived.Test.YtgmkmeodimmdoaaGreatDoorBEFrameN
import Derived.Test.YtgmkmeodimmdoaaGreatDoorBFcFnFallTwo
set_option maxRecDepth 100000
namespace Go.Proofs.YtgmkmeodimmdoaaGreatDoor
open Go.ChangeShapes Go.WideShapes Go.ChangeAt Go.RowKit Go.Joins
set_option maxRecDepth 100000
namespace FnFallTwo
theorem law (a:Option Addr) (len cap:Nat) (am:Option Addr) (lenb capb:Nat) (cb:Option (Nat×Obj)) (hc:CodeIn a len cap cb) :
  Con Tryz.prog 12 #[.slice a len cap,.slice am lenb capb] (cbHp cb) (Yes cb):=by
 refine Con.of_W (tb:=tbF) (args:=[.slice a len cap,.slice am lenb capb]) Tryz.func12 rfl Tryz.results12 Tryz.ntmps12 (by simp) (Tryz.call12 _) (tm:=[(0,.v (.slice a len cap)),(1,.v (.slice am lenb capb))]) rfl ?_;refine vc_ok ⟨tbF_ok,_,Tryz.func12,Tryz.results12,Tryz.ntmps12⟩ 400 _ _ _ _ ?_;conv=>whnf
 refine Ext.len Tryz.underlying22 rfl rfl ?_;conv=>whnf
 refine⟨fun _=>?_,fun _=>?_⟩<;>conv=>whnf
 rotate_left
 ·exact⟨rfl,Hp.le_refl _⟩
 refine Ext.len Tryz.underlying22 rfl rfl ?_;conv=>whnf
 refine⟨fun _=>?_,fun hb20=>?_⟩<;>conv=>whnf
 ·exact⟨rfl,Hp.le_refl _⟩
 have ho:Own (cbHp cb) (cbAtoms cb++[]):=by rw [List.append_nil];exact cb_own cb
 refine(drawFallEnd_con a len cap cb hc _ [] ho).mono ?_;rintro r h1 ⟨D,id,v,rfl,hd,hid1,hid2,hv2,hvn0,hvn1,ho1⟩;replace ho1:Own h1 (wAtoms D++cbAtoms cb):=by have:=ho1.turnL;rw [List.append_nil] at this;exact this
 have hsm:=hd.sm;have hlp:=pure_len D;have hfew:=hd.few;conv=>whnf
 refine(iFallEnd_con D hsm hd.why id v h1 _ ho1).mono ?_;rintro r h2 ⟨E,rfl,hE,ho2⟩;conv=>whnf
 refine W.cut [(8,.p 2 0),(6,.v (.int .i64 id)),(7,.p 1 0),(5,.p 0 0),(1,.v (.slice am lenb capb))] _ [] ⟨rfl,rfl,rfl,rfl,rfl,trivial⟩ (List.append_nil _).symm rfl ⟨_,rfl⟩ ?_;refine W.draw [(0,true),(1,true),(2,true),(3,true),(4,false),(5,false),(6,true),(7,true),(8,true),(9,false),(10,true),(11,true),(12,true),(13,true),(14,false),(15,true),(16,true),(17,true),(18,true),(19,true),(20,false),(21,true),(22,true),(23,true),(24,true),(25,true),(26,false),(27,true),(28,true)] [0,1,2] none 99 (by kernel_rfl) rfl (by kernel_rfl) mixed rfl (fun g e=>by cases e) ?_;refine vc_ok ⟨tbF_ok,_,Tryz.func12,Tryz.results12,Tryz.ntmps12⟩ 400 _ _ _ _ ?_;conv=>whnf
 refine(sFallEnd_con D hsm id v h2 _ ho2.turnL).mono ?_;rintro r h3 ⟨F,rfl,hF,ho3⟩;conv=>whnf
 have hEF:=hE.one hF;have hEs:=hE.sm hsm;have hlpE:=pure_len E;refine(lvWorld_same E F hEF hEs h3 (ho3.win fun _ hx=>List.mem_append_right _ (List.mem_append_right _ (List.mem_append_left _ hx))) ho3.wL).mono ?_;rintro r h3 ⟨rfl,rfl⟩;conv=>whnf
 replace ho3:Own h3 (wAtoms D++(wAtoms E++cbAtoms cb)):=ho3.dropL;refine⟨fun _=>?_,fun e=>absurd e (by simp)⟩;conv=>whnf
 refine(sWorldOk_con D hsm h3 ho3.wL).mono ?_;rintro r h3 ⟨⟨b,rfl,hb⟩,rfl⟩;conv=>whnf
 refine⟨fun b0=>?_,fun b0=>?_⟩<;>conv=>whnf
 rotate_left
 ·refine W.cut [(8,.p 2 0),(6,.v (.int .i64 id)),(7,.p 1 0),(5,.p 0 0),(1,.v (.slice am lenb capb))] _ [] ⟨rfl,rfl,rfl,rfl,rfl,trivial⟩ (List.append_nil _).symm rfl ⟨_,rfl⟩ ?_;refine W.draw [(0,true),(1,true),(2,true),(3,true),(4,false),(5,false),(6,true)] [0,1,2] none 99 (by kernel_rfl) rfl (by kernel_rfl) mixed rfl (fun g e=>by cases e) ?_;refine vc_ok ⟨tbF_ok,_,Tryz.func12,Tryz.results12,Tryz.ntmps12⟩ 400 _ _ _ _ ?_;conv=>whnf
  refine(sFallEnd_con D hsm id v h3 _ ho3).mono ?_;rintro r h9 ⟨G,rfl,hG,ho9⟩;conv=>whnf
  refine(lvWorld_same E G (hE.one hG) hEs h9 (ho9.win fun _ hx=>List.mem_append_right _ (List.mem_append_right _ (List.mem_append_left _ hx))) ho9.wL).mono ?_;rintro r h9 ⟨rfl,rfl⟩;conv=>whnf
  exact⟨rfl,cb_leT (ho9.dropL.dropL)⟩
 have hok:WOk D.pure:=hb.1 (by simpa using b0);refine(valOk_con v h3).mono ?_;rintro r h3 ⟨rfl,rfl⟩;conv=>whnf
 refine⟨fun b1=>?_,fun b1=>?_⟩<;>conv=>whnf
 rotate_left
 ·refine W.cut [(8,.p 2 0),(6,.v (.int .i64 id)),(7,.p 1 0),(5,.p 0 0),(1,.v (.slice am lenb capb))] _ [] ⟨rfl,rfl,rfl,rfl,rfl,trivial⟩ (List.append_nil _).symm rfl ⟨_,rfl⟩ ?_;refine W.draw [(0,true),(1,true),(2,true),(3,true),(4,false),(5,false),(6,true)] [0,1,2] none 99 (by kernel_rfl) rfl (by kernel_rfl) mixed rfl (fun g e=>by cases e) ?_;refine vc_ok ⟨tbF_ok,_,Tryz.func12,Tryz.results12,Tryz.ntmps12⟩ 400 _ _ _ _ ?_;conv=>whnf
  refine(sFallEnd_con D hsm id v h3 _ ho3).mono ?_;rintro r h9 ⟨G,rfl,hG,ho9⟩;conv=>whnf
  refine(lvWorld_same E G (hE.one hG) hEs h9 (ho9.win fun _ hx=>List.mem_append_right _ (List.mem_append_right _ (List.mem_append_left _ hx))) ho9.wL).mono ?_;rintro r h9 ⟨rfl,rfl⟩;conv=>whnf
  exact⟨rfl,cb_leT (ho9.dropL.dropL)⟩
 have hvo:okV v=true:=by simpa using b1
 have hfell:FallE D.pure id v E.pure:=hE.fell hok hvo (by omega);have hok':=hok;obtain⟨hsafe,V,hV,ok⟩:=hok';have h6:=ok.n6;by_cases hin:1≤id∧id≤(D.runs.length:Int);rotate_left
 ·refine(lvStateOut_con D id hin h3).mono ?_;rintro r h3 ⟨rfl,rfl⟩;conv=>whnf
  refine⟨fun e=>absurd e (by decide),fun _=>?_⟩;conv=>whnf
  refine W.cut [(8,.p 2 0),(6,.v (.int .i64 id)),(7,.p 1 0),(5,.p 0 0),(1,.v (.slice am lenb capb))] _ [] ⟨rfl,rfl,rfl,rfl,rfl,trivial⟩ (List.append_nil _).symm rfl ⟨_,rfl⟩ ?_;refine W.draw [(0,true),(1,true),(2,true),(3,true),(4,false),(5,false),(6,true)] [0,1,2] none 99 (by kernel_rfl) rfl (by kernel_rfl) mixed rfl (fun g e=>by cases e) ?_;refine vc_ok ⟨tbF_ok,_,Tryz.func12,Tryz.results12,Tryz.ntmps12⟩ 400 _ _ _ _ ?_;conv=>whnf
  refine(sFallEnd_con D hsm id v h3 _ ho3).mono ?_;rintro r h9 ⟨G,rfl,hG,ho9⟩;conv=>whnf
  refine(lvWorld_same E G (hE.one hG) hEs h9 (ho9.win fun _ hx=>List.mem_append_right _ (List.mem_append_right _ (List.mem_append_left _ hx))) ho9.wL).mono ?_;rintro r h9 ⟨rfl,rfl⟩;conv=>whnf
  exact⟨rfl,cb_leT (ho9.dropL.dropL)⟩
 obtain⟨i,hid⟩:∃i:Nat,id=(i:Int)+1:=⟨(id-1).toNat,by omega⟩;have hi:i<D.runs.length:=by omega
 have hgi:D.pure.runs[i]'(by omega)=D.runs[i].1:=pure_get D i hi (by omega);have hst:=(ok.run i (by omega)).st;rw [hgi] at hst;refine(lvState_con D i hi (by omega) id hid h3 ho3.wL).mono ?_;rintro r h3 ⟨rfl,rfl⟩;conv=>whnf
 refine⟨fun _=>?_,fun b2=>absurd (show D.runs[i].1.st=0 by simpa using b2) (by omega)⟩;conv=>whnf
 refine(lvState_con D i hi (by omega) id hid h3 ho3.wL).mono ?_;rintro r h3 ⟨rfl,rfl⟩;conv=>whnf
 refine⟨fun b3=>?_,fun b3=>?_⟩<;>conv=>whnf
 ·refine W.cut [(8,.p 2 0),(6,.v (.int .i64 id)),(7,.p 1 0),(5,.p 0 0),(1,.v (.slice am lenb capb))] _ [] ⟨rfl,rfl,rfl,rfl,rfl,trivial⟩ (List.append_nil _).symm rfl ⟨_,rfl⟩ ?_;refine W.draw [(0,true),(1,true),(2,true),(3,true),(4,false),(5,false),(6,true)] [0,1,2] none 99 (by kernel_rfl) rfl (by kernel_rfl) mixed rfl (fun g e=>by cases e) ?_;refine vc_ok ⟨tbF_ok,_,Tryz.func12,Tryz.results12,Tryz.ntmps12⟩ 400 _ _ _ _ ?_;conv=>whnf
  refine(sFallEnd_con D hsm id v h3 _ ho3).mono ?_;rintro r h9 ⟨G,rfl,hG,ho9⟩;conv=>whnf
  refine(lvWorld_same E G (hE.one hG) hEs h9 (ho9.win fun _ hx=>List.mem_append_right _ (List.mem_append_right _ (List.mem_append_left _ hx))) ho9.wL).mono ?_;rintro r h9 ⟨rfl,rfl⟩;conv=>whnf
  exact⟨rfl,cb_leT (ho9.dropL.dropL)⟩
 have hal:D.runs[i].1.st≠3:=by simpa using b3
 have hsD:D.pure.sent≤3010:=hfew;have hn1:=ok.n1;have hst3:D.pure.runs[i].st≠3:=by rw [hgi];exact hal
 have hfi:FallE D.pure ((i:Int)+1) v E.pure:=by rw [←hid];exact hfell
 refine Ext.len Tryz.underlying22 rfl rfl ?_;conv=>whnf
 refine Ext.rem (a:=(lenb:Int)) (b:=(D.runs.length:Int)) rfl rfl rfl (by omega) ?_;obtain⟨o,ho,hoe⟩:∃o:Nat,o<D.runs.length∧((lenb:Int).tmod (D.runs.length:Int))=(o:Int):=⟨lenb % D.runs.length,Nat.mod_lt _ (by omega),by rw [Int.tmod_eq_emod_of_nonneg (by omega)];exact(Int.natCast_emod ..).symm⟩;rw [hoe];have hwo:IntKind.i64.wrap (1+(o:Int))=(o:Int)+1:=by rw [wrapN _ (by omega) (by omega)];omega
 conv=>whnf
 rw [hwo];have hgo:D.pure.runs[o]'(by omega)=D.runs[o].1:=pure_get D o ho (by omega);have hfin:∀{h9:Hp},Own h9 (wAtoms D++(wAtoms E++cbAtoms cb))→(cbHp cb).le h9:=fun h=>cb_leT h.dropL
 refine(lvState_con D o ho (by omega) ((o:Int)+1) rfl h3 ho3.wL).mono ?_;rintro r h3 ⟨rfl,rfl⟩;conv=>whnf
 refine⟨fun c1=>?_,fun c1=>?_⟩<;>conv=>whnf
 rotate_left
 ·exact⟨rfl,hfin ho3⟩
 have hso:D.pure.runs[o].st≠3:=by rw [hgo];simpa using c1
 refine(iFallWith_con D hsm hd.why id h3 _ ho3).mono ?_;rintro r h4 ⟨L1,a1,k1,rfl,hL1,ho4⟩;have hL16:=hL1.len;have hw1:IsWith D.pure ((i:Int)+1) L1:=by
  rcases hL1 with⟨_,k⟩|⟨hno,_⟩
  ·rw [←hid];exact k
  ·exact absurd ⟨⟨hsafe,V,hV,ok⟩,i,by omega,hid,hst3⟩ hno
 conv=>whnf
 refine(lvAmong_con _ _ _ _ (by omega) h4 (ho4.rowOk List.mem_cons_self)).mono ?_;rintro r h4 ⟨rfl,rfl⟩;conv=>whnf
 refine⟨fun c2=>?_,fun c2=>?_⟩<;>conv=>whnf
 rotate_left
 ·exact⟨rfl,hfin ho4.tail⟩
 have ho1in:((o:Int)+1)∉L1:=fun h=>by rw [among_mem.2 h] at c2;cases c2
 refine(iFallWith_con D hsm hd.why ((o:Int)+1) h4 _ ho4.tail).mono ?_;rintro r h5 ⟨L2,a2,k2,rfl,hL2,ho5⟩;have hL26:=hL2.len;have hw2:IsWith D.pure ((o:Int)+1) L2:=by
  rcases hL2 with⟨_,k⟩|⟨hno,_⟩
  ·exact k
  ·exact absurd ⟨⟨hsafe,V,hV,ok⟩,o,by omega,rfl,hso⟩ hno
 conv=>whnf
 refine(lvAmong_con _ _ _ _ (by omega) h5 (ho5.rowOk List.mem_cons_self)).mono ?_;rintro r h5 ⟨rfl,rfl⟩;conv=>whnf
 refine⟨fun c3=>?_,fun c3=>?_⟩<;>conv=>whnf
 ·exact⟨rfl,hfin ho5.tail⟩
 have ho2in:((i:Int)+1)∉L2:=fun h=>by rw [←hid] at h;rw [among_mem.2 h] at c3;cases c3
 have ho6:Own h5 (wAtoms E++(wAtoms D++cbAtoms cb)):=ho5.tail.perm (perm_of fun x=>by simp only [List.count_append];omega);refine(iFallEnd_con E hEs hE.why ((o:Int)+1) v h5 _ ho6).mono ?_;rintro r h6' ⟨A,rfl,hA,ho7⟩;conv=>whnf
 have hAs:=hA.sm hEs;have hlpA:=pure_len A;have hoD:Own h6' (wAtoms D++(wAtoms A++(wAtoms E++cbAtoms cb))):=ho7.perm (perm_of fun x=>by simp only [List.count_append];omega);clear ho7 ho6 ho5 ho4 ho3;have heok:=hfell.wok hok hvo (by omega);obtain⟨eok,ecode,elen,etaken,enow,esent,elost,_⟩:=hfell.oks ok hvo (by omega);have hfA:FallE E.pure ((o:Int)+1) v A.pure:=hA.fell heok hvo (by omega);have facts:∀{Y B:WD},FallR D.pure ((o:Int)+1) v Y.pure→FallR Y.pure id v B.pure→B.pure.Sm∧WOk A.pure∧WOk B.pure∧A.runs.length=D.runs.length∧B.runs.length=D.runs.length∧∀k (hk:k<A.runs.length) (hk2:k<B.runs.length),(A.runs[k].1.st==3)=(B.runs[k].1.st==3):=fun {Y B} hY hB=>by
  have hfY:FallE D.pure ((o:Int)+1) v Y.pure:=hY.fell hok hvo (by omega);obtain⟨yok,ycode,ylen,ytaken,ynow,ysent,ylost,_⟩:=hfY.oks ok hvo (by omega);have hfB:FallE Y.pure ((i:Int)+1) v B.pure:=by rw [←hid];exact hB.fell (hfY.wok hok hvo (by omega)) hvo (by omega)
  have hBs:=hB.sm (hY.sm hsm);have hlpB:=pure_len B;have hlA:A.runs.length=D.runs.length:=by have:=(hfA.oks eok hvo (by omega)).2.2.1;omega
  have hlB:B.runs.length=D.runs.length:=by have:=(hfB.oks yok hvo (by omega)).2.2.1;omega
  have hsame:∀k (hk:k<A.runs.length) (hk2:k<B.runs.length),(A.runs[k].1.st==3)=(B.runs[k].1.st==3):=fun k hk hk2=>by
   have h1:=hfi.two ok hvo (by omega) (by omega) (by omega) hst3 hso hfA hw1 hw2 ho1in k (by omega) (by omega);have h2:=hfY.two ok hvo (by omega) (by omega) (by omega) hso hst3 hfB hw2 hw1 ho2in k (by omega) (by omega);rw [pure_get A k hk (by omega)] at h1;rw [pure_get B k hk2 (by omega)] at h2;rw [Bool.eq_iff_iff,beq_iff_eq,beq_iff_eq,h1,h2];exact or_congr_right or_comm
  exact⟨hBs,hfA.wok heok hvo (by omega),hfB.wok (hfY.wok hok hvo (by omega)) hvo (by omega),hlA,hlB,hsame⟩
 refine W.cut [(10,.p 3 0),(9,.v (.int .i64 ((o:Int)+1))),(6,.v (.int .i64 id)),(7,.p 1 0),(5,.p 0 0)] _ [] ⟨rfl,rfl,rfl,rfl,rfl,trivial⟩ (List.append_nil _).symm rfl ⟨_,rfl⟩ ?_;refine W.draw [(0,true),(1,true),(2,true),(4,true),(5,true),(1003007,false),(1006007,false),(7,false),(8,false)] [0,1] none 99 (by kernel_rfl) rfl (by kernel_rfl) mixed rfl (fun g e=>by cases e) ?_;refine vc_ok ⟨tbF_ok,_,Tryz.func12,Tryz.results12,Tryz.ntmps12⟩ 400 _ _ _ _ ?_;conv=>whnf
 refine⟨?_,?_⟩
 ·refine(iFallEnd_con D hsm hd.why ((o:Int)+1) v h6' _ hoD).mono ?_;rintro r h7 ⟨Y,rfl,hY,ho7⟩;conv=>whnf
  refine⟨?_,?_⟩
  ·refine(iFallEnd_con Y (hY.sm hsm) hY.why id v h7 _ ho7).mono ?_;rintro r h8 ⟨B,rfl,hB,ho8⟩;conv=>whnf
   obtain⟨hBs,hAo,hBo,hlA,hlB,hsame⟩:=facts hY hB;have hlpB:=pure_len B;have hwA:WIn h8 A:=ho8.win fun _ hx=>List.mem_append_right _ (List.mem_append_right _ (List.mem_append_right _ (List.mem_append_left _ hx)))
   have hwB:WIn h8 B:=ho8.wL;refine W.cut [(12,.v (.int .i64 (1:Nat))),(11,.p 4 0),(10,.p 3 0),(5,.p 0 0)] [⟨27,D.cells⟩,⟨32,[.int .i64 v.1,.int .i64 v.2]⟩,⟨27,E.cells⟩,⟨27,A.cells⟩,⟨27,B.cells⟩] [] ⟨rfl,rfl,rfl,rfl,trivial⟩ rfl rfl ⟨_,rfl⟩ ?_;refine W.loop (α:=Nat) (fun x=>[(12,.v (.int .i64 (x:Nat))),(11,.p 4 0),(10,.p 3 0),(5,.p 0 0)]) (fun _=>[⟨27,D.cells⟩,⟨32,[.int .i64 v.1,.int .i64 v.2]⟩,⟨27,E.cells⟩,⟨27,A.cells⟩,⟨27,B.cells⟩])
    (fun x h'=>1≤x∧x≤D.runs.length+1∧h'=h8) (fun x=>D.runs.length+1-x) ?_ 1 h8 ⟨Nat.le_refl _,by omega,rfl⟩
   rintro k1 h9 ⟨hk1,hk2,rfl⟩ ih;obtain⟨k,rfl⟩:∃k,k1=k+1:=⟨k1-1,by omega⟩;have hwk:IntKind.i64.wrap (((k+1:Nat):Int)+1)=((k+1+1:Nat):Int):=by rw [wrapN _ (by omega) (by omega)];omega
   refine vc_ok ⟨tbF_ok,_,Tryz.func12,Tryz.results12,Tryz.ntmps12⟩ 400 _ _ _ _ ?_;conv=>whnf
   refine⟨fun c=>?_,fun c=>?_⟩<;>conv=>whnf
   ·have hkA:k<A.runs.length:=by simp at c;omega
    have hkB:k<B.runs.length:=by omega
    refine W.draw [(0,true),(1,true),(4,true),(5,true),(2,false),(3,true),(6,false),(7,true),(8,true)] [3,4] none 99 (by kernel_rfl) rfl (by kernel_rfl) mixed rfl (fun g e=>by cases e) ?_;refine vc_ok ⟨tbF_ok,_,Tryz.func12,Tryz.results12,Tryz.ntmps12⟩ 400 _ _ _ _ ?_;conv=>whnf
    refine(lvState_con A k hkA (by omega) _ (by omega) h9 hwA).mono ?_;rintro r h9 ⟨rfl,rfl⟩;conv=>whnf
    refine(lvState_con B k hkB (by omega) _ (by omega) h9 hwB).mono ?_;rintro r h9 ⟨rfl,rfl⟩;conv=>whnf
    refine Rd.neqB rfl rfl rfl ?_;rw [hsame k hkA hkB,bne_self_eq_false];conv=>whnf
    refine⟨fun e=>absurd e (by decide),fun _=>?_⟩;conv=>whnf
    rw [hwk];exact W.back (ih (k+1+1) h9 ⟨by omega,by omega,rfl⟩ (by omega)) [] (by exact⟨rfl,rfl,rfl,rfl,trivial⟩) rfl rfl
   ·refine(iWorldOk_con A hAs hA.why h9 hwA.wi).mono ?_;rintro r h9 ⟨⟨b5,rfl,hb5⟩,rfl⟩;rw [hb5.2 hAo];conv=>whnf
    refine⟨fun _=>?_,fun e=>absurd e (by decide)⟩;conv=>whnf
    refine(iWorldOk_con B hBs hB.why h9 hwB.wi).mono ?_;rintro r h9 ⟨⟨b6,rfl,hb6⟩,rfl⟩;rw [hb6.2 hBo];conv=>whnf
    exact⟨rfl,cb_leT ho8.dropL.dropL.dropL.dropL⟩
  ·conv=>whnf
   refine(iFallEnd_con Y (hY.sm hsm) hY.why id v h7 _ ho7).mono ?_;rintro r h8 ⟨B,rfl,hB,ho8⟩;conv=>whnf
   obtain⟨hBs,hAo,hBo,hlA,hlB,hsame⟩:=facts hY hB;have hlpB:=pure_len B;have hwA:WIn h8 A:=ho8.win fun _ hx=>List.mem_append_right _ (List.mem_append_right _ (List.mem_append_right _ (List.mem_append_left _ hx)))
   have hwB:WIn h8 B:=ho8.wL;refine W.cut [(12,.v (.int .i64 (1:Nat))),(11,.p 4 0),(10,.p 3 0),(5,.p 0 0)] [⟨27,D.cells⟩,⟨32,[.int .i64 v.1,.int .i64 v.2]⟩,⟨27,E.cells⟩,⟨27,A.cells⟩,⟨27,B.cells⟩] [] ⟨rfl,rfl,rfl,rfl,trivial⟩ rfl rfl ⟨_,rfl⟩ ?_;refine W.loop (α:=Nat) (fun x=>[(12,.v (.int .i64 (x:Nat))),(11,.p 4 0),(10,.p 3 0),(5,.p 0 0)]) (fun _=>[⟨27,D.cells⟩,⟨32,[.int .i64 v.1,.int .i64 v.2]⟩,⟨27,E.cells⟩,⟨27,A.cells⟩,⟨27,B.cells⟩])
    (fun x h'=>1≤x∧x≤D.runs.length+1∧h'=h8) (fun x=>D.runs.length+1-x) ?_ 1 h8 ⟨Nat.le_refl _,by omega,rfl⟩
   rintro k1 h9 ⟨hk1,hk2,rfl⟩ ih;obtain⟨k,rfl⟩:∃k,k1=k+1:=⟨k1-1,by omega⟩;have hwk:IntKind.i64.wrap (((k+1:Nat):Int)+1)=((k+1+1:Nat):Int):=by rw [wrapN _ (by omega) (by omega)];omega
   refine vc_ok ⟨tbF_ok,_,Tryz.func12,Tryz.results12,Tryz.ntmps12⟩ 400 _ _ _ _ ?_;conv=>whnf
   refine⟨fun c=>?_,fun c=>?_⟩<;>conv=>whnf
   ·have hkA:k<A.runs.length:=by simp at c;omega
    have hkB:k<B.runs.length:=by omega
    refine W.draw [(0,true),(1,true),(4,true),(5,true),(2,false),(3,true),(6,false),(7,true),(8,true)] [3,4] none 99 (by kernel_rfl) rfl (by kernel_rfl) mixed rfl (fun g e=>by cases e) ?_;refine vc_ok ⟨tbF_ok,_,Tryz.func12,Tryz.results12,Tryz.ntmps12⟩ 400 _ _ _ _ ?_;conv=>whnf
    refine(lvState_con A k hkA (by omega) _ (by omega) h9 hwA).mono ?_;rintro r h9 ⟨rfl,rfl⟩;conv=>whnf
    refine(lvState_con B k hkB (by omega) _ (by omega) h9 hwB).mono ?_;rintro r h9 ⟨rfl,rfl⟩;conv=>whnf
    refine Rd.neqB rfl rfl rfl ?_;rw [hsame k hkA hkB,bne_self_eq_false];conv=>whnf
    refine⟨fun e=>absurd e (by decide),fun _=>?_⟩;conv=>whnf
    rw [hwk];exact W.back (ih (k+1+1) h9 ⟨by omega,by omega,rfl⟩ (by omega)) [] (by exact⟨rfl,rfl,rfl,rfl,trivial⟩) rfl rfl
   ·refine(iWorldOk_con A hAs hA.why h9 hwA.wi).mono ?_;rintro r h9 ⟨⟨b5,rfl,hb5⟩,rfl⟩;rw [hb5.2 hAo];conv=>whnf
    refine⟨fun _=>?_,fun e=>absurd e (by decide)⟩;conv=>whnf
    refine(iWorldOk_con B hBs hB.why h9 hwB.wi).mono ?_;rintro r h9 ⟨⟨b6,rfl,hb6⟩,rfl⟩;rw [hb6.2 hBo];conv=>whnf
    exact⟨rfl,cb_leT ho8.dropL.dropL.dropL.dropL⟩
 ·conv=>whnf
  refine(iFallEnd_con D hsm hd.why ((o:Int)+1) v h6' _ hoD).mono ?_;rintro r h7 ⟨Y,rfl,hY,ho7⟩;conv=>whnf
  refine(iFallEnd_con Y (hY.sm hsm) hY.why id v h7 _ ho7).mono ?_;rintro r h8 ⟨B,rfl,hB,ho8⟩;conv=>whnf
  obtain⟨hBs,hAo,hBo,hlA,hlB,hsame⟩:=facts hY hB;have hlpB:=pure_len B;have hwA:WIn h8 A:=ho8.win fun _ hx=>List.mem_append_right _ (List.mem_append_right _ (List.mem_append_right _ (List.mem_append_left _ hx)))
  have hwB:WIn h8 B:=ho8.wL;refine W.cut [(12,.v (.int .i64 (1:Nat))),(11,.p 4 0),(10,.p 3 0),(5,.p 0 0)] [⟨27,D.cells⟩,⟨32,[.int .i64 v.1,.int .i64 v.2]⟩,⟨27,E.cells⟩,⟨27,A.cells⟩,⟨27,B.cells⟩] [] ⟨rfl,rfl,rfl,rfl,trivial⟩ rfl rfl ⟨_,rfl⟩ ?_;refine W.loop (α:=Nat) (fun x=>[(12,.v (.int .i64 (x:Nat))),(11,.p 4 0),(10,.p 3 0),(5,.p 0 0)]) (fun _=>[⟨27,D.cells⟩,⟨32,[.int .i64 v.1,.int .i64 v.2]⟩,⟨27,E.cells⟩,⟨27,A.cells⟩,⟨27,B.cells⟩])
   (fun x h'=>1≤x∧x≤D.runs.length+1∧h'=h8) (fun x=>D.runs.length+1-x) ?_ 1 h8 ⟨Nat.le_refl _,by omega,rfl⟩
  rintro k1 h9 ⟨hk1,hk2,rfl⟩ ih;obtain⟨k,rfl⟩:∃k,k1=k+1:=⟨k1-1,by omega⟩;have hwk:IntKind.i64.wrap (((k+1:Nat):Int)+1)=((k+1+1:Nat):Int):=by rw [wrapN _ (by omega) (by omega)];omega
  refine vc_ok ⟨tbF_ok,_,Tryz.func12,Tryz.results12,Tryz.ntmps12⟩ 400 _ _ _ _ ?_;conv=>whnf
  refine⟨fun c=>?_,fun c=>?_⟩<;>conv=>whnf
  ·have hkA:k<A.runs.length:=by simp at c;omega
   have hkB:k<B.runs.length:=by omega
   refine W.draw [(0,true),(1,true),(4,true),(5,true),(2,false),(3,true),(6,false),(7,true),(8,true)] [3,4] none 99 (by kernel_rfl) rfl (by kernel_rfl) mixed rfl (fun g e=>by cases e) ?_;refine vc_ok ⟨tbF_ok,_,Tryz.func12,Tryz.results12,Tryz.ntmps12⟩ 400 _ _ _ _ ?_;conv=>whnf
   refine(lvState_con A k hkA (by omega) _ (by omega) h9 hwA).mono ?_;rintro r h9 ⟨rfl,rfl⟩;conv=>whnf
   refine(lvState_con B k hkB (by omega) _ (by omega) h9 hwB).mono ?_;rintro r h9 ⟨rfl,rfl⟩;conv=>whnf
   refine Rd.neqB rfl rfl rfl ?_;rw [hsame k hkA hkB,bne_self_eq_false];conv=>whnf
   refine⟨fun e=>absurd e (by decide),fun _=>?_⟩;conv=>whnf
   rw [hwk];exact W.back (ih (k+1+1) h9 ⟨by omega,by omega,rfl⟩ (by omega)) [] (by exact⟨rfl,rfl,rfl,rfl,trivial⟩) rfl rfl
  ·refine(iWorldOk_con A hAs hA.why h9 hwA.wi).mono ?_;rintro r h9 ⟨⟨b5,rfl,hb5⟩,rfl⟩;rw [hb5.2 hAo];conv=>whnf
   refine⟨fun _=>?_,fun e=>absurd e (by decide)⟩;conv=>whnf
   refine(iWorldOk_con B hBs hB.why h9 hwB.wi).mono ?_;rintro r h9 ⟨⟨b6,rfl,hb6⟩,rfl⟩;rw [hb6.2 hBo];conv=>whnf
   exact⟨rfl,cb_leT ho8.dropL.dropL.dropL.dropL⟩
theorem walk (a0:Option Addr) (len0 cap0:Nat) (a1:Option Addr) (len1 cap1:Nat) (w:World) (h0:Eld.Code0 w a0 len0 cap0) (_:Eld.Code0 w a1 len1 cap1):Calls Tryz.prog 12 #[.slice a0 len0 cap0,.slice a1 len1 cap1] w fun e w'=>e=.returned (.bool true)∧Below w.heap.size w w':=by
 obtain⟨cb,hc,hi⟩:=code_in h0;exact((law a0 len0 cap0 a1 len1 cap1 cb hc).run w hi).mono fun e w' ⟨v,h',he,hy,hi',hf⟩=>yes_below hi hi' hf he hy
theorem contract (H:Type) (enc:TypeId×Value→H) (W:World) (base:Nat) (args:Array Value) (ds gs:List (DataW H)) (before:List MemPlace)
  (hval:∀(j:Nat) t v,Tryz.f12.params[j]?=some t→args[j]?=some v→Value.okWide Tryz.prog W .any base t v)
  (hW:DataW.Whole enc Tryz.prog Tryz.f12.params.toList Rows.fnFallTwoSpec.vars false W args.toList ds gs before) (_hL:laidMetH Tryz.prog Rows.fnFallTwoRow.laid W) :
  Calls Tryz.prog 12 args W fun e W'=>∃v,e=.returned v∧Rows.fnFallTwoSpec.post enc Tryz.prog Tryz.f12 false true false false W args v W':=by
 have hW':=hW;obtain⟨p,q,hA0,hV,rfl,hfz,hnd⟩:=hW;have hA:DataW.TrodAll enc Tryz.prog W 0 (fun _=>true) true Tryz.f12.params.toList args.toList ds p:=hA0;rw [Tryz.params12] at hA hval;obtain⟨v0,vs0,d0,ds0,p0,q0,hargs,rfl,rfl,h0,r0⟩:=trodAll_cons hA;obtain⟨v1,vs1,d1,ds1,p1,q1,rfl,rfl,rfl,h1,r1⟩:=trodAll_cons r0;obtain⟨rfl,rfl,rfl⟩:=trodAll_nil r1;obtain rfl:args=#[v0,v1]:=by cases args;simp_all
 obtain⟨rfl,rfl⟩:=trodVars_none hV;obtain⟨a0,len0,cap0,rfl⟩:=okWide_slice Tryz.underlying22 (hval 0 22 v0 rfl rfl);have k0:=h0;have lt0:∀x∈p0,x.block<W.heap.size:=by obtain⟨m,hm⟩:=k0;exact DataW.trod_lt m _ _ _ hm
 have w0:Eld.Code0 W a0 len0 cap0:=by
  obtain⟨fuel,hf⟩:=h0;rcases open_ints Tryz.underlying22 Tryz.underlying5 (by kernel_rfl) hf with⟨hcs,_⟩|⟨x,l,c,zs,hcs,_,hl,hm,hz,_,hcell,hwz⟩
  ·simp [Value.cells] at hcs;obtain⟨rfl,rfl,rfl⟩:=hcs;exact Eld.code_of_row (zs:=[]) (.inl ⟨rfl,rfl,rfl,rfl⟩)
  ·simp [Value.cells] at hcs;obtain⟨rfl,rfl,rfl⟩:=hcs;exact Eld.code_of_row (zs:=zs) (.inr ⟨_,rfl,hl,hm,by simpa using hz,hcell,hwz⟩)
 obtain⟨a1,len1,cap1,rfl⟩:=okWide_slice Tryz.underlying22 (hval 1 22 v1 rfl rfl);have k1:=h1;have lt1:∀x∈p1,x.block<W.heap.size:=by obtain⟨m,hm⟩:=k1;exact DataW.trod_lt m _ _ _ hm
 have w1:Eld.Code0 W a1 len1 cap1:=by
  obtain⟨fuel,hf⟩:=h1;rcases open_ints Tryz.underlying22 Tryz.underlying5 (by kernel_rfl) hf with⟨hcs,_⟩|⟨x,l,c,zs,hcs,_,hl,hm,hz,_,hcell,hwz⟩
  ·simp [Value.cells] at hcs;obtain⟨rfl,rfl,rfl⟩:=hcs;exact Eld.code_of_row (zs:=[]) (.inl ⟨rfl,rfl,rfl,rfl⟩)
  ·simp [Value.cells] at hcs;obtain⟨rfl,rfl,rfl⟩:=hcs;exact Eld.code_of_row (zs:=zs) (.inr ⟨_,rfl,hl,hm,by simpa using hz,hcell,hwz⟩)
 clear hA0;refine(walk a0 len0 cap0 a1 len1 cap1 W w0 w1).mono fun e W' ⟨he,bel⟩=>?_
 subst he;exact⟨_,rfl,_,_,_,[],_,[],hW',trodAll_mk1 (shut_bool Tryz.underlying4 _),(trodAll_cons_mk (Below.trod laidOut (by kernel_rfl) (of_decide_eq_true (by kernel_rfl)) k0 bel lt0) (trodAll_cons_mk (Below.trod laidOut (by kernel_rfl) (of_decide_eq_true (by kernel_rfl)) k1 bel lt1) trodAll_mk0)),rfl,bel.frame _,fun h=>by cases h⟩
theorem laid_met (os:Os):laidMet Tryz.prog Rows.fnFallTwoRow.laid ((Eld.putAll (World.settled Tryz.prog os).heap.size (World.holding Tryz.prog os ⟨Eld.errBlocks,#[],[]⟩)).forCall (fun _ _=>0) ⟨#[],#[.slice none 0 0,.slice none 0 0],[]⟩).memory :=
 laidMet_of_run' 10 (by kernel_rfl) (by kernel_rfl)
theorem reads (os:Os) {H:Type} (enc:TypeId×Value→H):∃places,DataW.whole enc Tryz.prog ((Eld.putAll (World.settled Tryz.prog os).heap.size (World.holding Tryz.prog os ⟨Eld.errBlocks,#[],[]⟩)).forCall (fun _ _=>0) ⟨#[],#[.slice none 0 0,.slice none 0 0],[]⟩).memory Tryz.f12.params.toList Rows.fnFallTwoSpec.vars false #[.slice none 0 0,.slice none 0 0].toList 8=some ([.nil,.nil],[],places) :=
 ⟨[],by kernel_rfl⟩
theorem lifted (os:Os) (started:os.Started) (H:Type) (enc:TypeId×Value→H) (F:Stop.Interp) :
  ReturnsInHanded {} Tryz.checked os 12 .any ((OpenSpec.ofChange Rows.fnFallTwoSpec).preRow enc Tryz.prog Tryz.f12 Rows.fnFallTwoRow.domain false Rows.fnFallTwoRow.laid) (((OpenSpec.ofChange Rows.fnFallTwoSpec).at F).post enc Tryz.prog Tryz.f12 false true false false):=by
 obtain⟨places,hx⟩:=reads os enc;refine returnsInHanded_of_row (C:=Tryz.checked) (s:=OpenSpec.ofChange Rows.fnFallTwoSpec) own started (by kernel_rfl) Tryz.func12
  (witness_row_atRef (enc:=enc) (C:=Tryz.checked) false (Eld.putAll (World.settled Tryz.prog os).heap.size (World.holding Tryz.prog os ⟨Eld.errBlocks,#[],[]⟩)) #[.slice none 0 0,.slice none 0 0] rfl (by kernel_rfl) (by kernel_rfl) (by kernel_rfl)
   (OpenSpec.preRow_of_cond 8 hx (by kernel_rfl) (fun k hk=>by cases hk) (by kernel_rfl) (laid_met os))) ?_
 intro W base args ds gs before hval hW _ _ _ hL _ _;exact contract H enc W base args ds gs before hval hW hL
theorem said:Rows.FnFallTwoSaid :=
 OpenClaim.holds_of_cond 12 Tryz.f12 rfl rfl rfl rfl rfl rfl rfl ⟨rfl,rfl,rfl,rfl,rfl⟩ rfl rfl rfl rfl rfl (by kernel_rfl) Tryz.func12 FcFnFallTwo.closed
  (of_decide_eq_true (by kernel_rfl)) (by unfold Func.isWrapper;first|(rw [if_pos (by decide +kernel)];kernel_rfl)|(rw [if_neg (by decide +kernel)];exact⟨rfl,rfl⟩))
  (fun os started H enc _ F=>by rw [OpenClaim.pre_eq_preRow];exact lifted os started H enc F)
theorem plain (f:FuncId) (fn:Func) (hf:Tryz.pinned.checked.prog.funcNamed Rows.fnFallTwoRow.func=some f) (hfn:Tryz.pinned.checked.prog.funcs[f]?=some fn) :
  true=Tryz.pinned.checked.prog.looks []∧∀(j:Nat) t,fn.params[j]?=some t→Tryz.pinned.checked.prog.wantsStandIn t=false:=by
 obtain rfl:f=12:=Option.some.inj ((show Tryz.prog.funcNamed Rows.fnFallTwoRow.func=some 12 by kernel_rfl).symm.trans hf) |>.symm;obtain rfl:fn=Tryz.f12:=(Option.some.inj (Tryz.func12.symm.trans hfn)).symm;refine⟨by kernel_rfl,fun j t ht=>?_⟩;rw [Tryz.params12] at ht;obtain rfl:t=22:=by simpa using Array.mem_of_getElem? ht
 exact(show Tryz.prog.wantsStandIn 22=false by kernel_rfl)
theorem card:Rows.FnFallTwoCardSaid :=
 Claim7.holds_tied_plain_at .later [] _ _ _ _ said (fun _ h=>by cases h) (by kernel_rfl) (fun _ h=>by cases h) fnFallTwo_row_tie rfl ⟨rfl,rfl⟩ (by kernel_rfl) rfl plain (by kernel_rfl)
end FnFallTwo
theorem fnFallTwo_holds:Rows.FnFallTwoCardSaid:=FnFallTwo.card
#print axioms fnFallTwo_holds
end Go.Proofs.YtgmkmeodimmdoaaGreatDoor
