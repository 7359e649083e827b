import Derived.Test.YtllbeifcipefjaaGreatDoorRexSk
import Derived.Test.YtllbeifcipefjaaGreatDoorSm
import Derived.Test.YtllbeifcipefjaaGreatDoorSj
import Derived.Test.YtllbeifcipefjaaGreatDoorEFrameN
import Derived.Test.YtllbeifcipefjaaGreatDoorFcFnGiveWakes
namespace Go.Proofs.YtllbeifcipefjaaGreatDoor
open Go.ChangeShapes Go.WideShapes Go.ChangeAt Go.RowKit Go.Joins
set_option maxRecDepth 100000
namespace FnGiveWakes
theorem row_prefix {h:Hp} {g k:Nat} {L M T:List Int} (hr:RowOk h (rowI (.slice (some ⟨g,0,none⟩) L.length k) L)) (hL:L=M++T):M.length≤k∧RowOk h (rowI (.slice (some ⟨g,0,none⟩) M.length k) M):=by
 have hen:∀X:List Int,X.flatMap encI=X.map (Value.int .i64):=fun X=>by
  induction X with
  | nil=>rfl
  | cons a X ih=>rw [List.flatMap_cons,ih];rfl
 have hl:L.length=M.length+T.length:=by rw [hL,List.length_append]
 obtain⟨_,⟨e,_⟩ | ⟨g',cap',cur,e,hg,h1,h2,h3,h4⟩⟩:=hr
 ·cases e
 ·have e':Value.slice (some ⟨g,0,none⟩) L.length k=.slice (some ⟨g',0,none⟩) L.length cap':=e
  injection e' with ea _ ec
  injection ea with ea
  injection ea with eb
  subst eb
  subst ec
  have h1':L.length≤k:=h1
  have h4':cur.toList.take (L.length*1)=L.flatMap encI:=h4
  refine⟨by omega,by show (M.flatMap encI).length=M.length*1;rw [hen,List.length_map];omega,.inr ⟨g,k,cur,rfl,hg,by show M.length≤k;omega,h2,h3,?_⟩⟩
  show cur.toList.take (M.length*1)=M.flatMap encI
  have h5:=congrArg (List.take (M.length*1)) h4'
  rw [List.take_take,show min (M.length*1) (L.length*1)=M.length*1 by omega,hen,hL,List.map_append,Nat.mul_one,List.take_left' (by rw [List.length_map])] at h5
  rw [Nat.mul_one,hen]
  exact h5
theorem law (a:Option Addr) (len cap:Nat) (cb:Option (Nat×Obj)) (hc:CodeIn a len cap cb) :
  Con Tryz.prog 4 #[.slice a len cap] (cbHp cb) (Yes cb):=by
 refine Con.of_W (tb:=tbE) (args:=[.slice a len cap]) Tryz.func4 rfl Tryz.results4 Tryz.ntmps4 (by simp) (Tryz.call4 _) (tm:=[(0,.v (.slice a len cap))]) rfl ?_
 refine vc_ok ⟨tbE_ok,_,Tryz.func4,Tryz.results4,Tryz.ntmps4⟩ 400 _ _ _ _ ?_
 conv=>whnf
 refine Ext.len Tryz.underlying22 rfl rfl ?_
 conv=>whnf
 refine⟨fun _=>?_,fun _=>?_⟩<;>conv=>whnf
 ·exact⟨rfl,Hp.le_refl _⟩
 have ho:Own (cbHp cb) (cbAtoms cb++[]):=by rw [List.append_nil];exact cb_own cb
 refine(drawWorldGive_con a len cap cb hc _ [] ho).mono ?_
 rintro r h1 ⟨D,id,v,rfl,hd,hid1,hid2,ho1⟩
 replace ho1:Own h1 (wAtoms D++cbAtoms cb):=by have:=ho1.turnL;rw [List.append_nil] at this;exact this
 have hsm:=hd.sm
 conv=>whnf
 refine(iGive_con D hsm hd.why id v h1 _ ho1).mono ?_
 rintro r h2 ⟨E,rfl,hE,ho2⟩
 conv=>whnf
 refine W.cut [(6,.p 2 0),(4,.v (.int .i64 id)),(5,.p 1 0),(3,.p 0 0)] _ [] ⟨rfl,rfl,rfl,rfl,trivial⟩ (List.append_nil _).symm rfl ⟨_,rfl⟩ ?_
 refine W.draw [(0,true),(1,true),(2,true),(3,true),(4,false),(5,false),(6,true),(7,true),(8,true),(9,false),(10,true),(11,true),(12,true),(13,true),(14,false),(15,true),(16,true),(17,true),(18,true),(19,true),(20,false),(21,true),(22,true),(23,true),(24,true),(25,true),(26,true),(27,true),(28,false),(29,true),(30,false),(31,true),(32,true),(33,true)] [0,1,2] none 99 (by kernel_rfl) rfl (by kernel_rfl) mixed rfl (fun g e=>by cases e) ?_
 refine vc_ok ⟨tbE_ok,_,Tryz.func4,Tryz.results4,Tryz.ntmps4⟩ 400 _ _ _ _ ?_
 conv=>whnf
 refine(sGive_con D hsm id v h2 _ ho2.turnL).mono ?_
 rintro r h3 ⟨F,rfl,hF,ho3⟩
 conv=>whnf
 have hEF:=hE.one hF
 have hEs:=hE.sm hsm
 refine(lvWorld_same E F hEF hEs h3 (ho3.win fun _ hx=>List.mem_append_right _ (List.mem_append_right _ (List.mem_append_left _ hx))) ho3.wL).mono ?_
 rintro r h3 ⟨rfl,rfl⟩
 conv=>whnf
 replace ho3:Own h3 (wAtoms D++(wAtoms E++cbAtoms cb)):=ho3.dropL
 refine⟨fun _=>?_,fun e=>absurd e (by simp)⟩
 conv=>whnf
 refine(sWorldOk_con D hsm h3 ho3.wL).mono ?_
 rintro r h3 ⟨⟨b,rfl,hb⟩,rfl⟩
 conv=>whnf
 refine⟨fun b0=>?_,fun b0=>?_⟩<;>conv=>whnf
 rotate_left
 ·refine W.cut [(6,.p 2 0),(4,.v (.int .i64 id)),(5,.p 1 0),(3,.p 0 0)] _ [] ⟨rfl,rfl,rfl,rfl,trivial⟩ (List.append_nil _).symm rfl ⟨_,rfl⟩ ?_
  refine W.draw [(0,true),(1,true),(2,true),(3,true),(4,false),(5,false),(6,true)] [0,1,2] none 99 (by kernel_rfl) rfl (by kernel_rfl) mixed rfl (fun g e=>by cases e) ?_
  refine vc_ok ⟨tbE_ok,_,Tryz.func4,Tryz.results4,Tryz.ntmps4⟩ 400 _ _ _ _ ?_
  conv=>whnf
  refine(sGive_con D hsm id v h3 _ ho3).mono ?_
  rintro r h9 ⟨G,rfl,hG,ho9⟩
  conv=>whnf
  refine(lvWorld_same E G (hE.one hG) hEs h9 (ho9.win fun _ hx=>List.mem_append_right _ (List.mem_append_right _ (List.mem_append_left _ hx))) ho9.wL).mono ?_
  rintro r h9 ⟨rfl,rfl⟩
  conv=>whnf
  exact⟨rfl,cb_leT (ho9.dropL.dropL)⟩
 refine(valOk_con v h3).mono ?_
 rintro r h3 ⟨rfl,rfl⟩
 conv=>whnf
 refine⟨fun b1=>?_,fun b1=>?_⟩<;>conv=>whnf
 rotate_left
 ·refine W.cut [(6,.p 2 0),(4,.v (.int .i64 id)),(5,.p 1 0),(3,.p 0 0)] _ [] ⟨rfl,rfl,rfl,rfl,trivial⟩ (List.append_nil _).symm rfl ⟨_,rfl⟩ ?_
  refine W.draw [(0,true),(1,true),(2,true),(3,true),(4,false),(5,false),(6,true)] [0,1,2] none 99 (by kernel_rfl) rfl (by kernel_rfl) mixed rfl (fun g e=>by cases e) ?_
  refine vc_ok ⟨tbE_ok,_,Tryz.func4,Tryz.results4,Tryz.ntmps4⟩ 400 _ _ _ _ ?_
  conv=>whnf
  refine(sGive_con D hsm id v h3 _ ho3).mono ?_
  rintro r h9 ⟨G,rfl,hG,ho9⟩
  conv=>whnf
  refine(lvWorld_same E G (hE.one hG) hEs h9 (ho9.win fun _ hx=>List.mem_append_right _ (List.mem_append_right _ (List.mem_append_left _ hx))) ho9.wL).mono ?_
  rintro r h9 ⟨rfl,rfl⟩
  conv=>whnf
  exact⟨rfl,cb_leT (ho9.dropL.dropL)⟩
 have hok:WOk D.pure:=hb.1 (by simpa using b0)
 have hg:GiveOk D.pure v:=⟨hok,by simpa using b1,hd.sent⟩
 have hlP:=pure_len D
 have hrn:D.runs.length≤1000:=by have:=hsm.runs;rw [pure_len] at this;exact this
 have hEp:E.pure=giveP D.pure id v:=hE.one (.inl ⟨hg,rfl⟩)
 clear hb b0 b1
 by_cases hin:1≤id∧id≤(D.runs.length:Int)
 rotate_left
 ·refine(lvStateOut_con D id hin h3).mono ?_
  rintro r h3 ⟨rfl,rfl⟩
  conv=>whnf
  refine⟨fun e=>absurd e (by simp),fun _=>?_⟩
  conv=>whnf
  refine W.cut [(6,.p 2 0),(4,.v (.int .i64 id)),(5,.p 1 0),(3,.p 0 0)] _ [] ⟨rfl,rfl,rfl,rfl,trivial⟩ (List.append_nil _).symm rfl ⟨_,rfl⟩ ?_
  refine W.draw [(0,true),(1,true),(2,true),(3,true),(4,false),(5,false),(6,true)] [0,1,2] none 99 (by kernel_rfl) rfl (by kernel_rfl) mixed rfl (fun g e=>by cases e) ?_
  refine vc_ok ⟨tbE_ok,_,Tryz.func4,Tryz.results4,Tryz.ntmps4⟩ 400 _ _ _ _ ?_
  conv=>whnf
  refine(sGive_con D hsm id v h3 _ ho3).mono ?_
  rintro r h9 ⟨G,rfl,hG,ho9⟩
  conv=>whnf
  refine(lvWorld_same E G (hE.one hG) hEs h9 (ho9.win fun _ hx=>List.mem_append_right _ (List.mem_append_right _ (List.mem_append_left _ hx))) ho9.wL).mono ?_
  rintro r h9 ⟨rfl,rfl⟩
  conv=>whnf
  exact⟨rfl,cb_leT (ho9.dropL.dropL)⟩
 obtain⟨i,hid⟩:∃i:Nat,id=(i:Int)+1:=⟨(id-1).toNat,by omega⟩
 have hi:i<D.runs.length:=by omega
 have wD:WIn h3 D:=ho3.wL
 refine(lvState_con D i hi hrn id hid h3 wD).mono ?_
 rintro r h3 ⟨rfl,rfl⟩
 conv=>whnf
 refine⟨fun b3=>?_,fun b3=>?_⟩<;>conv=>whnf
 rotate_left
 ·refine W.cut [(6,.p 2 0),(4,.v (.int .i64 id)),(5,.p 1 0),(3,.p 0 0)] _ [] ⟨rfl,rfl,rfl,rfl,trivial⟩ (List.append_nil _).symm rfl ⟨_,rfl⟩ ?_
  refine W.draw [(0,true),(1,true),(2,true),(3,true),(4,false),(5,false),(6,true)] [0,1,2] none 99 (by kernel_rfl) rfl (by kernel_rfl) mixed rfl (fun g e=>by cases e) ?_
  refine vc_ok ⟨tbE_ok,_,Tryz.func4,Tryz.results4,Tryz.ntmps4⟩ 400 _ _ _ _ ?_
  conv=>whnf
  refine(sGive_con D hsm id v h3 _ ho3).mono ?_
  rintro r h9 ⟨G,rfl,hG,ho9⟩
  conv=>whnf
  refine(lvWorld_same E G (hE.one hG) hEs h9 (ho9.win fun _ hx=>List.mem_append_right _ (List.mem_append_right _ (List.mem_append_left _ hx))) ho9.wL).mono ?_
  rintro r h9 ⟨rfl,rfl⟩
  conv=>whnf
  exact⟨rfl,cb_leT (ho9.dropL.dropL)⟩
 obtain⟨g,hra⟩:=row_some wD.runs (by omega)
 have hv:D.rv=.slice (some ⟨g,0,none⟩) D.runs.length D.rk:=by rw [WD.rv,hra]
 have hz:IntKind.i64.wrap (id-1)=(i:Int):=by rw [hid,show (i:Int)+1-1=i by omega];exact wrapN _ (by omega) (by omega)
 refine Ext.index slRun.u slRun.size rfl (by exact hv) rfl i hz hi ?_
 conv=>whnf
 refine Ext.loadRunCell (D:=D) rfl ⟨rfl,rfl⟩ rfl wD.runs hv hi 4 (by decide) rfl (.slice D.runs[i].2.a1 D.runs[i].1.mail.length D.runs[i].2.k1) rfl ?_
 conv=>whnf
 refine⟨fun b4=>?_,fun b4=>?_⟩<;>conv=>whnf
 ·refine W.cut [(6,.p 2 0),(4,.v (.int .i64 id)),(5,.p 1 0),(3,.p 0 0)] _ [] ⟨rfl,rfl,rfl,rfl,trivial⟩ (List.append_nil _).symm rfl ⟨_,rfl⟩ ?_
  refine W.draw [(0,true),(1,true),(2,true),(3,true),(4,false),(5,false),(6,true)] [0,1,2] none 99 (by kernel_rfl) rfl (by kernel_rfl) mixed rfl (fun g e=>by cases e) ?_
  refine vc_ok ⟨tbE_ok,_,Tryz.func4,Tryz.results4,Tryz.ntmps4⟩ 400 _ _ _ _ ?_
  conv=>whnf
  refine(sGive_con D hsm id v h3 _ ho3).mono ?_
  rintro r h9 ⟨G,rfl,hG,ho9⟩
  conv=>whnf
  refine(lvWorld_same E G (hE.one hG) hEs h9 (ho9.win fun _ hx=>List.mem_append_right _ (List.mem_append_right _ (List.mem_append_left _ hx))) ho9.wL).mono ?_
  rintro r h9 ⟨rfl,rfl⟩
  conv=>whnf
  exact⟨rfl,cb_leT (ho9.dropL.dropL)⟩
 clear hin
 have hst2:D.runs[i].1.st=2:=by simpa using b3
 have hm12:D.runs[i].1.mail.length≠12:=fun e=>by rw [e] at b4;simp at b4
 obtain⟨_,V,_,ok⟩:=hok
 have hiP:i<D.pure.runs.length:=by rw [hlP];exact hi
 have hpr:D.pure.runs[i]=D.runs[i].1:=pure_gets D hi
 have hmle:=(ok.run i hiP).mail
 rw [hpr] at hmle
 obtain⟨k,hk1,hk2⟩:=ok.at i hiP
 rw [hpr] at hk1
 have hk2':k<D.code.length:=hk2
 obtain⟨gc,hca⟩:=row_some wD.code (by show 0<D.code.length;omega)
 have hcv:D.cv=.slice (some ⟨gc,0,none⟩) D.code.length D.ck:=by rw [WD.cv,hca]
 have hfit:Eld.AH.fitsB v.1 v.2 D.code[k].s=fitsP v (stepAt D.pure.code D.pure.runs[i]).s:=by
  have e:Eld.okB v.1 v.2=true:=hg.2.1
  have e2:stepAt D.pure.code D.pure.runs[i]=D.code[k]:=by
   rw [hpr]
   unfold stepAt
   rw [hk1,Int.toNat_natCast,List.getD_eq_getElem?_getD]
   show (D.code[k]?).getD _=_
   rw [List.getElem?_eq_getElem hk2'];rfl
  rw [e2]
  unfold Eld.AH.fitsB fitsP
  rw [e,Bool.true_and,Bool.beq_comm (a:=D.code[k].s) (b:=v.1)]
 refine W.cut [(6,.p 2 0),(4,.v (.int .i64 id)),(5,.p 1 0),(3,.p 0 0)] _ [] ⟨rfl,rfl,rfl,rfl,trivial⟩ (List.append_nil _).symm rfl ⟨_,rfl⟩ ?_
 refine W.draw [(0,true),(1,true),(2,true),(3,true),(4,true),(5,true),(6,true),(7,true),(8,true),(9,true),(10,true),(11,true),(12,true),(13,false),(14,true)] [0,1] (some h3) 99 (by kernel_rfl) rfl (by kernel_rfl) mixed rfl (fun g e=>by cases e;exact Hp.le_refl _) ?_
 refine vc_ok ⟨tbE_ok,_,Tryz.func4,Tryz.results4,Tryz.ntmps4⟩ 400 _ _ _ _ ?_
 conv=>whnf
 refine Rd.index slRun.u slRun.size rfl (by exact hv) rfl i hz hi ?_
 conv=>whnf
 refine Rd.loadRunCell (D:=D) rfl ⟨rfl,rfl⟩ rfl wD.runs hv hi 1 (by omega) rfl (.int .i64 (k:Nat)) (by rw [←hk1];rfl) ?_
 conv=>whnf
 refine Rd.index slOp.u slOp.size rfl (by exact hcv) rfl k rfl hk2' ?_
 conv=>whnf
 refine Rd.load tbE_ok rfl rfl wD.code hcv rfl (by show 0+k*6+2+1≤D.code.length*6;omega) (.int .i64 D.code[k].s) (.inr ⟨rfl,by rw [Nat.zero_add];exact flat_get encO 6 encO_len D.code k hk2' 2 (by decide),rfl⟩) ?_
 conv=>whnf
 refine(iFits_con v D.code[k].s h3).mono ?_
 rintro r h3 ⟨rfl,rfl⟩
 rw [hfit]
 conv=>whnf
 refine⟨Hp.le_refl _,?_⟩
 conv=>whnf
 have wE:WIn h3 E:=(Own.dropL ho3).wL
 have hle3:(cbHp cb).le h3:=cb_leT (Own.dropL ho3)
 have hlE:E.runs.length=D.runs.length:=by rw [←pure_len E,hEp,(giveP_len _ _ _).1,hlP]
 have hiE:i<E.runs.length:=by omega
 have hrn2:E.runs.length≤1000:=by omega
 have hq6:D.queue.length≤6:=ok.q6
 obtain⟨i',hi',e2,_,_,hwhat⟩:=(giveP_what ok hg.2.2 id v).resolve_left fun⟨hl,_⟩=>by
  rcases hl i hiP hid with f | f
  ·rw [hpr,hst2] at f;cases f
  ·rw [hpr] at f;omega
 obtain rfl:i=i':=by omega
 have hEi:∀y:RunD,(giveP D.pure id v).runs=D.pure.runs.set i y→E.runs[i].1=y:=fun y e=>by
  have h1:E.pure.runs[i]?=some y:=by rw [hEp,e];exact List.getElem?_set_self hiP
  have h2:E.pure.runs[i]?=some E.runs[i].1:=by rw [List.getElem?_eq_getElem (by rw [pure_len];exact hiE),pure_gets E hiE]
  rw [h2] at h1
  exact Option.some.inj h1
 refine⟨fun b5=>?_,fun b5=>?_⟩<;>conv=>whnf
 ·rcases hwhat with ⟨_,f1,e1⟩ | ⟨f1,e1⟩
  ·rw [f1] at b5;cases b5
  have hs1:E.runs[i].1.st=2:=by rw [hEi _ (by rw [e1]),←hst2,←hpr]
  have hqE:E.queue=D.queue:=by
   have:E.pure.queue=D.pure.queue:=by rw [hEp,e1]
   exact this
  refine(lvState_con E i hiE hrn2 id hid h3 wE).mono ?_
  rintro r h3 ⟨rfl,rfl⟩
  conv=>whnf
  refine⟨fun _=>?_,fun e=>absurd e (by rw [hs1];decide)⟩
  conv=>whnf
  refine(lvInts_con E.qa D.qa E.qk D.qk E.queue D.queue (by rw [hqE];omega) h3 wE.queue wD.queue).mono ?_
  rintro r h3 ⟨rfl,rfl⟩
  conv=>whnf
  exact⟨congrArg Value.bool (by simp [hqE]),hle3⟩
 ·rcases hwhat with ⟨_,f1,e1⟩ | ⟨f1,e1⟩
  rotate_left
  ·rw [f1 (by rw [hpr];exact hst2)] at b5;cases b5
  have hs1:E.runs[i].1.st=1:=by rw [hEi _ (by rw [e1])]
  have hqE:E.queue=D.queue++[(i:Int)+1]:=by
   have:E.pure.queue=D.pure.queue++[(i:Int)+1]:=by rw [hEp,e1]
   exact this
  have hqn:E.queue.length=D.queue.length+1:=by rw [hqE,List.length_append];rfl
  obtain⟨gq,hqa⟩:=row_some wE.queue (by show 0<E.queue.length;omega)
  have hqv:E.qv=.slice (some ⟨gq,0,none⟩) E.queue.length E.qk:=by rw [WD.qv,hqa]
  refine W.cut [(8,.v (.int .i64 D.queue.length)),(6,.p 2 0),(4,.v (.int .i64 id)),(5,.p 1 0),(3,.p 0 0)] _ [] ⟨rfl,rfl,rfl,rfl,rfl,trivial⟩ (List.append_nil _).symm rfl ⟨_,rfl⟩ ?_
  refine W.draw [(0,true),(1,true),(2,false),(3,true),(4,true),(5,true),(6,true),(7,true),(8,true),(9,true),(10,true),(11,true),(12,true),(13,true),(14,true),(15,true),(16,true),(17,true),(18,true),(19,true),(20,true),(21,true),(22,true),(23,true),(24,true),(25,true),(26,true),(27,true),(28,false),(29,true),(30,true)] [0,2] (some h3) 99 (by kernel_rfl) rfl (by kernel_rfl) mixed rfl (fun g e=>by cases e;exact Hp.le_refl _) ?_
  refine vc_ok ⟨tbE_ok,_,Tryz.func4,Tryz.results4,Tryz.ntmps4⟩ 400 _ _ _ _ ?_
  conv=>whnf
  refine(lvState_con E i hiE hrn2 id hid h3 wE).mono ?_
  rintro r h3 ⟨rfl,rfl⟩
  conv=>whnf
  refine⟨Hp.le_refl _,?_⟩
  conv=>whnf
  refine⟨fun _=>?_,fun e=>absurd e (by rw [hs1];decide)⟩
  conv=>whnf
  have hwn:IntKind.i64.wrap ((D.queue.length:Int)+1)=(E.queue.length:Int):=by rw [wrapN _ (by omega) (by omega)];omega
  rw [hwn]
  refine⟨fun _=>?_,fun e=>absurd e (by simp)⟩
  conv=>whnf
  have hnlt:D.queue.length<E.queue.length:=by omega
  refine Rd.index slInt.u slInt.size rfl (by exact hqv) rfl D.queue.length rfl hnlt ?_
  conv=>whnf
  refine Rd.loadInt rfl wE.queue hqv hnlt rfl ?_
  conv=>whnf
  have hlast:E.queue[D.queue.length]=id:=by
   have h8:E.queue[D.queue.length]?=some ((i:Int)+1):=by rw [hqE];simp
   rw [List.getElem?_eq_getElem hnlt] at h8
   rw [hid];exact Option.some.inj h8
  rw [hlast]
  refine⟨fun _=>?_,fun e=>absurd e (by simp)⟩
  conv=>whnf
  have hrq:RowOk h3 (rowI (.slice (some ⟨gq,0,none⟩) E.queue.length E.qk) E.queue):=by have:=wE.queue;rw [hqv] at this;exact this
  obtain⟨hcap,hpre⟩:=row_prefix hrq hqE
  refine Rd.sliceHi slInt rfl (by exact hqv) D.queue.length hcap rfl ?_
  conv=>whnf
  refine(lvInts_con (some ⟨gq,0,none⟩) D.qa E.qk D.qk D.queue D.queue (by omega) h3 hpre wD.queue).mono ?_
  rintro r h3 ⟨rfl,rfl⟩
  conv=>whnf
  refine⟨Hp.le_refl _,?_⟩
  conv=>whnf
  exact⟨congrArg Value.bool (by simp),hle3⟩
theorem walk (a0:Option Addr) (len0 cap0:Nat) (w:World) (h0:Eld.Code0 w a0 len0 cap0):Calls Tryz.prog 4 #[.slice a0 len0 cap0] w fun e w'=>e=.returned (.bool true)∧Below w.heap.size w w':=by
 obtain⟨cb,hc,hi⟩:=code_in h0
 exact((law a0 len0 cap0 cb hc).run w hi).mono fun e w' ⟨v,h',he,hy,hi',hf⟩=>yes_below hi hi' hf he hy
set_option maxRecDepth 20000 in
theorem contract (H:Type) (enc:TypeId×Value→H) (W:World) (base:Nat) (args:Array Value) (ds gs:List (DataW H)) (before:List MemPlace)
  (hval:∀(j:Nat) t v,Tryz.f4.params[j]?=some t→args[j]?=some v→Value.okWide Tryz.prog W .any base t v)
  (hW:DataW.Whole enc Tryz.prog Tryz.f4.params.toList Rows.fnGiveWakesSpec.vars false W args.toList ds gs before) (_hL:laidMetH Tryz.prog Rows.fnGiveWakesRow.laid W) :
  Calls Tryz.prog 4 args W fun e W'=>∃v,e=.returned v∧Rows.fnGiveWakesSpec.post enc Tryz.prog Tryz.f4 false true false false W args v W':=by
 have hW':=hW
 obtain⟨p,q,hA0,hV,rfl,hfz,hnd⟩:=hW
 have hA:DataW.TrodAll enc Tryz.prog W 0 (fun _=>true) true Tryz.f4.params.toList args.toList ds p:=hA0
 rw [Tryz.params4] at hA hval
 obtain⟨v0,vs0,d0,ds0,p0,q0,hargs,rfl,rfl,h0,r0⟩:=trodAll_cons hA
 obtain⟨rfl,rfl,rfl⟩:=trodAll_nil r0
 obtain rfl:args=#[v0]:=by cases args;simp_all
 obtain⟨rfl,rfl⟩:=trodVars_none hV
 obtain⟨a0,len0,cap0,rfl⟩:=okWide_slice Tryz.underlying22 (hval 0 22 v0 rfl rfl)
 have k0:=h0
 have lt0:∀x∈p0,x.block<W.heap.size:=by obtain⟨m,hm⟩:=k0;exact DataW.trod_lt m _ _ _ hm
 have w0:Eld.Code0 W a0 len0 cap0:=by
  obtain⟨fuel,hf⟩:=h0
  rcases open_ints Tryz.underlying22 Tryz.underlying5 (by kernel_rfl) hf with ⟨hcs,_⟩ | ⟨x,l,c,zs,hcs,_,hl,hm,hz,_,hcell,hwz⟩
  ·simp [Value.cells] at hcs
   obtain⟨rfl,rfl,rfl⟩:=hcs
   exact Eld.code_of_row (zs:=[]) (.inl ⟨rfl,rfl,rfl,rfl⟩)
  ·simp [Value.cells] at hcs
   obtain⟨rfl,rfl,rfl⟩:=hcs
   exact Eld.code_of_row (zs:=zs) (.inr ⟨_,rfl,hl,hm,by simpa using hz,hcell,hwz⟩)
 clear hA0
 refine(walk a0 len0 cap0 W w0).mono fun e W' ⟨he,bel⟩=>?_
 subst he
 exact⟨_,rfl,_,_,_,[],_,[],hW',trodAll_mk1 (shut_bool Tryz.underlying4 _),(trodAll_cons_mk (Below.trod laidOut (by kernel_rfl) (of_decide_eq_true (by kernel_rfl)) k0 bel lt0) trodAll_mk0),rfl,bel.frame _,fun h=>by cases h⟩
theorem laid_met (os:Os):laidMet Tryz.prog Rows.fnGiveWakesRow.laid ((Eld.putAll (World.settled Tryz.prog os).heap.size (World.holding Tryz.prog os ⟨Eld.errBlocks,#[],[]⟩)).forCall (fun _ _=>0) ⟨#[],#[.slice none 0 0],[]⟩).memory :=
 laidMet_of_run' 10 (by kernel_rfl) (by kernel_rfl)
theorem reads (os:Os) {H:Type} (enc:TypeId×Value→H):∃places,DataW.whole enc Tryz.prog ((Eld.putAll (World.settled Tryz.prog os).heap.size (World.holding Tryz.prog os ⟨Eld.errBlocks,#[],[]⟩)).forCall (fun _ _=>0) ⟨#[],#[.slice none 0 0],[]⟩).memory Tryz.f4.params.toList Rows.fnGiveWakesSpec.vars false #[.slice none 0 0].toList 8=some ([.nil],[],places) :=
 ⟨[],by kernel_rfl⟩
set_option maxRecDepth 100000 in
theorem lifted (os:Os) (started:os.Started) (H:Type) (enc:TypeId×Value→H) (F:Stop.Interp) :
  ReturnsInHanded {} Tryz.checked os 4 .any ((OpenSpec.ofChange Rows.fnGiveWakesSpec).preRow enc Tryz.prog Tryz.f4 Rows.fnGiveWakesRow.domain false Rows.fnGiveWakesRow.laid) (((OpenSpec.ofChange Rows.fnGiveWakesSpec).at F).post enc Tryz.prog Tryz.f4 false true false false):=by
 obtain⟨places,hx⟩:=reads os enc
 refine returnsInHanded_of_row (C:=Tryz.checked) (s:=OpenSpec.ofChange Rows.fnGiveWakesSpec) own started (by kernel_rfl) Tryz.func4
  (witness_row_atRef (enc:=enc) (C:=Tryz.checked) false (Eld.putAll (World.settled Tryz.prog os).heap.size (World.holding Tryz.prog os ⟨Eld.errBlocks,#[],[]⟩)) #[.slice none 0 0] rfl (by kernel_rfl) (by kernel_rfl) (by kernel_rfl)
   (OpenSpec.preRow_of_cond 8 hx (by kernel_rfl) (fun k hk=>by cases hk) (by kernel_rfl) (laid_met os))) ?_
 intro W base args ds gs before hval hW _ _ _ hL _ _
 exact contract H enc W base args ds gs before hval hW hL
set_option maxRecDepth 100000 in
theorem said:Rows.FnGiveWakesSaid :=
 OpenClaim.holds_of_cond 4 Tryz.f4 rfl rfl rfl rfl rfl rfl rfl ⟨rfl,rfl,rfl,rfl,rfl⟩ rfl rfl rfl rfl rfl (by kernel_rfl) Tryz.func4 FcFnGiveWakes.closed
  (of_decide_eq_true (by kernel_rfl)) (by unfold Func.isWrapper;first | (rw [if_pos (by decide +kernel)];kernel_rfl) | (rw [if_neg (by decide +kernel)];exact⟨rfl,rfl⟩))
  (fun os started H enc _ F=>by rw [OpenClaim.pre_eq_preRow];exact lifted os started H enc F)
theorem plain (f:FuncId) (fn:Func) (hf:Tryz.pinned.checked.prog.funcNamed Rows.fnGiveWakesRow.func=some f) (hfn:Tryz.pinned.checked.prog.funcs[f]?=some fn) :
  true=Tryz.pinned.checked.prog.looks []∧∀(j:Nat) t,fn.params[j]?=some t→Tryz.pinned.checked.prog.wantsStandIn t=false:=by
 obtain rfl:f=4:=Option.some.inj ((show Tryz.prog.funcNamed Rows.fnGiveWakesRow.func=some 4 by kernel_rfl).symm.trans hf) |>.symm
 obtain rfl:fn=Tryz.f4:=(Option.some.inj (Tryz.func4.symm.trans hfn)).symm
 refine⟨by kernel_rfl,fun j t ht=>?_⟩
 rw [Tryz.params4] at ht
 obtain rfl:t=22:=by simpa using Array.mem_of_getElem? ht
 exact(show Tryz.prog.wantsStandIn 22=false by kernel_rfl)
theorem card:Rows.FnGiveWakesCardSaid :=
 Claim7.holds_tied_plain_at .later [] _ _ _ _ said (fun _ h=>by cases h) (by kernel_rfl) (fun _ h=>by cases h) fnGiveWakes_row_tie rfl ⟨rfl,rfl⟩ (by kernel_rfl) rfl plain (by kernel_rfl)
end FnGiveWakes
theorem fnGiveWakes_holds:Rows.FnGiveWakesCardSaid:=FnGiveWakes.card
#print axioms fnGiveWakes_holds
end Go.Proofs.YtllbeifcipefjaaGreatDoor
