import Derived.Test.YtllbeifcipefjaaGreatDoorRexSi
import Derived.Test.YtllbeifcipefjaaGreatDoorSm
import Derived.Test.YtllbeifcipefjaaGreatDoorSj
import Derived.Test.YtllbeifcipefjaaGreatDoorEFrameN
import Derived.Test.YtllbeifcipefjaaGreatDoorFcFnGiveFull
namespace Go.Proofs.YtllbeifcipefjaaGreatDoor
open Go.ChangeShapes Go.WideShapes Go.ChangeAt Go.RowKit Go.Joins
set_option maxRecDepth 100000
namespace FnGiveFull
structure Ful (w:PW) (i n k:Nat) (e:PW):Prop where
 ok:WOk e
 sent:e.sent=w.sent+k
 len:e.runs.length=w.runs.length
 code:e.code=w.code
 run:∃d,e.runs[i]?=some d∧d.st≠3∧d.mail.length=min (n+k) 12
 lost:e.lost=w.lost+((n+k-12:Nat):Int)
theorem ful_step {w e:PW} {i n k:Nat} {v:Int×Int} (hv:okV v=true) (h:Ful w i n k e) (hs:w.sent≤9000) (hk:k<900):GiveOk e v∧Ful w i n (k+1) (giveP e ((i:Int)+1) v):=by
 have hs9:e.sent<9990:=by have:=h.sent;omega
 refine⟨⟨h.ok,hv,hs9⟩,h.ok.give _ hv hs9,?_,?_,?_,?_,?_⟩
 ·rw [giveP_sent h.ok _ _ hs9,h.sent];omega
 ·rw [(giveP_len _ _ _).1,h.len]
 ·rw [giveP_code,h.code]
 ·obtain⟨_,V,_,ok⟩:=h.ok
  obtain⟨d,hd,h3,hm⟩:=h.run
  obtain⟨hi,rfl⟩:=List.getElem?_eq_some_iff.1 hd
  rcases giveP_what ok hs9 ((i:Int)+1) v with ⟨hl,e1⟩ | ⟨j,hj,e2,_,hm2,⟨_,_,e1⟩ | ⟨_,e1⟩⟩
  ·rcases hl i hi rfl with f | f
   ·exact absurd f h3
   ·exact⟨e.runs[i],by rw [e1];exact hd,h3,by omega⟩
  ·obtain rfl:i=j:=by omega
   rw [e1]
   exact⟨_,List.getElem?_set_self hi,by show (1:Int)≠3;decide,by show (e.runs[i].mail++[v]).length=_;rw [List.length_append,List.length_singleton];omega⟩
  ·obtain rfl:i=j:=by omega
   rw [e1]
   exact⟨_,List.getElem?_set_self hi,h3,by show (e.runs[i].mail++[v]).length=_;rw [List.length_append,List.length_singleton];omega⟩
 ·obtain⟨_,V,_,ok⟩:=h.ok
  obtain⟨d,hd,h3,hm⟩:=h.run
  obtain⟨hi,rfl⟩:=List.getElem?_eq_some_iff.1 hd
  have hl0:=h.lost
  rcases giveP_what ok hs9 ((i:Int)+1) v with ⟨hl,e1⟩ | ⟨j,hj,e2,_,hm2,⟨_,_,e1⟩ | ⟨_,e1⟩⟩
  ·rcases hl i hi rfl with f | f
   ·exact absurd f h3
   ·rw [e1];show e.lost+1=_;omega
  ·obtain rfl:i=j:=by omega
   rw [e1];show e.lost=_;omega
  ·obtain rfl:i=j:=by omega
   rw [e1];show e.lost=_;omega
theorem law (a:Option Addr) (len cap:Nat) (cb:Option (Nat×Obj)) (hc:CodeIn a len cap cb) :
  Con Tryz.prog 6 #[.slice a len cap] (cbHp cb) (Yes cb):=by
 refine Con.of_W (tb:=tbE) (args:=[.slice a len cap]) Tryz.func6 rfl Tryz.results6 Tryz.ntmps6 (by simp) (Tryz.call6 _) (tm:=[(0,.v (.slice a len cap))]) rfl ?_
 refine vc_ok ⟨tbE_ok,_,Tryz.func6,Tryz.results6,Tryz.ntmps6⟩ 400 _ _ _ _ ?_
 conv=>whnf
 refine Ext.len Tryz.underlying22 rfl rfl ?_
 conv=>whnf
 refine⟨fun _=>?_,fun _=>?_⟩<;>conv=>whnf
 ·exact⟨rfl,Hp.le_refl _⟩
 have ho:Own (cbHp cb) (cbAtoms cb++[]):=by rw [List.append_nil];exact cb_own cb
 refine(drawWorldGive_con a len cap cb hc _ [] ho).mono ?_
 rintro r h1 ⟨D,id,v,rfl,hd,hid1,hid2,ho1⟩
 replace ho1:Own h1 (wAtoms D++cbAtoms cb):=by have:=ho1.turnL;rw [List.append_nil] at this;exact this
 have hsm:=hd.sm
 conv=>whnf
 refine(iGive_con D hsm hd.why id v h1 _ ho1).mono ?_
 rintro r h2 ⟨E,rfl,hE,ho2⟩
 conv=>whnf
 refine W.cut [(6,.p 2 0),(4,.v (.int .i64 id)),(5,.p 1 0),(3,.p 0 0)] _ [] ⟨rfl,rfl,rfl,rfl,trivial⟩ (List.append_nil _).symm rfl ⟨_,rfl⟩ ?_
 refine W.draw [(0,true),(1,true),(2,true),(3,true),(4,false),(5,false),(6,true),(7,true),(8,true),(9,false),(10,true),(11,true),(12,true),(13,true),(14,false),(15,true),(16,true),(17,true),(18,true),(19,true),(20,true),(21,true),(22,true),(23,true),(24,true),(25,false),(26,true),(27,true),(28,true),(29,true),(30,true),(31,false),(32,true),(33,true)] [0,1,2] none 99 (by kernel_rfl) rfl (by kernel_rfl) mixed rfl (fun g e=>by cases e) ?_
 refine vc_ok ⟨tbE_ok,_,Tryz.func6,Tryz.results6,Tryz.ntmps6⟩ 400 _ _ _ _ ?_
 conv=>whnf
 refine(sGive_con D hsm id v h2 _ ho2.turnL).mono ?_
 rintro r h3 ⟨F,rfl,hF,ho3⟩
 conv=>whnf
 have hEF:=hE.one hF
 have hEs:=hE.sm hsm
 refine(lvWorld_same E F hEF hEs h3 (ho3.win fun _ hx=>List.mem_append_right _ (List.mem_append_right _ (List.mem_append_left _ hx))) ho3.wL).mono ?_
 rintro r h3 ⟨rfl,rfl⟩
 conv=>whnf
 replace ho3:Own h3 (wAtoms D++(wAtoms E++cbAtoms cb)):=ho3.dropL
 refine⟨fun _=>?_,fun e=>absurd e (by simp)⟩
 conv=>whnf
 refine(sWorldOk_con D hsm h3 ho3.wL).mono ?_
 rintro r h3 ⟨⟨b,rfl,hb⟩,rfl⟩
 conv=>whnf
 refine⟨fun b0=>?_,fun b0=>?_⟩<;>conv=>whnf
 rotate_left
 ·refine W.cut [(6,.p 2 0),(4,.v (.int .i64 id)),(5,.p 1 0),(3,.p 0 0)] _ [] ⟨rfl,rfl,rfl,rfl,trivial⟩ (List.append_nil _).symm rfl ⟨_,rfl⟩ ?_
  refine W.draw [(0,true),(1,true),(2,true),(3,true),(4,false),(5,false),(6,true)] [0,1,2] none 99 (by kernel_rfl) rfl (by kernel_rfl) mixed rfl (fun g e=>by cases e) ?_
  refine vc_ok ⟨tbE_ok,_,Tryz.func6,Tryz.results6,Tryz.ntmps6⟩ 400 _ _ _ _ ?_
  conv=>whnf
  refine(sGive_con D hsm id v h3 _ ho3).mono ?_
  rintro r h9 ⟨G,rfl,hG,ho9⟩
  conv=>whnf
  refine(lvWorld_same E G (hE.one hG) hEs h9 (ho9.win fun _ hx=>List.mem_append_right _ (List.mem_append_right _ (List.mem_append_left _ hx))) ho9.wL).mono ?_
  rintro r h9 ⟨rfl,rfl⟩
  conv=>whnf
  exact⟨rfl,cb_leT (ho9.dropL.dropL)⟩
 refine(valOk_con v h3).mono ?_
 rintro r h3 ⟨rfl,rfl⟩
 conv=>whnf
 refine⟨fun b1=>?_,fun b1=>?_⟩<;>conv=>whnf
 rotate_left
 ·refine W.cut [(6,.p 2 0),(4,.v (.int .i64 id)),(5,.p 1 0),(3,.p 0 0)] _ [] ⟨rfl,rfl,rfl,rfl,trivial⟩ (List.append_nil _).symm rfl ⟨_,rfl⟩ ?_
  refine W.draw [(0,true),(1,true),(2,true),(3,true),(4,false),(5,false),(6,true)] [0,1,2] none 99 (by kernel_rfl) rfl (by kernel_rfl) mixed rfl (fun g e=>by cases e) ?_
  refine vc_ok ⟨tbE_ok,_,Tryz.func6,Tryz.results6,Tryz.ntmps6⟩ 400 _ _ _ _ ?_
  conv=>whnf
  refine(sGive_con D hsm id v h3 _ ho3).mono ?_
  rintro r h9 ⟨G,rfl,hG,ho9⟩
  conv=>whnf
  refine(lvWorld_same E G (hE.one hG) hEs h9 (ho9.win fun _ hx=>List.mem_append_right _ (List.mem_append_right _ (List.mem_append_left _ hx))) ho9.wL).mono ?_
  rintro r h9 ⟨rfl,rfl⟩
  conv=>whnf
  exact⟨rfl,cb_leT (ho9.dropL.dropL)⟩
 refine⟨fun b2=>?_,fun b2=>?_⟩<;>conv=>whnf
 rotate_left
 ·refine W.cut [(6,.p 2 0),(4,.v (.int .i64 id)),(5,.p 1 0),(3,.p 0 0)] _ [] ⟨rfl,rfl,rfl,rfl,trivial⟩ (List.append_nil _).symm rfl ⟨_,rfl⟩ ?_
  refine W.draw [(0,true),(1,true),(2,true),(3,true),(4,false),(5,false),(6,true)] [0,1,2] none 99 (by kernel_rfl) rfl (by kernel_rfl) mixed rfl (fun g e=>by cases e) ?_
  refine vc_ok ⟨tbE_ok,_,Tryz.func6,Tryz.results6,Tryz.ntmps6⟩ 400 _ _ _ _ ?_
  conv=>whnf
  refine(sGive_con D hsm id v h3 _ ho3).mono ?_
  rintro r h9 ⟨G,rfl,hG,ho9⟩
  conv=>whnf
  refine(lvWorld_same E G (hE.one hG) hEs h9 (ho9.win fun _ hx=>List.mem_append_right _ (List.mem_append_right _ (List.mem_append_left _ hx))) ho9.wL).mono ?_
  rintro r h9 ⟨rfl,rfl⟩
  conv=>whnf
  exact⟨rfl,cb_leT (ho9.dropL.dropL)⟩
 have hok:WOk D.pure:=hb.1 (by simpa using b0)
 have hg:GiveOk D.pure v:=⟨hok,by simpa using b1,show D.sent<9990 by(have:D.sent≤9000:=by simpa using b2);omega⟩
 have hlP:=pure_len D
 have hrn:D.runs.length≤1000:=by have:=hsm.runs;rw [pure_len] at this;exact this
 by_cases hin:1≤id∧id≤(D.runs.length:Int)
 rotate_left
 ·refine(lvStateOut_con D id hin h3).mono ?_
  rintro r h3 ⟨rfl,rfl⟩
  conv=>whnf
  refine⟨fun e=>absurd e (by simp),fun _=>?_⟩
  conv=>whnf
  refine W.cut [(6,.p 2 0),(4,.v (.int .i64 id)),(5,.p 1 0),(3,.p 0 0)] _ [] ⟨rfl,rfl,rfl,rfl,trivial⟩ (List.append_nil _).symm rfl ⟨_,rfl⟩ ?_
  refine W.draw [(0,true),(1,true),(2,true),(3,true),(4,false),(5,false),(6,true)] [0,1,2] none 99 (by kernel_rfl) rfl (by kernel_rfl) mixed rfl (fun g e=>by cases e) ?_
  refine vc_ok ⟨tbE_ok,_,Tryz.func6,Tryz.results6,Tryz.ntmps6⟩ 400 _ _ _ _ ?_
  conv=>whnf
  refine(sGive_con D hsm id v h3 _ ho3).mono ?_
  rintro r h9 ⟨G,rfl,hG,ho9⟩
  conv=>whnf
  refine(lvWorld_same E G (hE.one hG) hEs h9 (ho9.win fun _ hx=>List.mem_append_right _ (List.mem_append_right _ (List.mem_append_left _ hx))) ho9.wL).mono ?_
  rintro r h9 ⟨rfl,rfl⟩
  conv=>whnf
  exact⟨rfl,cb_leT (ho9.dropL.dropL)⟩
 obtain⟨i,hid⟩:∃i:Nat,id=(i:Int)+1:=⟨(id-1).toNat,by omega⟩
 have hi:i<D.runs.length:=by omega
 refine(lvState_con D i hi hrn id hid h3 ho3.wL).mono ?_
 rintro r h3 ⟨rfl,rfl⟩
 conv=>whnf
 refine⟨fun b3=>?_,fun b3=>?_⟩<;>conv=>whnf
 rotate_left
 ·refine W.cut [(6,.p 2 0),(4,.v (.int .i64 id)),(5,.p 1 0),(3,.p 0 0)] _ [] ⟨rfl,rfl,rfl,rfl,trivial⟩ (List.append_nil _).symm rfl ⟨_,rfl⟩ ?_
  refine W.draw [(0,true),(1,true),(2,true),(3,true),(4,false),(5,false),(6,true)] [0,1,2] none 99 (by kernel_rfl) rfl (by kernel_rfl) mixed rfl (fun g e=>by cases e) ?_
  refine vc_ok ⟨tbE_ok,_,Tryz.func6,Tryz.results6,Tryz.ntmps6⟩ 400 _ _ _ _ ?_
  conv=>whnf
  refine(sGive_con D hsm id v h3 _ ho3).mono ?_
  rintro r h9 ⟨G,rfl,hG,ho9⟩
  conv=>whnf
  refine(lvWorld_same E G (hE.one hG) hEs h9 (ho9.win fun _ hx=>List.mem_append_right _ (List.mem_append_right _ (List.mem_append_left _ hx))) ho9.wL).mono ?_
  rintro r h9 ⟨rfl,rfl⟩
  conv=>whnf
  exact⟨rfl,cb_leT (ho9.dropL.dropL)⟩
 refine(lvState_con D i hi hrn id hid h3 ho3.wL).mono ?_
 rintro r h3 ⟨rfl,rfl⟩
 conv=>whnf
 refine⟨fun b4=>?_,fun b4=>?_⟩<;>conv=>whnf
 ·refine W.cut [(6,.p 2 0),(4,.v (.int .i64 id)),(5,.p 1 0),(3,.p 0 0)] _ [] ⟨rfl,rfl,rfl,rfl,trivial⟩ (List.append_nil _).symm rfl ⟨_,rfl⟩ ?_
  refine W.draw [(0,true),(1,true),(2,true),(3,true),(4,false),(5,false),(6,true)] [0,1,2] none 99 (by kernel_rfl) rfl (by kernel_rfl) mixed rfl (fun g e=>by cases e) ?_
  refine vc_ok ⟨tbE_ok,_,Tryz.func6,Tryz.results6,Tryz.ntmps6⟩ 400 _ _ _ _ ?_
  conv=>whnf
  refine(sGive_con D hsm id v h3 _ ho3).mono ?_
  rintro r h9 ⟨G,rfl,hG,ho9⟩
  conv=>whnf
  refine(lvWorld_same E G (hE.one hG) hEs h9 (ho9.win fun _ hx=>List.mem_append_right _ (List.mem_append_right _ (List.mem_append_left _ hx))) ho9.wL).mono ?_
  rintro r h9 ⟨rfl,rfl⟩
  conv=>whnf
  exact⟨rfl,cb_leT (ho9.dropL.dropL)⟩
 have hs9':D.sent≤9000:=by simpa using b2
 clear hb b2 b1 b0 hin
 obtain⟨g,hra⟩:=row_some (ho3.wL).runs (by omega)
 have hv:D.rv=.slice (some ⟨g,0,none⟩) D.runs.length D.rk:=by rw [WD.rv,hra]
 have hz:IntKind.i64.wrap (id-1)=(i:Int):=by rw [hid,show (i:Int)+1-1=i by omega];exact wrapN _ (by omega) (by omega)
 refine Ext.index slRun.u slRun.size rfl (by exact hv) rfl i hz hi ?_
 conv=>whnf
 refine Ext.loadRunCell (D:=D) rfl ⟨rfl,rfl⟩ rfl (ho3.wL).runs hv hi 4 (by decide) rfl (.slice D.runs[i].2.a1 D.runs[i].1.mail.length D.runs[i].2.k1) rfl ?_
 conv=>whnf
 have hpr:D.pure.runs[i]'(by rw [hlP];exact hi)=D.runs[i].1:=pure_gets D hi
 have hn12:D.runs[i].1.mail.length≤12:=by
  obtain⟨_,V,_,ok⟩:=hok
  have:=(ok.run i (by rw [hlP];exact hi)).mail
  rw [hpr] at this;exact this
 have hDl':0≤D.lost:=by
  obtain⟨_,V,_,ok⟩:=hok
  exact ok.cnt.lost.1
 have hst0:D.runs[i].1.st≠3:=by simpa using b4
 have hs9:D.pure.sent≤9000:=hs9'
 have hv1:=hg.2.1
 have hf0:Ful D.pure i D.runs[i].1.mail.length 0 D.pure:=by
  refine⟨hok,(Int.add_zero _).symm,rfl,rfl,⟨D.runs[i].1,?_,hst0,by omega⟩,?_⟩
  ·rw [List.getElem?_eq_getElem (by rw [hlP];exact hi),hpr]
  ·rw [show D.runs[i].1.mail.length+0-12=0 by omega];exact(Int.add_zero _).symm
 clear hst0 b4 b3 hg hok hz hpr
 refine W.cut [(9,.v (.int .i64 (0:Nat))),(8,.p 3 0),(7,.v (.int .i64 D.runs[i].1.mail.length)),(6,.p 2 0),(5,.p 1 0),(4,.v (.int .i64 id)),(3,.p 0 0)] [⟨27,D.cells⟩,⟨29,[.int .i64 v.1,.int .i64 v.2]⟩,⟨27,E.cells⟩,⟨27,D.cells⟩] [] ⟨rfl,rfl,rfl,rfl,rfl,rfl,rfl,trivial⟩ rfl rfl ⟨_,rfl⟩ ?_
 refine W.loop (α:=Nat×WD) (fun x=>[(9,.v (.int .i64 (x.1:Nat))),(8,.p 3 0),(7,.v (.int .i64 D.runs[i].1.mail.length)),(6,.p 2 0),(5,.p 1 0),(4,.v (.int .i64 id)),(3,.p 0 0)]) (fun x=>[⟨27,D.cells⟩,⟨29,[.int .i64 v.1,.int .i64 v.2]⟩,⟨27,E.cells⟩,⟨27,x.2.cells⟩]) (fun x h'=>x.1≤15∧Ful D.pure i D.runs[i].1.mail.length x.1 x.2.pure∧∃L,Own h' (wAtoms x.2++(L++cbAtoms cb))) (fun x=>15-x.1) ?_ (0,D) h3 ⟨Nat.zero_le _,hf0,_,ho3⟩
 rintro⟨k,Y⟩ h5 ⟨hk,hF5,L,ho5⟩ ih
 dsimp only at hk hF5 ho5
 refine vc_ok ⟨tbE_ok,_,Tryz.func6,Tryz.results6,Tryz.ntmps6⟩ 400 _ _ _ _ ?_
 conv=>whnf
 refine⟨fun h6=>?_,fun h6=>?_⟩<;>conv=>whnf
 ·have hlt:k<15:=by simp at h6;omega
  obtain⟨hg5,hF6⟩:=ful_step (v:=v) hv1 hF5 hs9 (by omega)
  obtain⟨_,V5,_,ok5⟩:=hg5.1
  have hsm5:Y.pure.Sm:=ok5.sm (by rw [hF5.code];exact hsm.code)
  refine(iGive_con Y hsm5 ok5.why id v h5 _ ho5).mono ?_
  rintro r h6 ⟨Z,rfl,hZ,ho6⟩
  conv=>whnf
  have hZ':Z.pure=giveP Y.pure ((i:Int)+1) v:=by
   rcases hZ with ⟨_,e⟩ | ⟨e,_⟩
   ·rw [e,hid]
   ·exact absurd hg5 e
  have hwk:IntKind.i64.wrap ((k:Int)+1)=((k+1:Nat):Int):=by rw [wrapN _ (by omega) (by omega)];omega
  rw [hwk]
  exact W.back (ih (k+1,Z) _ ⟨by show k+1≤15;omega,by show Ful _ _ _ (k+1) Z.pure;rw [hZ'];exact hF6,wAtoms Y++L,by rw [List.append_assoc];exact ho6⟩ (by show 15-(k+1)<15-k;omega)) [] (by exact⟨rfl,rfl,rfl,rfl,rfl,rfl,rfl,trivial⟩) rfl rfl
 ·have hge:k=15:=by simp at h6;omega
  subst hge
  obtain⟨d,hd,hd3,hdm⟩:=hF5.run
  obtain⟨hiP,hde⟩:=List.getElem?_eq_some_iff.1 hd
  have hi5:i<Y.runs.length:=by have:=pure_len Y;omega
  have hY:d=Y.runs[i].1:=by rw [←hde];exact pure_gets Y hi5
  have hlo:=hF5.lost
  have hw5:WIn h5 Y:=ho5.wL
  obtain⟨g5,hra5⟩:=row_some hw5.runs (by omega)
  have hv5:Y.rv=.slice (some ⟨g5,0,none⟩) Y.runs.length Y.rk:=by rw [WD.rv,hra5]
  have hz5:IntKind.i64.wrap (id-1)=(i:Int):=by rw [hid,show (i:Int)+1-1=i by omega];exact wrapN _ (by omega) (by omega)
  refine Ext.index slRun.u slRun.size rfl (by exact hv5) rfl i hz5 hi5 ?_
  conv=>whnf
  refine Ext.loadRunCell (D:=Y) rfl ⟨rfl,rfl⟩ rfl hw5.runs hv5 hi5 4 (by decide) rfl (.slice Y.runs[i].2.a1 Y.runs[i].1.mail.length Y.runs[i].2.k1) rfl ?_
  conv=>whnf
  have hm12:Y.runs[i].1.mail.length=12:=by rw [←hY];omega
  refine⟨fun _=>?_,fun e=>absurd e (by rw [hm12];decide)⟩
  conv=>whnf
  obtain⟨_,V5,_,ok5⟩:=hF5.ok
  have hsm5:Y.pure.Sm:=ok5.sm (by rw [hF5.code];exact hsm.code)
  have hc5:=ok5.cnt.lost
  have hYl:Y.lost=D.lost+(D.runs[i].1.mail.length:Int)+3:=by
   have e1:Y.lost=D.lost+((D.runs[i].1.mail.length+15-12:Nat):Int):=hlo
   omega
  have hYb:0≤Y.lost∧Y.lost≤9999:=hc5
  have hDl:0≤D.lost:=hDl'
  have ew:wr (wr (D.lost+(D.runs[i].1.mail.length:Int))+3)=Y.lost:=by
   rw [show wr (D.lost+(D.runs[i].1.mail.length:Int))=D.lost+(D.runs[i].1.mail.length:Int) from wrapN _ (by omega) (by omega),hYl]
   exact wrapN _ (by omega) (by omega)
  refine⟨fun _=>?_,fun e=>absurd e (by
   show ¬(Y.lost==wr (wr (D.lost+(D.runs[i].1.mail.length:Int))+3))=false
   rw [ew];simp)⟩
  conv=>whnf
  refine(iWorldOk_con Y hsm5 ok5.why h5 hw5.wi).mono ?_
  rintro r h5 ⟨⟨b,rfl,hb⟩,rfl⟩
  conv=>whnf
  have hbt:b=true:=hb.2 hF5.ok
  subst hbt
  exact⟨rfl,cb_leT ho5.dropL⟩
theorem walk (a0:Option Addr) (len0 cap0:Nat) (w:World) (h0:Eld.Code0 w a0 len0 cap0):Calls Tryz.prog 6 #[.slice a0 len0 cap0] w fun e w'=>e=.returned (.bool true)∧Below w.heap.size w w':=by
 obtain⟨cb,hc,hi⟩:=code_in h0
 exact((law a0 len0 cap0 cb hc).run w hi).mono fun e w' ⟨v,h',he,hy,hi',hf⟩=>yes_below hi hi' hf he hy
set_option maxRecDepth 20000 in
theorem contract (H:Type) (enc:TypeId×Value→H) (W:World) (base:Nat) (args:Array Value) (ds gs:List (DataW H)) (before:List MemPlace)
  (hval:∀(j:Nat) t v,Tryz.f6.params[j]?=some t→args[j]?=some v→Value.okWide Tryz.prog W .any base t v)
  (hW:DataW.Whole enc Tryz.prog Tryz.f6.params.toList Rows.fnGiveFullSpec.vars false W args.toList ds gs before) (_hL:laidMetH Tryz.prog Rows.fnGiveFullRow.laid W) :
  Calls Tryz.prog 6 args W fun e W'=>∃v,e=.returned v∧Rows.fnGiveFullSpec.post enc Tryz.prog Tryz.f6 false true false false W args v W':=by
 have hW':=hW
 obtain⟨p,q,hA0,hV,rfl,hfz,hnd⟩:=hW
 have hA:DataW.TrodAll enc Tryz.prog W 0 (fun _=>true) true Tryz.f6.params.toList args.toList ds p:=hA0
 rw [Tryz.params6] at hA hval
 obtain⟨v0,vs0,d0,ds0,p0,q0,hargs,rfl,rfl,h0,r0⟩:=trodAll_cons hA
 obtain⟨rfl,rfl,rfl⟩:=trodAll_nil r0
 obtain rfl:args=#[v0]:=by cases args;simp_all
 obtain⟨rfl,rfl⟩:=trodVars_none hV
 obtain⟨a0,len0,cap0,rfl⟩:=okWide_slice Tryz.underlying22 (hval 0 22 v0 rfl rfl)
 have k0:=h0
 have lt0:∀x∈p0,x.block<W.heap.size:=by obtain⟨m,hm⟩:=k0;exact DataW.trod_lt m _ _ _ hm
 have w0:Eld.Code0 W a0 len0 cap0:=by
  obtain⟨fuel,hf⟩:=h0
  rcases open_ints Tryz.underlying22 Tryz.underlying5 (by kernel_rfl) hf with ⟨hcs,_⟩ | ⟨x,l,c,zs,hcs,_,hl,hm,hz,_,hcell,hwz⟩
  ·simp [Value.cells] at hcs
   obtain⟨rfl,rfl,rfl⟩:=hcs
   exact Eld.code_of_row (zs:=[]) (.inl ⟨rfl,rfl,rfl,rfl⟩)
  ·simp [Value.cells] at hcs
   obtain⟨rfl,rfl,rfl⟩:=hcs
   exact Eld.code_of_row (zs:=zs) (.inr ⟨_,rfl,hl,hm,by simpa using hz,hcell,hwz⟩)
 clear hA0
 refine(walk a0 len0 cap0 W w0).mono fun e W' ⟨he,bel⟩=>?_
 subst he
 exact⟨_,rfl,_,_,_,[],_,[],hW',trodAll_mk1 (shut_bool Tryz.underlying4 _),(trodAll_cons_mk (Below.trod laidOut (by kernel_rfl) (of_decide_eq_true (by kernel_rfl)) k0 bel lt0) trodAll_mk0),rfl,bel.frame _,fun h=>by cases h⟩
theorem laid_met (os:Os):laidMet Tryz.prog Rows.fnGiveFullRow.laid ((Eld.putAll (World.settled Tryz.prog os).heap.size (World.holding Tryz.prog os ⟨Eld.errBlocks,#[],[]⟩)).forCall (fun _ _=>0) ⟨#[],#[.slice none 0 0],[]⟩).memory :=
 laidMet_of_run' 10 (by kernel_rfl) (by kernel_rfl)
theorem reads (os:Os) {H:Type} (enc:TypeId×Value→H):∃places,DataW.whole enc Tryz.prog ((Eld.putAll (World.settled Tryz.prog os).heap.size (World.holding Tryz.prog os ⟨Eld.errBlocks,#[],[]⟩)).forCall (fun _ _=>0) ⟨#[],#[.slice none 0 0],[]⟩).memory Tryz.f6.params.toList Rows.fnGiveFullSpec.vars false #[.slice none 0 0].toList 8=some ([.nil],[],places) :=
 ⟨[],by kernel_rfl⟩
set_option maxRecDepth 100000 in
theorem lifted (os:Os) (started:os.Started) (H:Type) (enc:TypeId×Value→H) (F:Stop.Interp) :
  ReturnsInHanded {} Tryz.checked os 6 .any ((OpenSpec.ofChange Rows.fnGiveFullSpec).preRow enc Tryz.prog Tryz.f6 Rows.fnGiveFullRow.domain false Rows.fnGiveFullRow.laid) (((OpenSpec.ofChange Rows.fnGiveFullSpec).at F).post enc Tryz.prog Tryz.f6 false true false false):=by
 obtain⟨places,hx⟩:=reads os enc
 refine returnsInHanded_of_row (C:=Tryz.checked) (s:=OpenSpec.ofChange Rows.fnGiveFullSpec) own started (by kernel_rfl) Tryz.func6
  (witness_row_atRef (enc:=enc) (C:=Tryz.checked) false (Eld.putAll (World.settled Tryz.prog os).heap.size (World.holding Tryz.prog os ⟨Eld.errBlocks,#[],[]⟩)) #[.slice none 0 0] rfl (by kernel_rfl) (by kernel_rfl) (by kernel_rfl)
   (OpenSpec.preRow_of_cond 8 hx (by kernel_rfl) (fun k hk=>by cases hk) (by kernel_rfl) (laid_met os))) ?_
 intro W base args ds gs before hval hW _ _ _ hL _ _
 exact contract H enc W base args ds gs before hval hW hL
set_option maxRecDepth 100000 in
theorem said:Rows.FnGiveFullSaid :=
 OpenClaim.holds_of_cond 6 Tryz.f6 rfl rfl rfl rfl rfl rfl rfl ⟨rfl,rfl,rfl,rfl,rfl⟩ rfl rfl rfl rfl rfl (by kernel_rfl) Tryz.func6 FcFnGiveFull.closed
  (of_decide_eq_true (by kernel_rfl)) (by unfold Func.isWrapper;first | (rw [if_pos (by decide +kernel)];kernel_rfl) | (rw [if_neg (by decide +kernel)];exact⟨rfl,rfl⟩))
  (fun os started H enc _ F=>by rw [OpenClaim.pre_eq_preRow];exact lifted os started H enc F)
theorem plain (f:FuncId) (fn:Func) (hf:Tryz.pinned.checked.prog.funcNamed Rows.fnGiveFullRow.func=some f) (hfn:Tryz.pinned.checked.prog.funcs[f]?=some fn) :
  true=Tryz.pinned.checked.prog.looks []∧∀(j:Nat) t,fn.params[j]?=some t→Tryz.pinned.checked.prog.wantsStandIn t=false:=by
 obtain rfl:f=6:=Option.some.inj ((show Tryz.prog.funcNamed Rows.fnGiveFullRow.func=some 6 by kernel_rfl).symm.trans hf) |>.symm
 obtain rfl:fn=Tryz.f6:=(Option.some.inj (Tryz.func6.symm.trans hfn)).symm
 refine⟨by kernel_rfl,fun j t ht=>?_⟩
 rw [Tryz.params6] at ht
 obtain rfl:t=22:=by simpa using Array.mem_of_getElem? ht
 exact(show Tryz.prog.wantsStandIn 22=false by kernel_rfl)
theorem card:Rows.FnGiveFullCardSaid :=
 Claim7.holds_tied_plain_at .later [] _ _ _ _ said (fun _ h=>by cases h) (by kernel_rfl) (fun _ h=>by cases h) fnGiveFull_row_tie rfl ⟨rfl,rfl⟩ (by kernel_rfl) rfl plain (by kernel_rfl)
end FnGiveFull
theorem fnGiveFull_holds:Rows.FnGiveFullCardSaid:=FnGiveFull.card
#print axioms fnGiveFull_holds
end Go.Proofs.YtllbeifcipefjaaGreatDoor
