import Derived.Test.YtllbeifcipefjaaGreatDoorRexSk
import Derived.Test.YtllbeifcipefjaaGreatDoorSm
import Derived.Test.YtllbeifcipefjaaGreatDoorSj
import Derived.Test.YtllbeifcipefjaaGreatDoorEFrameN
import Derived.Test.YtllbeifcipefjaaGreatDoorFcFnGive
namespace Go.Proofs.YtllbeifcipefjaaGreatDoor
open Go.ChangeShapes Go.WideShapes Go.ChangeAt Go.RowKit Go.Joins
set_option maxRecDepth 100000
namespace FnGive
theorem Ext.maxI {o:Oper} {x y:Operand} {ts:Array TypeId} (ho:o.op=.call { callee:=.builtin .max,args:=#[x,y],argTypes:=ts }) {ev:Operand→Value} {h:Hp} {K:Option Value→Hp→Prop} {a b:Int} (hx:ev x=.int .i64 a) (hy:ev y=.int .i64 b) (k:K (some (.int .i64 (max a b))) h):Ext Tryz.prog (execOp ev o) h K:=by
 refine Ext.val (.int .i64 (max a b)) (fun w=>?_) k
 simp [execOp,ho,resolve,invoke,builtin,hx,hy,Builtin.max_,Builtin.max2]
 split<;>omega
theorem law (a:Option Addr) (len cap:Nat) (cb:Option (Nat×Obj)) (hc:CodeIn a len cap cb) :
  Con Tryz.prog 3 #[.slice a len cap] (cbHp cb) (Yes cb):=by
 refine Con.of_W (tb:=tbE) (args:=[.slice a len cap]) Tryz.func3 rfl Tryz.results3 Tryz.ntmps3 (by simp) (Tryz.call3 _) (tm:=[(0,.v (.slice a len cap))]) rfl ?_
 refine vc_ok ⟨tbE_ok,_,Tryz.func3,Tryz.results3,Tryz.ntmps3⟩ 400 _ _ _ _ ?_
 conv=>whnf
 refine Ext.len Tryz.underlying22 rfl rfl ?_
 conv=>whnf
 refine⟨fun _=>?_,fun _=>?_⟩<;>conv=>whnf
 ·exact⟨rfl,Hp.le_refl _⟩
 have ho:Own (cbHp cb) (cbAtoms cb++[]):=by rw [List.append_nil];exact cb_own cb
 refine(drawWorldGive_con a len cap cb hc _ [] ho).mono ?_
 rintro r h1 ⟨D,id,v,rfl,hd,hid1,hid2,ho1⟩
 replace ho1:Own h1 (wAtoms D++cbAtoms cb):=by have:=ho1.turnL;rw [List.append_nil] at this;exact this
 have hsm:=hd.sm
 conv=>whnf
 refine(iGive_con D hsm hd.why id v h1 _ ho1).mono ?_
 rintro r h2 ⟨E,rfl,hE,ho2⟩
 conv=>whnf
 refine W.cut [(6,.p 2 0),(4,.v (.int .i64 id)),(5,.p 1 0),(3,.p 0 0)] _ [] ⟨rfl,rfl,rfl,rfl,trivial⟩ (List.append_nil _).symm rfl ⟨_,rfl⟩ ?_
 refine W.draw [(0,true),(1,true),(2,true),(3,true),(4,false),(5,false),(6,true),(7,true),(8,true),(9,false),(10,true),(11,true),(12,true),(13,true),(14,false),(15,true),(16,true)] [0,1,2] none 99 (by kernel_rfl) rfl (by kernel_rfl) mixed rfl (fun g e=>by cases e) ?_
 refine vc_ok ⟨tbE_ok,_,Tryz.func3,Tryz.results3,Tryz.ntmps3⟩ 400 _ _ _ _ ?_
 conv=>whnf
 refine(sGive_con D hsm id v h2 _ ho2.turnL).mono ?_
 rintro r h3 ⟨F,rfl,hF,ho3⟩
 conv=>whnf
 have hEF:=hE.one hF
 have hEs:=hE.sm hsm
 refine(lvWorld_same E F hEF hEs h3 (ho3.win fun _ hx=>List.mem_append_right _ (List.mem_append_right _ (List.mem_append_left _ hx))) ho3.wL).mono ?_
 rintro r h3 ⟨rfl,rfl⟩
 conv=>whnf
 replace ho3:Own h3 (wAtoms D++(wAtoms E++cbAtoms cb)):=ho3.dropL
 refine⟨fun _=>?_,fun e=>absurd e (by simp)⟩
 conv=>whnf
 refine(sWorldOk_con D hsm h3 ho3.wL).mono ?_
 rintro r h3 ⟨⟨b,rfl,hb⟩,rfl⟩
 conv=>whnf
 refine⟨fun b0=>?_,fun b0=>?_⟩<;>conv=>whnf
 rotate_left
 ·refine W.cut [(6,.p 2 0),(4,.v (.int .i64 id)),(5,.p 1 0),(3,.p 0 0)] _ [] ⟨rfl,rfl,rfl,rfl,trivial⟩ (List.append_nil _).symm rfl ⟨_,rfl⟩ ?_
  refine W.draw [(0,true),(1,true),(2,true),(3,true),(4,false),(5,false),(6,true)] [0,1,2] none 99 (by kernel_rfl) rfl (by kernel_rfl) mixed rfl (fun g e=>by cases e) ?_
  refine vc_ok ⟨tbE_ok,_,Tryz.func3,Tryz.results3,Tryz.ntmps3⟩ 400 _ _ _ _ ?_
  conv=>whnf
  refine(sGive_con D hsm id v h3 _ ho3).mono ?_
  rintro r h9 ⟨G,rfl,hG,ho9⟩
  conv=>whnf
  refine(lvWorld_same E G (hE.one hG) hEs h9 (ho9.win fun _ hx=>List.mem_append_right _ (List.mem_append_right _ (List.mem_append_left _ hx))) ho9.wL).mono ?_
  rintro r h9 ⟨rfl,rfl⟩
  conv=>whnf
  exact⟨rfl,cb_leT (ho9.dropL.dropL)⟩
 refine(valOk_con v h3).mono ?_
 rintro r h3 ⟨rfl,rfl⟩
 conv=>whnf
 refine⟨fun b1=>?_,fun b1=>?_⟩<;>conv=>whnf
 ·refine W.cut [(6,.p 2 0),(4,.v (.int .i64 id)),(5,.p 1 0),(3,.p 0 0)] _ [] ⟨rfl,rfl,rfl,rfl,trivial⟩ (List.append_nil _).symm rfl ⟨_,rfl⟩ ?_
  refine W.draw [(0,true),(1,true),(2,true),(3,true),(4,false),(5,false),(6,true)] [0,1,2] none 99 (by kernel_rfl) rfl (by kernel_rfl) mixed rfl (fun g e=>by cases e) ?_
  refine vc_ok ⟨tbE_ok,_,Tryz.func3,Tryz.results3,Tryz.ntmps3⟩ 400 _ _ _ _ ?_
  conv=>whnf
  refine(sGive_con D hsm id v h3 _ ho3).mono ?_
  rintro r h9 ⟨G,rfl,hG,ho9⟩
  conv=>whnf
  refine(lvWorld_same E G (hE.one hG) hEs h9 (ho9.win fun _ hx=>List.mem_append_right _ (List.mem_append_right _ (List.mem_append_left _ hx))) ho9.wL).mono ?_
  rintro r h9 ⟨rfl,rfl⟩
  conv=>whnf
  exact⟨rfl,cb_leT (ho9.dropL.dropL)⟩
 have hok:WOk D.pure:=hb.1 (by simpa using b0)
 have hg:GiveOk D.pure v:=⟨hok,by simpa using b1,hd.sent⟩
 have hlP:=pure_len D
 have hrn:D.runs.length≤1000:=by have:=hsm.runs;rw [pure_len] at this;exact this
 have hEp:E.pure=giveP D.pure id v:=hE.one (.inl ⟨hg,rfl⟩)
 clear hb b0 b1
 have wD:WIn h3 D:=ho3.wL
 have wE:WIn h3 E:=(Own.dropL ho3).wL
 have hle3:(cbHp cb).le h3:=cb_leT (Own.dropL ho3)
 have hlE:E.runs.length=D.runs.length:=by rw [←pure_len E,hEp,(giveP_len _ _ _).1,hlP]
 have hrn2:E.runs.length≤1000:=by omega
 have hokE:WOk E.pure:=by rw [hEp];exact hg.1.give id hg.2.1 hg.2.2
 have hEy:∀d∈E.pure.runs,okV (d.wk,d.wn)=true:=hE.why
 have hsE:E.sent=D.sent+1:=by
  have:E.pure.sent=D.pure.sent+1:=by rw [hEp];exact giveP_sent hg.1 id v hg.2.2
  exact this
 obtain⟨_,V,_,ok⟩:=hok
 have hsn:0≤D.sent∧D.sent≤9999:=ok.cnt.sent
 have hsl:0≤D.lost∧D.lost≤9999:=ok.cnt.lost
 have hwhat:=giveP_what ok hg.2.2 id v
 have hq6:D.queue.length≤6:=ok.q6
 have hlose:(∀i (hi:i<D.pure.runs.length),id=(i:Int)+1→D.pure.runs[i].st=3∨12≤D.pure.runs[i].mail.length)→E.lost=D.lost+1∧E.queue=D.queue:=fun hc=>by
  rcases hwhat with ⟨_,e⟩ | ⟨i,hi,e2,h3,hm,_⟩
  ·have f1:E.pure.lost=D.pure.lost+1:=by rw [hEp,e]
   have f2:E.pure.queue=D.pure.queue:=by rw [hEp,e]
   exact⟨f1,f2⟩
  ·rcases hc i hi e2 with f | f
   ·exact absurd f h3
   ·omega
 have hoth:∀j (hj:j<D.runs.length) (hj2:j<E.runs.length),id≠(j:Int)+1→E.runs[j].1=D.runs[j].1:=fun j hj hj2 hne=>by
  have h1:E.pure.runs[j]?=some (D.pure.runs[j]'(by rw [hlP];exact hj)):=by rw [hEp];exact giveP_other D.pure id v j (by rw [hlP];exact hj) hne
  have h2:E.pure.runs[j]?=some E.runs[j].1:=by rw [List.getElem?_eq_getElem (by rw [pure_len];exact hj2),pure_gets E hj2]
  rw [h2,pure_gets D hj] at h1
  exact Option.some.inj h1
 refine W.cut [(7,.v (.int .i64 (0:Nat))),(6,.p 2 0),(4,.v (.int .i64 id)),(5,.p 1 0),(3,.p 0 0)] [⟨27,D.cells⟩,⟨29,[.int .i64 v.1,.int .i64 v.2]⟩,⟨27,E.cells⟩] [] ⟨rfl,rfl,rfl,rfl,rfl,trivial⟩ rfl rfl ⟨_,rfl⟩ ?_
 refine W.loop (α:=Nat) (fun i=>[(7,.v (.int .i64 (i:Nat))),(6,.p 2 0),(4,.v (.int .i64 id)),(5,.p 1 0),(3,.p 0 0)]) (fun _=>[⟨27,D.cells⟩,⟨29,[.int .i64 v.1,.int .i64 v.2]⟩,⟨27,E.cells⟩]) (fun i h'=>i≤D.runs.length∧h'=h3) (fun i=>D.runs.length-i) ?_ 0 h3 ⟨Nat.zero_le _,rfl⟩
 rintro i h3 ⟨hi,rfl⟩ ih
 refine vc_ok ⟨tbE_ok,_,Tryz.func3,Tryz.results3,Tryz.ntmps3⟩ 400 _ _ _ _ ?_
 conv=>whnf
 refine⟨fun h6=>?_,fun h6=>?_⟩<;>conv=>whnf
 ·have hlt:i<D.runs.length:=by simp at h6;omega
  have hlt2:i<E.runs.length:=by omega
  have hwi:IntKind.i64.wrap ((i:Int)+1)=((i+1:Nat):Int):=by rw [wrapN _ (by omega) (by omega)];omega
  refine W.draw [(0,true),(1,true),(2,true),(3,true),(4,true),(5,true),(6,true),(7,true),(8,true),(9,true),(10,true),(11,true),(12,true),(13,true),(14,true),(15,false),(16,true),(17,true)] [0,2] (some h3) 99 (by kernel_rfl) rfl (by kernel_rfl) mixed rfl (fun g e=>by cases e;exact Hp.le_refl _) ?_
  refine vc_ok ⟨tbE_ok,_,Tryz.func3,Tryz.results3,Tryz.ntmps3⟩ 400 _ _ _ _ ?_
  conv=>whnf
  rw [hwi]
  refine⟨fun c1=>?_,fun c1=>?_⟩<;>conv=>whnf
  ·have hne:id≠(i:Int)+1:=fun e=>by rw [e] at c1;simp at c1
   have hsame:=hoth i hlt hlt2 hne
   obtain⟨g1,ha1⟩:=row_some wE.runs (by omega)
   obtain⟨g2,ha2⟩:=row_some wD.runs (by omega)
   have hv1:E.rv=.slice (some ⟨g1,0,none⟩) E.runs.length E.rk:=by rw [WD.rv,ha1]
   have hv2:D.rv=.slice (some ⟨g2,0,none⟩) D.runs.length D.rk:=by rw [WD.rv,ha2]
   refine Rd.index slRun.u slRun.size rfl (by exact hv1) rfl i rfl hlt2 ?_
   conv=>whnf
   refine Rd.load tbE_ok rfl rfl wE.runs hv1 rfl (by show 0+i*13+13≤E.runs.length*13;omega) (E.runs[i].1.val E.runs[i].2) (.inl ⟨rfl,by rw [Nat.zero_add];exact congrArg (fun l=>Value.agg (List.toArray l)) (flat_at encR 13 encR_len E.runs i hlt2).symm⟩) ?_
   conv=>whnf
   refine Rd.index slRun.u slRun.size rfl (by exact hv2) rfl i rfl hlt ?_
   conv=>whnf
   refine Rd.load tbE_ok rfl rfl wD.runs hv2 rfl (by show 0+i*13+13≤D.runs.length*13;omega) (D.runs[i].1.val D.runs[i].2) (.inl ⟨rfl,by rw [Nat.zero_add];exact congrArg (fun l=>Value.agg (List.toArray l)) (flat_at encR 13 encR_len D.runs i hlt).symm⟩) ?_
   have hEi:=wE.each i hlt2
   rw [hsame] at hEi ⊢
   conv=>whnf
   refine(lvRun_same D.runs[i].1 E.runs[i].2 D.runs[i].2 (hsm.each _ (pure_mem hlt)) h3 hEi (wD.each i hlt)).mono ?_
   rintro r h3 ⟨rfl,rfl⟩
   conv=>whnf
   refine⟨Hp.le_refl _,?_⟩
   conv=>whnf
   refine⟨fun h3=>absurd h3 (by simp),fun _=>?_⟩
   conv=>whnf
   rw [hwi]
   exact W.back (ih (i+1) _ ⟨hlt,rfl⟩ (by omega)) [] (by exact⟨rfl,rfl,rfl,rfl,rfl,trivial⟩) rfl rfl
  ·rw [hwi]
   exact W.back (ih (i+1) _ ⟨hlt,rfl⟩ (by omega)) [] (by exact⟨rfl,rfl,rfl,rfl,rfl,trivial⟩) rfl rfl
 ·have hw1:wr (D.sent+1)=E.sent:=by rw [hsE];exact wrapN _ (by omega) (by omega)
  refine⟨fun _=>?_,fun e=>absurd e (by
   show ¬(E.sent != wr (D.sent+1))=true
   rw [hw1];simp)⟩
  conv=>whnf
  refine(iWorldOk_con E hEs hEy h3 wE.wi).mono ?_
  rintro r h3 ⟨⟨b,rfl,hb⟩,rfl⟩
  have hbt:b=true:=hb.2 hokE
  subst hbt
  conv=>whnf
  refine⟨fun e=>absurd e (by simp),fun _=>?_⟩
  conv=>whnf
  clear ih h6 hi
  by_cases hin:1≤id∧id≤(D.runs.length:Int)
  rotate_left
  ·refine(lvStateOut_con D id hin h3).mono ?_
   rintro r h3 ⟨rfl,rfl⟩
   conv=>whnf
   refine⟨fun e=>absurd e (by simp),fun _=>?_⟩
   conv=>whnf
   have hLQ:=hlose fun i hi e=>absurd (show 1≤id∧id≤(D.runs.length:Int) by omega) hin
   have hw2:wr (D.lost+1)=E.lost:=by rw [hLQ.1];exact wrapN _ (by omega) (by omega)
   refine⟨fun _=>?_,fun e=>absurd e (by show ¬(E.lost==wr (D.lost+1))=false;rw [hw2];simp)⟩
   conv=>whnf
   refine(lvInts_con E.qa D.qa E.qk D.qk E.queue D.queue (by rw [hLQ.2];omega) h3 wE.queue wD.queue).mono ?_
   rintro r h3 ⟨rfl,rfl⟩
   conv=>whnf
   exact⟨congrArg Value.bool (by simp [hLQ.2]),hle3⟩
  obtain⟨j,hid⟩:∃j:Nat,id=(j:Int)+1:=⟨(id-1).toNat,by omega⟩
  have hj:j<D.runs.length:=by omega
  have hjP:j<D.pure.runs.length:=by rw [hlP];exact hj
  have hpr:D.pure.runs[j]=D.runs[j].1:=pure_gets D hj
  have hst:=(ok.run j hjP).st
  rw [hpr] at hst
  have honly:∀i (hi:i<D.pure.runs.length),id=(i:Int)+1→D.pure.runs[i]=D.runs[j].1:=fun i hi e=>by
   obtain rfl:i=j:=by omega
   exact hpr
  refine(lvState_con D j hj hrn id hid h3 wD).mono ?_
  rintro r h3 ⟨rfl,rfl⟩
  conv=>whnf
  refine⟨fun _=>?_,fun e=>absurd e (by(have:D.runs[j].1.st≠0:=by omega);simpa using this)⟩
  conv=>whnf
  refine(lvState_con D j hj hrn id hid h3 wD).mono ?_
  rintro r h3 ⟨rfl,rfl⟩
  conv=>whnf
  refine⟨fun b4=>?_,fun b4=>?_⟩<;>conv=>whnf
  rotate_left
  ·have hLQ:=hlose fun i hi e=>.inl (by rw [honly i hi e];simpa using b4)
   have hw2:wr (D.lost+1)=E.lost:=by rw [hLQ.1];exact wrapN _ (by omega) (by omega)
   refine⟨fun _=>?_,fun e=>absurd e (by show ¬(E.lost==wr (D.lost+1))=false;rw [hw2];simp)⟩
   conv=>whnf
   refine(lvInts_con E.qa D.qa E.qk D.qk E.queue D.queue (by rw [hLQ.2];omega) h3 wE.queue wD.queue).mono ?_
   rintro r h3 ⟨rfl,rfl⟩
   conv=>whnf
   exact⟨congrArg Value.bool (by simp [hLQ.2]),hle3⟩
  obtain⟨g,hra⟩:=row_some wD.runs (by omega)
  have hv:D.rv=.slice (some ⟨g,0,none⟩) D.runs.length D.rk:=by rw [WD.rv,hra]
  have hz:IntKind.i64.wrap (id-1)=(j:Int):=by rw [hid,show (j:Int)+1-1=j by omega];exact wrapN _ (by omega) (by omega)
  refine Ext.maxI (a:=id) (b:=1) rfl rfl rfl ?_
  rw [show max id 1=id by omega]
  conv=>whnf
  refine Ext.index slRun.u slRun.size rfl (by exact hv) rfl j hz hj ?_
  conv=>whnf
  refine Ext.loadRunCell (D:=D) rfl ⟨rfl,rfl⟩ rfl wD.runs hv hj 4 (by decide) rfl (.slice D.runs[j].2.a1 D.runs[j].1.mail.length D.runs[j].2.k1) rfl ?_
  conv=>whnf
  refine⟨fun b5=>?_,fun b5=>?_⟩<;>conv=>whnf
  ·have hLQ:=hlose fun i hi e=>.inr (by rw [honly i hi e];simp at b5;omega)
   have hw2:wr (D.lost+1)=E.lost:=by rw [hLQ.1];exact wrapN _ (by omega) (by omega)
   refine⟨fun _=>?_,fun e=>absurd e (by show ¬(E.lost==wr (D.lost+1))=false;rw [hw2];simp)⟩
   conv=>whnf
   refine(lvInts_con E.qa D.qa E.qk D.qk E.queue D.queue (by rw [hLQ.2];omega) h3 wE.queue wD.queue).mono ?_
   rintro r h3 ⟨rfl,rfl⟩
   conv=>whnf
   exact⟨congrArg Value.bool (by simp [hLQ.2]),hle3⟩
  have hm12:D.runs[j].1.mail.length<12:=by simp at b5;omega
  obtain⟨j',hj',e2,_,_,hwhat⟩:=hwhat.resolve_left fun⟨hl,_⟩=>by
   rcases hl j hjP hid with f | f
   ·rw [hpr] at f;rw [f] at b4;simp at b4
   ·rw [hpr] at f;omega
  obtain rfl:j=j':=by omega
  have hjE:j<E.runs.length:=by omega
  have hEi:∀y:RunD,(giveP D.pure id v).runs=D.pure.runs.set j y→E.runs[j].1=y:=fun y e=>by
   have h1:E.pure.runs[j]?=some y:=by rw [hEp,e];exact List.getElem?_set_self hjP
   have h2:E.pure.runs[j]?=some E.runs[j].1:=by rw [List.getElem?_eq_getElem (by rw [pure_len];exact hjE),pure_gets E hjE]
   rw [h2] at h1
   exact Option.some.inj h1
  have hml:E.runs[j].1.mail=D.runs[j].1.mail++[v]:=by
   rcases hwhat with ⟨_,_,e1⟩ | ⟨_,e1⟩
   ·rw [hEi _ (by rw [e1]),←hpr]
   ·rw [hEi _ (by rw [e1]),←hpr]
  have hlo:E.lost=D.lost:=by
   have:E.pure.lost=D.pure.lost:=by
    rcases hwhat with ⟨_,_,e1⟩ | ⟨_,e1⟩
    ·rw [hEp,e1]
    ·rw [hEp,e1]
   exact this
  have hmn:E.runs[j].1.mail.length=D.runs[j].1.mail.length+1:=by rw [hml,List.length_append];rfl
  refine Ext.index slRun.u slRun.size rfl (by exact hv) rfl j hz hj ?_
  conv=>whnf
  refine Ext.loadRunCell (D:=D) rfl ⟨rfl,rfl⟩ rfl wD.runs hv hj 4 (by decide) rfl (.slice D.runs[j].2.a1 D.runs[j].1.mail.length D.runs[j].2.k1) rfl ?_
  conv=>whnf
  refine W.cut [(9,.v (.int .i64 D.runs[j].1.mail.length)),(6,.p 2 0),(4,.v (.int .i64 id)),(5,.p 1 0),(3,.p 0 0)] _ [] ⟨rfl,rfl,rfl,rfl,rfl,trivial⟩ (List.append_nil _).symm rfl ⟨_,rfl⟩ ?_
  refine W.draw [(0,true),(1,true),(2,true),(3,true),(4,true),(5,true),(6,true),(7,true),(8,true),(9,true),(10,true),(11,true),(12,true),(13,true),(14,true),(15,true),(16,true),(17,true),(18,true),(19,true),(20,true),(21,true),(22,true),(23,true),(24,true),(25,true),(26,true),(27,true),(28,true),(29,true),(30,false),(31,true),(32,true)] [0,1,2] (some h3) 99 (by kernel_rfl) rfl (by kernel_rfl) mixed rfl (fun g e=>by cases e;exact Hp.le_refl _) ?_
  refine vc_ok ⟨tbE_ok,_,Tryz.func3,Tryz.results3,Tryz.ntmps3⟩ 400 _ _ _ _ ?_
  conv=>whnf
  obtain⟨ge,hae⟩:=row_some wE.runs (by omega)
  have hve:E.rv=.slice (some ⟨ge,0,none⟩) E.runs.length E.rk:=by rw [WD.rv,hae]
  refine⟨fun _=>?_,fun e=>absurd e (by show ¬(E.lost==D.lost)=false;rw [hlo];simp)⟩
  conv=>whnf
  refine Rd.index slRun.u slRun.size rfl (by exact hve) rfl j hz hjE ?_
  conv=>whnf
  refine Rd.loadRunCell (D:=E) rfl ⟨rfl,rfl⟩ rfl wE.runs hve hjE 4 (by omega) rfl (.slice E.runs[j].2.a1 E.runs[j].1.mail.length E.runs[j].2.k1) rfl ?_
  conv=>whnf
  have hwn:wr ((D.runs[j].1.mail.length:Int)+1)=(E.runs[j].1.mail.length:Int):=by rw [show wr ((D.runs[j].1.mail.length:Int)+1)=(D.runs[j].1.mail.length:Int)+1 from wrapN _ (by omega) (by omega)];omega
  refine⟨fun _=>?_,fun e=>absurd e (by show ¬((E.runs[j].1.mail.length:Int)==wr ((D.runs[j].1.mail.length:Int)+1))=false;rw [hwn];simp)⟩
  conv=>whnf
  have hnlt:D.runs[j].1.mail.length<E.runs[j].1.mail.length:=by omega
  have hrm:RowOk h3 (rowV (.slice E.runs[j].2.a1 E.runs[j].1.mail.length E.runs[j].2.k1) E.runs[j].1.mail):=(wE.each j hjE).r1
  obtain⟨gm,ham⟩:=row_some hrm (by omega)
  have hvm:Value.slice E.runs[j].2.a1 E.runs[j].1.mail.length E.runs[j].2.k1=.slice (some ⟨gm,0,none⟩) E.runs[j].1.mail.length E.runs[j].2.k1:=by rw [ham]
  refine Rd.index slRun.u slRun.size rfl (by exact hve) rfl j hz hjE ?_
  conv=>whnf
  refine Rd.loadRunCell (D:=E) rfl ⟨rfl,rfl⟩ rfl wE.runs hve hjE 4 (by omega) rfl (.slice E.runs[j].2.a1 E.runs[j].1.mail.length E.runs[j].2.k1) rfl ?_
  conv=>whnf
  refine Rd.index slVal.u slVal.size rfl (by exact hvm) rfl D.runs[j].1.mail.length rfl hnlt ?_
  conv=>whnf
  refine Rd.loadVal rfl hrm hvm hnlt rfl ?_
  have hlast:E.runs[j].1.mail[D.runs[j].1.mail.length]=v:=by
   have h8:E.runs[j].1.mail[D.runs[j].1.mail.length]?=some v:=by rw [hml];simp
   rw [List.getElem?_eq_getElem hnlt] at h8
   exact Option.some.inj h8
  rw [hlast]
  conv=>whnf
  refine Ext.eqV (a:=v.1) (b:=v.2) (c:=v.1) (d:=v.2) rfl rfl rfl ?_
  conv=>whnf
  refine⟨Hp.le_refl _,?_⟩
  conv=>whnf
  exact⟨congrArg Value.bool (by simp),hle3⟩
theorem walk (a0:Option Addr) (len0 cap0:Nat) (w:World) (h0:Eld.Code0 w a0 len0 cap0):Calls Tryz.prog 3 #[.slice a0 len0 cap0] w fun e w'=>e=.returned (.bool true)∧Below w.heap.size w w':=by
 obtain⟨cb,hc,hi⟩:=code_in h0
 exact((law a0 len0 cap0 cb hc).run w hi).mono fun e w' ⟨v,h',he,hy,hi',hf⟩=>yes_below hi hi' hf he hy
set_option maxRecDepth 20000 in
theorem contract (H:Type) (enc:TypeId×Value→H) (W:World) (base:Nat) (args:Array Value) (ds gs:List (DataW H)) (before:List MemPlace)
  (hval:∀(j:Nat) t v,Tryz.f3.params[j]?=some t→args[j]?=some v→Value.okWide Tryz.prog W .any base t v)
  (hW:DataW.Whole enc Tryz.prog Tryz.f3.params.toList Rows.fnGiveSpec.vars false W args.toList ds gs before) (_hL:laidMetH Tryz.prog Rows.fnGiveRow.laid W) :
  Calls Tryz.prog 3 args W fun e W'=>∃v,e=.returned v∧Rows.fnGiveSpec.post enc Tryz.prog Tryz.f3 false true false false W args v W':=by
 have hW':=hW
 obtain⟨p,q,hA0,hV,rfl,hfz,hnd⟩:=hW
 have hA:DataW.TrodAll enc Tryz.prog W 0 (fun _=>true) true Tryz.f3.params.toList args.toList ds p:=hA0
 rw [Tryz.params3] at hA hval
 obtain⟨v0,vs0,d0,ds0,p0,q0,hargs,rfl,rfl,h0,r0⟩:=trodAll_cons hA
 obtain⟨rfl,rfl,rfl⟩:=trodAll_nil r0
 obtain rfl:args=#[v0]:=by cases args;simp_all
 obtain⟨rfl,rfl⟩:=trodVars_none hV
 obtain⟨a0,len0,cap0,rfl⟩:=okWide_slice Tryz.underlying22 (hval 0 22 v0 rfl rfl)
 have k0:=h0
 have lt0:∀x∈p0,x.block<W.heap.size:=by obtain⟨m,hm⟩:=k0;exact DataW.trod_lt m _ _ _ hm
 have w0:Eld.Code0 W a0 len0 cap0:=by
  obtain⟨fuel,hf⟩:=h0
  rcases open_ints Tryz.underlying22 Tryz.underlying5 (by kernel_rfl) hf with ⟨hcs,_⟩ | ⟨x,l,c,zs,hcs,_,hl,hm,hz,_,hcell,hwz⟩
  ·simp [Value.cells] at hcs
   obtain⟨rfl,rfl,rfl⟩:=hcs
   exact Eld.code_of_row (zs:=[]) (.inl ⟨rfl,rfl,rfl,rfl⟩)
  ·simp [Value.cells] at hcs
   obtain⟨rfl,rfl,rfl⟩:=hcs
   exact Eld.code_of_row (zs:=zs) (.inr ⟨_,rfl,hl,hm,by simpa using hz,hcell,hwz⟩)
 clear hA0
 refine(walk a0 len0 cap0 W w0).mono fun e W' ⟨he,bel⟩=>?_
 subst he
 exact⟨_,rfl,_,_,_,[],_,[],hW',trodAll_mk1 (shut_bool Tryz.underlying4 _),(trodAll_cons_mk (Below.trod laidOut (by kernel_rfl) (of_decide_eq_true (by kernel_rfl)) k0 bel lt0) trodAll_mk0),rfl,bel.frame _,fun h=>by cases h⟩
theorem laid_met (os:Os):laidMet Tryz.prog Rows.fnGiveRow.laid ((Eld.putAll (World.settled Tryz.prog os).heap.size (World.holding Tryz.prog os ⟨Eld.errBlocks,#[],[]⟩)).forCall (fun _ _=>0) ⟨#[],#[.slice none 0 0],[]⟩).memory :=
 laidMet_of_run' 10 (by kernel_rfl) (by kernel_rfl)
theorem reads (os:Os) {H:Type} (enc:TypeId×Value→H):∃places,DataW.whole enc Tryz.prog ((Eld.putAll (World.settled Tryz.prog os).heap.size (World.holding Tryz.prog os ⟨Eld.errBlocks,#[],[]⟩)).forCall (fun _ _=>0) ⟨#[],#[.slice none 0 0],[]⟩).memory Tryz.f3.params.toList Rows.fnGiveSpec.vars false #[.slice none 0 0].toList 8=some ([.nil],[],places) :=
 ⟨[],by kernel_rfl⟩
set_option maxRecDepth 100000 in
theorem lifted (os:Os) (started:os.Started) (H:Type) (enc:TypeId×Value→H) (F:Stop.Interp) :
  ReturnsInHanded {} Tryz.checked os 3 .any ((OpenSpec.ofChange Rows.fnGiveSpec).preRow enc Tryz.prog Tryz.f3 Rows.fnGiveRow.domain false Rows.fnGiveRow.laid) (((OpenSpec.ofChange Rows.fnGiveSpec).at F).post enc Tryz.prog Tryz.f3 false true false false):=by
 obtain⟨places,hx⟩:=reads os enc
 refine returnsInHanded_of_row (C:=Tryz.checked) (s:=OpenSpec.ofChange Rows.fnGiveSpec) own started (by kernel_rfl) Tryz.func3
  (witness_row_atRef (enc:=enc) (C:=Tryz.checked) false (Eld.putAll (World.settled Tryz.prog os).heap.size (World.holding Tryz.prog os ⟨Eld.errBlocks,#[],[]⟩)) #[.slice none 0 0] rfl (by kernel_rfl) (by kernel_rfl) (by kernel_rfl)
   (OpenSpec.preRow_of_cond 8 hx (by kernel_rfl) (fun k hk=>by cases hk) (by kernel_rfl) (laid_met os))) ?_
 intro W base args ds gs before hval hW _ _ _ hL _ _
 exact contract H enc W base args ds gs before hval hW hL
set_option maxRecDepth 100000 in
theorem said:Rows.FnGiveSaid :=
 OpenClaim.holds_of_cond 3 Tryz.f3 rfl rfl rfl rfl rfl rfl rfl ⟨rfl,rfl,rfl,rfl,rfl⟩ rfl rfl rfl rfl rfl (by kernel_rfl) Tryz.func3 FcFnGive.closed
  (of_decide_eq_true (by kernel_rfl)) (by unfold Func.isWrapper;first | (rw [if_pos (by decide +kernel)];kernel_rfl) | (rw [if_neg (by decide +kernel)];exact⟨rfl,rfl⟩))
  (fun os started H enc _ F=>by rw [OpenClaim.pre_eq_preRow];exact lifted os started H enc F)
theorem plain (f:FuncId) (fn:Func) (hf:Tryz.pinned.checked.prog.funcNamed Rows.fnGiveRow.func=some f) (hfn:Tryz.pinned.checked.prog.funcs[f]?=some fn) :
  true=Tryz.pinned.checked.prog.looks []∧∀(j:Nat) t,fn.params[j]?=some t→Tryz.pinned.checked.prog.wantsStandIn t=false:=by
 obtain rfl:f=3:=Option.some.inj ((show Tryz.prog.funcNamed Rows.fnGiveRow.func=some 3 by kernel_rfl).symm.trans hf) |>.symm
 obtain rfl:fn=Tryz.f3:=(Option.some.inj (Tryz.func3.symm.trans hfn)).symm
 refine⟨by kernel_rfl,fun j t ht=>?_⟩
 rw [Tryz.params3] at ht
 obtain rfl:t=22:=by simpa using Array.mem_of_getElem? ht
 exact(show Tryz.prog.wantsStandIn 22=false by kernel_rfl)
theorem card:Rows.FnGiveCardSaid :=
 Claim7.holds_tied_plain_at .later [] _ _ _ _ said (fun _ h=>by cases h) (by kernel_rfl) (fun _ h=>by cases h) fnGive_row_tie rfl ⟨rfl,rfl⟩ (by kernel_rfl) rfl plain (by kernel_rfl)
end FnGive
theorem fnGive_holds:Rows.FnGiveCardSaid:=FnGive.card
#print axioms fnGive_holds
end Go.Proofs.YtllbeifcipefjaaGreatDoor
