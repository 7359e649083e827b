import Derived.Test.YtllbeifcipefjaaGreatDoorRexSi
import Derived.Test.YtllbeifcipefjaaGreatDoorSm
import Derived.Test.YtllbeifcipefjaaGreatDoorSj
import Derived.Test.YtllbeifcipefjaaGreatDoorEFrameN
import Derived.Test.YtllbeifcipefjaaGreatDoorFcFnGiveTwo
namespace Go.Proofs.YtllbeifcipefjaaGreatDoor
open Go.ChangeShapes Go.WideShapes Go.ChangeAt Go.RowKit Go.Joins
set_option maxRecDepth 100000
namespace FnGiveTwo
def gd (c:List OpD) (d:RunD) (v:Int×Int):RunD :=
 if d.st==3||decide ((d.mail.length:Int)≥12) then d
 else if d.st==2&&fitsP v (stepAt c d).s then { d with mail:=d.mail++[v],st:=1 } else { d with mail:=d.mail++[v] }
def gl (d:RunD) (l:Int):Int:=if d.st==3||decide ((d.mail.length:Int)≥12) then wr (l+1) else l
def gq (c:List OpD) (d:RunD) (v:Int×Int):Bool:=!(d.st==3||decide ((d.mail.length:Int)≥12))&&(d.st==2&&fitsP v (stepAt c d).s)
theorem giveP_run (w:PW) (i:Nat) (hi:i<w.runs.length) (v:Int×Int) :
  giveP w ((i:Int)+1) v={ w with sent:=wr (w.sent+1),lost:=gl w.runs[i] w.lost,queue:=if gq w.code w.runs[i] v then w.queue++[(i:Int)+1] else w.queue,runs:=w.runs.set i (gd w.code w.runs[i] v) }:=by
 unfold giveP
 rw [if_pos (by omega),show ((i:Int)+1-1).toNat=i by omega,List.getElem?_eq_getElem hi]
 show giveAt w i ((i:Int)+1) w.runs[i] v=_
 unfold giveAt gl gq gd loseP
 by_cases h:(w.runs[i].st==3||decide ((w.runs[i].mail.length:Int)≥12))=true
 ·rw [if_pos h,if_pos h,if_pos h,h]
  simp
 ·rw [if_neg h,if_neg h,if_neg h]
  have h':(w.runs[i].st==3||decide ((w.runs[i].mail.length:Int)≥12))=false:=by simpa using h
  rw [h']
  by_cases k:(w.runs[i].st==2&&fitsP v (stepAt w.code w.runs[i]).s)=true
  ·rw [if_pos k,if_pos k,k];rfl
  ·have k':(w.runs[i].st==2&&fitsP v (stepAt w.code w.runs[i]).s)=false:=by simpa using k
   rw [if_neg k,if_neg k,k'];rfl
theorem giveP_none (w:PW) (id:Int) (v:Int×Int) (h:¬(1≤id∧id≤(w.runs.length:Int))):giveP w id v={ w with sent:=wr (w.sent+1),lost:=wr (w.lost+1) }:=by
 unfold giveP
 rw [if_neg h]
 rfl
def Alike (a b:PW):Prop:=a.runs=b.runs∧a.sent=b.sent∧a.lost=b.lost∧a.queue.length=b.queue.length
theorem gl_two (d e:RunD) (l:Int):gl d (gl e l)=gl e (gl d l):=by
 unfold gl
 split<;>split<;>rfl
theorem gl_one (d:RunD) (l:Int):gl d (wr (l+1))=wr (gl d l+1):=by
 unfold gl
 split<;>rfl
theorem give_comm (w:PW) (id:Int) (v u:Int×Int) (j:Nat) (hj:j<w.runs.length) (hne:id≠(j:Int)+1):Alike (giveP (giveP w id v) ((j:Int)+1) u) (giveP (giveP w ((j:Int)+1) u) id v):=by
 by_cases hin:1≤id∧id≤(w.runs.length:Int)
 ·obtain⟨i,rfl⟩:∃i:Nat,id=(i:Int)+1:=⟨(id-1).toNat,by omega⟩
  have hi:i<w.runs.length:=by omega
  have hij:i≠j:=fun e=>hne (by rw [e])
  have e1:=giveP_run w i hi v
  have e2:=giveP_run w j hj u
  rw [e1,e2]
  rw [giveP_run _ j (by show j<(w.runs.set i _).length;rw [List.length_set];exact hj) u,giveP_run _ i (by show i<(w.runs.set j _).length;rw [List.length_set];exact hi) v]
  simp only [List.getElem_set_ne hij,List.getElem_set_ne (Ne.symm hij)]
  refine⟨List.set_comm _ _ hij,rfl,gl_two _ _ _,?_⟩
  split<;>split<;>simp
 ·have e2:=giveP_run w j hj u
  rw [giveP_none w id v hin,e2,giveP_none _ id v (by show ¬(1≤id∧id≤(((w.runs.set j _).length:Nat):Int));rw [List.length_set];exact hin)]
  have e3:=giveP_run { w with sent:=wr (w.sent+1),lost:=wr (w.lost+1) } j hj u
  rw [e3]
  exact⟨rfl,rfl,gl_one _ _,rfl⟩
theorem zero_bad:¬WOk WD.zero.pure:=fun⟨_,_,_,ok⟩=>absurd (show 1≤0 from ok.n1) (by decide)
theorem two {w x A Y B:PW} {id:Int} {v u:Int×Int} {j:Nat} (hg:GiveOk w v) (hs:w.sent≤9000) (hx:x=giveP w id v) (hj:j<w.runs.length) (hne:id≠(j:Int)+1) (hA:GiveR x ((j:Int)+1) u A) (hY:GiveR w ((j:Int)+1) u Y) (hB:GiveR Y id v B):Alike A B:=by
 subst hx
 by_cases hu:okV u=true
 ·have g1:GiveOk (giveP w id v) u:=⟨hg.1.give id hg.2.1 hg.2.2,hu,by rw [giveP_sent hg.1 id v hg.2.2];omega⟩
  have g2:GiveOk w u:=⟨hg.1,hu,hg.2.2⟩
  obtain rfl:A=_:=hA.one (.inl ⟨g1,rfl⟩)
  obtain rfl:Y=_:=hY.one (.inl ⟨g2,rfl⟩)
  have g3:GiveOk (giveP w ((j:Int)+1) u) v:=⟨hg.1.give _ hu hg.2.2,hg.2.1,by rw [giveP_sent hg.1 _ u hg.2.2];omega⟩
  obtain rfl:B=_:=hB.one (.inl ⟨g3,rfl⟩)
  exact give_comm w id v u j hj hne
 ·obtain rfl:A=_:=hA.one (.inr ⟨fun g=>hu g.2.1,rfl⟩)
  obtain rfl:Y=_:=hY.one (.inr ⟨fun g=>hu g.2.1,rfl⟩)
  obtain rfl:B=_:=hB.one (.inr ⟨fun g=>zero_bad g.1,rfl⟩)
  exact⟨rfl,rfl,rfl,rfl⟩
theorem law (a:Option Addr) (len cap:Nat) (am:Option Addr) (lenb capb:Nat) (cb:Option (Nat×Obj)) (hc:CodeIn a len cap cb) :
  Con Tryz.prog 5 #[.slice a len cap,.slice am lenb capb] (cbHp cb) (Yes cb):=by
 refine Con.of_W (tb:=tbE) (args:=[.slice a len cap,.slice am lenb capb]) Tryz.func5 rfl Tryz.results5 Tryz.ntmps5 (by simp) (Tryz.call5 _) (tm:=[(0,.v (.slice a len cap)),(1,.v (.slice am lenb capb))]) rfl ?_
 refine vc_ok ⟨tbE_ok,_,Tryz.func5,Tryz.results5,Tryz.ntmps5⟩ 400 _ _ _ _ ?_
 conv=>whnf
 refine Ext.len Tryz.underlying22 rfl rfl ?_
 conv=>whnf
 refine⟨fun _=>?_,fun _=>?_⟩<;>conv=>whnf
 rotate_left
 ·exact⟨rfl,Hp.le_refl _⟩
 refine Ext.len Tryz.underlying22 rfl rfl ?_
 conv=>whnf
 refine⟨fun _=>?_,fun hb20=>?_⟩<;>conv=>whnf
 ·exact⟨rfl,Hp.le_refl _⟩
 have ho:Own (cbHp cb) (cbAtoms cb++[]):=by rw [List.append_nil];exact cb_own cb
 refine(drawWorldGive_con a len cap cb hc _ [] ho).mono ?_
 rintro r h1 ⟨D,id,v,rfl,hd,hid1,hid2,ho1⟩
 replace ho1:Own h1 (wAtoms D++cbAtoms cb):=by have:=ho1.turnL;rw [List.append_nil] at this;exact this
 have hsm:=hd.sm
 conv=>whnf
 refine(iGive_con D hsm hd.why id v h1 _ ho1).mono ?_
 rintro r h2 ⟨E,rfl,hE,ho2⟩
 conv=>whnf
 refine W.cut [(8,.p 2 0),(6,.v (.int .i64 id)),(7,.p 1 0),(5,.p 0 0),(1,.v (.slice am lenb capb))] _ [] ⟨rfl,rfl,rfl,rfl,rfl,trivial⟩ (List.append_nil _).symm rfl ⟨_,rfl⟩ ?_
 refine W.draw [(0,true),(1,true),(2,true),(3,true),(4,false),(5,false),(6,true),(7,true),(8,true),(9,false),(10,true),(11,true),(12,true),(13,true),(14,false),(15,true),(16,true),(17,true),(18,true),(19,true),(20,true),(21,true)] [0,1,2] none 99 (by kernel_rfl) rfl (by kernel_rfl) mixed rfl (fun g e=>by cases e) ?_
 refine vc_ok ⟨tbE_ok,_,Tryz.func5,Tryz.results5,Tryz.ntmps5⟩ 400 _ _ _ _ ?_
 conv=>whnf
 refine(sGive_con D hsm id v h2 _ ho2.turnL).mono ?_
 rintro r h3 ⟨F,rfl,hF,ho3⟩
 conv=>whnf
 have hEF:=hE.one hF
 have hEs:=hE.sm hsm
 refine(lvWorld_same E F hEF hEs h3 (ho3.win fun _ hx=>List.mem_append_right _ (List.mem_append_right _ (List.mem_append_left _ hx))) ho3.wL).mono ?_
 rintro r h3 ⟨rfl,rfl⟩
 conv=>whnf
 replace ho3:Own h3 (wAtoms D++(wAtoms E++cbAtoms cb)):=ho3.dropL
 refine⟨fun _=>?_,fun e=>absurd e (by simp)⟩
 conv=>whnf
 refine(sWorldOk_con D hsm h3 ho3.wL).mono ?_
 rintro r h3 ⟨⟨b,rfl,hb⟩,rfl⟩
 conv=>whnf
 refine⟨fun b0=>?_,fun b0=>?_⟩<;>conv=>whnf
 rotate_left
 ·refine W.cut [(8,.p 2 0),(6,.v (.int .i64 id)),(7,.p 1 0),(5,.p 0 0),(1,.v (.slice am lenb capb))] _ [] ⟨rfl,rfl,rfl,rfl,rfl,trivial⟩ (List.append_nil _).symm rfl ⟨_,rfl⟩ ?_
  refine W.draw [(0,true),(1,true),(2,true),(3,true),(4,false),(5,false),(6,true)] [0,1,2] none 99 (by kernel_rfl) rfl (by kernel_rfl) mixed rfl (fun g e=>by cases e) ?_
  refine vc_ok ⟨tbE_ok,_,Tryz.func5,Tryz.results5,Tryz.ntmps5⟩ 400 _ _ _ _ ?_
  conv=>whnf
  refine(sGive_con D hsm id v h3 _ ho3).mono ?_
  rintro r h9 ⟨G,rfl,hG,ho9⟩
  conv=>whnf
  refine(lvWorld_same E G (hE.one hG) hEs h9 (ho9.win fun _ hx=>List.mem_append_right _ (List.mem_append_right _ (List.mem_append_left _ hx))) ho9.wL).mono ?_
  rintro r h9 ⟨rfl,rfl⟩
  conv=>whnf
  exact⟨rfl,cb_leT (ho9.dropL.dropL)⟩
 refine(valOk_con v h3).mono ?_
 rintro r h3 ⟨rfl,rfl⟩
 conv=>whnf
 refine⟨fun b1=>?_,fun b1=>?_⟩<;>conv=>whnf
 rotate_left
 ·refine W.cut [(8,.p 2 0),(6,.v (.int .i64 id)),(7,.p 1 0),(5,.p 0 0),(1,.v (.slice am lenb capb))] _ [] ⟨rfl,rfl,rfl,rfl,rfl,trivial⟩ (List.append_nil _).symm rfl ⟨_,rfl⟩ ?_
  refine W.draw [(0,true),(1,true),(2,true),(3,true),(4,false),(5,false),(6,true)] [0,1,2] none 99 (by kernel_rfl) rfl (by kernel_rfl) mixed rfl (fun g e=>by cases e) ?_
  refine vc_ok ⟨tbE_ok,_,Tryz.func5,Tryz.results5,Tryz.ntmps5⟩ 400 _ _ _ _ ?_
  conv=>whnf
  refine(sGive_con D hsm id v h3 _ ho3).mono ?_
  rintro r h9 ⟨G,rfl,hG,ho9⟩
  conv=>whnf
  refine(lvWorld_same E G (hE.one hG) hEs h9 (ho9.win fun _ hx=>List.mem_append_right _ (List.mem_append_right _ (List.mem_append_left _ hx))) ho9.wL).mono ?_
  rintro r h9 ⟨rfl,rfl⟩
  conv=>whnf
  exact⟨rfl,cb_leT (ho9.dropL.dropL)⟩
 refine⟨fun b2=>?_,fun b2=>?_⟩<;>conv=>whnf
 ·refine W.cut [(8,.p 2 0),(6,.v (.int .i64 id)),(7,.p 1 0),(5,.p 0 0),(1,.v (.slice am lenb capb))] _ [] ⟨rfl,rfl,rfl,rfl,rfl,trivial⟩ (List.append_nil _).symm rfl ⟨_,rfl⟩ ?_
  refine W.draw [(0,true),(1,true),(2,true),(3,true),(4,false),(5,false),(6,true)] [0,1,2] none 99 (by kernel_rfl) rfl (by kernel_rfl) mixed rfl (fun g e=>by cases e) ?_
  refine vc_ok ⟨tbE_ok,_,Tryz.func5,Tryz.results5,Tryz.ntmps5⟩ 400 _ _ _ _ ?_
  conv=>whnf
  refine(sGive_con D hsm id v h3 _ ho3).mono ?_
  rintro r h9 ⟨G,rfl,hG,ho9⟩
  conv=>whnf
  refine(lvWorld_same E G (hE.one hG) hEs h9 (ho9.win fun _ hx=>List.mem_append_right _ (List.mem_append_right _ (List.mem_append_left _ hx))) ho9.wL).mono ?_
  rintro r h9 ⟨rfl,rfl⟩
  conv=>whnf
  exact⟨rfl,cb_leT (ho9.dropL.dropL)⟩
 have hs9:D.sent≤9000:=by simpa using b2
 have hok:WOk D.pure:=hb.1 (by simpa using b0)
 have hg:GiveOk D.pure v:=⟨hok,by simpa using b1,show D.sent<9990 by omega⟩
 have hlP:=pure_len D
 have hrn:D.runs.length≤1000:=by have:=hsm.runs;rw [pure_len] at this;exact this
 have hn1:1≤D.runs.length:=by
  obtain⟨_,V,_,ok⟩:=hok
  have:=ok.n1
  omega
 have hEp:E.pure=giveP D.pure id v:=hE.one (.inl ⟨hg,rfl⟩)
 clear hb b0 b1 b2
 refine Ext.len Tryz.underlying22 rfl rfl ?_
 conv=>whnf
 refine Ext.rem (b:=(D.runs.length:Int)) rfl rfl rfl (by omega) ?_
 have hm1:(lenb:Int).tmod (D.runs.length:Int)=((lenb % D.runs.length:Nat):Int):=by rw [Int.tmod_eq_emod_of_nonneg (by omega)];rfl
 obtain⟨j,hj⟩:∃j:Nat,j=lenb % D.runs.length:=⟨_,rfl⟩
 have hjl:j<D.runs.length:=by rw [hj];exact Nat.mod_lt _ (by omega)
 rw [hm1,←hj]
 conv=>whnf
 have hw1:IntKind.i64.wrap (1+(j:Int))=(j:Int)+1:=by rw [wrapN _ (by omega) (by omega)];omega
 rw [hw1]
 refine⟨fun b3=>?_,fun b3=>?_⟩<;>conv=>whnf
 ·exact⟨rfl,cb_leT ho3.dropL⟩
 have hne:id≠(j:Int)+1:=fun e=>by rw [e] at b3;simp at b3
 refine Ext.len Tryz.underlying22 rfl rfl ?_
 conv=>whnf
 refine Ext.rem (b:=5) rfl rfl rfl (by decide) ?_
 obtain⟨un,hun⟩:∃n:Int,n=(lenb:Int).tmod 5:=⟨_,rfl⟩
 rw [←hun]
 conv=>whnf
 refine(iGive_con E hEs hE.why ((j:Int)+1) (2,un) h3 _ ho3.turnL).mono ?_
 rintro r h4 ⟨A,rfl,hA,ho4⟩
 conv=>whnf
 have hoD:Own h4 (wAtoms D++(wAtoms A++(wAtoms E++cbAtoms cb))):=ho4.perm (perm_of fun x=>by simp only [List.count_append];omega)
 clear ho4 ho3
 refine W.cut [(11,.p 4 0),(10,.p 3 0),(9,.v (.int .i64 ((j:Int)+1))),(6,.v (.int .i64 id)),(7,.p 1 0),(5,.p 0 0)] _ [] ⟨rfl,rfl,rfl,rfl,rfl,rfl,trivial⟩ (List.append_nil _).symm rfl ⟨_,rfl⟩ ?_
 refine W.draw [(0,true),(1,true),(2,true),(4,true),(5,true),(1003007,false),(1006007,false),(7,false),(8,false)] [0,1,3] none 99 (by kernel_rfl) rfl (by kernel_rfl) mixed rfl (fun g e=>by cases e) ?_
 refine vc_ok ⟨tbE_ok,_,Tryz.func5,Tryz.results5,Tryz.ntmps5⟩ 400 _ _ _ _ ?_
 conv=>whnf
 refine⟨?_,?_⟩
 ·refine(iGive_con D hsm hd.why ((j:Int)+1) (2,un) h4 _ hoD).mono ?_
  rintro r h5 ⟨Y,rfl,hY,ho5⟩
  conv=>whnf
  refine⟨?_,?_⟩
  ·refine(iGive_con Y (hY.sm hsm) hY.why id v h5 _ ho5).mono ?_
   rintro r h6 ⟨B,rfl,hB,ho6⟩
   conv=>whnf
   obtain⟨hrr,hse,hlo,hqu⟩:=two hg hs9 hEp (by rw [hlP];exact hjl) hne hA hY hB
   have hse':A.sent=B.sent:=hse
   have hlo':A.lost=B.lost:=hlo
   have hqu':A.queue.length=B.queue.length:=hqu
   have hAs:A.pure.Sm:=hA.sm hEs
   have wA:WIn h6 A:=ho6.win fun _ hx=>List.mem_append_right _ (List.mem_append_right _ (List.mem_append_right _ (List.mem_append_left _ hx)))
   have wB:WIn h6 B:=ho6.wL
   have hle6:(cbHp cb).le h6:=cb_leT ho6.dropL.dropL.dropL.dropL
   have hlA:=pure_len A
   have hlB:=pure_len B
   have hAB:A.runs.length=B.runs.length:=by rw [←hlA,←hlB,hrr]
   have hAn:A.runs.length≤1000:=by have:=hAs.runs;rw [pure_len] at this;exact this
   refine W.cut [(13,.v (.int .i64 (0:Nat))),(12,.p 5 0),(11,.p 4 0)] [⟨27,D.cells⟩,⟨29,[.int .i64 v.1,.int .i64 v.2]⟩,⟨27,E.cells⟩,⟨29,[.int .i64 2,.int .i64 un]⟩,⟨27,A.cells⟩,⟨27,B.cells⟩] [] ⟨rfl,rfl,rfl,trivial⟩ rfl rfl ⟨_,rfl⟩ ?_
   refine W.loop (α:=Nat) (fun i=>[(13,.v (.int .i64 (i:Nat))),(12,.p 5 0),(11,.p 4 0)]) (fun _=>[⟨27,D.cells⟩,⟨29,[.int .i64 v.1,.int .i64 v.2]⟩,⟨27,E.cells⟩,⟨29,[.int .i64 2,.int .i64 un]⟩,⟨27,A.cells⟩,⟨27,B.cells⟩]) (fun i h'=>i≤A.runs.length∧h'=h6) (fun i=>A.runs.length-i) ?_ 0 h6 ⟨Nat.zero_le _,rfl⟩
   rintro i h7 ⟨hi,rfl⟩ ih
   refine vc_ok ⟨tbE_ok,_,Tryz.func5,Tryz.results5,Tryz.ntmps5⟩ 400 _ _ _ _ ?_
   conv=>whnf
   refine⟨fun h6=>?_,fun h6=>?_⟩<;>conv=>whnf
   ·have hlt:i<A.runs.length:=by simp at h6;omega
    have hltB:i<B.runs.length:=by omega
    obtain⟨g1,ha1⟩:=row_some wA.runs (by omega)
    obtain⟨g2,ha2⟩:=row_some wB.runs (by omega)
    have hv1:A.rv=.slice (some ⟨g1,0,none⟩) A.runs.length A.rk:=by rw [WD.rv,ha1]
    have hv2:B.rv=.slice (some ⟨g2,0,none⟩) B.runs.length B.rk:=by rw [WD.rv,ha2]
    have hsame:B.runs[i].1=A.runs[i].1:=by
     have h7:(A.runs.map (·.1))[i]?=(B.runs.map (·.1))[i]?:=congrArg (·[i]?) hrr
     rw [List.getElem?_map,List.getElem?_map,List.getElem?_eq_getElem hlt,List.getElem?_eq_getElem hltB] at h7
     simpa using h7.symm
    refine W.draw [(0,true),(1,true),(2,true),(3,true),(4,true),(5,true),(6,true),(7,true),(8,true),(9,true),(10,false),(11,true)] [4,5] (some h7) 99 (by kernel_rfl) rfl (by kernel_rfl) mixed rfl (fun g e=>by cases e;exact Hp.le_refl _) ?_
    refine vc_ok ⟨tbE_ok,_,Tryz.func5,Tryz.results5,Tryz.ntmps5⟩ 400 _ _ _ _ ?_
    conv=>whnf
    refine Rd.index slRun.u slRun.size rfl (by exact hv1) rfl i rfl hlt ?_
    conv=>whnf
    refine Rd.load tbE_ok rfl rfl wA.runs hv1 rfl (by show 0+i*13+13≤A.runs.length*13;omega) (A.runs[i].1.val A.runs[i].2) (.inl ⟨rfl,by rw [Nat.zero_add];exact congrArg (fun l=>Value.agg (List.toArray l)) (flat_at encR 13 encR_len A.runs i hlt).symm⟩) ?_
    conv=>whnf
    refine Rd.index slRun.u slRun.size rfl (by exact hv2) rfl i rfl hltB ?_
    conv=>whnf
    refine Rd.load tbE_ok rfl rfl wB.runs hv2 rfl (by show 0+i*13+13≤B.runs.length*13;omega) (B.runs[i].1.val B.runs[i].2) (.inl ⟨rfl,by rw [Nat.zero_add];exact congrArg (fun l=>Value.agg (List.toArray l)) (flat_at encR 13 encR_len B.runs i hltB).symm⟩) ?_
    have hB:=wB.each i hltB
    rw [hsame] at hB ⊢
    conv=>whnf
    refine(lvRun_same A.runs[i].1 A.runs[i].2 B.runs[i].2 (hAs.each _ (pure_mem hlt)) h7 (wA.each i hlt) hB).mono ?_
    rintro r h7 ⟨rfl,rfl⟩
    conv=>whnf
    refine⟨Hp.le_refl _,?_⟩
    conv=>whnf
    refine⟨fun h3=>absurd h3 (by simp),fun _=>?_⟩
    conv=>whnf
    have hwi:IntKind.i64.wrap ((i:Int)+1)=((i+1:Nat):Int):=by rw [wrapN _ (by omega) (by omega)];omega
    rw [hwi]
    exact W.back (ih (i+1) _ ⟨hlt,rfl⟩ (by omega)) [] (by exact⟨rfl,rfl,rfl,trivial⟩) rfl rfl
   ·refine⟨fun _=>?_,fun e=>absurd e (by show ¬(A.sent==B.sent)=false;rw [hse'];simp)⟩
    conv=>whnf
    refine⟨fun _=>?_,fun e=>absurd e (by show ¬(A.lost==B.lost)=false;rw [hlo'];simp)⟩
    conv=>whnf
    refine⟨congrArg Value.bool ?_,hle6⟩
    show ((A.queue.length:Int)==(B.queue.length:Int))=true
    rw [hqu'];simp
  ·conv=>whnf
   refine(iGive_con Y (hY.sm hsm) hY.why id v h5 _ ho5).mono ?_
   rintro r h6 ⟨B,rfl,hB,ho6⟩
   conv=>whnf
   obtain⟨hrr,hse,hlo,hqu⟩:=two hg hs9 hEp (by rw [hlP];exact hjl) hne hA hY hB
   have hse':A.sent=B.sent:=hse
   have hlo':A.lost=B.lost:=hlo
   have hqu':A.queue.length=B.queue.length:=hqu
   have hAs:A.pure.Sm:=hA.sm hEs
   have wA:WIn h6 A:=ho6.win fun _ hx=>List.mem_append_right _ (List.mem_append_right _ (List.mem_append_right _ (List.mem_append_left _ hx)))
   have wB:WIn h6 B:=ho6.wL
   have hle6:(cbHp cb).le h6:=cb_leT ho6.dropL.dropL.dropL.dropL
   have hlA:=pure_len A
   have hlB:=pure_len B
   have hAB:A.runs.length=B.runs.length:=by rw [←hlA,←hlB,hrr]
   have hAn:A.runs.length≤1000:=by have:=hAs.runs;rw [pure_len] at this;exact this
   refine W.cut [(13,.v (.int .i64 (0:Nat))),(12,.p 5 0),(11,.p 4 0)] [⟨27,D.cells⟩,⟨29,[.int .i64 v.1,.int .i64 v.2]⟩,⟨27,E.cells⟩,⟨29,[.int .i64 2,.int .i64 un]⟩,⟨27,A.cells⟩,⟨27,B.cells⟩] [] ⟨rfl,rfl,rfl,trivial⟩ rfl rfl ⟨_,rfl⟩ ?_
   refine W.loop (α:=Nat) (fun i=>[(13,.v (.int .i64 (i:Nat))),(12,.p 5 0),(11,.p 4 0)]) (fun _=>[⟨27,D.cells⟩,⟨29,[.int .i64 v.1,.int .i64 v.2]⟩,⟨27,E.cells⟩,⟨29,[.int .i64 2,.int .i64 un]⟩,⟨27,A.cells⟩,⟨27,B.cells⟩]) (fun i h'=>i≤A.runs.length∧h'=h6) (fun i=>A.runs.length-i) ?_ 0 h6 ⟨Nat.zero_le _,rfl⟩
   rintro i h7 ⟨hi,rfl⟩ ih
   refine vc_ok ⟨tbE_ok,_,Tryz.func5,Tryz.results5,Tryz.ntmps5⟩ 400 _ _ _ _ ?_
   conv=>whnf
   refine⟨fun h6=>?_,fun h6=>?_⟩<;>conv=>whnf
   ·have hlt:i<A.runs.length:=by simp at h6;omega
    have hltB:i<B.runs.length:=by omega
    obtain⟨g1,ha1⟩:=row_some wA.runs (by omega)
    obtain⟨g2,ha2⟩:=row_some wB.runs (by omega)
    have hv1:A.rv=.slice (some ⟨g1,0,none⟩) A.runs.length A.rk:=by rw [WD.rv,ha1]
    have hv2:B.rv=.slice (some ⟨g2,0,none⟩) B.runs.length B.rk:=by rw [WD.rv,ha2]
    have hsame:B.runs[i].1=A.runs[i].1:=by
     have h7:(A.runs.map (·.1))[i]?=(B.runs.map (·.1))[i]?:=congrArg (·[i]?) hrr
     rw [List.getElem?_map,List.getElem?_map,List.getElem?_eq_getElem hlt,List.getElem?_eq_getElem hltB] at h7
     simpa using h7.symm
    refine W.draw [(0,true),(1,true),(2,true),(3,true),(4,true),(5,true),(6,true),(7,true),(8,true),(9,true),(10,false),(11,true)] [4,5] (some h7) 99 (by kernel_rfl) rfl (by kernel_rfl) mixed rfl (fun g e=>by cases e;exact Hp.le_refl _) ?_
    refine vc_ok ⟨tbE_ok,_,Tryz.func5,Tryz.results5,Tryz.ntmps5⟩ 400 _ _ _ _ ?_
    conv=>whnf
    refine Rd.index slRun.u slRun.size rfl (by exact hv1) rfl i rfl hlt ?_
    conv=>whnf
    refine Rd.load tbE_ok rfl rfl wA.runs hv1 rfl (by show 0+i*13+13≤A.runs.length*13;omega) (A.runs[i].1.val A.runs[i].2) (.inl ⟨rfl,by rw [Nat.zero_add];exact congrArg (fun l=>Value.agg (List.toArray l)) (flat_at encR 13 encR_len A.runs i hlt).symm⟩) ?_
    conv=>whnf
    refine Rd.index slRun.u slRun.size rfl (by exact hv2) rfl i rfl hltB ?_
    conv=>whnf
    refine Rd.load tbE_ok rfl rfl wB.runs hv2 rfl (by show 0+i*13+13≤B.runs.length*13;omega) (B.runs[i].1.val B.runs[i].2) (.inl ⟨rfl,by rw [Nat.zero_add];exact congrArg (fun l=>Value.agg (List.toArray l)) (flat_at encR 13 encR_len B.runs i hltB).symm⟩) ?_
    have hB:=wB.each i hltB
    rw [hsame] at hB ⊢
    conv=>whnf
    refine(lvRun_same A.runs[i].1 A.runs[i].2 B.runs[i].2 (hAs.each _ (pure_mem hlt)) h7 (wA.each i hlt) hB).mono ?_
    rintro r h7 ⟨rfl,rfl⟩
    conv=>whnf
    refine⟨Hp.le_refl _,?_⟩
    conv=>whnf
    refine⟨fun h3=>absurd h3 (by simp),fun _=>?_⟩
    conv=>whnf
    have hwi:IntKind.i64.wrap ((i:Int)+1)=((i+1:Nat):Int):=by rw [wrapN _ (by omega) (by omega)];omega
    rw [hwi]
    exact W.back (ih (i+1) _ ⟨hlt,rfl⟩ (by omega)) [] (by exact⟨rfl,rfl,rfl,trivial⟩) rfl rfl
   ·refine⟨fun _=>?_,fun e=>absurd e (by show ¬(A.sent==B.sent)=false;rw [hse'];simp)⟩
    conv=>whnf
    refine⟨fun _=>?_,fun e=>absurd e (by show ¬(A.lost==B.lost)=false;rw [hlo'];simp)⟩
    conv=>whnf
    refine⟨congrArg Value.bool ?_,hle6⟩
    show ((A.queue.length:Int)==(B.queue.length:Int))=true
    rw [hqu'];simp
 ·conv=>whnf
  refine(iGive_con D hsm hd.why ((j:Int)+1) (2,un) h4 _ hoD).mono ?_
  rintro r h5 ⟨Y,rfl,hY,ho5⟩
  conv=>whnf
  refine(iGive_con Y (hY.sm hsm) hY.why id v h5 _ ho5).mono ?_
  rintro r h6 ⟨B,rfl,hB,ho6⟩
  conv=>whnf
  obtain⟨hrr,hse,hlo,hqu⟩:=two hg hs9 hEp (by rw [hlP];exact hjl) hne hA hY hB
  have hse':A.sent=B.sent:=hse
  have hlo':A.lost=B.lost:=hlo
  have hqu':A.queue.length=B.queue.length:=hqu
  have hAs:A.pure.Sm:=hA.sm hEs
  have wA:WIn h6 A:=ho6.win fun _ hx=>List.mem_append_right _ (List.mem_append_right _ (List.mem_append_right _ (List.mem_append_left _ hx)))
  have wB:WIn h6 B:=ho6.wL
  have hle6:(cbHp cb).le h6:=cb_leT ho6.dropL.dropL.dropL.dropL
  have hlA:=pure_len A
  have hlB:=pure_len B
  have hAB:A.runs.length=B.runs.length:=by rw [←hlA,←hlB,hrr]
  have hAn:A.runs.length≤1000:=by have:=hAs.runs;rw [pure_len] at this;exact this
  refine W.cut [(13,.v (.int .i64 (0:Nat))),(12,.p 5 0),(11,.p 4 0)] [⟨27,D.cells⟩,⟨29,[.int .i64 v.1,.int .i64 v.2]⟩,⟨27,E.cells⟩,⟨29,[.int .i64 2,.int .i64 un]⟩,⟨27,A.cells⟩,⟨27,B.cells⟩] [] ⟨rfl,rfl,rfl,trivial⟩ rfl rfl ⟨_,rfl⟩ ?_
  refine W.loop (α:=Nat) (fun i=>[(13,.v (.int .i64 (i:Nat))),(12,.p 5 0),(11,.p 4 0)]) (fun _=>[⟨27,D.cells⟩,⟨29,[.int .i64 v.1,.int .i64 v.2]⟩,⟨27,E.cells⟩,⟨29,[.int .i64 2,.int .i64 un]⟩,⟨27,A.cells⟩,⟨27,B.cells⟩]) (fun i h'=>i≤A.runs.length∧h'=h6) (fun i=>A.runs.length-i) ?_ 0 h6 ⟨Nat.zero_le _,rfl⟩
  rintro i h7 ⟨hi,rfl⟩ ih
  refine vc_ok ⟨tbE_ok,_,Tryz.func5,Tryz.results5,Tryz.ntmps5⟩ 400 _ _ _ _ ?_
  conv=>whnf
  refine⟨fun h6=>?_,fun h6=>?_⟩<;>conv=>whnf
  ·have hlt:i<A.runs.length:=by simp at h6;omega
   have hltB:i<B.runs.length:=by omega
   obtain⟨g1,ha1⟩:=row_some wA.runs (by omega)
   obtain⟨g2,ha2⟩:=row_some wB.runs (by omega)
   have hv1:A.rv=.slice (some ⟨g1,0,none⟩) A.runs.length A.rk:=by rw [WD.rv,ha1]
   have hv2:B.rv=.slice (some ⟨g2,0,none⟩) B.runs.length B.rk:=by rw [WD.rv,ha2]
   have hsame:B.runs[i].1=A.runs[i].1:=by
    have h7:(A.runs.map (·.1))[i]?=(B.runs.map (·.1))[i]?:=congrArg (·[i]?) hrr
    rw [List.getElem?_map,List.getElem?_map,List.getElem?_eq_getElem hlt,List.getElem?_eq_getElem hltB] at h7
    simpa using h7.symm
   refine W.draw [(0,true),(1,true),(2,true),(3,true),(4,true),(5,true),(6,true),(7,true),(8,true),(9,true),(10,false),(11,true)] [4,5] (some h7) 99 (by kernel_rfl) rfl (by kernel_rfl) mixed rfl (fun g e=>by cases e;exact Hp.le_refl _) ?_
   refine vc_ok ⟨tbE_ok,_,Tryz.func5,Tryz.results5,Tryz.ntmps5⟩ 400 _ _ _ _ ?_
   conv=>whnf
   refine Rd.index slRun.u slRun.size rfl (by exact hv1) rfl i rfl hlt ?_
   conv=>whnf
   refine Rd.load tbE_ok rfl rfl wA.runs hv1 rfl (by show 0+i*13+13≤A.runs.length*13;omega) (A.runs[i].1.val A.runs[i].2) (.inl ⟨rfl,by rw [Nat.zero_add];exact congrArg (fun l=>Value.agg (List.toArray l)) (flat_at encR 13 encR_len A.runs i hlt).symm⟩) ?_
   conv=>whnf
   refine Rd.index slRun.u slRun.size rfl (by exact hv2) rfl i rfl hltB ?_
   conv=>whnf
   refine Rd.load tbE_ok rfl rfl wB.runs hv2 rfl (by show 0+i*13+13≤B.runs.length*13;omega) (B.runs[i].1.val B.runs[i].2) (.inl ⟨rfl,by rw [Nat.zero_add];exact congrArg (fun l=>Value.agg (List.toArray l)) (flat_at encR 13 encR_len B.runs i hltB).symm⟩) ?_
   have hB:=wB.each i hltB
   rw [hsame] at hB ⊢
   conv=>whnf
   refine(lvRun_same A.runs[i].1 A.runs[i].2 B.runs[i].2 (hAs.each _ (pure_mem hlt)) h7 (wA.each i hlt) hB).mono ?_
   rintro r h7 ⟨rfl,rfl⟩
   conv=>whnf
   refine⟨Hp.le_refl _,?_⟩
   conv=>whnf
   refine⟨fun h3=>absurd h3 (by simp),fun _=>?_⟩
   conv=>whnf
   have hwi:IntKind.i64.wrap ((i:Int)+1)=((i+1:Nat):Int):=by rw [wrapN _ (by omega) (by omega)];omega
   rw [hwi]
   exact W.back (ih (i+1) _ ⟨hlt,rfl⟩ (by omega)) [] (by exact⟨rfl,rfl,rfl,trivial⟩) rfl rfl
  ·refine⟨fun _=>?_,fun e=>absurd e (by show ¬(A.sent==B.sent)=false;rw [hse'];simp)⟩
   conv=>whnf
   refine⟨fun _=>?_,fun e=>absurd e (by show ¬(A.lost==B.lost)=false;rw [hlo'];simp)⟩
   conv=>whnf
   refine⟨congrArg Value.bool ?_,hle6⟩
   show ((A.queue.length:Int)==(B.queue.length:Int))=true
   rw [hqu'];simp
theorem walk (a0:Option Addr) (len0 cap0:Nat) (a1:Option Addr) (len1 cap1:Nat) (w:World) (h0:Eld.Code0 w a0 len0 cap0) (_:Eld.Code0 w a1 len1 cap1):Calls Tryz.prog 5 #[.slice a0 len0 cap0,.slice a1 len1 cap1] w fun e w'=>e=.returned (.bool true)∧Below w.heap.size w w':=by
 obtain⟨cb,hc,hi⟩:=code_in h0
 exact((law a0 len0 cap0 a1 len1 cap1 cb hc).run w hi).mono fun e w' ⟨v,h',he,hy,hi',hf⟩=>yes_below hi hi' hf he hy
set_option maxRecDepth 20000 in
theorem contract (H:Type) (enc:TypeId×Value→H) (W:World) (base:Nat) (args:Array Value) (ds gs:List (DataW H)) (before:List MemPlace)
  (hval:∀(j:Nat) t v,Tryz.f5.params[j]?=some t→args[j]?=some v→Value.okWide Tryz.prog W .any base t v)
  (hW:DataW.Whole enc Tryz.prog Tryz.f5.params.toList Rows.fnGiveTwoSpec.vars false W args.toList ds gs before) (_hL:laidMetH Tryz.prog Rows.fnGiveTwoRow.laid W) :
  Calls Tryz.prog 5 args W fun e W'=>∃v,e=.returned v∧Rows.fnGiveTwoSpec.post enc Tryz.prog Tryz.f5 false true false false W args v W':=by
 have hW':=hW
 obtain⟨p,q,hA0,hV,rfl,hfz,hnd⟩:=hW
 have hA:DataW.TrodAll enc Tryz.prog W 0 (fun _=>true) true Tryz.f5.params.toList args.toList ds p:=hA0
 rw [Tryz.params5] at hA hval
 obtain⟨v0,vs0,d0,ds0,p0,q0,hargs,rfl,rfl,h0,r0⟩:=trodAll_cons hA
 obtain⟨v1,vs1,d1,ds1,p1,q1,rfl,rfl,rfl,h1,r1⟩:=trodAll_cons r0
 obtain⟨rfl,rfl,rfl⟩:=trodAll_nil r1
 obtain rfl:args=#[v0,v1]:=by cases args;simp_all
 obtain⟨rfl,rfl⟩:=trodVars_none hV
 obtain⟨a0,len0,cap0,rfl⟩:=okWide_slice Tryz.underlying22 (hval 0 22 v0 rfl rfl)
 have k0:=h0
 have lt0:∀x∈p0,x.block<W.heap.size:=by obtain⟨m,hm⟩:=k0;exact DataW.trod_lt m _ _ _ hm
 have w0:Eld.Code0 W a0 len0 cap0:=by
  obtain⟨fuel,hf⟩:=h0
  rcases open_ints Tryz.underlying22 Tryz.underlying5 (by kernel_rfl) hf with ⟨hcs,_⟩ | ⟨x,l,c,zs,hcs,_,hl,hm,hz,_,hcell,hwz⟩
  ·simp [Value.cells] at hcs
   obtain⟨rfl,rfl,rfl⟩:=hcs
   exact Eld.code_of_row (zs:=[]) (.inl ⟨rfl,rfl,rfl,rfl⟩)
  ·simp [Value.cells] at hcs
   obtain⟨rfl,rfl,rfl⟩:=hcs
   exact Eld.code_of_row (zs:=zs) (.inr ⟨_,rfl,hl,hm,by simpa using hz,hcell,hwz⟩)
 obtain⟨a1,len1,cap1,rfl⟩:=okWide_slice Tryz.underlying22 (hval 1 22 v1 rfl rfl)
 have k1:=h1
 have lt1:∀x∈p1,x.block<W.heap.size:=by obtain⟨m,hm⟩:=k1;exact DataW.trod_lt m _ _ _ hm
 have w1:Eld.Code0 W a1 len1 cap1:=by
  obtain⟨fuel,hf⟩:=h1
  rcases open_ints Tryz.underlying22 Tryz.underlying5 (by kernel_rfl) hf with ⟨hcs,_⟩ | ⟨x,l,c,zs,hcs,_,hl,hm,hz,_,hcell,hwz⟩
  ·simp [Value.cells] at hcs
   obtain⟨rfl,rfl,rfl⟩:=hcs
   exact Eld.code_of_row (zs:=[]) (.inl ⟨rfl,rfl,rfl,rfl⟩)
  ·simp [Value.cells] at hcs
   obtain⟨rfl,rfl,rfl⟩:=hcs
   exact Eld.code_of_row (zs:=zs) (.inr ⟨_,rfl,hl,hm,by simpa using hz,hcell,hwz⟩)
 clear hA0
 refine(walk a0 len0 cap0 a1 len1 cap1 W w0 w1).mono fun e W' ⟨he,bel⟩=>?_
 subst he
 exact⟨_,rfl,_,_,_,[],_,[],hW',trodAll_mk1 (shut_bool Tryz.underlying4 _),(trodAll_cons_mk (Below.trod laidOut (by kernel_rfl) (of_decide_eq_true (by kernel_rfl)) k0 bel lt0) (trodAll_cons_mk (Below.trod laidOut (by kernel_rfl) (of_decide_eq_true (by kernel_rfl)) k1 bel lt1) trodAll_mk0)),rfl,bel.frame _,fun h=>by cases h⟩
theorem laid_met (os:Os):laidMet Tryz.prog Rows.fnGiveTwoRow.laid ((Eld.putAll (World.settled Tryz.prog os).heap.size (World.holding Tryz.prog os ⟨Eld.errBlocks,#[],[]⟩)).forCall (fun _ _=>0) ⟨#[],#[.slice none 0 0,.slice none 0 0],[]⟩).memory :=
 laidMet_of_run' 10 (by kernel_rfl) (by kernel_rfl)
theorem reads (os:Os) {H:Type} (enc:TypeId×Value→H):∃places,DataW.whole enc Tryz.prog ((Eld.putAll (World.settled Tryz.prog os).heap.size (World.holding Tryz.prog os ⟨Eld.errBlocks,#[],[]⟩)).forCall (fun _ _=>0) ⟨#[],#[.slice none 0 0,.slice none 0 0],[]⟩).memory Tryz.f5.params.toList Rows.fnGiveTwoSpec.vars false #[.slice none 0 0,.slice none 0 0].toList 8=some ([.nil,.nil],[],places) :=
 ⟨[],by kernel_rfl⟩
set_option maxRecDepth 100000 in
theorem lifted (os:Os) (started:os.Started) (H:Type) (enc:TypeId×Value→H) (F:Stop.Interp) :
  ReturnsInHanded {} Tryz.checked os 5 .any ((OpenSpec.ofChange Rows.fnGiveTwoSpec).preRow enc Tryz.prog Tryz.f5 Rows.fnGiveTwoRow.domain false Rows.fnGiveTwoRow.laid) (((OpenSpec.ofChange Rows.fnGiveTwoSpec).at F).post enc Tryz.prog Tryz.f5 false true false false):=by
 obtain⟨places,hx⟩:=reads os enc
 refine returnsInHanded_of_row (C:=Tryz.checked) (s:=OpenSpec.ofChange Rows.fnGiveTwoSpec) own started (by kernel_rfl) Tryz.func5
  (witness_row_atRef (enc:=enc) (C:=Tryz.checked) false (Eld.putAll (World.settled Tryz.prog os).heap.size (World.holding Tryz.prog os ⟨Eld.errBlocks,#[],[]⟩)) #[.slice none 0 0,.slice none 0 0] rfl (by kernel_rfl) (by kernel_rfl) (by kernel_rfl)
   (OpenSpec.preRow_of_cond 8 hx (by kernel_rfl) (fun k hk=>by cases hk) (by kernel_rfl) (laid_met os))) ?_
 intro W base args ds gs before hval hW _ _ _ hL _ _
 exact contract H enc W base args ds gs before hval hW hL
set_option maxRecDepth 100000 in
theorem said:Rows.FnGiveTwoSaid :=
 OpenClaim.holds_of_cond 5 Tryz.f5 rfl rfl rfl rfl rfl rfl rfl ⟨rfl,rfl,rfl,rfl,rfl⟩ rfl rfl rfl rfl rfl (by kernel_rfl) Tryz.func5 FcFnGiveTwo.closed
  (of_decide_eq_true (by kernel_rfl)) (by unfold Func.isWrapper;first | (rw [if_pos (by decide +kernel)];kernel_rfl) | (rw [if_neg (by decide +kernel)];exact⟨rfl,rfl⟩))
  (fun os started H enc _ F=>by rw [OpenClaim.pre_eq_preRow];exact lifted os started H enc F)
theorem plain (f:FuncId) (fn:Func) (hf:Tryz.pinned.checked.prog.funcNamed Rows.fnGiveTwoRow.func=some f) (hfn:Tryz.pinned.checked.prog.funcs[f]?=some fn) :
  true=Tryz.pinned.checked.prog.looks []∧∀(j:Nat) t,fn.params[j]?=some t→Tryz.pinned.checked.prog.wantsStandIn t=false:=by
 obtain rfl:f=5:=Option.some.inj ((show Tryz.prog.funcNamed Rows.fnGiveTwoRow.func=some 5 by kernel_rfl).symm.trans hf) |>.symm
 obtain rfl:fn=Tryz.f5:=(Option.some.inj (Tryz.func5.symm.trans hfn)).symm
 refine⟨by kernel_rfl,fun j t ht=>?_⟩
 rw [Tryz.params5] at ht
 obtain rfl:t=22:=by simpa using Array.mem_of_getElem? ht
 exact(show Tryz.prog.wantsStandIn 22=false by kernel_rfl)
theorem card:Rows.FnGiveTwoCardSaid :=
 Claim7.holds_tied_plain_at .later [] _ _ _ _ said (fun _ h=>by cases h) (by kernel_rfl) (fun _ h=>by cases h) fnGiveTwo_row_tie rfl ⟨rfl,rfl⟩ (by kernel_rfl) rfl plain (by kernel_rfl)
end FnGiveTwo
theorem fnGiveTwo_holds:Rows.FnGiveTwoCardSaid:=FnGiveTwo.card
#print axioms fnGiveTwo_holds
end Go.Proofs.YtllbeifcipefjaaGreatDoor
