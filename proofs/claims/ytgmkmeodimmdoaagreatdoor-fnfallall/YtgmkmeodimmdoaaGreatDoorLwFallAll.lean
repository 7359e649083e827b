import Derived.Test.YtgmkmeodimmdoaaGreatDoorARexFv
import Derived.Test.YtgmkmeodimmdoaaGreatDoorAEFrameN
import Derived.Test.YtgmkmeodimmdoaaGreatDoorAFcFnFallAll
set_option maxRecDepth 100000
namespace Go.Proofs.YtgmkmeodimmdoaaGreatDoor
open Go.ChangeShapes Go.WideShapes Go.ChangeAt Go.RowKit Go.Joins
set_option maxRecDepth 100000
namespace FnFallAll
theorem Rd.loadWhy {o:Oper} {y:Operand} (ho:o.op=.load 32 y) {ev:Operand→Value} {h:Hp} {K:Value→Prop} {D:WD} (hr:RowOk h (rowR D.rv D.runs)) {g:Nat} (hv:D.rv=.slice (some ⟨g,0,none⟩) D.runs.length D.rk) {i:Nat} (hi:i<D.runs.length) (hy:ev y=.pointer (some ⟨g,0+i*13+10,none⟩)) (k:K (.agg #[.int .i64 D.runs[i].1.wk,.int .i64 D.runs[i].1.wn])):Rd Tryz.prog (execOp ev o) h K :=
 Rd.load tbE_ok rfl ho hr hv hy (by show 0+i*13+10+2≤D.runs.length*13;omega) (.agg #[.int .i64 D.runs[i].1.wk,.int .i64 D.runs[i].1.wn]) (.inl ⟨rfl,by
  have e:=congrArg (fun l=>(l.drop 10).take 2) (flat_at encR 13 encR_len D.runs i hi);simp only [List.drop_take,List.drop_drop,List.take_take] at e;rw [Nat.zero_add];exact(congrArg (fun l=>Value.agg (List.toArray l)) e).symm⟩) k
theorem law (a:Option Addr) (len cap:Nat) (cb:Option (Nat×Obj)) (hc:CodeIn a len cap cb) :
  Con Tryz.prog 4 #[.slice a len cap] (cbHp cb) (Yes cb):=by
 refine Con.of_W (tb:=tbF) (args:=[.slice a len cap]) Tryz.func4 rfl Tryz.results4 Tryz.ntmps4 (by simp) (Tryz.call4 _) (tm:=[(0,.v (.slice a len cap))]) rfl ?_;refine vc_ok ⟨tbF_ok,_,Tryz.func4,Tryz.results4,Tryz.ntmps4⟩ 400 _ _ _ _ ?_;conv=>whnf
 refine Ext.len Tryz.underlying22 rfl rfl ?_;conv=>whnf
 refine⟨fun _=>?_,fun _=>?_⟩<;>conv=>whnf
 ·exact⟨rfl,Hp.le_refl _⟩
 have ho:Own (cbHp cb) (cbAtoms cb++[]):=by rw [List.append_nil];exact cb_own cb
 refine(drawFallEnd_con a len cap cb hc _ [] ho).mono ?_;rintro r h1 ⟨D,id,v,rfl,hd,hid1,hid2,hv2,hvn0,hvn1,ho1⟩;replace ho1:Own h1 (wAtoms D++cbAtoms cb):=by have:=ho1.turnL;rw [List.append_nil] at this;exact this
 have hsm:=hd.sm;have hlp:=pure_len D;have hfew:=hd.few;conv=>whnf
 refine(iFallEnd_con D hsm hd.why id v h1 _ ho1).mono ?_;rintro r h2 ⟨E,rfl,hE,ho2⟩;conv=>whnf
 refine W.cut [(6,.p 2 0),(4,.v (.int .i64 id)),(5,.p 1 0),(3,.p 0 0)] _ [] ⟨rfl,rfl,rfl,rfl,trivial⟩ (List.append_nil _).symm rfl ⟨_,rfl⟩ ?_;refine W.draw [(0,true),(1,true),(2,true),(3,true),(4,false),(5,false),(6,true),(7,true),(8,true),(9,false),(10,true),(11,true),(12,true),(13,true),(14,false),(15,true),(16,true),(17,true),(18,true),(19,true),(20,false),(21,true),(22,true),(23,true),(24,true),(25,true),(26,false),(27,true),(28,true)] [0,1,2] none 99 (by kernel_rfl) rfl (by kernel_rfl) mixed rfl (fun g e=>by cases e) ?_;refine vc_ok ⟨tbF_ok,_,Tryz.func4,Tryz.results4,Tryz.ntmps4⟩ 400 _ _ _ _ ?_;conv=>whnf
 refine(sFallEnd_con D hsm id v h2 _ ho2.turnL).mono ?_;rintro r h3 ⟨F,rfl,hF,ho3⟩;conv=>whnf
 have hEF:=hE.one hF;have hEs:=hE.sm hsm;have hlpE:=pure_len E;refine(lvWorld_same E F hEF hEs h3 (ho3.win fun _ hx=>List.mem_append_right _ (List.mem_append_right _ (List.mem_append_left _ hx))) ho3.wL).mono ?_;rintro r h3 ⟨rfl,rfl⟩;conv=>whnf
 replace ho3:Own h3 (wAtoms D++(wAtoms E++cbAtoms cb)):=ho3.dropL;refine⟨fun _=>?_,fun e=>absurd e (by simp)⟩;conv=>whnf
 refine(sWorldOk_con D hsm h3 ho3.wL).mono ?_;rintro r h3 ⟨⟨b,rfl,hb⟩,rfl⟩;conv=>whnf
 refine⟨fun b0=>?_,fun b0=>?_⟩<;>conv=>whnf
 rotate_left
 ·refine W.cut [(6,.p 2 0),(4,.v (.int .i64 id)),(5,.p 1 0),(3,.p 0 0)] _ [] ⟨rfl,rfl,rfl,rfl,trivial⟩ (List.append_nil _).symm rfl ⟨_,rfl⟩ ?_;refine W.draw [(0,true),(1,true),(2,true),(3,true),(4,false),(5,false),(6,true)] [0,1,2] none 99 (by kernel_rfl) rfl (by kernel_rfl) mixed rfl (fun g e=>by cases e) ?_;refine vc_ok ⟨tbF_ok,_,Tryz.func4,Tryz.results4,Tryz.ntmps4⟩ 400 _ _ _ _ ?_;conv=>whnf
  refine(sFallEnd_con D hsm id v h3 _ ho3).mono ?_;rintro r h9 ⟨G,rfl,hG,ho9⟩;conv=>whnf
  refine(lvWorld_same E G (hE.one hG) hEs h9 (ho9.win fun _ hx=>List.mem_append_right _ (List.mem_append_right _ (List.mem_append_left _ hx))) ho9.wL).mono ?_;rintro r h9 ⟨rfl,rfl⟩;conv=>whnf
  exact⟨rfl,cb_leT (ho9.dropL.dropL)⟩
 have hok:WOk D.pure:=hb.1 (by simpa using b0);refine(valOk_con v h3).mono ?_;rintro r h3 ⟨rfl,rfl⟩;conv=>whnf
 refine⟨fun b1=>?_,fun b1=>?_⟩<;>conv=>whnf
 rotate_left
 ·refine W.cut [(6,.p 2 0),(4,.v (.int .i64 id)),(5,.p 1 0),(3,.p 0 0)] _ [] ⟨rfl,rfl,rfl,rfl,trivial⟩ (List.append_nil _).symm rfl ⟨_,rfl⟩ ?_;refine W.draw [(0,true),(1,true),(2,true),(3,true),(4,false),(5,false),(6,true)] [0,1,2] none 99 (by kernel_rfl) rfl (by kernel_rfl) mixed rfl (fun g e=>by cases e) ?_;refine vc_ok ⟨tbF_ok,_,Tryz.func4,Tryz.results4,Tryz.ntmps4⟩ 400 _ _ _ _ ?_;conv=>whnf
  refine(sFallEnd_con D hsm id v h3 _ ho3).mono ?_;rintro r h9 ⟨G,rfl,hG,ho9⟩;conv=>whnf
  refine(lvWorld_same E G (hE.one hG) hEs h9 (ho9.win fun _ hx=>List.mem_append_right _ (List.mem_append_right _ (List.mem_append_left _ hx))) ho9.wL).mono ?_;rintro r h9 ⟨rfl,rfl⟩;conv=>whnf
  exact⟨rfl,cb_leT (ho9.dropL.dropL)⟩
 have hvo:okV v=true:=by simpa using b1
 have hfell:FallE D.pure id v E.pure:=hE.fell hok hvo (by omega);have hok':=hok;obtain⟨hsafe,V,hV,ok⟩:=hok';have h6:=ok.n6;by_cases hin:1≤id∧id≤(D.runs.length:Int);rotate_left
 ·refine(lvStateOut_con D id hin h3).mono ?_;rintro r h3 ⟨rfl,rfl⟩;conv=>whnf
  refine⟨fun e=>absurd e (by decide),fun _=>?_⟩;conv=>whnf
  refine W.cut [(6,.p 2 0),(4,.v (.int .i64 id)),(5,.p 1 0),(3,.p 0 0)] _ [] ⟨rfl,rfl,rfl,rfl,trivial⟩ (List.append_nil _).symm rfl ⟨_,rfl⟩ ?_;refine W.draw [(0,true),(1,true),(2,true),(3,true),(4,false),(5,false),(6,true)] [0,1,2] none 99 (by kernel_rfl) rfl (by kernel_rfl) mixed rfl (fun g e=>by cases e) ?_;refine vc_ok ⟨tbF_ok,_,Tryz.func4,Tryz.results4,Tryz.ntmps4⟩ 400 _ _ _ _ ?_;conv=>whnf
  refine(sFallEnd_con D hsm id v h3 _ ho3).mono ?_;rintro r h9 ⟨G,rfl,hG,ho9⟩;conv=>whnf
  refine(lvWorld_same E G (hE.one hG) hEs h9 (ho9.win fun _ hx=>List.mem_append_right _ (List.mem_append_right _ (List.mem_append_left _ hx))) ho9.wL).mono ?_;rintro r h9 ⟨rfl,rfl⟩;conv=>whnf
  exact⟨rfl,cb_leT (ho9.dropL.dropL)⟩
 obtain⟨i,hid⟩:∃i:Nat,id=(i:Int)+1:=⟨(id-1).toNat,by omega⟩;have hi:i<D.runs.length:=by omega
 have hgi:D.pure.runs[i]'(by omega)=D.runs[i].1:=pure_get D i hi (by omega);have hst:=(ok.run i (by omega)).st;rw [hgi] at hst;refine(lvState_con D i hi (by omega) id hid h3 ho3.wL).mono ?_;rintro r h3 ⟨rfl,rfl⟩;conv=>whnf
 refine⟨fun _=>?_,fun b2=>absurd (show D.runs[i].1.st=0 by simpa using b2) (by omega)⟩;conv=>whnf
 refine(lvState_con D i hi (by omega) id hid h3 ho3.wL).mono ?_;rintro r h3 ⟨rfl,rfl⟩;conv=>whnf
 refine⟨fun b3=>?_,fun b3=>?_⟩<;>conv=>whnf
 ·refine W.cut [(6,.p 2 0),(4,.v (.int .i64 id)),(5,.p 1 0),(3,.p 0 0)] _ [] ⟨rfl,rfl,rfl,rfl,trivial⟩ (List.append_nil _).symm rfl ⟨_,rfl⟩ ?_;refine W.draw [(0,true),(1,true),(2,true),(3,true),(4,false),(5,false),(6,true)] [0,1,2] none 99 (by kernel_rfl) rfl (by kernel_rfl) mixed rfl (fun g e=>by cases e) ?_;refine vc_ok ⟨tbF_ok,_,Tryz.func4,Tryz.results4,Tryz.ntmps4⟩ 400 _ _ _ _ ?_;conv=>whnf
  refine(sFallEnd_con D hsm id v h3 _ ho3).mono ?_;rintro r h9 ⟨G,rfl,hG,ho9⟩;conv=>whnf
  refine(lvWorld_same E G (hE.one hG) hEs h9 (ho9.win fun _ hx=>List.mem_append_right _ (List.mem_append_right _ (List.mem_append_left _ hx))) ho9.wL).mono ?_;rintro r h9 ⟨rfl,rfl⟩;conv=>whnf
  exact⟨rfl,cb_leT (ho9.dropL.dropL)⟩
 have hal:D.runs[i].1.st≠3:=by simpa using b3
 have hsD:D.pure.sent≤3010:=hfew;have hfi:FallE D.pure ((i:Int)+1) v E.pure:=by rw [←hid];exact hfell
 have hst3:D.pure.runs[i].st≠3:=by rw [hgi];simpa using b3
 refine(iFallWith_con D hsm hd.why id h3 _ ho3).mono ?_;rintro r h4 ⟨L,aL,cL,rfl,hL,ho4⟩;have hL6:=hL.len;have hLw:IsWith D.pure ((i:Int)+1) L:=by
  rcases hL with⟨_,k⟩|⟨hno,_⟩
  ·rw [←hid];exact k
  ·exact absurd ⟨⟨hsafe,V,hV,ok⟩,i,by omega,hid,hst3⟩ hno
 conv=>whnf
 refine Ext.eqV rfl rfl rfl ?_;conv=>whnf
 have hwD4:WIn h4 D:=ho4.win fun _ hx=>List.mem_cons_of_mem _ (List.mem_append_left _ hx)
 have hwE4:WIn h4 E:=ho4.win fun _ hx=>List.mem_cons_of_mem _ (List.mem_append_right _ (List.mem_append_left _ hx))
 have hrL:RowOk h4 (rowI (.slice aL L.length cL) L):=ho4.rowOk List.mem_cons_self;obtain⟨eok,ecode,elen,etaken,enow,esent,elost,_⟩:=hfell.oks ok hvo (by omega);have hlE:E.runs.length=D.runs.length:=by omega
 obtain⟨gE,hraE⟩:=row_some hwE4.runs (by have:=ok.n1;omega);refine W.cut [(9,.v (.int .i64 (1:Nat))),(8,.v (.bool (normalP v))),(7,.v (.slice aL L.length cL)),(6,.p 2 0),(5,.p 1 0),(4,.v (.int .i64 id)),(3,.p 0 0)] [⟨27,D.cells⟩,⟨32,[.int .i64 v.1,.int .i64 v.2]⟩,⟨27,E.cells⟩] [] ⟨rfl,rfl,rfl,rfl,rfl,rfl,rfl,trivial⟩ rfl rfl ⟨_,rfl⟩ ?_;refine W.loop (α:=Nat) (fun x=>[(9,.v (.int .i64 (x:Nat))),(8,.v (.bool (normalP v))),(7,.v (.slice aL L.length cL)),(6,.p 2 0),(5,.p 1 0),(4,.v (.int .i64 id)),(3,.p 0 0)]) (fun _=>[⟨27,D.cells⟩,⟨32,[.int .i64 v.1,.int .i64 v.2]⟩,⟨27,E.cells⟩])
  (fun x h'=>1≤x∧x≤D.runs.length+1∧h'=h4) (fun x=>D.runs.length+1-x) ?_ 1 h4 ⟨Nat.le_refl _,by omega,rfl⟩
 rintro k1 h5 ⟨hk1,hk2,rfl⟩ ih;obtain⟨k,rfl⟩:∃k,k1=k+1:=⟨k1-1,by omega⟩;have hwk:IntKind.i64.wrap (((k+1:Nat):Int)+1)=((k+1+1:Nat):Int):=by rw [wrapN _ (by omega) (by omega)];omega
 have hwk0:IntKind.i64.wrap (((k+1:Nat):Int)-1)=(k:Int):=by rw [wrapN _ (by omega) (by omega)];omega
 refine vc_ok ⟨tbF_ok,_,Tryz.func4,Tryz.results4,Tryz.ntmps4⟩ 400 _ _ _ _ ?_;conv=>whnf
 refine⟨fun c=>?_,fun c=>?_⟩<;>conv=>whnf
 rotate_left
 ·refine(iWorldOk_con E hEs hE.why h5 hwE4.wi).mono ?_;rintro r h5 ⟨⟨b5,rfl,hb5⟩,rfl⟩;rw [hb5.2 (hfell.wok hok hvo (by omega))];conv=>whnf
  refine⟨fun _=>?_,fun e=>absurd e (by decide)⟩;conv=>whnf
  refine(lvSum_con E hEs h5 hwE4).mono ?_;rintro r h5 ⟨rfl,rfl⟩;rw [show (E.sent==wr (wr (E.taken+E.lost)+(mailsP E.pure.runs:Int)))=true from eok.sumW];conv=>whnf
  exact⟨rfl,cb_leT ho4.tail.dropL⟩
 have hlt:k<D.runs.length:=by simp at c;omega
 have hltE:k<E.runs.length:=by omega
 have hends:=hfi.ends ok hvo (by omega) (by omega) hst3 hLw k (by omega) (by omega);rw [pure_get D k hlt (by omega),pure_get E k hltE (by omega)] at hends;obtain⟨hiff,hwhy⟩:=hends;refine(lvState_con D k hlt (by omega) _ (by omega) h5 hwD4).mono ?_;rintro r h5 ⟨rfl,rfl⟩;conv=>whnf
 refine(lvState_con E k hltE (by omega) _ (by omega) h5 hwE4).mono ?_;rintro r h5 ⟨rfl,rfl⟩;conv=>whnf
 refine⟨fun c1=>?_,fun c1=>?_⟩<;>conv=>whnf
 rotate_left
 ·have hki:k=i:=by simp at c1;omega
  have hfb:Fell v i L ((k:Int)+1):=.inl (by omega);have hE:(E.runs[k].1.st==3)=true:=beq_iff_eq.2 (hiff.2 (.inr hfb));refine W.cut [(12,.b true),(11,.v (.bool (E.runs[k].1.st==3))),(10,.v (.bool (D.runs[k].1.st==3))),(9,.v (.int .i64 ((k+1:Nat)))),(8,.v (.bool (normalP v))),(7,.v (.slice aL L.length cL)),(6,.p 2 0),(5,.p 1 0),(4,.v (.int .i64 id)),(3,.p 0 0)] [⟨27,D.cells⟩,⟨32,[.int .i64 v.1,.int .i64 v.2]⟩,⟨27,E.cells⟩] [] ⟨rfl,rfl,rfl,rfl,rfl,rfl,rfl,rfl,rfl,rfl,trivial⟩ rfl rfl ⟨_,rfl⟩ ?_;rw [hE];refine W.draw ((List.range 20).map fun i=>(i,true)) [0,1,2] (some h5) 99 (by kernel_rfl) rfl (by kernel_rfl) mixed rfl (fun g e=>by cases e;exact Hp.le_refl _) ?_;rcases Bool.eq_false_or_eq_true (D.runs[k].1.st==3) with hd|hd
  ·rw [hd];refine vc_ok ⟨tbF_ok,_,Tryz.func4,Tryz.results4,Tryz.ntmps4⟩ 400 _ _ _ _ ?_;conv=>whnf
   refine⟨fun e=>absurd e (by decide),fun _=>?_⟩;conv=>whnf
   refine Rd.neqB rfl rfl rfl ?_;conv=>whnf
   refine⟨fun _=>?_,fun e=>absurd e (by decide)⟩;conv=>whnf
   refine Rd.index slRun.u slRun.size rfl (by exact rv_same hraE) rfl k hwk0 hltE ?_;conv=>whnf
   refine FnFallAll.Rd.loadWhy rfl hwE4.runs (rv_same hraE) hltE rfl ?_;conv=>whnf
   refine Rd.neqV rfl rfl rfl ?_;rw [(hwhy hfb).1,(hwhy hfb).2];conv=>whnf
   refine⟨fun e=>absurd e (by simp),fun _=>?_⟩;conv=>whnf
   rw [hwk];exact W.back (ih (k+1+1) h5 ⟨by omega,by omega,rfl⟩ (by omega)) [] (by exact⟨rfl,rfl,rfl,rfl,rfl,rfl,rfl,trivial⟩) rfl rfl
  ·rw [hd];refine vc_ok ⟨tbF_ok,_,Tryz.func4,Tryz.results4,Tryz.ntmps4⟩ 400 _ _ _ _ ?_;conv=>whnf
   refine⟨fun _=>?_,fun e=>absurd e (by decide)⟩;conv=>whnf
   refine Rd.neqB rfl rfl rfl ?_;conv=>whnf
   refine⟨fun _=>?_,fun e=>absurd e (by decide)⟩;conv=>whnf
   refine Rd.index slRun.u slRun.size rfl (by exact rv_same hraE) rfl k hwk0 hltE ?_;conv=>whnf
   refine FnFallAll.Rd.loadWhy rfl hwE4.runs (rv_same hraE) hltE rfl ?_;conv=>whnf
   refine Rd.neqV rfl rfl rfl ?_;rw [(hwhy hfb).1,(hwhy hfb).2];conv=>whnf
   refine⟨fun e=>absurd e (by simp),fun _=>?_⟩;conv=>whnf
   rw [hwk];exact W.back (ih (k+1+1) h5 ⟨by omega,by omega,rfl⟩ (by omega)) [] (by exact⟨rfl,rfl,rfl,rfl,rfl,rfl,rfl,trivial⟩) rfl rfl
 have hki:k≠i:=by simp at c1;omega
 refine⟨fun c2=>?_,fun c2=>?_⟩<;>conv=>whnf
 rotate_left
 ·have hn:normalP v=true:=by simpa using c2
  have hfb:¬Fell v i L ((k:Int)+1):=fun h=>Or.elim h (fun _=>hki (by omega)) (fun e=>absurd (hn.symm.trans e.1) (by decide))
  have hE:(E.runs[k].1.st==3)=(D.runs[k].1.st==3):=Bool.eq_iff_iff.2 (by simp only [beq_iff_eq];exact⟨fun e=>(hiff.1 e).resolve_right hfb,fun e=>hiff.2 (.inl e)⟩);refine W.cut [(12,.b false),(11,.v (.bool (E.runs[k].1.st==3))),(10,.v (.bool (D.runs[k].1.st==3))),(9,.v (.int .i64 ((k+1:Nat)))),(8,.v (.bool (normalP v))),(7,.v (.slice aL L.length cL)),(6,.p 2 0),(5,.p 1 0),(4,.v (.int .i64 id)),(3,.p 0 0)] [⟨27,D.cells⟩,⟨32,[.int .i64 v.1,.int .i64 v.2]⟩,⟨27,E.cells⟩] [] ⟨rfl,rfl,rfl,rfl,rfl,rfl,rfl,rfl,rfl,rfl,trivial⟩ rfl rfl ⟨_,rfl⟩ ?_;rw [hE];refine W.draw ((List.range 20).map fun i=>(i,true)) [0,1,2] (some h5) 99 (by kernel_rfl) rfl (by kernel_rfl) mixed rfl (fun g e=>by cases e;exact Hp.le_refl _) ?_;rcases Bool.eq_false_or_eq_true (D.runs[k].1.st==3) with hd|hd
  ·rw [hd];refine vc_ok ⟨tbF_ok,_,Tryz.func4,Tryz.results4,Tryz.ntmps4⟩ 400 _ _ _ _ ?_;conv=>whnf
   refine⟨fun e=>absurd e (by decide),fun _=>?_⟩;conv=>whnf
   refine Rd.neqB rfl rfl rfl ?_;conv=>whnf
   refine⟨fun _=>?_,fun e=>absurd e (by decide)⟩;conv=>whnf
   rw [hwk];exact W.back (ih (k+1+1) h5 ⟨by omega,by omega,rfl⟩ (by omega)) [] (by exact⟨rfl,rfl,rfl,rfl,rfl,rfl,rfl,trivial⟩) rfl rfl
  ·rw [hd];refine vc_ok ⟨tbF_ok,_,Tryz.func4,Tryz.results4,Tryz.ntmps4⟩ 400 _ _ _ _ ?_;conv=>whnf
   refine⟨fun _=>?_,fun e=>absurd e (by decide)⟩;conv=>whnf
   refine Rd.neqB rfl rfl rfl ?_;conv=>whnf
   refine⟨fun _=>?_,fun e=>absurd e (by decide)⟩;conv=>whnf
   rw [hwk];exact W.back (ih (k+1+1) h5 ⟨by omega,by omega,rfl⟩ (by omega)) [] (by exact⟨rfl,rfl,rfl,rfl,rfl,rfl,rfl,trivial⟩) rfl rfl
 have hn:normalP v=false:=by simpa using c2
 refine(lvAmong_con _ _ _ _ (by omega) h5 hrL).mono ?_;rintro r h5 ⟨rfl,rfl⟩;by_cases hmem:(((k+1:Nat)):Int)∈L
 ·rw [among_mem.2 hmem];conv=>whnf
  have hfb:Fell v i L ((k:Int)+1):=.inr ⟨hn,hmem⟩;have hE:(E.runs[k].1.st==3)=true:=beq_iff_eq.2 (hiff.2 (.inr hfb));refine W.cut [(12,.v (.bool true)),(11,.v (.bool (E.runs[k].1.st==3))),(10,.v (.bool (D.runs[k].1.st==3))),(9,.v (.int .i64 ((k+1:Nat)))),(8,.v (.bool (normalP v))),(7,.v (.slice aL L.length cL)),(6,.p 2 0),(5,.p 1 0),(4,.v (.int .i64 id)),(3,.p 0 0)] [⟨27,D.cells⟩,⟨32,[.int .i64 v.1,.int .i64 v.2]⟩,⟨27,E.cells⟩] [] ⟨rfl,rfl,rfl,rfl,rfl,rfl,rfl,rfl,rfl,rfl,trivial⟩ rfl rfl ⟨_,rfl⟩ ?_;rw [hE];refine W.draw ((List.range 20).map fun i=>(i,true)) [0,1,2] (some h5) 99 (by kernel_rfl) rfl (by kernel_rfl) mixed rfl (fun g e=>by cases e;exact Hp.le_refl _) ?_;rcases Bool.eq_false_or_eq_true (D.runs[k].1.st==3) with hd|hd
  ·rw [hd];refine vc_ok ⟨tbF_ok,_,Tryz.func4,Tryz.results4,Tryz.ntmps4⟩ 400 _ _ _ _ ?_;conv=>whnf
   refine⟨fun e=>absurd e (by decide),fun _=>?_⟩;conv=>whnf
   refine Rd.neqB rfl rfl rfl ?_;conv=>whnf
   refine⟨fun _=>?_,fun e=>absurd e (by decide)⟩;conv=>whnf
   refine⟨fun _=>?_,fun e=>absurd e (by decide)⟩;conv=>whnf
   refine Rd.index slRun.u slRun.size rfl (by exact rv_same hraE) rfl k hwk0 hltE ?_;conv=>whnf
   refine FnFallAll.Rd.loadWhy rfl hwE4.runs (rv_same hraE) hltE rfl ?_;conv=>whnf
   refine Rd.neqV rfl rfl rfl ?_;rw [(hwhy hfb).1,(hwhy hfb).2];conv=>whnf
   refine⟨fun e=>absurd e (by simp),fun _=>?_⟩;conv=>whnf
   rw [hwk];exact W.back (ih (k+1+1) h5 ⟨by omega,by omega,rfl⟩ (by omega)) [] (by exact⟨rfl,rfl,rfl,rfl,rfl,rfl,rfl,trivial⟩) rfl rfl
  ·rw [hd];refine vc_ok ⟨tbF_ok,_,Tryz.func4,Tryz.results4,Tryz.ntmps4⟩ 400 _ _ _ _ ?_;conv=>whnf
   refine⟨fun _=>?_,fun e=>absurd e (by decide)⟩;conv=>whnf
   refine Rd.neqB rfl rfl rfl ?_;conv=>whnf
   refine⟨fun _=>?_,fun e=>absurd e (by decide)⟩;conv=>whnf
   refine⟨fun _=>?_,fun e=>absurd e (by decide)⟩;conv=>whnf
   refine Rd.index slRun.u slRun.size rfl (by exact rv_same hraE) rfl k hwk0 hltE ?_;conv=>whnf
   refine FnFallAll.Rd.loadWhy rfl hwE4.runs (rv_same hraE) hltE rfl ?_;conv=>whnf
   refine Rd.neqV rfl rfl rfl ?_;rw [(hwhy hfb).1,(hwhy hfb).2];conv=>whnf
   refine⟨fun e=>absurd e (by simp),fun _=>?_⟩;conv=>whnf
   rw [hwk];exact W.back (ih (k+1+1) h5 ⟨by omega,by omega,rfl⟩ (by omega)) [] (by exact⟨rfl,rfl,rfl,rfl,rfl,rfl,rfl,trivial⟩) rfl rfl
 ·rw [Bool.eq_false_iff.2 fun e=>hmem (among_mem.1 e)];conv=>whnf
  have hfb:¬Fell v i L ((k:Int)+1):=fun h=>Or.elim h (fun _=>hki (by omega)) (fun e=>hmem e.2)
  have hE:(E.runs[k].1.st==3)=(D.runs[k].1.st==3):=Bool.eq_iff_iff.2 (by simp only [beq_iff_eq];exact⟨fun e=>(hiff.1 e).resolve_right hfb,fun e=>hiff.2 (.inl e)⟩);refine W.cut [(12,.v (.bool false)),(11,.v (.bool (E.runs[k].1.st==3))),(10,.v (.bool (D.runs[k].1.st==3))),(9,.v (.int .i64 ((k+1:Nat)))),(8,.v (.bool (normalP v))),(7,.v (.slice aL L.length cL)),(6,.p 2 0),(5,.p 1 0),(4,.v (.int .i64 id)),(3,.p 0 0)] [⟨27,D.cells⟩,⟨32,[.int .i64 v.1,.int .i64 v.2]⟩,⟨27,E.cells⟩] [] ⟨rfl,rfl,rfl,rfl,rfl,rfl,rfl,rfl,rfl,rfl,trivial⟩ rfl rfl ⟨_,rfl⟩ ?_;rw [hE];refine W.draw ((List.range 20).map fun i=>(i,true)) [0,1,2] (some h5) 99 (by kernel_rfl) rfl (by kernel_rfl) mixed rfl (fun g e=>by cases e;exact Hp.le_refl _) ?_;rcases Bool.eq_false_or_eq_true (D.runs[k].1.st==3) with hd|hd
  ·rw [hd];refine vc_ok ⟨tbF_ok,_,Tryz.func4,Tryz.results4,Tryz.ntmps4⟩ 400 _ _ _ _ ?_;conv=>whnf
   refine⟨fun e=>absurd e (by decide),fun _=>?_⟩;conv=>whnf
   refine Rd.neqB rfl rfl rfl ?_;conv=>whnf
   refine⟨fun _=>?_,fun e=>absurd e (by decide)⟩;conv=>whnf
   refine⟨fun e=>absurd e (by decide),fun _=>?_⟩;conv=>whnf
   rw [hwk];exact W.back (ih (k+1+1) h5 ⟨by omega,by omega,rfl⟩ (by omega)) [] (by exact⟨rfl,rfl,rfl,rfl,rfl,rfl,rfl,trivial⟩) rfl rfl
  ·rw [hd];refine vc_ok ⟨tbF_ok,_,Tryz.func4,Tryz.results4,Tryz.ntmps4⟩ 400 _ _ _ _ ?_;conv=>whnf
   refine⟨fun _=>?_,fun e=>absurd e (by decide)⟩;conv=>whnf
   refine Rd.neqB rfl rfl rfl ?_;conv=>whnf
   refine⟨fun _=>?_,fun e=>absurd e (by decide)⟩;conv=>whnf
   refine⟨fun e=>absurd e (by decide),fun _=>?_⟩;conv=>whnf
   rw [hwk];exact W.back (ih (k+1+1) h5 ⟨by omega,by omega,rfl⟩ (by omega)) [] (by exact⟨rfl,rfl,rfl,rfl,rfl,rfl,rfl,trivial⟩) rfl rfl
theorem walk (a0:Option Addr) (len0 cap0:Nat) (w:World) (h0:Eld.Code0 w a0 len0 cap0):Calls Tryz.prog 4 #[.slice a0 len0 cap0] w fun e w'=>e=.returned (.bool true)∧Below w.heap.size w w':=by
 obtain⟨cb,hc,hi⟩:=code_in h0;exact((law a0 len0 cap0 cb hc).run w hi).mono fun e w' ⟨v,h',he,hy,hi',hf⟩=>yes_below hi hi' hf he hy
theorem contract (H:Type) (enc:TypeId×Value→H) (W:World) (base:Nat) (args:Array Value) (ds gs:List (DataW H)) (before:List MemPlace)
  (hval:∀(j:Nat) t v,Tryz.f4.params[j]?=some t→args[j]?=some v→Value.okWide Tryz.prog W .any base t v)
  (hW:DataW.Whole enc Tryz.prog Tryz.f4.params.toList Rows.fnFallAllSpec.vars false W args.toList ds gs before) (_hL:laidMetH Tryz.prog Rows.fnFallAllRow.laid W) :
  Calls Tryz.prog 4 args W fun e W'=>∃v,e=.returned v∧Rows.fnFallAllSpec.post enc Tryz.prog Tryz.f4 false true false false W args v W':=by
 have hW':=hW;obtain⟨p,q,hA0,hV,rfl,hfz,hnd⟩:=hW;have hA:DataW.TrodAll enc Tryz.prog W 0 (fun _=>true) true Tryz.f4.params.toList args.toList ds p:=hA0;rw [Tryz.params4] at hA hval;obtain⟨v0,vs0,d0,ds0,p0,q0,hargs,rfl,rfl,h0,r0⟩:=trodAll_cons hA;obtain⟨rfl,rfl,rfl⟩:=trodAll_nil r0;obtain rfl:args=#[v0]:=by cases args;simp_all
 obtain⟨rfl,rfl⟩:=trodVars_none hV;obtain⟨a0,len0,cap0,rfl⟩:=okWide_slice Tryz.underlying22 (hval 0 22 v0 rfl rfl);have k0:=h0;have lt0:∀x∈p0,x.block<W.heap.size:=by obtain⟨m,hm⟩:=k0;exact DataW.trod_lt m _ _ _ hm
 have w0:Eld.Code0 W a0 len0 cap0:=by
  obtain⟨fuel,hf⟩:=h0;rcases open_ints Tryz.underlying22 Tryz.underlying5 (by kernel_rfl) hf with⟨hcs,_⟩|⟨x,l,c,zs,hcs,_,hl,hm,hz,_,hcell,hwz⟩
  ·simp [Value.cells] at hcs;obtain⟨rfl,rfl,rfl⟩:=hcs;exact Eld.code_of_row (zs:=[]) (.inl ⟨rfl,rfl,rfl,rfl⟩)
  ·simp [Value.cells] at hcs;obtain⟨rfl,rfl,rfl⟩:=hcs;exact Eld.code_of_row (zs:=zs) (.inr ⟨_,rfl,hl,hm,by simpa using hz,hcell,hwz⟩)
 clear hA0;refine(walk a0 len0 cap0 W w0).mono fun e W' ⟨he,bel⟩=>?_
 subst he;exact⟨_,rfl,_,_,_,[],_,[],hW',trodAll_mk1 (shut_bool Tryz.underlying4 _),(trodAll_cons_mk (Below.trod laidOut (by kernel_rfl) (of_decide_eq_true (by kernel_rfl)) k0 bel lt0) trodAll_mk0),rfl,bel.frame _,fun h=>by cases h⟩
theorem laid_met (os:Os):laidMet Tryz.prog Rows.fnFallAllRow.laid ((Eld.putAll (World.settled Tryz.prog os).heap.size (World.holding Tryz.prog os ⟨Eld.errBlocks,#[],[]⟩)).forCall (fun _ _=>0) ⟨#[],#[.slice none 0 0],[]⟩).memory :=
 laidMet_of_run' 10 (by kernel_rfl) (by kernel_rfl)
theorem reads (os:Os) {H:Type} (enc:TypeId×Value→H):∃places,DataW.whole enc Tryz.prog ((Eld.putAll (World.settled Tryz.prog os).heap.size (World.holding Tryz.prog os ⟨Eld.errBlocks,#[],[]⟩)).forCall (fun _ _=>0) ⟨#[],#[.slice none 0 0],[]⟩).memory Tryz.f4.params.toList Rows.fnFallAllSpec.vars false #[.slice none 0 0].toList 8=some ([.nil],[],places) :=
 ⟨[],by kernel_rfl⟩
theorem lifted (os:Os) (started:os.Started) (H:Type) (enc:TypeId×Value→H) (F:Stop.Interp) :
  ReturnsInHanded {} Tryz.checked os 4 .any ((OpenSpec.ofChange Rows.fnFallAllSpec).preRow enc Tryz.prog Tryz.f4 Rows.fnFallAllRow.domain false Rows.fnFallAllRow.laid) (((OpenSpec.ofChange Rows.fnFallAllSpec).at F).post enc Tryz.prog Tryz.f4 false true false false):=by
 obtain⟨places,hx⟩:=reads os enc;refine returnsInHanded_of_row (C:=Tryz.checked) (s:=OpenSpec.ofChange Rows.fnFallAllSpec) own started (by kernel_rfl) Tryz.func4
  (witness_row_atRef (enc:=enc) (C:=Tryz.checked) false (Eld.putAll (World.settled Tryz.prog os).heap.size (World.holding Tryz.prog os ⟨Eld.errBlocks,#[],[]⟩)) #[.slice none 0 0] rfl (by kernel_rfl) (by kernel_rfl) (by kernel_rfl)
   (OpenSpec.preRow_of_cond 8 hx (by kernel_rfl) (fun k hk=>by cases hk) (by kernel_rfl) (laid_met os))) ?_
 intro W base args ds gs before hval hW _ _ _ hL _ _;exact contract H enc W base args ds gs before hval hW hL
theorem said:Rows.FnFallAllSaid :=
 OpenClaim.holds_of_cond 4 Tryz.f4 rfl rfl rfl rfl rfl rfl rfl ⟨rfl,rfl,rfl,rfl,rfl⟩ rfl rfl rfl rfl rfl (by kernel_rfl) Tryz.func4 FcFnFallAll.closed
  (of_decide_eq_true (by kernel_rfl)) (by unfold Func.isWrapper;first|(rw [if_pos (by decide +kernel)];kernel_rfl)|(rw [if_neg (by decide +kernel)];exact⟨rfl,rfl⟩))
  (fun os started H enc _ F=>by rw [OpenClaim.pre_eq_preRow];exact lifted os started H enc F)
theorem plain (f:FuncId) (fn:Func) (hf:Tryz.pinned.checked.prog.funcNamed Rows.fnFallAllRow.func=some f) (hfn:Tryz.pinned.checked.prog.funcs[f]?=some fn) :
  true=Tryz.pinned.checked.prog.looks []∧∀(j:Nat) t,fn.params[j]?=some t→Tryz.pinned.checked.prog.wantsStandIn t=false:=by
 obtain rfl:f=4:=Option.some.inj ((show Tryz.prog.funcNamed Rows.fnFallAllRow.func=some 4 by kernel_rfl).symm.trans hf) |>.symm;obtain rfl:fn=Tryz.f4:=(Option.some.inj (Tryz.func4.symm.trans hfn)).symm;refine⟨by kernel_rfl,fun j t ht=>?_⟩;rw [Tryz.params4] at ht;obtain rfl:t=22:=by simpa using Array.mem_of_getElem? ht
 exact(show Tryz.prog.wantsStandIn 22=false by kernel_rfl)
theorem card:Rows.FnFallAllCardSaid :=
 Claim7.holds_tied_plain_at .later [] _ _ _ _ said (fun _ h=>by cases h) (by kernel_rfl) (fun _ h=>by cases h) fnFallAll_row_tie rfl ⟨rfl,rfl⟩ (by kernel_rfl) rfl plain (by kernel_rfl)
end FnFallAll
theorem fnFallAll_holds:Rows.FnFallAllCardSaid:=FnFallAll.card
#print axioms fnFallAll_holds
end Go.Proofs.YtgmkmeodimmdoaaGreatDoor
