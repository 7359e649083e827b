import Derived.Test.YtgmkmeodimmdoaaGreatDoorMTe
import Derived.Test.YtgmkmeodimmdoaaGreatDoorMSm
import Derived.Test.YtgmkmeodimmdoaaGreatDoorMSj
import Derived.Test.YtgmkmeodimmdoaaGreatDoorMEFrameN
import Derived.Test.YtgmkmeodimmdoaaGreatDoorMFcFnFallWith
namespace Go.Proofs.YtgmkmeodimmdoaaGreatDoor
open Go.ChangeShapes Go.WideShapes Go.ChangeAt Go.RowKit Go.Joins
set_option maxRecDepth 100000
namespace FnFallWith
theorem Rd.loadRun {o:Oper} {y:Operand} (ho:o.op=.load 34 y) {ev:Operand→Value} {h:Hp} {K:Value→Prop} {D:WD} (hr:RowOk h (rowR D.rv D.runs)) {g:Nat} (hv:D.rv=.slice (some ⟨g,0,none⟩) D.runs.length D.rk) {i:Nat} (hi:i<D.runs.length) (hy:ev y=.pointer (some ⟨g,0+i*13,none⟩)) (k:K (D.runs[i].1.val D.runs[i].2)):Rd Tryz.prog (execOp ev o) h K :=
 Rd.load tbE_ok rfl ho hr hv hy (by show 0+i*13+13≤D.runs.length*13;omega) (D.runs[i].1.val D.runs[i].2) (.inl ⟨rfl,by rw [Nat.zero_add];exact congrArg (fun l=>Value.agg (List.toArray l)) (flat_at encR 13 encR_len D.runs i hi).symm⟩) k
theorem law (a:Option Addr) (len cap:Nat) (cb:Option (Nat×Obj)) (hc:CodeIn a len cap cb) :
  Con Tryz.prog 8 #[.slice a len cap] (cbHp cb) (Yes cb):=by
 refine Con.of_W (tb:=tbF) (args:=[.slice a len cap]) Tryz.func8 rfl Tryz.results8 Tryz.ntmps8 (by simp) (Tryz.call8 _) (tm:=[(0,.v (.slice a len cap))]) rfl ?_;refine vc_ok ⟨tbF_ok,_,Tryz.func8,Tryz.results8,Tryz.ntmps8⟩ 400 _ _ _ _ ?_;conv=>whnf
 refine Ext.len Tryz.underlying22 rfl rfl ?_;conv=>whnf
 refine⟨fun _=>?_,fun _=>?_⟩<;>conv=>whnf
 ·exact⟨rfl,Hp.le_refl _⟩
 have ho:Own (cbHp cb) (cbAtoms cb++[]):=by rw [List.append_nil];exact cb_own cb
 refine(drawFallWith_con a len cap cb hc _ [] ho).mono ?_;rintro r h1 ⟨D,id,rfl,hd,hid1,hid2,ho1⟩;replace ho1:Own h1 (wAtoms D++cbAtoms cb):=by have:=ho1.turnL;rw [List.append_nil] at this;exact this
 have hsm:=hd.sm;have hlp:=pure_len D;conv=>whnf
 refine(iFallWith_con D hsm hd.why id h1 _ ho1).mono ?_;rintro r h2 ⟨L,aL,cL,rfl,hL,ho2⟩;have hL6:=hL.len;conv=>whnf
 refine(sFallWith_con D hsm id h2 _ (ho2.perm (List.perm_middle (l₁:=wAtoms D)).symm)).mono ?_;rintro r h3 ⟨M,aM,cM,rfl,hM,ho3⟩;have hLM:=hL.one hM;subst hLM;conv=>whnf
 have hw3:WIn h3 D:=ho3.win fun _ hx=>List.mem_cons_of_mem _ (List.mem_append_left _ hx)
 have hr1:RowOk h3 (rowI (.slice aM L.length cM) L):=ho3.rowOk List.mem_cons_self;have hr2:RowOk h3 (rowI (.slice aL L.length cL) L):=ho3.rowOk (List.mem_cons_of_mem _ (List.mem_append_right _ List.mem_cons_self));refine(lvInts_con aL aM cL cM L L (by omega) h3 hr2 hr1).mono ?_;rintro r h3 ⟨rfl,rfl⟩;rw [decide_eq_true (rfl:L=L)];conv=>whnf
 refine⟨fun _=>?_,fun e=>absurd e (by decide)⟩;conv=>whnf
 refine⟨fun b0=>?_,fun b0=>?_⟩<;>conv=>whnf
 ·refine(sFallWith_con D hsm id h3 _ ho3.tail).mono ?_;rintro r h4 ⟨N,aN,cN,rfl,hN,ho4⟩;have hLN:=hL.one hN;subst hLN;conv=>whnf
  have hq1:RowOk h4 (rowI (.slice aN L.length cN) L):=ho4.rowOk List.mem_cons_self;have hq2:RowOk h4 (rowI (.slice aL L.length cL) L):=ho4.rowOk (List.mem_cons_of_mem _ (List.mem_append_right _ List.mem_cons_self));refine(lvInts_con aL aN cL cN L L (by omega) h4 hq2 hq1).mono ?_;rintro r h4 ⟨rfl,rfl⟩;rw [decide_eq_true (rfl:L=L)];conv=>whnf
  exact⟨rfl,cb_leT (l:=[_]) (ho4.tail).dropL⟩
 replace ho3:=ho3.tail;have hne:L≠[]:=fun e=>by rw [e] at b0;cases b0
 rcases hL with ⟨⟨⟨hsafe,V,hV,ok⟩,m0,hm0,hide,hst0⟩,hw⟩ | ⟨_,e⟩
 rotate_left
 ·exact absurd e hne
 subst hide;have h6:=ok.n6;have hm:m0<D.runs.length:=by omega
 have hidr:1≤(m0:Int)+1∧(m0:Int)+1≤(D.pure.runs.length:Int):=by omega
 obtain⟨gr,hra⟩:=row_some hw3.runs (by omega);obtain⟨gl,rfl⟩:=row_some hr2 (List.length_pos_iff.2 hne);refine W.cut [(6,.v (.int .i64 (0:Nat))),(5,.v (.slice (some ⟨gl,0,none⟩) L.length cL)),(4,.v (.int .i64 ((m0:Int)+1))),(3,.p 0 0)] [⟨27,D.cells⟩] [] ⟨rfl,rfl,rfl,rfl,trivial⟩ rfl rfl ⟨_,rfl⟩ ?_;have hst0':D.pure.runs[m0].st≠3:=hst0;refine W.loop (α:=Nat) (fun x=>[(6,.v (.int .i64 (x:Nat))),(5,.v (.slice (some ⟨gl,0,none⟩) L.length cL)),(4,.v (.int .i64 ((m0:Int)+1))),(3,.p 0 0)]) (fun _=>[⟨27,D.cells⟩])
  (fun x h'=>x≤L.length∧Own h' (wAtoms D++(.row (rowI (.slice (some ⟨gl,0,none⟩) L.length cL) L)::cbAtoms cb))) (fun x=>L.length-x) ?_ 0 h3 ⟨Nat.zero_le _,ho3⟩
 rintro i h5 ⟨hi,ho5⟩ ih;have hwi:IntKind.i64.wrap ((i:Int)+1)=((i+1:Nat):Int):=by rw [wrapN _ (by omega) (by omega)];omega
 have hr5:RowOk h5 (rowI (.slice (some ⟨gl,0,none⟩) L.length cL) L):=ho5.rowOk (List.mem_append_right _ List.mem_cons_self);have hw5:WIn h5 D:=ho5.win fun _ hx=>List.mem_append_left _ hx
 refine vc_ok ⟨tbF_ok,_,Tryz.func8,Tryz.results8,Tryz.ntmps8⟩ 400 _ _ _ _ ?_;conv=>whnf
 refine⟨fun c=>?_,fun c=>?_⟩<;>conv=>whnf
 rotate_left
 ·refine(lvAmong_con _ _ _ _ (by omega) h5 hr5).mono ?_;rintro r h6 ⟨rfl,rfl⟩;rw [among_mem.2 ((hw.mem _).2 Reach.self)];conv=>whnf
  exact⟨rfl,cb_leT (l:=[_]) ho5.dropL⟩
 have hlt:i<L.length:=by simp at c;omega
 have hxL:L[i]∈L:=List.getElem_mem hlt;have hx:=(hw.mem _).1 hxL;have hxr:=hx.rng ok hidr;obtain⟨m,hLm⟩:∃m:Nat,L[i]=(m:Int)+1:=⟨(L[i]-1).toNat,by omega⟩;have hmm:m<D.runs.length:=by omega
 have hwm:IntKind.i64.wrap (L[i]-1)=(m:Int):=by rw [wrapN _ (by omega) (by omega)];omega
 have hpm:=pure_get D m hmm (by omega);have hrun:=ok.run m (by omega);rw [hpm] at hrun;have hlk6:D.runs[m].1.links.length≤6:=nodup_len 6 _ hrun.l2 fun x hx=>(hrun.l1 x hx).1
 have hst:D.runs[m].1.st≠3:=by
  have:=Reach.alive ok hm0 hst0' (m:=m) (by omega) (hLm ▸ hx)
  rwa [hpm] at this
 refine W.draw [(0,true),(1,true),(2,true),(3,true),(4,true),(5,true),(6,true),(7,true),(8,true),(9,false),(10,false)] [0] (some h5) 99 (by kernel_rfl) rfl (by kernel_rfl) mixed rfl (fun g e=>by cases e;exact Hp.le_refl _) ?_;refine vc_ok ⟨tbF_ok,_,Tryz.func8,Tryz.results8,Tryz.ntmps8⟩ 400 _ _ _ _ ?_;conv=>whnf
 refine Rd.index slInt.u slInt.size rfl rfl rfl i rfl hlt ?_;conv=>whnf
 refine Rd.loadInt rfl hr5 rfl hlt rfl ?_;conv=>whnf
 refine Rd.index slRun.u slRun.size rfl (by exact rv_same hra) rfl m hwm hmm ?_;conv=>whnf
 refine FnFallWith.Rd.loadRun rfl hw5.runs (rv_same hra) hmm rfl ?_;conv=>whnf
 refine W.cut [(8,.v (.int .i64 (0:Nat))),(7,.p 1 0),(6,.v (.int .i64 (i:Nat))),(5,.v (.slice (some ⟨gl,0,none⟩) L.length cL)),(4,.v (.int .i64 ((m0:Int)+1))),(3,.p 0 0)] [⟨27,D.cells⟩,⟨34,D.runs[m].1.cells D.runs[m].2⟩] [] ⟨rfl,rfl,rfl,rfl,rfl,rfl,trivial⟩ rfl rfl ⟨_,rfl⟩ ?_;refine W.loop (α:=Nat) (fun x=>[(8,.v (.int .i64 (x:Nat))),(7,.p 1 0),(6,.v (.int .i64 (i:Nat))),(5,.v (.slice (some ⟨gl,0,none⟩) L.length cL)),(4,.v (.int .i64 ((m0:Int)+1))),(3,.p 0 0)]) (fun _=>[⟨27,D.cells⟩,⟨34,D.runs[m].1.cells D.runs[m].2⟩])
  (fun x h'=>x≤D.runs[m].1.links.length∧h'=h5) (fun x=>D.runs[m].1.links.length-x) ?_ 0 h5 ⟨Nat.zero_le _,rfl⟩
 rintro j h6' ⟨hj,rfl⟩ ih2;have hrl:=(hw5.each m hmm).r2;have hwj1:IntKind.i64.wrap ((j:Int)+1)=((j+1:Nat):Int):=by rw [wrapN _ (by omega) (by omega)];omega
 refine vc_ok ⟨tbF_ok,_,Tryz.func8,Tryz.results8,Tryz.ntmps8⟩ 400 _ _ _ _ ?_;conv=>whnf
 refine⟨fun c1=>?_,fun c1=>?_⟩<;>conv=>whnf
 ·have hjl:j<D.runs[m].1.links.length:=by simp at c1;omega
  obtain⟨gk,hla⟩:=row_some hrl (by omega);have hxk:D.runs[m].1.links[j]∈D.pure.runs[m].links:=by rw [hpm];exact List.getElem_mem _
  have hko:=ok.linked m (by omega) hxk;obtain⟨n,hn⟩:∃n:Nat,D.runs[m].1.links[j]=(n:Int)+1:=⟨(D.runs[m].1.links[j]-1).toNat,by omega⟩;have hnl:n<D.runs.length:=by omega
  have hwn2:IntKind.i64.wrap (D.runs[m].1.links[j]-1)=(n:Int):=by rw [wrapN _ (by omega) (by omega)];omega
  have htr:trapAt D.pure D.runs[m].1.links[j]=D.runs[n].1.trap:=by
   rw [hn,trapAt_eq (by omega),pure_get D n hnl (by omega)]
  have hback:=ih2 (j+1) h6' ⟨hjl,rfl⟩ (by omega);refine W.draw [(0,true),(1,true),(2,true),(3,true),(4,true),(5,true),(6,true),(7,true),(8,true),(9,true),(10,true),(11,true),(12,true),(13,true),(14,true),(15,true),(16,true),(17,true),(18,true),(19,false),(20,true),(21,true)] [0,1] (some h6') 99 (by kernel_rfl) rfl (by kernel_rfl) mixed rfl (fun g e=>by cases e;exact Hp.le_refl _) ?_;refine vc_ok ⟨tbF_ok,_,Tryz.func8,Tryz.results8,Tryz.ntmps8⟩ 400 _ _ _ _ ?_;conv=>whnf
  refine Rd.index slInt.u slInt.size rfl (by show Value.slice D.runs[m].2.a2 _ _=_;rw [hla]) rfl j rfl hjl ?_;conv=>whnf
  refine Rd.loadInt rfl hrl (by show Value.slice D.runs[m].2.a2 _ _=_;rw [hla]) hjl rfl ?_;conv=>whnf
  refine Rd.index slRun.u slRun.size rfl (by exact rv_same hra) rfl n hwn2 hnl ?_;conv=>whnf
  refine Rd.loadRunCell (D:=D) rfl ⟨rfl,rfl⟩ rfl hw5.runs (rv_same hra) hnl 9 (by omega) rfl (.bool D.runs[n].1.trap) rfl ?_;conv=>whnf
  refine⟨fun c2=>?_,fun c2=>?_⟩<;>conv=>whnf
  ·have htf:trapAt D.pure D.runs[m].1.links[j]=false:=by rw [htr];simpa using c2
   refine Rd.index slInt.u slInt.size rfl (by show Value.slice D.runs[m].2.a2 _ _=_;rw [hla]) rfl j rfl hjl ?_;conv=>whnf
   refine Rd.loadInt rfl hrl (by show Value.slice D.runs[m].2.a2 _ _=_;rw [hla]) hjl rfl ?_;conv=>whnf
   refine(lvAmong_con _ _ _ _ (by omega) h6' hr5).mono ?_;rintro r h7 ⟨rfl,rfl⟩;refine⟨Hp.le_refl _,?_⟩;rw [among_mem.2 ((hw.mem _).2 (Reach.closed m (by omega) (hLm ▸ hx) _ hxk htf))];conv=>whnf
   refine⟨fun e=>absurd e (by decide),fun _=>?_⟩;conv=>whnf
   rw [hwj1];exact W.back hback [] (by exact⟨rfl,rfl,rfl,rfl,rfl,rfl,trivial⟩) rfl rfl
  ·rw [hwj1];exact W.back hback [] (by exact⟨rfl,rfl,rfl,rfl,rfl,rfl,trivial⟩) rfl rfl
 refine Ext.index slInt.u slInt.size rfl rfl rfl i rfl hlt ?_;conv=>whnf
 refine Ext.loadInt rfl hr5 rfl hlt rfl ?_;conv=>whnf
 have hwm0:IntKind.i64.wrap (((m0:Int)+1)-1)=(m0:Int):=by rw [wrapN _ (by omega) (by omega)];omega
 have hmild:L[i]≠(m0:Int)+1→D.runs[m].1.trap=false:=fun e=>by
  have:=hx.mild.resolve_left e;rw [hLm,trapAt_eq (by omega),hpm] at this;exact this
 refine⟨fun c3=>?_,fun c3=>?_⟩<;>conv=>whnf
 ·have htf:=hmild (by simpa using c3);rw [htf];refine⟨fun _=>?_,fun e=>absurd e (by decide)⟩;conv=>whnf
  refine⟨fun c4=>absurd c4 (by simpa using hst),fun _=>?_⟩;conv=>whnf
  refine W.draw [(0,true),(1,true),(2,true),(3,true),(4,true),(5,true),(6,false),(7,true),(8,true),(9,true),(10,true),(11,true),(12,true),(15,true),(13,false),(14,false),(16,false),(17,true),(18,true)] [0] none 99 (by kernel_rfl) rfl (by kernel_rfl) mixed rfl (fun g e=>by cases e) ?_;refine vc_ok ⟨tbF_ok,_,Tryz.func8,Tryz.results8,Tryz.ntmps8⟩ 400 _ _ _ _ ?_;conv=>whnf
  refine Rd.index slRun.u slRun.size rfl (by exact rv_same hra) rfl m0 hwm0 hm ?_;conv=>whnf
  refine Ext.loadRunCell (D:=D) rfl ⟨rfl,rfl⟩ rfl hw5.runs (rv_same hra) hm 9 (by omega) rfl (.bool D.runs[m0].1.trap) rfl ?_;conv=>whnf
  refine⟨fun c5=>?_,fun c5=>?_⟩<;>conv=>whnf
  ·have ht0:trapAt D.pure ((m0:Int)+1)=false:=by rw [trapAt_eq hm0,pure_get D m0 hm hm0];simpa using c5
   refine Rd.index slInt.u slInt.size rfl rfl rfl i rfl hlt ?_;conv=>whnf
   refine Ext.loadInt rfl hr5 rfl hlt rfl ?_;conv=>whnf
   refine(iFallWith_con D hsm hd.why L[i] h6' _ ho5).mono ?_;rintro r h8 ⟨N,aN,cN,rfl,hN,ho8⟩;have hNL:N=L:=hN.one (.inl ⟨⟨⟨hsafe,V,hV,ok⟩,m,by omega,hLm,by rw [hpm];exact hst⟩,hw.same ok ht0 hxL⟩);subst hNL;conv=>whnf
   have hq1:RowOk h8 (rowI (.slice aN N.length cN) N):=ho8.rowOk List.mem_cons_self;have hq2:RowOk h8 (rowI (.slice (some ⟨gl,0,none⟩) N.length cL) N):=ho8.rowOk (List.mem_cons_of_mem _ (List.mem_append_right _ List.mem_cons_self));refine(lvInts_con _ _ _ _ N N (by omega) h8 hq1 hq2).mono ?_;rintro r h8 ⟨rfl,rfl⟩;rw [decide_eq_true (rfl:N=N)];conv=>whnf
   refine⟨fun e=>absurd e (by decide),fun _=>?_⟩;conv=>whnf
   rw [hwi];exact W.back (ih (i+1) h8 ⟨hlt,ho8.tail⟩ (by omega)) [⟨34,D.runs[m].1.cells D.runs[m].2⟩] (by exact⟨rfl,rfl,rfl,rfl,trivial⟩) rfl rfl
  ·rw [hwi];exact W.back (ih (i+1) h6' ⟨hlt,ho5⟩ (by omega)) [⟨34,D.runs[m].1.cells D.runs[m].2⟩] (by exact⟨rfl,rfl,rfl,rfl,trivial⟩) rfl rfl
 ·refine⟨fun c4=>absurd c4 (by simpa using hst),fun _=>?_⟩;conv=>whnf
  refine W.draw [(0,true),(1,true),(2,true),(3,true),(4,true),(5,true),(6,false),(7,true),(8,true),(9,true),(10,true),(11,true),(12,true),(15,true),(13,false),(14,false),(16,false),(17,true),(18,true)] [0] none 99 (by kernel_rfl) rfl (by kernel_rfl) mixed rfl (fun g e=>by cases e) ?_;refine vc_ok ⟨tbF_ok,_,Tryz.func8,Tryz.results8,Tryz.ntmps8⟩ 400 _ _ _ _ ?_;conv=>whnf
  refine Rd.index slRun.u slRun.size rfl (by exact rv_same hra) rfl m0 hwm0 hm ?_;conv=>whnf
  refine Ext.loadRunCell (D:=D) rfl ⟨rfl,rfl⟩ rfl hw5.runs (rv_same hra) hm 9 (by omega) rfl (.bool D.runs[m0].1.trap) rfl ?_;conv=>whnf
  refine⟨fun c5=>?_,fun c5=>?_⟩<;>conv=>whnf
  ·have ht0:trapAt D.pure ((m0:Int)+1)=false:=by rw [trapAt_eq hm0,pure_get D m0 hm hm0];simpa using c5
   refine Rd.index slInt.u slInt.size rfl rfl rfl i rfl hlt ?_;conv=>whnf
   refine Ext.loadInt rfl hr5 rfl hlt rfl ?_;conv=>whnf
   refine(iFallWith_con D hsm hd.why L[i] h6' _ ho5).mono ?_;rintro r h8 ⟨N,aN,cN,rfl,hN,ho8⟩;have hNL:N=L:=hN.one (.inl ⟨⟨⟨hsafe,V,hV,ok⟩,m,by omega,hLm,by rw [hpm];exact hst⟩,hw.same ok ht0 hxL⟩);subst hNL;conv=>whnf
   have hq1:RowOk h8 (rowI (.slice aN N.length cN) N):=ho8.rowOk List.mem_cons_self;have hq2:RowOk h8 (rowI (.slice (some ⟨gl,0,none⟩) N.length cL) N):=ho8.rowOk (List.mem_cons_of_mem _ (List.mem_append_right _ List.mem_cons_self));refine(lvInts_con _ _ _ _ N N (by omega) h8 hq1 hq2).mono ?_;rintro r h8 ⟨rfl,rfl⟩;rw [decide_eq_true (rfl:N=N)];conv=>whnf
   refine⟨fun e=>absurd e (by decide),fun _=>?_⟩;conv=>whnf
   rw [hwi];exact W.back (ih (i+1) h8 ⟨hlt,ho8.tail⟩ (by omega)) [⟨34,D.runs[m].1.cells D.runs[m].2⟩] (by exact⟨rfl,rfl,rfl,rfl,trivial⟩) rfl rfl
  ·rw [hwi];exact W.back (ih (i+1) h6' ⟨hlt,ho5⟩ (by omega)) [⟨34,D.runs[m].1.cells D.runs[m].2⟩] (by exact⟨rfl,rfl,rfl,rfl,trivial⟩) rfl rfl
theorem walk (a0:Option Addr) (len0 cap0:Nat) (w:World) (h0:Eld.Code0 w a0 len0 cap0):Calls Tryz.prog 8 #[.slice a0 len0 cap0] w fun e w'=>e=.returned (.bool true)∧Below w.heap.size w w':=by
 obtain⟨cb,hc,hi⟩:=code_in h0;exact((law a0 len0 cap0 cb hc).run w hi).mono fun e w' ⟨v,h',he,hy,hi',hf⟩=>yes_below hi hi' hf he hy
set_option maxRecDepth 20000 in
theorem contract (H:Type) (enc:TypeId×Value→H) (W:World) (base:Nat) (args:Array Value) (ds gs:List (DataW H)) (before:List MemPlace)
  (hval:∀(j:Nat) t v,Tryz.f8.params[j]?=some t→args[j]?=some v→Value.okWide Tryz.prog W .any base t v)
  (hW:DataW.Whole enc Tryz.prog Tryz.f8.params.toList Rows.fnFallWithSpec.vars false W args.toList ds gs before) (_hL:laidMetH Tryz.prog Rows.fnFallWithRow.laid W) :
  Calls Tryz.prog 8 args W fun e W'=>∃v,e=.returned v∧Rows.fnFallWithSpec.post enc Tryz.prog Tryz.f8 false true false false W args v W':=by
 have hW':=hW;obtain⟨p,q,hA0,hV,rfl,hfz,hnd⟩:=hW;have hA:DataW.TrodAll enc Tryz.prog W 0 (fun _=>true) true Tryz.f8.params.toList args.toList ds p:=hA0;rw [Tryz.params8] at hA hval;obtain⟨v0,vs0,d0,ds0,p0,q0,hargs,rfl,rfl,h0,r0⟩:=trodAll_cons hA;obtain⟨rfl,rfl,rfl⟩:=trodAll_nil r0;obtain rfl:args=#[v0]:=by cases args;simp_all
 obtain⟨rfl,rfl⟩:=trodVars_none hV;obtain⟨a0,len0,cap0,rfl⟩:=okWide_slice Tryz.underlying22 (hval 0 22 v0 rfl rfl);have k0:=h0;have lt0:∀x∈p0,x.block<W.heap.size:=by obtain⟨m,hm⟩:=k0;exact DataW.trod_lt m _ _ _ hm
 have w0:Eld.Code0 W a0 len0 cap0:=by
  obtain⟨fuel,hf⟩:=h0;rcases open_ints Tryz.underlying22 Tryz.underlying5 (by kernel_rfl) hf with ⟨hcs,_⟩ | ⟨x,l,c,zs,hcs,_,hl,hm,hz,_,hcell,hwz⟩
  ·simp [Value.cells] at hcs;obtain⟨rfl,rfl,rfl⟩:=hcs;exact Eld.code_of_row (zs:=[]) (.inl ⟨rfl,rfl,rfl,rfl⟩)
  ·simp [Value.cells] at hcs;obtain⟨rfl,rfl,rfl⟩:=hcs;exact Eld.code_of_row (zs:=zs) (.inr ⟨_,rfl,hl,hm,by simpa using hz,hcell,hwz⟩)
 clear hA0;refine(walk a0 len0 cap0 W w0).mono fun e W' ⟨he,bel⟩=>?_
 subst he;exact⟨_,rfl,_,_,_,[],_,[],hW',trodAll_mk1 (shut_bool Tryz.underlying4 _),(trodAll_cons_mk (Below.trod laidOut (by kernel_rfl) (of_decide_eq_true (by kernel_rfl)) k0 bel lt0) trodAll_mk0),rfl,bel.frame _,fun h=>by cases h⟩
theorem laid_met (os:Os):laidMet Tryz.prog Rows.fnFallWithRow.laid ((Eld.putAll (World.settled Tryz.prog os).heap.size (World.holding Tryz.prog os ⟨Eld.errBlocks,#[],[]⟩)).forCall (fun _ _=>0) ⟨#[],#[.slice none 0 0],[]⟩).memory :=
 laidMet_of_run' 10 (by kernel_rfl) (by kernel_rfl)
theorem reads (os:Os) {H:Type} (enc:TypeId×Value→H):∃places,DataW.whole enc Tryz.prog ((Eld.putAll (World.settled Tryz.prog os).heap.size (World.holding Tryz.prog os ⟨Eld.errBlocks,#[],[]⟩)).forCall (fun _ _=>0) ⟨#[],#[.slice none 0 0],[]⟩).memory Tryz.f8.params.toList Rows.fnFallWithSpec.vars false #[.slice none 0 0].toList 8=some ([.nil],[],places) :=
 ⟨[],by kernel_rfl⟩
set_option maxRecDepth 100000 in
theorem lifted (os:Os) (started:os.Started) (H:Type) (enc:TypeId×Value→H) (F:Stop.Interp) :
  ReturnsInHanded {} Tryz.checked os 8 .any ((OpenSpec.ofChange Rows.fnFallWithSpec).preRow enc Tryz.prog Tryz.f8 Rows.fnFallWithRow.domain false Rows.fnFallWithRow.laid) (((OpenSpec.ofChange Rows.fnFallWithSpec).at F).post enc Tryz.prog Tryz.f8 false true false false):=by
 obtain⟨places,hx⟩:=reads os enc;refine returnsInHanded_of_row (C:=Tryz.checked) (s:=OpenSpec.ofChange Rows.fnFallWithSpec) own started (by kernel_rfl) Tryz.func8
  (witness_row_atRef (enc:=enc) (C:=Tryz.checked) false (Eld.putAll (World.settled Tryz.prog os).heap.size (World.holding Tryz.prog os ⟨Eld.errBlocks,#[],[]⟩)) #[.slice none 0 0] rfl (by kernel_rfl) (by kernel_rfl) (by kernel_rfl)
   (OpenSpec.preRow_of_cond 8 hx (by kernel_rfl) (fun k hk=>by cases hk) (by kernel_rfl) (laid_met os))) ?_
 intro W base args ds gs before hval hW _ _ _ hL _ _;exact contract H enc W base args ds gs before hval hW hL
set_option maxRecDepth 100000 in
theorem said:Rows.FnFallWithSaid :=
 OpenClaim.holds_of_cond 8 Tryz.f8 rfl rfl rfl rfl rfl rfl rfl ⟨rfl,rfl,rfl,rfl,rfl⟩ rfl rfl rfl rfl rfl (by kernel_rfl) Tryz.func8 FcFnFallWith.closed
  (of_decide_eq_true (by kernel_rfl)) (by unfold Func.isWrapper;first | (rw [if_pos (by decide +kernel)];kernel_rfl) | (rw [if_neg (by decide +kernel)];exact⟨rfl,rfl⟩))
  (fun os started H enc _ F=>by rw [OpenClaim.pre_eq_preRow];exact lifted os started H enc F)
theorem plain (f:FuncId) (fn:Func) (hf:Tryz.pinned.checked.prog.funcNamed Rows.fnFallWithRow.func=some f) (hfn:Tryz.pinned.checked.prog.funcs[f]?=some fn) :
  true=Tryz.pinned.checked.prog.looks []∧∀(j:Nat) t,fn.params[j]?=some t→Tryz.pinned.checked.prog.wantsStandIn t=false:=by
 obtain rfl:f=8:=Option.some.inj ((show Tryz.prog.funcNamed Rows.fnFallWithRow.func=some 8 by kernel_rfl).symm.trans hf) |>.symm;obtain rfl:fn=Tryz.f8:=(Option.some.inj (Tryz.func8.symm.trans hfn)).symm;refine⟨by kernel_rfl,fun j t ht=>?_⟩;rw [Tryz.params8] at ht;obtain rfl:t=22:=by simpa using Array.mem_of_getElem? ht
 exact(show Tryz.prog.wantsStandIn 22=false by kernel_rfl)
theorem card:Rows.FnFallWithCardSaid :=
 Claim7.holds_tied_plain_at .later [] _ _ _ _ said (fun _ h=>by cases h) (by kernel_rfl) (fun _ h=>by cases h) fnFallWith_row_tie rfl ⟨rfl,rfl⟩ (by kernel_rfl) rfl plain (by kernel_rfl)
end FnFallWith
theorem fnFallWith_holds:Rows.FnFallWithCardSaid:=FnFallWith.card
#print axioms fnFallWith_holds
end Go.Proofs.YtgmkmeodimmdoaaGreatDoor
