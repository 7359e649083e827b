import Derived.Test.YtllbeifcipefjaaGreatDoorRexSc
namespace Go.Proofs.YtllbeifcipefjaaGreatDoor
open Go.RowKit
set_option maxRecDepth 100000
abbrev scMem (S:SD) (l:List Atom):List Atom:=.row (rowR S.D.rv S.D.runs)::.row (rowO S.D.cv S.D.code)::(S.D.runs.flatMap runRows++l)
structure SD.Of (S:SD) (w:PW):Prop where
 ok:S.Ok
 pure:{ S.D.pure with queue:=ringL S.room S.first S.size }=w
theorem SD.world {S:SD} (h:S.Ok):(S.cells.drop 8).take 7=[S.D.cv,S.D.rv,.slice none 0 0,.int .i64 S.D.now,.int .i64 S.D.sent,.int .i64 S.D.taken,.int .i64 S.D.lost]:=by
 have hA:(S.room.flatMap encI).length=6:=by rw [flat_len encI 1 encI_len,h.room]
 unfold SD.cells
 rw [List.drop_append,hA,List.drop_eq_nil_of_le (by omega)]
 rfl
theorem Ext.loadRoom {o:Oper} {y:Operand} (ho:o.op=.load 3 y) {ev:Operand→Value} {h:Hp} {K:Option Value→Hp→Prop} {S:SD} (hS:S.Ok) {g:Nat} (hr:RowOk h (scRow g S)) (j:Nat) (hj:j<6)
  (hy:ev y=.pointer (some ⟨g,j,none⟩)) (k:K (some (.int .i64 (S.room.getD j 0))) h):Ext Tryz.prog (execOp ev o) h K :=
 Ext.load tbE_ok rfl ho hr rfl hy (by show j+1≤1*15;omega) (.int .i64 (S.room.getD j 0)) (.inr ⟨rfl,by
  show S.cells[j]?=_
  rw [S.cellR hS j hj,List.getD_eq_getElem?_getD,List.getElem?_eq_getElem (by rw [hS.room];exact hj)]
  rfl,rfl⟩) k
theorem ringL_succ (room:List Int) (first n:Nat):ringL room first (n+1)=ringL room first n++[room.getD ((first+n) % 6) 0]:=by
 unfold ringL
 rw [List.range_succ,List.map_append]
 rfl
theorem ringL_len (room:List Int) (first n:Nat):(ringL room first n).length=n:=by simp [ringL]
theorem sceneOf_con (D:WD) (hsm:D.pure.Sm) (hq6:D.queue.length≤6) (h:Hp) (l:List Atom) (ho:Own h (wAtoms D++l)) :
  Con Tryz.prog 23 #[D.val] h fun r h'=>∃(g:Nat) (S:SD),r=.pointer (some ⟨g,0,none⟩)∧S.Of D.pure∧Own h' (.row (scRow g S)::scMem S (wAtoms D++l)):=by
 have hn:D.runs.length≤1000:=by have:=hsm.runs;rw [pure_len] at this;exact this
 have hlenP:=pure_len D
 refine Con.of_W (tb:=tbG) (args:=[D.val]) Tryz.func23 rfl Tryz.results23 Tryz.ntmps23 (by simp) (Tryz.call23 _) (tm:=[(0,.a D.cells)]) rfl ?_
 refine vc_ok ⟨tbG_ok,_,Tryz.func23,Tryz.results23,Tryz.ntmps23⟩ 400 _ _ _ _ ?_
 conv=>whnf
 refine W.cut [(9,.v (.int .i64 (0:Nat))),(8,.v (.int .i64 (D.runs.length:Nat))),(7,.v D.rv),(3,.v (.slice none 0 0)),(1,.p 0 0)] [⟨27,D.cells⟩] [] ⟨rfl,rfl,rfl,rfl,rfl,trivial⟩ rfl rfl ⟨_,rfl⟩ ?_
 refine W.loop (α:=Nat×List (RunD×RunP)×Option Addr×Nat) (fun x=>[(9,.v (.int .i64 (x.1:Nat))),(8,.v (.int .i64 (D.runs.length:Nat))),(7,.v D.rv),(3,.v (.slice x.2.2.1 x.2.1.length x.2.2.2)),(1,.p 0 0)]) (fun _=>[⟨27,D.cells⟩])
  (fun x h'=>x.1≤D.runs.length∧x.2.1.map (·.1)=(D.runs.take x.1).map (·.1)∧Own h' (.row (rowR (.slice x.2.2.1 x.2.1.length x.2.2.2) x.2.1)::(x.2.1.flatMap runRows++(wAtoms D++l)))) (fun x=>D.runs.length-x.1) ?_ (0,[],none,0) h ⟨Nat.zero_le _,rfl,ho.nilR⟩
 rintro⟨i,out,oa,ok⟩ h5 ⟨hi,hout,ho5⟩ ih
 dsimp only at hi hout ho5 ⊢
 have hol:out.length=i:=by have:=congrArg List.length hout;simp at this;omega
 have hw5:WIn h5 D:=ho5.win fun x hx=>List.mem_cons_of_mem _ (List.mem_append_right _ (List.mem_append_left _ hx))
 refine vc_ok ⟨tbG_ok,_,Tryz.func23,Tryz.results23,Tryz.ntmps23⟩ 400 _ _ _ _ ?_
 conv=>whnf
 refine⟨fun h6=>?_,fun h6=>?_⟩<;>conv=>whnf
 ·have hlt:i<D.runs.length:=by simp at h6;omega
  obtain⟨g,hra⟩:=row_some hw5.runs (by omega)
  have hv:D.rv=.slice (some ⟨g,0,none⟩) D.runs.length D.rk:=by rw [WD.rv,hra]
  have hr5:RowOk h5 (rowR D.rv D.runs):=hw5.runs
  refine Ext.index slRun.u slRun.size rfl (by exact hv) rfl i rfl hlt ?_
  conv=>whnf
  refine Ext.loadRun rfl hr5 hv hlt rfl ?_
  conv=>whnf
  have hwi:IntKind.i64.wrap ((i:Int)+1)=((i+1:Nat):Int):=by rw [wrapN _ (by omega) (by omega)];omega
  refine(copied_con D.runs[i].1 D.runs[i].2 (hsm.each _ (pure_mem hlt)) h5 _ (ho5.perm (w_runs D i hlt (.row (rowR (.slice oa out.length ok) out)::out.flatMap runRows) l))).mono ?_
  rintro r h7 ⟨q,rfl,ho7⟩
  conv=>whnf
  refine Ext.litR rfl ho7 (D.runs[i].1,q) rfl fun g8 h8 _ ho8=>?_
  conv=>whnf
  have ho9:Own h8 (.row ⟨39,13,.slice (some ⟨g8,0,none⟩) 1 1,1,encR (D.runs[i].1,q)⟩::.row (rowR (.slice oa out.length ok) out)::((out++[(D.runs[i].1,q)]).flatMap runRows++(wAtoms D++l))):=ho8.perm (List.Perm.cons _ ((List.Perm.append_left _ (w_runs D i hlt (.row (rowR (.slice oa out.length ok) out)::out.flatMap runRows) l).symm).trans (perm_of fun x=>by simp only [List.flatMap_append,List.flatMap_cons,List.flatMap_nil,List.append_nil,List.count_append,List.count_cons];omega)))
  refine Ext.pushR rfl ho9 rfl rfl (by omega) fun a9 k9 h9 ho10=>?_
  conv=>whnf
  rw [hwi]
  exact W.back (ih (i+1,out++[(D.runs[i].1,q)],a9,k9) h9 ⟨hlt,by dsimp only;rw [List.map_append,hout,List.take_succ_eq_append_getElem hlt,List.map_append];rfl,ho10⟩ (by dsimp only;omega)) [_] (by exact⟨rfl,rfl,rfl,rfl,rfl,trivial⟩) rfl rfl
 ·have hge:i=D.runs.length:=by simp at h6;omega
  have hpr:out.map (·.1)=D.runs.map (·.1):=by rw [hout,hge,List.take_length]
  refine(sceneWith_con D hsm hq6 out oa ok h5 l ho5).mono ?_
  rintro r h7 ⟨g,S,ca,ck,rfl,hok,hSD,hring,hsz,ho7⟩
  conv=>whnf
  refine⟨g,S,rfl,⟨hok,?_⟩,?_⟩
  ·rw [hring,hSD]
   simp only [WD.pure,hpr]
  ·have hrn:S.D.runs=out:=by rw [hSD]
   have hcd:S.D.code=D.code:=by rw [hSD]
   show Own h7 (_::.row (rowR S.D.rv S.D.runs)::.row (rowO S.D.cv S.D.code)::(S.D.runs.flatMap runRows++_))
   rw [hrn,hcd]
   exact ho7
theorem list_con (g:Nat) (S:SD) (hS:S.Ok) (h:Hp) (l:List Atom) (ho:Own h (.row (scRow g S)::l)) :
  Con Tryz.prog 49 #[.pointer (some ⟨g,0,none⟩)] h fun r h'=>∃a k,r=.slice a (ringL S.room S.first S.size).length k∧Own h' (.row (rowI (.slice a (ringL S.room S.first S.size).length k) (ringL S.room S.first S.size))::.row (scRow g S)::l):=by
 refine Con.of_W (tb:=tbG) (args:=[.pointer (some ⟨g,0,none⟩)]) Tryz.func49 rfl Tryz.results49 Tryz.ntmps49 (by simp) (Tryz.call49 _) (tm:=[(0,.v (.pointer (some ⟨g,0,none⟩)))]) rfl ?_
 refine vc_ok ⟨tbG_ok,_,Tryz.func49,Tryz.results49,Tryz.ntmps49⟩ 400 _ _ _ _ ?_
 conv=>whnf
 have hf:=hS.first
 have hz:=hS.size
 have hr:RowOk h (scRow g S):=ho.rowOk List.mem_cons_self
 refine Ext.loadSc rfl ⟨rfl,rfl⟩ rfl hS hr 1 (by omega) rfl (.int .i64 (S.size:Nat)) rfl ?_
 conv=>whnf
 refine W.cut [(9,.v (.int .i64 (0:Nat))),(8,.v (.int .i64 (S.size:Nat))),(3,.v (.slice none 0 0)),(0,.v (.pointer (some ⟨g,0,none⟩)))] [] [] ⟨rfl,rfl,rfl,rfl,trivial⟩ rfl rfl ⟨_,rfl⟩ ?_
 refine W.loop (α:=Nat×Option Addr×Nat) (fun x=>[(9,.v (.int .i64 (x.1:Nat))),(8,.v (.int .i64 (S.size:Nat))),(3,.v (.slice x.2.1 (ringL S.room S.first x.1).length x.2.2)),(0,.v (.pointer (some ⟨g,0,none⟩)))]) (fun _=>[])
  (fun x h'=>x.1≤S.size∧Own h' (.row (rowI (.slice x.2.1 (ringL S.room S.first x.1).length x.2.2) (ringL S.room S.first x.1))::.row (scRow g S)::l)) (fun x=>S.size-x.1) ?_ (0,none,0) h ⟨Nat.zero_le _,ho.nilI⟩
 rintro⟨i,oa,ok⟩ h5 ⟨hi,ho5⟩ ih
 dsimp only at hi ho5 ⊢
 have hr5:RowOk h5 (scRow g S):=ho5.rowOk (by simp)
 refine vc_ok ⟨tbG_ok,_,Tryz.func49,Tryz.results49,Tryz.ntmps49⟩ 400 _ _ _ _ ?_
 conv=>whnf
 refine⟨fun h6=>?_,fun h6=>?_⟩<;>conv=>whnf
 ·have hlt:i<S.size:=by simp at h6;omega
  refine W.draw [(0,true),(1,true),(2,true),(3,true),(5,true),(6,true),(4,false),(7,true),(8,false),(9,false),(10,false),(11,true)] [] none 99 (by kernel_rfl) rfl (by kernel_rfl) mixed rfl (fun g e=>by cases e) ?_
  refine vc_ok ⟨tbG_ok,_,Tryz.func49,Tryz.results49,Tryz.ntmps49⟩ 400 _ _ _ _ ?_
  conv=>whnf
  refine(place_con g S hS i (by omega) h5 hr5).mono ?_
  rintro r h7 ⟨rfl,rfl⟩
  conv=>whnf
  have hk:(S.first+i) % 6<6:=Nat.mod_lt _ (by decide)
  have hrs:=ringL_succ S.room S.first i
  generalize (S.first+i) % 6=k at hk hrs ⊢
  refine Rd.indexArr arr6 slInt.size rfl rfl rfl k rfl hk ?_
  conv=>whnf
  refine Ext.loadRoom rfl hS hr5 k hk (by show Value.pointer (some ⟨g,0+0+k*1,none⟩)=_;simp) ?_
  conv=>whnf
  refine Ext.litI rfl ho5 (S.room.getD k 0) rfl fun g8 h8 _ ho8=>?_
  conv=>whnf
  refine Ext.pushI rfl ho8 rfl rfl (by rw [ringL_len];omega) fun a9 k9 h9 ho9=>?_
  conv=>whnf
  have hwi:IntKind.i64.wrap ((i:Int)+1)=((i+1:Nat):Int):=by rw [wrapN _ (by omega) (by omega)];omega
  rw [hwi]
  refine W.back (ih (i+1,a9,k9) h9 ⟨hlt,by dsimp only;rw [hrs];exact ho9⟩ (by dsimp only;omega)) [] (by dsimp only;rw [hrs];exact⟨rfl,rfl,rfl,rfl,trivial⟩) rfl rfl
 ·have hge:i=S.size:=by simp at h6;omega
  subst hge
  exact⟨oa,ok,rfl,ho5⟩
theorem told_con (g:Nat) (S:SD) (w:PW) (hS:S.Of w) (h:Hp) (l:List Atom) (ho:Own h (.row (scRow g S)::scMem S l)) :
  Con Tryz.prog 25 #[.pointer (some ⟨g,0,none⟩)] h fun r h'=>∃D',r=D'.val∧D'.pure=w∧Own h' (wAtoms D'++l):=by
 refine Con.of_W (tb:=tbG) (args:=[.pointer (some ⟨g,0,none⟩)]) Tryz.func25 rfl Tryz.results25 Tryz.ntmps25 (by simp) (Tryz.call25 _) (tm:=[(0,.v (.pointer (some ⟨g,0,none⟩)))]) rfl ?_
 refine vc_ok ⟨tbG_ok,_,Tryz.func25,Tryz.results25,Tryz.ntmps25⟩ 400 _ _ _ _ ?_
 conv=>whnf
 have hr:RowOk h (scRow g S):=ho.rowOk List.mem_cons_self
 refine Ext.load tbE_ok rfl rfl hr rfl rfl (by show 0+8+7≤1*15;omega) (.agg #[S.D.cv,S.D.rv,.slice none 0 0,.int .i64 S.D.now,.int .i64 S.D.sent,.int .i64 S.D.taken,.int .i64 S.D.lost]) (.inl ⟨rfl,congrArg (fun l=>Value.agg (List.toArray l)) (S.world hS.ok).symm⟩) ?_
 conv=>whnf
 refine(list_con g S hS.ok h _ ho).mono ?_
 rintro r h2 ⟨a,k,rfl,ho2⟩
 conv=>whnf
 refine⟨{ S.D with queue:=ringL S.room S.first S.size,qa:=a,qk:=k },rfl,hS.pure,?_⟩
 refine Own.tail (x:=.row (scRow g S)) (ho2.perm (perm_of fun x=>?_))
 simp only [wAtoms,scMem,WD.cv,WD.rv,WD.qv,List.count_append,List.count_cons]
 omega
theorem runOf_con (g:Nat) (S:SD) (hS:S.Ok) (hn:S.D.runs.length≤1000) (id:Int) (h:Hp) (hr:RowOk h (scRow g S)) (hrr:RowOk h (rowR S.D.rv S.D.runs)) :
  Con Tryz.prog 47 #[.pointer (some ⟨g,0,none⟩),.int .i64 id] h fun r h'=>((∃(gr i:Nat),id=(i:Int)+1∧i<S.D.runs.length∧S.D.ra=some ⟨gr,0,none⟩∧r=.pointer (some ⟨gr,0+i*13,none⟩))∨((id<1∨(S.D.runs.length:Int)<id)∧r=.pointer none))∧h'=h:=by
 refine Con.of_W (tb:=tbG) (args:=[.pointer (some ⟨g,0,none⟩),.int .i64 id]) Tryz.func47 rfl Tryz.results47 Tryz.ntmps47 (by simp) (Tryz.call47 _) (tm:=[(0,.v (.pointer (some ⟨g,0,none⟩))),(1,.v (.int .i64 id))]) rfl ?_
 refine vc_ok ⟨tbG_ok,_,Tryz.func47,Tryz.results47,Tryz.ntmps47⟩ 400 _ _ _ _ ?_
 conv=>whnf
 refine⟨fun b1=>?_,fun b1=>?_⟩<;>conv=>whnf
 rotate_left
 ·have h1:id<1:=by simpa using b1
  exact⟨.inr ⟨.inl h1,rfl⟩,rfl⟩
 have h1:1≤id:=by simpa using b1
 refine Ext.loadSc rfl ⟨rfl,rfl⟩ rfl hS hr 3 (by omega) rfl S.D.rv rfl ?_
 conv=>whnf
 refine⟨fun b2=>?_,fun b2=>?_⟩<;>conv=>whnf
 ·have h2:(S.D.runs.length:Int)<id:=by simpa using b2
  exact⟨.inr ⟨.inr h2,rfl⟩,rfl⟩
 have h2:id≤(S.D.runs.length:Int):=by simpa using b2
 obtain⟨i,hid⟩:∃i:Nat,id=(i:Int)+1:=⟨(id-1).toNat,by omega⟩
 have hi:i<S.D.runs.length:=by omega
 obtain⟨gr,hra⟩:=row_some hrr (by omega)
 have hz:IntKind.i64.wrap (id-1)=(i:Int):=by rw [hid,show (i:Int)+1-1=i by omega];exact wrapN _ (by omega) (by omega)
 refine Ext.loadSc rfl ⟨rfl,rfl⟩ rfl hS hr 3 (by omega) rfl S.D.rv rfl ?_
 conv=>whnf
 refine Ext.index slRun.u slRun.size rfl (by exact rv_same hra) rfl i hz hi ?_
 conv=>whnf
 exact⟨.inl ⟨gr,i,hid,hi,hra,rfl⟩,rfl⟩
end Go.Proofs.YtllbeifcipefjaaGreatDoor
