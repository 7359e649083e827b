import Derived.Test.YtllbeifcipefjaaGreatDoorRexSb
namespace Go.Proofs.YtllbeifcipefjaaGreatDoor
open Go.RowKit
set_option maxRecDepth 100000
theorem arr6:Tryz.prog.underlying 78=some (.array 6 3):=Tryz.underlying78
theorem Rd.indexArr {P:Program} {t e:TypeId} {sz n:Nat} (hu:P.underlying t=some (.array n e)) (hs:∀w,(sizeOf e).run P w=.ok sz w) {o:Oper} {x i:Operand} (ho:o.op=.indexAddr t x i) {ev:Operand→Value} {h:Hp} {K:Value→Prop} {g off:Nat} {z:Int} {kind:IntKind} (hx:ev x=.pointer (some ⟨g,off,none⟩))
  (hi:ev i=.int kind z) (k:Nat) (hk:z=(k:Int)) (hlt:k<n) (hK:K (.pointer (some ⟨g,off+k*sz,none⟩))):Rd P (execOp ev o) h K:=by
 have hop:execOp ev o=(do pure (Next.value (←Instr.indexAt t (ev x) (ev i))):Sem Next):=by unfold execOp;rw [ho]
 rw [hop,hx,hi]
 refine⟨_,fun w _=>run_value _ w _ _ ?_,hK⟩
 subst hk
 simp only [Instr.indexAt,asIntOf,Sem.run_bind,Sem.run_pure,Result.andThen_ok,run_underlying hu,Instr.sureAddr]
 rw [if_pos ⟨by omega,by omega⟩]
 simp only [Sem.run_bind,hs,Result.andThen_ok,Sem.run_pure,Addr.add_mid,Int.toNat_natCast]
theorem push_con (g:Nat) (S:SD) (hS:S.Ok) (hlt:S.size<6) (x:Int) (h:Hp) (l:List Atom) (ho:Own h (.row (scRow g S)::l)) :
  Con Tryz.prog 48 #[.pointer (some ⟨g,0,none⟩),.int .i64 x] h fun r h'=>r=.tuple #[]∧Own h' (.row (scRow g { S with room:=S.room.set ((S.first+S.size) % 6) x,size:=S.size+1 })::l):=by
 have hr:RowOk h (scRow g S):=ho.rowOk List.mem_cons_self
 refine Con.of_W (tb:=tbG) (args:=[.pointer (some ⟨g,0,none⟩),.int .i64 x]) Tryz.func48 rfl Tryz.results48 Tryz.ntmps48 (by simp) (Tryz.call48 _) (tm:=[(0,.v (.pointer (some ⟨g,0,none⟩))),(1,.v (.int .i64 x))]) rfl ?_
 refine vc_ok ⟨tbG_ok,_,Tryz.func48,Tryz.results48,Tryz.ntmps48⟩ 400 _ _ _ _ ?_
 conv=>whnf
 refine W.draw [(0,true),(1,true),(2,true),(3,true),(4,true),(7,true),(8,true),(9,true),(5,false),(6,false),(10,true),(11,false)] [] none 99 (by kernel_rfl) rfl (by kernel_rfl) mixed rfl (fun g e=>by cases e) ?_
 refine vc_ok ⟨tbG_ok,_,Tryz.func48,Tryz.results48,Tryz.ntmps48⟩ 400 _ _ _ _ ?_
 conv=>whnf
 refine Ext.loadSc rfl ⟨rfl,rfl⟩ rfl hS hr 1 (by omega) rfl (.int .i64 (S.size:Nat)) rfl ?_
 conv=>whnf
 refine(place_con g S hS S.size (by omega) h hr).mono ?_
 rintro r h1 ⟨rfl,rfl⟩
 conv=>whnf
 have hk:(S.first+S.size) % 6<6:=Nat.mod_lt _ (by decide)
 generalize hkk:(S.first+S.size) % 6=k at hk
 refine Rd.indexArr arr6 slInt.size rfl rfl rfl k rfl hk ?_
 conv=>whnf
 refine Ext.storeRoom rfl hS ho k hk (by show Value.pointer (some ⟨g,0+0+k*1,none⟩)=_;simp) x rfl fun h2 ho2=>?_
 conv=>whnf
 have hS2:({ S with room:=S.room.set k x }:SD).Ok:=⟨by show (S.room.set k x).length=6;rw [List.length_set];exact hS.room,hS.first,hS.size⟩
 refine Ext.loadSc rfl ⟨rfl,rfl⟩ rfl hS2 (ho2.rowOk List.mem_cons_self) 1 (by omega) rfl (.int .i64 (S.size:Nat)) rfl ?_
 conv=>whnf
 have hw:IntKind.i64.wrap ((S.size:Int)+1)=((S.size+1:Nat):Int):=by rw [wrapN _ (by omega) (by omega)];omega
 rw [hw]
 refine Ext.storeSc rfl rfl rfl hS2 ho2 1 (by omega) rfl (.int .i64 ((S.size+1:Nat):Int)) rfl rfl (by simp [Value.oneCell']) { S with room:=S.room.set k x,size:=S.size+1 } rfl fun h3 ho3=>?_
 conv=>whnf
 exact⟨rfl,ho3⟩
theorem sceneWith_con (D:WD) (hsm:D.pure.Sm) (hq6:D.queue.length≤6) (R:List (RunD×RunP)) (ra:Option Addr) (rk:Nat) (h:Hp) (l:List Atom) (ho:Own h (.row (rowR (.slice ra R.length rk) R)::(R.flatMap runRows++(wAtoms D++l)))) :
  Con Tryz.prog 46 #[D.val,.slice ra R.length rk] h fun r h'=>∃(g:Nat) (S:SD) (ca:Option Addr) (ck:Nat),r=.pointer (some ⟨g,0,none⟩)∧S.Ok∧S.D={ D with runs:=R,ra:=ra,rk:=rk,ca:=ca,ck:=ck }∧ringL S.room S.first S.size=D.queue∧S.size=D.queue.length ∧
   Own h' (.row (scRow g S)::(.row (rowR S.D.rv R)::.row (rowO S.D.cv D.code)::(R.flatMap runRows++(wAtoms D++l)))):=by
 have hC:D.code.length≤1000:=hsm.code
 refine Con.of_W (tb:=tbG) (args:=[D.val,.slice ra R.length rk]) Tryz.func46 rfl Tryz.results46 Tryz.ntmps46 (by simp) (Tryz.call46 _) (tm:=[(0,.a D.cells),(1,.v (.slice ra R.length rk))]) rfl ?_
 refine vc_ok ⟨tbG_ok,_,Tryz.func46,Tryz.results46,Tryz.ntmps46⟩ 400 _ _ _ _ ?_
 conv=>whnf
 refine(listOps_con D.ca D.ck D.code (by omega) h _ ho (ho.rowOk (by simp [wAtoms]))).mono ?_
 rintro r h1 ⟨ca,ck,rfl,ho1⟩
 conv=>whnf
 obtain⟨S0,hS0⟩:∃S0:SD,S0=⟨[0,0,0,0,0,0],0,0,{ D with runs:=R,ra:=ra,rk:=rk,ca:=ca,ck:=ck }⟩:=⟨_,rfl⟩
 have hok0:S0.Ok:=by subst hS0;exact⟨rfl,by show 0<6;decide,by show 0≤6;decide⟩
 refine W.cut [(30,.v (.int .i64 (0:Nat))),(29,.v (.int .i64 (D.queue.length:Nat))),(28,.v D.qv),(5,.p 1 0)] [⟨27,D.cells⟩,⟨82,S0.cells⟩] [] ⟨rfl,rfl,rfl,rfl,trivial⟩ (by subst hS0;rfl) rfl ⟨_,rfl⟩ ?_
 refine W.escape [⟨27,D.cells⟩] ⟨82,S0.cells⟩ rfl fun g hg=>?_
 have ho2:=Own.escape ho1 hg 82 S0.cells
 rw [S0.cells_len hok0] at ho2
 generalize hhp:h1.put g (.cells S0.cells.toArray 82 (0,0))=h2 at ho2
 show W _ _ [(30,.v (.int .i64 (0:Nat))),(29,.v (.int .i64 (D.queue.length:Nat))),(28,.v D.qv),(5,.v (.pointer (some ⟨g,0,none⟩)))] _ h2
 clear hhp hg ho1 ho
 refine W.loop (α:=Nat×SD) (fun x=>[(30,.v (.int .i64 (x.1:Nat))),(29,.v (.int .i64 (D.queue.length:Nat))),(28,.v D.qv),(5,.v (.pointer (some ⟨g,0,none⟩)))]) (fun _=>[⟨27,D.cells⟩])
  (fun x h'=>x.1≤D.queue.length∧x.2.Ok∧x.2.size=x.1∧x.2.D=S0.D∧ringL x.2.room x.2.first x.2.size=D.queue.take x.1∧Own h' (.row (scRow g x.2)::(.row (rowO (.slice ca D.code.length ck) D.code)::.row (rowR (.slice ra R.length rk) R)::(R.flatMap runRows++(wAtoms D++l))))) (fun x=>D.queue.length-x.1) ?_ (0,S0) h2 ⟨Nat.zero_le _,hok0,by subst hS0;rfl,rfl,by subst hS0;rfl,ho2⟩
 rintro⟨i,S⟩ h5 ⟨hi,hok,hsz,hSD,hring,ho5⟩ ih
 dsimp only at hi hok hsz hSD hring ho5 ⊢
 refine vc_ok ⟨tbG_ok,_,Tryz.func46,Tryz.results46,Tryz.ntmps46⟩ 400 _ _ _ _ ?_
 conv=>whnf
 refine⟨fun h6=>?_,fun h6=>?_⟩<;>conv=>whnf
 ·have hlt:i<D.queue.length:=by simp at h6;omega
  have hqr:RowOk h5 (rowI D.qv D.queue):=ho5.rowOk (by simp [wAtoms])
  obtain⟨gq,hqa⟩:=row_some hqr (by omega)
  have hqv:D.qv=.slice (some ⟨gq,0,none⟩) D.queue.length D.qk:=by rw [WD.qv,hqa]
  refine Ext.index slInt.u slInt.size rfl (by exact hqv) rfl i rfl hlt ?_
  conv=>whnf
  refine Ext.loadInt rfl hqr hqv hlt rfl ?_
  conv=>whnf
  refine(push_con g S hok (by omega) D.queue[i] h5 _ ho5).mono ?_
  rintro r h7 ⟨rfl,ho7⟩
  conv=>whnf
  have hwi:IntKind.i64.wrap ((i:Int)+1)=((i+1:Nat):Int):=by rw [wrapN _ (by omega) (by omega)];omega
  rw [hwi]
  refine W.back (ih (i+1,{ S with room:=S.room.set ((S.first+S.size) % 6) D.queue[i],size:=S.size+1 }) h7 ⟨hlt,⟨by show (S.room.set _ _).length=6;rw [List.length_set];exact hok.room,hok.first,by show S.size+1≤6;omega⟩,by dsimp only;omega,hSD,?_,ho7⟩ (by dsimp only;omega)) [] (by exact⟨rfl,rfl,rfl,rfl,trivial⟩) rfl rfl
  dsimp only
  rw [ringL_push hok.room (by omega),hring,List.take_succ_eq_append_getElem hlt]
 ·have hge:i=D.queue.length:=by simp at h6;omega
  refine⟨g,S,ca,ck,rfl,hok,by rw [hSD,hS0],by rw [hring,hge,List.take_length],by omega,?_⟩
  rw [hSD,hS0]
  exact ho5.perm (perm_of fun x=>by simp only [WD.cv,WD.rv,List.count_cons];omega)
end Go.Proofs.YtllbeifcipefjaaGreatDoor
