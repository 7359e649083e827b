import Derived.Test.YtgmkmeodimmdoaaGreatDoorBSl
namespace Go.Proofs.YtgmkmeodimmdoaaGreatDoor
open Go.RowKit
set_option maxRecDepth 100000
theorem Own.nilI {h:Hp} {l:List Atom} (o:Own h l):Own h (.row (rowI (.slice none 0 0) [])::l):=o.add ⟨rfl,.inl ⟨rfl,rfl⟩⟩ (fun g e=>by cases e) (fun _ _=>rfl)
theorem lvInts_con (a1 a2:Option Addr) (k1 k2:Nat) (L M:List Int) (hL:L.length<100000) (h:Hp) (h1:RowOk h (rowI (.slice a1 L.length k1) L)) (h2:RowOk h (rowI (.slice a2 M.length k2) M)) :
  Con Tryz.prog 30 #[.slice a1 L.length k1,.slice a2 M.length k2] h fun r h'=>r=.bool (decide (L=M))∧h'=h:=by
 refine Con.of_W (tb:=tbE) (args:=[.slice a1 L.length k1,.slice a2 M.length k2]) Tryz.func30 rfl Tryz.results30 Tryz.ntmps30 (by simp) (Tryz.call30 _) (tm:=[(0,.v (.slice a1 L.length k1)),(1,.v (.slice a2 M.length k2))]) rfl ?_;refine vc_ok ⟨tbE_ok,_,Tryz.func30,Tryz.results30,Tryz.ntmps30⟩ 400 _ _ _ _ ?_;conv=>whnf
 refine⟨fun b1=>?_,fun b1=>?_⟩<;>conv=>whnf
 ·have hne:L≠M:=fun e=>by rw [e] at b1;simp at b1
  exact⟨by rw [decide_eq_false hne];rfl,rfl⟩
 have hlen:L.length=M.length:=by(have:(L.length:Int)=(M.length:Int):=by simpa using b1);omega
 refine W.cut [(5,.v (.int .i64 (0:Nat))),(0,.v (.slice a1 L.length k1)),(1,.v (.slice a2 M.length k2))] [] [] ⟨rfl,rfl,rfl,trivial⟩ rfl rfl ⟨_,rfl⟩ ?_;refine W.loop (α:=Nat) (fun i=>[(5,.v (.int .i64 (i:Nat))),(0,.v (.slice a1 L.length k1)),(1,.v (.slice a2 M.length k2))]) (fun _=>[]) (fun i h'=>i≤L.length∧(∀j (hj:j<L.length),j<i→L[j]=M[j]'(by omega))∧h'=h) (fun i=>L.length-i) ?_ 0 h ⟨Nat.zero_le _,fun j _ hj=>absurd hj (Nat.not_lt_zero _),rfl⟩;rintro i h5 ⟨hi,hfit,rfl⟩ ih;refine vc_ok ⟨tbE_ok,_,Tryz.func30,Tryz.results30,Tryz.ntmps30⟩ 400 _ _ _ _ ?_;conv=>whnf
 refine⟨fun h6=>?_,fun h6=>?_⟩<;>conv=>whnf
 ·have hlt:i<L.length:=by simp at h6;omega
  have hltM:i<M.length:=by omega
  obtain⟨g1,hva⟩:=row_some h1 (by omega);obtain⟨g2,hvb⟩:=row_some h2 (by omega);subst hva;subst hvb;refine W.draw [(0,true),(1,true),(2,true),(3,true),(4,true),(5,true),(6,true),(7,true),(8,true)] [] (some h5) 99 (by kernel_rfl) rfl (by kernel_rfl) mixed rfl (fun g e=>by cases e;exact Hp.le_refl _) ?_;refine vc_ok ⟨tbE_ok,_,Tryz.func30,Tryz.results30,Tryz.ntmps30⟩ 400 _ _ _ _ ?_;conv=>whnf
  refine Rd.index slInt.u slInt.size rfl rfl rfl i rfl hlt ?_;conv=>whnf
  refine Rd.loadInt rfl h1 rfl hlt rfl ?_;conv=>whnf
  refine Rd.index slInt.u slInt.size rfl rfl rfl i rfl hltM ?_;conv=>whnf
  refine Rd.loadInt rfl h2 rfl hltM rfl ?_;conv=>whnf
  refine⟨fun b2=>?_,fun b2=>?_⟩<;>conv=>whnf
  ·have hne:L≠M:=fun e=>by
    subst e;simp at b2
   exact⟨by rw [decide_eq_false hne];rfl,rfl⟩
  have he:L[i]=M[i]:=by simpa using b2
  have hwi:IntKind.i64.wrap ((i:Int)+1)=((i+1:Nat):Int):=by rw [wrapN _ (by omega) (by omega)];omega
  rw [hwi];exact W.back (ih (i+1) _ ⟨hlt,fun j hj hji=>(by
   rcases (by omega:j<i∨j=i) with h8|rfl
   ·exact hfit j hj h8
   ·exact he),rfl⟩ (by omega)) [] (by exact⟨rfl,rfl,rfl,trivial⟩) rfl rfl
 ·have he:L=M:=List.ext_getElem hlen fun j hj _=>hfit j hj (by simp at h6;omega)
  exact⟨by rw [decide_eq_true he];rfl,rfl⟩
theorem Ext.pushIs {o:Oper} {s y:Operand} (ho:o.op=.call { callee:=.builtin .append,args:=#[s,y],argTypes:=#[25,25] }) {ev:Operand→Value} {h:Hp} {K:Option Value→Hp→Prop} {l:List Atom} {tv v:Value} {L M:List Int}
  (hown:Own h (.row (rowI v L)::l)) (hm:RowOk h (rowI tv M)) (hs:ev s=v) (hy:ev y=tv) (hn:L.length+M.length<1000000) (k:∀a c h',Own h' (.row (rowI (.slice a (L++M).length c) (L++M))::l)→K (some (.slice a (L++M).length c)) h'):Ext Tryz.prog (execOp ev o) h K:=by
 refine Ext.append slInt ho hown rfl rfl hs hy (RowOk.src (r:=rowI tv M) hm (fun u hu=>by obtain⟨x,_,hx⟩:=List.mem_flatMap.1 hu;rw [List.mem_singleton.1 hx];rfl)) (by show (L.length+M.length)*8≤_;omega) (by show L.length+M.length≤_;unfold maxLen;omega) fun v' h' ho1=>?_
 have e:(⟨3,1,v',L.length+M.length,L.flatMap encI++M.flatMap encI⟩:Row)=rowI v' (L++M):=by simp [rowI]
 have ho2:Own h' (.row (rowI v' (L++M))::l):=by rw [←e];exact ho1
 obtain⟨a,c,hv⟩:=RowOk.form' (ho2.ok _ List.mem_cons_self);dsimp only at hv;subst hv;exact k a c h' ho2
theorem Ext.litI0 {o:Oper} (ho:o.op=.buildSlice 25 0 #[]) {ev:Operand→Value} {h:Hp} {K:Option Value→Hp→Prop} {l:List Atom} (hown:Own h l) (k:∀g h',h.le h'→Own h' (.row (rowI (.slice (some ⟨g,0,none⟩) 0 0) [])::l)→K (some (.slice (some ⟨g,0,none⟩) 0 0)) h'):Ext Tryz.prog (execOp ev o) h K :=
 Ext.buildSlice slInt ho hown [] (fun w=>⟨_,Tryz.zeroValue3 w,by kernel_rfl⟩) [] rfl rfl (by decide) k
theorem Ext.litR0 {o:Oper} (ho:o.op=.buildSlice 24 0 #[]) {ev:Operand→Value} {h:Hp} {K:Option Value→Hp→Prop} {l:List Atom} (hown:Own h l) (k:∀g h',h.le h'→Own h' (.row (rowR (.slice (some ⟨g,0,none⟩) 0 0) [])::l)→K (some (.slice (some ⟨g,0,none⟩) 0 0)) h'):Ext Tryz.prog (execOp ev o) h K :=
 Ext.buildSlice slRun ho hown [] (fun w=>⟨_,Tryz.zeroValue34 w,by kernel_rfl⟩) [] rfl rfl (by decide) k
theorem neqV_run (a b c d:Int) (x y:Operand) (w:World):(do eqGuard .neq 32 x y (.agg #[.int .i64 a,.int .i64 b]) (.agg #[.int .i64 c,.int .i64 d]);binOp .neq 32 (.agg #[.int .i64 a,.int .i64 b]) (.agg #[.int .i64 c,.int .i64 d]):Sem Value).run Tryz.prog w=.ok (.bool (!(a==c&&b==d))) w:=by
 rw [Sem.run_bind,run_eqGuard_agg w .neq 32 x y _ _ Tryz.eqGuardType32,Result.andThen_ok,run_neq_struct]
 cases h1:(a==c)<;>cases h2:(b==d)<;>simp [go_sem,h1,h2,Tryz.underlying32,Tryz.stoodInHeld32,Tryz.underlying3]
theorem Rd.neqV {o:Oper} {x y:Operand} {t2:TypeId} (ho:o.op=.binOp .neq 32 x y t2) {ev:Operand→Value} {h:Hp} {K:Value→Prop} {a b c d:Int} (hx:ev x=.agg #[.int .i64 a,.int .i64 b]) (hy:ev y=.agg #[.int .i64 c,.int .i64 d]) (k:K (.bool (!(a==c&&b==d)))):Rd Tryz.prog (execOp ev o) h K:=by
 refine⟨_,fun w _=>?_,k⟩;unfold execOp;rw [ho];refine run_value _ w _ _ ?_;rw [hx,hy];exact neqV_run a b c d x y w
theorem Ext.neqV {o:Oper} {x y:Operand} {t2:TypeId} (ho:o.op=.binOp .neq 32 x y t2) {ev:Operand→Value} {h:Hp} {K:Option Value→Hp→Prop} {a b c d:Int} (hx:ev x=.agg #[.int .i64 a,.int .i64 b]) (hy:ev y=.agg #[.int .i64 c,.int .i64 d]) (k:K (some (.bool (!(a==c&&b==d)))) h):Ext Tryz.prog (execOp ev o) h K:=by
 refine Ext.val (.bool (!(a==c&&b==d))) (fun w=>?_) k;unfold execOp;rw [ho];refine run_value _ w _ _ ?_;rw [hx,hy];exact neqV_run a b c d x y w
theorem neqO_run (o:OpD) (x y:Operand) (w:World):(do eqGuard .neq 80 x y o.val o.val;binOp .neq 80 o.val o.val:Sem Value).run Tryz.prog w=.ok (.bool false) w:=by
 rw [Sem.run_bind,run_eqGuard_agg w .neq 80 x y _ _ Tryz.eqGuardType80,Result.andThen_ok,run_neq_struct];simp [go_sem,Tryz.underlying80,Tryz.stoodInHeld80,Tryz.underlying3,Tryz.underlying32,Tryz.stoodInHeld32]
theorem Rd.neqO {o:Oper} {x y:Operand} {t2:TypeId} (ho:o.op=.binOp .neq 80 x y t2) {ev:Operand→Value} {h:Hp} {K:Value→Prop} {a:OpD} (hx:ev x=a.val) (hy:ev y=a.val) (k:K (.bool false)):Rd Tryz.prog (execOp ev o) h K:=by
 refine⟨_,fun w _=>?_,k⟩;unfold execOp;rw [ho];refine run_value _ w _ _ ?_;rw [hx,hy];exact neqO_run a x y w
theorem Rd.loadOp {o:Oper} {y:Operand} (ho:o.op=.load 80 y) {ev:Operand→Value} {h:Hp} {K:Value→Prop} {v:Value} {L:List OpD} (hr:RowOk h (rowO v L)) {g cap:Nat} (hv:v=.slice (some ⟨g,0,none⟩) L.length cap) {i:Nat} (hi:i<L.length) (hy:ev y=.pointer (some ⟨g,0+i*6,none⟩)) (k:K (OpD.val L[i])):Rd Tryz.prog (execOp ev o) h K :=
 Rd.load tbE_ok rfl ho hr hv hy (by show 0+i*6+6≤L.length*6;omega) (OpD.val L[i]) (.inl ⟨rfl,by rw [Nat.zero_add];exact congrArg (fun l=>Value.agg (List.toArray l)) (flat_at encO 6 encO_len L i hi).symm⟩) k
theorem lvOps_same (a1 a2:Option Addr) (k1 k2:Nat) (L:List OpD) (hL:L.length<100000) (h:Hp) (h1:RowOk h (rowO (.slice a1 L.length k1) L)) (h2:RowOk h (rowO (.slice a2 L.length k2) L)) :
  Con Tryz.prog 50 #[.slice a1 L.length k1,.slice a2 L.length k2] h fun r h'=>r=.bool true∧h'=h:=by
 refine Con.of_W (tb:=tbE) (args:=[.slice a1 L.length k1,.slice a2 L.length k2]) Tryz.func50 rfl Tryz.results50 Tryz.ntmps50 (by simp) (Tryz.call50 _) (tm:=[(0,.v (.slice a1 L.length k1)),(1,.v (.slice a2 L.length k2))]) rfl ?_;refine vc_ok ⟨tbE_ok,_,Tryz.func50,Tryz.results50,Tryz.ntmps50⟩ 400 _ _ _ _ ?_;conv=>whnf
 refine⟨fun b1=>absurd b1 (by simp),fun _=>?_⟩;conv=>whnf
 refine W.cut [(5,.v (.int .i64 (0:Nat))),(0,.v (.slice a1 L.length k1)),(1,.v (.slice a2 L.length k2))] [] [] ⟨rfl,rfl,rfl,trivial⟩ rfl rfl ⟨_,rfl⟩ ?_;refine W.loop (α:=Nat) (fun i=>[(5,.v (.int .i64 (i:Nat))),(0,.v (.slice a1 L.length k1)),(1,.v (.slice a2 L.length k2))]) (fun _=>[]) (fun i h'=>i≤L.length∧h'=h) (fun i=>L.length-i) ?_ 0 h ⟨Nat.zero_le _,rfl⟩;rintro i h5 ⟨hi,rfl⟩ ih;refine vc_ok ⟨tbE_ok,_,Tryz.func50,Tryz.results50,Tryz.ntmps50⟩ 400 _ _ _ _ ?_;conv=>whnf
 refine⟨fun h6=>?_,fun h6=>?_⟩<;>conv=>whnf
 ·have hlt:i<L.length:=by simp at h6;omega
  obtain⟨g1,hva⟩:=row_some h1 (by omega);obtain⟨g2,hvb⟩:=row_some h2 (by omega);subst hva;subst hvb;refine W.draw [(0,true),(1,true),(2,true),(3,true),(4,true),(5,true),(6,true),(7,true),(8,true)] [] (some h5) 99 (by kernel_rfl) rfl (by kernel_rfl) mixed rfl (fun g e=>by cases e;exact Hp.le_refl _) ?_;refine vc_ok ⟨tbE_ok,_,Tryz.func50,Tryz.results50,Tryz.ntmps50⟩ 400 _ _ _ _ ?_;conv=>whnf
  refine Rd.index slOp.u slOp.size rfl rfl rfl i rfl hlt ?_;conv=>whnf
  refine Rd.loadOp rfl h1 rfl hlt rfl ?_;conv=>whnf
  refine Rd.index slOp.u slOp.size rfl rfl rfl i rfl hlt ?_;conv=>whnf
  refine Rd.loadOp rfl h2 rfl hlt rfl ?_;conv=>whnf
  refine Rd.neqO (a:=L[i]) rfl rfl rfl ?_;conv=>whnf
  refine⟨fun b2=>absurd b2 (by simp),fun _=>?_⟩;conv=>whnf
  have hwi:IntKind.i64.wrap ((i:Int)+1)=((i+1:Nat):Int):=by rw [wrapN _ (by omega) (by omega)];omega
  rw [hwi];exact W.back (ih (i+1) _ ⟨hlt,rfl⟩ (by omega)) [] (by exact⟨rfl,rfl,rfl,trivial⟩) rfl rfl
 ·exact⟨rfl,rfl⟩
theorem lvVals_same (a1 a2:Option Addr) (k1 k2:Nat) (L:List (Int×Int)) (hL:L.length<100000) (h:Hp) (h1:RowOk h (rowV (.slice a1 L.length k1) L)) (h2:RowOk h (rowV (.slice a2 L.length k2) L)) :
  Con Tryz.prog 34 #[.slice a1 L.length k1,.slice a2 L.length k2] h fun r h'=>r=.bool true∧h'=h:=by
 refine Con.of_W (tb:=tbE) (args:=[.slice a1 L.length k1,.slice a2 L.length k2]) Tryz.func34 rfl Tryz.results34 Tryz.ntmps34 (by simp) (Tryz.call34 _) (tm:=[(0,.v (.slice a1 L.length k1)),(1,.v (.slice a2 L.length k2))]) rfl ?_;refine vc_ok ⟨tbE_ok,_,Tryz.func34,Tryz.results34,Tryz.ntmps34⟩ 400 _ _ _ _ ?_;conv=>whnf
 refine⟨fun b1=>absurd b1 (by simp),fun _=>?_⟩;conv=>whnf
 refine W.cut [(5,.v (.int .i64 (0:Nat))),(0,.v (.slice a1 L.length k1)),(1,.v (.slice a2 L.length k2))] [] [] ⟨rfl,rfl,rfl,trivial⟩ rfl rfl ⟨_,rfl⟩ ?_;refine W.loop (α:=Nat) (fun i=>[(5,.v (.int .i64 (i:Nat))),(0,.v (.slice a1 L.length k1)),(1,.v (.slice a2 L.length k2))]) (fun _=>[]) (fun i h'=>i≤L.length∧h'=h) (fun i=>L.length-i) ?_ 0 h ⟨Nat.zero_le _,rfl⟩;rintro i h5 ⟨hi,rfl⟩ ih;refine vc_ok ⟨tbE_ok,_,Tryz.func34,Tryz.results34,Tryz.ntmps34⟩ 400 _ _ _ _ ?_;conv=>whnf
 refine⟨fun h6=>?_,fun h6=>?_⟩<;>conv=>whnf
 ·have hlt:i<L.length:=by simp at h6;omega
  obtain⟨g1,hva⟩:=row_some h1 (by omega);obtain⟨g2,hvb⟩:=row_some h2 (by omega);subst hva;subst hvb;refine W.draw [(0,true),(1,true),(2,true),(3,true),(4,true),(5,true),(6,true),(7,true),(8,true)] [] (some h5) 99 (by kernel_rfl) rfl (by kernel_rfl) mixed rfl (fun g e=>by cases e;exact Hp.le_refl _) ?_;refine vc_ok ⟨tbE_ok,_,Tryz.func34,Tryz.results34,Tryz.ntmps34⟩ 400 _ _ _ _ ?_;conv=>whnf
  refine Rd.index slVal.u slVal.size rfl rfl rfl i rfl hlt ?_;conv=>whnf
  refine Rd.loadVal rfl h1 rfl hlt rfl ?_;conv=>whnf
  refine Rd.index slVal.u slVal.size rfl rfl rfl i rfl hlt ?_;conv=>whnf
  refine Rd.loadVal rfl h2 rfl hlt rfl ?_;conv=>whnf
  refine Rd.neqV rfl rfl rfl ?_;conv=>whnf
  refine⟨fun b2=>absurd b2 (by simp),fun _=>?_⟩;conv=>whnf
  have hwi:IntKind.i64.wrap ((i:Int)+1)=((i+1:Nat):Int):=by rw [wrapN _ (by omega) (by omega)];omega
  rw [hwi];exact W.back (ih (i+1) _ ⟨hlt,rfl⟩ (by omega)) [] (by exact⟨rfl,rfl,rfl,trivial⟩) rfl rfl
 ·exact⟨rfl,rfl⟩
theorem lvRun_same (d:RunD) (p q:RunP) (hs:d.Sm) (h:Hp) (h1:RunIn h d p) (h2:RunIn h d q) :
  Con Tryz.prog 51 #[d.val p,d.val q] h fun r h'=>r=.bool true∧h'=h:=by
 refine Con.of_W (tb:=tbE) (args:=[d.val p,d.val q]) Tryz.func51 rfl Tryz.results51 Tryz.ntmps51 (by simp) (Tryz.call51 _) (tm:=[(0,.a (d.cells p)),(1,.a (d.cells q))]) rfl ?_;refine vc_ok ⟨tbE_ok,_,Tryz.func51,Tryz.results51,Tryz.ntmps51⟩ 400 _ _ _ _ ?_;conv=>whnf
 refine⟨fun _=>?_,fun h3=>absurd h3 (by simp)⟩;conv=>whnf
 refine⟨fun _=>?_,fun h3=>absurd h3 (by simp)⟩;conv=>whnf
 refine⟨fun _=>?_,fun h3=>absurd h3 (by simp)⟩;conv=>whnf
 refine⟨fun _=>?_,fun h3=>absurd h3 (by simp)⟩;conv=>whnf
 refine⟨fun _=>?_,fun h3=>absurd h3 (by simp)⟩;conv=>whnf
 refine Ext.neqB rfl rfl rfl ?_;conv=>whnf
 refine⟨fun _=>?_,fun h3=>absurd h3 (by simp)⟩;conv=>whnf
 refine Ext.neqV rfl rfl rfl ?_;conv=>whnf
 refine⟨fun _=>?_,fun h3=>absurd h3 (by simp)⟩;conv=>whnf
 refine⟨fun h3=>absurd h3 (by simp),fun _=>?_⟩;conv=>whnf
 refine(lvVals_same p.a0 q.a0 p.k0 q.k0 d.slots (by have:=hs.s0;omega) h h1.r0 h2.r0).mono ?_;rintro r h' ⟨rfl,rfl⟩;conv=>whnf
 refine⟨fun _=>?_,fun h3=>absurd h3 (by simp)⟩;conv=>whnf
 refine(lvVals_same p.a1 q.a1 p.k1 q.k1 d.mail (by have:=hs.s1;omega) h' h1.r1 h2.r1).mono ?_;rintro r h' ⟨rfl,rfl⟩;conv=>whnf
 refine⟨fun _=>?_,fun h3=>absurd h3 (by simp)⟩;conv=>whnf
 refine(lvInts_con p.a2 q.a2 p.k2 q.k2 d.links d.links (by have:=hs.s2;omega) h' h1.r2 h2.r2).mono ?_;rintro r h' ⟨rfl,rfl⟩;rw [decide_eq_true (rfl:d.links=d.links)];conv=>whnf
 refine⟨fun _=>?_,fun h3=>absurd h3 (by simp)⟩;conv=>whnf
 refine(lvInts_con p.a3 q.a3 p.k3 q.k3 d.wat d.wat (by have:=hs.s3;omega) h' h1.r3 h2.r3).mono ?_;rintro r h' ⟨rfl,rfl⟩;rw [decide_eq_true (rfl:d.wat=d.wat)];conv=>whnf
 exact⟨rfl,rfl⟩
theorem lvWorld_same (D E:WD) (he:D.pure=E.pure) (hs:D.pure.Sm) (h:Hp) (h1:WIn h D) (h2:WIn h E) :
  Con Tryz.prog 20 #[D.val,E.val] h fun r h'=>r=.bool true∧h'=h:=by
 have e1:E.code=D.code:=(congrArg PW.code he).symm;have e2:E.queue=D.queue:=(congrArg PW.queue he).symm;have e3:E.now=D.now:=(congrArg PW.now he).symm;have e4:E.sent=D.sent:=(congrArg PW.sent he).symm;have e5:E.taken=D.taken:=(congrArg PW.taken he).symm;have e6:E.lost=D.lost:=(congrArg PW.lost he).symm;have hrr:D.runs.map (·.1)=E.runs.map (·.1):=congrArg PW.runs he;have hlen:E.runs.length=D.runs.length:=by have:=congrArg List.length hrr;simpa using this.symm
 have hr1:RowOk h (rowR D.rv D.runs):=h1.runs;have hr2:RowOk h (rowR E.rv E.runs):=h2.runs;have hn:D.runs.length≤1000:=by have:=hs.runs;rw [pure_len] at this;exact this
 have hcE:RowOk h (rowO (.slice E.ca D.code.length E.ck) D.code):=by have:=h2.code;rw [WD.cv,e1] at this;exact this
 have hqE:RowOk h (rowI (.slice E.qa D.queue.length E.qk) D.queue):=by have:=h2.queue;rw [WD.qv,e2] at this;exact this
 have hv2:E.cells=[.slice E.ca D.code.length E.ck,E.rv,.slice E.qa D.queue.length E.qk,.int .i64 D.now,.int .i64 D.sent,.int .i64 D.taken,.int .i64 D.lost]:=by
  rw [WD.cells,WD.cv,WD.qv,e1,e2,e3,e4,e5,e6]
 have hval:E.val=.agg #[.slice E.ca D.code.length E.ck,E.rv,.slice E.qa D.queue.length E.qk,.int .i64 D.now,.int .i64 D.sent,.int .i64 D.taken,.int .i64 D.lost]:=by rw [WD.val,hv2]
 rw [hval];refine Con.of_W (tb:=tbE) (args:=[D.val,.agg #[.slice E.ca D.code.length E.ck,E.rv,.slice E.qa D.queue.length E.qk,.int .i64 D.now,.int .i64 D.sent,.int .i64 D.taken,.int .i64 D.lost]]) Tryz.func20 rfl Tryz.results20 Tryz.ntmps20 (by simp) (Tryz.call20 _) (tm:=[(0,.a D.cells),(1,.a [.slice E.ca D.code.length E.ck,E.rv,.slice E.qa D.queue.length E.qk,.int .i64 D.now,.int .i64 D.sent,.int .i64 D.taken,.int .i64 D.lost])]) rfl ?_;refine vc_ok ⟨tbE_ok,_,Tryz.func20,Tryz.results20,Tryz.ntmps20⟩ 400 _ _ _ _ ?_;conv=>whnf
 refine(lvOps_same D.ca E.ca D.ck E.ck D.code (by have:=hs.code;show D.code.length<100000;exact Nat.lt_of_le_of_lt this (by decide)) h h1.code hcE).mono ?_;rintro r h' ⟨rfl,rfl⟩;conv=>whnf
 refine⟨fun _=>?_,fun h3=>absurd h3 (by simp)⟩;conv=>whnf
 rw [hlen];conv=>whnf
 refine⟨fun _=>?_,fun h3=>absurd h3 (by simp)⟩;conv=>whnf
 refine(lvInts_con D.qa E.qa D.qk E.qk D.queue D.queue (by have:=hs.queue;show D.queue.length<100000;exact Nat.lt_of_le_of_lt this (by decide)) h' h1.queue hqE).mono ?_;rintro r h' ⟨rfl,rfl⟩;rw [decide_eq_true (rfl:D.queue=D.queue)];conv=>whnf
 refine⟨fun _=>?_,fun h3=>absurd h3 (by simp)⟩;conv=>whnf
 refine⟨fun _=>?_,fun h3=>absurd h3 (by simp)⟩;conv=>whnf
 refine⟨fun _=>?_,fun h3=>absurd h3 (by simp)⟩;conv=>whnf
 refine⟨fun _=>?_,fun h3=>absurd h3 (by simp)⟩;conv=>whnf
 refine⟨fun h3=>absurd h3 (by simp),fun _=>?_⟩;conv=>whnf
 refine W.cut [(5,.v (.int .i64 (0:Nat))),(2,.p 0 0),(3,.p 1 0)] [⟨27,D.cells⟩,⟨27,[.slice E.ca D.code.length E.ck,E.rv,.slice E.qa D.queue.length E.qk,.int .i64 D.now,.int .i64 D.sent,.int .i64 D.taken,.int .i64 D.lost]⟩] [] ⟨rfl,rfl,rfl,trivial⟩ rfl rfl ⟨_,rfl⟩ ?_;refine W.loop (α:=Nat) (fun i=>[(5,.v (.int .i64 (i:Nat))),(2,.p 0 0),(3,.p 1 0)]) (fun _=>[⟨27,D.cells⟩,⟨27,[.slice E.ca D.code.length E.ck,E.rv,.slice E.qa D.queue.length E.qk,.int .i64 D.now,.int .i64 D.sent,.int .i64 D.taken,.int .i64 D.lost]⟩]) (fun i h''=>i≤D.runs.length∧h''=h') (fun i=>D.runs.length-i) ?_ 0 h' ⟨Nat.zero_le _,rfl⟩;rintro i h5 ⟨hi,rfl⟩ ih;refine vc_ok ⟨tbE_ok,_,Tryz.func20,Tryz.results20,Tryz.ntmps20⟩ 400 _ _ _ _ ?_;conv=>whnf
 refine⟨fun h6=>?_,fun h6=>?_⟩<;>conv=>whnf
 ·have hlt:i<D.runs.length:=by simp at h6;omega
  have hltE:i<E.runs.length:=by omega
  obtain⟨g1,ha1⟩:=row_some hr1 (by omega);obtain⟨g2,ha2⟩:=row_some hr2 (by omega);have hv1:D.rv=.slice (some ⟨g1,0,none⟩) D.runs.length D.rk:=by rw [WD.rv,ha1]
  have hv2:E.rv=.slice (some ⟨g2,0,none⟩) E.runs.length E.rk:=by rw [WD.rv,ha2]
  have hsame:E.runs[i].1=D.runs[i].1:=by
   have h7:(D.runs.map (·.1))[i]?=(E.runs.map (·.1))[i]?:=by rw [hrr]
   rw [List.getElem?_map,List.getElem?_map,List.getElem?_eq_getElem hlt,List.getElem?_eq_getElem hltE] at h7;simpa using h7.symm
  refine W.draw [(0,true),(1,true),(2,true),(3,true),(4,true),(5,true),(6,true),(7,true),(8,true),(9,true),(10,false),(11,true)] [0,1] (some h5) 99 (by kernel_rfl) rfl (by kernel_rfl) mixed rfl (fun g e=>by cases e;exact Hp.le_refl _) ?_;refine vc_ok ⟨tbE_ok,_,Tryz.func20,Tryz.results20,Tryz.ntmps20⟩ 400 _ _ _ _ ?_;conv=>whnf
  refine Rd.index slRun.u slRun.size rfl (by exact hv1) rfl i rfl hlt ?_;conv=>whnf
  refine Rd.load tbE_ok rfl rfl hr1 hv1 rfl (by show 0+i*13+13≤D.runs.length*13;omega) (D.runs[i].1.val D.runs[i].2) (.inl ⟨rfl,by rw [Nat.zero_add];exact congrArg (fun l=>Value.agg (List.toArray l)) (flat_at encR 13 encR_len D.runs i hlt).symm⟩) ?_;conv=>whnf
  refine Rd.index slRun.u slRun.size rfl (by exact hv2) rfl i rfl hltE ?_;conv=>whnf
  refine Rd.load tbE_ok rfl rfl hr2 hv2 rfl (by show 0+i*13+13≤E.runs.length*13;omega) (E.runs[i].1.val E.runs[i].2) (.inl ⟨rfl,by rw [Nat.zero_add];exact congrArg (fun l=>Value.agg (List.toArray l)) (flat_at encR 13 encR_len E.runs i hltE).symm⟩) ?_;have hE:=h2.each i hltE;rw [hsame] at hE ⊢;conv=>whnf
  refine(lvRun_same D.runs[i].1 D.runs[i].2 E.runs[i].2 (hs.each _ (pure_mem hlt)) h5 (h1.each i hlt) hE).mono ?_;rintro r h5 ⟨rfl,rfl⟩;conv=>whnf
  refine⟨Hp.le_refl _,?_⟩;conv=>whnf
  refine⟨fun h3=>absurd h3 (by simp),fun _=>?_⟩;conv=>whnf
  have hwi:IntKind.i64.wrap ((i:Int)+1)=((i+1:Nat):Int):=by rw [wrapN _ (by omega) (by omega)];omega
  rw [hwi];exact W.back (ih (i+1) _ ⟨hlt,rfl⟩ (by omega)) [] (by exact⟨rfl,rfl,rfl,trivial⟩) rfl rfl
 ·exact⟨rfl,rfl⟩
theorem Ext.pushVs {o:Oper} {s y:Operand} (ho:o.op=.call { callee:=.builtin .append,args:=#[s,y],argTypes:=#[30,30] }) {ev:Operand→Value} {h:Hp} {K:Option Value→Hp→Prop} {l:List Atom} {tv v:Value} {L M:List (Int×Int)}
  (hown:Own h (.row (rowV v L)::l)) (hm:RowOk h (rowV tv M)) (hs:ev s=v) (hy:ev y=tv) (hn:L.length+M.length<1000000) (k:∀a c h',Own h' (.row (rowV (.slice a (L++M).length c) (L++M))::l)→K (some (.slice a (L++M).length c)) h'):Ext Tryz.prog (execOp ev o) h K:=by
 refine Ext.append slVal ho hown rfl rfl hs hy (RowOk.src (r:=rowV tv M) hm (fun u hu=>by obtain⟨x,_,hx⟩:=List.mem_flatMap.1 hu;exact one_val x u hx)) (by show (L.length+M.length)*16≤_;omega) (by show L.length+M.length≤_;unfold maxLen;omega) fun v' h' ho1=>?_
 have e:(⟨32,2,v',L.length+M.length,L.flatMap encV++M.flatMap encV⟩:Row)=rowV v' (L++M):=by simp [rowV]
 have ho2:Own h' (.row (rowV v' (L++M))::l):=by rw [←e];exact ho1
 obtain⟨a,c,hv⟩:=RowOk.form' (ho2.ok _ List.mem_cons_self);dsimp only at hv;subst hv;exact k a c h' ho2
theorem Ext.litV0 {o:Oper} (ho:o.op=.buildSlice 30 0 #[]) {ev:Operand→Value} {h:Hp} {K:Option Value→Hp→Prop} {l:List Atom} (hown:Own h l) (k:∀g h',h.le h'→Own h' (.row (rowV (.slice (some ⟨g,0,none⟩) 0 0) [])::l)→K (some (.slice (some ⟨g,0,none⟩) 0 0)) h'):Ext Tryz.prog (execOp ev o) h K :=
 Ext.buildSlice slVal ho hown [] (fun w=>⟨_,Tryz.zeroValue32 w,by kernel_rfl⟩) [] rfl rfl (by decide) k
theorem l11Copy_con (d:RunD) (p:RunP) (hs:d.Sm) (h:Hp) (l:List Atom) (ho:Own h (runRows (d,p)++l)) :
  Con Tryz.prog 84 #[d.val p] h fun r h'=>∃q,r=d.val q∧Own h' (runRows (d,q)++(runRows (d,p)++l)):=by
 have s0:=hs.s0;have s1:=hs.s1;have s2:=hs.s2;have s3:=hs.s3;refine Con.of_W (tb:=tbE) (args:=[d.val p]) Tryz.func84 rfl Tryz.results84 Tryz.ntmps84 (by simp) (Tryz.call84 _) (tm:=[(0,.a (d.cells p))]) rfl ?_;refine vc_ok ⟨tbE_ok,_,Tryz.func84,Tryz.results84,Tryz.ntmps84⟩ 400 _ _ _ _ ?_;conv=>whnf
 refine Ext.litV0 rfl ho fun g1 h1 _ ho1=>?_
 conv=>whnf
 refine Ext.pushVs (M:=d.slots) (tv:=.slice p.a0 d.slots.length p.k0) rfl ho1 (ho1.rowOk (by simp [runRows])) rfl rfl (by simp;omega) fun a0 k0 h2 ho2=>?_
 conv=>whnf
 refine Ext.litV0 rfl ho2 fun g1 h1 _ ho1=>?_
 conv=>whnf
 refine Ext.pushVs (M:=d.mail) (tv:=.slice p.a1 d.mail.length p.k1) rfl ho1 (ho1.rowOk (by simp [runRows])) rfl rfl (by simp;omega) fun a1 k1 h3 ho3=>?_
 conv=>whnf
 refine Ext.litI0 rfl ho3 fun g1 h1 _ ho1=>?_
 conv=>whnf
 refine Ext.pushIs (M:=d.links) (tv:=.slice p.a2 d.links.length p.k2) rfl ho1 (ho1.rowOk (by simp [runRows])) rfl rfl (by simp;omega) fun a2 k2 h4 ho4=>?_
 conv=>whnf
 refine Ext.litI0 rfl ho4 fun g1 h1 _ ho1=>?_
 conv=>whnf
 refine Ext.pushIs (M:=d.wat) (tv:=.slice p.a3 d.wat.length p.k3) rfl ho1 (ho1.rowOk (by simp [runRows])) rfl rfl (by simp;omega) fun a3 k3 h5 ho5=>?_
 conv=>whnf
 have ho6:Own h5 (.row (rowI (.slice a3 d.wat.length k3) d.wat)::.row (rowI (.slice a2 d.links.length k2) d.links)::.row (rowV (.slice a1 d.mail.length k1) d.mail)::.row (rowV (.slice a0 d.slots.length k0) d.slots)::(runRows (d,p)++l)):=ho5;refine⟨⟨a0,k0,a1,k1,a2,k2,a3,k3⟩,rfl,ho6.perm (perm_of fun x=>?_)⟩;simp only [runRows,List.count_append,List.count_cons,List.count_nil];omega
theorem Ext.litO0 {o:Oper} (ho:o.op=.buildSlice 23 0 #[]) {ev:Operand→Value} {h:Hp} {K:Option Value→Hp→Prop} {l:List Atom} (hown:Own h l) (k:∀g h',h.le h'→Own h' (.row (rowO (.slice (some ⟨g,0,none⟩) 0 0) [])::l)→K (some (.slice (some ⟨g,0,none⟩) 0 0)) h'):Ext Tryz.prog (execOp ev o) h K:=Ext.nilO ho hown k
theorem w_runs (D:WD) (i:Nat) (hi:i<D.runs.length) (A l:List Atom):(A++(wAtoms D++l)).Perm (runRows D.runs[i]++(.row (rowR D.rv D.runs)::(A++wOth D i l))):=by
 refine(List.Perm.append_left A (w_perm D i hi l)).trans (perm_of fun x=>?_);simp only [List.count_append,List.count_cons];omega
theorem l12Copy_con (D:WD) (hsm:D.pure.Sm) (h:Hp) (l:List Atom) (ho:Own h (wAtoms D++l)) :
  Con Tryz.prog 52 #[D.val] h fun r h'=>∃D',r=D'.val∧D'.pure=D.pure∧Own h' (wAtoms D'++(wAtoms D++l)):=by
 have hn:D.runs.length≤1000:=by have:=hsm.runs;rw [pure_len] at this;exact this
 have hC:D.code.length≤1000:=hsm.code;have hQ:D.queue.length≤1000:=hsm.queue;have hlenP:=pure_len D;have hwin:∀{h':Hp} {L:List Atom},Own h' L→(∀x∈wAtoms D,x∈L)→WIn h' D:=fun o hm=>o.win hm
 refine Con.of_W (tb:=tbE) (args:=[D.val]) Tryz.func52 rfl Tryz.results52 Tryz.ntmps52 (by simp) (Tryz.call52 _) (tm:=[(0,.a D.cells)]) rfl ?_;refine vc_ok ⟨tbE_ok,_,Tryz.func52,Tryz.results52,Tryz.ntmps52⟩ 400 _ _ _ _ ?_;conv=>whnf
 refine Ext.litR0 rfl ho fun g0 h0 _ ho0=>?_
 conv=>whnf
 refine W.cut [(4,.v (.int .i64 (0:Nat))),(3,.v (.slice (some ⟨g0,0,none⟩) 0 0)),(2,.p 1 0),(1,.p 0 0)] [⟨27,D.cells⟩,⟨27,[.slice none 0 0,.slice none 0 0,.slice none 0 0,.int .i64 0,.int .i64 0,.int .i64 0,.int .i64 0]⟩] [] ⟨rfl,rfl,rfl,rfl,trivial⟩ rfl rfl ⟨_,rfl⟩ ?_;refine W.loop (α:=Nat×List (RunD×RunP)×Option Addr×Nat) (fun x=>[(4,.v (.int .i64 (x.1:Nat))),(3,.v (.slice x.2.2.1 x.2.1.length x.2.2.2)),(2,.p 1 0),(1,.p 0 0)]) (fun _=>[⟨27,D.cells⟩,⟨27,[.slice none 0 0,.slice none 0 0,.slice none 0 0,.int .i64 0,.int .i64 0,.int .i64 0,.int .i64 0]⟩])
  (fun x h'=>x.1≤D.runs.length∧x.2.1.map (·.1)=(D.runs.take x.1).map (·.1)∧Own h' (.row (rowR (.slice x.2.2.1 x.2.1.length x.2.2.2) x.2.1)::(x.2.1.flatMap runRows++(wAtoms D++l)))) (fun x=>D.runs.length-x.1) ?_ (0,[],some ⟨g0,0,none⟩,0) h0 ⟨Nat.zero_le _,rfl,ho0⟩
 rintro⟨i,out,oa,ok⟩ h5 ⟨hi,hout,ho5⟩ ih;dsimp only at hi hout ho5 ⊢;have hol:out.length=i:=by have:=congrArg List.length hout;simp at this;omega
 have hw5:WIn h5 D:=hwin ho5 fun x hx=>List.mem_cons_of_mem _ (List.mem_append_right _ (List.mem_append_left _ hx))
 refine vc_ok ⟨tbE_ok,_,Tryz.func52,Tryz.results52,Tryz.ntmps52⟩ 400 _ _ _ _ ?_;conv=>whnf
 refine⟨fun h6=>?_,fun h6=>?_⟩<;>conv=>whnf
 ·have hlt:i<D.runs.length:=by simp at h6;omega
  obtain⟨g,hra⟩:=row_some hw5.runs (by omega);have hv:D.rv=.slice (some ⟨g,0,none⟩) D.runs.length D.rk:=by rw [WD.rv,hra]
  have hr5:RowOk h5 (rowR D.rv D.runs):=hw5.runs;refine Ext.index slRun.u slRun.size rfl (by exact hv) rfl i rfl hlt ?_;conv=>whnf
  refine Ext.loadRun rfl hr5 hv hlt rfl ?_;conv=>whnf
  have hwi:IntKind.i64.wrap ((i:Int)+1)=((i+1:Nat):Int):=by rw [wrapN _ (by omega) (by omega)];omega
  refine(l11Copy_con D.runs[i].1 D.runs[i].2 (hsm.each _ (pure_mem hlt)) h5 _ (ho5.perm (w_runs D i hlt (.row (rowR (.slice oa out.length ok) out)::out.flatMap runRows) l))).mono ?_;rintro r h7 ⟨q,rfl,ho7⟩;conv=>whnf
  refine Ext.litR rfl ho7 (D.runs[i].1,q) rfl fun g8 h8 _ ho8=>?_
  conv=>whnf
  have ho9:Own h8 (.row ⟨34,13,.slice (some ⟨g8,0,none⟩) 1 1,1,encR (D.runs[i].1,q)⟩::.row (rowR (.slice oa out.length ok) out)::((out++[(D.runs[i].1,q)]).flatMap runRows++(wAtoms D++l))):=ho8.perm (List.Perm.cons _ ((List.Perm.append_left _ (w_runs D i hlt (.row (rowR (.slice oa out.length ok) out)::out.flatMap runRows) l).symm).trans (perm_of fun x=>by simp only [List.flatMap_append,List.flatMap_cons,List.flatMap_nil,List.append_nil,List.count_append,List.count_cons];omega)));refine Ext.pushR rfl ho9 rfl rfl (by omega) fun a9 k9 h9 ho10=>?_
  conv=>whnf
  rw [hwi];exact W.back (ih (i+1,out++[(D.runs[i].1,q)],a9,k9) h9 ⟨hlt,by dsimp only;rw [List.map_append,hout,List.take_succ_eq_append_getElem hlt,List.map_append];rfl,ho10⟩ (by dsimp only;omega)) [] (by exact⟨rfl,rfl,rfl,rfl,trivial⟩) rfl rfl
 ·have hge:i=D.runs.length:=by simp at h6;omega
  have hpr:out.map (·.1)=D.runs.map (·.1):=by rw [hout,hge,List.take_length]
  refine Ext.litO0 rfl ho5 fun g7 h7 _ ho7=>?_
  conv=>whnf
  refine Ext.pushOs (L:=[]) (M:=D.code) (tv:=D.cv) rfl ho7 (by simp [wAtoms]) rfl rfl (by simp;omega) fun ca ck h8 ho8=>?_
  conv=>whnf
  refine Ext.litI0 rfl ho8 fun g9 h9 _ ho9=>?_
  conv=>whnf
  refine Ext.pushIs (M:=D.queue) (tv:=D.qv) rfl ho9 (ho9.rowOk (by simp [wAtoms])) rfl rfl (by simp;omega) fun qa qk h10 ho10=>?_
  conv=>whnf
  have ho11:Own h10 (.row (rowI (.slice qa D.queue.length qk) D.queue)::.row (rowO (.slice ca D.code.length ck) D.code)::.row (rowR (.slice oa out.length ok) out)::(out.flatMap runRows++(wAtoms D++l))):=ho10;refine⟨⟨D.code,out,D.queue,D.now,D.sent,D.taken,D.lost,ca,ck,oa,ok,qa,qk⟩,?_,?_,ho11.perm (perm_of fun x=>?_)⟩
  ·rfl
  ·simp only [WD.pure,hpr]
  ·simp only [wAtoms,WD.cv,WD.rv,WD.qv,List.count_append,List.count_cons];omega
def escT (n g:Nat):Tm→Tm
 |[]=>[]
 |(i,.inr (.inr (.inl (j,o))))::r=>match Nat.beq j n with
  |true=>(i,.inl (.pointer (some ⟨g,o,none⟩)))::escT n g r
  |false=>(i,.inr (.inr (.inl (j,o))))::escT n g r
 |(i,.inl x)::r=>(i,.inl x)::escT n g r
 |(i,.inr (.inl x))::r=>(i,.inr (.inl x))::escT n g r
 |(i,.inr (.inr (.inr x)))::r=>(i,.inr (.inr (.inr x)))::escT n g r
theorem escT_look (n g:Nat):∀(tm:Tm) (i:Nat) (s:SV),look (escT n g tm) i=some s→∃t,look tm i=some t∧((s=t∧∀o,t≠.p n o)∨∃o,t=.p n o∧s=.v (.pointer (some ⟨g,o,none⟩)))
 |[],i,s,e=>by cases e
 |(k,x)::r,i,s,e=>by
  have ih:=escT_look n g r i s;rcases x with x|x|⟨j,o⟩|x
  ·simp only [escT,look_cons] at e ⊢;by_cases hk:k=i
   ·rw [if_pos hk] at e ⊢
    cases e
    exact⟨_,rfl,.inl ⟨rfl,fun o e=>(by cases e)⟩⟩
   ·rw [if_neg hk] at e ⊢;exact ih e
  ·simp only [escT,look_cons] at e ⊢;by_cases hk:k=i
   ·rw [if_pos hk] at e ⊢
    cases e
    exact⟨_,rfl,.inl ⟨rfl,fun o e=>(by cases e)⟩⟩
   ·rw [if_neg hk] at e ⊢;exact ih e
  ·simp only [escT] at e
   split at e
   ·rename_i hj
    have hj':=Nat.eq_of_beq_eq_true hj;subst hj';simp only [look_cons] at e ⊢;by_cases hk:k=i
    ·rw [if_pos hk] at e ⊢
     cases e
     exact⟨_,rfl,.inr ⟨o,rfl,rfl⟩⟩
    ·rw [if_neg hk] at e ⊢;exact ih e
   ·rename_i hj
    simp only [look_cons] at e ⊢;by_cases hk:k=i
    ·rw [if_pos hk] at e ⊢
     cases e
     refine⟨_,rfl,.inl ⟨rfl,fun o' e'=>?_⟩⟩
     cases e'
     simp at hj
    ·rw [if_neg hk] at e ⊢;exact ih e
  ·simp only [escT,look_cons] at e ⊢;by_cases hk:k=i
   ·rw [if_pos hk] at e ⊢
    cases e
    exact⟨_,rfl,.inl ⟨rfl,fun o e=>(by cases e)⟩⟩
   ·rw [if_neg hk] at e ⊢;exact ih e
theorem Sat.escape {c:Cx} {ρ:Nat→Nat} {tm:Tm} {bx':List Bx} {B:Bx} {h0 h:Hp} {w0 w:World} {a:Act} (hs:Sat c ρ tm (bx'++[B]) h0 w0 h a w) :
  h (ρ bx'.length)=none∧Sat c ρ (escT bx'.length (ρ bx'.length) tm) bx' h0 w0 (h.put (ρ bx'.length) (.cells B.cs.toArray B.ty (0,0))) a w:=by
 have hlen:(bx'++[B]).length=bx'.length+1:=by simp
 have hno:h (ρ bx'.length)=none:=hs.boxes.no _ (by omega);have hat:w.heap[ρ bx'.length]?=some (.cells B.cs.toArray B.ty (0,0)):=hs.boxes.at_ bx'.length B (by simp);have hne:∀i,i<bx'.length→ρ i≠ρ bx'.length:=fun i hi e=>by
  have:=hs.boxes.inj i bx'.length (by omega) (by omega) e;omega
 refine⟨hno,hs.size,hs.defers,⟨fun i s e=>?_,fun i j o e=>?_⟩,⟨fun i X hX=>?_,fun i hi=>?_,fun i hi=>hs.boxes.high i (by omega),fun i j hi hj=>hs.boxes.inj i j (by omega) (by omega)⟩,fun b o e=>?_,⟨hs.fr.os,hs.fr.tape,hs.fr.output,hs.fr.size,fun b hb e=>?_⟩⟩
 ·obtain⟨t,ht,⟨rfl,_⟩|⟨o,rfl,rfl⟩⟩:=escT_look _ _ tm i s e
  ·exact hs.holds.at_ i _ ht
  ·have h1:=hs.holds.at_ i _ ht;exact h1
 ·obtain⟨t,ht,⟨rfl,hn⟩|⟨o',_,he⟩⟩:=escT_look _ _ tm i _ e
  ·have h1:=hs.holds.low i j o ht;have h2:j≠bx'.length:=fun e=>hn o (by rw [e])
   omega
  ·cases he
 ·have hi:i<bx'.length:=by
   rcases Nat.lt_or_ge i bx'.length with h1|h1
   ·exact h1
   ·rw [List.getElem?_eq_none h1] at hX;cases hX
  exact hs.boxes.at_ i X (by rw [List.getElem?_append_left hi];exact hX)
 ·rw [Hp.put_ne _ _ (hne i hi)];exact hs.boxes.no i (by omega)
 ·by_cases hb:b=ρ bx'.length
  ·subst hb;rw [Hp.put_same] at e;cases e;exact hat
  ·rw [Hp.put_ne _ _ hb] at e;exact hs.inh b o e
 ·obtain⟨h1,h2⟩:=hs.fr.priv b hb e;have hge:=hs.boxes.high bx'.length (by omega);exact⟨h1,by rw [Hp.put_ne _ _ (by omega)];exact h2⟩
theorem W.escape {c:Cx} {k:List Item} {tm:Tm} {bx:List Bx} {h:Hp} (bx':List Bx) (B:Bx) (hbx:bx=bx'++[B]) (hw:∀g,h g=none→W c (.todo k) (escT bx'.length g tm) bx' (h.put g (.cells B.cs.toArray B.ty (0,0)))):W c (.todo k) tm bx h:=by
 subst hbx;refine⟨fun h0 w0 ρ a w hs=>?_⟩;obtain⟨h1,h2⟩:=hs.escape;exact(hw _ h1).run h0 w0 ρ a w h2
abbrev one (e:TypeId) (sz g:Nat) (xs:List Value):Row:=⟨e,sz,.slice (some ⟨g,0,none⟩) 1 1,1,xs⟩
theorem Own.escape {h:Hp} {l:List Atom} (ho:Own h l) {g:Nat} (hg:h g=none) (e:TypeId) (xs:List Value):Own (h.put g (.cells xs.toArray e (0,0))) (.row (one e xs.length g xs)::l) :=
 ho.add ⟨by simp,.inr ⟨g,1,xs.toArray,rfl,Hp.put_same _ _ _,Nat.le_refl _,by decide,by simp,by simp⟩⟩ (fun b e=>by cases e;exact hg) (fun b e=>Hp.put_ne _ _ fun e2=>e (by subst e2;rfl))
end Go.Proofs.YtgmkmeodimmdoaaGreatDoor
