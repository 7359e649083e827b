import Derived.Test.YtgmkmeodimmdoaaGreatDoorBSo
namespace Go.Proofs.YtgmkmeodimmdoaaGreatDoor
open Go.RowKit
set_option maxRecDepth 100000
def tbF:Tb:=tbG++[(96,⟨5,true,[.pointer none,.int .i64 0,.int .i64 0,.slice none 0 0,.slice none 0 0],[(0,1),(1,2),(3,1),(4,1)],0⟩),(94,⟨1,false,[.slice none 0 0],[],1⟩),(1,⟨1,false,[.nilFunc],[],0⟩),(92,⟨1,false,[.pointer none],[],0⟩),(60,⟨1,false,[.pointer none],[],0⟩),(165,⟨1,false,[.pointer none],[],0⟩)]
theorem tbF_ok:TbOk Tryz.prog tbF:=by unfold TbOk;kernel_rfl
theorem slFn:SlTy Tryz.prog 94 1 1 8:=⟨Tryz.underlying94,⟨_,_,Tryz.type1,rfl,rfl,rfl,rfl⟩,by decide⟩
def keepB (h:Hp) (bs:List Nat):Hp:=fun b=>if b∈bs then h b else none
theorem keep_le {h h':Hp} {bs:List Nat} (k:∀b∈bs,∀o,h b=some o→h' b=some o):(keepB h bs).le h':=fun b o e=>by
 unfold keepB at e
 split at e
 ·rename_i hb;exact k b hb o e
 ·cases e
theorem keep_at {h:Hp} {bs:List Nat} {b:Nat} (hb:b∈bs):keepB h bs b=h b:=if_pos hb
theorem Ext.sliceHi {P:Program} {t e:TypeId} {sz bytes:Nat} (st:SlTy P t e sz bytes) {o:Oper} {x y:Operand} (ho:o.op=.slice t x none (some y) none) {ev:Operand→Value} {h:Hp} {K:Option Value→Hp→Prop} {g n cap:Nat} (hx:ev x=.slice (some ⟨g,0,none⟩) n cap) (k:Nat) (hk:k≤cap) (hy:ev y=.int .i64 (k:Int)) (hK:K (some (.slice (some ⟨g,0,none⟩) k cap)) h):Ext P (execOp ev o) h K:=by
 have hop:execOp ev o=(do pure (Next.value (←Instr.sliceAt t (ev x) none (some (ev y)) none)):Sem Next):=by unfold execOp;rw [ho];rfl
 rw [hop,hx,hy];refine Ext.value _ (fun w _=>?_) hK;simp [Instr.sliceAt,Instr.slice,Instr.sliceBounds,Instr.sliceBound,asIntOf,run_underlying st.u,st.size,hk,Addr.add]
abbrev ClD:=Nat×Nat×Int
def clos (x:ClD):Value:=.func (.func 114) #[] #[.pointer (some ⟨x.1,0,none⟩),.pointer (some ⟨x.2.1,0,none⟩)]
def encC (x:ClD):List Value:=[clos x]
theorem encC_len (x:ClD):(encC x).length=1:=rfl
theorem one_clos (x:ClD):∀u∈encC x,u.oneCell'=true:=by intro u hu;rw [List.mem_singleton.1 hu];rfl
abbrev rowC (v:Value) (L:List ClD):Row:=⟨1,1,v,L.length,L.flatMap encC⟩
theorem Own.nilC {h:Hp} {l:List Atom} (o:Own h l):Own h (.row (rowC (.slice none 0 0) [])::l):=o.add ⟨rfl,.inl ⟨rfl,rfl⟩⟩ (fun g e=>by cases e) (fun _ _=>rfl)
theorem Ext.makeFunc {P:Program} {o:Oper} {f:Go.Fn} {fi ca:List Operand} (ho:o.op=.makeFunc f fi.toArray ca.toArray) {ev:Operand→Value} {h:Hp} {K:Option Value→Hp→Prop} (k:K (some (.func f (fi.map ev).toArray (ca.map ev).toArray)) h):Ext P (execOp ev o) h K:=by
 have hop:execOp ev o=(do pure (Next.value (←Instr.makeFunc f (fi.toArray.map ev) (ca.toArray.map ev))):Sem Next):=by unfold execOp;rw [ho]
 rw [hop,List.map_toArray,List.map_toArray];exact Ext.value _ (fun w _=>rfl) k
def someF:Value→Bool
 |.nilFunc=>false
 |_=>true
theorem neqF_run (v:Value) (hv:(∃x,v=clos x)∨v=.nilFunc) (x y:Operand) (w:World):(do eqGuard .neq 1 x y v .nilFunc;binOp .neq 1 v .nilFunc:Sem Value).run Tryz.prog w=.ok (.bool (someF v)) w:=by
 rcases hv with⟨z,rfl⟩|rfl<;>kernel_rfl
theorem Ext.neqF {o:Oper} {x y:Operand} {t2:TypeId} (ho:o.op=.binOp .neq 1 x y t2) {ev:Operand→Value} {h:Hp} {K:Option Value→Hp→Prop} {v:Value} (hv:(∃x,v=clos x)∨v=.nilFunc) (hx:ev x=v) (hy:ev y=.nilFunc) (k:K (some (.bool (someF v))) h):Ext Tryz.prog (execOp ev o) h K:=by
 refine Ext.val _ (fun w=>?_) k;have:=neqF_run v hv x y w;simp only [execOp,ho,hx,hy];exact run_value _ w _ w this
theorem Ext.litC {o:Oper} {y:Operand} (ho:o.op=.buildSlice 94 1 #[(0,y)]) {ev:Operand→Value} {h:Hp} {K:Option Value→Hp→Prop} {l:List Atom} (hown:Own h l) (x:ClD) (hy:ev y=clos x) (k:∀g h',h.le h'→Own h' (.row ⟨1,1,.slice (some ⟨g,0,none⟩) 1 1,1,encC x⟩::l)→K (some (.slice (some ⟨g,0,none⟩) 1 1)) h'):Ext Tryz.prog (execOp ev o) h K :=
 Ext.buildSlice slFn ho hown [.nilFunc] (fun w=>⟨_,Tryz.zeroValue1 w,by kernel_rfl⟩) (encC x) (by simp [hy];rfl) rfl (by decide) k
theorem Ext.pushC {o:Oper} {s y:Operand} (ho:o.op=.call { callee:=.builtin .append,args:=#[s,y],argTypes:=#[94,94] }) {ev:Operand→Value} {h:Hp} {K:Option Value→Hp→Prop} {l:List Atom} {tv v:Value} {x:ClD} {L:List ClD}
  (hown:Own h (.row ⟨1,1,tv,1,encC x⟩::.row (rowC v L)::l)) (hs:ev s=v) (hy:ev y=tv) (hn:L.length<1000000) (k:∀a c h',Own h' (.row (rowC (.slice a (L++[x]).length c) (L++[x]))::l)→K (some (.slice a (L++[x]).length c)) h'):Ext Tryz.prog (execOp ev o) h K:=by
 refine Ext.append slFn ho hown.swap rfl rfl hs hy (RowOk.src (hown.ok _ List.mem_cons_self) (one_clos x)) (by show (L.length+1)*8≤_;omega) (by show L.length+1≤_;unfold maxLen;omega) fun v' h' ho1=>?_
 have e:(⟨1,1,v',L.length+1,L.flatMap encC++encC x⟩:Row)=rowC v' (L++[x]):=by simp [rowC]
 have ho2:Own h' (.row (rowC v' (L++[x]))::l):=by rw [←e];exact ho1.drop2
 obtain⟨a,c,hv⟩:=RowOk.form' (ho2.ok _ List.mem_cons_self);dsimp only at hv;subst hv;exact k a c h' ho2
theorem Own.cutR {α:Type} (enc:α→List Value) (sz:Nat) (hsz:∀a,(enc a).length=sz) (e:TypeId) {h:Hp} {l:List Atom} {g k m:Nat} {C:List α} (hm:m≤C.length) (o:Own h (.row ⟨e,sz,.slice (some ⟨g,0,none⟩) C.length k,C.length,C.flatMap enc⟩::l)):Own h (.row ⟨e,sz,.slice (some ⟨g,0,none⟩) (C.take m).length k,(C.take m).length,(C.take m).flatMap enc⟩::l):=by
 have hr:RowOk h ⟨e,sz,.slice (some ⟨g,0,none⟩) C.length k,C.length,C.flatMap enc⟩:=o.ok _ List.mem_cons_self;have hml:(C.take m).length=m:=by rw [List.length_take];omega
 refine o.turn ?_ (fun b e=>.inl e) (fun k' _ _=>rfl);obtain⟨h1,⟨h2,h3⟩|⟨g',cap,cur,e',hg,hnc,hcm,hcs,htk⟩⟩:=hr
 ·cases h2
 ·cases e'
  refine⟨flat_len enc sz hsz _,.inr ⟨g,k,cur,rfl,hg,by show (C.take m).length≤k;rw [hml];exact Nat.le_trans hm hnc,hcm,hcs,?_⟩⟩;show cur.toList.take ((C.take m).length*sz)=(C.take m).flatMap enc;rw [hml,flat_take enc sz hsz C m hm];have:cur.toList.take (C.length*sz)=C.flatMap enc:=htk;rw [←this,List.take_take,Nat.min_eq_left (Nat.mul_le_mul_right _ hm)]
theorem Ext.loadF {o:Oper} {y:Operand} (ho:o.op=.load 1 y) {ev:Operand→Value} {h:Hp} {K:Option Value→Hp→Prop} {v:Value} {L:List ClD} (hr:RowOk h (rowC v L)) {g cap:Nat} (hv:v=.slice (some ⟨g,0,none⟩) L.length cap) {i:Nat} (hi:i<L.length) (hy:ev y=.pointer (some ⟨g,0+i*1,none⟩)) (k:K (some (clos L[i])) h):Ext Tryz.prog (execOp ev o) h K :=
 Ext.load tbF_ok rfl ho hr hv hy (by show 0+i*1+1≤L.length*1;omega) (clos L[i]) (.inr ⟨rfl,by
  have:=flat_get encC 1 encC_len L i hi 0 (by decide);rw [Nat.add_zero] at this;show (L.flatMap encC)[0+i*1]?=_;rw [Nat.zero_add,this];rfl,rfl⟩) k
theorem Ext.clearI {o:Oper} {y:Operand} (ho:o.op=.call { callee:=.builtin .clear,args:=#[y],argTypes:=#[25] }) {ev:Operand→Value} {h:Hp} {K:Option Value→Hp→Prop} {M:List Int} {g cap i c:Nat} {l:List Atom} (hown:Own h (.row (rowI (.slice (some ⟨g,0,none⟩) M.length cap) M)::l))
  (hi:i<M.length) (hy:ev y=.slice (some ⟨g,i,none⟩) (M.length-i) c) (k:∀h',Own h' (.row (rowI (.slice (some ⟨g,0,none⟩) M.length cap) (M.take i++List.replicate (M.length-i) 0))::l)→K (some (.tuple #[])) h'):Ext Tryz.prog (execOp ev o) h K:=by
 have hr:RowOk h (rowI (.slice (some ⟨g,0,none⟩) M.length cap) M):=hown.ok _ List.mem_cons_self;obtain⟨h1,⟨h2,_⟩|⟨g',cap',cur,e',hg,hnc,hcm,hcs,htk⟩⟩:=hr
 ·cases h2
 cases e'
 change h g=some (.cells cur 3 (0,0)) at hg
 change M.length≤cap at hnc
 change cur.size=cap*1 at hcs
 change cur.toList.take (M.length*1)=M.flatMap encI at htk
 rw [Nat.mul_one] at hcs htk;refine⟨fun w hw=>?_⟩;have hg':w.heap[g]?=some (.cells cur.toList.toArray 3 (0,0)):=by simpa using hw g _ hg
 have hzl:(List.replicate (M.length-i) (Value.int .i64 0)).length=M.length-i:=List.length_replicate;obtain⟨w',q1,q2,q3,q4,q5,q6,q7⟩:=store_row Tryz.prog w g i 3 cur.toList (List.replicate (M.length-i) (.int .i64 0)) hg' (by rw [hzl];simp;omega) (fun v hv=>by rw [List.eq_of_mem_replicate hv];rfl);have hzc:(Builtin.zeroCells (#[.int .i64 0]:Array Value) (M.length-i)).toList=List.replicate (M.length-i) (Value.int .i64 0):=by
  simp [Builtin.zeroCells]
  apply List.ext_getElem
  ·simp
  ·intro j h1 h2;simp [Nat.mod_one]
 have hrun:(execOp ev o).run Tryz.prog w=.ok (.value (.tuple #[])) w':=by
  obtain⟨m,hm⟩:∃m,M.length-i=m+1:=⟨M.length-i-1,by omega⟩;have hz:∀w,(zeroValue 3).run Tryz.prog w=.ok (.int .i64 0) w:=Tryz.zeroValue3;have hy2:=hy;rw [hm] at hy2 q1 hzc;simp [execOp,ho,resolve,invoke,builtin,hy2,Builtin.clear_,run_underlying slInt.u,hz,Value.cells,hzc,q1,Result.andThen]
 have hpn:h.put g (.cells (putL i (List.replicate (M.length-i) (.int .i64 0)) cur.toList).toArray 3 (0,0)) g=_:=Hp.put_same _ _ _;have hxs:(M.take i++List.replicate (M.length-i) 0).length=M.length:=by simp;omega
 refine⟨.value _,w',some _,h.put g (.cells (putL i (List.replicate (M.length-i) (.int .i64 0)) cur.toList).toArray 3 (0,0)),hrun,.inl ⟨rfl,rfl⟩,k _ ?_,?_,?_⟩
 ·refine hown.turn (y:=.row (rowI (.slice (some ⟨g,0,none⟩) M.length cap) (M.take i++List.replicate (M.length-i) 0))) ?_ (fun b e=>.inl e) (fun b e _=>Hp.put_ne _ _ fun e2=>e (by subst e2;rfl));refine⟨by rw [flat_len encI 1 encI_len],.inr ⟨g,cap,_,by show Value.slice _ M.length cap=.slice _ (M.take i++List.replicate (M.length-i) 0).length cap;rw [hxs],hpn,by show (M.take i++List.replicate (M.length-i) 0).length≤cap;rw [hxs];exact hnc,hcm,?_,?_⟩⟩
  ·show (putL i _ cur.toList).toArray.size=cap*1;simp only [List.size_toArray];rw [putL_len _ _ _ (by rw [hzl];simp;omega)];simpa using hcs
  ·show (putL i (List.replicate (M.length-i) (.int .i64 0)) cur.toList).take ((M.take i++List.replicate (M.length-i) 0).length*1)=(M.take i++List.replicate (M.length-i) 0).flatMap encI;rw [hxs,Nat.mul_one,take_putL i _ cur.toList _ (by rw [hzl];omega) (by simp;omega),htk];have e1:(M.flatMap encI).take i=(M.take i).flatMap encI:=by
    have:=flat_take encI 1 encI_len M i (by omega);rw [Nat.mul_one] at this;exact this.symm
   have hfl:(M.flatMap encI).length=M.length:=by rw [flat_len encI 1 encI_len,Nat.mul_one]
   unfold putL;rw [List.flatMap_append,e1,hzl,List.drop_eq_nil_of_le (by rw [hfl];omega),List.append_nil]
   congr 1
   generalize M.length-i=n
   induction n with
   |zero=>rfl
   |succ n ih=>rw [List.replicate_succ,List.replicate_succ,List.flatMap_cons,ih];rfl
 ·intro b ob e;by_cases hb:b=g
  ·subst hb;rw [hpn] at e;cases e;exact q2
  ·rw [Hp.put_ne _ _ hb] at e;rw [q3 b hb];exact hw b ob e
 ·exact⟨q4,q5,q6,by omega,fun b hb e=>by
   have hbg:b≠g:=fun e2=>by subst e2;rw [hg] at e;cases e
   exact⟨q3 b hbg,by rw [Hp.put_ne _ _ hbg];exact e⟩⟩
structure StX (X:Value→List Value) (off:Nat):Prop where
 len:∀x,(X x).length=5
 at_:∀x,(X x)[off]?=some x
 put:∀x y,putL off [y] (X x)=X y
 lt:off<5
abbrev faRow (gf:Nat) (cs:List Value):Row:=one 96 5 gf cs
theorem Ext.loadSt {o:Oper} {y:Operand} (ho:o.op=.load 94 y) {ev:Operand→Value} {h:Hp} {K:Option Value→Hp→Prop} {X:Value→List Value} {off:Nat} (hX:StX X off) {gf:Nat} {v:Value} (hr:RowOk h (faRow gf (X v))) (hy:ev y=.pointer (some ⟨gf,off,none⟩)) (k:K (some v) h):Ext Tryz.prog (execOp ev o) h K :=
 Ext.load tbF_ok rfl ho hr rfl hy (by have:=hX.lt;show off+1≤1*5;omega) v (.inr ⟨rfl,hX.at_ v,rfl⟩) k
theorem Ext.storeSt {o:Oper} {y z:Operand} (ho:o.op=.store 94 y z) {ev:Operand→Value} {h:Hp} {K:Option Value→Hp→Prop} {X:Value→List Value} {off:Nat} (hX:StX X off) {gf:Nat} {v:Value} {l:List Atom} (hown:Own h (.row (faRow gf (X v))::l)) (hy:ev y=.pointer (some ⟨gf,off,none⟩)) (a:Option Addr) (n c:Nat) (hz:ev z=.slice a n c) (k:∀h',Own h' (.row (faRow gf (X (.slice a n c)))::l)→K none h'):Ext Tryz.prog (execOp ev o) h K:=by
 refine Ext.store tbF_ok rfl ho hown rfl hy hz [.slice a n c] rfl rfl (by have:=hX.lt;show off+1≤1*5;omega) (by simp [Value.oneCell']) fun h' ho'=>?_
 have e:({ faRow gf (X v) with xs:=putL off [.slice a n c] (faRow gf (X v)).xs }:Row)=faRow gf (X (.slice a n c)):=by
  show (⟨_,_,_,_,putL off [.slice a n c] (X v)⟩:Row)=_;rw [hX.put]
 rw [e] at ho';exact k h' ho'
theorem stPush_con (gf off:Nat) (X:Value→List Value) (hX:StX X off) (a:Option Addr) (c:Nat) (C:List ClD) (hC:C.length<100000) (x:ClD) (h:Hp) (l:List Atom) (ho:Own h (.row (faRow gf (X (.slice a C.length c)))::.row (rowC (.slice a C.length c) C)::l)) :
  Con Tryz.prog 113 #[.pointer (some ⟨gf,off,none⟩),clos x] h fun r h'=>r=.tuple #[]∧∃a' c',Own h' (.row (faRow gf (X (.slice a' (C++[x]).length c')))::.row (rowC (.slice a' (C++[x]).length c') (C++[x]))::l):=by
 refine Con.of_W (tb:=tbF) (args:=[.pointer (some ⟨gf,off,none⟩),clos x]) Tryz.func113 rfl Tryz.results113 Tryz.ntmps113 (by simp) (Tryz.call113 _) (tm:=[(0,.v (.pointer (some ⟨gf,off,none⟩))),(1,.v (clos x))]) rfl ?_;refine vc_ok ⟨tbF_ok,_,Tryz.func113,Tryz.results113,Tryz.ntmps113⟩ 400 _ _ _ _ ?_;conv=>whnf
 refine Ext.loadSt rfl hX (ho.rowOk List.mem_cons_self) rfl ?_;conv=>whnf
 refine Ext.litC rfl ho x rfl fun g1 h1 _ ho1=>?_
 conv=>whnf
 refine Ext.pushC rfl (Own.swap (ho1.perm (List.Perm.trans (List.Perm.cons _ (List.Perm.swap _ _ _)) (List.Perm.swap _ _ _)))) rfl rfl (by omega) fun a2 c2 h2 ho2=>?_
 conv=>whnf
 refine Ext.storeSt rfl hX ho2.swap rfl a2 (C++[x]).length c2 rfl fun h3 ho3=>?_
 conv=>whnf
 exact⟨rfl,a2,c2,ho3⟩
theorem stPop_con (gf off:Nat) (X:Value→List Value) (hX:StX X off) (a:Option Addr) (c:Nat) (C:List ClD) (hC:C.length<100000) (h:Hp) (l:List Atom) (ho:Own h (.row (faRow gf (X (.slice a C.length c)))::.row (rowC (.slice a C.length c) C)::l)) :
  Con Tryz.prog 116 #[.pointer (some ⟨gf,off,none⟩)] h fun r h'=>(C=[]∧r=.nilFunc∧h'=h)∨∃C' x,C=C'++[x]∧r=clos x∧Own h' (.row (faRow gf (X (.slice a C'.length c)))::.row (rowC (.slice a C'.length c) C')::l):=by
 refine Con.of_W (tb:=tbF) (args:=[.pointer (some ⟨gf,off,none⟩)]) Tryz.func116 rfl Tryz.results116 Tryz.ntmps116 (by simp) (Tryz.call116 _) (tm:=[(0,.v (.pointer (some ⟨gf,off,none⟩)))]) rfl ?_;refine vc_ok ⟨tbF_ok,_,Tryz.func116,Tryz.results116,Tryz.ntmps116⟩ 400 _ _ _ _ ?_;conv=>whnf
 refine Ext.loadSt rfl hX (ho.rowOk List.mem_cons_self) rfl ?_;conv=>whnf
 refine⟨fun b=>?_,fun b=>?_⟩<;>conv=>whnf
 ·exact .inl ⟨List.eq_nil_of_length_eq_zero (by simpa using b),rfl,rfl⟩
 have hpos:0<C.length:=by(have:C.length≠0:=by simpa using b);omega
 have hr:RowOk h (rowC (.slice a C.length c) C):=ho.rowOk (by simp);obtain⟨g,rfl⟩:=row_some hr hpos;refine Ext.loadSt rfl hX (ho.rowOk List.mem_cons_self) rfl ?_;conv=>whnf
 have hw:IntKind.i64.wrap ((C.length:Int)-1)=((C.length-1:Nat):Int):=by rw [wrapN _ (by omega) (by omega)];omega
 rw [hw];refine Ext.loadSt rfl hX (ho.rowOk List.mem_cons_self) rfl ?_;conv=>whnf
 refine Ext.index slFn.u slFn.size rfl rfl rfl (C.length-1) rfl (by omega) ?_;conv=>whnf
 refine Ext.loadF rfl hr rfl (by omega:C.length-1<C.length) rfl ?_;conv=>whnf
 refine Ext.loadSt rfl hX (ho.rowOk List.mem_cons_self) rfl ?_;conv=>whnf
 have hcap:C.length≤c:=by
  rcases hr.2 with⟨e,_⟩|⟨_,_,_,e,_,hn,_⟩
  ·cases e
  ·cases e;exact hn
 refine Ext.sliceHi slFn rfl rfl (C.length-1) (by omega) rfl ?_;conv=>whnf
 refine Ext.storeSt rfl hX ho rfl (some ⟨g,0,none⟩) (C.length-1) c rfl fun h1 ho1=>?_
 conv=>whnf
 have hl:(C.take (C.length-1)).length=C.length-1:=by rw [List.length_take];omega
 rw [←hl] at ho1;have ho2:=Own.cutR encC 1 encC_len 1 (m:=C.length-1) (by omega) ho1.swap;refine .inr ⟨C.take (C.length-1),C[C.length-1],?_,rfl,?_⟩
 ·conv=>lhs;rw [←List.take_append_drop (C.length-1) C,List.drop_eq_getElem_cons (by omega:C.length-1<C.length),List.drop_of_length_le (by omega)]
 ·exact ho2.swap
abbrev faC (g:Nat) (v:Int×Int) (x y:Value):List Value:=[.pointer (some ⟨g,0,none⟩),.int .i64 v.1,.int .i64 v.2,x,y]
theorem stCame (g:Nat) (v:Int×Int) (y:Value):StX (fun x=>faC g v x y) 3:=⟨fun _=>rfl,fun _=>rfl,fun _ _=>rfl,by decide⟩
theorem stTurned (g:Nat) (v:Int×Int) (x:Value):StX (fun y=>faC g v x y) 4:=⟨fun _=>rfl,fun _=>rfl,fun _ _=>rfl,by decide⟩
structure FSt where
 came:List ClD
 turned:List ClD
 ca:Option Addr
 ck:Nat
 ta:Option Addr
 tk:Nat
abbrev FSt.cv (s:FSt):Value:=.slice s.ca s.came.length s.ck
abbrev FSt.tv (s:FSt):Value:=.slice s.ta s.turned.length s.tk
def FSt.q (s:FSt):List ClD:=s.turned.reverse++s.came
abbrev fCore (gf g:Nat) (v:Int×Int) (s:FSt):List Atom:=[.row (faRow gf (faC g v s.cv s.tv)),.row (rowC s.cv s.came),.row (rowC s.tv s.turned)]
abbrev clAt (gf:Nat) (x:ClD):List Atom:=[.row (one 92 1 x.1 [.pointer (some ⟨gf,0,none⟩)]),.row (one 3 1 x.2.1 [.int .i64 x.2.2])]
theorem fCore_turned {h:Hp} {gf g:Nat} {v:Int×Int} {s:FSt} {l:List Atom} (o:Own h (fCore gf g v s++l)):Own h (.row (faRow gf (faC g v s.cv s.tv))::.row (rowC s.tv s.turned)::.row (rowC s.cv s.came)::l):=o.perm (perm_of fun x=>by simp only [FSt.cv,FSt.tv,List.cons_append,List.nil_append,List.count_cons];omega)
theorem fCore_back {h:Hp} {gf g:Nat} {v:Int×Int} {s:FSt} {l:List Atom} (o:Own h (.row (faRow gf (faC g v s.cv s.tv))::.row (rowC s.tv s.turned)::.row (rowC s.cv s.came)::l)):Own h (fCore gf g v s++l):=o.perm (perm_of fun x=>by simp only [FSt.cv,FSt.tv,List.cons_append,List.nil_append,List.count_cons];omega)
theorem comes_con (gf g:Nat) (v:Int×Int) (s:FSt) (hs:s.came.length<1000) (id:Int) (h:Hp) (l:List Atom) (ho:Own h (fCore gf g v s++l)) :
  Con Tryz.prog 81 #[.pointer (some ⟨gf,0,none⟩),.int .i64 id] h fun r h'=>r=.tuple #[]∧∃(s':FSt) (bf bi:Nat),s'.q=s.q++[(bf,bi,id)]∧Own h' (fCore gf g v s'++(clAt gf (bf,bi,id)++l)):=by
 refine Con.of_W (tb:=tbF) (args:=[.pointer (some ⟨gf,0,none⟩),.int .i64 id]) Tryz.func81 rfl Tryz.results81 Tryz.ntmps81 (by simp) (Tryz.call81 _) (tm:=[(0,.v (.pointer (some ⟨gf,0,none⟩))),(1,.v (.int .i64 id))]) rfl ?_;refine vc_ok ⟨tbF_ok,_,Tryz.func81,Tryz.results81,Tryz.ntmps81⟩ 5 _ _ _ _ ?_;conv=>whnf
 refine W.escape [⟨92,[.pointer (some ⟨gf,0,none⟩)]⟩] ⟨3,[.int .i64 id]⟩ rfl fun bi hbi=>?_
 have ho1:=Own.escape ho hbi 3 [.int .i64 id];generalize h.put bi _=h1 at ho1 ⊢;refine W.escape [] ⟨92,[.pointer (some ⟨gf,0,none⟩)]⟩ rfl fun bf hbf=>?_
 have ho2:=Own.escape ho1 hbf 92 [.pointer (some ⟨gf,0,none⟩)];generalize h1.put bf _=h2 at ho2 ⊢;refine W.cut [(2,.v (.pointer (some ⟨bf,0,none⟩))),(3,.v (.pointer (some ⟨bi,0,none⟩)))] [] [] ⟨rfl,rfl,trivial⟩ rfl rfl ⟨_,rfl⟩ ?_;refine vc_ok ⟨tbF_ok,_,Tryz.func81,Tryz.results81,Tryz.ntmps81⟩ 400 _ _ _ _ ?_;conv=>whnf
 refine Ext.load tbF_ok rfl rfl (ho2.rowOk (r:=one 92 1 bf [.pointer (some ⟨gf,0,none⟩)]) (by simp)) rfl rfl (by show 0+1≤1*1;omega) (.pointer (some ⟨gf,0,none⟩)) (.inr ⟨rfl,rfl,rfl⟩) ?_;conv=>whnf
 refine Ext.makeFunc (fi:=[]) rfl ?_;conv=>whnf
 refine(stPush_con gf 3 (fun x=>faC g v x s.tv) (stCame g v s.tv) s.ca s.ck s.came (by omega) (bf,bi,id) h2 (.row (rowC s.tv s.turned)::(clAt gf (bf,bi,id)++l)) (ho2.perm (perm_of fun x=>by simp only [FSt.cv,FSt.tv,List.cons_append,List.nil_append,List.length_cons,List.length_nil,Nat.zero_add,List.count_cons];omega))).mono ?_;rintro r h3 ⟨rfl,a',c',ho3⟩;conv=>whnf
 exact⟨rfl,{ s with came:=s.came++[(bf,bi,id)],ca:=a',ck:=c' },bf,bi,by simp [FSt.q],ho3.perm (perm_of fun x=>by simp only [FSt.cv,FSt.tv,List.cons_append,List.nil_append,List.count_cons])⟩
theorem first_con (gf g:Nat) (v:Int×Int) (s:FSt) (hs:s.came.length+s.turned.length<1000) (h:Hp) (l:List Atom) (ho:Own h (fCore gf g v s++l)) :
  Con Tryz.prog 82 #[.pointer (some ⟨gf,0,none⟩)] h fun r h'=>(s.q=[]∧r=.nilFunc∧∃s':FSt,s'.q=[]∧Own h' (fCore gf g v s'++l))∨∃(x:ClD) (s':FSt),s.q=x::s'.q∧r=clos x∧Own h' (fCore gf g v s'++l):=by
 refine Con.of_W (tb:=tbF) (args:=[.pointer (some ⟨gf,0,none⟩)]) Tryz.func82 rfl Tryz.results82 Tryz.ntmps82 (by simp) (Tryz.call82 _) (tm:=[(0,.v (.pointer (some ⟨gf,0,none⟩)))]) rfl ?_;refine vc_ok ⟨tbF_ok,_,Tryz.func82,Tryz.results82,Tryz.ntmps82⟩ 400 _ _ _ _ ?_;conv=>whnf
 refine Ext.loadSt (v:=s.tv) rfl (stTurned g v s.cv) (ho.rowOk (r:=faRow gf (faC g v s.cv s.tv)) (by simp)) rfl ?_;conv=>whnf
 refine⟨fun b=>?_,fun b=>?_⟩<;>conv=>whnf
 ·have ht:s.turned=[]:=List.eq_nil_of_length_eq_zero (by simpa using b);refine W.cut [(0,.v (.pointer (some ⟨gf,0,none⟩)))] [] [] ⟨rfl,trivial⟩ rfl rfl ⟨_,rfl⟩ ?_;refine W.loop (α:=FSt) (fun _=>[(0,.v (.pointer (some ⟨gf,0,none⟩)))]) (fun _=>[]) (fun x h'=>Own h' (fCore gf g v x++l)∧x.came++x.turned.reverse=s.came) (fun x=>x.came.length) ?_ s h ⟨ho,by rw [ht];simp⟩;rintro x h5 ⟨ho5,hx⟩ ih;have hxl:x.came.length+x.turned.length=s.came.length:=by rw [←hx];simp
  refine vc_ok ⟨tbF_ok,_,Tryz.func82,Tryz.results82,Tryz.ntmps82⟩ 400 _ _ _ _ ?_;conv=>whnf
  refine Ext.loadSt (v:=x.cv) rfl (stCame g v x.tv) (ho5.rowOk (r:=faRow gf (faC g v x.cv x.tv)) (by simp)) rfl ?_;conv=>whnf
  refine⟨fun c=>?_,fun c=>?_⟩<;>conv=>whnf
  ·refine W.draw [(0,true),(1,true),(2,true),(3,true),(4,true),(5,true),(6,false),(7,false)] [] none 99 (by kernel_rfl) rfl (by kernel_rfl) mixed rfl (fun g e=>by cases e) ?_;refine vc_ok ⟨tbF_ok,_,Tryz.func82,Tryz.results82,Tryz.ntmps82⟩ 400 _ _ _ _ ?_;conv=>whnf
   refine(stPop_con gf 3 (fun y=>faC g v y x.tv) (stCame g v x.tv) x.ca x.ck x.came (by omega) h5 (.row (rowC x.tv x.turned)::l) ho5).mono ?_;rintro r h6 (⟨e,_,_⟩|⟨C',y,e,rfl,ho6⟩)
   ·rw [e] at c;simp at c
   conv=>whnf
   refine(stPush_con gf 4 (fun z=>faC g v (.slice x.ca C'.length x.ck) z) (stTurned g v _) x.ta x.tk x.turned (by omega) y h6 (.row (rowC (.slice x.ca C'.length x.ck) C')::l) (ho6.perm (perm_of fun x=>by simp only [FSt.tv,List.count_cons];omega))).mono ?_;rintro r h7 ⟨rfl,a',c',ho7⟩;conv=>whnf
   refine W.back (ih { x with came:=C',turned:=x.turned++[y],ta:=a',tk:=c' } h7 ⟨fCore_back (s:={ x with came:=C',turned:=x.turned++[y],ta:=a',tk:=c' }) ho7,by rw [←hx,e];simp⟩ (by dsimp only;rw [e];simp)) [] (by exact⟨rfl,trivial⟩) rfl rfl
  ·have hc:x.came=[]:=List.eq_nil_of_length_eq_zero (by simpa using c);refine(stPop_con gf 4 (fun z=>faC g v x.cv z) (stTurned g v _) x.ta x.tk x.turned (by omega) h5 _ (fCore_turned ho5)).mono ?_;rintro r h6 (⟨e,rfl,rfl⟩|⟨C',y,e,rfl,ho6⟩)<;>conv=>whnf
   ·refine .inl ⟨?_,rfl,x,by simp [FSt.q,e,hc],ho5⟩;rw [FSt.q,ht,←hx,hc,e];rfl
   ·refine .inr ⟨y,{ x with turned:=C' },?_,rfl,fCore_back (s:={ x with turned:=C' }) ho6⟩;rw [FSt.q,ht,←hx,hc,e];simp [FSt.q]
 ·refine(stPop_con gf 4 (fun z=>faC g v s.cv z) (stTurned g v _) s.ta s.tk s.turned (by omega) h _ (fCore_turned ho)).mono ?_;rintro r h6 (⟨e,rfl,rfl⟩|⟨C',y,e,rfl,ho6⟩)<;>conv=>whnf
  ·rw [e] at b;simp at b
  ·refine .inr ⟨y,{ s with turned:=C' },?_,rfl,fCore_back (s:={ s with turned:=C' }) ho6⟩;rw [FSt.q,e];simp [FSt.q]
theorem Rd.loadRoom {o:Oper} {y:Operand} (ho:o.op=.load 3 y) {ev:Operand→Value} {h:Hp} {K:Value→Prop} {S:SD} (hS:S.Ok) {g:Nat} (hr:RowOk h (scRow g S)) (j:Nat) (hj:j<6)
  (hy:ev y=.pointer (some ⟨g,j,none⟩)) (k:K (.int .i64 (S.room.getD j 0))):Rd Tryz.prog (execOp ev o) h K :=
 Rd.load tbE_ok rfl ho hr rfl hy (by show j+1≤1*15;omega) (.int .i64 (S.room.getD j 0)) (.inr ⟨rfl,by
  show S.cells[j]?=_;rw [S.cellR hS j hj,List.getD_eq_getElem?_getD,List.getElem?_eq_getElem (by rw [hS.room];exact hj)];rfl,rfl⟩) k
theorem head_con (g:Nat) (S:SD) (hS:S.Ok) (h:Hp) (hr:RowOk h (scRow g S)) :
  Con Tryz.prog 222 #[.pointer (some ⟨g,0,none⟩)] h fun r h'=>r=.int .i64 (S.room.getD S.first 0)∧h'=h:=by
 refine Con.of_W (tb:=tbG) (args:=[.pointer (some ⟨g,0,none⟩)]) Tryz.func222 rfl Tryz.results222 Tryz.ntmps222 (by simp) (Tryz.call222 _) (tm:=[(0,.v (.pointer (some ⟨g,0,none⟩)))]) rfl ?_;refine vc_ok ⟨tbG_ok,_,Tryz.func222,Tryz.results222,Tryz.ntmps222⟩ 400 _ _ _ _ ?_;conv=>whnf
 refine W.draw [(0,true),(1,true),(2,true),(3,true),(4,true),(5,true),(6,true),(7,true),(8,true),(9,false)] [] (some h) 9 (by kernel_rfl) rfl (by kernel_rfl) mixed rfl (fun g e=>by cases e;exact Hp.le_refl _) ?_;refine vc_ok ⟨tbG_ok,_,Tryz.func222,Tryz.results222,Tryz.ntmps222⟩ 400 _ _ _ _ ?_;conv=>whnf
 refine Rd.loadSc rfl ⟨rfl,rfl⟩ rfl hS hr 0 (by omega) rfl (.int .i64 (S.first:Nat)) rfl ?_;conv=>whnf
 have hf:=hS.first;refine Rd.indexArr arr6 slInt.size rfl rfl rfl S.first rfl hf ?_;conv=>whnf
 refine Rd.loadRoom rfl hS hr S.first hf (by show Value.pointer (some ⟨g,0+0+S.first*1,none⟩)=_;simp) ?_;conv=>whnf
 exact⟨rfl,rfl⟩
theorem ringL_cons {room:List Int} {first n:Nat} (hf:first<6):ringL room first (n+1)=room.getD first 0::ringL room ((first+1) % 6) n:=by
 unfold ringL;rw [List.range_succ_eq_map,List.map_cons,List.map_map]
 congr 1
 ·rw [Nat.add_zero,Nat.mod_eq_of_lt hf]
 ·refine List.map_congr_left fun b _=>?_
  show room.getD ((first+(b+1)) % 6) 0=room.getD (((first+1) % 6+b) % 6) 0
  congr 1
  omega
theorem popR_con (g:Nat) (S:SD) (hS:S.Ok) (hn:0<S.size) (h:Hp) (l:List Atom) (ho:Own h (.row (scRow g S)::l)) :
  Con Tryz.prog 210 #[.pointer (some ⟨g,0,none⟩)] h fun r h'=>r=.int .i64 (S.room.getD S.first 0)∧Own h' (.row (scRow g { S with first:=(S.first+1) % 6,size:=S.size-1 })::l):=by
 have hr:RowOk h (scRow g S):=ho.rowOk List.mem_cons_self;have hf:=hS.first;have hz:=hS.size;refine Con.of_W (tb:=tbG) (args:=[.pointer (some ⟨g,0,none⟩)]) Tryz.func210 rfl Tryz.results210 Tryz.ntmps210 (by simp) (Tryz.call210 _) (tm:=[(0,.v (.pointer (some ⟨g,0,none⟩)))]) rfl ?_;refine vc_ok ⟨tbG_ok,_,Tryz.func210,Tryz.results210,Tryz.ntmps210⟩ 400 _ _ _ _ ?_;conv=>whnf
 refine(head_con g S hS h hr).mono ?_;rintro r h1 ⟨rfl,rfl⟩;conv=>whnf
 refine(place_con g S hS 1 (by omega) h1 hr).mono ?_;rintro r h2 ⟨rfl,rfl⟩;conv=>whnf
 have hk:(S.first+1) % 6<6:=Nat.mod_lt _ (by decide);generalize (S.first+1) % 6=k at hk ⊢;refine Ext.storeSc rfl rfl rfl hS ho 0 (by omega) rfl (.int .i64 (k:Int)) rfl rfl (by simp [Value.oneCell']) { S with first:=k } rfl fun h3 ho3=>?_
 conv=>whnf
 have hS2:({ S with first:=k }:SD).Ok:=⟨hS.room,hk,hS.size⟩;refine Ext.loadSc rfl ⟨rfl,rfl⟩ rfl hS2 (ho3.rowOk List.mem_cons_self) 1 (by omega) rfl (.int .i64 (S.size:Nat)) rfl ?_;conv=>whnf
 have hw:IntKind.i64.wrap ((S.size:Int)-1)=((S.size-1:Nat):Int):=by rw [wrapN _ (by omega) (by omega)];omega
 rw [hw];refine Ext.storeSc rfl rfl rfl hS2 ho3 1 (by omega) rfl (.int .i64 ((S.size-1:Nat):Int)) rfl rfl (by simp [Value.oneCell']) { S with first:=k,size:=S.size-1 } rfl fun h4 ho4=>?_
 conv=>whnf
 exact⟨rfl,ho4⟩
def closK (b:Nat):Value:=.func (.func 181) #[] #[.pointer (some ⟨b,0,none⟩)]
theorem leave1_con (b gr i:Nat) (R:List (RunD×RunP)) (rk:Nat) (hi:i<R.length) (x:Int) (h:Hp) (hb:RowOk h (one 165 1 b [.pointer (some ⟨gr,0+i*13,none⟩)])) (hr:RowOk h (rowR (.slice (some ⟨gr,0,none⟩) R.length rk) R)) :
  Con Tryz.prog 181 #[.int .i64 x,.pointer (some ⟨b,0,none⟩)] h fun r h'=>r=.bool (x != R[i].1.id)∧h'=h:=by
 refine Con.of_W (tb:=tbF) (args:=[.int .i64 x,.pointer (some ⟨b,0,none⟩)]) Tryz.func181 rfl Tryz.results181 Tryz.ntmps181 (by simp) (Tryz.call181 _) (tm:=[(0,.v (.int .i64 x)),(1,.v (.pointer (some ⟨b,0,none⟩)))]) rfl ?_;refine vc_ok ⟨tbF_ok,_,Tryz.func181,Tryz.results181,Tryz.ntmps181⟩ 400 _ _ _ _ ?_;conv=>whnf
 refine Ext.load tbF_ok rfl rfl hb rfl rfl (by show 0+1≤1*1;omega) (.pointer (some ⟨gr,0+i*13,none⟩)) (.inr ⟨rfl,rfl,rfl⟩) ?_;conv=>whnf
 refine Ext.loadRunCell (D:=⟨[],R,[],0,0,0,0,none,0,some ⟨gr,0,none⟩,rk,none,0⟩) rfl ⟨rfl,rfl⟩ rfl hr rfl hi 0 (by omega) rfl (.int .i64 R[i].1.id) rfl ?_;conv=>whnf
 exact⟨rfl,rfl⟩
theorem keep_con (g:Nat) (S:SD) (hS:S.Ok) (b gr i:Nat) (R:List (RunD×RunP)) (rk:Nat) (hi:i<R.length) (h:Hp) (l:List Atom) (hb:.row (one 165 1 b [.pointer (some ⟨gr,0+i*13,none⟩)])∈l) (hr:.row (rowR (.slice (some ⟨gr,0,none⟩) R.length rk) R)∈l) (ho:Own h (.row (scRow g S)::l)) :
  Con Tryz.prog 180 #[.pointer (some ⟨g,0,none⟩),closK b] h fun r h'=>r=.tuple #[]∧∃S':SD,S'.Ok∧S'.D=S.D∧ringL S'.room S'.first S'.size=lessP (ringL S.room S.first S.size) R[i].1.id∧Own h' (.row (scRow g S')::l):=by
 have hn6:=hS.size;refine Con.of_W (tb:=tbF) (args:=[.pointer (some ⟨g,0,none⟩),closK b]) Tryz.func180 rfl Tryz.results180 Tryz.ntmps180 (by simp) (Tryz.call180 _) (tm:=[(0,.v (.pointer (some ⟨g,0,none⟩))),(1,.v (closK b))]) rfl ?_;refine vc_ok ⟨tbF_ok,_,Tryz.func180,Tryz.results180,Tryz.ntmps180⟩ 400 _ _ _ _ ?_;conv=>whnf
 refine Ext.loadSc rfl ⟨rfl,rfl⟩ rfl hS (ho.rowOk List.mem_cons_self) 1 (by omega) rfl (.int .i64 (S.size:Nat)) rfl ?_;conv=>whnf
 obtain⟨L,hL⟩:∃L,L=ringL S.room S.first S.size:=⟨_,rfl⟩;have hLn:L.length=S.size:=by rw [hL,ringL_len]
 refine W.cut [(9,.v (.int .i64 (0:Nat))),(8,.v (.int .i64 (S.size:Nat))),(1,.v (closK b)),(0,.v (.pointer (some ⟨g,0,none⟩)))] [] [] ⟨rfl,rfl,rfl,rfl,trivial⟩ rfl rfl ⟨_,rfl⟩ ?_;refine W.loop (α:=Nat×SD) (fun x=>[(9,.v (.int .i64 (x.1:Nat))),(8,.v (.int .i64 (S.size:Nat))),(1,.v (closK b)),(0,.v (.pointer (some ⟨g,0,none⟩)))]) (fun _=>[])
  (fun x h'=>x.1≤S.size∧x.2.Ok∧x.2.D=S.D∧ringL x.2.room x.2.first x.2.size=L.drop x.1++lessP (L.take x.1) R[i].1.id∧Own h' (.row (scRow g x.2)::l)) (fun x=>S.size-x.1) ?_ (0,S) h ⟨Nat.zero_le _,hS,rfl,by rw [←hL];simp [lessP],ho⟩
 rintro⟨k,T⟩ h5 ⟨hk,hT,hTD,hTr,ho5⟩ ih;dsimp only at hk hT hTD hTr ho5 ⊢;refine vc_ok ⟨tbF_ok,_,Tryz.func180,Tryz.results180,Tryz.ntmps180⟩ 400 _ _ _ _ ?_;conv=>whnf
 refine⟨fun c=>?_,fun c=>?_⟩<;>conv=>whnf
 ·have hlt:k<S.size:=by simp at c;omega
  have hw:IntKind.i64.wrap ((k:Int)+1)=((k+1:Nat):Int):=by rw [wrapN _ (by omega) (by omega)];omega
  have hdk:L.drop k=L[k]::L.drop (k+1):=List.drop_eq_getElem_cons (by omega);have htk:L.take (k+1)=L.take k++[L[k]]:=List.take_succ_eq_append_getElem (by omega);have hsz:0<T.size:=by
   have:=congrArg List.length hTr;rw [ringL_len,List.length_append,List.length_drop] at this;omega
  obtain⟨m,hm⟩:∃m,T.size=m+1:=⟨T.size-1,by omega⟩;have hTr2:=hTr;rw [hm,ringL_cons hT.first,hdk,List.cons_append] at hTr2
  injection hTr2 with hx hrest
  refine(popR_con g T hT hsz h5 l ho5).mono ?_;rintro r h6 ⟨rfl,ho6⟩;obtain⟨T6,e6⟩:∃T6:SD,T6={ T with first:=(T.first+1) % 6,size:=T.size-1 }:=⟨_,rfl⟩;have hT6:T6.Ok:=by rw [e6];exact⟨hT.room,Nat.mod_lt _ (by decide),by have:=hT.size;show T.size-1≤6;omega⟩
  have hr6:ringL T6.room T6.first T6.size=L.drop (k+1)++lessP (L.take k) R[i].1.id:=by rw [e6];dsimp only;rw [hm];exact hrest
  have hD6:T6.D=S.D:=by rw [e6];exact hTD
  have hs6:T6.size+1=T.size:=by rw [e6];show T.size-1+1=T.size;omega
  rw [←e6] at ho6;rw [hx];conv=>whnf
  refine(leave1_con b gr i R rk hi L[k] h6 (ho6.rowOk (List.mem_cons_of_mem _ hb)) (ho6.rowOk (List.mem_cons_of_mem _ hr))).mono ?_;rintro r h7 ⟨rfl,rfl⟩;conv=>whnf
  refine⟨fun c2=>?_,fun c2=>?_⟩<;>conv=>whnf
  ·have hlt6:T6.size<6:=by have:=hT.size;omega
   refine(push_con g T6 hT6 hlt6 L[k] h7 l ho6).mono ?_;rintro r h8 ⟨rfl,ho8⟩;conv=>whnf
   rw [hw];refine W.back (ih (k+1,{ T6 with room:=T6.room.set ((T6.first+T6.size) % 6) L[k],size:=T6.size+1 }) h8 ⟨hlt,⟨by show (T6.room.set _ _).length=6;rw [List.length_set];exact hT6.room,hT6.first,by show T6.size+1≤6;omega⟩,hD6,?_,ho8⟩ (by dsimp only;omega)) [] (by exact⟨rfl,rfl,rfl,rfl,trivial⟩) rfl rfl;dsimp only;rw [ringL_push hT6.room hlt6,hr6,htk,lessP,lessP,List.filter_append];simp [c2]
  ·rw [hw];refine W.back (ih (k+1,T6) h7 ⟨hlt,hT6,hD6,?_,ho6⟩ (by dsimp only;omega)) [] (by exact⟨rfl,rfl,rfl,rfl,trivial⟩) rfl rfl;dsimp only;rw [hr6,htk,lessP,lessP,List.filter_append];simp [c2]
 ·have hge:k=S.size:=by simp at c;omega
  refine⟨rfl,T,hT,hTD,?_,ho5⟩;rw [hTr,hge,List.drop_of_length_le (by omega),List.take_of_length_le (by omega),List.nil_append,hL]
def closN (b:Nat):Value:=.func (.func 212) #[] #[.pointer (some ⟨b,0,none⟩)]
abbrev boxN (b:Nat) (n:Int):Row:=one 3 1 b [.int .i64 n]
theorem without1_con (b:Nat) (n x:Int) (h:Hp) (hb:RowOk h (boxN b n)) :
  Con Tryz.prog 212 #[.int .i64 x,.pointer (some ⟨b,0,none⟩)] h fun r h'=>r=.bool (x==n)∧h'=h:=by
 refine Con.of_W (tb:=tbF) (args:=[.int .i64 x,.pointer (some ⟨b,0,none⟩)]) Tryz.func212 rfl Tryz.results212 Tryz.ntmps212 (by simp) (Tryz.call212 _) (tm:=[(0,.v (.int .i64 x)),(1,.v (.pointer (some ⟨b,0,none⟩)))]) rfl ?_;refine vc_ok ⟨tbF_ok,_,Tryz.func212,Tryz.results212,Tryz.ntmps212⟩ 400 _ _ _ _ ?_;conv=>whnf
 refine Ext.load tbF_ok rfl rfl hb rfl rfl (by show 0+1≤1*1;omega) (.int .i64 n) (.inr ⟨rfl,rfl,rfl⟩) ?_;conv=>whnf
 exact⟨rfl,rfl⟩
theorem Ext.storeInt {o:Oper} {y z:Operand} (ho:o.op=.store 3 y z) {ev:Operand→Value} {h:Hp} {K:Option Value→Hp→Prop} {M:List Int} {g cap:Nat} {l:List Atom} (hown:Own h (.row (rowI (.slice (some ⟨g,0,none⟩) M.length cap) M)::l)) {i:Nat} (hi:i<M.length)
  (hy:ev y=.pointer (some ⟨g,0+i*1,none⟩)) (x:Int) (hz:ev z=.int .i64 x) (k:∀h',Own h' (.row (rowI (.slice (some ⟨g,0,none⟩) (M.set i x).length cap) (M.set i x))::l)→K none h'):Ext Tryz.prog (execOp ev o) h K:=by
 refine Ext.store tbE_ok rfl ho hown rfl hy hz [.int .i64 x] rfl rfl (by show 0+i*1+1≤M.length*1;omega) (by simp [Value.oneCell']) fun h' ho'=>?_
 have e1:putL (0+i*1) [.int .i64 x] (M.flatMap encI)=(M.set i x).flatMap encI:=by
  have:=flat_set encI 1 encI_len M i hi 0 [.int .i64 x] (by simp) x (by simp [putL,encI]);rw [Nat.zero_add,←this,Nat.add_zero]
 have e:({ rowI (.slice (some ⟨g,0,none⟩) M.length cap) M with xs:=putL (0+i*1) [.int .i64 x] (M.flatMap encI) }:Row)=rowI (.slice (some ⟨g,0,none⟩) (M.set i x).length cap) (M.set i x):=by
  simp only [e1,rowI,List.length_set]
 have ho2:Own h' (.row { rowI (.slice (some ⟨g,0,none⟩) M.length cap) M with xs:=putL (0+i*1) [.int .i64 x] (M.flatMap encI) }::l):=ho';rw [e] at ho2;exact k h' ho2
theorem indexF_con (a:Option Addr) (k:Nat) (L:List Int) (hL:L.length<100000) (b:Nat) (n:Int) (h:Hp) (hr:RowOk h (rowI (.slice a L.length k) L)) (hb:RowOk h (boxN b n)) :
  Con Tryz.prog 223 #[.slice a L.length k,closN b] h fun r h'=>((r=.int .i64 (-1)∧n∉L)∨∃(i:Nat) (hi:i<L.length),r=.int .i64 i∧L[i]=n∧n∉L.take i)∧h'=h:=by
 refine Con.of_W (tb:=tbF) (args:=[.slice a L.length k,closN b]) Tryz.func223 rfl Tryz.results223 Tryz.ntmps223 (by simp) (Tryz.call223 _) (tm:=[(0,.v (.slice a L.length k)),(1,.v (closN b))]) rfl ?_;refine vc_ok ⟨tbF_ok,_,Tryz.func223,Tryz.results223,Tryz.ntmps223⟩ 400 _ _ _ _ ?_;conv=>whnf
 refine W.cut [(8,.v (.int .i64 (0:Nat))),(7,.v (.int .i64 (L.length:Nat))),(1,.v (closN b)),(0,.v (.slice a L.length k))] [] [] ⟨rfl,rfl,rfl,rfl,trivial⟩ rfl rfl ⟨_,rfl⟩ ?_;refine W.loop (α:=Nat) (fun x=>[(8,.v (.int .i64 (x:Nat))),(7,.v (.int .i64 (L.length:Nat))),(1,.v (closN b)),(0,.v (.slice a L.length k))]) (fun _=>[])
  (fun x h'=>x≤L.length∧n∉L.take x∧h'=h) (fun x=>L.length-x) ?_ 0 h ⟨Nat.zero_le _,by simp,rfl⟩
 rintro i h5 ⟨hi,hno,rfl⟩ ih;refine vc_ok ⟨tbF_ok,_,Tryz.func223,Tryz.results223,Tryz.ntmps223⟩ 400 _ _ _ _ ?_;conv=>whnf
 refine⟨fun c=>?_,fun c=>?_⟩<;>conv=>whnf
 ·have hlt:i<L.length:=by simp at c;omega
  obtain⟨g,rfl⟩:=row_some hr (by omega);refine Ext.index slInt.u slInt.size rfl rfl rfl i rfl hlt ?_;conv=>whnf
  refine Ext.loadInt rfl hr rfl hlt rfl ?_;conv=>whnf
  refine(without1_con b n L[i] h5 hb).mono ?_;rintro r h6 ⟨rfl,rfl⟩;conv=>whnf
  refine⟨fun c2=>?_,fun c2=>?_⟩<;>conv=>whnf
  ·exact⟨.inr ⟨i,hlt,rfl,by simpa using c2,hno⟩,rfl⟩
  ·have hw:IntKind.i64.wrap ((i:Int)+1)=((i+1:Nat):Int):=by rw [wrapN _ (by omega) (by omega)];omega
   rw [hw];refine W.back (ih (i+1) h6 ⟨hlt,?_,rfl⟩ (by omega)) [] (by exact⟨rfl,rfl,rfl,rfl,trivial⟩) rfl rfl;rw [List.take_succ_eq_append_getElem hlt,List.mem_append,List.mem_singleton];rintro(e|e)
   ·exact hno e
   ·have:¬L[i]=n:=by simpa using c2
    exact this e.symm
 ·have hge:i=L.length:=by simp at c;omega
  refine⟨.inl ⟨rfl,?_⟩,rfl⟩;rw [hge,List.take_length] at hno;exact hno
theorem lessP_id {L:List Int} {n:Int} (h:n∉L):lessP L n=L:=List.filter_eq_self.2 fun x hx=>by
 have:x≠n:=fun e=>h (e ▸ hx)
 simpa using this
theorem lessP_app (L M:List Int) (n:Int):lessP (L++M) n=lessP L n++lessP M n:=List.filter_append ..
theorem deleteF_con (a:Option Addr) (k:Nat) (L:List Int) (hL:L.length<100000) (b:Nat) (n:Int) (h:Hp) (l:List Atom) (hb:.row (boxN b n)∈l) (ho:Own h (.row (rowI (.slice a L.length k) L)::l)) :
  Con Tryz.prog 211 #[.slice a L.length k,closN b] h fun r h'=>r=.slice a (lessP L n).length k∧Own h' (.row (rowI (.slice a (lessP L n).length k) (lessP L n))::l):=by
 refine Con.of_W (tb:=tbF) (args:=[.slice a L.length k,closN b]) Tryz.func211 rfl Tryz.results211 Tryz.ntmps211 (by simp) (Tryz.call211 _) (tm:=[(0,.v (.slice a L.length k)),(1,.v (closN b))]) rfl ?_;refine vc_ok ⟨tbF_ok,_,Tryz.func211,Tryz.results211,Tryz.ntmps211⟩ 400 _ _ _ _ ?_;conv=>whnf
 refine(indexF_con a k L hL b n h (ho.rowOk List.mem_cons_self) (ho.rowOk (List.mem_cons_of_mem _ hb))).mono ?_;rintro r h1 ⟨⟨rfl,hno⟩|⟨i0,hi0,rfl,hin,hno⟩,rfl⟩
 ·conv=>whnf
  refine⟨fun _=>?_,fun c=>by simp at c⟩;conv=>whnf
  rw [lessP_id hno];exact⟨rfl,ho⟩
 conv=>whnf
 obtain⟨g,rfl⟩:=row_some (ho.rowOk (r:=rowI (.slice a L.length k) L) List.mem_cons_self) (by omega);have hcap:L.length≤k:=by
  rcases (ho.rowOk (r:=rowI (.slice (some ⟨g,0,none⟩) L.length k) L) List.mem_cons_self).2 with⟨e,_⟩|⟨_,_,_,e,_,hn,_⟩
  ·cases e
  ·cases e;exact hn
 refine⟨fun c=>?_,fun c=>?_⟩
 ·simp at c
 conv=>whnf
 have hw0:IntKind.i64.wrap ((i0:Int)+1)=((i0+1:Nat):Int):=by rw [wrapN _ (by omega) (by omega)];omega
 rw [hw0];refine W.cut [(6,.v (.int .i64 ((i0+1:Nat):Int))),(5,.v (.int .i64 (i0:Nat))),(1,.v (closN b)),(0,.v (.slice (some ⟨g,0,none⟩) L.length k))] [] [] ⟨rfl,rfl,rfl,rfl,trivial⟩ rfl rfl ⟨_,rfl⟩ ?_;refine W.loop (α:=Nat×Nat×List Int) (fun x=>[(6,.v (.int .i64 (x.2.1:Nat))),(5,.v (.int .i64 (x.1:Nat))),(1,.v (closN b)),(0,.v (.slice (some ⟨g,0,none⟩) L.length k))]) (fun _=>[])
  (fun x h'=>x.2.2.length=L.length∧x.1<x.2.1∧x.2.1≤L.length∧x.2.2.take x.1=lessP (L.take x.2.1) n∧x.2.2.drop x.2.1=L.drop x.2.1∧Own h' (.row (rowI (.slice (some ⟨g,0,none⟩) x.2.2.length k) x.2.2)::l)) (fun x=>L.length-x.2.1) ?_ (i0,i0+1,L) h1 ⟨rfl,by dsimp only;omega,by dsimp only;omega,?_,rfl,ho⟩
 rotate_left
 ·dsimp only;rw [List.take_succ_eq_append_getElem hi0,lessP_app,lessP_id hno,hin];simp [lessP]
 rintro⟨i,j,M⟩ h5 ⟨hM,hij,hj,hMi,hMj,ho5⟩ ih;dsimp only at hM hij hj hMi hMj ho5 ⊢;refine vc_ok ⟨tbF_ok,_,Tryz.func211,Tryz.results211,Tryz.ntmps211⟩ 400 _ _ _ _ ?_;conv=>whnf
 refine⟨fun c=>?_,fun c=>?_⟩<;>conv=>whnf
 ·have hlt:j<L.length:=by simp at c;omega
  have hjM:j<M.length:=by omega
  have hMjL:M[j]=L[j]:=by
   have h1:(M.drop j)[0]?=(L.drop j)[0]?:=by rw [hMj]
   rw [List.getElem?_drop,List.getElem?_drop,Nat.add_zero,List.getElem?_eq_getElem hjM,List.getElem?_eq_getElem hlt] at h1;exact Option.some.inj h1
  have hd:M.drop (j+1)=L.drop (j+1):=by
   have:=congrArg (List.drop 1) hMj
   rwa [List.drop_drop,List.drop_drop] at this
  have ht:L.take (j+1)=L.take j++[L[j]]:=List.take_succ_eq_append_getElem hlt;have hwj:IntKind.i64.wrap ((j:Int)+1)=((j+1:Nat):Int):=by rw [wrapN _ (by omega) (by omega)];omega
  have hwi:IntKind.i64.wrap ((i:Int)+1)=((i+1:Nat):Int):=by rw [wrapN _ (by omega) (by omega)];omega
  refine Ext.index slInt.u slInt.size rfl rfl rfl j rfl hlt ?_;conv=>whnf
  refine Ext.loadInt rfl (ho5.rowOk List.mem_cons_self) rfl hjM rfl ?_;conv=>whnf
  rw [hMjL];refine(without1_con b n L[j] h5 (ho5.rowOk (List.mem_cons_of_mem _ hb))).mono ?_;rintro r h6 ⟨rfl,rfl⟩;conv=>whnf
  refine⟨fun c2=>?_,fun c2=>?_⟩<;>conv=>whnf
  ·refine Ext.index slInt.u slInt.size rfl rfl rfl i rfl (by omega) ?_;conv=>whnf
   refine Ext.storeInt rfl ho5 (by omega:i<M.length) rfl L[j] rfl fun h7 ho7=>?_
   conv=>whnf
   rw [hwi,hwj];have hne:¬L[j]=n:=by simpa using c2
   refine W.back (ih (i+1,j+1,M.set i L[j]) h7 ⟨by dsimp only;rw [List.length_set];exact hM,by dsimp only;omega,by dsimp only;omega,?_,?_,ho7⟩ (by dsimp only;omega)) [] (by exact⟨rfl,rfl,rfl,rfl,trivial⟩) rfl rfl
   ·dsimp only;rw [List.take_succ_eq_append_getElem (by rw [List.length_set];omega),List.getElem_set_self,ht,lessP_app,←hMi];have e1:(M.set i L[j]).take i=M.take i:=by rw [List.take_set,List.set_eq_of_length_le (by rw [List.length_take];omega)]
    rw [e1];simp [lessP,hne]
   ·dsimp only;rw [List.drop_set_of_lt (by omega)];exact hd
  ·rw [hwj];have he:L[j]=n:=by simpa using c2
   refine W.back (ih (i,j+1,M) h6 ⟨hM,by dsimp only;omega,by dsimp only;omega,?_,hd,ho5⟩ (by dsimp only;omega)) [] (by exact⟨rfl,rfl,rfl,rfl,trivial⟩) rfl rfl;dsimp only;rw [ht,lessP_app,←hMi,he];simp [lessP]
 ·have hge:j=L.length:=by simp at c;omega
  have hLl:lessP L n=M.take i:=by rw [hMi,hge,List.take_length]
  refine Ext.rest slInt rfl rfl i (by omega) rfl fun o' ho'=>?_
  conv=>whnf
  have hoi:o'=i:=by omega
  subst hoi;have hMi2:o'<M.length:=by omega
  refine Ext.clearI rfl ho5 hMi2 (by rw [hM];rfl) fun h6 ho6=>?_
  conv=>whnf
  refine Ext.sliceHi slInt rfl rfl o' (by omega) rfl ?_;conv=>whnf
  have hml:(M.take o'++List.replicate (M.length-o') 0).length=M.length:=by simp;omega
  have ho7:Own h6 (.row ⟨3,1,.slice (some ⟨g,0,none⟩) (M.take o'++List.replicate (M.length-o') 0).length k,(M.take o'++List.replicate (M.length-o') 0).length,(M.take o'++List.replicate (M.length-o') 0).flatMap encI⟩::l):=by
   rw [hml];have e:(M.take o'++List.replicate (M.length-o') 0).length=M.length:=hml;have:=ho6;unfold rowI at this;rw [e] at this;exact this
  have ho8:=Own.cutR encI 1 encI_len 3 (m:=o') (by rw [hml];omega) ho7;have ht:(M.take o'++List.replicate (M.length-o') 0).take o'=M.take o':=by
   rw [List.take_append_of_le_length (by rw [List.length_take];omega),List.take_take,Nat.min_self]
  rw [ht,←hLl] at ho8;have hll:(lessP L n).length=o':=by rw [hLl,List.length_take];omega
  rw [←hll];exact⟨rfl,ho8⟩
theorem listWithout_con (a:Option Addr) (k:Nat) (L:List Int) (hL:L.length<100000) (n:Int) (h:Hp) (l:List Atom) (ho:Own h (.row (rowI (.slice a L.length k) L)::l)) :
  Con Tryz.prog 182 #[.slice a L.length k,.int .i64 n] h fun r h'=>r=.slice a (lessP L n).length k∧Own h' (.row (rowI (.slice a (lessP L n).length k) (lessP L n))::l):=by
 refine Con.of_W (tb:=tbF) (args:=[.slice a L.length k,.int .i64 n]) Tryz.func182 rfl Tryz.results182 Tryz.ntmps182 (by simp) (Tryz.call182 _) (tm:=[(0,.v (.slice a L.length k)),(1,.v (.int .i64 n))]) rfl ?_;refine vc_ok ⟨tbF_ok,_,Tryz.func182,Tryz.results182,Tryz.ntmps182⟩ 6 _ _ _ _ ?_;conv=>whnf
 refine W.escape [] ⟨3,[.int .i64 n]⟩ rfl fun b hb=>?_
 have ho1:=Own.escape ho hb 3 [.int .i64 n];generalize h.put b _=h1 at ho1 ⊢;refine W.cut [(0,.v (.slice a L.length k)),(3,.v (.pointer (some ⟨b,0,none⟩)))] [] [] ⟨rfl,rfl,trivial⟩ rfl rfl ⟨_,rfl⟩ ?_;refine vc_ok ⟨tbF_ok,_,Tryz.func182,Tryz.results182,Tryz.ntmps182⟩ 400 _ _ _ _ ?_;conv=>whnf
 refine Ext.makeFunc (fi:=[]) rfl ?_;conv=>whnf
 refine(deleteF_con a k L hL b n h1 (.row (boxN b n)::l) List.mem_cons_self ho1.swap).mono ?_;rintro r h2 ⟨rfl,ho2⟩;conv=>whnf
 exact⟨rfl,ho2.drop2⟩
theorem one_at {h:Hp} {e:TypeId} {sz g:Nat} {xs:List Value} (hr:RowOk h (one e sz g xs)):h g=some (.cells xs.toArray e (0,0)):=by
 obtain⟨h1,⟨h2,_⟩|⟨g',cap,cur,e',hg,hnc,hcm,hcs,htk⟩⟩:=hr
 ·cases h2
 ·cases e'
  have hl:xs.length=1*sz:=h1;have ht:cur.toList.take (1*sz)=xs:=htk;have hs:cur.size=1*sz:=hcs;rw [List.take_of_length_le (by simp;omega)] at ht;have:cur=xs.toArray:=by rw [←ht]
  rw [←this];exact hg
theorem RowOk.keep {h:Hp} {r:Row} {bs:List Nat} {g:Nat} (o:RowOk h r) (hv:r.v.ownBlock=some g) (hb:g∈bs):RowOk (keepB h bs) r:=RowOk.same o fun g' e=>by rw [hv] at e;cases e;exact keep_at hb
theorem keep_same {h h':Hp} {bs:List Nat} (k:∀b∈bs,h' b=h b):(keepB h bs).le h':=keep_le fun b hb o e=>by rw [k b hb];exact e
theorem keep_self (h:Hp) (bs:List Nat):(keepB h bs).le h:=keep_le fun _ _ _ e=>e
theorem setRun_set (D:WD) (i:Nat) (x y:RunD×RunP):(D.setRun i x).setRun i y=D.setRun i y:=by
 show ({ D with runs:=(D.runs.set i x).set i y }:WD)=_;rw [List.set_set]
theorem setRun_at {D:WD} {i:Nat} (x:RunD×RunP) (h:i<(D.setRun i x).runs.length):(D.setRun i x).runs[i]=x:=by simp
theorem Ext.storeRunVs {t:Nat} {ti:TI} (ht:tbl tbE t=some ti) {o:Oper} {y z:Operand} (ho:o.op=.store t y z) {ev:Operand→Value} {h:Hp} {K:Option Value→Hp→Prop} {D:WD} {l:List Atom} {i:Nat} (hi:i<D.runs.length) {g:Nat} (hra:D.ra=some ⟨g,0,none⟩) (x:RunD×RunP)
  (c:Nat) (vs:List Value) {v:Value} (hz:ev z=v) (hvs:v.cells=vs.toArray) (hsz:vs.length=ti.sz) (hc:c+vs.length≤13) (h1:∀u∈vs,u.oneCell'=true) (x':RunD×RunP) (hx:encR x'=putL c vs (encR x)) (hA:runRows x'=runRows x) (hown:Own h (wAtoms (D.setRun i x)++l)) (hy:ev y=.pointer (some ⟨g,0+i*13+c,none⟩)) (k:∀h',Own h' (wAtoms (D.setRun i x')++l)→K none h'):Ext Tryz.prog (execOp ev o) h K:=by
 have hi':i<(D.setRun i x).runs.length:=by simpa using hi
 have hv:(D.setRun i x).rv=.slice (some ⟨g,0,none⟩) (D.setRun i x).runs.length (D.setRun i x).rk:=rv_same hra;have ho1:=w_open hown i hi';rw [setRun_at x hi'] at ho1;refine Ext.store tbE_ok ht ho ho1 hv hy hz vs hvs hsz (by show 0+i*13+c+vs.length≤(D.runs.set i x).length*13;rw [List.length_set];omega) h1 fun h' ho'=>k h' ?_
 have e1:putL (0+i*13+c) vs ((D.setRun i x).runs.flatMap encR)=((D.setRun i x).runs.set i x').flatMap encR:=by
  rw [Nat.zero_add];exact flat_set encR 13 encR_len (D.setRun i x).runs i hi' c vs hc x' (by rw [setRun_at x hi'];exact hx)
 have e2:({ rowR (D.setRun i x).rv (D.setRun i x).runs with xs:=putL (0+i*13+c) vs ((D.setRun i x).runs.flatMap encR) }:Row)=rowR ((D.setRun i x).setRun i x').rv ((D.setRun i x).runs.set i x'):=by
  simp only [e1,rowR,WD.rv,List.length_set]
 have ho2:Own h' (.row { rowR (D.setRun i x).rv (D.setRun i x).runs with xs:=putL (0+i*13+c) vs ((D.setRun i x).runs.flatMap encR) }::(runRows x++wOth (D.setRun i x) i l)):=ho';rw [e2,←hA] at ho2;have:=w_shut i hi' x' ho2;rw [setRun_set] at this;exact this
theorem Ext.nilMail {o:Oper} {y z:Operand} (ho:o.op=.store 30 y z) {ev:Operand→Value} {h:Hp} {K:Option Value→Hp→Prop} {D:WD} {l:List Atom} {i:Nat} (hi:i<D.runs.length) {g:Nat} (hra:D.ra=some ⟨g,0,none⟩) (x:RunD×RunP) (hown:Own h (wAtoms (D.setRun i x)++l)) (hy:ev y=.pointer (some ⟨g,0+i*13+4,none⟩)) (hz:ev z=.slice none 0 0)
  (k:∀h',Own h' (wAtoms (D.setRun i ({ x.1 with mail:=[] },{ x.2 with a1:=none,k1:=0 }))++(atM x::l))→K none h'):Ext Tryz.prog (execOp ev o) h K:=by
 have hi':i<(D.setRun i x).runs.length:=by simpa using hi
 have ho1:=w_open hown i hi';rw [setRun_at x hi'] at ho1;refine Ext.storeRunCell (D:=D.setRun i x) (l:=atM x::l) rfl rfl ho hi' (rv_same hra) 4 (by omega) (.slice none 0 0) rfl rfl ({ x.1 with mail:=[] },{ x.2 with a1:=none,k1:=0 }) (by rw [setRun_at x hi'];rfl) rfl (ho1.nilV.perm (perm_of fun a=>?_)) hy hz fun h' ho'=>k h' ?_
 ·simp only [runRows,wOth,atM,List.length_nil,List.count_append,List.count_cons,List.count_nil];omega
 ·rw [setRun_set] at ho';exact ho'
theorem Ext.nilLinks {o:Oper} {y z:Operand} (ho:o.op=.store 25 y z) {ev:Operand→Value} {h:Hp} {K:Option Value→Hp→Prop} {D:WD} {l:List Atom} {i:Nat} (hi:i<D.runs.length) {g:Nat} (hra:D.ra=some ⟨g,0,none⟩) (x:RunD×RunP) (hown:Own h (wAtoms (D.setRun i x)++l)) (hy:ev y=.pointer (some ⟨g,0+i*13+7,none⟩)) (hz:ev z=.slice none 0 0)
  (k:∀h',Own h' (wAtoms (D.setRun i ({ x.1 with links:=[] },{ x.2 with a2:=none,k2:=0 }))++(atL x::l))→K none h'):Ext Tryz.prog (execOp ev o) h K:=by
 have hi':i<(D.setRun i x).runs.length:=by simpa using hi
 have ho1:=w_open hown i hi';rw [setRun_at x hi'] at ho1;refine Ext.storeRunCell (D:=D.setRun i x) (l:=atL x::l) rfl rfl ho hi' (rv_same hra) 7 (by omega) (.slice none 0 0) rfl rfl ({ x.1 with links:=[] },{ x.2 with a2:=none,k2:=0 }) (by rw [setRun_at x hi'];rfl) rfl (ho1.nilI.perm (perm_of fun a=>?_)) hy hz fun h' ho'=>k h' ?_
 ·simp only [runRows,wOth,atL,List.length_nil,List.count_append,List.count_cons,List.count_nil];omega
 ·rw [setRun_set] at ho';exact ho'
theorem Ext.nilWat {o:Oper} {y z:Operand} (ho:o.op=.store 25 y z) {ev:Operand→Value} {h:Hp} {K:Option Value→Hp→Prop} {D:WD} {l:List Atom} {i:Nat} (hi:i<D.runs.length) {g:Nat} (hra:D.ra=some ⟨g,0,none⟩) (x:RunD×RunP) (hown:Own h (wAtoms (D.setRun i x)++l)) (hy:ev y=.pointer (some ⟨g,0+i*13+8,none⟩)) (hz:ev z=.slice none 0 0)
  (k:∀h',Own h' (wAtoms (D.setRun i ({ x.1 with wat:=[] },{ x.2 with a3:=none,k3:=0 }))++(atW x::l))→K none h'):Ext Tryz.prog (execOp ev o) h K:=by
 have hi':i<(D.setRun i x).runs.length:=by simpa using hi
 have ho1:=w_open hown i hi';rw [setRun_at x hi'] at ho1;refine Ext.storeRunCell (D:=D.setRun i x) (l:=atW x::l) rfl rfl ho hi' (rv_same hra) 8 (by omega) (.slice none 0 0) rfl rfl ({ x.1 with wat:=[] },{ x.2 with a3:=none,k3:=0 }) (by rw [setRun_at x hi'];rfl) rfl (ho1.nilI.perm (perm_of fun a=>?_)) hy hz fun h' ho'=>k h' ?_
 ·simp only [runRows,wOth,atW,List.length_nil,List.count_append,List.count_cons,List.count_nil];omega
 ·rw [setRun_set] at ho';exact ho'
end Go.Proofs.YtgmkmeodimmdoaaGreatDoor
