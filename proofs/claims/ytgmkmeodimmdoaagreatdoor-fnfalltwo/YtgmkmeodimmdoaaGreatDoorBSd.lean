import Derived.Test.YtgmkmeodimmdoaaGreatDoorBSc
namespace Go.Proofs.YtgmkmeodimmdoaaGreatDoor
open Go.RowKit
set_option maxRecDepth 100000
theorem Ext.storeRunCell {t:Nat} {ti:TI} (ht:tbl tbE t=some ti) (hsz:ti.sz=1) {o:Oper} {y z:Operand} (ho:o.op=.store t y z) {ev:Operand→Value} {h:Hp} {K:Option Value→Hp→Prop} {D:WD} {l A:List Atom} {i:Nat} (hi:i<D.runs.length) {g:Nat} (hv:D.rv=.slice (some ⟨g,0,none⟩) D.runs.length D.rk) (c:Nat) (hc:c<13) (nv:Value) (h1:nv.oneCell'=true) (hcells:nv.cells=#[nv]) (x:RunD×RunP)
  (hx:encR x=putL c [nv] (encR D.runs[i])) (hA:A=runRows x) (hown:Own h (.row (rowR D.rv D.runs)::(A++wOth D i l))) (hy:ev y=.pointer (some ⟨g,0+i*13+c,none⟩)) (hz:ev z=nv) (k:∀h',Own h' (wAtoms (D.setRun i x)++l)→K none h'):Ext Tryz.prog (execOp ev o) h K:=by
 refine Ext.store tbE_ok ht ho hown hv hy hz [nv] (by rw [hcells]) (by rw [hsz];rfl) (by show 0+i*13+c+1≤D.runs.length*13;omega) (by simp [h1]) fun h' ho'=>k h' ?_
 have e1:putL (0+i*13+c) [nv] (D.runs.flatMap encR)=(D.runs.set i x).flatMap encR:=by
  rw [Nat.zero_add];exact flat_set encR 13 encR_len D.runs i hi c [nv] (by simp;omega) x hx
 refine w_shut i hi x ?_;subst hA;have e2:({ rowR D.rv D.runs with xs:=putL (0+i*13+c) [nv] (D.runs.flatMap encR) }:Row)=rowR (D.setRun i x).rv (D.runs.set i x):=by
  simp only [e1,rowR,WD.rv,List.length_set]
 rw [e2] at ho';exact ho'
abbrev WD.setQ (D:WD) (L:List Int) (a:Option Addr) (c:Nat):WD:={ D with queue:=L,qa:=a,qk:=c }
theorem q_open {h:Hp} {D:WD} {l:List Atom} (o:Own h (wAtoms D++l)):Own h (.row (rowI D.qv D.queue)::(.row (rowR D.rv D.runs)::.row (rowO D.cv D.code)::(D.runs.flatMap runRows++l))):=w_row (A:=[_]) o
theorem q_shut {h:Hp} {D:WD} {l:List Atom} (L:List Int) (a:Option Addr) (c:Nat) (o:Own h (.row (rowI (.slice a L.length c) L)::(.row (rowR D.rv D.runs)::.row (rowO D.cv D.code)::(D.runs.flatMap runRows++l)))):Own h (wAtoms (D.setQ L a c)++l):=w_lists (A:=[_]) o
def waitP (w:PW) (i:Nat) (id:Int) (d:RunD) (due:Int):PW:={ w with runs:=w.runs.set i { d with st:=2,due:=due },queue:=lessP w.queue id }
theorem rv_same {D:WD} {g:Nat} (hra:D.ra=some ⟨g,0,none⟩):D.rv=.slice (some ⟨g,0,none⟩) D.runs.length D.rk:=by rw [WD.rv,hra]
theorem w_ra {h:Hp} {D:WD} {l:List Atom} (o:Own h (wAtoms D++l)) (h0:0<D.runs.length):∃g,D.ra=some ⟨g,0,none⟩:=row_some (o.ok (.row (rowR D.rv D.runs)) (by simp [wAtoms])) h0
theorem l21Wait_con (D:WD) (i:Nat) (hi:i<D.runs.length) (hL:D.runs.length≤100) (hQ:D.queue.length≤1000) (id:Int) (hid:id=(i:Int)+1) (due:Int) (h:Hp) (l:List Atom) (ho:Own h (wAtoms D++l)) :
  Con Tryz.prog 179 #[D.val,.int .i64 id,.int .i64 due] h fun r h'=>∃D',r=D'.val∧Own h' (wAtoms D'++l)∧D'.pure=waitP D.pure i id D.runs[i].1 due:=by
 obtain⟨g,hra⟩:=w_ra ho (by omega);have hz:IntKind.i64.wrap (id-1)=(i:Int):=by rw [hid,show (i:Int)+1-1=i by omega];exact wrapN _ (by omega) (by omega)
 refine Con.of_W (tb:=tbE) (args:=[D.val,.int .i64 id,.int .i64 due]) Tryz.func179 rfl Tryz.results179 Tryz.ntmps179 (by simp) (Tryz.call179 _) (tm:=[(0,.a D.cells),(1,.v (.int .i64 id)),(2,.v (.int .i64 due))]) rfl ?_;refine vc_ok ⟨tbE_ok,_,Tryz.func179,Tryz.results179,Tryz.ntmps179⟩ 400 _ _ _ _ ?_;conv=>whnf
 refine Ext.index slRun.u slRun.size rfl (by exact rv_same hra) rfl i hz hi ?_;conv=>whnf
 refine Ext.storeRunCell (D:=D) rfl rfl rfl hi (rv_same hra) 5 (by decide) (.int .i64 2) rfl rfl ({ D.runs[i].1 with st:=2 },D.runs[i].2) rfl rfl (w_open ho i hi) rfl rfl fun h1 ho1=>?_
 conv=>whnf
 refine Ext.index slRun.u slRun.size rfl (by exact rv_same hra) rfl i hz hi ?_;conv=>whnf
 have hi1:i<(D.setRun i ({ D.runs[i].1 with st:=2 },D.runs[i].2)).runs.length:=by simpa using hi
 have hg1:(D.setRun i ({ D.runs[i].1 with st:=2 },D.runs[i].2)).runs[i]=({ D.runs[i].1 with st:=2 },D.runs[i].2):=by simp
 refine Ext.storeRunCell (D:=D.setRun i ({ D.runs[i].1 with st:=2 },D.runs[i].2)) rfl rfl rfl hi1 (by rw [WD.rv];show Value.slice D.ra _ _=_;rw [hra]) 6 (by decide) (.int .i64 due) rfl rfl ({ D.runs[i].1 with st:=2,due:=due },D.runs[i].2) (by rw [hg1];rfl) (by rw [hg1];rfl) (w_open ho1 i hi1) rfl rfl fun h2 ho2=>?_
 conv=>whnf
 have hs2:(D.setRun i ({ D.runs[i].1 with st:=2 },D.runs[i].2)).setRun i ({ D.runs[i].1 with st:=2,due:=due },D.runs[i].2)=D.setRun i ({ D.runs[i].1 with st:=2,due:=due },D.runs[i].2):=by simp [WD.setRun]
 rw [hs2] at ho2;refine(l13Less_con D.qa D.qk D.queue id (by omega) h2 _ (q_open (D:=D.setRun i ({ D.runs[i].1 with st:=2,due:=due },D.runs[i].2)) ho2)).mono ?_;rintro r h3 ⟨a,c,rfl,ho3⟩;conv=>whnf
 refine⟨(D.setRun i ({ D.runs[i].1 with st:=2,due:=due },D.runs[i].2)).setQ (lessP D.queue id) a c,by simp [WD.val,WD.cells,WD.cv,WD.rv,WD.qv,oneOf],q_shut (D:=D.setRun i ({ D.runs[i].1 with st:=2,due:=due },D.runs[i].2)) _ a c ho3.drop2,?_⟩;simp [WD.pure,waitP,List.map_set]
abbrev OpD.val (o:OpD):Value:=.agg o.cells.toArray
def takeP (w:PW) (i:Nat) (id:Int) (d:RunD) (o:OpD) (k:Nat):PW :=
 if h:(firstP d.mail o.s).toNat<d.mail.length∧0≤firstP d.mail o.s then
  { w with taken:=wr (w.taken+1),runs:=w.runs.set i (({ d with mail:=cutP d.mail (firstP d.mail o.s).toNat,due:=0 }:RunD).put k (d.mail[(firstP d.mail o.s).toNat]'h.1)).next }
 else if o.k==7 then waitP w i id d 0
 else if decide (d.due<0) then { w with runs:=w.runs.set i { d with due:=0,pl:=o.to } }
 else waitP w i id d (wr (w.now+o.vn))
theorem Own.rowOk {h:Hp} {l:List Atom} (o:Own h l) {r:Row} (hm:Atom.row r∈l):RowOk h r:=o.ok _ hm
theorem firstP_lt (L:List (Int×Int)) (k:Int):firstP L k = -1∨∃j:Nat,firstP L k=j∧j<L.length:=by
 unfold firstP
 split
 ·rename_i i hi
  exact .inr ⟨i,rfl,(List.findIdx?_eq_some_iff_getElem.1 hi).1⟩
 ·exact .inl rfl
theorem l21Take_con (D:WD) (i:Nat) (hi:i<D.runs.length) (hL:D.runs.length≤100) (hQ:D.queue.length≤1000) (id:Int) (hid:id=(i:Int)+1) (o:OpD) (k:Nat) (hk:k<4) (hr:o.r=(k:Int)) (hs:D.runs[i].1.slots.length=4) (hm:D.runs[i].1.mail.length<1000) (h:Hp) (l:List Atom) (ho:Own h (wAtoms D++l)) :
  Con Tryz.prog 152 #[D.val,.int .i64 id,o.val] h fun r h'=>∃D',r=D'.val∧Own h' (wAtoms D'++l)∧D'.pure=takeP D.pure i id D.runs[i].1 o k:=by
 obtain⟨g,hra⟩:=w_ra ho (by omega);have hz:IntKind.i64.wrap (id-1)=(i:Int):=by rw [hid,show (i:Int)+1-1=i by omega];exact wrapN _ (by omega) (by omega)
 refine Con.of_W (tb:=tbE) (args:=[D.val,.int .i64 id,o.val]) Tryz.func152 rfl Tryz.results152 Tryz.ntmps152 (by simp) (Tryz.call152 _) (tm:=[(0,.a D.cells),(1,.v (.int .i64 id)),(2,.a o.cells)]) rfl ?_;refine vc_ok ⟨tbE_ok,_,Tryz.func152,Tryz.results152,Tryz.ntmps152⟩ 400 _ _ _ _ ?_;conv=>whnf
 refine Ext.index slRun.u slRun.size rfl (by exact rv_same hra) rfl i hz hi ?_;conv=>whnf
 refine Ext.loadRun (D:=D) rfl (ho.rowOk (by simp [wAtoms])) (rv_same hra) hi rfl ?_;conv=>whnf
 have ho1:=w_open ho i hi;refine(l11First_con D.runs[i].1 D.runs[i].2 o.s (by omega) h (ho1.rowOk (by simp [runRows]))).mono ?_;rintro r h1 ⟨rfl,rfl⟩;conv=>whnf
 refine⟨fun h2=>?_,fun h2=>?_⟩<;>conv=>whnf
 ·
  have hf:0≤firstP D.runs[i].1.mail o.s:=by simpa using h2
  obtain hj|⟨j,hj,hjl⟩:=firstP_lt D.runs[i].1.mail o.s
  ·omega
  rw [hj];refine(l11Take_con D.runs[i].1 D.runs[i].2 j hjl (by omega) h1 _ (w_lists (r:=.row (rowR D.rv D.runs)) ho1)).mono ?_;rintro r h3 ⟨a,c,rfl,ho3⟩;conv=>whnf
  refine Ext.index slRun.u slRun.size rfl (by exact rv_same hra) rfl i hz hi ?_;conv=>whnf
  refine Ext.storeRun (D:=D) rfl hi (rv_same hra) ({ D.runs[i].1 with mail:=cutP D.runs[i].1.mail j,due:=0 },{ D.runs[i].2 with a1:=a,k1:=c }) rfl (w_row ho3) rfl rfl fun h4 ho4=>?_
  conv=>whnf
  have hi4:i<({ D.setRun i ({ D.runs[i].1 with mail:=cutP D.runs[i].1.mail j,due:=0 },{ D.runs[i].2 with a1:=a,k1:=c }) with taken:=wr (D.taken+1) }:WD).runs.length:=by simpa using hi
  have hg4:({ D.setRun i ({ D.runs[i].1 with mail:=cutP D.runs[i].1.mail j,due:=0 },{ D.runs[i].2 with a1:=a,k1:=c }) with taken:=wr (D.taken+1) }:WD).runs[i]=({ D.runs[i].1 with mail:=cutP D.runs[i].1.mail j,due:=0 },{ D.runs[i].2 with a1:=a,k1:=c }):=by simp
  have hcon:=l21Set_con { D.setRun i ({ D.runs[i].1 with mail:=cutP D.runs[i].1.mail j,due:=0 },{ D.runs[i].2 with a1:=a,k1:=c }) with taken:=wr (D.taken+1) } i hi4 (by simpa using hL) id hid k hk (by rw [hg4];exact hs) D.runs[i].1.mail[j] h4 l ho4;rw [hg4] at hcon;have hval:({ D.setRun i ({ D.runs[i].1 with mail:=cutP D.runs[i].1.mail j,due:=0 },{ D.runs[i].2 with a1:=a,k1:=c }) with taken:=wr (D.taken+1) }:WD).val=.agg #[D.cv,D.rv,D.qv,.int .i64 D.now,.int .i64 D.sent,.int .i64 (wr (D.taken+1)),.int .i64 D.lost]:=by simp [WD.val,WD.cells]
  rw [hval] at hcon;rw [hr];refine hcon.mono ?_;rintro r h5 ⟨rfl,ho5⟩;conv=>whnf
  refine⟨_,rfl,ho5,?_⟩;rw [takeP,dif_pos ⟨by rw [hj];exact hjl,hf⟩];have hjn:(firstP D.runs[i].1.mail o.s).toNat=j:=by rw [hj];rfl
  simp only [hjn];simp [WD.pure,List.map_set,List.set_set]
 ·have hf:¬0≤firstP D.runs[i].1.mail o.s:=by simpa using h2
  refine⟨fun h3=>?_,fun h3=>?_⟩<;>conv=>whnf
  ·refine(l21Wait_con D i hi hL hQ id hid 0 h1 l ho).mono ?_;rintro r h4 ⟨D',rfl,ho4,e4⟩;conv=>whnf
   refine⟨D',rfl,ho4,?_⟩;rw [e4,takeP,dif_neg (by omega),if_pos h3]
  ·refine⟨fun h5=>?_,fun h5=>?_⟩<;>conv=>whnf
   ·refine Ext.index slRun.u slRun.size rfl (by exact rv_same hra) rfl i hz hi ?_;conv=>whnf
    refine Ext.storeRunCell (D:=D) rfl rfl rfl hi (rv_same hra) 6 (by decide) (.int .i64 0) rfl rfl ({ D.runs[i].1 with due:=0 },D.runs[i].2) rfl rfl ho1 rfl rfl fun h6 ho6=>?_
    conv=>whnf
    refine Ext.index slRun.u slRun.size rfl (by exact rv_same hra) rfl i hz hi ?_;conv=>whnf
    have hi6:i<(D.setRun i ({ D.runs[i].1 with due:=0 },D.runs[i].2)).runs.length:=by simpa using hi
    have hg6:(D.setRun i ({ D.runs[i].1 with due:=0 },D.runs[i].2)).runs[i]=({ D.runs[i].1 with due:=0 },D.runs[i].2):=by simp
    refine Ext.storeRunCell (D:=D.setRun i ({ D.runs[i].1 with due:=0 },D.runs[i].2)) rfl rfl rfl hi6 (by show Value.slice D.ra _ _=_;rw [hra]) 1 (by decide) (.int .i64 o.to) rfl rfl ({ D.runs[i].1 with due:=0,pl:=o.to },D.runs[i].2) (by rw [hg6];rfl) (by rw [hg6];rfl) (w_open ho6 i hi6) rfl rfl fun h7 ho7=>?_
    conv=>whnf
    have hs2:(D.setRun i ({ D.runs[i].1 with due:=0 },D.runs[i].2)).setRun i ({ D.runs[i].1 with due:=0,pl:=o.to },D.runs[i].2)=D.setRun i ({ D.runs[i].1 with due:=0,pl:=o.to },D.runs[i].2):=by simp [WD.setRun]
    rw [hs2] at ho7;refine⟨_,(w_val D i _).symm,ho7,?_⟩;rw [takeP,dif_neg (by omega),if_neg (by rw [h3];exact Bool.false_ne_true),if_pos h5];simp [WD.pure,List.map_set]
   ·refine(l21Wait_con D i hi hL hQ id hid (wr (D.now+o.vn)) h1 l ho).mono ?_;rintro r h4 ⟨D',rfl,ho4,e4⟩;conv=>whnf
    refine⟨D',rfl,ho4,?_⟩;rw [e4,takeP,dif_neg (by omega),if_neg (by rw [h3];exact Bool.false_ne_true),if_neg (by rw [h5];exact Bool.false_ne_true)];rfl
abbrev zeroR:List Value:=[.int .i64 0,.int .i64 0,.slice none 0 0,.int .i64 0,.slice none 0 0,.int .i64 0,.int .i64 0,.slice none 0 0,.slice none 0 0,.bool false,.int .i64 0,.int .i64 0,.int .i64 0]
theorem Ext.litR {o:Oper} {y:Operand} (ho:o.op=.buildSlice 24 1 #[(0,y)]) {ev:Operand→Value} {h:Hp} {K:Option Value→Hp→Prop} {l:List Atom} (hown:Own h l) (x:RunD×RunP) (hy:ev y=x.1.val x.2) (k:∀g h',h.le h'→Own h' (.row ⟨34,13,.slice (some ⟨g,0,none⟩) 1 1,1,encR x⟩::l)→K (some (.slice (some ⟨g,0,none⟩) 1 1)) h'):Ext Tryz.prog (execOp ev o) h K :=
 Ext.buildSlice slRun ho hown zeroR (fun w=>⟨_,Tryz.zeroValue34 w,by kernel_rfl⟩) (encR x) (by simp [hy];rfl) rfl (by decide) k
theorem one_run (x:RunD×RunP):∀u∈encR x,u.oneCell'=true:=by simp [encR,Value.oneCell']
theorem Ext.pushR {o:Oper} {s y:Operand} (ho:o.op=.call { callee:=.builtin .append,args:=#[s,y],argTypes:=#[24,24] }) {ev:Operand→Value} {h:Hp} {K:Option Value→Hp→Prop} {l:List Atom} {tv v:Value} {x:RunD×RunP} {L:List (RunD×RunP)}
  (hown:Own h (.row ⟨34,13,tv,1,encR x⟩::.row (rowR v L)::l)) (hs:ev s=v) (hy:ev y=tv) (hn:L.length<1000000) (k:∀a c h',Own h' (.row (rowR (.slice a (L++[x]).length c) (L++[x]))::l)→K (some (.slice a (L++[x]).length c)) h'):Ext Tryz.prog (execOp ev o) h K:=by
 refine Ext.append slRun ho hown.swap rfl rfl hs hy (RowOk.src (hown.ok _ List.mem_cons_self) (one_run x)) (by show (L.length+1)*168≤_;omega) (by show L.length+1≤_;unfold maxLen;omega) fun v' h' ho1=>?_
 have e:(⟨34,13,v',L.length+1,L.flatMap encR++encR x⟩:Row)=rowR v' (L++[x]):=by simp [rowR]
 have ho2:Own h' (.row (rowR v' (L++[x]))::l):=by rw [←e];exact ho1.drop2
 obtain⟨a,c,hv⟩:=RowOk.form' (ho2.ok _ List.mem_cons_self);dsimp only at hv;subst hv;exact k a c h' ho2
abbrev WD.addR (D:WD) (y:RunD×RunP) (a:Option Addr) (c:Nat):WD:={ D with runs:=D.runs++[y],ra:=a,rk:=c }
theorem w_new {h:Hp} {D:WD} {y:RunD×RunP} {l:List Atom} (o:Own h (runRows y++(wAtoms D++l))):Own h (.row (rowR D.rv D.runs)::(.row (rowI D.qv D.queue)::.row (rowO D.cv D.code)::((D.runs++[y]).flatMap runRows++l))):=by
 have p:=(List.perm_append_comm (l₁:=runRows y) (l₂:=wAtoms D)).append_right l;refine o.perm ?_;rw [←List.append_assoc];refine p.trans (List.Perm.of_eq ?_);simp [wAtoms]
def beginP (w:PW) (i:Nat) (id:Int) (d:RunD) (o:OpD) (k:Nat):PW :=
 if (w.runs.length:Int)+1 > 6 then { w with runs:=w.runs.set i ((d.put k (0,0)).next) }
 else { w with runs:=(w.runs++[newD (w.runs.length+1) o.to (3,id)]).set i ((d.put k (3,w.runs.length+1)).next),queue:=w.queue++[(w.runs.length:Int)+1] }
theorem l21Begin_con (D:WD) (i:Nat) (hi:i<D.runs.length) (hL:D.runs.length≤100) (hQ:D.queue.length≤1000) (id:Int) (hid:id=(i:Int)+1) (o:OpD) (k:Nat) (hk:k<4) (hr:o.r=(k:Int)) (hs:D.runs[i].1.slots.length=4) (h:Hp) (l:List Atom) (ho:Own h (wAtoms D++l)) :
  Con Tryz.prog 151 #[D.val,.int .i64 id,o.val] h fun r h'=>∃D',r=D'.val∧Own h' (wAtoms D'++l)∧D'.pure=beginP D.pure i id D.runs[i].1 o k:=by
 have hn:IntKind.i64.wrap ((D.runs.length:Int)+1)=(D.runs.length:Int)+1:=wrapN _ (by omega) (by omega);have hpl:D.pure.runs.length=D.runs.length:=by simp [WD.pure]
 refine Con.of_W (tb:=tbE) (args:=[D.val,.int .i64 id,o.val]) Tryz.func151 rfl Tryz.results151 Tryz.ntmps151 (by simp) (Tryz.call151 _) (tm:=[(0,.a D.cells),(1,.v (.int .i64 id)),(2,.a o.cells)]) rfl ?_;refine vc_ok ⟨tbE_ok,_,Tryz.func151,Tryz.results151,Tryz.ntmps151⟩ 400 _ _ _ _ ?_;conv=>whnf
 refine⟨fun h2=>?_,fun h2=>?_⟩<;>conv=>whnf
 ·rw [hn] at h2;rw [hr];refine(l21Set_con D i hi hL id hid k hk hs (0,0) h l ho).mono ?_;rintro r h5 ⟨rfl,ho5⟩;conv=>whnf
  refine⟨_,rfl,ho5,?_⟩;rw [beginP,if_pos (by rw [hpl];simpa using h2)];simp [WD.pure,List.map_set]
 ·rw [hn] at h2;have h2':¬((D.runs.length:Int)+1 > 6):=by simpa using h2
  refine W.draw [(0,true),(1,true),(2,true),(3,true),(4,true),(5,true),(6,true),(7,false),(8,false),(9,false),(10,true),(11,false)] [0,1] none 11 (by kernel_rfl) rfl (by kernel_rfl) mixed rfl (fun g e=>by cases e) ?_;refine vc_ok ⟨tbE_ok,_,Tryz.func151,Tryz.results151,Tryz.ntmps151⟩ 400 _ _ _ _ ?_;conv=>whnf
  rw [hn];refine(l11New_con _ _ (3,id) h _ ho).mono ?_;rintro r h3 ⟨p,rfl,ho3,_⟩;conv=>whnf
  refine Ext.litR rfl (w_new ho3) (_,p) rfl fun g4 h4 _ ho4=>?_
  conv=>whnf
  refine Ext.pushR rfl ho4 rfl rfl (by omega) fun ra rk h5 ho5=>?_
  conv=>whnf
  refine Ext.litI rfl ho5.swap ((D.runs.length:Int)+1) rfl fun g6 h6 _ ho6=>?_
  conv=>whnf
  refine Ext.pushI rfl ho6 rfl rfl (by omega) fun qa qk h7 ho7=>?_
  conv=>whnf
  rw [hr];have ho8:Own h7 (wAtoms ({ D.addR (newD (D.runs.length+1) o.to (3,id),p) ra rk with queue:=D.queue++[(D.runs.length:Int)+1],qa:=qa,qk:=qk }:WD)++l):=ho7.swap;have hi8:i<(D.runs++[(newD (D.runs.length+1) o.to (3,id),p)]).length:=by rw [List.length_append];omega
  have hg8:(D.runs++[(newD (D.runs.length+1) o.to (3,id),p)])[i]=D.runs[i]:=List.getElem_append_left hi;have hcon:=l21Set_con ({ D.addR (newD (D.runs.length+1) o.to (3,id),p) ra rk with queue:=D.queue++[(D.runs.length:Int)+1],qa:=qa,qk:=qk }:WD) i hi8 (by show (D.runs++[_]).length≤100;rw [List.length_append];simp;omega) id hid k hk (by rw [hg8];exact hs) (3,(D.runs.length:Int)+1) h7 l ho8;rw [hg8] at hcon;refine Con.mono hcon ?_;rintro r h9 ⟨rfl,ho9⟩;conv=>whnf
  refine⟨_,rfl,ho9,?_⟩;rw [beginP,if_neg (by rw [hpl];exact h2')];simp [WD.pure,List.map_set]
structure PW.Wk (w:PW) (B:Nat):Prop where
 runs:w.runs.length≤6
 q1:w.queue.Nodup
 q2:∀x∈w.queue,∃i:Nat,x=(i:Int)+1∧∃d,w.runs[i]?=some d∧d.st=1
 place:∀d∈w.runs,∃k:Nat,d.pl=k∧k<w.code.length
 slots:∀d∈w.runs,d.slots.length=4
 mail:∀d∈w.runs,d.mail.length≤12
 linksB:∀d∈w.runs,d.links.length≤B
 watB:∀d∈w.runs,d.wat.length≤B
 links:∀d∈w.runs,∀x∈d.links,1≤x∧x≤w.runs.length
theorem nodup_len:∀(n:Nat) (L:List Int),L.Nodup→(∀x∈L,1≤x∧x≤(n:Int))→L.length≤n:=by
 intro n
 induction n with
 |zero=>intro L _ h;cases L with
  |nil=>simp
  |cons a L=>have:=h a (by simp);omega
 |succ n ih =>
  intro L hd h;by_cases hm:((n:Int)+1)∈L
  ·have h1:=ih (L.erase ((n:Int)+1)) (hd.erase _) fun x hx=>by
    have h2:=h x (List.mem_of_mem_erase hx);have h3:x≠(n:Int)+1:=fun e=>by subst e;exact(List.Nodup.not_mem_erase hd) hx
    omega
   rw [List.length_erase_of_mem hm] at h1;omega
  ·have h1:=ih L hd fun x hx=>by
    have h2:=h x hx;have h3:x≠(n:Int)+1:=fun e=>by subst e;exact hm hx
    omega
   omega
theorem PW.Wk.queue {w:PW} {B:Nat} (hw:w.Wk B):w.queue.length≤6:=by
 refine Nat.le_trans (nodup_len w.runs.length w.queue hw.q1 fun x hx=>?_) hw.runs;obtain⟨i,hi,d,hd,_⟩:=hw.q2 x hx;have:=(List.getElem?_eq_some_iff.1 hd).1;omega
theorem mem_set' {α:Type} {L:List α} {i:Nat} {y x:α} (h:x∈L.set i y):x=y∨x∈L:=(List.mem_or_eq_of_mem_set h).symm
theorem PW.Wk.set {w:PW} {B:Nat} (hw:w.Wk B) (i:Nat) (hi:i<w.runs.length) (y:RunD) (q:List Int) (hq:q.Nodup) (hq2:∀x∈q,(x=(i:Int)+1∧y.st=1)∨(x∈w.queue∧x≠(i:Int)+1)) (h1:∃k:Nat,y.pl=k∧k<w.code.length) (h2:y.slots.length=4) (h3:y.mail.length≤12) (h4:y.links.length≤B) (h5:y.wat.length≤B) (h6:∀x∈y.links,1≤x∧x≤w.runs.length) (n s t u:Int) :
  PW.Wk ⟨w.code,w.runs.set i y,q,n,s,t,u⟩ B:=by
 refine⟨by simpa using hw.runs,hq,fun x hx=>?_,fun d hd=>?_,fun d hd=>?_,fun d hd=>?_,fun d hd=>?_,fun d hd=>?_,fun d hd=>?_⟩
 ·rcases hq2 x hx with⟨e,hy⟩|⟨hm,hne⟩
  ·exact⟨i,e,y,by simp [hi],hy⟩
  ·obtain⟨j,e,d,hd,hs⟩:=hw.q2 x hm;refine⟨j,e,d,?_,hs⟩;show (w.runs.set i y)[j]?=some d;rw [List.getElem?_set_ne (by intro e2;subst e2;exact hne e)];exact hd
 ·rcases mem_set' hd with rfl|hd
  ·exact h1
  ·exact hw.place d hd
 ·rcases mem_set' hd with rfl|hd
  ·exact h2
  ·exact hw.slots d hd
 ·rcases mem_set' hd with rfl|hd
  ·exact h3
  ·exact hw.mail d hd
 ·rcases mem_set' hd with rfl|hd
  ·exact h4
  ·exact hw.linksB d hd
 ·rcases mem_set' hd with rfl|hd
  ·exact h5
  ·exact hw.watB d hd
 ·show ∀x∈d.links,1≤x∧x≤((w.runs.set i y).length:Int);rw [List.length_set];rcases mem_set' hd with rfl|hd
  ·exact h6
  ·exact hw.links d hd
theorem PW.Wk.num {w:PW} {B:Nat} (hw:w.Wk B) (n s t u:Int):PW.Wk ⟨w.code,w.runs,w.queue,n,s,t,u⟩ B:=⟨hw.runs,hw.q1,hw.q2,hw.place,hw.slots,hw.mail,hw.linksB,hw.watB,hw.links⟩
theorem loseP_wk {w:PW} {B:Nat} (hw:w.Wk B):(loseP w).Wk B:=hw.num _ _ _ _
theorem giveAt_wk {w:PW} {B:Nat} (hw:w.Wk B) (i:Nat) (hi:i<w.runs.length) (v:Int×Int):(giveAt w i ((i:Int)+1) w.runs[i] v).Wk B:=by
 have hm:=List.getElem_mem hi;have hni:(w.runs[i].st=2)→((i:Int)+1)∉w.queue:=fun e hx=>by
  obtain⟨j,e2,d,hd,hs⟩:=hw.q2 _ hx;have:i=j:=by omega
  subst this;rw [List.getElem?_eq_getElem hi] at hd
  cases hd
  omega
 unfold giveAt
 split
 ·exact loseP_wk hw
 ·rename_i h1
  have h1':w.runs[i].mail.length<12:=by
   simp only [Bool.or_eq_true,decide_eq_true_eq,not_or] at h1;omega
  split
  ·rename_i h2
   have h2':w.runs[i].st=2:=by
    rw [Bool.and_eq_true] at h2;simpa using h2.1
   have hnot:=hni h2';refine hw.set i hi { w.runs[i] with mail:=w.runs[i].mail++[v],st:=1 } _ ?_ (fun x hx=>?_) (hw.place w.runs[i] hm) (hw.slots w.runs[i] hm) ?_ (hw.linksB w.runs[i] hm) (hw.watB w.runs[i] hm) (hw.links w.runs[i] hm) _ _ _ _
   ·rw [List.nodup_append];refine⟨hw.q1,by simp,fun a ha b hb=>?_⟩;rw [List.mem_singleton] at hb;subst hb;exact fun e=>hnot (e ▸ ha)
   ·rcases List.mem_append.1 hx with hx|hx
    ·exact .inr ⟨hx,fun e=>hnot (e ▸ hx)⟩
    ·exact .inl ⟨List.mem_singleton.1 hx,rfl⟩
   ·simp;omega
  ·refine hw.set i hi { w.runs[i] with mail:=w.runs[i].mail++[v] } _ hw.q1 (fun x hx=>?_) (hw.place w.runs[i] hm) (hw.slots w.runs[i] hm) ?_ (hw.linksB w.runs[i] hm) (hw.watB w.runs[i] hm) (hw.links w.runs[i] hm) _ _ _ _
   ·obtain⟨j,e2,d,hd,hs⟩:=hw.q2 _ hx;by_cases e:x=(i:Int)+1
    ·have:i=j:=by omega
     subst this;rw [List.getElem?_eq_getElem hi] at hd
     cases hd
     exact .inl ⟨e,hs⟩
    ·exact .inr ⟨hx,e⟩
   ·simp;omega
theorem giveP_in (w:PW) (i:Nat) (hi:i<w.runs.length) (id:Int) (hid:id=(i:Int)+1) (v:Int×Int):giveP w id v=giveAt w i id w.runs[i] v:=by
 have h1:(id-1).toNat=i:=by omega
 unfold giveP;rw [if_pos (by omega),h1,List.getElem?_eq_getElem hi]
theorem giveP_out (w:PW) (id:Int) (hid:¬(1≤id∧id≤(w.runs.length:Int))) (v:Int×Int):giveP w id v=loseP w:=by
 unfold giveP;rw [if_neg hid]
theorem giveP_wk {w:PW} {B:Nat} (hw:w.Wk B) (id:Int) (v:Int×Int):(giveP w id v).Wk B:=by
 by_cases h:1≤id∧id≤(w.runs.length:Int)
 ·obtain⟨i,hi⟩:∃i:Nat,id=(i:Int)+1:=⟨(id-1).toNat,by omega⟩;subst hi;have hi:i<w.runs.length:=by omega
  rw [giveP_in w i hi _ rfl];exact giveAt_wk hw i hi v
 ·rw [giveP_out w id h];exact loseP_wk hw
theorem giveAt_len (w:PW) (i:Nat) (id:Int) (d:RunD) (v:Int×Int):(giveAt w i id d v).runs.length=w.runs.length∧(giveAt w i id d v).code=w.code:=by
 unfold giveAt loseP
 split
 ·exact⟨rfl,rfl⟩
 ·split
  ·exact⟨by simp,rfl⟩
  ·exact⟨by simp,rfl⟩
theorem giveP_len (w:PW) (id:Int) (v:Int×Int):(giveP w id v).runs.length=w.runs.length∧(giveP w id v).code=w.code:=by
 unfold giveP
 split
 ·split
  ·exact giveAt_len _ _ _ _ _
  ·exact⟨rfl,rfl⟩
 ·exact⟨rfl,rfl⟩
theorem pure_len (D:WD):D.pure.runs.length=D.runs.length:=by simp [WD.pure]
theorem pure_get (D:WD) (i:Nat) (hi:i<D.runs.length) (h:i<D.pure.runs.length):D.pure.runs[i]=D.runs[i].1:=by simp [WD.pure]
theorem pure_mem {D:WD} {i:Nat} (hi:i<D.runs.length):D.runs[i].1∈D.pure.runs:=by
 rw [←pure_get D i hi (by rw [pure_len];exact hi)];exact List.getElem_mem _
theorem give_con (D:WD) (B:Nat) (hw:D.pure.Wk B) (id:Int) (v:Int×Int) (h:Hp) (l:List Atom) (ho:Own h (wAtoms D++l)) :
  Con Tryz.prog 118 #[D.val,.int .i64 id,.agg #[.int .i64 v.1,.int .i64 v.2]] h fun r h'=>∃D',r=D'.val∧Own h' (wAtoms D'++l)∧D'.pure=giveP D.pure id v:=by
 have hl:=pure_len D;by_cases hin:1≤id∧id≤(D.runs.length:Int)
 ·obtain⟨i,hi⟩:∃i:Nat,id=(i:Int)+1:=⟨(id-1).toNat,by omega⟩;have hi':i<D.runs.length:=by omega
  refine(giveIn_con D (by have:=hw.runs;omega) (by have:=hw.queue;exact Nat.le_trans this (by decide)) i hi' id hi (hw.place _ (pure_mem hi')) v h l ho).mono ?_;rintro r h' ⟨D',e1,e2,e3⟩;exact⟨D',e1,e2,by rw [e3,giveP_in D.pure i (by omega) id hi v,pure_get D i hi']⟩
 ·refine(giveOut_con D id hin v h l ho).mono ?_;rintro r h' ⟨e1,rfl⟩;exact⟨_,e1,ho,by rw [giveP_out D.pure id (by rw [hl];exact hin)];rfl⟩
def RunD.fall (d:RunD) (v:Int×Int):RunD:={ d with mail:=[],links:=[],wat:=[],st:=3,due:=0,wk:=v.1,wn:=v.2 }
def RunD.unwatch (id:Int) (d:RunD):RunD:={ d with wat:=lessP d.wat id }
def fallA (w:PW) (i:Nat) (id:Int) (d:RunD) (v:Int×Int):PW:={ w with lost:=wr (w.lost+d.mail.length),queue:=lessP w.queue id,runs:=(w.runs.set i (d.fall v)).map (RunD.unwatch id) }
def linkStep (id:Int) (v:Int×Int) (s:PW×List Int) (k:Int):PW×List Int :=
 match s.1.runs[(k-1).toNat]? with
 |none=>s
 |some d =>
  if normalP v then ({ s.1 with runs:=s.1.runs.set (k-1).toNat { d with links:=lessP d.links id } },s.2)
  else if d.trap then (giveP { s.1 with runs:=s.1.runs.set (k-1).toNat { d with links:=lessP d.links id } } k (3,id),s.2)
  else ({ s.1 with runs:=s.1.runs.set (k-1).toNat { d with links:=lessP d.links id } },s.2++[k])
def oneP (w:PW) (i:Nat) (id:Int) (d:RunD) (v:Int×Int):PW×List Int :=
 let a:=d.links.foldl (linkStep id v) (fallA w i id d v,[])
 (d.wat.foldl (fun w k=>giveP w k (3,id)) a.1,a.2)
theorem mem_lessP {L:List Int} {n x:Int}:x∈lessP L n↔x∈L∧x≠n:=by simp [lessP]
theorem lessP_nodup {L:List Int} {n:Int} (h:L.Nodup):(lessP L n).Nodup:=h.filter _
theorem lessP_len (L:List Int) (n:Int):(lessP L n).length≤L.length:=List.length_filter_le _ _
theorem PW.Wk.unwatch {w:PW} {B:Nat} (hw:w.Wk B) (id:Int):PW.Wk { w with runs:=w.runs.map (RunD.unwatch id) } B:=by
 have hm:∀d∈w.runs.map (RunD.unwatch id),∃e∈w.runs,d=e.unwatch id:=fun d hd=>by
  obtain⟨e,he,e2⟩:=List.mem_map.1 hd;exact⟨e,he,e2.symm⟩
 refine⟨by simpa using hw.runs,hw.q1,fun x hx=>?_,fun d hd=>?_,fun d hd=>?_,fun d hd=>?_,fun d hd=>?_,fun d hd=>?_,fun d hd=>?_⟩
 ·obtain⟨i,e,d,hd,hs⟩:=hw.q2 x hx;refine⟨i,e,d.unwatch id,?_,hs⟩;show (w.runs.map (RunD.unwatch id))[i]?=_;rw [List.getElem?_map,hd];rfl
 ·obtain⟨e,he,rfl⟩:=hm d hd;exact hw.place e he
 ·obtain⟨e,he,rfl⟩:=hm d hd;exact hw.slots e he
 ·obtain⟨e,he,rfl⟩:=hm d hd;exact hw.mail e he
 ·obtain⟨e,he,rfl⟩:=hm d hd;exact hw.linksB e he
 ·obtain⟨e,he,rfl⟩:=hm d hd;exact Nat.le_trans (lessP_len _ _) (hw.watB e he)
 ·obtain⟨e,he,rfl⟩:=hm d hd;show ∀x∈e.links,1≤x∧x≤((w.runs.map (RunD.unwatch id)).length:Int);rw [List.length_map];exact hw.links e he
theorem fallA_wk {w:PW} {B:Nat} (hw:w.Wk B) (i:Nat) (hi:i<w.runs.length) (v:Int×Int):(fallA w i ((i:Int)+1) w.runs[i] v).Wk B:=by
 have hm:=List.getElem_mem hi;refine PW.Wk.unwatch (w:=⟨w.code,w.runs.set i (w.runs[i].fall v),lessP w.queue ((i:Int)+1),w.now,w.sent,w.taken,wr (w.lost+w.runs[i].mail.length)⟩) (hw.set i hi (w.runs[i].fall v) _ (lessP_nodup hw.q1) (fun x hx=>.inr (mem_lessP.1 hx)) (hw.place w.runs[i] hm) (hw.slots w.runs[i] hm) (Nat.zero_le _) (Nat.zero_le _) (Nat.zero_le _) (fun x hx=>by cases hx) _ _ _ _) _
theorem fallA_len (w:PW) (i:Nat) (id:Int) (d:RunD) (v:Int×Int):(fallA w i id d v).runs.length=w.runs.length:=by simp [fallA]
theorem PW.Wk.less {w:PW} {B:Nat} (hw:w.Wk B) (i:Nat) (hi:i<w.runs.length) (id:Int):PW.Wk { w with runs:=w.runs.set i { w.runs[i] with links:=lessP w.runs[i].links id } } B:=by
 have hm:=List.getElem_mem hi;refine hw.set i hi { w.runs[i] with links:=lessP w.runs[i].links id } _ hw.q1 (fun x hx=>?_) (hw.place w.runs[i] hm) (hw.slots w.runs[i] hm) (hw.mail w.runs[i] hm) (Nat.le_trans (lessP_len _ _) (hw.linksB w.runs[i] hm)) (hw.watB w.runs[i] hm) (fun x hx=>hw.links w.runs[i] hm x (mem_lessP.1 hx).1) _ _ _ _;obtain⟨j,e2,d,hd,hs⟩:=hw.q2 _ hx;by_cases e:x=(i:Int)+1
 ·have:i=j:=by omega
  subst this;rw [List.getElem?_eq_getElem hi] at hd
  cases hd
  exact .inl ⟨e,hs⟩
 ·exact .inr ⟨hx,e⟩
theorem linkStep_wk {s:PW×List Int} {B:Nat} (hw:s.1.Wk B) (id:Int) (v:Int×Int) (k:Int):(linkStep id v s k).1.Wk B∧(linkStep id v s k).1.runs.length=s.1.runs.length∧(linkStep id v s k).2.length≤s.2.length+1:=by
 unfold linkStep
 split
 ·exact⟨hw,rfl,Nat.le_succ _⟩
 ·rename_i d hd
  obtain⟨hi,rfl⟩:=List.getElem?_eq_some_iff.1 hd;have h1:=hw.less _ hi id
  split
  ·exact⟨h1,by simp,Nat.le_succ _⟩
  ·split
   ·exact⟨giveP_wk h1 _ _,by rw [(giveP_len _ _ _).1];simp,Nat.le_succ _⟩
   ·exact⟨h1,by simp,by simp⟩
theorem links_wk (id:Int) (v:Int×Int) (B:Nat):∀(L:List Int) (s:PW×List Int),s.1.Wk B→(L.foldl (linkStep id v) s).1.Wk B∧(L.foldl (linkStep id v) s).1.runs.length=s.1.runs.length∧(L.foldl (linkStep id v) s).2.length≤s.2.length+L.length
 |[],s,hw=>⟨hw,rfl,Nat.le_refl _⟩
 |k::L,s,hw=>by
  have h1:=linkStep_wk hw id v k;have h2:=links_wk id v B L _ h1.1;refine⟨h2.1,h2.2.1.trans h1.2.1,?_⟩;have:=h2.2.2;have:=h1.2.2;simp only [List.foldl_cons,List.length_cons] at *;omega
theorem gives_wk (v:Int×Int) (B:Nat):∀(L:List Int) (w:PW),w.Wk B→(L.foldl (fun w k=>giveP w k v) w).Wk B∧(L.foldl (fun w k=>giveP w k v) w).runs.length=w.runs.length
 |[],w,hw=>⟨hw,rfl⟩
 |k::L,w,hw=>by
  have h2:=gives_wk v B L _ (giveP_wk hw k v);exact⟨h2.1,h2.2.trans (giveP_len _ _ _).1⟩
theorem oneP_wk {w:PW} {B:Nat} (hw:w.Wk B) (i:Nat) (hi:i<w.runs.length) (v:Int×Int):(oneP w i ((i:Int)+1) w.runs[i] v).1.Wk B∧(oneP w i ((i:Int)+1) w.runs[i] v).1.runs.length=w.runs.length∧(oneP w i ((i:Int)+1) w.runs[i] v).2.length≤B:=by
 have h1:=links_wk ((i:Int)+1) v B w.runs[i].links (fallA w i ((i:Int)+1) w.runs[i] v,[]) (fallA_wk hw i hi v);have h2:=gives_wk (3,(i:Int)+1) B w.runs[i].wat _ h1.1;refine⟨h2.1,(h2.2.trans h1.2.1).trans (fallA_len _ _ _ _ _),Nat.le_trans h1.2.2 ?_⟩;have:=hw.linksB w.runs[i] (List.getElem_mem hi);simpa using this
def unwTo (id:Int) (j:Nat) (L:List RunD):List RunD:=(L.take j).map (RunD.unwatch id)++L.drop j
theorem unwTo_len (id:Int) (j:Nat) (L:List RunD) (hj:j≤L.length):(unwTo id j L).length=L.length:=by simp [unwTo];omega
theorem unwTo_get (id:Int) (j:Nat) (L:List RunD) (hj:j<L.length) (h:j<(unwTo id j L).length):(unwTo id j L)[j]=L[j]:=by
 have:((L.take j).map (RunD.unwatch id)).length=j:=by simp;omega
 simp only [unwTo];rw [List.getElem_append_right (by omega)];simp only [List.getElem_drop,this,Nat.sub_self,Nat.add_zero]
theorem unwTo_succ (id:Int) (j:Nat) (L:List RunD) (hj:j<L.length):(unwTo id j L).set j (L[j].unwatch id)=unwTo id (j+1) L:=by
 have h1:((L.take j).map (RunD.unwatch id)).length=j:=by simp;omega
 unfold unwTo;rw [List.set_append_right _ _ (by omega),h1,Nat.sub_self,List.drop_eq_getElem_cons hj,List.set_cons_zero,List.take_succ_eq_append_getElem hj,List.map_append,List.append_assoc];rfl
theorem unwTo_all (id:Int) (L:List RunD):unwTo id L.length L=L.map (RunD.unwatch id):=by simp [unwTo]
abbrev atS (y:RunD×RunP):Atom:=.row (rowV (.slice y.2.a0 y.1.slots.length y.2.k0) y.1.slots)
abbrev atM (y:RunD×RunP):Atom:=.row (rowV (.slice y.2.a1 y.1.mail.length y.2.k1) y.1.mail)
abbrev atL (y:RunD×RunP):Atom:=.row (rowI (.slice y.2.a2 y.1.links.length y.2.k2) y.1.links)
abbrev atW (y:RunD×RunP):Atom:=.row (rowI (.slice y.2.a3 y.1.wat.length y.2.k3) y.1.wat)
theorem w_wat {h:Hp} {E:WD} {y:RunD×RunP} {O:List Atom} (o:Own h (.row (rowR E.rv E.runs)::(runRows y++O))):Own h (atW y::.row (rowR E.rv E.runs)::atS y::atM y::atL y::O):=by
 refine o.perm ?_
 classical
 rw [List.perm_iff_count];intro a;simp only [runRows,atS,atM,atL,atW,List.count_cons,List.cons_append,List.nil_append];omega
theorem w_lnk {h:Hp} {E:WD} {y:RunD×RunP} {O:List Atom} (o:Own h (.row (rowR E.rv E.runs)::(runRows y++O))):Own h (atL y::.row (rowR E.rv E.runs)::atS y::atM y::atW y::O):=by
 refine o.perm ?_
 classical
 rw [List.perm_iff_count];intro a;simp only [runRows,atS,atM,atL,atW,List.count_cons,List.cons_append,List.nil_append];omega
theorem w_watR {h:Hp} {E:WD} {y:RunD×RunP} {O:List Atom} (o:Own h (atW y::.row (rowR E.rv E.runs)::atS y::atM y::atL y::O)):Own h (.row (rowR E.rv E.runs)::(runRows y++O)):=by
 refine o.perm ?_
 classical
 rw [List.perm_iff_count];intro a;simp only [runRows,atS,atM,atL,atW,List.count_cons,List.cons_append,List.nil_append];omega
theorem w_lnkR {h:Hp} {E:WD} {y:RunD×RunP} {O:List Atom} (o:Own h (atL y::.row (rowR E.rv E.runs)::atS y::atM y::atW y::O)):Own h (.row (rowR E.rv E.runs)::(runRows y++O)):=by
 refine o.perm ?_
 classical
 rw [List.perm_iff_count];intro a;simp only [runRows,atS,atM,atL,atW,List.count_cons,List.cons_append,List.nil_append];omega
theorem l13One_con (D:WD) (B:Nat) (hB:B<100000) (hw:D.pure.Wk B) (i:Nat) (hi:i<D.runs.length) (id:Int) (hid:id=(i:Int)+1) (v:Int×Int) (h:Hp) (l:List Atom) (ho:Own h (wAtoms D++l)) :
  Con Tryz.prog 85 #[D.val,.int .i64 id,.agg #[.int .i64 v.1,.int .i64 v.2]] h fun r h'=>∃D' a c,r=.tuple #[D'.val,.slice a (oneP D.pure i id D.runs[i].1 v).2.length c]∧Own h' (.row (rowI (.slice a (oneP D.pure i id D.runs[i].1 v).2.length c) (oneP D.pure i id D.runs[i].1 v).2)::(wAtoms D'++l))∧D'.pure=(oneP D.pure i id D.runs[i].1 v).1:=by
 obtain⟨g,hra⟩:=w_ra ho (by omega);have hn6:D.runs.length≤6:=by have:=hw.runs;rw [pure_len] at this;exact this
 have hz:IntKind.i64.wrap (id-1)=(i:Int):=by rw [hid,show (i:Int)+1-1=i by omega];exact wrapN _ (by omega) (by omega)
 refine Con.of_W (tb:=tbE) (args:=[D.val,.int .i64 id,.agg #[.int .i64 v.1,.int .i64 v.2]]) Tryz.func85 rfl Tryz.results85 Tryz.ntmps85 (by simp) (Tryz.call85 _) (tm:=[(0,.a D.cells),(1,.v (.int .i64 id)),(2,.a [.int .i64 v.1,.int .i64 v.2])]) rfl ?_;refine vc_ok ⟨tbE_ok,_,Tryz.func85,Tryz.results85,Tryz.ntmps85⟩ 400 _ _ _ _ ?_;conv=>whnf
 refine Ext.index slRun.u slRun.size rfl (by exact rv_same hra) rfl i hz hi ?_;conv=>whnf
 refine Ext.loadRun (D:=D) rfl (ho.rowOk (by simp [wAtoms])) (rv_same hra) hi rfl ?_;conv=>whnf
 have ho1:=w_open ho i hi;have ho2:Own h (.row (rowR D.rv D.runs)::.row (rowV (.slice D.runs[i].2.a0 D.runs[i].1.slots.length D.runs[i].2.k0) D.runs[i].1.slots)::wOth D i (.row (rowI (.slice D.runs[i].2.a2 D.runs[i].1.links.length D.runs[i].2.k2) D.runs[i].1.links)::.row (rowI (.slice D.runs[i].2.a3 D.runs[i].1.wat.length D.runs[i].2.k3) D.runs[i].1.wat)::l)):=by
  refine Own.tail (x:=.row (rowV (.slice D.runs[i].2.a1 D.runs[i].1.mail.length D.runs[i].2.k1) D.runs[i].1.mail)) (ho1.perm ?_)
  classical
  rw [List.perm_iff_count];intro a;simp only [wOth,runRows,List.count_cons,List.count_append,List.cons_append,List.nil_append];omega
 refine Ext.buildSlice slVal rfl ho2 [] (fun w=>⟨_,Tryz.zeroValue32 w,by kernel_rfl⟩) [] rfl rfl (by decide) fun g1 h1 _ o1=>?_
 conv=>whnf
 refine Ext.buildSlice slInt rfl o1 [] (fun w=>⟨_,Tryz.zeroValue3 w,by kernel_rfl⟩) [] rfl rfl (by decide) fun g2 h2 _ o2=>?_
 conv=>whnf
 refine Ext.buildSlice slInt rfl o2 [] (fun w=>⟨_,Tryz.zeroValue3 w,by kernel_rfl⟩) [] rfl rfl (by decide) fun g3 h3 _ o3=>?_
 conv=>whnf
 refine Ext.index slRun.u slRun.size rfl (by exact rv_same hra) rfl i hz hi ?_;conv=>whnf
 obtain⟨x,hx⟩:∃x:RunD×RunP,x=(D.runs[i].1.fall v,{ D.runs[i].2 with a1:=some ⟨g1,0,none⟩,k1:=0,a2:=some ⟨g2,0,none⟩,k2:=0,a3:=some ⟨g3,0,none⟩,k3:=0 }):=⟨_,rfl⟩;obtain⟨l2,hl2⟩:∃l2:List Atom,l2=.row (rowI (.slice D.runs[i].2.a2 D.runs[i].1.links.length D.runs[i].2.k2) D.runs[i].1.links)::.row (rowI (.slice D.runs[i].2.a3 D.runs[i].1.wat.length D.runs[i].2.k3) D.runs[i].1.wat)::l:=⟨_,rfl⟩;have o4:Own h3 (.row (rowR D.rv D.runs)::(runRows x++wOth D i l2)):=by
  have o3':Own h3 (.row (rowI (.slice (some ⟨g3,0,none⟩) 0 0) [])::.row (rowI (.slice (some ⟨g2,0,none⟩) 0 0) [])::.row (rowV (.slice (some ⟨g1,0,none⟩) 0 0) [])::.row (rowR D.rv D.runs)::.row (rowV (.slice D.runs[i].2.a0 D.runs[i].1.slots.length D.runs[i].2.k0) D.runs[i].1.slots)::wOth D i l2):=by rw [hl2];exact o3
  refine o3'.perm ?_;subst hx
  classical
  rw [List.perm_iff_count];intro a;simp only [runRows,RunD.fall,List.length_nil,List.count_cons,List.cons_append,List.nil_append];omega
 refine Ext.storeRun (D:={ D with lost:=wr (D.lost+D.runs[i].1.mail.length) }) rfl hi (rv_same hra) x rfl (by exact o4) rfl (by subst hx;rfl) fun h4 ho4=>?_
 conv=>whnf
 refine(l13Less_con D.qa D.qk D.queue id (by have:=hw.queue;exact Nat.lt_of_le_of_lt this (by decide)) h4 _ (q_open (D:=({ D with lost:=wr (D.lost+D.runs[i].1.mail.length) }:WD).setRun i x) ho4)).mono ?_;rintro r h5 ⟨qa,qk,rfl,ho5⟩;conv=>whnf
 obtain⟨E1,hE1⟩:∃E:WD,E=(({ D with lost:=wr (D.lost+D.runs[i].1.mail.length) }:WD).setRun i x).setQ (lessP D.queue id) qa qk:=⟨_,rfl⟩;have hc:E1.cells=[D.cv,D.rv,.slice qa (lessP D.queue id).length qk,.int .i64 D.now,.int .i64 D.sent,.int .i64 D.taken,.int .i64 (wr (D.lost+D.runs[i].1.mail.length))]:=by subst hE1;simp [WD.cells]
 have ho6:Own h5 (wAtoms E1++l2):=by rw [hE1];exact q_shut (D:=({ D with lost:=wr (D.lost+D.runs[i].1.mail.length) }:WD).setRun i x) (lessP D.queue id) qa qk ho5.drop2
 have hp1:({ E1.pure with runs:=E1.pure.runs.map (RunD.unwatch id) }:PW)=fallA D.pure i id D.runs[i].1 v:=by subst hE1 hx;simp [WD.pure,fallA,List.map_set]
 have hra1:E1.ra=some ⟨g,0,none⟩:=by subst hE1;exact hra
 have hlen1:E1.runs.length=D.runs.length:=by subst hE1;simp
 refine W.cut [(1,.v (.int .i64 id)),(3,.p 0 0),(5,.p 1 0),(6,.p 2 0),(9,.v (.slice D.runs[i].2.a2 D.runs[i].1.links.length D.runs[i].2.k2)),(10,.v (.slice D.runs[i].2.a3 D.runs[i].1.wat.length D.runs[i].2.k3)),(11,.v (.int .i64 (0:Nat)))]
  [⟨27,[D.cv,D.rv,.slice qa (lessP D.queue id).length qk,.int .i64 D.now,.int .i64 D.sent,.int .i64 D.taken,.int .i64 (wr (D.lost+D.runs[i].1.mail.length))]⟩,⟨32,[.int .i64 v.1,.int .i64 v.2]⟩,⟨27,[.slice none 0 0,.slice none 0 0,.slice none 0 0,.int .i64 0,.int .i64 0,.int .i64 0,.int .i64 0]⟩] [_] ⟨rfl,rfl,rfl,rfl,rfl,rfl,rfl,trivial⟩ rfl rfl ⟨_,rfl⟩ ?_
 rw [←hc];clear ho ho1 ho2 o1 o2 o3 o4 ho4 ho5 hc;have hrs1:E1.pure.runs=D.pure.runs.set i (D.runs[i].1.fall v):=by subst hE1 hx;simp [WD.pure,List.map_set]
 have hwB:∀d∈E1.pure.runs,d.wat.length≤B:=fun d hd=>by
  rw [hrs1] at hd;rcases mem_set' hd with rfl|hd
  ·exact Nat.zero_le _
  ·exact hw.watB d hd
 have hlp:E1.pure.runs.length=E1.runs.length:=pure_len E1;refine W.loop (α:=Nat×WD) (fun x=>[(1,.v (.int .i64 id)),(3,.p 0 0),(5,.p 1 0),(6,.p 2 0),(9,.v (.slice D.runs[i].2.a2 D.runs[i].1.links.length D.runs[i].2.k2)),(10,.v (.slice D.runs[i].2.a3 D.runs[i].1.wat.length D.runs[i].2.k3)),(11,.v (.int .i64 (x.1:Int)))])
  (fun x=>[⟨27,x.2.cells⟩,⟨32,[.int .i64 v.1,.int .i64 v.2]⟩,⟨27,[.slice none 0 0,.slice none 0 0,.slice none 0 0,.int .i64 0,.int .i64 0,.int .i64 0,.int .i64 0]⟩])
  (fun x h'=>x.1≤E1.runs.length∧x.2.runs.length=E1.runs.length∧x.2.ra=some ⟨g,0,none⟩∧Own h' (wAtoms x.2++l2)∧x.2.pure={ E1.pure with runs:=unwTo id x.1 E1.pure.runs }) (fun x=>E1.runs.length-x.1) ?_ (0,E1) h5 ⟨Nat.zero_le _,rfl,hra1,ho6,by simp [unwTo]⟩
 rintro⟨j,E⟩ h6 ⟨hj,hEl,hEra,hEo,hEp⟩ ih;dsimp only at hj hEl hEra hEo hEp ⊢;refine vc_ok ⟨tbE_ok,_,Tryz.func85,Tryz.results85,Tryz.ntmps85⟩ 400 _ _ _ _ ?_;conv=>whnf
 refine⟨fun h7=>?_,fun h7=>?_⟩<;>conv=>whnf
 ·have hlt:j<E.runs.length:=by simp at h7;omega
  refine W.draw [(0,true),(1,true),(2,true),(3,true),(4,true),(5,true),(6,true),(7,true),(9,true),(8,false),(10,false),(11,true),(12,true),(13,false)] [0,1,2] none 99 (by kernel_rfl) rfl (by kernel_rfl) mixed rfl (fun g e=>by cases e) ?_;refine vc_ok ⟨tbE_ok,_,Tryz.func85,Tryz.results85,Tryz.ntmps85⟩ 400 _ _ _ _ ?_;conv=>whnf
  have hera:=rv_same hEra;have hz8:IntKind.i64.wrap (j:Int)=(j:Int):=wrapN _ (by omega) (by omega);have hjE:j<E1.pure.runs.length:=by omega
  have hEg:E.runs[j].1=E1.pure.runs[j]:=by
   rw [←pure_get E j hlt (by rw [pure_len];exact hlt)];simp only [hEp];exact unwTo_get id j _ hjE _
  have hEo1:=w_wat (w_open hEo j hlt);refine Rd.index slRun.u slRun.size rfl (by exact hera) rfl j rfl hlt ?_;conv=>whnf
  refine Ext.loadRunCell (D:=E) rfl ⟨rfl,rfl⟩ rfl (hEo.rowOk (by simp [wAtoms])) hera hlt 8 (by decide) rfl (.slice E.runs[j].2.a3 E.runs[j].1.wat.length E.runs[j].2.k3) rfl ?_;conv=>whnf
  have hwb:E.runs[j].1.wat.length<100000:=by rw [hEg];exact Nat.lt_of_le_of_lt (hwB _ (List.getElem_mem hjE)) hB
  refine(l13Less_con E.runs[j].2.a3 E.runs[j].2.k3 E.runs[j].1.wat id hwb h6 _ hEo1).mono ?_;rintro r h8 ⟨wa,wk,rfl,ho8⟩;conv=>whnf
  refine Rd.index slRun.u slRun.size rfl (by exact hera) rfl j rfl hlt ?_;conv=>whnf
  refine Ext.storeRunCell (D:=E) rfl rfl rfl hlt hera 8 (by decide) (.slice wa (lessP E.runs[j].1.wat id).length wk) rfl rfl ({ E.runs[j].1 with wat:=lessP E.runs[j].1.wat id },{ E.runs[j].2 with a3:=wa,k3:=wk }) rfl rfl (w_watR (y:=({ E.runs[j].1 with wat:=lessP E.runs[j].1.wat id },{ E.runs[j].2 with a3:=wa,k3:=wk })) ho8.drop2) rfl rfl fun h9 ho9=>?_
  conv=>whnf
  have hwj:IntKind.i64.wrap ((j:Int)+1)=((j+1:Nat):Int):=by rw [wrapN _ (by omega) (by omega)];omega
  have hcE:(E.setRun j ({ E.runs[j].1 with wat:=lessP E.runs[j].1.wat id },{ E.runs[j].2 with a3:=wa,k3:=wk })).cells=E.cells:=by simp [WD.cells]
  have hih:=ih (j+1,E.setRun j ({ E.runs[j].1 with wat:=lessP E.runs[j].1.wat id },{ E.runs[j].2 with a3:=wa,k3:=wk })) h9 ⟨by dsimp only;omega,by simpa using hEl,hEra,ho9,by
   have e1:(E.setRun j ({ E.runs[j].1 with wat:=lessP E.runs[j].1.wat id },{ E.runs[j].2 with a3:=wa,k3:=wk })).pure={ E.pure with runs:=E.pure.runs.set j (E.runs[j].1.unwatch id) }:=by simp [WD.pure,List.map_set,RunD.unwatch]
   rw [e1,hEp,hEg];dsimp only;rw [unwTo_succ id j _ hjE]⟩ (by dsimp only;omega)
  dsimp only at hih;rw [hcE] at hih;rw [hwj];exact W.back hih [] (by exact⟨rfl,rfl,rfl,rfl,rfl,rfl,rfl,trivial⟩) rfl rfl
 ·have hje:j=E1.pure.runs.length:=by simp at h7;omega
  rw [hje,unwTo_all,hp1] at hEp;clear ih hp1 hj ho6;refine Ext.buildSlice slInt rfl hEo [] (fun w=>⟨_,Tryz.zeroValue3 w,by kernel_rfl⟩) [] rfl rfl (by decide) fun gn h8 _ ho8=>?_
  conv=>whnf
  have hWk2:(fallA D.pure i id D.runs[i].1 v).Wk B:=by
   have:=fallA_wk hw i (by rw [pure_len];exact hi) v;rw [pure_get D i hi,←hid] at this;exact this
  have hlen2:(fallA D.pure i id D.runs[i].1 v).runs.length=D.runs.length:=by rw [fallA_len,pure_len]
  have hlB:D.runs[i].1.links.length≤B:=hw.linksB _ (pure_mem hi);have hwB2:D.runs[i].1.wat.length≤B:=hw.watB _ (pure_mem hi);have hlR:∀x∈D.runs[i].1.links,1≤x∧x≤(D.runs.length:Int):=by have:=hw.links _ (pure_mem hi);rw [pure_len] at this;exact this
  refine W.cut [(1,.v (.int .i64 id)),(3,.p 0 0),(5,.p 1 0),(6,.p 2 0),(9,.v (.slice D.runs[i].2.a2 D.runs[i].1.links.length D.runs[i].2.k2)),(10,.v (.slice D.runs[i].2.a3 D.runs[i].1.wat.length D.runs[i].2.k3)),(12,.v (.slice (some ⟨gn,0,none⟩) 0 0)),(13,.v (.int .i64 (0:Nat)))]
   [⟨27,E.cells⟩,⟨32,[.int .i64 v.1,.int .i64 v.2]⟩,⟨27,[.slice none 0 0,.slice none 0 0,.slice none 0 0,.int .i64 0,.int .i64 0,.int .i64 0,.int .i64 0]⟩] [] ⟨rfl,rfl,rfl,rfl,rfl,rfl,rfl,rfl,trivial⟩ rfl rfl ⟨_,rfl⟩ ?_
  clear h7 hEl hEra hEo hra1 hra hz hlen1 hrs1 hwB hlp;refine W.loop (α:=Nat×WD×List Int×Option Addr×Nat) (fun x=>[(1,.v (.int .i64 id)),(3,.p 0 0),(5,.p 1 0),(6,.p 2 0),(9,.v (.slice D.runs[i].2.a2 D.runs[i].1.links.length D.runs[i].2.k2)),(10,.v (.slice D.runs[i].2.a3 D.runs[i].1.wat.length D.runs[i].2.k3)),(12,.v (.slice x.2.2.2.1 x.2.2.1.length x.2.2.2.2)),(13,.v (.int .i64 (x.1:Int)))])
   (fun x=>[⟨27,x.2.1.cells⟩,⟨32,[.int .i64 v.1,.int .i64 v.2]⟩,⟨27,[.slice none 0 0,.slice none 0 0,.slice none 0 0,.int .i64 0,.int .i64 0,.int .i64 0,.int .i64 0]⟩])
   (fun x h'=>x.1≤D.runs[i].1.links.length∧Own h' (.row (rowI (.slice x.2.2.2.1 x.2.2.1.length x.2.2.2.2) x.2.2.1)::(wAtoms x.2.1++l2))∧(x.2.1.pure,x.2.2.1)=(D.runs[i].1.links.take x.1).foldl (linkStep id v) (fallA D.pure i id D.runs[i].1 v,[])) (fun x=>D.runs[i].1.links.length-x.1) ?_ (0,E,[],some ⟨gn,0,none⟩,0) h8 ⟨Nat.zero_le _,ho8,by simp [hEp]⟩
  clear ho8 hEp E hje j;rintro⟨j,E,nx,na,nc⟩ h9 ⟨hj,hEo,hEp⟩ ih;dsimp only at hj hEo hEp ⊢;have hall:=links_wk id v B (D.runs[i].1.links.take j) (fallA D.pure i id D.runs[i].1 v,[]) hWk2;rw [←hEp] at hall;obtain⟨hEw,hEl,hnl⟩:=hall;dsimp only at hEw hEl hnl;have hnl':nx.length≤B:=by simp at hnl;omega
  rw [pure_len,hlen2] at hEl;refine vc_ok ⟨tbE_ok,_,Tryz.func85,Tryz.results85,Tryz.ntmps85⟩ 400 _ _ _ _ ?_;conv=>whnf
  refine⟨fun h7=>?_,fun h7=>?_⟩<;>conv=>whnf
  ·have hlt:j<D.runs[i].1.links.length:=by simp at h7;omega
   have hlr:RowOk h9 (rowI (.slice D.runs[i].2.a2 D.runs[i].1.links.length D.runs[i].2.k2) D.runs[i].1.links):=hEo.rowOk (by simp [hl2]);obtain⟨gl,hla⟩:=row_some hlr (by omega);have hlv:Value.slice D.runs[i].2.a2 D.runs[i].1.links.length D.runs[i].2.k2=.slice (some ⟨gl,0,none⟩) D.runs[i].1.links.length D.runs[i].2.k2:=by rw [hla]
   refine Ext.index slInt.u slInt.size rfl (by exact hlv) rfl j rfl hlt ?_;conv=>whnf
   refine Ext.loadInt rfl hlr hlv hlt rfl ?_;conv=>whnf
   obtain⟨m,hm⟩:∃m:Nat,D.runs[i].1.links[j]=(m:Int)+1:=⟨(D.runs[i].1.links[j]-1).toNat,by have:=hlR _ (List.getElem_mem hlt);omega⟩;have hmE:m<E.runs.length:=by have:=hlR _ (List.getElem_mem hlt);omega
   have hzm:IntKind.i64.wrap (D.runs[i].1.links[j]-1)=(m:Int):=by rw [hm,show (m:Int)+1-1=m by omega];exact wrapN _ (by omega) (by omega)
   have hEo2:=w_lists hEo;obtain⟨g,hEra⟩:=w_ra hEo2 (by omega);have hera:=rv_same hEra;have hEo3:=w_lnk (w_open hEo2 m hmE);refine W.draw [(0,true),(1,true),(2,true),(3,true),(4,true),(5,true),(6,true),(7,true),(8,true),(9,true),(11,true),(10,false),(12,false),(13,true),(14,true),(15,false)] [0,1,2] none 99 (by kernel_rfl) rfl (by kernel_rfl) mixed rfl (fun g e=>by cases e) ?_;refine vc_ok ⟨tbE_ok,_,Tryz.func85,Tryz.results85,Tryz.ntmps85⟩ 400 _ _ _ _ ?_;conv=>whnf
   refine Rd.index slRun.u slRun.size rfl (by exact hera) rfl m hzm hmE ?_;conv=>whnf
   refine Ext.loadRunCell (D:=E) rfl ⟨rfl,rfl⟩ rfl (hEo2.rowOk (by simp [wAtoms])) hera hmE 7 (by decide) rfl (.slice E.runs[m].2.a2 E.runs[m].1.links.length E.runs[m].2.k2) rfl ?_;conv=>whnf
   have hmp:m<E.pure.runs.length:=by rw [pure_len];exact hmE
   have hEg:E.pure.runs[m]=E.runs[m].1:=pure_get E m hmE hmp;have hlb:E.runs[m].1.links.length<100000:=Nat.lt_of_le_of_lt (hEw.linksB _ (pure_mem hmE)) hB;refine(l13Less_con E.runs[m].2.a2 E.runs[m].2.k2 E.runs[m].1.links id hlb h9 _ hEo3).mono ?_;rintro r h10 ⟨wa,wk,rfl,ho10⟩;conv=>whnf
   refine Rd.index slRun.u slRun.size rfl (by exact hera) rfl m hzm hmE ?_;conv=>whnf
   obtain⟨y,hy⟩:∃y:RunD×RunP,y=({ E.runs[m].1 with links:=lessP E.runs[m].1.links id },{ E.runs[m].2 with a2:=wa,k2:=wk }):=⟨_,rfl⟩;refine Ext.storeRunCell (D:=E) rfl rfl rfl hmE hera 7 (by decide) (.slice wa (lessP E.runs[m].1.links id).length wk) rfl rfl y (by subst hy;rfl) rfl (by subst hy;exact w_lnkR (y:=({ E.runs[m].1 with links:=lessP E.runs[m].1.links id },{ E.runs[m].2 with a2:=wa,k2:=wk })) ho10.drop2) rfl rfl fun h11 ho11=>?_
   conv=>whnf
   have hyp:(E.setRun m y).pure={ E.pure with runs:=E.pure.runs.set m { E.runs[m].1 with links:=lessP E.runs[m].1.links id } }:=by subst hy;simp [WD.pure,List.map_set]
   have hyw:(E.setRun m y).pure.Wk B:=by rw [hyp,←hEg];exact hEw.less m hmp id
   have hyc:(E.setRun m y).cells=E.cells:=by simp [WD.cells]
   have hyl:(E.setRun m y).runs.length=D.runs.length:=by simpa using hEl
   have hyt:(E.setRun m y).runs[m]'(by rw [hyl];omega)=y:=by simp
   refine(l13Normal_con v h11).mono ?_;rintro r h12 ⟨rfl,rfl⟩;conv=>whnf
   have hst:(D.runs[i].1.links.take (j+1)).foldl (linkStep id v) (fallA D.pure i id D.runs[i].1 v,[])=if normalP v then ((E.setRun m y).pure,nx) else if E.runs[m].1.trap then (giveP (E.setRun m y).pure D.runs[i].1.links[j] (3,id),nx) else ((E.setRun m y).pure,nx++[D.runs[i].1.links[j]]):=by
    rw [List.take_succ_eq_append_getElem hlt,List.foldl_append,←hEp,hyp];have e1:(D.runs[i].1.links[j]-1).toNat=m:=by omega
    simp only [List.foldl_cons,List.foldl_nil,linkStep,e1];rw [List.getElem?_eq_getElem hmp,hEg]
   have hwj:IntKind.i64.wrap ((j:Int)+1)=((j+1:Nat):Int):=by rw [wrapN _ (by omega) (by omega)];omega
   have hyv:(E.setRun m y).val=E.val:=w_val E m y;have hdone:∀(F:WD) (nx':List Int) (a':Option Addr) (c':Nat) (h':Hp),Own h' (.row (rowI (.slice a' nx'.length c') nx')::(wAtoms F++l2))→(F.pure,nx')=(D.runs[i].1.links.take (j+1)).foldl (linkStep id v) (fallA D.pure i id D.runs[i].1 v,[])→_:=fun F nx' a' c' h' o e=>ih (j+1,F,nx',a',c') h' ⟨hlt,o,e⟩ (by dsimp only;omega)
   dsimp only at hdone;clear ih;refine⟨fun hn=>?_,fun hn=>?_⟩<;>conv=>whnf
   ·refine Ext.index slRun.u slRun.size rfl (by exact hera) rfl m hzm hmE ?_;conv=>whnf
    have hmy:m<(E.setRun m y).runs.length:=by simpa using hmE
    refine Ext.loadRunCell (D:=E.setRun m y) rfl ⟨rfl,rfl⟩ rfl (ho11.rowOk (by simp [wAtoms])) (by simpa using hera) hmy 9 (by decide) rfl (.bool y.1.trap) (by simp [encR]) ?_;conv=>whnf
    have hyT:y.1.trap=E.runs[m].1.trap:=by subst hy;rfl
    have hnf:normalP v=false:=by simpa using hn
    refine⟨fun ht=>?_,fun ht=>?_⟩<;>conv=>whnf
    ·have hcon:=give_con (E.setRun m y) B hyw D.runs[i].1.links[j] (3,id) h12 (.row (rowI (.slice na nx.length nc) nx)::l2) ho11;rw [hyv] at hcon;refine Con.mono hcon ?_;rintro r h13 ⟨F,rfl,hoF,hF⟩;conv=>whnf
     rw [hwj];refine W.back (hdone F nx na nc h13 (w_row hoF) ?_) [] (by exact⟨rfl,rfl,rfl,rfl,rfl,rfl,rfl,rfl,trivial⟩) rfl rfl;rw [hst,hF,if_neg (by rw [hnf];exact Bool.false_ne_true),if_pos (by rw [←hyT];exact ht)]
    ·refine(l13Normal_con v h12).mono ?_;rintro r h13 ⟨rfl,rfl⟩;conv=>whnf
     refine⟨fun hn2=>?_,fun hn2=>by rw [hnf] at hn2;cases hn2⟩;conv=>whnf
     refine Ext.litI rfl (w_row ho11) D.runs[i].1.links[j] rfl fun g14 h14 _ ho14=>?_
     conv=>whnf
     refine Ext.pushI rfl ho14 rfl rfl (by omega) fun a' c' h15 ho15=>?_
     conv=>whnf
     rw [hwj];have hd:=hdone (E.setRun m y) (nx++[D.runs[i].1.links[j]]) a' c' h15 ho15 (by
      rw [hst,if_neg (by rw [hnf];exact Bool.false_ne_true),if_neg (by rw [←hyT,ht];exact Bool.false_ne_true)])
     rw [hyc] at hd;exact W.back hd [] (by exact⟨rfl,rfl,rfl,rfl,rfl,rfl,rfl,rfl,trivial⟩) rfl rfl
   ·have hnf:normalP v=true:=by simpa using hn
    refine(l13Normal_con v h12).mono ?_;rintro r h13 ⟨rfl,rfl⟩;conv=>whnf
    refine⟨fun hn2=>(by rw [hnf] at hn2;cases hn2),fun hn2=>?_⟩;conv=>whnf
    rw [hwj];have hd:=hdone (E.setRun m y) nx na nc h13 (w_row ho11) (by rw [hst,if_pos hnf]);rw [hyc] at hd;exact W.back hd [] (by exact⟨rfl,rfl,rfl,rfl,rfl,rfl,rfl,rfl,trivial⟩) rfl rfl
  ·have hje:j=D.runs[i].1.links.length:=by simp at h7;omega
   rw [hje,List.take_length] at hEp;clear ih;refine W.cut [(1,.v (.int .i64 id)),(3,.p 0 0),(5,.p 1 0),(6,.p 2 0),(10,.v (.slice D.runs[i].2.a3 D.runs[i].1.wat.length D.runs[i].2.k3)),(12,.v (.slice na nx.length nc)),(15,.v (.int .i64 (0:Nat)))]
    [⟨27,E.cells⟩,⟨32,[.int .i64 v.1,.int .i64 v.2]⟩,⟨27,[.slice none 0 0,.slice none 0 0,.slice none 0 0,.int .i64 0,.int .i64 0,.int .i64 0,.int .i64 0]⟩] [] ⟨rfl,rfl,rfl,rfl,rfl,rfl,rfl,trivial⟩ rfl rfl ⟨_,rfl⟩ ?_
   refine W.loop (α:=Nat×WD) (fun x=>[(1,.v (.int .i64 id)),(3,.p 0 0),(5,.p 1 0),(6,.p 2 0),(10,.v (.slice D.runs[i].2.a3 D.runs[i].1.wat.length D.runs[i].2.k3)),(12,.v (.slice na nx.length nc)),(15,.v (.int .i64 (x.1:Int)))])
    (fun x=>[⟨27,x.2.cells⟩,⟨32,[.int .i64 v.1,.int .i64 v.2]⟩,⟨27,[.slice none 0 0,.slice none 0 0,.slice none 0 0,.int .i64 0,.int .i64 0,.int .i64 0,.int .i64 0]⟩])
    (fun x h'=>x.1≤D.runs[i].1.wat.length∧Own h' (.row (rowI (.slice na nx.length nc) nx)::(wAtoms x.2++l2))∧x.2.pure=(D.runs[i].1.wat.take x.1).foldl (fun w k=>giveP w k (3,id)) E.pure) (fun x=>D.runs[i].1.wat.length-x.1) ?_ (0,E) h9 ⟨Nat.zero_le _,hEo,by simp⟩
   rintro⟨m,F⟩ h10 ⟨hm,hFo,hFp⟩ ih;dsimp only at hm hFo hFp ⊢;have hFw:F.pure.Wk B:=by rw [hFp];exact(gives_wk (3,id) B _ _ hEw).1
   refine vc_ok ⟨tbE_ok,_,Tryz.func85,Tryz.results85,Tryz.ntmps85⟩ 400 _ _ _ _ ?_;conv=>whnf
   refine⟨fun h11=>?_,fun h11=>?_⟩<;>conv=>whnf
   ·have hlt:m<D.runs[i].1.wat.length:=by simp at h11;omega
    have hlr:RowOk h10 (rowI (.slice D.runs[i].2.a3 D.runs[i].1.wat.length D.runs[i].2.k3) D.runs[i].1.wat):=hFo.rowOk (by simp [hl2]);obtain⟨gl,hla⟩:=row_some hlr (by omega);have hlv:Value.slice D.runs[i].2.a3 D.runs[i].1.wat.length D.runs[i].2.k3=.slice (some ⟨gl,0,none⟩) D.runs[i].1.wat.length D.runs[i].2.k3:=by rw [hla]
    refine W.draw [(0,true),(1,true),(2,true),(3,true),(5,true),(6,true),(4,false),(7,false),(8,false)] [0,1,2] none 8 (by kernel_rfl) rfl (by kernel_rfl) mixed rfl (fun g e=>by cases e) ?_;refine vc_ok ⟨tbE_ok,_,Tryz.func85,Tryz.results85,Tryz.ntmps85⟩ 400 _ _ _ _ ?_;conv=>whnf
    refine Rd.index slInt.u slInt.size rfl (by exact hlv) rfl m rfl hlt ?_;conv=>whnf
    refine Ext.loadInt rfl hlr hlv hlt rfl ?_;conv=>whnf
    refine Con.mono (give_con F B hFw D.runs[i].1.wat[m] (3,id) h10 (.row (rowI (.slice na nx.length nc) nx)::l2) (w_lists hFo)) ?_;rintro r h13 ⟨G,rfl,hoG,hG⟩;conv=>whnf
    have hwj:IntKind.i64.wrap ((m:Int)+1)=((m+1:Nat):Int):=by rw [wrapN _ (by omega) (by omega)];omega
    rw [hwj];refine W.back (ih (m+1,G) h13 ⟨hlt,w_row hoG,?_⟩ (by dsimp only;omega)) [] (by exact⟨rfl,rfl,rfl,rfl,rfl,rfl,rfl,trivial⟩) rfl rfl;rw [hG,List.take_succ_eq_append_getElem hlt,List.foldl_append,←hFp];rfl
   ·have hme:m=D.runs[i].1.wat.length:=by simp at h11;omega
    rw [hme,List.take_length] at hFp;have hone:oneP D.pure i id D.runs[i].1 v=(F.pure,nx):=by
     unfold oneP;rw [←hEp];dsimp only;rw [←hFp]
    have hFo2:Own h10 (.row (rowI (.slice D.runs[i].2.a2 D.runs[i].1.links.length D.runs[i].2.k2) D.runs[i].1.links)::.row (rowI (.slice D.runs[i].2.a3 D.runs[i].1.wat.length D.runs[i].2.k3) D.runs[i].1.wat)::(.row (rowI (.slice na nx.length nc) nx)::(wAtoms F++l))):=by
     refine hFo.perm ?_;subst hl2
     classical
     rw [List.perm_iff_count];intro a;simp only [List.count_cons,List.count_append];omega
    rw [hone];exact⟨F,na,nc,rfl,hFo2.tail.tail,rfl⟩
end Go.Proofs.YtgmkmeodimmdoaaGreatDoor
