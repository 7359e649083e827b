import Derived.Test.YtgmkmeodimmdoaaGreatDoorBSm
namespace Go.Proofs.YtgmkmeodimmdoaaGreatDoor
open Go.RowKit
set_option maxRecDepth 100000
def tbG:Tb:=tbE++[(103,⟨15,true,[.int .i64 0,.int .i64 0,.int .i64 0,.int .i64 0,.int .i64 0,.int .i64 0,.int .i64 0,.int .i64 0,.slice none 0 0,.slice none 0 0,.slice none 0 0,.int .i64 0,.int .i64 0,.int .i64 0,.int .i64 0],[(0,8),(8,7)],0⟩),
 (101,⟨8,true,[.int .i64 0,.int .i64 0,.int .i64 0,.int .i64 0,.int .i64 0,.int .i64 0,.int .i64 0,.int .i64 0],[(0,6),(6,1),(7,1)],0⟩)]
theorem tbG_ok:TbOk Tryz.prog tbG:=by unfold TbOk;kernel_rfl
structure SD where
 room:List Int
 first:Nat
 size:Nat
 D:WD
abbrev SD.rest (S:SD):List Value:=[.int .i64 (S.first:Nat),.int .i64 (S.size:Nat),S.D.cv,S.D.rv,.slice none 0 0,.int .i64 S.D.now,.int .i64 S.D.sent,.int .i64 S.D.taken,.int .i64 S.D.lost]
def SD.cells (S:SD):List Value:=S.room.flatMap encI++S.rest
def ringL (room:List Int) (first size:Nat):List Int:=(List.range size).map fun b=>room.getD ((first+b) % 6) 0
structure SD.Ok (S:SD):Prop where
 room:S.room.length=6
 first:S.first<6
 size:S.size≤6
theorem SD.cells_len {S:SD} (h:S.Ok):S.cells.length=15:=by
 unfold SD.cells;rw [List.length_append,flat_len encI 1 encI_len,h.room];rfl
theorem SD.cell {S:SD} (h:S.Ok) (j:Nat):S.cells[6+j]?=S.rest[j]?:=by
 unfold SD.cells;rw [List.getElem?_append_right (by rw [flat_len encI 1 encI_len,h.room];omega),flat_len encI 1 encI_len,h.room]
 congr 1
 omega
theorem SD.cellR {S:SD} (h:S.Ok) (k:Nat) (hk:k<6):S.cells[k]?=some (.int .i64 (S.room[k]'(by rw [h.room];exact hk))):=by
 unfold SD.cells;have hl:k<S.room.length:=by rw [h.room];exact hk
 rw [List.getElem?_append_left (by rw [flat_len encI 1 encI_len];omega)];have:=flat_get encI 1 encI_len S.room k hl 0 (by decide);rw [Nat.mul_one,Nat.add_zero] at this;exact this
abbrev scRow (g:Nat) (S:SD):Row:=one 103 15 g S.cells
theorem ringL_push {room:List Int} {first size:Nat} (hr:room.length=6) (hs:size<6) (x:Int):ringL (room.set ((first+size) % 6) x) first (size+1)=ringL room first size++[x]:=by
 unfold ringL;rw [List.range_succ,List.map_append]
 congr 1
 ·refine List.map_congr_left fun b hb=>?_
  have hb':=List.mem_range.1 hb;have hne:(first+size) % 6≠(first+b) % 6:=by omega
  rw [List.getD_eq_getElem?_getD,List.getD_eq_getElem?_getD,List.getElem?_set_ne hne]
 ·simp only [List.map_cons,List.map_nil];have hlt:(first+size) % 6<room.length:=by omega
  rw [List.getD_eq_getElem?_getD,List.getElem?_set_self hlt];rfl
theorem putL_right {A R vs:List Value} {n:Nat} (hA:A.length=n) (j:Nat):putL (n+j) vs (A++R)=A++putL j vs R:=by
 subst hA;unfold putL;rw [List.take_append,List.drop_append];rw [List.take_of_length_le (by omega),List.drop_eq_nil_of_le (by omega)];rw [show A.length+j-A.length=j by omega,show A.length+j+vs.length-A.length=j+vs.length by omega];simp
theorem putL_left {A R vs:List Value} {j:Nat} (hj:j+vs.length≤A.length):putL j vs (A++R)=putL j vs A++R:=by
 unfold putL;rw [List.take_append_of_le_length (by omega),List.drop_append_of_le_length hj];simp
theorem SD.put_room {S:SD} (h:S.Ok) {k:Nat} (hk:k<6) (x:Int):putL k [.int .i64 x] S.cells=({ S with room:=S.room.set k x }:SD).cells:=by
 unfold SD.cells;have hl:k<S.room.length:=by rw [h.room];exact hk
 rw [putL_left (by rw [flat_len encI 1 encI_len];simp;omega)];have:=flat_set encI 1 encI_len S.room k hl 0 [.int .i64 x] (by simp) x (by simp [putL,encI]);rw [Nat.mul_one,Nat.add_zero] at this;rw [this]
theorem SD.put_rest {S:SD} (h:S.Ok) (j:Nat) (vs:List Value):putL (6+j) vs S.cells=S.room.flatMap encI++putL j vs S.rest:=by
 unfold SD.cells;exact putL_right (by rw [flat_len encI 1 encI_len,h.room]) j
theorem Ext.loadSc {t:Nat} {ti:TI} (ht:tbl tbE t=some ti) (hag:ti.ag=false∧ti.sz=1) {o:Oper} {y:Operand} (ho:o.op=.load t y) {ev:Operand→Value} {h:Hp} {K:Option Value→Hp→Prop} {S:SD} (hS:S.Ok) {g:Nat} (hr:RowOk h (scRow g S)) (j:Nat) (hj:j<9)
  (hy:ev y=.pointer (some ⟨g,6+j,none⟩)) (v:Value) (hcell:S.rest[j]?=some v) (k:K (some v) h):Ext Tryz.prog (execOp ev o) h K :=
 Ext.load tbE_ok ht ho hr rfl hy (by rw [hag.2];show 6+j+1≤1*15;omega) v (.inr ⟨hag.1,by show S.cells[6+j]?=some v;rw [S.cell hS];exact hcell,hag.2⟩) k
theorem Rd.loadSc {t:Nat} {ti:TI} (ht:tbl tbE t=some ti) (hag:ti.ag=false∧ti.sz=1) {o:Oper} {y:Operand} (ho:o.op=.load t y) {ev:Operand→Value} {h:Hp} {K:Value→Prop} {S:SD} (hS:S.Ok) {g:Nat} (hr:RowOk h (scRow g S)) (j:Nat) (hj:j<9)
  (hy:ev y=.pointer (some ⟨g,6+j,none⟩)) (v:Value) (hcell:S.rest[j]?=some v) (k:K v):Rd Tryz.prog (execOp ev o) h K :=
 Rd.load tbE_ok ht ho hr rfl hy (by rw [hag.2];show 6+j+1≤1*15;omega) v (.inr ⟨hag.1,by show S.cells[6+j]?=some v;rw [S.cell hS];exact hcell,hag.2⟩) k
theorem Ext.storeSc {t:Nat} {ti:TI} (ht:tbl tbE t=some ti) (hsz:ti.sz=1) {o:Oper} {y z:Operand} (ho:o.op=.store t y z) {ev:Operand→Value} {h:Hp} {K:Option Value→Hp→Prop} {S:SD} (hS:S.Ok) {g:Nat} {l:List Atom} (hown:Own h (.row (scRow g S)::l)) (j:Nat) (hj:j<9)
  (hy:ev y=.pointer (some ⟨g,6+j,none⟩)) (v:Value) (hz:ev z=v) (hv:v.cells=#[v]) (h1:v.oneCell'=true) (S':SD) (hc:S.room.flatMap encI++putL j [v] S.rest=S'.cells) (k:∀h',Own h' (.row (scRow g S')::l)→K none h'):Ext Tryz.prog (execOp ev o) h K:=by
 refine Ext.store tbE_ok ht ho hown rfl hy hz [v] (by rw [hv]) (by rw [hsz];rfl) (by show 6+j+1≤1*15;omega) (by simpa using h1) fun h' ho'=>?_
 have e:({ scRow g S with xs:=putL (6+j) [v] (scRow g S).xs }:Row)=scRow g S':=by
  show (⟨_,_,_,_,putL (6+j) [v] S.cells⟩:Row)=_;rw [S.put_rest hS,hc]
 rw [e] at ho';exact k h' ho'
theorem Ext.storeRoom {o:Oper} {y z:Operand} (ho:o.op=.store 3 y z) {ev:Operand→Value} {h:Hp} {K:Option Value→Hp→Prop} {S:SD} (hS:S.Ok) {g:Nat} {l:List Atom} (hown:Own h (.row (scRow g S)::l)) (j:Nat) (hj:j<6)
  (hy:ev y=.pointer (some ⟨g,j,none⟩)) (x:Int) (hz:ev z=.int .i64 x) (k:∀h',Own h' (.row (scRow g { S with room:=S.room.set j x })::l)→K none h'):Ext Tryz.prog (execOp ev o) h K:=by
 refine Ext.store tbE_ok rfl ho hown rfl hy hz [.int .i64 x] rfl rfl (by show j+1≤1*15;omega) (by simp [Value.oneCell']) fun h' ho'=>?_
 have e:({ scRow g S with xs:=putL j [.int .i64 x] (scRow g S).xs }:Row)=scRow g { S with room:=S.room.set j x }:=by
  show (⟨_,_,_,_,putL j [.int .i64 x] S.cells⟩:Row)=_;rw [S.put_room hS hj]
 rw [e] at ho';exact k h' ho'
theorem place_con (g:Nat) (S:SD) (hS:S.Ok) (b:Nat) (hb:b≤1000) (h:Hp) (hr:RowOk h (scRow g S)) :
  Con Tryz.prog 117 #[.pointer (some ⟨g,0,none⟩),.int .i64 (b:Nat)] h fun r h'=>r=.int .i64 (((S.first+b) % 6:Nat):Int)∧h'=h:=by
 refine Con.of_W (tb:=tbG) (args:=[.pointer (some ⟨g,0,none⟩),.int .i64 (b:Nat)]) Tryz.func117 rfl Tryz.results117 Tryz.ntmps117 (by simp) (Tryz.call117 _) (tm:=[(0,.v (.pointer (some ⟨g,0,none⟩))),(1,.v (.int .i64 (b:Nat)))]) rfl ?_;refine vc_ok ⟨tbG_ok,_,Tryz.func117,Tryz.results117,Tryz.ntmps117⟩ 400 _ _ _ _ ?_;conv=>whnf
 refine Ext.loadSc rfl ⟨rfl,rfl⟩ rfl hS hr 0 (by omega) rfl (.int .i64 (S.first:Nat)) rfl ?_;conv=>whnf
 have hf:=hS.first;have hw:IntKind.i64.wrap ((S.first:Int)+(b:Int))=((S.first+b:Nat):Int):=by rw [wrapN _ (by omega) (by omega)];omega
 rw [hw];refine Ext.rem (b:=6) rfl rfl rfl (by decide) ?_;conv=>whnf
 refine⟨?_,rfl⟩;have hm:(((S.first+b:Nat):Int)).tmod 6=(((S.first+b) % 6:Nat):Int):=by
  rw [Int.tmod_eq_emod_of_nonneg (by omega)];omega
 rw [hm];rfl
theorem Own.nilV {h:Hp} {l:List Atom} (o:Own h l):Own h (.row (rowV (.slice none 0 0) [])::l):=o.add ⟨rfl,.inl ⟨rfl,rfl⟩⟩ (fun g e=>by cases e) (fun _ _=>rfl)
theorem Own.nilO {h:Hp} {l:List Atom} (o:Own h l):Own h (.row (rowO (.slice none 0 0) [])::l):=o.add ⟨rfl,.inl ⟨rfl,rfl⟩⟩ (fun g e=>by cases e) (fun _ _=>rfl)
theorem Own.nilR {h:Hp} {l:List Atom} (o:Own h l):Own h (.row (rowR (.slice none 0 0) [])::l):=o.add ⟨rfl,.inl ⟨rfl,rfl⟩⟩ (fun g e=>by cases e) (fun _ _=>rfl)
theorem Ext.pushOr {o:Oper} {s y:Operand} (ho:o.op=.call { callee:=.builtin .append,args:=#[s,y],argTypes:=#[23,23] }) {ev:Operand→Value} {h:Hp} {K:Option Value→Hp→Prop} {l:List Atom} {tv v:Value} {L M:List OpD}
  (hown:Own h (.row (rowO v L)::l)) (hm:RowOk h (rowO tv M)) (hs:ev s=v) (hy:ev y=tv) (hn:L.length+M.length<1000000) (k:∀a c h',Own h' (.row (rowO (.slice a (L++M).length c) (L++M))::l)→K (some (.slice a (L++M).length c)) h'):Ext Tryz.prog (execOp ev o) h K:=by
 refine Ext.append slOp ho hown rfl rfl hs hy (RowOk.src (r:=rowO tv M) hm (one_ops M)) (by show (L.length+M.length)*48≤_;omega) (by show L.length+M.length≤_;unfold maxLen;omega) fun v' h' ho1=>?_
 have e:(⟨80,6,v',L.length+M.length,L.flatMap encO++M.flatMap encO⟩:Row)=rowO v' (L++M):=by simp [rowO]
 have ho2:Own h' (.row (rowO v' (L++M))::l):=by rw [←e];exact ho1
 obtain⟨a,c,hv⟩:=RowOk.form' (ho2.ok _ List.mem_cons_self);dsimp only at hv;subst hv;exact k a c h' ho2
theorem listOps_con (a:Option Addr) (k:Nat) (C:List OpD) (hC:C.length≤100000) (h:Hp) (l:List Atom) (ho:Own h l) (hr:RowOk h (rowO (.slice a C.length k) C)) :
  Con Tryz.prog 111 #[.slice a C.length k] h fun r h'=>∃a' k',r=.slice a' C.length k'∧Own h' (.row (rowO (.slice a' C.length k') C)::l):=by
 refine Con.of_W (tb:=tbG) (args:=[.slice a C.length k]) Tryz.func111 rfl Tryz.results111 Tryz.ntmps111 (by simp) (Tryz.call111 _) (tm:=[(0,.v (.slice a C.length k))]) rfl ?_;refine vc_ok ⟨tbG_ok,_,Tryz.func111,Tryz.results111,Tryz.ntmps111⟩ 400 _ _ _ _ ?_;conv=>whnf
 refine Ext.pushOr (L:=[]) (M:=C) (tv:=.slice a C.length k) rfl ho.nilO hr rfl rfl (by simp;omega) fun a' k' h' ho'=>?_
 conv=>whnf
 exact⟨a',k',rfl,ho'⟩
theorem listVals_con (a:Option Addr) (k:Nat) (C:List (Int×Int)) (hC:C.length≤100000) (h:Hp) (l:List Atom) (ho:Own h l) (hr:RowOk h (rowV (.slice a C.length k) C)) :
  Con Tryz.prog 110 #[.slice a C.length k] h fun r h'=>∃a' k',r=.slice a' C.length k'∧Own h' (.row (rowV (.slice a' C.length k') C)::l):=by
 refine Con.of_W (tb:=tbG) (args:=[.slice a C.length k]) Tryz.func110 rfl Tryz.results110 Tryz.ntmps110 (by simp) (Tryz.call110 _) (tm:=[(0,.v (.slice a C.length k))]) rfl ?_;refine vc_ok ⟨tbG_ok,_,Tryz.func110,Tryz.results110,Tryz.ntmps110⟩ 400 _ _ _ _ ?_;conv=>whnf
 refine Ext.pushVs (L:=[]) (M:=C) (tv:=.slice a C.length k) rfl ho.nilV hr rfl rfl (by simp;omega) fun a' k' h' ho'=>?_
 conv=>whnf
 exact⟨a',k',rfl,ho'⟩
theorem listInts_con (a:Option Addr) (k:Nat) (C:List Int) (hC:C.length≤100000) (h:Hp) (l:List Atom) (ho:Own h l) (hr:RowOk h (rowI (.slice a C.length k) C)) :
  Con Tryz.prog 63 #[.slice a C.length k] h fun r h'=>∃a' k',r=.slice a' C.length k'∧Own h' (.row (rowI (.slice a' C.length k') C)::l):=by
 refine Con.of_W (tb:=tbG) (args:=[.slice a C.length k]) Tryz.func63 rfl Tryz.results63 Tryz.ntmps63 (by simp) (Tryz.call63 _) (tm:=[(0,.v (.slice a C.length k))]) rfl ?_;refine vc_ok ⟨tbG_ok,_,Tryz.func63,Tryz.results63,Tryz.ntmps63⟩ 400 _ _ _ _ ?_;conv=>whnf
 refine Ext.pushIs (L:=[]) (M:=C) (tv:=.slice a C.length k) rfl ho.nilI hr rfl rfl (by simp;omega) fun a' k' h' ho'=>?_
 conv=>whnf
 exact⟨a',k',rfl,ho'⟩
theorem copied_con (d:RunD) (p:RunP) (hs:d.Sm) (h:Hp) (l:List Atom) (ho:Own h (runRows (d,p)++l)) :
  Con Tryz.prog 79 #[d.val p] h fun r h'=>∃q,r=d.val q∧Own h' (runRows (d,q)++(runRows (d,p)++l)):=by
 have s0:=hs.s0;have s1:=hs.s1;have s2:=hs.s2;have s3:=hs.s3;refine Con.of_W (tb:=tbG) (args:=[d.val p]) Tryz.func79 rfl Tryz.results79 Tryz.ntmps79 (by simp) (Tryz.call79 _) (tm:=[(0,.a (d.cells p))]) rfl ?_;refine vc_ok ⟨tbG_ok,_,Tryz.func79,Tryz.results79,Tryz.ntmps79⟩ 400 _ _ _ _ ?_;conv=>whnf
 refine(listVals_con p.a0 p.k0 d.slots (by omega) h _ ho (ho.rowOk (by simp [runRows]))).mono ?_;rintro r h1 ⟨a0,k0,rfl,ho1⟩;conv=>whnf
 refine(listVals_con p.a1 p.k1 d.mail (by omega) h1 _ ho1 (ho1.rowOk (by simp [runRows]))).mono ?_;rintro r h2 ⟨a1,k1,rfl,ho2⟩;conv=>whnf
 refine(listInts_con p.a2 p.k2 d.links (by omega) h2 _ ho2 (ho2.rowOk (by simp [runRows]))).mono ?_;rintro r h3 ⟨a2,k2,rfl,ho3⟩;conv=>whnf
 refine(listInts_con p.a3 p.k3 d.wat (by omega) h3 _ ho3 (ho3.rowOk (by simp [runRows]))).mono ?_;rintro r h4 ⟨a3,k3,rfl,ho4⟩;conv=>whnf
 refine⟨⟨a0,k0,a1,k1,a2,k2,a3,k3⟩,rfl,ho4.perm (perm_of fun x=>?_)⟩;simp only [runRows,List.count_append,List.count_cons,List.count_nil];omega
theorem arr6:Tryz.prog.underlying 99=some (.array 6 3):=Tryz.underlying99
theorem Rd.indexArr {P:Program} {t e:TypeId} {sz n:Nat} (hu:P.underlying t=some (.array n e)) (hs:∀w,(sizeOf e).run P w=.ok sz w) {o:Oper} {x i:Operand} (ho:o.op=.indexAddr t x i) {ev:Operand→Value} {h:Hp} {K:Value→Prop} {g off:Nat} {z:Int} {kind:IntKind} (hx:ev x=.pointer (some ⟨g,off,none⟩))
  (hi:ev i=.int kind z) (k:Nat) (hk:z=(k:Int)) (hlt:k<n) (hK:K (.pointer (some ⟨g,off+k*sz,none⟩))):Rd P (execOp ev o) h K:=by
 have hop:execOp ev o=(do pure (Next.value (←Instr.indexAt t (ev x) (ev i))):Sem Next):=by unfold execOp;rw [ho]
 rw [hop,hx,hi];refine⟨_,fun w _=>run_value _ w _ _ ?_,hK⟩;subst hk;simp only [Instr.indexAt,asIntOf,Sem.run_bind,Sem.run_pure,Result.andThen_ok,run_underlying hu,Instr.sureAddr];rw [if_pos ⟨by omega,by omega⟩];simp only [Sem.run_bind,hs,Result.andThen_ok,Sem.run_pure,Addr.add_mid,Int.toNat_natCast]
theorem push_con (g:Nat) (S:SD) (hS:S.Ok) (hlt:S.size<6) (x:Int) (h:Hp) (l:List Atom) (ho:Own h (.row (scRow g S)::l)) :
  Con Tryz.prog 112 #[.pointer (some ⟨g,0,none⟩),.int .i64 x] h fun r h'=>r=.tuple #[]∧Own h' (.row (scRow g { S with room:=S.room.set ((S.first+S.size) % 6) x,size:=S.size+1 })::l):=by
 have hr:RowOk h (scRow g S):=ho.rowOk List.mem_cons_self;refine Con.of_W (tb:=tbG) (args:=[.pointer (some ⟨g,0,none⟩),.int .i64 x]) Tryz.func112 rfl Tryz.results112 Tryz.ntmps112 (by simp) (Tryz.call112 _) (tm:=[(0,.v (.pointer (some ⟨g,0,none⟩))),(1,.v (.int .i64 x))]) rfl ?_;refine vc_ok ⟨tbG_ok,_,Tryz.func112,Tryz.results112,Tryz.ntmps112⟩ 400 _ _ _ _ ?_;conv=>whnf
 refine W.draw [(0,true),(1,true),(2,true),(3,true),(4,true),(7,true),(8,true),(9,true),(5,false),(6,false),(10,true),(11,false)] [] none 99 (by kernel_rfl) rfl (by kernel_rfl) mixed rfl (fun g e=>by cases e) ?_;refine vc_ok ⟨tbG_ok,_,Tryz.func112,Tryz.results112,Tryz.ntmps112⟩ 400 _ _ _ _ ?_;conv=>whnf
 refine Ext.loadSc rfl ⟨rfl,rfl⟩ rfl hS hr 1 (by omega) rfl (.int .i64 (S.size:Nat)) rfl ?_;conv=>whnf
 refine(place_con g S hS S.size (by omega) h hr).mono ?_;rintro r h1 ⟨rfl,rfl⟩;conv=>whnf
 have hk:(S.first+S.size) % 6<6:=Nat.mod_lt _ (by decide);generalize hkk:(S.first+S.size) % 6=k at hk;refine Rd.indexArr arr6 slInt.size rfl rfl rfl k rfl hk ?_;conv=>whnf
 refine Ext.storeRoom rfl hS ho k hk (by show Value.pointer (some ⟨g,0+0+k*1,none⟩)=_;simp) x rfl fun h2 ho2=>?_
 conv=>whnf
 have hS2:({ S with room:=S.room.set k x }:SD).Ok:=⟨by show (S.room.set k x).length=6;rw [List.length_set];exact hS.room,hS.first,hS.size⟩;refine Ext.loadSc rfl ⟨rfl,rfl⟩ rfl hS2 (ho2.rowOk List.mem_cons_self) 1 (by omega) rfl (.int .i64 (S.size:Nat)) rfl ?_;conv=>whnf
 have hw:IntKind.i64.wrap ((S.size:Int)+1)=((S.size+1:Nat):Int):=by rw [wrapN _ (by omega) (by omega)];omega
 rw [hw];refine Ext.storeSc rfl rfl rfl hS2 ho2 1 (by omega) rfl (.int .i64 ((S.size+1:Nat):Int)) rfl rfl (by simp [Value.oneCell']) { S with room:=S.room.set k x,size:=S.size+1 } rfl fun h3 ho3=>?_
 conv=>whnf
 exact⟨rfl,ho3⟩
theorem sceneWith_con (D:WD) (hsm:D.pure.Sm) (hq6:D.queue.length≤6) (R:List (RunD×RunP)) (ra:Option Addr) (rk:Nat) (h:Hp) (l:List Atom) (ho:Own h (.row (rowR (.slice ra R.length rk) R)::(R.flatMap runRows++(wAtoms D++l)))) :
  Con Tryz.prog 80 #[D.val,.slice ra R.length rk] h fun r h'=>∃(g:Nat) (S:SD) (ca:Option Addr) (ck:Nat),r=.pointer (some ⟨g,0,none⟩)∧S.Ok∧S.D={ D with runs:=R,ra:=ra,rk:=rk,ca:=ca,ck:=ck }∧ringL S.room S.first S.size=D.queue∧S.size=D.queue.length ∧
   Own h' (.row (scRow g S)::(.row (rowR S.D.rv R)::.row (rowO S.D.cv D.code)::(R.flatMap runRows++(wAtoms D++l)))):=by
 have hC:D.code.length≤1000:=hsm.code;refine Con.of_W (tb:=tbG) (args:=[D.val,.slice ra R.length rk]) Tryz.func80 rfl Tryz.results80 Tryz.ntmps80 (by simp) (Tryz.call80 _) (tm:=[(0,.a D.cells),(1,.v (.slice ra R.length rk))]) rfl ?_;refine vc_ok ⟨tbG_ok,_,Tryz.func80,Tryz.results80,Tryz.ntmps80⟩ 400 _ _ _ _ ?_;conv=>whnf
 refine(listOps_con D.ca D.ck D.code (by omega) h _ ho (ho.rowOk (by simp [wAtoms]))).mono ?_;rintro r h1 ⟨ca,ck,rfl,ho1⟩;conv=>whnf
 obtain⟨S0,hS0⟩:∃S0:SD,S0=⟨[0,0,0,0,0,0],0,0,{ D with runs:=R,ra:=ra,rk:=rk,ca:=ca,ck:=ck }⟩:=⟨_,rfl⟩;have hok0:S0.Ok:=by subst hS0;exact⟨rfl,by show 0<6;decide,by show 0≤6;decide⟩
 refine W.cut [(30,.v (.int .i64 (0:Nat))),(29,.v (.int .i64 (D.queue.length:Nat))),(28,.v D.qv),(5,.p 1 0)] [⟨27,D.cells⟩,⟨103,S0.cells⟩] [] ⟨rfl,rfl,rfl,rfl,trivial⟩ (by subst hS0;rfl) rfl ⟨_,rfl⟩ ?_;refine W.escape [⟨27,D.cells⟩] ⟨103,S0.cells⟩ rfl fun g hg=>?_
 have ho2:=Own.escape ho1 hg 103 S0.cells;rw [S0.cells_len hok0] at ho2;generalize hhp:h1.put g (.cells S0.cells.toArray 103 (0,0))=h2 at ho2;show W _ _ [(30,.v (.int .i64 (0:Nat))),(29,.v (.int .i64 (D.queue.length:Nat))),(28,.v D.qv),(5,.v (.pointer (some ⟨g,0,none⟩)))] _ h2;clear hhp hg ho1 ho;refine W.loop (α:=Nat×SD) (fun x=>[(30,.v (.int .i64 (x.1:Nat))),(29,.v (.int .i64 (D.queue.length:Nat))),(28,.v D.qv),(5,.v (.pointer (some ⟨g,0,none⟩)))]) (fun _=>[⟨27,D.cells⟩])
  (fun x h'=>x.1≤D.queue.length∧x.2.Ok∧x.2.size=x.1∧x.2.D=S0.D∧ringL x.2.room x.2.first x.2.size=D.queue.take x.1∧Own h' (.row (scRow g x.2)::(.row (rowO (.slice ca D.code.length ck) D.code)::.row (rowR (.slice ra R.length rk) R)::(R.flatMap runRows++(wAtoms D++l))))) (fun x=>D.queue.length-x.1) ?_ (0,S0) h2 ⟨Nat.zero_le _,hok0,by subst hS0;rfl,rfl,by subst hS0;rfl,ho2⟩
 rintro⟨i,S⟩ h5 ⟨hi,hok,hsz,hSD,hring,ho5⟩ ih;dsimp only at hi hok hsz hSD hring ho5 ⊢;refine vc_ok ⟨tbG_ok,_,Tryz.func80,Tryz.results80,Tryz.ntmps80⟩ 400 _ _ _ _ ?_;conv=>whnf
 refine⟨fun h6=>?_,fun h6=>?_⟩<;>conv=>whnf
 ·have hlt:i<D.queue.length:=by simp at h6;omega
  have hqr:RowOk h5 (rowI D.qv D.queue):=ho5.rowOk (by simp [wAtoms]);obtain⟨gq,hqa⟩:=row_some hqr (by omega);have hqv:D.qv=.slice (some ⟨gq,0,none⟩) D.queue.length D.qk:=by rw [WD.qv,hqa]
  refine Ext.index slInt.u slInt.size rfl (by exact hqv) rfl i rfl hlt ?_;conv=>whnf
  refine Ext.loadInt rfl hqr hqv hlt rfl ?_;conv=>whnf
  refine(push_con g S hok (by omega) D.queue[i] h5 _ ho5).mono ?_;rintro r h7 ⟨rfl,ho7⟩;conv=>whnf
  have hwi:IntKind.i64.wrap ((i:Int)+1)=((i+1:Nat):Int):=by rw [wrapN _ (by omega) (by omega)];omega
  rw [hwi];refine W.back (ih (i+1,{ S with room:=S.room.set ((S.first+S.size) % 6) D.queue[i],size:=S.size+1 }) h7 ⟨hlt,⟨by show (S.room.set _ _).length=6;rw [List.length_set];exact hok.room,hok.first,by show S.size+1≤6;omega⟩,by dsimp only;omega,hSD,?_,ho7⟩ (by dsimp only;omega)) [] (by exact⟨rfl,rfl,rfl,rfl,trivial⟩) rfl rfl;dsimp only;rw [ringL_push hok.room (by omega),hring,List.take_succ_eq_append_getElem hlt]
 ·have hge:i=D.queue.length:=by simp at h6;omega
  refine⟨g,S,ca,ck,rfl,hok,by rw [hSD,hS0],by rw [hring,hge,List.take_length],by omega,?_⟩;rw [hSD,hS0];exact ho5.perm (perm_of fun x=>by simp only [WD.cv,WD.rv,List.count_cons];omega)
abbrev scMem (S:SD) (l:List Atom):List Atom:=.row (rowR S.D.rv S.D.runs)::.row (rowO S.D.cv S.D.code)::(S.D.runs.flatMap runRows++l)
structure SD.Of (S:SD) (w:PW):Prop where
 ok:S.Ok
 pure:{ S.D.pure with queue:=ringL S.room S.first S.size }=w
theorem SD.world {S:SD} (h:S.Ok):(S.cells.drop 8).take 7=[S.D.cv,S.D.rv,.slice none 0 0,.int .i64 S.D.now,.int .i64 S.D.sent,.int .i64 S.D.taken,.int .i64 S.D.lost]:=by
 have hA:(S.room.flatMap encI).length=6:=by rw [flat_len encI 1 encI_len,h.room]
 unfold SD.cells;rw [List.drop_append,hA,List.drop_eq_nil_of_le (by omega)];rfl
theorem Ext.loadRoom {o:Oper} {y:Operand} (ho:o.op=.load 3 y) {ev:Operand→Value} {h:Hp} {K:Option Value→Hp→Prop} {S:SD} (hS:S.Ok) {g:Nat} (hr:RowOk h (scRow g S)) (j:Nat) (hj:j<6)
  (hy:ev y=.pointer (some ⟨g,j,none⟩)) (k:K (some (.int .i64 (S.room.getD j 0))) h):Ext Tryz.prog (execOp ev o) h K :=
 Ext.load tbE_ok rfl ho hr rfl hy (by show j+1≤1*15;omega) (.int .i64 (S.room.getD j 0)) (.inr ⟨rfl,by
  show S.cells[j]?=_;rw [S.cellR hS j hj,List.getD_eq_getElem?_getD,List.getElem?_eq_getElem (by rw [hS.room];exact hj)];rfl,rfl⟩) k
theorem ringL_succ (room:List Int) (first n:Nat):ringL room first (n+1)=ringL room first n++[room.getD ((first+n) % 6) 0]:=by
 unfold ringL;rw [List.range_succ,List.map_append];rfl
theorem ringL_len (room:List Int) (first n:Nat):(ringL room first n).length=n:=by simp [ringL]
theorem sceneOf_con (D:WD) (hsm:D.pure.Sm) (hq6:D.queue.length≤6) (h:Hp) (l:List Atom) (ho:Own h (wAtoms D++l)) :
  Con Tryz.prog 47 #[D.val] h fun r h'=>∃(g:Nat) (S:SD),r=.pointer (some ⟨g,0,none⟩)∧S.Of D.pure∧Own h' (.row (scRow g S)::scMem S (wAtoms D++l)):=by
 have hn:D.runs.length≤1000:=by have:=hsm.runs;rw [pure_len] at this;exact this
 have hlenP:=pure_len D;refine Con.of_W (tb:=tbG) (args:=[D.val]) Tryz.func47 rfl Tryz.results47 Tryz.ntmps47 (by simp) (Tryz.call47 _) (tm:=[(0,.a D.cells)]) rfl ?_;refine vc_ok ⟨tbG_ok,_,Tryz.func47,Tryz.results47,Tryz.ntmps47⟩ 400 _ _ _ _ ?_;conv=>whnf
 refine W.cut [(9,.v (.int .i64 (0:Nat))),(8,.v (.int .i64 (D.runs.length:Nat))),(7,.v D.rv),(3,.v (.slice none 0 0)),(1,.p 0 0)] [⟨27,D.cells⟩] [] ⟨rfl,rfl,rfl,rfl,rfl,trivial⟩ rfl rfl ⟨_,rfl⟩ ?_;refine W.loop (α:=Nat×List (RunD×RunP)×Option Addr×Nat) (fun x=>[(9,.v (.int .i64 (x.1:Nat))),(8,.v (.int .i64 (D.runs.length:Nat))),(7,.v D.rv),(3,.v (.slice x.2.2.1 x.2.1.length x.2.2.2)),(1,.p 0 0)]) (fun _=>[⟨27,D.cells⟩])
  (fun x h'=>x.1≤D.runs.length∧x.2.1.map (·.1)=(D.runs.take x.1).map (·.1)∧Own h' (.row (rowR (.slice x.2.2.1 x.2.1.length x.2.2.2) x.2.1)::(x.2.1.flatMap runRows++(wAtoms D++l)))) (fun x=>D.runs.length-x.1) ?_ (0,[],none,0) h ⟨Nat.zero_le _,rfl,ho.nilR⟩
 rintro⟨i,out,oa,ok⟩ h5 ⟨hi,hout,ho5⟩ ih;dsimp only at hi hout ho5 ⊢;have hol:out.length=i:=by have:=congrArg List.length hout;simp at this;omega
 have hw5:WIn h5 D:=ho5.win fun x hx=>List.mem_cons_of_mem _ (List.mem_append_right _ (List.mem_append_left _ hx))
 refine vc_ok ⟨tbG_ok,_,Tryz.func47,Tryz.results47,Tryz.ntmps47⟩ 400 _ _ _ _ ?_;conv=>whnf
 refine⟨fun h6=>?_,fun h6=>?_⟩<;>conv=>whnf
 ·have hlt:i<D.runs.length:=by simp at h6;omega
  obtain⟨g,hra⟩:=row_some hw5.runs (by omega);have hv:D.rv=.slice (some ⟨g,0,none⟩) D.runs.length D.rk:=by rw [WD.rv,hra]
  have hr5:RowOk h5 (rowR D.rv D.runs):=hw5.runs;refine Ext.index slRun.u slRun.size rfl (by exact hv) rfl i rfl hlt ?_;conv=>whnf
  refine Ext.loadRun rfl hr5 hv hlt rfl ?_;conv=>whnf
  have hwi:IntKind.i64.wrap ((i:Int)+1)=((i+1:Nat):Int):=by rw [wrapN _ (by omega) (by omega)];omega
  refine(copied_con D.runs[i].1 D.runs[i].2 (hsm.each _ (pure_mem hlt)) h5 _ (ho5.perm (w_runs D i hlt (.row (rowR (.slice oa out.length ok) out)::out.flatMap runRows) l))).mono ?_;rintro r h7 ⟨q,rfl,ho7⟩;conv=>whnf
  refine Ext.litR rfl ho7 (D.runs[i].1,q) rfl fun g8 h8 _ ho8=>?_
  conv=>whnf
  have ho9:Own h8 (.row ⟨34,13,.slice (some ⟨g8,0,none⟩) 1 1,1,encR (D.runs[i].1,q)⟩::.row (rowR (.slice oa out.length ok) out)::((out++[(D.runs[i].1,q)]).flatMap runRows++(wAtoms D++l))):=ho8.perm (List.Perm.cons _ ((List.Perm.append_left _ (w_runs D i hlt (.row (rowR (.slice oa out.length ok) out)::out.flatMap runRows) l).symm).trans (perm_of fun x=>by simp only [List.flatMap_append,List.flatMap_cons,List.flatMap_nil,List.append_nil,List.count_append,List.count_cons];omega)));refine Ext.pushR rfl ho9 rfl rfl (by omega) fun a9 k9 h9 ho10=>?_
  conv=>whnf
  rw [hwi];exact W.back (ih (i+1,out++[(D.runs[i].1,q)],a9,k9) h9 ⟨hlt,by dsimp only;rw [List.map_append,hout,List.take_succ_eq_append_getElem hlt,List.map_append];rfl,ho10⟩ (by dsimp only;omega)) [_] (by exact⟨rfl,rfl,rfl,rfl,rfl,trivial⟩) rfl rfl
 ·have hge:i=D.runs.length:=by simp at h6;omega
  have hpr:out.map (·.1)=D.runs.map (·.1):=by rw [hout,hge,List.take_length]
  refine(sceneWith_con D hsm hq6 out oa ok h5 l ho5).mono ?_;rintro r h7 ⟨g,S,ca,ck,rfl,hok,hSD,hring,hsz,ho7⟩;conv=>whnf
  refine⟨g,S,rfl,⟨hok,?_⟩,?_⟩
  ·rw [hring,hSD];simp only [WD.pure,hpr]
  ·have hrn:S.D.runs=out:=by rw [hSD]
   have hcd:S.D.code=D.code:=by rw [hSD]
   show Own h7 (_::.row (rowR S.D.rv S.D.runs)::.row (rowO S.D.cv S.D.code)::(S.D.runs.flatMap runRows++_));rw [hrn,hcd];exact ho7
theorem list_con (g:Nat) (S:SD) (hS:S.Ok) (h:Hp) (l:List Atom) (ho:Own h (.row (scRow g S)::l)) :
  Con Tryz.prog 83 #[.pointer (some ⟨g,0,none⟩)] h fun r h'=>∃a k,r=.slice a (ringL S.room S.first S.size).length k∧Own h' (.row (rowI (.slice a (ringL S.room S.first S.size).length k) (ringL S.room S.first S.size))::.row (scRow g S)::l):=by
 refine Con.of_W (tb:=tbG) (args:=[.pointer (some ⟨g,0,none⟩)]) Tryz.func83 rfl Tryz.results83 Tryz.ntmps83 (by simp) (Tryz.call83 _) (tm:=[(0,.v (.pointer (some ⟨g,0,none⟩)))]) rfl ?_;refine vc_ok ⟨tbG_ok,_,Tryz.func83,Tryz.results83,Tryz.ntmps83⟩ 400 _ _ _ _ ?_;conv=>whnf
 have hf:=hS.first;have hz:=hS.size;have hr:RowOk h (scRow g S):=ho.rowOk List.mem_cons_self;refine Ext.loadSc rfl ⟨rfl,rfl⟩ rfl hS hr 1 (by omega) rfl (.int .i64 (S.size:Nat)) rfl ?_;conv=>whnf
 refine W.cut [(9,.v (.int .i64 (0:Nat))),(8,.v (.int .i64 (S.size:Nat))),(3,.v (.slice none 0 0)),(0,.v (.pointer (some ⟨g,0,none⟩)))] [] [] ⟨rfl,rfl,rfl,rfl,trivial⟩ rfl rfl ⟨_,rfl⟩ ?_;refine W.loop (α:=Nat×Option Addr×Nat) (fun x=>[(9,.v (.int .i64 (x.1:Nat))),(8,.v (.int .i64 (S.size:Nat))),(3,.v (.slice x.2.1 (ringL S.room S.first x.1).length x.2.2)),(0,.v (.pointer (some ⟨g,0,none⟩)))]) (fun _=>[])
  (fun x h'=>x.1≤S.size∧Own h' (.row (rowI (.slice x.2.1 (ringL S.room S.first x.1).length x.2.2) (ringL S.room S.first x.1))::.row (scRow g S)::l)) (fun x=>S.size-x.1) ?_ (0,none,0) h ⟨Nat.zero_le _,ho.nilI⟩
 rintro⟨i,oa,ok⟩ h5 ⟨hi,ho5⟩ ih;dsimp only at hi ho5 ⊢;have hr5:RowOk h5 (scRow g S):=ho5.rowOk (by simp);refine vc_ok ⟨tbG_ok,_,Tryz.func83,Tryz.results83,Tryz.ntmps83⟩ 400 _ _ _ _ ?_;conv=>whnf
 refine⟨fun h6=>?_,fun h6=>?_⟩<;>conv=>whnf
 ·have hlt:i<S.size:=by simp at h6;omega
  refine W.draw [(0,true),(1,true),(2,true),(3,true),(5,true),(6,true),(4,false),(7,true),(8,false),(9,false),(10,false),(11,true)] [] none 99 (by kernel_rfl) rfl (by kernel_rfl) mixed rfl (fun g e=>by cases e) ?_;refine vc_ok ⟨tbG_ok,_,Tryz.func83,Tryz.results83,Tryz.ntmps83⟩ 400 _ _ _ _ ?_;conv=>whnf
  refine(place_con g S hS i (by omega) h5 hr5).mono ?_;rintro r h7 ⟨rfl,rfl⟩;conv=>whnf
  have hk:(S.first+i) % 6<6:=Nat.mod_lt _ (by decide);have hrs:=ringL_succ S.room S.first i;generalize (S.first+i) % 6=k at hk hrs ⊢;refine Rd.indexArr arr6 slInt.size rfl rfl rfl k rfl hk ?_;conv=>whnf
  refine Ext.loadRoom rfl hS hr5 k hk (by show Value.pointer (some ⟨g,0+0+k*1,none⟩)=_;simp) ?_;conv=>whnf
  refine Ext.litI rfl ho5 (S.room.getD k 0) rfl fun g8 h8 _ ho8=>?_
  conv=>whnf
  refine Ext.pushI rfl ho8 rfl rfl (by rw [ringL_len];omega) fun a9 k9 h9 ho9=>?_
  conv=>whnf
  have hwi:IntKind.i64.wrap ((i:Int)+1)=((i+1:Nat):Int):=by rw [wrapN _ (by omega) (by omega)];omega
  rw [hwi];refine W.back (ih (i+1,a9,k9) h9 ⟨hlt,by dsimp only;rw [hrs];exact ho9⟩ (by dsimp only;omega)) [] (by dsimp only;rw [hrs];exact⟨rfl,rfl,rfl,rfl,trivial⟩) rfl rfl
 ·have hge:i=S.size:=by simp at h6;omega
  subst hge;exact⟨oa,ok,rfl,ho5⟩
theorem told_con (g:Nat) (S:SD) (w:PW) (hS:S.Of w) (h:Hp) (l:List Atom) (ho:Own h (.row (scRow g S)::scMem S l)) :
  Con Tryz.prog 49 #[.pointer (some ⟨g,0,none⟩)] h fun r h'=>∃D',r=D'.val∧D'.pure=w∧Own h' (wAtoms D'++l):=by
 refine Con.of_W (tb:=tbG) (args:=[.pointer (some ⟨g,0,none⟩)]) Tryz.func49 rfl Tryz.results49 Tryz.ntmps49 (by simp) (Tryz.call49 _) (tm:=[(0,.v (.pointer (some ⟨g,0,none⟩)))]) rfl ?_;refine vc_ok ⟨tbG_ok,_,Tryz.func49,Tryz.results49,Tryz.ntmps49⟩ 400 _ _ _ _ ?_;conv=>whnf
 have hr:RowOk h (scRow g S):=ho.rowOk List.mem_cons_self;refine Ext.load tbE_ok rfl rfl hr rfl rfl (by show 0+8+7≤1*15;omega) (.agg #[S.D.cv,S.D.rv,.slice none 0 0,.int .i64 S.D.now,.int .i64 S.D.sent,.int .i64 S.D.taken,.int .i64 S.D.lost]) (.inl ⟨rfl,congrArg (fun l=>Value.agg (List.toArray l)) (S.world hS.ok).symm⟩) ?_;conv=>whnf
 refine(list_con g S hS.ok h _ ho).mono ?_;rintro r h2 ⟨a,k,rfl,ho2⟩;conv=>whnf
 refine⟨{ S.D with queue:=ringL S.room S.first S.size,qa:=a,qk:=k },rfl,hS.pure,?_⟩;refine Own.tail (x:=.row (scRow g S)) (ho2.perm (perm_of fun x=>?_));simp only [wAtoms,scMem,WD.cv,WD.rv,WD.qv,List.count_append,List.count_cons];omega
theorem runOf_con (g:Nat) (S:SD) (hS:S.Ok) (hn:S.D.runs.length≤1000) (id:Int) (h:Hp) (hr:RowOk h (scRow g S)) (hrr:RowOk h (rowR S.D.rv S.D.runs)) :
  Con Tryz.prog 156 #[.pointer (some ⟨g,0,none⟩),.int .i64 id] h fun r h'=>((∃(gr i:Nat),id=(i:Int)+1∧i<S.D.runs.length∧S.D.ra=some ⟨gr,0,none⟩∧r=.pointer (some ⟨gr,0+i*13,none⟩))∨((id<1∨(S.D.runs.length:Int)<id)∧r=.pointer none))∧h'=h:=by
 refine Con.of_W (tb:=tbG) (args:=[.pointer (some ⟨g,0,none⟩),.int .i64 id]) Tryz.func156 rfl Tryz.results156 Tryz.ntmps156 (by simp) (Tryz.call156 _) (tm:=[(0,.v (.pointer (some ⟨g,0,none⟩))),(1,.v (.int .i64 id))]) rfl ?_;refine vc_ok ⟨tbG_ok,_,Tryz.func156,Tryz.results156,Tryz.ntmps156⟩ 400 _ _ _ _ ?_;conv=>whnf
 refine⟨fun b1=>?_,fun b1=>?_⟩<;>conv=>whnf
 rotate_left
 ·have h1:id<1:=by simpa using b1
  exact⟨.inr ⟨.inl h1,rfl⟩,rfl⟩
 have h1:1≤id:=by simpa using b1
 refine Ext.loadSc rfl ⟨rfl,rfl⟩ rfl hS hr 3 (by omega) rfl S.D.rv rfl ?_;conv=>whnf
 refine⟨fun b2=>?_,fun b2=>?_⟩<;>conv=>whnf
 ·have h2:(S.D.runs.length:Int)<id:=by simpa using b2
  exact⟨.inr ⟨.inr h2,rfl⟩,rfl⟩
 have h2:id≤(S.D.runs.length:Int):=by simpa using b2
 obtain⟨i,hid⟩:∃i:Nat,id=(i:Int)+1:=⟨(id-1).toNat,by omega⟩;have hi:i<S.D.runs.length:=by omega
 obtain⟨gr,hra⟩:=row_some hrr (by omega);have hz:IntKind.i64.wrap (id-1)=(i:Int):=by rw [hid,show (i:Int)+1-1=i by omega];exact wrapN _ (by omega) (by omega)
 refine Ext.loadSc rfl ⟨rfl,rfl⟩ rfl hS hr 3 (by omega) rfl S.D.rv rfl ?_;conv=>whnf
 refine Ext.index slRun.u slRun.size rfl (by exact rv_same hra) rfl i hz hi ?_;conv=>whnf
 exact⟨.inl ⟨gr,i,hid,hi,hra,rfl⟩,rfl⟩
end Go.Proofs.YtgmkmeodimmdoaaGreatDoor
