import Derived.Test.YtllbeifcipefjaaGreatDoorSm
namespace Go.Proofs.YtllbeifcipefjaaGreatDoor
open Go.RowKit
set_option maxRecDepth 100000
def tbG:Tb:=tbE++[(82,⟨15,true,[.int .i64 0,.int .i64 0,.int .i64 0,.int .i64 0,.int .i64 0,.int .i64 0,.int .i64 0,.int .i64 0,.slice none 0 0,.slice none 0 0,.slice none 0 0,.int .i64 0,.int .i64 0,.int .i64 0,.int .i64 0],[(0,8),(8,7)],0⟩),
 (80,⟨8,true,[.int .i64 0,.int .i64 0,.int .i64 0,.int .i64 0,.int .i64 0,.int .i64 0,.int .i64 0,.int .i64 0],[(0,6),(6,1),(7,1)],0⟩)]
theorem tbG_ok:TbOk Tryz.prog tbG:=by unfold TbOk;kernel_rfl
structure SD where
 room:List Int
 first:Nat
 size:Nat
 D:WD
abbrev SD.rest (S:SD):List Value:=[.int .i64 (S.first:Nat),.int .i64 (S.size:Nat),S.D.cv,S.D.rv,.slice none 0 0,.int .i64 S.D.now,.int .i64 S.D.sent,.int .i64 S.D.taken,.int .i64 S.D.lost]
def SD.cells (S:SD):List Value:=S.room.flatMap encI++S.rest
def ringL (room:List Int) (first size:Nat):List Int:=(List.range size).map fun b=>room.getD ((first+b) % 6) 0
structure SD.Ok (S:SD):Prop where
 room:S.room.length=6
 first:S.first<6
 size:S.size≤6
theorem SD.cells_len {S:SD} (h:S.Ok):S.cells.length=15:=by
 unfold SD.cells
 rw [List.length_append,flat_len encI 1 encI_len,h.room]
 rfl
theorem SD.cell {S:SD} (h:S.Ok) (j:Nat):S.cells[6+j]?=S.rest[j]?:=by
 unfold SD.cells
 rw [List.getElem?_append_right (by rw [flat_len encI 1 encI_len,h.room];omega),flat_len encI 1 encI_len,h.room]
 congr 1
 omega
theorem SD.cellR {S:SD} (h:S.Ok) (k:Nat) (hk:k<6):S.cells[k]?=some (.int .i64 (S.room[k]'(by rw [h.room];exact hk))):=by
 unfold SD.cells
 have hl:k<S.room.length:=by rw [h.room];exact hk
 rw [List.getElem?_append_left (by rw [flat_len encI 1 encI_len];omega)]
 have:=flat_get encI 1 encI_len S.room k hl 0 (by decide)
 rw [Nat.mul_one,Nat.add_zero] at this
 exact this
abbrev scRow (g:Nat) (S:SD):Row:=one 82 15 g S.cells
theorem ringL_push {room:List Int} {first size:Nat} (hr:room.length=6) (hs:size<6) (x:Int):ringL (room.set ((first+size) % 6) x) first (size+1)=ringL room first size++[x]:=by
 unfold ringL
 rw [List.range_succ,List.map_append]
 congr 1
 ·refine List.map_congr_left fun b hb=>?_
  have hb':=List.mem_range.1 hb
  have hne:(first+size) % 6≠(first+b) % 6:=by omega
  rw [List.getD_eq_getElem?_getD,List.getD_eq_getElem?_getD,List.getElem?_set_ne hne]
 ·simp only [List.map_cons,List.map_nil]
  have hlt:(first+size) % 6<room.length:=by omega
  rw [List.getD_eq_getElem?_getD,List.getElem?_set_self hlt]
  rfl
theorem putL_right {A R vs:List Value} {n:Nat} (hA:A.length=n) (j:Nat):putL (n+j) vs (A++R)=A++putL j vs R:=by
 subst hA
 unfold putL
 rw [List.take_append,List.drop_append]
 rw [List.take_of_length_le (by omega),List.drop_eq_nil_of_le (by omega)]
 rw [show A.length+j-A.length=j by omega,show A.length+j+vs.length-A.length=j+vs.length by omega]
 simp
theorem putL_left {A R vs:List Value} {j:Nat} (hj:j+vs.length≤A.length):putL j vs (A++R)=putL j vs A++R:=by
 unfold putL
 rw [List.take_append_of_le_length (by omega),List.drop_append_of_le_length hj]
 simp
theorem SD.put_room {S:SD} (h:S.Ok) {k:Nat} (hk:k<6) (x:Int):putL k [.int .i64 x] S.cells=({ S with room:=S.room.set k x }:SD).cells:=by
 unfold SD.cells
 have hl:k<S.room.length:=by rw [h.room];exact hk
 rw [putL_left (by rw [flat_len encI 1 encI_len];simp;omega)]
 have:=flat_set encI 1 encI_len S.room k hl 0 [.int .i64 x] (by simp) x (by simp [putL,encI])
 rw [Nat.mul_one,Nat.add_zero] at this
 rw [this]
theorem SD.put_rest {S:SD} (h:S.Ok) (j:Nat) (vs:List Value):putL (6+j) vs S.cells=S.room.flatMap encI++putL j vs S.rest:=by
 unfold SD.cells
 exact putL_right (by rw [flat_len encI 1 encI_len,h.room]) j
theorem Ext.loadSc {t:Nat} {ti:TI} (ht:tbl tbE t=some ti) (hag:ti.ag=false∧ti.sz=1) {o:Oper} {y:Operand} (ho:o.op=.load t y) {ev:Operand→Value} {h:Hp} {K:Option Value→Hp→Prop} {S:SD} (hS:S.Ok) {g:Nat} (hr:RowOk h (scRow g S)) (j:Nat) (hj:j<9)
  (hy:ev y=.pointer (some ⟨g,6+j,none⟩)) (v:Value) (hcell:S.rest[j]?=some v) (k:K (some v) h):Ext Tryz.prog (execOp ev o) h K :=
 Ext.load tbE_ok ht ho hr rfl hy (by rw [hag.2];show 6+j+1≤1*15;omega) v (.inr ⟨hag.1,by show S.cells[6+j]?=some v;rw [S.cell hS];exact hcell,hag.2⟩) k
theorem Rd.loadSc {t:Nat} {ti:TI} (ht:tbl tbE t=some ti) (hag:ti.ag=false∧ti.sz=1) {o:Oper} {y:Operand} (ho:o.op=.load t y) {ev:Operand→Value} {h:Hp} {K:Value→Prop} {S:SD} (hS:S.Ok) {g:Nat} (hr:RowOk h (scRow g S)) (j:Nat) (hj:j<9)
  (hy:ev y=.pointer (some ⟨g,6+j,none⟩)) (v:Value) (hcell:S.rest[j]?=some v) (k:K v):Rd Tryz.prog (execOp ev o) h K :=
 Rd.load tbE_ok ht ho hr rfl hy (by rw [hag.2];show 6+j+1≤1*15;omega) v (.inr ⟨hag.1,by show S.cells[6+j]?=some v;rw [S.cell hS];exact hcell,hag.2⟩) k
theorem Ext.storeSc {t:Nat} {ti:TI} (ht:tbl tbE t=some ti) (hsz:ti.sz=1) {o:Oper} {y z:Operand} (ho:o.op=.store t y z) {ev:Operand→Value} {h:Hp} {K:Option Value→Hp→Prop} {S:SD} (hS:S.Ok) {g:Nat} {l:List Atom} (hown:Own h (.row (scRow g S)::l)) (j:Nat) (hj:j<9)
  (hy:ev y=.pointer (some ⟨g,6+j,none⟩)) (v:Value) (hz:ev z=v) (hv:v.cells=#[v]) (h1:v.oneCell'=true) (S':SD) (hc:S.room.flatMap encI++putL j [v] S.rest=S'.cells) (k:∀h',Own h' (.row (scRow g S')::l)→K none h'):Ext Tryz.prog (execOp ev o) h K:=by
 refine Ext.store tbE_ok ht ho hown rfl hy hz [v] (by rw [hv]) (by rw [hsz];rfl) (by show 6+j+1≤1*15;omega) (by simpa using h1) fun h' ho'=>?_
 have e:({ scRow g S with xs:=putL (6+j) [v] (scRow g S).xs }:Row)=scRow g S':=by
  show (⟨_,_,_,_,putL (6+j) [v] S.cells⟩:Row)=_
  rw [S.put_rest hS,hc]
 rw [e] at ho'
 exact k h' ho'
theorem Ext.storeRoom {o:Oper} {y z:Operand} (ho:o.op=.store 3 y z) {ev:Operand→Value} {h:Hp} {K:Option Value→Hp→Prop} {S:SD} (hS:S.Ok) {g:Nat} {l:List Atom} (hown:Own h (.row (scRow g S)::l)) (j:Nat) (hj:j<6)
  (hy:ev y=.pointer (some ⟨g,j,none⟩)) (x:Int) (hz:ev z=.int .i64 x) (k:∀h',Own h' (.row (scRow g { S with room:=S.room.set j x })::l)→K none h'):Ext Tryz.prog (execOp ev o) h K:=by
 refine Ext.store tbE_ok rfl ho hown rfl hy hz [.int .i64 x] rfl rfl (by show j+1≤1*15;omega) (by simp [Value.oneCell']) fun h' ho'=>?_
 have e:({ scRow g S with xs:=putL j [.int .i64 x] (scRow g S).xs }:Row)=scRow g { S with room:=S.room.set j x }:=by
  show (⟨_,_,_,_,putL j [.int .i64 x] S.cells⟩:Row)=_
  rw [S.put_room hS hj]
 rw [e] at ho'
 exact k h' ho'
theorem place_con (g:Nat) (S:SD) (hS:S.Ok) (b:Nat) (hb:b≤1000) (h:Hp) (hr:RowOk h (scRow g S)) :
  Con Tryz.prog 75 #[.pointer (some ⟨g,0,none⟩),.int .i64 (b:Nat)] h fun r h'=>r=.int .i64 (((S.first+b) % 6:Nat):Int)∧h'=h:=by
 refine Con.of_W (tb:=tbG) (args:=[.pointer (some ⟨g,0,none⟩),.int .i64 (b:Nat)]) Tryz.func75 rfl Tryz.results75 Tryz.ntmps75 (by simp) (Tryz.call75 _) (tm:=[(0,.v (.pointer (some ⟨g,0,none⟩))),(1,.v (.int .i64 (b:Nat)))]) rfl ?_
 refine vc_ok ⟨tbG_ok,_,Tryz.func75,Tryz.results75,Tryz.ntmps75⟩ 400 _ _ _ _ ?_
 conv=>whnf
 refine Ext.loadSc rfl ⟨rfl,rfl⟩ rfl hS hr 0 (by omega) rfl (.int .i64 (S.first:Nat)) rfl ?_
 conv=>whnf
 have hf:=hS.first
 have hw:IntKind.i64.wrap ((S.first:Int)+(b:Int))=((S.first+b:Nat):Int):=by rw [wrapN _ (by omega) (by omega)];omega
 rw [hw]
 refine Ext.rem (b:=6) rfl rfl rfl (by decide) ?_
 conv=>whnf
 refine⟨?_,rfl⟩
 have hm:(((S.first+b:Nat):Int)).tmod 6=(((S.first+b) % 6:Nat):Int):=by
  rw [Int.tmod_eq_emod_of_nonneg (by omega)];omega
 rw [hm]
 rfl
end Go.Proofs.YtllbeifcipefjaaGreatDoor
