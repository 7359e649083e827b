import Derived.Test.YtgmkmeodimmdoaaGreatDoorRows
import Derived.Test.YtgmkmeodimmdoaaGreatDoorBSb
set_option maxRecDepth 100000
namespace Go.Proofs.YtgmkmeodimmdoaaGreatDoor
open Go.RowKit
def tbE:Tb:=[(3,⟨1,false,[.int .i64 0],[],0⟩),(4,⟨1,false,[.bool false],[],0⟩),(30,⟨1,false,[.slice none 0 0],[],1⟩),(25,⟨1,false,[.slice none 0 0],[],1⟩),(23,⟨1,false,[.slice none 0 0],[],1⟩),(24,⟨1,false,[.slice none 0 0],[],1⟩),
 (32,⟨2,true,[.int .i64 0,.int .i64 0],[(0,1),(1,1)],0⟩),
 (34,⟨13,true,[.int .i64 0,.int .i64 0,.slice none 0 0,.int .i64 0,.slice none 0 0,.int .i64 0,.int .i64 0,.slice none 0 0,.slice none 0 0,.bool false,.int .i64 0,.int .i64 0,.int .i64 0],[(0,1),(1,1),(2,1),(3,1),(4,1),(5,1),(6,1),(7,1),(8,1),(9,1),(10,2),(12,1)],0⟩),
 (80,⟨6,true,[.int .i64 0,.int .i64 0,.int .i64 0,.int .i64 0,.int .i64 0,.int .i64 0],[(0,1),(1,1),(2,1),(3,1),(4,2)],0⟩),
 (27,⟨7,true,[.slice none 0 0,.slice none 0 0,.slice none 0 0,.int .i64 0,.int .i64 0,.int .i64 0,.int .i64 0],[(0,1),(1,1),(2,1),(3,1),(4,1),(5,1),(6,1)],0⟩),
 (117,⟨4,true,[.int .i64 0,.int .i64 0,.int .i64 0,.int .i64 0],[(0,1),(1,1),(2,2)],0⟩)]
theorem tbE_ok:TbOk Tryz.prog tbE:=by unfold TbOk;kernel_rfl
theorem slInt:SlTy Tryz.prog 25 3 1 8:=⟨Tryz.underlying25,⟨_,_,Tryz.type3,rfl,rfl,rfl,rfl⟩,by decide⟩
theorem slVal:SlTy Tryz.prog 30 32 2 16:=⟨Tryz.underlying30,⟨_,_,Tryz.type32,rfl,rfl,rfl,rfl⟩,by decide⟩
theorem slRun:SlTy Tryz.prog 24 34 13 168:=⟨Tryz.underlying24,⟨_,_,Tryz.type34,rfl,rfl,rfl,rfl⟩,by decide⟩
theorem slOp:SlTy Tryz.prog 23 80 6 48:=⟨Tryz.underlying23,⟨_,_,Tryz.type80,rfl,rfl,rfl,rfl⟩,by decide⟩
theorem mixed:Tryz.prog.follows .mixedOrders=true:=by kernel_rfl
section
variable {α:Type} (enc:α→List Value) (sz:Nat)
theorem flat_len (hsz:∀a,(enc a).length=sz):∀(L:List α),(L.flatMap enc).length=L.length*sz
 |[]=>by simp
 |a::L=>by simp [flat_len hsz L,hsz,Nat.add_mul];omega
theorem flat_drop (hsz:∀a,(enc a).length=sz):∀(L:List α) (k:Nat) (hk:k<L.length),(L.flatMap enc).drop (k*sz)=enc L[k]++(L.drop (k+1)).flatMap enc
 |[],k,hk=>by simp at hk
 |a::L,0,_=>by simp
 |a::L,k+1,hk=>by
  have hk':k<L.length:=by simpa using hk
  have:=flat_drop hsz L k hk';simp only [List.flatMap_cons,List.getElem_cons_succ,List.drop_succ_cons];rw [List.drop_append,List.drop_of_length_le (by rw [hsz,Nat.add_mul];omega),hsz,List.nil_append,show (k+1)*sz-sz=k*sz by rw [Nat.add_mul];omega];exact this
theorem flat_sub (hsz:∀a,(enc a).length=sz) (L:List α) (k:Nat) (hk:k<L.length) (o m:Nat) (hm:o+m≤sz):((L.flatMap enc).drop (k*sz+o)).take m=((enc L[k]).drop o).take m:=by
 rw [←List.drop_drop,flat_drop enc sz hsz L k hk,List.drop_append,List.take_append,List.length_drop,hsz];rw [show m-(sz-o)=0 by omega];simp
theorem flat_at (hsz:∀a,(enc a).length=sz) (L:List α) (k:Nat) (hk:k<L.length):((L.flatMap enc).drop (k*sz)).take sz=enc L[k]:=by
 have:=flat_sub enc sz hsz L k hk 0 sz (by omega);rw [Nat.add_zero] at this;rw [this,List.drop_zero,List.take_of_length_le (by rw [hsz];omega)]
theorem flat_get (hsz:∀a,(enc a).length=sz) (L:List α) (k:Nat) (hk:k<L.length) (o:Nat) (ho:o<sz):(L.flatMap enc)[k*sz+o]?=(enc L[k])[o]?:=by
 have h1:((L.flatMap enc).drop (k*sz))[o]?=(L.flatMap enc)[k*sz+o]?:=by rw [List.getElem?_drop]
 rw [←h1,flat_drop enc sz hsz L k hk,List.getElem?_append_left (by rw [hsz];exact ho)]
theorem flat_take (hsz:∀a,(enc a).length=sz):∀(L:List α) (k:Nat),k≤L.length→(L.take k).flatMap enc=(L.flatMap enc).take (k*sz)
 |[],k,_=>by simp
 |a::L,0,_=>by simp
 |a::L,k+1,hk=>by
  have:=flat_take hsz L k (by simpa using hk);simp only [List.take_succ_cons,List.flatMap_cons];have h1:(enc a).take ((k+1)*sz)=enc a:=List.take_of_length_le (by rw [hsz,Nat.add_mul];omega);rw [this,List.take_append,hsz,h1,show (k+1)*sz-sz=k*sz by rw [Nat.add_mul];omega]
theorem flat_set (hsz:∀a,(enc a).length=sz) (L:List α) (k:Nat) (hk:k<L.length) (o:Nat) (vs:List Value) (ho:o+vs.length≤sz) (y:α) (hy:enc y=putL o vs (enc L[k])):putL (k*sz+o) vs (L.flatMap enc)=(L.set k y).flatMap enc:=by
 have hlen:=flat_len enc sz hsz L;have hks:k*sz+sz≤L.length*sz:=by have:=Nat.mul_le_mul_right sz (Nat.succ_le_of_lt hk);rw [Nat.succ_mul] at this;exact this
 have e1:L.flatMap enc=(L.take k).flatMap enc++(enc L[k]++(L.drop (k+1)).flatMap enc):=by
  rw [←flat_drop enc sz hsz L k hk];have:=flat_take enc sz hsz L k (by omega);rw [this,List.take_append_drop]
 have e2:(L.set k y).flatMap enc=(L.take k).flatMap enc++(enc y++(L.drop (k+1)).flatMap enc):=by
  rw [List.set_eq_take_append_cons_drop,if_pos hk,List.flatMap_append,List.flatMap_cons]
 rw [e2,e1,hy];have hA:((L.take k).flatMap enc).length=k*sz:=by rw [flat_len enc sz hsz,List.length_take,Nat.min_eq_left (by omega)]
 have hE:=hsz L[k];generalize (L.take k).flatMap enc=A at *;generalize (L.drop (k+1)).flatMap enc=C at *;generalize enc L[k]=E at *;unfold putL;rw [List.take_append,List.drop_append,hA,List.take_of_length_le (by omega),List.drop_of_length_le (by omega),List.take_append,List.drop_append,hE];rw [show k*sz+o-k*sz=o by omega,show k*sz+o+vs.length-k*sz=o+vs.length by omega,show o-sz=0 by omega,show o+vs.length-sz=0 by omega];simp
end
def encV (x:Int×Int):List Value:=[.int .i64 x.1,.int .i64 x.2]
def encI (x:Int):List Value:=[.int .i64 x]
theorem encV_len (x:Int×Int):(encV x).length=2:=rfl
theorem encI_len (x:Int):(encI x).length=1:=rfl
structure RunD where
 id:Int
 pl:Int
 slots:List (Int×Int)
 full:Int
 mail:List (Int×Int)
 st:Int
 due:Int
 links:List Int
 wat:List Int
 trap:Bool
 wk:Int
 wn:Int
 tu:Int
structure RunP where
 a0:Option Addr
 k0:Nat
 a1:Option Addr
 k1:Nat
 a2:Option Addr
 k2:Nat
 a3:Option Addr
 k3:Nat
abbrev RunD.cells (d:RunD) (p:RunP):List Value:=[.int .i64 d.id,.int .i64 d.pl,.slice p.a0 d.slots.length p.k0,.int .i64 d.full,.slice p.a1 d.mail.length p.k1,.int .i64 d.st,.int .i64 d.due,.slice p.a2 d.links.length p.k2,.slice p.a3 d.wat.length p.k3,.bool d.trap,.int .i64 d.wk,.int .i64 d.wn,.int .i64 d.tu]
abbrev RunD.val (d:RunD) (p:RunP):Value:=.agg (d.cells p).toArray
def encR (x:RunD×RunP):List Value:=x.1.cells x.2
theorem encR_len (x:RunD×RunP):(encR x).length=13:=rfl
structure OpD where
 k:Int
 r:Int
 s:Int
 to:Int
 vk:Int
 vn:Int
abbrev OpD.cells (o:OpD):List Value:=[.int .i64 o.k,.int .i64 o.r,.int .i64 o.s,.int .i64 o.to,.int .i64 o.vk,.int .i64 o.vn]
def encO (x:OpD):List Value:=x.cells
theorem encO_len (x:OpD):(encO x).length=6:=rfl
abbrev rowV (v:Value) (L:List (Int×Int)):Row:=⟨32,2,v,L.length,L.flatMap encV⟩
abbrev rowI (v:Value) (L:List Int):Row:=⟨3,1,v,L.length,L.flatMap encI⟩
abbrev rowR (v:Value) (L:List (RunD×RunP)):Row:=⟨34,13,v,L.length,L.flatMap encR⟩
abbrev rowO (v:Value) (L:List OpD):Row:=⟨80,6,v,L.length,L.flatMap encO⟩
def runRows (x:RunD×RunP):List Atom:=[.row (rowV (.slice x.2.a0 x.1.slots.length x.2.k0) x.1.slots),.row (rowV (.slice x.2.a1 x.1.mail.length x.2.k1) x.1.mail),.row (rowI (.slice x.2.a2 x.1.links.length x.2.k2) x.1.links),.row (rowI (.slice x.2.a3 x.1.wat.length x.2.k3) x.1.wat)]
end Go.Proofs.YtgmkmeodimmdoaaGreatDoor
namespace Go.Proofs.YtgmkmeodimmdoaaGreatDoor
open Go.RowKit
set_option maxRecDepth 100000
theorem l6In_con (n lo hi:Int) (h:Hp):Con Tryz.prog 40 #[.int .i64 n,.int .i64 lo,.int .i64 hi] h fun v h'=>v=.bool (decide (lo≤n)&&decide (n≤hi))∧h'=h:=by
 refine Con.of_W (tb:=tbE) (args:=[.int .i64 n,.int .i64 lo,.int .i64 hi]) Tryz.func40 rfl Tryz.results40 Tryz.ntmps40 (by simp) (Tryz.call40 _) (tm:=[(0,.v (.int .i64 n)),(1,.v (.int .i64 lo)),(2,.v (.int .i64 hi))]) rfl ?_;refine vc_ok ⟨tbE_ok,_,Tryz.func40,Tryz.results40,Tryz.ntmps40⟩ 400 _ _ _ _ ?_;conv=>whnf
 refine⟨fun h1=>?_,fun h1=>?_⟩<;>conv=>whnf
 ·exact⟨by rw [show decide (lo≤n)=true from h1,Bool.true_and];rfl,rfl⟩
 ·exact⟨by rw [show decide (lo≤n)=false from h1,Bool.false_and];rfl,rfl⟩
def bitI (k:Nat):Int:=2 ^ k
theorem l3Bit_con (k:Nat) (hk:k<4) (z:Int) (hz:z=(k:Int)) (h:Hp):Con Tryz.prog 104 #[.int .i64 z] h fun v h'=>v=.int .i64 (bitI k)∧h.le h':=by
 refine Con.of_W (tb:=tbE) (args:=[.int .i64 z]) Tryz.func104 rfl Tryz.results104 Tryz.ntmps104 (by simp) (Tryz.call104 _) (tm:=[(0,.v (.int .i64 z))]) rfl ?_;refine vc_ok ⟨tbE_ok,_,Tryz.func104,Tryz.results104,Tryz.ntmps104⟩ 400 _ _ _ _ ?_;conv=>whnf
 refine Ext.buildSlice slInt rfl (Own.nil h) [.int .i64 0,.int .i64 0,.int .i64 0,.int .i64 0] (fun w=>⟨_,Tryz.zeroValue3 w,by kernel_rfl⟩) [.int .i64 1,.int .i64 2,.int .i64 4,.int .i64 8] rfl rfl (by decide) fun g h1 hle ho=>?_
 conv=>whnf
 refine Ext.index slInt.u slInt.size rfl rfl rfl k hz hk ?_;conv=>whnf
 have hr:=ho.ok _ (List.mem_cons_self);refine Ext.load tbE_ok rfl rfl hr rfl rfl (by simp;omega) (.int .i64 (bitI k)) (.inr ⟨rfl,?_,rfl⟩) ?_
 ·rcases (by omega:k=0∨k=1∨k=2∨k=3) with rfl|rfl|rfl|rfl<;>rfl
 conv=>whnf
 exact⟨rfl,hle⟩
theorem l1Fits_con (a b k:Int) (h:Hp):Con Tryz.prog 155 #[.agg #[.int .i64 a,.int .i64 b],.int .i64 k] h fun v h'=>v=.bool (k==0||a==k)∧h'=h:=by
 refine Con.of_W (tb:=tbE) (args:=[.agg #[.int .i64 a,.int .i64 b],.int .i64 k]) Tryz.func155 rfl Tryz.results155 Tryz.ntmps155 (by simp) (Tryz.call155 _) (tm:=[(0,.a [.int .i64 a,.int .i64 b]),(1,.v (.int .i64 k))]) rfl ?_;refine vc_ok ⟨tbE_ok,_,Tryz.func155,Tryz.results155,Tryz.ntmps155⟩ 400 _ _ _ _ ?_;conv=>whnf
 refine⟨fun h1=>?_,fun h1=>?_⟩<;>conv=>whnf
 ·exact⟨by rw [h1,Bool.false_or];rfl,rfl⟩
 ·exact⟨by rw [h1];rfl,rfl⟩
theorem bitI_ne (k:Nat) (hk:k<4):bitI k≠0:=by
 rcases (by omega:k=0∨k=1∨k=2∨k=3) with rfl|rfl|rfl|rfl<;>decide
def hasB (bits:Int) (k:Nat):Bool:=(IntKind.i64.wrap (bits.tdiv (bitI k))).tmod 2==1
theorem l3Has_con (bits:Int) (k:Nat) (hk:k<4) (z:Int) (hz:z=(k:Int)) (h:Hp):Con Tryz.prog 73 #[.int .i64 bits,.int .i64 z] h fun v h'=>v=.bool (hasB bits k)∧h.le h':=by
 refine Con.of_W (tb:=tbE) (args:=[.int .i64 bits,.int .i64 z]) Tryz.func73 rfl Tryz.results73 Tryz.ntmps73 (by simp) (Tryz.call73 _) (tm:=[(0,.v (.int .i64 bits)),(1,.v (.int .i64 z))]) rfl ?_;refine vc_ok ⟨tbE_ok,_,Tryz.func73,Tryz.results73,Tryz.ntmps73⟩ 400 _ _ _ _ ?_;conv=>whnf
 refine(l3Bit_con k hk z hz h).mono ?_;rintro v h1 ⟨rfl,hle⟩;conv=>whnf
 refine Ext.quo rfl rfl rfl (bitI_ne k hk) ?_;conv=>whnf
 refine Ext.rem rfl rfl rfl (by decide) ?_;conv=>whnf
 exact⟨rfl,hle⟩
def withB (bits:Int) (k:Nat):Int:=if hasB bits k then bits else IntKind.i64.wrap (bits+bitI k)
theorem l3With_con (bits:Int) (k:Nat) (hk:k<4) (z:Int) (hz:z=(k:Int)) (h:Hp):Con Tryz.prog 106 #[.int .i64 bits,.int .i64 z] h fun v h'=>v=.int .i64 (withB bits k)∧h.le h':=by
 refine Con.of_W (tb:=tbE) (args:=[.int .i64 bits,.int .i64 z]) Tryz.func106 rfl Tryz.results106 Tryz.ntmps106 (by simp) (Tryz.call106 _) (tm:=[(0,.v (.int .i64 bits)),(1,.v (.int .i64 z))]) rfl ?_;refine vc_ok ⟨tbE_ok,_,Tryz.func106,Tryz.results106,Tryz.ntmps106⟩ 400 _ _ _ _ ?_;conv=>whnf
 refine(l3Has_con bits k hk z hz h).mono ?_;rintro v h1 ⟨rfl,hle⟩;conv=>whnf
 refine⟨fun h2=>?_,fun h2=>?_⟩<;>conv=>whnf
 ·exact⟨by unfold withB;rw [if_pos h2];rfl,hle⟩
 ·refine(l3Bit_con k hk z hz h1).mono ?_;rintro v h3 ⟨rfl,hle2⟩;conv=>whnf
  exact⟨by unfold withB;rw [h2];rfl,Hp.le_trans hle hle2⟩
def RunD.put (d:RunD) (k:Nat) (x:Int×Int):RunD:={ d with slots:=d.slots.set k x,full:=withB d.full k }
theorem l11Put_con (d:RunD) (p:RunP) (k:Nat) (hk:k<4) (hs:d.slots.length=4) (x:Int×Int) (h:Hp) (l:List Atom) (ho:Own h (runRows (d,p)++l)) :
  Con Tryz.prog 177 #[d.val p,.int .i64 k,.agg #[.int .i64 x.1,.int .i64 x.2]] h fun v h'=>v=(d.put k x).val p∧Own h' (runRows (d.put k x,p)++l):=by
 obtain⟨a0,k0,a1,k1,a2,k2,a3,k3⟩:=p;have hr:=ho.ok _ (List.mem_cons_self);obtain⟨g,cap,cur,hv,_⟩:=RowOk.form (r:=rowV (.slice a0 d.slots.length k0) d.slots) hr (by show 0<d.slots.length;omega)
 cases hv
 refine Con.of_W (tb:=tbE) (args:=[d.val ⟨some ⟨g,0,none⟩,k0,a1,k1,a2,k2,a3,k3⟩,.int .i64 k,.agg #[.int .i64 x.1,.int .i64 x.2]]) Tryz.func177 rfl Tryz.results177 Tryz.ntmps177 (by simp) (Tryz.call177 _) (tm:=[(0,.a (d.cells ⟨some ⟨g,0,none⟩,k0,a1,k1,a2,k2,a3,k3⟩)),(1,.v (.int .i64 k)),(2,.a [.int .i64 x.1,.int .i64 x.2])]) rfl ?_;refine vc_ok ⟨tbE_ok,_,Tryz.func177,Tryz.results177,Tryz.ntmps177⟩ 400 _ _ _ _ ?_;conv=>whnf
 refine Ext.index slVal.u slVal.size rfl rfl rfl k rfl (by omega) ?_;conv=>whnf
 refine Ext.store tbE_ok rfl rfl ho rfl rfl rfl (encV x) rfl rfl (by show 0+k*2+2≤d.slots.length*2;omega) (by simp [encV,Value.oneCell']) fun h1 ho1=>?_
 conv=>whnf
 refine(l3With_con d.full k hk k rfl h1).mono ?_;rintro v h2 ⟨rfl,hle⟩;conv=>whnf
 have e1:putL (0+k*2) (encV x) (d.slots.flatMap encV)=(d.slots.set k x).flatMap encV:=by
  have:=flat_set encV 2 encV_len d.slots k (by omega) 0 (encV x) (by simp [encV]) x (by simp [putL,encV]);rw [Nat.zero_add,←this,Nat.add_zero]
 refine⟨?_,?_⟩
 ·show Value.agg _=Value.agg _;simp [RunD.put]
 ·have ho2:=ho1.le hle;rw [e1] at ho2;simpa [runRows,RunD.put,rowV] using ho2
structure WD where
 code:List OpD
 runs:List (RunD×RunP)
 queue:List Int
 now:Int
 sent:Int
 taken:Int
 lost:Int
 ca:Option Addr
 ck:Nat
 ra:Option Addr
 rk:Nat
 qa:Option Addr
 qk:Nat
abbrev WD.cv (W:WD):Value:=.slice W.ca W.code.length W.ck
abbrev WD.rv (W:WD):Value:=.slice W.ra W.runs.length W.rk
abbrev WD.qv (W:WD):Value:=.slice W.qa W.queue.length W.qk
abbrev WD.cells (W:WD):List Value:=[W.cv,W.rv,W.qv,.int .i64 W.now,.int .i64 W.sent,.int .i64 W.taken,.int .i64 W.lost]
abbrev WD.val (W:WD):Value:=.agg W.cells.toArray
def wAtoms (W:WD):List Atom:=.row (rowR W.rv W.runs)::.row (rowI W.qv W.queue)::.row (rowO W.cv W.code)::W.runs.flatMap runRows
def wOth (W:WD) (i:Nat) (l:List Atom):List Atom:=.row (rowI W.qv W.queue)::.row (rowO W.cv W.code)::((W.runs.take i).flatMap runRows++((W.runs.drop (i+1)).flatMap runRows++l))
theorem runs_split {α β:Type} (f:α→List β) (L:List α) (i:Nat) (hi:i<L.length):L.flatMap f=(L.take i).flatMap f++(f L[i]++(L.drop (i+1)).flatMap f):=by
 conv=>lhs;rw [←List.take_append_drop i L,List.flatMap_append,List.drop_eq_getElem_cons hi,List.flatMap_cons]
theorem w_perm (W:WD) (i:Nat) (hi:i<W.runs.length) (l:List Atom):(wAtoms W++l).Perm (.row (rowR W.rv W.runs)::(runRows W.runs[i]++wOth W i l)):=by
 unfold wAtoms wOth;rw [runs_split runRows W.runs i hi];refine List.Perm.cons _ ?_;generalize runRows W.runs[i]=R;generalize (W.runs.take i).flatMap runRows=A;generalize (W.runs.drop (i+1)).flatMap runRows=B;generalize Atom.row (rowI W.qv W.queue)=q;generalize Atom.row (rowO W.cv W.code)=c;have h1:(q::c::(A++(R++B))++l).Perm (q::c::(R++(A++(B++l)))):=by
  refine List.Perm.cons _ (List.Perm.cons _ ?_);show (A++(R++B)++l).Perm _;rw [List.append_assoc,List.append_assoc];rw [←List.append_assoc A R,←List.append_assoc R A];exact List.perm_append_comm.append_right _
 refine h1.trans ?_;have h2:(R++q::c::(A++(B++l))).Perm (q::c::(R++(A++(B++l)))):=by
  refine List.perm_middle.trans (List.Perm.cons _ ?_);exact List.perm_middle
 exact h2.symm
abbrev WD.setRun (W:WD) (i:Nat) (y:RunD×RunP):WD:={ W with runs:=W.runs.set i y }
theorem w_oth_set (W:WD) (i:Nat) (y:RunD×RunP) (l:List Atom):wOth (W.setRun i y) i l=wOth W i l:=by
 unfold wOth;have:(W.runs.set i y).take i=W.runs.take i:=by rw [List.take_set,List.set_eq_of_length_le (by simp;omega)]
 simp only [WD.setRun,this];simp [List.drop_set]
theorem w_open {h:Hp} {W:WD} {l:List Atom} (o:Own h (wAtoms W++l)) (i:Nat) (hi:i<W.runs.length):Own h (.row (rowR W.rv W.runs)::(runRows W.runs[i]++wOth W i l)):=o.perm (w_perm W i hi l)
theorem w_shut {h:Hp} {W:WD} {l:List Atom} (i:Nat) (hi:i<W.runs.length) (y:RunD×RunP) (o:Own h (.row (rowR (W.setRun i y).rv (W.runs.set i y))::(runRows y++wOth W i l))):Own h (wAtoms (W.setRun i y)++l):=by
 have hi':i<(W.setRun i y).runs.length:=by simpa using hi
 refine o.perm (List.Perm.symm ?_);have:=w_perm (W.setRun i y) i hi' l;rw [w_oth_set] at this;simpa using this
theorem w_lists {h:Hp} {r:Atom} {A B:List Atom} (o:Own h (r::(A++B))):Own h (A++r::B):=o.perm List.perm_middle.symm
theorem w_row {h:Hp} {r:Atom} {A B:List Atom} (o:Own h (A++r::B)):Own h (r::(A++B)):=o.perm List.perm_middle
theorem wrapN (n:Int) (h1 : -9223372036854775808≤n) (h2:n<9223372036854775808):IntKind.i64.wrap n=n:=by
 simp [IntKind.wrap,IntKind.bits,IntKind.signed];omega
def RunD.next (d:RunD):RunD:={ d with pl:=IntKind.i64.wrap (d.pl+1) }
theorem l21Next_con (d:RunD) (p:RunP) (h:Hp):Con Tryz.prog 176 #[d.val p] h fun v h'=>v=d.next.val p∧h'=h:=by
 refine Con.of_W (tb:=tbE) (args:=[d.val p]) Tryz.func176 rfl Tryz.results176 Tryz.ntmps176 (by simp) (Tryz.call176 _) (tm:=[(0,.a (d.cells p))]) rfl ?_;refine vc_ok ⟨tbE_ok,_,Tryz.func176,Tryz.results176,Tryz.ntmps176⟩ 400 _ _ _ _ ?_;conv=>whnf
 exact⟨rfl,rfl⟩
theorem w_val (D:WD) (i:Nat) (y:RunD×RunP):(D.setRun i y).val=D.val:=by
 simp only [WD.val,WD.cells,WD.cv,WD.rv,WD.qv,List.length_set]
theorem w_put {h:Hp} {D:WD} {l A:List Atom} (i:Nat) (hi:i<D.runs.length) (y:RunD×RunP) (hA:A=runRows y) (o:Own h (.row { rowR D.rv D.runs with xs:=putL (0+i*13) (encR y) (D.runs.flatMap encR) }::(A++wOth D i l))):Own h (wAtoms (D.setRun i y)++l):=by
 subst hA;have e1:putL (0+i*13) (encR y) (D.runs.flatMap encR)=(D.runs.set i y).flatMap encR:=by
  have:=flat_set encR 13 encR_len D.runs i hi 0 (encR y) (by simp [encR]) y (by simp [putL,encR]);rw [Nat.zero_add,←this,Nat.add_zero]
 refine w_shut i hi y ?_;have e2:({ rowR D.rv D.runs with xs:=putL (0+i*13) (encR y) (D.runs.flatMap encR) }:Row)=rowR (D.setRun i y).rv (D.runs.set i y):=by
  simp only [e1,rowR,WD.rv,List.length_set]
 rw [e2] at o;exact o
theorem row_some {h:Hp} {e:TypeId} {sz n:Nat} {a:Option Addr} {c:Nat} {xs:List Value} (o:RowOk h ⟨e,sz,.slice a n c,n,xs⟩) (hn:0<n):∃g,a=some ⟨g,0,none⟩:=by
 obtain⟨g,cap,cur,hv,_⟩:=RowOk.form o hn
 cases hv
 exact⟨g,rfl⟩
theorem l21Set_con (D:WD) (i:Nat) (hi:i<D.runs.length) (hL:D.runs.length≤100) (id:Int) (hid:id=(i:Int)+1) (k:Nat) (hk:k<4) (hs:D.runs[i].1.slots.length=4) (x:Int×Int) (h:Hp) (l:List Atom) (ho:Own h (wAtoms D++l)) :
  Con Tryz.prog 149 #[D.val,.int .i64 id,.int .i64 k,.agg #[.int .i64 x.1,.int .i64 x.2]] h fun v h'=>v=(D.setRun i ((D.runs[i].1.put k x).next,D.runs[i].2)).val∧Own h' (wAtoms (D.setRun i ((D.runs[i].1.put k x).next,D.runs[i].2))++l):=by
 have ho1:=w_open ho i hi;have hr:RowOk h (rowR D.rv D.runs):=ho1.ok _ (List.mem_cons_self);obtain⟨g,hra⟩:=row_some hr (by omega);have hv:D.rv=.slice (some ⟨g,0,none⟩) D.runs.length D.rk:=by rw [WD.rv,hra]
 have hz:IntKind.i64.wrap (id-1)=(i:Int):=by rw [hid,show (i:Int)+1-1=i by omega];exact wrapN _ (by omega) (by omega)
 refine Con.of_W (tb:=tbE) (args:=[D.val,.int .i64 id,.int .i64 k,.agg #[.int .i64 x.1,.int .i64 x.2]]) Tryz.func149 rfl Tryz.results149 Tryz.ntmps149 (by simp) (Tryz.call149 _) (tm:=[(0,.a D.cells),(1,.v (.int .i64 id)),(2,.v (.int .i64 k)),(3,.a [.int .i64 x.1,.int .i64 x.2])]) rfl ?_;refine vc_ok ⟨tbE_ok,_,Tryz.func149,Tryz.results149,Tryz.ntmps149⟩ 400 _ _ _ _ ?_;conv=>whnf
 refine W.draw [(0,true),(1,true),(2,true),(3,true),(4,true),(5,true),(6,true),(7,true),(8,true),(10,true),(11,true),(9,false),(12,false),(13,false),(14,true),(15,false)] [0,1] none 99 (by kernel_rfl) rfl (by kernel_rfl) mixed rfl (fun g e=>by cases e) ?_;refine vc_ok ⟨tbE_ok,_,Tryz.func149,Tryz.results149,Tryz.ntmps149⟩ 400 _ _ _ _ ?_;conv=>whnf
 refine Rd.index slRun.u slRun.size rfl (by exact hv) rfl i hz hi ?_;conv=>whnf
 refine Ext.load tbE_ok rfl rfl hr hv rfl (by show 0+i*13+13≤D.runs.length*13;omega) (D.runs[i].1.val D.runs[i].2) (.inl ⟨rfl,by rw [Nat.zero_add];exact congrArg (fun l=>Value.agg (List.toArray l)) (flat_at encR 13 encR_len D.runs i hi).symm⟩) ?_;conv=>whnf
 refine(l11Put_con D.runs[i].1 D.runs[i].2 k hk hs x h _ (w_lists (r:=.row (rowR D.rv D.runs)) ho1)).mono ?_;rintro v h1 ⟨rfl,ho2⟩;conv=>whnf
 refine(l21Next_con _ _ _).mono ?_;rintro v h2 ⟨rfl,rfl⟩;conv=>whnf
 refine Rd.index slRun.u slRun.size rfl (by exact hv) rfl i hz hi ?_;conv=>whnf
 refine Ext.store tbE_ok rfl rfl (w_row ho2) hv rfl rfl (encR ((D.runs[i].1.put k x).next,D.runs[i].2)) rfl rfl (by show 0+i*13+13≤D.runs.length*13;omega) (by simp [encR,Value.oneCell']) fun h3 ho3=>?_
 conv=>whnf
 exact⟨(w_val _ _ _).symm,w_put i hi _ rfl ho3⟩
structure PW where
 code:List OpD
 runs:List RunD
 queue:List Int
 now:Int
 sent:Int
 taken:Int
 lost:Int
def WD.pure (D:WD):PW:=⟨D.code,D.runs.map (·.1),D.queue,D.now,D.sent,D.taken,D.lost⟩
abbrev wr (n:Int):Int:=IntKind.i64.wrap n
def fitsP (v:Int×Int) (k:Int):Bool:=k==0||v.1==k
def stepAt (c:List OpD) (d:RunD):OpD:=c.getD d.pl.toNat ⟨0,0,0,0,0,0⟩
def loseP (w:PW):PW:={ w with sent:=wr (w.sent+1),lost:=wr (w.lost+1) }
def giveAt (w:PW) (i:Nat) (id:Int) (d:RunD) (v:Int×Int):PW :=
 if d.st==3||decide ((d.mail.length:Int)≥12) then loseP w
 else if d.st==2&&fitsP v (stepAt w.code d).s then { w with sent:=wr (w.sent+1),queue:=w.queue++[id],runs:=w.runs.set i { d with mail:=d.mail++[v],st:=1 } }
 else { w with sent:=wr (w.sent+1),runs:=w.runs.set i { d with mail:=d.mail++[v] } }
def giveP (w:PW) (id:Int) (v:Int×Int):PW :=
 if 1≤id∧id≤w.runs.length then
  match w.runs[(id-1).toNat]? with
  |some d=>giveAt w (id-1).toNat id d v
  |none=>loseP w
 else loseP w
theorem one_val (x:Int×Int):∀u∈encV x,u.oneCell'=true:=by simp [encV,Value.oneCell']
theorem one_int (x:Int):∀u∈encI x,u.oneCell'=true:=by simp [encI,Value.oneCell']
theorem w_cell {D:WD} {i:Nat} (hi:i<D.runs.length) (o:Nat) (ho:o<13) {v:Value} (hv:(encR D.runs[i])[o]?=some v):(D.runs.flatMap encR)[0+i*13+o]?=some v:=by
 rw [Nat.zero_add,flat_get encR 13 encR_len D.runs i hi o ho];exact hv
theorem Own.front2 {h:Hp} {a b c:Atom} {l:List Atom} (o:Own h (a::b::c::l)):Own h (c::a::b::l) :=
 o.perm (((List.Perm.swap c b l).cons a).trans (List.Perm.swap c a (b::l)))
theorem Own.back2 {h:Hp} {a b c:Atom} {l:List Atom} (o:Own h (c::a::b::l)):Own h (a::b::c::l) :=
 o.perm ((List.Perm.swap a c (b::l)).trans ((List.Perm.swap b c l).cons a))
theorem Own.swap {h:Hp} {a b:Atom} {l:List Atom} (o:Own h (a::b::l)):Own h (b::a::l):=o.perm (List.Perm.swap b a l)
theorem Own.drop2 {h:Hp} {a b:Atom} {l:List Atom} (o:Own h (a::b::l)):Own h (a::l):=o.swap.tail
theorem Ext.pushV {o:Oper} {s y:Operand} (ho:o.op=.call { callee:=.builtin .append,args:=#[s,y],argTypes:=#[30,30] }) {ev:Operand→Value} {h:Hp} {K:Option Value→Hp→Prop} {l:List Atom} {tv v:Value} {x:Int×Int} {L:List (Int×Int)}
  (hown:Own h (.row ⟨32,2,tv,1,encV x⟩::.row (rowV v L)::l)) (hs:ev s=v) (hy:ev y=tv) (hn:L.length<1000000) (k:∀a c h',Own h' (.row (rowV (.slice a (L++[x]).length c) (L++[x]))::l)→K (some (.slice a (L++[x]).length c)) h'):Ext Tryz.prog (execOp ev o) h K:=by
 refine Ext.append slVal ho hown.swap rfl rfl hs hy (RowOk.src (hown.ok _ List.mem_cons_self) (one_val x)) (by show (L.length+1)*16≤_;omega) (by show L.length+1≤_;unfold maxLen;omega) fun v' h' ho1=>?_
 have e:(⟨32,2,v',L.length+1,L.flatMap encV++encV x⟩:Row)=rowV v' (L++[x]):=by simp [rowV]
 have ho2:Own h' (.row (rowV v' (L++[x]))::l):=by rw [←e];exact ho1.drop2
 obtain⟨a,c,hv⟩:=RowOk.form' (ho2.ok _ List.mem_cons_self);dsimp only at hv;subst hv;exact k a c h' ho2
theorem Ext.pushI {o:Oper} {s y:Operand} (ho:o.op=.call { callee:=.builtin .append,args:=#[s,y],argTypes:=#[25,25] }) {ev:Operand→Value} {h:Hp} {K:Option Value→Hp→Prop} {l:List Atom} {tv v:Value} {x:Int} {L:List Int}
  (hown:Own h (.row ⟨3,1,tv,1,encI x⟩::.row (rowI v L)::l)) (hs:ev s=v) (hy:ev y=tv) (hn:L.length<1000000) (k:∀a c h',Own h' (.row (rowI (.slice a (L++[x]).length c) (L++[x]))::l)→K (some (.slice a (L++[x]).length c)) h'):Ext Tryz.prog (execOp ev o) h K:=by
 refine Ext.append slInt ho hown.swap rfl rfl hs hy (RowOk.src (hown.ok _ List.mem_cons_self) (one_int x)) (by show (L.length+1)*8≤_;omega) (by show L.length+1≤_;unfold maxLen;omega) fun v' h' ho1=>?_
 have e:(⟨3,1,v',L.length+1,L.flatMap encI++encI x⟩:Row)=rowI v' (L++[x]):=by simp [rowI]
 have ho2:Own h' (.row (rowI v' (L++[x]))::l):=by rw [←e];exact ho1.drop2
 obtain⟨a,c,hv⟩:=RowOk.form' (ho2.ok _ List.mem_cons_self);dsimp only at hv;subst hv;exact k a c h' ho2
theorem Ext.litV {o:Oper} {y:Operand} (ho:o.op=.buildSlice 30 1 #[(0,y)]) {ev:Operand→Value} {h:Hp} {K:Option Value→Hp→Prop} {l:List Atom} (hown:Own h l) (x:Int×Int) (hy:ev y=.agg #[.int .i64 x.1,.int .i64 x.2]) (k:∀g h',h.le h'→Own h' (.row ⟨32,2,.slice (some ⟨g,0,none⟩) 1 1,1,encV x⟩::l)→K (some (.slice (some ⟨g,0,none⟩) 1 1)) h'):Ext Tryz.prog (execOp ev o) h K :=
 Ext.buildSlice slVal ho hown [.int .i64 0,.int .i64 0] (fun w=>⟨_,Tryz.zeroValue32 w,by kernel_rfl⟩) (encV x) (by simp [hy];rfl) rfl (by decide) k
theorem Ext.litI {o:Oper} {y:Operand} (ho:o.op=.buildSlice 25 1 #[(0,y)]) {ev:Operand→Value} {h:Hp} {K:Option Value→Hp→Prop} {l:List Atom} (hown:Own h l) (x:Int) (hy:ev y=.int .i64 x) (k:∀g h',h.le h'→Own h' (.row ⟨3,1,.slice (some ⟨g,0,none⟩) 1 1,1,encI x⟩::l)→K (some (.slice (some ⟨g,0,none⟩) 1 1)) h'):Ext Tryz.prog (execOp ev o) h K :=
 Ext.buildSlice slInt ho hown [.int .i64 0] (fun w=>⟨_,Tryz.zeroValue3 w,by kernel_rfl⟩) (encI x) (by simp [hy];rfl) rfl (by decide) k
theorem Ext.loadRun {o:Oper} {y:Operand} (ho:o.op=.load 34 y) {ev:Operand→Value} {h:Hp} {K:Option Value→Hp→Prop} {D:WD} (hr:RowOk h (rowR D.rv D.runs)) {g:Nat} (hv:D.rv=.slice (some ⟨g,0,none⟩) D.runs.length D.rk) {i:Nat} (hi:i<D.runs.length) (hy:ev y=.pointer (some ⟨g,0+i*13,none⟩)) (k:K (some (D.runs[i].1.val D.runs[i].2)) h):Ext Tryz.prog (execOp ev o) h K :=
 Ext.load tbE_ok rfl ho hr hv hy (by show 0+i*13+13≤D.runs.length*13;omega) (D.runs[i].1.val D.runs[i].2) (.inl ⟨rfl,by rw [Nat.zero_add];exact congrArg (fun l=>Value.agg (List.toArray l)) (flat_at encR 13 encR_len D.runs i hi).symm⟩) k
theorem Ext.loadRunCell {t:Nat} {ti:TI} (ht:tbl tbE t=some ti) (hag:ti.ag=false∧ti.sz=1) {o:Oper} {y:Operand} (ho:o.op=.load t y) {ev:Operand→Value} {h:Hp} {K:Option Value→Hp→Prop} {D:WD} (hr:RowOk h (rowR D.rv D.runs)) {g:Nat} (hv:D.rv=.slice (some ⟨g,0,none⟩) D.runs.length D.rk) {i:Nat} (hi:i<D.runs.length) (c:Nat) (hc:c<13)
  (hy:ev y=.pointer (some ⟨g,0+i*13+c,none⟩)) (v:Value) (hcell:(encR D.runs[i])[c]?=some v) (k:K (some v) h):Ext Tryz.prog (execOp ev o) h K :=
 Ext.load tbE_ok ht ho hr hv hy (by rw [hag.2];show 0+i*13+c+1≤D.runs.length*13;omega) v (.inr ⟨hag.1,w_cell hi c hc hcell,hag.2⟩) k
theorem Ext.storeRun {o:Oper} {y z:Operand} (ho:o.op=.store 34 y z) {ev:Operand→Value} {h:Hp} {K:Option Value→Hp→Prop} {D:WD} {l A:List Atom} {i:Nat} (hi:i<D.runs.length) {g:Nat} (hv:D.rv=.slice (some ⟨g,0,none⟩) D.runs.length D.rk) (x:RunD×RunP) (hA:A=runRows x)
  (hown:Own h (.row (rowR D.rv D.runs)::(A++wOth D i l))) (hy:ev y=.pointer (some ⟨g,0+i*13,none⟩)) (hz:ev z=x.1.val x.2) (k:∀h',Own h' (wAtoms (D.setRun i x)++l)→K none h'):Ext Tryz.prog (execOp ev o) h K :=
 Ext.store tbE_ok rfl ho hown hv hy hz (encR x) rfl rfl (by show 0+i*13+13≤D.runs.length*13;omega) (by simp [encR,Value.oneCell']) fun h' ho'=>k h' (w_put i hi x hA ho')
theorem giveOut_con (D:WD) (id:Int) (hid:¬(1≤id∧id≤D.runs.length)) (v:Int×Int) (h:Hp) (l:List Atom) (ho:Own h (wAtoms D++l)) :
  Con Tryz.prog 118 #[D.val,.int .i64 id,.agg #[.int .i64 v.1,.int .i64 v.2]] h fun r h'=>r=({ D with sent:=wr (D.sent+1),lost:=wr (D.lost+1) }:WD).val∧h'=h:=by
 refine Con.of_W (tb:=tbE) (args:=[D.val,.int .i64 id,.agg #[.int .i64 v.1,.int .i64 v.2]]) Tryz.func118 rfl Tryz.results118 Tryz.ntmps118 (by simp) (Tryz.call118 _) (tm:=[(0,.a D.cells),(1,.v (.int .i64 id)),(2,.a [.int .i64 v.1,.int .i64 v.2])]) rfl ?_;refine vc_ok ⟨tbE_ok,_,Tryz.func118,Tryz.results118,Tryz.ntmps118⟩ 400 _ _ _ _ ?_;conv=>whnf
 refine(l6In_con _ _ _ h).mono ?_;rintro r h1 ⟨rfl,rfl⟩;have hin:(decide (1≤id)&&decide (id≤(D.runs.length:Int)))=false:=by
  rw [Bool.and_eq_false_iff];simp only [decide_eq_false_iff_not];omega
 rw [hin];conv=>whnf
 refine⟨fun e=>(by cases e),fun _=>?_⟩;conv=>whnf
 exact⟨rfl,rfl⟩
theorem giveIn_con (D:WD) (hL:D.runs.length≤100) (hQ:D.queue.length≤1000) (i:Nat) (hi:i<D.runs.length) (id:Int) (hid:id=(i:Int)+1) (hpl:∃k:Nat,D.runs[i].1.pl=k∧k<D.code.length) (v:Int×Int) (h:Hp) (l:List Atom) (ho:Own h (wAtoms D++l)) :
  Con Tryz.prog 118 #[D.val,.int .i64 id,.agg #[.int .i64 v.1,.int .i64 v.2]] h fun r h'=>∃D',r=D'.val∧Own h' (wAtoms D'++l)∧D'.pure=giveAt D.pure i id D.runs[i].1 v:=by
 have ho1:=w_open ho i hi;have hr:RowOk h (rowR D.rv D.runs):=ho1.ok _ (List.mem_cons_self);obtain⟨g,hra⟩:=row_some hr (by omega);have hv:D.rv=.slice (some ⟨g,0,none⟩) D.runs.length D.rk:=by rw [WD.rv,hra]
 have hz:IntKind.i64.wrap (id-1)=(i:Int):=by rw [hid,show (i:Int)+1-1=i by omega];exact wrapN _ (by omega) (by omega)
 refine Con.of_W (tb:=tbE) (args:=[D.val,.int .i64 id,.agg #[.int .i64 v.1,.int .i64 v.2]]) Tryz.func118 rfl Tryz.results118 Tryz.ntmps118 (by simp) (Tryz.call118 _) (tm:=[(0,.a D.cells),(1,.v (.int .i64 id)),(2,.a [.int .i64 v.1,.int .i64 v.2])]) rfl ?_;refine vc_ok ⟨tbE_ok,_,Tryz.func118,Tryz.results118,Tryz.ntmps118⟩ 400 _ _ _ _ ?_;conv=>whnf
 refine(l6In_con _ _ _ h).mono ?_;rintro r h1 ⟨rfl,rfl⟩;have hin:(decide (1≤id)&&decide (id≤(D.runs.length:Int)))=true:=by
  simp only [Bool.and_eq_true,decide_eq_true_eq];omega
 rw [hin];conv=>whnf
 refine⟨fun _=>?_,fun e=>(by cases e)⟩;conv=>whnf
 refine Ext.index slRun.u slRun.size rfl (by exact hv) rfl i hz hi ?_;conv=>whnf
 refine Ext.load tbE_ok rfl rfl hr hv rfl (by show 0+i*13+5+1≤D.runs.length*13;omega) (.int .i64 D.runs[i].1.st) (.inr ⟨rfl,w_cell hi 5 (by decide) rfl,rfl⟩) ?_;conv=>whnf
 refine⟨fun h3=>?_,fun h3=>?_⟩<;>conv=>whnf
 ·refine Ext.index slRun.u slRun.size rfl (by exact hv) rfl i hz hi ?_;conv=>whnf
  refine Ext.load tbE_ok rfl rfl hr hv rfl (by show 0+i*13+4+1≤D.runs.length*13;omega) (.slice D.runs[i].2.a1 D.runs[i].1.mail.length D.runs[i].2.k1) (.inr ⟨rfl,w_cell hi 4 (by decide) rfl,rfl⟩) ?_;conv=>whnf
  refine⟨fun h4=>?_,fun h4=>?_⟩<;>conv=>whnf
  ·
   refine⟨{ D with sent:=wr (D.sent+1),lost:=wr (D.lost+1) },rfl,ho,?_⟩;unfold giveAt;rw [if_pos (by rw [h3,Bool.false_or];exact h4)];rfl
  ·refine Ext.index slRun.u slRun.size rfl (by exact hv) rfl i hz hi ?_;conv=>whnf
   refine Ext.loadRun rfl hr hv hi rfl ?_;conv=>whnf
   have hm:D.runs[i].1.mail.length<12:=by simp at h4;omega
   refine Ext.litV rfl (Own.front2 ho1) v rfl fun g2 h2 _ ho3=>?_
   conv=>whnf
   refine Ext.pushV rfl ho3 rfl rfl (by omega) fun a1 k1 h3' ho5=>?_
   conv=>whnf
   have ho7:=ho5.back2;clear ho5 ho3 ho1 ho;have hrc:RowOk h3' (rowO D.cv D.code):=ho7.ok (.row (rowO D.cv D.code)) (by simp [wOth]);obtain⟨k,hk1,hk2⟩:=hpl;obtain⟨gc,hca⟩:=row_some hrc (by omega);have hcv:D.cv=.slice (some ⟨gc,0,none⟩) D.code.length D.ck:=by rw [WD.cv,hca]
   have hstep:stepAt D.code D.runs[i].1=D.code[k]:=by
    unfold stepAt;rw [hk1,Int.toNat_natCast,List.getD_eq_getElem?_getD,List.getElem?_eq_getElem hk2];rfl
   have hst3:(D.runs[i].1.st==3||decide ((D.runs[i].1.mail.length:Int)≥12))=false:=by rw [h3,h4];rfl
   refine W.cut [(1,.v (.int .i64 id)),(3,.p 0 0),(5,.p 1 0),(6,.p 2 0),(7,.p 3 0)] _ [] ⟨rfl,rfl,rfl,rfl,rfl,trivial⟩ (List.append_nil _).symm rfl ⟨_,rfl⟩ ?_;refine W.draw [(0,true),(1,true),(2,true),(3,true),(4,true),(5,true),(6,true),(7,true),(8,true),(9,true),(10,true),(11,false),(12,false),(13,true)] [0,1,2,3] none 99 (by kernel_rfl) rfl (by kernel_rfl) mixed rfl (fun g e=>by cases e) ?_;refine vc_ok ⟨tbE_ok,_,Tryz.func118,Tryz.results118,Tryz.ntmps118⟩ 400 _ _ _ _ ?_;conv=>whnf
   refine⟨fun h5=>?_,fun h5=>?_⟩<;>conv=>whnf
   ·refine Rd.index slOp.u slOp.size rfl (by exact hcv) rfl k hk1 hk2 ?_;conv=>whnf
    refine Ext.load tbE_ok rfl rfl hrc hcv rfl (by show 0+k*6+2+1≤D.code.length*6;omega) (.int .i64 D.code[k].s) (.inr ⟨rfl,by rw [Nat.zero_add];exact flat_get encO 6 encO_len D.code k hk2 2 (by decide),rfl⟩) ?_;conv=>whnf
    refine(l1Fits_con v.1 v.2 _ h3').mono ?_;rintro r h8 ⟨rfl,rfl⟩;conv=>whnf
    refine⟨fun h6=>?_,fun h6=>?_⟩<;>conv=>whnf
    ·
     refine Ext.litI rfl (w_row (A:=[_,_,_,_,_]) ho7) id rfl fun g8 h9 _ ho8=>?_
     conv=>whnf
     refine Ext.pushI rfl ho8 rfl rfl (by omega) fun qa qk h10 ho10=>?_
     conv=>whnf
     refine Ext.index slRun.u slRun.size rfl (by exact hv) rfl i hz hi ?_;conv=>whnf
     refine Ext.storeRun (D:={ D with sent:=wr (D.sent+1),queue:=D.queue++[id],qa:=qa,qk:=qk }) rfl hi hv ({ D.runs[i].1 with mail:=D.runs[i].1.mail++[v],st:=1 },{ D.runs[i].2 with a1:=a1,k1:=k1 }) rfl (w_lists (A:=[_,_,_,_,_]) ho10) rfl rfl fun h11 ho12=>?_
     conv=>whnf
     refine⟨_,(w_val { D with sent:=wr (D.sent+1),queue:=D.queue++[id],qa:=qa,qk:=qk } i _).symm,ho12,?_⟩;unfold giveAt;rw [if_neg (by rw [hst3];exact Bool.false_ne_true),if_pos (by rw [h5,Bool.true_and];show fitsP v (stepAt D.code D.runs[i].1).s=true;rw [hstep];exact h6)];simp [WD.pure,List.map_set]
    ·refine Ext.index slRun.u slRun.size rfl (by exact hv) rfl i hz hi ?_;conv=>whnf
     refine Ext.storeRun (D:={ D with sent:=wr (D.sent+1) }) rfl hi hv ({ D.runs[i].1 with mail:=D.runs[i].1.mail++[v] },{ D.runs[i].2 with a1:=a1,k1:=k1 }) rfl ho7 rfl rfl fun h11 ho12=>?_
     conv=>whnf
     refine⟨_,(w_val { D with sent:=wr (D.sent+1) } i _).symm,ho12,?_⟩;unfold giveAt;rw [if_neg (by rw [hst3];exact Bool.false_ne_true),if_neg (by rw [h5,Bool.true_and];show ¬fitsP v (stepAt D.code D.runs[i].1).s=true;rw [hstep];show ¬(D.code[k].s==0||v.1==D.code[k].s)=true;rw [h6];exact Bool.false_ne_true)];simp [WD.pure,List.map_set]
   ·refine Ext.index slRun.u slRun.size rfl (by exact hv) rfl i hz hi ?_;conv=>whnf
    refine Ext.storeRun (D:={ D with sent:=wr (D.sent+1) }) rfl hi hv ({ D.runs[i].1 with mail:=D.runs[i].1.mail++[v] },{ D.runs[i].2 with a1:=a1,k1:=k1 }) rfl ho7 rfl rfl fun h11 ho12=>?_
    conv=>whnf
    refine⟨_,(w_val { D with sent:=wr (D.sent+1) } i _).symm,ho12,?_⟩;unfold giveAt;rw [if_neg (by rw [hst3];exact Bool.false_ne_true),if_neg (by rw [show (D.runs[i].1.st==2)=false from h5];exact Bool.false_ne_true)];simp [WD.pure,List.map_set]
 ·refine⟨{ D with sent:=wr (D.sent+1),lost:=wr (D.lost+1) },rfl,ho,?_⟩;unfold giveAt;rw [if_pos (by rw [h3];rfl)];rfl
def lessP (L:List Int) (n:Int):List Int:=L.filter (fun x=>x != n)
theorem Ext.loadInt {o:Oper} {y:Operand} (ho:o.op=.load 3 y) {ev:Operand→Value} {h:Hp} {K:Option Value→Hp→Prop} {v:Value} {L:List Int} (hr:RowOk h (rowI v L)) {g cap:Nat} (hv:v=.slice (some ⟨g,0,none⟩) L.length cap) {i:Nat} (hi:i<L.length) (hy:ev y=.pointer (some ⟨g,0+i*1,none⟩)) (k:K (some (.int .i64 L[i])) h):Ext Tryz.prog (execOp ev o) h K :=
 Ext.load tbE_ok rfl ho hr hv hy (by show 0+i*1+1≤L.length*1;omega) (.int .i64 L[i]) (.inr ⟨rfl,by rw [Nat.zero_add];have:=flat_get encI 1 encI_len L i hi 0 (by decide);rw [Nat.add_zero] at this;rw [this];rfl,rfl⟩) k
theorem l13Less_con (va:Option Addr) (vc:Nat) (L:List Int) (n:Int) (hL:L.length<100000) (h:Hp) (l:List Atom) (ho:Own h (.row (rowI (.slice va L.length vc) L)::l)) :
  Con Tryz.prog 101 #[.slice va L.length vc,.int .i64 n] h fun r h'=>∃a c,r=.slice a (lessP L n).length c∧Own h' (.row (rowI (.slice a (lessP L n).length c) (lessP L n))::.row (rowI (.slice va L.length vc) L)::l):=by
 refine Con.of_W (tb:=tbE) (args:=[.slice va L.length vc,.int .i64 n]) Tryz.func101 rfl Tryz.results101 Tryz.ntmps101 (by simp) (Tryz.call101 _) (tm:=[(0,.v (.slice va L.length vc)),(1,.v (.int .i64 n))]) rfl ?_;refine vc_ok ⟨tbE_ok,_,Tryz.func101,Tryz.results101,Tryz.ntmps101⟩ 400 _ _ _ _ ?_;conv=>whnf
 refine Ext.buildSlice slInt rfl ho [] (fun w=>⟨_,Tryz.zeroValue3 w,by kernel_rfl⟩) [] rfl rfl (by decide) fun g h1 _ ho1=>?_
 conv=>whnf
 refine W.cut [(0,.v (.slice va L.length vc)),(1,.v (.int .i64 n)),(5,.v (.slice (some ⟨g,0,none⟩) 0 0)),(6,.v (.int .i64 (0:Nat)))] [] [] ⟨rfl,rfl,rfl,rfl,trivial⟩ rfl rfl ⟨_,rfl⟩ ?_;refine W.loop (α:=Nat×List Int×Option Addr×Nat) (fun x=>[(0,.v (.slice va L.length vc)),(1,.v (.int .i64 n)),(5,.v (.slice x.2.2.1 x.2.1.length x.2.2.2)),(6,.v (.int .i64 (x.1:Int)))]) (fun _=>[])
  (fun x h'=>x.1≤L.length∧x.2.1=lessP (L.take x.1) n∧Own h' (.row (rowI (.slice x.2.2.1 x.2.1.length x.2.2.2) x.2.1)::.row (rowI (.slice va L.length vc) L)::l)) (fun x=>L.length-x.1) ?_ (0,[],some ⟨g,0,none⟩,0) h1 ⟨Nat.zero_le _,rfl,ho1⟩
 rintro⟨i,out,a,cp⟩ h2 ⟨hi,hout,ho2⟩ ih;dsimp only at hi hout ho2 ⊢;refine vc_ok ⟨tbE_ok,_,Tryz.func101,Tryz.results101,Tryz.ntmps101⟩ 400 _ _ _ _ ?_;conv=>whnf
 refine⟨fun h3=>?_,fun h3=>?_⟩<;>conv=>whnf
 ·have hlt:i<L.length:=by simp at h3;omega
  have hr:RowOk h2 (rowI (.slice va L.length vc) L):=ho2.ok (.row (rowI (.slice va L.length vc) L)) (by simp);obtain⟨gl,hva⟩:=row_some hr (by omega);subst hva;refine Ext.index slInt.u slInt.size rfl rfl rfl i rfl hlt ?_;conv=>whnf
  refine Ext.loadInt rfl hr rfl hlt rfl ?_;conv=>whnf
  have ht:L.take (i+1)=L.take i++[L[i]]:=by rw [List.take_succ_eq_append_getElem hlt]
  have hw:IntKind.i64.wrap ((i:Int)+1)=((i+1:Nat):Int):=by rw [wrapN _ (by omega) (by omega)];omega
  refine⟨fun h4=>?_,fun h4=>?_⟩<;>conv=>whnf
  ·refine Ext.index slInt.u slInt.size rfl rfl rfl i rfl hlt ?_;conv=>whnf
   refine Ext.loadInt rfl hr rfl hlt rfl ?_;conv=>whnf
   refine Ext.litI rfl ho2 L[i] rfl fun g3 h3' _ ho3=>?_
   conv=>whnf
   have hol:out.length≤L.length:=by rw [hout];exact Nat.le_trans (List.length_filter_le _ _) (by simp;omega)
   refine Ext.pushI rfl ho3 rfl rfl (by omega) fun a' c' h4' ho4=>?_
   conv=>whnf
   rw [hw];refine W.back (ih (i+1,out++[L[i]],a',c') h4' ⟨hlt,?_,ho4⟩ (by dsimp only;omega)) [] (by exact⟨rfl,rfl,rfl,rfl,trivial⟩) rfl rfl;rw [ht,lessP,List.filter_append,←lessP,←hout];simp [show (L[i] != n)=true from h4]
  ·rw [hw];refine W.back (ih (i+1,out,a,cp) h2 ⟨hlt,?_,ho2⟩ (by dsimp only;omega)) [] (by exact⟨rfl,rfl,rfl,rfl,trivial⟩) rfl rfl;rw [ht,lessP,List.filter_append,←lessP,←hout];simp [show (L[i] != n)=false from h4]
 ·have hge:i=L.length:=by simp at h3;omega
  refine⟨a,cp,?_,?_⟩
  ·show Value.slice a out.length cp=_;rw [hout,hge,List.take_length]
  ·rw [hout,hge,List.take_length] at ho2;exact ho2
theorem eqV_run (a b c d:Int) (x y:Operand) (w:World):(do eqGuard .eql 32 x y (.agg #[.int .i64 a,.int .i64 b]) (.agg #[.int .i64 c,.int .i64 d]);binOp .eql 32 (.agg #[.int .i64 a,.int .i64 b]) (.agg #[.int .i64 c,.int .i64 d]):Sem Value).run Tryz.prog w=.ok (.bool (a==c&&b==d)) w:=by
 rw [Sem.run_bind,run_eqGuard_agg w .eql 32 x y _ _ Tryz.eqGuardType32,Result.andThen_ok,run_eql_struct]
 cases h1:(a==c)<;>cases h2:(b==d)<;>simp [go_sem,h1,h2,Tryz.underlying32,Tryz.stoodInHeld32,Tryz.underlying3]
theorem Ext.eqV {o:Oper} {x y:Operand} {t2:TypeId} (ho:o.op=.binOp .eql 32 x y t2) {ev:Operand→Value} {h:Hp} {K:Option Value→Hp→Prop} {a b c d:Int} (hx:ev x=.agg #[.int .i64 a,.int .i64 b]) (hy:ev y=.agg #[.int .i64 c,.int .i64 d]) (k:K (some (.bool (a==c&&b==d))) h):Ext Tryz.prog (execOp ev o) h K:=by
 refine Ext.val (.bool (a==c&&b==d)) (fun w=>?_) k;unfold execOp;rw [ho];refine run_value _ w _ _ ?_;rw [hx,hy];exact eqV_run a b c d x y w
def normalP (v:Int×Int):Bool:=v.1==2&&v.2==0
theorem l13Normal_con (v:Int×Int) (h:Hp):Con Tryz.prog 66 #[.agg #[.int .i64 v.1,.int .i64 v.2]] h fun r h'=>r=.bool (normalP v)∧h'=h:=by
 refine Con.of_W (tb:=tbE) (args:=[.agg #[.int .i64 v.1,.int .i64 v.2]]) Tryz.func66 rfl Tryz.results66 Tryz.ntmps66 (by simp) (Tryz.call66 _) (tm:=[(0,.a [.int .i64 v.1,.int .i64 v.2])]) rfl ?_;refine vc_ok ⟨tbE_ok,_,Tryz.func66,Tryz.results66,Tryz.ntmps66⟩ 400 _ _ _ _ ?_;conv=>whnf
 refine Ext.eqV rfl rfl rfl ?_;conv=>whnf
 exact⟨rfl,rfl⟩
def amongP (L:List Int) (n:Int):Bool:=L.any (fun x=>x==n)
theorem l11Among_con (va:Option Addr) (vc:Nat) (L:List Int) (n:Int) (hL:L.length<100000) (h:Hp) (hr:RowOk h (rowI (.slice va L.length vc) L)) :
  Con Tryz.prog 65 #[.slice va L.length vc,.int .i64 n] h fun r h'=>r=.bool (amongP L n)∧h'=h:=by
 refine Con.of_W (tb:=tbE) (args:=[.slice va L.length vc,.int .i64 n]) Tryz.func65 rfl Tryz.results65 Tryz.ntmps65 (by simp) (Tryz.call65 _) (tm:=[(0,.v (.slice va L.length vc)),(1,.v (.int .i64 n))]) rfl ?_;refine vc_ok ⟨tbE_ok,_,Tryz.func65,Tryz.results65,Tryz.ntmps65⟩ 400 _ _ _ _ ?_;conv=>whnf
 refine W.cut [(0,.v (.slice va L.length vc)),(1,.v (.int .i64 n)),(5,.v (.int .i64 (0:Nat)))] [] [] ⟨rfl,rfl,rfl,trivial⟩ rfl rfl ⟨_,rfl⟩ ?_;refine W.loop (α:=Nat) (fun i=>[(0,.v (.slice va L.length vc)),(1,.v (.int .i64 n)),(5,.v (.int .i64 (i:Int)))]) (fun _=>[]) (fun i h'=>i≤L.length∧amongP (L.take i) n=false∧h'=h) (fun i=>L.length-i) ?_ 0 h ⟨Nat.zero_le _,rfl,rfl⟩;rintro i h2 ⟨hi,hn,rfl⟩ ih;refine vc_ok ⟨tbE_ok,_,Tryz.func65,Tryz.results65,Tryz.ntmps65⟩ 400 _ _ _ _ ?_;conv=>whnf
 refine⟨fun h3=>?_,fun h3=>?_⟩<;>conv=>whnf
 ·have hlt:i<L.length:=by simp at h3;omega
  obtain⟨gl,hva⟩:=row_some hr (by omega);subst hva;refine Ext.index slInt.u slInt.size rfl rfl rfl i rfl hlt ?_;conv=>whnf
  refine Ext.loadInt rfl hr rfl hlt rfl ?_;conv=>whnf
  refine⟨fun h4=>?_,fun h4=>?_⟩<;>conv=>whnf
  ·refine⟨?_,rfl⟩;have:amongP L n=true:=List.any_eq_true.2 ⟨L[i],List.getElem_mem _,h4⟩;rw [this];rfl
  ·have ht:L.take (i+1)=L.take i++[L[i]]:=by rw [List.take_succ_eq_append_getElem hlt]
   have hw:IntKind.i64.wrap ((i:Int)+1)=((i+1:Nat):Int):=by rw [wrapN _ (by omega) (by omega)];omega
   rw [hw];refine W.back (ih (i+1) h2 ⟨hlt,?_,rfl⟩ (by omega)) [] (by exact⟨rfl,rfl,rfl,trivial⟩) rfl rfl;rw [ht,amongP,List.any_append,←amongP,hn];simpa using h4
 ·have hge:i=L.length:=by simp at h3;omega
  refine⟨?_,rfl⟩;rw [hge,List.take_length] at hn;rw [hn];rfl
def firstP (L:List (Int×Int)) (k:Int):Int:=match L.findIdx? (fun v=>fitsP v k) with
 |some i=>i
 |none => -1
theorem Ext.loadVal {o:Oper} {y:Operand} (ho:o.op=.load 32 y) {ev:Operand→Value} {h:Hp} {K:Option Value→Hp→Prop} {v:Value} {L:List (Int×Int)} (hr:RowOk h (rowV v L)) {g cap:Nat} (hv:v=.slice (some ⟨g,0,none⟩) L.length cap) {i:Nat} (hi:i<L.length) (hy:ev y=.pointer (some ⟨g,0+i*2,none⟩)) (k:K (some (.agg #[.int .i64 L[i].1,.int .i64 L[i].2])) h):Ext Tryz.prog (execOp ev o) h K :=
 Ext.load tbE_ok rfl ho hr hv hy (by show 0+i*2+2≤L.length*2;omega) (.agg #[.int .i64 L[i].1,.int .i64 L[i].2]) (.inl ⟨rfl,by rw [Nat.zero_add];exact congrArg (fun l=>Value.agg (List.toArray l)) (flat_at encV 2 encV_len L i hi).symm⟩) k
theorem l11First_con (d:RunD) (p:RunP) (k:Int) (hL:d.mail.length<100000) (h:Hp) (hr:RowOk h (rowV (.slice p.a1 d.mail.length p.k1) d.mail)) :
  Con Tryz.prog 109 #[d.val p,.int .i64 k] h fun r h'=>r=.int .i64 (firstP d.mail k)∧h'=h:=by
 refine Con.of_W (tb:=tbE) (args:=[d.val p,.int .i64 k]) Tryz.func109 rfl Tryz.results109 Tryz.ntmps109 (by simp) (Tryz.call109 _) (tm:=[(0,.a (d.cells p)),(1,.v (.int .i64 k))]) rfl ?_;refine vc_ok ⟨tbE_ok,_,Tryz.func109,Tryz.results109,Tryz.ntmps109⟩ 400 _ _ _ _ ?_;conv=>whnf
 refine W.cut [(1,.v (.int .i64 k)),(2,.p 0 0),(5,.v (.int .i64 (0:Nat)))] [⟨34,d.cells p⟩] [] ⟨rfl,rfl,rfl,trivial⟩ rfl rfl ⟨_,rfl⟩ ?_;refine W.loop (α:=Nat) (fun i=>[(1,.v (.int .i64 k)),(2,.p 0 0),(5,.v (.int .i64 (i:Int)))]) (fun _=>[⟨34,d.cells p⟩]) (fun i h'=>i≤d.mail.length∧(∀j (hj:j<d.mail.length),j<i→fitsP d.mail[j] k=false)∧h'=h) (fun i=>d.mail.length-i) ?_ 0 h ⟨Nat.zero_le _,fun j _ hj=>absurd hj (by omega),rfl⟩;rintro i h2 ⟨hi,hn,rfl⟩ ih;refine vc_ok ⟨tbE_ok,_,Tryz.func109,Tryz.results109,Tryz.ntmps109⟩ 400 _ _ _ _ ?_;conv=>whnf
 refine⟨fun h3=>?_,fun h3=>?_⟩<;>conv=>whnf
 ·have hlt:i<d.mail.length:=by simp at h3;omega
  obtain⟨gl,hva⟩:=row_some hr (by omega);refine Ext.index slVal.u slVal.size rfl (by show Value.slice p.a1 _ _=_;rw [hva]) rfl i rfl hlt ?_;conv=>whnf
  refine Ext.loadVal rfl hr (by rw [hva]) hlt rfl ?_;conv=>whnf
  refine(l1Fits_con _ _ k h2).mono ?_;rintro r hh ⟨rfl,rfl⟩;conv=>whnf
  refine⟨fun h4=>?_,fun h4=>?_⟩<;>conv=>whnf
  ·refine⟨?_,rfl⟩;have:d.mail.findIdx? (fun v=>fitsP v k)=some i:=by
    rw [List.findIdx?_eq_some_iff_getElem];exact⟨hlt,h4,fun j hj=>by rw [hn j (by omega) hj];exact Bool.false_ne_true⟩
   unfold firstP;rw [this];rfl
  ·have hw:IntKind.i64.wrap ((i:Int)+1)=((i+1:Nat):Int):=by rw [wrapN _ (by omega) (by omega)];omega
   rw [hw];refine W.back (ih (i+1) hh ⟨hlt,fun j hj hji=>?_,rfl⟩ (by omega)) [] (by exact⟨rfl,rfl,rfl,trivial⟩) rfl rfl;rcases (by omega:j<i∨j=i) with h5|rfl
   ·exact hn j hj h5
   ·exact h4
 ·have hge:i=d.mail.length:=by simp at h3;omega
  refine⟨?_,rfl⟩;have:d.mail.findIdx? (fun v=>fitsP v k)=none:=by
   rw [List.findIdx?_eq_none_iff];intro x hx;obtain⟨j,hj,rfl⟩:=List.getElem_of_mem hx;exact hn j hj (by omega)
  unfold firstP;rw [this];rfl
def okV (v:Int×Int):Bool :=
 if v.1=0 then v.2==0 else if v.1=1 then decide (-99≤v.2)&&decide (v.2≤99) else if v.1=2 then decide (0≤v.2)&&decide (v.2≤9) else if v.1=3 then decide (1≤v.2)&&decide (v.2≤6) else false
theorem valOk_con (v:Int×Int) (h:Hp):Con Tryz.prog 22 #[.agg #[.int .i64 v.1,.int .i64 v.2]] h fun r h'=>r=.bool (okV v)∧h'=h:=by
 refine Con.of_W (tb:=tbE) (args:=[.agg #[.int .i64 v.1,.int .i64 v.2]]) Tryz.func22 rfl Tryz.results22 Tryz.ntmps22 (by simp) (Tryz.call22 _) (tm:=[(0,.a [.int .i64 v.1,.int .i64 v.2])]) rfl ?_;refine vc_ok ⟨tbE_ok,_,Tryz.func22,Tryz.results22,Tryz.ntmps22⟩ 400 _ _ _ _ ?_;conv=>whnf
 have step:∀{b:Bool} {a c:Int},(a==c)=b→(b=true∧a=c)∨(b=false∧a≠c):=fun {b a c} e=>by
  subst e;by_cases h:a=c
  ·exact .inl ⟨by simp [h],h⟩
  ·exact .inr ⟨by simp [h],h⟩
 refine⟨fun h0=>?_,fun h0=>?_⟩<;>conv=>whnf
 ·have e0:v.1=0:=by simpa using h0
  exact⟨by unfold okV;rw [if_pos e0];rfl,rfl⟩
 have e0:v.1≠0:=by simpa using h0
 refine⟨fun h1=>?_,fun h1=>?_⟩<;>conv=>whnf
 ·have e1:v.1=1:=by simpa using h1
  refine(l6In_con _ _ _ h).mono ?_;rintro r hh ⟨rfl,rfl⟩;conv=>whnf
  exact⟨by unfold okV;rw [if_neg e0,if_pos e1];rfl,rfl⟩
 have e1:v.1≠1:=by simpa using h1
 refine⟨fun h2=>?_,fun h2=>?_⟩<;>conv=>whnf
 ·have e2:v.1=2:=by simpa using h2
  refine(l6In_con _ _ _ h).mono ?_;rintro r hh ⟨rfl,rfl⟩;conv=>whnf
  exact⟨by unfold okV;rw [if_neg e0,if_neg e1,if_pos e2];rfl,rfl⟩
 have e2:v.1≠2:=by simpa using h2
 refine⟨fun h3=>?_,fun h3=>?_⟩<;>conv=>whnf
 ·have e3:v.1=3:=by simpa using h3
  refine(l6In_con _ _ _ h).mono ?_;rintro r hh ⟨rfl,rfl⟩;conv=>whnf
  exact⟨by unfold okV;rw [if_neg e0,if_neg e1,if_neg e2,if_pos e3];rfl,rfl⟩
 have e3:v.1≠3:=by simpa using h3
 exact⟨by unfold okV;rw [if_neg e0,if_neg e1,if_neg e2,if_neg e3];rfl,rfl⟩
def addP (a b:Int×Int):Option (Int×Int):=if a.1≠1∨b.1≠1 then none else if okV (1,IntKind.i64.wrap (a.2+b.2))=true then some (1,IntKind.i64.wrap (a.2+b.2)) else none
theorem l1Add_con (a b:Int×Int) (h:Hp):Con Tryz.prog 150 #[.agg #[.int .i64 a.1,.int .i64 a.2],.agg #[.int .i64 b.1,.int .i64 b.2]] h fun r h'=>h'=h∧((addP a b=none∧r=.tuple #[.agg #[.int .i64 0,.int .i64 0],.bool false])∨∃s,addP a b=some s∧r=.tuple #[.agg #[.int .i64 s.1,.int .i64 s.2],.bool true]):=by
 refine Con.of_W (tb:=tbE) (args:=[.agg #[.int .i64 a.1,.int .i64 a.2],.agg #[.int .i64 b.1,.int .i64 b.2]]) Tryz.func150 rfl Tryz.results150 Tryz.ntmps150 (by simp) (Tryz.call150 _) (tm:=[(0,.a [.int .i64 a.1,.int .i64 a.2]),(1,.a [.int .i64 b.1,.int .i64 b.2])]) rfl ?_;refine vc_ok ⟨tbE_ok,_,Tryz.func150,Tryz.results150,Tryz.ntmps150⟩ 400 _ _ _ _ ?_;conv=>whnf
 refine⟨fun h0=>?_,fun h0=>?_⟩<;>conv=>whnf
 ·have e0:¬(a.1≠1):=by simpa using h0
  refine⟨fun h1=>?_,fun h1=>?_⟩<;>conv=>whnf
  ·have e1:¬(b.1≠1):=by simpa using h1
   refine(valOk_con (1,IntKind.i64.wrap (a.2+b.2)) h).mono ?_;rintro r hh ⟨rfl,rfl⟩;conv=>whnf
   have hs:addP a b=if okV (1,IntKind.i64.wrap (a.2+b.2))=true then some (1,IntKind.i64.wrap (a.2+b.2)) else none:=by
    unfold addP;rw [if_neg (by simp only [not_or];exact⟨e0,e1⟩)]
   refine⟨fun h2=>?_,fun h2=>?_⟩<;>conv=>whnf
   ·refine⟨rfl,.inl ⟨?_,rfl⟩⟩;rw [hs,if_neg (by simpa using h2)]
   ·refine⟨rfl,.inr ⟨(1,IntKind.i64.wrap (a.2+b.2)),?_,rfl⟩⟩;rw [hs,if_pos (by simpa using h2)]
  ·have e1:b.1≠1:=by simpa using h1
   refine⟨rfl,.inl ⟨?_,rfl⟩⟩;unfold addP;rw [if_pos (.inr e1)]
 ·have e0:a.1≠1:=by simpa using h0
  refine⟨rfl,.inl ⟨?_,rfl⟩⟩;unfold addP;rw [if_pos (.inl e0)]
theorem Own.rev4 {h:Hp} {a b c d:Atom} {l:List Atom} (o:Own h (a::b::c::d::l)):Own h (d::c::b::a::l):=o.perm ((List.reverse_perm [a,b,c,d]).symm.append_right l)
def newD (id pl:Int) (v:Int×Int):RunD:=⟨id,pl,[v,(0,0),(0,0),(0,0)],1,[],1,0,[],[],false,0,0,0⟩
theorem l11New_con (id pl:Int) (v:Int×Int) (h:Hp) (l:List Atom) (ho:Own h l):Con Tryz.prog 145 #[.int .i64 id,.int .i64 pl,.agg #[.int .i64 v.1,.int .i64 v.2]] h fun r h'=>∃p,r=(newD id pl v).val p∧Own h' (runRows (newD id pl v,p)++l)∧h.le h':=by
 refine Con.of_W (tb:=tbE) (args:=[.int .i64 id,.int .i64 pl,.agg #[.int .i64 v.1,.int .i64 v.2]]) Tryz.func145 rfl Tryz.results145 Tryz.ntmps145 (by simp) (Tryz.call145 _) (tm:=[(0,.v (.int .i64 id)),(1,.v (.int .i64 pl)),(2,.a [.int .i64 v.1,.int .i64 v.2])]) rfl ?_;refine vc_ok ⟨tbE_ok,_,Tryz.func145,Tryz.results145,Tryz.ntmps145⟩ 400 _ _ _ _ ?_;conv=>whnf
 refine Ext.buildSlice slVal rfl ho [.int .i64 0,.int .i64 0,.int .i64 0,.int .i64 0,.int .i64 0,.int .i64 0,.int .i64 0,.int .i64 0] (fun w=>⟨_,Tryz.zeroValue32 w,by kernel_rfl⟩) [.int .i64 v.1,.int .i64 v.2,.int .i64 0,.int .i64 0,.int .i64 0,.int .i64 0,.int .i64 0,.int .i64 0] rfl rfl (by decide) fun g0 h0 l0 o0=>?_
 conv=>whnf
 refine Ext.buildSlice slVal rfl o0 [] (fun w=>⟨_,Tryz.zeroValue32 w,by kernel_rfl⟩) [] rfl rfl (by decide) fun g1 h1 l1 o1=>?_
 conv=>whnf
 refine Ext.buildSlice slInt rfl o1 [] (fun w=>⟨_,Tryz.zeroValue3 w,by kernel_rfl⟩) [] rfl rfl (by decide) fun g2 h2 l2 o2=>?_
 conv=>whnf
 refine Ext.buildSlice slInt rfl o2 [] (fun w=>⟨_,Tryz.zeroValue3 w,by kernel_rfl⟩) [] rfl rfl (by decide) fun g3 h3 l3 o3=>?_
 conv=>whnf
 refine⟨⟨some ⟨g0,0,none⟩,4,some ⟨g1,0,none⟩,0,some ⟨g2,0,none⟩,0,some ⟨g3,0,none⟩,0⟩,rfl,?_,Hp.le_trans l0 (Hp.le_trans l1 (Hp.le_trans l2 l3))⟩;exact Own.rev4 o3
theorem flat_drop' {α:Type} (enc:α→List Value) (sz:Nat) (hsz:∀a,(enc a).length=sz):∀(L:List α) (k:Nat),k≤L.length→(L.drop k).flatMap enc=(L.flatMap enc).drop (k*sz)
 |[],k,_=>by simp
 |a::L,0,_=>by simp
 |a::L,k+1,hk=>by
  have:=flat_drop' enc sz hsz L k (by simpa using hk);simp only [List.drop_succ_cons,List.flatMap_cons];have h1:(enc a).drop ((k+1)*sz)=[]:=List.drop_of_length_le (by rw [hsz,Nat.add_mul];omega);rw [this,List.drop_append,hsz,h1,List.nil_append,show (k+1)*sz-sz=k*sz by rw [Nat.add_mul];omega]
theorem Src.sub {h:Hp} {L:List (Int×Int)} {g cap:Nat} (hr:RowOk h (rowV (.slice (some ⟨g,0,none⟩) L.length cap) L)) (j m c:Nat) (hj:j+m≤L.length) (o:Nat) (ho:m=0∨o=j*2):Src h 2 (.slice (some ⟨g,o,none⟩) m c) m (((L.drop j).take m).flatMap encV):=by
 refine⟨by rw [flat_len encV 2 encV_len,List.length_take,List.length_drop,Nat.min_eq_left (by omega)],fun u hu=>?_,.inr ?_⟩
 ·obtain⟨x,_,hx⟩:=List.mem_flatMap.1 hu;exact one_val x u hx
 ·rcases hr.2 with⟨e,_⟩|⟨g',cap',cur,hv,hg,hnc,_,_,ht⟩
  ·cases e
  ·dsimp only [rowV] at hv ht hg
   cases hv
   refine⟨g,o,c,cur,_,_,rfl,hg,?_⟩;rcases ho with rfl|rfl
   ·simp
   ·rw [row_at (n:=L.length) (sz:=2) ht (by omega),flat_take encV 2 encV_len _ m (by simp;omega),flat_drop' encV 2 encV_len L j (by omega)]
theorem Rd.sliceHi {P:Program} {t e:TypeId} {sz bytes:Nat} (st:SlTy P t e sz bytes) {o:Oper} {x y:Operand} (ho:o.op=.slice t x none (some y) none) {ev:Operand→Value} {h:Hp} {K:Value→Prop} {g n cap:Nat} (hx:ev x=.slice (some ⟨g,0,none⟩) n cap) (k:Nat) (hk:k≤cap) (hy:ev y=.int .i64 (k:Int)) (hK:K (.slice (some ⟨g,0,none⟩) k cap)):Rd P (execOp ev o) h K:=by
 have hop:execOp ev o=(do pure (Next.value (←Instr.sliceAt t (ev x) none (some (ev y)) none)):Sem Next):=by unfold execOp;rw [ho];rfl
 rw [hop,hx,hy];refine⟨_,fun w _=>run_value _ w _ _ ?_,hK⟩;simp [Instr.sliceAt,Instr.slice,Instr.sliceBounds,Instr.sliceBound,asIntOf,run_underlying st.u,st.size,hk,Addr.add]
theorem Rd.sliceLo {P:Program} {t e:TypeId} {sz bytes:Nat} (st:SlTy P t e sz bytes) {o:Oper} {x y:Operand} (ho:o.op=.slice t x (some y) none none) {ev:Operand→Value} {h:Hp} {K:Value→Prop} {g n cap:Nat} (hx:ev x=.slice (some ⟨g,0,none⟩) n cap) (k:Nat) (hk:k≤n) (hy:ev y=.int .i64 (k:Int)) (hn:n≤cap)
  (hK:∀o,(n-k=0∨o=k*sz)→K (.slice (some ⟨g,o,none⟩) (n-k) (cap-k))):Rd P (execOp ev o) h K:=by
 have hop:execOp ev o=(do pure (Next.value (←Instr.sliceAt t (ev x) (some (ev y)) none none)):Sem Next):=by unfold execOp;rw [ho];rfl
 rw [hop,hx,hy];by_cases hc:cap=k
 ·refine⟨_,fun w _=>run_value _ w _ _ ?_,hK 0 (.inl (by omega))⟩;simp [Instr.sliceAt,Instr.slice,Instr.sliceBounds,Instr.sliceBound,asIntOf,run_underlying st.u,st.size,hk,hc]
 ·refine⟨_,fun w _=>run_value _ w _ _ ?_,hK (k*sz) (.inr rfl)⟩;simp [Instr.sliceAt,Instr.slice,Instr.sliceBounds,Instr.sliceBound,asIntOf,run_underlying st.u,st.size,hk,hc,Addr.add_mid]
def cutP (L:List (Int×Int)) (k:Nat):List (Int×Int):=L.take k++L.drop (k+1)
theorem l11Take_con (d:RunD) (p:RunP) (k:Nat) (hk:k<d.mail.length) (hL:d.mail.length<100000) (h:Hp) (l:List Atom) (ho:Own h (runRows (d,p)++l)) :
  Con Tryz.prog 178 #[d.val p,.int .i64 k] h fun r h'=>∃a c,r=.tuple #[({ d with mail:=cutP d.mail k }:RunD).val { p with a1:=a,k1:=c },.agg #[.int .i64 d.mail[k].1,.int .i64 d.mail[k].2]]∧Own h' (runRows ({ d with mail:=cutP d.mail k },{ p with a1:=a,k1:=c })++l):=by
 have ho1:=w_row (A:=[_]) ho;have hr:RowOk h (rowV (.slice p.a1 d.mail.length p.k1) d.mail):=ho1.ok _ List.mem_cons_self;obtain⟨g,ha⟩:=row_some hr (by omega);rw [ha] at hr;have hcap:d.mail.length≤p.k1:=by
  obtain⟨_,_,_,hv,_,h1,_⟩:=RowOk.form hr (by show 0<d.mail.length;omega);dsimp only [rowV] at hv h1
  cases hv;exact h1
 refine Con.of_W (tb:=tbE) (args:=[d.val p,.int .i64 k]) Tryz.func178 rfl Tryz.results178 Tryz.ntmps178 (by simp) (Tryz.call178 _) (tm:=[(0,.a (d.cells p)),(1,.v (.int .i64 k))]) rfl ?_;refine vc_ok ⟨tbE_ok,_,Tryz.func178,Tryz.results178,Tryz.ntmps178⟩ 400 _ _ _ _ ?_;conv=>whnf
 refine Ext.index slVal.u slVal.size rfl (by show Value.slice p.a1 _ _=_;rw [ha]) rfl k rfl hk ?_;conv=>whnf
 refine Ext.loadVal rfl hr rfl hk rfl ?_;conv=>whnf
 refine W.draw [(1,true),(2,true),(3,true),(4,true),(6,true),(7,true),(8,true),(9,true),(10,true),(0,false),(5,false),(11,false),(12,true),(13,false)] [0] none 13 (by kernel_rfl) rfl (by kernel_rfl) mixed rfl (fun g e=>by cases e) ?_;refine vc_ok ⟨tbE_ok,_,Tryz.func178,Tryz.results178,Tryz.ntmps178⟩ 400 _ _ _ _ ?_;conv=>whnf
 refine Rd.sliceHi slVal rfl (by show Value.slice p.a1 _ _=_;rw [ha]) k (by omega) rfl ?_;conv=>whnf
 have hw:IntKind.i64.wrap ((k:Int)+1)=((k+1:Nat):Int):=by rw [wrapN _ (by omega) (by omega)];omega
 refine Rd.sliceLo slVal rfl (by show Value.slice p.a1 _ _=_;rw [ha]) (k+1) (by omega) (by show Value.int _ _=_;rw [←hw]) hcap fun o hoo=>?_
 conv=>whnf
 refine Ext.buildSlice slVal rfl ho1 [] (fun w=>⟨_,Tryz.zeroValue32 w,by kernel_rfl⟩) [] rfl rfl (by decide) fun g2 h2 le2 ho2=>?_
 conv=>whnf
 have hr2:RowOk h2 (rowV (.slice (some ⟨g,0,none⟩) d.mail.length p.k1) d.mail):=by
  have:=ho2.ok (.row (rowV (.slice p.a1 d.mail.length p.k1) d.mail)) (by simp);rw [ha] at this;exact this
 refine Ext.append slVal rfl ho2 rfl rfl rfl rfl (by exact Src.sub hr2 0 k p.k1 (by omega) 0 (.inr rfl)) (by show (0+k)*16≤_;omega) (by show 0+k≤_;unfold maxLen;omega) fun v1 h3 ho3=>?_
 obtain⟨a1,c1,hv1⟩:=RowOk.form' (ho3.ok _ List.mem_cons_self);dsimp only at hv1;subst hv1;conv=>whnf
 have hr3:RowOk h3 (rowV (.slice (some ⟨g,0,none⟩) d.mail.length p.k1) d.mail):=by
  have:=ho3.ok (.row (rowV (.slice p.a1 d.mail.length p.k1) d.mail)) (by simp);rw [ha] at this;exact this
 refine Ext.append slVal rfl ho3 rfl rfl rfl rfl (by exact Src.sub hr3 (k+1) (d.mail.length-(k+1)) (p.k1-(k+1)) (by omega) o hoo) (by show (0+k+(d.mail.length-(k+1)))*16≤_;omega) (by show 0+k+(d.mail.length-(k+1))≤_;unfold maxLen;omega) fun v2 h4 ho4=>?_
 have hrow:(⟨32,2,v2,0+k+(d.mail.length-(k+1)),([]++((d.mail.drop 0).take k).flatMap encV)++((d.mail.drop (k+1)).take (d.mail.length-(k+1))).flatMap encV⟩:Row)=rowV v2 (cutP d.mail k):=by
  have e1:(d.mail.drop (k+1)).take (d.mail.length-(k+1))=d.mail.drop (k+1):=List.take_of_length_le (by simp);have e2:(cutP d.mail k).length=0+k+(d.mail.length-(k+1)):=by simp [cutP];omega
  rw [e1,rowV,e2];simp [cutP]
 have ho5:Own h4 (.row (rowV v2 (cutP d.mail k))::.row (rowV (.slice p.a1 d.mail.length p.k1) d.mail)::.row (rowV (.slice p.a0 d.slots.length p.k0) d.slots)::.row (rowI (.slice p.a2 d.links.length p.k2) d.links)::.row (rowI (.slice p.a3 d.wat.length p.k3) d.wat)::l):=by rw [←hrow];exact ho4
 obtain⟨a,c,hv⟩:=RowOk.form' (ho5.ok _ List.mem_cons_self);dsimp only at hv;subst hv;conv=>whnf
 refine W.draw [(0,true),(1,true),(2,false),(3,false)] [0,3] none 99 (by kernel_rfl) rfl (by kernel_rfl) mixed rfl (fun g e=>by cases e) ?_;refine vc_ok ⟨tbE_ok,_,Tryz.func178,Tryz.results178,Tryz.ntmps178⟩ 400 _ _ _ _ ?_;conv=>whnf
 exact⟨a,c,rfl,w_lists (A:=[_]) ho5.drop2⟩
end Go.Proofs.YtgmkmeodimmdoaaGreatDoor
