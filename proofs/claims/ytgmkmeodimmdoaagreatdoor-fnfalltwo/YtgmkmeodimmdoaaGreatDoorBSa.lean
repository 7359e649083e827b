import Derived.WalkKit
import Derived.ProofKit
import Derived.Deep.MidRow
import Derived.Laws.StructEq
import Derived.Laws.CopyRow
import Derived.OrdersHeld
namespace Go.Proofs.YtgmkmeodimmdoaaGreatDoor
abbrev Hp:=Nat→Option Obj
def InH (h:Hp) (w:World):Prop:=∀b o,h b=some o→w.heap[b]?=some o
def Hp.put (h:Hp) (b:Nat) (o:Obj):Hp:=fun k=>if k=b then some o else h k
def Hp.le (h g:Hp):Prop:=∀b o,h b=some o→g b=some o
theorem Hp.le_refl (h:Hp):h.le h:=fun _ _ e=>e
theorem Hp.le_trans {a b c:Hp} (h:a.le b) (k:b.le c):a.le c:=fun x o e=>k x o (h x o e)
theorem InH.mono {h g:Hp} {w:World} (hg:InH g w) (hl:h.le g):InH h w:=fun b o e=>hg b o (hl b o e)
theorem InH.lt {h:Hp} {w:World} (hi:InH h w) {b:Nat} {o:Obj} (e:h b=some o):b<w.heap.size:=by
 have:=hi b o e;rcases Nat.lt_or_ge b w.heap.size with k|k
 ·exact k
 ·rw [Array.getElem?_eq_none k] at this;cases this
theorem Hp.put_same (h:Hp) (b:Nat) (o:Obj):h.put b o b=some o:=by simp [Hp.put]
theorem Hp.put_ne (h:Hp) {b k:Nat} (o:Obj) (e:k≠b):h.put b o k=h k:=by simp [Hp.put,e]
structure Fr (h:Hp) (w:World) (h':Hp) (w':World):Prop where
 os:w'.os=w.os
 tape:w'.tape=w.tape
 output:w'.output=w.output
 size:w.heap.size≤w'.heap.size
 priv:∀b,b<w.heap.size→h b=none→w'.heap[b]?=w.heap[b]?∧h' b=none
theorem Fr.refl (h:Hp) (w:World):Fr h w h w:=⟨rfl,rfl,rfl,Nat.le_refl _,fun _ _ e=>⟨rfl,e⟩⟩
theorem Fr.trans {h0 h1 h2:Hp} {w0 w1 w2:World} (a:Fr h0 w0 h1 w1) (b:Fr h1 w1 h2 w2):Fr h0 w0 h2 w2 :=
 ⟨b.os.trans a.os,b.tape.trans a.tape,b.output.trans a.output,Nat.le_trans a.size b.size,fun k hk e=>by
  obtain⟨x1,x2⟩:=a.priv k hk e;obtain⟨y1,y2⟩:=b.priv k (Nat.lt_of_lt_of_le hk a.size) x2;exact⟨y1.trans x1,y2⟩⟩
theorem Fr.own {h0 h:Hp} {w0 w w':World} (a:Fr h0 w0 h w) (o:w'.os=w.os) (t:w'.tape=w.tape) (u:w'.output=w.output) (s:w.heap.size≤w'.heap.size)
  (g:Nat) (hg:w0.heap.size≤g) (k:∀b,b<w.heap.size→b≠g→w'.heap[b]?=w.heap[b]?):Fr h0 w0 h w' :=
 ⟨o.trans a.os,t.trans a.tape,u.trans a.output,Nat.le_trans a.size s,fun b hb e=>by
  obtain⟨x1,x2⟩:=a.priv b hb e;exact⟨(k b (Nat.lt_of_lt_of_le hb a.size) (by omega)).trans x1,x2⟩⟩
theorem Fr.drawn {h0 h:Hp} {w0 w:World} (a:Fr h0 w0 h w) (n:Nat):Fr h0 w0 h { w with drawn:=n }:=⟨a.os,a.tape,a.output,a.size,a.priv⟩
structure Con (P:Program) (f:FuncId) (args:Array Value) (h:Hp) (R:Value→Hp→Prop):Prop where
 ent:∀w,(callFunc f args).run P w=.ok (.enter f args) w
 run:∀w,InH h w→Calls P f args w fun e w'=>∃v h',e=.returned v∧R v h'∧InH h' w'∧Fr h w h' w'
theorem Con.mono {P:Program} {f:FuncId} {args:Array Value} {h:Hp} {R R':Value→Hp→Prop} (c:Con P f args h R) (k:∀v h',R v h'→R' v h'):Con P f args h R' :=
 ⟨c.ent,fun w hw=>(c.run w hw).mono fun _ _ ⟨v,h',he,hr,hi,hf⟩=>⟨v,h',he,k v h' hr,hi,hf⟩⟩
structure Ext (P:Program) (s:Sem Next) (h:Hp) (K:Option Value→Hp→Prop):Prop where
 run:∀w,InH h w→∃n w' v h',s.run P w=.ok n w'∧(n=.value (v.getD undef)∧v.isSome∨n=.skip∧v=none)∧K v h'∧InH h' w'∧Fr h w h' w'
theorem Ext.val {P:Program} {s:Sem Next} {h:Hp} {K:Option Value→Hp→Prop} (v:Value) (hr:∀w,s.run P w=.ok (.value v) w) (k:K (some v) h):Ext P s h K :=
 ⟨fun w hw=>⟨.value v,w,some v,h,hr w,.inl ⟨rfl,rfl⟩,k,hw,Fr.refl h w⟩⟩
theorem take_drop_get (cs:List Value) (o n j:Nat) (v:Value) (h:((cs.drop o).take n)[j]?=some v):cs[o+j]?=some v:=by
 rw [List.getElem?_take] at h
 split at h
 ·rwa [List.getElem?_drop] at h
 ·cases h
theorem range_of_row {w:World} {b o n:Nat} {cs:List Value} {t:TypeId} {fz:Nat×Nat} (h:w.heap[b]?=some (.cells cs.toArray t fz)):w.rangeAt b o ((cs.drop o).take n):=fun j v hv=>by
 rw [cell_of_row w b (o+j) cs.toArray t fz h];simpa using take_drop_get cs o n j v hv
def putL (o:Nat) (vs cs:List Value):List Value:=cs.take o++vs++cs.drop (o+vs.length)
theorem putL_len (o:Nat) (vs cs:List Value) (h:o+vs.length≤cs.length):(putL o vs cs).length=cs.length:=by
 simp [putL];omega
theorem setRow_at (w:World) (g:Nat) (cs cs':Array Value) (t:TypeId) (fz:Nat×Nat) (h:w.heap[g]?=some (.cells cs t fz)):(w.setRow g cs').heap[g]?=some (.cells cs' t fz):=setRow_heap w g cs cs' t fz h
theorem setRow_off (w:World) (g b:Nat) (cs:Array Value) (h:b≠g):(w.setRow g cs).heap[b]?=w.heap[b]?:=by
 simp only [World.setRow,Array.getElem?_modify];rw [if_neg (by omega)]
theorem store_row (P:Program) (w:World) (g o:Nat) (t:TypeId) (cs vs:List Value) (hg:w.heap[g]?=some (.cells cs.toArray t (0,0))) (hl:o+vs.length≤cs.length) (h1:∀v∈vs,v.oneCell'=true) :
  ∃w',(storeCells ⟨g,o,none⟩ vs).run P w=.ok () w'∧w'.heap[g]?=some (.cells (putL o vs cs).toArray t (0,0))∧(∀b,b≠g→w'.heap[b]?=w.heap[b]?)∧w'.os=w.os∧w'.tape=w.tape∧w'.output=w.output∧w'.heap.size=w.heap.size:=by
 refine⟨_,run_storeCells_at (P:=P) g o t vs 0 cs.toArray w hg (by simpa using hl) h1,?_,fun b hb=>setRow_off w g b _ hb,rfl,rfl,rfl,by simp⟩;rw [setRow_at w g _ _ t _ hg];simp [putL]
abbrev SV:=Sum Value (Sum Bool (Sum (Nat×Nat) (List Value)))
@[reducible] def SV.v (x:Value):SV:=.inl x
@[reducible] def SV.b (x:Bool):SV:=.inr (.inl x)
@[reducible] def SV.p (i off:Nat):SV:=.inr (.inr (.inl (i,off)))
@[reducible] def SV.a (cs:List Value):SV:=.inr (.inr (.inr cs))
def SV.den (ρ:Nat→Nat):SV→Value
 |.inl x=>x
 |.inr (.inl x)=>.bool x
 |.inr (.inr (.inl (i,off)))=>.pointer (some ⟨ρ i,off,none⟩)
 |.inr (.inr (.inr cs))=>.agg cs.toArray
def svOf:Value→SV
 |.agg cs=>SV.a cs.toList
 |x=>SV.v x
theorem svOf_den (ρ:Nat→Nat) (x:Value):(svOf x).den ρ=x:=by cases x<;>simp [svOf,SV.den]
structure Bx where
 ty:TypeId
 cs:List Value
abbrev Tm:=List (Nat×SV)
def look:Tm→Nat→Option SV
 |[],_=>none
 |(i,s)::r,n=>match Nat.beq i n with
  |true=>some s
  |false=>look r n
theorem look_cons (i:Nat) (s:SV) (r:Tm) (n:Nat):look ((i,s)::r) n=if i=n then some s else look r n:=by
 unfold look
 cases h:Nat.beq i n
 ·rw [if_neg (fun e=>by subst e;simp at h)];cases r<;>rfl
 ·rw [if_pos (Nat.eq_of_beq_eq_true h)]
def boxAt:List Bx→Nat→Option Bx
 |[],_=>none
 |x::_,0=>some x
 |_::r,n+1=>boxAt r n
theorem boxAt_eq:∀(l:List Bx) (n:Nat),boxAt l n=l[n]?
 |[],_=>by simp [boxAt]
 |_::_,0=>rfl
 |_::r,n+1=>by simp [boxAt,boxAt_eq r n]
def opd (tm:Tm):Operand→Option SV
 |.tmp t=>look tm t
 |.const (.bool x)=>some (SV.b x)
 |.const (.agg cs)=>some (SV.a cs.toList)
 |.const x=>some (SV.v x)
 |.global g=>some (SV.v (.pointer (some ⟨g,0,none⟩)))
 |.func f=>some (SV.v (.func (.func f) #[] #[]))
def SV.val?:SV→Option Value
 |.inl x=>some x
 |.inr (.inl x)=>some (.bool x)
 |.inr (.inr (.inl _))=>none
 |.inr (.inr (.inr cs))=>some (.agg cs.toArray)
theorem SV.val?_den {s:SV} {x:Value} (h:s.val?=some x) (ρ:Nat→Nat):s.den ρ=x:=by rcases s with y|y|⟨i,o⟩|cs<;>simp_all [SV.val?,SV.den]
def vals (tm:Tm):List Operand→Option (List Value)
 |[]=>some []
 |x::r=>match opd tm x with
  |some s=>match s.val? with
   |some v=>match vals tm r with
    |some vs=>some (v::vs)
    |none=>none
   |none=>none
  |none=>none
structure Holds (ρ:Nat→Nat) (nb:Nat) (tm:Tm) (a:Act):Prop where
 at_:∀i s,look tm i=some s→a.tmps[i]?=some (s.den ρ)
 low:∀i j o,look tm i=some (.p j o)→j<nb
theorem Holds.opd {ρ:Nat→Nat} {nb:Nat} {tm:Tm} {a:Act} (h:Holds ρ nb tm a) {x:Operand} {s:SV} (e:opd tm x=some s):a.eval x=s.den ρ:=by
 cases x with
 |tmp t=>have:=h.at_ t s e;simp [Act.eval,this]
 |const v=>cases v<;>(simp only [YtgmkmeodimmdoaaGreatDoor.opd,Option.some.injEq] at e;subst e;simp [Act.eval,SV.den])
 |global g=>simp only [YtgmkmeodimmdoaaGreatDoor.opd,Option.some.injEq] at e;subst e;simp [Act.eval,SV.den]
 |func f=>simp only [YtgmkmeodimmdoaaGreatDoor.opd,Option.some.injEq] at e;subst e;simp [Act.eval,SV.den]
theorem Holds.vals {ρ:Nat→Nat} {nb:Nat} {tm:Tm} {a:Act} (h:Holds ρ nb tm a):∀{xs:List Operand} {vs:List Value},vals tm xs=some vs→xs.map a.eval=vs
 |[],vs,e=>by simp [YtgmkmeodimmdoaaGreatDoor.vals] at e;subst e;rfl
 |x::r,vs,e=>by
  simp only [YtgmkmeodimmdoaaGreatDoor.vals] at e
  split at e<;>(try cases e)
  rename_i s hs
  split at e<;>(try cases e)
  rename_i v hv
  split at e<;>(try cases e)
  rename_i us hu
  simp [h.opd hs,SV.val?_den hv,h.vals hu]
theorem Holds.put {ρ:Nat→Nat} {nb:Nat} {tm:Tm} {a:Act} (h:Holds ρ nb tm a) (d:Nat) (s:SV) (hd:d<a.tmps.size) (hl:∀j o,s=.p j o→j<nb):Holds ρ nb ((d,s)::tm) (a.put (some d) (s.den ρ)):=by
 refine⟨fun i u e=>?_,fun i j o e=>?_⟩
 ·rw [look_cons] at e
  split at e
  ·rename_i hi;subst hi;cases e;simp [Act.put,hd]
  ·rename_i hi;simp only [Act.put];rw [Array.getElem?_setIfInBounds_ne hi];exact h.at_ i u e
 ·rw [look_cons] at e
  split at e
  ·cases e;exact hl j o rfl
  ·exact h.low i j o e
structure Boxes (ρ:Nat→Nat) (bx:List Bx) (base:Nat) (h:Hp) (w:World):Prop where
 at_:∀(i:Nat) B,bx[i]?=some B→w.heap[ρ i]?=some (.cells B.cs.toArray B.ty (0,0))
 no:∀i,i<bx.length→h (ρ i)=none
 high:∀i,i<bx.length→base≤ρ i
 inj:∀i j,i<bx.length→j<bx.length→ρ i=ρ j→i=j
theorem Boxes.lt {ρ:Nat→Nat} {bx:List Bx} {base:Nat} {h:Hp} {w:World} (b:Boxes ρ bx base h w) {i:Nat} (hi:i<bx.length):ρ i<w.heap.size:=by
 have:=b.at_ i bx[i] (by simp [hi]);rcases Nat.lt_or_ge (ρ i) w.heap.size with k|k
 ·exact k
 ·rw [Array.getElem?_eq_none k] at this;cases this
theorem Boxes.step {ρ:Nat→Nat} {bx:List Bx} {base:Nat} {h h':Hp} {w w':World} (b:Boxes ρ bx base h w) (f:Fr h w h' w'):Boxes ρ bx base h' w' :=
 ⟨fun i B e=>(f.priv (ρ i) (b.lt (List.getElem?_eq_some_iff.1 e).1) (b.no i (List.getElem?_eq_some_iff.1 e).1)).1.trans (b.at_ i B e),
  fun i hi=>(f.priv (ρ i) (b.lt hi) (b.no i hi)).2,b.high,b.inj⟩
theorem Boxes.new {ρ:Nat→Nat} {bx:List Bx} {base:Nat} {h:Hp} {w w':World} (b:Boxes ρ bx base h w) (hb:base≤w.heap.size) (hh:h w.heap.size=none) (t:TypeId) (cs:List Value)
  (hn:w'.heap[w.heap.size]?=some (.cells cs.toArray t (0,0))) (ho:∀k,k<w.heap.size→w'.heap[k]?=w.heap[k]?) :
  Boxes (fun i=>if i=bx.length then w.heap.size else ρ i) (bx++[⟨t,cs⟩]) base h w':=by
 refine⟨fun i B e=>?_,fun i hi=>?_,fun i hi=>?_,fun i j hi hj e=>?_⟩
 ·split
  ·rename_i hi;subst hi;simp at e;subst e;exact hn
  ·rename_i hi
   have hlt:i<bx.length:=by have:=(List.getElem?_eq_some_iff.1 e).1;simp at this;omega
   rw [List.getElem?_append_left hlt] at e;rw [ho _ (b.lt hlt)];exact b.at_ i B e
 ·split
  ·exact hh
  ·exact b.no i (by simp at hi;omega)
 ·split
  ·exact hb
  ·exact b.high i (by simp at hi;omega)
 ·skip
  simp only [List.length_append,List.length_cons,List.length_nil] at hi hj
  split at e<;>split at e
  ·omega
  ·have:=b.lt (i:=j) (by omega);omega
  ·have:=b.lt (i:=i) (by omega);omega
  ·exact b.inj i j (by omega) (by omega) e
theorem Holds.ren {ρ ρ':Nat→Nat} {nb nb':Nat} {tm:Tm} {a:Act} (h:Holds ρ nb tm a) (e:∀i,i<nb→ρ' i=ρ i) (hn:nb≤nb'):Holds ρ' nb' tm a:=by
 refine⟨fun i s hs=>?_,fun i j o hs=>Nat.lt_of_lt_of_le (h.low i j o hs) hn⟩;rw [h.at_ i s hs];rcases s with y|y|⟨j,o⟩|cs
 ·rfl
 ·rfl
 ·simp [SV.den,e j (h.low i j o hs)]
 ·rfl
theorem Boxes.set {ρ:Nat→Nat} {bx:List Bx} {base:Nat} {h:Hp} {w w':World} (b:Boxes ρ bx base h w) (i:Nat) (B:Bx) (hi:i<bx.length)
  (hn:w'.heap[ρ i]?=some (.cells B.cs.toArray B.ty (0,0))) (ho:∀k,k≠ρ i→w'.heap[k]?=w.heap[k]?):Boxes ρ (bx.set i B) base h w':=by
 refine⟨fun j C e=>?_,fun j hj=>b.no j (by simpa using hj),fun j hj=>b.high j (by simpa using hj),fun j k hj hk e=>b.inj j k (by simpa using hj) (by simpa using hk) e⟩;by_cases hji:j=i
 ·subst hji;rw [List.getElem?_set_self hi] at e;cases e;exact hn
 ·rw [List.getElem?_set_ne (Ne.symm hji)] at e;have hj:=(List.getElem?_eq_some_iff.1 e).1;rw [ho _ (fun e2=>hji (b.inj j i hj hi e2))];exact b.at_ j C e
structure TI where
 sz:Nat
 ag:Bool
 zero:List Value
 fs:List (Nat×Nat)
 kd:Nat:=0
def fsOf (P:Program):List Field→Option (List (Nat×Nat))
 |[]=>some []
 |f::r=>match P.info? f.type,fsOf P r with
  |some i,some l=>some ((f.offset,i.size)::l)
  |_,_=>none
def tiOf (P:Program) (t:TypeId):Option TI :=
 match P.info? t,P.underlying t with
 |some i,some d=>match i.zero with
  |some z=>match d with
   |.struct fs=>match fsOf P fs.toList with
    |some l=>some ⟨i.size,true,z.cells.toList,l,0⟩
    |none=>none
   |.array _ _=>some ⟨i.size,true,z.cells.toList,[],0⟩
   |.slice _=>some ⟨i.size,false,z.cells.toList,[],1⟩
   |_=>some ⟨i.size,false,z.cells.toList,[],0⟩
  |none=>none
 |_,_=>none
abbrev Tb:=List (Nat×TI)
def tbl:Tb→Nat→Option TI
 |[],_=>none
 |(i,s)::r,n=>match Nat.beq i n with
  |true=>some s
  |false=>tbl r n
def TbOk (P:Program) (tb:Tb):Prop:=tb.map (fun e=>tiOf P e.1)=tb.map (fun e=>some e.2)
theorem TbOk.at_ {P:Program}:∀{tb:Tb},TbOk P tb→∀{t:Nat} {i:TI},tbl tb t=some i→tiOf P t=some i
 |[],_,_,_,e=>by cases e
 |(k,s)::r,h,t,i,e=>by
  unfold TbOk at h;simp only [List.map_cons,List.cons.injEq] at h;unfold tbl at e
  cases hk:Nat.beq k t
  ·rw [hk] at e;exact TbOk.at_ (tb:=r) h.2 e
  ·rw [hk] at e;cases e;have:=Nat.eq_of_beq_eq_true hk;subst this;exact h.1
abbrev OR:=Sum SV (Sum (Nat×Nat×List Value) (Sum (TypeId×List Value) (Sum (FuncId×List Value) (Sum Unit Unit))))
@[reducible] def OR.val (s:SV):OR:=.inl s
@[reducible] def OR.sto (i off:Nat) (vs:List Value):OR:=.inr (.inl (i,off,vs))
@[reducible] def OR.new (t:TypeId) (cs:List Value):OR:=.inr (.inr (.inl (t,cs)))
@[reducible] def OR.ext:OR:=.inr (.inr (.inr (.inr (.inl ()))))
@[reducible] def OR.call (f:FuncId) (args:List Value):OR:=.inr (.inr (.inr (.inl (f,args))))
@[reducible] def OR.bad:OR:=.inr (.inr (.inr (.inr (.inr ()))))
def nth:List Value→Nat→Option Value
 |[],_=>none
 |x::_,0=>some x
 |_::r,n+1=>nth r n
theorem nth_eq:∀(l:List Value) (n:Nat),nth l n=l[n]?
 |[],n=>by simp [nth]
 |_::_,0=>rfl
 |_::r,n+1=>by simp [nth,nth_eq r n]
def nthF:List (Nat×Nat)→Nat→Option (Nat×Nat)
 |[],_=>none
 |x::_,0=>some x
 |_::r,n+1=>nthF r n
theorem nthF_eq:∀(l:List (Nat×Nat)) (n:Nat),nthF l n=l[n]?
 |[],n=>by simp [nthF]
 |_::_,0=>rfl
 |_::r,n+1=>by simp [nthF,nthF_eq r n]
def binI (op:BinOp) (k:IntKind) (m n:Int):Option SV :=
 match op with
 |.add=>some (.v (.int k (k.wrap (m+n))))
 |.sub=>some (.v (.int k (k.wrap (m-n))))
 |.mul=>some (.v (.int k (k.wrap (m*n))))
 |.eql=>some (.v (.bool (m==n)))
 |.neq=>some (.v (.bool (m != n)))
 |.lss=>some (.v (.bool (decide (m<n))))
 |.leq=>some (.v (.bool (decide (m≤n))))
 |.gtr=>some (.v (.bool (decide (m > n))))
 |.geq=>some (.v (.bool (decide (m≥n))))
 |_=>none
def sameKind:IntKind→IntKind→Bool
 |.i8,.i8|.i16,.i16|.i32,.i32|.i64,.i64|.u8,.u8|.u16,.u16|.u32,.u32|.u64,.u64=>true
 |_,_=>false
theorem sameKind_eq {k k':IntKind} (h:sameKind k k'=true):k=k':=by cases k<;>cases k'<;>first|rfl|(cases h)
def isAgg':Value→Bool
 |.agg _=>true
 |_=>false
def forceLO:List Value→(List Value→Option (List Value))→Option (List Value)
 |[],k=>k []
 |x::r,k=>forceLO r fun l=>k (x::l)
theorem forceLO_eq:∀(l:List Value) (k:List Value→Option (List Value)),forceLO l k=k l
 |[],_=>rfl
 |x::r,k=>by simp only [forceLO];rw [forceLO_eq r]
def fillL (fs:List (Nat×Nat)) (tm:Tm):List (Nat×Operand)→List Value→Option (List Value)
 |[],cs=>some cs
 |(j,x)::r,cs=>match nthF fs j with
  |some (off,sz)=>match opd tm x with
   |some (.inr (.inr (.inr vs)))=>match Nat.beq vs.length sz&&Nat.ble (off+vs.length) cs.length with
    |true=>forceLO (putL off vs cs) fun cs=>fillL fs tm r cs
    |false=>none
   |some (.inr (.inl v))=>match Nat.beq 1 sz&&Nat.ble (off+1) cs.length with
    |true=>forceLO (putL off [.bool v] cs) fun cs=>fillL fs tm r cs
    |false=>none
   |some (.inl v)=>match isAgg' v with
    |true=>none
    |false=>match Nat.beq 1 sz&&Nat.ble (off+1) cs.length with
     |true=>forceLO (putL off [v] cs) fun cs=>fillL fs tm r cs
     |false=>none
   |_=>none
  |none=>none
def storeRes (ti:TI) (B:Bx) (i off:Nat) (vs:List Value):OR :=
 match Nat.beq vs.length ti.sz&&Nat.ble (off+vs.length) B.cs.length&&vs.all (·.oneCell') with
 |true=>.sto i off vs
 |false=>.bad
def opR (tb:Tb) (op:Op) (tm:Tm) (bx:List Bx):OR :=
 match op with
 |.move x=>match opd tm x with
  |some s=>.val s
  |none=>.bad
 |.assign x=>match opd tm x with
  |some s=>.val s
  |none=>.bad
 |.pick c x y=>match opd tm c with
  |some (.inr (.inl true))=>match opd tm x with
   |some s=>.val s
   |none=>.bad
  |some (.inr (.inl false))=>match opd tm y with
   |some s=>.val s
   |none=>.bad
  |_=>.ext
 |.alloc t=>match tbl tb t with
  |some i=>.new t i.zero
  |none=>.bad
 |.box t x=>match opd tm x with
  |some (.inr (.inr (.inr cs)))=>.new t cs
  |some (.inr (.inl v))=>.new t [.bool v]
  |some (.inl v)=>match isAgg' v with
   |true=>.bad
   |false=>.new t [v]
  |_=>.bad
 |.build t ps=>match tbl tb t with
  |some i=>match i.fs with
   |[]=>.ext
   |_::_=>match fillL i.fs tm ps.toList i.zero with
    |some cs=>.val (.a cs)
    |none=>.bad
  |none=>.bad
 |.load t x=>match opd tm x with
  |some (.inr (.inr (.inl (i,off))))=>match boxAt bx i with
   |some B=>match tbl tb t with
    |some ti=>match ti.ag with
     |true=>match Nat.ble (off+ti.sz) B.cs.length with
      |true=>.val (.a ((B.cs.drop off).take ti.sz))
      |false=>.bad
     |false=>match nth B.cs off with
      |some v=>.val (.v v)
      |none=>.bad
    |none=>.bad
   |none=>.bad
  |some _=>.ext
  |none=>.bad
 |.store t x y=>match opd tm x with
  |some (.inr (.inr (.inl (i,off))))=>match boxAt bx i with
   |some B=>match tbl tb t with
    |some ti=>match opd tm y with
     |some (.inr (.inr (.inr cs)))=>storeRes ti B i off cs
     |some (.inr (.inl v))=>storeRes ti B i off [.bool v]
     |some (.inl v)=>match isAgg' v with
      |true=>.bad
      |false=>storeRes ti B i off [v]
     |_=>.bad
    |none=>.bad
   |none=>.bad
  |some _=>.ext
  |none=>.bad
 |.nilCheck x=>match opd tm x with
  |some (.inr (.inr (.inl (i,o))))=>.val (.p i o)
  |some (.inl (.pointer (some a)))=>.val (.v (.pointer (some a)))
  |some _=>.ext
  |none=>.bad
 |.binOp op _ x y _=>match opd tm x,opd tm y with
  |some (.inl (.int k m)),some (.inl (.int k' n))=>match sameKind k k' with
   |true=>match binI op k m n with
    |some s=>.val s
    |none=>.ext
   |false=>.ext
  |_,_=>.ext
 |.unOp .not _ x=>match opd tm x with
  |some (.inr (.inl c))=>.val (.b (!c))
  |some (.inl (.bool c))=>.val (.v (.bool (!c)))
  |_=>.ext
 |.fieldAddr t x j=>match tbl tb t with
  |some ti=>match nthF ti.fs j with
   |some (o,_+1)=>match opd tm x with
    |some (.inr (.inr (.inl (i,off))))=>.val (.p i (off+o))
    |some (.inl (.pointer (some ⟨b,off,none⟩)))=>.val (.v (.pointer (some ⟨b,off+o,none⟩)))
    |some _=>.ext
    |none=>.bad
   |_=>.bad
  |none=>.bad
 |.extract x j=>match opd tm x with
  |some (.inl (.tuple vs))=>match nth vs.toList j with
   |some v=>.val (svOf v)
   |none=>.bad
  |_=>.bad
 |.call c=>match c.callee with
  |.value (.func f)=>match vals tm c.args.toList with
   |some vs=>.call f vs
   |none=>.bad
  |.value x=>match opd tm x with
   |some (.inl (.func (.func f) fi ca))=>match vals tm c.args.toList with
    |some vs=>match forceLO (fi.toList++(vs++ca.toList)) some with
     |some l=>.call f l
     |none=>.bad
    |none=>.bad
   |_=>.ext
  |.builtin .len=>match c.args.toList with
   |[x]=>match c.argTypes.toList with
    |[t]=>match tbl tb t with
     |some ti=>match ti.kd with
      |1=>match opd tm x with
       |some (.inl (.slice _ n _))=>.val (.v (.int .i64 n))
       |_=>.ext
      |_=>.ext
     |none=>.ext
    |_=>.ext
   |_=>.ext
  |_=>.ext
 |_=>.ext
variable {P:Program}
theorem tiOf_spec {t:TypeId} {i:TI} (h:tiOf P t=some i):∃ti d z,P.info? t=some ti∧P.underlying t=some d∧ti.zero=some z∧i.sz=ti.size∧i.ag=(match d with|.struct _|.array _ _=>true|_=>false)∧i.zero=z.cells.toList ∧
  (i.fs≠[]→∃fs,d=.struct fs∧fsOf P fs.toList=some i.fs)∧(i.kd=1→∃e,d=.slice e):=by
 unfold tiOf at h
 split at h
 ·rename_i ti d h1 h2
  split at h
  ·rename_i z hz
   split at h
   ·rename_i fs
    split at h
    ·rename_i l hl
     cases h
     exact⟨ti,_,z,h1,h2,hz,rfl,rfl,rfl,fun _=>⟨fs,rfl,hl⟩,fun e=>by cases e⟩
    ·cases h
   ·cases h
    exact⟨ti,_,z,h1,h2,hz,rfl,rfl,rfl,fun e=>absurd rfl e,fun e=>by cases e⟩
   ·rename_i e
    cases h
    exact⟨ti,_,z,h1,h2,hz,rfl,rfl,rfl,fun e=>absurd rfl e,fun _=>⟨e,rfl⟩⟩
   ·rename_i hn1 hn2 _
    cases h
    refine⟨ti,d,z,h1,h2,hz,rfl,?_,rfl,fun e=>absurd rfl e,fun e=>by cases e⟩
    cases d<;>first|rfl|exact absurd rfl (hn1 _)|exact absurd rfl (hn2 _ _)
  ·cases h
 ·cases h
theorem fsOf_at:∀{l:List Field} {r:List (Nat×Nat)},fsOf P l=some r→∀{j:Nat} {o s:Nat},r[j]?=some (o,s)→∃f inf,l[j]?=some f∧f.offset=o∧P.info? f.type=some inf∧inf.size=s
 |[],r,h,j,o,s,e=>by simp [fsOf] at h;subst h;simp at e
 |f::l,r,h,j,o,s,e=>by
  simp only [fsOf] at h
  split at h
  ·rename_i i r' hi hr
   cases h
   cases j with
   |zero=>simp at e;exact⟨f,i,rfl,e.1,hi,e.2⟩
   |succ j=>exact fsOf_at hr (by simpa using e)
  ·cases h
theorem fsOf_run:∀{l:List Field} {r:List (Nat×Nat)},fsOf P l=some r→∀w,(List.mapM (m:=Sem) (fun f=>do pure (f.offset,←sizeOf f.type)) l).run P w=.ok r w
 |[],r,h,w=>by simp [fsOf] at h;subst h;rfl
 |f::l,r,h,w=>by
  simp only [fsOf] at h
  split at h
  ·rename_i i r' hi hr
   cases h
   have hs:∀w,(sizeOf f.type).run P w=.ok i.size w:=fun w=>by simp [sizeOf,typeInfo,hi]
   have ih:=fsOf_run hr;rw [List.mapM_cons];simp only [Sem.run_bind,hs,Result.andThen_ok,Sem.run_pure,ih]
  ·cases h
theorem ti_isAgg {t:TypeId} {i:TI} (h:tiOf P t=some i) (w:World):(isAgg t).run P w=.ok i.ag w:=by
 obtain⟨ti,d,z,h1,h2,h3,h4,h5,h6,h7,_⟩:=tiOf_spec h;unfold isAgg;rw [Sem.run_bind,run_underlying h2 w,h5]
 cases d<;>rfl
theorem ti_size {t:TypeId} {i:TI} (h:tiOf P t=some i) (w:World):(sizeOf t).run P w=.ok i.sz w:=by
 obtain⟨ti,d,z,h1,h2,h3,h4,h5,h6,h7,_⟩:=tiOf_spec h;simp [sizeOf,typeInfo,h1,h4]
theorem ti_zero {t:TypeId} {i:TI} (h:tiOf P t=some i) (w:World):∃z,(zeroValue t).run P w=.ok z w∧z.cells=i.zero.toArray:=by
 obtain⟨ti,d,z,h1,h2,h3,h4,h5,h6,h7,_⟩:=tiOf_spec h;exact⟨z,by simp [zeroValue,typeInfo,h1,h3],by rw [h6]⟩
theorem run_load_box {t:TypeId} {ti:TI} (h:tiOf P t=some ti) (w:World) (g off:Nat) (B:Bx) (hB:w.heap[g]?=some (.cells B.cs.toArray B.ty (0,0))) :
  (ti.ag=true→off+ti.sz≤B.cs.length→(Instr.loadAt t (.pointer (some ⟨g,off,none⟩))).run P w=.ok (.agg ((B.cs.drop off).take ti.sz).toArray) w) ∧
  (ti.ag=false→∀v,B.cs[off]?=some v→(Instr.loadAt t (.pointer (some ⟨g,off,none⟩))).run P w=.ok v w):=by
 refine⟨fun ha hl=>?_,fun ha v hv=>?_⟩
 ·have hlen:((B.cs.drop off).take ti.sz).length=ti.sz:=by simp;omega
  have hc:=run_loadCells_list (P:=P) w ⟨g,off,none⟩ ((B.cs.drop off).take ti.sz) (fun j v hv=>by rw [Addr.add_mid];exact range_of_row hB j v hv);rw [hlen] at hc;simp only [Instr.loadAt,Instr.sureAddr,loadVar,Sem.run_bind,Sem.run_pure,Result.andThen_ok,ti_isAgg h w,ha,if_true,ti_size h w,hc]
 ·have hc:w.cell? ⟨g,off,none⟩=some v:=by rw [cell_of_row w g off B.cs.toArray B.ty (0,0) hB];simpa using hv
  simp only [Instr.loadAt,Instr.sureAddr,loadVar,Sem.run_bind,Sem.run_pure,Result.andThen_ok,ti_isAgg h w,ha,Bool.false_eq_true,if_false];simp [load,Sem.run,hc]
theorem putL_fold (off:Nat) (vs:List Value):∀(cs:List Value),off+vs.length≤cs.length→(vs.toArray.zipIdx.foldl (fun cs (x:Value×Nat)=>cs.setIfInBounds (off+x.2) x.1) cs.toArray)=(putL off vs cs).toArray:=by
 suffices ∀(vs:List Value) (k:Nat) (cs:List Value),off+k+vs.length≤cs.length→((vs.zipIdx k).foldl (fun cs (x:Value×Nat)=>cs.setIfInBounds (off+x.2) x.1) cs.toArray)=(putL (off+k) vs cs).toArray by
  intro cs hl;have:=this vs 0 cs (by simpa using hl);rw [←Array.foldl_toList];simpa using this
 intro vs
 induction vs with
 |nil=>intro k cs _;simp [putL]
 |cons v r ih =>
  intro k cs hl;simp only [List.zipIdx_cons,List.foldl_cons,List.length_cons] at hl ⊢;rw [List.setIfInBounds_toArray,ih (k+1) _ (by simp;omega)]
  congr 1
  simp only [putL,List.length_cons];have e1:off+(k+1)=off+k+1:=by omega
  rw [e1];have h1:(cs.set (off+k) v).take (off+k+1)=cs.take (off+k)++[v]:=by
   rw [List.take_succ_eq_append_getElem (by simp;omega)];simp only [List.take_set,List.getElem_set_self];rw [List.set_eq_of_length_le (by simp;omega)]
  have h2:(cs.set (off+k) v).drop (off+k+1+r.length)=cs.drop (off+k+(r.length+1)):=by
   rw [List.drop_set_of_lt (by omega)]
   congr 1;omega
  rw [h1,h2];simp
theorem fill_step (place:Nat→Option (Nat×Nat)) (cs vs:List Value) (j:Nat) (v:Value) (off sz:Nat) (rest:List (Nat×Value)) (hp:place j=some (off,sz)) (hv:v.cells=vs.toArray) (h1:vs.length=sz) (h2:off+vs.length≤cs.length) :
  Instr.fill place cs.toArray ((j,v)::rest)=Instr.fill place (putL off vs cs).toArray rest:=by
 have hf:=putL_fold off vs cs h2;unfold Instr.fill;rw [hp];simp only
 split
 ·rename_i hc
  rw [hv] at hc;simp at hc;omega
 ·rw [hv];refine(congrArg (fun x=>Instr.fill place x rest) hf).trans ?_
  cases rest<;>rfl
theorem fill_ok {fs:List (Nat×Nat)} {tm:Tm} {a:Act} {ρ:Nat→Nat} {nb:Nat} (hh:Holds ρ nb tm a) (place:Nat→Option (Nat×Nat)) (hp:∀j,place j=fs[j]?) :
  ∀(ps:List (Nat×Operand)) (cs cs':List Value),fillL fs tm ps cs=some cs'→Instr.fill place cs.toArray (ps.map fun x=>(x.1,a.eval x.2))=some cs'.toArray
 |[],cs,cs',h=>by simp [fillL] at h;subst h;rfl
 |(j,x)::r,cs,cs',h=>by
  simp only [fillL] at h
  split at h<;>(try cases h)
  rename_i off sz hj
  rw [nthF_eq] at hj;have hpj:=(hp j).trans hj;rw [List.map_cons]
  split at h<;>(try cases h)
  ·rename_i vs hx
   split at h<;>(try cases h)
   rename_i hc
   simp only [Bool.and_eq_true,Nat.beq_eq,Nat.ble_eq] at hc;rw [forceLO_eq] at h;rw [fill_step place cs vs j _ off sz _ hpj (by rw [hh.opd hx];rfl) hc.1 hc.2];exact fill_ok hh place hp r _ _ h
  ·rename_i v hx
   split at h<;>(try cases h)
   rename_i hc
   simp only [Bool.and_eq_true,Nat.beq_eq,Nat.ble_eq] at hc;rw [forceLO_eq] at h;rw [fill_step place cs [.bool v] j _ off sz _ hpj (by rw [hh.opd hx];rfl) hc.1 hc.2];exact fill_ok hh place hp r _ _ h
  ·rename_i v hx
   split at h<;>(try cases h)
   rename_i hv
   split at h<;>(try cases h)
   rename_i hc
   simp only [Bool.and_eq_true,Nat.beq_eq,Nat.ble_eq] at hc;rw [forceLO_eq] at h;have hcells:v.cells=#[v]:=by cases v<;>first|rfl|(simp [isAgg'] at hv)
   rw [fill_step place cs [v] j _ off sz _ hpj (by rw [hh.opd hx];exact hcells) hc.1 hc.2];exact fill_ok hh place hp r _ _ h
end Go.Proofs.YtgmkmeodimmdoaaGreatDoor
namespace Go.Proofs.YtgmkmeodimmdoaaGreatDoor
variable {P:Program}
def loadsFrom (op:Op) (tm:Tm):Option Nat :=
 match op with
 |.load _ x=>match opd tm x with
  |some (.inr (.inr (.inl (i,_))))=>some i
  |_=>none
 |_=>none
def Does (P:Program) (ρ:Nat→Nat) (nb:Nat) (bx:List Bx) (s:Sem Next) (w:World):OR→Prop
 |.inl v=>s.run P w=.ok (.value (v.den ρ)) w∧∀j k,v=.p j k→j<nb
 |.inr (.inl (i,off,vs))=>i<nb∧∃B,bx[i]?=some B∧off+vs.length≤B.cs.length∧(∀v∈vs,v.oneCell'=true) ∧
   ∀w',(storeCells ⟨ρ i,off,none⟩ vs).run P w=.ok () w'→s.run P w=.ok .skip w'
 |.inr (.inr (.inl (t,cs)))=>s.run P w=.ok (.value (.pointer (some ⟨w.heap.size,0,none⟩))) (w.alloc (.cells cs.toArray t))
 |.inr (.inr (.inr (.inl (f,vs))))=>s.run P w=(callFunc f vs.toArray).run P w
 |.inr (.inr (.inr (.inr _)))=>True
theorem run_value (s:Sem Value) (w:World) (v:Value) (w':World) (h:s.run P w=.ok v w'):(do pure (Next.value (←s)):Sem Next).run P w=.ok (.value v) w':=by
 rw [Sem.run_bind,h];rfl
theorem run_skip (s:Sem Unit) (w w':World) (h:s.run P w=.ok () w'):(do s;pure Next.skip:Sem Next).run P w=.ok .skip w':=by
 rw [Sem.run_bind,h];rfl
theorem run_newVar (t:TypeId) (v:Value) (w:World):(newVar t v).run P w=.ok ⟨w.heap.size,0,none⟩ (w.alloc (.cells v.cells t)):=rfl
theorem binI_run {op:BinOp} {k:IntKind} {m n:Int} {s:SV} (h:binI op k m n=some s) (t:TypeId) (x y:Operand) (w:World) (ρ:Nat→Nat) :
  (do eqGuard op t x y (.int k m) (.int k n);binOp op t (.int k m) (.int k n):Sem Value).run P w=.ok (s.den ρ) w∧∀j o,s≠.p j o:=by
 cases op<;>simp only [binI] at h<;>first
  |(cases h;done)
  |(cases h;exact⟨by simp [eqGuard,binOp,Op.intArith,Op.intCmp,SV.den],fun _ _ e=>by cases e⟩)
theorem opR_ok {tb:Tb} (htb:TbOk P tb) {ρ:Nat→Nat} {tm:Tm} {bx:List Bx} {a:Act} {w:World} (hh:Holds ρ bx.length tm a) (o:Oper)
  (hl:∀i B,loadsFrom o.op tm=some i→bx[i]?=some B→w.heap[ρ i]?=some (.cells B.cs.toArray B.ty (0,0))) :
  Does P ρ bx.length bx (execOp a.eval o) w (opR tb o.op tm bx):=by
 obtain⟨dst,op,ty,pos,after,guard⟩:=o;have hlow:∀{x:Operand} {j k:Nat},opd tm x=some (.p j k)→j<bx.length:=fun {x j k} e=>by
  cases x with
  |tmp t=>exact hh.low t j k e
  |const v=>cases v<;>simp [opd] at e
  |global g=>simp [opd] at e
  |func f=>simp [opd] at e
 cases op with
 |move x =>
  simp only [opR]
  split
  ·rename_i s hs
   refine⟨by simp only [execOp];rw [hh.opd hs];rfl,fun j k e=>by subst e;exact hlow hs⟩
  ·trivial
 |assign x =>
  simp only [opR]
  split
  ·rename_i s hs
   refine⟨by simp only [execOp];rw [hh.opd hs];rfl,fun j k e=>by subst e;exact hlow hs⟩
  ·trivial
 |pick c x y =>
  simp only [opR]
  split
  ·rename_i hc
   split
   ·rename_i s hs
    exact⟨by simp only [execOp];rw [hh.opd hc,hh.opd hs];rfl,fun j k e=>by subst e;exact hlow hs⟩
   ·trivial
  ·rename_i hc
   split
   ·rename_i s hs
    exact⟨by simp only [execOp];rw [hh.opd hc,hh.opd hs];rfl,fun j k e=>by subst e;exact hlow hs⟩
   ·trivial
  ·trivial
 |alloc t =>
  simp only [opR]
  split
  ·rename_i i hi
   obtain⟨z,hz,hzc⟩:=ti_zero (htb.at_ hi) w;simp only [Does,execOp];refine run_value _ w _ _ ?_;simp only [Instr.alloc,Sem.run_bind,hz,Result.andThen_ok,run_newVar,Sem.run_pure,hzc]
  ·trivial
 |box t x =>
  simp only [opR]
  split
  ·rename_i cs hx
   simp only [Does,execOp];refine run_value _ w _ _ ?_;rw [hh.opd hx];simp only [Instr.box,Sem.run_bind,run_newVar,Result.andThen_ok,Sem.run_pure,SV.den,Value.cells]
  ·rename_i v hx
   simp only [Does,execOp];refine run_value _ w _ _ ?_;rw [hh.opd hx];simp only [Instr.box,Sem.run_bind,run_newVar,Result.andThen_ok,Sem.run_pure,SV.den,Value.cells]
  ·rename_i v hx
   split
   ·trivial
   ·rename_i hv
    have hcells:v.cells=#[v]:=by cases v<;>first|rfl|(simp [isAgg'] at hv)
    simp only [Does,execOp];refine run_value _ w _ _ ?_;rw [hh.opd hx];simp only [Instr.box,Sem.run_bind,run_newVar,Result.andThen_ok,Sem.run_pure,SV.den,hcells]
  ·trivial
 |build t ps =>
  simp only [opR]
  split
  ·rename_i i hi
   split
   ·trivial
   ·rename_i f0 fr hfs
    split
    ·rename_i cs hcs
     obtain⟨ti,d,z,h1,h2,h3,h4,h5,h6,h7,_⟩:=tiOf_spec (htb.at_ hi);obtain⟨fields,rfl,hfo⟩:=h7 (by rw [hfs];simp);refine⟨?_,fun j k e=>by cases e⟩;simp only [execOp];refine run_value _ w _ _ ?_;have hz:(zeroValue t).run P w=.ok z w:=by simp [zeroValue,typeInfo,h1,h3]
     have hm:=fsOf_run hfo w;have hf:=fill_ok hh (fun j=>i.fs.toArray[j]?) (fun j=>by simp) ps.toList i.zero cs hcs;simp only [Instr.build,Sem.run_bind,hz,Result.andThen_ok,run_underlying h2,Array.mapM_eq_mapM_toList,Sem.run_map,hm];have hzc:z.cells=i.zero.toArray:=by rw [h6]
     rw [hzc,show (ps.map fun x=>(x.1,a.eval x.2)).toList=ps.toList.map fun x=>(x.1,a.eval x.2) by simp,hf];rfl
    ·trivial
  ·trivial
 |load t x =>
  simp only [opR]
  split
  ·rename_i i off hx
   split
   ·rename_i B hB
    rw [boxAt_eq] at hB;have hw:=hl i B (by simp [loadsFrom,hx]) hB
    split
    ·rename_i ti hti
     have hr:=run_load_box (htb.at_ hti) w (ρ i) off B hw
     split
     ·rename_i hag
      split
      ·rename_i hle
       refine⟨?_,fun j k e=>by cases e⟩;simp only [execOp];refine run_value _ w _ _ ?_;rw [hh.opd hx];exact hr.1 hag ((by simpa using hle))
      ·trivial
     ·rename_i hag
      split
      ·rename_i v hv
       rw [nth_eq] at hv;refine⟨?_,fun j k e=>by cases e⟩;simp only [execOp];refine run_value _ w _ _ ?_;rw [hh.opd hx];exact hr.2 hag v hv
      ·trivial
    ·trivial
   ·trivial
  ·trivial
  ·trivial
 |nilCheck x =>
  simp only [opR]
  split
  ·rename_i i o hx
   exact⟨by simp only [execOp];rw [hh.opd hx];rfl,fun j k e=>by cases e;exact hlow hx⟩
  ·rename_i q hx
   exact⟨by simp only [execOp];rw [hh.opd hx];rfl,fun j k e=>by cases e⟩
  ·trivial
  ·trivial
 |binOp op t x y t2 =>
  simp only [opR]
  split
  ·rename_i k m k' n hx hy
   split
   ·rename_i hk
    have:=sameKind_eq hk;subst this
    split
    ·rename_i s hs
     obtain⟨h1,h2⟩:=binI_run (P:=P) hs t x y w ρ;refine⟨?_,fun j k e=>absurd e (h2 j k)⟩;simp only [execOp];refine run_value _ w _ _ ?_;rw [hh.opd hx,hh.opd hy];exact h1
    ·trivial
   ·trivial
  ·trivial
 |fieldAddr t x j =>
  simp only [opR]
  split
  ·rename_i ti hti
   split
   ·rename_i o s hf
    rw [nthF_eq] at hf;obtain⟨inf,d,z,h1,h2,h3,h4,h5,h6,h7,_⟩:=tiOf_spec (htb.at_ hti);obtain⟨fields,rfl,hfo⟩:=h7 (by intro e;rw [e] at hf;simp at hf);obtain⟨f,fi,g1,g2,g3,g4⟩:=fsOf_at hfo hf;have hfj:fields[j]?=some f:=by simpa using g1
    have hrun:∀(b off:Nat),(Instr.fieldAt t (.pointer (some ⟨b,off,none⟩)) j).run P w=.ok (.pointer (some ⟨b,off+o,none⟩)) w:=fun b off=>by
     have hs:(sizeOf f.type).run P w=.ok (s+1) w:=by simp [sizeOf,typeInfo,g3,g4]
     simp only [Instr.fieldAt,Sem.run_bind,run_underlying h2,Result.andThen_ok,hfj,Instr.sureAddr,Sem.run_pure,fieldPlace,hs];simp [Addr.add_mid,g2]
    split
    ·rename_i i off hx
     refine⟨?_,fun j k e=>by cases e;exact hlow hx⟩;simp only [execOp];refine run_value _ w _ _ ?_;rw [hh.opd hx];exact hrun _ _
    ·rename_i b off hx
     refine⟨?_,fun j k e=>by cases e⟩;simp only [execOp];refine run_value _ w _ _ ?_;rw [hh.opd hx];exact hrun _ _
    ·trivial
    ·trivial
   ·trivial
  ·trivial
 |extract x j =>
  simp only [opR]
  split
  ·rename_i vs hx
   split
   ·rename_i v hv
    rw [nth_eq] at hv;refine⟨?_,fun i k e=>by cases v<;>simp [svOf] at e⟩;simp only [execOp];refine run_value _ w _ _ ?_;rw [hh.opd hx,svOf_den];simp only [SV.den,Instr.extract];have:vs[j]?=some v:=by simpa using hv
    rw [this];rfl
   ·trivial
  ·trivial
 |call c =>
  simp only [opR]
  split
  ·rename_i f hf
   split
   ·rename_i vs hvs
    have hv:=hh.vals hvs;have ha:c.args.map a.eval=vs.toArray:=by rw [←hv];apply Array.ext';simp
    simp only [Does,execOp,resolve,hf,ha];simp [Act.eval,Deferred.ofValue,invoke]
   ·trivial
  ·rename_i x _ hf
   split
   ·rename_i f fi ca hx
    split
    ·rename_i vs hvs
     have hv:=hh.vals hvs;have ha:c.args.map a.eval=vs.toArray:=by rw [←hv];apply Array.ext';simp
     simp only [forceLO_eq];have e:fi++(vs.toArray++ca)=(fi.toList++(vs++ca.toList)).toArray:=by apply Array.ext';simp
     simp only [Does,execOp,resolve,hf,ha,hh.opd hx,SV.den];simp [Deferred.ofValue,invoke,e]
    ·trivial
   ·trivial
  ·rename_i hf
   split
   ·rename_i x hx
    split
    ·rename_i t ht
     split
     ·rename_i ti hti
      split
      ·rename_i hkd
       split
       ·rename_i ad n cp hv
        obtain⟨inf,d,z,h1,h2,h3,h4,h5,h6,h7,h8⟩:=tiOf_spec (htb.at_ hti);obtain⟨e,rfl⟩:=h8 hkd;refine⟨?_,fun j k e=>by cases e⟩;have ha:c.args=#[x]:=by rw [←hx]
        have hb:c.argTypes=#[t]:=by rw [←ht]
        simp [execOp,resolve,hf,ha,hb,invoke,builtin,hh.opd hv,SV.den,Builtin.len_,run_underlying h2,goInt]
       ·trivial
      ·trivial
     ·trivial
    ·trivial
   ·trivial
  ·trivial
 |store t x y =>
  have key:∀(i off:Nat) (B:Bx) (ti:TI) (vs:List Value) (v:Value),opd tm x=some (.p i off)→bx[i]?=some B→tbl tb t=some ti→a.eval y=v→v.cells=vs.toArray →
    Does P ρ bx.length bx (execOp a.eval ⟨dst,.store t x y,ty,pos,after,guard⟩) w (storeRes ti B i off vs):=by
   intro i off B ti vs v hx hB hti hy hv;unfold storeRes
   split
   ·rename_i hc
    simp only [Bool.and_eq_true,Nat.beq_eq,Nat.ble_eq,List.all_eq_true] at hc;refine⟨(List.getElem?_eq_some_iff.1 hB).1,B,hB,hc.1.2,hc.2,fun w' hw'=>?_⟩;simp only [execOp];refine run_skip _ w w' ?_;rw [hh.opd hx,hy];simp only [SV.den,Instr.storeAt,Instr.sureAddr,storeVar,Sem.run_bind,Sem.run_pure,Result.andThen_ok,ti_size (htb.at_ hti) w,hv];rw [if_neg (by have:=hc.1.1;simpa using this)];simpa using hw'
   ·trivial
  simp only [opR]
  split
  ·rename_i i off hx
   split
   ·rename_i B hB
    rw [boxAt_eq] at hB
    split
    ·rename_i ti hti
     split
     ·rename_i cs hy
      exact key i off B ti cs _ hx hB hti (hh.opd hy) rfl
     ·rename_i v hy
      exact key i off B ti _ _ hx hB hti (hh.opd hy) rfl
     ·rename_i v hy
      split
      ·trivial
      ·rename_i hv
       exact key i off B ti _ _ hx hB hti (hh.opd hy) (by cases v<;>first|rfl|(simp [isAgg'] at hv))
     ·trivial
    ·trivial
   ·trivial
  ·trivial
  ·trivial
 |unOp op t x =>
  cases op with
  |not =>
   simp only [opR]
   split
   ·rename_i c hx
    refine⟨?_,fun j k e=>by cases e⟩;simp only [execOp];refine run_value _ w _ _ ?_;rw [hh.opd hx];simp [SV.den,Op.unary]
   ·rename_i c hx
    refine⟨?_,fun j k e=>by cases e⟩;simp only [execOp];refine run_value _ w _ _ ?_;rw [hh.opd hx];simp [SV.den,Op.unary]
   ·trivial
  |_=>trivial
 |_=>trivial
end Go.Proofs.YtgmkmeodimmdoaaGreatDoor
namespace Go.Proofs.YtgmkmeodimmdoaaGreatDoor
section
variable {P:Program} {ops:Array Oper} {Q:Exit→Act→World→Prop} {md:Region.Mode} {S:World→Prop} {s:Nat}
def wpAnyG (P:Program) (md:Region.Mode) (ops:Array Oper) (Q:Exit→Act→World→Prop) (S:World→Prop) (s:Nat):Nat→Array Bool→Act→World→Prop
 |0,listed,a,w=>Region.ready md ops listed=[]∧Q .normal a w
 |fuel+1,listed,a,w =>
  (Region.ready md ops listed=[]→Q .normal a w) ∧
  ∀i∈Region.ready md ops listed,wpOp P ops Q i (fun a' w'=>((listed.setIfInBounds i true).getD s false=false→S w')∧wpAnyG P md ops Q S s fuel (listed.setIfInBounds i true) a' w') a w
theorem wpAny_of_G:∀(fuel:Nat) (listed:Array Bool) (a:Act) (w:World),wpAnyG P md ops Q S s fuel listed a w→wpAny P md ops Q fuel listed a w
 |0,_,_,_,h=>h
 |fuel+1,_,_,_,h=>⟨h.1,fun i hi=>wpOp_mono (fun a' w' h'=>wpAny_of_G fuel _ a' w' h'.2) (h.2 i hi)⟩
def waitsFor (md:Region.Mode) (ops:Array Oper) (s i:Nat):Bool :=
 match ops[s]? with
 |some o=>o.after.any fun e=>Region.binds md e&&e.on==i
 |none=>true
theorem wpAnyG_first {i:Nat} {oi:Oper} {v:Value} (hi:ops[i]?=some oi) (hsel:∀(j:Nat) (o:Oper) cs b,ops[j]?=some o→o.op≠.select cs b)
  (hQ:∀c a w,Q (.panic c) (a.put oi.dst v) w→Q (.panic c) a w) (hsi:waitsFor md ops s i=true) (hne:i≠s) :
  ∀(fuel:Nat) (listed:Array Bool) (a:Act) (w:World),
   (∀j oj,ops[j]?=some oj→j≠i→listed.getD j true=false→(∀e∈oj.after,Region.binds md e=true→e.on≠i)→oi.apart ops oj=true) →
   i∈Region.ready md ops listed→listed.getD s false=false→YieldsIf P ops S oi v a→S w →
   wpAnyG P md ops Q S s fuel (listed.setIfInBounds i true) (a.put oi.dst v) w→wpAnyG P md ops Q S s (fuel+1) listed a w:=by
 intro fuel
 induction fuel with
 |zero =>
  intro listed a w _ hr _ hy hS H;refine⟨fun h=>(by rw [h] at hr;cases hr),fun j hj=>?_⟩;by_cases hji:j=i
  ·subst hji;exact hy.wpOp hi hS ⟨fun _=>hS,H⟩
  ·have:=ready_mono hj hji;rw [H.1] at this
   cases this
 |succ fuel ih =>
  intro listed a w hfree hr hs hy hS H;refine⟨fun h=>(by rw [h] at hr;cases hr),fun j hj=>?_⟩;by_cases hji:j=i
  ·subst hji;exact hy.wpOp hi hS ⟨fun _=>hS,H⟩
  ·have h1:=H.2 j (ready_mono hj hji);obtain⟨hjun,oj,hoj,hall⟩:=mem_ready.1 hj;have hnot:∀e∈oj.after,Region.binds md e=true→e.on≠i:=fun e he hb heq=>by
    have h1:=hall e he hb;have h0:=(mem_ready.1 hr).1;rw [heq] at h1;rcases Nat.lt_or_ge i listed.size with h'|h'
    ·simp [h'] at h0 h1;rw [h0] at h1;cases h1
    ·simp [Array.getElem?_eq_none h'] at h1
   have hjs:j≠s:=fun e=>by
    subst e;unfold waitsFor at hsi;rw [hoj] at hsi;simp only at hsi;obtain⟨e,he,hb⟩:=Array.any_eq_true'.1 hsi;simp only [Bool.and_eq_true,beq_iff_eq] at hb;exact hnot e he hb.1 hb.2
   have hlow:∀(l:Array Bool) (k:Nat),k≠s→(l.setIfInBounds k true).getD s false=l.getD s false:=fun l k hk=>getD_set_ne false hk
   have h2:=wpOp_putIf hoj (hfree j oj hoj hji hjun hnot) (fun cs b=>hsel i oi cs b hi) (fun cs b=>hsel j oj cs b hoj) hQ hy h1;have hfree':∀k ok,ops[k]?=some ok→k≠i→(listed.setIfInBounds j true).getD k true=false →
     (∀e∈ok.after,Region.binds md e=true→e.on≠i)→oi.apart ops ok=true:=fun k ok hk hki hun hno=>by
    refine hfree k ok hk hki ?_ hno;by_cases hjk:j=k
    ·subst hjk;exact hjun
    ·rw [getD_set_ne true hjk] at hun;exact hun
   refine wpOp_mono (fun a' w' h3=>?_) h2;have hsl:(listed.setIfInBounds j true).getD s false=false:=by rw [hlow _ _ hjs];exact hs
   have hSw:S w':=h3.2.1 (by rw [hlow _ _ hjs,hlow _ _ hne];exact hs);refine⟨fun _=>hSw,ih (listed.setIfInBounds j true) a' w' hfree' (ready_mono hr (Ne.symm hji)) hsl h3.1 hSw ?_⟩;rw [Array.setIfInBounds_comm _ _ hji];exact h3.2.2
theorem wpAnyG_take {i:Nat} {oi:Oper} {v:Value} {fuel:Nat} {listed:Array Bool} {a:Act} {w:World} (hi:ops[i]?=some oi)
  (hs:Region.noSelect ops=true) (hf:Region.free md ops listed i=true) (hr:(Region.ready md ops listed).contains i=true) (hsi:waitsFor md ops s i=true) (hne:i≠s) (hsl:listed.getD s false=false)
  (hQ:∀c a w,Q (.panic c) (a.put oi.dst v) w→Q (.panic c) a w) (hy:YieldsIf P ops S oi v a) (hS:S w)
  (h:wpAnyG P md ops Q S s fuel (listed.setIfInBounds i true) (a.put oi.dst v) w):wpAnyG P md ops Q S s (fuel+1) listed a w :=
 wpAnyG_first hi (Region.noSelect_spec hs) hQ hsi hne fuel listed a w (Region.free_spec hi hf) (by simpa using hr) hsl hy hS h
theorem wpAnyG_all {rs:List Nat} {fuel:Nat} {listed:Array Bool} {a:Act} {w:World} (hr:Region.ready md ops listed=rs) (hne:rs≠[])
  (h:∀i∈rs,wpOp P ops Q i (fun a' w'=>((listed.setIfInBounds i true).getD s false=false→S w')∧wpAnyG P md ops Q S s fuel (listed.setIfInBounds i true) a' w') a w):wpAnyG P md ops Q S s (fuel+1) listed a w :=
 ⟨fun h0=>absurd (hr ▸ h0) hne,hr ▸ h⟩
theorem wpAnyG_done {listed:Array Bool} {a:Act} {w:World} (hr:Region.ready md ops listed=[]) (h:Q .normal a w) :
  ∀fuel,wpAnyG P md ops Q S s fuel listed a w
 |0=>⟨hr,h⟩
 |_+1=>⟨fun _=>h,by rw [hr];simp⟩
theorem wp_region_G {id:Nat} {a:Act} {w:World} (hm:P.follows .mixedOrders=true)
  (h:wpAnyG P .any ops Q S s ops.size (Array.replicate ops.size false) a { w with drawn:=w.drawn+1 }):(Code.region id ops true).wp P Q a w :=
 wp_region_any hm (wpAny_of_G _ _ _ _ h)
end
end Go.Proofs.YtgmkmeodimmdoaaGreatDoor
namespace Go.Proofs.YtgmkmeodimmdoaaGreatDoor
structure Cx where
 P:Program
 tb:Tb
 f:FuncId
 res:List ResultVar
 N:Nat
 R:Value→Hp→Prop
abbrev Pos:=Sum (List Item) (Sum (Array Oper×List Nat×List Item) (Array Oper×List (Nat×Bool)×List Nat×Option Hp×Nat×List Item))
@[reducible] def Pos.todo (k:List Item):Pos:=.inl k
@[reducible] def Pos.ops (o:Array Oper) (is:List Nat) (k:List Item):Pos:=.inr (.inl (o,is,k))
@[reducible] def Pos.any (o:Array Oper) (ord:List (Nat×Bool)) (hold:List Nat) (hq:Option Hp) (s:Nat) (k:List Item):Pos:=.inr (.inr (o,ord,hold,hq,s,k))
structure Sat (c:Cx) (ρ:Nat→Nat) (tm:Tm) (bx:List Bx) (h0:Hp) (w0:World) (h:Hp) (a:Act) (w:World):Prop where
 size:a.tmps.size=c.N
 defers:a.defers=[]
 holds:Holds ρ bx.length tm a
 boxes:Boxes ρ bx w0.heap.size h w
 inh:InH h w
 fr:Fr h0 w0 h w
def Fin (c:Cx) (h0:Hp) (w0:World) (fr:Frame) (cs:List Frame) (w:World):Prop :=
 ∃v h' w' fr',c.R v h'∧InH h' w'∧Fr h0 w0 h' w'∧Steps c.P (lone fr cs w) (lone fr' cs w')∧fr'.fn=c.f∧fr'.leaving c.P w' (.returned v)
def Rest (c:Cx) (h0:Hp) (w0:World) (k:List Item) (a:Act) (w:World):Prop :=
 ∀(b:Frame) (cs:List Frame),b.fn=c.f→b.kind=.normal→Fin c h0 w0 (b.at a k) cs w
def Qk (c:Cx) (h0:Hp) (w0:World) (k:List Item):Exit→Act→World→Prop:=fun e a w=>e=.normal∧Rest c h0 w0 k a w
def Sh (ρ:Nat→Nat) (bx:List Bx) (hold:List Nat) (hq:Option Hp) (w:World):Prop :=
 (∀i,i∈hold→∀B,bx[i]?=some B→w.heap[ρ i]?=some (.cells B.cs.toArray B.ty (0,0)))∧(∀g,hq=some g→InH g w)
def forkI (e:Nat):Nat:=(e-1000000) / 1000
def forkJ (e:Nat):Nat:=e % 1000
def without (j:Nat):List (Nat×Bool)→List (Nat×Bool)
 |[]=>[]
 |x::r=>match Nat.beq x.1 j with
  |true=>r
  |false=>match Nat.blt x.1 1000000,Nat.beq (forkJ x.1) j with
   |false,true=>(forkI x.1,false)::without j r
   |_,_=>x::without j r
def forkR (e:Nat) (r:List (Nat×Bool)):List (Nat×Bool):=(forkI e,false)::without (forkJ e) r
def triI (e:Nat):Nat:=(e-1000000000) / 1000000
def triJ (e:Nat):Nat:=e / 1000 % 1000
def triK (e:Nat):Nat:=e % 1000
def triR (x y:Nat) (r:List (Nat×Bool)):List (Nat×Bool):=(1000000+1000*x+y,false)::(y,false)::r.drop 2
def okOrdN (o:Array Oper) (s:Nat):Nat→Array Bool→List (Nat×Bool)→Bool
 |_,listed,[]=>(Region.ready .any o listed).isEmpty
 |0,_,_::_=>false
 |n+1,listed,(i,true)::r=>(Region.ready .any o listed).contains i&&Region.free .any o listed i&&waitsFor .any o s i&&(i != s)&&!listed.getD s false&&okOrdN o s n (listed.setIfInBounds i true) r
 |n+1,listed,(i,false)::r=>match Nat.blt i 1000000 with
  |true=>(Region.ready .any o listed==[i])&&okOrdN o s n (listed.setIfInBounds i true) r
  |false=>match Nat.blt i 1000000000 with
   |true=>((Region.ready .any o listed==[forkI i,forkJ i])||(Region.ready .any o listed==[forkJ i,forkI i]))&&(forkI i != s)&&(forkJ i != s)&&((forkR i r).length==r.length)&&okOrdN o s n (listed.setIfInBounds (forkI i) true) r&&okOrdN o s n (listed.setIfInBounds (forkJ i) true) (forkR i r)
   |false=>!(Region.ready .any o listed).isEmpty&&(Region.ready .any o listed).all (fun x=>x==triI i||(x==triJ i||x==triK i))&&(triI i != s)&&(triJ i != s)&&(triK i != s)&&((r.drop 2).length+2==r.length)&&okOrdN o s n (listed.setIfInBounds (triI i) true) (triR (triJ i) (triK i) r)&&okOrdN o s n (listed.setIfInBounds (triJ i) true) (triR (triI i) (triK i) r)&&okOrdN o s n (listed.setIfInBounds (triK i) true) (triR (triI i) (triJ i) r)
def okOrd (o:Array Oper) (s:Nat) (listed:Array Bool) (ord:List (Nat×Bool)):Bool:=okOrdN o s ord.length listed ord
def noSel:List Oper→Bool
 |[]=>true
 |o::r=>match o.op with
  |.select _ _=>false
  |_=>noSel r
structure W (c:Cx) (pos:Pos) (tm:Tm) (bx:List Bx) (h:Hp):Prop where
 run:∀h0 w0 ρ a w,Sat c ρ tm bx h0 w0 h a w→match pos with
  |.inl k=>Rest c h0 w0 k a w
  |.inr (.inl (o,is,k))=>noSel o.toList=true→wpOps c.P o (Qk c h0 w0 k) is a w
  |.inr (.inr (o,ord,hold,hq,s,k))=>∀(S:World→Prop) (listed:Array Bool),(listed.getD s false=false→(∀w',S w'↔Sh ρ bx hold hq w')∧(∀i,i∈hold→i<bx.length)∧∀g,hq=some g→g.le h)→okOrd o s listed ord=true→Region.noSelect o=true→c.P.follows .mixedOrders=true →
    wpAnyG c.P .any o (Qk c h0 w0 k) S s ord.length listed a w
def evV (tm:Tm) (x:Operand):Value :=
 match opd tm x with
 |some s=>(s.val?).getD undef
 |none=>undef
structure Rd (P:Program) (s:Sem Next) (g:Hp) (K:Value→Prop):Prop where
 run:∃v,(∀w,InH g w→s.run P w=.ok (.value v) w)∧K v
def forceL:List Value→(List Value→Prop)→Prop
 |[],k=>k []
 |x::r,k=>forceL r fun l=>k (x::l)
theorem forceL_eq:∀(l:List Value) (k:List Value→Prop),forceL l k=k l
 |[],_=>rfl
 |x::r,k=>by simp only [forceL];rw [forceL_eq r]
def forceN (n:Nat) (k:Nat→Prop):Prop :=
 match n with
 |0=>k 0|1=>k 1|2=>k 2|3=>k 3|4=>k 4|5=>k 5|6=>k 6|7=>k 7|8=>k 8|9=>k 9|10=>k 10|11=>k 11|12=>k 12|13=>k 13|14=>k 14|15=>k 15|16=>k 16|17=>k 17|18=>k 18|19=>k 19|20=>k 20
 |m=>k m
theorem forceN_eq (n:Nat) (k:Nat→Prop):forceN n k=k n:=by unfold forceN;split<;>rfl
def forceS (s:SV) (k:SV→Prop):Prop :=
 match s with
 |.inl x=>k (.v x)
 |.inr (.inl true)=>k (.b true)
 |.inr (.inl false)=>k (.b false)
 |.inr (.inr (.inl (i,o)))=>forceN i fun i=>forceN o fun o=>k (.p i o)
 |.inr (.inr (.inr cs))=>forceL cs fun cs=>k (.a cs)
theorem forceS_eq (s:SV) (k:SV→Prop):forceS s k=k s:=by
 unfold forceS
 split<;>simp [forceN_eq,forceL_eq]
def appB:List Bx→Bx→(List Bx→Prop)→Prop
 |[],y,k=>k [y]
 |x::r,y,k=>appB r y fun l=>k (x::l)
theorem appB_eq:∀(l:List Bx) (y:Bx) (k:List Bx→Prop),appB l y k=k (l++[y])
 |[],_,_=>rfl
 |x::r,y,k=>by simp only [appB];rw [appB_eq r];rfl
def setB:List Bx→Nat→Bx→(List Bx→Prop)→Prop
 |[],_,_,k=>k []
 |_::r,0,y,k=>k (y::r)
 |x::r,n+1,y,k=>setB r n y fun l=>k (x::l)
theorem setB_eq:∀(l:List Bx) (n:Nat) (y:Bx) (k:List Bx→Prop),setB l n y k=k (l.set n y)
 |[],_,_,_=>rfl
 |_::_,0,_,_=>rfl
 |x::r,n+1,y,k=>by simp only [setB];rw [setB_eq r];rfl
def putD (N:Nat) (dst:Option Tmp) (s:SV) (tm:Tm) (K:Tm→Prop):Prop :=
 match dst with
 |some d=>match Nat.blt d N with
  |true=>K ((d,s)::tm)
  |false=>False
 |none=>K tm
def inL:List Nat→Nat→Bool
 |[],_=>false
 |x::r,n=>match Nat.beq x n with
  |true=>true
  |false=>inL r n
theorem inL_eq:∀(l:List Nat) (n:Nat),inL l n=true↔n∈l
 |[],n=>by simp [inL]
 |x::r,n=>by
  unfold inL
  cases h:Nat.beq x n
  ·have:n≠x:=fun e=>by subst e;simp at h
   simp [inL_eq r n,this]
  ·simp [(Nat.eq_of_beq_eq_true h).symm]
def doOp (c:Cx) (hold:List Nat) (hq:Option Hp) (o:Oper) (tm:Tm) (bx:List Bx) (h:Hp) (K:Tm→List Bx→Hp→Prop):Prop :=
 match opR c.tb o.op tm bx with
 |.inl s=>forceS s fun s=>putD c.N o.dst s tm fun tm=>K tm bx h
 |.inr (.inl (i,off,vs))=>match inL hold i with
  |true=>False
  |false=>match boxAt bx i with
   |some B=>forceL (putL off vs B.cs) fun cs=>setB bx i ⟨B.ty,cs⟩ fun bx=>putD c.N o.dst (.v undef) tm fun tm=>K tm bx h
   |none=>False
 |.inr (.inr (.inl (t,cs)))=>forceL cs fun cs=>forceN bx.length fun n=>appB bx ⟨t,cs⟩ fun bx=>putD c.N o.dst (.p n 0) tm fun tm=>K tm bx h
 |.inr (.inr (.inr (.inl (f,vs))))=>match hq with
  |none=>Con c.P f vs.toArray h fun v h'=>putD c.N o.dst (svOf v) tm fun tm=>K tm bx h'
  |some g=>Con c.P f vs.toArray h fun v h'=>g.le h'∧putD c.N o.dst (svOf v) tm fun tm=>K tm bx h'
 |.inr (.inr (.inr (.inr (.inl _))))=>match vals tm o.op.operands.toList with
  |some _=>match hq with
   |none=>Ext c.P (execOp (evV tm) o) h fun v h'=>putD c.N o.dst (svOf (v.getD undef)) tm fun tm=>K tm bx h'
   |some g=>Ext c.P (execOp (evV tm) o) h fun v h'=>g.le h'∧putD c.N o.dst (svOf (v.getD undef)) tm fun tm=>K tm bx h'
  |none=>False
 |.inr (.inr (.inr (.inr (.inr _))))=>False
def stepOp (c:Cx) (hold:List Nat) (hq:Option Hp) (os:Array Oper) (i:Nat) (tm:Tm) (bx:List Bx) (h:Hp) (K:Tm→List Bx→Hp→Prop):Prop :=
 match os[i]? with
 |none=>K tm bx h
 |some o=>match o.guard with
  |none=>doOp c hold hq o tm bx h K
  |some (j,want)=>match (os[j]?).bind (·.dst) with
   |some t=>match look tm t with
    |some (.inr (.inl x))=>match x==want with
     |true=>doOp c hold hq o tm bx h K
     |false=>putD c.N o.dst (.v undef) tm fun tm=>K tm bx h
    |some (.inl (.bool x))=>(x=want→doOp c hold hq o ((t,.b want)::tm) bx h K)∧(x=(!want)→putD c.N o.dst (.v undef) ((t,.b (!want))::tm) fun tm=>K tm bx h)
    |some (.inl (.tuple _))=>putD c.N o.dst (.v undef) tm fun tm=>K tm bx h
    |_=>False
   |none=>False
def floatOp (c:Cx) (hold:List Nat) (hq:Option Hp) (o:Oper) (tm:Tm) (bx:List Bx) (K:Tm→Prop):Prop :=
 match opR c.tb o.op tm bx with
 |.inl s=>match loadsFrom o.op tm with
  |none=>forceS s fun s=>putD c.N o.dst s tm K
  |some i=>match inL hold i with
   |true=>forceS s fun s=>putD c.N o.dst s tm K
   |false=>False
 |.inr (.inr (.inr (.inr (.inl _))))=>match vals tm o.op.operands.toList with
  |some _=>Rd c.P (execOp (evV tm) o) (hq.getD fun _=>none) fun v=>putD c.N o.dst (svOf v) tm K
  |none=>False
 |_=>False
def floatStep (c:Cx) (hold:List Nat) (hq:Option Hp) (os:Array Oper) (i:Nat) (tm:Tm) (bx:List Bx) (K:Tm→Prop):Prop :=
 match os[i]? with
 |none=>False
 |some o=>match o.guard with
  |none=>floatOp c hold hq o tm bx K
  |some (j,want)=>match (os[j]?).bind (·.dst) with
   |some t=>match look tm t with
    |some (.inr (.inl x))=>match x==want with
     |true=>floatOp c hold hq o tm bx K
     |false=>putD c.N o.dst (.v undef) tm K
    |some (.inl (.bool x))=>(x=want→floatOp c hold hq o ((t,.b want)::tm) bx K)∧(x=(!want)→putD c.N o.dst (.v undef) ((t,.b (!want))::tm) K)
    |some (.inl (.tuple _))=>putD c.N o.dst (.v undef) tm K
    |_=>False
   |none=>False
def resV (tb:Tb) (tm:Tm) (bx:List Bx):List ResultVar→Option (List Value)
 |[]=>some []
 |.tmp t::r=>match look tm t with
  |some s=>match s.val? with
   |some v=>match resV tb tm bx r with
    |some vs=>some (v::vs)
    |none=>none
   |none=>none
  |none=>none
 |.cell a t::r=>match look tm a with
  |some (.inr (.inr (.inl (i,off))))=>match boxAt bx i with
   |some B=>match tbl tb t with
    |some ti=>match ti.ag with
     |true=>match Nat.ble (off+ti.sz) B.cs.length with
      |true=>match resV tb tm bx r with
       |some vs=>some (.agg ((B.cs.drop off).take ti.sz).toArray::vs)
       |none=>none
      |false=>none
     |false=>match nth B.cs off with
      |some v=>match resV tb tm bx r with
       |some vs=>some (v::vs)
       |none=>none
      |none=>none
    |none=>none
   |none=>none
  |_=>none
def oneOf:List Value→Value
 |[v]=>v
 |vs=>.tuple vs.toArray
def retP (c:Cx) (tm:Tm) (bx:List Bx) (h:Hp):Prop :=
 match resV c.tb tm bx c.res with
 |some vs=>forceL vs fun vs=>c.R (oneOf vs) h
 |none=>False
def vc (c:Cx):Nat→Pos→Tm→List Bx→Hp→Prop
 |0,pos,tm,bx,h=>W c pos tm bx h
 |n+1,.inl items,tm,bx,h=>match items with
  |[]=>retP c tm bx h
  |.code .skip::k=>vc c n (.todo k) tm bx h
  |.code (.label _)::k=>vc c n (.todo k) tm bx h
  |.inBlock _::k=>vc c n (.todo k) tm bx h
  |.inScope _::k=>vc c n (.todo k) tm bx h
  |.code (.seq x y)::k=>vc c n (.todo (.code x::.code y::k)) tm bx h
  |.code (.block id x)::k=>vc c n (.todo (.code x::.inBlock id::k)) tm bx h
  |.code (.scope x)::k=>vc c n (.todo (.code x::.inScope x::k)) tm bx h
  |.code (.exit id)::k=>match exitTo id k with
   |some k'=>vc c n (.todo k') tm bx h
   |none=>False
  |.code .ret::_=>retP c tm bx h
  |.code (.cond x y z)::k=>match opd tm x with
   |some (.inr (.inl true))=>vc c n (.todo (.code y::k)) tm bx h
   |some (.inr (.inl false))=>vc c n (.todo (.code z::k)) tm bx h
   |some (.inl (.bool t))=>match x with
    |.tmp s=>(t=true→vc c n (.todo (.code y::k)) ((s,.b true)::tm) bx h)∧(t=false→vc c n (.todo (.code z::k)) ((s,.b false)::tm) bx h)
    |_=>(t=true→vc c n (.todo (.code y::k)) tm bx h)∧(t=false→vc c n (.todo (.code z::k)) tm bx h)
   |_=>False
  |.code (.region _ o false)::k=>match noSel o.toList with
   |true=>vc c n (.ops o (List.range o.size) k) tm bx h
   |false=>False
  |its=>W c (.todo its) tm bx h
 |n+1,.inr (.inl (o,is,k)),tm,bx,h=>match is with
  |[]=>vc c n (.todo k) tm bx h
  |i::r=>stepOp c [] none o i tm bx h fun tm bx h=>vc c n (.ops o r k) tm bx h
 |n+1,.inr (.inr (o,ord,hold,hq,s,k)),tm,bx,h=>match ord with
  |[]=>vc c n (.todo k) tm bx h
  |(i,true)::r=>floatStep c hold hq o i tm bx fun tm=>vc c n (.any o r hold hq s k) tm bx h
  |(i,false)::r=>match Nat.blt i 1000000 with
   |true=>match Nat.beq i s with
    |true=>stepOp c [] none o i tm bx h fun tm bx h=>vc c n (.any o r [] none s k) tm bx h
    |false=>stepOp c hold hq o i tm bx h fun tm bx h=>vc c n (.any o r hold hq s k) tm bx h
   |false=>match Nat.blt i 1000000000 with
    |true=>(stepOp c hold hq o (forkI i) tm bx h fun tm bx h=>vc c n (.any o r hold hq s k) tm bx h)∧(stepOp c hold hq o (forkJ i) tm bx h fun tm bx h=>vc c n (.any o (forkR i r) hold hq s k) tm bx h)
    |false=>(stepOp c hold hq o (triI i) tm bx h fun tm bx h=>vc c n (.any o (triR (triJ i) (triK i) r) hold hq s k) tm bx h)∧(stepOp c hold hq o (triJ i) tm bx h fun tm bx h=>vc c n (.any o (triR (triI i) (triK i) r) hold hq s k) tm bx h)∧(stepOp c hold hq o (triK i) tm bx h fun tm bx h=>vc c n (.any o (triR (triI i) (triJ i) r) hold hq s k) tm bx h)
end Go.Proofs.YtgmkmeodimmdoaaGreatDoor
