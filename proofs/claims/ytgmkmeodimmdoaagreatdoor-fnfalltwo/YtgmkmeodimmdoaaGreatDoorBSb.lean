import Derived.Test.YtgmkmeodimmdoaaGreatDoorBSa
import Derived.Below
import Derived.Laws.AppendOwn
import Derived.Laws.OwnMore
import Derived.Deep.AppendLies
import Derived.Maps.AppendAt
namespace Go.Proofs.YtgmkmeodimmdoaaGreatDoor
variable {c:Cx} {ρ:Nat→Nat} {tm:Tm} {bx:List Bx} {h0:Hp} {w0:World} {h:Hp} {a:Act} {w:World}
theorem Sat.put {K:Tm→Prop} {dst:Option Tmp} {s:SV} (hs:Sat c ρ tm bx h0 w0 h a w) (hp:putD c.N dst s tm K) (hl:∀j o,s=.p j o→j<bx.length) :
  ∃tm',K tm'∧Sat c ρ tm' bx h0 w0 h (a.put dst (s.den ρ)) w:=by
 unfold putD at hp
 cases dst with
 |none=>exact⟨tm,hp,hs⟩
 |some d =>
  simp only at hp
  cases hb:Nat.blt d c.N
  ·rw [hb] at hp;exact hp.elim
  ·rw [hb] at hp;have hd:d<a.tmps.size:=by rw [hs.size];simpa using hb
   exact⟨_,hp,by simp [Act.put,hs.size],hs.defers,hs.holds.put d s hd hl,hs.boxes,hs.inh,hs.fr⟩
theorem vals_ev:∀{xs:List Operand} {vs:List Value},vals tm xs=some vs→∀x∈xs,∃s v,opd tm x=some s∧s.val?=some v
 |[],_,_,x,hx=>by cases hx
 |y::r,vs,e,x,hx=>by
  simp only [vals] at e
  split at e<;>(try cases e)
  rename_i s hs
  split at e<;>(try cases e)
  rename_i v hv
  split at e<;>(try cases e)
  rename_i us hu
  rcases List.mem_cons.1 hx with rfl|hx
  ·exact⟨s,v,hs,hv⟩
  ·exact vals_ev hu x hx
theorem ext_same {nb:Nat} (hh:Holds ρ nb tm a) {o:Oper} {vs:List Value} (hv:vals tm o.op.operands.toList=some vs) (hn:∀cs b,o.op≠.select cs b):execOp a.eval o=execOp (evV tm) o:=by
 refine execOp_congr o hn fun x hx=>?_
 obtain⟨s,v,h1,h2⟩:=vals_ev hv x (by simpa using hx);rw [hh.opd h1,SV.val?_den h2];simp [evV,h1,h2]
def Next' (c:Cx) (h0:Hp) (w0:World) (hold:List Nat) (hq:Option Hp) (ρ:Nat→Nat) (bx:List Bx) (h:Hp) (K:Tm→List Bx→Hp→Prop) (KK:Act→World→Prop):Prop :=
 ∀tm' bx' h' ρ' a' w',K tm' bx' h'→Sat c ρ' tm' bx' h0 w0 h' a' w'→bx.length≤bx'.length→(∀i,i<bx.length→ρ' i=ρ i) →
  (∀i,i∈hold→i<bx.length→bx'[i]?=bx[i]?)→(∀g,hq=some g→g.le h→g.le h')→KK a' w'
theorem heap_none {h:Hp} {w:World} (hi:InH h w):h w.heap.size=none:=by
 cases e:h w.heap.size with
 |none=>rfl
 |some o=>exact absurd (hi.lt e) (Nat.lt_irrefl _)
theorem doOp_ok (htb:TbOk c.P c.tb) {hold:List Nat} {hq:Option Hp} {o:Oper} {K:Tm→List Bx→Hp→Prop} (hd:doOp c hold hq o tm bx h K) (hs:Sat c ρ tm bx h0 w0 h a w) (hn:∀cs b,o.op≠.select cs b)
  {KK:Act→World→Prop} {Q:Exit→Act→World→Prop} (hk:Next' c h0 w0 hold hq ρ bx h K KK):o.wp c.P a w KK Q:=by
 have hdo:=opR_ok (P:=c.P) htb (w:=w) hs.holds o (fun i B _ hB=>hs.boxes.at_ i B hB);unfold doOp at hd;unfold Oper.wp;rcases hr:opR c.tb o.op tm bx with s|⟨i,off,vs⟩|⟨t,cs⟩|⟨f,vs⟩|_|_
 ·
  rw [hr] at hd hdo;simp only [forceS_eq] at hd;obtain⟨h1,h2⟩:=hdo;obtain⟨tm',k1,k2⟩:=hs.put hd h2;rw [h1];exact hk tm' bx h ρ _ w k1 k2 (Nat.le_refl _) (fun _ _=>rfl) (fun _ _ _=>rfl) (fun _ _ e=>e)
 ·
  rw [hr] at hd hdo;obtain⟨hi,B,hB,hle,hone,hrun⟩:=hdo;simp only at hd
  cases hin:inL hold i
  ·rw [hin] at hd;simp only [boxAt_eq,hB,forceL_eq,setB_eq] at hd;obtain⟨w',g1,g2,g3,g4,g5,g6,g7⟩:=store_row c.P w (ρ i) off B.ty B.cs vs (hs.boxes.at_ i B hB) hle hone;rw [hrun w' g1];have hlt:=hs.boxes.lt hi;have hs':Sat c ρ tm (bx.set i ⟨B.ty,putL off vs B.cs⟩) h0 w0 h a w' :=
    ⟨hs.size,hs.defers,hs.holds.ren (fun _ _=>rfl) (by simp),hs.boxes.set i ⟨B.ty,putL off vs B.cs⟩ hi g2 g3,
     fun b x e=>by rw [g3 b (fun e2=>by subst e2;rw [hs.boxes.no i hi] at e;cases e)];exact hs.inh b x e,
     hs.fr.own g4 g5 g6 (by omega) (ρ i) (hs.boxes.high i hi) (fun b _ hb=>g3 b hb)⟩
   obtain⟨tm',k1,k2⟩:=hs'.put hd (fun j o e=>by cases e);refine hk tm' _ h ρ _ w' k1 k2 (by simp) (fun _ _=>rfl) (fun j hj hjl=>?_) (fun _ _ e=>e);have:i≠j:=fun e=>by subst e;rw [(inL_eq hold i).2 hj] at hin;cases hin
   rw [List.getElem?_set_ne this]
  ·rw [hin] at hd;exact hd.elim
 ·
  rw [hr] at hd hdo;simp only [forceL_eq,forceN_eq,appB_eq] at hd;simp only [Does] at hdo;rw [hdo];have hb:=hs.boxes.new (w':=w.alloc (.cells cs.toArray t)) hs.fr.size (heap_none hs.inh) t cs (heap_alloc_new w _) (fun k hk=>heap_alloc_old w _ hk);have hs':Sat c (fun i=>if i=bx.length then w.heap.size else ρ i) tm (bx++[⟨t,cs⟩]) h0 w0 h a (w.alloc (.cells cs.toArray t)) :=
   ⟨hs.size,hs.defers,hs.holds.ren (fun i hi=>by simp [Nat.ne_of_lt hi]) (by simp),hb,
    fun b x e=>by rw [heap_alloc_old w _ (hs.inh.lt e)];exact hs.inh b x e,
    hs.fr.own rfl rfl rfl (by simp) w.heap.size hs.fr.size (fun b hb _=>heap_alloc_old w _ hb)⟩
  obtain⟨tm',k1,k2⟩:=hs'.put hd (fun j o e=>by cases e;simp);have hden:(SV.p bx.length 0).den (fun i=>if i=bx.length then w.heap.size else ρ i)=.pointer (some ⟨w.heap.size,0,none⟩):=by simp [SV.den]
  rw [hden] at k2;exact hk tm' _ h _ _ _ k1 k2 (by simp) (fun i hi=>by simp [Nat.ne_of_lt hi]) (fun j hj hjl=>by rw [List.getElem?_append_left hjl]) (fun _ _ e=>e)
 ·
  rw [hr] at hd hdo;simp only [Does] at hdo;simp only at hd;have key:∀(R:Value→Hp→Prop),Con c.P f vs.toArray h R→(∀v h' w',R v h'→InH h' w'→Fr h w h' w'→KK (a.put o.dst v) w')→o.upon c.P a KK Q ((execOp a.eval o).run c.P w):=by
   intro R hc hR;rw [hdo,hc.ent];refine(hc.run w hs.inh).mono fun e w' ⟨v,h',he,hr',hi',hf'⟩=>?_
   subst he;exact hR v h' w' hr' hi' hf'
  have fin:∀v h' w',putD c.N o.dst (svOf v) tm (fun tm=>K tm bx h')→(∀g,hq=some g→g.le h→g.le h')→InH h' w'→Fr h w h' w'→KK (a.put o.dst v) w':=by
   intro v h' w' hp hg hi' hf';have hs':Sat c ρ tm bx h0 w0 h' a w':=⟨hs.size,hs.defers,hs.holds,hs.boxes.step hf',hi',hs.fr.trans hf'⟩;obtain⟨tm',k1,k2⟩:=hs'.put hp (fun j o e=>by cases v<;>simp [svOf] at e);rw [svOf_den] at k2;exact hk tm' bx h' ρ _ w' k1 k2 (Nat.le_refl _) (fun _ _=>rfl) (fun _ _ _=>rfl) hg
  cases hq with
  |none=>exact key _ hd fun v h' w' hp hi' hf'=>fin v h' w' hp (fun g e=>by cases e) hi' hf'
  |some g=>exact key _ hd fun v h' w' hp hi' hf'=>fin v h' w' hp.2 (fun g' e _=>by cases e;exact hp.1) hi' hf'
 ·
  rw [hr] at hd;simp only at hd
  cases hv:vals tm o.op.operands.toList with
  |none=>rw [hv] at hd;exact hd.elim
  |some vs =>
   rw [hv] at hd;simp only at hd;have hsame:=ext_same hs.holds hv hn;have fin:∀(v:Value) h' w',putD c.N o.dst (svOf v) tm (fun tm=>K tm bx h')→(∀g,hq=some g→g.le h→g.le h')→InH h' w'→Fr h w h' w'→KK (a.put o.dst v) w':=by
    intro v h' w' hp hg hi' hf';have hs':Sat c ρ tm bx h0 w0 h' a w':=⟨hs.size,hs.defers,hs.holds,hs.boxes.step hf',hi',hs.fr.trans hf'⟩;obtain⟨tm',k1,k2⟩:=hs'.put hp (fun j o e=>by cases v<;>simp [svOf] at e);rw [svOf_den] at k2;exact hk tm' bx h' ρ _ w' k1 k2 (Nat.le_refl _) (fun _ _=>rfl) (fun _ _ _=>rfl) hg
   have key:∀(R:Option Value→Hp→Prop),Ext c.P (execOp (evV tm) o) h R→(∀v h' w',R v h'→InH h' w'→Fr h w h' w'→KK (a.put o.dst (v.getD undef)) w')→o.upon c.P a KK Q ((execOp a.eval o).run c.P w):=by
    intro R he hR;obtain⟨n,w',v,h',e1,e2,e3,e4,e5⟩:=he.run w hs.inh;rw [hsame,e1];rcases e2 with⟨rfl,_⟩|⟨rfl,rfl⟩
    ·exact hR v h' w' e3 e4 e5
    ·exact hR none h' w' e3 e4 e5
   cases hq with
   |none=>exact key _ hd fun v h' w' hp hi' hf'=>fin _ h' w' hp (fun g e=>by cases e) hi' hf'
   |some g=>exact key _ hd fun v h' w' hp hi' hf'=>fin _ h' w' hp.2 (fun g' e _=>by cases e;exact hp.1) hi' hf'
 ·rw [hr] at hd;exact hd.elim
theorem Sat.lit (hs:Sat c ρ tm bx h0 w0 h a w) {t:Nat} {x:Bool} (e:look tm t=some (.v (.bool x))):Sat c ρ ((t,.b x)::tm) bx h0 w0 h a w:=by
 refine⟨hs.size,hs.defers,⟨fun i s hi=>?_,fun i j o hi=>?_⟩,hs.boxes,hs.inh,hs.fr⟩
 ·rw [look_cons] at hi
  split at hi
  ·rename_i hti;subst hti;cases hi;exact hs.holds.at_ t (.v (.bool x)) e
  ·exact hs.holds.at_ i s hi
 ·rw [look_cons] at hi
  split at hi
  ·cases hi
  ·exact hs.holds.low i j o hi
theorem putD_skip {K:Tm→Prop} {dst:Option Tmp} (hs:Sat c ρ tm bx h0 w0 h a w) (hp:putD c.N dst (.v undef) tm K):∃tm',K tm'∧Sat c ρ tm' bx h0 w0 h (a.put dst undef) w :=
 hs.put hp (fun j o e=>by cases e)
def boolV:Value→Option Bool
 |.bool b=>some b
 |_=>none
theorem yield_of {os:Array Oper} {j t:Nat} (hj:(os[j]?).bind (·.dst)=some t) {v:Value} (hv:a.tmps[t]?=some v):yielded os a.tmps j=boolV v:=by
 unfold yielded;rw [hj];simp only [Option.bind_some,hv]
 cases v<;>rfl
theorem stepOp_ok (htb:TbOk c.P c.tb) {hold:List Nat} {hq:Option Hp} {os:Array Oper} {i:Nat} {K:Tm→List Bx→Hp→Prop} (hd:stepOp c hold hq os i tm bx h K) (hs:Sat c ρ tm bx h0 w0 h a w) (hn:∀(j:Nat) (o:Oper) cs b,os[j]?=some o→o.op≠.select cs b)
  {KK:Act→World→Prop} {Q:Exit→Act→World→Prop} (hk:Next' c h0 w0 hold hq ρ bx h K KK):wpOp c.P os Q i KK a w:=by
 unfold stepOp at hd;unfold wpOp;have skip:∀{tm1:Tm} {o:Oper},Sat c ρ tm1 bx h0 w0 h a w→putD c.N o.dst (.v undef) tm1 (fun tm=>K tm bx h)→KK (a.put o.dst undef) w:=by
  intro tm1 o hs1 hp;obtain⟨tm',k1,k2⟩:=putD_skip hs1 hp;exact hk tm' bx h ρ _ w k1 k2 (Nat.le_refl _) (fun _ _=>rfl) (fun _ _ _=>rfl) (fun _ _ e=>e)
 cases ho:os[i]? with
 |none =>
  rw [ho] at hd;exact hk tm bx h ρ a w hd hs (Nat.le_refl _) (fun _ _=>rfl) (fun _ _ _=>rfl) (fun _ _ e=>e)
 |some o =>
  rw [ho] at hd;simp only at hd ⊢
  cases hg:o.guard with
  |none =>
   rw [hg] at hd;have hw:Region.wanted o (yielded os a.tmps)=true:=by simp [Region.wanted,hg]
   rw [if_pos hw];exact .inl (doOp_ok htb hd hs (hn i o · · ho) hk)
  |some jw =>
   obtain⟨j,want⟩:=jw;rw [hg] at hd;simp only at hd
   cases hj:(os[j]?).bind (·.dst) with
   |none=>rw [hj] at hd;exact hd.elim
   |some t =>
    rw [hj] at hd;simp only at hd;have hwant:∀v,a.tmps[t]?=some v→Region.wanted o (yielded os a.tmps)=(boolV v==some want):=fun v hv=>by
     simp only [Region.wanted,hg];rw [yield_of hj hv]
    have no:∀{x:Bool},Region.wanted o (yielded os a.tmps)=x→x=false→¬Region.wanted o (yielded os a.tmps)=true:=fun e1 e2=>by rw [e1,e2];exact Bool.false_ne_true
    split at hd
    ·rename_i x hx
     have hw:=hwant _ (hs.holds.at_ t _ hx)
     split at hd
     ·rename_i he
      have hxe:x=want:=by simpa using he
      subst hxe;rw [if_pos (hw.trans (by simp [SV.den,boolV]))];exact .inl (doOp_ok htb hd hs (hn i o · · ho) hk)
     ·rename_i he
      rw [if_neg (no hw (by cases x<;>cases want<;>first|rfl|(simp at he)))];exact skip hs hd
    ·rename_i x hx
     have hw:=hwant _ (hs.holds.at_ t _ hx);have hl:=hs.lit hx;rcases Decidable.em (x=want) with he|he
     ·subst he;rw [if_pos (hw.trans (by simp [SV.den,boolV]))];exact .inl (doOp_ok htb (hd.1 rfl) hl (hn i o · · ho) hk)
     ·have h1:x=!want:=by cases x<;>cases want<;>simp_all
      rw [if_neg (no hw (by cases x<;>cases want<;>first|rfl|(simp at he)))];rw [←h1] at hd;exact skip hl (hd.2 rfl)
    ·rename_i vs hx
     have hw:=hwant _ (hs.holds.at_ t _ hx);rw [if_neg (no hw rfl)];exact skip hs hd
    ·exact hd.elim
end Go.Proofs.YtgmkmeodimmdoaaGreatDoor
namespace Go.Proofs.YtgmkmeodimmdoaaGreatDoor
variable {c:Cx} {ρ:Nat→Nat} {tm:Tm} {bx:List Bx} {h0:Hp} {w0:World} {h:Hp} {a:Act} {w:World}
theorem floatOp_ok (htb:TbOk c.P c.tb) {hold:List Nat} {hq:Option Hp} {o:Oper} {K:Tm→Prop} (hd:floatOp c hold hq o tm bx K) (hs:Sat c ρ tm bx h0 w0 h a w) (hn:∀cs b,o.op≠.select cs b) {S:World→Prop} (hS:∀w',S w'→Sh ρ bx hold hq w') :
  ∃v tm',(∀w',S w'→(execOp a.eval o).run c.P w'=.ok (.value v) w')∧K tm'∧Sat c ρ tm' bx h0 w0 h (a.put o.dst v) w:=by
 unfold floatOp at hd;rcases hr:opR c.tb o.op tm bx with s|⟨i,off,vs⟩|⟨t,cs⟩|⟨f,vs⟩|_|_
 ·
  rw [hr] at hd;simp only at hd;have run:∀(w':World),(∀i B,loadsFrom o.op tm=some i→bx[i]?=some B→w'.heap[ρ i]?=some (.cells B.cs.toArray B.ty (0,0)))→(execOp a.eval o).run c.P w'=.ok (.value (s.den ρ)) w'∧∀j k,s=.p j k→j<bx.length:=fun w' hl=>by
   have:=opR_ok (P:=c.P) htb (w:=w') hs.holds o hl;rw [hr] at this;exact this
  have h2:=(run w (fun i B _ hB=>hs.boxes.at_ i B hB)).2
  split at hd
  ·rename_i hl
   simp only [forceS_eq] at hd;obtain⟨tm',k1,k2⟩:=hs.put hd h2;exact⟨_,tm',fun w' _=>(run w' (fun i B e=>by rw [hl] at e;cases e)).1,k1,k2⟩
  ·rename_i i hl
   split at hd
   ·rename_i hi
    simp only [forceS_eq] at hd;obtain⟨tm',k1,k2⟩:=hs.put hd h2;refine⟨_,tm',fun w' hw'=>(run w' (fun j B e hB=>?_)).1,k1,k2⟩;rw [hl] at e
    cases e
    exact(hS w' hw').1 i ((inL_eq hold i).1 hi) B hB
   ·exact hd.elim
 ·rw [hr] at hd;exact hd.elim
 ·rw [hr] at hd;exact hd.elim
 ·rw [hr] at hd;exact hd.elim
 ·
  rw [hr] at hd;simp only at hd
  split at hd
  ·rename_i vs hv
   obtain⟨v,e1,e2⟩:=hd.run;have hsame:=ext_same hs.holds hv hn;obtain⟨tm',k1,k2⟩:=hs.put e2 (fun j o e=>by cases v<;>simp [svOf] at e);rw [svOf_den] at k2;refine⟨v,tm',fun w' hw'=>?_,k1,k2⟩;rw [hsame];refine e1 w' ?_
   cases hq with
   |none=>exact fun b o e=>by cases e
   |some g=>exact(hS w' hw').2 g rfl
  ·exact hd.elim
 ·rw [hr] at hd;exact hd.elim
theorem floatStep_ok (htb:TbOk c.P c.tb) {hold:List Nat} {hq:Option Hp} {os:Array Oper} {i:Nat} {K:Tm→Prop} (hd:floatStep c hold hq os i tm bx K) (hs:Sat c ρ tm bx h0 w0 h a w) (hn:∀(j:Nat) (o:Oper) cs b,os[j]?=some o→o.op≠.select cs b) {S:World→Prop} (hS:∀w',S w'→Sh ρ bx hold hq w') :
  ∃o v tm',os[i]?=some o∧YieldsIf c.P os S o v a∧K tm'∧Sat c ρ tm' bx h0 w0 h (a.put o.dst v) w:=by
 unfold floatStep at hd
 cases ho:os[i]? with
 |none=>rw [ho] at hd;exact hd.elim
 |some o =>
  rw [ho] at hd;simp only at hd;refine⟨o,?_⟩
  cases hg:o.guard with
  |none =>
   rw [hg] at hd;obtain⟨v,tm',e1,e2,e3⟩:=floatOp_ok htb hd hs (hn i o · · ho) hS;exact⟨v,tm',rfl,.inl ⟨by simp [Region.wanted,hg],e1⟩,e2,e3⟩
  |some jw =>
   obtain⟨j,want⟩:=jw;rw [hg] at hd;simp only at hd
   cases hj:(os[j]?).bind (·.dst) with
   |none=>rw [hj] at hd;exact hd.elim
   |some t =>
    rw [hj] at hd;simp only at hd;have hwant:∀v,a.tmps[t]?=some v→Region.wanted o (yielded os a.tmps)=(boolV v==some want):=fun v hv=>by
     simp only [Region.wanted,hg];rw [yield_of hj hv]
    have skip:∀{tm1:Tm},Sat c ρ tm1 bx h0 w0 h a w→Region.wanted o (yielded os a.tmps)=false→putD c.N o.dst (.v undef) tm1 K→∃v tm',some o=some o∧YieldsIf c.P os S o v a∧K tm'∧Sat c ρ tm' bx h0 w0 h (a.put o.dst v) w:=by
     intro tm1 hs1 hw hp;obtain⟨tm',k1,k2⟩:=putD_skip hs1 hp;exact⟨undef,tm',rfl,.inr ⟨hw,rfl⟩,k1,k2⟩
    split at hd
    ·rename_i x hx
     have hw:=hwant _ (hs.holds.at_ t _ hx)
     split at hd
     ·rename_i he
      have hxe:x=want:=by simpa using he
      subst hxe;obtain⟨v,tm',e1,e2,e3⟩:=floatOp_ok htb hd hs (hn i o · · ho) hS;exact⟨v,tm',rfl,.inl ⟨hw.trans (by simp [SV.den,boolV]),e1⟩,e2,e3⟩
     ·rename_i he
      exact skip hs (hw.trans (by cases x<;>cases want<;>first|rfl|(simp at he))) hd
    ·rename_i x hx
     have hw:=hwant _ (hs.holds.at_ t _ hx);have hl:=hs.lit hx;rcases Decidable.em (x=want) with he|he
     ·subst he;obtain⟨v,tm',e1,e2,e3⟩:=floatOp_ok htb (hd.1 rfl) hl (hn i o · · ho) hS;exact⟨v,tm',rfl,.inl ⟨hw.trans (by simp [SV.den,boolV]),e1⟩,e2,e3⟩
     ·have h1:x=!want:=by cases x<;>cases want<;>simp_all
      rw [←h1] at hd;exact skip hl (hw.trans (by cases x<;>cases want<;>first|rfl|(simp at he))) (hd.2 rfl)
    ·rename_i vs hx
     exact skip hs (hwant _ (hs.holds.at_ t _ hx)) hd
    ·exact hd.elim
theorem Fin.steps {fr fr':Frame} {cs:List Frame} {w':World} (hst:Steps c.P (lone fr cs w) (lone fr' cs w')) (hf:Fin c h0 w0 fr' cs w'):Fin c h0 w0 fr cs w:=by
 obtain⟨v,h',w'',fr'',e1,e2,e3,e4,e5,e6⟩:=hf;exact⟨v,h',w'',fr'',e1,e2,e3,hst.trans e4,e5,e6⟩
theorem Rest.one {k k':List Item} (hst:∀(b:Frame) cs,step c.P (lone (b.at a k) cs w)=.next (lone (b.at a k') cs w)) (hr:Rest c h0 w0 k' a w):Rest c h0 w0 k a w :=
 fun b cs hf hk=>(hr b cs hf hk).steps (.one (hst b cs))
def rf (tmps:Array Value) (x:ResultVar):Sem Value :=
 match x with
 |.tmp t=>pure (tmps.getD t undef)
 |.cell p t=>do loadVar t (←asAddr (tmps.getD p undef))
theorem results_rf (fn:Func) (tmps:Array Value):results fn tmps=(do let vs ←fn.results.mapM (rf tmps);pure (if h:vs.size=1 then vs[0] else .tuple vs)):=rfl
theorem resV_run (htb:TbOk c.P c.tb) (hs:Sat c ρ tm bx h0 w0 h a w):∀{l:List ResultVar} {vs:List Value},resV c.tb tm bx l=some vs →
  (List.mapM (m:=Sem) (rf a.tmps) l).run c.P w=.ok vs w
 |[],vs,e=>by simp [resV] at e;subst e;rfl
 |.tmp t::r,vs,e=>by
  simp only [resV] at e
  split at e<;>(try cases e)
  rename_i s hls
  split at e<;>(try cases e)
  rename_i v hv
  split at e<;>(try cases e)
  rename_i us hu
  have:=hs.holds.at_ t s hls;rw [List.mapM_cons,show rf a.tmps (.tmp t)=pure v by simp [rf,this,SV.val?_den hv]];simp only [Sem.run_bind,Sem.run_pure,Result.andThen_ok,resV_run htb hs hu]
 |.cell p t::r,vs,e=>by
  simp only [resV] at e
  split at e<;>(try cases e)
  rename_i i off hls
  split at e<;>(try cases e)
  rename_i B hB
  rw [boxAt_eq] at hB
  split at e<;>(try cases e)
  rename_i ti hti
  have hp:=hs.holds.at_ p _ hls;have hrun:=run_load_box (htb.at_ hti) w (ρ i) off B (hs.boxes.at_ i B hB);have hget:a.tmps.getD p undef=.pointer (some ⟨ρ i,off,none⟩):=by simp [hp,SV.den]
  rw [List.mapM_cons,show rf a.tmps (.cell p t)=(do loadVar t (←asAddr (a.tmps.getD p undef))) from rfl];have hasA:(asAddr (.pointer (some ⟨ρ i,off,none⟩))).run c.P w=.ok ⟨ρ i,off,none⟩ w:=rfl;have hload:∀v,(Instr.loadAt t (.pointer (some ⟨ρ i,off,none⟩))).run c.P w=.ok v w→(loadVar t ⟨ρ i,off,none⟩).run c.P w=.ok v w:=fun v hv=>by
   simpa only [Instr.loadAt,Instr.sureAddr,Sem.run_bind,Sem.run_pure,Result.andThen_ok] using hv
  split at e
  ·rename_i hag
   split at e<;>(try cases e)
   rename_i hle
   split at e<;>(try cases e)
   rename_i us hu
   have hl:=hload _ (hrun.1 hag (by simpa using hle));simp only [Sem.run_bind,hget,hasA,Sem.run_pure,Result.andThen_ok,hl,resV_run htb hs hu]
  ·rename_i hag
   split at e<;>(try cases e)
   rename_i v hv
   rw [nth_eq] at hv
   split at e<;>(try cases e)
   rename_i us hu
   have hl:=hload _ (hrun.2 hag v hv);simp only [Sem.run_bind,hget,hasA,Sem.run_pure,Result.andThen_ok,hl,resV_run htb hs hu]
theorem ret_ok (htb:TbOk c.P c.tb) {fn:Func} (hf:c.P.funcs[c.f]?=some fn) (hres:fn.results=c.res.toArray) (hr:retP c tm bx h) (hs:Sat c ρ tm bx h0 w0 h a w) {items:List Item}
  (hst:∀(b:Frame) cs,step c.P (lone (b.at a items) cs w)=.next (lone { b.at a items with mode:=.returning } cs w)):Rest c h0 w0 items a w:=by
 intro b cs hb hk;unfold retP at hr
 split at hr
 ·rename_i vs hvs
  rw [forceL_eq] at hr;refine⟨oneOf vs,h,w,{ b.at a items with mode:=.returning },hr,hs.inh,hs.fr,.one (hst b cs),hb,rfl,hs.defers,hk,fn,?_,?_⟩
  ·show c.P.funcs[b.fn]?=some fn;rw [hb];exact hf
  ·have:=resV_run htb hs hvs;show (results fn a.tmps).run c.P w=_;rw [results_rf,hres];simp only [Array.mapM_eq_mapM_toList,Sem.run_bind,Sem.run_map,this];simp only [Result.andThen_ok,Sem.run_pure]
   congr 1
   match vs with
   |[]=>rfl
   |[v]=>rfl
   |v::u::r=>simp [oneOf]
 ·exact hr.elim
end Go.Proofs.YtgmkmeodimmdoaaGreatDoor
namespace Go.Proofs.YtgmkmeodimmdoaaGreatDoor
open Go.RowKit
variable {c:Cx} {tm:Tm} {bx:List Bx} {h:Hp}
structure CxOk (c:Cx):Prop where
 tb:TbOk c.P c.tb
 fn:∃fn,c.P.funcs[c.f]?=some fn∧fn.results=c.res.toArray∧fn.ntmps=c.N
theorem step_scope {P:Program} {b:Frame} {a:Act} {k:List Item} {cs:List Frame} {w:World} {x:Code}:step P (lone (b.at a (.code (.scope x)::k)) cs w)=.next (lone (b.at a (.code x::.inScope x::k)) cs w) :=
 step_lone_go (by simp [stepG,stepG.exec,Frame.at])
theorem step_inScope {P:Program} {b:Frame} {a:Act} {k:List Item} {cs:List Frame} {w:World} {x:Code}:step P (lone (b.at a (.inScope x::k)) cs w)=.next (lone (b.at a k) cs w) :=
 step_lone_go (by simp [stepG,stepG.exec,Frame.at])
theorem W.one {k k':List Item} (hw:W c (.todo k') tm bx h) (hst:∀(b:Frame) (a:Act) cs (w:World),step c.P (lone (b.at a k) cs w)=.next (lone (b.at a k') cs w)):W c (.todo k) tm bx h :=
 ⟨fun h0 w0 ρ a w hs=>Rest.one (fun b cs=>hst b a cs w) (hw.run h0 w0 ρ a w hs)⟩
theorem noSel_of {o:Array Oper} (hn:Region.noSelect o=true):∀(j:Nat) (op:Oper) cs b,o[j]?=some op→op.op≠.select cs b:=fun j op cs b e=>Region.noSelect_spec hn j op cs b e
theorem W.ret (hc:CxOk c) {items:List Item} (hr:retP c tm bx h) (hst:∀(b:Frame) (a:Act) cs (w:World),step c.P (lone (b.at a items) cs w)=.next (lone { b.at a items with mode:=.returning } cs w)):W c (.todo items) tm bx h :=
 ⟨fun h0 w0 ρ a w hs=>by
  obtain⟨fn,h1,h2,_⟩:=hc.fn;exact ret_ok hc.tb h1 h2 hr hs (fun b cs=>hst b a cs w)⟩
theorem noSel_at:∀{l:List Oper},noSel l=true→∀(j:Nat) (o:Oper) cs b,l[j]?=some o→o.op≠.select cs b
 |[],_,j,o,cs,b,e=>by simp at e
 |x::r,hn,j,o,cs,b,e=>by
  cases j with
  |zero =>
   simp at e;subst e
   intro he;unfold noSel at hn;rw [he] at hn
   cases hn
  |succ j =>
   unfold noSel at hn
   split at hn
   ·cases hn
   ·exact noSel_at hn j o cs b (by simpa using e)
theorem vc_ok (hc:CxOk c):∀(n:Nat) (pos:Pos) (tm:Tm) (bx:List Bx) (h:Hp),vc c n pos tm bx h→W c pos tm bx h
 |0,pos,tm,bx,h,hv=>by simpa [vc] using hv
 |n+1,.todo items,tm,bx,h,hv=>by
  unfold vc at hv
  split at hv
  ·exact W.ret hc hv (fun b a cs w=>step_end)
  ·exact(vc_ok hc n _ tm bx h hv).one fun b a cs w=>step_skip
  ·exact(vc_ok hc n _ tm bx h hv).one fun b a cs w=>step_label
  ·exact(vc_ok hc n _ tm bx h hv).one fun b a cs w=>step_inBlock
  ·exact(vc_ok hc n _ tm bx h hv).one fun b a cs w=>step_inScope
  ·exact(vc_ok hc n _ tm bx h hv).one fun b a cs w=>step_seq
  ·exact(vc_ok hc n _ tm bx h hv).one fun b a cs w=>step_block
  ·exact(vc_ok hc n _ tm bx h hv).one fun b a cs w=>step_scope
  ·split at hv
   ·rename_i he
    exact(vc_ok hc n _ tm bx h hv).one fun b a cs w=>step_exit he
   ·exact hv.elim
  ·exact W.ret hc hv (fun b a cs w=>step_ret)
  ·rename_i x y z k
   split at hv
   ·rename_i hx
    have hw:=vc_ok hc n _ tm bx h hv;exact⟨fun h0 w0 ρ a w hs=>Rest.one (fun b cs=>by have:=step_cond (P:=c.P) (b:=b) (k:=k) (cs:=cs) (w:=w) (x:=y) (y:=z) (c:=x) (t:=true) (hs.holds.opd hx);simpa using this) (hw.run h0 w0 ρ a w hs)⟩
   ·rename_i hx
    have hw:=vc_ok hc n _ tm bx h hv;exact⟨fun h0 w0 ρ a w hs=>Rest.one (fun b cs=>by have:=step_cond (P:=c.P) (b:=b) (k:=k) (cs:=cs) (w:=w) (x:=y) (y:=z) (c:=x) (t:=false) (hs.holds.opd hx);simpa using this) (hw.run h0 w0 ρ a w hs)⟩
   ·rename_i t hx
    have go:∀(tm1:Tm),(∀h0 w0 ρ a w,Sat c ρ tm bx h0 w0 h a w→Sat c ρ tm1 bx h0 w0 h a w)→vc c n (.todo (.code (if t then y else z)::k)) tm1 bx h→W c (.todo (.code (.cond x y z)::k)) tm bx h:=by
     intro tm1 h1 h2;have hw:=vc_ok hc n _ tm1 bx h h2;exact⟨fun h0 w0 ρ a w hs=>Rest.one (fun b cs=>step_cond (P:=c.P) (b:=b) (k:=k) (cs:=cs) (w:=w) (x:=y) (y:=z) (c:=x) (t:=t) (hs.holds.opd hx)) (hw.run h0 w0 ρ a w (h1 _ _ _ _ _ hs))⟩
    split at hv
    ·rename_i s
     cases t with
     |true=>exact go ((s,.b true)::tm) (fun h0 w0 ρ a w hs=>hs.lit hx) (hv.1 rfl)
     |false=>exact go ((s,.b false)::tm) (fun h0 w0 ρ a w hs=>hs.lit hx) (hv.2 rfl)
    ·cases t with
     |true=>exact go tm (fun h0 w0 ρ a w hs=>hs) (hv.1 rfl)
     |false=>exact go tm (fun h0 w0 ρ a w hs=>hs) (hv.2 rfl)
   ·exact hv.elim
  ·rename_i id o k
   split at hv
   ·rename_i hn
    have hw:=vc_ok hc n _ tm bx h hv;refine⟨fun h0 w0 ρ a w hs b cs hb hk=>?_⟩;have:=wp_region (P:=c.P) (id:=id) (ops:=o) (Q:=Qk c h0 w0 k) (a:=a) (w:=w) (hw.run h0 w0 ρ a w hs hn);obtain⟨e,a',w',hq,harr⟩:=this b k cs;obtain⟨rfl,hr⟩:=hq;exact(hr b cs hb hk).steps harr
   ·exact hv.elim
  ·exact hv
 |n+1,.ops o is k,tm,bx,h,hv=>by
  unfold vc at hv
  split at hv
  ·have hw:=vc_ok hc n _ tm bx h hv;exact⟨fun h0 w0 ρ a w hs _=>⟨rfl,hw.run h0 w0 ρ a w hs⟩⟩
  ·rename_i i r
   refine⟨fun h0 w0 ρ a w hs hn=>?_⟩;show wpOps c.P o (Qk c h0 w0 k) (i::r) a w;rw [wpOps_cons];exact stepOp_ok hc.tb hv hs (fun j op cs b e=>noSel_at hn j op cs b (by simpa using e)) (fun tm' bx' h' ρ' a' w' hK hs' _ _ _ _=>(vc_ok hc n _ tm' bx' h' hK).run h0 w0 ρ' a' w' hs' hn)
 |n+1,.any o ord hold hq s k,tm,bx,h,hv=>by
  unfold vc at hv
  split at hv
  ·have hw:=vc_ok hc n _ tm bx h hv;refine⟨fun h0 w0 ρ a w hs S listed hS hord hsel hm=>?_⟩;refine wpAnyG_done ?_ ⟨rfl,hw.run h0 w0 ρ a w hs⟩ 0;simpa [okOrd,okOrdN] using hord
  ·rename_i i r
   refine⟨fun h0 w0 ρ a w hs S listed hS hord hsel hm=>?_⟩;simp only [okOrd,List.length_cons,okOrdN,Bool.and_eq_true,bne_iff_ne,ne_eq,Bool.not_eq_true'] at hord;obtain⟨⟨⟨⟨⟨o1,o2⟩,o3⟩,o4⟩,o5⟩,o6⟩:=hord;obtain⟨hS1,hhold,hg⟩:=hS o5;obtain⟨op,v,tm',e1,e2,e3,e4⟩:=floatStep_ok hc.tb hv hs (noSel_of hsel) (fun w' hw'=>(hS1 w').1 hw');have hw:=vc_ok hc n _ tm' bx h e3;have hSw:S w:=(hS1 w).2 ⟨fun i _ B hB=>hs.boxes.at_ i B hB,fun g e=>hs.inh.mono (hg g e)⟩;exact wpAnyG_take e1 hsel o2 o1 o3 o4 o5 (fun _ _ _ q=>by cases q.1) e2 hSw (hw.run h0 w0 ρ _ w e4 S _ (fun _=>⟨hS1,hhold,hg⟩) o6 hsel hm)
  ·rename_i i r
   refine⟨fun h0 w0 ρ a w hs S listed hS hord hsel hm=>?_⟩;have one:∀(j:Nat) (r':List (Nat×Bool)),j≠s→okOrd o s (listed.setIfInBounds j true) r'=true→stepOp c hold hq o j tm bx h (fun tm bx h=>vc c n (.any o r' hold hq s k) tm bx h) →
     wpOp c.P o (Qk c h0 w0 k) j (fun a' w'=>((listed.setIfInBounds j true).getD s false=false→S w')∧wpAnyG c.P .any o (Qk c h0 w0 k) S s r'.length (listed.setIfInBounds j true) a' w') a w:=by
    intro j r' hjs' hord2 hv;have hback:(listed.setIfInBounds j true).getD s false=false→listed.getD s false=false:=fun e=>by rw [getD_set_ne false hjs'] at e;exact e
    refine stepOp_ok hc.tb hv hs (noSel_of hsel) (fun tm' bx' h' ρ' a' w' hK hs' hlen hρ hbx hgl=>?_);have key:listed.getD s false=false→(∀w',S w'↔Sh ρ' bx' hold hq w')∧(∀i,i∈hold→i<bx'.length)∧∀g,hq=some g→g.le h':=fun e=>by
     obtain⟨hS1,hhold,hg⟩:=hS e;refine⟨fun w'=>?_,fun i hi=>Nat.lt_of_lt_of_le (hhold i hi) hlen,fun g e=>hgl g e (hg g e)⟩;rw [hS1 w'];unfold Sh;refine and_congr ⟨fun H i hi B hB=>?_,fun H i hi B hB=>?_⟩ Iff.rfl
     ·rw [hρ i (hhold i hi)];exact H i hi B (by rw [←hbx i hi (hhold i hi)];exact hB)
     ·rw [←hρ i (hhold i hi)];exact H i hi B (by rw [hbx i hi (hhold i hi)];exact hB)
    refine⟨fun e=>?_,(vc_ok hc n _ tm' bx' h' hK).run h0 w0 ρ' a' w' hs' S _ (fun e=>key (hback e)) hord2 hsel hm⟩;obtain⟨k1,_,k3⟩:=key (hback e);exact(k1 w').2 ⟨fun i _ B hB=>hs'.boxes.at_ i B hB,fun g e=>hs'.inh.mono (k3 g e)⟩
   simp only [okOrd,List.length_cons,okOrdN] at hord
   split at hv
   ·rename_i hbl
    simp only [hbl,Bool.and_eq_true,beq_iff_eq] at hord;refine wpAnyG_all hord.1 (by simp) fun j hj=>?_
    have:j=i:=by simpa using hj
    subst this
    split at hv
    ·rename_i hjs
     have hjs':=Nat.eq_of_beq_eq_true hjs;have hone:(listed.setIfInBounds j true).getD s false=false→False:=fun e=>by
      have hrd:j∈Region.ready .any o listed:=by rw [hord.1];simp
      have hlt:j<listed.size:=by
       have:=(mem_ready.1 hrd).1;rcases Nat.lt_or_ge j listed.size with h'|h'
       ·exact h'
       ·simp [Array.getElem?_eq_none h'] at this
      subst hjs';simp [hlt] at e
     refine stepOp_ok hc.tb hv hs (noSel_of hsel) (fun tm' bx' h' ρ' a' w' hK hs' _ _ _ _=>?_);exact⟨fun e=>(hone e).elim,(vc_ok hc n _ tm' bx' h' hK).run h0 w0 ρ' a' w' hs' S _ (fun e=>(hone e).elim) hord.2 hsel hm⟩
    ·rename_i hjs
     have hjs':j≠s:=fun e=>by subst e;simp at hjs
     exact one j r hjs' hord.2 hv
   ·rename_i hbl
    simp only [hbl] at hord
    split at hv
    ·rename_i hbm
     simp only [hbm,Bool.and_eq_true,Bool.or_eq_true,beq_iff_eq,bne_iff_ne,ne_eq] at hord;obtain⟨⟨⟨⟨⟨o1,o2⟩,o3⟩,o4⟩,o5⟩,o6⟩:=hord;have hI:=one (forkI i) r o2 o5 hv.1;have hJ:=one (forkJ i) (forkR i r) o3 (by unfold okOrd;rw [o4];exact o6) hv.2;rw [o4] at hJ;rcases o1 with o1|o1
     ·refine wpAnyG_all o1 (by simp) fun j hj=>?_
      rcases List.mem_cons.1 hj with rfl|hj
      ·exact hI
      ·rw [List.mem_singleton.1 hj];exact hJ
     ·refine wpAnyG_all o1 (by simp) fun j hj=>?_
      rcases List.mem_cons.1 hj with rfl|hj
      ·exact hJ
      ·rw [List.mem_singleton.1 hj];exact hI
    ·rename_i hbm
     simp only [hbm,Bool.and_eq_true,beq_iff_eq,bne_iff_ne,ne_eq] at hord;obtain⟨⟨⟨⟨⟨⟨⟨⟨o0,o1⟩,o2⟩,o3⟩,o4⟩,o5⟩,o6⟩,o7⟩,o8⟩:=hord;have hl:∀x y,(triR x y r).length=r.length:=fun x y=>by unfold triR;simp only [List.length_cons];omega
     have hI:=one (triI i) (triR (triJ i) (triK i) r) o2 (by unfold okOrd;rw [hl];exact o6) hv.1;have hJ:=one (triJ i) (triR (triI i) (triK i) r) o3 (by unfold okOrd;rw [hl];exact o7) hv.2.1;have hK:=one (triK i) (triR (triI i) (triJ i) r) o4 (by unfold okOrd;rw [hl];exact o8) hv.2.2;rw [hl] at hI hJ hK;refine wpAnyG_all rfl (by intro e;rw [e] at o0;simp at o0) fun j hj=>?_
     have hm:=List.all_eq_true.1 o1 j hj;simp only [Bool.or_eq_true,beq_iff_eq] at hm;rcases hm with rfl|rfl|rfl
     ·exact hI
     ·exact hJ
     ·exact hK
theorem Sat.drawn {ρ:Nat→Nat} {h0:Hp} {w0:World} {a:Act} {w:World} (hs:Sat c ρ tm bx h0 w0 h a w) (n:Nat):Sat c ρ tm bx h0 w0 h a { w with drawn:=n } :=
 ⟨hs.size,hs.defers,hs.holds,⟨hs.boxes.at_,hs.boxes.no,hs.boxes.high,hs.boxes.inj⟩,hs.inh,hs.fr.drawn n⟩
theorem W.draw {o:Array Oper} {id:Nat} {k:List Item} (ord:List (Nat×Bool)) (hold:List Nat) (hq:Option Hp) (s:Nat) (hord:okOrd o s (Array.replicate o.size false) ord=true) (hlen:ord.length=o.size) (hsel:Region.noSelect o=true)
  (hm:c.P.follows .mixedOrders=true) (hhold:hold.all (fun i=>Nat.blt i bx.length)=true) (hg:∀g,hq=some g→g.le h) (hw:W c (.any o ord hold hq s k) tm bx h):W c (.todo (.code (.region id o true)::k)) tm bx h :=
 ⟨fun h0 w0 ρ a w hs b cs hb hk=>by
  have hh:∀i,i∈hold→i<bx.length:=fun i hi=>by
   have:=(List.all_eq_true.1 hhold) i hi;simpa using this
  have h1:=hw.run h0 w0 ρ a _ (hs.drawn (w.drawn+1)) (Sh ρ bx hold hq) (Array.replicate o.size false) (fun _=>⟨fun _=>Iff.rfl,hh,hg⟩) hord hsel hm;rw [hlen] at h1;have:=wp_region_G (P:=c.P) (id:=id) hm h1;obtain⟨e,a',w',q,harr⟩:=this b k cs;obtain⟨rfl,hr⟩:=q;exact(hr b cs hb hk).steps harr⟩
def SubT:Tm→Tm→Prop
 |[],_=>True
 |(i,s)::r,tm=>look tm i=some s∧SubT r tm
theorem SubT.at_:∀{t tm:Tm},SubT t tm→∀{i:Nat} {s:SV},look t i=some s→look tm i=some s
 |[],_,_,i,s,e=>by cases e
 |(j,u)::r,tm,h,i,s,e=>by
  rw [look_cons] at e
  split at e
  ·rename_i hj;subst hj;cases e;exact h.1
  ·exact h.2.at_ e
def below:Nat→Tm→Bool
 |_,[]=>true
 |n,(_,.inr (.inr (.inl (i,_))))::r=>Nat.blt i n&&below n r
 |n,(_,_)::r=>below n r
theorem below_at:∀{n:Nat} {t:Tm},below n t=true→∀{i j o:Nat},look t i=some (.p j o)→j<n
 |n,[],_,i,j,o,e=>by cases e
 |n,(k,s)::r,h,i,j,o,e=>by
  rw [look_cons] at e
  split at e
  ·cases e
   simp only [below,Bool.and_eq_true] at h;simpa using h.1
  ·refine below_at (t:=r) ?_ e;rcases s with y|y|⟨x,y⟩|y
   ·simpa only [below] using h
   ·simpa only [below] using h
   ·simp only [below,Bool.and_eq_true] at h;exact h.2
   ·simpa only [below] using h
theorem W.cut {pos:Pos} (tm':Tm) (bx' more:List Bx) (h1:SubT tm' tm) (h2:bx=bx'++more) (h3:below bx'.length tm'=true) (hpos:∃k,pos=.todo k) (hw:W c pos tm' bx' h):W c pos tm bx h:=by
 obtain⟨k,rfl⟩:=hpos;refine⟨fun h0 w0 ρ a w hs=>hw.run h0 w0 ρ a w ⟨hs.size,hs.defers,⟨fun i s e=>hs.holds.at_ i s (h1.at_ e),fun i j o e=>below_at h3 e⟩,?_,hs.inh,hs.fr⟩⟩;subst h2;refine⟨fun i B e=>hs.boxes.at_ i B ?_,fun i hi=>hs.boxes.no i (by simp;omega),fun i hi=>hs.boxes.high i (by simp;omega),fun i j hi hj e=>hs.boxes.inj i j (by simp;omega) (by simp;omega) e⟩;rw [List.getElem?_append_left (List.getElem?_eq_some_iff.1 e).1];exact e
theorem W.back {k:List Item} {tm':Tm} {bx':List Bx} (hw:W c (.todo k) tm' bx' h) (more:List Bx) (h1:SubT tm' tm) (h2:bx=bx'++more) (h3:below bx'.length tm'=true):W c (.todo k) tm bx h:=W.cut tm' bx' more h1 h2 h3 ⟨k,rfl⟩ hw
theorem W.loop {α:Type} (mk:α→Tm) (bxs:α→List Bx) (I:α→Hp→Prop) (μ:α→Nat) {body:Code} {k:List Item}
  (step:∀x h,I x h→(∀y h',I y h'→μ y<μ x→W c (.todo (.inLoop body::k)) (mk y) (bxs y) h')→W c (.todo (.code body::.inLoop body::k)) (mk x) (bxs x) h) :
  ∀x h,I x h→W c (.todo (.code (.loop body)::k)) (mk x) (bxs x) h:=by
 have main:∀(n:Nat) x h,μ x≤n→I x h→W c (.todo (.code body::.inLoop body::k)) (mk x) (bxs x) h:=by
  intro n
  induction n with
  |zero=>exact fun x h hn hi=>step x h hi fun y h' _ hlt=>absurd hlt (by omega)
  |succ n ih=>exact fun x h hn hi=>step x h hi fun y h' hy hlt=>(ih y h' (by omega) hy).one fun b a cs w=>step_inLoop
 exact fun x h hi=>(main (μ x) x h (Nat.le_refl _) hi).one fun b a cs w=>step_loop
def argT:Nat→List Value→Tm
 |_,[]=>[]
 |i,v::r=>(i,svOf v)::argT (i+1) r
theorem argT_look (ρ:Nat→Nat):∀(l:List Value) (k i:Nat) (s:SV),look (argT k l) i=some s→k≤i∧l[i-k]?=some (s.den ρ)∧∀j o,s≠.p j o
 |[],k,i,s,e=>by cases e
 |v::r,k,i,s,e=>by
  simp only [argT,look_cons] at e
  split at e
  ·rename_i hk;subst hk;cases e
   exact⟨Nat.le_refl _,by simp [svOf_den],fun j o e=>by cases v<;>simp [svOf] at e⟩
  ·rename_i hk
   obtain⟨h1,h2,h3⟩:=argT_look ρ r (k+1) i s e;refine⟨by omega,?_,h3⟩;rw [show i-k=(i-(k+1))+1 by omega];simpa using h2
theorem Con.of_W {P:Program} {tb:Tb} {f:FuncId} {args:List Value} {h:Hp} {R:Value→Hp→Prop} {res:List ResultVar} {N:Nat} {fn:Func} {code:Code} (hf:P.funcs[f]?=some fn) (hb:fn.body=some code) (_hres:fn.results=res.toArray) (hN:fn.ntmps=N)
  (hargs:args.length≤N) (ent:∀w,(callFunc f args.toArray).run P w=.ok (.enter f args.toArray) w) {tm:Tm} (htm:tm=argT 0 args) (hw:W ⟨P,tb,f,res,N,R⟩ (.todo [.code code]) tm [] h):Con P f args.toArray h R:=by
 subst htm;refine⟨ent,fun w hi cs=>?_⟩
 let b:Frame:={ (default:Frame) with fn:=f,kind:=.normal }
 let a:Act:={ tmps:=args.toArray++Array.replicate (fn.ntmps-args.toArray.size) undef,defers:=[] }
 have henter:Frame.enter P f args.toArray .normal=b.at a [.code code]:=by
  simp [Frame.enter,Frame.at,hf,hb,b,a]
 have hs:Sat ⟨P,tb,f,res,N,R⟩ id (argT 0 args) [] h w h a w:=by
  refine⟨?_,rfl,⟨fun i s e=>?_,fun i j o e=>?_⟩,⟨fun i B e=>by simp at e,fun i e=>by simp at e,fun i e=>by simp at e,fun i j e=>by simp at e⟩,hi,Fr.refl h w⟩
  ·show (args.toArray++Array.replicate (fn.ntmps-args.toArray.size) undef).size=N;simp;omega
  ·obtain⟨h1,h2,h3⟩:=argT_look id args 0 i s e;have hlt:=(List.getElem?_eq_some_iff.1 h2).1;show (args.toArray++Array.replicate (fn.ntmps-args.toArray.size) undef)[i]?=_;rw [Array.getElem?_append_left (by simpa using hlt)];simpa using h2
  ·exact absurd rfl ((argT_look id args 0 i _ e).2.2 j o)
 obtain⟨v,h',w',fr',e1,e2,e3,e4,e5,e6⟩:=hw.run h w id a w hs b cs rfl rfl;refine⟨.returned v,w',fr',⟨v,h',rfl,e1,e2,e3⟩,?_,e5,e6⟩;rw [henter];exact e4
theorem Con.of_below {P:Program} {f:FuncId} {args:Array Value} {h:Hp} (ent:∀w,(callFunc f args).run P w=.ok (.enter f args) w) {R:Value→Prop} (k:∀w,InH h w→Calls P f args w fun e w'=>(∃v,e=.returned v∧R v)∧Below w.heap.size w w'):Con P f args h fun v h'=>R v∧h'=h:=by
 refine⟨ent,fun w hw=>(k w hw).mono fun e w' ⟨⟨v,he,hr⟩,hb⟩=>⟨v,h,he,⟨hr,rfl⟩,fun b o e1=>by rw [hb.block b (hw.lt e1)];exact hw b o e1,hb.os,hb.tape,hb.output,hb.size,fun b hb1 e1=>⟨hb.block b hb1,e1⟩⟩⟩
end Go.Proofs.YtgmkmeodimmdoaaGreatDoor
namespace Go.Proofs.YtgmkmeodimmdoaaGreatDoor
open Go.RowKit
structure Row where
 e:TypeId
 sz:Nat
 v:Value
 n:Nat
 xs:List Value
def RowOk (h:Hp) (r:Row):Prop :=
 r.xs.length=r.n*r.sz∧((r.v=.slice none 0 0∧r.n=0) ∨
  ∃g cap cur,r.v=.slice (some ⟨g,0,none⟩) r.n cap∧h g=some (.cells cur r.e (0,0))∧r.n≤cap∧cap≤maxLen∧cur.size=cap*r.sz∧cur.toList.take (r.n*r.sz)=r.xs)
def Atom:Type:=Sum Row (Nat×Obj)
@[reducible] def Atom.row (r:Row):Atom:=Sum.inl r
@[reducible] def Atom.blk (b:Nat) (o:Obj):Atom:=Sum.inr (b,o)
def Atom.ok (h:Hp):Atom→Prop
 |.inl r=>RowOk h r
 |.inr (b,o)=>h b=some o
def Atom.blk?:Atom→Option Nat
 |.inl r=>r.v.ownBlock
 |.inr (b,_)=>some b
structure Own (h:Hp) (l:List Atom):Prop where
 ok:∀x,x∈l→x.ok h
 nd:(l.filterMap Atom.blk?).Nodup
theorem Own.perm {h:Hp} {l m:List Atom} (o:Own h l) (p:l.Perm m):Own h m :=
 ⟨fun x hx=>o.ok x (p.mem_iff.2 hx),(p.filterMap _).nodup o.nd⟩
theorem Own.tail {h:Hp} {x:Atom} {l:List Atom} (o:Own h (x::l)):Own h l :=
 ⟨fun y hy=>o.ok y (List.mem_cons_of_mem _ hy),by
  have:=o.nd
  cases hx:x.blk? with
  |none=>simpa [List.filterMap_cons,hx] using this
  |some b=>simp [hx] at this;exact this.2⟩
theorem Own.nil (h:Hp):Own h []:=⟨fun _ hx=>(by cases hx),List.nodup_nil⟩
theorem RowOk.same {h h':Hp} {r:Row} (o:RowOk h r) (k:∀g,r.v.ownBlock=some g→h' g=h g):RowOk h' r:=by
 obtain⟨hl,h1|⟨g,cap,cur,hv,hg,hr⟩⟩:=o
 ·exact⟨hl,.inl h1⟩
 ·exact⟨hl,.inr ⟨g,cap,cur,hv,by rw [k g (by rw [hv];rfl)];exact hg,hr⟩⟩
theorem Atom.same {h h':Hp} {x:Atom} (o:x.ok h) (k:∀g,x.blk?=some g→h' g=h g):x.ok h':=by
 rcases x with r|⟨b,ob⟩
 ·exact RowOk.same o k
 ·show h' b=some ob;rw [k b rfl];exact o
theorem Atom.at_ {h:Hp} {x:Atom} (o:x.ok h) {g:Nat} (e:x.blk?=some g):∃ob,h g=some ob:=by
 rcases x with r|⟨b,ob⟩
 ·obtain⟨_,⟨h1,_⟩|⟨g',cap,cur,hv,hg,_⟩⟩:=o
  ·simp [Atom.blk?,h1,Value.ownBlock] at e
  ·simp [Atom.blk?,hv,Value.ownBlock] at e;subst e;exact⟨_,hg⟩
 ·cases e;exact⟨ob,o⟩
theorem Own.turn {h h':Hp} {x y:Atom} {l:List Atom} (o:Own h (x::l)) (hy:y.ok h') (hb:∀g,y.blk?=some g→x.blk?=some g∨h g=none) (hk:∀k,y.blk?≠some k→(x.blk?≠some k)→h' k=h k):Own h' (y::l):=by
 have hx:∀z∈l,∀g,z.blk?=some g→x.blk?≠some g:=fun z hz g e1 e2=>by
  have:=o.nd;simp only [List.filterMap_cons,e2] at this;exact(List.nodup_cons.1 this).1 (List.mem_filterMap.2 ⟨z,hz,e1⟩)
 have hy':∀z∈l,∀g,z.blk?=some g→y.blk?≠some g:=fun z hz g e1 e2=>by
  rcases hb g e2 with e|e
  ·exact hx z hz g e1 e
  ·obtain⟨ob,hob⟩:=Atom.at_ (o.ok z (List.mem_cons_of_mem _ hz)) e1;rw [e] at hob;cases hob
 refine⟨fun z hz=>?_,?_⟩
 ·rcases List.mem_cons.1 hz with rfl|hz
  ·exact hy
  ·exact Atom.same (o.ok z (List.mem_cons_of_mem _ hz)) fun g e=>hk g (hy' z hz g e) (hx z hz g e)
 ·have:=o.tail.nd
  cases e:y.blk? with
  |none=>simpa [List.filterMap_cons,e] using this
  |some g =>
   simp only [List.filterMap_cons,e];exact List.nodup_cons.2 ⟨fun hm=>by obtain⟨z,hz,e1⟩:=List.mem_filterMap.1 hm;exact hy' z hz g e1 e,this⟩
theorem Own.add {h h':Hp} {y:Atom} {l:List Atom} (o:Own h l) (hy:y.ok h') (hb:∀g,y.blk?=some g→h g=none) (hk:∀k,y.blk?≠some k→h' k=h k):Own h' (y::l):=by
 have hy':∀z∈l,∀g,z.blk?=some g→y.blk?≠some g:=fun z hz g e1 e2=>by
  obtain⟨ob,hob⟩:=Atom.at_ (o.ok z hz) e1;rw [hb g e2] at hob;cases hob
 refine⟨fun z hz=>?_,?_⟩
 ·rcases List.mem_cons.1 hz with rfl|hz
  ·exact hy
  ·exact Atom.same (o.ok z hz) fun g e=>hk g (hy' z hz g e)
 ·cases e:y.blk? with
  |none=>simpa [List.filterMap_cons,e] using o.nd
  |some g =>
   simp only [List.filterMap_cons,e];exact List.nodup_cons.2 ⟨fun hm=>by obtain⟨z,hz,e1⟩:=List.mem_filterMap.1 hm;exact hy' z hz g e1 e,o.nd⟩
theorem Own.le {h h':Hp} {l:List Atom} (o:Own h l) (hl:h.le h'):Own h' l :=
 ⟨fun x hx=>Atom.same (o.ok x hx) fun g e=>by obtain⟨ob,hob⟩:=Atom.at_ (o.ok x hx) e;rw [hl g ob hob,hob],o.nd⟩
theorem RowOk.form {h:Hp} {r:Row} (o:RowOk h r) (hn:0<r.n):∃g cap cur,r.v=.slice (some ⟨g,0,none⟩) r.n cap∧h g=some (.cells cur r.e (0,0))∧r.n≤cap∧cap≤maxLen∧cur.size=cap*r.sz∧cur.toList.take (r.n*r.sz)=r.xs:=by
 rcases o.2 with⟨_,h0⟩|h1
 ·omega
 ·exact h1
theorem RowOk.form' {h:Hp} {r:Row} (o:RowOk h r):∃a cap,r.v=.slice a r.n cap:=by
 rcases o.2 with⟨h1,h0⟩|⟨g,cap,cur,h1,_⟩
 ·exact⟨none,0,by rw [h1,h0]⟩
 ·exact⟨_,cap,h1⟩
theorem RowOk.owns {h:Hp} {r:Row} {w:World} (o:RowOk h r) (hi:InH h w):w.ownsRow 0 r.e r.sz r.v r.n r.xs:=by
 refine⟨o.1,o.2.imp id ?_⟩;rintro⟨g,cap,cur,hv,hg,hr⟩;exact⟨g,cap,cur,hv,Nat.zero_le _,hi g _ hg,hr⟩
variable {P:Program}
theorem Ext.value {s:Sem Value} {h:Hp} {K:Option Value→Hp→Prop} (v:Value) (hr:∀w,InH h w→s.run P w=.ok v w) (k:K (some v) h):Ext P (do pure (Next.value (←s)):Sem Next) h K :=
 ⟨fun w hw=>⟨.value v,w,some v,h,run_value s w v w (hr w hw),.inl ⟨rfl,rfl⟩,k,hw,Fr.refl h w⟩⟩
theorem run_load_cells {t:TypeId} {ti:TI} (h:tiOf P t=some ti) (w:World) (g off:Nat) (cs:List Value) (e:TypeId) (fz:Nat×Nat) (hB:w.heap[g]?=some (.cells cs.toArray e fz)) :
  (ti.ag=true→off+ti.sz≤cs.length→(Instr.loadAt t (.pointer (some ⟨g,off,none⟩))).run P w=.ok (.agg ((cs.drop off).take ti.sz).toArray) w) ∧
  (ti.ag=false→∀v,cs[off]?=some v→(Instr.loadAt t (.pointer (some ⟨g,off,none⟩))).run P w=.ok v w):=by
 refine⟨fun ha hl=>?_,fun ha v hv=>?_⟩
 ·have hlen:((cs.drop off).take ti.sz).length=ti.sz:=by simp;omega
  have hc:=run_loadCells_list (P:=P) w ⟨g,off,none⟩ ((cs.drop off).take ti.sz) (fun j v hv=>by rw [Addr.add_mid];exact range_of_row hB j v hv);rw [hlen] at hc;simp only [Instr.loadAt,Instr.sureAddr,loadVar,Sem.run_bind,Sem.run_pure,Result.andThen_ok,ti_isAgg h w,ha,if_true,ti_size h w,hc]
 ·have hc:w.cell? ⟨g,off,none⟩=some v:=by rw [cell_of_row w g off cs.toArray e fz hB];simpa using hv
  simp only [Instr.loadAt,Instr.sureAddr,loadVar,Sem.run_bind,Sem.run_pure,Result.andThen_ok,ti_isAgg h w,ha,Bool.false_eq_true,if_false];simp [load,Sem.run,hc]
theorem row_at {n sz:Nat} {cur:Array Value} {xs:List Value} (ht:cur.toList.take (n*sz)=xs) {off m:Nat} (hm:off+m≤n*sz):(cur.toList.drop off).take m=(xs.drop off).take m:=by
 rw [←ht,List.drop_take,List.take_take]
 congr 1
 omega
theorem Ext.load {tb:Tb} (htb:TbOk P tb) {t:Nat} {ti:TI} (ht:tbl tb t=some ti) {o:Oper} {x:Operand} (ho:o.op=.load t x) {ev:Operand→Value} {h:Hp} {K:Option Value→Hp→Prop} {r:Row} (hr:RowOk h r) {g off cap:Nat} (hv:r.v=.slice (some ⟨g,0,none⟩) r.n cap)
  (hx:ev x=.pointer (some ⟨g,off,none⟩)) (hl:off+ti.sz≤r.n*r.sz) (v:Value) (hval:(ti.ag=true∧v=.agg ((r.xs.drop off).take ti.sz).toArray)∨(ti.ag=false∧r.xs[off]?=some v∧ti.sz=1)) (k:K (some v) h):Ext P (execOp ev o) h K:=by
 have hpos:0<r.n∨r.n=0:=by omega
 have hop:execOp ev o=(do pure (Next.value (←Instr.loadAt t (ev x))):Sem Next):=by unfold execOp;rw [ho]
 rw [hop,hx];refine Ext.value v (fun w hw=>?_) k;rcases hr.2 with⟨h1,_⟩|⟨g',cap',cur,h1,hg,hnc,hcm,hcs,htk⟩
 ·rw [hv] at h1;cases h1
 ·rw [hv] at h1
  cases h1
  have hg':=hw g _ hg;have hsz:r.n*r.sz≤cur.size:=by rw [hcs];exact Nat.mul_le_mul_right _ hnc
  have hrun:=run_load_cells (htb.at_ ht) w g off cur.toList r.e (0,0) (by simpa using hg');rcases hval with⟨ha,rfl⟩|⟨ha,hxo,h1⟩
  ·rw [hrun.1 ha (by simp;omega),row_at htk hl]
  ·refine hrun.2 ha v ?_;rw [←htk,List.getElem?_take] at hxo
   split at hxo
   ·exact hxo
   ·cases hxo
theorem run_store_cells {t:TypeId} {ti:TI} (h:tiOf P t=some ti) (w:World) (g off:Nat) (cs vs:List Value) (e:TypeId) (hB:w.heap[g]?=some (.cells cs.toArray e (0,0))) (v:Value) (hv:v.cells=vs.toArray) (hs:vs.length=ti.sz) (hl:off+vs.length≤cs.length) (h1:∀u∈vs,u.oneCell'=true) :
  ∃w',(Instr.storeAt t (.pointer (some ⟨g,off,none⟩)) v).run P w=.ok () w'∧w'.heap[g]?=some (.cells (putL off vs cs).toArray e (0,0))∧(∀b,b≠g→w'.heap[b]?=w.heap[b]?)∧w'.os=w.os∧w'.tape=w.tape∧w'.output=w.output∧w'.heap.size=w.heap.size:=by
 obtain⟨w',g1,g2⟩:=store_row P w g off e cs vs hB hl h1;refine⟨w',?_,g2⟩;simp only [Instr.storeAt,Instr.sureAddr,storeVar,Sem.run_bind,Sem.run_pure,Result.andThen_ok,ti_size h w,hv];rw [if_neg (by have:=hs;simpa using this)];simpa using g1
theorem take_putL (off:Nat) (vs cs:List Value) (m:Nat) (h:off+vs.length≤m) (hm:m≤cs.length):(putL off vs cs).take m=putL off vs (cs.take m):=by
 unfold putL;rw [List.append_assoc,List.append_assoc,List.take_append,List.take_append,List.length_take,Nat.min_eq_left (by omega),List.take_take,List.take_take,Nat.min_eq_right (by omega),Nat.min_eq_left (by omega)];rw [List.take_of_length_le (by omega:vs.length≤m-off),List.drop_take]
 congr 3
 omega
theorem Ext.store {tb:Tb} (htb:TbOk P tb) {t:Nat} {ti:TI} (ht:tbl tb t=some ti) {o:Oper} {x y:Operand} (ho:o.op=.store t x y) {ev:Operand→Value} {h:Hp} {K:Option Value→Hp→Prop} {r:Row} {l:List Atom} (hown:Own h (.row r::l)) {g off cap:Nat} (hv:r.v=.slice (some ⟨g,0,none⟩) r.n cap)
  (hx:ev x=.pointer (some ⟨g,off,none⟩)) {v:Value} (hy:ev y=v) (vs:List Value) (hvs:v.cells=vs.toArray) (hs:vs.length=ti.sz) (hl:off+vs.length≤r.n*r.sz) (h1:∀u∈vs,u.oneCell'=true)
  (k:∀h',Own h' (.row { r with xs:=putL off vs r.xs }::l)→K none h'):Ext P (execOp ev o) h K:=by
 have hop:execOp ev o=(do Instr.storeAt t (ev x) (ev y);pure Next.skip:Sem Next):=by unfold execOp;rw [ho]
 rw [hop,hx,hy];have hr:RowOk h r:=hown.ok _ (List.mem_cons_self);rcases hr.2 with⟨e1,_⟩|⟨g',cap',cur,e1,hg,hnc,hcm,hcs,htk⟩
 ·rw [hv] at e1;cases e1
 ·rw [hv] at e1
  cases e1
  have hsz:r.n*r.sz≤cur.size:=by rw [hcs];exact Nat.mul_le_mul_right _ hnc
  refine⟨fun w hw=>?_⟩;obtain⟨w',q1,q2,q3,q4,q5,q6,q7⟩:=run_store_cells (htb.at_ ht) w g off cur.toList vs r.e (by simpa using hw g _ hg) v hvs hs (by simp;omega) h1;have hg':(h.put g (.cells (putL off vs cur.toList).toArray r.e (0,0))) g=some (.cells (putL off vs cur.toList).toArray r.e (0,0)):=Hp.put_same _ _ _;refine⟨.skip,w',none,h.put g (.cells (putL off vs cur.toList).toArray r.e (0,0)),run_skip _ w w' q1,.inr ⟨rfl,rfl⟩,k _ ?_,?_,?_⟩
  ·refine hown.turn (y:=.row { r with xs:=putL off vs r.xs }) ?_ (fun b e=>.inl e) (fun b e _=>Hp.put_ne _ _ fun e2=>e (by subst e2;show r.v.ownBlock=some b;rw [hv];rfl));refine⟨?_,.inr ⟨g,cap,_,hv,hg',hnc,hcm,?_,?_⟩⟩
   ·show (putL off vs r.xs).length=r.n*r.sz;rw [putL_len _ _ _ (by rw [hr.1];exact hl),hr.1]
   ·simp only [List.size_toArray];rw [putL_len _ _ _ (by simp;omega)];simpa using hcs
   ·show (putL off vs cur.toList).take (r.n*r.sz)=putL off vs r.xs;rw [take_putL off vs cur.toList _ hl (by simpa using hsz),htk]
  ·intro b ob e;by_cases hb:b=g
   ·subst hb;rw [hg'] at e;cases e;exact q2
   ·rw [Hp.put_ne _ _ hb] at e;rw [q3 b hb];exact hw b ob e
  ·exact⟨q4,q5,q6,by omega,fun b hb e=>by
    have hbg:b≠g:=fun e2=>by subst e2;rw [hg] at e;cases e
    exact⟨q3 b hbg,by rw [Hp.put_ne _ _ hbg];exact e⟩⟩
theorem Ext.index {t e:TypeId} {sz:Nat} (hu:P.underlying t=some (.slice e)) (hs:∀w,(sizeOf e).run P w=.ok sz w) {o:Oper} {x i:Operand} (ho:o.op=.indexAddr t x i) {ev:Operand→Value} {h:Hp} {K:Option Value→Hp→Prop} {g off len cap:Nat} {z:Int} {kind:IntKind} (hx:ev x=.slice (some ⟨g,off,none⟩) len cap)
  (hi:ev i=.int kind z) (k:Nat) (hk:z=(k:Int)) (hlt:k<len) (hK:K (some (.pointer (some ⟨g,off+k*sz,none⟩))) h):Ext P (execOp ev o) h K:=by
 have hop:execOp ev o=(do pure (Next.value (←Instr.indexAt t (ev x) (ev i))):Sem Next):=by unfold execOp;rw [ho]
 rw [hop,hx,hi];refine Ext.value _ (fun w _=>?_) hK;subst hk;simp only [Instr.indexAt,asIntOf,Sem.run_bind,Sem.run_pure,Result.andThen_ok,run_underlying hu];rw [if_pos ⟨by omega,by omega⟩];simp only [Sem.run_bind,hs,Result.andThen_ok,Sem.run_pure,Addr.add_mid,Int.toNat_natCast]
theorem Rd.index {t e:TypeId} {sz:Nat} (hu:P.underlying t=some (.slice e)) (hs:∀w,(sizeOf e).run P w=.ok sz w) {o:Oper} {x i:Operand} (ho:o.op=.indexAddr t x i) {ev:Operand→Value} {h:Hp} {K:Value→Prop} {g off len cap:Nat} {z:Int} {kind:IntKind} (hx:ev x=.slice (some ⟨g,off,none⟩) len cap)
  (hi:ev i=.int kind z) (k:Nat) (hk:z=(k:Int)) (hlt:k<len) (hK:K (.pointer (some ⟨g,off+k*sz,none⟩))):Rd P (execOp ev o) h K:=by
 have hop:execOp ev o=(do pure (Next.value (←Instr.indexAt t (ev x) (ev i))):Sem Next):=by unfold execOp;rw [ho]
 rw [hop,hx,hi];refine⟨_,fun w _=>run_value _ w _ _ ?_,hK⟩;subst hk;simp only [Instr.indexAt,asIntOf,Sem.run_bind,Sem.run_pure,Result.andThen_ok,run_underlying hu];rw [if_pos ⟨by omega,by omega⟩];simp only [Sem.run_bind,hs,Result.andThen_ok,Sem.run_pure,Addr.add_mid,Int.toNat_natCast]
def Src (h:Hp) (sz:Nat) (x:Value) (m:Nat) (news:List Value):Prop :=
 news.length=m*sz∧(∀u∈news,u.oneCell'=true)∧((∃c,x=.slice none 0 c∧m=0)∨∃g o c cur e fz,x=.slice (some ⟨g,o,none⟩) m c∧h g=some (.cells cur e fz)∧(cur.toList.drop o).take (m*sz)=news)
theorem RowOk.src {h:Hp} {r:Row} (o:RowOk h r) (h1:∀u∈r.xs,u.oneCell'=true):Src h r.sz r.v r.n r.xs:=by
 refine⟨o.1,h1,?_⟩;rcases o.2 with⟨e,h0⟩|⟨g,cap,cur,hv,hg,_,_,_,ht⟩
 ·exact .inl ⟨0,by rw [e],h0⟩
 ·exact .inr ⟨g,0,cap,cur,r.e,(0,0),hv,hg,by simpa using ht⟩
end Go.Proofs.YtgmkmeodimmdoaaGreatDoor
namespace Go.Proofs.YtgmkmeodimmdoaaGreatDoor
open Go.RowKit
variable {P:Program}
structure SlTy (P:Program) (t e:TypeId) (sz bytes:Nat):Prop where
 u:P.underlying t=some (.slice e)
 i:∃i z,P.info? e=some i∧i.zero=some z∧i.size=sz∧i.bytes=bytes∧z.cells.size=sz
 pos:0<sz
theorem SlTy.size {t e:TypeId} {sz bytes:Nat} (s:SlTy P t e sz bytes) (w:World):(sizeOf e).run P w=.ok sz w:=by
 obtain⟨i,z,h1,_,h2,_⟩:=s.i;simp [sizeOf,typeInfo,h1,h2]
theorem Ext.append {t e:TypeId} {sz bytes:Nat} (st:SlTy P t e sz bytes) {o:Oper} {s x:Operand} (ho:o.op=.call { callee:=.builtin .append,args:=#[s,x],argTypes:=#[t,t] }) {ev:Operand→Value} {h:Hp} {K:Option Value→Hp→Prop} {r:Row} {l:List Atom} (hown:Own h (.row r::l)) (he:r.e=e) (hz:r.sz=sz)
  (hs:ev s=r.v) {y:Value} (hx:ev x=y) {m:Nat} {news:List Value} (src:Src h sz y m news) (hb:(r.n+m)*bytes≤140737488355328) (hmx:r.n+m≤maxLen)
  (k:∀v' h',Own h' (.row { r with v:=v',n:=r.n+m,xs:=r.xs++news }::l)→K (some v') h'):Ext P (execOp ev o) h K:=by
 obtain⟨i,z,i1,i2,i3,i4,i5⟩:=st.i;have hr:RowOk h r:=hown.ok _ (List.mem_cons_self);subst he hz;refine⟨fun w hw=>?_⟩;have row:=hr.owns hw;have main:∃v' w',(Builtin.append_ #[t,t] o.type #[r.v,y]).run P w=.ok v' w'∧w'.ownsRow 0 r.e r.sz v' (r.n+m) (r.xs++news)∧w.grownBy w' r.v.ownBlock∧(v'.ownBlock=r.v.ownBlock∨v'.ownBlock=some w.heap.size):=by
  obtain⟨hl,h1,⟨c,rfl,rfl⟩|⟨g,off,c,cur,e',fz,rfl,hg,hn⟩⟩:=src
  ·have:news=[]:=List.eq_nil_of_length_eq_zero (by simpa using hl);subst this;refine⟨r.v,w,?_,by simpa using row,World.grownBy.refl _ _,.inl rfl⟩;rcases hr.2 with⟨e1,h0⟩|⟨g,cap,cur,e1,hg,hnc,_⟩
   ·rw [e1];simp [Builtin.append_,run_underlying st.u,sizeOf,typeInfo,i1,Builtin.lenOf,Builtin.firstCells]
   ·rw [e1];simp [Builtin.append_,run_underlying st.u,sizeOf,typeInfo,i1,Builtin.lenOf,Builtin.firstCells,hnc,storeCells]
  ·have hg':=hw g _ hg;obtain⟨v',w',q1,q2,q3,_,q5⟩:=run_append_own_at (P:=P) w 0 t o.type r.e i z r.sz bytes st.u i1 i2 i3 i4 i5 st.pos r.v r.n r.xs row ⟨g,off,none⟩ m c news hl (fun j u hu=>by
    rw [Addr.add_mid,cell_of_row w g (off+j) cur e' fz hg'];rw [←hn] at hu;have:=take_drop_get cur.toList off (m*r.sz) j u hu;simpa using this) h1 hmx hb (Nat.zero_le _)
   exact⟨v',w',q1,q2,q3,q5⟩
 obtain⟨v',w',q1,q2,q3,q4⟩:=main;have hrun:(execOp ev o).run P w=.ok (.value v') w':=by
  simp [execOp,ho,resolve,invoke,builtin,hs,hx,q1,Result.andThen]
 have hold:∀b,some b≠v'.ownBlock→b<w.heap.size→some b≠r.v.ownBlock→w'.heap[b]?=w.heap[b]?:=fun b _ hb hr=>q3.block b hb hr
 refine⟨.value v',w',some v',fun b=>if v'.ownBlock=some b then w'.heap[b]? else if r.v.ownBlock=some b then none else h b,hrun,.inl ⟨rfl,rfl⟩,k v' _ ?_,?_,?_⟩
 ·refine hown.turn (y:=.row { r with v:=v',n:=r.n+m,xs:=r.xs++news }) ?_ (fun g e=>?_) (fun b e1 e2=>by show (if v'.ownBlock=some b then w'.heap[b]? else if r.v.ownBlock=some b then none else h b)=h b;rw [if_neg (show ¬v'.ownBlock=some b from e1),if_neg (show ¬r.v.ownBlock=some b from e2)])
  ·refine⟨q2.1,q2.2.imp id ?_⟩;rintro⟨g,cap,cur,hv,_,hg,hr⟩;exact⟨g,cap,cur,hv,by simp only [hv,Value.ownBlock,if_true];exact hg,hr⟩
  ·have e':v'.ownBlock=some g:=e;rcases q4 with q|q
   ·exact .inl (by rw [←e',q];rfl)
   ·rw [q] at e';cases e';exact .inr (heap_none hw)
 ·intro b ob e
  change (if v'.ownBlock=some b then w'.heap[b]? else if r.v.ownBlock=some b then none else h b)=some ob at e
  split at e
  ·exact e
  ·split at e
   ·cases e
   ·rename_i hb hrb
    rw [q3.block b (hw.lt e) (fun e2=>hrb e2.symm)];exact hw b ob e
 ·refine⟨q3.os,q3.tape,q3.output,q3.size,fun b hb e=>?_⟩;have hrb:some b≠r.v.ownBlock:=fun e2=>by
   obtain⟨ob,hob⟩:=Atom.at_ (x:=.row r) hr e2.symm;rw [e] at hob;cases hob
  refine⟨q3.block b hb hrb,?_⟩;have hvb:¬v'.ownBlock=some b:=fun e2=>by
   rcases q4 with q|q
   ·exact hrb (by rw [←e2,q])
   ·rw [q] at e2;cases e2;omega
  show (if v'.ownBlock=some b then w'.heap[b]? else if r.v.ownBlock=some b then none else h b)=none;rw [if_neg hvb,e]
  split<;>rfl
def fillV (sz:Nat):List (Nat×Value)→List Value→Option (List Value)
 |[],cs=>some cs
 |(i,v)::r,cs=>match Nat.beq v.cells.toList.length sz&&Nat.ble (i*sz+v.cells.toList.length) cs.length with
  |true=>forceLO (putL (i*sz) v.cells.toList cs) fun cs=>fillV sz r cs
  |false=>none
theorem fillV_ok (sz:Nat):∀(ps:List (Nat×Value)) (cs cs':List Value),fillV sz ps cs=some cs'→Instr.fill (fun i=>some (i*sz,sz)) cs.toArray ps=some cs'.toArray
 |[],cs,cs',h=>by simp [fillV] at h;subst h;rfl
 |(i,v)::r,cs,cs',h=>by
  simp only [fillV] at h
  split at h<;>(try cases h)
  rename_i hc
  simp only [Bool.and_eq_true,Nat.beq_eq,Nat.ble_eq] at hc;rw [forceLO_eq] at h;rw [fill_step _ cs v.cells.toList i v (i*sz) sz r rfl (by simp) hc.1 hc.2];exact fillV_ok sz r _ _ h
theorem Ext.buildSlice {t e:TypeId} {sz bytes:Nat} (st:SlTy P t e sz bytes) {o:Oper} {len:Nat} {ps:Array (Nat×Operand)} (ho:o.op=.buildSlice t len ps) {ev:Operand→Value} {h:Hp} {K:Option Value→Hp→Prop} {l:List Atom} (hown:Own h l)
  (zs:List Value) (hz:∀w,∃z,(zeroValue e).run P w=.ok z w∧(Array.range (len*sz)).map (z.cells[· % z.cells.size]!)=zs.toArray) (cs:List Value) (hcs:fillV sz (ps.toList.map fun x=>(x.1,ev x.2)) zs=some cs) (hlen:cs.length=len*sz) (hsmall:len*sz≤16777216)
  (k:∀g h',h.le h'→Own h' (.row ⟨e,sz,.slice (some ⟨g,0,none⟩) len len,len,cs⟩::l)→K (some (.slice (some ⟨g,0,none⟩) len len)) h'):Ext P (execOp ev o) h K:=by
 have hop:execOp ev o=(do pure (Next.value (←Instr.buildSlice t len (ps.map fun(i,x)=>(i,ev x)))):Sem Next):=by unfold execOp;rw [ho]
 rw [hop];refine⟨fun w hw=>?_⟩;obtain⟨z,hz1,hz2⟩:=hz w;have hfill:=fillV_ok sz _ _ _ hcs;have hrun:(Instr.buildSlice t len (ps.map fun(i,x)=>(i,ev x))).run P w=.ok (.slice (some ⟨w.heap.size,0,none⟩) len len) (w.alloc (.cells cs.toArray e)):=by
  have hp:(ps.map fun(x:Nat×Operand)=>(x.1,ev x.2)).toList=ps.toList.map fun x=>(x.1,ev x.2):=by simp
  unfold Instr.buildSlice;simp only [Sem.run_bind,run_underlying st.u,Result.andThen_ok,st.size];rw [if_neg (by omega)];by_cases h0:len*sz=0
  ·have e0:(Array.range (len*sz)).map ((#[]:Array Value)[· % (#[]:Array Value).size]!)=zs.toArray:=by rw [←hz2,h0];simp
   rw [if_pos h0];simp only [Sem.run_bind,Sem.run_pure,Result.andThen_ok,e0,hp,hfill];rfl
  ·rw [if_neg h0];simp only [Sem.run_bind,Sem.run_pure,Result.andThen_ok,hz1,hz2,hp,hfill];rfl
 have hnone:=heap_none hw;have hmx:len≤maxLen:=by
  have:=st.pos;have:len≤len*sz:=Nat.le_mul_of_pos_right _ this;unfold maxLen;omega
 refine⟨.value _,w.alloc (.cells cs.toArray e),some _,h.put w.heap.size (.cells cs.toArray e (0,0)),run_value _ w _ _ hrun,.inl ⟨rfl,rfl⟩,k w.heap.size _ (fun b ob e=>by rw [Hp.put_ne _ _ (Nat.ne_of_lt (hw.lt e))];exact e) ?_,?_,?_⟩
 ·refine hown.add (y:=.row ⟨e,sz,.slice (some ⟨w.heap.size,0,none⟩) len len,len,cs⟩) ⟨hlen,.inr ⟨w.heap.size,len,cs.toArray,rfl,Hp.put_same _ _ _,Nat.le_refl _,hmx,by simpa using hlen,?_⟩⟩ (fun g e=>by cases e;exact hnone) (fun b e=>Hp.put_ne _ _ fun e2=>e (by subst e2;rfl));show cs.take (len*sz)=cs;rw [List.take_of_length_le (by omega)]
 ·intro b ob e;by_cases hb:b=w.heap.size
  ·subst hb;rw [Hp.put_same] at e;cases e;exact heap_alloc_new w _
  ·rw [Hp.put_ne _ _ hb] at e;rw [heap_alloc_old w _ (hw.lt e)];exact hw b ob e
 ·exact⟨rfl,rfl,rfl,by simp,fun b hb e=>⟨heap_alloc_old w _ hb,by rw [Hp.put_ne _ _ (by omega)];exact e⟩⟩
theorem Ext.len {t e:TypeId} (hu:P.underlying t=some (.slice e)) {o:Oper} {x:Operand} (ho:o.op=.call { callee:=.builtin .len,args:=#[x],argTypes:=#[t] }) {ev:Operand→Value} {h:Hp} {K:Option Value→Hp→Prop} {a:Option Addr} {n c:Nat} (hx:ev x=.slice a n c) (k:K (some (.int .i64 n)) h):Ext P (execOp ev o) h K:=by
 refine Ext.val _ (fun w=>?_) k;simp [execOp,ho,resolve,invoke,builtin,hx,Builtin.len_,run_underlying hu,goInt]
theorem Ext.quo {t t':TypeId} {o:Oper} {x y:Operand} (ho:o.op=.binOp .quo t x y t') {ev:Operand→Value} {h:Hp} {K:Option Value→Hp→Prop} {a b:Int} (hx:ev x=.int .i64 a) (hy:ev y=.int .i64 b) (hb:b≠0) (k:K (some (.int .i64 (IntKind.i64.wrap (a.tdiv b)))) h):Ext P (execOp ev o) h K :=
 Ext.val _ (fun w=>by simp [execOp,ho,hx,hy,eqGuard,binOp,Op.intDiv,hb]) k
theorem Ext.rem {t t':TypeId} {o:Oper} {x y:Operand} (ho:o.op=.binOp .rem t x y t') {ev:Operand→Value} {h:Hp} {K:Option Value→Hp→Prop} {a b:Int} (hx:ev x=.int .i64 a) (hy:ev y=.int .i64 b) (hb:b≠0) (k:K (some (.int .i64 (a.tmod b))) h):Ext P (execOp ev o) h K :=
 Ext.val _ (fun w=>by simp [execOp,ho,hx,hy,eqGuard,binOp,Op.intDiv,hb]) k
end Go.Proofs.YtgmkmeodimmdoaaGreatDoor
