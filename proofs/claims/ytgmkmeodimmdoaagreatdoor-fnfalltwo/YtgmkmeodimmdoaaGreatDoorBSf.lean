import Derived.Test.YtgmkmeodimmdoaaGreatDoorBSe
namespace Go.Proofs.YtgmkmeodimmdoaaGreatDoor
open Go.RowKit
set_option maxRecDepth 100000
structure StepOk (n:Nat) (o:OpD) (p:Nat):Prop where
 r:∃k:Nat,o.r=k∧k<4
 s:∃k:Nat,o.s=k∧k<4
 nx:o.k≠9→o.k≠14→p+1<n
theorem Ext.loadOp {o:Oper} {y:Operand} (ho:o.op=.load 80 y) {ev:Operand→Value} {h:Hp} {K:Option Value→Hp→Prop} {v:Value} {L:List OpD} (hr:RowOk h (rowO v L)) {g cap:Nat} (hv:v=.slice (some ⟨g,0,none⟩) L.length cap) {i:Nat} (hi:i<L.length) (hy:ev y=.pointer (some ⟨g,0+i*6,none⟩)) (k:K (some (OpD.val L[i])) h):Ext Tryz.prog (execOp ev o) h K :=
 Ext.load tbE_ok rfl ho hr hv hy (by show 0+i*6+6≤L.length*6;omega) (OpD.val L[i]) (.inl ⟨rfl,by rw [Nat.zero_add];exact congrArg (fun l=>Value.agg (List.toArray l)) (flat_at encO 6 encO_len L i hi).symm⟩) k
def stepR (w:PW) (i:Nat) (id:Int) (d:RunD) (o:OpD) (w':PW):Prop :=
 if o.k=1 then w'={ w with runs:=w.runs.set i ((d.put o.r.toNat (o.vk,o.vn)).next) }
 else if o.k=2 then w'={ w with runs:=w.runs.set i ((d.put o.r.toNat (d.slots.getD o.s.toNat (0,0))).next) }
 else if o.k=3 then (match addP (d.slots.getD o.r.toNat (0,0)) (d.slots.getD o.s.toNat (0,0)) with
  |some v=>w'={ w with runs:=w.runs.set i ((d.put o.r.toNat v).next) }
  |none=>EndR (2,1) w [id] w')
 else if o.k=4 then w'={ w with runs:=w.runs.set i ((d.put o.r.toNat (3,id)).next) }
 else if o.k=5 then w'=beginP w i id d o o.r.toNat
 else if o.k=7∨o.k=8 then w'=takeP w i id d o o.r.toNat
 else if o.k=9 then w'={ w with runs:=w.runs.set i { d with pl:=o.to } }
 else if o.k=10 then w'={ w with runs:=w.runs.set i { d with pl:=if d.slots.getD o.r.toNat (0,0)=(o.vk,o.vn) then o.to else wr (d.pl+1) } }
 else if o.k=13 then w'={ w with runs:=w.runs.set i { d with trap:=o.vn==1,pl:=wr (d.pl+1) } }
 else if o.k=14 then EndR (d.slots.getD o.r.toNat (0,0)) w [id] w'
 else ((d.slots.getD o.r.toNat (0,0)).1≠3∧EndR (2,2) w [id] w')∨((d.slots.getD o.r.toNat (0,0)).1=3∧w'=otherP w i id d o (d.slots.getD o.r.toNat (0,0)) (d.slots.getD o.s.toNat (0,0)))
theorem l21Step_con (D:WD) (B:Nat) (hB:B<999) (hC:D.code.length≤1000) (hw:D.pure.Wk B) (i:Nat) (hi:i<D.runs.length) (id:Int) (hid:id=(i:Int)+1) (p:Nat) (hp:p<D.code.length) (hpl:D.runs[i].1.pl=p) (hso:StepOk D.code.length D.code[p] p)
  (hto:∀x∈D.runs[i].1.slots,x.1=3→1≤x.2) (h:Hp) (l:List Atom) (ho:Own h (wAtoms D++l)) :
  Con Tryz.prog 100 #[D.val,.int .i64 id] h fun r h'=>∃D',r=D'.val∧Own h' (wAtoms D'++l)∧stepR D.pure i id D.runs[i].1 D.code[p] D'.pure:=by
 obtain⟨g,hra⟩:=w_ra ho (by omega);have hn6:D.runs.length≤6:=by have:=hw.runs;rw [pure_len] at this;exact this
 have hQ:D.queue.length≤1000:=Nat.le_trans hw.queue (by decide);have hz:IntKind.i64.wrap (id-1)=(i:Int):=by rw [hid,show (i:Int)+1-1=i by omega];exact wrapN _ (by omega) (by omega)
 have hsl:D.runs[i].1.slots.length=4:=hw.slots _ (pure_mem hi);have hcr:RowOk h (rowO D.cv D.code):=ho.rowOk (by simp [wAtoms]);obtain⟨gc,hca⟩:=row_some hcr (by omega);have hcv:D.cv=.slice (some ⟨gc,0,none⟩) D.code.length D.ck:=by rw [WD.cv,hca]
 have ho1:=w_open ho i hi;have hsr:RowOk h (rowV (.slice D.runs[i].2.a0 D.runs[i].1.slots.length D.runs[i].2.k0) D.runs[i].1.slots):=ho1.rowOk (by simp [runRows]);obtain⟨gs,has⟩:=row_some hsr (by omega);have hsv:Value.slice D.runs[i].2.a0 D.runs[i].1.slots.length D.runs[i].2.k0=.slice (some ⟨gs,0,none⟩) D.runs[i].1.slots.length D.runs[i].2.k0:=by rw [has]
 obtain⟨⟨k,hr,hk⟩,⟨s,hs,hsk⟩,hnx⟩:=hso;have hks:k<D.runs[i].1.slots.length:=by omega
 have hss:s<D.runs[i].1.slots.length:=by omega
 generalize hgo:D.code[p]=o at *;have hrt:o.r.toNat=k:=by omega
 have hst:o.s.toNat=s:=by omega
 have hgk:D.runs[i].1.slots.getD k (0,0)=D.runs[i].1.slots[k]:=by rw [List.getD_eq_getElem?_getD,List.getElem?_eq_getElem hks];rfl
 have hgs:D.runs[i].1.slots.getD s (0,0)=D.runs[i].1.slots[s]:=by rw [List.getD_eq_getElem?_getD,List.getElem?_eq_getElem hss];rfl
 have hmail:D.runs[i].1.mail.length<1000:=Nat.lt_of_le_of_lt (hw.mail _ (pure_mem hi)) (by decide);refine Con.of_W (tb:=tbE) (args:=[D.val,.int .i64 id]) Tryz.func100 rfl Tryz.results100 Tryz.ntmps100 (by simp) (Tryz.call100 _) (tm:=[(0,.a D.cells),(1,.v (.int .i64 id))]) rfl ?_;refine vc_ok ⟨tbE_ok,_,Tryz.func100,Tryz.results100,Tryz.ntmps100⟩ 400 _ _ _ _ ?_;conv=>whnf
 refine Ext.index slRun.u slRun.size rfl (by exact rv_same hra) rfl i hz hi ?_;conv=>whnf
 refine Ext.loadRun (D:=D) rfl (ho.rowOk (by simp [wAtoms])) (rv_same hra) hi rfl ?_;conv=>whnf
 refine Ext.index slOp.u slOp.size rfl (by exact hcv) rfl p hpl hp ?_;conv=>whnf
 refine Ext.loadOp rfl hcr hcv hp rfl ?_;rw [hgo];conv=>whnf
 refine⟨fun h2=>?_,fun h2=>?_⟩<;>conv=>whnf
 ·have e1:o.k=1:=by simpa using h2
  rw [hr];refine(l21Set_con D i hi (by omega) id hid k hk hsl (o.vk,o.vn) h l ho).mono ?_;rintro r h3 ⟨rfl,ho3⟩;conv=>whnf
  refine⟨_,rfl,ho3,?_⟩;unfold stepR;rw [if_pos e1,hrt];simp [WD.pure,List.map_set]
 ·have e1:o.k≠1:=by simpa using h2
  refine⟨fun h2=>?_,fun h2=>?_⟩<;>conv=>whnf
  ·have e2:o.k=2:=by simpa using h2
   refine W.draw [(0,true),(1,true),(2,true),(3,true),(4,true),(5,true),(6,true),(7,true),(8,true),(9,false),(10,false),(11,false)] [0,2,3] none 99 (by kernel_rfl) rfl (by kernel_rfl) mixed rfl (fun g e=>by cases e) ?_;refine vc_ok ⟨tbE_ok,_,Tryz.func100,Tryz.results100,Tryz.ntmps100⟩ 400 _ _ _ _ ?_;conv=>whnf
   refine Rd.index slVal.u slVal.size rfl (by exact hsv) rfl s hs hss ?_;conv=>whnf
   refine Ext.loadVal rfl hsr hsv hss rfl ?_;conv=>whnf
   rw [hr];refine(l21Set_con D i hi (by omega) id hid k hk hsl D.runs[i].1.slots[s] h l ho).mono ?_;rintro r h3 ⟨rfl,ho3⟩;conv=>whnf
   refine⟨_,rfl,ho3,?_⟩;unfold stepR;rw [if_neg e1,if_pos e2,hrt,hst,hgs];simp [WD.pure,List.map_set]
  ·have e2:o.k≠2:=by simpa using h2
   refine⟨fun h2=>?_,fun h2=>?_⟩<;>conv=>whnf
   ·have e3:o.k=3:=by simpa using h2
    refine W.draw [(0,true),(1,true),(2,true),(3,true),(4,true),(5,true),(6,true),(7,true),(8,true),(9,true),(10,true),(11,true),(1012016,false),(13,true),(14,true),(15,true),(16,false),(17,false),(18,true)] [0,2,3] (some h) 99 (by kernel_rfl) rfl (by kernel_rfl) mixed rfl (fun g e=>by cases e;exact Hp.le_refl _) ?_;refine vc_ok ⟨tbE_ok,_,Tryz.func100,Tryz.results100,Tryz.ntmps100⟩ 400 _ _ _ _ ?_;conv=>whnf
    refine Rd.index slVal.u slVal.size rfl (by exact hsv) rfl k hr hks ?_;conv=>whnf
    refine Rd.loadVal rfl hsr hsv hks rfl ?_;conv=>whnf
    refine Rd.index slVal.u slVal.size rfl (by exact hsv) rfl s hs hss ?_;conv=>whnf
    refine Rd.loadVal rfl hsr hsv hss rfl ?_;conv=>whnf
    refine⟨?_,?_⟩<;>conv=>whnf
    ·refine(l1Add_con D.runs[i].1.slots[k] D.runs[i].1.slots[s] h).mono ?_;rintro r h3 ⟨rfl,hres⟩;rcases hres with⟨hn,rfl⟩|⟨v,hv,rfl⟩
     ·conv=>whnf
      refine⟨Hp.le_refl _,?_⟩;conv=>whnf
      refine⟨fun _=>?_,fun e=>(by cases e)⟩;conv=>whnf
      refine(l13End_con D B (by omega) hw i hi id hid (2,1) h3 l ho).mono ?_;rintro r h4 ⟨D',rfl,ho4,hR,_,_⟩;conv=>whnf
      refine⟨D',rfl,ho4,?_⟩;unfold stepR;rw [if_neg e1,if_neg e2,if_pos e3,hrt,hst,hgk,hgs,hn];exact hR
     ·conv=>whnf
      refine⟨Hp.le_refl _,?_⟩;conv=>whnf
      refine⟨fun e=>(by cases e),fun _=>?_⟩;conv=>whnf
      rw [hr];refine(l21Set_con D i hi (by omega) id hid k hk hsl v h3 l ho).mono ?_;rintro r h4 ⟨rfl,ho4⟩;conv=>whnf
      refine⟨_,rfl,ho4,?_⟩;unfold stepR;rw [if_neg e1,if_neg e2,if_pos e3,hrt,hst,hgk,hgs,hv];simp [WD.pure,List.map_set]
    ·refine(l1Add_con D.runs[i].1.slots[k] D.runs[i].1.slots[s] h).mono ?_;rintro r h3 ⟨rfl,hres⟩;rcases hres with⟨hn,rfl⟩|⟨v,hv,rfl⟩
     ·conv=>whnf
      refine⟨Hp.le_refl _,?_⟩;conv=>whnf
      refine⟨fun _=>?_,fun e=>(by cases e)⟩;conv=>whnf
      refine(l13End_con D B (by omega) hw i hi id hid (2,1) h3 l ho).mono ?_;rintro r h4 ⟨D',rfl,ho4,hR,_,_⟩;conv=>whnf
      refine⟨D',rfl,ho4,?_⟩;unfold stepR;rw [if_neg e1,if_neg e2,if_pos e3,hrt,hst,hgk,hgs,hn];exact hR
     ·conv=>whnf
      refine⟨Hp.le_refl _,?_⟩;conv=>whnf
      refine⟨fun e=>(by cases e),fun _=>?_⟩;conv=>whnf
      rw [hr];refine(l21Set_con D i hi (by omega) id hid k hk hsl v h3 l ho).mono ?_;rintro r h4 ⟨rfl,ho4⟩;conv=>whnf
      refine⟨_,rfl,ho4,?_⟩;unfold stepR;rw [if_neg e1,if_neg e2,if_pos e3,hrt,hst,hgk,hgs,hv];simp [WD.pure,List.map_set]
   ·have e3:o.k≠3:=by simpa using h2
    refine⟨fun h2=>?_,fun h2=>?_⟩<;>conv=>whnf
    ·have e4:o.k=4:=by simpa using h2
     rw [hr];refine(l21Set_con D i hi (by omega) id hid k hk hsl (3,id) h l ho).mono ?_;rintro r h3 ⟨rfl,ho3⟩;conv=>whnf
     refine⟨_,rfl,ho3,?_⟩;unfold stepR;rw [if_neg e1,if_neg e2,if_neg e3,if_pos e4,hrt];simp [WD.pure,List.map_set]
    ·have e4:o.k≠4:=by simpa using h2
     refine⟨fun h2=>?_,fun h2=>?_⟩<;>conv=>whnf
     ·have e5:o.k=5:=by simpa using h2
      refine(l21Begin_con D i hi (by omega) hQ id hid o k hk hr hsl h l ho).mono ?_;rintro r h3 ⟨D',rfl,ho3,hR⟩;conv=>whnf
      refine⟨D',rfl,ho3,?_⟩;unfold stepR;rw [if_neg e1,if_neg e2,if_neg e3,if_neg e4,if_pos e5,hrt];exact hR
     ·have e5:o.k≠5:=by simpa using h2
      refine⟨fun h2=>?_,fun h2=>?_⟩<;>conv=>whnf
      ·have e7:o.k=7:=by simpa using h2
       refine(l21Take_con D i hi (by omega) hQ id hid o k hk hr hsl hmail h l ho).mono ?_;rintro r h3 ⟨D',rfl,ho3,hR⟩;conv=>whnf
       refine⟨D',rfl,ho3,?_⟩;unfold stepR;rw [if_neg e1,if_neg e2,if_neg e3,if_neg e4,if_neg e5,if_pos (by first|exact .inl e7|exact .inr e8),hrt];exact hR
      ·have e7:o.k≠7:=by simpa using h2
       refine⟨fun h2=>?_,fun h2=>?_⟩<;>conv=>whnf
       ·have e8:o.k=8:=by simpa using h2
        refine(l21Take_con D i hi (by omega) hQ id hid o k hk hr hsl hmail h l ho).mono ?_;rintro r h3 ⟨D',rfl,ho3,hR⟩;conv=>whnf
        refine⟨D',rfl,ho3,?_⟩;unfold stepR;rw [if_neg e1,if_neg e2,if_neg e3,if_neg e4,if_neg e5,if_pos (by first|exact .inl e7|exact .inr e8),hrt];exact hR
       ·have e8:o.k≠8:=by simpa using h2
        refine⟨fun h2=>?_,fun h2=>?_⟩<;>conv=>whnf
        ·have e9:o.k=9:=by simpa using h2
         refine Ext.index slRun.u slRun.size rfl (by exact rv_same hra) rfl i hz hi ?_;conv=>whnf
         refine Ext.storeRunCell (D:=D) rfl rfl rfl hi (rv_same hra) 1 (by decide) (.int .i64 o.to) rfl rfl ({ D.runs[i].1 with pl:=o.to },D.runs[i].2) rfl rfl (w_open ho i hi) rfl rfl fun h6 ho6=>?_
         conv=>whnf
         refine⟨_,by rw [w_val];rfl,ho6,?_⟩;unfold stepR;rw [if_neg e1,if_neg e2,if_neg e3,if_neg e4,if_neg e5,if_neg (by rintro(e|e)<;>contradiction),if_pos e9];simp [WD.pure,List.map_set]
        ·have e9:o.k≠9:=by simpa using h2
         refine⟨fun h2=>?_,fun h2=>?_⟩<;>conv=>whnf
         ·have e10:o.k=10:=by simpa using h2
          refine Ext.index slRun.u slRun.size rfl (by exact rv_same hra) rfl i hz hi ?_;conv=>whnf
          refine Ext.storeRunCell (D:=D) rfl rfl rfl hi (rv_same hra) 1 (by decide) (.int .i64 (wr (D.runs[i].1.pl+1))) rfl rfl ({ D.runs[i].1 with pl:=wr (D.runs[i].1.pl+1) },D.runs[i].2) rfl rfl (w_open ho i hi) rfl rfl fun h6 ho6=>?_
          conv=>whnf
          have hsr6:RowOk h6 (rowV (.slice D.runs[i].2.a0 D.runs[i].1.slots.length D.runs[i].2.k0) D.runs[i].1.slots):=by
           have h7:=w_open ho6 i (by simpa using hi);have h8:(D.setRun i ({ D.runs[i].1 with pl:=wr (D.runs[i].1.pl+1) },D.runs[i].2)).runs[i]'(by simpa using hi)=({ D.runs[i].1 with pl:=wr (D.runs[i].1.pl+1) },D.runs[i].2):=by simp
           rw [h8] at h7;exact h7.rowOk (r:=rowV (.slice D.runs[i].2.a0 D.runs[i].1.slots.length D.runs[i].2.k0) D.runs[i].1.slots) (by simp [runRows])
          refine W.draw [(0,true),(1,true),(2,true),(3,true),(4,true),(6,true),(7,true),(5,false),(8,false)] [0,2,3] none 99 (by kernel_rfl) rfl (by kernel_rfl) mixed rfl (fun g e=>by cases e) ?_;refine vc_ok ⟨tbE_ok,_,Tryz.func100,Tryz.results100,Tryz.ntmps100⟩ 400 _ _ _ _ ?_;conv=>whnf
          refine Rd.index slVal.u slVal.size rfl (by exact hsv) rfl k hr hks ?_;conv=>whnf
          refine Ext.loadVal rfl hsr6 hsv hks rfl ?_;conv=>whnf
          refine Ext.eqV rfl rfl rfl ?_;conv=>whnf
          refine⟨fun h7=>?_,fun h7=>?_⟩<;>conv=>whnf
          ·have hi6:i<(D.setRun i ({ D.runs[i].1 with pl:=wr (D.runs[i].1.pl+1) },D.runs[i].2)).runs.length:=by simpa using hi
           have hg6:(D.setRun i ({ D.runs[i].1 with pl:=wr (D.runs[i].1.pl+1) },D.runs[i].2)).runs[i]=({ D.runs[i].1 with pl:=wr (D.runs[i].1.pl+1) },D.runs[i].2):=by simp
           have hs2:(D.setRun i ({ D.runs[i].1 with pl:=wr (D.runs[i].1.pl+1) },D.runs[i].2)).setRun i ({ D.runs[i].1 with pl:=o.to },D.runs[i].2)=D.setRun i ({ D.runs[i].1 with pl:=o.to },D.runs[i].2):=by simp [WD.setRun]
           refine Ext.index slRun.u slRun.size rfl (by exact rv_same hra) rfl i hz hi ?_;conv=>whnf
           refine Ext.storeRunCell (D:=D.setRun i ({ D.runs[i].1 with pl:=wr (D.runs[i].1.pl+1) },D.runs[i].2)) rfl rfl rfl hi6 (by show Value.slice D.ra _ _=_;rw [hra]) 1 (by decide) (.int .i64 o.to) rfl rfl ({ D.runs[i].1 with pl:=o.to },D.runs[i].2) (by rw [hg6];rfl) (by rw [hg6];rfl) (w_open ho6 i hi6) rfl rfl fun h8 ho8=>?_
           conv=>whnf
           rw [hs2] at ho8;have heq:D.runs[i].1.slots[k]=(o.vk,o.vn):=by
            rw [Bool.and_eq_true,beq_iff_eq,beq_iff_eq] at h7;exact Prod.ext h7.1 h7.2
           refine⟨_,by rw [w_val];rfl,ho8,?_⟩;unfold stepR;rw [if_neg e1,if_neg e2,if_neg e3,if_neg e4,if_neg e5,if_neg (by rintro(e|e)<;>contradiction),if_neg e9,if_pos e10,hrt,hgk,if_pos heq];simp [WD.pure,List.map_set]
          ·have hne:¬D.runs[i].1.slots[k]=(o.vk,o.vn):=fun e=>by
            rw [e] at h7;simp at h7
           refine⟨_,by rw [w_val];rfl,ho6,?_⟩;unfold stepR;rw [if_neg e1,if_neg e2,if_neg e3,if_neg e4,if_neg e5,if_neg (by rintro(e|e)<;>contradiction),if_neg e9,if_pos e10,hrt,hgk,if_neg hne];simp [WD.pure,List.map_set]
         ·have e10:o.k≠10:=by simpa using h2
          refine⟨fun h2=>?_,fun h2=>?_⟩<;>conv=>whnf
          ·have e13:o.k=13:=by simpa using h2
           refine Ext.index slRun.u slRun.size rfl (by exact rv_same hra) rfl i hz hi ?_;conv=>whnf
           refine Ext.storeRunCell (D:=D) rfl rfl rfl hi (rv_same hra) 9 (by decide) (.bool (o.vn==1)) rfl rfl ({ D.runs[i].1 with trap:=o.vn==1 },D.runs[i].2) rfl rfl (w_open ho i hi) rfl rfl fun h6 ho6=>?_
           conv=>whnf
           have hi6:i<(D.setRun i ({ D.runs[i].1 with trap:=o.vn==1 },D.runs[i].2)).runs.length:=by simpa using hi
           have hg6:(D.setRun i ({ D.runs[i].1 with trap:=o.vn==1 },D.runs[i].2)).runs[i]=({ D.runs[i].1 with trap:=o.vn==1 },D.runs[i].2):=by simp
           have hs2:(D.setRun i ({ D.runs[i].1 with trap:=o.vn==1 },D.runs[i].2)).setRun i ({ D.runs[i].1 with trap:=o.vn==1,pl:=wr (D.runs[i].1.pl+1) },D.runs[i].2)=D.setRun i ({ D.runs[i].1 with trap:=o.vn==1,pl:=wr (D.runs[i].1.pl+1) },D.runs[i].2):=by simp [WD.setRun]
           refine Ext.index slRun.u slRun.size rfl (by exact rv_same hra) rfl i hz hi ?_;conv=>whnf
           refine Ext.storeRunCell (D:=D.setRun i ({ D.runs[i].1 with trap:=o.vn==1 },D.runs[i].2)) rfl rfl rfl hi6 (by show Value.slice D.ra _ _=_;rw [hra]) 1 (by decide) (.int .i64 (wr (D.runs[i].1.pl+1))) rfl rfl ({ D.runs[i].1 with trap:=o.vn==1,pl:=wr (D.runs[i].1.pl+1) },D.runs[i].2) (by rw [hg6];rfl) (by rw [hg6];rfl) (w_open ho6 i hi6) rfl rfl fun h8 ho8=>?_
           conv=>whnf
           rw [hs2] at ho8;refine⟨_,by rw [w_val];rfl,ho8,?_⟩;unfold stepR;rw [if_neg e1,if_neg e2,if_neg e3,if_neg e4,if_neg e5,if_neg (by rintro(e|e)<;>contradiction),if_neg e9,if_neg e10,if_pos e13];simp [WD.pure,List.map_set]
          ·have e13:o.k≠13:=by simpa using h2
           refine⟨fun h2=>?_,fun h2=>?_⟩<;>conv=>whnf
           ·have e14:o.k=14:=by simpa using h2
            refine W.draw [(0,true),(1,true),(2,true),(3,true),(4,true),(5,true),(6,true),(7,false),(8,false),(9,false)] [0,2,3] none 99 (by kernel_rfl) rfl (by kernel_rfl) mixed rfl (fun g e=>by cases e) ?_;refine vc_ok ⟨tbE_ok,_,Tryz.func100,Tryz.results100,Tryz.ntmps100⟩ 400 _ _ _ _ ?_;conv=>whnf
            refine Rd.index slVal.u slVal.size rfl (by exact hsv) rfl k hr hks ?_;conv=>whnf
            refine Ext.loadVal rfl hsr hsv hks rfl ?_;conv=>whnf
            refine(l13End_con D B (by omega) hw i hi id hid D.runs[i].1.slots[k] h l ho).mono ?_;rintro r h4 ⟨D',rfl,ho4,hR,_,_⟩;conv=>whnf
            refine⟨D',rfl,ho4,?_⟩;unfold stepR;rw [if_neg e1,if_neg e2,if_neg e3,if_neg e4,if_neg e5,if_neg (by rintro(e|e)<;>contradiction),if_neg e9,if_neg e10,if_neg e13,if_pos e14,hrt,hgk];exact hR
           ·have e14:o.k≠14:=by simpa using h2
            have hp1:D.runs[i].1.next.pl=((p+1:Nat):Int):=by show wr (D.runs[i].1.pl+1)=_;rw [hpl,wr,wrapN _ (by omega) (by omega)];omega
            refine(l21Other_con D B hB hw i hi id hid o k hk hr ⟨p+1,hp1,hnx e9 e14⟩ (fun hk'=>hto _ (List.getElem_mem hk')) (fun _=>⟨s,hs,hsk⟩) h l ho).mono ?_;rintro r h4 ⟨D',rfl,ho4,hR⟩;conv=>whnf
            refine⟨D',rfl,ho4,?_⟩;unfold stepR;rw [if_neg e1,if_neg e2,if_neg e3,if_neg e4,if_neg e5,if_neg (by rintro(e|e)<;>contradiction),if_neg e9,if_neg e10,if_neg e13,if_neg e14,hrt];exact hR
def tickS (w:PW) (j:Nat):PW :=
 match w.runs[j]? with
 |some d=>if d.st==2&&d.due==w.now then { w with runs:=w.runs.set j { d with st:=1,due := -1 },queue:=w.queue++[(j:Int)+1] } else w
 |none=>w
def tickP (w:PW):PW:=if w.now≥250 then w else (List.range w.runs.length).foldl tickS { w with now:=wr (w.now+1) }
theorem tickS_len (w:PW) (j:Nat):(tickS w j).runs.length=w.runs.length∧(tickS w j).queue.length≤w.queue.length+1∧(tickS w j).now=w.now:=by
 unfold tickS
 split
 ·split
  ·exact⟨by simp,by simp,rfl⟩
  ·exact⟨rfl,Nat.le_succ _,rfl⟩
 ·exact⟨rfl,Nat.le_succ _,rfl⟩
theorem ticks_len (w:PW):∀n:Nat,((List.range n).foldl tickS w).runs.length=w.runs.length∧((List.range n).foldl tickS w).queue.length≤w.queue.length+n
 |0=>⟨rfl,Nat.le_refl _⟩
 |n+1=>by
  have h:=ticks_len w n;have h2:=tickS_len ((List.range n).foldl tickS w) n;rw [List.range_succ,List.foldl_append];exact⟨h2.1.trans h.1,Nat.le_trans h2.2.1 (by have:=h.2;omega)⟩
theorem l21Tick_con (D:WD) (hL:D.runs.length≤100) (hQ:D.queue.length≤1000) (h:Hp) (l:List Atom) (ho:Own h (wAtoms D++l)) :
  Con Tryz.prog 147 #[D.val] h fun r h'=>∃D',r=D'.val∧Own h' (wAtoms D'++l)∧D'.pure=tickP D.pure:=by
 refine Con.of_W (tb:=tbE) (args:=[D.val]) Tryz.func147 rfl Tryz.results147 Tryz.ntmps147 (by simp) (Tryz.call147 _) (tm:=[(0,.a D.cells)]) rfl ?_;refine vc_ok ⟨tbE_ok,_,Tryz.func147,Tryz.results147,Tryz.ntmps147⟩ 400 _ _ _ _ ?_;conv=>whnf
 refine⟨fun h2=>?_,fun h2=>?_⟩<;>conv=>whnf
 ·have h2':D.pure.now≥250:=by show D.now≥250;simpa using h2
  exact⟨D,rfl,ho,by rw [tickP,if_pos h2']⟩
 ·have h2':¬D.pure.now≥250:=by show ¬D.now≥250;simpa using h2
  obtain⟨E1,hE1⟩:∃E:WD,E={ D with now:=wr (D.now+1) }:=⟨_,rfl⟩;have ho1:Own h (wAtoms E1++l):=by rw [hE1];exact ho
  have hp1:E1.pure={ D.pure with now:=wr (D.pure.now+1) }:=by rw [hE1];rfl
  have hl1:E1.runs.length=D.runs.length:=by rw [hE1]
  refine W.cut [(1,.p 0 0),(2,.p 1 0),(3,.v (.int .i64 (0:Nat)))] [⟨27,E1.cells⟩,⟨27,[.slice none 0 0,.slice none 0 0,.slice none 0 0,.int .i64 0,.int .i64 0,.int .i64 0,.int .i64 0]⟩] [] ⟨rfl,rfl,rfl,trivial⟩ (by rw [hE1];rfl) rfl ⟨_,rfl⟩ ?_;refine W.loop (α:=Nat×WD) (fun x=>[(1,.p 0 0),(2,.p 1 0),(3,.v (.int .i64 (x.1:Int)))]) (fun x=>[⟨27,x.2.cells⟩,⟨27,[.slice none 0 0,.slice none 0 0,.slice none 0 0,.int .i64 0,.int .i64 0,.int .i64 0,.int .i64 0]⟩])
   (fun x h'=>x.1≤D.runs.length∧Own h' (wAtoms x.2++l)∧x.2.pure=(List.range x.1).foldl tickS E1.pure) (fun x=>D.runs.length-x.1) ?_ (0,E1) h ⟨Nat.zero_le _,ho1,rfl⟩
  rintro⟨j,E⟩ h3 ⟨hj,hEo,hEp⟩ ih;dsimp only at hj hEo hEp ⊢;have hll:=ticks_len E1.pure j;rw [←hEp,pure_len,pure_len,hl1] at hll;obtain⟨hEl,hEq⟩:=hll;have hEq':E.queue.length≤2000:=by
   have:E1.pure.queue.length≤1000:=by rw [hp1];exact hQ
   have e:E.pure.queue.length=E.queue.length:=rfl;omega
  refine vc_ok ⟨tbE_ok,_,Tryz.func147,Tryz.results147,Tryz.ntmps147⟩ 400 _ _ _ _ ?_;conv=>whnf
  refine⟨fun h4=>?_,fun h4=>?_⟩<;>conv=>whnf
  ·have hlt:j<E.runs.length:=by simp at h4;omega
   obtain⟨g,hra⟩:=w_ra hEo (by omega);have hrr:RowOk h3 (rowR E.rv E.runs):=hEo.rowOk (by simp [wAtoms]);have hjp:j<E.pure.runs.length:=by rw [pure_len];exact hlt
   have hget:E.pure.runs[j]?=some E.runs[j].1:=by rw [List.getElem?_eq_getElem hjp,pure_get E j hlt]
   have hsucc:(List.range (j+1)).foldl tickS E1.pure=if E.runs[j].1.st==2&&E.runs[j].1.due==E.now then { E.pure with runs:=E.pure.runs.set j { E.runs[j].1 with st:=1,due := -1 },queue:=E.queue++[(j:Int)+1] } else E.pure:=by
    rw [List.range_succ,List.foldl_append,←hEp];simp only [List.foldl_cons,List.foldl_nil,tickS,hget];rfl
   have hwj:IntKind.i64.wrap ((j:Int)+1)=((j+1:Nat):Int):=by rw [wrapN _ (by omega) (by omega)];omega
   refine W.draw [(0,true),(1,true),(2,true),(3,true),(4,true),(5,true),(6,true),(7,true),(8,true),(9,true),(10,true),(11,true),(12,true),(13,true),(14,true),(15,true),(16,true),(17,true)] [0,1] (some h3) 99 (by kernel_rfl) rfl (by kernel_rfl) mixed rfl (fun g e=>by cases e;exact Hp.le_refl _) ?_;refine vc_ok ⟨tbE_ok,_,Tryz.func147,Tryz.results147,Tryz.ntmps147⟩ 400 _ _ _ _ ?_;conv=>whnf
   refine Rd.index slRun.u slRun.size rfl (by exact rv_same hra) rfl j rfl hlt ?_;conv=>whnf
   refine Rd.loadRunCell (D:=E) rfl ⟨rfl,rfl⟩ rfl hrr (rv_same hra) hlt 5 (by decide) rfl (.int .i64 E.runs[j].1.st) rfl ?_;conv=>whnf
   have hsame:∀(_:¬(E.runs[j].1.st==2&&E.runs[j].1.due==E.now)=true),E.pure=(List.range (j+1)).foldl tickS E1.pure:=fun hn=>by rw [hsucc,if_neg hn]
   refine⟨fun h5=>?_,fun h5=>?_⟩<;>conv=>whnf
   ·refine Rd.index slRun.u slRun.size rfl (by exact rv_same hra) rfl j rfl hlt ?_;conv=>whnf
    refine Rd.loadRunCell (D:=E) rfl ⟨rfl,rfl⟩ rfl hrr (rv_same hra) hlt 6 (by decide) rfl (.int .i64 E.runs[j].1.due) rfl ?_;conv=>whnf
    refine⟨fun h6=>?_,fun h6=>?_⟩<;>conv=>whnf
    ·refine Ext.index slRun.u slRun.size rfl (by exact rv_same hra) rfl j rfl hlt ?_;conv=>whnf
     refine Ext.storeRunCell (D:=E) rfl rfl rfl hlt (rv_same hra) 5 (by decide) (.int .i64 1) rfl rfl ({ E.runs[j].1 with st:=1 },E.runs[j].2) rfl rfl (w_open hEo j hlt) rfl rfl fun h7 ho7=>?_
     conv=>whnf
     refine Ext.index slRun.u slRun.size rfl (by exact rv_same hra) rfl j rfl hlt ?_;conv=>whnf
     have hi7:j<(E.setRun j ({ E.runs[j].1 with st:=1 },E.runs[j].2)).runs.length:=by simpa using hlt
     have hg7:(E.setRun j ({ E.runs[j].1 with st:=1 },E.runs[j].2)).runs[j]=({ E.runs[j].1 with st:=1 },E.runs[j].2):=by simp
     refine Ext.storeRunCell (D:=E.setRun j ({ E.runs[j].1 with st:=1 },E.runs[j].2)) rfl rfl rfl hi7 (by show Value.slice E.ra _ _=_;rw [hra]) 6 (by decide) (.int .i64 (-1)) rfl rfl ({ E.runs[j].1 with st:=1,due := -1 },E.runs[j].2) (by rw [hg7];rfl) (by rw [hg7];rfl) (w_open ho7 j hi7) rfl rfl fun h8 ho8=>?_
     conv=>whnf
     have hs2:(E.setRun j ({ E.runs[j].1 with st:=1 },E.runs[j].2)).setRun j ({ E.runs[j].1 with st:=1,due := -1 },E.runs[j].2)=E.setRun j ({ E.runs[j].1 with st:=1,due := -1 },E.runs[j].2):=by simp [WD.setRun]
     rw [hs2] at ho8;refine Ext.litI rfl (q_open ho8) (IntKind.i64.wrap ((j:Int)+1)) rfl fun g9 h9 _ ho9=>?_
     conv=>whnf
     refine Ext.pushI rfl ho9 rfl rfl (by show E.queue.length<_;omega) fun qa qk h10 ho10=>?_
     conv=>whnf
     have ho11:=q_shut (D:=E.setRun j ({ E.runs[j].1 with st:=1,due := -1 },E.runs[j].2)) (E.queue++[IntKind.i64.wrap ((j:Int)+1)]) qa qk ho10;have hih:=ih (j+1,(E.setRun j ({ E.runs[j].1 with st:=1,due := -1 },E.runs[j].2)).setQ (E.queue++[IntKind.i64.wrap ((j:Int)+1)]) qa qk) h10 ⟨by dsimp only;omega,ho11,by
      rw [hsucc,if_pos (by rw [h5,h6];rfl),hwj];simp [WD.pure,List.map_set]⟩ (by dsimp only;omega)
     dsimp only at hih;have hcc:((E.setRun j ({ E.runs[j].1 with st:=1,due := -1 },E.runs[j].2)).setQ (E.queue++[IntKind.i64.wrap ((j:Int)+1)]) qa qk).cells=[E.cv,E.rv,.slice qa (E.queue++[IntKind.i64.wrap ((j:Int)+1)]).length qk,.int .i64 E.now,.int .i64 E.sent,.int .i64 E.taken,.int .i64 E.lost]:=by simp [WD.cells]
     rw [hcc] at hih;rw [←hwj] at hih;exact W.back hih [] (by exact⟨rfl,rfl,rfl,trivial⟩) rfl rfl
    ·rw [hwj];refine W.back (ih (j+1,E) h3 ⟨by dsimp only;omega,hEo,hsame (by rw [h5,h6];exact Bool.false_ne_true)⟩ (by dsimp only;omega)) [] (by exact⟨rfl,rfl,rfl,trivial⟩) rfl rfl
   ·rw [hwj];refine W.back (ih (j+1,E) h3 ⟨by dsimp only;omega,hEo,hsame (by rw [h5];exact Bool.false_ne_true)⟩ (by dsimp only;omega)) [] (by exact⟨rfl,rfl,rfl,trivial⟩) rfl rfl
  ·have hje:j=D.runs.length:=by simp at h4;omega
   refine⟨E,rfl,hEo,?_⟩;rw [hEp,tickP,if_neg h2',hp1,hje,pure_len]
def okX (x:Int×Int):Prop:=okV x=true
theorem okX_run {n:Int} (h1:1≤n) (h2:n≤6):okX (3,n):=by
 unfold okX okV;rw [if_neg (show ¬(3:Int)=0 by decide),if_neg (show ¬(3:Int)=1 by decide),if_neg (show ¬(3:Int)=2 by decide),if_pos rfl,decide_eq_true h1,decide_eq_true h2];rfl
theorem okX_pos {x:Int×Int} (h:okX x) (e:x.1=3):1≤x.2:=by
 unfold okX okV at h;rw [if_neg (by omega),if_neg (by omega),if_neg (by omega),if_pos e,Bool.and_eq_true,decide_eq_true_eq] at h;exact h.1
structure CodeR (C:List OpD) (R:Nat→Prop):Prop where
 ok:∀p,R p→∃h:p<C.length,StepOk C.length C[p] p∧(C[p].k≠9→C[p].k≠14→R (p+1))∧(C[p].k=5∨C[p].k=8∨C[p].k=9∨C[p].k=10→∃t:Nat,C[p].to=t∧R t)∧okX (C[p].vk,C[p].vn)
structure RunI (R:Nat→Prop) (d:RunD):Prop where
 at_:∃p:Nat,d.pl=p∧R p
 sv:∀x∈d.slots,okX x
 mv:∀x∈d.mail,okX x
 why:okX (d.wk,d.wn)
structure PW.Inv (w:PW) (B:Nat) (R:Nat→Prop):Prop where
 wk:w.Wk B
 runs:∀d∈w.runs,RunI R d
theorem PW.Wk.mono {w:PW} {B B':Nat} (hw:w.Wk B) (h:B≤B'):w.Wk B':=⟨hw.runs,hw.q1,hw.q2,hw.place,hw.slots,hw.mail,fun d hd=>Nat.le_trans (hw.linksB d hd) h,fun d hd=>Nat.le_trans (hw.watB d hd) h,hw.links⟩
theorem CodeR.place {C:List OpD} {R:Nat→Prop} (c:CodeR C R) {d:RunD} (h:RunI R d):∃k:Nat,d.pl=k∧k<C.length:=by
 obtain⟨p,e,hp⟩:=h.at_;obtain⟨hl,_⟩:=c.ok p hp;exact⟨p,e,hl⟩
theorem PW.Wk.stay {w:PW} {B:Nat} (hw:w.Wk B) {i:Nat} (hi:i<w.runs.length) {y:RunD} (hs:y.st=w.runs[i].st):∀x∈w.queue,(x=(i:Int)+1∧y.st=1)∨(x∈w.queue∧x≠(i:Int)+1):=fun x hx=>by
 obtain⟨j,e2,d,hd,hs2⟩:=hw.q2 _ hx;by_cases e:x=(i:Int)+1
 ·have:i=j:=by omega
  subst this;rw [List.getElem?_eq_getElem hi] at hd
  cases hd
  exact .inl ⟨e,by rw [hs];exact hs2⟩
 ·exact .inr ⟨hx,e⟩
theorem PW.Inv.set {w:PW} {B:Nat} {R:Nat→Prop} (hw:w.Inv B R) (c:CodeR w.code R) (i:Nat) (hi:i<w.runs.length) (y:RunD) (q:List Int) (hq:q.Nodup) (hq2:∀x∈q,(x=(i:Int)+1∧y.st=1)∨(x∈w.queue∧x≠(i:Int)+1)) (h1:RunI R y) (h2:y.slots.length=4) (h3:y.mail.length≤12) (h4:y.links.length≤B) (h5:y.wat.length≤B) (h6:∀x∈y.links,1≤x∧x≤w.runs.length) (n s t u:Int) :
  PW.Inv ⟨w.code,w.runs.set i y,q,n,s,t,u⟩ B R :=
 ⟨hw.wk.set i hi y q hq hq2 (c.place h1) h2 h3 h4 h5 h6 n s t u,fun d hd=>by
  rcases mem_set' hd with rfl|hd
  ·exact h1
  ·exact hw.runs d hd⟩
theorem set_runs {R:Nat→Prop} {L:List RunD} {i:Nat} {y:RunD} (h:∀d∈L,RunI R d) (hy:RunI R y):∀d∈L.set i y,RunI R d:=fun d hd=>by
 rcases mem_set' hd with rfl|hd
 ·exact hy
 ·exact h d hd
theorem giveP_runs {w:PW} {R:Nat→Prop} (h:∀d∈w.runs,RunI R d) (id:Int) (v:Int×Int) (hv:okX v):∀d∈(giveP w id v).runs,RunI R d:=by
 unfold giveP
 split
 ·split
  ·rename_i d hd
   have hm:=List.mem_of_getElem? hd;have hd':=h d hm;have hmail:∀x∈d.mail++[v],okX x:=fun x hx=>by
    rcases List.mem_append.1 hx with hx|hx
    ·exact hd'.mv x hx
    ·rw [List.mem_singleton.1 hx];exact hv
   unfold giveAt
   split
   ·exact h
   ·split
    ·exact set_runs h ⟨hd'.at_,hd'.sv,hmail,hd'.why⟩
    ·exact set_runs h ⟨hd'.at_,hd'.sv,hmail,hd'.why⟩
  ·exact h
 ·exact h
theorem linkStep_runs {s:PW×List Int} {R:Nat→Prop} (h:∀d∈s.1.runs,RunI R d) (id:Int) (hid:okX (3,id)) (v:Int×Int) (k:Int):∀d∈(linkStep id v s k).1.runs,RunI R d:=by
 unfold linkStep
 split
 ·exact h
 ·rename_i d hd
  have hd':=h d (List.mem_of_getElem? hd);have h1:∀e∈s.1.runs.set (k-1).toNat { d with links:=lessP d.links id },RunI R e:=set_runs h ⟨hd'.at_,hd'.sv,hd'.mv,hd'.why⟩
  split
  ·exact h1
  ·split
   ·exact giveP_runs (w:={ s.1 with runs:=s.1.runs.set (k-1).toNat { d with links:=lessP d.links id } }) h1 _ _ hid
   ·exact h1
theorem links_runs {R:Nat→Prop} (id:Int) (hid:okX (3,id)) (v:Int×Int):∀(L:List Int) (s:PW×List Int),(∀d∈s.1.runs,RunI R d)→∀d∈(L.foldl (linkStep id v) s).1.runs,RunI R d
 |[],_,h=>h
 |_::L,_,h=>links_runs id hid v L _ (linkStep_runs h id hid v _)
theorem gives_runs {R:Nat→Prop} (v:Int×Int) (hv:okX v):∀(L:List Int) (w:PW),(∀d∈w.runs,RunI R d)→∀d∈(L.foldl (fun w k=>giveP w k v) w).runs,RunI R d
 |[],_,h=>h
 |_::L,_,h=>gives_runs v hv L _ (giveP_runs h _ _ hv)
theorem fallA_runs {w:PW} {R:Nat→Prop} (h:∀d∈w.runs,RunI R d) (i:Nat) (id:Int) (d:RunD) (hd:RunI R d) (v:Int×Int) (hv:okX v):∀e∈(fallA w i id d v).runs,RunI R e:=fun e he=>by
 obtain⟨f,hf,rfl⟩:=List.mem_map.1 he;have hy:RunI R (d.fall v):=⟨hd.at_,hd.sv,fun x hx=>(by have h2:x∈([]:List (Int×Int)):=hx;cases h2),hv⟩;have hf':RunI R f:=set_runs h hy f hf;exact⟨hf'.at_,hf'.sv,hf'.mv,hf'.why⟩
theorem oneP_runs {w:PW} {R:Nat→Prop} (h:∀d∈w.runs,RunI R d) (i:Nat) (id:Int) (hid:okX (3,id)) (d:RunD) (hd:RunI R d) (v:Int×Int) (hv:okX v):∀e∈(oneP w i id d v).1.runs,RunI R e :=
 gives_runs _ hid _ _ (links_runs id hid v _ _ (fallA_runs h i id d hd v hv))
theorem linkStep_code (s:PW×List Int) (id:Int) (v:Int×Int) (k:Int):(linkStep id v s k).1.code=s.1.code:=by
 unfold linkStep
 split
 ·rfl
 ·split
  ·rfl
  ·split
   ·exact(giveP_len _ _ _).2
   ·rfl
theorem links_code (id:Int) (v:Int×Int):∀(L:List Int) (s:PW×List Int),(L.foldl (linkStep id v) s).1.code=s.1.code
 |[],_=>rfl
 |_::L,_=>(links_code id v L _).trans (linkStep_code _ _ _ _)
theorem gives_code (v:Int×Int):∀(L:List Int) (w:PW),(L.foldl (fun w k=>giveP w k v) w).code=w.code
 |[],_=>rfl
 |_::L,_=>(gives_code v L _).trans (giveP_len _ _ _).2
theorem oneP_code (w:PW) (i:Nat) (id:Int) (d:RunD) (v:Int×Int):(oneP w i id d v).1.code=w.code :=
 (gives_code _ _ _).trans (links_code _ _ _ _)
theorem EndR.len {v:Int×Int} {w w':PW} {L:List Int} {B:Nat} (h:EndR v w L w'):w.Wk B→(∀x∈L,1≤x∧x≤(w.runs.length:Int))→w'.Wk B∧w'.code=w.code∧w'.runs.length=w.runs.length:=by
 induction h using EndR.ind with
 |nil w=>exact fun h _=>⟨h,rfl,rfl⟩
 |skip h1 h2 h3 ih=>exact fun h hL=>ih h fun x hx=>hL x (List.mem_cons_of_mem _ hx)
 |@one w w' k L d h1 h2 h3 ih =>
  intro h hL;obtain⟨hi,rfl⟩:=List.getElem?_eq_some_iff.1 h1;have hk:=hL k List.mem_cons_self;have hkk:(((k-1).toNat:Nat):Int)+1=k:=by omega
  have h4:=oneP_wk h (k-1).toNat hi v;rw [hkk] at h4;have h6:=ih h4.1 fun x hx=>by
   rw [h4.2.1];rcases List.mem_append.1 hx with hx|hx
   ·exact hL x (List.mem_cons_of_mem _ hx)
   ·exact h.links _ (List.getElem_mem hi) x (oneP_sub _ _ _ _ _ x hx)
  exact⟨h6.1,h6.2.1.trans (oneP_code _ _ _ _ _),h6.2.2.trans h4.2.1⟩
theorem EndR.inv {v:Int×Int} {w w':PW} {L:List Int} {B:Nat} {R:Nat→Prop} (hv:okX v) (h:EndR v w L w'):w.Inv B R→(∀x∈L,1≤x∧x≤(w.runs.length:Int))→w'.Inv B R∧w'.code=w.code∧w'.runs.length=w.runs.length:=by
 induction h using EndR.ind with
 |nil w=>exact fun h _=>⟨h,rfl,rfl⟩
 |skip h1 h2 h3 ih=>exact fun h hL=>ih h fun x hx=>hL x (List.mem_cons_of_mem _ hx)
 |@one w w' k L d h1 h2 h3 ih =>
  intro h hL;obtain⟨hi,rfl⟩:=List.getElem?_eq_some_iff.1 h1;have hk:=hL k List.mem_cons_self;have hkk:(((k-1).toNat:Nat):Int)+1=k:=by omega
  have h4:=oneP_wk h.wk (k-1).toNat hi v;rw [hkk] at h4;have h5:=oneP_runs h.runs (k-1).toNat k (okX_run hk.1 (by have:=h.wk.runs;omega)) w.runs[(k-1).toNat] (h.runs _ (List.getElem_mem hi)) v hv;have h6:=ih ⟨h4.1,h5⟩ fun x hx=>by
   rw [h4.2.1];rcases List.mem_append.1 hx with hx|hx
   ·exact hL x (List.mem_cons_of_mem _ hx)
   ·exact h.wk.links _ (List.getElem_mem hi) x (oneP_sub _ _ _ _ _ x hx)
  exact⟨h6.1,h6.2.1.trans (oneP_code _ _ _ _ _),h6.2.2.trans h4.2.1⟩
theorem mem_getD {L:List (Int×Int)} {k:Nat} (hk:k<L.length):L.getD k (0,0)∈L:=by
 rw [List.getD_eq_getElem?_getD,List.getElem?_eq_getElem hk];exact List.getElem_mem hk
theorem RunI.put {R:Nat→Prop} {d:RunD} (h:RunI R d) {p:Nat} (hp:d.pl=p) (hn:R (p+1)) (hb:p<1000) (k:Nat) (x:Int×Int) (hx:okX x):RunI R (d.put k x).next:=by
 refine⟨⟨p+1,?_,hn⟩,fun y hy=>?_,h.mv,h.why⟩
 ·show IntKind.i64.wrap (d.pl+1)=_;rw [hp,wrapN _ (by omega) (by omega)];omega
 ·rcases List.mem_or_eq_of_mem_set (show y∈d.slots.set k x from hy) with hy|rfl
  ·exact h.sv y hy
  ·exact hx
theorem setP_inv {w:PW} {B:Nat} {R:Nat→Prop} (hw:w.Inv B R) (c:CodeR w.code R) (i:Nat) (hi:i<w.runs.length) {p:Nat} (hp:w.runs[i].pl=p) (hn:R (p+1)) (hb:p<1000) (k:Nat) (x:Int×Int) (hx:okX x):PW.Inv { w with runs:=w.runs.set i ((w.runs[i].put k x).next) } B R:=by
 have hm:=List.getElem_mem hi;exact hw.set c i hi ((w.runs[i].put k x).next) _ hw.wk.q1 (hw.wk.stay hi rfl) ((hw.runs _ hm).put hp hn hb k x hx) (by show (w.runs[i].slots.set k x).length=4;rw [List.length_set];exact hw.wk.slots w.runs[i] hm) (hw.wk.mail w.runs[i] hm) (hw.wk.linksB w.runs[i] hm) (hw.wk.watB w.runs[i] hm) (hw.wk.links w.runs[i] hm) _ _ _ _
theorem waitP_inv {w:PW} {B:Nat} {R:Nat→Prop} (hw:w.Inv B R) (c:CodeR w.code R) (i:Nat) (hi:i<w.runs.length) (due:Int):PW.Inv (waitP w i ((i:Int)+1) w.runs[i] due) B R:=by
 have hm:=List.getElem_mem hi;exact hw.set c i hi { w.runs[i] with st:=2,due:=due } _ (lessP_nodup hw.wk.q1) (fun x hx=>.inr (mem_lessP.1 hx)) ⟨(hw.runs _ hm).at_,(hw.runs _ hm).sv,(hw.runs _ hm).mv,(hw.runs _ hm).why⟩ (hw.wk.slots w.runs[i] hm) (hw.wk.mail w.runs[i] hm) (hw.wk.linksB w.runs[i] hm) (hw.wk.watB w.runs[i] hm) (hw.wk.links w.runs[i] hm) _ _ _ _
theorem cut_mem {L:List (Int×Int)} {k:Nat} {x:Int×Int} (h:x∈cutP L k):x∈L:=by
 rcases List.mem_append.1 h with h|h
 ·exact List.mem_of_mem_take h
 ·exact List.mem_of_mem_drop h
theorem takeP_inv {w:PW} {B:Nat} {R:Nat→Prop} (hw:w.Inv B R) (c:CodeR w.code R) (i:Nat) (hi:i<w.runs.length) {p:Nat} (hp:w.runs[i].pl=p) (hb:p<1000) (o:OpD) (hn:R (p+1)) (ht:o.k≠7→∃t:Nat,o.to=t∧R t) (k:Nat):PW.Inv (takeP w i ((i:Int)+1) w.runs[i] o k) B R:=by
 have hm:=List.getElem_mem hi;have hri:=hw.runs _ hm;unfold takeP
 split
 ·rename_i h1
  have hcl:(cutP w.runs[i].mail (firstP w.runs[i].mail o.s).toNat).length≤12:=by
   have:=hw.wk.mail _ hm;unfold cutP;rw [List.length_append,List.length_take,List.length_drop];omega
  have hr2:RunI R { w.runs[i] with mail:=cutP w.runs[i].mail (firstP w.runs[i].mail o.s).toNat,due:=0 }:=⟨hri.at_,hri.sv,fun x hx=>hri.mv x (cut_mem hx),hri.why⟩;exact hw.set c i hi ((({ w.runs[i] with mail:=cutP w.runs[i].mail (firstP w.runs[i].mail o.s).toNat,due:=0 }:RunD).put k (w.runs[i].mail[(firstP w.runs[i].mail o.s).toNat]'h1.1)).next) _ hw.wk.q1 (hw.wk.stay hi rfl) (hr2.put hp hn hb k _ (hri.mv _ (List.getElem_mem h1.1))) (by show (w.runs[i].slots.set k _).length=4;rw [List.length_set];exact hw.wk.slots w.runs[i] hm) hcl (hw.wk.linksB w.runs[i] hm) (hw.wk.watB w.runs[i] hm) (hw.wk.links w.runs[i] hm) _ _ _ _
 ·split
  ·exact waitP_inv hw c i hi 0
  ·rename_i h7
   split
   ·exact hw.set c i hi { w.runs[i] with due:=0,pl:=o.to } _ hw.wk.q1 (hw.wk.stay hi rfl) ⟨ht (by simpa using h7),hri.sv,hri.mv,hri.why⟩ (hw.wk.slots w.runs[i] hm) (hw.wk.mail w.runs[i] hm) (hw.wk.linksB w.runs[i] hm) (hw.wk.watB w.runs[i] hm) (hw.wk.links w.runs[i] hm) _ _ _ _
   ·exact waitP_inv hw c i hi _
theorem okX_nil:okX (0,0):=rfl
theorem newD_ok {R:Nat→Prop} (id pl:Int) (v:Int×Int) (hp:∃t:Nat,pl=t∧R t) (hv:okX v):RunI R (newD id pl v):=by
 refine⟨hp,fun x hx=>?_,fun x hx=>(by have h2:x∈([]:List (Int×Int)):=hx;cases h2),okX_nil⟩;have h2:x∈[v,(0,0),(0,0),(0,0)]:=hx;simp only [List.mem_cons,List.not_mem_nil,or_false] at h2;rcases h2 with rfl|rfl|rfl|rfl
 ·exact hv
 all_goals exact okX_nil
theorem addR_inv {w:PW} {B:Nat} {R:Nat→Prop} (hw:w.Inv B R) (c:CodeR w.code R) (hl:w.runs.length+1≤6) (y:RunD) (hy:RunI R y) (hs:y.st=1) (h2:y.slots.length=4) (h3:y.mail=[]) (h4:y.links=[]) (h5:y.wat=[]):PW.Inv { w with runs:=w.runs++[y],queue:=w.queue++[(w.runs.length:Int)+1] } B R:=by
 have hnot:((w.runs.length:Int)+1)∉w.queue:=fun hx=>by
  obtain⟨j,e,d,hd,_⟩:=hw.wk.q2 _ hx;have:=(List.getElem?_eq_some_iff.1 hd).1;omega
 have cases2:∀{P:RunD→Prop},(∀d∈w.runs,P d)→P y→∀d∈w.runs++[y],P d:=fun h1 h2 d hd=>by
  rcases List.mem_append.1 hd with hd|hd
  ·exact h1 d hd
  ·rw [List.mem_singleton.1 hd];exact h2
 refine⟨⟨by simpa using hl,?_,?_,cases2 hw.wk.place (c.place hy),cases2 hw.wk.slots h2,cases2 hw.wk.mail (by rw [h3];exact Nat.zero_le _),cases2 hw.wk.linksB (by rw [h4];exact Nat.zero_le _),cases2 hw.wk.watB (by rw [h5];exact Nat.zero_le _),?_⟩,cases2 hw.runs hy⟩
 ·rw [List.nodup_append];refine⟨hw.wk.q1,by simp,fun a ha b hb=>?_⟩;rw [List.mem_singleton] at hb;subst hb;exact fun e=>hnot (e ▸ ha)
 ·intro x hx;rcases List.mem_append.1 hx with hx|hx
  ·obtain⟨j,e,d,hd,hs2⟩:=hw.wk.q2 _ hx;refine⟨j,e,d,?_,hs2⟩;show (w.runs++[y])[j]?=_;rw [List.getElem?_append_left (List.getElem?_eq_some_iff.1 hd).1];exact hd
  ·refine⟨w.runs.length,List.mem_singleton.1 hx,y,?_,hs⟩;show (w.runs++[y])[w.runs.length]?=_;simp
 ·show ∀d∈w.runs++[y],∀x∈d.links,1≤x∧x≤((w.runs++[y]).length:Int);refine cases2 (fun d hd x hx=>?_) (fun x hx=>by rw [h4] at hx;cases hx);have:=hw.wk.links d hd x hx;rw [List.length_append];simp;omega
theorem beginP_inv {w:PW} {B:Nat} {R:Nat→Prop} (hw:w.Inv B R) (c:CodeR w.code R) (i:Nat) (hi:i<w.runs.length) {p:Nat} (hp:w.runs[i].pl=p) (hb:p<1000) (o:OpD) (hn:R (p+1)) (ht:∃t:Nat,o.to=t∧R t) (k:Nat):PW.Inv (beginP w i ((i:Int)+1) w.runs[i] o k) B R:=by
 unfold beginP
 split
 ·exact setP_inv hw c i hi hp hn hb k (0,0) okX_nil
 ·rename_i h1
  have h2:=addR_inv hw c (by omega) (newD ((w.runs.length:Int)+1) o.to (3,(i:Int)+1)) (newD_ok _ _ _ ht (okX_run (by omega) (by omega))) rfl rfl rfl rfl rfl;have hi2:i<(w.runs++[newD ((w.runs.length:Int)+1) o.to (3,(i:Int)+1)]).length:=by rw [List.length_append];omega
  have hg:(w.runs++[newD ((w.runs.length:Int)+1) o.to (3,(i:Int)+1)])[i]=w.runs[i]:=List.getElem_append_left hi;have h3:=setP_inv h2 c i hi2 (by show (w.runs++_)[i].pl=_;rw [hg];exact hp) hn hb k (3,(w.runs.length:Int)+1) (okX_run (by omega) (by omega));have h4:({ w with runs:=(w.runs++[newD ((w.runs.length:Int)+1) o.to (3,(i:Int)+1)]).set i (((w.runs++[newD ((w.runs.length:Int)+1) o.to (3,(i:Int)+1)])[i].put k (3,(w.runs.length:Int)+1)).next),queue:=w.queue++[(w.runs.length:Int)+1] }:PW).Inv B R:=h3;rw [hg] at h4;exact h4
theorem PW.Inv.mono {w:PW} {B B':Nat} {R:Nat→Prop} (hw:w.Inv B R) (h:B≤B'):w.Inv B' R:=⟨hw.wk.mono h,hw.runs⟩
theorem giveP_inv {w:PW} {B:Nat} {R:Nat→Prop} (hw:w.Inv B R) (id:Int) (v:Int×Int) (hv:okX v):(giveP w id v).Inv B R:=⟨giveP_wk hw.wk id v,giveP_runs hw.runs id v hv⟩
theorem getD_at {L:List RunD} {j:Nat} (hj:j<L.length) (d:RunD):L.getD j d=L[j]:=by
 rw [List.getD_eq_getElem?_getD,List.getElem?_eq_getElem hj];rfl
theorem otherQ_inv {w:PW} {B:Nat} {R:Nat→Prop} (hw:w.Inv B R) (c:CodeR w.code R) (i:Nat) (hi:i<w.runs.length) (d:RunD) (hd:w.runs[i]=d.next) (o:OpD) (to sv:Int×Int) (h1:1≤to.2) (hto:okX to) (hsv:okX sv):(otherQ w i ((i:Int)+1) d o to sv).Inv (B+1) R:=by
 have hup:=hw.mono (Nat.le_succ B);unfold otherQ
 split
 ·exact giveP_inv hup _ _ hsv
 ·split
  ·exact giveP_inv hup _ _ hto
  ·split
   ·exact hup
   ·rename_i h2 h3
    have hne:to.2≠(i:Int)+1:=fun e=>h3 (by rw [e];simp)
    have hle:to.2≤(w.runs.length:Int):=by
     rcases Decidable.em (to.2≤(w.runs.length:Int)) with h|h
     ·exact h
     ·exact absurd (by rw [decide_eq_false h];simp) h3
    have hj:(to.2-1).toNat<w.runs.length:=by omega
    have hjm:=List.getElem_mem hj;have hrj:=hw.runs _ hjm;rw [getD_at hj]
    split
    ·exact hup.set c _ hj { w.runs[(to.2-1).toNat] with wat:=w.runs[(to.2-1).toNat].wat++[(i:Int)+1] } _ hw.wk.q1 (hw.wk.stay hj rfl) ⟨hrj.at_,hrj.sv,hrj.mv,hrj.why⟩ (hw.wk.slots w.runs[(to.2-1).toNat] hjm) (hw.wk.mail w.runs[(to.2-1).toNat] hjm) (hup.wk.linksB w.runs[(to.2-1).toNat] hjm) (by rw [List.length_append];exact Nat.add_le_add_right (hw.wk.watB w.runs[(to.2-1).toNat] hjm) 1) (hw.wk.links w.runs[(to.2-1).toNat] hjm) _ _ _ _
    ·split
     ·have him:=List.getElem_mem hi;have hri:=hw.runs _ him;have hdl:d.next.links=d.links:=rfl;have e1:d.links=w.runs[i].links:=by rw [hd];rfl
      have hA:=hup.set c i hi { w.runs[i] with links:=w.runs[i].links++[to.2] } _ hw.wk.q1 (hw.wk.stay hi rfl) ⟨hri.at_,hri.sv,hri.mv,hri.why⟩ (hw.wk.slots w.runs[i] him) (hw.wk.mail w.runs[i] him) (by rw [List.length_append];exact Nat.add_le_add_right (hw.wk.linksB w.runs[i] him) 1) (hup.wk.watB w.runs[i] him) (fun x hx=>by
       rcases List.mem_append.1 hx with hx|hx
       ·exact hw.wk.links w.runs[i] him x hx
       ·rw [List.mem_singleton.1 hx];exact⟨h1,hle⟩) w.now w.sent w.taken w.lost
      have hne2:i≠(to.2-1).toNat:=by omega
      have hj2:(to.2-1).toNat<(w.runs.set i { w.runs[i] with links:=w.runs[i].links++[to.2] }).length:=by rw [List.length_set];exact hj
      have hgj:(w.runs.set i { w.runs[i] with links:=w.runs[i].links++[to.2] })[(to.2-1).toNat]=w.runs[(to.2-1).toNat]:=List.getElem_set_ne hne2 _;have hB:=hA.set c (to.2-1).toNat hj2 { w.runs[(to.2-1).toNat] with links:=w.runs[(to.2-1).toNat].links++[(i:Int)+1] } _ hA.wk.q1 (hA.wk.stay hj2 (by show _=((w.runs.set i _)[(to.2-1).toNat]).st;rw [hgj])) ⟨hrj.at_,hrj.sv,hrj.mv,hrj.why⟩ (hw.wk.slots w.runs[(to.2-1).toNat] hjm) (hw.wk.mail w.runs[(to.2-1).toNat] hjm) (by rw [List.length_append];exact Nat.add_le_add_right (hw.wk.linksB w.runs[(to.2-1).toNat] hjm) 1) (hup.wk.watB w.runs[(to.2-1).toNat] hjm) (fun x hx=>by
       show 1≤x∧x≤((w.runs.set i _).length:Int);rw [List.length_set];rcases List.mem_append.1 hx with hx|hx
       ·exact hw.wk.links w.runs[(to.2-1).toNat] hjm x hx
       ·rw [List.mem_singleton.1 hx];omega) w.now w.sent w.taken w.lost
      rw [hd] at hB;exact hB
     ·exact hup
theorem next_run {R:Nat→Prop} {d:RunD} (h:RunI R d) {p:Nat} (hp:d.pl=p) (hn:R (p+1)) (hb:p<1000):RunI R d.next :=
 ⟨⟨p+1,by show IntKind.i64.wrap (d.pl+1)=_;rw [hp,wrapN _ (by omega) (by omega)];omega,hn⟩,h.sv,h.mv,h.why⟩
theorem otherP_inv {w:PW} {B:Nat} {R:Nat→Prop} (hw:w.Inv B R) (c:CodeR w.code R) (i:Nat) (hi:i<w.runs.length) {p:Nat} (hp:w.runs[i].pl=p) (hn:R (p+1)) (hb:p<1000) (o:OpD) (to sv:Int×Int) (h1:1≤to.2) (hto:okX to) (hsv:okX sv):(otherP w i ((i:Int)+1) w.runs[i] o to sv).Inv (B+1) R:=by
 have hm:=List.getElem_mem hi;have h2:=hw.set c i hi w.runs[i].next _ hw.wk.q1 (hw.wk.stay hi rfl) (next_run (hw.runs _ hm) hp hn hb) (hw.wk.slots w.runs[i] hm) (hw.wk.mail w.runs[i] hm) (hw.wk.linksB w.runs[i] hm) (hw.wk.watB w.runs[i] hm) (hw.wk.links w.runs[i] hm) w.now w.sent w.taken w.lost;exact otherQ_inv h2 c i (by show i<(w.runs.set i _).length;rw [List.length_set];exact hi) w.runs[i] (List.getElem_set_self _) o to sv h1 hto hsv
theorem addP_ok {a b s:Int×Int} (h:addP a b=some s):okX s:=by
 unfold addP at h
 split at h
 ·cases h
 ·split at h
  ·rename_i hk;cases h;exact hk
  ·cases h
theorem stepR_inv {w w':PW} {B:Nat} {R:Nat→Prop} (hw:w.Inv B R) (c:CodeR w.code R) (hC:w.code.length≤1000) (i:Nat) (hi:i<w.runs.length) (p:Nat) (hp:w.runs[i].pl=p) (hR:R p) (hlt:p<w.code.length) (h:stepR w i ((i:Int)+1) w.runs[i] w.code[p] w'):w'.Inv (B+1) R:=by
 have hm:=List.getElem_mem hi;have hri:=hw.runs _ hm;obtain⟨_,hso,hnx,htx,hvx⟩:=c.ok p hR;obtain⟨⟨k,hk,hk4⟩,⟨s,hs,hs4⟩,_⟩:=hso;have hb:p<1000:=by omega
 have hsl:=hw.wk.slots _ hm;have hrk:w.code[p].r.toNat<w.runs[i].slots.length:=by omega
 have hsk:w.code[p].s.toNat<w.runs[i].slots.length:=by omega
 have hxr:=hri.sv _ (mem_getD hrk);have hxs:=hri.sv _ (mem_getD hsk);have hup:=hw.mono (Nat.le_succ B);have hL:∀x∈[(i:Int)+1],1≤x∧x≤(w.runs.length:Int):=fun x hx=>by rw [List.mem_singleton.1 hx];omega
 unfold stepR at h;by_cases e:w.code[p].k=1
 ·rw [if_pos e] at h;rw [h];exact setP_inv hup c i hi hp (hnx (by omega) (by omega)) hb _ _ hvx
 rw [if_neg e] at h;have e1:=e;clear e;by_cases e:w.code[p].k=2
 ·rw [if_pos e] at h;rw [h];exact setP_inv hup c i hi hp (hnx (by omega) (by omega)) hb _ _ hxs
 rw [if_neg e] at h;have e2:=e;clear e;by_cases e:w.code[p].k=3
 ·rw [if_pos e] at h
  cases hv:addP (w.runs[i].slots.getD w.code[p].r.toNat (0,0)) (w.runs[i].slots.getD w.code[p].s.toNat (0,0)) with
  |some v=>rw [hv] at h;rw [h];exact setP_inv hup c i hi hp (hnx (by omega) (by omega)) hb _ _ (addP_ok hv)
  |none=>rw [hv] at h;exact(EndR.inv (show okX (2,1) from rfl) h hup hL).1
 rw [if_neg e] at h;have e3:=e;clear e;by_cases e:w.code[p].k=4
 ·rw [if_pos e] at h;rw [h];exact setP_inv hup c i hi hp (hnx (by omega) (by omega)) hb _ _ (okX_run (by omega) (by have:=hw.wk.runs;omega))
 rw [if_neg e] at h;have e4:=e;clear e;by_cases e:w.code[p].k=5
 ·rw [if_pos e] at h;rw [h];exact beginP_inv hup c i hi hp hb _ (hnx (by omega) (by omega)) (htx (.inl e)) _
 rw [if_neg e] at h;have e5:=e;clear e;by_cases e:w.code[p].k=7∨w.code[p].k=8
 ·rw [if_pos e] at h;rw [h];exact takeP_inv hup c i hi hp hb _ (hnx (by omega) (by omega)) (fun e7=>htx (.inr (.inl (by omega)))) _
 rw [if_neg e] at h;have e6:=e;clear e;by_cases e:w.code[p].k=9
 ·rw [if_pos e] at h;rw [h];exact hup.set c i hi { w.runs[i] with pl:=w.code[p].to } _ hw.wk.q1 (hw.wk.stay hi rfl) ⟨htx (.inr (.inr (.inl e))),hri.sv,hri.mv,hri.why⟩ (hw.wk.slots w.runs[i] hm) (hw.wk.mail w.runs[i] hm) (hup.wk.linksB w.runs[i] hm) (hup.wk.watB w.runs[i] hm) (hw.wk.links w.runs[i] hm) _ _ _ _
 rw [if_neg e] at h;have e7:=e;clear e;by_cases e:w.code[p].k=10
 ·rw [if_pos e] at h;rw [h];have hat:∃q:Nat,(if w.runs[i].slots.getD w.code[p].r.toNat (0,0)=(w.code[p].vk,w.code[p].vn) then w.code[p].to else wr (w.runs[i].pl+1))=(q:Int)∧R q:=by
   by_cases hq:w.runs[i].slots.getD w.code[p].r.toNat (0,0)=(w.code[p].vk,w.code[p].vn)
   ·rw [if_pos hq];exact htx (.inr (.inr (.inr e)))
   ·rw [if_neg hq];exact(next_run hri hp (hnx (by omega) (by omega)) hb).at_
  exact hup.set c i hi { w.runs[i] with pl:=if w.runs[i].slots.getD w.code[p].r.toNat (0,0)=(w.code[p].vk,w.code[p].vn) then w.code[p].to else wr (w.runs[i].pl+1) } _ hw.wk.q1 (hw.wk.stay hi rfl) ⟨hat,hri.sv,hri.mv,hri.why⟩ (hw.wk.slots w.runs[i] hm) (hw.wk.mail w.runs[i] hm) (hup.wk.linksB w.runs[i] hm) (hup.wk.watB w.runs[i] hm) (hw.wk.links w.runs[i] hm) _ _ _ _
 rw [if_neg e] at h;have e8:=e;clear e;by_cases e:w.code[p].k=13
 ·rw [if_pos e] at h;rw [h];exact hup.set c i hi { w.runs[i] with trap:=w.code[p].vn==1,pl:=wr (w.runs[i].pl+1) } _ hw.wk.q1 (hw.wk.stay hi rfl) ⟨(next_run hri hp (hnx (by omega) (by omega)) hb).at_,hri.sv,hri.mv,hri.why⟩ (hw.wk.slots w.runs[i] hm) (hw.wk.mail w.runs[i] hm) (hup.wk.linksB w.runs[i] hm) (hup.wk.watB w.runs[i] hm) (hw.wk.links w.runs[i] hm) _ _ _ _
 rw [if_neg e] at h;have e9:=e;clear e;by_cases e:w.code[p].k=14
 ·rw [if_pos e] at h;exact(EndR.inv hxr h hup hL).1
 rw [if_neg e] at h;have e10:=e;clear e;rcases h with⟨_,h⟩|⟨h3,h⟩
 ·exact(EndR.inv (show okX (2,2) from rfl) h hup hL).1
 ·rw [h];exact otherP_inv hw c i hi hp (hnx e7 e10) hb _ _ _ (okX_pos hxr h3) hxr hxs
end Go.Proofs.YtgmkmeodimmdoaaGreatDoor
